import Derived.Test.YtflcplnmeimbcaaLxParts
import Derived.Test.YtflcplnmeimbcaaLxStrs
import Derived.Lib.AppendStr
namespace Go.Proofs.Ytflcplnmeimbcaa.Lx
open Go.RowKit Go.Proofs.Ytflcplnmeimbcaa.Sp

/-- what may stand between two tokens -/
def fb (j : Nat) : ByteArray := ([⟨#[32]⟩, ⟨#[9]⟩, ⟨#[10]⟩, ⟨#[13, 10]⟩, ⟨#[32, 32, 9]⟩, ⟨#[32, 35, 32, 120, 32, 125, 32, 34, 10]⟩, ⟨#[35, 10]⟩] : List ByteArray).getD j ⟨#[32]⟩
theorem fb_fills (j : Nat) (h : j < 7) : Fills (tx (fb j)) := by
  apply fills_of
  rcases (show j = 0 ∨ j = 1 ∨ j = 2 ∨ j = 3 ∨ j = 4 ∨ j = 5 ∨ j = 6 by omega) with rfl | rfl | rfl | rfl | rfl | rfl | rfl <;> decide
theorem fb_size (j : Nat) (h : j < 7) : (fb j).size ≤ 9 := by
  rcases (show j = 0 ∨ j = 1 ∨ j = 2 ∨ j = 3 ∨ j = 4 ∨ j = 5 ∨ j = 6 by omega) with rfl | rfl | rfl | rfl | rfl | rfl | rfl <;> decide

set_option maxHeartbeats 1600000 in
theorem fills_any (z : Int) (w : World) : Calls Try.prog 21 #[.int .i64 z] w fun e w' => e = .returned (.string (fb (rnd z 7))) ∧ Below w.heap.size w w' := by
  have hr := rnd_lt z 7 (by omega)
  have HR : Hid (∀ W, Calls Try.prog 15 #[.int .i64 z, .int .i64 7] W fun e w' => e = .returned (.int .i64 (rnd z 7 : Nat)) ∧ w' = W) := fun W => round_any z 7 _ W (by omega) (by omega) (by omega)
  generalize rnd z 7 = j at *
  have HF : Hid (∀ (T : TypeId), (w.alloc (.cells #[.string ⟨#[32]⟩, .string ⟨#[9]⟩, .string ⟨#[10]⟩, .string ⟨#[13, 10]⟩, .string ⟨#[32, 32, 9]⟩, .string ⟨#[32, 35, 32, 120, 32, 125, 32, 34, 10]⟩, .string ⟨#[35, 10]⟩] T)).cell? ⟨w.heap.size, j, none⟩ = some (.string (fb j))) := fun T => by
    rcases (show j = 0 ∨ j = 1 ∨ j = 2 ∨ j = 3 ∨ j = 4 ∨ j = 5 ∨ j = 6 by omega) with rfl | rfl | rfl | rfl | rfl | rfl | rfl <;> simp [fb]
  have hf := HF.out 9
  generalize fb j = y at *
  clear HF
  go_enter Try.func21, Try.ntmps21
  go_wp2_with fail
  refine (HR.out _).mono ?_
  rintro e w' ⟨rfl, rfl⟩
  go_wp2
  go_ret
  exact ⟨rfl, (Below.refl _ w).alloc (Nat.le_refl _) _⟩

/-- append of a slice whose address may be none -/
theorem append_any {P : Program} (w : World) {ops : Array Oper} {rest : List Oper} {o : Oper} {a : Act} {Q : Exit → Act → World → Prop} (hgd : o.guard = none) (s x : Operand) (t : TypeId)
    (ho : o.op = .call { callee := .builtin .append, args := #[s, x], argTypes := #[t, t] })
    (base : Nat) (e : TypeId) (i : TypeInfo) (z : Value) (size bytes : Nat) (ht : P.underlying t = some (.slice e)) (hi : P.info? e = some i) (hz : i.zero = some z)
    (hsize : i.size = size) (hby : i.bytes = bytes) (hzs : z.cells.size = size) (hsz : 0 < size)
    (v : Value) (n : Nat) (xs : List Value) (hs : a.eval s = v) (hown : w.ownsRow base e size v n xs)
    (ao : Option Addr) (m c : Nat) (news : List Value) (hx : a.eval x = .slice ao m c) (hl : news.length = m * size) (hnone : ao = none → m = 0 ∧ c = 0) (hnews : ∀ ad, ao = some ad → ∀ j u, news[j]? = some u → w.cell? (ad.add j) = some u) (h1 : ∀ u ∈ news, u.oneCell' = true)
    (h63 : n + m ≤ maxLen) (hbytes : (n + m) * bytes ≤ 140737488355328) (hbase : base ≤ w.heap.size)
    (h : ∀ v' w', w'.ownsRow base e size v' (n + m) (xs ++ news) → w.grownBy w' v.ownBlock → wpList P ops Q rest (a.put o.dst v') w') : wpList P ops Q (o :: rest) a w := by
  cases ao with
  | some ad => exact wpList_append_own w hgd s x t ho base e i z size bytes ht hi hz hsize hby hzs hsz v n xs hs hown ad m c news hx hl (hnews ad rfl) h1 h63 hbytes hbase fun v' w' h2 h3 _ => h v' w' h2 h3
  | none =>
    obtain ⟨rfl, rfl⟩ := hnone rfl
    have he : news = [] := List.eq_nil_of_length_eq_zero (by simpa using hl)
    subst he
    refine wpList_plain hgd fun K hK' => ?_
    have hrun := run_append_owned_none (P := P) w base t o.type e i size ht hi v n xs hown
    unfold Oper.wp
    simp [execOp, ho, resolve, invoke, builtin, hs, hx, hrun, Result.andThen]
    exact hK' _ _ (by simpa using h v w (by simpa using hown) (World.grownBy.refl _ _))

/-- b[l:h], and what its address is -/
theorem cut_more {T : TypeId} (hT : Try.prog.underlying T = some (.slice 5)) (ao : Option Addr) (s : ByteArray) (cap l h : Nat) (hc : s.size ≤ cap) (hn : ao = none → cap = 0) (hlh : l ≤ h) (hh : h ≤ s.size) :
    ∃ A C, (∀ w, (Instr.slice T (.slice ao s.size cap) (some (.int .i64 (l : Int))) (some (.int .i64 (h : Int))) none).run Try.prog w = .ok (.slice A (h - l) C) w) ∧ (∀ w, IsBytes w ao s → IsBytes w A (s.extract l h)) ∧ (s.extract l h).size = h - l ∧ (A = none → h - l = 0 ∧ C = 0) := by
  have hE : Try.prog.elem T = 5 := by simp [Program.elem, hT]
  have hT' : Try.prog.underlying T = some (.slice (Try.prog.elem T)) := by rw [hE]; exact hT
  have hz : (s.extract l h).size = h - l := by simp [ByteArray.size_extract]; omega
  refine ⟨if cap = l then ao else ao.map (·.add l), cap - l, fun w => ?_, fun w hb => ?_, hz, fun e => ?_⟩
  · have h1 := run_slice_lh (P := Try.prog) w T ao s.size cap hT' .i64 .i64 (l : Int) (h : Int) (by omega) (by omega) (by omega)
    rw [hE, size5] at h1
    rw [h1]
    simp only [Result.andThen, sliced, Int.toNat_natCast, Nat.mul_one]
  · by_cases e : cap = l
    · intro i hi
      omega
    · rw [if_neg e]
      exact hb.cut hlh hh
  · have : ao = none := by
      split at e
      · exact e
      · cases ao with
        | none => rfl
        | some => cases e
    have := hn this
    omega
theorem IsBytes.news {w : World} {ao : Option Addr} {u : ByteArray} (h : IsBytes w ao u) : ∀ ad, ao = some ad → ∀ j x, (Lib.byteCells u.data.toList)[j]? = some x → w.cell? (ad.add j) = some x := by
  intro ad e j x hx
  have hj : j < u.size := by
    have := (List.getElem?_eq_some_iff.1 hx).1
    rw [Lib.byteCells_length] at this
    simpa using this
  obtain ⟨g, o, e2, _, hc⟩ := h j hj
  rw [e2] at e
  cases e
  rw [Lib.addr_add, hc, ← hx]
  unfold Lib.byteCells
  rw [List.getElem?_map, byte_at u j hj, nb_get u j hj]
  rfl
end Go.Proofs.Ytflcplnmeimbcaa.Lx
