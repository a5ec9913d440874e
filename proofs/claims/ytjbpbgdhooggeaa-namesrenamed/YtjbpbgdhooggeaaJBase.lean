import Derived.Test.YtjbpbgdhooggeaaRows
import Derived.Test.YtjbpbgdhooggeaaJPure
import Derived.WalkKit
import Derived.WalkSpells
import Derived.WalkLawsBesides
import Derived.Deep.QuietTactic
import Derived.BigQuiet
import Derived.Deep.LoopGhost
import Derived.Lib.BufferWrite
import Derived.Laws.MakeOwn
import Derived.Laws.CopyOwn
import Derived.Laws.OwnMore
import Derived.Deep.RegionLaw
namespace Go.Proofs.Ytjbpbgdhooggeaa.Lx
open Go.RowKit Go.Proofs.Ytjbpbgdhooggeaa.Sp

/-- the slice at ao holds the bytes of s (as many as it has) -/
def IsBytes (w : World) (ao : Option Addr) (s : ByteArray) : Prop := ∀ i, i < s.size → ∃ g o, ao = some ⟨g, o, none⟩ ∧ g < w.heap.size ∧ w.cell? ⟨g, o + i, none⟩ = some (.int .u8 (nb s i : Nat))
theorem IsBytes.below {w w' : World} {ao : Option Addr} {s : ByteArray} (h : IsBytes w ao s) (hb : Below w.heap.size w w') : IsBytes w' ao s := by
  intro i hi
  obtain ⟨g, o, e, hg, hc⟩ := h i hi
  exact ⟨g, o, e, Nat.lt_of_lt_of_le hg hb.size, (hb.cell (p := ⟨g, o + i, none⟩) hg).trans hc⟩
theorem IsBytes.drewN {w : World} {ao : Option Addr} {s : ByteArray} (h : IsBytes w ao s) (n : Nat) : IsBytes (w.drewN n) ao s := by
  intro i hi
  obtain ⟨g, o, e, hg, hc⟩ := h i hi
  exact ⟨g, o, e, hg, hc⟩
theorem below_drewN (w : World) (n : Nat) : Below w.heap.size w (w.drewN n) := by
  induction n with
  | zero => exact Below.refl _ _
  | succ n ih => exact ih.drew

theorem nb_lt (s : ByteArray) (k : Nat) : nb s k ≤ 255 := by
  have h1 := nb_bt s k
  have h2 := bt_bd s k
  omega
theorem nb_get (s : ByteArray) (i : Nat) (h : i < s.size) : nb s i = s[i].toNat := by
  unfold nb tx
  have e : s.data.toList[i]? = some s[i] := byte_at s i h
  simp only [List.getD, List.getElem?_map, e, Option.map_some, Option.getD_some]

theorem info5 : (Try.prog.info? 5).map (fun i => (i.zero, i.size, i.bytes)) = some (some (.int .u8 0), 1, 1) := by kernel_rfl
theorem size5 (w : World) : (Go.sizeOf 5).run Try.prog w = .ok 1 w := by
  obtain ⟨i0, hi, hz0, hz1, hz2⟩ := info_parts info5
  simp [Go.sizeOf, typeInfo, hi, hz1]
theorem elem67 : Try.prog.elem 67 = 5 := by simp [Program.elem, Try.underlying67]
theorem elem99 : Try.prog.elem 99 = 5 := by simp [Program.elem, Try.underlying99]

theorem empty_of_size {s : ByteArray} (h : s.size = 0) : s = ByteArray.empty := by
  apply ByteArray.ext
  exact Array.eq_empty_of_size_eq_zero h
theorem conv_none {T : TypeId} (hT : Try.prog.underlying T = some (.slice 5)) (ao : Option Addr) (cap : Nat) (w : World) : (convert T 9 (.slice ao 0 cap)).run Try.prog w = .ok (.string ByteArray.empty) w := by
  rw [run_convert_bytes_string w T 9 5 ao 0 cap hT Try.underlying5 Try.underlying9]
  cases ao with
  | none => simp [Conv.bytesToString]
  | some a =>
    have hl : (loadCells a 0).run Try.prog w = .ok (([] : List Int).map (Value.int .u8)).toArray w := run_loadCells_list (P := Try.prog) w a [] (fun j v h => by simp at h)
    rw [run_bytesToString w a 0 cap [] hl]
    rfl
theorem conv_any {T : TypeId} (hT : Try.prog.underlying T = some (.slice 5)) (ao : Option Addr) (s : ByteArray) (cap : Nat) (w : World) (h : IsBytes w ao s) : (convert T 9 (.slice ao s.size cap)).run Try.prog w = .ok (.string s) w := by
  by_cases h0 : s.size = 0
  · rw [h0, conv_none hT, empty_of_size h0]
  · obtain ⟨g, o, rfl, _, _⟩ := h 0 (by omega)
    refine Lib.run_convert_whole (P := Try.prog) w T 5 9 hT Try.underlying5 Try.underlying9 g o s (fun i hi => ?_) cap
    obtain ⟨g', o', e, _, hc⟩ := h i hi
    simp at e
    obtain ⟨rfl, rfl⟩ := e
    rw [hc, nb_get s i hi]

/-- b[l:h] of a slice -/
theorem IsBytes.cut {w : World} {ao : Option Addr} {s : ByteArray} (hb : IsBytes w ao s) {l h : Nat} (hlh : l ≤ h) (hh : h ≤ s.size) : IsBytes w (ao.map (·.add l)) (s.extract l h) := by
  intro i hi
  have hz : (s.extract l h).size = h - l := by simp [ByteArray.size_extract]; omega
  obtain ⟨g, o, rfl, hg, hc⟩ := hb (l + i) (by omega)
  refine ⟨g, o + l, by simp [Lib.addr_add], hg, ?_⟩
  rw [show o + l + i = o + (l + i) by omega, hc]
  congr 3
  rw [nb_get _ _ (by omega), nb_get _ _ (by omega)]
  congr 1
  rw [ByteArray.getElem_extract]
theorem cut_any {T : TypeId} (hT : Try.prog.underlying T = some (.slice 5)) (ao : Option Addr) (s : ByteArray) (cap l h : Nat) (hc : s.size ≤ cap) (hlh : l ≤ h) (hh : h ≤ s.size) :
    ∃ A C, (∀ w, (Instr.slice T (.slice ao s.size cap) (some (.int .i64 (l : Int))) (some (.int .i64 (h : Int))) none).run Try.prog w = .ok (.slice A (h - l) C) w) ∧ (∀ w, IsBytes w ao s → IsBytes w A (s.extract l h)) ∧ h - l ≤ C ∧ (s.extract l h).size = h - l := by
  have hE : Try.prog.elem T = 5 := by simp [Program.elem, hT]
  have hT' : Try.prog.underlying T = some (.slice (Try.prog.elem T)) := by rw [hE]; exact hT
  have hz : (s.extract l h).size = h - l := by simp [ByteArray.size_extract]; omega
  refine ⟨if cap = l then ao else ao.map (·.add l), cap - l, fun w => ?_, fun w hb => ?_, ?_, hz⟩
  · have h1 := run_slice_lh (P := Try.prog) w T ao s.size cap hT' .i64 .i64 (l : Int) (h : Int) (by omega) (by omega) (by omega)
    rw [hE, size5] at h1
    rw [h1]
    simp only [Result.andThen, sliced, Int.toNat_natCast, Nat.mul_one]
  · by_cases e : cap = l
    · intro i hi
      omega
    · rw [if_neg e]
      exact hb.cut hlh hh
  · omega
theorem front_any {T : TypeId} (hT : Try.prog.underlying T = some (.slice 5)) (ao : Option Addr) (n cap h : Nat) (hh : h ≤ cap) (w : World) :
    (Instr.slice T (.slice ao n cap) none (some (.int .i64 (h : Int))) none).run Try.prog w = .ok (.slice ao h cap) w := by
  have hE : Try.prog.elem T = 5 := by simp [Program.elem, hT]
  have hT' : Try.prog.underlying T = some (.slice (Try.prog.elem T)) := by rw [hE]; exact hT
  have h1 := run_slice_h (P := Try.prog) w T ao n cap hT' .i64 (h : Int) (by omega) (by omega)
  rw [hE, size5] at h1
  rw [h1]
  simp only [Result.andThen, sliced, Int.toNat_natCast, Nat.sub_zero, Nat.zero_mul]
  have e : Option.map (fun x => Addr.add x 0) ao = ao := by cases ao <;> simp [Addr.add]
  rw [e]
  split <;> rfl
theorem IsBytes.front {w : World} {ao : Option Addr} {s : ByteArray} (hb : IsBytes w ao s) (h : Nat) (hh : h ≤ s.size) : IsBytes w ao (s.extract 0 h) := by
  have hz : (s.extract 0 h).size = h := by simp [ByteArray.size_extract]; omega
  intro i hi
  obtain ⟨g, o, rfl, hg, hc⟩ := hb i (by omega)
  refine ⟨g, o, rfl, hg, ?_⟩
  rw [hc, nb_get _ _ (by omega), nb_get _ _ (by omega), ByteArray.getElem_extract]
  simp
theorem tx_extract (s : ByteArray) (l h : Nat) : tx (s.extract l h) = ((tx s).drop l).take (h - l) := by
  unfold tx
  rw [Lib.extract_data, List.map_take, List.map_drop]

theorem ret_b {a b : Bool} (h : a = b) : Ending.returned (.bool a) = .returned (.bool b) := by rw [h]
theorem ret_i {k : IntKind} {a b : Int} (h : a = b) : Ending.returned (.int k a) = .returned (.int k b) := by rw [h]
end Go.Proofs.Ytjbpbgdhooggeaa.Lx

namespace Go.Proofs.Ytjbpbgdhooggeaa.Nm
open Go.RowKit Go.Proofs.Ytjbpbgdhooggeaa.Sp Go.Proofs.Ytjbpbgdhooggeaa.Lx

/-- of what kind a thing is that a row declares (1 queue, 2 var, 3 tag, 4 rule; 0 none) -/
def decl (k : Int) : Nat := if k = 2 ∨ k = 3 then 1 else if k = 4 then 2 else if k = 5 then 3 else if k = 7 then 4 else 0
/-- of what kind the thing is that a row names -/
def nmd (k : Int) : Nat :=
  if k = 8 ∨ k = 9 ∨ k = 16 ∨ k = 17 ∨ k = 21 ∨ k = 19 ∨ k = 20 ∨ k = 24 ∨ k = 26 ∨ k = 31 ∨ k = 32 ∨ k = 35 ∨ k = 36 ∨ k = 37 then 1
  else if k = 14 ∨ k = 28 then 2 else if k = 15 ∨ k = 38 then 3 else if k = 22 then 4 else 0
def mst (k : Nat) : Nat := if k = 1 then 16 else if k = 2 then 16 else if k = 3 then 4 else if k = 4 then 64 else 0
theorem nmd_le (k : Int) : nmd k ≤ 4 := by
  unfold nmd
  repeat' split
  all_goals omega
theorem decl_le (k : Int) : decl k ≤ 4 := by
  unfold decl
  repeat' split
  all_goals omega
set_option maxHeartbeats 1600000 in
theorem declared_any (k : Int) (w : World) : Calls Try.prog 37 #[.int .i64 k] w fun e w' => e = .returned (.int .i64 (decl k : Nat)) ∧ w' = w := by
  have HD : Hid (decl k = if k = 2 ∨ k = 3 then 1 else if k = 4 then 2 else if k = 5 then 3 else if k = 7 then 4 else 0) := rfl
  generalize decl k = z at *
  go_enter Try.func37, Try.ntmps37
  go_wp2
  all_goals
    go_ret
    refine ⟨?_, rfl⟩
    rw [HD.out]
    simp_all
set_option maxHeartbeats 3200000 in
theorem named_any (k : Int) (w : World) : Calls Try.prog 41 #[.int .i64 k] w fun e w' => e = .returned (.int .i64 (nmd k : Nat)) ∧ w' = w := by
  have HD : Hid (nmd k = if k = 8 ∨ k = 9 ∨ k = 16 ∨ k = 17 ∨ k = 21 ∨ k = 19 ∨ k = 20 ∨ k = 24 ∨ k = 26 ∨ k = 31 ∨ k = 32 ∨ k = 35 ∨ k = 36 ∨ k = 37 then 1 else if k = 14 ∨ k = 28 then 2 else if k = 15 ∨ k = 38 then 3 else if k = 22 then 4 else 0) := rfl
  generalize nmd k = z at *
  go_enter Try.func41, Try.ntmps41
  go_wp2
  all_goals
    go_ret
    refine ⟨?_, rfl⟩
    rw [HD.out]
    simp_all
/-- sums up to MaxSum -/
def pls (a b : Nat) : Nat := min a (4611686018427387904 - b) + b
set_option maxHeartbeats 800000 in
theorem plus_any (a b : Nat) (ha : a ≤ 4611686018427387904) (hb : b ≤ 4611686018427387904) (w : World) : Calls Try.prog 45 #[.int .i64 a, .int .i64 b] w fun e w' => e = .returned (.int .i64 (pls a b : Nat)) ∧ w' = w := by
  have h1 : (a : Int) ≤ 4611686018427387904 := by omega
  have h2 : (b : Int) ≤ 4611686018427387904 := by omega
  have HP : Hid ((pls a b : Int) = min (a : Int) (4611686018427387904 - (b : Int)) + b) := by
    show _ = _
    unfold pls
    omega
  go_enter Try.func45, Try.ntmps45
  go_wp2
  all_goals
    go_ret
    refine ⟨?_, rfl⟩
    rw [HP.out]
    first | rfl | simp
theorem pls_le (a b : Nat) (hb : b ≤ 4611686018427387904) : pls a b ≤ 4611686018427387904 := by unfold pls; omega
end Go.Proofs.Ytjbpbgdhooggeaa.Nm

namespace Go.Proofs.Ytjbpbgdhooggeaa.Lx
open Go.RowKit Go.Proofs.Ytjbpbgdhooggeaa.Sp

/-- an append either stays in its block, or leaves all blocks as they were -/
theorem run_append_keep {P : Program} (w : World) (base : Nat) (t ty e : TypeId) (i : TypeInfo) (z : Value) (size bytes : Nat) (ht : P.underlying t = some (.slice e)) (hi : P.info? e = some i) (hz : i.zero = some z)
    (hsize : i.size = size) (hby : i.bytes = bytes) (hzs : z.cells.size = size) (hsz : 0 < size)
    (v : Value) (n : Nat) (xs : List Value) (hown : w.ownsRow base e size v n xs)
    (a : Addr) (m c : Nat) (news : List Value) (hl : news.length = m * size) (hnews : ∀ j u, news[j]? = some u → w.cell? (a.add j) = some u) (h1 : ∀ u ∈ news, u.oneCell' = true)
    (h63 : n + m ≤ maxLen) (hbytes : (n + m) * bytes ≤ 140737488355328) (hbase : base ≤ w.heap.size) (hm : 0 < m) :
    ∃ v' w', (Builtin.append_ #[t, t] ty #[v, .slice (some a) m c]).run P w = .ok v' w' ∧ w'.ownsRow base e size v' (n + m) (xs ++ news) ∧ w.grownBy w' v.ownBlock ∧
      ((∃ g, v.ownBlock = some g ∧ v'.ownBlock = some g) ∨ ((∀ k, k < w.heap.size → w'.heap[k]? = w.heap[k]?) ∧ ∀ g, v'.ownBlock = some g → w.heap.size ≤ g)) := by
  obtain ⟨v', w', hr, h2, h3, _⟩ := run_append_own (P := P) w base t ty e i z size bytes ht hi hz hsize hby hzs hsz v n xs hown a m c news hl hnews h1 h63 hbytes hbase
  refine ⟨v', w', hr, h2, h3, ?_⟩
  subst hsize
  subst hby
  have hsmall : n + m ≤ 9223372036854775807 := by simp only [maxLen] at h63; omega
  rcases hown.2 with ⟨rfl, rfl⟩ | ⟨g, cap, cur, rfl, hbg, hg, hnc, hcm, hcs, htake⟩
  · right
    have hr2 := run_append_nil (P := P) w t ty e i z ht hi hz a m c news hl hnews (by omega) (by omega) (by have hb := hbytes; simp only [Nat.zero_add] at hb; omega)
    rw [hr2] at hr
    cases hr
    refine ⟨fun k hk => Below.heap_alloc w.drew _ k hk, fun g hg => ?_⟩
    simp only [Value.ownBlock, Option.some.injEq] at hg
    omega
  · by_cases hroom : n + m ≤ cap
    · left
      have hfit : n * i.size + news.length ≤ cur.size := by rw [hl, hcs, ← Nat.add_mul]; exact Nat.mul_le_mul_right _ hroom
      have hr2 := run_append_room (P := P) w t ty e i ht hi g n cap cur hg a m c news hl hnews h1 hroom hfit
      rw [hr2] at hr
      cases hr
      exact ⟨g, rfl, rfl⟩
    · right
      have holds : ∀ j u, xs[j]? = some u → w.cell? ((⟨g, 0, none⟩ : Addr).add j) = some u := hown.cells (g := g) rfl
      have hr2 := run_append_grow (P := P) w t ty e i z ht hi hz ⟨g, 0, none⟩ n cap xs hown.1 holds a m c news hl hnews (by omega) (by omega) (growslice_fits (by omega) hbytes)
      rw [hr2] at hr
      cases hr
      refine ⟨fun k hk => Below.heap_alloc w.drew _ k hk, fun g hg => ?_⟩
      simp only [Value.ownBlock, Option.some.injEq] at hg
      omega

theorem append_keep {P : Program} (w : World) {ops : Array Oper} {rest : List Oper} {o : Oper} {a : Act} {Q : Exit → Act → World → Prop} (hgd : o.guard = none) (s x : Operand) (t : TypeId)
    (ho : o.op = .call { callee := .builtin .append, args := #[s, x], argTypes := #[t, t] })
    (base : Nat) (e : TypeId) (i : TypeInfo) (z : Value) (size bytes : Nat) (ht : P.underlying t = some (.slice e)) (hi : P.info? e = some i) (hz : i.zero = some z)
    (hsize : i.size = size) (hby : i.bytes = bytes) (hzs : z.cells.size = size) (hsz : 0 < size)
    (v : Value) (n : Nat) (xs : List Value) (hs : a.eval s = v) (hown : w.ownsRow base e size v n xs)
    (ad : Addr) (m c : Nat) (news : List Value) (hx : a.eval x = .slice (some ad) m c) (hl : news.length = m * size) (hnews : ∀ j u, news[j]? = some u → w.cell? (ad.add j) = some u) (h1 : ∀ u ∈ news, u.oneCell' = true)
    (h63 : n + m ≤ maxLen) (hbytes : (n + m) * bytes ≤ 140737488355328) (hbase : base ≤ w.heap.size) (hm : 0 < m)
    (h : ∀ v' w', w'.ownsRow base e size v' (n + m) (xs ++ news) → w.grownBy w' v.ownBlock → ((∃ g, v.ownBlock = some g ∧ v'.ownBlock = some g) ∨ ((∀ k, k < w.heap.size → w'.heap[k]? = w.heap[k]?) ∧ ∀ g, v'.ownBlock = some g → w.heap.size ≤ g)) → wpList P ops Q rest (a.put o.dst v') w') : wpList P ops Q (o :: rest) a w := by
  refine wpList_plain hgd fun K hK => ?_
  obtain ⟨v', w', hr, h2, h3, h4⟩ := run_append_keep (P := P) w base t o.type e i z size bytes ht hi hz hsize hby hzs hsz v n xs hown ad m c news hl hnews h1 h63 hbytes hbase hm
  unfold Oper.wp execOp
  simp only [ho, resolve, invoke, builtin, Sem.run_bind, Sem.run_pure, Result.andThen_ok, List.map_toArray, List.map_cons, List.map_nil, hs, hx, hr]
  exact hK _ _ (h v' w' h2 h3 h4)
end Go.Proofs.Ytjbpbgdhooggeaa.Lx

namespace Go.Proofs.Ytjbpbgdhooggeaa.Gr
open Go.RowKit Go.Proofs.Ytjbpbgdhooggeaa.Sp Go.Proofs.Ytjbpbgdhooggeaa.Lx

theorem info40 : (Try.prog.info? 40).map (fun i => (i.zero, i.size, i.bytes)) = some (some (.agg #[.int .i64 0, .string ⟨#[]⟩, .int .i64 0, .int .i64 0, .int .i64 0]), 5, 48) := by kernel_rfl
theorem info3 : (Try.prog.info? 3).map (fun i => (i.zero, i.size, i.bytes)) = some (some (.int .i64 0), 1, 8) := by kernel_rfl

theorem own_below {w w' : World} {base : Nat} {e : TypeId} {size : Nat} {v : Value} {n : Nat} {xs : List Value} (h : w.ownsRow base e size v n xs) (hb : Below w.heap.size w w') : w'.ownsRow base e size v n xs := by
  refine World.ownsRow.kept h (row := none) ⟨hb.os, hb.tape, hb.output, hb.size, fun k hk _ => hb.block k hk⟩ ?_
  cases v.ownBlock with
  | none => exact Or.inl rfl
  | some k => exact Or.inr (by simp)
/-- where an append has gone -/
def Gone (w : World) (v : Value) (w' : World) (v' : Value) : Prop :=
  w.grownBy w' v.ownBlock ∧ ((∃ g, v.ownBlock = some g ∧ v'.ownBlock = some g) ∨ ((∀ k, k < w.heap.size → w'.heap[k]? = w.heap[k]?) ∧ ∀ g, v'.ownBlock = some g → w.heap.size ≤ g))
theorem Gone.own {w w' : World} {v v' : Value} (h : Gone w v w' v') : v'.ownBlock = v.ownBlock ∨ ∀ k, v'.ownBlock = some k → w.heap.size ≤ k := by
  rcases h.2 with ⟨g, h1, h2⟩ | ⟨_, h2⟩
  · exact Or.inl (h2.trans h1.symm)
  · exact Or.inr h2
theorem Gone.size {w w' : World} {v v' : Value} (h : Gone w v w' v') : w.heap.size ≤ w'.heap.size := h.1.size

theorem append_gone {P : Program} (w : World) {ops : Array Oper} {rest : List Oper} {o : Oper} {a : Act} {Q : Exit → Act → World → Prop} (hgd : o.guard = none) (s x : Operand) (t : TypeId)
    (ho : o.op = .call { callee := .builtin .append, args := #[s, x], argTypes := #[t, t] })
    (base : Nat) (e : TypeId) (i : TypeInfo) (z : Value) (size bytes : Nat) (ht : P.underlying t = some (.slice e)) (hi : P.info? e = some i) (hz : i.zero = some z)
    (hsize : i.size = size) (hby : i.bytes = bytes) (hzs : z.cells.size = size) (hsz : 0 < size)
    (v : Value) (n : Nat) (xs : List Value) (hs : a.eval s = v) (hown : w.ownsRow base e size v n xs)
    (ad : Addr) (m c : Nat) (news : List Value) (hx : a.eval x = .slice (some ad) m c) (hl : news.length = m * size) (hnews : ∀ j u, news[j]? = some u → w.cell? (ad.add j) = some u) (h1 : ∀ u ∈ news, u.oneCell' = true)
    (h63 : n + m ≤ maxLen) (hbytes : (n + m) * bytes ≤ 140737488355328) (hbase : base ≤ w.heap.size) (hm : 0 < m)
    (h : ∀ v' w', w'.ownsRow base e size v' (n + m) (xs ++ news) → Gone w v w' v' → wpList P ops Q rest (a.put o.dst v') w') : wpList P ops Q (o :: rest) a w :=
  append_keep w hgd s x t ho base e i z size bytes ht hi hz hsize hby hzs hsz v n xs hs hown ad m c news hx hl hnews h1 h63 hbytes hbase hm fun v' w' h1 h2 h3 => h v' w' h1 ⟨h2, h3⟩

/-- the same, as one step of a region that draws -/
theorem step_gone {P : Program} (w : World) {ops : Array Oper} {o : Oper} {a : Act} {K : Act → World → Prop} {Q : Exit → Act → World → Prop} {E : Prop} (hgd : o.guard = none) (s x : Operand) (t : TypeId)
    (ho : o.op = .call { callee := .builtin .append, args := #[s, x], argTypes := #[t, t] })
    (base : Nat) (e : TypeId) (i : TypeInfo) (z : Value) (size bytes : Nat) (ht : P.underlying t = some (.slice e)) (hi : P.info? e = some i) (hz : i.zero = some z)
    (hsize : i.size = size) (hby : i.bytes = bytes) (hzs : z.cells.size = size) (hsz : 0 < size)
    (v : Value) (n : Nat) (xs : List Value) (hs : a.eval s = v) (hown : w.ownsRow base e size v n xs)
    (ad : Addr) (m c : Nat) (news : List Value) (hx : a.eval x = .slice (some ad) m c) (hl : news.length = m * size) (hnews : ∀ j u, news[j]? = some u → w.cell? (ad.add j) = some u) (h1 : ∀ u ∈ news, u.oneCell' = true)
    (h63 : n + m ≤ maxLen) (hbytes : (n + m) * bytes ≤ 140737488355328) (hbase : base ≤ w.heap.size) (hm : 0 < m)
    (h : ∀ v' w', w'.ownsRow base e size v' (n + m) (xs ++ news) → Gone w v w' v' → K (a.put o.dst v') w') : if Region.wanted o (yielded ops a.tmps) = true then Oper.wp P o a w K Q else E := by
  have hw : Region.wanted o (yielded ops a.tmps) = true := by simp [Region.wanted, hgd]
  rw [if_pos hw]
  obtain ⟨v', w', hr, h2, h3, h4⟩ := run_append_keep (P := P) w base t o.type e i z size bytes ht hi hz hsize hby hzs hsz v n xs hown ad m c news hl hnews h1 h63 hbytes hbase hm
  unfold Oper.wp execOp
  simp only [ho, resolve, invoke, builtin, Sem.run_bind, Sem.run_pure, Result.andThen_ok, List.map_toArray, List.map_cons, List.map_nil, hs, hx, hr]
  exact h v' w' h2 ⟨h3, h4⟩

theorem cell_five (w : World) (T : TypeId) (a b c d f : Value) : ∀ j u, [a, b, c, d, f][j]? = some u → (w.alloc (.cells #[a, b, c, d, f] T)).cell? ((⟨w.heap.size, 0, none⟩ : Addr).add j) = some u := by
  intro j u h
  have := Lib.cells_of_row (heap_alloc_new w (.cells #[a, b, c, d, f] T)) 5 j u (by simpa using h)
  exact this
theorem cell_one (w : World) (T : TypeId) (a : Value) : ∀ j u, [a][j]? = some u → (w.alloc (.cells #[a] T)).cell? ((⟨w.heap.size, 0, none⟩ : Addr).add j) = some u := by
  intro j u h
  have := Lib.cells_of_row (heap_alloc_new w (.cells #[a] T)) 1 j u (by simpa using h)
  exact this

theorem own_form {w : World} {base : Nat} {e : TypeId} {size : Nat} {v : Value} {n : Nat} {xs : List Value} (h : w.ownsRow base e size v n xs) : ∃ bo bc, v = .slice bo n bc := by
  rcases h.2 with ⟨rfl, h0⟩ | ⟨g, cap, cur, rfl, _⟩
  · exact ⟨none, 0, by rw [h0]⟩
  · exact ⟨_, _, rfl⟩

/-- an owned row that has elements, its block -/
theorem own_block {w : World} {base : Nat} {e : TypeId} {size : Nat} {v : Value} {n : Nat} {xs : List Value} (h : w.ownsRow base e size v n xs) (hn : 0 < n) : ∃ g cap cur, v = .slice (some ⟨g, 0, none⟩) n cap ∧ base ≤ g ∧ w.heap[g]? = some (.cells (List.toArray cur) e (0, 0)) ∧ n ≤ cap ∧ cap ≤ maxLen ∧ cur.length = cap * size ∧ cur.take (n * size) = xs := by
  rcases h.2 with ⟨_, h0⟩ | ⟨g, cap, cur, h1, h2, h3, h4, h5, h6, h7⟩
  · omega
  · exact ⟨g, cap, cur.toList, h1, h2, by simpa using h3, h4, h5, by simpa using h6, h7⟩
theorem own_mk {w : World} {base : Nat} {e : TypeId} {size n g cap : Nat} {cur xs : List Value} (hx : xs.length = n * size) (h2 : base ≤ g) (h3 : w.heap[g]? = some (.cells cur.toArray e (0, 0))) (h4 : n ≤ cap) (h5 : cap ≤ maxLen) (h6 : cur.length = cap * size) (h7 : cur.take (n * size) = xs) :
    w.ownsRow base e size (.slice (some ⟨g, 0, none⟩) n cap) n xs := ⟨hx, Or.inr ⟨g, cap, cur.toArray, rfl, h2, h3, h4, h5, by simpa using h6, by simpa using h7⟩⟩
theorem own_grown {w w' : World} {base : Nat} {e : TypeId} {size : Nat} {v : Value} {n : Nat} {xs : List Value} {o : Option Nat} (h : w.ownsRow base e size v n xs) (hg : w.grownBy w' o) (hne : ∀ k, v.ownBlock = some k → o ≠ some k) : w'.ownsRow base e size v n xs := by
  refine World.ownsRow.kept h hg ?_
  cases hv : v.ownBlock with
  | none => exact Or.inl rfl
  | some k => exact Or.inr fun e => hne k hv e.symm

end Go.Proofs.Ytjbpbgdhooggeaa.Gr

namespace Go.Proofs.Ytjbpbgdhooggeaa.Gr
open Go.RowKit Go.Proofs.Ytjbpbgdhooggeaa.Sp Go.Proofs.Ytjbpbgdhooggeaa.Lx

/-- the rule of a kind -/
def ruleOf (k : Int) : Nat :=
  if k = 54 then 1 else if k = 53 then 2 else if k = 47 ∨ k = 48 ∨ k = 49 ∨ k = 50 ∨ k = 51 ∨ k = 52 then 3
  else if k = 45 ∨ k = 46 then 4 else if k = 43 ∨ k = 44 then 5 else if k = 41 ∨ k = 42 then 6 else 7
/-- how many kids a kind has at the least, at the most -/
def least (k : Int) : Nat :=
  if k = 1 ∨ k = 11 then 0 else if k = 20 then 0
  else if k = 5 ∨ k = 6 ∨ k = 7 ∨ k = 8 ∨ k = 9 ∨ k = 10 ∨ k = 14 ∨ k = 19 ∨ k = 38 ∨ k = 41 ∨ k = 42 then 1
  else if k = 12 then 2 else if k = 15 ∨ k = 39 ∨ k = 40 then 2 else if k = 4 ∨ k = 13 then 3 else if ruleOf k < 6 then 2 else 0
def greatest (k : Int) : Int :=
  if k = 1 ∨ k = 11 then 9223372036854775807 else if k = 20 then 1
  else if k = 5 ∨ k = 6 ∨ k = 7 ∨ k = 8 ∨ k = 9 ∨ k = 10 ∨ k = 14 ∨ k = 19 ∨ k = 38 ∨ k = 41 ∨ k = 42 then 1
  else if k = 12 then 3 else if k = 15 ∨ k = 39 ∨ k = 40 then 2 else if k = 4 ∨ k = 13 then 3 else if ruleOf k < 6 then 2 else 0

set_option maxHeartbeats 4000000 in
set_option maxRecDepth 100000 in
theorem ruleOf_any (k : Int) (w : World) : Calls Try.prog 67 #[.int .i64 k] w fun e w' => e = .returned (.int .i64 (ruleOf k : Nat)) ∧ w' = w := by
  go_enter Try.func67, Try.ntmps67
  go_wp2
  all_goals go_ret
  all_goals refine ⟨?_, rfl⟩
  all_goals simp only [beq_iff_eq, beq_eq_false_iff_ne, ne_eq] at *
  all_goals simp [ruleOf, *]

set_option maxHeartbeats 4000000 in
set_option maxRecDepth 100000 in
theorem kidsOf_any (k : Int) (w : World) : Calls Try.prog 62 #[.int .i64 k] w fun e w' => e = .returned (.tuple #[.int .i64 (least k : Nat), .int .i64 (greatest k)]) ∧ w' = w := by
  by_cases hr : ruleOf k < 6
  · have hr2 : decide ((ruleOf k : Int) < 6) = true := by simp; omega
    have HR : Hid (ruleOf k < 6) := hr
    clear hr
    go_enter Try.func62, Try.ntmps62
    go_wp2_with (go_at_call 67; refine (ruleOf_any _ _).mono ?_; rintro e w' ⟨rfl, rfl⟩)
    all_goals go_ret2
    all_goals refine ⟨?_, rfl⟩
    all_goals simp only [beq_iff_eq, beq_eq_false_iff_ne, ne_eq] at *
    all_goals simp [least, greatest, HR.out, *]
  · have hr2 : decide ((ruleOf k : Int) < 6) = false := by simp; omega
    have HR : Hid (¬ ruleOf k < 6) := hr
    clear hr
    go_enter Try.func62, Try.ntmps62
    go_wp2_with (go_at_call 67; refine (ruleOf_any _ _).mono ?_; rintro e w' ⟨rfl, rfl⟩)
    all_goals go_ret2
    all_goals refine ⟨?_, rfl⟩
    all_goals simp only [beq_iff_eq, beq_eq_false_iff_ne, ne_eq] at *
    all_goals simp [least, greatest, HR.out, *]
end Go.Proofs.Ytjbpbgdhooggeaa.Gr

namespace Go.Proofs.Ytjbpbgdhooggeaa.Gr
open Go.RowKit Go.Proofs.Ytjbpbgdhooggeaa.Sp Go.Proofs.Ytjbpbgdhooggeaa.Lx

def loose (p k d : Int) : Bool :=
  if ruleOf p = 7 then false else if ruleOf p = 6 ∨ ruleOf d ≠ ruleOf p then decide (ruleOf d < ruleOf p) else (k == 1 || ruleOf d == 3)
/-- the reference's -/
def rank (k : Int) : Nat :=
  if k = 54 then 1 else if k = 53 then 2 else if 47 ≤ k ∧ k ≤ 52 then 3 else if k = 45 ∨ k = 46 then 4 else if k = 43 ∨ k = 44 then 5 else if k = 41 ∨ k = 42 then 6 else if 27 ≤ k ∧ k ≤ 54 then 7 else 0
def refLoose (p k d : Int) : Bool :=
  if rank p = 0 ∨ rank d = 0 ∨ rank p = 7 then false else if rank p = 6 then decide (rank d < 6) else (decide (rank d < rank p) || (rank d == rank p && (k == 1 || rank p == 3)))
theorem rank_rule (k : Int) : (rank k = ruleOf k ∧ 1 ≤ ruleOf k ∧ ruleOf k ≤ 7) ∨ (rank k = 0 ∧ ruleOf k = 7) := by
  unfold rank ruleOf
  repeat' split
  all_goals omega
theorem loose_same (p k d : Int) : refLoose p k d = loose p k d := by
  unfold refLoose loose
  rcases rank_rule p with ⟨h1, h2, h3⟩ | ⟨h1, h2⟩ <;> rcases rank_rule d with ⟨g1, g2, g3⟩ | ⟨g1, g2⟩
  · rw [h1, g1]
    generalize ruleOf p = a at *
    generalize ruleOf d = b at *
    by_cases a7 : a = 7
    · simp [a7]
    · by_cases a6 : a = 6
      · subst a6; simp; omega
      · rw [if_neg (by omega), if_neg a6, if_neg a7]
        by_cases hab : b = a
        · subst hab
          simp
          omega
        · rw [if_pos (Or.inr hab)]
          simp [hab]
  · rw [g1, g2]
    generalize ruleOf p = a at *
    by_cases a7 : a = 7
    · simp [a7]
    · rw [if_pos (Or.inr (Or.inl rfl)), if_neg a7, if_pos (Or.inr (by omega))]
      symm
      rw [decide_eq_false_iff_not]
      omega
  · rw [h1, h2]; simp
  · rw [h1, h2]; simp

set_option maxHeartbeats 1600000 in
set_option maxRecDepth 100000 in
theorem loose_any (p k d : Int) (w : World) : Calls Try.prog 52 #[.int .i64 p, .int .i64 k, .int .i64 d] w fun e w' => e = .returned (.bool (loose p k d)) ∧ w' = w := by
  have HL : Hid (loose p k d = if ruleOf p = 7 then false else if ruleOf p = 6 ∨ ruleOf d ≠ ruleOf p then decide (ruleOf d < ruleOf p) else (k == 1 || ruleOf d == 3)) := rfl
  have H1 : Hid (∀ w, Calls Try.prog 67 #[.int .i64 p] w fun e w' => e = .returned (.int .i64 (ruleOf p : Nat)) ∧ w' = w) := fun w => ruleOf_any p w
  have H2 : Hid (∀ w, Calls Try.prog 67 #[.int .i64 d] w fun e w' => e = .returned (.int .i64 (ruleOf d : Nat)) ∧ w' = w) := fun w => ruleOf_any d w
  generalize loose p k d = res at *
  generalize ruleOf p = a at *
  generalize ruleOf d = b at *
  go_enter Try.func52, Try.ntmps52
  go_wp2_with fail
  refine (H1.out _).mono ?_
  rintro e w' ⟨rfl, rfl⟩
  go_wp2_with fail
  refine (H2.out _).mono ?_
  rintro e w' ⟨rfl, rfl⟩
  go_wp2
  all_goals go_ret
  all_goals refine ⟨congrArg (fun b => Ending.returned (Value.bool b)) ?_, rfl⟩
  all_goals rw [HL.out]
  all_goals simp only [beq_iff_eq, beq_eq_false_iff_ne, bne_iff_ne, bne_eq_false_iff_eq, ne_eq] at *
  · rw [if_pos (by omega)]
  · rw [if_neg (by omega), if_pos (by omega)]
    rw [decide_eq_decide]; omega
  · rw [if_neg (by omega), if_pos (by omega)]
  · rw [if_neg (by omega), if_neg (by omega)]
    simp
    omega
  · rw [if_neg (by omega), if_neg (by omega)]
    have e3 : ((b : Int) == 3) = (b == 3) := by rw [Bool.eq_iff_iff]; simp; omega
    first | rw [e3] | (subst_vars; simp_all)

end Go.Proofs.Ytjbpbgdhooggeaa.Gr
