import Derived.Test.YtenhjebiokegkaaNmMap
import Derived.Test.YtenhjebiokegkaaNmSmall
import Derived.Test.YtenhjebiokegkaaTrChk
namespace Go.Proofs.Ytenhjebiokegkaa.Nm
open Go.RowKit Go.Maps Go.Proofs.Ytenhjebiokegkaa.Sp Go.Proofs.Ytenhjebiokegkaa.Lx Go.Proofs.Ytenhjebiokegkaa.Gr

/-- only blocks of F have turned -/
structure Fr (F : List Nat) (w w' : World) : Prop where
  os : w'.os = w.os
  tape : w'.tape = w.tape
  output : w'.output = w.output
  size : w.heap.size ≤ w'.heap.size
  block : ∀ k, k < w.heap.size → k ∉ F → w'.heap[k]? = w.heap[k]?
theorem Fr.refl (F : List Nat) (w : World) : Fr F w w := ⟨rfl, rfl, rfl, Nat.le_refl _, fun _ _ _ => rfl⟩
theorem Fr.of_below {F : List Nat} {w w' : World} (h : Below w.heap.size w w') : Fr F w w' := ⟨h.os, h.tape, h.output, h.size, fun k hk _ => h.block k hk⟩
theorem Fr.trans {F F' : List Nat} {a b c : World} (h : Fr F a b) (k : Fr F' b c) (hF : ∀ x ∈ F', x ∈ F ∨ a.heap.size ≤ x) : Fr F a c :=
  ⟨k.os.trans h.os, k.tape.trans h.tape, k.output.trans h.output, Nat.le_trans h.size k.size, fun x hx hn => (k.block x (Nat.lt_of_lt_of_le hx h.size) (fun hm => (hF x hm).elim hn (fun h => by omega))).trans (h.block x hx hn)⟩
theorem Fr.grown {w w' : World} {b : Nat} (h : w.grownBy w' (some b)) : Fr [b] w w' := ⟨h.os, h.tape, h.output, h.size, fun k hk hn => h.block k hk (fun e => hn (by cases e; simp))⟩
theorem Fr.set {F : List Nat} (w : World) {g : Nat} (i : Nat) (v : Value) (hg : g ∈ F) : Fr F w (w.setCell ⟨g, i, none⟩ v) :=
  ⟨rfl, rfl, rfl, by simp [World.setCell], fun k _ hn => Below.heap_setCell w _ v k (fun e => hn (by rw [e]; exact hg))⟩
abbrev rv (x : Rz) : Value := .agg #[.int .i64 x.kind, .string x.name, .int .i64 x.stop, .int .i64 x.n, .int .i64 x.kids]
/-- rows in a block of their own -/
def Rw (w : World) (rb : Nat) (l : List Rz) : Prop := ∃ cs, w.heap[rb]? = some (.cells cs 27 (0, 0)) ∧ ∀ (i : Nat) (x : Rz), l[i]? = some x →
  cs[i * 5]? = some (.int .i64 x.kind) ∧ cs[i * 5 + 1]? = some (.string x.name) ∧ cs[i * 5 + 2]? = some (.int .i64 x.stop) ∧ cs[i * 5 + 3]? = some (.int .i64 x.n) ∧ cs[i * 5 + 4]? = some (.int .i64 x.kids)
section
variable {w w' : World} {rb i : Nat} {l : List Rz} {x : Rz}
theorem Rw.lt (h : Rw w rb l) : rb < w.heap.size := by
  obtain ⟨cs, h1, _⟩ := h
  exact (Array.getElem?_eq_some_iff.1 h1).1
theorem Rw.same (h : Rw w rb l) (hb : w'.heap[rb]? = w.heap[rb]?) : Rw w' rb l := by
  obtain ⟨cs, h1, h2⟩ := h
  exact ⟨cs, hb.trans h1, h2⟩
theorem Rw.cells (h : Rw w rb l) (hx : l[i]? = some x) : w.cell? ⟨rb, i * 5, none⟩ = some (.int .i64 x.kind) ∧ w.cell? ⟨rb, i * 5 + 1, none⟩ = some (.string x.name) ∧ w.cell? ⟨rb, i * 5 + 2, none⟩ = some (.int .i64 x.stop) ∧ w.cell? ⟨rb, i * 5 + 3, none⟩ = some (.int .i64 x.n) ∧ w.cell? ⟨rb, i * 5 + 4, none⟩ = some (.int .i64 x.kids) ∧ ∀ j, w.frozen? ⟨rb, j, none⟩ = false := by
  obtain ⟨cs, h1, h2⟩ := h
  obtain ⟨a0, a1, a2, a3, a4⟩ := h2 i x hx
  exact ⟨by simp [World.cell?, h1, a0], by simp [World.cell?, h1, a1], by simp [World.cell?, h1, a2], by simp [World.cell?, h1, a3], by simp [World.cell?, h1, a4], fun j => by simp [World.frozen?, h1]⟩
theorem Rw.rz (h : Rw w rb l) : IsRz w (some ⟨rb, 0, none⟩) l := fun i x hx => by
  obtain ⟨a0, a1, a2, a3, a4, _⟩ := h.cells hx
  exact ⟨rb, 0, rfl, h.lt, by rw [Nat.zero_add]; exact a0, by rw [Nat.zero_add]; exact a1, by rw [Nat.zero_add]; exact a2, by rw [Nat.zero_add]; exact a3, by rw [Nat.zero_add]; exact a4⟩
/-- a row's number is written -/
theorem Rw.setN (h : Rw w rb l) (hx : l[i]? = some x) (n : Int) : Rw (w.setCell ⟨rb, i * 5 + 3, none⟩ (.int .i64 n)) rb (l.set i { x with n := n }) := by
  obtain ⟨cs, h1, h2⟩ := h
  refine ⟨cs.setIfInBounds (i * 5 + 3) (.int .i64 n), heap_setCell_same w rb (i * 5 + 3) cs 27 _ h1, fun j y hy => ?_⟩
  rw [List.getElem?_set] at hy
  have hin := (List.getElem?_eq_some_iff.1 hx).1
  by_cases e : i = j
  · subst e
    rw [if_pos rfl, if_pos hin] at hy
    cases hy
    obtain ⟨a0, a1, a2, a3, a4⟩ := h2 i x hx
    have hs := (Array.getElem?_eq_some_iff.1 a3).1
    simp only [Array.getElem?_setIfInBounds]
    refine ⟨by rw [if_neg (by omega)]; exact a0, by rw [if_neg (by omega)]; exact a1, by rw [if_neg (by omega)]; exact a2, by simp [hs], by rw [if_neg (by omega)]; exact a4⟩
  · rw [if_neg e] at hy
    obtain ⟨a0, a1, a2, a3, a4⟩ := h2 j y hy
    simp only [Array.getElem?_setIfInBounds]
    exact ⟨by rw [if_neg (by omega)]; exact a0, by rw [if_neg (by omega)]; exact a1, by rw [if_neg (by omega)]; exact a2, by rw [if_neg (by omega)]; exact a3, by rw [if_neg (by omega)]; exact a4⟩
end
theorem box_cell {W : World} {b : Nat} {v : Value} {T : TypeId} (h : W.heap[b]? = some (.cells #[v] T (0, 0))) : W.cell? ⟨b, 0, none⟩ = some v ∧ W.frozen? ⟨b, 0, none⟩ = false := ⟨by simp [World.cell?, h], by simp [World.frozen?, h]⟩
/-- whose event a row is -/
def evt (x : Rz) : Nat × Int := if x.kind = 8 ∨ x.kind = 9 then (1, x.n) else if x.kind = 10 then (5, 0) else (0, 0)
set_option maxHeartbeats 1600000 in
theorem event_any (x : Rz) (w : World) : Calls Try.prog 39 #[rv x] w fun e w' => e = .returned (.agg #[.int .i64 ((evt x).1 : Nat), .int .i64 (evt x).2]) ∧ Below w.heap.size w w' := by
  have HE : Hid (evt x = if x.kind = 8 ∨ x.kind = 9 then (1, x.n) else if x.kind = 10 then (5, 0) else (0, 0)) := rfl
  generalize evt x = z at *
  obtain ⟨kd, nm, st, n, ks⟩ := x
  dsimp only at *
  have h0 : ((w.alloc (.cells #[.int .i64 kd, .string nm, .int .i64 st, .int .i64 n, .int .i64 ks] 27)).alloc (.cells #[.int .i64 0, .int .i64 0] 71)).heap[w.heap.size]? = some (.cells #[.int .i64 kd, .string nm, .int .i64 st, .int .i64 n, .int .i64 ks] 27 (0, 0)) := (Below.heap_alloc _ _ _ (by simp)).trans (heap_alloc_new w _)
  have HQ : Hid (∀ A B : Value, Below w.heap.size w ((w.alloc (.cells #[.int .i64 kd, .string nm, .int .i64 st, .int .i64 n, .int .i64 ks] 27)).alloc (.cells #[A, B] 71)) ∧ ((w.alloc (.cells #[.int .i64 kd, .string nm, .int .i64 st, .int .i64 n, .int .i64 ks] 27)).alloc (.cells #[A, B] 71)).cell? ⟨w.heap.size + 1, 0, none⟩ = some A ∧ ((w.alloc (.cells #[.int .i64 kd, .string nm, .int .i64 st, .int .i64 n, .int .i64 ks] 27)).alloc (.cells #[A, B] 71)).cell? ⟨w.heap.size + 1, 1, none⟩ = some B) := fun A B => by
    have := heap_alloc_new (w.alloc (.cells #[.int .i64 kd, .string nm, .int .i64 st, .int .i64 n, .int .i64 ks] 27)) (.cells #[A, B] 71)
    rw [World.size_alloc] at this
    exact ⟨((Below.refl _ w).alloc (Nat.le_refl _) _).alloc (by simp) _, by rw [World.cell?, this]; rfl, by rw [World.cell?, this]; rfl⟩
  have c0 : ((w.alloc (.cells #[.int .i64 kd, .string nm, .int .i64 st, .int .i64 n, .int .i64 ks] 27)).alloc (.cells #[.int .i64 0, .int .i64 0] 71)).cell? ⟨w.heap.size, 0, none⟩ = some (.int .i64 kd) := by simp only [World.cell?, h0]; rfl
  have c3 : ((w.alloc (.cells #[.int .i64 kd, .string nm, .int .i64 st, .int .i64 n, .int .i64 ks] 27)).alloc (.cells #[.int .i64 0, .int .i64 0] 71)).cell? ⟨w.heap.size, 3, none⟩ = some (.int .i64 n) := by simp only [World.cell?, h0]; rfl
  clear h0
  go_enter Try.func39, Try.ntmps39
  go_wp2_with fail
  · obtain ⟨b1, q0, q1⟩ := HQ.out (.int .i64 1) (.int .i64 n)
    exact bodyPost_ret (v := .agg #[.int .i64 1, .int .i64 n]) (by simp [results, Try.results39, go_sem, q0, q1]) rfl ⟨by rw [HE.out]; simp_all, b1⟩
  · obtain ⟨b1, q0, q1⟩ := HQ.out (.int .i64 1) (.int .i64 n)
    exact bodyPost_ret (v := .agg #[.int .i64 1, .int .i64 n]) (by simp [results, Try.results39, go_sem, q0, q1]) rfl ⟨by rw [HE.out]; simp_all, b1⟩
  · obtain ⟨b1, q0, q1⟩ := HQ.out (.int .i64 5) (.int .i64 0)
    exact bodyPost_ret (v := .agg #[.int .i64 5, .int .i64 0]) (by simp [results, Try.results39, go_sem, q0, q1]) rfl ⟨by rw [HE.out]; simp_all, b1⟩
  · obtain ⟨b1, q0, q1⟩ := HQ.out (.int .i64 0) (.int .i64 0)
    exact bodyPost_ret (v := .agg #[.int .i64 0, .int .i64 0]) (by simp [results, Try.results39, go_sem, q0, q1]) rfl ⟨by rw [HE.out]; simp_all, b1⟩
end Go.Proofs.Ytenhjebiokegkaa.Nm
