import Derived.Test.YtoeioppmlnognaaArNodes
namespace Go.Proofs.Ytoeioppmlnognaa.Ar
open Go.RowKit Go.Shelf

attribute [local go_sem] Oper.semAt_some

def lsF (pre : List (Nat × Int)) : List Value := pre.flatMap fun x => [I (x.1 : Nat), I x.2]
theorem lsF_len (pre : List (Nat × Int)) : (lsF pre).length = 2 * pre.length := by
  induction pre with
  | nil => rfl
  | cons x t ih =>
    have e : lsF (x :: t) = I (x.1 : Nat) :: I x.2 :: lsF t := rfl
    rw [e, List.length_cons, List.length_cons, ih, List.length_cons]
    omega
theorem lsF_snoc (pre : List (Nat × Int)) (x : Nat × Int) : lsF (pre ++ [x]) = lsF pre ++ [I (x.1 : Nat), I x.2] := by simp [lsF]
theorem lsF_at {d : List (Nat × Int)} {j : Nat} {x : Nat × Int} (h : d[j]? = some x) : (lsF d)[2 * j]? = some (I (x.1 : Nat)) ∧ (lsF d)[2 * j + 1]? = some (I x.2) := by
  induction d generalizing j with
  | nil => simp at h
  | cons y t ih =>
    have e : lsF (y :: t) = I (y.1 : Nat) :: I y.2 :: lsF t := rfl
    rw [e]
    cases j with
    | zero =>
      simp at h
      subst h
      exact ⟨rfl, rfl⟩
    | succ j =>
      simp at h
      obtain ⟨h1, h2⟩ := ih h
      have e1 : 2 * (j + 1) = 2 * j + 1 + 1 := by omega
      rw [e1]
      simp only [List.getElem?_cons_succ]
      exact ⟨h1, h2⟩
theorem cell_two (w : World) (T : TypeId) (a b : Value) : ∀ j u, [a, b][j]? = some u → (w.alloc (.cells #[a, b] T)).cell? ((⟨w.heap.size, 0, none⟩ : Addr).add j) = some u := by
  intro j u h
  have := Lib.cells_of_row (heap_alloc_new w (.cells #[a, b] T)) 2 j u (by simpa using h)
  exact this

set_option maxRecDepth 100000 in
set_option maxHeartbeats 6400000 in
theorem listed_any {w : World} {g : Nat} {o : Lo} {a : As} (h : IsAr w g o a) (l e : Int) : Calls Try.prog 27 #[.pointer (some ⟨g, 0, none⟩), I l, I e] w fun r w' => ∃ v, r = .returned v ∧ w'.ownsRow w.heap.size 3 1 v (2 * (a.seq l e).length) (lsF ((a.seq l e).map fun x => (x, a.val x))) ∧ Below w.heap.size w w' := by
  have hb1 : Below w.heap.size w (w.alloc (.cells #[.slice none 0 0] 31)) := (Below.refl _ w).alloc (Nat.le_refl _) _
  have HA := show Hid _ from all_seq (h.below hb1) l e
  have HB1 := show Hid _ from hb1
  have hnil : ∀ (cp : Array Value) (u : World), (binOp BinOp.eql 57 (.func (.func 59) #[] cp) .nilFunc).run Try.prog u = .ok (.bool false) u := fun _ _ => rfl
  obtain ⟨j0, hj, hj0, hj1, hj2⟩ := info_parts info3
  have HL : Hid ((a.seq l e).length ≤ 4194304) := h.seq_len l e
  clear h hb1
  refine (callsIn_wide (n := 5)).1 ?_
  refine callsIn_of_wp_marks Try.func27 rfl trivial ?_ rfl
  simp only [Try.ntmps27, List.size_toArray, List.length_cons, List.length_nil, Nat.reduceAdd, Nat.reduceSub, Array.replicate_succ, Array.replicate_zero, List.push_toArray, List.append_toArray, List.nil_append, List.cons_append]
  gi_wp2
  refine ⟨trivial, (callsIn_wide.2 HA.out).mono ?_⟩
  rintro r w2 ⟨q, rfl, hq, hS, hB2⟩
  have HQ := show Hid _ from And.intro hq (And.intro hS hB2)
  clear hq hS hB2
  gi_wp2
  have hz1 : (w.alloc (.cells #[.slice none 0 0] 31)).heap.size = w.heap.size + 1 := by simp
  have hz2 : w.heap.size + 1 ≤ w2.heap.size := by have := HQ.out.2.2.size; rw [hz1] at this; exact this
  have hS1 : ∀ k ∈ q.S, k < w2.heap.size ∧ k ≠ w.heap.size := fun k hk => ⟨HQ.out.1.lt k hk, by have := HQ.out.2.1 k hk; rw [hz1] at this; omega⟩
  have hI0 : Nd w w2.heap.size w.heap.size lsF [] w2 := ⟨.slice none 0 0, (HQ.out.2.2.block w.heap.size (by rw [hz1]; omega)).trans (heap_alloc_new w _), ⟨rfl, Or.inl ⟨rfl, rfl⟩⟩, HB1.out.trans (HQ.out.2.2.mono (by rw [hz1]; omega)), Nat.le_refl _⟩
  have HS1 := show Hid _ from hS1
  refine wpIn_rangeFunc_ownG rfl (by omega) (gf := 59) (lb := #[.pointer (some ⟨q.A, 0, none⟩), .pointer (some ⟨q.B, 0, none⟩)]) rfl trivial (enters_of Try.func59 (by kernel_rfl) rfl)
    (seq_stops Fence.wide 4 trivial rfl (by omega) q _ w2 HQ.out.1) Kq.trans (Kq.put (fun k hk => (HS1.out k hk).1)) (Below.refl _ _) (fun _ => rfl)
    (Nd w w2.heap.size w.heap.size lsF) (fun _ _ _ => False) (Nd.from (by omega)) (fun _ _ _ _ _ hs _ _ => hs.elim) hI0
    (fun x => { tmps := #[.pointer (some ⟨g, 0, none⟩), I l, I e, undef, undef, undef, .slice none 0 0, .pointer (some ⟨w.heap.size, 0, none⟩), .func (.func 59) #[] #[.pointer (some ⟨q.A, 0, none⟩), .pointer (some ⟨q.B, 0, none⟩)], I (x.1 : Nat), I x.2, .pointer (some ⟨g, 0, none⟩), I l, I e, .func (.func 59) #[] #[.pointer (some ⟨q.A, 0, none⟩), .pointer (some ⟨q.B, 0, none⟩)], .func (.func 59) #[] #[.pointer (some ⟨q.A, 0, none⟩), .pointer (some ⟨q.B, 0, none⟩)], .bool false, .func (.func 59) #[] #[.pointer (some ⟨q.A, 0, none⟩), .pointer (some ⟨q.B, 0, none⟩)], I (x.1 : Nat), I x.2, undef, undef, undef, undef, undef, undef], defers := [] }) ?assign ?body ?done ?stop
  case assign =>
    intro l' x W K hK
    gi_wp2
    exact hK
  case body =>
    rintro l' pre x W ⟨v, h1, h2, h3, h4⟩ hlt
    have c1 : W.cell? ⟨w.heap.size, 0, none⟩ = some v := by simp [World.cell?, h1]
    have f1 : W.frozen? ⟨w.heap.size, 0, none⟩ = false := by simp [World.frozen?, h1]
    have h2' : (W.alloc (.cells #[I (x.1 : Nat), I x.2] 3)).ownsRow w2.heap.size 3 1 v (lsF pre).length (lsF pre) := own_below h2 ((Below.refl _ W).alloc (Nat.le_refl _) _)
    have HW := show Hid _ from And.intro h1 (And.intro h2 (And.intro h3 (And.intro h4 h2')))
    have HLt : Hid ((lsF pre).length < 8388608) := by
      have e1 := lsF_len pre
      have := HL.out
      rw [List.length_map] at hlt
      show _ < _
      omega
    clear h1 h2 h3 h4 h2' hI0 hS1
    gi_wp2_with (gi_at_builtin; refine wpListIn_append_own _ rfl _ _ 31 rfl w2.heap.size 3 j0 (.int .i64 0) 1 8 Try.underlying31 hj hj0 hj1 hj2 rfl (by decide) v _ (lsF pre) rfl HW.out.2.2.2.2 ⟨W.heap.size, 0, none⟩ 2 2 [I (x.1 : Nat), I x.2] rfl rfl ?c1 ?c2 ?c3 ?c4 ?c5 ?_)
    case c1 => exact cell_two W _ _ _
    case c2 => intro u hu; simp only [List.mem_cons, List.not_mem_nil, or_false] at hu; rcases hu with rfl | rfl <;> rfl
    case c3 => have := HLt.out; unfold maxLen; omega
    case c4 => have := HLt.out; omega
    case c5 => have := HW.out.2.2.2.1; simp; omega
    intro v' W2 ho hg _
    have hput := Nd.put (x := x) (S := q.S) w2.heap.size HW.out.1 HW.out.2.1 HW.out.2.2.1 HW.out.2.2.2.1 HS1.out (Nat.le_refl _) (by omega) ⟨_, rfl⟩ hg (lsF_snoc pre x) ho
    have HPut := show Hid _ from hput
    have e1 : (W.alloc (.cells #[I (x.1 : Nat), I x.2] 3)).heap[w.heap.size]? = some (.cells #[v] 31 (0, 0)) := (Below.heap_alloc W _ _ (Array.getElem?_eq_some_iff.1 HW.out.1).1).trans HW.out.1
    have e2 : W2.heap[w.heap.size]? = some (.cells #[v] 31 (0, 0)) := (hg.block _ (by simp; have := (Array.getElem?_eq_some_iff.1 HW.out.1).1; omega) (fun e => own_ne HW.out.2.2.2.2 e1 (by decide) e.symm)).trans e1
    have c2 : W2.cell? ⟨w.heap.size, 0, none⟩ = some v := by simp [World.cell?, e2]
    have f2 : W2.frozen? ⟨w.heap.size, 0, none⟩ = false := by simp [World.frozen?, e2]
    obtain ⟨bo, bc, rfl⟩ := own_form ho
    clear hput ho hg e1 e2 HW
    gi_wp2
    exact HPut.out
  case done =>
    rintro D ys W hD rfl ⟨v, h1, h2, h3, h4⟩ hK
    have c1 : W.cell? ⟨w.heap.size, 0, none⟩ = some v := by simp [World.cell?, h1]
    have e1 : (lsF ((a.seq l e).map fun x => (x, a.val x))).length = 2 * (a.seq l e).length := by rw [lsF_len, List.length_map]
    rw [e1] at h2
    have HW := show Hid _ from And.intro h2 h3
    obtain ⟨bo, bc, rfl⟩ := own_form h2
    clear h1 h2 h3 h4 hI0 hS1 e1
    gi_wp2
    refine ⟨by simp, .inl ⟨_, _, rfl, run_takeDeferred hK, ?_⟩⟩
    refine ⟨_, by simp [results, Try.f27, go_sem]; rfl, _, rfl, ?_, ?_⟩
    · have h5 := own_grown HW.out.1 (grownBy_putObj' W D (.deferred none)) (fun k hk e => by
        cases e
        have := own_cells HW.out.1 D _ hk hK
        cases this)
      exact own_base h5 (by omega)
    · exact HW.out.2.trans (belowK_b (w := w) (Nat.le_refl _) _ D _ _ (by omega) hK rfl rfl)
  case stop =>
    rintro D cc pre W hD _ h hK
    exact h.elim

set_option maxHeartbeats 1600000 in
/-- round -/
theorem round_any (at_ : Int) (n : Nat) (hn : 0 < n) (hn2 : n ≤ 4194304) (w : World) : Calls Try.prog 25 #[I at_, I n] w fun r w' => ∃ k : Nat, k < n ∧ r = .returned (I k) ∧ w' = w := by
  have h1 := Int.tmod_lt_of_pos at_ (show (0 : Int) < n by omega)
  have h2 := Int.lt_tmod_of_pos at_ (show (0 : Int) < n by omega)
  have hw : IntKind.i64.wrap (at_.tmod n) = at_.tmod n := by
    rw [IntKind.wrap_i64]
    generalize at_.tmod n = z at *
    omega
  have h3 : ((n : Int) == 0) = false := by simp; omega
  have h4 : (n : Int) ≤ 4194304 := by omega
  by_cases h0 : at_.tmod n < 0
  · go_enter Try.func25, Try.ntmps25
    go_wp2
    go_ret
    exact ⟨(at_.tmod n + n).toNat, by omega, by rw [Int.toNat_of_nonneg (by omega)]; rfl, rfl⟩
  · have h5 : decide (at_.tmod n < 0) = false := by simp; omega
    go_enter Try.func25, Try.ntmps25
    go_wp2
    go_ret
    exact ⟨(at_.tmod n).toNat, by omega, by rw [Int.toNat_of_nonneg (by omega)]; rfl, rfl⟩
end Go.Proofs.Ytoeioppmlnognaa.Ar
