import Derived.Test.YtjbpbgdhooggeaaJStand
import Derived.Test.YtjbpbgdhooggeaaJLex
namespace Go.Proofs.Ytjbpbgdhooggeaa.Gr
open Go.RowKit Go.Proofs.Ytjbpbgdhooggeaa.Sp Go.Proofs.Ytjbpbgdhooggeaa.Lx

def none0 (s : ByteArray) : Bool := s.toList == []
def nameFits (r : Rz) : Bool := if nmd r.kind then isName (tx r.name) else none0 r.name
def filled (r : Rz) : Bool := nameFits r && (wtn r.stop 0 (lastEnd r.kind) && (wtn r.n 0 (lastNum r.kind) && wtn r.kids (least r.kind : Nat) (greatest r.kind)))

set_option maxHeartbeats 3200000 in
set_option maxRecDepth 100000 in
theorem nameFits_any (r : Rz) (w : World) : Calls Try.prog 63 #[agr r] w fun e w' => e = .returned (.bool (nameFits r)) ∧ Below w.heap.size w w' := by
  obtain ⟨k, s, e, n, m⟩ := r
  have H1 : Hid (∀ w, Calls Try.prog 69 #[.int .i64 k] w fun e w' => e = .returned (.bool (nmd k)) ∧ w' = w) := fun w => nmd_any k w
  have H2 : Hid (∀ w, Calls Try.prog 70 #[.string s] w fun e w' => e = .returned (.bool (isName (tx s))) ∧ Below w.heap.size w w') := fun w => isName_any s w
  have HF : Hid (nameFits ⟨k, s, e, n, m⟩ = if nmd k then isName (tx s) else none0 s) := rfl
  have hn0 : (s.toList == ([] : List UInt8)) = none0 s := rfl
  generalize nameFits ⟨k, s, e, n, m⟩ = R at *
  generalize nmd k = b1 at *
  generalize isName (tx s) = b2 at *
  have hb : Below w.heap.size w (w.alloc (.cells #[.int .i64 k, .string s, .int .i64 e, .int .i64 n, .int .i64 m] 40)) := (Below.refl _ w).alloc (Nat.le_refl _) _
  have HB : Hid (Below w.heap.size w (w.alloc (.cells #[.int .i64 k, .string s, .int .i64 e, .int .i64 n, .int .i64 m] 40))) := hb
  clear hb
  cases b1
  · go_enter Try.func63, Try.ntmps63
    go_wp2_with (go_at_call 69; refine (H1.out _).mono ?_; rintro e w' ⟨rfl, rfl⟩)
    all_goals go_ret
    all_goals exact ⟨by rw [HF.out]; simp, HB.out⟩
  · go_enter Try.func63, Try.ntmps63
    go_wp2_with (first
      | (go_at_call 69; refine (H1.out _).mono ?_; rintro e w' ⟨rfl, rfl⟩)
      | (go_at_call 70; refine (H2.out _).mono ?_; rintro e w' ⟨rfl, hB7⟩; have HB7 : Hid (Below w.heap.size w w') := HB.out.trans (hB7.mono HB.out.size); clear hB7))
    all_goals go_ret
    all_goals exact ⟨by rw [HF.out]; simp, HB7.out⟩

set_option maxHeartbeats 6400000 in
set_option maxRecDepth 100000 in
theorem filled_any (r : Rz) (w : World) : Calls Try.prog 49 #[agr r] w fun e w' => e = .returned (.bool (filled r)) ∧ Below w.heap.size w w' := by
  obtain ⟨k, s, e, n, m⟩ := r
  have H1 : Hid (∀ w, Calls Try.prog 63 #[.agg #[.int .i64 k, .string s, .int .i64 e, .int .i64 n, .int .i64 m]] w fun e' w' => e' = .returned (.bool (nameFits ⟨k, s, e, n, m⟩)) ∧ Below w.heap.size w w') := fun w => nameFits_any ⟨k, s, e, n, m⟩ w
  have H2 : Hid (∀ w, Calls Try.prog 65 #[.int .i64 k] w fun e' w' => e' = .returned (.int .i64 (lastEnd k)) ∧ w' = w) := fun w => lastEnd_any k w
  have H3 : Hid (∀ w, Calls Try.prog 64 #[.int .i64 e, .int .i64 0, .int .i64 (lastEnd k)] w fun e' w' => e' = .returned (.bool (wtn e 0 (lastEnd k))) ∧ w' = w) := fun w => within_any _ _ _ w
  have H4 : Hid (∀ w, Calls Try.prog 66 #[.int .i64 k] w fun e' w' => e' = .returned (.int .i64 (lastNum k)) ∧ w' = w) := fun w => lastNum_any k w
  have H5 : Hid (∀ w, Calls Try.prog 64 #[.int .i64 n, .int .i64 0, .int .i64 (lastNum k)] w fun e' w' => e' = .returned (.bool (wtn n 0 (lastNum k))) ∧ w' = w) := fun w => within_any _ _ _ w
  have H6 : Hid (∀ w, Calls Try.prog 64 #[.int .i64 m, .int .i64 (least k : Nat), .int .i64 (greatest k)] w fun e' w' => e' = .returned (.bool (wtn m (least k : Nat) (greatest k))) ∧ w' = w) := fun w => within_any _ _ _ w
  have HK : Hid (∀ w, Calls Try.prog 62 #[.int .i64 k] w fun e' w' => e' = .returned (.tuple #[.int .i64 (least k : Nat), .int .i64 (greatest k)]) ∧ w' = w) := fun w => kidsOf_any k w
  have HF : Hid (filled ⟨k, s, e, n, m⟩ = (nameFits ⟨k, s, e, n, m⟩ && (wtn e 0 (lastEnd k) && (wtn n 0 (lastNum k) && wtn m (least k : Nat) (greatest k))))) := rfl
  generalize filled ⟨k, s, e, n, m⟩ = R at *
  generalize nameFits ⟨k, s, e, n, m⟩ = b1 at *
  generalize wtn e 0 (lastEnd k) = b2 at *
  generalize wtn n 0 (lastNum k) = b3 at *
  generalize wtn m (least k : Nat) (greatest k) = b4 at *
  generalize lastEnd k = le at *
  generalize lastNum k = ln at *
  generalize least k = lo at *
  generalize greatest k = hi at *
  have HB : Hid (Below w.heap.size w (w.alloc (.cells #[.int .i64 k, .string s, .int .i64 e, .int .i64 n, .int .i64 m] 40))) := (Below.refl _ w).alloc (Nat.le_refl _) _
  have hne : Nonempty (Kin (w.alloc (.cells #[.int .i64 k, .string s, .int .i64 e, .int .i64 n, .int .i64 m] 40))) := Kin.there _
  have hc : ∀ j v, ([.int .i64 k, .string s, .int .i64 e, .int .i64 n, .int .i64 m] : List Value)[j]? = some v → ∀ y : Kin (w.alloc (.cells #[.int .i64 k, .string s, .int .i64 e, .int .i64 n, .int .i64 m] 40)), y.u.cell? ⟨w.heap.size, j, none⟩ = some v := fun j v hv y =>
    y.cell (a := ⟨w.heap.size, j, none⟩) (by simp) (by rw [World.cell?, heap_alloc_new]; simpa using hv)
  have y0 := hc 0 _ rfl
  have y1 := hc 1 _ rfl
  have y2 := hc 2 _ rfl
  have y3 := hc 3 _ rfl
  have y4 := hc 4 _ rfl
  clear hc
  cases b1
  · go_enter Try.func49, Try.ntmps49
    go_wp2_with (go_at_call 62; refine (HK.out _).mono ?_; rintro e w' ⟨rfl, rfl⟩)
    refine wp_region_kin (by kernel_rfl) (by kernel_rfl) ?_
    iterate 2 quiet_step (exact kin_of (H1.out _))
    iterate 6 quiet_step (exact kin_same (H2.out _))
    iterate 1 quiet_step (exact kin_same (H3.out _))
    iterate 7 quiet_step (exact kin_same (H4.out _))
    iterate 1 quiet_step (exact kin_same (H5.out _))
    iterate 7 quiet_step (exact kin_same (H6.out _))
    iterate 2 quiet_step (fail)
    refine wpQuiet_nil ?_
    rintro _ ⟨z, rfl⟩
    have HZ : Hid (Below w.heap.size w z.u) := HB.out.trans (z.ok.mono HB.out.size)
    generalize z.u = wz at *
    go_wp2_with fail
    go_ret
    exact ⟨by rw [HF.out]; simp, HZ.out⟩
  · cases b2
    · go_enter Try.func49, Try.ntmps49
      go_wp2_with (go_at_call 62; refine (HK.out _).mono ?_; rintro e w' ⟨rfl, rfl⟩)
      refine wp_region_kin (by kernel_rfl) (by kernel_rfl) ?_
      iterate 2 quiet_step (exact kin_of (H1.out _))
      iterate 6 quiet_step (exact kin_same (H2.out _))
      iterate 1 quiet_step (exact kin_same (H3.out _))
      iterate 7 quiet_step (exact kin_same (H4.out _))
      iterate 1 quiet_step (exact kin_same (H5.out _))
      iterate 7 quiet_step (exact kin_same (H6.out _))
      iterate 2 quiet_step (fail)
      refine wpQuiet_nil ?_
      rintro _ ⟨z, rfl⟩
      have HZ : Hid (Below w.heap.size w z.u) := HB.out.trans (z.ok.mono HB.out.size)
      generalize z.u = wz at *
      go_wp2_with fail
      go_ret
      exact ⟨by rw [HF.out]; simp, HZ.out⟩
    · cases b3
      · go_enter Try.func49, Try.ntmps49
        go_wp2_with (go_at_call 62; refine (HK.out _).mono ?_; rintro e w' ⟨rfl, rfl⟩)
        refine wp_region_kin (by kernel_rfl) (by kernel_rfl) ?_
        iterate 2 quiet_step (exact kin_of (H1.out _))
        iterate 6 quiet_step (exact kin_same (H2.out _))
        iterate 1 quiet_step (exact kin_same (H3.out _))
        iterate 7 quiet_step (exact kin_same (H4.out _))
        iterate 1 quiet_step (exact kin_same (H5.out _))
        iterate 7 quiet_step (exact kin_same (H6.out _))
        iterate 2 quiet_step (fail)
        refine wpQuiet_nil ?_
        rintro _ ⟨z, rfl⟩
        have HZ : Hid (Below w.heap.size w z.u) := HB.out.trans (z.ok.mono HB.out.size)
        generalize z.u = wz at *
        go_wp2_with fail
        go_ret
        exact ⟨by rw [HF.out]; simp, HZ.out⟩
      · go_enter Try.func49, Try.ntmps49
        go_wp2_with (go_at_call 62; refine (HK.out _).mono ?_; rintro e w' ⟨rfl, rfl⟩)
        refine wp_region_kin (by kernel_rfl) (by kernel_rfl) ?_
        iterate 2 quiet_step (exact kin_of (H1.out _))
        iterate 6 quiet_step (exact kin_same (H2.out _))
        iterate 1 quiet_step (exact kin_same (H3.out _))
        iterate 7 quiet_step (exact kin_same (H4.out _))
        iterate 1 quiet_step (exact kin_same (H5.out _))
        iterate 7 quiet_step (exact kin_same (H6.out _))
        iterate 2 quiet_step (fail)
        refine wpQuiet_nil ?_
        rintro _ ⟨z, rfl⟩
        have HZ : Hid (Below w.heap.size w z.u) := HB.out.trans (z.ok.mono HB.out.size)
        generalize z.u = wz at *
        go_wp2_with fail
        go_ret
        exact ⟨by rw [HF.out]; simp, HZ.out⟩
end Go.Proofs.Ytjbpbgdhooggeaa.Gr
