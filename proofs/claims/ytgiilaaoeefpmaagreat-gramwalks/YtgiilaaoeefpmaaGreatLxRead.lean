import Derived.Test.YtgiilaaoeefpmaaGreatLxSkip
namespace Go.Proofs.YtgiilaaoeefpmaaGreat.Lx
open Go.RowKit Go.Proofs.YtgiilaaoeefpmaaGreat.Sp

section
variable (ao : Option Addr) (s : ByteArray) (cap a : Nat) (w : World) (h : IsBytes w ao s) (hc : s.size ≤ cap) (ha : a < s.size) (hs : s.size ≤ 2097152)
include h hc ha hs

set_option maxHeartbeats 800000 in
set_option maxRecDepth 100000 in
theorem word_kept (hl : isL (nb s a) = true) (hk : kp (tx (s.extract a (ru isW s a))) = true) :
    Calls Tryz.prog 108 #[.slice ao s.size cap, .int .i64 a] w fun e w' =>
      e = .returned (.tuple #[.agg #[.int .i64 5, .int .i64 a, .int .i64 (ru isW s a : Nat), .int .i64 0], .int .i64 0]) ∧ Below w.heap.size w w' := by
  obtain ⟨e1, e2⟩ := ru_gt (p := isW) ha (isL_W _ hl)
  obtain ⟨A, C, hsl, hA, hC, hz⟩ := cut_any Tryz.underlying76 ao s cap a (ru isW s a) hc (by omega) e2
  have HW : Hid (∀ w', IsBytes w' ao s → Calls Tryz.prog 114 #[.slice ao s.size cap, .func (.func 130) #[] #[], .int .i64 a] w' fun e w'' => e = .returned (.int .i64 (ru isW s a : Nat)) ∧ w'' = w') := fun w' hb => whileWord ao s cap a w' hb (by omega) hs
  generalize ru isW s a = q at *
  have HB : Hid (IsBytes w ao s) := h
  have hcv : ∀ w', Below w.heap.size w w' → (convert 76 9 (.slice A (q - a) C)).run Tryz.prog w' = .ok (.string (s.extract a q)) w' := fun w' hb => by
    rw [← hz]
    exact conv_any Tryz.underlying76 A _ C w' (hA w' (HB.out.below hb))
  have hbel : Below w.heap.size w (w.alloc (.cells #[.int .i64 0, .int .i64 0, .int .i64 0, .int .i64 0] 94)) := (Below.refl _ w).alloc (Nat.le_refl _) _
  have hcv1 := hcv _ hbel
  have HL : Hid (Below w.heap.size w (w.alloc (.cells #[.int .i64 0, .int .i64 0, .int .i64 0, .int .i64 0] 94))) := hbel
  clear hbel hcv hA h
  go_enter Tryz.func108, Tryz.ntmps108
  go_wp2_with fail
  refine (HW.out _ (HB.out.below HL.out)).mono ?_
  rintro e w' ⟨rfl, rfl⟩
  go_wp2_with fail
  refine (is_any _ _).mono ?_
  rintro e w' ⟨rfl, rfl⟩
  generalize s.extract a q = u at *
  generalize kp (tx u) = z at *
  subst hk
  go_wp2
  refine bodyPost_ret (v := .tuple #[.agg #[.int .i64 5, .int .i64 a, .int .i64 q, .int .i64 0], .int .i64 0]) (by simp [results, Tryz.results108, go_sem]) rfl ⟨rfl, (Below.refl _ w).alloc (Nat.le_refl _) _⟩

set_option maxHeartbeats 800000 in
set_option maxRecDepth 100000 in
theorem word_long (hl : isL (nb s a) = true) (hk : kp (tx (s.extract a (ru isW s a))) = false) (h64 : 64 < ru isW s a - a) :
    Calls Tryz.prog 108 #[.slice ao s.size cap, .int .i64 a] w fun e w' =>
      e = .returned (.tuple #[.agg #[.int .i64 0, .int .i64 0, .int .i64 0, .int .i64 0], .int .i64 13]) ∧ Below w.heap.size w w' := by
  obtain ⟨e1, e2⟩ := ru_gt (p := isW) ha (isL_W _ hl)
  obtain ⟨A, C, hsl, hA, hC, hz⟩ := cut_any Tryz.underlying76 ao s cap a (ru isW s a) hc (by omega) e2
  have HW : Hid (∀ w', IsBytes w' ao s → Calls Tryz.prog 114 #[.slice ao s.size cap, .func (.func 130) #[] #[], .int .i64 a] w' fun e w'' => e = .returned (.int .i64 (ru isW s a : Nat)) ∧ w'' = w') := fun w' hb => whileWord ao s cap a w' hb (by omega) hs
  generalize ru isW s a = q at *
  have HB : Hid (IsBytes w ao s) := h
  have hcv : ∀ w', Below w.heap.size w w' → (convert 76 9 (.slice A (q - a) C)).run Tryz.prog w' = .ok (.string (s.extract a q)) w' := fun w' hb => by
    rw [← hz]
    exact conv_any Tryz.underlying76 A _ C w' (hA w' (HB.out.below hb))
  have hbel : Below w.heap.size w (w.alloc (.cells #[.int .i64 0, .int .i64 0, .int .i64 0, .int .i64 0] 94)) := (Below.refl _ w).alloc (Nat.le_refl _) _
  have hcv1 := hcv _ hbel
  have HL : Hid (Below w.heap.size w (w.alloc (.cells #[.int .i64 0, .int .i64 0, .int .i64 0, .int .i64 0] 94))) := hbel
  clear hbel hcv hA h
  have h65 : ¬ ((q : Int) - (a : Int) ≤ 64) := by omega
  go_enter Tryz.func108, Tryz.ntmps108
  go_wp2_with fail
  refine (HW.out _ (HB.out.below HL.out)).mono ?_
  rintro e w' ⟨rfl, rfl⟩
  go_wp2_with fail
  refine (is_any _ _).mono ?_
  rintro e w' ⟨rfl, rfl⟩
  generalize s.extract a q = u at *
  generalize kp (tx u) = z at *
  subst hk
  go_wp2
  refine bodyPost_ret (v := .tuple #[.agg #[.int .i64 0, .int .i64 0, .int .i64 0, .int .i64 0], .int .i64 13]) (by simp [results, Tryz.results108, go_sem]) rfl ⟨rfl, (Below.refl _ w).alloc (Nat.le_refl _) _⟩

set_option maxHeartbeats 800000 in
set_option maxRecDepth 100000 in
theorem word_name (hl : isL (nb s a) = true) (hk : kp (tx (s.extract a (ru isW s a))) = false) (h64 : ru isW s a - a ≤ 64) :
    Calls Tryz.prog 108 #[.slice ao s.size cap, .int .i64 a] w fun e w' =>
      e = .returned (.tuple #[.agg #[.int .i64 2, .int .i64 a, .int .i64 (ru isW s a : Nat), .int .i64 0], .int .i64 0]) ∧ Below w.heap.size w w' := by
  obtain ⟨e1, e2⟩ := ru_gt (p := isW) ha (isL_W _ hl)
  obtain ⟨A, C, hsl, hA, hC, hz⟩ := cut_any Tryz.underlying76 ao s cap a (ru isW s a) hc (by omega) e2
  have HW : Hid (∀ w', IsBytes w' ao s → Calls Tryz.prog 114 #[.slice ao s.size cap, .func (.func 130) #[] #[], .int .i64 a] w' fun e w'' => e = .returned (.int .i64 (ru isW s a : Nat)) ∧ w'' = w') := fun w' hb => whileWord ao s cap a w' hb (by omega) hs
  generalize ru isW s a = q at *
  have HB : Hid (IsBytes w ao s) := h
  have hcv : ∀ w', Below w.heap.size w w' → (convert 76 9 (.slice A (q - a) C)).run Tryz.prog w' = .ok (.string (s.extract a q)) w' := fun w' hb => by
    rw [← hz]
    exact conv_any Tryz.underlying76 A _ C w' (hA w' (HB.out.below hb))
  have hbel : Below w.heap.size w (w.alloc (.cells #[.int .i64 0, .int .i64 0, .int .i64 0, .int .i64 0] 94)) := (Below.refl _ w).alloc (Nat.le_refl _) _
  have hcv1 := hcv _ hbel
  have HL : Hid (Below w.heap.size w (w.alloc (.cells #[.int .i64 0, .int .i64 0, .int .i64 0, .int .i64 0] 94))) := hbel
  clear hbel hcv hA h
  have h65 : ¬ (64 < (q : Int) - (a : Int)) := by omega
  go_enter Tryz.func108, Tryz.ntmps108
  go_wp2_with fail
  refine (HW.out _ (HB.out.below HL.out)).mono ?_
  rintro e w' ⟨rfl, rfl⟩
  go_wp2_with fail
  refine (is_any _ _).mono ?_
  rintro e w' ⟨rfl, rfl⟩
  generalize s.extract a q = u at *
  generalize kp (tx u) = z at *
  subst hk
  go_wp2
  refine bodyPost_ret (v := .tuple #[.agg #[.int .i64 2, .int .i64 a, .int .i64 q, .int .i64 0], .int .i64 0]) (by simp [results, Tryz.results108, go_sem]) rfl ⟨rfl, (Below.refl _ w).alloc (Nat.le_refl _) _⟩
end
end Go.Proofs.YtgiilaaoeefpmaaGreat.Lx
