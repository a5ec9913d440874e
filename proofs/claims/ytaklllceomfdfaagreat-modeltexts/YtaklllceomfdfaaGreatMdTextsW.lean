import Derived.Test.YtaklllceomfdfaaGreatMdTxt
import Derived.Test.YtaklllceomfdfaaGreatMdCaps
namespace Go.Proofs.YtaklllceomfdfaaGreat.Md
open Go.RowKit Go.Maps Go.Proofs.YtaklllceomfdfaaGreat.Nm

set_option maxHeartbeats 3200000 in
set_option maxRecDepth 100000 in
theorem textsWalk (k n : Int) (w : World) : Calls Tryz.prog 3 #[I k, I n] w fun e w' => e = .returned (.bool true) ∧ Below w.heap.size w w' := by
  have hee : (eK k == eK k) = true := by simp
  have h1 : ∀ u : World, Calls Tryz.prog 4 #[I k] u fun e w' => e = .returned (.tuple #[.string (srcL k), I (eK k)]) ∧ w' = u := fun u => source_any u k
  have h2 : ∀ u : World, Calls Tryz.prog 5 #[I k] u fun e w' => e = .returned (.tuple #[.string (srcL k), I (eK k)]) ∧ w' = u := fun u => rsource_any u k
  have h3 : ∀ u : World, Calls Tryz.prog 6 #[I k] u fun e w' => e = .returned (.tuple #[.string (namL k), I (eK k)]) ∧ w' = u := fun u => name_any u k
  have h4 : ∀ u : World, Calls Tryz.prog 7 #[I k] u fun e w' => e = .returned (.tuple #[.string (namL k), I (eK k)]) ∧ w' = u := fun u => rname_any u k
  generalize srcL k = sr at *
  generalize namL k = na at *
  generalize eK k = ek at *
  have H1 : Hid _ := h1
  have H2 : Hid _ := h2
  have H3 : Hid _ := h3
  have H4 : Hid _ := h4
  clear h1 h2 h3 h4
  by_cases hok : okS k n
  · have HC : Hid (∀ u : World, Calls Tryz.prog 8 #[I k, I n] u fun e w' => ∃ v, e = .returned (.tuple #[.agg #[I n, v], I 0]) ∧ IRd w' v (capL k n) ∧ Below u.heap.size u w') := fun u => caps_yes u k n hok
    have HD : Hid (∀ u : World, Calls Tryz.prog 9 #[I k, I n] u fun e w' => ∃ v, e = .returned (.tuple #[I n, v, I 0]) ∧ IRd w' v (capL k n) ∧ Below u.heap.size u w') := fun u => rcaps_yes u k n hok
    have HL : Hid ((capL k n).length ≤ 1000000000) := by
      show _ ≤ _
      unfold capL
      repeat' split
      all_goals simp
    have hnn2 : (n == n) = true := by simp
    generalize capL k n = cl at *
    clear hok
    go_enter Tryz.func3, Tryz.ntmps3
    go_wp2_with (first | (go_at_call 4; refine (H1.out _).mono ?_; rintro _ w ⟨rfl, rfl⟩) | (go_at_call 5; refine (H2.out _).mono ?_; rintro _ w ⟨rfl, rfl⟩) | (go_at_call 6; refine (H3.out _).mono ?_; rintro _ w ⟨rfl, rfl⟩) | (go_at_call 7; refine (H4.out _).mono ?_; rintro _ w ⟨rfl, rfl⟩))
    refine (HC.out _).mono ?_
    rintro _ w1 ⟨v1, rfl, q1, q2⟩
    have q1' := q1
    obtain ⟨b1, c1, rfl, _⟩ := q1
    have HQ1 : Hid (IRd w1 (.slice b1 cl.length c1) cl ∧ Below w.heap.size w w1) := ⟨q1', q2⟩
    clear q1' q2
    go_wp2_with fail
    refine (HD.out _).mono ?_
    rintro _ w2 ⟨v2, rfl, q3, q4⟩
    have hbx : w2.heap[w1.heap.size]? = some (.cells #[I n, .slice b1 cl.length c1] 29 (0, 0)) := (q4.block w1.heap.size (by simp)).trans (alloc_blk w1 _)
    have i0 : w2.cell? ⟨w1.heap.size, 0, none⟩ = some (I n) := by simp [World.cell?, hbx]
    have i1 : w2.cell? ⟨w1.heap.size, 1, none⟩ = some (.slice b1 cl.length c1) := by simp [World.cell?, hbx]
    have h12 : Below w1.heap.size w1 w2 := ((Below.refl _ w1).alloc (Nat.le_refl _) _).trans (q4.mono (by simp))
    have HQ2 : Hid (IRd w2 (.slice b1 cl.length c1) cl ∧ IRd w2 v2 cl ∧ Below w.heap.size w w2) := ⟨HQ1.out.1.below h12, q3, HQ1.out.2.trans (h12.mono HQ1.out.2.size)⟩
    clear q3 q4 hbx h12 HQ1
    go_wp2_with fail
    refine (sameI_eq HQ2.out.1 HQ2.out.2.1 HL.out).mono ?_
    rintro _ w3 ⟨rfl, q5⟩
    have HQ3 : Hid (Below w.heap.size w w3) := HQ2.out.2.2.trans (q5.mono HQ2.out.2.2.size)
    clear q5 HQ2
    go_wp2_with fail
    refine (head_any _).mono ?_
    rintro _ w4 ⟨rfl, q6⟩
    have HQ4 : Hid (Below w.heap.size w w4) := HQ3.out.trans (q6.mono HQ3.out.size)
    clear q6 HQ3
    go_wp2
    go_ret
    exact ⟨rfl, HQ4.out⟩
  · have HC : Hid (∀ u : World, Calls Tryz.prog 8 #[I k, I n] u fun e w' => e = .returned (.tuple #[.agg #[I 0, .slice none 0 0], I 1]) ∧ Below u.heap.size u w') := fun u => caps_no u k n hok
    have HD : Hid (∀ u : World, Calls Tryz.prog 9 #[I k, I n] u fun e w' => e = .returned (.tuple #[I 0, .slice none 0 0, I 1]) ∧ Below u.heap.size u w') := fun u => rcaps_no u k n hok
    clear hok
    go_enter Tryz.func3, Tryz.ntmps3
    go_wp2_with (first | (go_at_call 4; refine (H1.out _).mono ?_; rintro _ w ⟨rfl, rfl⟩) | (go_at_call 5; refine (H2.out _).mono ?_; rintro _ w ⟨rfl, rfl⟩) | (go_at_call 6; refine (H3.out _).mono ?_; rintro _ w ⟨rfl, rfl⟩) | (go_at_call 7; refine (H4.out _).mono ?_; rintro _ w ⟨rfl, rfl⟩))
    refine (HC.out _).mono ?_
    rintro _ w1 ⟨rfl, q2⟩
    have HQ1 : Hid (Below w.heap.size w w1) := q2
    clear q2
    go_wp2_with fail
    refine (HD.out _).mono ?_
    rintro _ w2 ⟨rfl, q4⟩
    have hbx : w2.heap[w1.heap.size]? = some (.cells #[I 0, .slice none 0 0] 29 (0, 0)) := (q4.block w1.heap.size (by simp)).trans (alloc_blk w1 _)
    have i0 : w2.cell? ⟨w1.heap.size, 0, none⟩ = some (I 0) := by simp [World.cell?, hbx]
    have i1 : w2.cell? ⟨w1.heap.size, 1, none⟩ = some (.slice none 0 0) := by simp [World.cell?, hbx]
    have h12 : Below w1.heap.size w1 w2 := ((Below.refl _ w1).alloc (Nat.le_refl _) _).trans (q4.mono (by simp))
    have HQ2 : Hid (Below w.heap.size w w2) := HQ1.out.trans (h12.mono HQ1.out.size)
    clear q4 hbx h12 HQ1
    go_wp2_with fail
    refine (sameI_eq (IRd.nil w2) (IRd.nil w2) (by simp)).mono ?_
    rintro _ w3 ⟨rfl, q5⟩
    have HQ3 : Hid (Below w.heap.size w w3) := HQ2.out.trans (q5.mono HQ2.out.size)
    clear q5 HQ2
    go_wp2_with fail
    refine (head_any _).mono ?_
    rintro _ w4 ⟨rfl, q6⟩
    have HQ4 : Hid (Below w.heap.size w w4) := HQ3.out.trans (q6.mono HQ3.out.size)
    clear q6 HQ3
    go_wp2
    go_ret
    exact ⟨rfl, HQ4.out⟩
end Go.Proofs.YtaklllceomfdfaaGreat.Md
