import Derived.Test.YtkdepeadledpnaaGrKnown
namespace Go.Proofs.Ytkdepeadledpnaa.gramLoose
open Go.RowKit Go.Proofs.Ytkdepeadledpnaa.Sp Go.Proofs.Ytkdepeadledpnaa.Lx Go.Proofs.Ytkdepeadledpnaa.Gr

set_option maxHeartbeats 6400000 in
set_option maxRecDepth 100000 in
theorem walk (p k d : Int) (w : World) :
    Calls Try.prog 3 #[.int .i64 p, .int .i64 k, .int .i64 d] w fun e w' => e = .returned (.bool true) ∧ Below w.heap.size w w' := by
  have hnot : ∀ (x : Bool) (w : World), (Op.unary .not (.bool x)).run Try.prog w = .ok (.bool (!x)) w := fun _ _ => rfl
  have H1 : Hid (∀ (p k d : Int) (w : World), Calls Try.prog 5 #[.int .i64 p, .int .i64 k, .int .i64 d] w fun e w' => e = .returned (.bool (loose p k d)) ∧ w' = w) := loose_any
  have H2 : Hid (∀ (p k d : Int) (w : World), Calls Try.prog 6 #[.int .i64 p, .int .i64 k, .int .i64 d] w fun e w' => e = .returned (.bool (loose p k d)) ∧ w' = w) := refLoose_any
  generalize loose = F at *
  go_enter Try.func3, Try.ntmps3
  go_wp2_with fail
  refine (known_any w).mono ?_
  rintro e w1 ⟨rfl, hB⟩
  have HB : Hid (Below w.heap.size w w1) := hB
  clear hB
  go_wp2_with fail
  go_loopg [7, 8] 56 (fun q a _ wr => ∃ i : Nat, i ≤ 56 ∧ q = 56 - i ∧ a = .int .i64 i ∧ wr = w1)
  case atStart => exact ⟨0, by omega, by omega, rfl, rfl⟩
  case round =>
    obtain ⟨i, hi, hq, rfl, rfl⟩ := hrel
    have HQ : Hid (gk = 56 - i) := hq
    clear hq
    by_cases hlt : i ≤ 55
    · have h55 : (i : Int) ≤ 55 := by omega
      go_wp2_with fail
      go_loopg [8] 56 (fun q a wr' => ∃ j : Nat, j ≤ 56 ∧ q = 56 - j ∧ a = .int .i64 j ∧ wr' = wr)
      case atStart => exact ⟨0, by omega, by omega, rfl, rfl⟩
      case round =>
        obtain ⟨j, hj, hq, rfl, hw⟩ := hrel
        rw [hw]
        clear hw
        have HQ2 : Hid (gk = 56 - j) := hq
        clear hq
        by_cases hl2 : j ≤ 55
        · have h552 : (j : Int) ≤ 55 := by omega
          go_wp2_with fail
          refine (H1.out _ _ _ _).mono ?_
          intro e w' hh
          obtain ⟨rfl, hw⟩ := hh
          rw [hw]
          clear hw w'
          go_wp2_with fail
          refine (H2.out _ _ _ _).mono ?_
          intro e w' hh
          obtain ⟨rfl, hw⟩ := hh
          rw [hw]
          clear hw w'
          go_wp2_with fail
          refine (H1.out _ _ _ _).mono ?_
          intro e w' hh
          obtain ⟨rfl, hw⟩ := hh
          rw [hw]
          clear hw w'
          go_wp2_with fail
          refine (H2.out _ _ _ _).mono ?_
          intro e w' hh
          obtain ⟨rfl, hw⟩ := hh
          rw [hw]
          clear hw w'
          go_wp2_with fail
          go_roundg (56 - (j + 1))
          case measure => have := HQ2.out; omega
          case rel => exact ⟨j + 1, by omega, rfl, by go_num, rfl⟩
        · have h552 : ¬ ((j : Int) ≤ 55) := by omega
          go_wp2_with fail
          go_roundg (56 - (i + 1))
          case measure => have := HQ.out; omega
          case rel => exact ⟨i + 1, by omega, rfl, by go_num, rfl⟩
    · have h55 : ¬ ((i : Int) ≤ 55) := by omega
      go_wp2_with (first
        | (go_at_call 5; refine (H1.out _ _ _ _).mono ?_; rintro e w' ⟨rfl, rfl⟩)
        | (go_at_call 6; refine (H2.out _ _ _ _).mono ?_; rintro e w' ⟨rfl, rfl⟩))
      all_goals go_ret
      all_goals exact ⟨rfl, HB.out⟩
end Go.Proofs.Ytkdepeadledpnaa.gramLoose
