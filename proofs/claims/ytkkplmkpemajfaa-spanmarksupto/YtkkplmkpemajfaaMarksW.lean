import Derived.Test.YtkkplmkpemajfaaOpen
import Derived.Test.YtkkplmkpemajfaaRefM
namespace Go.Proofs.Ytkkplmkpemajfaa.spanMarks
open Go.RowKit Go.Proofs.Ytkkplmkpemajfaa.Sp

set_option maxHeartbeats 1600000 in
set_option maxRecDepth 100000 in
theorem walk (ao : Option Addr) (s : ByteArray) (cap : Nat) (bo : Option Addr) (n bcap : Nat) (z : Nat → Int) (w : World) (h : IsBytes w ao s) (hc : s.size ≤ cap) (hs : s.size ≤ 2097152) (hz : IsInts w bo n z) (_hzb : ∀ i, z i ≤ 9223372036854775807) (_hn : n ≤ 2097152) :
    Calls Try.prog 7 #[.slice ao s.size cap, .slice bo n bcap] w fun e w' => e = .returned (.bool true) ∧ Below w.heap.size w w' := by
  have HI : Hid (IsInts w bo n z) := hz
  clear hz
  go_enter Try.func7, Try.ntmps7
  go_wp2_with fail
  refine (made_any ao s cap _ h hs).mono ?_
  rintro e w1 ⟨b, rfl, hT, hB⟩
  go_wp2_with fail
  have H1 : Hid (IsText w1 b s ∧ Below w.heap.size w w1) := ⟨hT, hB⟩
  clear hT hB
  go_loopw [6] (fun i wr => ∃ k : Nat, k ≤ n ∧ i = .int .i64 k ∧ IsText wr b s ∧ Below w.heap.size w wr) (fun i _ => n - (intOf i).toNat)
  case atStart => exact ⟨0, Nat.zero_le _, rfl, H1.out.1, H1.out.2⟩
  case round =>
    obtain ⟨k, hk, rfl, hT, hB⟩ := hrel
    by_cases hlt : k < n
    · by_cases h2 : k < 200
      · obtain ⟨g, o, rfl, hg, hcl⟩ := HI.out k hlt
        have hc1 : wr.cell? ⟨g, o + k, none⟩ = some (.int .i64 (z k)) := (hB.cell (p := ⟨g, o + k, none⟩) hg).trans hcl
        clear hcl
        go_wp2_with fail
        refine (mark_any b s _ _ hT).mono ?_
        rintro e w4 ⟨rfl, hB4⟩
        have hg' : g < wr.heap.size := Nat.lt_of_lt_of_le hg hB.size
        have hc2 : w4.cell? ⟨g, o + k, none⟩ = some (.int .i64 (z k)) := (hB4.cell (p := ⟨g, o + k, none⟩) hg').trans hc1
        have H4 : Hid (IsText w4 b s ∧ Below w.heap.size w w4) := ⟨hT.below hB4, hB.trans (hB4.mono hB.size)⟩
        clear hT hB hB4 hc1 hg'
        go_wp2_with fail
        refine (refMark_any ao s _ cap _ (h.below H4.out.2) hc hs).mono ?_
        rintro e w5 ⟨rfl, hB5⟩
        have H5 : Hid (IsText w5 b s ∧ Below w.heap.size w w5) := ⟨H4.out.1.below hB5, H4.out.2.trans (hB5.mono H4.out.2.size)⟩
        clear hB5
        go_wp2
        go_roundw
        case rel => exact ⟨k + 1, by omega, by go_num, H5.out.1, H5.out.2⟩
        case measure => simp [intOf]; omega
      · have hd : decide ((k : Int) < 200) = false := by simp; omega
        go_wp2_with fail
        refine (head_any _).mono ?_
        rintro e w6 ⟨rfl, hB6⟩
        go_wp2
        go_ret
        exact ⟨rfl, hB.trans (hB6.mono hB.size)⟩
    · have hd : decide ((k : Int) < (n : Int)) = false := by simp; omega
      go_wp2_with fail
      refine (head_any _).mono ?_
      rintro e w6 ⟨rfl, hB6⟩
      go_wp2
      go_ret
      exact ⟨rfl, hB.trans (hB6.mono hB.size)⟩
end Go.Proofs.Ytkkplmkpemajfaa.spanMarks
