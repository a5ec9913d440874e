import Derived.Test.YtkkplmkpemajfaaOpen
namespace Go.Proofs.Ytkkplmkpemajfaa.spanLines
open Go.RowKit Go.Proofs.Ytkkplmkpemajfaa.Sp

set_option maxHeartbeats 1600000 in
set_option maxRecDepth 100000 in
theorem walk (ao : Option Addr) (s : ByteArray) (cap : Nat) (bo : Option Addr) (n bcap : Nat) (z : Nat → Int) (w : World) (h : IsBytes w ao s) (hc : s.size ≤ cap) (hs : s.size ≤ 2097152) (hz : IsInts w bo n z) (_hzb : ∀ i, z i ≤ 9223372036854775807) (_hn : n ≤ 2097152) :
    Calls Try.prog 4 #[.slice ao s.size cap, .slice bo n bcap] w fun e w' => e = .returned (.bool true) ∧ Below w.heap.size w w' := by
  have HI : Hid (IsInts w bo n z) := hz
  have HN : Hid (((brk s s.size).length + 1 : Nat) = nl s) := rfl
  clear hz
  go_enter Try.func4, Try.ntmps4
  go_wp2_with fail
  refine (made_any ao s cap _ h hs).mono ?_
  rintro e w1 ⟨b, rfl, hT, hB⟩
  go_wp2_with fail
  refine (lines_any b s _ hT).mono ?_
  rintro e w2 ⟨rfl, rfl⟩
  go_wp2_with fail
  refine (refLines_any ao s s.size cap _ (h.below hB) (Nat.le_refl _) hs).mono ?_
  rintro e w3 ⟨rfl, rfl⟩
  rw [HN.out]
  go_wp2_with fail
  have H1 : Hid (IsText w3 b s ∧ Below w.heap.size w w3) := ⟨hT, hB⟩
  clear hT hB
  go_loopw [6] (fun i wr => ∃ k : Nat, k ≤ n ∧ i = .int .i64 k ∧ IsText wr b s ∧ Below w.heap.size w wr) (fun i _ => n - (intOf i).toNat)
  case atStart => exact ⟨0, Nat.zero_le _, rfl, H1.out.1, H1.out.2⟩
  case round =>
    obtain ⟨k, hk, rfl, hT, hB⟩ := hrel
    by_cases hlt : k < n
    · by_cases h2 : k < 200
      · obtain ⟨g, o, rfl, hg, hcl⟩ := HI.out k hlt
        have hc1 : wr.cell? ⟨g, o + k, none⟩ = some (.int .i64 (z k)) := (hB.cell (p := ⟨g, o + k, none⟩) hg).trans hcl
        clear hcl
        go_wp2_with fail
        refine (lineF_any b s _ _ hT).mono ?_
        rintro e w4 ⟨rfl, hB4⟩
        have hg' : g < wr.heap.size := Nat.lt_of_lt_of_le hg hB.size
        have hc2 : w4.cell? ⟨g, o + k, none⟩ = some (.int .i64 (z k)) := (hB4.cell (p := ⟨g, o + k, none⟩) hg').trans hc1
        have H4 : Hid (IsText w4 b s ∧ Below w.heap.size w w4) := ⟨hT.below hB4, hB.trans (hB4.mono hB.size)⟩
        clear hT hB hB4 hc1 hg'
        go_wp2_with fail
        refine (refLine_any ao s _ cap _ (h.below H4.out.2) hc hs).mono ?_
        rintro e w5 ⟨rfl, rfl⟩
        go_wp2
        go_roundw
        case rel => exact ⟨k + 1, by omega, by go_num, H4.out.1, H4.out.2⟩
        case measure => simp [intOf]; omega
      · have hd : decide ((k : Int) < 200) = false := by simp; omega
        go_wp2_with fail
        refine (head_any _).mono ?_
        rintro e w6 ⟨rfl, hB6⟩
        go_wp2
        go_ret
        exact ⟨rfl, hB.trans (hB6.mono hB.size)⟩
    · have hd : decide ((k : Int) < (n : Int)) = false := by simp; omega
      go_wp2_with fail
      refine (head_any _).mono ?_
      rintro e w6 ⟨rfl, hB6⟩
      go_wp2
      go_ret
      exact ⟨rfl, hB.trans (hB6.mono hB.size)⟩
end Go.Proofs.Ytkkplmkpemajfaa.spanLines
