import Derived.Test.YtkkplmkpemajfaaOpen
import Derived.Test.YtkkplmkpemajfaaRefC
import Derived.Deep.RegionWith
namespace Go.Proofs.Ytkkplmkpemajfaa.spanPlaces
open Go.RowKit Go.Proofs.Ytkkplmkpemajfaa.Sp

set_option maxHeartbeats 1600000 in
set_option maxRecDepth 100000 in
theorem walk (ao : Option Addr) (s : ByteArray) (cap : Nat) (bo : Option Addr) (n bcap : Nat) (z : Nat → Int) (w : World) (h : IsBytes w ao s) (hc : s.size ≤ cap) (hs : s.size ≤ 2097152) (hz : IsInts w bo n z) (hzb : ∀ i, z i ≤ 9223372036854775807) (_hn : n ≤ 2097152) :
    Calls Try.prog 6 #[.slice ao s.size cap, .slice bo n bcap] w fun e w' => e = .returned (.bool true) ∧ Below w.heap.size w w' := by
  have HI : Hid (IsInts w bo n z) := hz
  have HZ : Hid (∀ i, z i ≤ 9223372036854775807) := hzb
  clear hz hzb
  go_enter Try.func6, Try.ntmps6
  go_wp2_with fail
  refine (made_any ao s cap _ h hs).mono ?_
  rintro e w1 ⟨b, rfl, hT, hB⟩
  go_wp2_with fail
  have H1 : Hid (IsText w1 b s ∧ Below w.heap.size w w1) := ⟨hT, hB⟩
  clear hT hB
  go_loopw [6] (fun i wr => ∃ k : Nat, k ≤ n + 1 ∧ i = .int .i64 k ∧ IsText wr b s ∧ Below w.heap.size w wr) (fun i _ => n + 2 - (intOf i).toNat)
  case atStart => exact ⟨0, Nat.zero_le _, rfl, H1.out.1, H1.out.2⟩
  case round =>
    obtain ⟨k, hk, rfl, hT, hB⟩ := hrel
    by_cases hlt : k + 1 < n
    · by_cases h2 : k < 200
      · obtain ⟨g, o, rfl, hg, hcl⟩ := HI.out k (by omega)
        obtain ⟨g', o', e', _, hcl'⟩ := HI.out (k + 1) hlt
        simp at e'
        obtain ⟨rfl, rfl⟩ := e'
        have HX : Hid (z (k + 1) ≤ 9223372036854775807) := HZ.out (k + 1)
        have hc1 : wr.cell? ⟨g, o + k, none⟩ = some (.int .i64 (z k)) := (hB.cell (p := ⟨g, o + k, none⟩) hg).trans hcl
        have hc1' : wr.cell? ⟨g, o + (k + 1), none⟩ = some (.int .i64 (z (k + 1))) := (hB.cell (p := ⟨g, o + (k + 1), none⟩) hg).trans hcl'
        have hk1 : (k : Int) + 1 < (n : Int) := by omega
        have hk0 : (k : Int) < (n : Int) := by omega
        have hw1 : IntKind.i64.wrap ((k : Int) + 1) = (k : Int) + 1 := by rw [IntKind.wrap_i64]; omega
        have ht1 : ((k : Int) + 1).toNat = k + 1 := by omega
        have hk2 : (0 : Int) ≤ (k : Int) + 1 := by omega
        clear hcl hcl'
        generalize z k = y0 at *
        generalize z (k + 1) = y1 at *
        have HT : Hid (IsText wr b s ∧ Below w.heap.size w wr) := ⟨hT, hB⟩
        clear hT hB
        go_wp2
        go_region_with (go_at_call 19; refine (place_any b s y0 y1 _ (HT.out.1.below (Below.refl _ _).drew)).mono ?_; rintro e w4 ⟨rfl, hB4⟩)
        all_goals
          have hB5 : Below wr.heap.size wr w4 := (Below.refl _ _).drew.trans hB4
          have hg' : g < wr.heap.size := Nat.lt_of_lt_of_le hg HT.out.2.size
          have hc2 : w4.cell? ⟨g, o + k, none⟩ = some (.int .i64 y0) := (hB5.cell (p := ⟨g, o + k, none⟩) hg').trans hc1
          have hc2' : w4.cell? ⟨g, o + (k + 1), none⟩ = some (.int .i64 y1) := (hB5.cell (p := ⟨g, o + (k + 1), none⟩) hg').trans hc1'
          have H4 : Hid (IsText w4 b s ∧ Below w.heap.size w w4) := ⟨HT.out.1.below hB5, HT.out.2.trans (hB5.mono HT.out.2.size)⟩
          clear hB4 hB5 hc1 hc1' hg'
          go_wp2
          go_region_with (go_at_call 20; refine (refPlace_any ao s y0 y1 cap _ (h.below H4.out.2.drew) hc hs HX.out).mono ?_; rintro e w6 ⟨rfl, hB6⟩)
          all_goals
            have hB7 : Below w4.heap.size w4 w6 := (Below.refl _ _).drew.trans hB6
            have H6 : Hid (IsText w6 b s ∧ Below w.heap.size w w6) := ⟨H4.out.1.below hB7, H4.out.2.trans (hB7.mono H4.out.2.size)⟩
            clear hB6 hB7 hc2 hc2'
            go_wp2
            go_roundw
            case rel => exact ⟨k + 2, by omega, by go_num, H6.out.1, H6.out.2⟩
            case measure => simp [intOf]; omega
      · have hd : decide ((k : Int) < 200) = false := by simp; omega
        go_wp2_with fail
        refine (head_any _).mono ?_
        rintro e w6 ⟨rfl, hB6⟩
        go_wp2
        go_ret
        exact ⟨rfl, hB.trans (hB6.mono hB.size)⟩
    · have hd : decide ((k : Int) + 1 < (n : Int)) = false := by simp; omega
      go_wp2_with fail
      refine (head_any _).mono ?_
      rintro e w6 ⟨rfl, hB6⟩
      go_wp2
      go_ret
      exact ⟨rfl, hB.trans (hB6.mono hB.size)⟩
end Go.Proofs.Ytkkplmkpemajfaa.spanPlaces
