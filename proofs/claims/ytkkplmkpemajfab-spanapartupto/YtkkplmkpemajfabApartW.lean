import Derived.Test.YtkkplmkpemajfabOpen
namespace Go.Proofs.Ytkkplmkpemajfab.spanApart
open Go.RowKit Go.Proofs.Ytkkplmkpemajfab.Sp

/-- two texts, and what was there -/
structure Two (w0 w : World) (b1 : Nat) (s1 : ByteArray) (b2 : Nat) (s2 : ByteArray) : Prop where
  t1 : IsText w b1 s1
  t2 : IsText w b2 s2
  bel : Below w0.heap.size w0 w
theorem Two.step {w0 w w' : World} {b1 b2 : Nat} {s1 s2 : ByteArray} (h : Two w0 w b1 s1 b2 s2) (hb : Below w.heap.size w w') : Two w0 w' b1 s1 b2 s2 :=
  ⟨h.t1.below hb, h.t2.below hb, h.bel.trans (hb.mono h.bel.size)⟩

set_option maxHeartbeats 3200000 in
set_option maxRecDepth 100000 in
theorem walk (ao : Option Addr) (s1 : ByteArray) (cap1 : Nat) (co : Option Addr) (s2 : ByteArray) (cap2 : Nat) (bo : Option Addr) (n bcap : Nat) (z : Nat → Int) (w : World) (h1 : IsBytes w ao s1) (hc1 : s1.size ≤ cap1) (hs1 : s1.size ≤ 2097152)
    (h2 : IsBytes w co s2) (hc2 : s2.size ≤ cap2) (hs2 : s2.size ≤ 2097152) (hz : IsInts w bo n z) (_hzb : ∀ i, z i ≤ 9223372036854775807) (_hn : n ≤ 2097152) :
    Calls Try.prog 6 #[.slice ao s1.size cap1, .slice co s2.size cap2, .slice bo n bcap] w fun e w' => e = .returned (.bool true) ∧ Below w.heap.size w w' := by
  have HI : Hid (IsInts w bo n z) := hz
  clear hz
  go_enter Try.func6, Try.ntmps6
  go_wp2_with fail
  refine (made_any ao s1 cap1 _ h1 hs1).mono ?_
  rintro e w1 ⟨b1, rfl, hT1, hB1⟩
  go_wp2_with fail
  refine (made_any co s2 cap2 _ (h2.below hB1) hs2).mono ?_
  rintro e w2 ⟨b2, rfl, hT2, hB2⟩
  have H0 : Hid (Two w w2 b1 s1 b2 s2) := ⟨hT1.below hB2, hT2, hB1.trans (hB2.mono hB1.size)⟩
  clear hT1 hT2 hB1 hB2
  go_wp2_with fail
  go_loopw [9] (fun i wr => ∃ k : Nat, k ≤ n ∧ i = .int .i64 k ∧ Two w wr b1 s1 b2 s2) (fun i _ => n - (intOf i).toNat)
  case atStart => exact ⟨0, Nat.zero_le _, rfl, H0.out⟩
  case round =>
    obtain ⟨k, hk, rfl, hT⟩ := hrel
    have T0 : Hid (Two w wr b1 s1 b2 s2) := hT
    clear hT
    by_cases hlt : k < n
    · by_cases h100 : k < 100
      · obtain ⟨g, o, rfl, hg, hcl⟩ := HI.out k hlt
        have HC : Hid (∀ u, Below w.heap.size w u → u.cell? ⟨g, o + k, none⟩ = some (.int .i64 (z k))) := fun u hu => (hu.cell (p := ⟨g, o + k, none⟩) hg).trans hcl
        clear hcl
        generalize z k = x at *
        have hc := HC.out _ T0.out.bel
        go_wp2_with fail
        refine (spot_any b1 s1 _ _ T0.out.t1).mono ?_
        rintro e v1 ⟨rfl, hB⟩
        have T1 : Hid (Two w v1 b1 s1 b2 s2) := T0.out.step hB
        clear hB hc
        have hc := HC.out _ T1.out.bel
        go_wp2_with fail
        refine (spot_any b2 s2 _ _ T1.out.t2).mono ?_
        rintro e v2 ⟨rfl, hB⟩
        have T2 : Hid (Two w v2 b1 s1 b2 s2) := T1.out.step hB
        clear hB hc
        go_wp2_with fail
        refine (lineF_any b1 s1 _ _ T2.out.t1).mono ?_
        rintro e v3 ⟨rfl, hB⟩
        have T3 : Hid (Two w v3 b1 s1 b2 s2) := T2.out.step hB
        clear hB
        go_wp2_with fail
        refine (lineF_any b2 s2 _ _ T3.out.t2).mono ?_
        rintro e v4 ⟨rfl, hB⟩
        have T4 : Hid (Two w v4 b1 s1 b2 s2) := T3.out.step hB
        clear hB
        have hc := HC.out _ T4.out.bel
        go_wp2_with fail
        refine (spot_any b1 s1 _ _ T4.out.t1).mono ?_
        rintro e v5 ⟨rfl, hB⟩
        have T5 : Hid (Two w v5 b1 s1 b2 s2) := T4.out.step hB
        clear hB hc
        go_wp2_with fail
        refine (lineF_any b1 s1 _ _ T5.out.t1).mono ?_
        rintro e v6 ⟨rfl, hB⟩
        have T6 : Hid (Two w v6 b1 s1 b2 s2) := T5.out.step hB
        clear hB
        have hc := HC.out _ T6.out.bel
        go_wp2_with fail
        refine (refSpot_any ao s1 _ cap1 _ (h1.below T6.out.bel) hc1 hs1).mono ?_
        rintro e v7 ⟨rfl, hB⟩
        have T7 : Hid (Two w v7 b1 s1 b2 s2) := T6.out.step hB
        clear hB hc
        have hc := HC.out _ T7.out.bel
        go_wp2_with fail
        refine (refSpot_any co s2 _ cap2 _ (h2.below T7.out.bel) hc2 hs2).mono ?_
        rintro e v8 ⟨rfl, hB⟩
        have T8 : Hid (Two w v8 b1 s1 b2 s2) := T7.out.step hB
        clear hB hc
        go_wp2_with fail
        refine (refLine_any ao s1 _ cap1 _ (h1.below T8.out.bel) hc1 hs1).mono ?_
        rintro e v9 ⟨rfl, rfl⟩
        have T9 : Hid (Two w v9 b1 s1 b2 s2) := T8
        go_wp2_with fail
        refine (refLine_any co s2 _ cap2 _ (h2.below T9.out.bel) hc2 hs2).mono ?_
        rintro e v10 ⟨rfl, rfl⟩
        have T10 : Hid (Two w v10 b1 s1 b2 s2) := T9
        go_wp2
        go_roundw
        case rel => exact ⟨k + 1, by omega, by go_num, T10.out⟩
        case measure => simp [intOf]; omega
      · have hd : decide ((k : Int) < 100) = false := by simp; omega
        go_wp2_with fail
        refine (head_any _).mono ?_
        rintro e w6 ⟨rfl, hB6⟩
        go_wp2
        go_ret
        exact ⟨rfl, T0.out.bel.trans (hB6.mono T0.out.bel.size)⟩
    · have hd : decide ((k : Int) < (n : Int)) = false := by simp; omega
      go_wp2_with fail
      refine (head_any _).mono ?_
      rintro e w6 ⟨rfl, hB6⟩
      go_wp2
      go_ret
      exact ⟨rfl, T0.out.bel.trans (hB6.mono T0.out.bel.size)⟩
end Go.Proofs.Ytkkplmkpemajfab.spanApart
