import Derived.Test.YtflcplnmeimbcaaPureLexE
namespace Go.Proofs.Ytflcplnmeimbcaa.lexFronts
open Go.RowKit Go.Proofs.Ytflcplnmeimbcaa.Sp Go.Proofs.Ytflcplnmeimbcaa.Lx

theorem front_size (s : ByteArray) (q : Nat) (h : q ≤ s.size) : (s.extract 0 q).size = q := by simp [ByteArray.size_extract]; omega

set_option maxHeartbeats 3200000 in
set_option maxRecDepth 100000 in
theorem walk (ao : Option Addr) (s : ByteArray) (cap : Nat) (x : Int) (w : World) (h : IsBytes w ao s) (hc : s.size ≤ cap) (hs : s.size ≤ 140737488351232) :
    Calls Try.prog 8 #[.slice ao s.size cap, .int .i64 x] w fun e w' => e = .returned (.bool true) ∧ Below w.heap.size w w' := by
  have HI : Hid (IsBytes w ao s) := h
  clear h
  have HSC : Hid (∀ W n, IsBytes W ao s → n ≤ s.size → Calls Try.prog 11 #[.slice ao n cap] W fun e w' => (∃ bo bc, e = .returned (.tuple #[.slice bo (tsOf (full (s.extract 0 n))).length bc, .agg #[.int .i64 (erOf (full (s.extract 0 n)) : Nat), .int .i64 (atOf (full (s.extract 0 n)) : Nat)]]) ∧ TokRow w' W.heap.size (.slice bo (tsOf (full (s.extract 0 n))).length bc) (tsOf (full (s.extract 0 n)))) ∧ Below W.heap.size W w') := fun W n hb hn =>
    scan_at ao (s.extract 0 n) n cap W (front_size s n hn).symm (hb.front n hn) (by rw [front_size s n hn]; omega)
  have hsl : ∀ (n : Nat), n ≤ cap → ∀ W, (Instr.slice 22 (.slice ao s.size cap) none (some (.int .i64 (n : Int))) none).run Try.prog W = .ok (.slice ao n cap) W := fun n hn W => front_any Try.underlying22 ao s.size cap n hn W
  have HSL : Hid (∀ (n : Nat), n ≤ cap → ∀ W, (Instr.slice 22 (.slice ao s.size cap) none (some (.int .i64 (n : Int))) none).run Try.prog W = .ok (.slice ao n cap) W) := hsl
  clear hsl
  by_cases hlong : 1048576 < s.size
  · have HF : Hid (full s = .fault 2 0) := full_long hlong
    have hlg : (1048576 : Int) < (s.size : Int) := by omega
    go_enter Try.func8, Try.ntmps8
    go_wp2_with fail
    refine (known_any _).mono ?_
    rintro e w1 ⟨rfl, hB1⟩
    have HB1 : Hid (Below w.heap.size w w1) := hB1
    clear hB1
    go_wp2_with fail
    refine (scan_parts ao s cap _ (HI.out.below HB1.out) hc).mono ?_
    rintro e w2 ⟨⟨a1, c1, rfl, hrow1⟩, hB2⟩
    have HB2 : Hid (Below w.heap.size w w2) := HB1.out.trans (hB2.mono HB1.out.size)
    clear hB2 hrow1
    rw [HF.out]
    simp only [erOf, atOf]
    go_wp2
    go_ret
    exact ⟨rfl, HB2.out.alloc HB2.out.size _⟩
  · have hs2 : s.size ≤ 1048576 := by omega
    -- how far, and what is known of it
    obtain ⟨n, er, fa, HN⟩ : ∃ n er fa : Nat, Hid (n ≤ s.size ∧ erOf (full s) = er ∧ atOf (full s) = fa ∧ ((er = 0 ∧ fa = 0 ∧ n = s.size) ∨ ((er = 3 ∨ er = 11 ∨ er = 12 ∨ er = 13) ∧ n = fa)) ∧ (er = 0 → tsOf (full (s.extract 0 n)) = tsOf (full s)) ∧ erOf (full (s.extract 0 n)) = 0 ∧ atOf (full (s.extract 0 n)) = 0 ∧
        ∀ q, q ≤ n → (erOf (full (s.extract 0 q)) = 0 ∧ atOf (full (s.extract 0 q)) = 0) ∨ (1 ≤ q ∧ erOf (full (s.extract 0 q)) = 11 ∧ atOf (full (s.extract 0 q)) = q - 1)) := by
      cases hF : full s with
      | ok ts =>
        refine ⟨s.size, 0, 0, Nat.le_refl _, rfl, rfl, Or.inl ⟨rfl, rfl, rfl⟩, fun _ => by rw [extract_all, hF], by rw [extract_all, hF]; rfl, by rw [extract_all, hF]; rfl, fun q hq => full_front hs2 q (by rw [hF]; exact hq)⟩
      | fault er i =>
        obtain ⟨h1, h2, ts, h3⟩ := full_fault hs2 hF
        refine ⟨i, er, i, by omega, rfl, rfl, Or.inr ⟨h1, rfl⟩, fun h => by omega, by rw [h3]; rfl, by rw [h3]; rfl, fun q hq => full_front hs2 q (by rw [hF]; show 0 + q ≤ i; omega)⟩
    have hn := HN.out.1
    have hd2 : ((er : Int) == 2) = false := by
      have := HN.out.2.2.2.1
      simp; omega
    have HL : Hid ((tsOf (full s)).length ≤ 65537) := sc_len s
    have hr0 := rnd_lt x (n + 1) (by omega)
    obtain ⟨k, HK⟩ : ∃ k, Hid (k = rnd x (n + 1)) := ⟨_, rfl⟩
    rw [← HK.out] at hr0
    have hk : k ≤ n := by omega
    clear hr0
    have hsn := HSL.out n (by omega)
    have hsk := HSL.out k (by omega)
    go_enter Try.func8, Try.ntmps8
    go_wp2_with fail
    refine (known_any _).mono ?_
    rintro e w1 ⟨rfl, hB1⟩
    have HB1 : Hid (Below w.heap.size w w1) := hB1
    clear hB1
    go_wp2_with fail
    refine (scan_parts ao s cap _ (HI.out.below HB1.out) hc).mono ?_
    rintro e w2 ⟨⟨a1, c1, rfl, hrow1⟩, hB2⟩
    have HB2 : Hid (Below w.heap.size w w2) := HB1.out.trans (hB2.mono HB1.out.size)
    have HR1 : Hid (TokRow w2 w1.heap.size (.slice a1 (tsOf (full s)).length c1) (tsOf (full s))) := hrow1
    clear hB2 hrow1
    rw [HN.out.2.1, HN.out.2.2.1]
    have H3 : Hid (Below w2.heap.size w2 (w2.alloc (.cells #[.int .i64 er, .int .i64 fa] 28))) := (Below.refl _ _).alloc (Nat.le_refl _) _
    have HS2 := HN.out.2.2.2.1
    have HE : Hid (erOf (full (s.extract 0 n)) = 0 ∧ atOf (full (s.extract 0 n)) = 0) := ⟨HN.out.2.2.2.2.2.1, HN.out.2.2.2.2.2.2.1⟩
    have HQ3 : Hid ((erOf (full (s.extract 0 k)) = 0 ∧ atOf (full (s.extract 0 k)) = 0) ∨ (1 ≤ k ∧ erOf (full (s.extract 0 k)) = 11 ∧ atOf (full (s.extract 0 k)) = k - 1)) := HN.out.2.2.2.2.2.2.2 k hk
    have HTS : Hid (er = 0 → tsOf (full (s.extract 0 n)) = tsOf (full s)) := HN.out.2.2.2.2.1
    clear hn
    obtain ⟨ts, HTs⟩ : ∃ ts, Hid (ts = tsOf (full s)) := ⟨_, rfl⟩
    rw [← HTs.out] at HR1 HL HTS ⊢
    obtain ⟨tn, HTn⟩ : ∃ tn, Hid (tn = tsOf (full (s.extract 0 n))) := ⟨_, rfl⟩
    rw [← HTn.out] at HTS
    have hn : n ≤ s.size := HN.out.1
    have HSn : Hid (∀ W, IsBytes W ao s → Calls Try.prog 11 #[.slice ao n cap] W fun e w' => (∃ bo bc, e = .returned (.tuple #[.slice bo tn.length bc, .agg #[.int .i64 0, .int .i64 0]]) ∧ TokRow w' W.heap.size (.slice bo tn.length bc) tn) ∧ Below W.heap.size W w') := fun W hb => by
      have := HSC.out W n hb hn
      rw [HE.out.1, HE.out.2, ← HTn.out] at this
      exact this
    obtain ⟨te, he3, ha3, HSk⟩ : ∃ (te : List Tok) (he3 ha3 : Int), Hid (((he3 = 0 ∧ ha3 = 0) ∨ (1 ≤ k ∧ he3 = 11 ∧ ha3 = (k : Int) - 1)) ∧ ∀ W, IsBytes W ao s → Calls Try.prog 11 #[.slice ao k cap] W fun e w' => (∃ bo bc, e = .returned (.tuple #[.slice bo te.length bc, .agg #[.int .i64 he3, .int .i64 ha3]]) ∧ TokRow w' W.heap.size (.slice bo te.length bc) te) ∧ Below W.heap.size W w') :=
      ⟨_, _, _, by have := HQ3.out; omega, fun W hb => HSC.out W k hb (by omega)⟩
    have HKr : Hid (∀ W, Calls Try.prog 15 #[.int .i64 x, .int .i64 ((n : Int) + 1)] W fun e w' => e = .returned (.int .i64 (k : Nat)) ∧ w' = W) := fun W => by
      rw [HK.out]
      exact round_any x (n + 1) _ W (by omega) (by omega) (by omega)
    have HER : Hid ((er = 0 ∧ fa = 0 ∧ n = s.size) ∨ ((er = 3 ∨ er = 11 ∨ er = 12 ∨ er = 13) ∧ n = fa)) := HS2
    clear HS2 HN HE HQ3 HSC HSL
    have body : ∀ (b1 : Bool), Hid (((er : Int) == 0) = b1) → True := fun _ _ => trivial
    clear body
    rcases HER.out with ⟨rfl, rfl, rfl⟩ | ⟨her, rfl⟩
    · obtain rfl : tn = ts := HTS.out rfl
      go_wp2_with fail
      refine (HSn.out _ ((HI.out.below HB2.out).below H3.out)).mono ?_
      rintro e w3 ⟨⟨a2, c2, rfl, hrow2⟩, hB3⟩
      simp only [World.size_alloc] at hrow2 hB3
      have hz3 := hB3.size
      simp only [World.size_alloc] at hz3
      have f0 : w3.heap[w2.heap.size]? = some (.cells #[.int .i64 0, .int .i64 0] 28 (0, 0)) := (hB3.block w2.heap.size (by omega)).trans (heap_alloc_new w2 _)
      have HB3 : Hid (Below w.heap.size w w3) := (HB2.out.trans (H3.out.mono HB2.out.size)).trans (hB3.mono (by have := HB2.out.size; omega))
      have HR1' : Hid (TokRow w3 w1.heap.size (.slice a1 tn.length c1) tn) := (HR1.out.below H3.out).below (by simpa using hB3)
      have HR2 : Hid (TokRow w3 (w2.heap.size + 1) (.slice a2 tn.length c2) tn) := hrow2
      clear hB3 hrow2
      have H4 : Hid (Below w3.heap.size w3 (w3.alloc (.cells #[.int .i64 0, .int .i64 0] 28))) := (Below.refl _ _).alloc (Nat.le_refl _) _
      go_wp2_with fail
      refine (HKr.out _).mono ?_
      rintro e w3b ⟨rfl, rfl⟩
      go_wp2_with fail
      refine (HSk.out.2 _ ((HI.out.below HB3.out).below H4.out)).mono ?_
      rintro e w4 ⟨⟨a3, c3, rfl, hrow3⟩, hB4⟩
      clear hrow3
      simp only [World.size_alloc] at hB4
      have hz4 := hB4.size
      simp only [World.size_alloc] at hz4
      have g0 : w4.heap[w3.heap.size]? = some (.cells #[.int .i64 0, .int .i64 0] 28 (0, 0)) := (hB4.block w3.heap.size (by omega)).trans (heap_alloc_new w3 _)
      have f1 : w4.heap[w2.heap.size]? = some (.cells #[.int .i64 0, .int .i64 0] 28 (0, 0)) := ((hB4.block w2.heap.size (by omega)).trans (Below.heap_alloc w3 _ _ (by omega))).trans f0
      have H5 : Hid (Below w3.heap.size w3 w4) := H4.out.trans (hB4.mono (by omega))
      have H6 : Hid (Below w4.heap.size w4 (w4.alloc (.cells #[.int .i64 he3, .int .i64 ha3] 28))) := (Below.refl _ _).alloc (Nat.le_refl _) _
      have HB4 : Hid (Below w.heap.size w (w4.alloc (.cells #[.int .i64 he3, .int .i64 ha3] 28))) := (HB3.out.trans (H5.out.mono HB3.out.size)).alloc (Nat.le_trans HB3.out.size H5.out.size) _
      have k1 : (w4.alloc (.cells #[.int .i64 he3, .int .i64 ha3] 28)).cell? ⟨w2.heap.size, 0, none⟩ = some (.int .i64 0) := by rw [World.cell?_alloc_past _ _ _ (show w2.heap.size < w4.heap.size by omega)]; simp [World.cell?, f1]
      have k2 : (w4.alloc (.cells #[.int .i64 he3, .int .i64 ha3] 28)).cell? ⟨w2.heap.size, 1, none⟩ = some (.int .i64 0) := by rw [World.cell?_alloc_past _ _ _ (show w2.heap.size < w4.heap.size by omega)]; simp [World.cell?, f1]
      have k3 : (w4.alloc (.cells #[.int .i64 he3, .int .i64 ha3] 28)).cell? ⟨w3.heap.size, 0, none⟩ = some (.int .i64 0) := by rw [World.cell?_alloc_past _ _ _ (show w3.heap.size < w4.heap.size by omega)]; simp [World.cell?, g0]
      have k4 : (w4.alloc (.cells #[.int .i64 he3, .int .i64 ha3] 28)).cell? ⟨w3.heap.size, 1, none⟩ = some (.int .i64 0) := by rw [World.cell?_alloc_past _ _ _ (show w3.heap.size < w4.heap.size by omega)]; simp [World.cell?, g0]
      have HT1 : Hid (IsToks (w4.alloc (.cells #[.int .i64 he3, .int .i64 ha3] 28)) a1 tn) := ((HR1'.out.below H5.out).below H6.out).read
      have HT2 : Hid (IsToks (w4.alloc (.cells #[.int .i64 he3, .int .i64 ha3] 28)) a2 tn) := ((HR2.out.below H5.out).below H6.out).read
      clear hB4 f0 f1 g0
      rcases HSk.out.1 with ⟨rfl, rfl⟩ | ⟨hk1, rfl, rfl⟩
      · go_wp2_with fail
        refine (same_any a1 a2 tn c1 c2 _ HT1.out HT2.out (by have := HL.out; omega)).mono ?_
        rintro e w6 ⟨rfl, hB6⟩
        have HB6 : Hid (Below w.heap.size w w6) := HB4.out.trans (hB6.mono HB4.out.size)
        clear hB6
        go_wp2
        go_ret
        exact ⟨rfl, HB6.out⟩
      · go_wp2_with fail
        refine (same_any a1 a2 tn c1 c2 _ HT1.out HT2.out (by have := HL.out; omega)).mono ?_
        rintro e w6 ⟨rfl, hB6⟩
        have HB6 : Hid (Below w.heap.size w w6) := HB4.out.trans (hB6.mono HB4.out.size)
        clear hB6
        go_wp2
        go_ret
        exact ⟨rfl, HB6.out⟩
    · have hne0 : ((er : Int) == 0) = false := by simp; omega
      have hne1 : ((er : Int) != 0) = true := by simp; omega
      go_wp2_with fail
      refine (HSn.out _ ((HI.out.below HB2.out).below H3.out)).mono ?_
      rintro e w3 ⟨⟨a2, c2, rfl, hrow2⟩, hB3⟩
      simp only [World.size_alloc] at hrow2 hB3
      have hz3 := hB3.size
      simp only [World.size_alloc] at hz3
      have f0 : w3.heap[w2.heap.size]? = some (.cells #[.int .i64 er, .int .i64 n] 28 (0, 0)) := (hB3.block w2.heap.size (by omega)).trans (heap_alloc_new w2 _)
      have HB3 : Hid (Below w.heap.size w w3) := (HB2.out.trans (H3.out.mono HB2.out.size)).trans (hB3.mono (by have := HB2.out.size; omega))
      have HR1' : Hid (TokRow w3 w1.heap.size (.slice a1 ts.length c1) ts) := (HR1.out.below H3.out).below (by simpa using hB3)
      have HR2 : Hid (TokRow w3 (w2.heap.size + 1) (.slice a2 tn.length c2) tn) := hrow2
      clear hB3 hrow2
      have H4 : Hid (Below w3.heap.size w3 (w3.alloc (.cells #[.int .i64 0, .int .i64 0] 28))) := (Below.refl _ _).alloc (Nat.le_refl _) _
      go_wp2_with fail
      refine (HKr.out _).mono ?_
      rintro e w3b ⟨rfl, rfl⟩
      go_wp2_with fail
      refine (HSk.out.2 _ ((HI.out.below HB3.out).below H4.out)).mono ?_
      rintro e w4 ⟨⟨a3, c3, rfl, hrow3⟩, hB4⟩
      clear hrow3
      simp only [World.size_alloc] at hB4
      have hz4 := hB4.size
      simp only [World.size_alloc] at hz4
      have g0 : w4.heap[w3.heap.size]? = some (.cells #[.int .i64 0, .int .i64 0] 28 (0, 0)) := (hB4.block w3.heap.size (by omega)).trans (heap_alloc_new w3 _)
      have f1 : w4.heap[w2.heap.size]? = some (.cells #[.int .i64 er, .int .i64 n] 28 (0, 0)) := ((hB4.block w2.heap.size (by omega)).trans (Below.heap_alloc w3 _ _ (by omega))).trans f0
      have H5 : Hid (Below w3.heap.size w3 w4) := H4.out.trans (hB4.mono (by omega))
      have H6 : Hid (Below w4.heap.size w4 (w4.alloc (.cells #[.int .i64 he3, .int .i64 ha3] 28))) := (Below.refl _ _).alloc (Nat.le_refl _) _
      have HB4 : Hid (Below w.heap.size w (w4.alloc (.cells #[.int .i64 he3, .int .i64 ha3] 28))) := (HB3.out.trans (H5.out.mono HB3.out.size)).alloc (Nat.le_trans HB3.out.size H5.out.size) _
      have k1 : (w4.alloc (.cells #[.int .i64 he3, .int .i64 ha3] 28)).cell? ⟨w2.heap.size, 0, none⟩ = some (.int .i64 er) := by rw [World.cell?_alloc_past _ _ _ (show w2.heap.size < w4.heap.size by omega)]; simp [World.cell?, f1]
      have k2 : (w4.alloc (.cells #[.int .i64 he3, .int .i64 ha3] 28)).cell? ⟨w2.heap.size, 1, none⟩ = some (.int .i64 n) := by rw [World.cell?_alloc_past _ _ _ (show w2.heap.size < w4.heap.size by omega)]; simp [World.cell?, f1]
      have k3 : (w4.alloc (.cells #[.int .i64 he3, .int .i64 ha3] 28)).cell? ⟨w3.heap.size, 0, none⟩ = some (.int .i64 0) := by rw [World.cell?_alloc_past _ _ _ (show w3.heap.size < w4.heap.size by omega)]; simp [World.cell?, g0]
      have k4 : (w4.alloc (.cells #[.int .i64 he3, .int .i64 ha3] 28)).cell? ⟨w3.heap.size, 1, none⟩ = some (.int .i64 0) := by rw [World.cell?_alloc_past _ _ _ (show w3.heap.size < w4.heap.size by omega)]; simp [World.cell?, g0]
      clear hB4 f0 f1 g0
      rcases HSk.out.1 with ⟨rfl, rfl⟩ | ⟨hk1, rfl, rfl⟩
      · go_wp2
        go_ret
        exact ⟨rfl, HB4.out⟩
      · go_wp2
        go_ret
        exact ⟨rfl, HB4.out⟩
end Go.Proofs.Ytflcplnmeimbcaa.lexFronts
