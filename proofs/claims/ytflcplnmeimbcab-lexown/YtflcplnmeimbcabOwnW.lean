import Derived.Test.YtflcplnmeimbcabGrownW
import Derived.Test.YtflcplnmeimbcabLxOwnA
import Derived.Test.YtflcplnmeimbcabLxTail
import Derived.Test.YtflcplnmeimbcabLxOwnB
import Derived.Test.YtflcplnmeimbcabLxKin
import Derived.Deep.RegionWith
import Derived.Deep.QuietTactic
namespace Go.Proofs.Ytflcplnmeimbcab.lexOwn
open Go.RowKit Go.Proofs.Ytflcplnmeimbcab.Sp Go.Proofs.Ytflcplnmeimbcab.Lx

theorem errs0 : ∀ (N : Nat) (l : List Nat) (p k e i : Nat), l.length ≤ N → scan l p k = .fault e i → e = 3 ∨ e = 11 ∨ e = 12 ∨ e = 13 := by
  intro N
  induction N with
  | zero =>
    intro l p k e i hN hs
    obtain rfl : l = [] := List.length_eq_zero_iff.1 (by omega)
    rw [scan_nil rfl] at hs
    cases hs
  | succ N ih =>
    intro l p k e i hN hs
    have h3 := blk_len false l
    by_cases hm : blk false l = []
    · rw [scan_nil hm] at hs; cases hs
    · by_cases hk : k = 65536
      · rw [scan_many rfl hm hk] at hs; injection hs with h _; omega
      · cases hpc : piece (blk false l) with
        | none => rw [scan_byte rfl hm hk hpc] at hs; injection hs with h _; omega
        | some y =>
          obtain ⟨kd, n⟩ := y
          by_cases hn : kd = 2 ∧ 64 < n
          · obtain ⟨rfl, hn⟩ := hn
            rw [scan_name rfl hm hk hpc hn] at hs; injection hs with h _; omega
          · by_cases hv : 1073741824 < num kd ((blk false l).take n)
            · rw [scan_number rfl hm hk hpc hn hv] at hs; injection hs with h _; omega
            · rw [scan_tok rfl hm hk hpc hn hv] at hs
              have h1 := piece_pos hpc
              cases hr : scan ((blk false l).drop n) (p + (l.length - (blk false l).length) + n) (k + 1) with
              | ok ts => rw [hr] at hs; cases hs
              | fault e' i' =>
                rw [hr] at hs
                injection hs with hs1 hs2
                subst hs1
                exact ih _ _ (k + 1) _ _ (by simp only [List.length_drop]; omega) hr

/-- no fault, or no token -/
theorem parts_of (s : ByteArray) : (((erOf (full s) : Nat) : Int) = 0 ∧ ((atOf (full s) : Nat) : Int) = 0) ∨ ((((erOf (full s) : Nat) : Int) == 0) = false ∧ (tsOf (full s)).length = 0) := by
  cases h : full s with
  | ok ts => exact Or.inl ⟨rfl, rfl⟩
  | fault er i =>
    refine Or.inr ⟨?_, rfl⟩
    have : er ≠ 0 := by
      by_cases h1 : 1048576 < s.size
      · rw [full_long h1] at h; cases h; omega
      · rw [full_short (by omega)] at h
        unfold sc at h
        have := errs0 s.size ((tx s).drop 0) 0 0 er i (by rw [List.drop_zero, tx_len]; exact Nat.le_refl _) h
        omega
    simp only [erOf]
    simp
    omega

set_option maxHeartbeats 12800000 in
set_option maxRecDepth 100000 in
theorem walk (ao : Option Addr) (s : ByteArray) (cap : Nat) (bo : Option Addr) (r : ByteArray) (bcap : Nat) (x : Int) (w : World) (h : IsBytes w ao s) (_hc : s.size ≤ cap) (hs : s.size ≤ 140737488351232) (h2 : IsBytes w bo r) (_hc2 : r.size ≤ bcap) (hr : r.size ≤ 140737488351232) :
    Calls Try.prog 3 #[.slice ao s.size cap, .slice bo r.size bcap, .int .i64 x] w fun e w' => e = .returned (.bool true) ∧ Below w.heap.size w w' := by
  have HI : Hid (IsBytes w ao s) := h
  have HJ : Hid (IsBytes w bo r) := h2
  clear h h2
  have HPa := parts_of s
  have HPb := parts_of r
  have HNa : Hid ((tsOf (full s)).length ≤ 65537) := sc_len s
  have HNb : Hid ((tsOf (full r)).length ≤ 65537) := sc_len r
  have HSa : Hid (∀ W M, Row W M (s.size + 67) (lent s) → Calls Try.prog 5 #[.slice (some ⟨M, 0, none⟩) s.size (s.size + 67)] W fun e w' => (∃ bo bc, e = .returned (.tuple #[.slice bo (tsOf (full s)).length bc, .agg #[.int .i64 ((erOf (full s) : Nat) : Int), .int .i64 ((atOf (full s) : Nat) : Int)]]) ∧ TokRow w' W.heap.size (.slice bo (tsOf (full s)).length bc) (tsOf (full s))) ∧ Below W.heap.size W w') := fun W M hR => scan_parts _ s _ W hR.bytes (by omega)
  have HSb : Hid (∀ W M, Row W M (r.size + 67) (lent r) → Calls Try.prog 5 #[.slice (some ⟨M, 0, none⟩) r.size (r.size + 67)] W fun e w' => (∃ bo bc, e = .returned (.tuple #[.slice bo (tsOf (full r)).length bc, .agg #[.int .i64 ((erOf (full r) : Nat) : Int), .int .i64 ((atOf (full r) : Nat) : Int)]]) ∧ TokRow w' W.heap.size (.slice bo (tsOf (full r)).length bc) (tsOf (full r))) ∧ Below W.heap.size W w') := fun W M hR => scan_parts _ r _ W hR.bytes (by omega)
  generalize tsOf (full s) = ta at *
  generalize ((erOf (full s) : Nat) : Int) = Ea at *
  generalize ((atOf (full s) : Nat) : Int) = Fa at *
  generalize tsOf (full r) = tb at *
  generalize ((erOf (full r) : Nat) : Int) = Eb at *
  generalize ((atOf (full r) : Nat) : Int) = Fb at *
  have HPA : Hid ((Ea = 0 ∧ Fa = 0) ∨ ((Ea == 0) = false ∧ ta.length = 0)) := HPa
  have HPB : Hid ((Eb = 0 ∧ Fb = 0) ∨ ((Eb == 0) = false ∧ tb.length = 0)) := HPb
  clear HPa HPb
  obtain ⟨i0, hi, hz0, hz1, hz2⟩ := info_parts info25
  go_enter Try.func3, Try.ntmps3
  go_wp2_with fail
  refine (known_any _).mono ?_
  rintro e W0 ⟨rfl, hB1⟩
  have HB1 : Hid (Below w.heap.size w W0) := hB1
  clear hB1
  go_wp2_with fail
  go_loopw [7, 8] (fun a i wr => ∃ (t : Nat) (vs : List Value) (va : Option Addr) (vc : Nat), t ≤ 2 ∧ i = .int .i64 t ∧ a = .slice va (3 * t) vc ∧ St W0 wr ta tb t vs (.slice va (3 * t) vc)) (fun _ i _ => 2 - (intOf i).toNat)
  case atStart => exact ⟨0, [], none, 0, by omega, rfl, rfl, St.first W0 ta tb⟩
  case round =>
    obtain ⟨t, vs, va, vc, ht, rfl, rfl, hSt⟩ := hrel
    have HSt : Hid (St W0 wr ta tb t vs (.slice va (3 * t) vc)) := hSt
    clear hSt
    have HW : Hid (Below w.heap.size w wr) := HB1.out.trans (HSt.out.bel.mono HB1.out.size)
    by_cases ht2 : t < 2
    · have ht2' : (t : Int) < 2 := by omega
      go_wp2_with fail
      refine (lend_any ao s cap _ (HI.out.below HW.out) hs).mono ?_
      rintro e w1 ⟨rfl, hR1, hB1⟩
      have H1 : Hid (Row w1 wr.heap.size (s.size + 67) (lent s) ∧ Below wr.heap.size wr w1) := ⟨hR1, hB1⟩
      clear hR1 hB1
      go_wp2_with fail
      refine (HSa.out _ _ H1.out.1).mono ?_
      rintro e w2 ⟨⟨a1, c1, rfl, hrow1⟩, hB2⟩
      have H2 : Hid (TokRow w2 w1.heap.size (.slice a1 ta.length c1) ta ∧ Below wr.heap.size wr w2 ∧ w1.heap.size ≤ w2.heap.size ∧ wr.heap.size ≤ w1.heap.size) := ⟨hrow1, H1.out.2.trans (hB2.mono H1.out.2.size), hB2.size, H1.out.2.size⟩
      clear hrow1 hB2
      have H2a : Hid (Below w2.heap.size w2 (w2.alloc (.cells #[.int .i64 Ea, .int .i64 Fa] 28))) := (Below.refl _ _).alloc (Nat.le_refl _) _
      have H2b : Hid (Below w.heap.size w (w2.alloc (.cells #[.int .i64 Ea, .int .i64 Fa] 28))) := (HW.out.trans (H2.out.2.1.mono HW.out.size)).trans (H2a.out.mono (Nat.le_trans HW.out.size H2.out.2.1.size))
      go_wp2_with fail
      refine (lend_any ao s cap _ (HI.out.below H2b.out) hs).mono ?_
      rintro e w3 ⟨rfl, hR3, hB3⟩
      simp only [World.size_alloc] at hR3 hB3
      have H3 : Hid (Row w3 (w2.heap.size + 1) (s.size + 67) (lent s) ∧ Below (w2.heap.size + 1) (w2.alloc (.cells #[.int .i64 Ea, .int .i64 Fa] 28)) w3 ∧ w2.heap.size + 1 ≤ w3.heap.size) := ⟨hR3, hB3, by have := hB3.size; simp only [World.size_alloc] at this; exact this⟩
      clear hR3 hB3
      go_wp2_with fail
      refine (HSa.out _ _ H3.out.1).mono ?_
      rintro e w4 ⟨⟨a2, c2, rfl, hrow2⟩, hB4⟩
      have H4 : Hid (TokRow w4 w3.heap.size (.slice a2 ta.length c2) ta ∧ Below w3.heap.size w3 w4 ∧ w3.heap.size ≤ w4.heap.size) := ⟨hrow2, hB4, hB4.size⟩
      clear hrow2 hB4
      have H4a : Hid (Below w4.heap.size w4 (w4.alloc (.cells #[.int .i64 Ea, .int .i64 Fa] 28))) := (Below.refl _ _).alloc (Nat.le_refl _) _
      -- what was at the second list's making is still there
      have H24 : Hid (Below (w2.heap.size + 1) (w2.alloc (.cells #[.int .i64 Ea, .int .i64 Fa] 28)) w4) := H3.out.2.1.trans (H4.out.2.1.mono H3.out.2.2)
      have H4b : Hid (Below w.heap.size w (w4.alloc (.cells #[.int .i64 Ea, .int .i64 Fa] 28))) := by
        have z := H2b.out.size
        simp only [World.size_alloc] at z
        have y := H24.out.size
        simp only [World.size_alloc] at y
        exact (H2b.out.trans (H24.out.mono z)).trans (H4a.out.mono (by omega))
      go_wp2_with fail
      refine (lend_any bo r bcap _ (HJ.out.below H4b.out) hr).mono ?_
      rintro e w5 ⟨rfl, hR5, hB5⟩
      simp only [World.size_alloc] at hR5 hB5
      have H5 : Hid (Row w5 (w4.heap.size + 1) (r.size + 67) (lent r) ∧ Below (w4.heap.size + 1) (w4.alloc (.cells #[.int .i64 Ea, .int .i64 Fa] 28)) w5 ∧ w4.heap.size + 1 ≤ w5.heap.size) := ⟨hR5, hB5, by have := hB5.size; simp only [World.size_alloc] at this; exact this⟩
      clear hR5 hB5
      go_wp2_with fail
      refine (HSb.out _ _ H5.out.1).mono ?_
      rintro e w6 ⟨⟨a3, c3, rfl, hrow3⟩, hB6⟩
      have H6 : Hid (TokRow w6 w5.heap.size (.slice a3 tb.length c3) tb ∧ Below w5.heap.size w5 w6 ∧ w5.heap.size ≤ w6.heap.size) := ⟨hrow3, hB6, hB6.size⟩
      clear hrow3 hB6
      have H6a : Hid (Below w6.heap.size w6 (w6.alloc (.cells #[.int .i64 Eb, .int .i64 Fb] 28))) := (Below.refl _ _).alloc (Nat.le_refl _) _
      have H46 : Hid (Below (w4.heap.size + 1) (w4.alloc (.cells #[.int .i64 Ea, .int .i64 Fa] 28)) w6) := H5.out.2.1.trans (H6.out.2.1.mono H5.out.2.2)
      obtain ⟨W7, HW7⟩ : ∃ W7, Hid (W7 = w6.alloc (.cells #[.int .i64 Eb, .int .i64 Fb] 28)) := ⟨_, rfl⟩
      have HX : Hid (TokRow W7 w1.heap.size (.slice a1 ta.length c1) ta ∧ TokRow W7 w3.heap.size (.slice a2 ta.length c2) ta ∧ TokRow W7 w5.heap.size (.slice a3 tb.length c3) tb ∧ Below wr.heap.size wr W7 ∧
          W7.heap[w2.heap.size]? = some (.cells #[.int .i64 Ea, .int .i64 Fa] 28 (0, 0)) ∧ W7.heap[w4.heap.size]? = some (.cells #[.int .i64 Ea, .int .i64 Fa] 28 (0, 0)) ∧ W7.heap[w6.heap.size]? = some (.cells #[.int .i64 Eb, .int .i64 Fb] 28 (0, 0)) ∧ w6.heap.size < W7.heap.size) := by
        rw [HW7.out]
        have z2 := H2.out.2.2
        have z3 := H3.out.2.2
        have z4 := H4.out.2.2
        have z5 := H5.out.2.2
        have z6 := H6.out.2.2
        have b24 : Below w2.heap.size w2 w4 := H2a.out.trans (H24.out.mono (by omega))
        have b46 : Below w4.heap.size w4 w6 := H4a.out.trans (H46.out.mono (by omega))
        have b26 : Below w2.heap.size w2 w6 := b24.trans (b46.mono (by omega))
        refine ⟨((H2.out.1.below b26).below H6a.out), ((H4.out.1.below b46).below H6a.out), H6.out.1.below H6a.out, (H2.out.2.1.trans (b26.mono (by omega))).trans (H6a.out.mono (by omega)), ?_, ?_, heap_alloc_new w6 _, by simp only [World.size_alloc]; omega⟩
        · rw [H6a.out.block _ (by omega), b46.block _ (by omega), H24.out.block _ (by omega)]
          exact heap_alloc_new w2 _
        · rw [H6a.out.block _ (by omega), H46.out.block _ (by omega)]
          exact heap_alloc_new w4 _
      have HZ : Hid (wr.heap.size ≤ w1.heap.size ∧ w1.heap.size ≤ w2.heap.size ∧ w2.heap.size < w3.heap.size ∧ w3.heap.size ≤ w4.heap.size ∧ w4.heap.size < w5.heap.size ∧ w5.heap.size ≤ w6.heap.size) := by
        have z2 := H2.out.2.2
        have z3 := H3.out.2.2
        have z4 := H4.out.2.2
        have z5 := H5.out.2.2
        have z6 := H6.out.2.2
        refine ⟨?_, ?_, ?_, ?_, ?_, ?_⟩ <;> omega
      have HLt : Hid ((∀ g, (Value.slice a1 ta.length c1).ownBlock = some g → g < w3.heap.size) ∧ (∀ g, (Value.slice a2 ta.length c2).ownBlock = some g → g < w5.heap.size)) := by
        obtain ⟨z1, z2, z3, z4, z5, z6⟩ := HZ.out
        refine ⟨fun g e => ?_, fun g e => ?_⟩
        · have := (World.ownsRow.lt H2.out.1 g e).2; omega
        · have := (World.ownsRow.lt H4.out.1 g e).2; omega
      obtain ⟨p1, p2, p3, p4, p5, p6, p7, p8⟩ := HX.out
      rw [HW7.out] at p5 p6
      have f0 : (w6.alloc (.cells #[.int .i64 Eb, .int .i64 Fb] 28)).cell? ⟨w2.heap.size, 0, none⟩ = some (.int .i64 Ea) := by simp [World.cell?, p5]
      have f1 : (w6.alloc (.cells #[.int .i64 Eb, .int .i64 Fb] 28)).cell? ⟨w2.heap.size, 1, none⟩ = some (.int .i64 Fa) := by simp [World.cell?, p5]
      have g0 : (w6.alloc (.cells #[.int .i64 Eb, .int .i64 Fb] 28)).cell? ⟨w4.heap.size, 0, none⟩ = some (.int .i64 Ea) := by simp [World.cell?, p6]
      have g1 : (w6.alloc (.cells #[.int .i64 Eb, .int .i64 Fb] 28)).cell? ⟨w4.heap.size, 1, none⟩ = some (.int .i64 Fa) := by simp [World.cell?, p6]
      clear p1 p2 p3 p4 p5 p6 p7 p8
      go_wp2_with fail
      rw [← HW7.out]
      refine (same_any a1 a2 ta c1 c2 _ HX.out.1.read HX.out.2.1.read (by have := HNa.out; omega)).mono ?_
      rintro e w8 ⟨rfl, hB8⟩
      have H8 : Hid (Below W7.heap.size W7 w8) := hB8
      clear hB8
      have q0 : w8.cell? ⟨w2.heap.size, 0, none⟩ = some (.int .i64 Ea) := (H8.out.cell (p := ⟨w2.heap.size, 0, none⟩) (show w2.heap.size < W7.heap.size by have := HZ.out; have := HX.out.2.2.2.2.2.2.2; omega)).trans (by simp [World.cell?, HX.out.2.2.2.2.1])
      have q1 : w8.cell? ⟨w2.heap.size, 1, none⟩ = some (.int .i64 Fa) := (H8.out.cell (p := ⟨w2.heap.size, 1, none⟩) (show w2.heap.size < W7.heap.size by have := HZ.out; have := HX.out.2.2.2.2.2.2.2; omega)).trans (by simp [World.cell?, HX.out.2.2.2.2.1])
      have q2 : w8.cell? ⟨w6.heap.size, 0, none⟩ = some (.int .i64 Eb) := (H8.out.cell (p := ⟨w6.heap.size, 0, none⟩) HX.out.2.2.2.2.2.2.2).trans (by simp [World.cell?, HX.out.2.2.2.2.2.2.1])
      have q3 : w8.cell? ⟨w6.heap.size, 1, none⟩ = some (.int .i64 Fb) := (H8.out.cell (p := ⟨w6.heap.size, 1, none⟩) HX.out.2.2.2.2.2.2.2).trans (by simp [World.cell?, HX.out.2.2.2.2.2.2.1])
      have HF : Hid (∀ va' w9 o, w9.ownsRow W0.heap.size 25 1 va' (3 * t + 3) (vs ++ [.slice a1 ta.length c1, .slice a2 ta.length c2, .slice a3 tb.length c3]) → (w8.alloc o).grownBy w9 (Value.slice va (3 * t) vc).ownBlock → ∃ b9 c9, va' = .slice b9 (3 * (t + 1)) c9 ∧ St W0 w9 ta tb (t + 1) (vs ++ [.slice a1 ta.length c1, .slice a2 ta.length c2, .slice a3 tb.length c3]) (.slice b9 (3 * (t + 1)) c9)) := fun va' w9 o h1 h2 => by
        obtain ⟨z1, z2, z3, z4, z5, z6⟩ := HZ.out
        obtain ⟨p1, p2, p3, p4, _⟩ := HX.out
        have := HSt.out.push (b1 := w1.heap.size) (b2 := w3.heap.size) (b3 := w5.heap.size) (p4.trans (H8.out.mono p4.size)) (p1.below H8.out) (p2.below H8.out) (p3.below H8.out) z1 HLt.out.1 HLt.out.2 (by omega) (by omega) h1 h2
        have hf : ∃ b9 c9, va' = .slice b9 (3 * (t + 1)) c9 := by
          rcases this.all.2 with ⟨_, h0⟩ | ⟨g, c, cur, e, _⟩
          · omega
          · exact ⟨_, _, e⟩
        obtain ⟨b9, c9, rfl⟩ := hf
        exact ⟨b9, c9, rfl, this⟩
      have HS8 : Hid (St W0 w8 ta tb t vs (.slice va (3 * t) vc)) := by
        obtain ⟨p1, p2, p3, p4, _⟩ := HX.out
        exact HSt.out.below (p4.trans (H8.out.mono p4.size))
      have hbz : W0.heap.size ≤ w8.heap.size := HS8.out.bel.size
      clear f0 f1 g0 g1
      rcases HPA.out with ⟨rfl, rfl⟩ | ⟨e1, e2⟩
      · rcases HPB.out with ⟨rfl, rfl⟩ | ⟨e3, e4⟩
        · go_wp2_with (at_builtin; refine wpList_append_own _ rfl _ _ 24 rfl W0.heap.size 25 i0 (.slice none 0 0) 1 24 Try.underlying24 hi hz0 hz1 hz2 rfl (by decide) _ _ _ rfl (HS8.out.all.alloc _) ⟨w8.heap.size, 0, none⟩ 3 3 [.slice a1 ta.length c1, .slice a2 ta.length c2, .slice a3 tb.length c3] rfl rfl ?c1 ?c2 ?c3 ?c4 ?c5 ?_)
          case c1 =>
            intro j u hu
            have := Lib.cells_of_row (heap_alloc_new w8 (.cells #[.slice a1 ta.length c1, .slice a2 ta.length c2, .slice a3 tb.length c3] 25)) 3 j u (by simpa using hu)
            exact this
          case c2 => intro u hu; simp at hu; rcases hu with rfl | rfl | rfl <;> rfl
          case c3 => unfold maxLen; omega
          case c4 => omega
          case c5 => simp; omega
          intro va' w9 hO9 hg9 _
          obtain ⟨b9, c9, hv9, hS9⟩ := HF.out va' w9 _ hO9 hg9
          subst hv9
          have HS9 : Hid (St W0 w9 ta tb (t + 1) (vs ++ [.slice a1 ta.length c1, .slice a2 ta.length c2, .slice a3 tb.length c3]) (.slice b9 (3 * (t + 1)) c9)) := hS9
          clear hS9 hO9 hg9
          go_wp2_with fail
          go_roundw
          case rel => exact ⟨t + 1, _, b9, c9, by omega, by go_num, rfl, HS9.out⟩
          case measure => simp [intOf]; omega
        · have e4' : decide ((0 : Int) < (tb.length : Int)) = false := by simp only [decide_eq_false_iff_not]; omega
          have e6 : ¬ 0 < tb.length := by omega
          have HE4 : Hid (tb.length = 0) := e4
          clear e4
          go_wp2_with (at_builtin; refine wpList_append_own _ rfl _ _ 24 rfl W0.heap.size 25 i0 (.slice none 0 0) 1 24 Try.underlying24 hi hz0 hz1 hz2 rfl (by decide) _ _ _ rfl (HS8.out.all.alloc _) ⟨w8.heap.size, 0, none⟩ 3 3 [.slice a1 ta.length c1, .slice a2 ta.length c2, .slice a3 tb.length c3] rfl rfl ?c1 ?c2 ?c3 ?c4 ?c5 ?_)
          case c1 =>
            intro j u hu
            have := Lib.cells_of_row (heap_alloc_new w8 (.cells #[.slice a1 ta.length c1, .slice a2 ta.length c2, .slice a3 tb.length c3] 25)) 3 j u (by simpa using hu)
            exact this
          case c2 => intro u hu; simp at hu; rcases hu with rfl | rfl | rfl <;> rfl
          case c3 => unfold maxLen; omega
          case c4 => omega
          case c5 => simp; omega
          intro va' w9 hO9 hg9 _
          obtain ⟨b9, c9, hv9, hS9⟩ := HF.out va' w9 _ hO9 hg9
          subst hv9
          have HS9 : Hid (St W0 w9 ta tb (t + 1) (vs ++ [.slice a1 ta.length c1, .slice a2 ta.length c2, .slice a3 tb.length c3]) (.slice b9 (3 * (t + 1)) c9)) := hS9
          clear hS9 hO9 hg9
          go_wp2_with fail
          go_roundw
          case rel => exact ⟨t + 1, _, b9, c9, by omega, by go_num, rfl, HS9.out⟩
          case measure => simp [intOf]; omega
      · rcases HPB.out with ⟨rfl, rfl⟩ | ⟨e3, e4⟩
        · have e2' : decide ((0 : Int) < (ta.length : Int)) = false := by simp only [decide_eq_false_iff_not]; omega
          have e5 : ¬ 0 < ta.length := by omega
          have HE2 : Hid (ta.length = 0) := e2
          clear e2
          go_wp2_with (at_builtin; refine wpList_append_own _ rfl _ _ 24 rfl W0.heap.size 25 i0 (.slice none 0 0) 1 24 Try.underlying24 hi hz0 hz1 hz2 rfl (by decide) _ _ _ rfl (HS8.out.all.alloc _) ⟨w8.heap.size, 0, none⟩ 3 3 [.slice a1 ta.length c1, .slice a2 ta.length c2, .slice a3 tb.length c3] rfl rfl ?c1 ?c2 ?c3 ?c4 ?c5 ?_)
          case c1 =>
            intro j u hu
            have := Lib.cells_of_row (heap_alloc_new w8 (.cells #[.slice a1 ta.length c1, .slice a2 ta.length c2, .slice a3 tb.length c3] 25)) 3 j u (by simpa using hu)
            exact this
          case c2 => intro u hu; simp at hu; rcases hu with rfl | rfl | rfl <;> rfl
          case c3 => unfold maxLen; omega
          case c4 => omega
          case c5 => simp; omega
          intro va' w9 hO9 hg9 _
          obtain ⟨b9, c9, hv9, hS9⟩ := HF.out va' w9 _ hO9 hg9
          subst hv9
          have HS9 : Hid (St W0 w9 ta tb (t + 1) (vs ++ [.slice a1 ta.length c1, .slice a2 ta.length c2, .slice a3 tb.length c3]) (.slice b9 (3 * (t + 1)) c9)) := hS9
          clear hS9 hO9 hg9
          go_wp2_with fail
          go_roundw
          case rel => exact ⟨t + 1, _, b9, c9, by omega, by go_num, rfl, HS9.out⟩
          case measure => simp [intOf]; omega
        · have e2' : decide ((0 : Int) < (ta.length : Int)) = false := by simp only [decide_eq_false_iff_not]; omega
          have e4' : decide ((0 : Int) < (tb.length : Int)) = false := by simp only [decide_eq_false_iff_not]; omega
          have e5 : ¬ 0 < ta.length := by omega
          have e6 : ¬ 0 < tb.length := by omega
          have HE2 : Hid (ta.length = 0) := e2
          clear e2
          have HE4 : Hid (tb.length = 0) := e4
          clear e4
          go_wp2_with (at_builtin; refine wpList_append_own _ rfl _ _ 24 rfl W0.heap.size 25 i0 (.slice none 0 0) 1 24 Try.underlying24 hi hz0 hz1 hz2 rfl (by decide) _ _ _ rfl (HS8.out.all.alloc _) ⟨w8.heap.size, 0, none⟩ 3 3 [.slice a1 ta.length c1, .slice a2 ta.length c2, .slice a3 tb.length c3] rfl rfl ?c1 ?c2 ?c3 ?c4 ?c5 ?_)
          case c1 =>
            intro j u hu
            have := Lib.cells_of_row (heap_alloc_new w8 (.cells #[.slice a1 ta.length c1, .slice a2 ta.length c2, .slice a3 tb.length c3] 25)) 3 j u (by simpa using hu)
            exact this
          case c2 => intro u hu; simp at hu; rcases hu with rfl | rfl | rfl <;> rfl
          case c3 => unfold maxLen; omega
          case c4 => omega
          case c5 => simp; omega
          intro va' w9 hO9 hg9 _
          obtain ⟨b9, c9, hv9, hS9⟩ := HF.out va' w9 _ hO9 hg9
          subst hv9
          have HS9 : Hid (St W0 w9 ta tb (t + 1) (vs ++ [.slice a1 ta.length c1, .slice a2 ta.length c2, .slice a3 tb.length c3]) (.slice b9 (3 * (t + 1)) c9)) := hS9
          clear hS9 hO9 hg9
          go_wp2_with fail
          go_roundw
          case rel => exact ⟨t + 1, _, b9, c9, by omega, by go_num, rfl, HS9.out⟩
          case measure => simp [intOf]; omega
    · obtain rfl : t = 2 := by omega
      have hd : decide ((2 : Int) < 2) = false := rfl
      obtain ⟨ga, ca, hva⟩ : ∃ ga ca, (Value.slice va (3 * 2) vc) = .slice (some ⟨ga, 0, none⟩) 6 ca := by
        rcases HSt.out.all.2 with ⟨_, h0⟩ | ⟨g, c, cur, e, _⟩
        · omega
        · exact ⟨g, c, e⟩
      injection hva with hva1 hva2 hva3
      subst hva1 hva3
      have hlen := HSt.out.len
      have hvj : ∀ j, j < 6 → ∃ y bo bc, vs[j]? = some y ∧ y = .slice bo (if j % 3 = 2 then tb else ta).length bc := fun j hj => by
        have h1 : vs[j]? = some vs[j] := List.getElem?_eq_getElem (by omega)
        obtain ⟨bo, bc, e⟩ := (HSt.out.row j _ h1).form
        exact ⟨_, bo, bc, h1, e⟩
      obtain ⟨y0, o0, k0, l0, e0⟩ := hvj 0 (by omega)
      obtain ⟨y2, o2, k2, l2, e2⟩ := hvj 2 (by omega)
      obtain ⟨y3, o3, k3, l3, e3⟩ := hvj 3 (by omega)
      obtain ⟨y5, o5, k5, l5, e5⟩ := hvj 5 (by omega)
      have e0 : y0 = .slice o0 ta.length k0 := e0
      have e2 : y2 = .slice o2 tb.length k2 := e2
      have e3 : y3 = .slice o3 ta.length k3 := e3
      have e5 : y5 = .slice o5 tb.length k5 := e5
      subst e0 e2 e3 e5
      have HC : Hid (∀ W, Below wr.heap.size wr W → W.cell? ⟨ga, 0, none⟩ = some (.slice o0 ta.length k0) ∧ W.cell? ⟨ga, 2, none⟩ = some (.slice o2 tb.length k2) ∧ W.cell? ⟨ga, 3, none⟩ = some (.slice o3 ta.length k3) ∧ W.cell? ⟨ga, 5, none⟩ = some (.slice o5 tb.length k5) ∧ ga < W.heap.size) := fun W hb => by
        have hS := HSt.out.below hb
        have hc : ∀ j, j < 6 → W.cell? ⟨ga, j, none⟩ = vs[j]? := fun j hj => hS.all.cellAt j (by omega)
        exact ⟨(hc 0 (by omega)).trans l0, (hc 2 (by omega)).trans l2, (hc 3 (by omega)).trans l3, (hc 5 (by omega)).trans l5, (World.ownsRow.lt hS.all ga rfl).2⟩
      have HS03 : Hid (∀ W, Below wr.heap.size wr W → Calls Try.prog 7 #[.slice o0 ta.length k0, .slice o3 ta.length k3] W fun e w' => e = .returned (.bool true) ∧ Below W.heap.size W w') := fun W hb => by
        have hS := HSt.out.below hb
        exact same_any o0 o3 ta k0 k3 W (TokRow.read (hS.row 0 _ l0)) (TokRow.read (hS.row 3 _ l3)) (by have := HNa.out; omega)
      have HS25 : Hid (∀ W, Below wr.heap.size wr W → Calls Try.prog 7 #[.slice o2 tb.length k2, .slice o5 tb.length k5] W fun e w' => e = .returned (.bool true) ∧ Below W.heap.size W w') := fun W hb => by
        have hS := HSt.out.below hb
        exact same_any o2 o5 tb k2 k5 W (TokRow.read (hS.row 2 _ l2)) (TokRow.read (hS.row 5 _ l5)) (by have := HNb.out; omega)
      have HGr : Hid (∀ W, Below wr.heap.size wr W → Calls Try.prog 8 #[.slice (some ⟨ga, 0, none⟩) 6 vc] W fun e w' => e = .returned (.bool true) ∧ Below W0.heap.size W w') := fun W hb => by
        have hS := HSt.out.below hb
        obtain ⟨v, n, X, hL, hn, _⟩ := hS.lists
        refine grown_any W0.heap.size ga vc v n X W hL hS.bel.size fun j => ?_
        rw [hn j]
        have h1 := HNa.out
        have h2 := HNb.out
        split <;> omega
      clear hvj l0 l2 l3 l5
      obtain ⟨u0, u2, u3, u5, hgl⟩ := HC.out wr (Below.refl _ _)
      go_wp2_with fail
      have q0 : ∀ y : Kin wr, y.u.cell? ⟨ga, 0, none⟩ = some (.slice o0 ta.length k0) := fun y => (HC.out y.u y.ok).1
      have q2 : ∀ y : Kin wr, y.u.cell? ⟨ga, 2, none⟩ = some (.slice o2 tb.length k2) := fun y => (HC.out y.u y.ok).2.1
      have q3 : ∀ y : Kin wr, y.u.cell? ⟨ga, 3, none⟩ = some (.slice o3 ta.length k3) := fun y => (HC.out y.u y.ok).2.2.1
      have q5 : ∀ y : Kin wr, y.u.cell? ⟨ga, 5, none⟩ = some (.slice o5 tb.length k5) := fun y => (HC.out y.u y.ok).2.2.2.1
      clear u0 u2 u3 u5
      have hKin := Kin.there wr
      refine wp_region_quiet_tail (C := fun w' => ∃ y : Kin wr, w' = y.u) 20 (by kernel_rfl) (by kernel_rfl) ⟨⟨wr.drew, (Below.refl _ _).drew⟩, rfl⟩ ?_
      simp only [List.take_succ_cons, List.take_zero, List.drop_succ_cons, List.drop_zero]
      iterate 15 quiet_step ((go_at_call 7; exact kin_of (HS03.out _ (Kin.ok _))))
      iterate 5 quiet_step ((go_at_call 7; exact kin_of (HS25.out _ (Kin.ok _))))
      refine wpQuiet_nil ?_
      rintro _ ⟨z, rfl⟩
      have HGz : Hid (Calls Try.prog 8 #[.slice (some ⟨ga, 0, none⟩) 6 vc] z.u fun e w' => e = .returned (.bool true) ∧ Below W0.heap.size z.u w') := HGr.out z.u z.ok
      have HBz : Hid (Below W0.heap.size W0 z.u) := HSt.out.bel.trans (z.ok.mono HSt.out.bel.size)
      clear q0 q2 q3 q5 HC HS03 HS25 HGr hKin
      generalize z.u = wz at *
      clear z
      go_wp2_with (go_at_call 8; refine HGz.out.mono ?_; rintro e wC ⟨rfl, hBC⟩)
      · go_ret
        exact ⟨rfl, HB1.out.trans ((HBz.out.trans hBC).mono HB1.out.size)⟩
      · have HBC : Hid (Below w.heap.size w wC) := HB1.out.trans ((HBz.out.trans hBC).mono HB1.out.size)
        have h0 : ((s.size : Int) == 0) = false := by assumption
        have hs0 : 0 < s.size := Nat.pos_of_ne_zero fun e => by rw [e] at h0; exact absurd h0 (by decide)
        clear hBC HBz HGz HSa HSb HPA HPB HSt HW
        refine (lend_any ao s cap _ (HI.out.below HBC.out) hs).mono ?_
        rintro e wD ⟨rfl, hR, hB⟩
        have HMn : Hid (Mn wC wD s.size s) := ⟨rfl, hR, hB⟩
        clear hR hB
        go_wp2_with fail
        go_loopw [16] (fun i wr => ∃ (t : Nat) (s' : ByteArray), t ≤ 3 ∧ i = .int .i64 t ∧ Mn wC wr s.size s') (fun i _ => 3 - (intOf i).toNat)
        case atStart => exact ⟨0, s, by omega, rfl, HMn.out⟩
        case round =>
          obtain ⟨t, s', ht, rfl, hM⟩ := hrel
          have HM : Hid (Mn wC wr s.size s') := hM
          clear hM
          have HNk : Hid ((tsOf (full s')).length ≤ 65537) := sc_len s'
          have HSc : Hid (∀ (wB W : World), Mn wB W s.size s' → Calls Try.prog 5 #[.slice (some ⟨wB.heap.size, 0, none⟩) s.size (s.size + 67)] W fun e w' => (∃ bo bc, e = .returned (.tuple #[.slice bo (tsOf (full s')).length bc, .agg #[.int .i64 ((erOf (full s') : Nat) : Int), .int .i64 ((atOf (full s') : Nat) : Int)]]) ∧ TokRow w' W.heap.size (.slice bo (tsOf (full s')).length bc) (tsOf (full s'))) ∧ Below W.heap.size W w') := fun _ _ h => h.scan
          generalize tsOf (full s') = tk at HNk HSc
          generalize ((erOf (full s') : Nat) : Int) = Ek at HSc
          generalize ((atOf (full s') : Nat) : Int) = Fk at HSc
          by_cases ht3 : t < 3
          · have ht3' : (t : Int) < 3 := by omega
            go_wp2_with fail
            refine (HSc.out wC _ HM.out).mono ?_
            rintro e w1 ⟨⟨a1, c1, rfl, hrow1⟩, hB1⟩
            have H1 : Hid (TokRow w1 wr.heap.size (.slice a1 tk.length c1) tk ∧ Below wr.heap.size wr w1) := ⟨hrow1, hB1⟩
            clear hrow1 hB1
            have H1a : Hid (Below w1.heap.size w1 (w1.alloc (.cells #[.int .i64 Ek, .int .i64 Fk] 28))) := (Below.refl _ _).alloc (Nat.le_refl _) _
            have HM1 : Hid (Mn wC (w1.alloc (.cells #[.int .i64 Ek, .int .i64 Fk] 28)) s.size s') := (HM.out.below H1.out.2).below H1a.out
            go_wp2_with fail
            refine (HM1.out.lend hs).mono ?_
            rintro e w2 ⟨rfl, hM2⟩
            have HC2 := HSc.out _ _ hM2
            have H2b := hM2.bel
            simp only [World.size_alloc] at HC2 H2b
            have H2 : Hid (Below (w1.heap.size + 1) (w1.alloc (.cells #[.int .i64 Ek, .int .i64 Fk] 28)) w2) := H2b
            have HC3 : Hid (Calls Try.prog 5 #[.slice (some ⟨w1.heap.size + 1, 0, none⟩) s.size (s.size + 67)] w2 fun e w' => (∃ bo bc, e = .returned (.tuple #[.slice bo tk.length bc, .agg #[.int .i64 Ek, .int .i64 Fk]]) ∧ TokRow w' w2.heap.size (.slice bo tk.length bc) tk) ∧ Below w2.heap.size w2 w') := HC2
            clear HC2 H2b hM2
            go_wp2_with fail
            refine HC3.out.mono ?_
            rintro e w3 ⟨⟨a2, c2, rfl, hrow2⟩, hB3⟩
            have H3 : Hid (TokRow w3 w2.heap.size (.slice a2 tk.length c2) tk ∧ Below w2.heap.size w2 w3) := ⟨hrow2, hB3⟩
            clear hrow2 hB3 HC3
            have H3a : Hid (Below w3.heap.size w3 (w3.alloc (.cells #[.int .i64 Ek, .int .i64 Fk] 28))) := (Below.refl _ _).alloc (Nat.le_refl _) _
            obtain ⟨W4, HW4⟩ : ∃ W4, Hid (W4 = w3.alloc (.cells #[.int .i64 Ek, .int .i64 Fk] 28)) := ⟨_, rfl⟩
            have HX : Hid (TokRow W4 wr.heap.size (.slice a1 tk.length c1) tk ∧ TokRow W4 w2.heap.size (.slice a2 tk.length c2) tk ∧ Below wr.heap.size wr W4 ∧ W4.heap[w1.heap.size]? = some (.cells #[.int .i64 Ek, .int .i64 Fk] 28 (0, 0))) := by
              rw [HW4.out]
              have z1 := H1.out.2.size
              have z2 := H2.out.size
              simp only [World.size_alloc] at z2
              have z3 := H3.out.2.size
              have b13 : Below (w1.heap.size + 1) (w1.alloc (.cells #[.int .i64 Ek, .int .i64 Fk] 28)) w3 := H2.out.trans (H3.out.2.mono z2)
              have b1 : Below w1.heap.size w1 w3 := H1a.out.trans (b13.mono (by omega))
              have b : Below w1.heap.size w1 (w3.alloc (.cells #[.int .i64 Ek, .int .i64 Fk] 28)) := b1.trans (H3a.out.mono (by omega))
              refine ⟨H1.out.1.below b, H3.out.1.below H3a.out, H1.out.2.trans (b.mono z1), ?_⟩
              rw [H3a.out.block _ (by omega), b13.block _ (by omega)]
              exact heap_alloc_new w1 _
            obtain ⟨p1, p2, p3, p4⟩ := HX.out
            have HMX : Hid (Mn wC W4 s.size s') := HM.out.below p3
            rw [HW4.out] at p4
            have f0 : (w3.alloc (.cells #[.int .i64 Ek, .int .i64 Fk] 28)).cell? ⟨w1.heap.size, 0, none⟩ = some (.int .i64 Ek) := by simp [World.cell?, p4]
            have f1 : (w3.alloc (.cells #[.int .i64 Ek, .int .i64 Fk] 28)).cell? ⟨w1.heap.size, 1, none⟩ = some (.int .i64 Fk) := by simp [World.cell?, p4]
            clear p1 p2 p3 p4
            go_wp2_with fail
            rw [← HW4.out]
            refine (same_any a1 a2 tk c1 c2 _ HX.out.1.read HX.out.2.1.read (by have := HNk.out; omega)).mono ?_
            rintro e w5 ⟨rfl, hB5⟩
            have HM5 : Hid (Mn wC w5 s.size s') := HMX.out.below hB5
            clear hB5 f0 f1 HMX HX HW4 H3a H3 H2 HM1 H1a H1
            go_wp2_with fail
            refine (HSc.out wC _ HM5.out).mono ?_
            rintro e w6 ⟨⟨a3, c3, rfl, _⟩, hB6⟩
            have HM6 : Hid (Mn wC w6 s.size s') := HM5.out.below hB6
            clear hB6 HM5
            go_wp2_with fail
            have hne : Nonempty (Kin w6) := Kin.there w6
            have hk := rnd_lt x s.size hs0
            have HR : Hid (∀ y : Kin w6, Calls Try.prog 9 #[.int .i64 x, .int .i64 (s.size : Int)] y.u fun e w' => e = .returned (.int .i64 (rnd x s.size : Nat)) ∧ w' = y.u) := fun y => round_any x s.size _ y.u rfl (by omega) (by omega)
            generalize rnd x s.size = k at HR hk
            have hk' : (k : Int) < (s.size : Int) := by omega
            have hk0 : ¬ (k : Int) < 0 := by omega
            rcases (show t = 0 ∨ t = 1 ∨ t = 2 by omega) with rfl | rfl | rfl
            · refine wp_region_quiet_tail (C := fun w' => ∃ y : Kin w6, w' = y.u) 8 (by kernel_rfl) (by kernel_rfl) ⟨⟨w6.drew, (Below.refl _ _).drew⟩, rfl⟩ ?_
              simp only [List.take_succ_cons, List.take_zero, List.drop_succ_cons, List.drop_zero]
              iterate 8 quiet_step ((go_at_call 9; exact kin_same (HR.out _)))
              refine wpQuiet_nil ?_
              rintro _ ⟨z, rfl⟩
              have HMz : Hid (Mn wC z.u s.size s') := HM6.out.below z.ok
              generalize z.u = wz at *
              have y1 : wz.cell? ⟨wC.heap.size, k, none⟩ = some (.int .u8 (lent s' k)) := HMz.out.row.cell (by omega)
              have y2 : wz.frozen? ⟨wC.heap.size, k, none⟩ = false := HMz.out.row.frozen _
              go_wp2_with fail
              go_roundw
              case rel =>
                obtain ⟨s2, h2⟩ := HMz.out.store hk 55
                exact ⟨1, s2, by omega, by go_num, h2⟩
              case measure => simp [intOf]
            · refine wp_region_quiet_tail (C := fun w' => ∃ y : Kin w6, w' = y.u) 8 (by kernel_rfl) (by kernel_rfl) ⟨⟨w6.drew, (Below.refl _ _).drew⟩, rfl⟩ ?_
              simp only [List.take_succ_cons, List.take_zero, List.drop_succ_cons, List.drop_zero]
              iterate 8 quiet_step ((go_at_call 9; exact kin_same (HR.out _)))
              refine wpQuiet_nil ?_
              rintro _ ⟨z, rfl⟩
              have HMz : Hid (Mn wC z.u s.size s') := HM6.out.below z.ok
              generalize z.u = wz at *
              have y1 : wz.cell? ⟨wC.heap.size, k, none⟩ = some (.int .u8 (lent s' k)) := HMz.out.row.cell (by omega)
              have y2 : wz.frozen? ⟨wC.heap.size, k, none⟩ = false := HMz.out.row.frozen _
              go_wp2_with fail
              go_roundw
              case rel =>
                obtain ⟨s2, h2⟩ := HMz.out.store hk 123
                exact ⟨2, s2, by omega, by go_num, h2⟩
              case measure => simp [intOf]
            · refine wp_region_quiet_tail (C := fun w' => ∃ y : Kin w6, w' = y.u) 8 (by kernel_rfl) (by kernel_rfl) ⟨⟨w6.drew, (Below.refl _ _).drew⟩, rfl⟩ ?_
              simp only [List.take_succ_cons, List.take_zero, List.drop_succ_cons, List.drop_zero]
              iterate 8 quiet_step ((go_at_call 9; exact kin_same (HR.out _)))
              refine wpQuiet_nil ?_
              rintro _ ⟨z, rfl⟩
              have HMz : Hid (Mn wC z.u s.size s') := HM6.out.below z.ok
              generalize z.u = wz at *
              have y1 : wz.cell? ⟨wC.heap.size, k, none⟩ = some (.int .u8 (lent s' k)) := HMz.out.row.cell (by omega)
              have y2 : wz.frozen? ⟨wC.heap.size, k, none⟩ = false := HMz.out.row.frozen _
              go_wp2_with fail
              go_roundw
              case rel =>
                obtain ⟨s2, h2⟩ := HMz.out.store hk 32
                exact ⟨3, s2, by omega, by go_num, h2⟩
              case measure => simp [intOf]
          · obtain rfl : t = 3 := by omega
            have hd : decide ((3 : Int) < 3) = false := rfl
            go_wp2
            go_ret
            exact ⟨rfl, HBC.out.trans (HM.out.bel.mono HBC.out.size)⟩
end Go.Proofs.Ytflcplnmeimbcab.lexOwn
