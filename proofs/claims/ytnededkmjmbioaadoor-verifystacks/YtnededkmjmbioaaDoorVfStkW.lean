import Derived.Test.YtnededkmjmbioaaDoorVfHead
import Derived.Test.YtnededkmjmbioaaDoorVfMk
import Derived.Test.YtnededkmjmbioaaDoorVfStk
namespace Go.Proofs.YtnededkmjmbioaaDoor.Vf
open Go.RowKit Go.Proofs.YtnededkmjmbioaaDoor.Nm
theorem sk_cd (n m : Nat) : (skP n m).cd = (List.range (n + m + 2)).map (skI n m) := rfl
/-- the first j instructions -/
def skL (n m j : Nat) : List Ins := (List.range j).map (skI n m)
theorem skL_len (n m j : Nat) : (skL n m j).length = j := by unfold skL; simp
theorem skL_succ (n m j : Nat) : skL n m (j + 1) = skL n m j ++ [skI n m j] := by unfold skL; rw [List.range_succ, List.map_append]; rfl
/-- what Run and Heights tell of the row, in one form -/
structure SkO (N m : Nat) (fe ft : Int) (nh : Nat) (h : Nat → Int) : Prop where
  run : ∀ (v : PV) (W : World), IsPg W v (skP N m) → Ef W → Calls Tryd.prog 11 #[.agg (pvC v (skP N m))] W fun e w' => ∃ o1 n1 m1 cm, e = .returned (.tuple #[.agg #[.slice o1 n1 m1, .int .i64 cm], .agg #[.int .i64 fe, .int .i64 ft]]) ∧ Below W.heap.size W w'
  hts : ∀ (v : PV) (W : World), IsPg W v (skP N m) → Ef W → Calls Tryd.prog 15 #[.agg (pvC v (skP N m))] W fun e w' => ∃ b, e = .returned (.tuple #[.slice (some ⟨b, 0, none⟩) nh nh, .agg #[.int .i64 fe, .int .i64 ft]]) ∧ Below W.heap.size W w' ∧ ∀ k, k < nh → w'.cell? ⟨b, k, none⟩ = some (.int .i64 (h k)) ∧ b < w'.heap.size
theorem sk_oErr {N m : Nat} {e : Nat} {n : Int} (h : judge (skP N m) = .error (e, n)) : SkO N m (e : Int) n 0 (fun _ => 0) := by
  refine ⟨fun v W hP hE => (run_any v _ W hP hE).mono ?_, fun v W hP hE => (heights_any v _ W hP hE).mono ?_⟩
  · rintro r w' hr
    exact ⟨_, _, _, _, hr.err e n h, hr.bel⟩
  · rintro r w' hr
    obtain ⟨b, hb, -⟩ := hr.err e n h
    exact ⟨b, hb, hr.bel, fun k hk => absurd hk (by omega)⟩
theorem sk_oOk {N m : Nat} (hN : N = m + 1) (hb : N ≤ 256) : SkO N m 0 0 (N + m + 2) (fun k => (skH N m k : Int)) := by
  obtain ⟨g, hg, hs⟩ := sk_ok N m hN hb
  refine ⟨fun v W hP hE => (run_any v _ W hP hE).mono ?_, fun v W hP hE => (heights_any v _ W hP hE).mono ?_⟩
  · rintro r w' hr
    obtain ⟨b, h1, -, -⟩ := hr.ok g hg
    exact ⟨_, _, _, _, h1, hr.bel⟩
  · rintro r w' hr
    obtain ⟨b, h1, -, h2⟩ := hr.ok g hg
    rw [sk_len] at h1 h2
    refine ⟨b, h1, hr.bel, fun k hk => ⟨cell_of h2 ?_, blk_lt h2⟩⟩
    rw [fuC_at hk]
    unfold hgt
    rw [hs k hk]
    simp [skS]
theorem sk_out {N m : Nat} (hN : 0 < N) (hs : N + m ≤ 10000) : ∃ fe ft nh h, SkO N m fe ft nh h ∧ ((fe = 0 ∧ ft = 0 ∧ nh = N + m + 2 ∧ h = (fun k => (skH N m k : Int)) ∧ N ≤ 256 ∧ N = m + 1) ∨ (nh = 0 ∧ fe = 93 ∧ ((256 < N ∧ ft = 256) ∨ (N ≤ 256 ∧ N ≤ m ∧ ft = (N : Int) + N - 1) ∨ (N ≤ 256 ∧ m + 1 < N ∧ ft = (N : Int) + m + 1)))) := by
  by_cases h1 : 256 < N
  · exact ⟨_, _, _, _, sk_oErr (sk_big N m h1 hs), .inr ⟨rfl, rfl, .inl ⟨h1, rfl⟩⟩⟩
  · by_cases h2 : N ≤ m
    · exact ⟨_, _, _, _, sk_oErr (sk_few N m h2 hN (by omega) hs), .inr ⟨rfl, rfl, .inr (.inl ⟨by omega, h2, by omega⟩)⟩⟩
    · by_cases h3 : m + 1 < N
      · exact ⟨_, _, _, _, sk_oErr (sk_many N m h3 (by omega) hs), .inr ⟨rfl, rfl, .inr (.inr ⟨by omega, h3, by omega⟩)⟩⟩
      · exact ⟨_, _, _, _, sk_oOk (by omega) (by omega), .inl ⟨rfl, rfl, rfl, rfl, by omega, by omega⟩⟩
set_option maxHeartbeats 12800000 in
set_option maxRecDepth 100000 in
theorem stacksWalk (a : Int) (_ : -9223372036854775808 ≤ a) (_ : a ≤ 9223372036854775807) (b : Int) (_ : -9223372036854775808 ≤ b) (_ : b ≤ 9223372036854775807) (w : World) (hE : Ef w) :
    Calls Tryd.prog 7 #[.int .i64 a, .int .i64 b] w fun e w' => e = .returned (.bool true) ∧ Below w.heap.size w w' := by
  have HEf : Hid (∀ W, Below w.heap.size w W → Ef W) := fun W hb => hE.below hb
  have HHd : Hid (∀ W, Below w.heap.size w W → Calls Tryd.prog 8 #[] W fun e w' => e = .returned (.bool true) ∧ Below W.heap.size W w') := fun W hb => head_any W (hE.below hb)
  have HWa : Hid (∀ W, Calls Tryd.prog 18 #[.int .i64 a, .int .i64 300] W fun r w' => r = .returned (.int .i64 (wtn a 300 : Nat)) ∧ w' = W) := fun W => wtn_any a 300 (by omega) (by omega) W
  have HWb : Hid (∀ W, Calls Tryd.prog 18 #[.int .i64 b, .int .i64 5] W fun r w' => r = .returned (.int .i64 (wtn b 5 : Nat)) ∧ w' = W) := fun W => wtn_any b 5 (by omega) (by omega) W
  have hN0 := wtn_lt a (n := 300) (by omega)
  have hz0 := wtn_lt b (n := 5) (by omega)
  clear hE
  generalize wtn a 300 = N0 at *
  generalize wtn b 5 = lz at *
  have hN0' : (N0 : Int) < 300 := by omega
  have hz0' : (lz : Int) < 5 := by omega
  go_enter Tryd.func7, Tryd.ntmps7
  go_wp2_with fail
  refine (HWa.out _).mono ?_
  rintro e w1 ⟨rfl, rfl⟩
  go_wp2_with fail
  refine (HWb.out _).mono ?_
  rintro e w1 ⟨rfl, rfl⟩
  go_upto_region 3 with fail
  obtain ⟨N, hN, hN1, hN2⟩ : ∃ N : Nat, (1 + (N0 : Int)) = (N : Int) ∧ 1 ≤ (N : Int) ∧ (N : Int) ≤ 300 := ⟨N0 + 1, by omega, by omega, by omega⟩
  rw [hN]
  obtain ⟨L, hL, hL1, hL2⟩ : ∃ L : Int, ((lz : Int) - 2) = L ∧ -2 ≤ L ∧ L ≤ 2 := ⟨_, rfl, by omega, by omega⟩
  rw [hL]
  obtain ⟨m, hm⟩ : ∃ m : Nat, m = ((N : Int) - 1 - L).toNat := ⟨_, rfl⟩
  have HM : Hid (m = ((N : Int) - 1 - L).toNat) := hm
  clear hN hL hN0' hz0' hN0 hz0 HWa HWb hm
  go_wp2_with fail
  refine (small_any _).mono ?_
  rintro e w2 ⟨hb2, qa, qb, qc, rfl, -, -, -, hp2⟩
  have HA0 : Hid _ := al2 w2 (.cells #[.slice (some ⟨qa, 0, none⟩) 1 1, .slice (some ⟨w2.heap.size + 1, 0, none⟩) 1 1, .slice none 0 0, .slice (some ⟨qb, 0, none⟩) 1 1, .int .i64 0, .slice none 0 0] 28) (.cells #[.int .i64 0, .int .i64 0, .int .i64 0] 49)
  have HB2 : Hid (Below w1.heap.size w1 w2) := hb2
  have HP2 : Hid (IsPg w2 ⟨some ⟨qa, 0, none⟩, 1, none, 0, none, 0, some ⟨qb, 0, none⟩, 1, some ⟨qc, 0, none⟩, 2⟩ smP) := hp2
  clear hb2 hp2
  go_upto_region 7 with fail
  generalize ((w2.alloc (.cells #[.slice (some ⟨qa, 0, none⟩) 1 1, .slice (some ⟨w2.heap.size + 1, 0, none⟩) 1 1, .slice none 0 0, .slice (some ⟨qb, 0, none⟩) 1 1, .int .i64 0, .slice none 0 0] 28)).alloc (.cells #[.int .i64 0, .int .i64 0, .int .i64 0] 49)) = W0 at *
  have hbw : Below w1.heap.size w1 W0 := bel_step HB2.out HA0.out.1
  have hp0 := HP2.out.below HA0.out.1
  obtain ⟨lqa, lqb⟩ : qa < w2.heap.size ∧ qb < w2.heap.size := by
    obtain ⟨g1, f1, e1, h1, -⟩ := HP2.out.gh 0 _ rfl
    obtain ⟨g2, f2, e2, h2, -⟩ := HP2.out.on 0 _ rfl
    cases e1
    cases e2
    exact ⟨h1, h2⟩
  have H0 : Hid (Below w1.heap.size w1 W0 ∧ W0.heap[w2.heap.size]? = some (.cells #[.slice (some ⟨qa, 0, none⟩) 1 1, .slice (some ⟨w2.heap.size + 1, 0, none⟩) 1 1, .slice none 0 0, .slice (some ⟨qb, 0, none⟩) 1 1, .int .i64 0, .slice none 0 0] 28 (0, 0)) ∧ Rd W0 (some ⟨w2.heap.size + 1, 0, none⟩) (vC [(0, 0, 0)]) ∧ Rd W0 (some ⟨qa, 0, none⟩) (bC [false]) ∧ Rd W0 (some ⟨qb, 0, none⟩) (iC [-1])) := ⟨hbw, HA0.out.2.1, rd_blk (xs := vC [(0, 0, 0)]) HA0.out.2.2, hp0.gh, hp0.on⟩
  have H0L : Hid (qa < w2.heap.size ∧ qb < w2.heap.size ∧ w1.heap.size ≤ w2.heap.size ∧ w2.heap.size + 1 < W0.heap.size) := ⟨lqa, lqb, HB2.out.size, blk_lt HA0.out.2.2⟩
  clear hbw hp0 lqa lqb HA0 HP2 HB2
  generalize w2.heap.size = pb at *
  obtain ⟨j0, hj, hj0, hj1, hj2⟩ := info_parts infoIn
  go_loopg [6] N (fun gq x wr => ∃ (j : Nat) (v : Value), j ≤ N ∧ gq = N - j ∧ x = .int .i64 (j : Int) ∧ Mk W0 wr pb (.slice (some ⟨qa, 0, none⟩) 1 1) (.slice (some ⟨pb + 1, 0, none⟩) 1 1) (.slice none 0 0) (.slice (some ⟨qb, 0, none⟩) 1 1) (.int .i64 0) v (skL N m j))
  case atStart => exact ⟨0, _, Nat.zero_le _, rfl, rfl, Mk.new H0.out.2.1⟩
  case round =>
    obtain ⟨j, v, hj9, hgk, rfl, hmk⟩ := hrel
    have HG : Hid (gk = N - j ∧ Mk W0 wr pb (.slice (some ⟨qa, 0, none⟩) 1 1) (.slice (some ⟨pb + 1, 0, none⟩) 1 1) (.slice none 0 0) (.slice (some ⟨qb, 0, none⟩) 1 1) (.int .i64 0) v (skL N m j)) := ⟨hgk, hmk⟩
    clear hgk hmk
    by_cases hlt : j < N
    · have hlt' : (j : Int) < (N : Int) := by omega
      have HLt : Hid (j < N) := hlt
      obtain ⟨bo, bc, rfl⟩ := HG.out.2.form (skL_len N m j)
      have HO2 : Hid ((wr.alloc (.cells #[.int .i64 1, .int .i64 (j : Int), .int .i64 0, .int .i64 0, .int .i64 0] 46)).ownsRow W0.heap.size 46 5 (.slice bo j bc) j (cC (skL N m j))) := HG.out.2.owns (skL_len N m j) _
      obtain ⟨i0, i1, i2, i3, i4, i5⟩ := cells6 HG.out.2.box
      have HSz : Hid (W0.heap.size ≤ (wr.alloc (.cells #[.int .i64 1, .int .i64 (j : Int), .int .i64 0, .int .i64 0, .int .i64 0] 46)).heap.size) := by
        have := HG.out.2.size
        show _ ≤ _
        simp
        omega
      clear hlt hj9
      go_wp2_with (at_builtin; refine append_gone _ rfl _ _ 26 rfl W0.heap.size 46 j0 (.agg #[.int .i64 0, .int .i64 0, .int .i64 0, .int .i64 0, .int .i64 0]) 5 40 Tryd.underlying26 hj hj0 hj1 hj2 rfl (by decide) (.slice bo j bc) j (cC (skL N m j)) rfl HO2.out ⟨wr.heap.size, 0, none⟩ 1 1 (cC [⟨1, (j : Int), 0, 0, 0⟩]) rfl rfl ?c1 ?c2 ?c3 ?c4 ?c5 ?c6 ?_)
      case c1 => exact cells_new wr 46 (cC [⟨1, (j : Int), 0, 0, 0⟩])
      case c2 => exact cC_one _
      case c3 => have := HLt.out; unfold maxLen; omega
      case c4 => have := HLt.out; omega
      case c5 => exact HSz.out
      case c6 => decide
      intro v4 w4 ho hG
      obtain ⟨bo4, bc4, rfl⟩ := own_form ho
      have HM4 : Hid (Mk W0 (w4.setCell ⟨pb, 5, none⟩ (.slice bo4 (j + 1) bc4)) pb (.slice (some ⟨qa, 0, none⟩) 1 1) (.slice (some ⟨pb + 1, 0, none⟩) 1 1) (.slice none 0 0) (.slice (some ⟨qb, 0, none⟩) 1 1) (.int .i64 0) (.slice bo4 (j + 1) bc4) (skL N m (j + 1))) := by
        have := HG.out.2.app [⟨1, (j : Int), 0, 0, 0⟩] (by rw [skL_len]; exact ho) hG
        rw [show [(⟨1, (j : Int), 0, 0, 0⟩ : Ins)] = [skI N m j] by unfold skI; rw [if_pos HLt.out], ← skL_succ] at this
        exact this
      obtain ⟨x0, x1, x2, x3, x4, x5⟩ := cells6 (HG.out.2.mid hG)
      have fz : ∀ j, w4.frozen? ⟨pb, j, none⟩ = false := fun j => by have := HG.out.2.mid hG; simp only [World.frozen?, this]; rfl
      clear ho hG i0 i1 i2 i3 i4 i5 HO2 HSz
      go_wp2_with fail
      go_roundg (N - (j + 1))
      case measure => have h1 := HG.out.1; have := HLt.out; omega
      case rel => exact ⟨j + 1, _, HLt.out, rfl, by go_num, HM4.out⟩
    · obtain rfl : N = j := by omega
      clear hlt hj9
      have HMk : Hid (Mk W0 wr pb (.slice (some ⟨qa, 0, none⟩) 1 1) (.slice (some ⟨pb + 1, 0, none⟩) 1 1) (.slice none 0 0) (.slice (some ⟨qb, 0, none⟩) 1 1) (.int .i64 0) v (skL N m N)) := HG.out.2
      clear HG
      go_upto_region 11 with fail
      obtain ⟨Wa, hWa⟩ : ∃ Wa, Wa = wr := ⟨_, rfl⟩
      rw [← hWa] at HMk
      have HWA : Hid (Wa = wr) := hWa
      clear hWa
      go_loopg [7] m (fun gq x wr => ∃ (j : Nat) (v : Value), j ≤ m ∧ gq = m - j ∧ x = .int .i64 (j : Int) ∧ Mk W0 wr pb (.slice (some ⟨qa, 0, none⟩) 1 1) (.slice (some ⟨pb + 1, 0, none⟩) 1 1) (.slice none 0 0) (.slice (some ⟨qb, 0, none⟩) 1 1) (.int .i64 0) v (skL N m (N + j)))
      case atStart => exact ⟨0, _, Nat.zero_le _, rfl, rfl, by rw [← HWA.out]; exact HMk.out⟩
      case round =>
        obtain ⟨j, v, hj9, hgk, rfl, hmk⟩ := hrel
        have HG : Hid (gk = m - j ∧ Mk W0 wr pb (.slice (some ⟨qa, 0, none⟩) 1 1) (.slice (some ⟨pb + 1, 0, none⟩) 1 1) (.slice none 0 0) (.slice (some ⟨qb, 0, none⟩) 1 1) (.int .i64 0) v (skL N m (N + j))) := ⟨hgk, hmk⟩
        clear hgk hmk HMk HWA
        have hmm := HM.out
        by_cases hlt : j < m
        · have hlt' : (j : Int) < (N : Int) - 1 - L := by omega
          have HLt : Hid (j < m ∧ m ≤ 400) := ⟨hlt, by omega⟩
          have hj400 : (j : Int) < 400 := by omega
          obtain ⟨bo, bc, rfl⟩ := HG.out.2.form (skL_len N m (N + j))
          have HO2 : Hid ((wr.alloc (.cells #[.int .i64 17, .int .i64 0, .int .i64 0, .int .i64 0, .int .i64 0] 46)).ownsRow W0.heap.size 46 5 (.slice bo (N + j) bc) (N + j) (cC (skL N m (N + j)))) := HG.out.2.owns (skL_len N m (N + j)) _
          obtain ⟨i0, i1, i2, i3, i4, i5⟩ := cells6 HG.out.2.box
          have HSz : Hid (W0.heap.size ≤ (wr.alloc (.cells #[.int .i64 17, .int .i64 0, .int .i64 0, .int .i64 0, .int .i64 0] 46)).heap.size) := by
            have := HG.out.2.size
            show _ ≤ _
            simp
            omega
          clear hlt hj9 hmm
          go_wp2_with (at_builtin; refine append_gone _ rfl _ _ 26 rfl W0.heap.size 46 j0 (.agg #[.int .i64 0, .int .i64 0, .int .i64 0, .int .i64 0, .int .i64 0]) 5 40 Tryd.underlying26 hj hj0 hj1 hj2 rfl (by decide) (.slice bo (N + j) bc) (N + j) (cC (skL N m (N + j))) rfl HO2.out ⟨wr.heap.size, 0, none⟩ 1 1 (cC [⟨17, 0, 0, 0, 0⟩]) rfl rfl ?c1 ?c2 ?c3 ?c4 ?c5 ?c6 ?_)
          case c1 => exact cells_new wr 46 (cC [⟨17, 0, 0, 0, 0⟩])
          case c2 => exact cC_one _
          case c3 => have := HLt.out; unfold maxLen; omega
          case c4 => have := HLt.out; omega
          case c5 => exact HSz.out
          case c6 => decide
          intro v4 w4 ho hG
          obtain ⟨bo4, bc4, rfl⟩ := own_form ho
          have HM4 : Hid (Mk W0 (w4.setCell ⟨pb, 5, none⟩ (.slice bo4 (N + j + 1) bc4)) pb (.slice (some ⟨qa, 0, none⟩) 1 1) (.slice (some ⟨pb + 1, 0, none⟩) 1 1) (.slice none 0 0) (.slice (some ⟨qb, 0, none⟩) 1 1) (.int .i64 0) (.slice bo4 (N + j + 1) bc4) (skL N m (N + (j + 1)))) := by
            have := HG.out.2.app [⟨17, 0, 0, 0, 0⟩] (by rw [skL_len]; exact ho) hG
            rw [show [(⟨17, 0, 0, 0, 0⟩ : Ins)] = [skI N m (N + j)] by (unfold skI; rw [if_neg (by omega), if_pos (by have := HLt.out; omega)]), ← skL_succ] at this
            exact this
          obtain ⟨x0, x1, x2, x3, x4, x5⟩ := cells6 (HG.out.2.mid hG)
          have fz : ∀ j, w4.frozen? ⟨pb, j, none⟩ = false := fun j => by have := HG.out.2.mid hG; simp only [World.frozen?, this]; rfl
          clear ho hG i0 i1 i2 i3 i4 i5 HO2 HSz
          go_wp2_with fail
          go_roundg (m - (j + 1))
          case measure => have h1 := HG.out.1; have := HLt.out; omega
          case rel => exact ⟨j + 1, _, HLt.out.1, rfl, by go_num, HM4.out⟩
        · obtain rfl : m = j := by omega
          have hge : decide ((m : Int) < (N : Int) - 1 - L) = false := by rw [decide_eq_false_iff_not]; omega
          have hge2 : (N : Int) - 1 - L ≤ (m : Int) := by omega
          have hmb : m ≤ 400 := by omega
          have HMB : Hid (m ≤ 400 ∧ 1 ≤ N ∧ N ≤ 300) := ⟨hmb, by omega, by omega⟩
          have hm400 : (m : Int) ≤ 400 := by omega
          obtain ⟨bo, bc, rfl⟩ := HG.out.2.form (skL_len N m (N + m))
          have HO2 : Hid ((wr.alloc (.cells #[.int .i64 28, .int .i64 0, .int .i64 0, .int .i64 0, .int .i64 0, .int .i64 0, .int .i64 0, .int .i64 0, .int .i64 0, .int .i64 0] 46)).ownsRow W0.heap.size 46 5 (.slice bo (N + m) bc) (N + m) (cC (skL N m (N + m)))) := HG.out.2.owns (skL_len N m (N + m)) _
          obtain ⟨i0, i1, i2, i3, i4, i5⟩ := cells6 HG.out.2.box
          have HSz : Hid (W0.heap.size ≤ (wr.alloc (.cells #[.int .i64 28, .int .i64 0, .int .i64 0, .int .i64 0, .int .i64 0, .int .i64 0, .int .i64 0, .int .i64 0, .int .i64 0, .int .i64 0] 46)).heap.size) := by
            have := HG.out.2.size
            show _ ≤ _
            simp
            omega
          clear hlt hj9 hmm hmb
          go_wp2_with (at_builtin; refine append_gone _ rfl _ _ 26 rfl W0.heap.size 46 j0 (.agg #[.int .i64 0, .int .i64 0, .int .i64 0, .int .i64 0, .int .i64 0]) 5 40 Tryd.underlying26 hj hj0 hj1 hj2 rfl (by decide) (.slice bo (N + m) bc) (N + m) (cC (skL N m (N + m))) rfl HO2.out ⟨wr.heap.size, 0, none⟩ 2 2 (cC [⟨28, 0, 0, 0, 0⟩, ⟨0, 0, 0, 0, 0⟩]) rfl rfl ?c1 ?c2 ?c3 ?c4 ?c5 ?c6 ?_)
          case c1 => exact cells_new wr 46 (cC [⟨28, 0, 0, 0, 0⟩, ⟨0, 0, 0, 0, 0⟩])
          case c2 => exact cC_one _
          case c3 => have := HMB.out; unfold maxLen; omega
          case c4 => have := HMB.out; omega
          case c5 => exact HSz.out
          case c6 => decide
          intro v4 w4 ho hG
          obtain ⟨bo4, bc4, rfl⟩ := own_form ho
          have HM4 : Hid (Mk W0 (w4.setCell ⟨pb, 5, none⟩ (.slice bo4 (N + m + 2) bc4)) pb (.slice (some ⟨qa, 0, none⟩) 1 1) (.slice (some ⟨pb + 1, 0, none⟩) 1 1) (.slice none 0 0) (.slice (some ⟨qb, 0, none⟩) 1 1) (.int .i64 0) (.slice bo4 (N + m + 2) bc4) (skL N m (N + m + 2))) := by
            have := HG.out.2.app [⟨28, 0, 0, 0, 0⟩, ⟨0, 0, 0, 0, 0⟩] (by rw [skL_len]; exact ho) hG
            rw [show [(⟨28, 0, 0, 0, 0⟩ : Ins), ⟨0, 0, 0, 0, 0⟩] = [skI N m (N + m)] ++ [skI N m (N + m + 1)] by (unfold skI; rw [if_neg (by omega), if_neg (by omega), if_pos rfl, if_neg (by omega), if_neg (by omega), if_neg (by omega)]; rfl), ← List.append_assoc, ← skL_succ, ← skL_succ] at this
            exact this
          obtain ⟨x0, x1, x2, x3, x4, x5⟩ := cells6 (HG.out.2.mid hG)
          have fz : ∀ j, w4.frozen? ⟨pb, j, none⟩ = false := fun j => by have := HG.out.2.mid hG; simp only [World.frozen?, this]; rfl
          clear ho hG i0 i1 i2 i3 i4 i5 HO2 HSz HG
          go_upto_region 15 with fail
          generalize w4.setCell ⟨pb, 5, none⟩ (.slice bo4 (N + m + 2) bc4) = W5 at *
          have hb5 : Below w1.heap.size w1 W5 := HM4.out.bel H0.out.1 H0L.out.2.2.1
          have hpg : IsPg W5 ⟨some ⟨qa, 0, none⟩, 1, some ⟨pb + 1, 0, none⟩, 1, none, 0, some ⟨qb, 0, none⟩, 1, bo4, bc4⟩ (skP N m) := by
            have hl := H0L.out
            obtain ⟨co, cc, he, hr⟩ := HM4.out.is
            rw [skL_len] at he
            cases he
            exact ⟨HM4.out.rd H0.out.2.2.2.1 (by omega) (by omega), HM4.out.rd H0.out.2.2.1 (by omega) (by omega), rd_nil _ _, HM4.out.rd H0.out.2.2.2.2 (by omega) (by omega), hr, (by show (1 : Nat) ≤ _; omega), (by show (1 : Nat) ≤ _; omega), (by show (0 : Nat) ≤ _; omega), (by show (1 : Nat) ≤ _; omega), by have := HMB.out; rw [sk_len]; omega⟩
          obtain ⟨fe, ft, nh, hh, hO, hout⟩ := sk_out (N := N) (m := m) HMB.out.2.1 (by have := HMB.out; omega)
          have HRun : Hid (∀ W, Below W5.heap.size W5 W → Calls Tryd.prog 11 #[.agg #[.slice (some ⟨qa, 0, none⟩) 1 1, .slice (some ⟨pb + 1, 0, none⟩) 1 1, .slice none 0 0, .slice (some ⟨qb, 0, none⟩) 1 1, .int .i64 0, .slice bo4 (N + m + 2) bc4]] W fun e w' => ∃ o1 n1 m1 cm, e = .returned (.tuple #[.agg #[.slice o1 n1 m1, .int .i64 cm], .agg #[.int .i64 fe, .int .i64 ft]]) ∧ Below W.heap.size W w') := fun W hb => by
            have := hO.run _ W (hpg.below hb) (HEf.out _ (bel_step hb5 hb))
            unfold pvC at this
            rw [sk_len] at this
            exact this
          have HHts : Hid (∀ W, Below W5.heap.size W5 W → Calls Tryd.prog 15 #[.agg #[.slice (some ⟨qa, 0, none⟩) 1 1, .slice (some ⟨pb + 1, 0, none⟩) 1 1, .slice none 0 0, .slice (some ⟨qb, 0, none⟩) 1 1, .int .i64 0, .slice bo4 (N + m + 2) bc4]] W fun e w' => ∃ b, e = .returned (.tuple #[.slice (some ⟨b, 0, none⟩) nh nh, .agg #[.int .i64 fe, .int .i64 ft]]) ∧ Below W.heap.size W w' ∧ ∀ k, k < nh → w'.cell? ⟨b, k, none⟩ = some (.int .i64 (hh k)) ∧ b < w'.heap.size) := fun W hb => by
            have := hO.hts _ W (hpg.below hb) (HEf.out _ (bel_step hb5 hb))
            unfold pvC at this
            rw [sk_len] at this
            exact this
          have HOut : Hid _ := hout
          have HB5 : Hid (Below w1.heap.size w1 W5) := hb5
          have HX5 : Hid (W5.heap[pb]? = some (.cells #[.slice (some ⟨qa, 0, none⟩) 1 1, .slice (some ⟨pb + 1, 0, none⟩) 1 1, .slice none 0 0, .slice (some ⟨qb, 0, none⟩) 1 1, .int .i64 0, .slice bo4 (N + m + 2) bc4] 28 (0, 0))) := HM4.out.box
          clear hO hpg hb5 hout HM4 H0 x0 x1 x2 x3 x4 x5 fz
          obtain ⟨i0, i1, i2, i3, i4, i5⟩ := cells6 HX5.out
          go_wp2_with fail
          refine (HRun.out _ (Below.refl _ _)).mono ?_
          rintro e w6 ⟨o1, n1, m1, cm, rfl, hb6⟩
          have HA6 : Hid _ := al2 w6 (.cells #[.slice o1 n1 m1, .int .i64 cm] 32) (.cells #[.int .i64 fe, .int .i64 ft] 35)
          have HB6 : Hid (Below W5.heap.size W5 w6) := hb6
          clear hb6 i0 i1 i2 i3 i4 i5 HRun
          go_upto_region 16 with fail
          generalize ((w6.alloc (.cells #[.slice o1 n1 m1, .int .i64 cm] 32)).alloc (.cells #[.int .i64 fe, .int .i64 ft] 35)) = W6 at *
          have HB7 : Hid (Below W5.heap.size W5 W6 ∧ W6.heap[w6.heap.size + 1]? = some (.cells #[.int .i64 fe, .int .i64 ft] 35 (0, 0))) := ⟨bel_step HB6.out HA6.out.1, HA6.out.2.2⟩
          clear HA6 HB6
          generalize w6.heap.size = fb at *
          obtain ⟨i0, i1, i2, i3, i4, i5⟩ := cells6 ((HB7.out.1.block _ (blk_lt HX5.out)).trans HX5.out)
          go_wp2_with fail
          refine (HHts.out _ HB7.out.1).mono ?_
          rintro e w7 ⟨hb, rfl, hb7, hcl⟩
          have hba : Below w7.heap.size w7 (w7.alloc (.cells #[.int .i64 fe, .int .i64 ft] 35)) := (Below.refl _ w7).alloc (Nat.le_refl _) _
          have hb68 := bel_step hb7 hba
          have HB8 : Hid (Below W5.heap.size W5 (w7.alloc (.cells #[.int .i64 fe, .int .i64 ft] 35)) ∧ (w7.alloc (.cells #[.int .i64 fe, .int .i64 ft] 35)).heap[fb + 1]? = some (.cells #[.int .i64 fe, .int .i64 ft] 35 (0, 0)) ∧ (w7.alloc (.cells #[.int .i64 fe, .int .i64 ft] 35)).heap[w7.heap.size]? = some (.cells #[.int .i64 fe, .int .i64 ft] 35 (0, 0)) ∧ (∀ k, k < nh → (w7.alloc (.cells #[.int .i64 fe, .int .i64 ft] 35)).cell? ⟨hb, k, none⟩ = some (.int .i64 (hh k)) ∧ hb < (w7.alloc (.cells #[.int .i64 fe, .int .i64 ft] 35)).heap.size)) := ⟨bel_step HB7.out.1 hb68, (hb68.block _ (blk_lt HB7.out.2)).trans HB7.out.2, heap_alloc_new _ _, fun k hk => ⟨(hba.cell (p := ⟨hb, k, none⟩) (hcl k hk).2).trans (hcl k hk).1, Nat.lt_of_lt_of_le (hcl k hk).2 hba.size⟩⟩
          clear hb7 hcl hba hb68 HB7 i0 i1 i2 i3 i4 i5 HHts
          go_upto_region 17 with fail
          generalize w7.alloc (.cells #[.int .i64 fe, .int .i64 ft] 35) = W8 at *
          generalize w7.heap.size = gb at *
          obtain ⟨z0, z1⟩ := cells2 HB8.out.2.1
          obtain ⟨y0, y1⟩ := cells2 HB8.out.2.2.1
          have hmm := HM.out
          rcases HOut.out with ⟨rfl, rfl, rfl, rfl, hN256, hNm⟩ | ⟨rfl, rfl, ⟨h1, rfl⟩ | ⟨h1, h2, rfl⟩ | ⟨h1, h2, rfl⟩⟩
          · have k1 : (N : Int) ≤ 256 := by omega
            by_cases hneg : (N : Int) - 1 - L < 0
            · have k3 : decide ((N : Int) - 1 < 0) = false := by rw [decide_eq_false_iff_not]; omega
              have k4 : decide (0 < (N : Int) - 1) = false := by rw [decide_eq_false_iff_not]; omega
              have k5 : decide (1 < N) = false := by rw [decide_eq_false_iff_not]; omega
              have k6 : ¬ (0 < (N : Int) - 1) := by omega
              have k7 : ¬ (1 < N) := by omega
              have k8 : (N : Int) ≤ 1 := by omega
              have HNm : Hid (N = m + 1 ∧ m ≤ 400) := ⟨hNm, HMB.out.1⟩
              clear hNm hmm HOut hN256
              go_upto_region 27 with fail
              have hb8 : Below w1.heap.size w1 (W8.alloc (.cells #[.int .i64 0, .int .i64 0] 35)) := bel_step (bel_step HB5.out HB8.out.1) ((Below.refl _ W8).alloc (Nat.le_refl _) _)
              have hbl : Below W8.heap.size W8 (W8.alloc (.cells #[.int .i64 0, .int .i64 0] 35)) := (Below.refl _ W8).alloc (Nat.le_refl _) _
              have HF : Hid (Below w1.heap.size w1 (W8.alloc (.cells #[.int .i64 0, .int .i64 0] 35)) ∧ (W8.alloc (.cells #[.int .i64 0, .int .i64 0] 35)).heap[fb + 1]? = some (.cells #[.int .i64 0, .int .i64 0] 35 (0, 0)) ∧ (W8.alloc (.cells #[.int .i64 0, .int .i64 0] 35)).heap[gb]? = some (.cells #[.int .i64 0, .int .i64 0] 35 (0, 0)) ∧ (W8.alloc (.cells #[.int .i64 0, .int .i64 0] 35)).heap[W8.heap.size]? = some (.cells #[.int .i64 0, .int .i64 0] 35 (0, 0)) ∧ (W8.alloc (.cells #[.int .i64 0, .int .i64 0] 35)).heap[pb]? = some (.cells #[.slice (some ⟨qa, 0, none⟩) 1 1, .slice (some ⟨pb + 1, 0, none⟩) 1 1, .slice none 0 0, .slice (some ⟨qb, 0, none⟩) 1 1, .int .i64 0, .slice bo4 (N + m + 2) bc4] 28 (0, 0)) ∧ ∀ k, k < N + m + 2 → (W8.alloc (.cells #[.int .i64 0, .int .i64 0] 35)).cell? ⟨hb, k, none⟩ = some (.int .i64 (skH N m k : Int))) := ⟨hb8, (hbl.block _ (blk_lt HB8.out.2.1)).trans HB8.out.2.1, (hbl.block _ (blk_lt HB8.out.2.2.1)).trans HB8.out.2.2.1, heap_alloc_new _ _, (hbl.block _ (Nat.lt_of_lt_of_le (blk_lt HX5.out) HB8.out.1.size)).trans ((HB8.out.1.block _ (blk_lt HX5.out)).trans HX5.out), fun k hk => (hbl.cell (p := ⟨hb, k, none⟩) (HB8.out.2.2.2 k hk).2).trans (HB8.out.2.2.2 k hk).1⟩
              clear hb8 hbl HB8 HX5 z0 z1 y0 y1
              generalize W8.alloc (.cells #[.int .i64 0, .int .i64 0] 35) = W9 at *
              generalize W8.heap.size = wb at *
              obtain ⟨z0, z1⟩ := cells2 HF.out.2.1
              obtain ⟨y0, y1⟩ := cells2 HF.out.2.2.1
              obtain ⟨x0, x1⟩ := cells2 HF.out.2.2.2.1
              go_upto_region 32 with fail
              obtain ⟨q, hq⟩ : ∃ q, N + m + 2 = q + 1 := ⟨N + m + 1, rfl⟩
              have HQ : Hid (N + m + 2 = q + 1) := hq
              rw [hq] at HF ⊢
              have hq9 : (q : Int) ≤ 1000 := by have := HMB.out; omega
              clear hq z0 z1 y0 y1 x0 x1 k3 k4 k5 k6 k7 k8
              obtain ⟨W10, hW10⟩ : ∃ W10, W10 = W9 := ⟨_, rfl⟩
              have HWX : Hid (W10 = W9) := hW10
              rw [← hW10] at HF ⊢
              clear hW10
              go_loopg [14] (q + 1) (fun gq x wr => ∃ j : Nat, j ≤ q + 1 ∧ gq = q + 1 - j ∧ x = .int .i64 (j : Int) ∧ wr = W10)
              case atStart => exact ⟨0, Nat.zero_le _, rfl, rfl, rfl⟩
              case round =>
                obtain ⟨j, hj9, hgk, rfl, rfl⟩ := hrel
                have HG : Hid (gk = q + 1 - j) := hgk
                clear hgk
                by_cases hlt : j < q + 1
                · have hlt' : (j : Int) < (q : Int) + 1 := by omega
                  have HLt : Hid (j < q + 1) := hlt
                  have d := HF.out.2.2.2.2.2 j hlt
                  have hnm := HNm.out
                  have hqq := HQ.out
                  by_cases ha : j ≤ N
                  · have e : (skH N m j : Int) = (j : Int) := by unfold skH; rw [if_pos ha]
                    rw [e] at d
                    have ha1 : (j : Int) ≤ (N : Int) := by omega
                    have ha2 : decide ((N : Int) < (j : Int)) = false := by rw [decide_eq_false_iff_not]; omega
                    have ha3 : decide (N < j) = false := by rw [decide_eq_false_iff_not]; omega
                    clear hlt hj9 ha hnm hqq e
                    go_wp2_with fail
                    go_roundg (q + 1 - (j + 1))
                    case measure => have h1 := HG.out; have := HLt.out; omega
                    case rel => exact ⟨j + 1, HLt.out, rfl, by go_num, rfl⟩
                  · have ha1 : decide ((j : Int) ≤ (N : Int)) = false := by rw [decide_eq_false_iff_not]; omega
                    have ha2 : (N : Int) < (j : Int) := by omega
                    by_cases hc : j < q
                    · have e : (skH N m j : Int) = (N : Int) - ((j : Int) - (N : Int)) := by unfold skH; rw [if_neg ha, if_pos (by omega)]; omega
                      rw [e] at d
                      have hc1 : (j : Int) < (q : Int) := by omega
                      clear hlt hj9 ha hnm hqq e hc
                      go_wp2_with fail
                      go_roundg (q + 1 - (j + 1))
                      case measure => have h1 := HG.out; have := HLt.out; omega
                      case rel => exact ⟨j + 1, HLt.out, rfl, by go_num, rfl⟩
                    · have hc1 : decide ((j : Int) < (q : Int)) = false := by rw [decide_eq_false_iff_not]; omega
                      have hc2 : decide (j < q) = false := by rw [decide_eq_false_iff_not]; omega
                      clear hlt hj9 ha hnm hqq hc d
                      go_wp2_with fail
                      go_roundg (q + 1 - (j + 1))
                      case measure => have h1 := HG.out; have := HLt.out; omega
                      case rel => exact ⟨j + 1, HLt.out, rfl, by go_num, rfl⟩
                · obtain rfl : j = q + 1 := by omega
                  have d := HF.out.2.2.2.2.2 q (by omega)
                  have hnm := HNm.out
                  have hqq := HQ.out
                  have e : (skH N m q : Int) = 0 := by unfold skH; rw [if_neg (by omega), if_neg (by omega)]; omega
                  rw [e] at d
                  obtain ⟨i0, i1, i2, i3, i4, i5⟩ := cells6 HF.out.2.2.2.2.1
                  clear hlt hj9 hnm hqq e
                  go_wp2_with fail
                  refine (HHd.out _ HF.out.1).mono ?_
                  rintro e w9 ⟨rfl, hb9⟩
                  have HB9 : Hid (Below w1.heap.size w1 w9) := bel_step HF.out.1 hb9
                  clear hb9
                  go_wp2_with fail
                  go_ret
                  exact ⟨rfl, HB9.out⟩
            · have k5 : (N : Int) - 1 - L = (m : Int) := by omega
              have k3 : decide ((N : Int) - 1 < (m : Int)) = false := by rw [decide_eq_false_iff_not]; omega
              have k4 : decide ((m : Int) < (N : Int) - 1) = false := by rw [decide_eq_false_iff_not]; omega
              have k6 : decide ((m : Int) < 0) = false := by simp
              clear hneg
              have HNm : Hid (N = m + 1 ∧ m ≤ 400) := ⟨hNm, HMB.out.1⟩
              clear hNm hmm HOut hN256
              go_upto_region 18 with fail
              rw [k5]
              clear k5
              go_upto_region 27 with fail
              have hb8 : Below w1.heap.size w1 (W8.alloc (.cells #[.int .i64 0, .int .i64 0] 35)) := bel_step (bel_step HB5.out HB8.out.1) ((Below.refl _ W8).alloc (Nat.le_refl _) _)
              have hbl : Below W8.heap.size W8 (W8.alloc (.cells #[.int .i64 0, .int .i64 0] 35)) := (Below.refl _ W8).alloc (Nat.le_refl _) _
              have HF : Hid (Below w1.heap.size w1 (W8.alloc (.cells #[.int .i64 0, .int .i64 0] 35)) ∧ (W8.alloc (.cells #[.int .i64 0, .int .i64 0] 35)).heap[fb + 1]? = some (.cells #[.int .i64 0, .int .i64 0] 35 (0, 0)) ∧ (W8.alloc (.cells #[.int .i64 0, .int .i64 0] 35)).heap[gb]? = some (.cells #[.int .i64 0, .int .i64 0] 35 (0, 0)) ∧ (W8.alloc (.cells #[.int .i64 0, .int .i64 0] 35)).heap[W8.heap.size]? = some (.cells #[.int .i64 0, .int .i64 0] 35 (0, 0)) ∧ (W8.alloc (.cells #[.int .i64 0, .int .i64 0] 35)).heap[pb]? = some (.cells #[.slice (some ⟨qa, 0, none⟩) 1 1, .slice (some ⟨pb + 1, 0, none⟩) 1 1, .slice none 0 0, .slice (some ⟨qb, 0, none⟩) 1 1, .int .i64 0, .slice bo4 (N + m + 2) bc4] 28 (0, 0)) ∧ ∀ k, k < N + m + 2 → (W8.alloc (.cells #[.int .i64 0, .int .i64 0] 35)).cell? ⟨hb, k, none⟩ = some (.int .i64 (skH N m k : Int))) := ⟨hb8, (hbl.block _ (blk_lt HB8.out.2.1)).trans HB8.out.2.1, (hbl.block _ (blk_lt HB8.out.2.2.1)).trans HB8.out.2.2.1, heap_alloc_new _ _, (hbl.block _ (Nat.lt_of_lt_of_le (blk_lt HX5.out) HB8.out.1.size)).trans ((HB8.out.1.block _ (blk_lt HX5.out)).trans HX5.out), fun k hk => (hbl.cell (p := ⟨hb, k, none⟩) (HB8.out.2.2.2 k hk).2).trans (HB8.out.2.2.2 k hk).1⟩
              clear hb8 hbl HB8 HX5 z0 z1 y0 y1
              generalize W8.alloc (.cells #[.int .i64 0, .int .i64 0] 35) = W9 at *
              generalize W8.heap.size = wb at *
              obtain ⟨z0, z1⟩ := cells2 HF.out.2.1
              obtain ⟨y0, y1⟩ := cells2 HF.out.2.2.1
              obtain ⟨x0, x1⟩ := cells2 HF.out.2.2.2.1
              go_upto_region 32 with fail
              obtain ⟨q, hq⟩ : ∃ q, N + m + 2 = q + 1 := ⟨N + m + 1, rfl⟩
              have HQ : Hid (N + m + 2 = q + 1) := hq
              rw [hq] at HF ⊢
              have hq9 : (q : Int) ≤ 1000 := by have := HMB.out; omega
              clear hq z0 z1 y0 y1 x0 x1 k3 k4 k6
              obtain ⟨W10, hW10⟩ : ∃ W10, W10 = W9 := ⟨_, rfl⟩
              have HWX : Hid (W10 = W9) := hW10
              rw [← hW10] at HF ⊢
              clear hW10
              go_loopg [14] (q + 1) (fun gq x wr => ∃ j : Nat, j ≤ q + 1 ∧ gq = q + 1 - j ∧ x = .int .i64 (j : Int) ∧ wr = W10)
              case atStart => exact ⟨0, Nat.zero_le _, rfl, rfl, rfl⟩
              case round =>
                obtain ⟨j, hj9, hgk, rfl, rfl⟩ := hrel
                have HG : Hid (gk = q + 1 - j) := hgk
                clear hgk
                by_cases hlt : j < q + 1
                · have hlt' : (j : Int) < (q : Int) + 1 := by omega
                  have HLt : Hid (j < q + 1) := hlt
                  have d := HF.out.2.2.2.2.2 j hlt
                  have hnm := HNm.out
                  have hqq := HQ.out
                  by_cases ha : j ≤ N
                  · have e : (skH N m j : Int) = (j : Int) := by unfold skH; rw [if_pos ha]
                    rw [e] at d
                    have ha1 : (j : Int) ≤ (N : Int) := by omega
                    have ha2 : decide ((N : Int) < (j : Int)) = false := by rw [decide_eq_false_iff_not]; omega
                    have ha3 : decide (N < j) = false := by rw [decide_eq_false_iff_not]; omega
                    clear hlt hj9 ha hnm hqq e
                    go_wp2_with fail
                    go_roundg (q + 1 - (j + 1))
                    case measure => have h1 := HG.out; have := HLt.out; omega
                    case rel => exact ⟨j + 1, HLt.out, rfl, by go_num, rfl⟩
                  · have ha1 : decide ((j : Int) ≤ (N : Int)) = false := by rw [decide_eq_false_iff_not]; omega
                    have ha2 : (N : Int) < (j : Int) := by omega
                    by_cases hc : j < q
                    · have e : (skH N m j : Int) = (N : Int) - ((j : Int) - (N : Int)) := by unfold skH; rw [if_neg ha, if_pos (by omega)]; omega
                      rw [e] at d
                      have hc1 : (j : Int) < (q : Int) := by omega
                      clear hlt hj9 ha hnm hqq e hc
                      go_wp2_with fail
                      go_roundg (q + 1 - (j + 1))
                      case measure => have h1 := HG.out; have := HLt.out; omega
                      case rel => exact ⟨j + 1, HLt.out, rfl, by go_num, rfl⟩
                    · have hc1 : decide ((j : Int) < (q : Int)) = false := by rw [decide_eq_false_iff_not]; omega
                      have hc2 : decide (j < q) = false := by rw [decide_eq_false_iff_not]; omega
                      clear hlt hj9 ha hnm hqq hc d
                      go_wp2_with fail
                      go_roundg (q + 1 - (j + 1))
                      case measure => have h1 := HG.out; have := HLt.out; omega
                      case rel => exact ⟨j + 1, HLt.out, rfl, by go_num, rfl⟩
                · obtain rfl : j = q + 1 := by omega
                  have d := HF.out.2.2.2.2.2 q (by omega)
                  have hnm := HNm.out
                  have hqq := HQ.out
                  have e : (skH N m q : Int) = 0 := by unfold skH; rw [if_neg (by omega), if_neg (by omega)]; omega
                  rw [e] at d
                  obtain ⟨i0, i1, i2, i3, i4, i5⟩ := cells6 HF.out.2.2.2.2.1
                  clear hlt hj9 hnm hqq e
                  go_wp2_with fail
                  refine (HHd.out _ HF.out.1).mono ?_
                  rintro e w9 ⟨rfl, hb9⟩
                  have HB9 : Hid (Below w1.heap.size w1 w9) := bel_step HF.out.1 hb9
                  clear hb9
                  go_wp2_with fail
                  go_ret
                  exact ⟨rfl, HB9.out⟩
          · have k1 : (256 : Int) < (N : Int) := by omega
            have k2 : 0 ≤ (N : Int) - 1 - L := by omega
            clear h1 hmm
            have hb8 : Below w1.heap.size w1 (W8.alloc (.cells #[.int .i64 93, .int .i64 256] 35)) := bel_step (bel_step HB5.out HB8.out.1) ((Below.refl _ W8).alloc (Nat.le_refl _) _)
            have HBw : Hid (Below w1.heap.size w1 (W8.alloc (.cells #[.int .i64 93, .int .i64 256] 35))) := hb8
            have hg8 : fb + 1 < W8.heap.size ∧ gb < W8.heap.size := ⟨blk_lt HB8.out.2.1, blk_lt HB8.out.2.2.1⟩
            obtain ⟨hg81, hg82⟩ := hg8
            clear hb8 HB8 HX5 HOut
            go_wp2_with fail
            refine (HHd.out _ HBw.out).mono ?_
            rintro e w9 ⟨rfl, hb9⟩
            have HB9 : Hid (Below w1.heap.size w1 w9) := bel_step HBw.out hb9
            clear hb9
            go_wp2_with fail
            go_ret
            exact ⟨rfl, HB9.out⟩
          · have k1 : (N : Int) ≤ 256 := by omega
            have k2 : 0 ≤ (N : Int) - 1 - L := by omega
            have k3 : (N : Int) - 1 < (N : Int) - 1 - L := by omega
            clear h1 h2 hmm
            have hb8 : Below w1.heap.size w1 (W8.alloc (.cells #[.int .i64 93, .int .i64 ((N : Int) + (N : Int) - 1)] 35)) := bel_step (bel_step HB5.out HB8.out.1) ((Below.refl _ W8).alloc (Nat.le_refl _) _)
            have HBw : Hid (Below w1.heap.size w1 (W8.alloc (.cells #[.int .i64 93, .int .i64 ((N : Int) + (N : Int) - 1)] 35))) := hb8
            have hg8 : fb + 1 < W8.heap.size ∧ gb < W8.heap.size := ⟨blk_lt HB8.out.2.1, blk_lt HB8.out.2.2.1⟩
            obtain ⟨hg81, hg82⟩ := hg8
            clear hb8 HB8 HX5 HOut
            go_wp2_with fail
            refine (HHd.out _ HBw.out).mono ?_
            rintro e w9 ⟨rfl, hb9⟩
            have HB9 : Hid (Below w1.heap.size w1 w9) := bel_step HBw.out hb9
            clear hb9
            go_wp2_with fail
            go_ret
            exact ⟨rfl, HB9.out⟩
          · have k1 : (N : Int) ≤ 256 := by omega
            by_cases hneg : (N : Int) - 1 - L < 0
            · have k5 : (N : Int) + (m : Int) + 1 = (N : Int) + 1 := by omega
              rw [k5] at z1 y1
              have k3 : ¬ ((N : Int) - 1 < 0) := by omega
              have k4 : 0 < (N : Int) - 1 := by omega
              clear h1 h2 hmm k5
              have hb8 : Below w1.heap.size w1 (W8.alloc (.cells #[.int .i64 93, .int .i64 ((N : Int) + 1)] 35)) := bel_step (bel_step HB5.out HB8.out.1) ((Below.refl _ W8).alloc (Nat.le_refl _) _)
              have HBw : Hid (Below w1.heap.size w1 (W8.alloc (.cells #[.int .i64 93, .int .i64 ((N : Int) + 1)] 35))) := hb8
              have hg8 : fb + 1 < W8.heap.size ∧ gb < W8.heap.size := ⟨blk_lt HB8.out.2.1, blk_lt HB8.out.2.2.1⟩
              obtain ⟨hg81, hg82⟩ := hg8
              clear hb8 HB8 HX5 HOut
              go_wp2_with fail
              refine (HHd.out _ HBw.out).mono ?_
              rintro e w9 ⟨rfl, hb9⟩
              have HB9 : Hid (Below w1.heap.size w1 w9) := bel_step HBw.out hb9
              clear hb9
              go_wp2_with fail
              go_ret
              exact ⟨rfl, HB9.out⟩
            · have k2 : 0 ≤ (N : Int) - 1 - L := by omega
              have k5 : (N : Int) - 1 - L = (m : Int) := by omega
              have k3 : ¬ ((N : Int) - 1 < (m : Int)) := by omega
              have k4 : (m : Int) < (N : Int) - 1 := by omega
              have k6 : decide ((m : Int) < 0) = false := by simp
              clear h1 h2 hmm hneg
              go_upto_region 18 with fail
              rw [k5]
              clear k5 k2
              have hb8 : Below w1.heap.size w1 (W8.alloc (.cells #[.int .i64 93, .int .i64 ((N : Int) + (m : Int) + 1)] 35)) := bel_step (bel_step HB5.out HB8.out.1) ((Below.refl _ W8).alloc (Nat.le_refl _) _)
              have HBw : Hid (Below w1.heap.size w1 (W8.alloc (.cells #[.int .i64 93, .int .i64 ((N : Int) + (m : Int) + 1)] 35))) := hb8
              have hg8 : fb + 1 < W8.heap.size ∧ gb < W8.heap.size := ⟨blk_lt HB8.out.2.1, blk_lt HB8.out.2.2.1⟩
              obtain ⟨hg81, hg82⟩ := hg8
              clear hb8 HB8 HX5 HOut
              go_wp2_with fail
              refine (HHd.out _ HBw.out).mono ?_
              rintro e w9 ⟨rfl, hb9⟩
              have HB9 : Hid (Below w1.heap.size w1 w9) := bel_step HBw.out hb9
              clear hb9
              go_wp2_with fail
              go_ret
              exact ⟨rfl, HB9.out⟩
end Go.Proofs.YtnededkmjmbioaaDoor.Vf
