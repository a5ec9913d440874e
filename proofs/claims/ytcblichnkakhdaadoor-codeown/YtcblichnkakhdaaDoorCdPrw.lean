import Derived.Test.YtcblichnkakhdaaDoorCdPrg
namespace Go.Proofs.YtcblichnkakhdaaDoor.Cd
open Go.RowKit Go.Proofs.YtcblichnkakhdaaDoor.Nm

set_option maxHeartbeats 25600000 in
set_option maxRecDepth 100000 in
/-- a program is written -/
theorem wprg_any {W : World} {b base m : Nat} {p : Pr} {xs : List Nat} {qo vo tto oo co : Option Addr} {qc vc tc oc cc : Nat} (h : Wr W b base wayL xs) (hl : xs.length ≤ 1000000) (hp : PrOk p) (hm : m ≤ b) (hq : Rd W qo m (bC p.gh)) (hv : Rd W vo m (vC p.vs)) (ht : Rd W tto m (iC p.ts)) (ho : Rd W oo m (iC p.on)) (hc : Rd W co m (cC p.cd)) :
    Calls Tryd.prog 21 #[.pointer (some ⟨b, 0, none⟩), .agg #[.slice qo p.gh.length qc, .slice vo p.vs.length vc, .slice tto p.ts.length tc, .slice oo p.on.length oc, .int .i64 p.miss, .slice co p.cd.length cc]] W fun e W' => e = .returned (.tuple #[]) ∧ Wr W' b base wayL (xs ++ prgB p) ∧ Fo b W W' := by
  have hb1 : Below W.heap.size W (W.alloc (.cells #[.slice qo p.gh.length qc, .slice vo p.vs.length vc, .slice tto p.ts.length tc, .slice oo p.on.length oc, .int .i64 p.miss, .slice co p.cd.length cc] 29)) := (Below.refl _ W).alloc (Nat.le_refl _) _
  have HW1 := show Hid _ from h.below hb1
  have HF1 : Hid (Fo b W (W.alloc (.cells #[.slice qo p.gh.length qc, .slice vo p.vs.length vc, .slice tto p.ts.length tc, .slice oo p.on.length oc, .int .i64 p.miss, .slice co p.cd.length cc] 29))) := Fo.of_below hb1 h.blt
  have HK1 := show Hid _ from Kb.new h (.cells #[.slice qo p.gh.length qc, .slice vo p.vs.length vc, .slice tto p.ts.length tc, .slice oo p.on.length oc, .int .i64 p.miss, .slice co p.cd.length cc] 29)
  have HR : Hid (Rd (W.alloc (.cells #[.slice qo p.gh.length qc, .slice vo p.vs.length vc, .slice tto p.ts.length tc, .slice oo p.on.length oc, .int .i64 p.miss, .slice co p.cd.length cc] 29)) qo m (bC p.gh) ∧ Rd (W.alloc (.cells #[.slice qo p.gh.length qc, .slice vo p.vs.length vc, .slice tto p.ts.length tc, .slice oo p.on.length oc, .int .i64 p.miss, .slice co p.cd.length cc] 29)) vo m (vC p.vs) ∧ Rd (W.alloc (.cells #[.slice qo p.gh.length qc, .slice vo p.vs.length vc, .slice tto p.ts.length tc, .slice oo p.on.length oc, .int .i64 p.miss, .slice co p.cd.length cc] 29)) tto m (iC p.ts) ∧ Rd (W.alloc (.cells #[.slice qo p.gh.length qc, .slice vo p.vs.length vc, .slice tto p.ts.length tc, .slice oo p.on.length oc, .int .i64 p.miss, .slice co p.cd.length cc] 29)) oo m (iC p.on) ∧ Rd (W.alloc (.cells #[.slice qo p.gh.length qc, .slice vo p.vs.length vc, .slice tto p.ts.length tc, .slice oo p.on.length oc, .int .i64 p.miss, .slice co p.cd.length cc] 29)) co m (cC p.cd) ∧ m ≤ b) := ⟨hq.below hb1, hv.below hb1, ht.below hb1, ho.below hb1, hc.below hb1, hm⟩
  have HP : Hid (PrOk p ∧ xs.length ≤ 1000000) := ⟨hp, hl⟩
  have HPt : Hid (Calls Tryd.prog 49 #[.pointer (some ⟨b, 0, none⟩), .int .u8 87] (W.alloc (.cells #[.slice qo p.gh.length qc, .slice vo p.vs.length vc, .slice tto p.ts.length tc, .slice oo p.on.length oc, .int .i64 p.miss, .slice co p.cd.length cc] 29)) fun e W' => e = .returned (.tuple #[]) ∧ Wr W' b base wayL (xs ++ [87]) ∧ Fo b (W.alloc (.cells #[.slice qo p.gh.length qc, .slice vo p.vs.length vc, .slice tto p.ts.length tc, .slice oo p.on.length oc, .int .i64 p.miss, .slice co p.cd.length cc] 29)) W') := put_any (x := 87) HW1.out (by omega)
  have hq1 : (p.on.length : Int) ≤ 1000 := by have := hp.o; omega
  have hc1 : (p.cd.length : Int) ≤ 1000000 := by have := hp.c; omega
  obtain ⟨ms, hms⟩ : ∃ ms : Nat, p.miss + 1 = (ms : Int) := ⟨(p.miss + 1).toNat, by have := hp.ms; omega⟩
  have HMs : Hid ((p.miss + 1).toNat = ms ∧ ms < 9223372036854775808) := ⟨by omega, by have := hp.ms; omega⟩
  have hmb : (ms : Int) ≤ 9223372036854775807 := by have := HMs.out; omega
  have hm1 := hp.ms.1
  have hm2 := hp.ms.2
  clear h hl hp hm hq hv ht ho hc hb1
  go_enter Tryd.func21, Tryd.ntmps21
  go_wp2_with fail
  generalize (W.alloc (.cells #[.slice qo p.gh.length qc, .slice vo p.vs.length vc, .slice tto p.ts.length tc, .slice oo p.on.length oc, .int .i64 p.miss, .slice co p.cd.length cc] 29)) = w1 at *
  generalize W.heap.size = pb at *
  refine Calls.mono HPt.out ?_
  rintro e w2 ⟨rfl, hw2, hf2⟩
  have H2 : Hid (Wr w2 b base wayL (xs ++ [87]) ∧ Fo b w1 w2) := ⟨hw2, hf2⟩
  clear hw2 hf2 HPt
  obtain ⟨c0, c1, c2, c3, c4, c5⟩ := cells6 (HK1.out.fo H2.out.2).h
  go_wp2_with fail
  refine Calls.mono (wtab_any H2.out.1 (by have := HP.out.2; simp only [List.length_append, List.length_cons, List.length_nil]; omega) HP.out.1.tb HR.out.2.2.2.2.2 (HR.out.1.fo HW1.out HR.out.2.2.2.2.2 H2.out.2) (HR.out.2.1.fo HW1.out HR.out.2.2.2.2.2 H2.out.2) (HR.out.2.2.1.fo HW1.out HR.out.2.2.2.2.2 H2.out.2)) ?_
  rintro e w3 ⟨rfl, hw3, hf3⟩
  have hl3 : (xs ++ [87] ++ tabB p).length ≤ 1060000 := by
    have h1 := tabB_len HP.out.1.tb
    have h2 := HP.out.2
    simp only [List.length_append, List.length_cons, List.length_nil]
    omega
  obtain ⟨ys, hys⟩ : ∃ ys, ys = xs ++ [87] ++ tabB p := ⟨_, rfl⟩
  rw [← hys] at hw3 hl3
  have H3 : Hid (Wr w3 b base wayL ys ∧ Fo b w1 w3) := ⟨hw3, H2.out.2.trans hf3⟩
  have HYs : Hid (ys = xs ++ [87] ++ tabB p ∧ ys.length ≤ 1060000) := ⟨hys, hl3⟩
  clear hw3 hf3 hys hl3 H2 c0 c1 c2 c3 c4 c5
  obtain ⟨c0, c1, c2, c3, c4, c5⟩ := cells6 (HK1.out.fo H3.out.2).h
  go_wp2_with fail
  clear c0 c1 c2 c3 c4 c5
  go_loopg [16] p.on.length (fun gq x wr => ∃ j : Nat, j ≤ p.on.length ∧ gq = p.on.length - j ∧ x = .int .i64 (j : Int) ∧ Wr wr b base wayL (ys ++ onB (p.on.take j)) ∧ Fo b w1 wr)
  case atStart => exact ⟨0, Nat.zero_le _, rfl, rfl, by show Wr w3 b base wayL (ys ++ []); rw [List.append_nil]; exact H3.out.1, H3.out.2⟩
  case round =>
    obtain ⟨j, hj, hgk, rfl, hw, hf⟩ := hrel
    have HG : Hid (gk = p.on.length - j ∧ Wr wr b base wayL (ys ++ onB (p.on.take j)) ∧ Fo b w1 wr) := ⟨hgk, hw, hf⟩
    clear hgk hw hf
    by_cases hlt : j < p.on.length
    · have hlt' : (j : Int) < (p.on.length : Int) := by omega
      have h0 := HP.out.1.or p.on[j] (List.getElem_mem hlt)
      obtain ⟨y, hy⟩ : ∃ y : Nat, p.on[j] + 1 = (y : Int) := ⟨(p.on[j] + 1).toNat, by omega⟩
      obtain ⟨g, f, rfl, _, _, d0⟩ := (HR.out.2.2.2.1.fo HW1.out HR.out.2.2.2.2.2 HG.out.2.2) j (.int .i64 p.on[j]) (by simp [iC, hlt])
      have HT : Hid (onB (p.on.take (j + 1)) = onB (p.on.take j) ++ numB y) := by show _ = _; rw [onB_take hlt, hy, Int.toNat_natCast]
      have HLt : Hid (j < p.on.length) := hlt
      have HNm := show Hid _ from wnum_any (n := y) HG.out.2.1 (by
        have h1 := onB_len (p.on.take j) (fun x hx => HP.out.1.or x (List.mem_of_mem_take hx))
        have h2 := HP.out.1.o
        have h3 := HYs.out.2
        have h4 : (p.on.take j).length ≤ p.on.length := by simp; omega
        simp only [List.length_append]
        omega) (by omega)
      obtain ⟨h01, h02⟩ := h0
      have hyb : (y : Int) ≤ 9223372036854775807 := by omega
      generalize p.on[j] = ov at *
      clear hlt
      go_wp2_with fail
      refine Calls.mono HNm.out ?_
      rintro e w4 ⟨rfl, hw, hf⟩
      have HE : Hid (Wr w4 b base wayL (ys ++ onB (p.on.take (j + 1))) ∧ Fo b w1 w4) := ⟨by rw [HT.out, ← List.append_assoc]; exact hw, HG.out.2.2.trans hf⟩
      clear hw hf HNm d0
      go_wp2_with fail
      go_roundg (p.on.length - (j + 1))
      case measure => have h1 := HG.out.1; have := HLt.out; omega
      case rel => exact ⟨j + 1, HLt.out, rfl, by go_num, HE.out.1, HE.out.2⟩
    · have hlt' : ¬ (j : Int) < (p.on.length : Int) := by omega
      obtain rfl : j = p.on.length := by omega
      have H4 : Hid (Wr wr b base wayL (ys ++ onB p.on) ∧ Fo b w1 wr) := ⟨by have h1 := HG.out.2.1; rw [List.take_length] at h1; exact h1, HG.out.2.2⟩
      have hl4 : (ys ++ onB p.on).length ≤ 1080000 := by
        have h1 := onB_len p.on HP.out.1.or
        have h2 := HP.out.1.o
        have h3 := HYs.out.2
        simp only [List.length_append]
        omega
      obtain ⟨c0, c1, c2, c3, c4, c5⟩ := cells6 (HK1.out.fo H4.out.2).h
      have HM := show Hid _ from wnum_any (n := ms) H4.out.1 (by omega) HMs.out.2
      have HL4 : Hid ((ys ++ onB p.on).length ≤ 1080000) := hl4
      clear HG hlt hj H3 hl4
      go_wp2_with fail
      refine Calls.mono HM.out ?_
      rintro e w5 ⟨rfl, hw5, hf5⟩
      have H5 : Hid (Wr w5 b base wayL (ys ++ onB p.on ++ numB ms) ∧ Fo b w1 w5) := ⟨hw5, H4.out.2.trans hf5⟩
      clear hw5 hf5 HM c0 c1 c2 c3 c4 c5
      obtain ⟨c0, c1, c2, c3, c4, c5⟩ := cells6 (HK1.out.fo H5.out.2).h
      have HN2 := show Hid _ from wnum_any (n := p.cd.length) H5.out.1 (by have h1 := HL4.out; have h2 := numB_ten HMs.out.2; rw [List.length_append]; omega) (by have := HP.out.1.c; omega)
      go_wp2_with fail
      refine Calls.mono HN2.out ?_
      rintro e w6 ⟨rfl, hw6, hf6⟩
      have hl6 : (ys ++ onB p.on ++ numB ms ++ numB p.cd.length).length ≤ 1090000 := by
        have h1 := HL4.out
        have h2 := numB_ten HMs.out.2
        have h3 := numB_ten (n := p.cd.length) (by have := HP.out.1.c; omega)
        rw [List.length_append, List.length_append]
        omega
      obtain ⟨zs, hzs⟩ : ∃ zs, zs = ys ++ onB p.on ++ numB ms ++ numB p.cd.length := ⟨_, rfl⟩
      rw [← hzs] at hw6 hl6
      have H6 : Hid (Wr w6 b base wayL zs ∧ Fo b w1 w6) := ⟨hw6, H5.out.2.trans hf6⟩
      have HZs : Hid (zs = ys ++ onB p.on ++ numB ms ++ numB p.cd.length ∧ zs.length ≤ 1090000) := ⟨hzs, hl6⟩
      clear hw6 hf6 HN2 hzs hl6 H4 H5 c0 c1 c2 c3 c4 c5
      obtain ⟨c0, c1, c2, c3, c4, c5⟩ := cells6 (HK1.out.fo H6.out.2).h
      go_wp2_with fail
      clear c0 c1 c2 c3 c4 c5
      go_loopg [38] p.cd.length (fun gq x wr => ∃ j : Nat, j ≤ p.cd.length ∧ gq = p.cd.length - j ∧ x = .int .i64 (j : Int) ∧ Wr wr b base wayL (zs ++ cdB (p.cd.take j)) ∧ Fo b w1 wr)
      case atStart => exact ⟨0, Nat.zero_le _, rfl, rfl, by show Wr w6 b base wayL (zs ++ []); rw [List.append_nil]; exact H6.out.1, H6.out.2⟩
      case round =>
        obtain ⟨j, hj, hgk, rfl, hw, hf⟩ := hrel
        have HG : Hid (gk = p.cd.length - j ∧ Wr wr b base wayL (zs ++ cdB (p.cd.take j)) ∧ Fo b w1 wr) := ⟨hgk, hw, hf⟩
        clear hgk hw hf
        by_cases hlt : j < p.cd.length
        · have hlt' : (j : Int) < (p.cd.length : Int) := by omega
          obtain ⟨e0, e1, e2, e3, e4⟩ := cC_at hlt
          have HRr := show Hid _ from HR.out.2.2.2.2.1.fo HW1.out HR.out.2.2.2.2.2 HG.out.2.2
          obtain ⟨g, f, rfl, _, _, d0⟩ := HRr.out _ _ e0
          obtain ⟨g', f', e', _, _, d1⟩ := HRr.out _ _ e1
          cases e'
          obtain ⟨g', f', e', _, _, d2⟩ := HRr.out _ _ e2
          cases e'
          obtain ⟨g', f', e', _, _, d3⟩ := HRr.out _ _ e3
          cases e'
          obtain ⟨g', f', e', _, _, d4⟩ := HRr.out _ _ e4
          cases e'
          rw [← Nat.add_assoc] at d1 d2 d3 d4
          have HT : Hid (cdB (p.cd.take (j + 1)) = cdB (p.cd.take j) ++ insB p.cd[j].1 p.cd[j].2) := cdB_take hlt
          have hbl : (zs ++ cdB (p.cd.take j)).length ≤ 60000000 := by
            have h1 := cdB_len (p.cd.take j) (fun x hx => HP.out.1.cr x (List.mem_of_mem_take hx))
            have h2 := HP.out.1.c
            have h3 := HZs.out.2
            have h4 : (p.cd.take j).length ≤ p.cd.length := by simp; omega
            simp only [List.length_append]
            omega
          have HLt : Hid (j < p.cd.length ∧ (zs ++ cdB (p.cd.take j)).length ≤ 60000000) := ⟨hlt, hbl⟩
          have HCr := show Hid _ from HP.out.1.cr p.cd[j] (List.getElem_mem hlt)
          generalize p.cd[j] = ci at *
          obtain ⟨op, a⟩ := ci
          dsimp only at *
          have hb7 : Below wr.heap.size wr (wr.alloc (.cells #[.int .i64 (op : Int), .int .i64 (a 0), .int .i64 (a 1), .int .i64 (a 2), .int .i64 (a 3)] 64)) := (Below.refl _ wr).alloc (Nat.le_refl _) _
          have HI := show Hid _ from wins_any (HG.out.2.1.below hb7) (by have := HLt.out.2; omega) HCr.out.1 HCr.out.2
          have HF7 : Hid (Fo b w1 (wr.alloc (.cells #[.int .i64 (op : Int), .int .i64 (a 0), .int .i64 (a 1), .int .i64 (a 2), .int .i64 (a 3)] 64))) := HG.out.2.2.trans (Fo.of_below hb7 HG.out.2.1.blt)
          clear hlt hbl e0 e1 e2 e3 e4 hb7 HRr
          go_wp2_with fail
          clear d0 d1 d2 d3 d4
          generalize (wr.alloc (.cells #[.int .i64 (op : Int), .int .i64 (a 0), .int .i64 (a 1), .int .i64 (a 2), .int .i64 (a 3)] 64)) = w7 at *
          refine Calls.mono HI.out ?_
          rintro e w8 ⟨rfl, hw, hf⟩
          have HE : Hid (Wr w8 b base wayL (zs ++ cdB (p.cd.take (j + 1))) ∧ Fo b w1 w8) := ⟨by rw [HT.out, ← List.append_assoc]; exact hw, HF7.out.trans hf⟩
          clear hw hf HI HF7
          go_wp2_with fail
          go_roundg (p.cd.length - (j + 1))
          case measure => have h1 := HG.out.1; have := HLt.out.1; omega
          case rel => exact ⟨j + 1, HLt.out.1, rfl, by go_num, HE.out.1, HE.out.2⟩
        · have hlt' : ¬ (j : Int) < (p.cd.length : Int) := by omega
          obtain rfl : j = p.cd.length := by omega
          have HE : Hid (Wr wr b base wayL (xs ++ prgB p) ∧ Fo b W wr) := ⟨by
            have h1 := HG.out.2.1
            rw [List.take_length, HZs.out.1, HYs.out.1] at h1
            unfold prgB
            rw [HMs.out.1]
            simp only [List.append_assoc] at h1 ⊢
            exact h1, HF1.out.trans HG.out.2.2⟩
          clear HG hlt hj H6
          go_wp2_with fail
          go_end0
          exact ⟨rfl, HE.out.1, HE.out.2⟩
end Go.Proofs.YtcblichnkakhdaaDoor.Cd
