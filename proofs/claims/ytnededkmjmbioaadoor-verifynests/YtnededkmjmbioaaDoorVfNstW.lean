import Derived.Test.YtnededkmjmbioaaDoorVfHead
import Derived.Test.YtnededkmjmbioaaDoorVfMk
import Derived.Test.YtnededkmjmbioaaDoorVfNst
import Derived.Test.YtnededkmjmbioaaDoorVfRsm
namespace Go.Proofs.YtnededkmjmbioaaDoor.Vf
open Go.RowKit Go.Proofs.YtnededkmjmbioaaDoor.Nm
/-- the first j instructions -/
def ntC (rs : List Int) (lg j : Nat) : List Ins := (List.range j).map (ntI rs lg)
theorem ntC_len (rs : List Int) (lg j : Nat) : (ntC rs lg j).length = j := by unfold ntC; simp
theorem ntC_succ (rs : List Int) (lg j : Nat) : ntC rs lg (j + 1) = ntC rs lg j ++ [ntI rs lg j] := by unfold ntC; rw [List.range_succ, List.map_append]; rfl
/-- the rounds that are asked -/
def rdL (l : List Int) : List Int := l.map fun r => (wtn r 4194305 : Int)
theorem rdL_len (l : List Int) : (rdL l).length = l.length := by unfold rdL; simp
theorem rdL_at {l : List Int} {j : Nat} (h : j < l.length) : (rdL l).getD j 0 = (wtn l[j] 4194305 : Int) := by unfold rdL; rw [List.getD_eq_getElem?_getD, List.getElem?_map, List.getElem?_eq_getElem h]; rfl
theorem rdL_le (l : List Int) : ∀ r ∈ rdL l, 0 ≤ r ∧ r ≤ 4194304 := fun r hr => by
  unfold rdL at hr
  obtain ⟨x, -, rfl⟩ := List.mem_map.1 hr
  have := wtn_lt x (n := 4194305) (by omega)
  omega
/-- what Run tells of the loops, in one form -/
theorem nt_out (rs : List Int) (lg : Nat) (hn : rs.length ≤ 1000) (hl : lg ≤ 1000) (hr : ∀ r ∈ rs, 0 ≤ r ∧ r ≤ 4194304) : ∃ fe cm : Int, (∀ (v : PV) (W : World), IsPg W v (ntP rs lg) → Ef W → Calls Tryd.prog 11 #[.agg (pvC v (ntP rs lg))] W fun e w' => ∃ o1 n1 m1, e = .returned (.tuple #[.agg #[.slice o1 n1 m1, .int .i64 cm], .agg #[.int .i64 fe, .int .i64 0]]) ∧ Below W.heap.size W w') ∧ ((1152921504606846976 < ntW rs lg ∧ fe = 97 ∧ cm = 0) ∨ (ntW rs lg ≤ 1152921504606846976 ∧ fe = 0 ∧ cm = ntW rs lg)) := by
  obtain ⟨j1, j2⟩ := nt_judge rs lg hn hl hr
  by_cases h : 1152921504606846976 < ntW rs lg
  · refine ⟨97, 0, fun v W hP hE => (run_any v _ W hP hE).mono ?_, .inl ⟨h, rfl, rfl⟩⟩
    rintro r w' hh
    exact ⟨_, _, _, hh.err 97 0 (j1 h), hh.bel⟩
  · obtain ⟨⟨g, hg⟩, hc⟩ := j2 (by omega)
    refine ⟨0, _, fun v W hP hE => (run_any v _ W hP hE).mono ?_, .inr ⟨by omega, rfl, rfl⟩⟩
    rintro r w' hh
    obtain ⟨b, hb, -, -⟩ := hh.ok g hg
    rw [hc] at hb
    exact ⟨_, _, _, hb, hh.bel⟩
set_option maxHeartbeats 12800000 in
set_option maxRecDepth 100000 in
theorem nestsWalk (w : World) (ro : Option Addr) (rc : Nat) (l : List Int) (hr : Rd w ro (iC l)) (hm : l.length ≤ maxLen) (_ : ∀ n ∈ l, -9223372036854775808 ≤ n ∧ n ≤ 9223372036854775807) (b : Int) (_ : -9223372036854775808 ≤ b) (_ : b ≤ 9223372036854775807) (hE : Ef w) :
    Calls Tryd.prog 6 #[.slice ro l.length rc, .int .i64 b] w fun e w' => e = .returned (.bool true) ∧ Below w.heap.size w w' := by
  have HEf : Hid (∀ W, Below w.heap.size w W → Ef W) := fun W hb => hE.below hb
  have HHd : Hid (∀ W, Below w.heap.size w W → Calls Tryd.prog 8 #[] W fun e w' => e = .returned (.bool true) ∧ Below W.heap.size W w') := fun W hb => head_any W (hE.below hb)
  have HRd : Hid (Rd w ro (iC l)) := hr
  unfold maxLen at hm
  have hm' : (l.length : Int) ≤ 9223372036854775807 := by omega
  by_cases hbig : 40 < l.length
  · have hbig' : (40 : Int) < (l.length : Int) := by omega
    clear hE hr hm hbig
    go_enter Tryd.func6, Tryd.ntmps6
    go_wp2_with fail
    refine (HHd.out _ (Below.refl _ _)).mono ?_
    rintro e w9 ⟨rfl, hb9⟩
    have HB9 : Hid (Below w.heap.size w w9) := hb9
    clear hb9
    go_wp2_with fail
    go_ret
    exact ⟨rfl, HB9.out⟩
  · have hle : (l.length : Int) ≤ 40 := by omega
    have HLe : Hid (l.length ≤ 40) := by show _ ≤ _; omega
    have HWb : Hid (∀ W, Calls Tryd.prog 18 #[.int .i64 b, .int .i64 40] W fun r w' => r = .returned (.int .i64 (wtn b 40 : Nat)) ∧ w' = W) := fun W => wtn_any b 40 (by omega) (by omega) W
    have hz0 := wtn_lt b (n := 40) (by omega)
    generalize wtn b 40 = lg at *
    have hz0' : (lg : Int) < 40 := by omega
    have HLg : Hid (lg < 40) := hz0
    clear hE hr hm hbig hm' hz0
    go_enter Tryd.func6, Tryd.ntmps6
    go_wp2_with fail
    refine (HWb.out _).mono ?_
    rintro e w1 ⟨rfl, rfl⟩
    go_wp2_with fail
    refine (small_any _).mono ?_
    rintro e w2 ⟨hb2, qa, qb, qc, rfl, -, -, -, hp2⟩
    have hba : Below w2.heap.size w2 (w2.alloc (.cells #[.slice (some ⟨qa, 0, none⟩) 1 1, .slice none 0 0, .slice none 0 0, .slice (some ⟨qb, 0, none⟩) 1 1, .int .i64 0, .slice none 0 0] 28)) := (Below.refl _ w2).alloc (Nat.le_refl _) _
    have HA0 : Hid (Below w2.heap.size w2 (w2.alloc (.cells #[.slice (some ⟨qa, 0, none⟩) 1 1, .slice none 0 0, .slice none 0 0, .slice (some ⟨qb, 0, none⟩) 1 1, .int .i64 0, .slice none 0 0] 28)) ∧ (w2.alloc (.cells #[.slice (some ⟨qa, 0, none⟩) 1 1, .slice none 0 0, .slice none 0 0, .slice (some ⟨qb, 0, none⟩) 1 1, .int .i64 0, .slice none 0 0] 28)).heap[w2.heap.size]? = some (.cells #[.slice (some ⟨qa, 0, none⟩) 1 1, .slice none 0 0, .slice none 0 0, .slice (some ⟨qb, 0, none⟩) 1 1, .int .i64 0, .slice none 0 0] 28 (0, 0))) := ⟨hba, heap_alloc_new _ _⟩
    have HB2 : Hid (Below w1.heap.size w1 w2) := hb2
    have HP2 : Hid (IsPg w2 ⟨some ⟨qa, 0, none⟩, 1, none, 0, none, 0, some ⟨qb, 0, none⟩, 1, some ⟨qc, 0, none⟩, 2⟩ smP) := hp2
    clear hb2 hp2 hba HWb
    go_upto_region 9 with fail
    generalize w2.alloc (.cells #[.slice (some ⟨qa, 0, none⟩) 1 1, .slice none 0 0, .slice none 0 0, .slice (some ⟨qb, 0, none⟩) 1 1, .int .i64 0, .slice none 0 0] 28) = W0 at *
    have hbw : Below w1.heap.size w1 W0 := bel_step HB2.out HA0.out.1
    have hp0 := HP2.out.below HA0.out.1
    obtain ⟨lqa, lqb⟩ : qa < w2.heap.size ∧ qb < w2.heap.size := by
      obtain ⟨g1, f1, e1, h1, -⟩ := HP2.out.gh 0 _ rfl
      obtain ⟨g2, f2, e2, h2, -⟩ := HP2.out.on 0 _ rfl
      cases e1
      cases e2
      exact ⟨h1, h2⟩
    have H0 : Hid (Below w1.heap.size w1 W0 ∧ W0.heap[w2.heap.size]? = some (.cells #[.slice (some ⟨qa, 0, none⟩) 1 1, .slice none 0 0, .slice none 0 0, .slice (some ⟨qb, 0, none⟩) 1 1, .int .i64 0, .slice none 0 0] 28 (0, 0)) ∧ Rd W0 (some ⟨qa, 0, none⟩) (bC [false]) ∧ Rd W0 (some ⟨qb, 0, none⟩) (iC [-1])) := ⟨hbw, HA0.out.2, hp0.gh, hp0.on⟩
    have H0L : Hid (qa < w2.heap.size ∧ qb < w2.heap.size ∧ w1.heap.size ≤ w2.heap.size ∧ w2.heap.size < W0.heap.size) := ⟨lqa, lqb, HB2.out.size, blk_lt HA0.out.2⟩
    clear hbw hp0 lqa lqb HA0 HP2 HB2
    generalize w2.heap.size = pb at *
    obtain ⟨j0, hj, hj0, hj1, hj2⟩ := info_parts infoIn
    obtain ⟨sz, hsz, hsz1, hsz2⟩ : ∃ sz : Int, 2 * (l.length : Int) + (lg : Int) + (l.length : Int) + 2 = sz ∧ 2 ≤ sz ∧ sz ≤ 200 := ⟨_, rfl, by omega, by omega⟩
    rw [hsz]
    have HSz : Hid (sz = 3 * (l.length : Int) + (lg : Int) + 2) := by show _ = _; omega
    clear hsz
    obtain ⟨n, hn⟩ : ∃ n, l.length = n := ⟨_, rfl⟩
    rw [hn] at hle HLe HSz ⊢
    have HN : Hid (l.length = n) := hn
    clear hn
    go_loopg [8] n (fun gq x wr => ∃ (j : Nat) (v : Value), j ≤ n ∧ gq = n - j ∧ x = .int .i64 (j : Int) ∧ Mk W0 wr pb (.slice (some ⟨qa, 0, none⟩) 1 1) (.slice none 0 0) (.slice none 0 0) (.slice (some ⟨qb, 0, none⟩) 1 1) (.int .i64 0) v (ntC (rdL l) lg (2 * j)))
    case atStart => exact ⟨0, _, Nat.zero_le _, rfl, rfl, Mk.new H0.out.2.1⟩
    case round =>
      obtain ⟨j, v, hj9, hgk, rfl, hmk⟩ := hrel
      have HG : Hid (gk = n - j ∧ Mk W0 wr pb (.slice (some ⟨qa, 0, none⟩) 1 1) (.slice none 0 0) (.slice none 0 0) (.slice (some ⟨qb, 0, none⟩) 1 1) (.int .i64 0) v (ntC (rdL l) lg (2 * j))) := ⟨hgk, hmk⟩
      clear hgk hmk
      by_cases hlt : j < n
      · have hlt' : (j : Int) < (n : Int) := by omega
        have HLt : Hid (j < n) := hlt
        obtain ⟨bo, bc, rfl⟩ := HG.out.2.form (ntC_len (rdL l) lg (2 * j))
        have hjl : j < l.length := by have := HN.out; omega
        obtain ⟨rg, rf, hro, hrg, -⟩ := rd_int HRd.out hjl
        obtain rfl : ro = some ⟨rg, rf, none⟩ := hro
        have hbr : Below w1.heap.size w1 wr := HG.out.2.bel H0.out.1 H0L.out.2.2.1
        obtain ⟨g9, f9, e9, -, d0⟩ := rd_int (HRd.out.below hbr) hjl
        cases e9
        obtain ⟨r, hrv⟩ : ∃ r, r = l[j] := ⟨_, rfl⟩
        rw [← hrv] at d0
        have HRg : Hid (rg < w1.heap.size ∧ (rdL l).getD j 0 = (wtn r 4194305 : Int)) := ⟨hrg, by rw [hrv]; exact rdL_at hjl⟩
        have HWr : Hid (∀ W, Calls Tryd.prog 18 #[.int .i64 r, .int .i64 4194305] W fun e w' => e = .returned (.int .i64 (wtn r 4194305 : Nat)) ∧ w' = W) := fun W => wtn_any r 4194305 (by omega) (by omega) W
        generalize wtn r 4194305 = rr at *
        clear hlt hj9 hjl hrg hrv hbr
        go_upto_region 11 with fail
        have hbd : Below wr.heap.size wr wr.drew := (Below.refl _ wr).drew
        have HSS : Hid (∀ X, X.heap[rg]? = wr.heap[rg]? → (fun w' : World => w'.cell? ⟨rg, rf + j, none⟩ = some (.int .i64 r)) X) := fun X hX => (World.cell?_of_block (a := ⟨rg, rf + j, none⟩) hX).trans d0
        refine wp_region_held (S := fun w' : World => w'.cell? ⟨rg, rf + j, none⟩ = some (.int .i64 r)) (by kernel_rfl) ?_
        change wpAnyH _ _ _ _ _ _ _ _ wr.drew
        have hS := HSS.out wr.drew rfl
        refine tqS 0 rfl hS ?_
        refine tqS 2 rfl hS ?_
        refine tqS 3 rfl hS ?_
        refine tqS 4 rfl hS ?_
        refine tqS 5 rfl hS ?_
        refine tqS 8 rfl hS ?_
        have hw1 : IntKind.i64.wrap (sz - 2) = sz - 2 := by rw [IntKind.wrap_i64]; omega
        have hw2 : IntKind.i64.wrap (sz - 2 - (j : Int)) = sz - 2 - (j : Int) := by rw [IntKind.wrap_i64]; omega
        refine tqS (v := .int .i64 (sz - 2)) 9 rfl hS ?_
        refine tqS 10 rfl hS ?_
        refine tqS (v := .int .i64 (sz - 2 - (j : Int))) 11 rfl hS ?_
        refine tqS 12 rfl hS ?_
        refine wpAnyH_ready (rs := [1, 6]) (by kernel_rfl) (by simp) ?_
        have HMd : Hid (Mk W0 wr.drew pb (.slice (some ⟨qa, 0, none⟩) 1 1) (.slice none 0 0) (.slice none 0 0) (.slice (some ⟨qb, 0, none⟩) 1 1) (.int .i64 0) (.slice bo (2 * j) bc) (ntC (rdL l) lg (2 * j))) := HG.out.2.drew
        have hsm : rg < wr.drew.heap.size := by have h1 := HRg.out; have h2 := HMd.out.size; have h3 := H0L.out; omega
        have HSD : Hid (∀ X, X.heap[rg]? = wr.drew.heap[rg]? → (fun w' : World => w'.cell? ⟨rg, rf + j, none⟩ = some (.int .i64 r)) X) := fun X hX => (World.cell?_of_block (a := ⟨rg, rf + j, none⟩) hX).trans d0
        have HNw : Hid ([⟨24, (rr : Int), 0, 0, 0⟩, ⟨25, sz - 2 - (j : Int), 0, 0, 0⟩] = [ntI (rdL l) lg (2 * j)] ++ [ntI (rdL l) lg (2 * j + 1)]) := by
          have h1 := HLt.out
          have h2 := HN.out
          have h3 := HSz.out
          show [⟨24, (rr : Int), 0, 0, 0⟩, ⟨25, sz - 2 - (j : Int), 0, 0, 0⟩] = [ntI (rdL l) lg (2 * j)] ++ [ntI (rdL l) lg (2 * j + 1)]
          rw [nt_loop _ _ (by rw [rdL_len]; omega), nt_turn _ _ (by rw [rdL_len]; omega), HRg.out.2, rdL_len, show ((3 * l.length + lg - j : Nat) : Int) = sz - 2 - (j : Int) by omega]
          rfl
        clear HSS
        generalize wr.drew = xd at *
        have HSA : Hid (∀ o, (xd.alloc o).cell? ⟨rg, rf + j, none⟩ = some (.int .i64 r)) := fun o => HSD.out _ (((Below.refl _ xd).alloc (Nat.le_refl _) o).block _ hsm)
        have HO2 : Hid ((xd.alloc (.cells #[.int .i64 24, .int .i64 (rr : Int), .int .i64 0, .int .i64 0, .int .i64 0, .int .i64 25, .int .i64 (sz - 2 - (j : Int)), .int .i64 0, .int .i64 0, .int .i64 0] 46)).ownsRow W0.heap.size 46 5 (.slice bo (2 * j) bc) (2 * j) (cC (ntC (rdL l) lg (2 * j)))) := HMd.out.owns (ntC_len (rdL l) lg (2 * j)) _
        have HSz2 : Hid (W0.heap.size ≤ (xd.alloc (.cells #[.int .i64 24, .int .i64 (rr : Int), .int .i64 0, .int .i64 0, .int .i64 0, .int .i64 25, .int .i64 (sz - 2 - (j : Int)), .int .i64 0, .int .i64 0, .int .i64 0] 46)).heap.size) := by
          have := HMd.out.size
          show _ ≤ _
          simp
          omega
        obtain ⟨-, -, -, -, -, i5⟩ := cells6 HMd.out.box
        have i5a : (xd.alloc (.cells #[.int .i64 24, .int .i64 (rr : Int), .int .i64 0, .int .i64 0, .int .i64 0, .int .i64 25, .int .i64 (sz - 2 - (j : Int)), .int .i64 0, .int .i64 0, .int .i64 0] 46)).cell? ⟨pb, 5, none⟩ = some (.slice bo (2 * j) bc) := (((Below.refl _ xd).alloc (Nat.le_refl _) _).cell (p := ⟨pb, 5, none⟩) (blk_lt HMd.out.box)).trans i5
        refine AllReadyH.cons rfl (fun K hK => ?_) (AllReadyH.cons rfl (fun K hK => ?_) AllReadyH.nil)
        · skip
          go_simp
          refine hK.out _ _ hS (fun hS => ?_)
          clear hK K
          refine wpAnyH_ready (rs := [6]) (by kernel_rfl) (by simp) ?_
          refine AllReadyH.cons rfl (fun K hK => ?_) AllReadyH.nil
          go_simp
          refine Calls.mono (HWr.out _) ?_
          rintro e w9 ⟨rfl, h9⟩
          replace h9 := h9.symm
          subst h9
          refine hK.out _ _ hS (fun hS => ?_)
          clear hK K
          refine tqS 7 rfl hS ?_
          refine wpAnyH_ready (rs := [13]) (by kernel_rfl) (by simp) ?_
          refine AllReadyH.cons rfl (fun K hK => ?_) AllReadyH.nil
          go_simp
          refine hK.out _ _ (HSA.out _) (fun hS => ?_)
          clear hK K
          refine wpAnyH_ready (rs := [14]) (by kernel_rfl) (by simp) ?_
          refine AllReadyH.cons rfl (fun K hK => ?_) AllReadyH.nil
          refine step_gone _ rfl (.tmp 38) (.tmp 50) 26 rfl W0.heap.size 46 j0 (.agg #[.int .i64 0, .int .i64 0, .int .i64 0, .int .i64 0, .int .i64 0]) 5 40 Tryd.underlying26 hj hj0 hj1 hj2 rfl (by decide) (.slice bo (2 * j) bc) (2 * j) (cC (ntC (rdL l) lg (2 * j))) (by simp [Act.eval]) HO2.out ⟨xd.heap.size, 0, none⟩ 2 2 (cC [⟨24, (rr : Int), 0, 0, 0⟩, ⟨25, sz - 2 - (j : Int), 0, 0, 0⟩]) (by simp [Act.eval]) rfl (cells_new xd 46 (cC [⟨24, (rr : Int), 0, 0, 0⟩, ⟨25, sz - 2 - (j : Int), 0, 0, 0⟩])) (cC_one _) (by have := HLt.out; have := HLe.out; unfold maxLen; omega) (by have := HLt.out; have := HLe.out; omega) HSz2.out (by decide) ?_
          intro v4 w4 ho hG
          obtain ⟨bo4, bc4, rfl⟩ := own_form ho
          have HM4 : Hid (Mk W0 (w4.setCell ⟨pb, 5, none⟩ (.slice bo4 (2 * j + 2) bc4)) pb (.slice (some ⟨qa, 0, none⟩) 1 1) (.slice none 0 0) (.slice none 0 0) (.slice (some ⟨qb, 0, none⟩) 1 1) (.int .i64 0) (.slice bo4 (2 * j + 2) bc4) (ntC (rdL l) lg (2 * (j + 1)))) := by
            have := (HMd.out).app [⟨24, (rr : Int), 0, 0, 0⟩, ⟨25, sz - 2 - (j : Int), 0, 0, 0⟩] (by rw [ntC_len]; exact ho) hG
            rw [HNw.out, ← List.append_assoc, ← ntC_succ, ← ntC_succ] at this
            exact this
          have hold := HMd.out.old hG (k := rg) (by have h1 := HRg.out; have h3 := H0L.out; omega)
          obtain ⟨x0, x1, x2, x3, x4, x5⟩ := cells6 (HMd.out.mid hG)
          have fz : ∀ j, w4.frozen? ⟨pb, j, none⟩ = false := fun j => by have := HMd.out.mid hG; simp only [World.frozen?, this]; rfl
          refine hK.out _ _ (HSD.out _ hold) (fun hS => ?_)
          clear hK K
          have hS5 := HSD.out (w4.setCell ⟨pb, 5, none⟩ (.slice bo4 (2 * j + 2) bc4)) ((heap_setCell_other w4 ⟨pb, 5, none⟩ rg _ (by show rg ≠ pb; have h1 := HRg.out; have h3 := H0L.out; omega)).trans hold)
          refine wpAnyH_ready (rs := [15]) (by kernel_rfl) (by simp) ?_
          refine AllReadyH.cons rfl (fun K hK => ?_) AllReadyH.nil
          go_simp
          refine hK.out _ _ hS (fun hS => ?_)
          clear hK K
          refine wpAnyH_ready (rs := [16]) (by kernel_rfl) (by simp) ?_
          refine AllReadyH.cons rfl (fun K hK => ?_) AllReadyH.nil
          go_simp
          refine hK.out _ _ hS5 (fun hS => ?_)
          clear hK K
          refine wpAnyH_done (by kernel_rfl) ?_ _
          clear ho hG hold hS hS5 x0 x1 x2 x3 x4 x5 fz HMd HSD HSA HO2 HSz2
          go_wp2_with fail
          go_roundg (n - (j + 1))
          case measure => have h1 := HG.out.1; have := HLt.out; omega
          case rel => exact ⟨j + 1, _, HLt.out, rfl, by go_num, HM4.out⟩
        · skip
          go_simp
          refine Calls.mono (HWr.out _) ?_
          rintro e w9 ⟨rfl, h9⟩
          replace h9 := h9.symm
          subst h9
          refine hK.out _ _ hS (fun hS => ?_)
          clear hK K
          refine tqS 7 rfl hS ?_
          refine wpAnyH_ready (rs := [1, 13]) (by kernel_rfl) (by simp) ?_
          refine AllReadyH.cons rfl (fun K hK => ?_) (AllReadyH.cons rfl (fun K hK => ?_) AllReadyH.nil)
          · skip
            go_simp
            refine hK.out _ _ hS (fun hS => ?_)
            clear hK K
            refine wpAnyH_ready (rs := [13]) (by kernel_rfl) (by simp) ?_
            refine AllReadyH.cons rfl (fun K hK => ?_) AllReadyH.nil
            go_simp
            refine hK.out _ _ (HSA.out _) (fun hS => ?_)
            clear hK K
            refine wpAnyH_ready (rs := [14]) (by kernel_rfl) (by simp) ?_
            refine AllReadyH.cons rfl (fun K hK => ?_) AllReadyH.nil
            refine step_gone _ rfl (.tmp 38) (.tmp 50) 26 rfl W0.heap.size 46 j0 (.agg #[.int .i64 0, .int .i64 0, .int .i64 0, .int .i64 0, .int .i64 0]) 5 40 Tryd.underlying26 hj hj0 hj1 hj2 rfl (by decide) (.slice bo (2 * j) bc) (2 * j) (cC (ntC (rdL l) lg (2 * j))) (by simp [Act.eval]) HO2.out ⟨xd.heap.size, 0, none⟩ 2 2 (cC [⟨24, (rr : Int), 0, 0, 0⟩, ⟨25, sz - 2 - (j : Int), 0, 0, 0⟩]) (by simp [Act.eval]) rfl (cells_new xd 46 (cC [⟨24, (rr : Int), 0, 0, 0⟩, ⟨25, sz - 2 - (j : Int), 0, 0, 0⟩])) (cC_one _) (by have := HLt.out; have := HLe.out; unfold maxLen; omega) (by have := HLt.out; have := HLe.out; omega) HSz2.out (by decide) ?_
            intro v4 w4 ho hG
            obtain ⟨bo4, bc4, rfl⟩ := own_form ho
            have HM4 : Hid (Mk W0 (w4.setCell ⟨pb, 5, none⟩ (.slice bo4 (2 * j + 2) bc4)) pb (.slice (some ⟨qa, 0, none⟩) 1 1) (.slice none 0 0) (.slice none 0 0) (.slice (some ⟨qb, 0, none⟩) 1 1) (.int .i64 0) (.slice bo4 (2 * j + 2) bc4) (ntC (rdL l) lg (2 * (j + 1)))) := by
              have := (HMd.out).app [⟨24, (rr : Int), 0, 0, 0⟩, ⟨25, sz - 2 - (j : Int), 0, 0, 0⟩] (by rw [ntC_len]; exact ho) hG
              rw [HNw.out, ← List.append_assoc, ← ntC_succ, ← ntC_succ] at this
              exact this
            have hold := HMd.out.old hG (k := rg) (by have h1 := HRg.out; have h3 := H0L.out; omega)
            obtain ⟨x0, x1, x2, x3, x4, x5⟩ := cells6 (HMd.out.mid hG)
            have fz : ∀ j, w4.frozen? ⟨pb, j, none⟩ = false := fun j => by have := HMd.out.mid hG; simp only [World.frozen?, this]; rfl
            refine hK.out _ _ (HSD.out _ hold) (fun hS => ?_)
            clear hK K
            have hS5 := HSD.out (w4.setCell ⟨pb, 5, none⟩ (.slice bo4 (2 * j + 2) bc4)) ((heap_setCell_other w4 ⟨pb, 5, none⟩ rg _ (by show rg ≠ pb; have h1 := HRg.out; have h3 := H0L.out; omega)).trans hold)
            refine wpAnyH_ready (rs := [15]) (by kernel_rfl) (by simp) ?_
            refine AllReadyH.cons rfl (fun K hK => ?_) AllReadyH.nil
            go_simp
            refine hK.out _ _ hS (fun hS => ?_)
            clear hK K
            refine wpAnyH_ready (rs := [16]) (by kernel_rfl) (by simp) ?_
            refine AllReadyH.cons rfl (fun K hK => ?_) AllReadyH.nil
            go_simp
            refine hK.out _ _ hS5 (fun hS => ?_)
            clear hK K
            refine wpAnyH_done (by kernel_rfl) ?_ _
            clear ho hG hold hS hS5 x0 x1 x2 x3 x4 x5 fz HMd HSD HSA HO2 HSz2
            go_wp2_with fail
            go_roundg (n - (j + 1))
            case measure => have h1 := HG.out.1; have := HLt.out; omega
            case rel => exact ⟨j + 1, _, HLt.out, rfl, by go_num, HM4.out⟩
          · skip
            go_simp
            refine hK.out _ _ (HSA.out _) (fun hS => ?_)
            clear hK K
            refine wpAnyH_ready (rs := [1]) (by kernel_rfl) (by simp) ?_
            refine AllReadyH.cons rfl (fun K hK => ?_) AllReadyH.nil
            go_simp
            refine hK.out _ _ hS (fun hS => ?_)
            clear hK K
            refine wpAnyH_ready (rs := [14]) (by kernel_rfl) (by simp) ?_
            refine AllReadyH.cons rfl (fun K hK => ?_) AllReadyH.nil
            refine step_gone _ rfl (.tmp 38) (.tmp 50) 26 rfl W0.heap.size 46 j0 (.agg #[.int .i64 0, .int .i64 0, .int .i64 0, .int .i64 0, .int .i64 0]) 5 40 Tryd.underlying26 hj hj0 hj1 hj2 rfl (by decide) (.slice bo (2 * j) bc) (2 * j) (cC (ntC (rdL l) lg (2 * j))) (by simp [Act.eval]) HO2.out ⟨xd.heap.size, 0, none⟩ 2 2 (cC [⟨24, (rr : Int), 0, 0, 0⟩, ⟨25, sz - 2 - (j : Int), 0, 0, 0⟩]) (by simp [Act.eval]) rfl (cells_new xd 46 (cC [⟨24, (rr : Int), 0, 0, 0⟩, ⟨25, sz - 2 - (j : Int), 0, 0, 0⟩])) (cC_one _) (by have := HLt.out; have := HLe.out; unfold maxLen; omega) (by have := HLt.out; have := HLe.out; omega) HSz2.out (by decide) ?_
            intro v4 w4 ho hG
            obtain ⟨bo4, bc4, rfl⟩ := own_form ho
            have HM4 : Hid (Mk W0 (w4.setCell ⟨pb, 5, none⟩ (.slice bo4 (2 * j + 2) bc4)) pb (.slice (some ⟨qa, 0, none⟩) 1 1) (.slice none 0 0) (.slice none 0 0) (.slice (some ⟨qb, 0, none⟩) 1 1) (.int .i64 0) (.slice bo4 (2 * j + 2) bc4) (ntC (rdL l) lg (2 * (j + 1)))) := by
              have := (HMd.out).app [⟨24, (rr : Int), 0, 0, 0⟩, ⟨25, sz - 2 - (j : Int), 0, 0, 0⟩] (by rw [ntC_len]; exact ho) hG
              rw [HNw.out, ← List.append_assoc, ← ntC_succ, ← ntC_succ] at this
              exact this
            have hold := HMd.out.old hG (k := rg) (by have h1 := HRg.out; have h3 := H0L.out; omega)
            obtain ⟨x0, x1, x2, x3, x4, x5⟩ := cells6 (HMd.out.mid hG)
            have fz : ∀ j, w4.frozen? ⟨pb, j, none⟩ = false := fun j => by have := HMd.out.mid hG; simp only [World.frozen?, this]; rfl
            refine hK.out _ _ (HSD.out _ hold) (fun hS => ?_)
            clear hK K
            have hS5 := HSD.out (w4.setCell ⟨pb, 5, none⟩ (.slice bo4 (2 * j + 2) bc4)) ((heap_setCell_other w4 ⟨pb, 5, none⟩ rg _ (by show rg ≠ pb; have h1 := HRg.out; have h3 := H0L.out; omega)).trans hold)
            refine wpAnyH_ready (rs := [15]) (by kernel_rfl) (by simp) ?_
            refine AllReadyH.cons rfl (fun K hK => ?_) AllReadyH.nil
            go_simp
            refine hK.out _ _ hS (fun hS => ?_)
            clear hK K
            refine wpAnyH_ready (rs := [16]) (by kernel_rfl) (by simp) ?_
            refine AllReadyH.cons rfl (fun K hK => ?_) AllReadyH.nil
            go_simp
            refine hK.out _ _ hS5 (fun hS => ?_)
            clear hK K
            refine wpAnyH_done (by kernel_rfl) ?_ _
            clear ho hG hold hS hS5 x0 x1 x2 x3 x4 x5 fz HMd HSD HSA HO2 HSz2
            go_wp2_with fail
            go_roundg (n - (j + 1))
            case measure => have h1 := HG.out.1; have := HLt.out; omega
            case rel => exact ⟨j + 1, _, HLt.out, rfl, by go_num, HM4.out⟩
      · obtain rfl : n = j := by omega
        clear hlt hj9
        have HMk : Hid (Mk W0 wr pb (.slice (some ⟨qa, 0, none⟩) 1 1) (.slice none 0 0) (.slice none 0 0) (.slice (some ⟨qb, 0, none⟩) 1 1) (.int .i64 0) v (ntC (rdL l) lg (2 * n))) := HG.out.2
        clear HG
        go_upto_region 13 with fail
        obtain ⟨Wa, hWa⟩ : ∃ Wa, Wa = wr := ⟨_, rfl⟩
        rw [← hWa] at HMk
        have HWA : Hid (Wa = wr) := hWa
        clear hWa
        go_loopg [9] lg (fun gq x wr => ∃ (j : Nat) (v : Value), j ≤ lg ∧ gq = lg - j ∧ x = .int .i64 (j : Int) ∧ Mk W0 wr pb (.slice (some ⟨qa, 0, none⟩) 1 1) (.slice none 0 0) (.slice none 0 0) (.slice (some ⟨qb, 0, none⟩) 1 1) (.int .i64 0) v (ntC (rdL l) lg (2 * n + j)))
        case atStart => exact ⟨0, _, Nat.zero_le _, rfl, rfl, by rw [← HWA.out]; exact HMk.out⟩
        case round =>
          obtain ⟨j, v, hj9, hgk, rfl, hmk⟩ := hrel
          have HG : Hid (gk = lg - j ∧ Mk W0 wr pb (.slice (some ⟨qa, 0, none⟩) 1 1) (.slice none 0 0) (.slice none 0 0) (.slice (some ⟨qb, 0, none⟩) 1 1) (.int .i64 0) v (ntC (rdL l) lg (2 * n + j))) := ⟨hgk, hmk⟩
          clear hgk hmk HMk HWA
          by_cases hlt : j < lg
          · have hlt' : (j : Int) < (lg : Int) := by omega
            have HLt : Hid (j < lg) := hlt
            obtain ⟨bo, bc, rfl⟩ := HG.out.2.form (ntC_len (rdL l) lg (2 * n + j))
            have HO2 : Hid ((wr.alloc (.cells #[.int .i64 33, .int .i64 0, .int .i64 0, .int .i64 0, .int .i64 0] 46)).ownsRow W0.heap.size 46 5 (.slice bo (2 * n + j) bc) (2 * n + j) (cC (ntC (rdL l) lg (2 * n + j)))) := HG.out.2.owns (ntC_len (rdL l) lg (2 * n + j)) _
            obtain ⟨i0, i1, i2, i3, i4, i5⟩ := cells6 HG.out.2.box
            have HSz2 : Hid (W0.heap.size ≤ (wr.alloc (.cells #[.int .i64 33, .int .i64 0, .int .i64 0, .int .i64 0, .int .i64 0] 46)).heap.size) := by
              have := HG.out.2.size
              show _ ≤ _
              simp
              omega
            have HNw : Hid ([(⟨33, 0, 0, 0, 0⟩ : Ins)] = [ntI (rdL l) lg (2 * n + j)]) := by
              have h1 := HLt.out
              have h2 := HN.out
              show [(⟨33, 0, 0, 0, 0⟩ : Ins)] = [ntI (rdL l) lg (2 * n + j)]
              rw [nt_row _ _ (by rw [rdL_len]; omega) (by rw [rdL_len]; omega)]
            clear hlt hj9
            go_wp2_with (at_builtin; refine append_gone _ rfl _ _ 26 rfl W0.heap.size 46 j0 (.agg #[.int .i64 0, .int .i64 0, .int .i64 0, .int .i64 0, .int .i64 0]) 5 40 Tryd.underlying26 hj hj0 hj1 hj2 rfl (by decide) (.slice bo (2 * n + j) bc) (2 * n + j) (cC (ntC (rdL l) lg (2 * n + j))) rfl HO2.out ⟨wr.heap.size, 0, none⟩ 1 1 (cC [⟨33, 0, 0, 0, 0⟩]) rfl rfl ?c1 ?c2 ?c3 ?c4 ?c5 ?c6 ?_)
            case c1 => exact cells_new wr 46 (cC [⟨33, 0, 0, 0, 0⟩])
            case c2 => exact cC_one _
            case c3 => have := HLt.out; have := HLe.out; have := HLg.out; unfold maxLen; omega
            case c4 => have := HLt.out; have := HLe.out; have := HLg.out; omega
            case c5 => exact HSz2.out
            case c6 => decide
            intro v4 w4 ho hG
            obtain ⟨bo4, bc4, rfl⟩ := own_form ho
            have HM4 : Hid (Mk W0 (w4.setCell ⟨pb, 5, none⟩ (.slice bo4 (2 * n + j + 1) bc4)) pb (.slice (some ⟨qa, 0, none⟩) 1 1) (.slice none 0 0) (.slice none 0 0) (.slice (some ⟨qb, 0, none⟩) 1 1) (.int .i64 0) (.slice bo4 (2 * n + j + 1) bc4) (ntC (rdL l) lg (2 * n + (j + 1)))) := by
              have := HG.out.2.app [⟨33, 0, 0, 0, 0⟩] (by rw [ntC_len]; exact ho) hG
              rw [HNw.out, ← ntC_succ] at this
              exact this
            obtain ⟨x0, x1, x2, x3, x4, x5⟩ := cells6 (HG.out.2.mid hG)
            have fz : ∀ j, w4.frozen? ⟨pb, j, none⟩ = false := fun j => by have := HG.out.2.mid hG; simp only [World.frozen?, this]; rfl
            clear ho hG i0 i1 i2 i3 i4 i5 HO2 HSz2 HNw
            go_wp2_with fail
            go_roundg (lg - (j + 1))
            case measure => have h1 := HG.out.1; have := HLt.out; omega
            case rel => exact ⟨j + 1, _, HLt.out, rfl, by go_num, HM4.out⟩
          · obtain rfl : lg = j := by omega
            clear hlt hj9
            have HMk : Hid (Mk W0 wr pb (.slice (some ⟨qa, 0, none⟩) 1 1) (.slice none 0 0) (.slice none 0 0) (.slice (some ⟨qb, 0, none⟩) 1 1) (.int .i64 0) v (ntC (rdL l) lg (2 * n + lg))) := HG.out.2
            clear HG
            go_upto_region 17 with fail
            obtain ⟨Wa, hWa⟩ : ∃ Wa, Wa = wr := ⟨_, rfl⟩
            rw [← hWa] at HMk
            have HWA : Hid (Wa = wr) := hWa
            clear hWa
            go_loopg [10] n (fun gq x wr => ∃ (j : Nat) (v : Value), j ≤ n ∧ gq = n - j ∧ x = .int .i64 (j : Int) ∧ Mk W0 wr pb (.slice (some ⟨qa, 0, none⟩) 1 1) (.slice none 0 0) (.slice none 0 0) (.slice (some ⟨qb, 0, none⟩) 1 1) (.int .i64 0) v (ntC (rdL l) lg (2 * n + lg + j)))
            case atStart => exact ⟨0, _, Nat.zero_le _, rfl, rfl, by rw [← HWA.out]; exact HMk.out⟩
            case round =>
              obtain ⟨j, v, hj9, hgk, rfl, hmk⟩ := hrel
              have HG : Hid (gk = n - j ∧ Mk W0 wr pb (.slice (some ⟨qa, 0, none⟩) 1 1) (.slice none 0 0) (.slice none 0 0) (.slice (some ⟨qb, 0, none⟩) 1 1) (.int .i64 0) v (ntC (rdL l) lg (2 * n + lg + j))) := ⟨hgk, hmk⟩
              clear hgk hmk HMk HWA
              by_cases hlt : j < n
              · have hlt' : (j : Int) < (n : Int) := by omega
                have HLt : Hid (j < n) := hlt
                obtain ⟨bo, bc, rfl⟩ := HG.out.2.form (ntC_len (rdL l) lg (2 * n + lg + j))
                have HO2 : Hid ((wr.alloc (.cells #[.int .i64 27, .int .i64 (2 * ((n : Int) - 1 - (j : Int)) + 1), .int .i64 0, .int .i64 0, .int .i64 0] 46)).ownsRow W0.heap.size 46 5 (.slice bo (2 * n + lg + j) bc) (2 * n + lg + j) (cC (ntC (rdL l) lg (2 * n + lg + j)))) := HG.out.2.owns (ntC_len (rdL l) lg (2 * n + lg + j)) _
                obtain ⟨i0, i1, i2, i3, i4, i5⟩ := cells6 HG.out.2.box
                have HSz2 : Hid (W0.heap.size ≤ (wr.alloc (.cells #[.int .i64 27, .int .i64 (2 * ((n : Int) - 1 - (j : Int)) + 1), .int .i64 0, .int .i64 0, .int .i64 0] 46)).heap.size) := by
                  have := HG.out.2.size
                  show _ ≤ _
                  simp
                  omega
                have HNw : Hid ([(⟨27, 2 * ((n : Int) - 1 - (j : Int)) + 1, 0, 0, 0⟩ : Ins)] = [ntI (rdL l) lg (2 * n + lg + j)]) := by
                  have h1 := HLt.out
                  have h2 := HN.out
                  show [(⟨27, 2 * ((n : Int) - 1 - (j : Int)) + 1, 0, 0, 0⟩ : Ins)] = [ntI (rdL l) lg (2 * n + lg + j)]
                  rw [← HN.out, ← rdL_len l, nt_again _ _ (by rw [rdL_len]; omega), show ((2 * ((rdL l).length - 1 - j) + 1 : Nat) : Int) = 2 * (((rdL l).length : Int) - 1 - (j : Int)) + 1 by rw [rdL_len]; omega]
                clear hlt hj9
                go_wp2_with (at_builtin; refine append_gone _ rfl _ _ 26 rfl W0.heap.size 46 j0 (.agg #[.int .i64 0, .int .i64 0, .int .i64 0, .int .i64 0, .int .i64 0]) 5 40 Tryd.underlying26 hj hj0 hj1 hj2 rfl (by decide) (.slice bo (2 * n + lg + j) bc) (2 * n + lg + j) (cC (ntC (rdL l) lg (2 * n + lg + j))) rfl HO2.out ⟨wr.heap.size, 0, none⟩ 1 1 (cC [⟨27, 2 * ((n : Int) - 1 - (j : Int)) + 1, 0, 0, 0⟩]) rfl rfl ?c1 ?c2 ?c3 ?c4 ?c5 ?c6 ?_)
                case c1 => exact cells_new wr 46 (cC [⟨27, 2 * ((n : Int) - 1 - (j : Int)) + 1, 0, 0, 0⟩])
                case c2 => exact cC_one _
                case c3 => have := HLt.out; have := HLe.out; have := HLg.out; unfold maxLen; omega
                case c4 => have := HLt.out; have := HLe.out; have := HLg.out; omega
                case c5 => exact HSz2.out
                case c6 => decide
                intro v4 w4 ho hG
                obtain ⟨bo4, bc4, rfl⟩ := own_form ho
                have HM4 : Hid (Mk W0 (w4.setCell ⟨pb, 5, none⟩ (.slice bo4 (2 * n + lg + j + 1) bc4)) pb (.slice (some ⟨qa, 0, none⟩) 1 1) (.slice none 0 0) (.slice none 0 0) (.slice (some ⟨qb, 0, none⟩) 1 1) (.int .i64 0) (.slice bo4 (2 * n + lg + j + 1) bc4) (ntC (rdL l) lg (2 * n + lg + (j + 1)))) := by
                  have := HG.out.2.app [⟨27, 2 * ((n : Int) - 1 - (j : Int)) + 1, 0, 0, 0⟩] (by rw [ntC_len]; exact ho) hG
                  rw [HNw.out, ← ntC_succ] at this
                  exact this
                obtain ⟨x0, x1, x2, x3, x4, x5⟩ := cells6 (HG.out.2.mid hG)
                have fz : ∀ j, w4.frozen? ⟨pb, j, none⟩ = false := fun j => by have := HG.out.2.mid hG; simp only [World.frozen?, this]; rfl
                clear ho hG i0 i1 i2 i3 i4 i5 HO2 HSz2 HNw
                go_wp2_with fail
                go_roundg (n - (j + 1))
                case measure => have h1 := HG.out.1; have := HLt.out; omega
                case rel => exact ⟨j + 1, _, HLt.out, rfl, by go_num, HM4.out⟩
              · obtain rfl : n = j := by omega
                clear hlt hj9
                have HMk : Hid (Mk W0 wr pb (.slice (some ⟨qa, 0, none⟩) 1 1) (.slice none 0 0) (.slice none 0 0) (.slice (some ⟨qb, 0, none⟩) 1 1) (.int .i64 0) v (ntC (rdL l) lg (2 * n + lg + n))) := HG.out.2
                clear HG
                go_upto_region 20 with fail
                obtain ⟨bo, bc, rfl⟩ := HMk.out.form (ntC_len (rdL l) lg (2 * n + lg + n))
                have HO2 : Hid ((wr.alloc (.cells #[.int .i64 31, .int .i64 0, .int .i64 0, .int .i64 0, .int .i64 0, .int .i64 0, .int .i64 0, .int .i64 0, .int .i64 0, .int .i64 0] 46)).ownsRow W0.heap.size 46 5 (.slice bo (2 * n + lg + n) bc) (2 * n + lg + n) (cC (ntC (rdL l) lg (2 * n + lg + n)))) := HMk.out.owns (ntC_len (rdL l) lg (2 * n + lg + n)) _
                obtain ⟨i0, i1, i2, i3, i4, i5⟩ := cells6 HMk.out.box
                have HSz2 : Hid (W0.heap.size ≤ (wr.alloc (.cells #[.int .i64 31, .int .i64 0, .int .i64 0, .int .i64 0, .int .i64 0, .int .i64 0, .int .i64 0, .int .i64 0, .int .i64 0, .int .i64 0] 46)).heap.size) := by
                  have := HMk.out.size
                  show _ ≤ _
                  simp
                  omega
                have HNw : Hid ([(⟨31, 0, 0, 0, 0⟩ : Ins), ⟨0, 0, 0, 0, 0⟩] = [ntI (rdL l) lg (2 * n + lg + n)] ++ [ntI (rdL l) lg (2 * n + lg + n + 1)]) := by
                  have h2 := HN.out
                  show [(⟨31, 0, 0, 0, 0⟩ : Ins), ⟨0, 0, 0, 0, 0⟩] = [ntI (rdL l) lg (2 * n + lg + n)] ++ [ntI (rdL l) lg (2 * n + lg + n + 1)]
                  rw [show 2 * n + lg + n = 3 * (rdL l).length + lg by rw [rdL_len]; omega, nt_ins, nt_end]
                  rfl
                go_wp2_with (at_builtin; refine append_gone _ rfl _ _ 26 rfl W0.heap.size 46 j0 (.agg #[.int .i64 0, .int .i64 0, .int .i64 0, .int .i64 0, .int .i64 0]) 5 40 Tryd.underlying26 hj hj0 hj1 hj2 rfl (by decide) (.slice bo (2 * n + lg + n) bc) (2 * n + lg + n) (cC (ntC (rdL l) lg (2 * n + lg + n))) rfl HO2.out ⟨wr.heap.size, 0, none⟩ 2 2 (cC [⟨31, 0, 0, 0, 0⟩, ⟨0, 0, 0, 0, 0⟩]) rfl rfl ?c1 ?c2 ?c3 ?c4 ?c5 ?c6 ?_)
                case c1 => exact cells_new wr 46 (cC [⟨31, 0, 0, 0, 0⟩, ⟨0, 0, 0, 0, 0⟩])
                case c2 => exact cC_one _
                case c3 => have := HLe.out; have := HLg.out; unfold maxLen; omega
                case c4 => have := HLe.out; have := HLg.out; omega
                case c5 => exact HSz2.out
                case c6 => decide
                intro v4 w4 ho hG
                obtain ⟨bo4, bc4, rfl⟩ := own_form ho
                have HM4 : Hid (Mk W0 (w4.setCell ⟨pb, 5, none⟩ (.slice bo4 (2 * n + lg + n + 2) bc4)) pb (.slice (some ⟨qa, 0, none⟩) 1 1) (.slice none 0 0) (.slice none 0 0) (.slice (some ⟨qb, 0, none⟩) 1 1) (.int .i64 0) (.slice bo4 (2 * n + lg + n + 2) bc4) (ntC (rdL l) lg (2 * n + lg + n + 2))) := by
                  have := HMk.out.app [⟨31, 0, 0, 0, 0⟩, ⟨0, 0, 0, 0, 0⟩] (by rw [ntC_len]; exact ho) hG
                  rw [HNw.out, ← List.append_assoc, ← ntC_succ, ← ntC_succ] at this
                  exact this
                obtain ⟨x0, x1, x2, x3, x4, x5⟩ := cells6 (HMk.out.mid hG)
                have fz : ∀ j, w4.frozen? ⟨pb, j, none⟩ = false := fun j => by have := HMk.out.mid hG; simp only [World.frozen?, this]; rfl
                clear ho hG i0 i1 i2 i3 i4 i5 HO2 HSz2 HNw HMk
                go_upto_region 23 with fail
                generalize w4.setCell ⟨pb, 5, none⟩ (.slice bo4 (2 * n + lg + n + 2) bc4) = W5 at *
                have hb5 : Below w1.heap.size w1 W5 := HM4.out.bel H0.out.1 H0L.out.2.2.1
                have HP5 : Hid (IsPg W5 ⟨some ⟨qa, 0, none⟩, 1, none, 0, none, 0, some ⟨qb, 0, none⟩, 1, bo4, bc4⟩ (ntP (rdL l) lg)) := by
                  have hl := H0L.out
                  obtain ⟨co, cc, he, hr⟩ := HM4.out.is
                  rw [ntC_len] at he
                  cases he
                  have e : ntC (rdL l) lg (2 * n + lg + n + 2) = (ntP (rdL l) lg).cd := by
                    have h2 := HN.out
                    rw [show 2 * n + lg + n + 2 = 3 * (rdL l).length + lg + 2 by rw [rdL_len]; omega]
                    rfl
                  rw [e] at hr
                  exact ⟨HM4.out.rd H0.out.2.2.1 (by omega) (by omega), rd_nil _ _, rd_nil _ _, HM4.out.rd H0.out.2.2.2 (by omega) (by omega), hr, (by show (1 : Nat) ≤ _; omega), (by show (0 : Nat) ≤ _; omega), (by show (0 : Nat) ≤ _; omega), (by show (1 : Nat) ≤ _; omega), by have h1 := HLe.out; have h2 := HLg.out; have h3 := HN.out; rw [nt_len, rdL_len]; omega⟩
                have HB5 : Hid (Below w1.heap.size w1 W5) := hb5
                have HX5 : Hid (W5.heap[pb]? = some (.cells #[.slice (some ⟨qa, 0, none⟩) 1 1, .slice none 0 0, .slice none 0 0, .slice (some ⟨qb, 0, none⟩) 1 1, .int .i64 0, .slice bo4 (2 * n + lg + n + 2) bc4] 28 (0, 0))) := HM4.out.box
                clear hb5 HM4 x0 x1 x2 x3 x4 x5 fz H0
                obtain ⟨Wb, hWb⟩ : ∃ Wb, Wb = W5 := ⟨_, rfl⟩
                rw [← hWb] at HP5 HB5 HX5 ⊢
                clear hWb
                go_loopg [11, 12] n (fun gq x y wr => ∃ d : Nat, d ≤ n ∧ gq = n - d ∧ x = .int .i64 (bodyL lg ((rdL l).drop (n - d))) ∧ y = .int .i64 ((n : Int) - 1 - (d : Int)) ∧ wr = Wb)
                case atStart =>
                  refine ⟨0, Nat.zero_le _, rfl, ?_, by simp, rfl⟩
                  rw [Nat.sub_zero, ← HN.out, ← rdL_len l, List.drop_length]
                  rfl
                case round =>
                  obtain ⟨d, hd9, hgk, rfl, rfl, rfl⟩ := hrel
                  have HG : Hid (gk = n - d) := hgk
                  have hbd := body_bd lg (by have := HLg.out; omega) ((rdL l).drop (n - d)) (fun r hr => (rdL_le l r (List.mem_of_mem_drop hr)).1)
                  obtain ⟨B, hB⟩ : ∃ B, bodyL lg ((rdL l).drop (n - d)) = B := ⟨_, rfl⟩
                  rw [hB] at hbd ⊢
                  have HBd : Hid (bodyL lg ((rdL l).drop (n - d)) = B) := hB
                  obtain ⟨hbd1, hbd2⟩ := hbd
                  clear hgk hB
                  by_cases hlt : d < n
                  · obtain ⟨i, hi⟩ : ∃ i, n = i + d + 1 := ⟨n - 1 - d, by omega⟩
                    have hii : (n : Int) - 1 - (d : Int) = (i : Int) := by omega
                    have hil : i < l.length := by have := HN.out; omega
                    have hin : (i : Int) < (n : Int) := by omega
                    obtain ⟨rg, rf, hro, hrg, -⟩ := rd_int HRd.out hil
                    obtain rfl : ro = some ⟨rg, rf, none⟩ := hro
                    obtain ⟨g9, f9, e9, -, d0⟩ := rd_int (HRd.out.below HB5.out) hil
                    cases e9
                    obtain ⟨r, hrv⟩ : ∃ r, r = l[i] := ⟨_, rfl⟩
                    rw [← hrv] at d0
                    have HRr : Hid ((rdL l).getD i 0 = (wtn r 4194305 : Int)) := by show _ = _; rw [hrv]; exact rdL_at hil
                    have HWr : Hid (∀ W, Calls Tryd.prog 18 #[.int .i64 r, .int .i64 4194305] W fun e w' => e = .returned (.int .i64 (wtn r 4194305 : Nat)) ∧ w' = W) := fun W => wtn_any r 4194305 (by omega) (by omega) W
                    have hrr := wtn_lt r (n := 4194305) (by omega)
                    generalize wtn r 4194305 = rr at *
                    have hs1 := sm_bd (a := 1) (b := B) (by omega) (by omega)
                    have ht1 := tm_bd (a := (rr : Int)) (b := sm 1 B) (by omega) hs1.1
                    have HS1 : Hid (∀ W, Calls Tryd.prog 20 #[.int .i64 1, .int .i64 B] W fun e w' => e = .returned (.int .i64 (sm 1 B)) ∧ w' = W) := fun W => rsum_any 1 B (by omega) (by omega) (by omega) hbd2 W
                    have HT1 : Hid (∀ W, Calls Tryd.prog 21 #[.int .i64 (rr : Int), .int .i64 (sm 1 B)] W fun e w' => e = .returned (.int .i64 (tm (rr : Int) (sm 1 B))) ∧ w' = W) := fun W => rtimes_any _ _ (by omega) (by omega) hs1.1 hs1.2 W
                    have HS3 : Hid (∀ W, Calls Tryd.prog 20 #[.int .i64 (tm (rr : Int) (sm 1 B)), .int .i64 3] W fun e w' => e = .returned (.int .i64 (sm (tm (rr : Int) (sm 1 B)) 3)) ∧ w' = W) := fun W => rsum_any _ 3 ht1.1 ht1.2 (by omega) (by omega) W
                    have HNx : Hid (sm (tm (rr : Int) (sm 1 B)) 3 = bodyL lg ((rdL l).drop (n - (d + 1)))) := by
                      have hi2 : i < (rdL l).length := by rw [rdL_len]; exact hil
                      show _ = _
                      rw [show n - (d + 1) = i by omega, List.drop_eq_getElem_cons hi2, show i + 1 = n - d by omega]
                      show _ = sm (tm _ (sm 1 (bodyL lg ((rdL l).drop (n - d))))) 3
                      rw [HBd.out]
                      have e3 := HRr.out
                      rw [List.getD_eq_getElem?_getD, List.getElem?_eq_getElem hi2] at e3
                      rw [show (rdL l)[i] = (rr : Int) from e3]
                    have HLt : Hid (d < n ∧ (n : Int) - 1 - (d : Int) = (i : Int)) := ⟨hlt, hii⟩
                    rw [hii]
                    generalize sm 1 B = s1 at *
                    generalize tm (rr : Int) s1 = t1 at *
                    generalize sm t1 3 = s3 at *
                    clear hlt hd9 hi hii hil hrg hrv hrr hs1 ht1 hbd1 hbd2
                    go_wp2_with fail
                    refine Calls.mono (HWr.out _) ?_
                    rintro e w9 ⟨rfl, h9⟩
                    replace h9 := h9.symm
                    subst h9
                    go_wp2_with fail
                    refine Calls.mono (HS1.out _) ?_
                    rintro e w9 ⟨rfl, h9⟩
                    replace h9 := h9.symm
                    subst h9
                    go_wp2_with fail
                    refine Calls.mono (HT1.out _) ?_
                    rintro e w9 ⟨rfl, h9⟩
                    replace h9 := h9.symm
                    subst h9
                    go_wp2_with fail
                    refine Calls.mono (HS3.out _) ?_
                    rintro e w9 ⟨rfl, h9⟩
                    replace h9 := h9.symm
                    subst h9
                    go_wp2_with fail
                    go_roundg (n - (d + 1))
                    case measure => have h1 := HG.out; have := HLt.out.1; omega
                    case rel => exact ⟨d + 1, HLt.out.1, rfl, by rw [HNx.out], by have h1 := HLt.out.2; rw [← h1]; go_num, rfl⟩
                  · obtain rfl : n = d := by omega
                    have hii : (n : Int) - 1 - (n : Int) = -1 := by omega
                    rw [hii]
                    have HB9 : Hid (bodyL lg (rdL l) = B) := by have := HBd.out; rwa [Nat.sub_self, List.drop_zero] at this
                    clear hlt hd9 hii HBd HG
                    obtain ⟨fe, cm, hRun, hout⟩ := nt_out (rdL l) lg (by have h1 := HLe.out; have h2 := HN.out; rw [rdL_len]; omega) (by have := HLg.out; omega) (rdL_le l)
                    have HRun : Hid (∀ W, Below wr.heap.size wr W → Calls Tryd.prog 11 #[.agg #[.slice (some ⟨qa, 0, none⟩) 1 1, .slice none 0 0, .slice none 0 0, .slice (some ⟨qb, 0, none⟩) 1 1, .int .i64 0, .slice bo4 (2 * n + lg + n + 2) bc4]] W fun e w' => ∃ o1 n1 m1, e = .returned (.tuple #[.agg #[.slice o1 n1 m1, .int .i64 cm], .agg #[.int .i64 fe, .int .i64 0]]) ∧ Below W.heap.size W w') := fun W hb => by
                      have := hRun _ W (HP5.out.below hb) (HEf.out _ (bel_step HB5.out hb))
                      unfold pvC at this
                      rw [nt_len, rdL_len, HN.out, show 3 * n + lg + 2 = 2 * n + lg + n + 2 by omega] at this
                      exact this
                    obtain ⟨V, hV⟩ : ∃ V, ntW (rdL l) lg = V := ⟨_, rfl⟩
                    rw [hV] at hout
                    have HOut : Hid ((1152921504606846976 < V ∧ fe = 97 ∧ cm = 0) ∨ (V ≤ 1152921504606846976 ∧ fe = 0 ∧ cm = V)) := hout
                    clear hRun hout
                    have hVe : V = if n = 0 then (lg : Int) + 2 else B + 1 := by
                      rw [← hV]
                      unfold ntW
                      rw [rdL_len, HN.out, HB9.out]
                    clear hV
                    by_cases hn0 : n = 0
                    · have hV2 : (lg : Int) + 2 = V := by rw [hVe, if_pos hn0]
                      have q1 : decide ((n : Int) = 0) = true := by simp [hn0]
                      have q2 : ((n : Int) == 0) = true := by simp [hn0]
                      have q3 : decide (n = 0) = true := by simp [hn0]
                      clear hVe hn0 HB9
                      go_upto_region 29 with fail
                      clear hV2
                      obtain ⟨i0, i1, i2, i3, i4, i5⟩ := cells6 HX5.out
                      go_wp2_with fail
                      refine (HRun.out _ (Below.refl _ _)).mono ?_
                      rintro e w6 ⟨o1, n1, m1, rfl, hb6⟩
                      have HA6 : Hid _ := al2 w6 (.cells #[.slice o1 n1 m1, .int .i64 cm] 32) (.cells #[.int .i64 fe, .int .i64 0] 35)
                      have HB6 : Hid (Below w1.heap.size w1 w6) := bel_step HB5.out hb6
                      clear hb6 i0 i1 i2 i3 i4 i5 HRun
                      go_upto_region 30 with fail
                      generalize ((w6.alloc (.cells #[.slice o1 n1 m1, .int .i64 cm] 32)).alloc (.cells #[.int .i64 fe, .int .i64 0] 35)) = W6 at *
                      have HB7 : Hid (Below w1.heap.size w1 W6) := bel_step HB6.out HA6.out.1
                      obtain ⟨z0, z1⟩ := cells2 HA6.out.2.1
                      obtain ⟨y0, y1⟩ := cells2 HA6.out.2.2
                      rcases HOut.out with ⟨h1, rfl, rfl⟩ | ⟨h1, rfl, rfl⟩
                      · clear HOut HA6 HB6
                        go_wp2_with fail
                        refine (HHd.out _ HB7.out).mono ?_
                        rintro e w9 ⟨rfl, hb9⟩
                        have HB9 : Hid (Below w1.heap.size w1 w9) := bel_step HB7.out hb9
                        clear hb9
                        go_wp2_with fail
                        go_ret
                        exact ⟨rfl, HB9.out⟩
                      · clear HOut HA6 HB6
                        go_wp2_with fail
                        refine (HHd.out _ HB7.out).mono ?_
                        rintro e w9 ⟨rfl, hb9⟩
                        have HB9 : Hid (Below w1.heap.size w1 w9) := bel_step HB7.out hb9
                        clear hb9
                        go_wp2_with fail
                        go_ret
                        exact ⟨rfl, HB9.out⟩
                    · have hV2 : B + 1 = V := by rw [hVe, if_neg hn0]
                      have q1 : decide ((n : Int) = 0) = false := by rw [decide_eq_false_iff_not]; omega
                      have q2 : ((n : Int) == 0) = false := by simp; omega
                      have q3 : decide (n = 0) = false := by simp [hn0]
                      clear hVe HB9
                      go_upto_region 29 with fail
                      clear hV2
                      obtain ⟨i0, i1, i2, i3, i4, i5⟩ := cells6 HX5.out
                      go_wp2_with fail
                      refine (HRun.out _ (Below.refl _ _)).mono ?_
                      rintro e w6 ⟨o1, n1, m1, rfl, hb6⟩
                      have HA6 : Hid _ := al2 w6 (.cells #[.slice o1 n1 m1, .int .i64 cm] 32) (.cells #[.int .i64 fe, .int .i64 0] 35)
                      have HB6 : Hid (Below w1.heap.size w1 w6) := bel_step HB5.out hb6
                      clear hb6 i0 i1 i2 i3 i4 i5 HRun
                      go_upto_region 30 with fail
                      generalize ((w6.alloc (.cells #[.slice o1 n1 m1, .int .i64 cm] 32)).alloc (.cells #[.int .i64 fe, .int .i64 0] 35)) = W6 at *
                      have HB7 : Hid (Below w1.heap.size w1 W6) := bel_step HB6.out HA6.out.1
                      obtain ⟨z0, z1⟩ := cells2 HA6.out.2.1
                      obtain ⟨y0, y1⟩ := cells2 HA6.out.2.2
                      rcases HOut.out with ⟨h1, rfl, rfl⟩ | ⟨h1, rfl, rfl⟩
                      · clear HOut HA6 HB6
                        go_wp2_with fail
                        refine (HHd.out _ HB7.out).mono ?_
                        rintro e w9 ⟨rfl, hb9⟩
                        have HB9 : Hid (Below w1.heap.size w1 w9) := bel_step HB7.out hb9
                        clear hb9
                        go_wp2_with fail
                        go_ret
                        exact ⟨rfl, HB9.out⟩
                      · clear HOut HA6 HB6
                        go_wp2_with fail
                        refine (HHd.out _ HB7.out).mono ?_
                        rintro e w9 ⟨rfl, hb9⟩
                        have HB9 : Hid (Below w1.heap.size w1 w9) := bel_step HB7.out hb9
                        clear hb9
                        go_wp2_with fail
                        go_ret
                        exact ⟨rfl, HB9.out⟩
end Go.Proofs.YtnededkmjmbioaaDoor.Vf
