import Derived.Test.YtelbakkgobkdaaaDoorVfEv
import Derived.Test.YtelbakkgobkdaaaDoorVfNew2
namespace Go.Proofs.YtelbakkgobkdaaaDoor.Vf
open Go.RowKit Go.Proofs.YtelbakkgobkdaaaDoor.Nm

theorem cells2 {W : World} {B : Nat} {v0 v1 : Value} {T : TypeId} (h : W.heap[B]? = some (.cells #[v0, v1] T (0, 0))) : W.cell? ⟨B, 0, none⟩ = some v0 ∧ W.cell? ⟨B, 1, none⟩ = some v1 :=
  ⟨cell_of (cs := [v0, v1]) h rfl, cell_of (cs := [v0, v1]) h rfl⟩
theorem Bx3.set2 {w W : World} {T0 T1 T2 : TypeId} {a b c : Array Value} (h : Bx3 w W T0 T1 T2 a b c) (x : Array Value) : Bx3 w (W.setRow (w.heap.size + 1 + 1) x) T0 T1 T2 a b x :=
  ⟨below_setRow h.bel (by omega), (setRow_other _ _ _ _ (by omega)).trans h.h0, (setRow_other _ _ _ _ (by omega)).trans h.h1, setRow_heap _ _ _ _ _ _ h.h2⟩
/-- the costs of the first j events -/
def coF (p : Pg) (j : Nat) : Nat → Int := fun k => if k < j then cst p ((evs p).getD k 0) else 0
theorem coF_step {p : Pg} {j : Nat} : (fun k => if k = j then cst p ((evs p).getD j 0) else coF p j k) = coF p (j + 1) := by
  funext k
  unfold coF
  by_cases h : k = j
  · subst h
    rw [if_pos rfl, if_pos (by omega)]
  · rw [if_neg h]
    by_cases h2 : k < j
    · rw [if_pos h2, if_pos (by omega)]
    · rw [if_neg h2, if_neg (by omega)]
theorem coF_none {p : Pg} {j : Nat} (h : (evs p).getD j 0 = -1) : coF p (j + 1) = coF p j := by
  rw [← coF_step]
  funext k
  by_cases hk : k = j
  · subst hk
    rw [if_pos rfl, h]
    unfold coF cst
    rw [if_pos rfl, if_neg (by omega)]
  · rw [if_neg hk]
theorem coF_zero (p : Pg) : coF p 0 = fun _ => 0 := by
  funext k
  unfold coF
  rw [if_neg (by omega)]
/-- a list that can be read, in a block that can be written -/
def Rf (W : World) (b : Nat) (l : List Value) : Prop := Rd W (some ⟨b, 0, none⟩) l ∧ ∃ cs, W.heap[b]? = some (.cells cs 3 (0, 0))
theorem Rf.same {W X : World} {b : Nat} {l : List Value} (h : Rf W b l) (hX : X.heap[b]? = W.heap[b]?) (hs : W.heap.size ≤ X.heap.size) : Rf X b l := by
  obtain ⟨h1, cs, h2⟩ := h
  refine ⟨fun j x hx => ?_, cs, hX.trans h2⟩
  obtain ⟨b', f', e, hl, hc⟩ := h1 j x hx
  cases e
  exact ⟨b, 0, rfl, by omega, (World.cell?_of_block (a := ⟨b, 0 + j, none⟩) hX).trans hc⟩
theorem Rf.below {W X : World} {b : Nat} {l : List Value} (h : Rf W b l) (hb : Below W.heap.size W X) : Rf X b l := h.same (hb.block b (by obtain ⟨_, cs, h2⟩ := h; exact (Array.getElem?_eq_some_iff.1 h2).1)) hb.size
/-- what costsOf tells -/
structure CoP (w : World) (p : Pg) (r : Ending) (w' : World) : Prop where
  bel : Below w.heap.size w w'
  err : ∀ n, costF p (evs p) = some n → r = .returned (.tuple #[.agg #[.slice none 0 0, .int .i64 0], .agg #[.int .i64 97, .int .i64 n]])
  ok : costF p (evs p) = none → ∃ b, r = .returned (.tuple #[.agg #[.slice (some ⟨b, 0, none⟩) p.on.length p.on.length, .int .i64 (cst p p.miss)], .agg #[.int .i64 0, .int .i64 0]]) ∧ w.heap.size ≤ b ∧ Rf w' b (iC (p.on.map (cst p)))
theorem stA {P : Program} {md : Region.Mode} {ops : Array Oper} {Q : Exit → Act → World → Prop} {S : World → Prop} (i : Nat) {oi : Oper} {fuel : Nat} {listed : Array Bool} {a : Act} {w : World} (hr : Region.ready md ops listed = [i]) (hi : ops[i]? = some oi)
    (hgd : oi.guard = none) (ty : TypeId) (x y : Operand) (ho : oi.op = .store ty x y)
    (g : Nat) (cells : Array Value) (hx : a.eval x = .pointer (some ⟨g, 0, none⟩)) (hy : a.eval y = .agg cells)
    (t : TypeId) (old : Array Value) (hg : w.heap[g]? = some (.cells old t (0, 0))) (hif : (P.info? ty).map (·.size) = some cells.size)
    (hold : old.size = cells.size) (h1 : cells.all (·.oneCell') = true) (hS : S (w.setRow g cells))
    (h : S (w.setRow g cells) → wpAnyH P md ops Q S fuel (listed.setIfInBounds i true) (a.put oi.dst undef) (w.setRow g cells)) : wpAnyH P md ops Q S (fuel + 1) listed a w :=
  wpAnyH_ready hr (by simp) (AllReadyH.cons hi (fun K hK => step_store hgd ty x y ho g cells hx hy t old hg hif hold h1 (hK.out _ _ hS h)) AllReadyH.nil)
set_option maxHeartbeats 12800000 in
set_option maxRecDepth 100000 in
/-- costsOf -/
theorem costs_any (v : PV) (p : Pg) (w : World) (hP : IsPg w v p) (hn : p.on.length ≤ 1000000) (hc : p.cd.length ≤ 262144) (hev : ∀ n ∈ evs p, -1 ≤ n ∧ n < (p.cd.length : Int)) (ho : ∀ i, i < p.cd.length → FuOk p i) :
    Calls Tryd.prog 28 #[.agg (pvC v p)] w (CoP w p) := by
  have HEv : Hid (∀ W, Below w.heap.size w W → Calls Tryd.prog 40 #[.agg (pvC v p)] W (EvP W p)) := fun W hb => events_any v p W (hP.below hb) hn
  have HFu : Hid (∀ W, Below w.heap.size w W → Calls Tryd.prog 45 #[.slice v.co p.cd.length v.cc] W fun e w' => ∃ fb, e = .returned (.slice (some ⟨fb, 0, none⟩) p.cd.length p.cd.length) ∧ W.heap.size ≤ fb ∧ w'.heap[fb]? = some (.cells (fuC p.cd.length (fuel p)).toArray 3 (0, 0)) ∧ Below W.heap.size W w') := fun W hb => fuelOf_any v.co v.cc p W (hP.cd.below hb) hc ho
  have HN : Hid (∀ n ∈ evs p, -1 ≤ n ∧ n < (p.cd.length : Int)) := hev
  have HEl : Hid ((evs p).length = p.on.length + 1) := by show _ = _; unfold evs; simp
  have hn' : (p.on.length : Int) ≤ 1000000 := by omega
  have hc' : (p.cd.length : Int) ≤ 262144 := by omega
  obtain ⟨qo, qc, vo, vc, tto, tc, oo, oc, co, cc⟩ := v
  show Calls _ _ #[.agg #[.slice qo p.gh.length qc, .slice vo p.vs.length vc, .slice tto p.ts.length tc, .slice oo p.on.length oc, .int .i64 p.miss, .slice co p.cd.length cc]] _ _
  dsimp only at HEv HFu
  have HB : Hid (Bx3 w (((w.alloc (.cells #[.slice qo p.gh.length qc, .slice vo p.vs.length vc, .slice tto p.ts.length tc, .slice oo p.on.length oc, .int .i64 p.miss, .slice co p.cd.length cc] 27)).alloc (.cells #[.slice none 0 0, .int .i64 0] 32)).alloc (.cells #[.int .i64 0, .int .i64 0] 35)) 27 32 35 #[.slice qo p.gh.length qc, .slice vo p.vs.length vc, .slice tto p.ts.length tc, .slice oo p.on.length oc, .int .i64 p.miss, .slice co p.cd.length cc] #[.slice none 0 0, .int .i64 0] #[.int .i64 0, .int .i64 0]) := Bx3.new w _ _ _ _ _ _
  clear hP hn hc hev ho
  go_enter Tryd.func28, Tryd.ntmps28
  go_upto_region 1 with fail
  generalize ((w.alloc (.cells #[.slice qo p.gh.length qc, .slice vo p.vs.length vc, .slice tto p.ts.length tc, .slice oo p.on.length oc, .int .i64 p.miss, .slice co p.cd.length cc] 27)).alloc (.cells #[.slice none 0 0, .int .i64 0] 32)).alloc (.cells #[.int .i64 0, .int .i64 0] 35) = W0 at *
  have HS : Hid (∀ W, Below W0.heap.size W0 W → (fun w' : World => w'.cell? ⟨w.heap.size, 0, none⟩ = some (.slice qo p.gh.length qc) ∧ w'.cell? ⟨w.heap.size, 1, none⟩ = some (.slice vo p.vs.length vc) ∧ w'.cell? ⟨w.heap.size, 2, none⟩ = some (.slice tto p.ts.length tc) ∧ w'.cell? ⟨w.heap.size, 3, none⟩ = some (.slice oo p.on.length oc) ∧ w'.cell? ⟨w.heap.size, 4, none⟩ = some (.int .i64 p.miss) ∧ w'.cell? ⟨w.heap.size, 5, none⟩ = some (.slice co p.cd.length cc)) W) := fun W hb => cells6 ((hb.block _ (blk_lt HB.out.h0)).trans HB.out.h0)
  go_cut [4, 5] (fun s4 s5 wx => ∃ fb eo ec, s4 = .slice (some ⟨fb, 0, none⟩) p.cd.length p.cd.length ∧ s5 = .slice eo (p.on.length + 1) ec ∧ Below W0.heap.size W0 wx ∧ wx.heap[fb]? = some (.cells (fuC p.cd.length (fuel p)).toArray 3 (0, 0)) ∧ Rd wx eo (iC (evs p)))
  case first =>
    refine wp_region_held (S := fun w' : World => w'.cell? ⟨w.heap.size, 0, none⟩ = some (.slice qo p.gh.length qc) ∧ w'.cell? ⟨w.heap.size, 1, none⟩ = some (.slice vo p.vs.length vc) ∧ w'.cell? ⟨w.heap.size, 2, none⟩ = some (.slice tto p.ts.length tc) ∧ w'.cell? ⟨w.heap.size, 3, none⟩ = some (.slice oo p.on.length oc) ∧ w'.cell? ⟨w.heap.size, 4, none⟩ = some (.int .i64 p.miss) ∧ w'.cell? ⟨w.heap.size, 5, none⟩ = some (.slice co p.cd.length cc)) (by kernel_rfl) ?_
    have hS : (fun w' : World => w'.cell? ⟨w.heap.size, 0, none⟩ = some (.slice qo p.gh.length qc) ∧ w'.cell? ⟨w.heap.size, 1, none⟩ = some (.slice vo p.vs.length vc) ∧ w'.cell? ⟨w.heap.size, 2, none⟩ = some (.slice tto p.ts.length tc) ∧ w'.cell? ⟨w.heap.size, 3, none⟩ = some (.slice oo p.on.length oc) ∧ w'.cell? ⟨w.heap.size, 4, none⟩ = some (.int .i64 p.miss) ∧ w'.cell? ⟨w.heap.size, 5, none⟩ = some (.slice co p.cd.length cc)) W0.drew := HS.out _ (Below.refl _ W0).drew
    change wpAnyH _ _ _ _ _ _ _ _ W0.drew
    refine tqA 0 rfl hS ?_
    refine tqA 1 rfl hS ?_
    refine tqA 3 rfl hS ?_
    have hbd : Below W0.heap.size W0 W0.drew := (Below.refl _ W0).drew
    have hB0 := HB.out.bel
    refine wpAnyH_ready (rs := [2]) (by kernel_rfl) (by simp) ?_
    refine AllReadyH.cons rfl (fun K hK => ?_) AllReadyH.nil
    go_simp
    refine Calls.mono (HFu.out _ (hB0.trans (hbd.mono hB0.size))) ?_
    rintro e w2 ⟨fb, rfl, hf1, hf2, hf3⟩
    have hb2 : Below W0.heap.size W0 w2 := hbd.trans (hf3.mono hbd.size)
    refine hK.out _ _ (HS.out _ hb2) (fun hS => ?_)
    refine wpAnyH_ready (rs := [4]) (by kernel_rfl) (by simp) ?_
    refine AllReadyH.cons rfl (fun K hK => ?_) AllReadyH.nil
    go_simp
    refine Calls.mono (HEv.out _ (hB0.trans (hb2.mono hB0.size))) ?_
    rintro e w3 ⟨⟨eo, ec, rfl, hr3, hg3, hb3⟩⟩
    have hb03 : Below W0.heap.size W0 w3 := hb2.trans (hb3.mono hb2.size)
    have hf4 := (hb3.block _ (blk_lt hf2)).trans hf2
    refine hK.out _ _ (HS.out _ hb03) (fun hS => ?_)
    refine wpAnyH_ready (rs := [5]) (by kernel_rfl) (by simp) ?_
    refine AllReadyH.cons rfl (fun K hK => ?_) AllReadyH.nil
    go_simp
    refine hK.out _ _ hS (fun hS => ?_)
    refine wpAnyH_ready (rs := [6]) (by kernel_rfl) (by simp) ?_
    refine AllReadyH.cons rfl (fun K hK => ?_) AllReadyH.nil
    go_simp
    refine hK.out _ _ hS (fun hS => ?_)
    refine wpAnyH_done (by kernel_rfl) ?_ _
    have HF : Hid (Below W0.heap.size W0 w3 ∧ w3.heap[fb]? = some (.cells (fuC p.cd.length (fuel p)).toArray 3 (0, 0)) ∧ Rd w3 eo (iC (evs p))) := ⟨hb03, hf4, hr3⟩
    clear hK K hS
    go_wp2_with fail
    go_meet
    exact ⟨_, _, _, rfl, rfl, HF.out.1, HF.out.2.1, HF.out.2.2⟩
  case rest =>
    obtain ⟨fb, eo, ec, rfl, rfl, hbx, hfx, hrx⟩ := hcut
    have hmk := mk_ints (p.on.length + 1) (by omega)
    have hbm : Below wc.heap.size wc (wc.alloc (.cells (fuC (p.on.length + 1) (fun _ => 0)).toArray 3)) := (Below.refl _ wc).alloc (Nat.le_refl _) _
    have hB1 := HB.out.below hbx
    have HX : Hid (Bx3 w (wc.alloc (.cells (fuC (p.on.length + 1) (fun _ => 0)).toArray 3)) 27 32 35 #[.slice qo p.gh.length qc, .slice vo p.vs.length vc, .slice tto p.ts.length tc, .slice oo p.on.length oc, .int .i64 p.miss, .slice co p.cd.length cc] #[.slice none 0 0, .int .i64 0] #[.int .i64 0, .int .i64 0] ∧ (wc.alloc (.cells (fuC (p.on.length + 1) (fun _ => 0)).toArray 3)).heap[fb]? = some (.cells (fuC p.cd.length (fuel p)).toArray 3 (0, 0)) ∧ Rd (wc.alloc (.cells (fuC (p.on.length + 1) (fun _ => 0)).toArray 3)) eo (iC (evs p)) ∧ (wc.alloc (.cells (fuC (p.on.length + 1) (fun _ => 0)).toArray 3)).heap[wc.heap.size]? = some (.cells (fuC (p.on.length + 1) (fun _ => 0)).toArray 3 (0, 0))) := ⟨hB1.below hbm, (hbm.block _ (blk_lt hfx)).trans hfx, hrx.below hbm, heap_alloc_new _ _⟩
    have HY : Hid (fb < wc.heap.size ∧ w.heap.size + 1 + 1 < wc.heap.size ∧ ∀ b o, eo = some ⟨b, o, none⟩ → b < wc.heap.size) := ⟨blk_lt hfx, blk_lt hB1.h2, fun b o e => by
      have hz0 : 0 < (evs p).length := by have := HEl.out; omega
      obtain ⟨g1, f1, e1, hl1, -⟩ := rd_int hrx hz0
      rw [e] at e1
      cases e1
      exact hl1⟩
    have hmc : ((p.on.length + 1 : Nat) : Int) = (p.on.length : Int) + 1 := by omega
    rw [hmc] at hmk
    clear hbx hfx hrx hbm hB1 HB HS HEv HFu hmc
    go_wp2_with fail
    generalize wc.heap.size = kb at *
    generalize wc.alloc (.cells (fuC (p.on.length + 1) (fun _ => 0)).toArray 3) = W1 at *
    obtain ⟨W2, hW2⟩ : ∃ W2, W2 = W1 := ⟨_, rfl⟩
    go_loopg [20] (p.on.length + 1) (fun gq x wr => ∃ j : Nat, j ≤ p.on.length + 1 ∧ gq = p.on.length + 1 - j ∧ x = .int .i64 (j : Int) ∧ Bx3 w wr 27 32 35 #[.slice qo p.gh.length qc, .slice vo p.vs.length vc, .slice tto p.ts.length tc, .slice oo p.on.length oc, .int .i64 p.miss, .slice co p.cd.length cc] #[.slice none 0 0, .int .i64 0] #[.int .i64 0, .int .i64 0] ∧ wr.heap[fb]? = some (.cells (fuC p.cd.length (fuel p)).toArray 3 (0, 0)) ∧ Rd wr eo (iC (evs p)) ∧ wr.heap[kb]? = some (.cells (fuC (p.on.length + 1) (coF p j)).toArray 3 (0, 0)) ∧ costF p (evs p) = costF p ((evs p).drop j))
    case atStart => exact ⟨0, Nat.zero_le _, rfl, rfl, HX.out.1, HX.out.2.1, HX.out.2.2.1, by rw [coF_zero]; exact HX.out.2.2.2, rfl⟩
    case round =>
      obtain ⟨j, hj, hgk, rfl, hbx, hfx, hrx, hkx, hcx⟩ := hrel
      have HG : Hid (gk = p.on.length + 1 - j ∧ Bx3 w wr 27 32 35 #[.slice qo p.gh.length qc, .slice vo p.vs.length vc, .slice tto p.ts.length tc, .slice oo p.on.length oc, .int .i64 p.miss, .slice co p.cd.length cc] #[.slice none 0 0, .int .i64 0] #[.int .i64 0, .int .i64 0] ∧ wr.heap[fb]? = some (.cells (fuC p.cd.length (fuel p)).toArray 3 (0, 0)) ∧ Rd wr eo (iC (evs p)) ∧ wr.heap[kb]? = some (.cells (fuC (p.on.length + 1) (coF p j)).toArray 3 (0, 0)) ∧ costF p (evs p) = costF p ((evs p).drop j)) := ⟨hgk, hbx, hfx, hrx, hkx, hcx⟩
      clear hgk hbx hfx hrx hkx hcx HX hW2
      by_cases hlt : j < p.on.length + 1
      · have hlt' : (j : Int) < (p.on.length : Int) + 1 := by omega
        have hle : j < (evs p).length := by have := HEl.out; omega
        obtain ⟨g1, f1, heo, hg1, d0⟩ := rd_int HG.out.2.2.2.1 hle
        obtain rfl : eo = some ⟨g1, f1, none⟩ := heo
        have HLt : Hid (j < p.on.length + 1) := hlt
        obtain ⟨q1, q2⟩ := HN.out _ (List.getElem_mem hle)
        have hgd : (evs p).getD j 0 = (evs p)[j] := by rw [List.getD_eq_getElem?_getD, List.getElem?_eq_getElem hle]; rfl
        have hdr : (evs p).drop j = (evs p)[j] :: (evs p).drop (j + 1) := List.drop_eq_getElem_cons hle
        have hcs : costF p ((evs p).drop j) = if 1152921504606846976 < cst p (evs p)[j] then some (evs p)[j] else costF p ((evs p).drop (j + 1)) := by rw [hdr]; rfl
        have HCs : Hid (costF p (evs p) = if 1152921504606846976 < cst p (evs p)[j] then some (evs p)[j] else costF p ((evs p).drop (j + 1))) := HG.out.2.2.2.2.2.trans hcs
        have HGd : Hid ((evs p).getD j 0 = (evs p)[j]) := hgd
        clear hcs hdr hgd
        generalize (evs p)[j] = n at *
        by_cases hn1 : n = -1
        · subst hn1
          have HN2 : Hid (costF p (evs p) = costF p ((evs p).drop (j + 1)) ∧ coF p (j + 1) = coF p j) := ⟨by rw [HCs.out]; exact if_neg (by unfold cst; rw [if_pos rfl]; omega), coF_none HGd.out⟩
          clear hlt hle hg1 q1 q2
          go_wp2_with fail
          go_roundg (p.on.length + 1 - (j + 1))
          case measure => have h1 := HG.out.1; have := HLt.out; omega
          case rel => exact ⟨j + 1, HLt.out, rfl, by go_num, HG.out.2.1, HG.out.2.2.1, HG.out.2.2.2.1, by rw [HN2.out.2]; exact HG.out.2.2.2.2.1, HN2.out.1⟩
        · have hn1' : (n == -1) = false := by simpa using hn1
          obtain ⟨k, rfl⟩ : ∃ k : Nat, n = (k : Int) := ⟨n.toNat, by omega⟩
          have hk : k < p.cd.length := by omega
          have hk' : (k : Int) < (p.cd.length : Int) := by omega
          have k0 := cell_of HG.out.2.2.1 (fuC_at (f := fuel p) hk)
          have hck : cst p (k : Int) = fuel p k := by unfold cst; rw [if_neg hn1, Int.toNat_natCast]
          rw [hck] at HCs
          by_cases hbig : 1152921504606846976 < fuel p k
          · have HE : Hid (costF p (evs p) = some (k : Int)) := by show _ = _; rw [HCs.out, if_pos hbig]
            generalize fuel p k = fk at *
            clear hlt hle hg1 q1 q2 hn1 HCs HGd hck
            go_wp2_with (first | (refine wpList_store_row rfl 32 _ _ rfl (w.heap.size + 1) _ rfl rfl 32 _ HG.out.2.1.h1 (by kernel_rfl) rfl (by kernel_rfl) ?_) | (refine wpList_store_row rfl 35 _ _ rfl (w.heap.size + 1 + 1) _ rfl rfl 35 _ (HG.out.2.1.set1 _).h2 (by kernel_rfl) rfl (by kernel_rfl) ?_))
            have hB2 := (HG.out.2.1.set1 #[.slice none 0 0, .int .i64 0]).set2 #[.int .i64 97, .int .i64 (k : Int)]
            obtain ⟨y0, y1⟩ := cells2 hB2.h1
            obtain ⟨z0, z1⟩ := cells2 hB2.h2
            refine bodyPost_ret (v := .tuple #[.agg #[.slice none 0 0, .int .i64 0], .agg #[.int .i64 97, .int .i64 (k : Int)]]) (by simp [results, Tryd.results28, go_sem, y0, y1, z0, z1]) rfl ?_
            refine ⟨hB2.bel, fun n' hn' => ?_, fun h => ?_⟩
            · rw [HE.out] at hn'; cases hn'; rfl
            · rw [HE.out] at h; cases h
          · have HN2 : Hid (costF p (evs p) = costF p ((evs p).drop (j + 1)) ∧ coF p (j + 1) = fun m => if m = j then fuel p k else coF p j m) := ⟨by rw [HCs.out]; exact if_neg hbig, by rw [← coF_step, HGd.out, hck]⟩
            have hj1 : (j : Int) < (p.on.length : Int) + 1 := hlt'
            have a0 := cell_of HG.out.2.2.2.2.1 (fuC_at (f := coF p j) hlt)
            have fz : ∀ m, wr.frozen? ⟨kb, m, none⟩ = false := fun m => by have := HG.out.2.2.2.2.1; simp only [World.frozen?, this]; rfl
            have hne1 : kb ≠ fb := by have := HY.out.1; omega
            have HX3 : Hid (Bx3 w (wr.setCell ⟨kb, j, none⟩ (.int .i64 (fuel p k))) 27 32 35 #[.slice qo p.gh.length qc, .slice vo p.vs.length vc, .slice tto p.ts.length tc, .slice oo p.on.length oc, .int .i64 p.miss, .slice co p.cd.length cc] #[.slice none 0 0, .int .i64 0] #[.int .i64 0, .int .i64 0] ∧ (wr.setCell ⟨kb, j, none⟩ (.int .i64 (fuel p k))).heap[fb]? = some (.cells (fuC p.cd.length (fuel p)).toArray 3 (0, 0)) ∧ Rd (wr.setCell ⟨kb, j, none⟩ (.int .i64 (fuel p k))) (some ⟨g1, f1, none⟩) (iC (evs p)) ∧ (wr.setCell ⟨kb, j, none⟩ (.int .i64 (fuel p k))).heap[kb]? = some (.cells (fuC (p.on.length + 1) (coF p (j + 1))).toArray 3 (0, 0))) := by
              have ho : ∀ b, b ≠ kb → (wr.setCell ⟨kb, j, none⟩ (.int .i64 (fuel p k))).heap[b]? = wr.heap[b]? := fun b hb => Below.heap_setCell _ _ _ _ hb
              have hz := HY.out.2.1
              refine ⟨⟨HG.out.2.1.bel.setCell (p := ⟨kb, j, none⟩) (by show w.heap.size ≤ kb; omega) _, (ho _ (by omega)).trans HG.out.2.1.h0, (ho _ (by omega)).trans HG.out.2.1.h1, (ho _ (by omega)).trans HG.out.2.1.h2⟩, (ho _ (by omega)).trans HG.out.2.2.1, fun m x hx => ?_, ?_⟩
              · obtain ⟨b, f, e, hl1, hc1⟩ := HG.out.2.2.2.1 m x hx
                have hb1 := HY.out.2.2 b f e
                refine ⟨b, f, e, by simpa using hl1, (World.cell?_of_block (a := ⟨b, f + m, none⟩) (ho b (by omega))).trans hc1⟩
              · rw [heap_setCell_same wr kb j _ _ _ HG.out.2.2.2.2.1, fuC_set _ hlt, HN2.out.2]
            generalize fuel p k = fk at *
            clear hle hg1 q1 q2 hn1 HCs HGd hck hlt
            go_wp2_with fail
            go_roundg (p.on.length + 1 - (j + 1))
            case measure => have h1 := HG.out.1; have := HLt.out; omega
            case rel => exact ⟨j + 1, HLt.out, rfl, by go_num, HX3.out.1, HX3.out.2.1, HX3.out.2.2.1, HX3.out.2.2.2, HN2.out.1⟩
      · have hlt' : ¬ (j : Int) < (p.on.length : Int) + 1 := by omega
        obtain rfl : j = p.on.length + 1 := by omega
        have hnone : costF p (evs p) = none := by rw [HG.out.2.2.2.2.2, List.drop_eq_nil_of_le (by have := HEl.out; omega)]; rfl
        have hmiss : coF p (p.on.length + 1) p.on.length = cst p p.miss := by
          unfold coF evs
          rw [if_pos (by omega), List.getD_eq_getElem?_getD, List.getElem?_append_right (Nat.le_refl _), Nat.sub_self]
          rfl
        have c0 : wr.cell? ⟨kb, p.on.length, none⟩ = some (.int .i64 (cst p p.miss)) := by
          have := cell_of HG.out.2.2.2.2.1 (fuC_at (f := coF p (p.on.length + 1)) (k := p.on.length) (by omega))
          rw [hmiss] at this
          exact this
        have HRd : Hid (∀ X : World, X.heap[kb]? = wr.heap[kb]? → Rf X kb (iC (p.on.map (cst p)))) := fun X hX => ⟨fun m x hx => by
          rw [HG.out.2.2.2.2.1] at hX
          have hm : m < p.on.length := by have := (List.getElem?_eq_some_iff.1 hx).1; unfold iC at this; simpa using this
          have hxe : x = .int .i64 (coF p (p.on.length + 1) m) := by
            unfold iC at hx
            rw [List.getElem?_map, List.getElem?_map, List.getElem?_eq_getElem hm] at hx
            simp only [Option.map_some, Option.some.injEq] at hx
            rw [← hx]
            unfold coF evs
            rw [if_pos (by omega), List.getD_eq_getElem?_getD, List.getElem?_append_left hm, List.getElem?_eq_getElem hm]
            rfl
          refine ⟨kb, 0, rfl, blk_lt hX, ?_⟩
          rw [hxe, Nat.zero_add]
          exact cell_of hX (fuC_at (f := coF p (p.on.length + 1)) (by omega)), _, hX.trans HG.out.2.2.2.2.1⟩
        have HSt : Hid (∀ X, X.heap[kb]? = wr.heap[kb]? → wr.heap.size ≤ X.heap.size → (fun w' : World => w'.cell? ⟨kb, p.on.length, none⟩ = some (.int .i64 (cst p p.miss)) ∧ 0 < w'.heap.size) X) := fun X hX hs => ⟨(World.cell?_of_block (a := ⟨kb, p.on.length, none⟩) hX).trans c0, by have := blk_lt HG.out.2.2.2.2.1; omega⟩
        have HNo : Hid (costF p (evs p) = none) := hnone
        obtain ⟨i0, i1, i2, i3, i4, i5⟩ := cells6 HG.out.2.1.h0
        have hkk : w.heap.size + 1 ≠ kb ∧ w.heap.size + 1 + 1 ≠ kb := by have := HY.out.2.1; omega
        have HKk : Hid (w.heap.size + 1 ≠ kb ∧ w.heap.size + 1 + 1 ≠ kb ∧ w.heap.size ≤ kb) := ⟨hkk.1, hkk.2, by have := HY.out.2.1; omega⟩
        have HB9 : Hid (Bx3 w wr 27 32 35 #[.slice qo p.gh.length qc, .slice vo p.vs.length vc, .slice tto p.ts.length tc, .slice oo p.on.length oc, .int .i64 p.miss, .slice co p.cd.length cc] #[.slice none 0 0, .int .i64 0] #[.int .i64 0, .int .i64 0]) := HG.out.2.1
        clear hlt hj hnone hmiss c0 hkk HG HN
        have hle1 : (p.on.length : Int) ≤ (p.on.length : Int) + 1 := by omega
        have hlt1 : (p.on.length : Int) < (p.on.length : Int) + 1 := by omega
        go_upto_region 12 with fail
        refine wp_region_held (S := fun w' : World => w'.cell? ⟨kb, p.on.length, none⟩ = some (.int .i64 (cst p p.miss)) ∧ 0 < w'.heap.size) (by kernel_rfl) ?_
        change wpAnyH _ _ _ _ _ _ _ _ wr.drew
        have HBd : Hid (Bx3 w wr.drew 27 32 35 #[.slice qo p.gh.length qc, .slice vo p.vs.length vc, .slice tto p.ts.length tc, .slice oo p.on.length oc, .int .i64 p.miss, .slice co p.cd.length cc] #[.slice none 0 0, .int .i64 0] #[.int .i64 0, .int .i64 0]) := HB9.out.below (Below.refl _ wr).drew
        have HKd : Hid (wr.drew.heap[kb]? = wr.heap[kb]? ∧ wr.heap.size ≤ wr.drew.heap.size) := ⟨rfl, Nat.le_refl _⟩
        clear HB9
        generalize wr.drew = W4 at *
        have hS : (fun w' : World => w'.cell? ⟨kb, p.on.length, none⟩ = some (.int .i64 (cst p p.miss)) ∧ 0 < w'.heap.size) W4 := HSt.out _ HKd.out.1 HKd.out.2
        refine tqA 0 rfl hS ?_
        refine tqA 1 rfl hS ?_
        refine tqA 2 rfl hS ?_
        refine tqA (v := .slice (some ⟨kb, 0, none⟩) p.on.length p.on.length) 3 rfl hS ?_
        refine tqA 4 rfl hS ?_
        refine tqA 5 rfl hS ?_
        refine tqA (v := .pointer (some ⟨kb, p.on.length, none⟩)) 6 rfl hS ?_
        refine tqA (v := .int .i64 (cst p p.miss)) 7 rfl hS ?_
        refine tqA 8 rfl hS ?_
        refine tqA 9 rfl hS ?_
        have hk1 : (W4.setRow (w.heap.size + 1) #[.slice (some ⟨kb, 0, none⟩) p.on.length p.on.length, .int .i64 (cst p p.miss)]).heap[kb]? = wr.heap[kb]? := (setRow_other _ _ _ _ (Ne.symm HKk.out.1)).trans HKd.out.1
        have hB1 := HBd.out.set1 #[.slice (some ⟨kb, 0, none⟩) p.on.length p.on.length, .int .i64 (cst p p.miss)]
        have hS1 := HSt.out _ hk1 (by have := HKd.out.2; simpa using this)
        refine stA 10 (by kernel_rfl) rfl rfl 32 (.tmp 2) (.tmp 54) rfl (w.heap.size + 1) #[.slice (some ⟨kb, 0, none⟩) p.on.length p.on.length, .int .i64 (cst p p.miss)] (by go_simp) (by go_simp) 32 _ HBd.out.h1 (by kernel_rfl) rfl (by kernel_rfl) hS1 (fun hS => ?_)
        have hk2 : ((W4.setRow (w.heap.size + 1) #[.slice (some ⟨kb, 0, none⟩) p.on.length p.on.length, .int .i64 (cst p p.miss)]).setRow (w.heap.size + 1 + 1) #[.int .i64 0, .int .i64 0]).heap[kb]? = wr.heap[kb]? := (setRow_other _ _ _ _ (Ne.symm HKk.out.2.1)).trans hk1
        have hB2 := hB1.set2 #[.int .i64 0, .int .i64 0]
        have hS2 := HSt.out _ hk2 (by have := HKd.out.2; simpa using this)
        refine stA 11 (by kernel_rfl) rfl rfl 35 (.tmp 3) (.tmp 55) rfl (w.heap.size + 1 + 1) #[.int .i64 0, .int .i64 0] (by go_simp) (by go_simp) 35 _ hB1.h2 (by kernel_rfl) rfl (by kernel_rfl) hS2 (fun hS => ?_)
        refine wpAnyH_done (by kernel_rfl) ?_ _
        have HE : Hid (Rf ((W4.setRow (w.heap.size + 1) #[.slice (some ⟨kb, 0, none⟩) p.on.length p.on.length, .int .i64 (cst p p.miss)]).setRow (w.heap.size + 1 + 1) #[.int .i64 0, .int .i64 0]) kb (iC (p.on.map (cst p)))) := HRd.out _ hk2
        have HB3 : Hid (Bx3 w ((W4.setRow (w.heap.size + 1) #[.slice (some ⟨kb, 0, none⟩) p.on.length p.on.length, .int .i64 (cst p p.miss)]).setRow (w.heap.size + 1 + 1) #[.int .i64 0, .int .i64 0]) 27 32 35 #[.slice qo p.gh.length qc, .slice vo p.vs.length vc, .slice tto p.ts.length tc, .slice oo p.on.length oc, .int .i64 p.miss, .slice co p.cd.length cc] #[.slice (some ⟨kb, 0, none⟩) p.on.length p.on.length, .int .i64 (cst p p.miss)] #[.int .i64 0, .int .i64 0]) := hB2
        clear hS hS1 hS2 hk1 hk2 hB1 hB2 HRd HSt HBd HKd
        generalize (W4.setRow (w.heap.size + 1) #[.slice (some ⟨kb, 0, none⟩) p.on.length p.on.length, .int .i64 (cst p p.miss)]).setRow (w.heap.size + 1 + 1) #[.int .i64 0, .int .i64 0] = W5 at *
        obtain ⟨y0, y1⟩ := cells2 HB3.out.h1
        obtain ⟨z0, z1⟩ := cells2 HB3.out.h2
        go_wp2_with fail
        refine bodyPost_ret (v := .tuple #[.agg #[.slice (some ⟨kb, 0, none⟩) p.on.length p.on.length, .int .i64 (cst p p.miss)], .agg #[.int .i64 0, .int .i64 0]]) (by simp [results, Tryd.results28, go_sem, y0, y1, z0, z1]) rfl ?_
        refine ⟨HB3.out.bel, fun n' hn' => ?_, fun _ => ⟨kb, rfl, HKk.out.2.2, HE.out⟩⟩
        rw [HNo.out] at hn'
        cases hn'
end Go.Proofs.YtelbakkgobkdaaaDoor.Vf
