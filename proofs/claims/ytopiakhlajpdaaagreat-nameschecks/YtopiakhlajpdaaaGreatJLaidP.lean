import Derived.Test.YtopiakhlajpdaaaGreatJSums
import Derived.Test.YtopiakhlajpdaaaGreatJNmD
import Derived.Test.YtopiakhlajpdaaaGreatJRefA
import Derived.Deep.RegionHeld3
import Derived.Test.YtopiakhlajpdaaaGreatJHead
import Derived.Test.YtopiakhlajpdaaaGreatJLend
import Derived.Test.YtopiakhlajpdaaaGreatJKeptP
namespace Go.Proofs.YtopiakhlajpdaaaGreat.Nm
open Go.RowKit Go.Maps Go.Proofs.YtopiakhlajpdaaaGreat.Sp Go.Proofs.YtopiakhlajpdaaaGreat.Lx Go.Proofs.YtopiakhlajpdaaaGreat.Gr

/-- calls of a policy that was told: of rules ahead, of rules that are there -/
structure Cls (p : Pl) : Prop where
  ahead : ∀ k (hk : k < p.us.length) j, p.us[k] ≤ j → j < endp p.rows p.us[k] → (rat p.rows j).kind = 22 → 0 ≤ (rat p.rows j).n ∧ (rat p.rows j).n < (k : Int)
  there : ∀ j, j < p.rows.length → (rat p.rows j).kind = 22 → 0 ≤ (rat p.rows j).n ∧ (rat p.rows j).n < (p.us.length : Int)
theorem res_calls {l : List Rz} {p : Pl} (h : res l = .ok p) : Cls p := by
  unfold res at h
  split at h
  · cases h
  · rename_i hc
    have hw := (chk_ok (by simpa using hc)).2
    have hB := base_of hw
    unfold resR at h
    split at h
    · cases h
    · rename_i s hs
      have hg := upto_good hB _ (Nat.le_refl _) hs
      have hcl := upto_cl hB _ (Nat.le_refl _) hs
      split at h
      · cases h
      · cases h
        exact ⟨calls_ahead hw hg hcl, fun j hj => calls_there hg hcl j (by rw [← like_len hg.like]; exact hj)⟩
set_option maxHeartbeats 6400000 in
set_option maxRecDepth 100000 in
/-- the reference's Laid -/
theorem rlaidP_any {w : World} {p : Pl} {ao qo vo tto uo oo : Option Addr} {ac qc vc tc uc oc row : Nat} (h : Rd w p ao qo vo tto uo oo) (hn : IsNats w uo p.us) (hr : p.rows.length ≤ 2932031007317) (hu : p.us.length ≤ 64) (hT : TreeZ p.rows) (hul : ∀ u ∈ p.us, u < p.rows.length) (hc : Cls p) (hrow : row < p.rows.length) :
    Calls Tryz.prog 20 #[pv p ao qo vo tto uo oo ac qc vc tc uc oc, .int .i64 (row : Int)] w fun e w' => e = .returned (.int .i64 (laidAt p.rows (sumsOf p.rows p.us) row : Nat)) ∧ Below w.heap.size w w' := by
  dsimp only [pv]
  have hb1 : Below w.heap.size w (w.alloc (.cells #[.string p.name, .slice ao p.rows.length ac, .slice qo p.qs.length qc, .slice vo p.vs.length vc, .slice tto p.ts.length tc, .slice uo p.us.length uc, .slice oo p.on.length oc, .int .i64 p.miss] 30)) := (Below.refl _ w).alloc (Nat.le_refl _) _
  have H1 : Hid ((w.alloc (.cells #[.string p.name, .slice ao p.rows.length ac, .slice qo p.qs.length qc, .slice vo p.vs.length vc, .slice tto p.ts.length tc, .slice uo p.us.length uc, .slice oo p.on.length oc, .int .i64 p.miss] 30)).heap[w.heap.size]? = some (.cells #[.string p.name, .slice ao p.rows.length ac, .slice qo p.qs.length qc, .slice vo p.vs.length vc, .slice tto p.ts.length tc, .slice uo p.us.length uc, .slice oo p.on.length oc, .int .i64 p.miss] 30 (0, 0)) ∧ Below w.heap.size w (w.alloc (.cells #[.string p.name, .slice ao p.rows.length ac, .slice qo p.qs.length qc, .slice vo p.vs.length vc, .slice tto p.ts.length tc, .slice uo p.us.length uc, .slice oo p.on.length oc, .int .i64 p.miss] 30))) := ⟨heap_alloc_new w _, hb1⟩
  have HD : Hid (Rd w p ao qo vo tto uo oo ∧ IsNats w uo p.us ∧ p.rows.length ≤ 2932031007317 ∧ p.us.length ≤ 64 ∧ TreeZ p.rows ∧ (∀ u ∈ p.us, u < p.rows.length) ∧ Cls p ∧ row < p.rows.length) := ⟨h, hn, hr, hu, hT, hul, hc, hrow⟩
  have HE := show Hid _ from ends_any ao p.rows ac _ (h.r.below hb1) hr hT
  obtain ⟨k0, k1, k2, k3, k4, k5, k6, k7⟩ := pol8 H1.out.1
  clear h hn hr hu hT hul hc hrow hb1
  go_enter Tryz.func20, Tryz.ntmps20
  go_wp2_with fail
  generalize w.alloc (.cells #[.string p.name, .slice ao p.rows.length ac, .slice qo p.qs.length qc, .slice vo p.vs.length vc, .slice tto p.ts.length tc, .slice uo p.us.length uc, .slice oo p.on.length oc, .int .i64 p.miss] 30) = w1 at *
  clear k0 k1 k2 k3 k4 k5 k6 k7
  refine Calls.mono HE.out ?_
  rintro e w2 ⟨eb, rfl, heb, hRI, hb2⟩
  have H2 : Hid (RowI w2 eb p.rows.length (fun i => (endp p.rows i : Int)) ∧ Below w.heap.size w w2 ∧ w2.heap[w.heap.size]? = some (.cells #[.string p.name, .slice ao p.rows.length ac, .slice qo p.qs.length qc, .slice vo p.vs.length vc, .slice tto p.ts.length tc, .slice uo p.us.length uc, .slice oo p.on.length oc, .int .i64 p.miss] 30 (0, 0))) := ⟨hRI, H1.out.2.trans (hb2.mono H1.out.2.size), (hb2.block _ (blk_lt H1.out.1)).trans H1.out.1⟩
  clear hRI hb2 heb HE
  go_wp2_with fail
  have hS0 : w2.drew.cell? ⟨w.heap.size, 0, none⟩ = some (.string p.name) ∧ w2.drew.cell? ⟨w.heap.size, 1, none⟩ = some (.slice ao p.rows.length ac) ∧ w2.drew.cell? ⟨w.heap.size, 2, none⟩ = some (.slice qo p.qs.length qc) ∧ w2.drew.cell? ⟨w.heap.size, 3, none⟩ = some (.slice vo p.vs.length vc) ∧ w2.drew.cell? ⟨w.heap.size, 4, none⟩ = some (.slice tto p.ts.length tc) ∧ w2.drew.cell? ⟨w.heap.size, 5, none⟩ = some (.slice uo p.us.length uc) ∧ w2.drew.cell? ⟨w.heap.size, 6, none⟩ = some (.slice oo p.on.length oc) ∧ w2.drew.cell? ⟨w.heap.size, 7, none⟩ = some (.int .i64 p.miss) := by
    obtain ⟨q0, q1, q2, q3, q4, q5, q6, q7⟩ := pol8 H2.out.2.2
    exact ⟨q0, q1, q2, q3, q4, q5, q6, q7⟩
  refine wp_region_held (S := fun w' => w'.cell? ⟨w.heap.size, 0, none⟩ = some (.string p.name) ∧ w'.cell? ⟨w.heap.size, 1, none⟩ = some (.slice ao p.rows.length ac) ∧ w'.cell? ⟨w.heap.size, 2, none⟩ = some (.slice qo p.qs.length qc) ∧ w'.cell? ⟨w.heap.size, 3, none⟩ = some (.slice vo p.vs.length vc) ∧ w'.cell? ⟨w.heap.size, 4, none⟩ = some (.slice tto p.ts.length tc) ∧ w'.cell? ⟨w.heap.size, 5, none⟩ = some (.slice uo p.us.length uc) ∧ w'.cell? ⟨w.heap.size, 6, none⟩ = some (.slice oo p.on.length oc) ∧ w'.cell? ⟨w.heap.size, 7, none⟩ = some (.int .i64 p.miss)) (by kernel_rfl) ?_
  have hS : (fun w' : World => w'.cell? ⟨w.heap.size, 0, none⟩ = some (.string p.name) ∧ w'.cell? ⟨w.heap.size, 1, none⟩ = some (.slice ao p.rows.length ac) ∧ w'.cell? ⟨w.heap.size, 2, none⟩ = some (.slice qo p.qs.length qc) ∧ w'.cell? ⟨w.heap.size, 3, none⟩ = some (.slice vo p.vs.length vc) ∧ w'.cell? ⟨w.heap.size, 4, none⟩ = some (.slice tto p.ts.length tc) ∧ w'.cell? ⟨w.heap.size, 5, none⟩ = some (.slice uo p.us.length uc) ∧ w'.cell? ⟨w.heap.size, 6, none⟩ = some (.slice oo p.on.length oc) ∧ w'.cell? ⟨w.heap.size, 7, none⟩ = some (.int .i64 p.miss)) w2.drew := hS0
  change wpAnyH _ _ _ _ _ _ _ _ w2.drew
  refine wpAnyH_take (i := 0) (v := ?v0) rfl (by kernel_rfl) (by kernel_rfl) (by kernel_rfl) (fun _ _ _ h => h) (Or.inl ⟨by rfl, ?y0⟩) hS ?r0
  case y0 =>
    intro w hSw
    try dsimp only at hSw
    obtain ⟨g0, g1, g2, g3, g4, g5, g6, g7⟩ := hSw
    first
      | (go_simp; done)
      | (go_simp; with_reducible rfl)
  refine wpAnyH_take (i := 1) (v := ?v1) rfl (by kernel_rfl) (by kernel_rfl) (by kernel_rfl) (fun _ _ _ h => h) (Or.inl ⟨by rfl, ?y1⟩) hS ?r1
  case y1 =>
    intro w hSw
    try dsimp only at hSw
    obtain ⟨g0, g1, g2, g3, g4, g5, g6, g7⟩ := hSw
    first
      | (go_simp; done)
      | (go_simp; with_reducible rfl)
  refine wpAnyH_take (i := 2) (v := ?v2) rfl (by kernel_rfl) (by kernel_rfl) (by kernel_rfl) (fun _ _ _ h => h) (Or.inl ⟨by rfl, ?y2⟩) hS ?r2
  case y2 =>
    intro w hSw
    try dsimp only at hSw
    obtain ⟨g0, g1, g2, g3, g4, g5, g6, g7⟩ := hSw
    first
      | (go_simp; done)
      | (go_simp; with_reducible rfl)
  refine wpAnyH_take (i := 3) (v := ?v3) rfl (by kernel_rfl) (by kernel_rfl) (by kernel_rfl) (fun _ _ _ h => h) (Or.inl ⟨by rfl, ?y3⟩) hS ?r3
  case y3 =>
    intro w hSw
    try dsimp only at hSw
    obtain ⟨g0, g1, g2, g3, g4, g5, g6, g7⟩ := hSw
    first
      | (go_simp; done)
      | (go_simp; with_reducible rfl)
  refine wpAnyH_take (i := 5) (v := ?v4) rfl (by kernel_rfl) (by kernel_rfl) (by kernel_rfl) (fun _ _ _ h => h) (Or.inl ⟨by rfl, ?y4⟩) hS ?r4
  case y4 =>
    intro w hSw
    try dsimp only at hSw
    obtain ⟨g0, g1, g2, g3, g4, g5, g6, g7⟩ := hSw
    first
      | (go_simp; done)
      | (go_simp; with_reducible rfl)
  refine wpAnyH_ready (rs := [4]) (by kernel_rfl) (by simp) ?_
  refine AllReadyH.cons rfl (fun K hK => ?_) AllReadyH.nil
  go_simp
  have hbd : Below w2.heap.size w2 w2.drew := (Below.refl _ w2).drew
  have hbW : Below w.heap.size w w2.drew := H2.out.2.1.trans (hbd.mono H2.out.2.1.size)
  refine Calls.mono (rsums_any (W := w2.drew) (c0 := .string p.name) (c2 := .slice qo p.qs.length qc) (c3 := .slice vo p.vs.length vc) (c4 := .slice tto p.ts.length tc) (c6 := .slice oo p.on.length oc) (c7 := .int .i64 p.miss) (cap := ac) (uc := uc) (eb := eb) (HD.out.1.r.below hbW) (HD.out.2.1.below hbW) (fun i hi => H2.out.1.cell hi) HD.out.2.2.2.2.1 HD.out.2.2.1 HD.out.2.2.2.1 HD.out.2.2.2.2.2.1 HD.out.2.2.2.2.2.2.1.ahead) ?_
  rintro e w3 ⟨sv, rfl, hsv, hb3⟩
  obtain ⟨so, sc, rfl⟩ := own_form hsv
  have hb23 : Below w2.heap.size w2 w3 := hbd.trans (hb3.mono (Nat.le_refl _))
  have hS3 : w3.cell? ⟨w.heap.size, 0, none⟩ = some (.string p.name) ∧ w3.cell? ⟨w.heap.size, 1, none⟩ = some (.slice ao p.rows.length ac) ∧ w3.cell? ⟨w.heap.size, 2, none⟩ = some (.slice qo p.qs.length qc) ∧ w3.cell? ⟨w.heap.size, 3, none⟩ = some (.slice vo p.vs.length vc) ∧ w3.cell? ⟨w.heap.size, 4, none⟩ = some (.slice tto p.ts.length tc) ∧ w3.cell? ⟨w.heap.size, 5, none⟩ = some (.slice uo p.us.length uc) ∧ w3.cell? ⟨w.heap.size, 6, none⟩ = some (.slice oo p.on.length oc) ∧ w3.cell? ⟨w.heap.size, 7, none⟩ = some (.int .i64 p.miss) := by
    obtain ⟨q0, q1, q2, q3, q4, q5, q6, q7⟩ := pol8 ((hb23.block _ (blk_lt H2.out.2.2)).trans H2.out.2.2)
    exact ⟨q0, q1, q2, q3, q4, q5, q6, q7⟩
  have hb03 : Below w.heap.size w w3 := H2.out.2.1.trans (hb23.mono H2.out.2.1.size)
  have hSL : (sumsOf p.rows p.us).length = p.us.length := sumsN_len _ _ _
  have HLd : Hid (Calls Tryz.prog 40 #[.agg #[.string p.name, .slice ao p.rows.length ac, .slice qo p.qs.length qc, .slice vo p.vs.length vc, .slice tto p.ts.length tc, .slice uo p.us.length uc, .slice oo p.on.length oc, .int .i64 p.miss], .slice (some ⟨eb, 0, none⟩) p.rows.length p.rows.length, .slice so p.us.length sc, .int .i64 (row : Int)] w3 fun e w' => e = .returned (.int .i64 (laidAt p.rows (sumsOf p.rows p.us) row : Nat)) ∧ Below w3.heap.size w3 w') := by
    have ho : w3.ownsRow (w2.drew.heap.size + 1) 3 1 (.slice so p.us.length sc) (sumsOf p.rows p.us).length (nv (sumsOf p.rows p.us)) := by rw [hSL]; exact hsv
    have := rlaid_any (c0 := .string p.name) (c2 := .slice qo p.qs.length qc) (c3 := .slice vo p.vs.length vc) (c4 := .slice tto p.ts.length tc) (c5 := .slice uo p.us.length uc) (c6 := .slice oo p.on.length oc) (c7 := .int .i64 p.miss) (cap := ac) (uc := sc) (HD.out.1.r.below hb03) (sums_of ho (sumsN_le p.rows p.us _)) ((hb23.cell (p := ⟨eb, row, none⟩) H2.out.1.lt).trans (H2.out.1.cell HD.out.2.2.2.2.2.2.2)) HD.out.2.2.2.2.1 HD.out.2.2.1 (by rw [hSL]; have := HD.out.2.2.2.1; omega) HD.out.2.2.2.2.2.2.2 (fun j _ hj2 hj3 => by
      rw [hSL]
      exact HD.out.2.2.2.2.2.2.1.there j (by have := (end_kid HD.out.2.2.2.2.1.whole HD.out.2.2.2.2.2.2.2).2.2; omega) hj3)
    rw [hSL] at this
    exact this
  have HB3 : Hid (Below w.heap.size w w3 ∧ Below w2.heap.size w2 w3) := ⟨hb03, hb23⟩
  clear hbd hbW hsv hb3 hb23 hb03 hSL
  refine hK.out _ _ hS3 (fun hS => ?_)
  refine wpAnyH_ready (rs := [6]) (by kernel_rfl) (by simp) ?_
  refine AllReadyH.cons rfl (fun K hK => ?_) AllReadyH.nil
  go_simp
  refine Calls.mono HLd.out ?_
  rintro e w4 ⟨rfl, hb4⟩
  have hS4 : w4.cell? ⟨w.heap.size, 0, none⟩ = some (.string p.name) ∧ w4.cell? ⟨w.heap.size, 1, none⟩ = some (.slice ao p.rows.length ac) ∧ w4.cell? ⟨w.heap.size, 2, none⟩ = some (.slice qo p.qs.length qc) ∧ w4.cell? ⟨w.heap.size, 3, none⟩ = some (.slice vo p.vs.length vc) ∧ w4.cell? ⟨w.heap.size, 4, none⟩ = some (.slice tto p.ts.length tc) ∧ w4.cell? ⟨w.heap.size, 5, none⟩ = some (.slice uo p.us.length uc) ∧ w4.cell? ⟨w.heap.size, 6, none⟩ = some (.slice oo p.on.length oc) ∧ w4.cell? ⟨w.heap.size, 7, none⟩ = some (.int .i64 p.miss) := by
    obtain ⟨q0, q1, q2, q3, q4, q5, q6, q7⟩ := pol8 ((hb4.block _ (Nat.lt_of_lt_of_le (blk_lt H2.out.2.2) HB3.out.2.size)).trans ((HB3.out.2.block _ (blk_lt H2.out.2.2)).trans H2.out.2.2))
    exact ⟨q0, q1, q2, q3, q4, q5, q6, q7⟩
  have HB4 : Hid (Below w.heap.size w w4) := HB3.out.1.trans (hb4.mono HB3.out.1.size)
  clear hb4
  refine hK.out _ _ hS4 (fun hS => ?_)
  refine wpAnyH_ready (rs := [7]) (by kernel_rfl) (by simp) ?_
  refine AllReadyH.cons rfl (fun K hK => ?_) AllReadyH.nil
  go_simp
  refine hK.out _ _ hS4 (fun hS => ?_)
  refine wpAnyH_done (by kernel_rfl) ?_ _
  clear hS hS0 hS3 hS4
  go_wp2
  go_ret
  exact ⟨rfl, HB4.out⟩
end Go.Proofs.YtopiakhlajpdaaaGreat.Nm

namespace Go.Proofs.YtopiakhlajpdaaaGreat.Nm
open Go.RowKit Go.Maps Go.Proofs.YtopiakhlajpdaaaGreat.Sp Go.Proofs.YtopiakhlajpdaaaGreat.Lx Go.Proofs.YtopiakhlajpdaaaGreat.Gr

theorem nats_vals {w : World} {uo : Option Addr} {us : List Nat} (h : IsVals w uo (iv (us.map fun n : Nat => (n : Int)))) : IsNats w uo us := fun k x hx => by
  obtain ⟨g, o, e, hg, hc⟩ := h k (.int .i64 (x : Int)) (by simp [iv, hx])
  exact ⟨g, o, e, hg, hc⟩
theorem g_rd {W : World} {p : Pl} {ao qo vo tto uo oo : Option Addr} (h : RdG W p.g ao qo vo tto uo oo) : Rd W p ao qo vo tto uo oo := ⟨h.r, h.q, h.v, h.t, h.u, h.o⟩
/-- what holds of a policy that was told -/
structure Tg (p : Pl) : Prop where
  r : p.rows.length ≤ 65536
  pos : 0 < p.rows.length
  q : p.qs.length ≤ 16
  v : p.vs.length ≤ 16
  t : p.ts.length ≤ 4
  u : p.us.length ≤ 64
  o : p.on.length ≤ 16
  tree : TreeZ p.rows
  ul : ∀ u ∈ p.us, u < p.rows.length
  cls : Cls p
theorem res_tg {l : List Rz} {p : Pl} (hl : l.length ≤ 65536) (h : res l = .ok p) : Tg p := by
  have hc := res_calls h
  unfold res at h
  split at h
  · cases h
  · rename_i hk
    have hB := base_of (chk_ok (by simpa using hk)).2
    unfold resR at h
    split at h
    · cases h
    · rename_i s hs
      have hg := upto_good hB _ (Nat.le_refl _) hs
      have hll := like_len hg.like
      split at h
      · cases h
      · cases h
        exact ⟨by show s.rows.length ≤ _; omega, by show 0 < s.rows.length; have := hB.pos; omega, hg.q, hg.v, hg.t, hg.u, by show (onsOf _ _).length ≤ _; rw [onsOf_len]; exact hg.q, like_tree hg.like hB.tree, fun u hu => by show u < s.rows.length; rw [hll]; exact hg.ul u hu, hc⟩
/-- Laid, of what was told -/
theorem laidG {w : World} {p : Pl} {ao qo vo tto uo oo : Option Addr} {ac qc vc tc uc oc row : Nat} (h : RdG w p.g ao qo vo tto uo oo) (huc : p.us.length ≤ uc) (ht : Tg p) (hrow : row < p.rows.length) :
    Calls Tryz.prog 19 #[pvG p.g ao qo vo tto uo oo ac qc vc tc uc oc, .int .i64 (row : Int)] w fun e w' => e = .returned (.int .i64 (laidAt p.rows (sumsOf p.rows p.us) row : Nat)) ∧ Below w.heap.size w w' := by
  have := laid_told (ac := ac) (qc := qc) (vc := vc) (tc := tc) (uc := uc) (oc := oc) (row := row) (g_rd h) (nats_vals h.u) huc ⟨by have := ht.r; omega, by have := ht.q; omega, by have := ht.v; omega, by have := ht.t; omega, by have := ht.u; omega, by have := ht.o; omega⟩ ht.u ht.tree ht.ul hrow
  have e : pvG p.g ao qo vo tto uo oo ac qc vc tc uc oc = pv p ao qo vo tto uo oo ac qc vc tc uc oc := by simp [pvG, pv, Pl.g]
  rw [e]
  exact this
theorem rlaidG {w : World} {p : Pl} {ao qo vo tto uo oo : Option Addr} {ac qc vc tc uc oc row : Nat} (h : RdG w p.g ao qo vo tto uo oo) (ht : Tg p) (hrow : row < p.rows.length) :
    Calls Tryz.prog 20 #[pvG p.g ao qo vo tto uo oo ac qc vc tc uc oc, .int .i64 (row : Int)] w fun e w' => e = .returned (.int .i64 (laidAt p.rows (sumsOf p.rows p.us) row : Nat)) ∧ Below w.heap.size w w' := by
  have := rlaidP_any (ac := ac) (qc := qc) (vc := vc) (tc := tc) (uc := uc) (oc := oc) (row := row) (g_rd h) (nats_vals h.u) (by have := ht.r; omega) ht.u ht.tree ht.ul ht.cls hrow
  have e : pvG p.g ao qo vo tto uo oo ac qc vc tc uc oc = pv p ao qo vo tto uo oo ac qc vc tc uc oc := by simp [pvG, pv, Pl.g]
  rw [e]
  exact this
theorem own_nil {w : World} {base n c sz : Nat} {T : TypeId} {ao : Option Addr} {xs : List Value} (h : w.ownsRow base T sz (.slice ao n c) n xs) : ao = none → c = 0 := fun e => by
  rcases h.2 with ⟨e2, _⟩ | ⟨g, cap, cur, e2, _⟩
  · cases e2; rfl
  · rw [e] at e2; cases e2
/-- what is told can be read, wherever its memory is as it was; a list that is nil has no room -/
theorem IsPl.allG {w : World} {base : Nat} {v : Value} {p : Pl} (h : IsPl w base v p) : ∃ ao qo vo tto uo oo ac qc vc tc uc oc, v = pvG p.g ao qo vo tto uo oo ac qc vc tc uc oc ∧ p.us.length ≤ uc ∧ ((qo = none → qc = 0) ∧ (vo = none → vc = 0) ∧ (tto = none → tc = 0) ∧ (uo = none → uc = 0) ∧ (oo = none → oc = 0)) ∧ ∀ W : World, (∀ k, base ≤ k → k < w.heap.size → W.heap[k]? = w.heap[k]?) → RdG W p.g ao qo vo tto uo oo := by
  obtain ⟨rb, cap, qv, vv, tv, uv, ov, rfl, hrb, hr, hq, hv, ht, hu, ho⟩ := h.ex
  obtain ⟨qo, qc, rfl⟩ := own_form hq
  obtain ⟨vo, vc, rfl⟩ := own_form hv
  obtain ⟨tto, tc, rfl⟩ := own_form ht
  obtain ⟨uo, uc, rfl⟩ := own_form hu
  obtain ⟨oo, oc, rfl⟩ := own_form ho
  refine ⟨some ⟨rb, 0, none⟩, qo, vo, tto, uo, oo, cap, qc, vc, tc, uc, oc, by simp [pvG, Pl.g], (nats_of hu).2, ⟨own_nil hq, own_nil hv, own_nil ht, own_nil hu, own_nil ho⟩, fun W hW => ?_⟩
  have kp : ∀ {T : TypeId} {sz n : Nat} {v' : Value} {xs : List Value}, w.ownsRow base T sz v' n xs → W.ownsRow base T sz v' n xs := fun h1 => own_keepB h1 (fun k hk => hW k (World.ownsRow.lt h1 k hk).1 (World.ownsRow.lt h1 k hk).2)
  refine ⟨(hr.same (hW rb hrb hr.lt)).rz, vals_of (kp hq), vals_of (kp hv), vals_of (kp ht), ?_, vals_of (kp ho)⟩
  have := vals_of (kp hu)
  simpa [iv, nv, Pl.g, List.map_map, Function.comp_def] using this
theorem Ls.below {W W' : World} {base : Nat} {os : List Ow} (h : Ls W base os) (hb : Below W.heap.size W W') : Ls W' base os := ⟨fun o ho => own_below (h.own o ho) hb, h.dis⟩
theorem Ls.rd {W : World} {base : Nat} {p : Pg} {g gq cq gv cv gt ct gu cu go co : Nat} (h : Ls W base (lentOs p g gq cq gv cv gt ct gu cu go co)) : RdG W p (some ⟨g, 0, none⟩) (some ⟨gq, 0, none⟩) (some ⟨gv, 0, none⟩) (some ⟨gt, 0, none⟩) (some ⟨gu, 0, none⟩) (some ⟨go, 0, none⟩) := by
  have a : ∀ (i : Nat) (hi : i < (lentOs p g gq cq gv cv gt ct gu cu go co).length), W.ownsRow base ((lentOs p g gq cq gv cv gt ct gu cu go co)[i]).T ((lentOs p g gq cq gv cv gt ct gu cu go co)[i]).sz ((lentOs p g gq cq gv cv gt ct gu cu go co)[i]).v ((lentOs p g gq cq gv cv gt ct gu cu go co)[i]).n ((lentOs p g gq cq gv cv gt ct gu cu go co)[i]).xs := fun i hi => h.own _ (List.getElem_mem hi)
  have a0 := a 0 (by simp)
  have a1 := a 1 (by simp)
  have a2 := a 2 (by simp)
  have a3 := a 3 (by simp)
  have a4 := a 4 (by simp)
  have a5 := a 5 (by simp)
  exact ⟨RowZ.reads (l' := (List.range 9).map (fun j => mkL (p.rows.length + j)) ++ List.replicate (9 - 9) rz0) (rowz_own (l := fillL p.rows 9) a0), vals_front (vals_of a1), vals_front (vals_of a2), vals_front (vals_of a3), vals_front (vals_of a4), vals_front (vals_of a5)⟩
theorem Ls.ucap {W : World} {base : Nat} {p : Pg} {g gq cq gv cv gt ct gu cu go co : Nat} (h : Ls W base (lentOs p g gq cq gv cv gt ct gu cu go co)) : p.us.length ≤ cu := by
  have a : W.ownsRow base _ _ _ _ _ := h.own (lentOs p g gq cq gv cv gt ct gu cu go co)[4] (List.getElem_mem (by simp))
  obtain ⟨_, _, _, hc, _⟩ := own_cells (g := gu) (n := p.us.length + 1) (cap := cu) (sz := 1) a
  omega
/-- round -/
def rnd7 (a : Int) (n : Nat) : Nat := if a.tmod n < 0 then (a.tmod n + n).toNat else (a.tmod n).toNat
theorem rnd7_lt (a : Int) {n : Nat} (hn : 0 < n) : rnd7 a n < n := by
  have h1 := Int.tmod_lt_of_pos a (show (0 : Int) < n by omega)
  have h2 := Int.lt_tmod_of_pos a (show (0 : Int) < n by omega)
  unfold rnd7
  split <;> omega
set_option maxHeartbeats 1600000 in
theorem round7 (a : Int) (n : Nat) (hn : 0 < n) (hn2 : n ≤ 2932031007317) (w : World) : Calls Tryz.prog 18 #[.int .i64 a, .int .i64 (n : Int)] w fun r w' => r = .returned (.int .i64 (rnd7 a n : Nat)) ∧ w' = w := by
  have h1 := Int.tmod_lt_of_pos a (show (0 : Int) < n by omega)
  have h2 := Int.lt_tmod_of_pos a (show (0 : Int) < n by omega)
  have hw : IntKind.i64.wrap (a.tmod n) = a.tmod n := by
    rw [IntKind.wrap_i64]
    generalize a.tmod n = z at *
    omega
  have h3 : ((n : Int) == 0) = false := by simp; omega
  have h4 : (n : Int) ≤ 2932031007317 := by omega
  by_cases h0 : a.tmod n < 0
  · have HR : Hid (rnd7 a n = (a.tmod n + n).toNat) := by show _ = _; unfold rnd7; rw [if_pos h0]
    go_enter Tryz.func18, Tryz.ntmps18
    go_wp2
    go_ret
    exact ⟨by rw [HR.out, Int.toNat_of_nonneg (by omega)]; rfl, rfl⟩
  · have h5 : decide (a.tmod n < 0) = false := by simp; omega
    have HR : Hid (rnd7 a n = (a.tmod n).toNat) := by show _ = _; unfold rnd7; rw [if_neg h0]
    go_enter Tryz.func18, Tryz.ntmps18
    go_wp2
    go_ret
    exact ⟨by rw [HR.out, Int.toNat_of_nonneg (by omega)]; rfl, rfl⟩
end Go.Proofs.YtopiakhlajpdaaaGreat.Nm
