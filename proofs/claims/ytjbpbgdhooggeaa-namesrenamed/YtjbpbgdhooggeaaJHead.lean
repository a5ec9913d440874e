import Derived.Test.YtjbpbgdhooggeaaJNmD
namespace Go.Proofs.Ytjbpbgdhooggeaa.Nm
open Go.RowKit Go.Maps Go.Proofs.Ytjbpbgdhooggeaa.Sp Go.Proofs.Ytjbpbgdhooggeaa.Lx Go.Proofs.Ytjbpbgdhooggeaa.Gr

set_option maxHeartbeats 3200000 in
set_option maxRecDepth 100000 in
/-- Laid of a policy -/
theorem laid_told {w : World} {p : Pl} {ao qo vo tto uo oo : Option Addr} {ac qc vc tc uc oc row : Nat} (h : Rd w p ao qo vo tto uo oo) (hn : IsNats w uo p.us) (huc : p.us.length ≤ uc) (hs : p.Sm) (hu : p.us.length ≤ 64) (hT : TreeZ p.rows) (hul : ∀ u ∈ p.us, u < p.rows.length) (hrow : row < p.rows.length) :
    Calls Try.prog 12 #[pv p ao qo vo tto uo oo ac qc vc tc uc oc, .int .i64 (row : Int)] w fun e w' => e = .returned (.int .i64 (laidAt p.rows (sumsOf p.rows p.us) row : Nat)) ∧ Below w.heap.size w w' := by
  have hb0 : Below w.heap.size w (w.alloc (.cells #[.string p.name, .slice ao p.rows.length ac, .slice qo p.qs.length qc, .slice vo p.vs.length vc, .slice tto p.ts.length tc, .slice uo p.us.length uc, .slice oo p.on.length oc, .int .i64 p.miss] 29)) := (Below.refl _ w).alloc (Nat.le_refl _) _
  have HB0 := show Hid _ from hb0
  have HY := show Hid _ from laying_any (c0 := .string p.name) (c2 := .slice qo p.qs.length qc) (c3 := .slice vo p.vs.length vc) (c4 := .slice tto p.ts.length tc) (c6 := .slice oo p.on.length oc) (c7 := .int .i64 p.miss) (cap := ac) (uc := uc) (h.r.below hb0) (hn.below hb0) hT hs.r hu hul huc
  obtain ⟨k0, k1, k2, k3, k4, k5, k6, k7⟩ := pol8 (heap_alloc_new w (.cells #[.string p.name, .slice ao p.rows.length ac, .slice qo p.qs.length qc, .slice vo p.vs.length vc, .slice tto p.ts.length tc, .slice uo p.us.length uc, .slice oo p.on.length oc, .int .i64 p.miss] 29))
  have HI : Hid (IsRz (w.alloc (.cells #[.string p.name, .slice ao p.rows.length ac, .slice qo p.qs.length qc, .slice vo p.vs.length vc, .slice tto p.ts.length tc, .slice uo p.us.length uc, .slice oo p.on.length oc, .int .i64 p.miss] 29)) ao p.rows) := h.r.below hb0
  have HS : Hid (TreeZ p.rows ∧ p.rows.length ≤ 2932031007317 ∧ p.us.length ≤ 64 ∧ row < p.rows.length) := ⟨hT, hs.r, hu, hrow⟩
  clear h hn huc hs hu hT hul hb0 hrow
  unfold pv
  go_enter Try.func12, Try.ntmps12
  go_wp2_with fail
  generalize w.alloc (.cells #[.string p.name, .slice ao p.rows.length ac, .slice qo p.qs.length qc, .slice vo p.vs.length vc, .slice tto p.ts.length tc, .slice uo p.us.length uc, .slice oo p.on.length oc, .int .i64 p.miss] 29) = w0 at *
  refine Calls.mono HY.out ?_
  rintro e w2 ⟨rfl, sv, hY⟩
  obtain ⟨so, sc, _, h1, h2, h3⟩ := hY.read (sumsN_le p.rows p.us _)
  have HL := show Hid _ from laid_any h3 (HI.out.below hY.be) h2 h1 HS.out.1 HS.out.2.1 (by unfold sumsOf; rw [sumsN_len]; have := HS.out.2.2.1; omega) HS.out.2.2.2
  have HB2 : Hid (Below w.heap.size w w2) := HB0.out.trans (hY.be.mono HB0.out.size)
  clear hY h1 h2 h3 HY k0 k1 k2 k3 k4 k5 k6 k7
  unfold ptr0
  go_wp2_with fail
  refine Calls.mono HL.out ?_
  rintro e w3 ⟨rfl, rfl⟩
  go_wp2
  go_ret
  exact ⟨rfl, HB2.out⟩
def bp : ByteArray := ⟨#[112]⟩
def bq : ByteArray := ⟨#[113]⟩
/-- the rows of head's policy -/
def hrows : List Rz := [⟨1, bp, 0, 0, 2⟩, ⟨2, bq, 0, 0, 0⟩, ⟨10, ⟨#[]⟩, 0, 0, 1⟩, ⟨11, ⟨#[]⟩, 0, 0, 1⟩, ⟨16, bq, 0, 0, 0⟩]
def hpl : Pl := ⟨bp, hrows, [(bq, false)], [], [], [], [-1], 3⟩
theorem res_head : res hrows = .ok hpl := by kernel_rfl
theorem unn_head : hrows.map unn = hrows := by kernel_rfl
theorem laid_head : laidAt hrows (sumsOf hrows []) 3 = 2 := by kernel_rfl
theorem tree_head : TreeZ hrows := (tree_of (by kernel_rfl)).1
theorem small_rz (w : World) : IsRz (w.alloc (.cells #[.int .i64 1, .string bp, .int .i64 0, .int .i64 0, .int .i64 2, .int .i64 2, .string bq, .int .i64 0, .int .i64 0, .int .i64 0, .int .i64 10, .string ⟨#[]⟩, .int .i64 0, .int .i64 0, .int .i64 1, .int .i64 11, .string ⟨#[]⟩, .int .i64 0, .int .i64 0, .int .i64 1, .int .i64 16, .string bq, .int .i64 0, .int .i64 0, .int .i64 0] 40)) (some ⟨w.heap.size, 0, none⟩) hrows := by
  have hb := heap_alloc_new w (.cells #[.int .i64 1, .string bp, .int .i64 0, .int .i64 0, .int .i64 2, .int .i64 2, .string bq, .int .i64 0, .int .i64 0, .int .i64 0, .int .i64 10, .string ⟨#[]⟩, .int .i64 0, .int .i64 0, .int .i64 1, .int .i64 11, .string ⟨#[]⟩, .int .i64 0, .int .i64 0, .int .i64 1, .int .i64 16, .string bq, .int .i64 0, .int .i64 0, .int .i64 0] 40)
  intro i x hx
  have hi : i < 5 := (List.getElem?_eq_some_iff.1 hx).1
  refine ⟨w.heap.size, 0, rfl, by simp, ?_⟩
  obtain rfl | rfl | rfl | rfl | rfl : i = 0 ∨ i = 1 ∨ i = 2 ∨ i = 3 ∨ i = 4 := by omega
  all_goals
    cases hx
    simp only [World.cell?, hb]
    exact ⟨rfl, rfl, rfl, rfl, rfl⟩
set_option maxHeartbeats 1600000 in
set_option maxRecDepth 100000 in
theorem small_any (w : World) : Calls Try.prog 22 #[] w fun e w' => e = .returned (.slice (some ⟨w.heap.size, 0, none⟩) 5 5) ∧ IsRz w' (some ⟨w.heap.size, 0, none⟩) hrows ∧ Below w.heap.size w w' := by
  have HR := show Hid _ from small_rz w
  have HB : Hid (∀ x, Below w.heap.size w (w.alloc x)) := fun x => (Below.refl _ w).alloc (Nat.le_refl _) x
  unfold bp bq at HR
  go_enter Try.func22, Try.ntmps22
  go_wp2
  go_ret
  exact ⟨rfl, HR.out, HB.out _⟩
end Go.Proofs.Ytjbpbgdhooggeaa.Nm
namespace Go.Proofs.Ytjbpbgdhooggeaa.Nm
open Go.RowKit Go.Maps Go.Proofs.Ytjbpbgdhooggeaa.Sp Go.Proofs.Ytjbpbgdhooggeaa.Lx Go.Proofs.Ytjbpbgdhooggeaa.Gr

theorem sm_head : hpl.Sm := ⟨by decide, by decide, by decide, by decide, by decide, by decide⟩
set_option maxHeartbeats 6400000 in
set_option maxRecDepth 100000 in
/-- what is told of head's policy -/
theorem head_any (w : World) : Calls Try.prog 7 #[] w fun e w' => e = .returned (.bool true) ∧ Below w.heap.size w w' := by
  have HSm := show Hid _ from small_any w
  go_enter Try.func7, Try.ntmps7
  go_wp2_with fail
  refine Calls.mono HSm.out ?_
  rintro e w1 ⟨rfl, hR, hb1⟩
  have HRs : Hid (Calls Try.prog 8 #[.slice (some ⟨w.heap.size, 0, none⟩) 5 5] w1 (Told w1 (.ok hpl))) := by
    have := resolve_any (cap := 5) hR (by decide)
    rw [res_head] at this
    exact this
  have HB1 : Hid (Below w.heap.size w w1) := hb1
  clear hR hb1 HSm
  go_wp2_with fail
  refine Calls.mono HRs.out ?_
  rintro e w2 ⟨hb2, v, rfl, hpl0⟩
  obtain ⟨rb, qo, vo, tto, uo, oo, ac, qc, vc, tc, uc, oc, hv0, hrw, hrd, hnat, huc⟩ := hpl0.rd
  have hv : v = .agg #[.string ⟨#[112]⟩, .slice (some ⟨rb, 0, none⟩) 5 ac, .slice qo 1 qc, .slice vo 0 vc, .slice tto 0 tc, .slice uo 0 uc, .slice oo 1 oc, .int .i64 3] := hv0
  clear hv0
  subst hv
  have HCk : Hid (∀ wq, Below w2.heap.size w2 wq → Calls Try.prog 20 #[.agg #[.string ⟨#[112]⟩, .slice (some ⟨rb, 0, none⟩) 5 ac, .slice qo 1 qc, .slice vo 0 vc, .slice tto 0 tc, .slice uo 0 uc, .slice oo 1 oc, .int .i64 3]] wq fun e w' => e = .returned (.int .i64 0) ∧ Below wq.heap.size wq w') := fun wq hb => check_told (p := hpl) (hrd.below hb) sm_head ((congrArg res unn_head).trans res_head)
  have HLd : Hid (∀ wq, Below w2.heap.size w2 wq → Calls Try.prog 12 #[.agg #[.string ⟨#[112]⟩, .slice (some ⟨rb, 0, none⟩) 5 ac, .slice qo 1 qc, .slice vo 0 vc, .slice tto 0 tc, .slice uo 0 uc, .slice oo 1 oc, .int .i64 3], .int .i64 3] wq fun e w' => e = .returned (.int .i64 2) ∧ Below wq.heap.size wq w') := fun wq hb => by
    refine Calls.mono (laid_told (p := hpl) (row := 3) (ac := ac) (qc := qc) (vc := vc) (tc := tc) (uc := uc) (oc := oc) (hrd.below hb) (hnat.below hb) huc sm_head (by decide) tree_head (fun u hu => by cases hu) (by decide)) ?_
    rintro e w' ⟨he, hb'⟩
    refine ⟨?_, hb'⟩
    rw [he]
    have : laidAt hpl.rows (sumsOf hpl.rows hpl.us) 3 = 2 := laid_head
    rw [this]
    rfl
  obtain ⟨g, o, rfl, hg, q0⟩ := hrd.q 0 _ rfl
  obtain ⟨g', o', rfl, hg', o0⟩ := hrd.o 0 _ rfl
  rw [Nat.add_zero] at q0 o0
  have HB2 : Hid (Below w.heap.size w w2) := HB1.out.trans (hb2.mono HB1.out.size)
  have hb3 : Below w2.heap.size w2 ((w2.alloc (.cells #[.string ⟨#[112]⟩, .slice (some ⟨rb, 0, none⟩) 5 ac, .slice (some ⟨g, o, none⟩) 1 qc, .slice vo 0 vc, .slice tto 0 tc, .slice uo 0 uc, .slice (some ⟨g', o', none⟩) 1 oc, .int .i64 3] 29)).alloc (.cells #[.int .i64 0, .int .i64 0] 32)) := ((Below.refl _ w2).alloc (Nat.le_refl _) _).alloc (by simp) _
  have hx1 : ((w2.alloc (.cells #[.string ⟨#[112]⟩, .slice (some ⟨rb, 0, none⟩) 5 ac, .slice (some ⟨g, o, none⟩) 1 qc, .slice vo 0 vc, .slice tto 0 tc, .slice uo 0 uc, .slice (some ⟨g', o', none⟩) 1 oc, .int .i64 3] 29)).alloc (.cells #[.int .i64 0, .int .i64 0] 32)).heap[w2.heap.size]? = some (.cells #[.string ⟨#[112]⟩, .slice (some ⟨rb, 0, none⟩) 5 ac, .slice (some ⟨g, o, none⟩) 1 qc, .slice vo 0 vc, .slice tto 0 tc, .slice uo 0 uc, .slice (some ⟨g', o', none⟩) 1 oc, .int .i64 3] 29 (0, 0)) := by rw [alloc_old _ _ _ (by simp)]; exact alloc_at _ _ _ rfl
  have hx2 : ((w2.alloc (.cells #[.string ⟨#[112]⟩, .slice (some ⟨rb, 0, none⟩) 5 ac, .slice (some ⟨g, o, none⟩) 1 qc, .slice vo 0 vc, .slice tto 0 tc, .slice uo 0 uc, .slice (some ⟨g', o', none⟩) 1 oc, .int .i64 3] 29)).alloc (.cells #[.int .i64 0, .int .i64 0] 32)).heap[w2.heap.size + 1]? = some (.cells #[.int .i64 0, .int .i64 0] 32 (0, 0)) := alloc_at _ _ _ (by simp)
  have q1 : ((w2.alloc (.cells #[.string ⟨#[112]⟩, .slice (some ⟨rb, 0, none⟩) 5 ac, .slice (some ⟨g, o, none⟩) 1 qc, .slice vo 0 vc, .slice tto 0 tc, .slice uo 0 uc, .slice (some ⟨g', o', none⟩) 1 oc, .int .i64 3] 29)).alloc (.cells #[.int .i64 0, .int .i64 0] 32)).cell? ⟨g, o, none⟩ = some (.string ⟨#[113]⟩) := (hb3.cell (p := ⟨g, o, none⟩) hg).trans q0
  have o1 : ((w2.alloc (.cells #[.string ⟨#[112]⟩, .slice (some ⟨rb, 0, none⟩) 5 ac, .slice (some ⟨g, o, none⟩) 1 qc, .slice vo 0 vc, .slice tto 0 tc, .slice uo 0 uc, .slice (some ⟨g', o', none⟩) 1 oc, .int .i64 3] 29)).alloc (.cells #[.int .i64 0, .int .i64 0] 32)).cell? ⟨g', o', none⟩ = some (.int .i64 (-1)) := (hb3.cell (p := ⟨g', o', none⟩) hg').trans o0
  have f0 : ((w2.alloc (.cells #[.string ⟨#[112]⟩, .slice (some ⟨rb, 0, none⟩) 5 ac, .slice (some ⟨g, o, none⟩) 1 qc, .slice vo 0 vc, .slice tto 0 tc, .slice uo 0 uc, .slice (some ⟨g', o', none⟩) 1 oc, .int .i64 3] 29)).alloc (.cells #[.int .i64 0, .int .i64 0] 32)).cell? ⟨w2.heap.size + 1, 0, none⟩ = some (.int .i64 0) := by rw [World.cell?, hx2]; rfl
  have f1 : ((w2.alloc (.cells #[.string ⟨#[112]⟩, .slice (some ⟨rb, 0, none⟩) 5 ac, .slice (some ⟨g, o, none⟩) 1 qc, .slice vo 0 vc, .slice tto 0 tc, .slice uo 0 uc, .slice (some ⟨g', o', none⟩) 1 oc, .int .i64 3] 29)).alloc (.cells #[.int .i64 0, .int .i64 0] 32)).cell? ⟨w2.heap.size + 1, 1, none⟩ = some (.int .i64 0) := by rw [World.cell?, hx2]; rfl
  obtain ⟨k0, k1, k2, k3, k4, k5, k6, k7⟩ := pol8 hx1
  have HC3 := show Hid _ from HCk.out _ hb3
  have HX := show Hid _ from hx1
  have HB3 := show Hid _ from hb3
  clear hb2 hb3 hx1 hx2 hpl0 hrw hrd hnat huc q0 o0 hg hg' HRs HCk
  go_wp2_with fail
  refine Calls.mono HC3.out ?_
  rintro e w4 ⟨rfl, hb4⟩
  clear k0 k1 k2 k3 k4 k5 k6 k7 q1 o1 f0 f1
  obtain ⟨k0, k1, k2, k3, k4, k5, k6, k7⟩ := pol8 ((hb4.block _ (blk_lt HX.out)).trans HX.out)
  have HB4 : Hid (Below w2.heap.size w2 w4) := HB3.out.trans (hb4.mono HB3.out.size)
  have HL4 := show Hid _ from HLd.out _ HB4.out
  clear hb4 HX HC3 HLd
  go_wp2_with fail
  refine Calls.mono HL4.out ?_
  rintro e w5 ⟨rfl, hb5⟩
  have HB5 : Hid (Below w.heap.size w w5) := HB2.out.trans ((HB4.out.trans (hb5.mono HB4.out.size)).mono HB2.out.size)
  clear hb5 HL4 k0 k1 k2 k3 k4 k5 k6 k7
  go_wp2
  go_ret
  exact ⟨rfl, HB5.out⟩
end Go.Proofs.Ytjbpbgdhooggeaa.Nm
