import Derived.Test.YtnpdblcfhbamiaaGreatK34
set_option maxHeartbeats 25600000
set_option maxRecDepth 100000
namespace Go.Proofs.YtnpdblcfhbamiaaGreat.Nm.Ty
open Go.RowKit Go.Maps Go.Proofs.YtnpdblcfhbamiaaGreat.Sp Go.Proofs.YtnpdblcfhbamiaaGreat.Lx Go.Proofs.YtnpdblcfhbamiaaGreat.Gr
/-- readUnder at work: its boxes -/
structure Uq (w wx : World) (pc cc : Array Value) : Prop where
  p : wx.heap[w.heap.size]? = some (.cells pc 30 (0, 0))
  c : wx.heap[w.heap.size + 1]? = some (.cells cc 25 (0, 0))
  r : wx.heap[w.heap.size + 1 + 1]? = some (.cells #[pz, pz, pz, pz] 72 (0, 0))
  f : wx.heap[w.heap.size + 1 + 1 + 1]? = some (.cells #[.int .i64 0, .int .i64 0] 33 (0, 0))
  be : Below w.heap.size w wx
theorem Uq.below {w wx w' : World} {pc cc : Array Value} (h : Uq w wx pc cc) (hb : Below wx.heap.size wx w') : Uq w w' pc cc := ⟨(hb.block _ (blk_lt h.p)).trans h.p, (hb.block _ (blk_lt h.c)).trans h.c, (hb.block _ (blk_lt h.r)).trans h.r, (hb.block _ (blk_lt h.f)).trans h.f, h.be.trans (hb.mono h.be.size)⟩
theorem uq_start (w : World) (pc cc : Array Value) : Uq w ((((w.alloc (.cells pc 30)).alloc (.cells cc 25)).alloc (.cells #[pz, pz, pz, pz] 72)).alloc (.cells #[.int .i64 0, .int .i64 0] 33)) pc cc := by
  refine ⟨?_, ?_, ?_, ?_, ((((Below.refl _ w).alloc (Nat.le_refl _) _).alloc (by simp) _).alloc (by simp; omega) _).alloc (by simp; omega) _⟩
  · rw [alloc_old _ _ _ (by simp; omega), alloc_old _ _ _ (by simp; omega), alloc_old _ _ _ (by simp)]
    exact alloc_at _ _ _ rfl
  · rw [alloc_old _ _ _ (by first | (simp; done) | (simp; omega)), alloc_old _ _ _ (by simp)]
    exact alloc_at _ _ _ (by simp)
  · rw [alloc_old _ _ _ (by simp)]
    exact alloc_at _ _ _ (by simp)
  · exact alloc_at _ _ _ (by simp)
/-- what is told of a policy that Check takes, under capacities -/
def ruZ (P : Pg) (size : Int) (cs : Nat → Int) (nc : Nat) : Int × Int := if (fltN P.rows (ghL P.qs) P.rows.length).1 = 0 then (fitE (ghL P.qs) P.qs.length size cs nc, 0) else (((fltN P.rows (ghL P.qs) P.rows.length).1 : Int), ((fltN P.rows (ghL P.qs) P.rows.length).2 : Int))
theorem under_any {P : Pg} {ao qo vo tto uo oo co : Option Addr} {ac qc vc tc uc oc nc cc : Nat} {size : Int} {cs : Nat → Int} {w : World} (h : RdG w P ao qo vo tto uo oo) (hs : P.Sm) (hnil : ao = none → ac = 0) (hR : IsOk P → Rdy P) (hc : IsVals w co (fL nc (fun i => .int .i64 (cs i)))) (hcl : nc ≤ 17592186043904) :
    Calls Tryz.prog 28 #[pvG P ao qo vo tto uo oo ac qc vc tc uc oc, .agg #[.int .i64 size, .slice co nc cc]] w fun e w' => Below w.heap.size w w' ∧ ((¬ IsOk P ∧ e = .returned (.tuple #[.agg #[pz, pz, pz, pz], .agg #[.int .i64 23, .int .i64 0]])) ∨ (IsOk P ∧ ∃ po eo pc ec, e = .returned (.tuple #[.agg (rgC P.rows P.qs.length ao qo po eo ac qc pc ec), .agg #[.int .i64 (ruZ P size cs nc).1, .int .i64 (ruZ P size cs nc).2]]) ∧ IsRg w' P.rows (qF P.qs) ao qo po eo ∧ (∀ a, po = some a ∨ eo = some a → w.heap.size ≤ a.block) ∧ P.rows.length ≤ pc)) := by
  have H1 : Hid (Uq w ((((w.alloc (.cells #[.string P.name, .slice ao P.rows.length ac, .slice qo P.qs.length qc, .slice vo P.vs.length vc, .slice tto P.ts.length tc, .slice uo P.us.length uc, .slice oo P.on.length oc, .int .i64 P.miss] 30)).alloc (.cells #[.int .i64 size, .slice co nc cc] 25)).alloc (.cells #[pz, pz, pz, pz] 72)).alloc (.cells #[.int .i64 0, .int .i64 0] 33)) #[.string P.name, .slice ao P.rows.length ac, .slice qo P.qs.length qc, .slice vo P.vs.length vc, .slice tto P.ts.length tc, .slice uo P.us.length uc, .slice oo P.on.length oc, .int .i64 P.miss] #[.int .i64 size, .slice co nc cc]) := uq_start w _ _
  have HG := show Hid _ from h
  have HC : Hid (IsVals w co (fL nc (fun i => .int .i64 (cs i)))) := hc
  have HCl : Hid (nc ≤ 17592186043904 ∧ P.qs.length ≤ 5864062014634) := ⟨hcl, hs.q⟩
  have HRe := show Hid _ from read_any (ac := ac) (qc := qc) (vc := vc) (tc := tc) (uc := uc) (oc := oc) (h.below H1.out.be) hs hnil hR
  have HRd := show Hid _ from hR
  obtain ⟨k0, k1, k2, k3, k4, k5, k6, k7⟩ := pol8 H1.out.p
  dsimp only [pvG] at *
  clear h hs hnil hR hc hcl
  go_enter Tryz.func28, Tryz.ntmps28
  go_wp2_with fail
  generalize ((((w.alloc (.cells #[.string P.name, .slice ao P.rows.length ac, .slice qo P.qs.length qc, .slice vo P.vs.length vc, .slice tto P.ts.length tc, .slice uo P.us.length uc, .slice oo P.on.length oc, .int .i64 P.miss] 30)).alloc (.cells #[.int .i64 size, .slice co nc cc] 25)).alloc (.cells #[pz, pz, pz, pz] 72)).alloc (.cells #[.int .i64 0, .int .i64 0] 33)) = w1 at *
  refine Calls.mono HRe.out ?_
  rintro e w2 ⟨hb2, hr⟩
  have H2 := show Hid _ from H1.out.below hb2
  have HSz1 : Hid (w.heap.size + 1 + 1 + 1 < w1.heap.size) := blk_lt H1.out.f
  clear HRe H1 hb2 k0 k1 k2 k3 k4 k5 k6 k7
  rcases hr with ⟨hno, rfl⟩ | ⟨his, po, eo, pc, ec, rfl, hIr, hloc, hcap⟩
  · have HNo : Hid (¬ IsOk P) := hno
    clear hno
    have hbW : Below w2.heap.size w2 ((w2.alloc (.cells #[pz, pz, pz, pz] 72)).alloc (.cells #[.int .i64 23, .int .i64 0] 33)) := ((Below.refl _ w2).alloc (Nat.le_refl _) _).alloc (by simp) _
    have H3 := show Hid _ from H2.out.below hbW
    have HX : Hid (((w2.alloc (.cells #[pz, pz, pz, pz] 72)).alloc (.cells #[.int .i64 23, .int .i64 0] 33)).heap[w2.heap.size]? = some (.cells #[pz, pz, pz, pz] 72 (0, 0)) ∧ ((w2.alloc (.cells #[pz, pz, pz, pz] 72)).alloc (.cells #[.int .i64 23, .int .i64 0] 33)).heap[w2.heap.size + 1]? = some (.cells #[.int .i64 23, .int .i64 0] 33 (0, 0))) := ⟨by rw [alloc_old _ _ _ (by simp)]; exact alloc_at _ _ _ rfl, alloc_at _ _ _ (by simp)⟩
    obtain ⟨t0, t1, t2, t3⟩ := cells4 HX.out.1
    obtain ⟨q0, q1⟩ := cells2 HX.out.2
    clear hbW
    go_wp2_with fail
    generalize ((w2.alloc (.cells #[pz, pz, pz, pz] 72)).alloc (.cells #[.int .i64 23, .int .i64 0] 33)) = w3 at *
    obtain ⟨e0, e1, e2, e3⟩ := cells4 H3.out.r
    obtain ⟨f0, f1⟩ := cells2 H3.out.f
    have hr : ∀ j, w3.frozen? ⟨w.heap.size + 1 + 1, j, none⟩ = false := fun j => by have := H3.out.r; simp only [World.frozen?, this]; rfl
    have hf : ∀ j, w3.frozen? ⟨w.heap.size + 1 + 1 + 1, j, none⟩ = false := fun j => by have := H3.out.f; simp only [World.frozen?, this]; rfl
    have hlt2 := blk_lt H2.out.f
    generalize w2.heap.size = m2 at *
    have n1 : ¬ m2 + 1 = w.heap.size + 1 + 1 := by omega
    have n2 : ¬ m2 + 1 = w.heap.size + 1 + 1 + 1 := by omega
    have n3 : ¬ m2 = w.heap.size + 1 + 1 := by omega
    have n4 : ¬ m2 = w.heap.size + 1 + 1 + 1 := by omega
    have n5 : ¬ m2 = w.heap.size + 1 := by omega
    go_region
    all_goals
      go_wp2_with fail
      obtain ⟨a1, a2, a3⟩ := put4L (B := w.heap.size + 1 + 1) (v0 := pz) (v1 := pz) (v2 := pz) (v3 := pz) H3.out.be (by omega) H3.out.r
      obtain ⟨c1, c2, c3⟩ := put2M (B := w.heap.size + 1 + 1 + 1) (v0 := .int .i64 23) (v1 := .int .i64 0) a2 (by omega) ((a3 _ (by omega)).trans H3.out.f)
      obtain ⟨y0, y1⟩ := cells2 c1
      obtain ⟨u0, u1, u2, u3⟩ := cells4 ((c3 _ (by omega)).trans a1)
      refine bodyPost_ret (v := .tuple #[.agg #[pz, pz, pz, pz], .agg #[.int .i64 23, .int .i64 0]]) (by simp [results, Tryz.results28, go_sem, y0, y1, u0, u1, u2, u3]) rfl ?_
      exact ⟨c2.drew, Or.inl ⟨HNo.out, rfl⟩⟩
  · have HIs : Hid (IsOk P) := his
    have HIr := show Hid _ from hIr
    have HLo : Hid (∀ a, po = some a ∨ eo = some a → w.heap.size + 1 + 1 + 1 < a.block) := fun a ha => by have := hloc a ha; have := HSz1.out; omega
    have HL2 : Hid (∀ a, po = some a ∨ eo = some a → a.block < w2.heap.size) := by
      have hn := (HRd.out his).n
      obtain ⟨g1, o1, e1, l1, _⟩ := hIr.part hn
      obtain ⟨g2, o2, e2, l2, _⟩ := hIr.ends hn
      rintro a (ha | ha)
      · rw [e1] at ha; cases ha; exact l1
      · rw [e2] at ha; cases ha; exact l2
    have HCap : Hid (P.rows.length ≤ pc) := hcap
    clear hcap
    have HRu : Hid (ruZ P size cs nc = if (fltN P.rows (ghL P.qs) P.rows.length).1 = 0 then (fitE (ghL P.qs) P.qs.length size cs nc, 0) else (((fltN P.rows (ghL P.qs) P.rows.length).1 : Int), ((fltN P.rows (ghL P.qs) P.rows.length).2 : Int))) := rfl
    clear his hIr hloc
    generalize (fltN P.rows (ghL P.qs) P.rows.length).1 = fc at *
    generalize (fltN P.rows (ghL P.qs) P.rows.length).2 = fa at *
    have hbW : Below w2.heap.size w2 ((w2.alloc (.cells #[.slice ao P.rows.length ac, .slice qo P.qs.length qc, .slice po P.rows.length pc, .slice eo P.rows.length ec] 72)).alloc (.cells #[.int .i64 (fc : Int), .int .i64 (fa : Int)] 33)) := ((Below.refl _ w2).alloc (Nat.le_refl _) _).alloc (by simp) _
    have H3 := show Hid _ from H2.out.below hbW
    have HI3 := show Hid _ from HIr.out.below hbW
    have HX : Hid (((w2.alloc (.cells #[.slice ao P.rows.length ac, .slice qo P.qs.length qc, .slice po P.rows.length pc, .slice eo P.rows.length ec] 72)).alloc (.cells #[.int .i64 (fc : Int), .int .i64 (fa : Int)] 33)).heap[w2.heap.size]? = some (.cells #[.slice ao P.rows.length ac, .slice qo P.qs.length qc, .slice po P.rows.length pc, .slice eo P.rows.length ec] 72 (0, 0)) ∧ ((w2.alloc (.cells #[.slice ao P.rows.length ac, .slice qo P.qs.length qc, .slice po P.rows.length pc, .slice eo P.rows.length ec] 72)).alloc (.cells #[.int .i64 (fc : Int), .int .i64 (fa : Int)] 33)).heap[w2.heap.size + 1]? = some (.cells #[.int .i64 (fc : Int), .int .i64 (fa : Int)] 33 (0, 0)) ∧ w.heap.size + 1 + 1 + 1 < w2.heap.size) := ⟨by rw [alloc_old _ _ _ (by simp)]; exact alloc_at _ _ _ rfl, alloc_at _ _ _ (by simp), blk_lt H2.out.f⟩
    obtain ⟨t0, t1, t2, t3⟩ := cells4 HX.out.1
    obtain ⟨q0, q1⟩ := cells2 HX.out.2.1
    dsimp only [rgC]
    clear hbW HIr
    by_cases h0 : fc = 0
    · have h0' : ((fc : Int) == 0) = true := by simp [h0]
      have HR1 : Hid (ruZ P size cs nc = (fitE (ghL P.qs) P.qs.length size cs nc, 0)) := by show _ = _; rw [HRu.out, if_pos h0]
      have HFi := show Hid _ from fits_any (qc := qc) (cc := cc) (size := size) (HG.out.below H3.out.be).q (HC.out.below H3.out.be) HCl.out.2 HCl.out.1
      obtain ⟨k0, k1, k2, k3, k4, k5, k6, k7⟩ := pol8 H3.out.p
      obtain ⟨d0, d1⟩ := cells2 H3.out.c
      clear h0
      go_wp2_with fail
      generalize ((w2.alloc (.cells #[.slice ao P.rows.length ac, .slice qo P.qs.length qc, .slice po P.rows.length pc, .slice eo P.rows.length ec] 72)).alloc (.cells #[.int .i64 (fc : Int), .int .i64 (fa : Int)] 33)) = w3 at *
      refine Calls.mono HFi.out ?_
      rintro e w4 ⟨rfl, hb4⟩
      have H4 := show Hid _ from H3.out.below hb4
      have HI4 := show Hid _ from HI3.out.below hb4
      have HX4 : Hid (w4.heap[w2.heap.size]? = some (.cells #[.slice ao P.rows.length ac, .slice qo P.qs.length qc, .slice po P.rows.length pc, .slice eo P.rows.length ec] 72 (0, 0)) ∧ w4.heap[w2.heap.size + 1]? = some (.cells #[.int .i64 (fc : Int), .int .i64 (fa : Int)] 33 (0, 0))) := ⟨(hb4.block _ (blk_lt HX.out.1)).trans HX.out.1, (hb4.block _ (blk_lt HX.out.2.1)).trans HX.out.2.1⟩
      clear hb4 HFi H3 HI3 k0 k1 k2 k3 k4 k5 k6 k7 d0 d1 t0 t1 t2 t3 q0 q1
      generalize fitE (ghL P.qs) P.qs.length size cs nc = fe at *
      have hlt2 := HX.out.2.2
      clear HX
      generalize w2.heap.size = m2 at *
      obtain ⟨q0, q1⟩ := cells2 HX4.out.2
      have hq : ∀ j, w4.frozen? ⟨m2 + 1, j, none⟩ = false := fun j => by have := HX4.out.2; simp only [World.frozen?, this]; rfl
      obtain ⟨b1, b2, b3⟩ := put2M (B := m2 + 1) (v0 := .int .i64 fe) (v1 := .int .i64 0) H4.out.be (by omega) HX4.out.2
      have hlo2 : ∀ a, po = some a ∨ eo = some a → a.block ≠ m2 + 1 := fun a ha => by have := HL2.out a ha; omega
      have H5 : Hid (Uq w ((w4.setCell ⟨m2 + 1, 0, none⟩ (.int .i64 fe)).setCell ⟨m2 + 1, 1, none⟩ (.int .i64 0)) #[.string P.name, .slice ao P.rows.length ac, .slice qo P.qs.length qc, .slice vo P.vs.length vc, .slice tto P.ts.length tc, .slice uo P.us.length uc, .slice oo P.on.length oc, .int .i64 P.miss] #[.int .i64 size, .slice co nc cc]) := ⟨(b3 _ (by omega)).trans H4.out.p, (b3 _ (by omega)).trans H4.out.c, (b3 _ (by omega)).trans H4.out.r, (b3 _ (by omega)).trans H4.out.f, b2⟩
      have HX5 : Hid (((w4.setCell ⟨m2 + 1, 0, none⟩ (.int .i64 fe)).setCell ⟨m2 + 1, 1, none⟩ (.int .i64 0)).heap[m2]? = some (.cells #[.slice ao P.rows.length ac, .slice qo P.qs.length qc, .slice po P.rows.length pc, .slice eo P.rows.length ec] 72 (0, 0)) ∧ ((w4.setCell ⟨m2 + 1, 0, none⟩ (.int .i64 fe)).setCell ⟨m2 + 1, 1, none⟩ (.int .i64 0)).heap[m2 + 1]? = some (.cells #[.int .i64 fe, .int .i64 0] 33 (0, 0))) := ⟨(b3 _ (by omega)).trans HX4.out.1, b1⟩
      have HI5p : Hid (IsVals ((w4.setCell ⟨m2 + 1, 0, none⟩ (.int .i64 fe)).setCell ⟨m2 + 1, 1, none⟩ (.int .i64 0)) po (fL P.rows.length (fun i => (rP P.rows i).V)) ∧ IsVals ((w4.setCell ⟨m2 + 1, 0, none⟩ (.int .i64 fe)).setCell ⟨m2 + 1, 1, none⟩ (.int .i64 0)) eo (fL P.rows.length (eV P.rows))) := ⟨vals_keep HI4.out.p (fun a ha => b3 a.block (hlo2 a (Or.inl ha))) (by simp), vals_keep HI4.out.e (fun a ha => b3 a.block (hlo2 a (Or.inr ha))) (by simp)⟩
      clear b1 b2 b3 HX4 HI4 H4 hlo2
      go_wp2_with fail
      generalize ((w4.setCell ⟨m2 + 1, 0, none⟩ (.int .i64 fe)).setCell ⟨m2 + 1, 1, none⟩ (.int .i64 0)) = w5 at *
      clear q0 q1 hq
      obtain ⟨t0, t1, t2, t3⟩ := cells4 HX5.out.1
      obtain ⟨q0, q1⟩ := cells2 HX5.out.2
      have n1 : ¬ m2 + 1 = w.heap.size + 1 + 1 := by omega
      have n2 : ¬ m2 + 1 = w.heap.size + 1 + 1 + 1 := by omega
      have n3 : ¬ m2 = w.heap.size + 1 + 1 := by omega
      have n4 : ¬ m2 = w.heap.size + 1 + 1 + 1 := by omega
      have n5 : ¬ m2 = w.heap.size + 1 := by omega
      obtain ⟨e0, e1, e2, e3⟩ := cells4 H5.out.r
      obtain ⟨f0, f1⟩ := cells2 H5.out.f
      have hr : ∀ j, w5.frozen? ⟨w.heap.size + 1 + 1, j, none⟩ = false := fun j => by have := H5.out.r; simp only [World.frozen?, this]; rfl
      have hf : ∀ j, w5.frozen? ⟨w.heap.size + 1 + 1 + 1, j, none⟩ = false := fun j => by have := H5.out.f; simp only [World.frozen?, this]; rfl
      go_region
      all_goals
        go_wp2_with fail
        obtain ⟨a1, a2, a3⟩ := put4L (B := w.heap.size + 1 + 1) (v0 := .slice ao P.rows.length ac) (v1 := .slice qo P.qs.length qc) (v2 := .slice po P.rows.length pc) (v3 := .slice eo P.rows.length ec) H5.out.be (by omega) H5.out.r
        obtain ⟨c1, c2, c3⟩ := put2M (B := w.heap.size + 1 + 1 + 1) (v0 := .int .i64 fe) (v1 := .int .i64 0) a2 (by omega) ((a3 _ (by omega)).trans H5.out.f)
        obtain ⟨y0, y1⟩ := cells2 c1
        obtain ⟨u0, u1, u2, u3⟩ := cells4 ((c3 _ (by omega)).trans a1)
        refine bodyPost_ret (v := .tuple #[.agg #[.slice ao P.rows.length ac, .slice qo P.qs.length qc, .slice po P.rows.length pc, .slice eo P.rows.length ec], .agg #[.int .i64 fe, .int .i64 0]]) (by simp [results, Tryz.results28, go_sem, y0, y1, u0, u1, u2, u3]) rfl ?_
        have c4 := fun k (hk : w.heap.size + 1 + 1 + 1 < k) => (c3 k (by omega)).trans (a3 k (by omega))
        have hp := vals_keep HI5p.out.1 (fun a ha => c4 a.block (HLo.out a (Or.inl ha))) (by simp)
        have he := vals_keep HI5p.out.2 (fun a ha => c4 a.block (HLo.out a (Or.inr ha))) (by simp)
        have hlo : ∀ a, po = some a ∨ eo = some a → w.heap.size ≤ a.block := fun a ha => by have := HLo.out a ha; omega
        rw [HR1.out]
        exact ⟨c2.drew, Or.inr ⟨HIs.out, po, eo, pc, ec, rfl, ⟨(HG.out.below c2.drew).r, (HG.out.below c2.drew).q, hp.below (Below.refl _ _).drew, he.below (Below.refl _ _).drew⟩, hlo, HCap.out⟩⟩
    · have h0' : ((fc : Int) == 0) = false := beq_false_of_ne (by omega)
      have HR1 : Hid (ruZ P size cs nc = ((fc : Int), (fa : Int))) := by show _ = _; rw [HRu.out, if_neg h0]
      clear h0
      go_wp2_with fail
      generalize ((w2.alloc (.cells #[.slice ao P.rows.length ac, .slice qo P.qs.length qc, .slice po P.rows.length pc, .slice eo P.rows.length ec] 72)).alloc (.cells #[.int .i64 (fc : Int), .int .i64 (fa : Int)] 33)) = w3 at *
      obtain ⟨e0, e1, e2, e3⟩ := cells4 H3.out.r
      obtain ⟨f0, f1⟩ := cells2 H3.out.f
      have hr : ∀ j, w3.frozen? ⟨w.heap.size + 1 + 1, j, none⟩ = false := fun j => by have := H3.out.r; simp only [World.frozen?, this]; rfl
      have hf : ∀ j, w3.frozen? ⟨w.heap.size + 1 + 1 + 1, j, none⟩ = false := fun j => by have := H3.out.f; simp only [World.frozen?, this]; rfl
      have hlt2 := blk_lt H2.out.f
      generalize w2.heap.size = m2 at *
      have n1 : ¬ m2 + 1 = w.heap.size + 1 + 1 := by omega
      have n2 : ¬ m2 + 1 = w.heap.size + 1 + 1 + 1 := by omega
      have n3 : ¬ m2 = w.heap.size + 1 + 1 := by omega
      have n4 : ¬ m2 = w.heap.size + 1 + 1 + 1 := by omega
      have n5 : ¬ m2 = w.heap.size + 1 := by omega
      go_region
      all_goals
        go_wp2_with fail
        obtain ⟨a1, a2, a3⟩ := put4L (B := w.heap.size + 1 + 1) (v0 := .slice ao P.rows.length ac) (v1 := .slice qo P.qs.length qc) (v2 := .slice po P.rows.length pc) (v3 := .slice eo P.rows.length ec) H3.out.be (by omega) H3.out.r
        obtain ⟨c1, c2, c3⟩ := put2M (B := w.heap.size + 1 + 1 + 1) (v0 := .int .i64 (fc : Int)) (v1 := .int .i64 (fa : Int)) a2 (by omega) ((a3 _ (by omega)).trans H3.out.f)
        obtain ⟨y0, y1⟩ := cells2 c1
        obtain ⟨u0, u1, u2, u3⟩ := cells4 ((c3 _ (by omega)).trans a1)
        refine bodyPost_ret (v := .tuple #[.agg #[.slice ao P.rows.length ac, .slice qo P.qs.length qc, .slice po P.rows.length pc, .slice eo P.rows.length ec], .agg #[.int .i64 (fc : Int), .int .i64 (fa : Int)]]) (by simp [results, Tryz.results28, go_sem, y0, y1, u0, u1, u2, u3]) rfl ?_
        have c4 := fun k (hk : w.heap.size + 1 + 1 + 1 < k) => (c3 k (by omega)).trans (a3 k (by omega))
        have hp := vals_keep HI3.out.p (fun a ha => c4 a.block (HLo.out a (Or.inl ha))) (by simp)
        have he := vals_keep HI3.out.e (fun a ha => c4 a.block (HLo.out a (Or.inr ha))) (by simp)
        have hlo : ∀ a, po = some a ∨ eo = some a → w.heap.size ≤ a.block := fun a ha => by have := HLo.out a ha; omega
        rw [HR1.out]
        exact ⟨c2.drew, Or.inr ⟨HIs.out, po, eo, pc, ec, rfl, ⟨(HG.out.below c2.drew).r, (HG.out.below c2.drew).q, hp.below (Below.refl _ _).drew, he.below (Below.refl _ _).drew⟩, hlo, HCap.out⟩⟩
end Go.Proofs.YtnpdblcfhbamiaaGreat.Nm.Ty
