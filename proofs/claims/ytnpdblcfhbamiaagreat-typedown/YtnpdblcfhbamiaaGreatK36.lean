import Derived.Test.YtnpdblcfhbamiaaGreatK33
import Derived.Test.YtnpdblcfhbamiaaGreatK35
set_option maxHeartbeats 25600000
set_option maxRecDepth 100000
namespace Go.Proofs.YtnpdblcfhbamiaaGreat.Nm.Ty
open Go.RowKit Go.Maps Go.Proofs.YtnpdblcfhbamiaaGreat.Sp Go.Proofs.YtnpdblcfhbamiaaGreat.Lx Go.Proofs.YtnpdblcfhbamiaaGreat.Gr
/-- what Check and Const want besides -/
structure Rdc (P : Pg) : Prop where
  z : Stz P.rows
  c : ∀ i, i < P.rows.length → (rat P.rows i).kind = 32 → ∃ n : Nat, (rat P.rows i).n = (n : Int) ∧ n < P.qs.length
  n : ∀ i, i < P.rows.length → in64 (rat P.rows i).n
theorem fitE_len {gh : Nat → Bool} {nq : Nat} {size : Int} {cs : Nat → Int} {nc : Nat} (h : fitE gh nq size cs nc = 0) : nc = nq := by
  unfold fitE at h
  split at h
  · rename_i h1
    exact h1.2.2.1
  · omega
theorem ruZ_len {P : Pg} {size : Int} {cs : Nat → Int} {nc : Nat} (h : (ruZ P size cs nc).1 = 0) : nc = P.qs.length := by
  unfold ruZ at h
  split at h
  · exact fitE_len h
  · rename_i h1
    exact absurd (by simpa using h) h1
/-- Check at work: its boxes -/
structure Cq (w wx : World) (pc cc : Array Value) : Prop where
  p : wx.heap[w.heap.size]? = some (.cells pc 30 (0, 0))
  c : wx.heap[w.heap.size + 1]? = some (.cells cc 25 (0, 0))
  t : wx.heap[w.heap.size + 1 + 1]? = some (.cells #[pz, pz, pz] 40 (0, 0))
  f : wx.heap[w.heap.size + 1 + 1 + 1]? = some (.cells #[.int .i64 0, .int .i64 0] 33 (0, 0))
  be : Below w.heap.size w wx
theorem Cq.below {w wx w' : World} {pc cc : Array Value} (h : Cq w wx pc cc) (hb : Below wx.heap.size wx w') : Cq w w' pc cc := ⟨(hb.block _ (blk_lt h.p)).trans h.p, (hb.block _ (blk_lt h.c)).trans h.c, (hb.block _ (blk_lt h.t)).trans h.t, (hb.block _ (blk_lt h.f)).trans h.f, h.be.trans (hb.mono h.be.size)⟩
theorem cq_start (w : World) (pc cc : Array Value) : Cq w ((((w.alloc (.cells pc 30)).alloc (.cells cc 25)).alloc (.cells #[pz, pz, pz] 40)).alloc (.cells #[.int .i64 0, .int .i64 0] 33)) pc cc := by
  refine ⟨?_, ?_, ?_, ?_, ((((Below.refl _ w).alloc (Nat.le_refl _) _).alloc (by simp) _).alloc (by simp; omega) _).alloc (by simp; omega) _⟩
  · rw [alloc_old _ _ _ (by simp; omega), alloc_old _ _ _ (by simp; omega), alloc_old _ _ _ (by simp)]
    exact alloc_at _ _ _ rfl
  · rw [alloc_old _ _ _ (by first | (simp; done) | (simp; omega)), alloc_old _ _ _ (by simp)]
    exact alloc_at _ _ _ (by simp)
  · rw [alloc_old _ _ _ (by simp)]
    exact alloc_at _ _ _ (by simp)
  · exact alloc_at _ _ _ (by simp)
/-- what Check tells -/
def ChkQ (P : Pg) (size : Int) (cs : Nat → Int) (nc : Nat) (w : World) (e : Ending) (w' : World) : Prop := (¬ IsOk P ∧ e = .returned (.tuple #[.agg #[pz, pz, pz], .agg #[.int .i64 23, .int .i64 0]])) ∨
  (IsOk P ∧ (ruZ P size cs nc).1 ≠ 0 ∧ e = .returned (.tuple #[.agg #[pz, pz, pz], .agg #[.int .i64 (ruZ P size cs nc).1, .int .i64 (ruZ P size cs nc).2]])) ∨
  (IsOk P ∧ (ruZ P size cs nc).1 = 0 ∧ StlQ P.rows (vB P.rows size cs P.rows.length) w e w')
theorem tcheck_any {P : Pg} {ao qo vo tto uo oo co : Option Addr} {ac qc vc tc uc oc nc cc : Nat} {size : Int} {cs : Nat → Int} {w : World} (h : RdG w P ao qo vo tto uo oo) (hs : P.Sm) (hnil : ao = none → ac = 0) (hR : IsOk P → Rdy P) (hD : IsOk P → Rdc P) (hc : IsVals w co (fL nc (fun i => .int .i64 (cs i)))) (hcl : nc ≤ 17592186043904) (hsz : in64 size) (hcs : ∀ i, in64 (cs i)) :
    Calls Tryz.prog 7 #[pvG P ao qo vo tto uo oo ac qc vc tc uc oc, .agg #[.int .i64 size, .slice co nc cc]] w fun e w' => Below w.heap.size w w' ∧ ChkQ P size cs nc w e w' := by
  have H1 : Hid (Cq w ((((w.alloc (.cells #[.string P.name, .slice ao P.rows.length ac, .slice qo P.qs.length qc, .slice vo P.vs.length vc, .slice tto P.ts.length tc, .slice uo P.us.length uc, .slice oo P.on.length oc, .int .i64 P.miss] 30)).alloc (.cells #[.int .i64 size, .slice co nc cc] 25)).alloc (.cells #[pz, pz, pz] 40)).alloc (.cells #[.int .i64 0, .int .i64 0] 33)) #[.string P.name, .slice ao P.rows.length ac, .slice qo P.qs.length qc, .slice vo P.vs.length vc, .slice tto P.ts.length tc, .slice uo P.us.length uc, .slice oo P.on.length oc, .int .i64 P.miss] #[.int .i64 size, .slice co nc cc]) := cq_start w _ _
  have HC : Hid (IsVals w co (fL nc (fun i => .int .i64 (cs i)))) := hc
  have HSz : Hid (in64 size ∧ (∀ i, in64 (cs i)) ∧ nc ≤ 17592186043904) := ⟨hsz, hcs, hcl⟩
  have HU := show Hid _ from under_any (ac := ac) (qc := qc) (vc := vc) (tc := tc) (uc := uc) (oc := oc) (cc := cc) (size := size) (h.below H1.out.be) hs hnil hR (hc.below H1.out.be) hcl
  have HRd := show Hid _ from hR
  have HDd := show Hid _ from hD
  have HZl : Hid ((ruZ P size cs nc).1 = 0 → nc = P.qs.length) := ruZ_len
  obtain ⟨k0, k1, k2, k3, k4, k5, k6, k7⟩ := pol8 H1.out.p
  obtain ⟨d0, d1⟩ := cells2 H1.out.c
  dsimp only [pvG] at *
  clear h hs hnil hR hc hcl hsz hcs hD
  go_enter Tryz.func7, Tryz.ntmps7
  go_wp2_with fail
  generalize ((((w.alloc (.cells #[.string P.name, .slice ao P.rows.length ac, .slice qo P.qs.length qc, .slice vo P.vs.length vc, .slice tto P.ts.length tc, .slice uo P.us.length uc, .slice oo P.on.length oc, .int .i64 P.miss] 30)).alloc (.cells #[.int .i64 size, .slice co nc cc] 25)).alloc (.cells #[pz, pz, pz] 40)).alloc (.cells #[.int .i64 0, .int .i64 0] 33)) = w1 at *
  refine Calls.mono HU.out ?_
  rintro e w2 ⟨hb2, hr⟩
  have H2 := show Hid _ from H1.out.below hb2
  clear HU H1 hb2 k0 k1 k2 k3 k4 k5 k6 k7 d0 d1
  rcases hr with ⟨hno, rfl⟩ | ⟨his, po, eo, pc, ec, rfl, hIr, hloc, hcap⟩
  · have HNo : Hid (¬ IsOk P) := hno
    clear hno
    have hbW : Below w2.heap.size w2 ((w2.alloc (.cells #[pz, pz, pz, pz] 72)).alloc (.cells #[.int .i64 23, .int .i64 0] 33)) := ((Below.refl _ w2).alloc (Nat.le_refl _) _).alloc (by simp) _
    have H3 := show Hid _ from H2.out.below hbW
    have HX : Hid (((w2.alloc (.cells #[pz, pz, pz, pz] 72)).alloc (.cells #[.int .i64 23, .int .i64 0] 33)).heap[w2.heap.size + 1]? = some (.cells #[.int .i64 23, .int .i64 0] 33 (0, 0)) ∧ w.heap.size + 1 + 1 + 1 < w2.heap.size) := ⟨alloc_at _ _ _ (by simp), blk_lt H2.out.f⟩
    obtain ⟨q0, q1⟩ := cells2 HX.out.1
    clear hbW
    go_wp2_with fail
    generalize ((w2.alloc (.cells #[pz, pz, pz, pz] 72)).alloc (.cells #[.int .i64 23, .int .i64 0] 33)) = w3 at *
    obtain ⟨e0, e1, e2⟩ := cells3 H3.out.t
    obtain ⟨f0, f1⟩ := cells2 H3.out.f
    have hr : ∀ j, w3.frozen? ⟨w.heap.size + 1 + 1, j, none⟩ = false := fun j => by have := H3.out.t; simp only [World.frozen?, this]; rfl
    have hf : ∀ j, w3.frozen? ⟨w.heap.size + 1 + 1 + 1, j, none⟩ = false := fun j => by have := H3.out.f; simp only [World.frozen?, this]; rfl
    have hlt2 := HX.out.2
    generalize w2.heap.size = m2 at *
    have n1 : ¬ m2 + 1 = w.heap.size + 1 + 1 := by omega
    have n2 : ¬ m2 + 1 = w.heap.size + 1 + 1 + 1 := by omega
    go_region
    all_goals
      go_wp2_with fail
      obtain ⟨a1, a2, a3⟩ := put3M (B := w.heap.size + 1 + 1) (v0 := pz) (v1 := pz) (v2 := pz) H3.out.be (by omega) H3.out.t
      obtain ⟨c1, c2, c3⟩ := put2M (B := w.heap.size + 1 + 1 + 1) (v0 := .int .i64 23) (v1 := .int .i64 0) a2 (by omega) ((a3 _ (by omega)).trans H3.out.f)
      obtain ⟨y0, y1⟩ := cells2 c1
      obtain ⟨u0, u1, u2⟩ := cells3 ((c3 _ (by omega)).trans a1)
      refine bodyPost_ret (v := .tuple #[.agg #[pz, pz, pz], .agg #[.int .i64 23, .int .i64 0]]) (by simp [results, Tryz.results7, go_sem, y0, y1, u0, u1, u2]) rfl ?_
      exact ⟨c2.drew, Or.inl ⟨HNo.out, rfl⟩⟩
  · have HIs : Hid (IsOk P) := his
    have HIr := show Hid _ from hIr
    have HRu : Hid (∀ a b, (ruZ P size cs nc).1 = a → (ruZ P size cs nc).2 = b → ruZ P size cs nc = (a, b)) := fun a b e1 e2 => by rw [← e1, ← e2]
    clear his hIr hloc hcap
    have HQ1 : Hid (∀ e W, (ruZ P size cs nc).1 ≠ 0 → e = .returned (.tuple #[.agg #[pz, pz, pz], .agg #[.int .i64 (ruZ P size cs nc).1, .int .i64 (ruZ P size cs nc).2]]) → ChkQ P size cs nc w e W) := fun e W h1 h2 => Or.inr (Or.inl ⟨HIs.out, h1, h2⟩)
    have HQ2 : Hid (∀ e W, (ruZ P size cs nc).1 = 0 → StlQ P.rows (vB P.rows size cs P.rows.length) w e W → ChkQ P size cs nc w e W) := fun e W h1 h2 => Or.inr (Or.inr ⟨HIs.out, h1, h2⟩)
    generalize ruZ P size cs nc = rz at *
    dsimp only [rgC] at *
    by_cases h0 : rz.1 = 0
    · have h0' : (rz.1 != 0) = false := by simp [h0]
      have hbW : Below w2.heap.size w2 ((w2.alloc (.cells #[.slice ao P.rows.length ac, .slice qo P.qs.length qc, .slice po P.rows.length pc, .slice eo P.rows.length ec] 72)).alloc (.cells #[.int .i64 rz.1, .int .i64 rz.2] 33)) := ((Below.refl _ w2).alloc (Nat.le_refl _) _).alloc (by simp) _
      have H3 := show Hid _ from H2.out.below hbW
      have HI3 := show Hid _ from HIr.out.below hbW
      have HX : Hid (((w2.alloc (.cells #[.slice ao P.rows.length ac, .slice qo P.qs.length qc, .slice po P.rows.length pc, .slice eo P.rows.length ec] 72)).alloc (.cells #[.int .i64 rz.1, .int .i64 rz.2] 33)).heap[w2.heap.size]? = some (.cells #[.slice ao P.rows.length ac, .slice qo P.qs.length qc, .slice po P.rows.length pc, .slice eo P.rows.length ec] 72 (0, 0)) ∧ ((w2.alloc (.cells #[.slice ao P.rows.length ac, .slice qo P.qs.length qc, .slice po P.rows.length pc, .slice eo P.rows.length ec] 72)).alloc (.cells #[.int .i64 rz.1, .int .i64 rz.2] 33)).heap[w2.heap.size + 1]? = some (.cells #[.int .i64 rz.1, .int .i64 rz.2] 33 (0, 0)) ∧ w.heap.size + 1 + 1 + 1 < w2.heap.size) := ⟨by rw [alloc_old _ _ _ (by simp)]; exact alloc_at _ _ _ rfl, alloc_at _ _ _ (by simp), blk_lt H2.out.f⟩
      obtain ⟨t0, t1, t2, t3⟩ := cells4 HX.out.1
      obtain ⟨q0, q1⟩ := cells2 HX.out.2.1
      obtain ⟨d0, d1⟩ := cells2 H3.out.c
      have HCd : Hid (Calls Tryz.prog 29 #[.agg #[.slice ao P.rows.length ac, .slice qo P.qs.length qc, .slice po P.rows.length pc, .slice eo P.rows.length ec], .agg #[.int .i64 size, .slice co nc cc]] ((w2.alloc (.cells #[.slice ao P.rows.length ac, .slice qo P.qs.length qc, .slice po P.rows.length pc, .slice eo P.rows.length ec] 72)).alloc (.cells #[.int .i64 rz.1, .int .i64 rz.2] 33)) fun e w' => Below ((w2.alloc (.cells #[.slice ao P.rows.length ac, .slice qo P.qs.length qc, .slice po P.rows.length pc, .slice eo P.rows.length ec] 72)).alloc (.cells #[.int .i64 rz.1, .int .i64 rz.2] 33)).heap.size ((w2.alloc (.cells #[.slice ao P.rows.length ac, .slice qo P.qs.length qc, .slice po P.rows.length pc, .slice eo P.rows.length ec] 72)).alloc (.cells #[.int .i64 rz.1, .int .i64 rz.2] 33)) w' ∧ StlQ P.rows (vB P.rows size cs P.rows.length) ((w2.alloc (.cells #[.slice ao P.rows.length ac, .slice qo P.qs.length qc, .slice po P.rows.length pc, .slice eo P.rows.length ec] 72)).alloc (.cells #[.int .i64 rz.1, .int .i64 rz.2] 33)) e w') := by
        have hd := HDd.out HIs.out
        have hr := HRd.out HIs.out
        exact settled_any HI3.out hr.m hr.t hr.n (HC.out.below H3.out.be) HSz.out.2.2 (fun i hi hk => by rw [HZl.out h0]; exact hd.c i hi hk) hd.n HSz.out.1 HSz.out.2.1 hd.z
      have HQ3 : Hid (∀ e W, StlQ P.rows (vB P.rows size cs P.rows.length) w e W → ChkQ P size cs nc w e W) := fun e W => HQ2.out e W h0
      clear hbW h0 HQ1 HQ2
      generalize vB P.rows size cs P.rows.length = V at *
      go_wp2_with fail
      generalize ((w2.alloc (.cells #[.slice ao P.rows.length ac, .slice qo P.qs.length qc, .slice po P.rows.length pc, .slice eo P.rows.length ec] 72)).alloc (.cells #[.int .i64 rz.1, .int .i64 rz.2] 33)) = w3 at *
      refine Calls.mono HCd.out ?_
      rintro e w4 ⟨hb4, hq⟩
      have H4 := show Hid _ from H3.out.below hb4
      have HL3 : Hid (w.heap.size + 1 + 1 + 1 < w3.heap.size) := blk_lt H3.out.f
      clear hb4 HCd t0 t1 t2 t3 q0 q1 d0 d1 HX HI3 H3
      obtain ⟨e0, e1, e2⟩ := cells3 H4.out.t
      obtain ⟨f0, f1⟩ := cells2 H4.out.f
      have hr : ∀ j, w4.frozen? ⟨w.heap.size + 1 + 1, j, none⟩ = false := fun j => by have := H4.out.t; simp only [World.frozen?, this]; rfl
      have hf : ∀ j, w4.frozen? ⟨w.heap.size + 1 + 1 + 1, j, none⟩ = false := fun j => by have := H4.out.f; simp only [World.frozen?, this]; rfl
      rcases hq with ⟨hn1, rfl⟩ | ⟨hn0, vv, tv, rb, rfl, hrb, hrow, hov, hot⟩
      · have HN : Hid ((setN P.rows V P.rows.length).1 ≠ 0) := hn1
        have HQ4 := show Hid _ from fun W => HQ3.out _ W (Or.inl ⟨HN.out, rfl⟩)
        clear hn1 HQ3
        generalize (setN P.rows V P.rows.length).1 = x1 at *
        generalize (setN P.rows V P.rows.length).2 = x2 at *
        go_wp2_with fail
        obtain ⟨a1, a2, a3⟩ := put3M (B := w.heap.size + 1 + 1) (v0 := pz) (v1 := pz) (v2 := pz) H4.out.be (by omega) H4.out.t
        obtain ⟨c1, c2, c3⟩ := put2M (B := w.heap.size + 1 + 1 + 1) (v0 := .int .i64 (x1 : Int)) (v1 := .int .i64 (x2 : Int)) a2 (by omega) ((a3 _ (by omega)).trans H4.out.f)
        obtain ⟨y0, y1⟩ := cells2 c1
        obtain ⟨u0, u1, u2⟩ := cells3 ((c3 _ (by omega)).trans a1)
        refine bodyPost_ret (v := .tuple #[.agg #[pz, pz, pz], .agg #[.int .i64 (x1 : Int), .int .i64 (x2 : Int)]]) (by simp [results, Tryz.results7, go_sem, y0, y1, u0, u1, u2]) rfl ?_
        exact ⟨c2, HQ4.out _⟩
      · have HN : Hid ((setN P.rows V P.rows.length).1 = 0) := hn0
        obtain ⟨vo1, vc1, rfl⟩ := own_form hov
        obtain ⟨to1, tc1, rfl⟩ := own_form hot
        have HP : Hid (w3.heap.size ≤ rb ∧ RowI w4 rb P.rows.length (setR P.rows V P.rows.length) ∧ w4.ownsRow (rb + 1) 47 3 (.slice vo1 (setV P.rows V P.rows.length).length vc1) (setV P.rows V P.rows.length).length (vC (setV P.rows V P.rows.length)) ∧ w4.ownsRow (rb + 1) 3 1 (.slice to1 (setT P.rows V P.rows.length).length tc1) (setT P.rows V P.rows.length).length (tC (setT P.rows V P.rows.length))) := ⟨hrb, hrow, hov, hot⟩
        clear hn0 hrb hrow hov hot
        go_wp2_with fail
        obtain ⟨a1, a2, a3⟩ := put3M (B := w.heap.size + 1 + 1) (v0 := .slice vo1 (setV P.rows V P.rows.length).length vc1) (v1 := .slice to1 (setT P.rows V P.rows.length).length tc1) (v2 := .slice (some ⟨rb, 0, none⟩) P.rows.length P.rows.length) H4.out.be (by omega) H4.out.t
        obtain ⟨c1, c2, c3⟩ := put2M (B := w.heap.size + 1 + 1 + 1) (v0 := .int .i64 0) (v1 := .int .i64 0) a2 (by omega) ((a3 _ (by omega)).trans H4.out.f)
        obtain ⟨y0, y1⟩ := cells2 c1
        obtain ⟨u0, u1, u2⟩ := cells3 ((c3 _ (by omega)).trans a1)
        refine bodyPost_ret (v := .tuple #[.agg #[.slice vo1 (setV P.rows V P.rows.length).length vc1, .slice to1 (setT P.rows V P.rows.length).length tc1, .slice (some ⟨rb, 0, none⟩) P.rows.length P.rows.length], .agg #[.int .i64 0, .int .i64 0]]) (by simp [results, Tryz.results7, go_sem, y0, y1, u0, u1, u2]) rfl ?_
        have hz3 := HL3.out
        have hkp : ∀ k, w3.heap.size ≤ k → _ := fun k (hk : w3.heap.size ≤ k) => (c3 k (by omega)).trans (a3 k (by omega))
        obtain ⟨p1, p2, p3, p4⟩ := HP.out
        exact ⟨c2, HQ3.out _ _ (Or.inr ⟨HN.out, _, _, _, rfl, by omega, p2.of_block (hkp _ p1), own_keepY p3 (fun k hk => hkp k (by omega)) (Nat.le_refl _), own_keepY p4 (fun k hk => hkp k (by omega)) (Nat.le_refl _)⟩)⟩
    · have h0' : (rz.1 != 0) = true := by simp [h0]
      have HE := show Hid _ from fun W => HQ1.out _ W h0 rfl
      clear h0 HQ1 HQ2 HIr
      have hbW : Below w2.heap.size w2 ((w2.alloc (.cells #[.slice ao P.rows.length ac, .slice qo P.qs.length qc, .slice po P.rows.length pc, .slice eo P.rows.length ec] 72)).alloc (.cells #[.int .i64 rz.1, .int .i64 rz.2] 33)) := ((Below.refl _ w2).alloc (Nat.le_refl _) _).alloc (by simp) _
      have H3 := show Hid _ from H2.out.below hbW
      have HX : Hid (((w2.alloc (.cells #[.slice ao P.rows.length ac, .slice qo P.qs.length qc, .slice po P.rows.length pc, .slice eo P.rows.length ec] 72)).alloc (.cells #[.int .i64 rz.1, .int .i64 rz.2] 33)).heap[w2.heap.size + 1]? = some (.cells #[.int .i64 rz.1, .int .i64 rz.2] 33 (0, 0)) ∧ w.heap.size + 1 + 1 + 1 < w2.heap.size) := ⟨alloc_at _ _ _ (by simp), blk_lt H2.out.f⟩
      obtain ⟨q0, q1⟩ := cells2 HX.out.1
      clear hbW
      go_wp2_with fail
      generalize ((w2.alloc (.cells #[.slice ao P.rows.length ac, .slice qo P.qs.length qc, .slice po P.rows.length pc, .slice eo P.rows.length ec] 72)).alloc (.cells #[.int .i64 rz.1, .int .i64 rz.2] 33)) = w3 at *
      obtain ⟨e0, e1, e2⟩ := cells3 H3.out.t
      obtain ⟨f0, f1⟩ := cells2 H3.out.f
      have hr : ∀ j, w3.frozen? ⟨w.heap.size + 1 + 1, j, none⟩ = false := fun j => by have := H3.out.t; simp only [World.frozen?, this]; rfl
      have hf : ∀ j, w3.frozen? ⟨w.heap.size + 1 + 1 + 1, j, none⟩ = false := fun j => by have := H3.out.f; simp only [World.frozen?, this]; rfl
      have hlt2 := HX.out.2
      generalize w2.heap.size = m2 at *
      have n1 : ¬ m2 + 1 = w.heap.size + 1 + 1 := by omega
      have n2 : ¬ m2 + 1 = w.heap.size + 1 + 1 + 1 := by omega
      go_region
      all_goals
        go_wp2_with fail
        obtain ⟨a1, a2, a3⟩ := put3M (B := w.heap.size + 1 + 1) (v0 := pz) (v1 := pz) (v2 := pz) H3.out.be (by omega) H3.out.t
        obtain ⟨c1, c2, c3⟩ := put2M (B := w.heap.size + 1 + 1 + 1) (v0 := .int .i64 rz.1) (v1 := .int .i64 rz.2) a2 (by omega) ((a3 _ (by omega)).trans H3.out.f)
        obtain ⟨y0, y1⟩ := cells2 c1
        obtain ⟨u0, u1, u2⟩ := cells3 ((c3 _ (by omega)).trans a1)
        refine bodyPost_ret (v := .tuple #[.agg #[pz, pz, pz], .agg #[.int .i64 rz.1, .int .i64 rz.2]]) (by simp [results, Tryz.results7, go_sem, y0, y1, u0, u1, u2]) rfl ?_
        exact ⟨c2.drew, HE.out _⟩
end Go.Proofs.YtnpdblcfhbamiaaGreat.Nm.Ty
namespace Go.Proofs.YtnpdblcfhbamiaaGreat.Nm
open Go.RowKit Go.Maps Go.Proofs.YtnpdblcfhbamiaaGreat.Sp Go.Proofs.YtnpdblcfhbamiaaGreat.Lx Go.Proofs.YtnpdblcfhbamiaaGreat.Gr
theorem rat_numbN {l : List Rz} {i j n : Nat} (h : j ≠ i) : rat (numb l i n) j = rat l j := by
  simp only [rat, numb, List.getD_eq_getElem?_getD, List.getElem?_set, if_neg (Ne.symm h)]
/-- the name of a thing, by its kind and number -/
def nameOf (l0 : List Rz) (qs : List (ByteArray × Bool)) (vs ts : List ByteArray) (us : List Nat) (k n : Nat) : Option ByteArray :=
  if k = 1 then (qs[n]?).map (·.1) else if k = 2 then vs[n]? else if k = 3 then ts[n]? else if k = 4 then (us[n]?).map (fun u => (rat l0 (u - 1)).name) else none
abbrev Rs.nm (s : Rs) (l0 : List Rz) (k n : Nat) : Option ByteArray := nameOf l0 s.qs s.vs s.ts s.us k n
theorem get_more {α : Type} {l m : List α} {n : Nat} {x : α} (h : l[n]? = some x) : (l ++ m)[n]? = some x := by
  rw [List.getElem?_append_left (List.getElem?_eq_some_iff.1 h).1]
  exact h
theorem dec_mono {l0 : List Rz} {s : Rs} {i k n : Nat} {x : ByteArray} (h : s.nm l0 k n = some x) : (s.dec i).nm l0 k n = some x := by
  unfold Rs.nm nameOf at *
  by_cases h1 : k = 1
  · rw [if_pos h1] at h ⊢
    cases hq : s.qs[n]? with
    | none => rw [hq] at h; cases h
    | some q =>
      rw [hq] at h
      have : (s.dec i).qs[n]? = some q := by
        show (if (rat s.rows i).kind = 2 then s.qs ++ [((rat s.rows i).name, false)] else if (rat s.rows i).kind = 3 then s.qs ++ [((rat s.rows i).name, true)] else s.qs)[n]? = some q
        split
        · exact get_more hq
        · split
          · exact get_more hq
          · exact hq
      rw [this]
      exact h
  · rw [if_neg h1] at h ⊢
    by_cases h2 : k = 2
    · rw [if_pos h2] at h ⊢
      show (if (rat s.rows i).kind = 4 then s.vs ++ [(rat s.rows i).name] else s.vs)[n]? = some x
      split
      · exact get_more h
      · exact h
    · rw [if_neg h2] at h ⊢
      by_cases h3 : k = 3
      · rw [if_pos h3] at h ⊢
        show (if (rat s.rows i).kind = 5 then s.ts ++ [(rat s.rows i).name] else s.ts)[n]? = some x
        split
        · exact get_more h
        · exact h
      · rw [if_neg h3] at h ⊢
        by_cases h4 : k = 4
        · rw [if_pos h4] at h ⊢
          cases hu : s.us[n]? with
          | none => rw [hu] at h; cases h
          | some u =>
            rw [hu] at h
            have : (s.dec i).us[n]? = some u := by
              show (if (rat s.rows i).kind = 7 then s.us ++ [i + 1] else s.us)[n]? = some u
              split
              · exact get_more hu
              · exact hu
            rw [this]
            exact h
        · rw [if_neg h4] at h
          cases h
theorem dec_new {l0 : List Rz} {s : Rs} {i : Nat} (hn : (rat s.rows i).name = (rat l0 i).name) (hd : decl (rat s.rows i).kind ≠ 0) : (s.dec i).nm l0 (decl (rat s.rows i).kind) (s.cnt (decl (rat s.rows i).kind)) = some (rat s.rows i).name := by
  unfold Rs.nm nameOf
  have hq : (s.dec i).qs = if (rat s.rows i).kind = 2 then s.qs ++ [((rat s.rows i).name, false)] else if (rat s.rows i).kind = 3 then s.qs ++ [((rat s.rows i).name, true)] else s.qs := rfl
  have hv : (s.dec i).vs = if (rat s.rows i).kind = 4 then s.vs ++ [(rat s.rows i).name] else s.vs := rfl
  have ht : (s.dec i).ts = if (rat s.rows i).kind = 5 then s.ts ++ [(rat s.rows i).name] else s.ts := rfl
  have hu : (s.dec i).us = if (rat s.rows i).kind = 7 then s.us ++ [i + 1] else s.us := rfl
  rcases decl_cases (rat s.rows i).kind with ⟨e, ed⟩ | ⟨e, ed⟩ | ⟨e, ed⟩ | ⟨e, ed⟩ | ⟨e, ed⟩ | ⟨_, _, _, _, _, ed⟩
  · rw [ed, hq, e]
    simp [Rs.cnt]
  · rw [ed, hq, e]
    simp [Rs.cnt]
  · rw [ed, hv, e]
    simp [Rs.cnt]
  · rw [ed, ht, e]
    simp [Rs.cnt]
  · rw [ed, hu, e]
    simp [Rs.cnt]
    simpa [rat, List.getD_eq_getElem?_getD] using hn.symm
  · exact absurd ed hd
/-- what the numbers in the rows mean, of the first i -/
structure Mean (l0 : List Rz) (i : Nat) (s : Rs) : Prop where
  kn : ∀ e ∈ s.known, s.nm l0 e.2.1 e.2.2.1 = some e.1
  rw : ∀ j, j < i → j < l0.length → decl (rat l0 j).kind ≠ 0 ∨ nmd (rat l0 j).kind ≠ 0 → ∃ n : Nat, (rat s.rows j).n = (n : Int) ∧ s.nm l0 (decl (rat l0 j).kind + nmd (rat l0 j).kind) n = some (rat l0 j).name
  ot : ∀ j, j < l0.length → i ≤ j ∨ (decl (rat l0 j).kind = 0 ∧ nmd (rat l0 j).kind = 0) → (rat s.rows j).n = (rat l0 j).n
  up : ∀ u ∈ s.us, 1 ≤ u
theorem mean_start (l : List Rz) : Mean l 0 (start l) := ⟨fun e he => by simp [start] at he, fun j hj => by omega, fun j _ _ => rfl, fun u hu => by simp [start] at hu⟩
theorem mean_skip {l0 : List Rz} {i : Nat} {s : Rs} (h : Mean l0 i s) (hd : decl (rat l0 i).kind = 0) (hn : nmd (rat l0 i).kind = 0) : Mean l0 (i + 1) s :=
  ⟨h.kn, fun j hj hl hk => by
    by_cases e : j = i
    · subst e
      rcases hk with hk | hk
      · exact absurd hd hk
      · exact absurd hn hk
    · exact h.rw j (by omega) hl hk, fun j hl ho => by
    by_cases e : j = i
    · subst e
      exact h.ot j hl (Or.inl (Nat.le_refl _))
    · refine h.ot j hl ?_
      rcases ho with ho | ho
      · exact Or.inl (by omega)
      · exact Or.inr ho, h.up⟩
theorem mean_dec {l0 : List Rz} {i m : Nat} {s : Rs} (h : Mean l0 i s) (hg : Good l0 m s) (hi : i < l0.length) (hd : decl (rat s.rows i).kind ≠ 0) : Mean l0 (i + 1) (s.dec i) := by
  have hk := like_kind hg.like hi
  have hil : i < s.rows.length := by rw [like_len hg.like]; exact hi
  have hnew := dec_new (l0 := l0) hk.2.1 hd
  have hrows : (s.dec i).rows = numb s.rows i (s.cnt (decl (rat s.rows i).kind)) := rfl
  have hn0 : nmd (rat l0 i).kind = 0 := by
    rcases decl_cases (rat s.rows i).kind with ⟨e, _⟩ | ⟨e, _⟩ | ⟨e, _⟩ | ⟨e, _⟩ | ⟨e, _⟩ | ⟨_, _, _, _, _, e⟩
    all_goals first | exact absurd e hd | (rw [← hk.1, e]; rfl)
  refine ⟨fun e he => ?_, fun j hj hl hkd => ?_, fun j hl ho => ?_, fun u hu => ?_⟩
  · have he2 : e = ((rat s.rows i).name, decl (rat s.rows i).kind, s.cnt (decl (rat s.rows i).kind), endp (numb s.rows i (s.cnt (decl (rat s.rows i).kind))) i) ∨ e ∈ s.known := List.mem_cons.1 he
    rcases he2 with rfl | he2
    · exact hnew
    · exact dec_mono (h.kn e he2)
  · by_cases e : j = i
    · subst e
      refine ⟨s.cnt (decl (rat s.rows j).kind), ?_, ?_⟩
      · rw [hrows, rat_numb hil]
      · rw [hn0, Nat.add_zero, ← hk.1, ← hk.2.1]
        exact hnew
    · obtain ⟨n, h1, h2⟩ := h.rw j (by omega) hl hkd
      exact ⟨n, by rw [hrows, rat_numbN e]; exact h1, dec_mono h2⟩
  · have e : j ≠ i := fun e => by
      subst e
      rcases ho with ho | ho
      · omega
      · rw [hk.1] at hd
        exact hd ho.1
    rw [hrows, rat_numbN e]
    refine h.ot j hl ?_
    rcases ho with ho | ho
    · exact Or.inl (by omega)
    · exact Or.inr ho
  · have hu2 : u ∈ (if (rat s.rows i).kind = 7 then s.us ++ [i + 1] else s.us) := hu
    split at hu2
    · rcases List.mem_append.1 hu2 with hu3 | hu3
      · exact h.up u hu3
      · rw [List.mem_singleton.1 hu3]; omega
    · exact h.up u hu2
theorem mean_ref {l0 : List Rz} {i m k n p : Nat} {s : Rs} (h : Mean l0 i s) (hg : Good l0 m s) (hi : i < l0.length) (hd : decl (rat l0 i).kind = 0) (hlk : lk s.known (rat s.rows i).name = some (k, n, p)) (hk : k = nmd (rat s.rows i).kind) : Mean l0 (i + 1) { s with rows := numb s.rows i n } := by
  have hkd := like_kind hg.like hi
  have hil : i < s.rows.length := by rw [like_len hg.like]; exact hi
  have hm := h.kn _ (lk_mem hlk)
  refine ⟨h.kn, fun j hj hl hx => ?_, fun j hl ho => ?_, h.up⟩
  · by_cases e : j = i
    · subst e
      refine ⟨n, ?_, ?_⟩
      · show (rat (numb s.rows j n) j).n = _
        rw [rat_numb hil]
      · rw [hd, Nat.zero_add, ← hkd.1, ← hk, ← hkd.2.1]
        exact hm
    · obtain ⟨q, h1, h2⟩ := h.rw j (by omega) hl hx
      exact ⟨q, by show (rat (numb s.rows i n) j).n = _; rw [rat_numbN e]; exact h1, h2⟩
  · have e : j ≠ i := fun e => by
      subst e
      rcases ho with ho | ho
      · omega
      · have := hg.kn _ (lk_mem hlk)
        dsimp only at this
        rw [hk, hkd.1, ho.2] at this
        omega
    show (rat (numb s.rows i n) j).n = _
    rw [rat_numbN e]
    refine h.ot j hl ?_
    rcases ho with ho | ho
    · exact Or.inl (by omega)
    · exact Or.inr ho
theorem upto_mean {l : List Rz} (hB : Base l) (n : Nat) (hn : n ≤ l.length) {s : Rs} (h : upto (start l) n = .ok s) : Mean l n s := by
  induction n generalizing s with
  | zero =>
    cases h
    exact mean_start l
  | succ n ih =>
    simp only [upto] at h
    split at h
    · cases h
    · rename_i t ht
      have hc := ih (by omega) ht
      have hg := upto_good hB n (by omega) ht
      have hkd := like_kind hg.like (show n < l.length by omega)
      split at h
      · cases h
      · rename_i t' h3
        cases h
        cases h1 : askN n t 1 with
        | error c => rw [askN_err h1 2] at h3; cases h3
        | ok t1 =>
          cases h2 : askN n t 2 with
          | error c => rw [askN_err h2 1] at h3; cases h3
          | ok t2 =>
            have a1 : askD n t = .ok t1 := (askN_succ (j := 0) rfl).symm.trans h1
            have a2 : askM n t1 = .ok t2 := (askN_succ h1).symm.trans h2
            have a3 : askH n t2 = .ok s := (askN_succ h2).symm.trans h3
            have hH : ∀ {a : Rs}, Mean l (n + 1) t2 → askH n t2 = .ok a → Mean l (n + 1) a := fun hm ha => by
              unfold askH at ha
              split at ha
              · cases ha; exact hm
              · split at ha
                · cases ha
                · cases ha
                  exact ⟨hm.kn, hm.rw, hm.ot, hm.up⟩
            refine hH ?_ a3
            have hg1 := good_D hB (by omega) hg a1
            have hk1 := like_kind hg1.like (show n < l.length by omega)
            unfold askD at a1
            split at a1
            · rename_i hd
              cases a1
              unfold askM at a2
              split at a2
              · rename_i hn0
                cases a2
                exact mean_skip hc (by rw [← hkd.1]; exact hd) (by rw [← hkd.1]; exact hn0)
              · split at a2
                · cases a2
                · rename_i k q p hlk
                  split at a2
                  · cases a2
                  · split at a2
                    · cases a2
                    · rename_i hk
                      cases a2
                      exact mean_ref hc hg (by omega) (by rw [← hkd.1]; exact hd) hlk (by simpa using hk)
            · rename_i hd
              split at a1
              · cases a1
              · split at a1
                · cases a1
                · cases a1
                  have hn0 : nmd (rat t.rows n).kind = 0 := by
                    rcases decl_cases (rat t.rows n).kind with ⟨e, _⟩ | ⟨e, _⟩ | ⟨e, _⟩ | ⟨e, _⟩ | ⟨e, _⟩ | ⟨_, _, _, _, _, e⟩
                    all_goals first | exact absurd e hd | (rw [e]; rfl)
                  have e2 : askM n (t.dec n) = .ok (t.dec n) := by
                    unfold askM
                    rw [if_pos (by rw [hk1.1, ← hkd.1]; exact hn0)]
                  rw [e2] at a2
                  cases a2
                  exact mean_dec hc hg (by omega) hd
end Go.Proofs.YtnpdblcfhbamiaaGreat.Nm
