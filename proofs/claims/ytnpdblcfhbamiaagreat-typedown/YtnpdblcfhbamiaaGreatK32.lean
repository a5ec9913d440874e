import Derived.Test.YtnpdblcfhbamiaaGreatK28
import Derived.Test.YtnpdblcfhbamiaaGreatK31
set_option maxHeartbeats 25600000
set_option maxRecDepth 100000
namespace Go.Proofs.YtnpdblcfhbamiaaGreat.Nm.Ty
open Go.RowKit Go.Maps Go.Proofs.YtnpdblcfhbamiaaGreat.Sp Go.Proofs.YtnpdblcfhbamiaaGreat.Lx Go.Proofs.YtnpdblcfhbamiaaGreat.Gr
theorem put4L {n : Nat} {w wx : World} {B : Nat} {T : TypeId} {a b c d v0 v1 v2 v3 : Value} (hb : Below n w wx) (hB : n ≤ B) (hz : wx.heap[B]? = some (.cells #[a, b, c, d] T (0, 0))) : ((((wx.setCell ⟨B, 0, none⟩ v0).setCell ⟨B, 1, none⟩ v1).setCell ⟨B, 2, none⟩ v2).setCell ⟨B, 3, none⟩ v3).heap[B]? = some (.cells #[v0, v1, v2, v3] T (0, 0)) ∧ Below n w ((((wx.setCell ⟨B, 0, none⟩ v0).setCell ⟨B, 1, none⟩ v1).setCell ⟨B, 2, none⟩ v2).setCell ⟨B, 3, none⟩ v3) ∧ ∀ k, k ≠ B → ((((wx.setCell ⟨B, 0, none⟩ v0).setCell ⟨B, 1, none⟩ v1).setCell ⟨B, 2, none⟩ v2).setCell ⟨B, 3, none⟩ v3).heap[k]? = wx.heap[k]? := by
  have h0 := set_at hz v0 (cs' := #[v0, b, c, d]) (i := 0) rfl
  have h1 := set_at h0 v1 (cs' := #[v0, v1, c, d]) (i := 1) rfl
  have h2 := set_at h1 v2 (cs' := #[v0, v1, v2, d]) (i := 2) rfl
  have h3 := set_at h2 v3 (cs' := #[v0, v1, v2, v3]) (i := 3) rfl
  refine ⟨h3, (((hb.trans ((Below.refl n wx).setCell (p := ⟨B, 0, none⟩) hB _)).trans ((Below.refl n _).setCell (p := ⟨B, 1, none⟩) hB _)).trans ((Below.refl n _).setCell (p := ⟨B, 2, none⟩) hB _)).trans ((Below.refl n _).setCell (p := ⟨B, 3, none⟩) hB _), fun k hk => ?_⟩
  rw [Below.heap_setCell _ _ _ _ hk, Below.heap_setCell _ _ _ _ hk, Below.heap_setCell _ _ _ _ hk, Below.heap_setCell _ _ _ _ hk]
theorem put2M {n : Nat} {w wx : World} {B : Nat} {T : TypeId} {a b v0 v1 : Value} (hb : Below n w wx) (hB : n ≤ B) (hz : wx.heap[B]? = some (.cells #[a, b] T (0, 0))) : ((wx.setCell ⟨B, 0, none⟩ v0).setCell ⟨B, 1, none⟩ v1).heap[B]? = some (.cells #[v0, v1] T (0, 0)) ∧ Below n w ((wx.setCell ⟨B, 0, none⟩ v0).setCell ⟨B, 1, none⟩ v1) ∧ ∀ k, k ≠ B → ((wx.setCell ⟨B, 0, none⟩ v0).setCell ⟨B, 1, none⟩ v1).heap[k]? = wx.heap[k]? := by
  obtain ⟨h1, h2⟩ := put2L (v0 := v0) (v1 := v1) hb hB hz
  refine ⟨h1, h2, fun k hk => ?_⟩
  rw [Below.heap_setCell _ _ _ _ hk, Below.heap_setCell _ _ _ _ hk]
theorem infoP : (Tryz.prog.info? 80).map (fun i => (i.zero, i.size, i.bytes)) = some (some .nilIface, 1, 16) := by kernel_rfl
/-- what typed wants of a policy that names.Check takes -/
structure Rdy (P : Pg) : Prop where
  t : TreeZ P.rows
  q : Qs P.rows P.qs
  l : ∀ i, i < P.rows.length → (rat P.rows i).kind = 13 → i + 1 < P.rows.length
  n : 0 < P.rows.length
  m : P.rows.length ≤ 2932031007317
  k : P.qs.length ≤ 16
/-- read at work: its boxes -/
structure Rq (w wx : World) (pc : Array Value) : Prop where
  p : wx.heap[w.heap.size]? = some (.cells pc 30 (0, 0))
  r : wx.heap[w.heap.size + 1]? = some (.cells #[pz, pz, pz, pz] 72 (0, 0))
  f : wx.heap[w.heap.size + 1 + 1]? = some (.cells #[.int .i64 0, .int .i64 0] 33 (0, 0))
  be : Below w.heap.size w wx
theorem Rq.below {w wx w' : World} {pc : Array Value} (h : Rq w wx pc) (hb : Below wx.heap.size wx w') : Rq w w' pc := ⟨(hb.block _ (blk_lt h.p)).trans h.p, (hb.block _ (blk_lt h.r)).trans h.r, (hb.block _ (blk_lt h.f)).trans h.f, h.be.trans (hb.mono h.be.size)⟩
theorem rq_start (w : World) (pc : Array Value) : Rq w (((w.alloc (.cells pc 30)).alloc (.cells #[pz, pz, pz, pz] 72)).alloc (.cells #[.int .i64 0, .int .i64 0] 33)) pc := by
  refine ⟨?_, ?_, ?_, (((Below.refl _ w).alloc (Nat.le_refl _) _).alloc (by simp) _).alloc (by simp; omega) _⟩
  · rw [alloc_old _ _ _ (by simp; omega), alloc_old _ _ _ (by simp)]
    exact alloc_at _ _ _ rfl
  · rw [alloc_old _ _ _ (by simp)]
    exact alloc_at _ _ _ (by simp)
  · exact alloc_at _ _ _ (by simp)
theorem cells5 {wq : World} {B : Nat} {v0 v1 v2 v3 v4 : Value} {T : TypeId} (h : wq.heap[B]? = some (.cells #[v0, v1, v2, v3, v4] T (0, 0))) : wq.cell? ⟨B, 0, none⟩ = some v0 ∧ wq.cell? ⟨B, 1, none⟩ = some v1 ∧ wq.cell? ⟨B, 2, none⟩ = some v2 ∧ wq.cell? ⟨B, 3, none⟩ = some v3 ∧ wq.cell? ⟨B, 4, none⟩ = some v4 := by
  refine ⟨?_, ?_, ?_, ?_, ?_⟩
  all_goals
    simp only [World.cell?, h]
    rfl
theorem vals_keep {W W' : World} {o : Option Addr} {xs : List Value} (h : IsVals W o xs) (hk : ∀ a, o = some a → W'.heap[a.block]? = W.heap[a.block]?) (hs : W.heap.size ≤ W'.heap.size) : IsVals W' o xs := fun k x hx => by
  obtain ⟨g, o', e, hg, hc⟩ := h k x hx
  exact ⟨g, o', e, by omega, (World.cell?_of_block (a := ⟨g, o' + k, none⟩) (hk ⟨g, o', none⟩ e)).trans hc⟩
/-- the reading that is being made: its box, the ends -/
structure Rb (wx : World) (P : Pg) (ao qo : Option Addr) (ac qc lo B5 ge : Nat) (pv : Value) : Prop where
  b : wx.heap[B5]? = some (.cells #[.slice ao P.rows.length ac, .slice qo P.qs.length qc, pv, .slice (some ⟨ge, 0, none⟩) P.rows.length P.rows.length] 72 (0, 0))
  e : RowI wx ge P.rows.length (fun i => (endp P.rows i : Int))
  lb : lo < B5
  le : lo < ge
  ne : B5 ≠ ge
theorem Rb.below {wx w' : World} {P : Pg} {ao qo : Option Addr} {ac qc lo B5 ge : Nat} {pv : Value} (h : Rb wx P ao qo ac qc lo B5 ge pv) (hb : Below wx.heap.size wx w') : Rb w' P ao qo ac qc lo B5 ge pv := ⟨(hb.block _ (blk_lt h.b)).trans h.b, h.e.below hb h.e.lt, h.lb, h.le, h.ne⟩
theorem read_any {P : Pg} {ao qo vo tto uo oo : Option Addr} {ac qc vc tc uc oc : Nat} {w : World} (h : RdG w P ao qo vo tto uo oo) (hs : P.Sm) (hnil : ao = none → ac = 0) (hR : (∃ p', res (P.rows.map unn) = .ok p' ∧ p'.g = P) → Rdy P) :
    Calls Tryz.prog 26 #[pvG P ao qo vo tto uo oo ac qc vc tc uc oc] w fun e w' => Below w.heap.size w w' ∧ (((¬ ∃ p', res (P.rows.map unn) = .ok p' ∧ p'.g = P) ∧ e = .returned (.tuple #[.agg #[pz, pz, pz, pz], .agg #[.int .i64 23, .int .i64 0]])) ∨ ((∃ p', res (P.rows.map unn) = .ok p' ∧ p'.g = P) ∧ ∃ po eo pc ec, e = .returned (.tuple #[.agg (rgC P.rows P.qs.length ao qo po eo ac qc pc ec), .agg #[.int .i64 ((fltN P.rows (ghL P.qs) P.rows.length).1 : Nat), .int .i64 ((fltN P.rows (ghL P.qs) P.rows.length).2 : Nat)]]) ∧ IsRg w' P.rows (qF P.qs) ao qo po eo ∧ (∀ a, po = some a ∨ eo = some a → w.heap.size ≤ a.block) ∧ P.rows.length ≤ pc)) := by
  have HR0 := show Hid _ from rq_start w #[.string P.name, .slice ao P.rows.length ac, .slice qo P.qs.length qc, .slice vo P.vs.length vc, .slice tto P.ts.length tc, .slice uo P.us.length uc, .slice oo P.on.length oc, .int .i64 P.miss]
  have HG := show Hid _ from h
  have HRd := show Hid _ from hR
  have HCk := show Hid _ from checkP_any (ac := ac) (qc := qc) (vc := vc) (tc := tc) (uc := uc) (oc := oc) (h.below HR0.out.be) hs hnil
  obtain ⟨k0, k1, k2, k3, k4, k5, k6, k7⟩ := pol8 HR0.out.p
  dsimp only [pvG] at *
  clear h hs hnil hR
  go_enter Tryz.func26, Tryz.ntmps26
  go_wp2_with fail
  generalize (((w.alloc (.cells #[.string P.name, .slice ao P.rows.length ac, .slice qo P.qs.length qc, .slice vo P.vs.length vc, .slice tto P.ts.length tc, .slice uo P.us.length uc, .slice oo P.on.length oc, .int .i64 P.miss] 30)).alloc (.cells #[pz, pz, pz, pz] 72)).alloc (.cells #[.int .i64 0, .int .i64 0] 33)) = w1 at *
  refine Calls.mono HCk.out ?_
  rintro e w2 ⟨hck, hb2⟩
  have HR2 := show Hid _ from HR0.out.below hb2
  clear HR0 hb2 HCk k0 k1 k2 k3 k4 k5 k6 k7
  rcases hck with ⟨p', hp1, hp2, rfl⟩ | ⟨hno, rfl⟩
  case' inr =>
    have HNo := show Hid _ from hno
    clear hno
    obtain ⟨z0, z1, z2, z3⟩ := cells4 HR2.out.r
    obtain ⟨f0, f1⟩ := cells2 HR2.out.f
    have hz : ∀ j, w2.frozen? ⟨w.heap.size + 1, j, none⟩ = false := fun j => by have := HR2.out.r; simp only [World.frozen?, this]; rfl
    have hf : ∀ j, w2.frozen? ⟨w.heap.size + 1 + 1, j, none⟩ = false := fun j => by have := HR2.out.f; simp only [World.frozen?, this]; rfl
    go_wp2_with fail
    obtain ⟨a1, a2, a3⟩ := put4L (B := w.heap.size + 1) (v0 := pz) (v1 := pz) (v2 := pz) (v3 := pz) HR2.out.be (Nat.le_succ _) HR2.out.r
    obtain ⟨c1, c2, c3⟩ := put2M (B := w.heap.size + 1 + 1) (v0 := .int .i64 23) (v1 := .int .i64 0) a2 (by omega) ((a3 _ (by omega)).trans HR2.out.f)
    obtain ⟨y0, y1⟩ := cells2 c1
    obtain ⟨u0, u1, u2, u3⟩ := cells4 ((c3 _ (by omega)).trans a1)
    refine bodyPost_ret (v := .tuple #[.agg #[pz, pz, pz, pz], .agg #[.int .i64 23, .int .i64 0]]) (by simp [results, Tryz.results26, go_sem, y0, y1, u0, u1, u2, u3]) rfl ?_
    exact ⟨c2, Or.inl ⟨HNo.out, rfl⟩⟩
  case' inl =>
    have HIs : Hid (∃ p', res (P.rows.map unn) = .ok p' ∧ p'.g = P) := ⟨p', hp1, hp2⟩
    have HRy := show Hid _ from HRd.out ⟨p', hp1, hp2⟩
    clear hp1 hp2 p' HRd
    go_wp2_with fail
    go_cut [5] (fun s5 wx => ∃ B5 ge, s5 = .pointer (some ⟨B5, 0, none⟩) ∧ Rq w wx #[.string P.name, .slice ao P.rows.length ac, .slice qo P.qs.length qc, .slice vo P.vs.length vc, .slice tto P.ts.length tc, .slice uo P.us.length uc, .slice oo P.on.length oc, .int .i64 P.miss] ∧ Rb wx P ao qo ac qc (w.heap.size + 1 + 1) B5 ge pz)
    case first =>
      refine wp_region_held (S := fun w' => w'.heap[w.heap.size]? = some (.cells #[.string P.name, .slice ao P.rows.length ac, .slice qo P.qs.length qc, .slice vo P.vs.length vc, .slice tto P.ts.length tc, .slice uo P.us.length uc, .slice oo P.on.length oc, .int .i64 P.miss] 30 (0, 0))) (by kernel_rfl) ?_
      have hS : (fun w' : World => w'.heap[w.heap.size]? = some (.cells #[.string P.name, .slice ao P.rows.length ac, .slice qo P.qs.length qc, .slice vo P.vs.length vc, .slice tto P.ts.length tc, .slice uo P.us.length uc, .slice oo P.on.length oc, .int .i64 P.miss] 30 (0, 0))) w2.drew := HR2.out.p
      change wpAnyH _ _ _ _ _ _ _ _ w2.drew
      have HR3 : Hid (Rq w w2.drew #[.string P.name, .slice ao P.rows.length ac, .slice qo P.qs.length qc, .slice vo P.vs.length vc, .slice tto P.ts.length tc, .slice uo P.us.length uc, .slice oo P.on.length oc, .int .i64 P.miss]) := HR2.out.below (Below.refl _ _).drew
      have HEn : Hid (∀ W, Below w.heap.size w W → Calls Tryz.prog 49 #[.slice ao P.rows.length ac] W fun e w' => ∃ g, e = .returned (.slice (some ⟨g, 0, none⟩) P.rows.length P.rows.length) ∧ W.heap.size ≤ g ∧ RowI w' g P.rows.length (fun i => (endp P.rows i : Int)) ∧ Below W.heap.size W w') := fun W hW => ends_any (HG.out.below hW).r (by have := HRy.out.m; omega) HRy.out.t HRy.out.n
      clear HR2
      generalize w2.drew = x0 at *
      refine wpAnyH_take (i := 0) (v := ?v0) rfl (by kernel_rfl) (by kernel_rfl) (by kernel_rfl) (fun _ _ _ h => h) (Or.inl ⟨by rfl, ?y0⟩) hS ?r0
      case y0 =>
        intro w hSw
        try dsimp only at hSw
        obtain ⟨k0, k1, k2, k3, k4, k5, k6, k7⟩ := pol8 hSw
        first
          | (go_simp; done)
          | (go_simp; with_reducible rfl)
      refine wpAnyH_take (i := 1) (v := ?v1) rfl (by kernel_rfl) (by kernel_rfl) (by kernel_rfl) (fun _ _ _ h => h) (Or.inl ⟨by rfl, ?y1⟩) hS ?r1
      case y1 =>
        intro w hSw
        try dsimp only at hSw
        obtain ⟨k0, k1, k2, k3, k4, k5, k6, k7⟩ := pol8 hSw
        first
          | (go_simp; done)
          | (go_simp; with_reducible rfl)
      refine wpAnyH_take (i := 2) (v := ?v2) rfl (by kernel_rfl) (by kernel_rfl) (by kernel_rfl) (fun _ _ _ h => h) (Or.inl ⟨by rfl, ?y2⟩) hS ?r2
      case y2 =>
        intro w hSw
        try dsimp only at hSw
        obtain ⟨k0, k1, k2, k3, k4, k5, k6, k7⟩ := pol8 hSw
        first
          | (go_simp; done)
          | (go_simp; with_reducible rfl)
      refine wpAnyH_take (i := 3) (v := ?v3) rfl (by kernel_rfl) (by kernel_rfl) (by kernel_rfl) (fun _ _ _ h => h) (Or.inl ⟨by rfl, ?y3⟩) hS ?r3
      case y3 =>
        intro w hSw
        try dsimp only at hSw
        obtain ⟨k0, k1, k2, k3, k4, k5, k6, k7⟩ := pol8 hSw
        first
          | (go_simp; done)
          | (go_simp; with_reducible rfl)
      refine wpAnyH_take (i := 4) (v := ?v4) rfl (by kernel_rfl) (by kernel_rfl) (by kernel_rfl) (fun _ _ _ h => h) (Or.inl ⟨by rfl, ?y4⟩) hS ?r4
      case y4 =>
        intro w hSw
        try dsimp only at hSw
        obtain ⟨k0, k1, k2, k3, k4, k5, k6, k7⟩ := pol8 hSw
        first
          | (go_simp; done)
          | (go_simp; with_reducible rfl)
      refine wpAnyH_take (i := 5) (v := ?v5) rfl (by kernel_rfl) (by kernel_rfl) (by kernel_rfl) (fun _ _ _ h => h) (Or.inl ⟨by rfl, ?y5⟩) hS ?r5
      case y5 =>
        intro w hSw
        try dsimp only at hSw
        obtain ⟨k0, k1, k2, k3, k4, k5, k6, k7⟩ := pol8 hSw
        first
          | (go_simp; done)
          | (go_simp; with_reducible rfl)
      refine wpAnyH_ready (rs := [6, 8]) (by kernel_rfl) (by simp) ?_
      refine AllReadyH.cons rfl (fun K hK => ?_) (AllReadyH.cons rfl (fun K hK => ?_) AllReadyH.nil)
      · go_simp
        refine Calls.mono (HEn.out _ HR3.out.be) ?_
        rintro e w3 ⟨ge, rfl, hge, hrow, hb3⟩
        have HR4 := show Hid _ from HR3.out.below hb3
        have HGe : Hid (RowI w3 ge P.rows.length (fun i => (endp P.rows i : Int)) ∧ w.heap.size + 1 + 1 < ge) := ⟨hrow, by have := blk_lt HR3.out.f; omega⟩
        refine hK.out _ _ HR4.out.p (fun hS => ?_)
        clear hb3 hrow hge hK K HR3 HEn
        have hb4 : Below w3.heap.size w3 (w3.alloc (.cells #[.slice ao P.rows.length ac, .slice qo P.qs.length qc, pz, .slice (some ⟨ge, 0, none⟩) P.rows.length P.rows.length] 72)) := (Below.refl _ w3).alloc (Nat.le_refl _) _
        have HR5 := show Hid _ from HR4.out.below hb4
        have HB5 : Hid (Rb (w3.alloc (.cells #[.slice ao P.rows.length ac, .slice qo P.qs.length qc, pz, .slice (some ⟨ge, 0, none⟩) P.rows.length P.rows.length] 72)) P ao qo ac qc (w.heap.size + 1 + 1) w3.heap.size ge pz) := ⟨heap_alloc_new w3 _, HGe.out.1.below hb4 HGe.out.1.lt, blk_lt HR4.out.f, HGe.out.2, by have := HGe.out.1.lt; omega⟩
        have hSz : (w3.alloc (.cells #[pz, pz, pz, pz] 72)).heap[w.heap.size]? = some (.cells #[.string P.name, .slice ao P.rows.length ac, .slice qo P.qs.length qc, .slice vo P.vs.length vc, .slice tto P.ts.length tc, .slice uo P.us.length uc, .slice oo P.on.length oc, .int .i64 P.miss] 30 (0, 0)) := (alloc_old _ _ _ (blk_lt HR4.out.p)).trans HR4.out.p
        clear hb4
        refine wpAnyH_ready (rs := [7, 8]) (by kernel_rfl) (by simp) ?_
        refine AllReadyH.cons rfl (fun K hK => ?_) (AllReadyH.cons rfl (fun K hK => ?_) AllReadyH.nil)
        rotate_right
        focus
          go_simp
          refine hK.out _ _ hSz (fun hS => ?_)
          refine wpAnyH_ready (rs := [7]) (by kernel_rfl) (by simp) ?_
        rotate_right
        focus
          go_simp
          refine hK.out _ _ hS (fun hS => ?_)
          refine wpAnyH_ready (rs := [8]) (by kernel_rfl) (by simp) ?_
        all_goals
          refine AllReadyH.cons rfl (fun K hK => ?_) AllReadyH.nil
          go_simp
          refine hK.out _ _ hSz (fun hS => ?_)
          refine wpAnyH_ready (rs := [9]) (by kernel_rfl) (by simp) ?_
          refine AllReadyH.cons rfl (fun K hK => ?_) AllReadyH.nil
          go_simp
          refine hK.out _ _ HR5.out.p (fun hS => ?_)
          refine wpAnyH_done (by kernel_rfl) ?_ _
          go_wp2_with fail
          go_meet
          case rel => exact ⟨_, _, rfl, HR5.out, HB5.out⟩
      · go_simp
        have hb4 : Below x0.heap.size x0 (x0.alloc (.cells #[pz, pz, pz, pz] 72)) := (Below.refl _ x0).alloc (Nat.le_refl _) _
        have HR4 := show Hid _ from HR3.out.below hb4
        have HX4 : Hid ((x0.alloc (.cells #[pz, pz, pz, pz] 72)).heap[x0.heap.size]? = some (.cells #[pz, pz, pz, pz] 72 (0, 0))) := heap_alloc_new x0 _
        refine hK.out _ _ HR4.out.p (fun hS => ?_)
        clear hb4 hK K
        generalize x0.alloc (.cells #[pz, pz, pz, pz] 72) = x1 at *
        refine wpAnyH_ready (rs := [6]) (by kernel_rfl) (by simp) ?_
        refine AllReadyH.cons rfl (fun K hK => ?_) AllReadyH.nil
        go_simp
        refine Calls.mono (HEn.out _ HR4.out.be) ?_
        rintro e w3 ⟨ge, rfl, hge, hrow, hb3⟩
        have HR6 := show Hid _ from HR4.out.below hb3
        have HX6 : Hid (w3.heap[x0.heap.size]? = some (.cells #[pz, pz, pz, pz] 72 (0, 0))) := (hb3.block _ (blk_lt HX4.out)).trans HX4.out
        have HGe : Hid (RowI w3 ge P.rows.length (fun i => (endp P.rows i : Int)) ∧ w.heap.size + 1 + 1 < ge ∧ x0.heap.size < ge ∧ w.heap.size + 1 + 1 < x0.heap.size) := ⟨hrow, by have := blk_lt HR4.out.f; omega, by have := blk_lt HX4.out; omega, blk_lt HR3.out.f⟩
        refine hK.out _ _ HR6.out.p (fun hS => ?_)
        clear hb3 hrow hge hK K HR4 HEn HX4 HR3
        refine wpAnyH_ready (rs := [7]) (by kernel_rfl) (by simp) ?_
        refine AllReadyH.cons rfl (fun K hK => ?_) AllReadyH.nil
        go_simp
        refine hK.out _ _ hS (fun hS => ?_)
        clear hK K
        obtain ⟨z0, z1, z2, z3⟩ := cells4 HX6.out
        have hz : ∀ j, w3.frozen? ⟨x0.heap.size, j, none⟩ = false := fun j => by have := HX6.out; simp only [World.frozen?, this]; rfl
        refine wpAnyH_ready (rs := [9]) (by kernel_rfl) (by simp) ?_
        refine AllReadyH.cons rfl (fun K hK => ?_) AllReadyH.nil
        go_simp
        obtain ⟨a1, a2, a3⟩ := put4L (B := x0.heap.size) (v0 := .slice ao P.rows.length ac) (v1 := .slice qo P.qs.length qc) (v2 := pz) (v3 := .slice (some ⟨ge, 0, none⟩) P.rows.length P.rows.length) HR6.out.be (by have := HGe.out.2.2.2; omega) HX6.out
        have HR7 : Hid (Rq w _ #[.string P.name, .slice ao P.rows.length ac, .slice qo P.qs.length qc, .slice vo P.vs.length vc, .slice tto P.ts.length tc, .slice uo P.us.length uc, .slice oo P.on.length oc, .int .i64 P.miss]) := ⟨(a3 _ (by have := HGe.out.2.2.2; omega)).trans HR6.out.p, (a3 _ (by have := HGe.out.2.2.2; omega)).trans HR6.out.r, (a3 _ (by have := HGe.out.2.2.2; omega)).trans HR6.out.f, a2⟩
        have HB7 : Hid (Rb _ P ao qo ac qc (w.heap.size + 1 + 1) x0.heap.size ge pz) := ⟨a1, HGe.out.1.of_block (a3 _ (by have := HGe.out.2.2.1; omega)), HGe.out.2.2.2, HGe.out.2.1, by have := HGe.out.2.2.1; omega⟩
        refine hK.out _ _ HR7.out.p (fun hS => ?_)
        refine wpAnyH_done (by kernel_rfl) ?_ _
        go_wp2_with fail
        go_meet
        case rel => exact ⟨_, _, rfl, HR7.out, HB7.out⟩
    case rest =>
      obtain ⟨B5, ge, rfl, hq, hb⟩ := hcut
      have HQ0 := show Hid _ from hq
      have HBz := show Hid _ from hb
      clear hq hb HR2
      have hnl : (P.rows.length : Int) ≤ 2932031007317 := by have := HRy.out.m; omega
      obtain ⟨ip, hip, hip0, hip1, hip2⟩ := info_parts infoP
      have HBs : Hid (B5 < wc.heap.size ∧ ge < wc.heap.size) := ⟨blk_lt HBz.out.b, HBz.out.e.lt⟩
      obtain ⟨k0, k1, k2, k3, k4, k5, k6, k7⟩ := pol8 HQ0.out.p
      go_wp2_with fail
      clear k0 k1 k2 k3 k4 k5 k6 k7
      go_loopg [26] P.rows.length (fun gq x wr => ∃ (m : Nat) (pv : Value), m ≤ P.rows.length ∧ gq = P.rows.length - m ∧ x = .int .i64 m ∧ Rq w wr #[.string P.name, .slice ao P.rows.length ac, .slice qo P.qs.length qc, .slice vo P.vs.length vc, .slice tto P.ts.length tc, .slice uo P.us.length uc, .slice oo P.on.length oc, .int .i64 P.miss] ∧ Rb wr P ao qo ac qc (w.heap.size + 1 + 1) B5 ge pv ∧ wr.ownsRow wc.heap.size 80 1 pv m (fL m (fun i => (rP P.rows i).V)) ∧ wc.heap.size ≤ wr.heap.size)
      case atStart => exact ⟨0, pz, Nat.zero_le _, rfl, by go_num, HQ0.out, HBz.out, World.ownsRow_nil _ _ _ _, Nat.le_refl _⟩
      case round =>
        obtain ⟨m, pv, hm, hgk, rfl, hq, hb, ho, hwc⟩ := hrel
        have HWc : Hid (wc.heap.size ≤ wr.heap.size) := hwc
        have HQ := show Hid _ from hq
        have HB := show Hid _ from hb
        have HO := show Hid _ from ho
        have HGk : Hid (gk = P.rows.length - m) := hgk
        obtain ⟨bo, bc, rfl⟩ := own_form ho
        clear hq hb ho hgk HQ0 HBz hwc
        by_cases hlt : m < P.rows.length
        · have hlt' : (m : Int) < (P.rows.length : Int) := by omega
          obtain ⟨g, o, rfl, hg, c0, c1, c2, c3, c4⟩ := row_cells (HG.out.below HQ.out.be).r hlt
          have hbA : Below wr.heap.size wr (wr.alloc (.cells #[.int .i64 (rat P.rows m).kind, .string (rat P.rows m).name, .int .i64 (rat P.rows m).stop, .int .i64 (rat P.rows m).n, .int .i64 (rat P.rows m).kids] 51)) := (Below.refl _ wr).alloc (Nat.le_refl _) _
          have HQ1 := show Hid _ from HQ.out.below hbA
          have HB1 := show Hid _ from HB.out.below hbA
          have HO1 := show Hid _ from own_below HO.out hbA
          have HX1 : Hid ((wr.alloc (.cells #[.int .i64 (rat P.rows m).kind, .string (rat P.rows m).name, .int .i64 (rat P.rows m).stop, .int .i64 (rat P.rows m).n, .int .i64 (rat P.rows m).kids] 51)).heap[wr.heap.size]? = some (.cells #[.int .i64 (rat P.rows m).kind, .string (rat P.rows m).name, .int .i64 (rat P.rows m).stop, .int .i64 (rat P.rows m).n, .int .i64 (rat P.rows m).kids] 51 (0, 0)) ∧ ∀ q, bo.map Addr.block = some q → q ≠ wr.heap.size) := ⟨heap_alloc_new wr _, fun q hq => by
            cases bo with
            | none => cases hq
            | some a => cases hq; have := (World.ownsRow.lt HO.out a.block rfl).2; omega⟩
          have HPn : Hid (fL (m + 1) (fun i => (rP P.rows i).V) = fL m (fun i => (rP P.rows i).V) ++ [(rP P.rows m).V]) := by simp [Hid, fL, List.range_succ]
          have HPa := show Hid _ from part_any (rat P.rows m).kind (rat P.rows m).n (rat P.rows m).stop (rat P.rows m).kids (rat P.rows m).name
          have HrP : Hid (pOf (rat P.rows m).kind (rat P.rows m).n = rP P.rows m) := rfl
          have HS1 : Hid (wc.heap.size ≤ (wr.alloc (.cells #[.int .i64 (rat P.rows m).kind, .string (rat P.rows m).name, .int .i64 (rat P.rows m).stop, .int .i64 (rat P.rows m).n, .int .i64 (rat P.rows m).kids] 51)).heap.size) := Nat.le_trans HWc.out hbA.size
          clear hbA HQ HB HO HWc
          generalize rat P.rows m = r at *
          generalize rP P.rows m = x at *
          go_wp2_with fail
          generalize wr.alloc (.cells #[.int .i64 r.kind, .string r.name, .int .i64 r.stop, .int .i64 r.n, .int .i64 r.kids] 51) = w3 at *
          generalize wr.heap.size = B7 at *
          refine wp_region_held (S := fun w' : World => w'.heap[B7]? = some (.cells #[.int .i64 r.kind, .string r.name, .int .i64 r.stop, .int .i64 r.n, .int .i64 r.kids] 51 (0, 0))) (by kernel_rfl) ?_
          have hS : (fun w' : World => w'.heap[B7]? = some (.cells #[.int .i64 r.kind, .string r.name, .int .i64 r.stop, .int .i64 r.n, .int .i64 r.kids] 51 (0, 0))) w3.drew := HX1.out.1
          change wpAnyH _ _ _ _ _ _ _ _ w3.drew
          have hd : Below w3.heap.size w3 w3.drew := (Below.refl _ _).drew
          have HQ2 := show Hid _ from HQ1.out.below hd
          have HB2 := show Hid _ from HB1.out.below hd
          have HO2 := show Hid _ from own_below HO1.out hd
          have HX2 : Hid (w3.drew.heap[B7]? = some (.cells #[.int .i64 r.kind, .string r.name, .int .i64 r.stop, .int .i64 r.n, .int .i64 r.kids] 51 (0, 0)) ∧ ∀ q, bo.map Addr.block = some q → q ≠ B7) := HX1.out
          have HS2 : Hid (wc.heap.size ≤ w3.drew.heap.size) := HS1.out
          clear hd HQ1 HB1 HO1 HX1 HS1
          generalize w3.drew = x0 at *
          refine wpAnyH_take (i := 0) (v := ?bv0) rfl (by kernel_rfl) (by kernel_rfl) (by kernel_rfl) (fun _ _ _ h => h) (Or.inl ⟨by rfl, ?by0⟩) hS ?br0
          case by0 =>
            intro w hSw
            try dsimp only at hSw
            obtain ⟨r0, r1, r2, r3, r4⟩ := cells5 hSw
            first
              | (go_simp; done)
              | (go_simp; with_reducible rfl)
          refine wpAnyH_take (i := 2) (v := ?bv2) rfl (by kernel_rfl) (by kernel_rfl) (by kernel_rfl) (fun _ _ _ h => h) (Or.inl ⟨by rfl, ?by2⟩) hS ?br2
          case by2 =>
            intro w hSw
            try dsimp only at hSw
            obtain ⟨r0, r1, r2, r3, r4⟩ := cells5 hSw
            first
              | (go_simp; done)
              | (go_simp; with_reducible rfl)
          refine wpAnyH_ready (rs := [1, 3]) (by kernel_rfl) (by simp) ?_
          refine AllReadyH.cons rfl (fun K hK => ?_) (AllReadyH.cons rfl (fun K hK => ?_) AllReadyH.nil)
          · obtain ⟨c0, c1, c2, c3⟩ := cells4 HB2.out.b
            go_simp
            refine hK.out _ _ HX2.out.1 (fun hS => ?_)
            clear c0 c1 c2 c3 hK K
            refine wpAnyH_ready (rs := [3]) (by kernel_rfl) (by simp) ?_
            refine AllReadyH.cons rfl (fun K hK => ?_) AllReadyH.nil
            go_simp
            refine Calls.mono (HPa.out _) ?_
            rintro e w4 ⟨rfl, hb4⟩
            rw [HrP.out]
            have HQ4 := show Hid _ from HQ2.out.below hb4
            have HB4 := show Hid _ from HB2.out.below hb4
            have HO4 := show Hid _ from own_below HO2.out hb4
            have HX4 : Hid (w4.heap[B7]? = some (.cells #[.int .i64 r.kind, .string r.name, .int .i64 r.stop, .int .i64 r.n, .int .i64 r.kids] 51 (0, 0)) ∧ ∀ q, bo.map Addr.block = some q → q ≠ B7) := ⟨(hb4.block _ (blk_lt HX2.out.1)).trans HX2.out.1, HX2.out.2⟩
            have HS4 : Hid (wc.heap.size ≤ w4.heap.size) := Nat.le_trans HS2.out hb4.size
            refine hK.out _ _ HX4.out.1 (fun hS => ?_)
            clear hb4 HQ2 HB2 HO2 HX2 HPa HrP hK K HS2
            refine wpAnyH_ready (rs := [4]) (by kernel_rfl) (by simp) ?_
            refine AllReadyH.cons rfl (fun K hK => ?_) AllReadyH.nil
            go_simp
            have hb5 : Below w4.heap.size w4 (w4.alloc (.cells #[x.V] 80)) := (Below.refl _ w4).alloc (Nat.le_refl _) _
            have HQ5 := show Hid _ from HQ4.out.below hb5
            have HB5 := show Hid _ from HB4.out.below hb5
            have HO5 := show Hid _ from own_below HO4.out hb5
            have HX5 : Hid ((w4.alloc (.cells #[x.V] 80)).heap[B7]? = some (.cells #[.int .i64 r.kind, .string r.name, .int .i64 r.stop, .int .i64 r.n, .int .i64 r.kids] 51 (0, 0)) ∧ (∀ q, bo.map Addr.block = some q → q ≠ B7) ∧ (w4.alloc (.cells #[x.V] 80)).cell? ⟨w4.heap.size, 0, none⟩ = some x.V) := ⟨(hb5.block _ (blk_lt HX4.out.1)).trans HX4.out.1, HX4.out.2, by rw [World.cell?, heap_alloc_new]; rfl⟩
            refine hK.out _ _ HX5.out.1 (fun hS => ?_)
            have HSz : Hid (wc.heap.size ≤ (w4.alloc (.cells #[x.V] 80)).heap.size ∧ m ≤ 2932031007317) := ⟨Nat.le_trans HS4.out hb5.size, by have := HRy.out.m; omega⟩
            clear hb5 HQ4 HB4 HO4 HX4 hK K HS4
            generalize w4.alloc (.cells #[x.V] 80) = w5 at *
            generalize w4.heap.size = bA at *
            refine wpAnyH_ready (rs := [5]) (by kernel_rfl) (by simp) ?_
            refine AllReadyH.cons rfl (fun K hK => ?_) AllReadyH.nil
            refine step_app _ rfl (.tmp 31) (.tmp 34) 70 rfl wc.heap.size 80 ip .nilIface 1 16 Tryz.underlying70 hip hip0 hip1 hip2 rfl (by decide) (.slice bo m bc) m (fL m (fun i => (rP P.rows i).V)) (by simp [Act.eval]) HO5.out (some ⟨bA, 0, none⟩) 1 1 [x.V] (by simp [Act.eval]) rfl (fun e => by cases e) (fun ad e j u hu => by cases e; cases j with | zero => cases hu; exact HX5.out.2.2 | succ j => simp at hu) (by intro u hu; simp only [List.mem_cons, List.not_mem_nil, or_false] at hu; subst hu; rfl) (by have := HSz.out.2; unfold maxLen; omega) (by have := HSz.out.2; omega) HSz.out.1 ?_
            intro v6 w6 ho6 hg6 hl6
            have hown : ∀ q, bo.map Addr.block = some q → wc.heap.size ≤ q := fun q hq => by
              cases bo with
              | none => cases hq
              | some a => cases hq; exact (World.ownsRow.lt HO5.out a.block rfl).1
            have hkeep : ∀ k, k < w5.heap.size → (∀ q, bo.map Addr.block = some q → q ≠ k) → w6.heap[k]? = w5.heap[k]? := fun k hk hne => hg6.block k hk (fun e => by
              cases bo with
              | none => cases e
              | some a => cases e; exact hne _ rfl rfl)
            have hlow : ∀ k, k < wc.heap.size → w6.heap[k]? = w5.heap[k]? := fun k hk => hkeep k (by have := HSz.out.1; omega) (fun q hq => by have := hown q hq; omega)
            have hord : w.heap.size + 1 + 1 < B5 := HB5.out.lb
            have HQ6 : Hid (Rq w w6 #[.string P.name, .slice (some ⟨g, o, none⟩) P.rows.length ac, .slice qo P.qs.length qc, .slice vo P.vs.length vc, .slice tto P.ts.length tc, .slice uo P.us.length uc, .slice oo P.on.length oc, .int .i64 P.miss]) := ⟨(hlow _ (by have := HBs.out.1; omega)).trans HQ5.out.p, (hlow _ (by have := HBs.out.1; omega)).trans HQ5.out.r, (hlow _ (by have := HBs.out.1; omega)).trans HQ5.out.f, HQ5.out.be.grown hg6 HQ5.out.be.size (fun q e => by
              have := hown q (by cases bo with | none => cases e | some a => cases e; rfl)
              have := HBs.out.1
              omega)⟩
            have HB6 : Hid (Rb w6 P (some ⟨g, o, none⟩) qo ac qc (w.heap.size + 1 + 1) B5 ge (.slice bo m bc)) := ⟨(hlow _ HBs.out.1).trans HB5.out.b, HB5.out.e.of_block (hlow _ HBs.out.2), HB5.out.lb, HB5.out.le, HB5.out.ne⟩
            have HO6 : Hid (w6.ownsRow wc.heap.size 80 1 v6 (m + 1) (fL (m + 1) (fun i => (rP P.rows i).V)) ∧ wc.heap.size ≤ w6.heap.size) := ⟨by rw [HPn.out]; exact ho6, Nat.le_trans HSz.out.1 hg6.size⟩
            have HX6 : Hid (w6.heap[B7]? = some (.cells #[.int .i64 r.kind, .string r.name, .int .i64 r.stop, .int .i64 r.n, .int .i64 r.kids] 51 (0, 0))) := (hkeep _ (blk_lt HX5.out.1) HX5.out.2.1).trans HX5.out.1
            refine hK.out _ _ HX6.out (fun hS => ?_)
            obtain ⟨bo6, bc6, rfl⟩ := own_form ho6
            clear hkeep hlow hown hg6 ho6 hl6 HQ5 HB5 HO5 HX5 hK K HPn HSz
            refine wpAnyH_ready (rs := [6]) (by kernel_rfl) (by simp) ?_
            refine AllReadyH.cons rfl (fun K hK => ?_) AllReadyH.nil
            go_simp
            refine hK.out _ _ HX6.out (fun hS => ?_)
            clear hK K
            have hnB : B7 ≠ B5 := by have h1 := HX6.out; have h2 := HB6.out.b; intro e; rw [e, h2] at h1; simp at h1
            obtain ⟨z0, z1, z2, z3⟩ := cells4 HB6.out.b
            have hz : ∀ j, w6.frozen? ⟨B5, j, none⟩ = false := fun j => by have := HB6.out.b; simp only [World.frozen?, this]; rfl
            have hoth : ∀ k, k ≠ B5 → (w6.setCell ⟨B5, 2, none⟩ (.slice bo6 (m + 1) bc6)).heap[k]? = w6.heap[k]? := fun k hk => Below.heap_setCell _ _ _ _ hk
            have HQ8 : Hid (Rq w (w6.setCell ⟨B5, 2, none⟩ (.slice bo6 (m + 1) bc6)) #[.string P.name, .slice (some ⟨g, o, none⟩) P.rows.length ac, .slice qo P.qs.length qc, .slice vo P.vs.length vc, .slice tto P.ts.length tc, .slice uo P.us.length uc, .slice oo P.on.length oc, .int .i64 P.miss]) := ⟨(hoth _ (by omega)).trans HQ6.out.p, (hoth _ (by omega)).trans HQ6.out.r, (hoth _ (by omega)).trans HQ6.out.f, HQ6.out.be.trans ((Below.refl w.heap.size w6).setCell (p := ⟨B5, 2, none⟩) (by show w.heap.size ≤ B5; omega) _)⟩
            have HB8 : Hid (Rb (w6.setCell ⟨B5, 2, none⟩ (.slice bo6 (m + 1) bc6)) P (some ⟨g, o, none⟩) qo ac qc (w.heap.size + 1 + 1) B5 ge (.slice bo6 (m + 1) bc6)) := ⟨set_at HB6.out.b (.slice bo6 (m + 1) bc6) (cs' := #[.slice (some ⟨g, o, none⟩) P.rows.length ac, .slice qo P.qs.length qc, .slice bo6 (m + 1) bc6, .slice (some ⟨ge, 0, none⟩) P.rows.length P.rows.length]) (i := 2) rfl, HB6.out.e.of_block (hoth _ HB6.out.ne.symm), HB6.out.lb, HB6.out.le, HB6.out.ne⟩
            have HO8 : Hid ((w6.setCell ⟨B5, 2, none⟩ (.slice bo6 (m + 1) bc6)).ownsRow wc.heap.size 80 1 (.slice bo6 (m + 1) bc6) (m + 1) (fL (m + 1) (fun i => (rP P.rows i).V)) ∧ wc.heap.size ≤ (w6.setCell ⟨B5, 2, none⟩ (.slice bo6 (m + 1) bc6)).heap.size) := ⟨own_keepB HO6.out.1 (fun k hk => hoth k (by have := (World.ownsRow.lt HO6.out.1 k hk).1; have := HBs.out.1; omega)), by rw [World.size_setCell]; exact HO6.out.2⟩
            refine wpAnyH_ready (rs := [7]) (by kernel_rfl) (by simp) ?_
            refine AllReadyH.cons rfl (fun K hK => ?_) AllReadyH.nil
            go_simp
            refine hK.out _ _ ((hoth _ hnB).trans HX6.out) (fun hS => ?_)
            refine wpAnyH_done (by kernel_rfl) ?_ _
            clear hK K hoth hz z0 z1 z2 z3 hS
            go_wp2_with fail
            go_roundg (P.rows.length - (m + 1))
            case measure => have := HGk.out; omega
            case rel => exact ⟨m + 1, _, by omega, rfl, by go_num, HQ8.out, HB8.out, HO8.out.1, HO8.out.2⟩
          · go_simp
            refine Calls.mono (HPa.out _) ?_
            rintro e w4 ⟨rfl, hb4⟩
            rw [HrP.out]
            have HQ4 := show Hid _ from HQ2.out.below hb4
            have HB4 := show Hid _ from HB2.out.below hb4
            have HO4 := show Hid _ from own_below HO2.out hb4
            have HX4 : Hid (w4.heap[B7]? = some (.cells #[.int .i64 r.kind, .string r.name, .int .i64 r.stop, .int .i64 r.n, .int .i64 r.kids] 51 (0, 0)) ∧ ∀ q, bo.map Addr.block = some q → q ≠ B7) := ⟨(hb4.block _ (blk_lt HX2.out.1)).trans HX2.out.1, HX2.out.2⟩
            have HS4 : Hid (wc.heap.size ≤ w4.heap.size) := Nat.le_trans HS2.out hb4.size
            refine hK.out _ _ HX4.out.1 (fun hS => ?_)
            clear hb4 HQ2 HB2 HO2 HX2 HPa HrP hK K HS2
            refine wpAnyH_ready (rs := [1, 4]) (by kernel_rfl) (by simp) ?_
            refine AllReadyH.cons rfl (fun K hK => ?_) (AllReadyH.cons rfl (fun K hK => ?_) AllReadyH.nil)
            rotate_right
            focus
              go_simp
              have hb5 : Below w4.heap.size w4 (w4.alloc (.cells #[x.V] 80)) := (Below.refl _ w4).alloc (Nat.le_refl _) _
              have HQ5 := show Hid _ from HQ4.out.below hb5
              have HB5 := show Hid _ from HB4.out.below hb5
              have HO5 := show Hid _ from own_below HO4.out hb5
              have HX5 : Hid ((w4.alloc (.cells #[x.V] 80)).heap[B7]? = some (.cells #[.int .i64 r.kind, .string r.name, .int .i64 r.stop, .int .i64 r.n, .int .i64 r.kids] 51 (0, 0)) ∧ (∀ q, bo.map Addr.block = some q → q ≠ B7) ∧ (w4.alloc (.cells #[x.V] 80)).cell? ⟨w4.heap.size, 0, none⟩ = some x.V) := ⟨(hb5.block _ (blk_lt HX4.out.1)).trans HX4.out.1, HX4.out.2, by rw [World.cell?, heap_alloc_new]; rfl⟩
              refine hK.out _ _ HX5.out.1 (fun hS => ?_)
              have HSz : Hid (wc.heap.size ≤ (w4.alloc (.cells #[x.V] 80)).heap.size ∧ m ≤ 2932031007317) := ⟨Nat.le_trans HS4.out hb5.size, by have := HRy.out.m; omega⟩
              clear hb5 HQ4 HB4 HO4 HX4 hK K HS4
              generalize w4.alloc (.cells #[x.V] 80) = w5 at *
              generalize w4.heap.size = bA at *
              refine wpAnyH_ready (rs := [1]) (by kernel_rfl) (by simp) ?_
              refine AllReadyH.cons rfl (fun K hK => ?_) AllReadyH.nil
              obtain ⟨c0, c1, c2, c3⟩ := cells4 HB5.out.b
              go_simp
              refine hK.out _ _ HX5.out.1 (fun hS => ?_)
              clear c0 c1 c2 c3 hK K
            rotate_right
            focus
              obtain ⟨c0, c1, c2, c3⟩ := cells4 HB4.out.b
              go_simp
              refine hK.out _ _ HX4.out.1 (fun hS => ?_)
              clear c0 c1 c2 c3 hK K
              refine wpAnyH_ready (rs := [4]) (by kernel_rfl) (by simp) ?_
              refine AllReadyH.cons rfl (fun K hK => ?_) AllReadyH.nil
              go_simp
              have hb5 : Below w4.heap.size w4 (w4.alloc (.cells #[x.V] 80)) := (Below.refl _ w4).alloc (Nat.le_refl _) _
              have HQ5 := show Hid _ from HQ4.out.below hb5
              have HB5 := show Hid _ from HB4.out.below hb5
              have HO5 := show Hid _ from own_below HO4.out hb5
              have HX5 : Hid ((w4.alloc (.cells #[x.V] 80)).heap[B7]? = some (.cells #[.int .i64 r.kind, .string r.name, .int .i64 r.stop, .int .i64 r.n, .int .i64 r.kids] 51 (0, 0)) ∧ (∀ q, bo.map Addr.block = some q → q ≠ B7) ∧ (w4.alloc (.cells #[x.V] 80)).cell? ⟨w4.heap.size, 0, none⟩ = some x.V) := ⟨(hb5.block _ (blk_lt HX4.out.1)).trans HX4.out.1, HX4.out.2, by rw [World.cell?, heap_alloc_new]; rfl⟩
              refine hK.out _ _ HX5.out.1 (fun hS => ?_)
              have HSz : Hid (wc.heap.size ≤ (w4.alloc (.cells #[x.V] 80)).heap.size ∧ m ≤ 2932031007317) := ⟨Nat.le_trans HS4.out hb5.size, by have := HRy.out.m; omega⟩
              clear hb5 HQ4 HB4 HO4 HX4 hK K HS4
              generalize w4.alloc (.cells #[x.V] 80) = w5 at *
              generalize w4.heap.size = bA at *
            all_goals
              refine wpAnyH_ready (rs := [5]) (by kernel_rfl) (by simp) ?_
              refine AllReadyH.cons rfl (fun K hK => ?_) AllReadyH.nil
              refine step_app _ rfl (.tmp 31) (.tmp 34) 70 rfl wc.heap.size 80 ip .nilIface 1 16 Tryz.underlying70 hip hip0 hip1 hip2 rfl (by decide) (.slice bo m bc) m (fL m (fun i => (rP P.rows i).V)) (by simp [Act.eval]) HO5.out (some ⟨bA, 0, none⟩) 1 1 [x.V] (by simp [Act.eval]) rfl (fun e => by cases e) (fun ad e j u hu => by cases e; cases j with | zero => cases hu; exact HX5.out.2.2 | succ j => simp at hu) (by intro u hu; simp only [List.mem_cons, List.not_mem_nil, or_false] at hu; subst hu; rfl) (by have := HSz.out.2; unfold maxLen; omega) (by have := HSz.out.2; omega) HSz.out.1 ?_
              intro v6 w6 ho6 hg6 hl6
              have hown : ∀ q, bo.map Addr.block = some q → wc.heap.size ≤ q := fun q hq => by
                cases bo with
                | none => cases hq
                | some a => cases hq; exact (World.ownsRow.lt HO5.out a.block rfl).1
              have hkeep : ∀ k, k < w5.heap.size → (∀ q, bo.map Addr.block = some q → q ≠ k) → w6.heap[k]? = w5.heap[k]? := fun k hk hne => hg6.block k hk (fun e => by
                cases bo with
                | none => cases e
                | some a => cases e; exact hne _ rfl rfl)
              have hlow : ∀ k, k < wc.heap.size → w6.heap[k]? = w5.heap[k]? := fun k hk => hkeep k (by have := HSz.out.1; omega) (fun q hq => by have := hown q hq; omega)
              have hord : w.heap.size + 1 + 1 < B5 := HB5.out.lb
              have HQ6 : Hid (Rq w w6 #[.string P.name, .slice (some ⟨g, o, none⟩) P.rows.length ac, .slice qo P.qs.length qc, .slice vo P.vs.length vc, .slice tto P.ts.length tc, .slice uo P.us.length uc, .slice oo P.on.length oc, .int .i64 P.miss]) := ⟨(hlow _ (by have := HBs.out.1; omega)).trans HQ5.out.p, (hlow _ (by have := HBs.out.1; omega)).trans HQ5.out.r, (hlow _ (by have := HBs.out.1; omega)).trans HQ5.out.f, HQ5.out.be.grown hg6 HQ5.out.be.size (fun q e => by
                have := hown q (by cases bo with | none => cases e | some a => cases e; rfl)
                have := HBs.out.1
                omega)⟩
              have HB6 : Hid (Rb w6 P (some ⟨g, o, none⟩) qo ac qc (w.heap.size + 1 + 1) B5 ge (.slice bo m bc)) := ⟨(hlow _ HBs.out.1).trans HB5.out.b, HB5.out.e.of_block (hlow _ HBs.out.2), HB5.out.lb, HB5.out.le, HB5.out.ne⟩
              have HO6 : Hid (w6.ownsRow wc.heap.size 80 1 v6 (m + 1) (fL (m + 1) (fun i => (rP P.rows i).V)) ∧ wc.heap.size ≤ w6.heap.size) := ⟨by rw [HPn.out]; exact ho6, Nat.le_trans HSz.out.1 hg6.size⟩
              have HX6 : Hid (w6.heap[B7]? = some (.cells #[.int .i64 r.kind, .string r.name, .int .i64 r.stop, .int .i64 r.n, .int .i64 r.kids] 51 (0, 0))) := (hkeep _ (blk_lt HX5.out.1) HX5.out.2.1).trans HX5.out.1
              refine hK.out _ _ HX6.out (fun hS => ?_)
              obtain ⟨bo6, bc6, rfl⟩ := own_form ho6
              clear hkeep hlow hown hg6 ho6 hl6 HQ5 HB5 HO5 HX5 hK K HPn HSz
              refine wpAnyH_ready (rs := [6]) (by kernel_rfl) (by simp) ?_
              refine AllReadyH.cons rfl (fun K hK => ?_) AllReadyH.nil
              go_simp
              refine hK.out _ _ HX6.out (fun hS => ?_)
              clear hK K
              have hnB : B7 ≠ B5 := by have h1 := HX6.out; have h2 := HB6.out.b; intro e; rw [e, h2] at h1; simp at h1
              obtain ⟨z0, z1, z2, z3⟩ := cells4 HB6.out.b
              have hz : ∀ j, w6.frozen? ⟨B5, j, none⟩ = false := fun j => by have := HB6.out.b; simp only [World.frozen?, this]; rfl
              have hoth : ∀ k, k ≠ B5 → (w6.setCell ⟨B5, 2, none⟩ (.slice bo6 (m + 1) bc6)).heap[k]? = w6.heap[k]? := fun k hk => Below.heap_setCell _ _ _ _ hk
              have HQ8 : Hid (Rq w (w6.setCell ⟨B5, 2, none⟩ (.slice bo6 (m + 1) bc6)) #[.string P.name, .slice (some ⟨g, o, none⟩) P.rows.length ac, .slice qo P.qs.length qc, .slice vo P.vs.length vc, .slice tto P.ts.length tc, .slice uo P.us.length uc, .slice oo P.on.length oc, .int .i64 P.miss]) := ⟨(hoth _ (by omega)).trans HQ6.out.p, (hoth _ (by omega)).trans HQ6.out.r, (hoth _ (by omega)).trans HQ6.out.f, HQ6.out.be.trans ((Below.refl w.heap.size w6).setCell (p := ⟨B5, 2, none⟩) (by show w.heap.size ≤ B5; omega) _)⟩
              have HB8 : Hid (Rb (w6.setCell ⟨B5, 2, none⟩ (.slice bo6 (m + 1) bc6)) P (some ⟨g, o, none⟩) qo ac qc (w.heap.size + 1 + 1) B5 ge (.slice bo6 (m + 1) bc6)) := ⟨set_at HB6.out.b (.slice bo6 (m + 1) bc6) (cs' := #[.slice (some ⟨g, o, none⟩) P.rows.length ac, .slice qo P.qs.length qc, .slice bo6 (m + 1) bc6, .slice (some ⟨ge, 0, none⟩) P.rows.length P.rows.length]) (i := 2) rfl, HB6.out.e.of_block (hoth _ HB6.out.ne.symm), HB6.out.lb, HB6.out.le, HB6.out.ne⟩
              have HO8 : Hid ((w6.setCell ⟨B5, 2, none⟩ (.slice bo6 (m + 1) bc6)).ownsRow wc.heap.size 80 1 (.slice bo6 (m + 1) bc6) (m + 1) (fL (m + 1) (fun i => (rP P.rows i).V)) ∧ wc.heap.size ≤ (w6.setCell ⟨B5, 2, none⟩ (.slice bo6 (m + 1) bc6)).heap.size) := ⟨own_keepB HO6.out.1 (fun k hk => hoth k (by have := (World.ownsRow.lt HO6.out.1 k hk).1; have := HBs.out.1; omega)), by rw [World.size_setCell]; exact HO6.out.2⟩
              refine wpAnyH_ready (rs := [7]) (by kernel_rfl) (by simp) ?_
              refine AllReadyH.cons rfl (fun K hK => ?_) AllReadyH.nil
              go_simp
              refine hK.out _ _ ((hoth _ hnB).trans HX6.out) (fun hS => ?_)
              refine wpAnyH_done (by kernel_rfl) ?_ _
              clear hK K hoth hz z0 z1 z2 z3 hS
              go_wp2_with fail
              go_roundg (P.rows.length - (m + 1))
              case measure => have := HGk.out; omega
              case rel => exact ⟨m + 1, _, by omega, rfl, by go_num, HQ8.out, HB8.out, HO8.out.1, HO8.out.2⟩
        · have hlt' : ¬ (m : Int) < (P.rows.length : Int) := by omega
          have hme : m = P.rows.length := by omega
          subst hme
          have HIr : Hid (IsRg wr P.rows (qF P.qs) ao qo bo (some ⟨ge, 0, none⟩)) := ⟨(HG.out.below HQ.out.be).r, (HG.out.below HQ.out.be).q, vals_of HO.out, fun k x hx => by
            have hk : k < P.rows.length := by have := (List.getElem?_eq_some_iff.1 hx).1; simpa [fL] using this
            rw [fL_at hk] at hx
            cases hx
            exact ⟨ge, 0, rfl, HB.out.e.lt, by rw [Nat.zero_add]; exact HB.out.e.cell hk⟩⟩
          have HCap : Hid (P.rows.length ≤ bc) := by
            obtain ⟨_, ⟨_, hz⟩ | ⟨g, cap, cur, e, _, _, h1, _⟩⟩ := HO.out
            · show P.rows.length ≤ bc; omega
            · injection e with _ _ e3; show P.rows.length ≤ bc; omega
          have HOw : Hid (∀ q, bo.map Addr.block = some q → wc.heap.size ≤ q ∧ q < wr.heap.size) := fun q hq => by
            cases bo with
            | none => cases hq
            | some a => cases hq; exact World.ownsRow.lt HO.out a.block rfl
          go_wp2_with fail
          refine wp_region_held (S := fun w' : World => w'.heap[B5]? = some (.cells #[.slice ao P.rows.length ac, .slice qo P.qs.length qc, .slice bo P.rows.length bc, .slice (some ⟨ge, 0, none⟩) P.rows.length P.rows.length] 72 (0, 0))) (by kernel_rfl) ?_
          have hS : (fun w' : World => w'.heap[B5]? = some (.cells #[.slice ao P.rows.length ac, .slice qo P.qs.length qc, .slice bo P.rows.length bc, .slice (some ⟨ge, 0, none⟩) P.rows.length P.rows.length] 72 (0, 0))) wr.drew := HB.out.b
          change wpAnyH _ _ _ _ _ _ _ _ wr.drew
          have hd : Below wr.heap.size wr wr.drew := (Below.refl _ _).drew
          have HQ2 := show Hid _ from HQ.out.below hd
          have HB2 := show Hid _ from HB.out.below hd
          have HI2 := show Hid _ from HIr.out.below hd
          have HW2 : Hid (wr.drew.heap.size = wr.heap.size) := rfl
          clear hd HQ HB HIr HO
          generalize wr.drew = x0 at *
          refine wpAnyH_take (i := 0) (v := ?cv0) rfl (by kernel_rfl) (by kernel_rfl) (by kernel_rfl) (fun _ _ _ h => h) (Or.inl ⟨by rfl, ?cy0⟩) hS ?cr0
          case cy0 =>
            intro w hSw
            try dsimp only at hSw
            obtain ⟨c0, c1, c2, c3⟩ := cells4 hSw
            first
              | (go_simp; done)
              | (go_simp; with_reducible rfl)
          refine wpAnyH_take (i := 1) (v := ?cv1) rfl (by kernel_rfl) (by kernel_rfl) (by kernel_rfl) (fun _ _ _ h => h) (Or.inl ⟨by rfl, ?cy1⟩) hS ?cr1
          case cy1 =>
            intro w hSw
            try dsimp only at hSw
            obtain ⟨c0, c1, c2, c3⟩ := cells4 hSw
            first
              | (go_simp; done)
              | (go_simp; with_reducible rfl)
          refine wpAnyH_ready (rs := [2]) (by kernel_rfl) (by simp) ?_
          refine AllReadyH.cons rfl (fun K hK => ?_) AllReadyH.nil
          have HFl := show Hid _ from fault_any (ac := ac) (qc := qc) (pc := bc) (ec := P.rows.length) HI2.out (by have := HRy.out.m; omega) HRy.out.t HRy.out.q (by have := HRy.out.k; omega) HRy.out.l
          dsimp only [rgC] at HFl
          go_simp
          refine Calls.mono HFl.out ?_
          rintro e w7 ⟨rfl, hb7⟩
          have HQ7 := show Hid _ from HQ2.out.below hb7
          have HB7 := show Hid _ from HB2.out.below hb7
          have HI7 := show Hid _ from HI2.out.below hb7
          have HW7 : Hid (wr.heap.size ≤ w7.heap.size) := by have := hb7.size; have := HW2.out; show _ ≤ _; omega
          refine hK.out _ _ HB7.out.b (fun hS => ?_)
          clear hb7 HQ2 HB2 HI2 HFl hK K HW2
          generalize hfl : fltN P.rows (ghL P.qs) P.rows.length = fl at *
          have HFl2 : Hid (fltN P.rows (ghL P.qs) P.rows.length = fl) := hfl
          clear hfl
          have hord : w.heap.size + 1 + 1 < B5 := HB7.out.lb
          obtain ⟨z0, z1, z2, z3⟩ := cells4 HQ7.out.r
          have hz : ∀ j, w7.frozen? ⟨w.heap.size + 1, j, none⟩ = false := fun j => by have := HQ7.out.r; simp only [World.frozen?, this]; rfl
          obtain ⟨a1, a2, a3⟩ := put4L (B := w.heap.size + 1) (v0 := .slice ao P.rows.length ac) (v1 := .slice qo P.qs.length qc) (v2 := .slice bo P.rows.length bc) (v3 := .slice (some ⟨ge, 0, none⟩) P.rows.length P.rows.length) HQ7.out.be (Nat.le_succ _) HQ7.out.r
          have hsz8 : ((((w7.setCell ⟨w.heap.size + 1, 0, none⟩ (.slice ao P.rows.length ac)).setCell ⟨w.heap.size + 1, 1, none⟩ (.slice qo P.qs.length qc)).setCell ⟨w.heap.size + 1, 2, none⟩ (.slice bo P.rows.length bc)).setCell ⟨w.heap.size + 1, 3, none⟩ (.slice (some ⟨ge, 0, none⟩) P.rows.length P.rows.length)).heap.size = w7.heap.size := by simp
          refine wpAnyH_ready (rs := [3]) (by kernel_rfl) (by simp) ?_
          refine AllReadyH.cons rfl (fun K hK => ?_) AllReadyH.nil
          go_simp
          refine hK.out _ _ ((a3 _ (by omega)).trans HB7.out.b) (fun hS => ?_)
          clear hK K z0 z1 z2 z3 hz
          generalize ((((w7.setCell ⟨w.heap.size + 1, 0, none⟩ (.slice ao P.rows.length ac)).setCell ⟨w.heap.size + 1, 1, none⟩ (.slice qo P.qs.length qc)).setCell ⟨w.heap.size + 1, 2, none⟩ (.slice bo P.rows.length bc)).setCell ⟨w.heap.size + 1, 3, none⟩ (.slice (some ⟨ge, 0, none⟩) P.rows.length P.rows.length)) = w8 at *
          have hf8 := (a3 _ (by omega)).trans HQ7.out.f
          obtain ⟨f0, f1⟩ := cells2 hf8
          have hf : ∀ j, w8.frozen? ⟨w.heap.size + 1 + 1, j, none⟩ = false := fun j => by simp only [World.frozen?, hf8]; rfl
          obtain ⟨c1, c2, c3⟩ := put2M (B := w.heap.size + 1 + 1) (v0 := .int .i64 (fl.1 : Int)) (v1 := .int .i64 (fl.2 : Int)) a2 (by omega) hf8
          refine wpAnyH_ready (rs := [4]) (by kernel_rfl) (by simp) ?_
          refine AllReadyH.cons rfl (fun K hK => ?_) AllReadyH.nil
          go_simp
          refine hK.out _ _ ((c3 _ (by omega)).trans hS) (fun hS => ?_)
          refine wpAnyH_done (by kernel_rfl) ?_ _
          clear hK K f0 f1 hf
          go_wp2_with fail
          obtain ⟨y0, y1⟩ := cells2 c1
          obtain ⟨u0, u1, u2, u3⟩ := cells4 ((c3 _ (by omega)).trans a1)
          refine bodyPost_ret (v := .tuple #[.agg #[.slice ao P.rows.length ac, .slice qo P.qs.length qc, .slice bo P.rows.length bc, .slice (some ⟨ge, 0, none⟩) P.rows.length P.rows.length], .agg #[.int .i64 (fl.1 : Int), .int .i64 (fl.2 : Int)]]) (by simp [results, Tryz.results26, go_sem, y0, y1, u0, u1, u2, u3]) rfl ?_
          have hoth : ∀ k, w.heap.size + 1 + 1 < k → ((w8.setCell ⟨w.heap.size + 1 + 1, 0, none⟩ (.int .i64 (fl.1 : Int))).setCell ⟨w.heap.size + 1 + 1, 1, none⟩ (.int .i64 (fl.2 : Int))).heap[k]? = w7.heap[k]? := fun k hk => (c3 k (by omega)).trans (a3 k (by omega))
          refine ⟨c2, Or.inr ⟨HIs.out, bo, some ⟨ge, 0, none⟩, bc, P.rows.length, by rw [HFl2.out], ⟨(HG.out.below c2).r, (HG.out.below c2).q, vals_keep HI7.out.p (fun a ha => hoth _ ?_) (by simp [hsz8]), vals_keep HI7.out.e (fun a ha => hoth _ ?_) (by simp [hsz8])⟩, ?_, HCap.out⟩⟩
          · have := HOw.out a.block (by rw [ha]; rfl)
            have := HBs.out.1
            omega
          · cases ha
            exact HB7.out.le
          · rintro a (ha | ha)
            · have := HOw.out a.block (by rw [ha]; rfl)
              have := HBs.out.1
              omega
            · cases ha
              have := HB7.out.le
              show w.heap.size ≤ ge
              omega
end Go.Proofs.YtnpdblcfhbamiaaGreat.Nm.Ty
