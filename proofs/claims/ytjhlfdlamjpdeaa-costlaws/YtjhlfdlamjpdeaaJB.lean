import Derived.Test.YtjhlfdlamjpdeaaJCs
import Derived.Test.YtjhlfdlamjpdeaaJNmD
namespace Go.Proofs.Ytjhlfdlamjpdeaa.Nm
open Go.RowKit Go.Maps Go.Proofs.Ytjhlfdlamjpdeaa.Sp Go.Proofs.Ytjhlfdlamjpdeaa.Lx Go.Proofs.Ytjhlfdlamjpdeaa.Gr

/-- is a policy what its rows resolve to? -/
def IsP (p : Pg) (p' : Pl) : Prop := res (p.rows.map unn) = .ok p' ∧ p'.g = p
/-- what Bound tells -/
def BRes (p : Pg) (rd : List Int) (r : Except (Nat × Nat) Co) : Prop :=
  ((¬ ∃ p', IsP p p') ∧ r = .error (23, 0)) ∨ ∃ p', IsP p p' ∧ ((rd.length ≠ p.rows.length ∨ rd.any badN = true) ∧ r = .error (43, 0) ∨ rd.length = p.rows.length ∧ rd.any badN = false ∧ r = evR p.rows rd p'.us p.qs.length)
theorem IsP.uniq {p : Pg} {a b : Pl} (h : IsP p a) (k : IsP p b) : a = b := by
  have := h.1.symm.trans k.1
  cases this
  rfl
theorem BRes.uniq {p : Pg} {rd : List Int} {r r' : Except (Nat × Nat) Co} (h : BRes p rd r) (k : BRes p rd r') : r = r' := by
  rcases h with ⟨h1, h2⟩ | ⟨p1, h1, h2⟩
  · rcases k with ⟨k1, k2⟩ | ⟨p2, k1, k2⟩
    · rw [h2, k2]
    · exact absurd ⟨p2, k1⟩ h1
  · rcases k with ⟨k1, k2⟩ | ⟨p2, k1, k2⟩
    · exact absurd ⟨p1, h1⟩ k1
    · cases h1.uniq k1
      rcases h2 with ⟨h2, h3⟩ | ⟨h2, h3, h4⟩
      · rcases k2 with ⟨_, k3⟩ | ⟨k2, k3, k4⟩
        · rw [h3, k3]
        · rcases h2 with h2 | h2
          · exact absurd k2 h2
          · rw [k3] at h2; cases h2
      · rcases k2 with ⟨k2, _⟩ | ⟨_, _, k4⟩
        · rcases k2 with k2 | k2
          · exact absurd h2 k2
          · rw [h3] at k2; cases k2
        · rw [h4, k4]
/-- what is known of the rows of such a policy -/
theorem IsP.pc {p : Pg} {p' : Pl} (h : IsP p p') (hl : p.rows.length ≤ 65536) {rd : List Int} (hr : rd.length = p.rows.length) : Pc p.rows p'.us rd ∧ p.qs.length ≤ 16 ∧ (∀ i, i < p.rows.length → (rat p.rows i).kind = 8 ∨ (rat p.rows i).kind = 9 → ∃ n : Nat, (rat p.rows i).n = (n : Int) ∧ n < p.qs.length) ∧ p.us = p'.us.map (fun n : Nat => (n : Int)) ∧ p.on.length = p.qs.length := by
  obtain ⟨h1, h2⟩ := h
  have ht := res_tg (by simpa using hl) h1
  have hf := res_least h1
  have h7 := res_told7 (by rw [List.length_map]; omega) h1
  subst h2
  have hlen : p'.rows.length ≤ 65536 := hl
  have hl2 : ∀ i, i < p'.rows.length → least (rat p'.rows i).kind ≤ km p'.rows i := hf
  refine ⟨⟨ht.tree, hlen, hr, fun i hi e => ?_, fun i hi e => ?_, fun i hi e => ?_, ht.u, ht.ul, ht.cls.ahead, ht.cls.there⟩, ht.q, fun i hi e => ?_, rfl, h7.onl⟩
  · have e' : (rat p'.rows i).kind = 12 := e
    have := hl2 i hi
    rw [e'] at this
    exact this
  · have e' : (rat p'.rows i).kind = 13 := e
    have := hl2 i hi
    rw [e'] at this
    exact Nat.le_trans (by decide) this
  · have e' : (rat p'.rows i).kind = 8 ∨ (rat p'.rows i).kind = 9 ∨ (rat p'.rows i).kind = 10 := e
    have := hl2 i hi
    rcases e' with e' | e' | e' <;> rw [e'] at this <;> exact this
  · have e' : (rat p'.rows i).kind = 8 ∨ (rat p'.rows i).kind = 9 := e
    have hi' : i < ((Pl.g p').rows.map unn).length := by rw [List.length_map]; exact hi
    obtain ⟨k1, _, _, _, k5⟩ := h7.row i hi'
    rw [← k1] at k5
    rcases k5 with k5 | ⟨n, k6, k7⟩
    · rcases e' with e' | e' <;> rw [e'] at k5 <;> exact absurd k5 (by decide)
    · refine ⟨n, k6, ?_⟩
      have hz : decl (rat p'.rows i).kind + nmd (rat p'.rows i).kind = 1 := by rcases e' with e' | e' <;> rw [e'] <;> rfl
      rw [hz] at k7
      unfold nameOf at k7
      rw [if_pos rfl] at k7
      cases hq : p'.qs[n]? with
      | none => rw [hq] at k7; cases k7
      | some q => exact (List.getElem?_eq_some_iff.1 hq).1
end Go.Proofs.Ytjhlfdlamjpdeaa.Nm

namespace Go.Proofs.Ytjhlfdlamjpdeaa.Nm
open Go.RowKit Go.Maps Go.Proofs.Ytjhlfdlamjpdeaa.Sp Go.Proofs.Ytjhlfdlamjpdeaa.Lx Go.Proofs.Ytjhlfdlamjpdeaa.Gr

abbrev polC (p : Pg) (ao qo vo tto uo oo : Option Addr) (ac qc vc tc uc oc : Nat) : Array Value := #[.string p.name, .slice ao p.rows.length ac, .slice qo p.qs.length qc, .slice vo p.vs.length vc, .slice tto p.ts.length tc, .slice uo p.us.length uc, .slice oo p.on.length oc, .int .i64 p.miss]
/-- Bound at work: its boxes, its results -/
structure BdW (w wr : World) (B : Nat) (pc tc : Array Value) : Prop where
  p : wr.heap[B]? = some (.cells pc 40 (0, 0))
  t : wr.heap[B + 1]? = some (.cells tc 49 (0, 0))
  b0 : wr.heap[B + 1 + 1]? = some (.cells #[.slice none 0 0, .int .i64 0] 42 (0, 0))
  b1 : wr.heap[B + 1 + 1 + 1]? = some (.cells #[.int .i64 0, .int .i64 0] 44 (0, 0))
  be : Below B w wr
theorem BdW.below {w wr w' : World} {B : Nat} {pc tc : Array Value} (h : BdW w wr B pc tc) (hb : Below wr.heap.size wr w') (hB : B ≤ wr.heap.size) : BdW w w' B pc tc :=
  ⟨(hb.block _ (blk_in h.p)).trans h.p, (hb.block _ (blk_in h.t)).trans h.t, (hb.block _ (blk_in h.b0)).trans h.b0, (hb.block _ (blk_in h.b1)).trans h.b1, h.be.trans (hb.mono hB)⟩
theorem bdw_start (w : World) (pc tc : Array Value) : BdW w ((((w.alloc (.cells pc 40)).alloc (.cells tc 49)).alloc (.cells #[.slice none 0 0, .int .i64 0] 42)).alloc (.cells #[.int .i64 0, .int .i64 0] 44)) w.heap.size pc tc := by
  refine ⟨?_, ?_, ?_, ?_, ?_⟩
  · rw [alloc_old _ _ _ (by simp; omega), alloc_old _ _ _ (by simp; omega), alloc_old _ _ _ (by simp)]
    exact alloc_at _ _ _ rfl
  · rw [alloc_old _ _ _ (by simp), alloc_old _ _ _ (by simp)]
    exact alloc_at _ _ _ (by simp)
  · rw [alloc_old _ _ _ (by simp)]
    exact alloc_at _ _ _ (by simp)
  · exact alloc_at _ _ _ (by simp)
  · exact ((((Below.refl _ w).alloc (Nat.le_refl _) _).alloc (by simp) _).alloc (by simp; omega) _).alloc (by simp; omega) _
set_option maxHeartbeats 12800000 in
set_option maxRecDepth 100000 in
/-- Bound -/
theorem cost_any {w : World} {p : Pg} {ao qo vo tto uo oo xo yo eo : Option Addr} {ac qc vc tc uc oc nx cx ny cy ec : Nat} {rd : List Int} (h : RdG w p ao qo vo tto uo oo) (hs : p.Sm) (hl : p.rows.length ≤ 65536) (hnil : ao = none → ac = 0) (hd : IsVals w eo (iv rd)) (hrd : rd.length ≤ 17592186043904) :
    Calls Try.prog 18 #[pvG p ao qo vo tto uo oo ac qc vc tc uc oc, .agg #[.slice xo nx cx, .slice yo ny cy, .slice eo rd.length ec]] w fun e w' => ∃ r, BRes p rd r ∧ CTold w r e w' := by
  have HS0 := show Hid _ from bdw_start w (polC p ao qo vo tto uo oo ac qc vc tc uc oc) #[.slice xo nx cx, .slice yo ny cy, .slice eo rd.length ec]
  have HB : Hid (∀ wr, BdW w wr w.heap.size (polC p ao qo vo tto uo oo ac qc vc tc uc oc) #[.slice xo nx cx, .slice yo ny cy, .slice eo rd.length ec] → Below w.heap.size w wr ∧ w.heap.size ≤ wr.heap.size) := fun wr h => ⟨h.be, h.be.size⟩
  have HCk := show Hid _ from checkP_any (ac := ac) (qc := qc) (vc := vc) (tc := tc) (uc := uc) (oc := oc) (h.below HS0.out.be) hs hnil
  have HR := show Hid _ from h
  have HD : Hid (IsVals w eo (iv rd) ∧ rd.length ≤ 17592186043904 ∧ p.rows.length ≤ 65536) := ⟨hd, hrd, hl⟩
  obtain ⟨k0, k1, k2, k3, k4, k5, k6, k7⟩ := pol8 HS0.out.p
  clear h hs hnil hd hl
  dsimp only [pvG, polC] at *
  go_enter Try.func18, Try.ntmps18
  go_wp2_with fail
  generalize ((((w.alloc (.cells #[.string p.name, .slice ao p.rows.length ac, .slice qo p.qs.length qc, .slice vo p.vs.length vc, .slice tto p.ts.length tc, .slice uo p.us.length uc, .slice oo p.on.length oc, .int .i64 p.miss] 40)).alloc (.cells #[.slice xo nx cx, .slice yo ny cy, .slice eo rd.length ec] 49)).alloc (.cells #[.slice none 0 0, .int .i64 0] 42)).alloc (.cells #[.int .i64 0, .int .i64 0] 44)) = w1 at *
  clear k0 k1 k2 k3 k4 k5 k6 k7
  refine Calls.mono HCk.out ?_
  rintro e w2 ⟨hor, hb2⟩
  have h2 := HS0.out.below hb2 (HB.out _ HS0.out).2
  have HW2 := show Hid _ from h2
  clear HCk hb2 HS0
  rcases hor with ⟨p', hp1, hp2, rfl⟩ | ⟨hno, rfl⟩
  · have HP' : Hid (IsP p p') := ⟨hp1, hp2⟩
    obtain ⟨k0, k1, k2, k3, k4, k5, k6, k7⟩ := pol8 h2.p
    obtain ⟨t0, t1, t2⟩ := read3 h2.t
    have hrl : (rd.length : Int) ≤ 17592186043904 := by omega
    have hpl : (p.rows.length : Int) ≤ 65536 := by have := HD.out.2.2; omega
    clear hp1 hp2
    by_cases hlen : rd.length = p.rows.length
    · have hne : ((rd.length : Int) != (p.rows.length : Int)) = false := by simp [hlen]
      have HCt := show Hid _ from contains_any (c := ec) (HD.out.1.below HW2.out.be) HD.out.2.1
      have HLen := show Hid _ from hlen
      clear hlen
      cases hbad : rd.any badN with
      | true =>
        rw [hbad] at HCt
        have HNo : Hid (BRes p rd (.error (43, 0))) := Or.inr ⟨p', HP'.out, Or.inl ⟨Or.inr hbad, rfl⟩⟩
        clear hbad
        go_wp2_with fail
        refine Calls.mono HCt.out ?_
        rintro e w3 ⟨rfl, rfl⟩
        obtain ⟨r0, r1, r2⟩ := read2 h2.b0
        obtain ⟨s0, s1, s2⟩ := read2 h2.b1
        have z0 := r2 0
        have z1 := r2 1
        have z2 := s2 0
        have z3 := s2 1
        obtain ⟨p1, p2, p3, p4⟩ := wrote4 h2.b0 h2.b1 (by omega) h2.be (.slice none 0 0) (.int .i64 0) (.int .i64 43) (.int .i64 0)
        have HP : Hid (_ ∧ _ ∧ Below w.heap.size w _) := ⟨p1, p2, p3⟩
        clear r2 s2 p1 p2 p3 p4 h2 k0 k1 k2 k3 k4 k5 k6 k7 t0 t1 t2 HCt
        go_wp2_with fail
        clear r0 r1 s0 s1 z0 z1 z2 z3
        obtain ⟨y0, y1, _⟩ := read2 HP.out.1
        obtain ⟨y2, y3, _⟩ := read2 HP.out.2.1
        have HX := show Hid _ from HP.out.2.2
        clear HP
        generalize ((((w3.setCell ⟨w.heap.size + 1 + 1, 0, none⟩ (.slice none 0 0)).setCell ⟨w.heap.size + 1 + 1, 1, none⟩ (.int .i64 0)).setCell ⟨w.heap.size + 1 + 1 + 1, 0, none⟩ (.int .i64 43)).setCell ⟨w.heap.size + 1 + 1 + 1, 1, none⟩ (.int .i64 0)) = w9 at *
        exact bodyPost_ret (v := .tuple #[.agg #[.slice none 0 0, .int .i64 0], .agg #[.int .i64 43, .int .i64 0]]) (by simp [results, Try.results18, go_sem, y0, y1, y2, y3]) rfl ⟨_, HNo.out, HX.out, rfl⟩
      | false =>
        rw [hbad] at HCt
        have HYes : Hid (BRes p rd (evR p.rows rd p'.us p.qs.length)) := Or.inr ⟨p', HP'.out, Or.inr ⟨HLen.out, hbad, rfl⟩⟩
        obtain ⟨hPc, hq, hev, hus, _⟩ := HP'.out.pc HD.out.2.2 HLen.out
        have hul : p.us.length = p'.us.length := by rw [hus, List.length_map]
        have hR2 := RdG.below HR.out h2.be
        have hrg : Rg (w2.alloc (.cells #[.slice ao p.rows.length ac, .slice uo p.us.length uc, .slice eo rd.length ec] 55)) w2.heap.size ao uo eo ac uc ec p.rows p'.us rd := ⟨by rw [← hul]; exact heap_alloc_new w2 _, hR2.r.below ((Below.refl _ w2).alloc (Nat.le_refl _) _), by
          have hu2 := hR2.u
          rw [hus] at hu2
          exact (nats_vals hu2).below ((Below.refl _ w2).alloc (Nat.le_refl _) _), (HD.out.1.below h2.be).below ((Below.refl _ w2).alloc (Nat.le_refl _) _)⟩
        have HEv := show Hid _ from events_any hPc hrg hq hev
        have H3 := show Hid _ from h2.below ((Below.refl _ w2).alloc (Nat.le_refl _) (.cells #[.slice ao p.rows.length ac, .slice uo p.us.length uc, .slice eo rd.length ec] 55)) (HB.out _ h2).2
        obtain ⟨q0, q1, q2, q3, q4, q5, q6, q7⟩ := pol8 H3.out.p
        have hq2 : (p.qs.length : Int) ≤ 16 := by omega
        clear hbad hPc hq hev hus hul hR2 hrg
        generalize evR p.rows rd p'.us p.qs.length = R at *
        go_wp2_with fail
        refine Calls.mono HCt.out ?_
        rintro e w3 ⟨rfl, rfl⟩
        clear HCt
        go_wp2_with fail
        generalize w3.alloc (.cells #[.slice ao p.rows.length ac, .slice uo p.us.length uc, .slice eo rd.length ec] 55) = w4 at *
        refine Calls.mono HEv.out ?_
        rintro e w5 ⟨hb5, hm5⟩
        have h5 := H3.out.below hb5 (HB.out _ H3.out).2
        clear HEv k0 k1 k2 k3 k4 k5 k6 k7 t0 t1 t2 q0 q1 q2 q3 q4 q5 q6 q7
        cases R with
        | error ci =>
          obtain ⟨c1, c2⟩ := ci
          obtain rfl := hm5
          obtain ⟨r0, r1, r2⟩ := read2 h5.b0
          obtain ⟨s0, s1, s2⟩ := read2 h5.b1
          have z0 := r2 0
          have z1 := r2 1
          have z2 := s2 0
          have z3 := s2 1
          obtain ⟨p1, p2, p3, p4⟩ := wrote4 h5.b0 h5.b1 (by omega) h5.be (.slice none 0 0) (.int .i64 0) (.int .i64 (c1 : Int)) (.int .i64 (c2 : Int))
          have HP : Hid (_ ∧ _ ∧ Below w.heap.size w _) := ⟨p1, p2, p3⟩
          clear r2 s2 p1 p2 p3 p4 h2 h5 hb5
          go_wp2_with fail
          clear r0 r1 s0 s1 z0 z1 z2 z3
          obtain ⟨y0, y1, _⟩ := read2 HP.out.1
          obtain ⟨y2, y3, _⟩ := read2 HP.out.2.1
          have HX := show Hid _ from HP.out.2.2
          clear HP
          generalize ((((w5.setCell ⟨w.heap.size + 1 + 1, 0, none⟩ (.slice none 0 0)).setCell ⟨w.heap.size + 1 + 1, 1, none⟩ (.int .i64 0)).setCell ⟨w.heap.size + 1 + 1 + 1, 0, none⟩ (.int .i64 (c1 : Int))).setCell ⟨w.heap.size + 1 + 1 + 1, 1, none⟩ (.int .i64 (c2 : Int))) = w9 at *
          exact bodyPost_ret (v := .tuple #[.agg #[.slice none 0 0, .int .i64 0], .agg #[.int .i64 (c1 : Int), .int .i64 (c2 : Int)]]) (by simp [results, Try.results18, go_sem, y0, y1, y2, y3]) rfl ⟨_, HYes.out, HX.out, rfl⟩
        | ok c =>
          obtain ⟨ob, rfl, hob, hrow⟩ := hm5
          have HOb : Hid (w.heap.size ≤ ob) := Nat.le_trans (HB.out _ H3.out).2 hob
          have hobX : w.heap.size + 1 + 1 + 1 < ob := Nat.lt_of_lt_of_le (blk_in H3.out.b1) hob
          obtain ⟨r0, r1, r2⟩ := read2 h5.b0
          obtain ⟨s0, s1, s2⟩ := read2 h5.b1
          have z0 := r2 0
          have z1 := r2 1
          have z2 := s2 0
          have z3 := s2 1
          obtain ⟨p1, p2, p3, p4⟩ := wrote4 h5.b0 h5.b1 (by omega) h5.be (.slice (some ⟨ob, 0, none⟩) c.on.length c.on.length) (.int .i64 (c.miss : Int)) (.int .i64 0) (.int .i64 0)
          have HP : Hid (_ ∧ _ ∧ Below w.heap.size w _ ∧ RowN _ ob c.on) := ⟨p1, p2, p3, (p4 _ (by omega) (by omega)).trans hrow⟩
          clear r2 s2 p1 p2 p3 p4 h2 h5 hb5 hob hrow hobX
          go_wp2_with fail
          clear r0 r1 s0 s1 z0 z1 z2 z3
          obtain ⟨y0, y1, _⟩ := read2 HP.out.1
          obtain ⟨y2, y3, _⟩ := read2 HP.out.2.1
          have HX := show Hid _ from HP.out.2.2
          clear HP
          generalize ((((w5.setCell ⟨w.heap.size + 1 + 1, 0, none⟩ (.slice (some ⟨ob, 0, none⟩) c.on.length c.on.length)).setCell ⟨w.heap.size + 1 + 1, 1, none⟩ (.int .i64 (c.miss : Int))).setCell ⟨w.heap.size + 1 + 1 + 1, 0, none⟩ (.int .i64 0)).setCell ⟨w.heap.size + 1 + 1 + 1, 1, none⟩ (.int .i64 0)) = w9 at *
          exact bodyPost_ret (v := .tuple #[.agg #[.slice (some ⟨ob, 0, none⟩) c.on.length c.on.length, .int .i64 (c.miss : Int)], .agg #[.int .i64 0, .int .i64 0]]) (by simp [results, Try.results18, go_sem, y0, y1, y2, y3]) rfl ⟨_, HYes.out, HX.out.1, ob, rfl, HOb.out, HX.out.2⟩
    · have hne : ((rd.length : Int) != (p.rows.length : Int)) = true := by simp; omega
      have HNo : Hid (BRes p rd (.error (43, 0))) := Or.inr ⟨p', HP'.out, Or.inl ⟨Or.inl hlen, rfl⟩⟩
      clear hlen
      obtain ⟨r0, r1, r2⟩ := read2 h2.b0
      obtain ⟨s0, s1, s2⟩ := read2 h2.b1
      have z0 := r2 0
      have z1 := r2 1
      have z2 := s2 0
      have z3 := s2 1
      obtain ⟨p1, p2, p3, p4⟩ := wrote4 h2.b0 h2.b1 (by omega) h2.be (.slice none 0 0) (.int .i64 0) (.int .i64 43) (.int .i64 0)
      have HP : Hid (_ ∧ _ ∧ Below w.heap.size w _) := ⟨p1, p2, p3⟩
      clear r2 s2 p1 p2 p3 p4 h2
      go_wp2_with fail
      clear r0 r1 s0 s1 z0 z1 z2 z3
      obtain ⟨y0, y1, _⟩ := read2 HP.out.1
      obtain ⟨y2, y3, _⟩ := read2 HP.out.2.1
      have HX := show Hid _ from HP.out.2.2
      clear HP
      generalize ((((w2.setCell ⟨w.heap.size + 1 + 1, 0, none⟩ (.slice none 0 0)).setCell ⟨w.heap.size + 1 + 1, 1, none⟩ (.int .i64 0)).setCell ⟨w.heap.size + 1 + 1 + 1, 0, none⟩ (.int .i64 43)).setCell ⟨w.heap.size + 1 + 1 + 1, 1, none⟩ (.int .i64 0)) = w9 at *
      exact bodyPost_ret (v := .tuple #[.agg #[.slice none 0 0, .int .i64 0], .agg #[.int .i64 43, .int .i64 0]]) (by simp [results, Try.results18, go_sem, y0, y1, y2, y3]) rfl ⟨_, HNo.out, HX.out, rfl⟩
  · have HNo : Hid (BRes p rd (.error (23, 0))) := Or.inl ⟨hno, rfl⟩
    obtain ⟨r0, r1, r2⟩ := read2 h2.b0
    obtain ⟨s0, s1, s2⟩ := read2 h2.b1
    have z0 := r2 0
    have z1 := r2 1
    have z2 := s2 0
    have z3 := s2 1
    obtain ⟨p1, p2, p3, _⟩ := wrote4 h2.b0 h2.b1 (by omega) h2.be (.slice none 0 0) (.int .i64 0) (.int .i64 23) (.int .i64 0)
    have HP : Hid (_ ∧ _ ∧ Below w.heap.size w _) := ⟨p1, p2, p3⟩
    clear h2 r2 s2 p1 p2 p3 hno
    go_wp2_with fail
    clear r0 r1 s0 s1 z0 z1 z2 z3
    obtain ⟨y0, y1, _⟩ := read2 HP.out.1
    obtain ⟨y2, y3, _⟩ := read2 HP.out.2.1
    have HX : Hid (Below w.heap.size w _) := HP.out.2.2
    clear HP
    generalize ((((w2.setCell ⟨w.heap.size + 1 + 1, 0, none⟩ (.slice none 0 0)).setCell ⟨w.heap.size + 1 + 1, 1, none⟩ (.int .i64 0)).setCell ⟨w.heap.size + 1 + 1 + 1, 0, none⟩ (.int .i64 23)).setCell ⟨w.heap.size + 1 + 1 + 1, 1, none⟩ (.int .i64 0)) = w4 at *
    exact bodyPost_ret (v := .tuple #[.agg #[.slice none 0 0, .int .i64 0], .agg #[.int .i64 23, .int .i64 0]]) (by simp [results, Try.results18, go_sem, y0, y1, y2, y3]) rfl ⟨_, HNo.out, HX.out, rfl⟩
end Go.Proofs.Ytjhlfdlamjpdeaa.Nm

namespace Go.Proofs.Ytjhlfdlamjpdeaa.Nm
open Go.RowKit Go.Maps Go.Proofs.Ytjhlfdlamjpdeaa.Sp Go.Proofs.Ytjhlfdlamjpdeaa.Lx Go.Proofs.Ytjhlfdlamjpdeaa.Gr

def bp10 : ByteArray := ⟨#[112]⟩
/-- the rows of head's policy -/
def hrows10 : List Rz := [⟨1, bp10, 0, 0, 1⟩, ⟨10, ⟨#[]⟩, 0, 0, 1⟩, ⟨11, ⟨#[]⟩, 0, 0, 1⟩, ⟨23, ⟨#[]⟩, 0, 0, 0⟩]
def hpl10 : Pl := ⟨bp10, hrows10, [], [], [], [], [], 2⟩
theorem isP_head : IsP hpl10.g hpl10 := ⟨by kernel_rfl, rfl⟩
theorem ev_head : evR hrows10 [0, 0, 0, 0] [] 0 = .ok ⟨[], 2⟩ := by kernel_rfl
theorem bres_head {r : Except (Nat × Nat) Co} (h : BRes hpl10.g [0, 0, 0, 0] r) : r = .ok ⟨[], 2⟩ := by
  have k : BRes hpl10.g [0, 0, 0, 0] (.ok ⟨[], 2⟩) := Or.inr ⟨hpl10, isP_head, Or.inr ⟨rfl, by decide, ev_head.symm⟩⟩
  exact h.uniq k
abbrev hcells10 : Array Value := #[.int .i64 1, .string bp10, .int .i64 0, .int .i64 0, .int .i64 1, .int .i64 10, .string ⟨#[]⟩, .int .i64 0, .int .i64 0, .int .i64 1, .int .i64 11, .string ⟨#[]⟩, .int .i64 0, .int .i64 0, .int .i64 1, .int .i64 23, .string ⟨#[]⟩, .int .i64 0, .int .i64 0, .int .i64 0]
theorem rz_head (w : World) : IsRz (w.alloc (.cells hcells10 35)) (some ⟨w.heap.size, 0, none⟩) hrows10 := by
  have hb := heap_alloc_new w (.cells hcells10 35)
  intro i x hx
  have hi : i < 4 := (List.getElem?_eq_some_iff.1 hx).1
  refine ⟨w.heap.size, 0, rfl, by simp, ?_⟩
  obtain rfl | rfl | rfl | rfl : i = 0 ∨ i = 1 ∨ i = 2 ∨ i = 3 := by omega
  all_goals
    cases hx
    simp only [World.cell?, hb]
    exact ⟨rfl, rfl, rfl, rfl, rfl⟩
theorem sm_head10 : hpl10.g.Sm := ⟨by decide, by decide, by decide, by decide, by decide, by decide⟩
theorem vals_empty (w : World) (ao : Option Addr) : IsVals w ao [] := fun k x hx => by simp at hx
theorem sum_head {W : World} {s : Nat} (hs : W.heap.size = s) : Calls Try.prog 9 #[.slice (some ⟨s, 0, none⟩) 3 3] (W.alloc (.cells #[.int .i64 3, .int .i64 (-5), .int .i64 4] 3)) fun e w' => e = .returned (.int .i64 7) ∧ w' = W.alloc (.cells #[.int .i64 3, .int .i64 (-5), .int .i64 4] 3) := by
  subst hs
  exact sum_any (l := [3, -5, 4]) (c := 3) (vals_new W _ _) (show 3 ≤ 17592186043904 by decide)
theorem times_head {W : World} {s : Nat} (hs : W.heap.size = s) : Calls Try.prog 10 #[.slice (some ⟨s, 0, none⟩) 2 2] (W.alloc (.cells #[.int .i64 3, .int .i64 4] 3)) fun e w' => e = .returned (.int .i64 12) ∧ w' = W.alloc (.cells #[.int .i64 3, .int .i64 4] 3) := by
  subst hs
  exact times_any (l := [3, 4]) (c := 2) (vals_new W _ _) (show 2 ≤ 17592186043904 by decide)
theorem bound_head {W : World} {g s : Nat} (h : IsRz W (some ⟨g, 0, none⟩) hrows10) (hs : W.heap.size = s) : Calls Try.prog 18 #[.agg #[.string ⟨#[112]⟩, .slice (some ⟨g, 0, none⟩) 4 4, .slice none 0 0, .slice none 0 0, .slice none 0 0, .slice none 0 0, .slice none 0 0, .int .i64 2], .agg #[.slice none 0 0, .slice none 0 0, .slice (some ⟨s, 0, none⟩) 4 4]] (W.alloc (.cells #[.int .i64 0, .int .i64 0, .int .i64 0, .int .i64 0] 3)) fun e w' => ∃ ob, e = .returned (.tuple #[.agg #[.slice (some ⟨ob, 0, none⟩) 0 0, .int .i64 2], .agg #[.int .i64 0, .int .i64 0]]) ∧ Below W.heap.size W w' := by
  subst hs
  have hb : Below W.heap.size W (W.alloc (.cells #[.int .i64 0, .int .i64 0, .int .i64 0, .int .i64 0] 3)) := (Below.refl _ W).alloc (Nat.le_refl _) _
  have := cost_any (p := hpl10.g) (rd := [0, 0, 0, 0]) (ao := some ⟨g, 0, none⟩) (qo := none) (vo := none) (tto := none) (uo := none) (oo := none) (xo := none) (yo := none) (eo := some ⟨W.heap.size, 0, none⟩) (ac := 4) (qc := 0) (vc := 0) (tc := 0) (uc := 0) (oc := 0) (nx := 0) (cx := 0) (ny := 0) (cy := 0) (ec := 4) (w := W.alloc (.cells #[.int .i64 0, .int .i64 0, .int .i64 0, .int .i64 0] 3)) ⟨h.below hb, vals_empty _ _, vals_empty _ _, vals_empty _ _, vals_empty _ _, vals_empty _ _⟩ sm_head10 (by decide) (fun e => by cases e) (vals_new W _ _) (by decide)
  refine Calls.mono this ?_
  rintro e w' ⟨r, hr, hb', hm⟩
  rw [bres_head hr] at hm
  obtain ⟨ob, rfl, _⟩ := hm
  exact ⟨ob, rfl, hb.trans (hb'.mono hb.size)⟩
set_option maxHeartbeats 6400000 in
set_option maxRecDepth 100000 in
/-- two sums and products, and a miss's block of one doing -/
theorem head10 (w : World) : Calls Try.prog 7 #[] w fun e w' => e = .returned (.bool true) ∧ Below w.heap.size w w' := by
  have hb1 : Below w.heap.size w (w.alloc (.cells hcells10 35)) := (Below.refl _ w).alloc (Nat.le_refl _) _
  have hb2 : Below (w.alloc (.cells hcells10 35)).heap.size (w.alloc (.cells hcells10 35)) ((w.alloc (.cells hcells10 35)).alloc (.cells #[.string ⟨#[112]⟩, .slice (some ⟨w.heap.size, 0, none⟩) 4 4, .slice none 0 0, .slice none 0 0, .slice none 0 0, .slice none 0 0, .slice none 0 0, .int .i64 2] 40)) := (Below.refl _ _).alloc (Nat.le_refl _) _
  have hrz := (rz_head w).below hb2
  have hbx : Below w.heap.size w ((w.alloc (.cells hcells10 35)).alloc (.cells #[.string ⟨#[112]⟩, .slice (some ⟨w.heap.size, 0, none⟩) 4 4, .slice none 0 0, .slice none 0 0, .slice none 0 0, .slice none 0 0, .slice none 0 0, .int .i64 2] 40)) := hb1.trans (hb2.mono hb1.size)
  obtain ⟨k0, k1, k2, k3, k4, k5, k6, k7⟩ := pol8 (heap_alloc_new (w.alloc (.cells hcells10 35)) (.cells #[.string ⟨#[112]⟩, .slice (some ⟨w.heap.size, 0, none⟩) 4 4, .slice none 0 0, .slice none 0 0, .slice none 0 0, .slice none 0 0, .slice none 0 0, .int .i64 2] 40))
  have HW : Hid (IsRz ((w.alloc (.cells hcells10 35)).alloc (.cells #[.string ⟨#[112]⟩, .slice (some ⟨w.heap.size, 0, none⟩) 4 4, .slice none 0 0, .slice none 0 0, .slice none 0 0, .slice none 0 0, .slice none 0 0, .int .i64 2] 40)) (some ⟨w.heap.size, 0, none⟩) hrows10 ∧ Below w.heap.size w ((w.alloc (.cells hcells10 35)).alloc (.cells #[.string ⟨#[112]⟩, .slice (some ⟨w.heap.size, 0, none⟩) 4 4, .slice none 0 0, .slice none 0 0, .slice none 0 0, .slice none 0 0, .slice none 0 0, .int .i64 2] 40))) := ⟨hrz, hbx⟩
  clear hb1 hb2 hrz hbx
  unfold hcells10 bp10 at *
  go_enter Try.func7, Try.ntmps7
  go_wp2_with fail
  have HSz : Hid (((w.alloc (.cells #[.int .i64 1, .string ⟨#[112]⟩, .int .i64 0, .int .i64 0, .int .i64 1, .int .i64 10, .string ⟨#[]⟩, .int .i64 0, .int .i64 0, .int .i64 1, .int .i64 11, .string ⟨#[]⟩, .int .i64 0, .int .i64 0, .int .i64 1, .int .i64 23, .string ⟨#[]⟩, .int .i64 0, .int .i64 0, .int .i64 0] 35)).alloc (.cells #[.string ⟨#[112]⟩, .slice (some ⟨w.heap.size, 0, none⟩) 4 4, .slice none 0 0, .slice none 0 0, .slice none 0 0, .slice none 0 0, .slice none 0 0, .int .i64 2] 40)).heap.size = w.heap.size + 1 + 1) := by show _ = _; simp
  clear k0 k1 k2 k3 k4 k5 k6 k7
  generalize ((w.alloc (.cells #[.int .i64 1, .string ⟨#[112]⟩, .int .i64 0, .int .i64 0, .int .i64 1, .int .i64 10, .string ⟨#[]⟩, .int .i64 0, .int .i64 0, .int .i64 1, .int .i64 11, .string ⟨#[]⟩, .int .i64 0, .int .i64 0, .int .i64 1, .int .i64 23, .string ⟨#[]⟩, .int .i64 0, .int .i64 0, .int .i64 0] 35)).alloc (.cells #[.string ⟨#[112]⟩, .slice (some ⟨w.heap.size, 0, none⟩) 4 4, .slice none 0 0, .slice none 0 0, .slice none 0 0, .slice none 0 0, .slice none 0 0, .int .i64 2] 40)) = W2 at *
  have HC := show Hid _ from bound_head HW.out.1 HSz.out
  refine Calls.mono HC.out ?_
  rintro e w3 ⟨ob, rfl, hb3⟩
  have HB3 : Hid (Below w.heap.size w w3) := HW.out.2.trans (hb3.mono HW.out.2.size)
  clear hb3 HC HSz HW
  have hx1 : ((w3.alloc (.cells #[.slice (some ⟨ob, 0, none⟩) 0 0, .int .i64 2] 42)).alloc (.cells #[.int .i64 0, .int .i64 0] 44)).heap[w3.heap.size]? = some (.cells #[.slice (some ⟨ob, 0, none⟩) 0 0, .int .i64 2] 42 (0, 0)) := by rw [alloc_old _ _ _ (by simp)]; exact alloc_at _ _ _ rfl
  have hx2 : ((w3.alloc (.cells #[.slice (some ⟨ob, 0, none⟩) 0 0, .int .i64 2] 42)).alloc (.cells #[.int .i64 0, .int .i64 0] 44)).heap[w3.heap.size + 1]? = some (.cells #[.int .i64 0, .int .i64 0] 44 (0, 0)) := alloc_at _ _ _ (by simp)
  have HB4 : Hid (Below w.heap.size w ((w3.alloc (.cells #[.slice (some ⟨ob, 0, none⟩) 0 0, .int .i64 2] 42)).alloc (.cells #[.int .i64 0, .int .i64 0] 44))) := (HB3.out.alloc HB3.out.size _).alloc (by have := HB3.out.size; simp; omega) _
  obtain ⟨r0, r1, _⟩ := read2 hx1
  obtain ⟨s0, s1, _⟩ := read2 hx2
  clear hx1 hx2
  have HSz : Hid (((w3.alloc (.cells #[.slice (some ⟨ob, 0, none⟩) 0 0, .int .i64 2] 42)).alloc (.cells #[.int .i64 0, .int .i64 0] 44)).heap.size = w3.heap.size + 1 + 1) := by show _ = _; simp
  go_wp2_with fail
  clear r0 r1 s0 s1
  generalize ((w3.alloc (.cells #[.slice (some ⟨ob, 0, none⟩) 0 0, .int .i64 2] 42)).alloc (.cells #[.int .i64 0, .int .i64 0] 44)) = w4 at *
  have HSm := show Hid _ from sum_head HSz.out
  have HB5 : Hid (Below w.heap.size w (w4.alloc (.cells #[.int .i64 3, .int .i64 (-5), .int .i64 4] 3))) := HB4.out.alloc HB4.out.size _
  refine Calls.mono HSm.out ?_
  rintro e w5 ⟨rfl, rfl⟩
  clear HSm HB4 HB3 HSz
  generalize w4.alloc (.cells #[.int .i64 3, .int .i64 (-5), .int .i64 4] 3) = w5 at *
  have HSm := show Hid _ from times_head (W := w5) rfl
  have HB6 : Hid (Below w.heap.size w (w5.alloc (.cells #[.int .i64 3, .int .i64 4] 3))) := HB5.out.alloc HB5.out.size _
  go_wp2_with fail
  refine Calls.mono HSm.out ?_
  rintro e w6 ⟨rfl, rfl⟩
  go_wp2
  go_ret
  exact ⟨rfl, HB6.out⟩
end Go.Proofs.Ytjhlfdlamjpdeaa.Nm
