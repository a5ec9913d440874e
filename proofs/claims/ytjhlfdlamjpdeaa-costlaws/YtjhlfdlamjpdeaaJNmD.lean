import Derived.Test.YtjhlfdlamjpdeaaNmRes2
import Derived.Test.YtjhlfdlamjpdeaaNmEq
import Derived.Test.YtjhlfdlamjpdeaaNmPure
namespace Go.Proofs.Ytjhlfdlamjpdeaa.Nm
open Go.RowKit Go.Maps Go.Proofs.Ytjhlfdlamjpdeaa.Sp Go.Proofs.Ytjhlfdlamjpdeaa.Lx Go.Proofs.Ytjhlfdlamjpdeaa.Gr

/-- a row without what its name means -/
def unn (x : Rz) : Rz := if x.kind = 27 then x else { x with n := 0 }
def unK (l : List Rz) : Nat → List Rz
  | 0 => l
  | k + 1 => if (rat (unK l k) k).kind = 27 then unK l k else (unK l k).set k { rat (unK l k) k with n := 0 }
theorem unK_len (l : List Rz) (k : Nat) : (unK l k).length = l.length := by
  induction k with
  | zero => rfl
  | succ k ih =>
    simp only [unK]
    split
    · exact ih
    · rw [List.length_set]; exact ih
theorem unK_at (l : List Rz) (k i : Nat) : (unK l k)[i]? = if i < k then (l[i]?).map unn else l[i]? := by
  induction k generalizing i with
  | zero => simp [unK]
  | succ k ih =>
    have hk := ih k
    rw [if_neg (Nat.lt_irrefl k)] at hk
    have hr : k < l.length → rat (unK l k) k = rat l k := fun hl => by
      have h1 := some_rat (l := unK l k) (i := k) (by rw [unK_len]; exact hl)
      rw [hk, some_rat hl] at h1
      exact (Option.some.inj h1).symm
    simp only [unK]
    by_cases hl : k < l.length
    · rw [hr hl]
      by_cases hi : i = k
      · subst hi
        rw [if_pos (Nat.lt_succ_self _), some_rat hl]
        split
        · rename_i h27
          rw [hk, some_rat hl]
          show some (rat l i) = some (unn (rat l i))
          unfold unn
          rw [if_pos h27]
        · rename_i h27
          rw [List.getElem?_set, if_pos rfl, if_pos (by rw [unK_len]; exact hl)]
          simp only [Option.map_some, unn, if_neg h27]
      · have h1 : (i < k + 1) = (i < k) := by apply propext; omega
        split
        · rw [ih i]; simp only [h1]
        · rw [List.getElem?_set, if_neg (fun e => hi e.symm), ih i]; simp only [h1]
    · have hset : ∀ x : Rz, (unK l k).set k x = unK l k := fun x => List.set_eq_of_length_le (by rw [unK_len]; omega)
      rw [hset, ite_self, ih i]
      by_cases hi : i < k
      · rw [if_pos hi, if_pos (by omega)]
      · rw [if_neg hi, List.getElem?_eq_none (by omega)]
        split <;> rfl
theorem unK_all (l : List Rz) : unK l l.length = l.map unn := by
  refine List.ext_getElem? fun i => ?_
  rw [unK_at, List.getElem?_map]
  split
  · rfl
  · rw [List.getElem?_eq_none (by omega)]; rfl
set_option maxHeartbeats 3200000 in
set_option maxRecDepth 100000 in
/-- rows without what names mean in them -/
theorem unnamed_any {w : World} {a : Addr} {l : List Rz} {cap : Nat} (h : IsRz w (some a) l) (hl : l.length ≤ 2932031007317) :
    Calls Try.prog 28 #[.slice (some a) l.length cap] w fun e w' => ∃ rb rc, e = .returned (.slice (some ⟨rb, 0, none⟩) l.length rc) ∧ Rw w' rb (l.map unn) ∧ Below w.heap.size w w' := by
  have HC := show Hid _ from clone_rows w a cap l h hl
  have hl2 : (l.length : Int) ≤ 2932031007317 := by omega
  have HM : Hid (unK l l.length = l.map unn) := unK_all l
  clear h hl
  go_enter Try.func28, Try.ntmps28
  go_wp2_with fail
  refine Calls.mono HC.out ?_
  rintro e w1 ⟨rb, rc, rfl, hrw, hrb, hb1⟩
  have H0 : Hid (Rw w1 rb (unK l 0) ∧ w.heap.size ≤ rb ∧ Below w.heap.size w w1) := ⟨hrw, hrb, hb1⟩
  clear hrw hrb hb1 HC
  go_wp2_with fail
  go_loopg [9] l.length (fun gq x wr => ∃ k : Nat, k + gq = l.length ∧ x = .int .i64 (k : Int) ∧ Rw wr rb (unK l k) ∧ Below w.heap.size w wr)
  case atStart => exact ⟨0, by omega, rfl, H0.out.1, H0.out.2.2⟩
  case round =>
    obtain ⟨k, hkg, rfl, hR, hbw⟩ := hrel
    have HG : Hid (k + gk = l.length ∧ Rw wr rb (unK l k) ∧ Below w.heap.size w wr) := ⟨hkg, hR, hbw⟩
    by_cases hlt : k < l.length
    · have hk' : (k : Int) < (l.length : Int) := by omega
      have hk2 : (k : Int) ≤ 2932031007317 := by omega
      have hx := some_rat (l := unK l k) (i := k) (by rw [unK_len]; exact hlt)
      obtain ⟨d0, d1, d2, d3, d4, fz⟩ := hR.cells hx
      have fz3 := fz (k * 5 + 3)
      have HU : Hid (unK l (k + 1) = if (rat (unK l k) k).kind = 27 then unK l k else (unK l k).set k { rat (unK l k) k with n := 0 }) := rfl
      have HS : Hid (Rw (wr.setCell ⟨rb, k * 5 + 3, none⟩ (.int .i64 0)) rb ((unK l k).set k { rat (unK l k) k with n := 0 }) ∧ Below w.heap.size w (wr.setCell ⟨rb, k * 5 + 3, none⟩ (.int .i64 0))) := ⟨hR.setN hx 0, below_set hbw H0.out.2.1 _ _⟩
      have HLt : Hid (k < l.length) := hlt
      clear hkg hlt hbw hR hx fz
      generalize rat (unK l k) k = x at *
      obtain ⟨kd, nm, st, n, ks⟩ := x
      dsimp only at *
      by_cases h27 : kd = 27
      · have h27' : (kd != 27) = false := by simp [h27]
        rw [if_pos h27] at HU
        clear h27
        go_wp2_with fail
        go_roundg (l.length - (k + 1))
        case measure => have := HG.out.1; have := HLt.out; omega
        case rel => exact ⟨k + 1, by have := HLt.out; omega, by go_num, by rw [HU.out]; exact HG.out.2.1, HG.out.2.2⟩
      · have h27' : (kd != 27) = true := by simp [h27]
        rw [if_neg h27] at HU
        clear h27
        go_wp2_with fail
        go_roundg (l.length - (k + 1))
        case measure => have := HG.out.1; have := HLt.out; omega
        case rel => exact ⟨k + 1, by have := HLt.out; omega, by go_num, by rw [HU.out]; exact HS.out.1, HS.out.2⟩
    · have hk' : decide (k < l.length) = false := decide_eq_false hlt
      have hke : k = l.length := by omega
      have HE : Hid (Rw wr rb (l.map unn)) := by rw [hke, HM.out] at hR; exact hR
      clear hkg hlt hbw hR hke
      go_wp2
      go_ret
      exact ⟨rb, rc, rfl, HE.out, HG.out.2.2⟩
/-- a policy's value that can be read -/
structure Rd (w : World) (p : Pl) (ao qo vo tto uo oo : Option Addr) : Prop where
  r : IsRz w ao p.rows
  q : IsVals w qo (qF p.qs)
  v : IsVals w vo (p.vs.map Value.string)
  t : IsVals w tto (p.ts.map Value.string)
  u : IsVals w uo (iv (p.us.map fun n : Nat => (n : Int)))
  o : IsVals w oo (iv p.on)
theorem Rd.below {w w' : World} {p : Pl} {ao qo vo tto uo oo : Option Addr} (h : Rd w p ao qo vo tto uo oo) (hb : Below w.heap.size w w') : Rd w' p ao qo vo tto uo oo := ⟨h.r.below hb, h.q.below hb, h.v.below hb, h.t.below hb, h.u.below hb, h.o.below hb⟩
/-- no list is too long -/
structure Pl.Sm (p : Pl) : Prop where
  r : p.rows.length ≤ 2932031007317
  q : p.qs.length ≤ 1000
  v : p.vs.length ≤ 1000
  t : p.ts.length ≤ 1000
  u : p.us.length ≤ 1000
  o : p.on.length ≤ 1000
abbrev pv (p : Pl) (ao qo vo tto uo oo : Option Addr) (ac qc vc tc uc oc : Nat) : Value := .agg #[.string p.name, .slice ao p.rows.length ac, .slice qo p.qs.length qc, .slice vo p.vs.length vc, .slice tto p.ts.length tc, .slice uo p.us.length uc, .slice oo p.on.length oc, .int .i64 p.miss]
/-- what is told can be read -/
theorem IsPl.rd {w : World} {base : Nat} {v : Value} {p : Pl} (h : IsPl w base v p) : ∃ rb qo vo tto uo oo ac qc vc tc uc oc, v = pv p (some ⟨rb, 0, none⟩) qo vo tto uo oo ac qc vc tc uc oc ∧ Rw w rb p.rows ∧ Rd w p (some ⟨rb, 0, none⟩) qo vo tto uo oo ∧ IsNats w uo p.us ∧ p.us.length ≤ uc := by
  obtain ⟨rb, cap, qv, vv, tv, uv, ov, rfl, _, hr, hq, hv, ht, hu, ho⟩ := h.ex
  obtain ⟨qo, qc, rfl⟩ := own_form hq
  obtain ⟨vo, vc, rfl⟩ := own_form hv
  obtain ⟨tto, tc, rfl⟩ := own_form ht
  obtain ⟨uo, uc, rfl⟩ := own_form hu
  obtain ⟨oo, oc, rfl⟩ := own_form ho
  refine ⟨rb, qo, vo, tto, uo, oo, cap, qc, vc, tc, uc, oc, rfl, hr, ⟨hr.rz, vals_of hq, vals_of hv, vals_of ht, ?_, vals_of ho⟩, nats_of hu⟩
  have := vals_of hu
  simpa [iv, nv, List.map_map, Function.comp_def] using this
set_option maxHeartbeats 6400000 in
set_option maxRecDepth 100000 in
/-- two policies that are the same -/
theorem same_told {w : World} {p : Pl} {ao qo vo tto uo oo ao2 qo2 vo2 tto2 uo2 oo2 : Option Addr} {ac qc vc tc uc oc ac2 qc2 vc2 tc2 uc2 oc2 : Nat} (h1 : Rd w p ao qo vo tto uo oo) (h2 : Rd w p ao2 qo2 vo2 tto2 uo2 oo2) (hs : p.Sm) :
    Calls Try.prog 29 #[pv p ao qo vo tto uo oo ac qc vc tc uc oc, pv p ao2 qo2 vo2 tto2 uo2 oo2 ac2 qc2 vc2 tc2 uc2 oc2] w fun e w' => e = .returned (.bool true) ∧ Below w.heap.size w w' := by
  obtain ⟨nm, rows, qs, vs, ts, us, on, miss⟩ := p
  dsimp only [pv]
  have hb0 : Below w.heap.size w ((w.alloc (.cells #[.string nm, .slice ao rows.length ac, .slice qo qs.length qc, .slice vo vs.length vc, .slice tto ts.length tc, .slice uo us.length uc, .slice oo on.length oc, .int .i64 miss] 40)).alloc (.cells #[.string nm, .slice ao2 rows.length ac2, .slice qo2 qs.length qc2, .slice vo2 vs.length vc2, .slice tto2 ts.length tc2, .slice uo2 us.length uc2, .slice oo2 on.length oc2, .int .i64 miss] 40)) := ((Below.refl _ w).alloc (Nat.le_refl _) _).alloc (by simp) _
  have HB0 : Hid (Below w.heap.size w ((w.alloc (.cells #[.string nm, .slice ao rows.length ac, .slice qo qs.length qc, .slice vo vs.length vc, .slice tto ts.length tc, .slice uo us.length uc, .slice oo on.length oc, .int .i64 miss] 40)).alloc (.cells #[.string nm, .slice ao2 rows.length ac2, .slice qo2 qs.length qc2, .slice vo2 vs.length vc2, .slice tto2 ts.length tc2, .slice uo2 us.length uc2, .slice oo2 on.length oc2, .int .i64 miss] 40)) ∧ ((w.alloc (.cells #[.string nm, .slice ao rows.length ac, .slice qo qs.length qc, .slice vo vs.length vc, .slice tto ts.length tc, .slice uo us.length uc, .slice oo on.length oc, .int .i64 miss] 40)).alloc (.cells #[.string nm, .slice ao2 rows.length ac2, .slice qo2 qs.length qc2, .slice vo2 vs.length vc2, .slice tto2 ts.length tc2, .slice uo2 us.length uc2, .slice oo2 on.length oc2, .int .i64 miss] 40)).heap[w.heap.size]? = some (.cells #[.string nm, .slice ao rows.length ac, .slice qo qs.length qc, .slice vo vs.length vc, .slice tto ts.length tc, .slice uo us.length uc, .slice oo on.length oc, .int .i64 miss] 40 (0, 0)) ∧ ((w.alloc (.cells #[.string nm, .slice ao rows.length ac, .slice qo qs.length qc, .slice vo vs.length vc, .slice tto ts.length tc, .slice uo us.length uc, .slice oo on.length oc, .int .i64 miss] 40)).alloc (.cells #[.string nm, .slice ao2 rows.length ac2, .slice qo2 qs.length qc2, .slice vo2 vs.length vc2, .slice tto2 ts.length tc2, .slice uo2 us.length uc2, .slice oo2 on.length oc2, .int .i64 miss] 40)).heap[w.heap.size + 1]? = some (.cells #[.string nm, .slice ao2 rows.length ac2, .slice qo2 qs.length qc2, .slice vo2 vs.length vc2, .slice tto2 ts.length tc2, .slice uo2 us.length uc2, .slice oo2 on.length oc2, .int .i64 miss] 40 (0, 0))) := ⟨hb0, by rw [alloc_old _ _ _ (by simp)]; exact alloc_at _ _ _ rfl, alloc_at _ _ _ (by simp)⟩
  have HS := show Hid _ from hs
  have H1 := show Hid _ from h1
  have H2 := show Hid _ from h2
  have hnm : (nm.toList == nm.toList) = true := by simp
  have hmi : (miss == miss) = true := by simp
  clear h1 h2 hs hb0
  go_enter Try.func29, Try.ntmps29
  obtain ⟨k0, k1, k2, k3, k4, k5, k6, k7⟩ := pol8 HB0.out.2.1
  obtain ⟨m0, m1, m2, m3, m4, m5, m6, m7⟩ := pol8 HB0.out.2.2
  go_wp2_with fail
  have HC := show Hid _ from eqRows (ca := ac) (cb := ac2) (Rd.below H1.out HB0.out.1).r (Rd.below H2.out HB0.out.1).r HS.out.r
  clear k0 k1 k2 k3 k4 k5 k6 k7 m0 m1 m2 m3 m4 m5 m6 m7
  refine Calls.mono HC.out ?_
  rintro e w1 ⟨rfl, hb1⟩
  have HB1 : Hid (Below w.heap.size w w1 ∧ w1.heap[w.heap.size]? = some (.cells #[.string nm, .slice ao rows.length ac, .slice qo qs.length qc, .slice vo vs.length vc, .slice tto ts.length tc, .slice uo us.length uc, .slice oo on.length oc, .int .i64 miss] 40 (0, 0)) ∧ w1.heap[w.heap.size + 1]? = some (.cells #[.string nm, .slice ao2 rows.length ac2, .slice qo2 qs.length qc2, .slice vo2 vs.length vc2, .slice tto2 ts.length tc2, .slice uo2 us.length uc2, .slice oo2 on.length oc2, .int .i64 miss] 40 (0, 0))) := ⟨HB0.out.1.trans (hb1.mono HB0.out.1.size), (hb1.block _ (blk_lt HB0.out.2.1)).trans HB0.out.2.1, (hb1.block _ (blk_lt HB0.out.2.2)).trans HB0.out.2.2⟩
  clear HC hb1
  obtain ⟨k0, k1, k2, k3, k4, k5, k6, k7⟩ := pol8 HB1.out.2.1
  obtain ⟨m0, m1, m2, m3, m4, m5, m6, m7⟩ := pol8 HB1.out.2.2
  go_wp2_with fail
  have HC := show Hid _ from eqQs (ca := qc) (cb := qc2) (Rd.below H1.out HB1.out.1).q (Rd.below H2.out HB1.out.1).q (Nat.le_trans HS.out.q (by decide))
  clear k0 k1 k2 k3 k4 k5 k6 k7 m0 m1 m2 m3 m4 m5 m6 m7
  refine Calls.mono HC.out ?_
  rintro e w2 ⟨rfl, hb2⟩
  have HB2 : Hid (Below w.heap.size w w2 ∧ w2.heap[w.heap.size]? = some (.cells #[.string nm, .slice ao rows.length ac, .slice qo qs.length qc, .slice vo vs.length vc, .slice tto ts.length tc, .slice uo us.length uc, .slice oo on.length oc, .int .i64 miss] 40 (0, 0)) ∧ w2.heap[w.heap.size + 1]? = some (.cells #[.string nm, .slice ao2 rows.length ac2, .slice qo2 qs.length qc2, .slice vo2 vs.length vc2, .slice tto2 ts.length tc2, .slice uo2 us.length uc2, .slice oo2 on.length oc2, .int .i64 miss] 40 (0, 0))) := ⟨HB1.out.1.trans (hb2.mono HB1.out.1.size), (hb2.block _ (blk_lt HB1.out.2.1)).trans HB1.out.2.1, (hb2.block _ (blk_lt HB1.out.2.2)).trans HB1.out.2.2⟩
  clear HC hb2
  obtain ⟨k0, k1, k2, k3, k4, k5, k6, k7⟩ := pol8 HB2.out.2.1
  obtain ⟨m0, m1, m2, m3, m4, m5, m6, m7⟩ := pol8 HB2.out.2.2
  go_wp2_with fail
  have HC := show Hid _ from eqStrs (ca := vc) (cb := vc2) (Rd.below H1.out HB2.out.1).v (Rd.below H2.out HB2.out.1).v (Nat.le_trans HS.out.v (by decide))
  clear k0 k1 k2 k3 k4 k5 k6 k7 m0 m1 m2 m3 m4 m5 m6 m7
  refine Calls.mono HC.out ?_
  rintro e w3 ⟨rfl, hb3⟩
  have HB3 : Hid (Below w.heap.size w w3 ∧ w3.heap[w.heap.size]? = some (.cells #[.string nm, .slice ao rows.length ac, .slice qo qs.length qc, .slice vo vs.length vc, .slice tto ts.length tc, .slice uo us.length uc, .slice oo on.length oc, .int .i64 miss] 40 (0, 0)) ∧ w3.heap[w.heap.size + 1]? = some (.cells #[.string nm, .slice ao2 rows.length ac2, .slice qo2 qs.length qc2, .slice vo2 vs.length vc2, .slice tto2 ts.length tc2, .slice uo2 us.length uc2, .slice oo2 on.length oc2, .int .i64 miss] 40 (0, 0))) := ⟨HB2.out.1.trans (hb3.mono HB2.out.1.size), (hb3.block _ (blk_lt HB2.out.2.1)).trans HB2.out.2.1, (hb3.block _ (blk_lt HB2.out.2.2)).trans HB2.out.2.2⟩
  clear HC hb3
  obtain ⟨k0, k1, k2, k3, k4, k5, k6, k7⟩ := pol8 HB3.out.2.1
  obtain ⟨m0, m1, m2, m3, m4, m5, m6, m7⟩ := pol8 HB3.out.2.2
  go_wp2_with fail
  have HC := show Hid _ from eqStrs (ca := tc) (cb := tc2) (Rd.below H1.out HB3.out.1).t (Rd.below H2.out HB3.out.1).t (Nat.le_trans HS.out.t (by decide))
  clear k0 k1 k2 k3 k4 k5 k6 k7 m0 m1 m2 m3 m4 m5 m6 m7
  refine Calls.mono HC.out ?_
  rintro e w4 ⟨rfl, hb4⟩
  have HB4 : Hid (Below w.heap.size w w4 ∧ w4.heap[w.heap.size]? = some (.cells #[.string nm, .slice ao rows.length ac, .slice qo qs.length qc, .slice vo vs.length vc, .slice tto ts.length tc, .slice uo us.length uc, .slice oo on.length oc, .int .i64 miss] 40 (0, 0)) ∧ w4.heap[w.heap.size + 1]? = some (.cells #[.string nm, .slice ao2 rows.length ac2, .slice qo2 qs.length qc2, .slice vo2 vs.length vc2, .slice tto2 ts.length tc2, .slice uo2 us.length uc2, .slice oo2 on.length oc2, .int .i64 miss] 40 (0, 0))) := ⟨HB3.out.1.trans (hb4.mono HB3.out.1.size), (hb4.block _ (blk_lt HB3.out.2.1)).trans HB3.out.2.1, (hb4.block _ (blk_lt HB3.out.2.2)).trans HB3.out.2.2⟩
  clear HC hb4
  obtain ⟨k0, k1, k2, k3, k4, k5, k6, k7⟩ := pol8 HB4.out.2.1
  obtain ⟨m0, m1, m2, m3, m4, m5, m6, m7⟩ := pol8 HB4.out.2.2
  go_wp2_with fail
  have HC := show Hid _ from eqInts (ca := uc) (cb := uc2) (Rd.below H1.out HB4.out.1).u (Rd.below H2.out HB4.out.1).u (by rw [List.length_map]; exact Nat.le_trans HS.out.u (by decide))
  rw [List.length_map] at HC
  clear k0 k1 k2 k3 k4 k5 k6 k7 m0 m1 m2 m3 m4 m5 m6 m7
  refine Calls.mono HC.out ?_
  rintro e w5 ⟨rfl, hb5⟩
  have HB5 : Hid (Below w.heap.size w w5 ∧ w5.heap[w.heap.size]? = some (.cells #[.string nm, .slice ao rows.length ac, .slice qo qs.length qc, .slice vo vs.length vc, .slice tto ts.length tc, .slice uo us.length uc, .slice oo on.length oc, .int .i64 miss] 40 (0, 0)) ∧ w5.heap[w.heap.size + 1]? = some (.cells #[.string nm, .slice ao2 rows.length ac2, .slice qo2 qs.length qc2, .slice vo2 vs.length vc2, .slice tto2 ts.length tc2, .slice uo2 us.length uc2, .slice oo2 on.length oc2, .int .i64 miss] 40 (0, 0))) := ⟨HB4.out.1.trans (hb5.mono HB4.out.1.size), (hb5.block _ (blk_lt HB4.out.2.1)).trans HB4.out.2.1, (hb5.block _ (blk_lt HB4.out.2.2)).trans HB4.out.2.2⟩
  clear HC hb5
  obtain ⟨k0, k1, k2, k3, k4, k5, k6, k7⟩ := pol8 HB5.out.2.1
  obtain ⟨m0, m1, m2, m3, m4, m5, m6, m7⟩ := pol8 HB5.out.2.2
  go_wp2_with fail
  have HC := show Hid _ from eqInts (ca := oc) (cb := oc2) (Rd.below H1.out HB5.out.1).o (Rd.below H2.out HB5.out.1).o (Nat.le_trans HS.out.o (by decide))
  clear k0 k1 k2 k3 k4 k5 k6 k7 m0 m1 m2 m3 m4 m5 m6 m7
  refine Calls.mono HC.out ?_
  rintro e w6 ⟨rfl, hb6⟩
  have HB6 : Hid (Below w.heap.size w w6 ∧ w6.heap[w.heap.size]? = some (.cells #[.string nm, .slice ao rows.length ac, .slice qo qs.length qc, .slice vo vs.length vc, .slice tto ts.length tc, .slice uo us.length uc, .slice oo on.length oc, .int .i64 miss] 40 (0, 0)) ∧ w6.heap[w.heap.size + 1]? = some (.cells #[.string nm, .slice ao2 rows.length ac2, .slice qo2 qs.length qc2, .slice vo2 vs.length vc2, .slice tto2 ts.length tc2, .slice uo2 us.length uc2, .slice oo2 on.length oc2, .int .i64 miss] 40 (0, 0))) := ⟨HB5.out.1.trans (hb6.mono HB5.out.1.size), (hb6.block _ (blk_lt HB5.out.2.1)).trans HB5.out.2.1, (hb6.block _ (blk_lt HB5.out.2.2)).trans HB5.out.2.2⟩
  clear HC hb6
  obtain ⟨k0, k1, k2, k3, k4, k5, k6, k7⟩ := pol8 HB6.out.2.1
  obtain ⟨m0, m1, m2, m3, m4, m5, m6, m7⟩ := pol8 HB6.out.2.2
  go_wp2
  go_ret
  exact ⟨rfl, HB6.out.1⟩
set_option maxHeartbeats 6400000 in
set_option maxRecDepth 100000 in
/-- Check of a policy whose rows resolve to it -/
theorem check_told {w : World} {p : Pl} {a : Addr} {qo vo tto uo oo : Option Addr} {ac qc vc tc uc oc : Nat} (h : Rd w p (some a) qo vo tto uo oo) (hs : p.Sm) (hr : res (p.rows.map unn) = .ok p) :
    Calls Try.prog 23 #[pv p (some a) qo vo tto uo oo ac qc vc tc uc oc] w fun e w' => e = .returned (.int .i64 0) ∧ Below w.heap.size w w' := by
  have hb0 : Below w.heap.size w (w.alloc (.cells #[.string p.name, .slice (some a) p.rows.length ac, .slice qo p.qs.length qc, .slice vo p.vs.length vc, .slice tto p.ts.length tc, .slice uo p.us.length uc, .slice oo p.on.length oc, .int .i64 p.miss] 40)) := (Below.refl _ w).alloc (Nat.le_refl _) _
  have HB0 : Hid (Below w.heap.size w (w.alloc (.cells #[.string p.name, .slice (some a) p.rows.length ac, .slice qo p.qs.length qc, .slice vo p.vs.length vc, .slice tto p.ts.length tc, .slice uo p.us.length uc, .slice oo p.on.length oc, .int .i64 p.miss] 40)) ∧ (w.alloc (.cells #[.string p.name, .slice (some a) p.rows.length ac, .slice qo p.qs.length qc, .slice vo p.vs.length vc, .slice tto p.ts.length tc, .slice uo p.us.length uc, .slice oo p.on.length oc, .int .i64 p.miss] 40)).heap[w.heap.size]? = some (.cells #[.string p.name, .slice (some a) p.rows.length ac, .slice qo p.qs.length qc, .slice vo p.vs.length vc, .slice tto p.ts.length tc, .slice uo p.us.length uc, .slice oo p.on.length oc, .int .i64 p.miss] 40 (0, 0))) := ⟨hb0, heap_alloc_new w _⟩
  have HU := show Hid _ from unnamed_any (cap := ac) (h.r.below hb0) hs.r
  have H := show Hid _ from h
  have HS := show Hid _ from hs
  have HR := show Hid _ from hr
  obtain ⟨k0, k1, k2, k3, k4, k5, k6, k7⟩ := pol8 HB0.out.2
  clear h hs hr hb0
  unfold pv
  go_enter Try.func23, Try.ntmps23
  go_wp2_with fail
  refine Calls.mono HU.out ?_
  rintro e w1 ⟨rb, rc, rfl, hrw, hb1⟩
  have HB1 : Hid (Below w.heap.size w w1 ∧ w1.heap[w.heap.size]? = some (.cells #[.string p.name, .slice (some a) p.rows.length ac, .slice qo p.qs.length qc, .slice vo p.vs.length vc, .slice tto p.ts.length tc, .slice uo p.us.length uc, .slice oo p.on.length oc, .int .i64 p.miss] 40 (0, 0))) := ⟨HB0.out.1.trans (hb1.mono HB0.out.1.size), (hb1.block _ (blk_lt HB0.out.2)).trans HB0.out.2⟩
  have HRs := show Hid _ from resolve_any (cap := rc) hrw.rz (by rw [List.length_map]; exact HS.out.r)
  rw [HR.out, List.length_map] at HRs
  clear hrw hb1 HU k0 k1 k2 k3 k4 k5 k6 k7
  go_wp2_with fail
  refine Calls.mono HRs.out ?_
  rintro e w2 ⟨hb2, v, rfl, hpl⟩
  obtain ⟨rb2, qo2, vo2, tto2, uo2, oo2, ac2, qc2, vc2, tc2, uc2, oc2, rfl, _, hrd, _, _⟩ := hpl.rd
  have hb3 : Below w2.heap.size w2 ((w2.alloc (.cells #[.string p.name, .slice (some ⟨rb2, 0, none⟩) p.rows.length ac2, .slice qo2 p.qs.length qc2, .slice vo2 p.vs.length vc2, .slice tto2 p.ts.length tc2, .slice uo2 p.us.length uc2, .slice oo2 p.on.length oc2, .int .i64 p.miss] 40)).alloc (.cells #[.int .i64 0, .int .i64 0] 44)) := ((Below.refl _ w2).alloc (Nat.le_refl _) _).alloc (by simp) _
  have HB3 : Hid (Below w.heap.size w ((w2.alloc (.cells #[.string p.name, .slice (some ⟨rb2, 0, none⟩) p.rows.length ac2, .slice qo2 p.qs.length qc2, .slice vo2 p.vs.length vc2, .slice tto2 p.ts.length tc2, .slice uo2 p.us.length uc2, .slice oo2 p.on.length oc2, .int .i64 p.miss] 40)).alloc (.cells #[.int .i64 0, .int .i64 0] 44)) ∧ Rd ((w2.alloc (.cells #[.string p.name, .slice (some ⟨rb2, 0, none⟩) p.rows.length ac2, .slice qo2 p.qs.length qc2, .slice vo2 p.vs.length vc2, .slice tto2 p.ts.length tc2, .slice uo2 p.us.length uc2, .slice oo2 p.on.length oc2, .int .i64 p.miss] 40)).alloc (.cells #[.int .i64 0, .int .i64 0] 44)) p (some ⟨rb2, 0, none⟩) qo2 vo2 tto2 uo2 oo2) := ⟨HB1.out.1.trans ((hb2.trans (hb3.mono hb2.size)).mono HB1.out.1.size), hrd.below hb3⟩
  have hx1 : ((w2.alloc (.cells #[.string p.name, .slice (some ⟨rb2, 0, none⟩) p.rows.length ac2, .slice qo2 p.qs.length qc2, .slice vo2 p.vs.length vc2, .slice tto2 p.ts.length tc2, .slice uo2 p.us.length uc2, .slice oo2 p.on.length oc2, .int .i64 p.miss] 40)).alloc (.cells #[.int .i64 0, .int .i64 0] 44)).heap[w.heap.size]? = some (.cells #[.string p.name, .slice (some a) p.rows.length ac, .slice qo p.qs.length qc, .slice vo p.vs.length vc, .slice tto p.ts.length tc, .slice uo p.us.length uc, .slice oo p.on.length oc, .int .i64 p.miss] 40 (0, 0)) := ((hb2.trans (hb3.mono hb2.size)).block _ (blk_lt HB1.out.2)).trans HB1.out.2
  have hx2 : ((w2.alloc (.cells #[.string p.name, .slice (some ⟨rb2, 0, none⟩) p.rows.length ac2, .slice qo2 p.qs.length qc2, .slice vo2 p.vs.length vc2, .slice tto2 p.ts.length tc2, .slice uo2 p.us.length uc2, .slice oo2 p.on.length oc2, .int .i64 p.miss] 40)).alloc (.cells #[.int .i64 0, .int .i64 0] 44)).heap[w2.heap.size]? = some (.cells #[.string p.name, .slice (some ⟨rb2, 0, none⟩) p.rows.length ac2, .slice qo2 p.qs.length qc2, .slice vo2 p.vs.length vc2, .slice tto2 p.ts.length tc2, .slice uo2 p.us.length uc2, .slice oo2 p.on.length oc2, .int .i64 p.miss] 40 (0, 0)) := by rw [alloc_old _ _ _ (by simp)]; exact alloc_at _ _ _ rfl
  have hx3 : ((w2.alloc (.cells #[.string p.name, .slice (some ⟨rb2, 0, none⟩) p.rows.length ac2, .slice qo2 p.qs.length qc2, .slice vo2 p.vs.length vc2, .slice tto2 p.ts.length tc2, .slice uo2 p.us.length uc2, .slice oo2 p.on.length oc2, .int .i64 p.miss] 40)).alloc (.cells #[.int .i64 0, .int .i64 0] 44)).heap[w2.heap.size + 1]? = some (.cells #[.int .i64 0, .int .i64 0] 44 (0, 0)) := alloc_at _ _ _ (by simp)
  obtain ⟨k0, k1, k2, k3, k4, k5, k6, k7⟩ := pol8 hx1
  obtain ⟨m0, m1, m2, m3, m4, m5, m6, m7⟩ := pol8 hx2
  have f0 : ((w2.alloc (.cells #[.string p.name, .slice (some ⟨rb2, 0, none⟩) p.rows.length ac2, .slice qo2 p.qs.length qc2, .slice vo2 p.vs.length vc2, .slice tto2 p.ts.length tc2, .slice uo2 p.us.length uc2, .slice oo2 p.on.length oc2, .int .i64 p.miss] 40)).alloc (.cells #[.int .i64 0, .int .i64 0] 44)).cell? ⟨w2.heap.size + 1, 0, none⟩ = some (.int .i64 0) := by rw [World.cell?, hx3]; rfl
  have HSm := show Hid _ from same_told (ac := ac2) (qc := qc2) (vc := vc2) (tc := tc2) (uc := uc2) (oc := oc2) (ac2 := ac) (qc2 := qc) (vc2 := vc) (tc2 := tc) (uc2 := uc) (oc2 := oc) HB3.out.2 (Rd.below H.out HB3.out.1) HS.out
  clear hb2 hb3 hpl hrd hx1 hx2 hx3 HRs
  unfold pv at HSm
  unfold pv
  go_wp2_with fail
  refine Calls.mono HSm.out ?_
  rintro e w5 ⟨rfl, hb5⟩
  have HB5 : Hid (Below w.heap.size w w5) := HB3.out.1.trans (hb5.mono HB3.out.1.size)
  clear hb5 HSm k0 k1 k2 k3 k4 k5 k6 k7 m0 m1 m2 m3 m4 m5 m6 m7
  go_wp2
  go_ret
  exact ⟨rfl, HB5.out⟩
end Go.Proofs.Ytjhlfdlamjpdeaa.Nm

namespace Go.Proofs.Ytjhlfdlamjpdeaa.Nm
open Go.RowKit Go.Maps Go.Proofs.Ytjhlfdlamjpdeaa.Sp Go.Proofs.Ytjhlfdlamjpdeaa.Lx Go.Proofs.Ytjhlfdlamjpdeaa.Gr

theorem bytes_of {x y : ByteArray} (h : x.toList = y.toList) : x = y := by
  rw [ByteArray.toList_eq, ByteArray.toList_eq] at h
  cases x
  cases y
  simpa using h
theorem neq_queue {x y : ByteArray × Bool} (h : x ≠ y) (u : World) : (binOp BinOp.neq 79 (.agg #[.string x.1, .bool x.2]) (.agg #[.string y.1, .bool y.2])).run Try.prog u = .ok (.bool true) u := by
  go_simp
  intro e1 e2
  exact h (Prod.ext (bytes_of e1) e2)
theorem neq_row {x y : Rz} (h : x ≠ y) (u : World) : (binOp BinOp.neq 35 (rv x) (rv y)).run Try.prog u = .ok (.bool true) u := by
  unfold rv
  go_simp
  intro e1 e2 e3 e4 e5
  refine h ?_
  cases x
  cases y
  have := bytes_of e2
  simp_all
set_option maxHeartbeats 6400000 in
set_option maxRecDepth 100000 in
/-- two lists of numbers -/
theorem eqIntsG {w : World} {ao bo : Option Addr} {l m : List Int} {ca cb : Nat} (ha : IsVals w ao (iv l)) (hb : IsVals w bo (iv m)) (hn : l.length ≤ 2932031007317) :
    Calls Try.prog 43 #[.slice ao l.length ca, .slice bo m.length cb] w fun e w' => (∃ b, e = .returned (.bool b) ∧ (b = true ↔ l = m)) ∧ Below w.heap.size w w' := by
  by_cases hlen : l.length = m.length
  · have HA := show Hid _ from ha
    have HB := show Hid _ from hb
    have HLn := show Hid _ from hlen
    have hn2 : (l.length : Int) ≤ 2932031007317 := by omega
    have hne : ((l.length : Int) != (l.length : Int)) = false := by simp
    rw [← hlen]
    clear ha hb hlen
    go_enter Try.func43, Try.ntmps43
    go_wp2_with fail
    go_loopg [13] l.length (fun gq x wr => ∃ k : Nat, k + gq = l.length ∧ x = .int .i64 (k : Int) ∧ l.take k = m.take k ∧ Below w.heap.size w wr)
    case atStart => exact ⟨0, by omega, rfl, rfl, Below.refl _ _⟩
    case round =>
      obtain ⟨k, hkg, rfl, htk, hbw⟩ := hrel
      have HG : Hid (k + gk = l.length ∧ Below w.heap.size w wr ∧ l.take k = m.take k) := ⟨hkg, hbw, htk⟩
      by_cases hlt : k < l.length
      · have hk' : (k : Int) < (l.length : Int) := by omega
        have hk2 : (k : Int) ≤ 2932031007317 := by omega
        have hlm : k < m.length := by have := HLn.out; omega
        have hx : (iv l)[k]? = some (.int .i64 l[k]) := by rw [List.getElem?_map, List.getElem?_eq_getElem hlt]; rfl
        have hy : (iv m)[k]? = some (.int .i64 m[k]) := by rw [List.getElem?_map, List.getElem?_eq_getElem hlm]; rfl
        obtain ⟨g, o, rfl, _, d0⟩ := (IsVals.below HA.out hbw) k _ hx
        obtain ⟨g', o', rfl, _, e0⟩ := (IsVals.below HB.out hbw) k _ hy
        have HSame : Hid (l[k] = m[k] → l.take (k + 1) = m.take (k + 1)) := fun e => by rw [List.take_add_one, List.take_add_one, HG.out.2.2, List.getElem?_eq_getElem hlt, List.getElem?_eq_getElem hlm, e]
        have HDiff : Hid (l[k] ≠ m[k] → l ≠ m) := fun e h => e (by subst h; rfl)
        clear hx hy
        generalize l[k] = x at *
        generalize m[k] = y at *
        have HLt : Hid (k < l.length) := hlt
        clear hkg hlt hbw htk hlm
        by_cases hxy : x = y
        · subst hxy
          have HS : Hid (l.take (k + 1) = m.take (k + 1)) := HSame.out rfl
          clear HSame HDiff
          have hq : (x != x) = false := by simp
          go_wp2_with fail
          go_quiet (fail)
          go_wp2_with fail
          go_roundg (l.length - (k + 1))
          case measure => have := HG.out.1; have := HLt.out; omega
          case rel => exact ⟨k + 1, by have := HLt.out; omega, by go_num, HS.out, HG.out.2.1.trans ((below_drewN _ _).mono HG.out.2.1.size)⟩
        · have HD : Hid (l ≠ m) := HDiff.out hxy
          clear HSame HDiff
          have hq : (x != y) = true := by simp [hxy]
          go_wp2_with fail
          go_quiet (fail)
          go_wp2
          go_ret
          exact ⟨⟨false, rfl, by simp [HD.out]⟩, HG.out.2.1.trans ((below_drewN _ _).mono HG.out.2.1.size)⟩
      · have hk' : decide (k < l.length) = false := decide_eq_false hlt
        have HE : Hid (l = m) := by
          have hke : k = l.length := by omega
          rw [hke, List.take_length, HLn.out, List.take_length] at htk
          exact htk
        clear hkg hlt hbw htk
        go_wp2
        go_ret
        exact ⟨⟨true, rfl, by simp [HE.out]⟩, HG.out.2.1⟩
  · have hne : ((l.length : Int) != (m.length : Int)) = true := by simp; omega
    have HD : Hid (l ≠ m) := fun e => hlen (by rw [e])
    clear ha hb hlen hn
    go_enter Try.func43, Try.ntmps43
    go_wp2
    go_ret
    exact ⟨⟨false, rfl, by simp [HD.out]⟩, Below.refl _ _⟩
set_option maxHeartbeats 6400000 in
set_option maxRecDepth 100000 in
/-- two lists of texts -/
theorem eqStrsG {w : World} {ao bo : Option Addr} {l m : List ByteArray} {ca cb : Nat} (ha : IsVals w ao (l.map Value.string)) (hb : IsVals w bo (m.map Value.string)) (hn : l.length ≤ 2932031007317) :
    Calls Try.prog 42 #[.slice ao l.length ca, .slice bo m.length cb] w fun e w' => (∃ b, e = .returned (.bool b) ∧ (b = true ↔ l = m)) ∧ Below w.heap.size w w' := by
  by_cases hlen : l.length = m.length
  · have HA := show Hid _ from ha
    have HB := show Hid _ from hb
    have HLn := show Hid _ from hlen
    have hn2 : (l.length : Int) ≤ 2932031007317 := by omega
    have hne : ((l.length : Int) != (l.length : Int)) = false := by simp
    rw [← hlen]
    clear ha hb hlen
    go_enter Try.func42, Try.ntmps42
    go_wp2_with fail
    go_loopg [13] l.length (fun gq x wr => ∃ k : Nat, k + gq = l.length ∧ x = .int .i64 (k : Int) ∧ l.take k = m.take k ∧ Below w.heap.size w wr)
    case atStart => exact ⟨0, by omega, rfl, rfl, Below.refl _ _⟩
    case round =>
      obtain ⟨k, hkg, rfl, htk, hbw⟩ := hrel
      have HG : Hid (k + gk = l.length ∧ Below w.heap.size w wr ∧ l.take k = m.take k) := ⟨hkg, hbw, htk⟩
      by_cases hlt : k < l.length
      · have hk' : (k : Int) < (l.length : Int) := by omega
        have hk2 : (k : Int) ≤ 2932031007317 := by omega
        have hlm : k < m.length := by have := HLn.out; omega
        have hx : (l.map Value.string)[k]? = some (.string l[k]) := by rw [List.getElem?_map, List.getElem?_eq_getElem hlt]; rfl
        have hy : (m.map Value.string)[k]? = some (.string m[k]) := by rw [List.getElem?_map, List.getElem?_eq_getElem hlm]; rfl
        obtain ⟨g, o, rfl, _, d0⟩ := (IsVals.below HA.out hbw) k _ hx
        obtain ⟨g', o', rfl, _, e0⟩ := (IsVals.below HB.out hbw) k _ hy
        have HSame : Hid (l[k] = m[k] → l.take (k + 1) = m.take (k + 1)) := fun e => by rw [List.take_add_one, List.take_add_one, HG.out.2.2, List.getElem?_eq_getElem hlt, List.getElem?_eq_getElem hlm, e]
        have HDiff : Hid (l[k] ≠ m[k] → l ≠ m) := fun e h => e (by subst h; rfl)
        clear hx hy
        generalize l[k] = x at *
        generalize m[k] = y at *
        have HLt : Hid (k < l.length) := hlt
        clear hkg hlt hbw htk hlm
        by_cases hxy : x = y
        · subst hxy
          have HS : Hid (l.take (k + 1) = m.take (k + 1)) := HSame.out rfl
          clear HSame HDiff
          have hq : (x.toList != x.toList) = false := by simp
          go_wp2_with fail
          go_quiet (fail)
          go_wp2_with fail
          go_roundg (l.length - (k + 1))
          case measure => have := HG.out.1; have := HLt.out; omega
          case rel => exact ⟨k + 1, by have := HLt.out; omega, by go_num, HS.out, HG.out.2.1.trans ((below_drewN _ _).mono HG.out.2.1.size)⟩
        · have HD : Hid (l ≠ m) := HDiff.out hxy
          clear HSame HDiff
          have hq0 : ¬ x.toList = y.toList := fun e => hxy (bytes_of e)
          have hq1 : (x.toList == y.toList) = false := by simpa using hq0
          have hq : (x.toList != y.toList) = true := by simpa using hq0
          go_wp2_with fail
          go_quiet (fail)
          go_wp2
          go_ret
          exact ⟨⟨false, rfl, by simp [HD.out]⟩, HG.out.2.1.trans ((below_drewN _ _).mono HG.out.2.1.size)⟩
      · have hk' : decide (k < l.length) = false := decide_eq_false hlt
        have HE : Hid (l = m) := by
          have hke : k = l.length := by omega
          rw [hke, List.take_length, HLn.out, List.take_length] at htk
          exact htk
        clear hkg hlt hbw htk
        go_wp2
        go_ret
        exact ⟨⟨true, rfl, by simp [HE.out]⟩, HG.out.2.1⟩
  · have hne : ((l.length : Int) != (m.length : Int)) = true := by simp; omega
    have HD : Hid (l ≠ m) := fun e => hlen (by rw [e])
    clear ha hb hlen hn
    go_enter Try.func42, Try.ntmps42
    go_wp2
    go_ret
    exact ⟨⟨false, rfl, by simp [HD.out]⟩, Below.refl _ _⟩
set_option maxHeartbeats 6400000 in
set_option maxRecDepth 100000 in
/-- two lists of queues -/
theorem eqQsG {w : World} {ao bo : Option Addr} {l m : List (ByteArray × Bool)} {ca cb : Nat} (ha : IsVals w ao (qF l)) (hb : IsVals w bo (qF m)) (hn : l.length ≤ 2932031007317) :
    Calls Try.prog 41 #[.slice ao l.length ca, .slice bo m.length cb] w fun e w' => (∃ b, e = .returned (.bool b) ∧ (b = true ↔ l = m)) ∧ Below w.heap.size w w' := by
  by_cases hlen : l.length = m.length
  · have HA := show Hid _ from ha
    have HB := show Hid _ from hb
    have HLn := show Hid _ from hlen
    have hn2 : (l.length : Int) ≤ 2932031007317 := by omega
    have hne : ((l.length : Int) != (l.length : Int)) = false := by simp
    rw [← hlen]
    clear ha hb hlen
    go_enter Try.func41, Try.ntmps41
    go_wp2_with fail
    go_loopg [13] l.length (fun gq x wr => ∃ k : Nat, k + gq = l.length ∧ x = .int .i64 (k : Int) ∧ l.take k = m.take k ∧ Below w.heap.size w wr)
    case atStart => exact ⟨0, by omega, rfl, rfl, Below.refl _ _⟩
    case round =>
      obtain ⟨k, hkg, rfl, htk, hbw⟩ := hrel
      have HG : Hid (k + gk = l.length ∧ Below w.heap.size w wr ∧ l.take k = m.take k) := ⟨hkg, hbw, htk⟩
      by_cases hlt : k < l.length
      · have hk' : (k : Int) < (l.length : Int) := by omega
        have hk2 : (k : Int) ≤ 2932031007317 := by omega
        have hlm : k < m.length := by have := HLn.out; omega
        obtain ⟨hx, hx2⟩ := qF_at l k hlt
        obtain ⟨hy, hy2⟩ := qF_at m k hlm
        obtain ⟨g, o, rfl, _, d0⟩ := (IsVals.below HA.out hbw) _ _ hx
        obtain ⟨g', o', rfl, _, e0⟩ := (IsVals.below HB.out hbw) _ _ hy
        obtain ⟨g2, o2, he2, _, d1⟩ := (IsVals.below HA.out hbw) _ _ hx2
        cases he2
        obtain ⟨g3, o3, he3, _, e1⟩ := (IsVals.below HB.out hbw) _ _ hy2
        cases he3
        rw [← Nat.add_assoc] at d1 e1
        have HSame : Hid (l[k] = m[k] → l.take (k + 1) = m.take (k + 1)) := fun e => by rw [List.take_add_one, List.take_add_one, HG.out.2.2, List.getElem?_eq_getElem hlt, List.getElem?_eq_getElem hlm, e]
        have HDiff : Hid (l[k] ≠ m[k] → l ≠ m) := fun e h => e (by subst h; rfl)
        clear hx hy hx2 hy2
        generalize l[k] = x at *
        generalize m[k] = y at *
        have HLt : Hid (k < l.length) := hlt
        clear hkg hlt hbw htk hlm
        by_cases hxy : x = y
        · subst hxy
          have HS : Hid (l.take (k + 1) = m.take (k + 1)) := HSame.out rfl
          clear HSame HDiff
          obtain ⟨x1, x2⟩ := x
          dsimp only at *
          go_wp2_with fail
          go_quiet (fail)
          go_wp2_with fail
          go_roundg (l.length - (k + 1))
          case measure => have := HG.out.1; have := HLt.out; omega
          case rel => exact ⟨k + 1, by have := HLt.out; omega, by go_num, HS.out, HG.out.2.1.trans ((below_drewN _ _).mono HG.out.2.1.size)⟩
        · have HD : Hid (l ≠ m) := HDiff.out hxy
          clear HSame HDiff
          have hq : ∀ u : World, (binOp BinOp.neq 79 (.agg #[.string x.1, .bool x.2]) (.agg #[.string y.1, .bool y.2])).run Try.prog u = .ok (.bool true) u := fun u => neq_queue hxy u
          obtain ⟨x1, x2⟩ := x
          obtain ⟨y1, y2⟩ := y
          dsimp only at *
          go_wp2_with fail
          go_quiet (fail)
          go_wp2
          go_ret
          exact ⟨⟨false, rfl, by simp [HD.out]⟩, HG.out.2.1.trans ((below_drewN _ _).mono HG.out.2.1.size)⟩
      · have hk' : decide (k < l.length) = false := decide_eq_false hlt
        have HE : Hid (l = m) := by
          have hke : k = l.length := by omega
          rw [hke, List.take_length, HLn.out, List.take_length] at htk
          exact htk
        clear hkg hlt hbw htk
        go_wp2
        go_ret
        exact ⟨⟨true, rfl, by simp [HE.out]⟩, HG.out.2.1⟩
  · have hne : ((l.length : Int) != (m.length : Int)) = true := by simp; omega
    have HD : Hid (l ≠ m) := fun e => hlen (by rw [e])
    clear ha hb hlen hn
    go_enter Try.func41, Try.ntmps41
    go_wp2
    go_ret
    exact ⟨⟨false, rfl, by simp [HD.out]⟩, Below.refl _ _⟩
set_option maxHeartbeats 6400000 in
set_option maxRecDepth 100000 in
/-- two lists of rows -/
theorem eqRowsG {w : World} {ao bo : Option Addr} {l m : List Rz} {ca cb : Nat} (ha : IsRz w ao l) (hb : IsRz w bo m) (hn : l.length ≤ 2932031007317) :
    Calls Try.prog 40 #[.slice ao l.length ca, .slice bo m.length cb] w fun e w' => (∃ b, e = .returned (.bool b) ∧ (b = true ↔ l = m)) ∧ Below w.heap.size w w' := by
  by_cases hlen : l.length = m.length
  · have HA := show Hid _ from ha
    have HB := show Hid _ from hb
    have HLn := show Hid _ from hlen
    have hn2 : (l.length : Int) ≤ 2932031007317 := by omega
    have hne : ((l.length : Int) != (l.length : Int)) = false := by simp
    rw [← hlen]
    clear ha hb hlen
    go_enter Try.func40, Try.ntmps40
    go_wp2_with fail
    go_loopg [13] l.length (fun gq x wr => ∃ k : Nat, k + gq = l.length ∧ x = .int .i64 (k : Int) ∧ l.take k = m.take k ∧ Below w.heap.size w wr)
    case atStart => exact ⟨0, by omega, rfl, rfl, Below.refl _ _⟩
    case round =>
      obtain ⟨k, hkg, rfl, htk, hbw⟩ := hrel
      have HG : Hid (k + gk = l.length ∧ Below w.heap.size w wr ∧ l.take k = m.take k) := ⟨hkg, hbw, htk⟩
      by_cases hlt : k < l.length
      · have hk' : (k : Int) < (l.length : Int) := by omega
        have hk2 : (k : Int) ≤ 2932031007317 := by omega
        have hlm : k < m.length := by have := HLn.out; omega
        have hx := List.getElem?_eq_getElem hlt
        have hy := List.getElem?_eq_getElem hlm
        obtain ⟨g, o, rfl, _, d0, d1, d2, d3, d4⟩ := (IsRz.below HA.out hbw) k _ hx
        obtain ⟨g', o', rfl, _, e0, e1, e2, e3, e4⟩ := (IsRz.below HB.out hbw) k _ hy
        have HSame : Hid (l[k] = m[k] → l.take (k + 1) = m.take (k + 1)) := fun e => by rw [List.take_add_one, List.take_add_one, HG.out.2.2, List.getElem?_eq_getElem hlt, List.getElem?_eq_getElem hlm, e]
        have HDiff : Hid (l[k] ≠ m[k] → l ≠ m) := fun e h => e (by subst h; rfl)
        clear hx hy
        generalize l[k] = x at *
        generalize m[k] = y at *
        have HLt : Hid (k < l.length) := hlt
        clear hkg hlt hbw htk hlm
        by_cases hxy : x = y
        · subst hxy
          have HS : Hid (l.take (k + 1) = m.take (k + 1)) := HSame.out rfl
          clear HSame HDiff
          obtain ⟨kd, nm, st, n, ks⟩ := x
          dsimp only at *
          go_wp2_with fail
          go_quiet (fail)
          go_wp2_with fail
          go_roundg (l.length - (k + 1))
          case measure => have := HG.out.1; have := HLt.out; omega
          case rel => exact ⟨k + 1, by have := HLt.out; omega, by go_num, HS.out, HG.out.2.1.trans ((below_drewN _ _).mono HG.out.2.1.size)⟩
        · have HD : Hid (l ≠ m) := HDiff.out hxy
          clear HSame HDiff
          have hq : ∀ u : World, (binOp BinOp.neq 35 (rv x) (rv y)).run Try.prog u = .ok (.bool true) u := fun u => neq_row hxy u
          obtain ⟨kd, nm, st, n, ks⟩ := x
          obtain ⟨kd', nm', st', n', ks'⟩ := y
          dsimp only at *
          go_wp2_with fail
          go_quiet (fail)
          go_wp2
          go_ret
          exact ⟨⟨false, rfl, by simp [HD.out]⟩, HG.out.2.1.trans ((below_drewN _ _).mono HG.out.2.1.size)⟩
      · have hk' : decide (k < l.length) = false := decide_eq_false hlt
        have HE : Hid (l = m) := by
          have hke : k = l.length := by omega
          rw [hke, List.take_length, HLn.out, List.take_length] at htk
          exact htk
        clear hkg hlt hbw htk
        go_wp2
        go_ret
        exact ⟨⟨true, rfl, by simp [HE.out]⟩, HG.out.2.1⟩
  · have hne : ((l.length : Int) != (m.length : Int)) = true := by simp; omega
    have HD : Hid (l ≠ m) := fun e => hlen (by rw [e])
    clear ha hb hlen hn
    go_enter Try.func40, Try.ntmps40
    go_wp2
    go_ret
    exact ⟨⟨false, rfl, by simp [HD.out]⟩, Below.refl _ _⟩
end Go.Proofs.Ytjhlfdlamjpdeaa.Nm

namespace Go.Proofs.Ytjhlfdlamjpdeaa.Nm
open Go.RowKit Go.Maps Go.Proofs.Ytjhlfdlamjpdeaa.Sp Go.Proofs.Ytjhlfdlamjpdeaa.Lx Go.Proofs.Ytjhlfdlamjpdeaa.Gr

/-- a policy, of whatever numbers -/
structure Pg where
  name : ByteArray
  rows : List Rz
  qs : List (ByteArray × Bool)
  vs : List ByteArray
  ts : List ByteArray
  us : List Int
  on : List Int
  miss : Int
def Pl.g (p : Pl) : Pg := ⟨p.name, p.rows, p.qs, p.vs, p.ts, p.us.map (fun n : Nat => (n : Int)), p.on, p.miss⟩
theorem Pg.ext8 {p q : Pg} (h0 : p.name = q.name) (h1 : p.miss = q.miss) (h2 : p.rows = q.rows) (h3 : p.qs = q.qs) (h4 : p.vs = q.vs) (h5 : p.ts = q.ts) (h6 : p.us = q.us) (h7 : p.on = q.on) : p = q := by
  cases p
  cases q
  simp_all
structure RdG (w : World) (p : Pg) (ao qo vo tto uo oo : Option Addr) : Prop where
  r : IsRz w ao p.rows
  q : IsVals w qo (qF p.qs)
  v : IsVals w vo (p.vs.map Value.string)
  t : IsVals w tto (p.ts.map Value.string)
  u : IsVals w uo (iv p.us)
  o : IsVals w oo (iv p.on)
theorem RdG.below {w w' : World} {p : Pg} {ao qo vo tto uo oo : Option Addr} (h : RdG w p ao qo vo tto uo oo) (hb : Below w.heap.size w w') : RdG w' p ao qo vo tto uo oo := ⟨h.r.below hb, h.q.below hb, h.v.below hb, h.t.below hb, h.u.below hb, h.o.below hb⟩
structure Pg.Sm (p : Pg) : Prop where
  r : p.rows.length ≤ 2932031007317
  q : p.qs.length ≤ 2932031007317
  v : p.vs.length ≤ 2932031007317
  t : p.ts.length ≤ 2932031007317
  u : p.us.length ≤ 2932031007317
  o : p.on.length ≤ 2932031007317
abbrev pvG (p : Pg) (ao qo vo tto uo oo : Option Addr) (ac qc vc tc uc oc : Nat) : Value := .agg #[.string p.name, .slice ao p.rows.length ac, .slice qo p.qs.length qc, .slice vo p.vs.length vc, .slice tto p.ts.length tc, .slice uo p.us.length uc, .slice oo p.on.length oc, .int .i64 p.miss]
set_option maxHeartbeats 12800000 in
set_option maxRecDepth 100000 in
/-- are two policies the same? -/
theorem same_any {w : World} {p q : Pg} {ao qo vo tto uo oo ao2 qo2 vo2 tto2 uo2 oo2 : Option Addr} {ac qc vc tc uc oc ac2 qc2 vc2 tc2 uc2 oc2 : Nat} (h1 : RdG w p ao qo vo tto uo oo) (h2 : RdG w q ao2 qo2 vo2 tto2 uo2 oo2) (hp : p.Sm) :
    Calls Try.prog 29 #[pvG p ao qo vo tto uo oo ac qc vc tc uc oc, pvG q ao2 qo2 vo2 tto2 uo2 oo2 ac2 qc2 vc2 tc2 uc2 oc2] w fun e w' => (∃ b, e = .returned (.bool b) ∧ (b = true ↔ p = q)) ∧ Below w.heap.size w w' := by
  dsimp only [pvG]
  have hb0 : Below w.heap.size w ((w.alloc (.cells #[.string p.name, .slice ao p.rows.length ac, .slice qo p.qs.length qc, .slice vo p.vs.length vc, .slice tto p.ts.length tc, .slice uo p.us.length uc, .slice oo p.on.length oc, .int .i64 p.miss] 40)).alloc (.cells #[.string q.name, .slice ao2 q.rows.length ac2, .slice qo2 q.qs.length qc2, .slice vo2 q.vs.length vc2, .slice tto2 q.ts.length tc2, .slice uo2 q.us.length uc2, .slice oo2 q.on.length oc2, .int .i64 q.miss] 40)) := ((Below.refl _ w).alloc (Nat.le_refl _) _).alloc (by simp) _
  have HB0 : Hid (Below w.heap.size w ((w.alloc (.cells #[.string p.name, .slice ao p.rows.length ac, .slice qo p.qs.length qc, .slice vo p.vs.length vc, .slice tto p.ts.length tc, .slice uo p.us.length uc, .slice oo p.on.length oc, .int .i64 p.miss] 40)).alloc (.cells #[.string q.name, .slice ao2 q.rows.length ac2, .slice qo2 q.qs.length qc2, .slice vo2 q.vs.length vc2, .slice tto2 q.ts.length tc2, .slice uo2 q.us.length uc2, .slice oo2 q.on.length oc2, .int .i64 q.miss] 40)) ∧ ((w.alloc (.cells #[.string p.name, .slice ao p.rows.length ac, .slice qo p.qs.length qc, .slice vo p.vs.length vc, .slice tto p.ts.length tc, .slice uo p.us.length uc, .slice oo p.on.length oc, .int .i64 p.miss] 40)).alloc (.cells #[.string q.name, .slice ao2 q.rows.length ac2, .slice qo2 q.qs.length qc2, .slice vo2 q.vs.length vc2, .slice tto2 q.ts.length tc2, .slice uo2 q.us.length uc2, .slice oo2 q.on.length oc2, .int .i64 q.miss] 40)).heap[w.heap.size]? = some (.cells #[.string p.name, .slice ao p.rows.length ac, .slice qo p.qs.length qc, .slice vo p.vs.length vc, .slice tto p.ts.length tc, .slice uo p.us.length uc, .slice oo p.on.length oc, .int .i64 p.miss] 40 (0, 0)) ∧ ((w.alloc (.cells #[.string p.name, .slice ao p.rows.length ac, .slice qo p.qs.length qc, .slice vo p.vs.length vc, .slice tto p.ts.length tc, .slice uo p.us.length uc, .slice oo p.on.length oc, .int .i64 p.miss] 40)).alloc (.cells #[.string q.name, .slice ao2 q.rows.length ac2, .slice qo2 q.qs.length qc2, .slice vo2 q.vs.length vc2, .slice tto2 q.ts.length tc2, .slice uo2 q.us.length uc2, .slice oo2 q.on.length oc2, .int .i64 q.miss] 40)).heap[w.heap.size + 1]? = some (.cells #[.string q.name, .slice ao2 q.rows.length ac2, .slice qo2 q.qs.length qc2, .slice vo2 q.vs.length vc2, .slice tto2 q.ts.length tc2, .slice uo2 q.us.length uc2, .slice oo2 q.on.length oc2, .int .i64 q.miss] 40 (0, 0))) := ⟨hb0, by rw [alloc_old _ _ _ (by simp)]; exact alloc_at _ _ _ rfl, alloc_at _ _ _ (by simp)⟩
  have HS1 := show Hid _ from hp
  have H1 := show Hid _ from h1
  have H2 := show Hid _ from h2
  obtain ⟨k0, k1, k2, k3, k4, k5, k6, k7⟩ := pol8 HB0.out.2.1
  obtain ⟨m0, m1, m2, m3, m4, m5, m6, m7⟩ := pol8 HB0.out.2.2
  clear h1 h2 hp hb0
  by_cases hnm : p.name = q.name
  · have hnb : (p.name.toList == q.name.toList) = true := by rw [hnm]; simp
    have HNm := show Hid _ from hnm
    clear hnm
    by_cases hmi : p.miss = q.miss
    · have hmb : (p.miss == q.miss) = true := by simp [hmi]
      have HMi := show Hid _ from hmi
      clear hmi
      go_enter Try.func29, Try.ntmps29
      go_wp2_with fail
      have HC := show Hid _ from eqRowsG (ca := ac) (cb := ac2) (RdG.below H1.out HB0.out.1).r (RdG.below H2.out HB0.out.1).r HS1.out.r
      clear k0 k1 k2 k3 k4 k5 k6 k7 m0 m1 m2 m3 m4 m5 m6 m7
      refine Calls.mono HC.out ?_
      rintro e w1 ⟨⟨b, rfl, hbi⟩, hb1⟩
      have HB1 : Hid (Below w.heap.size w w1 ∧ w1.heap[w.heap.size]? = some (.cells #[.string p.name, .slice ao p.rows.length ac, .slice qo p.qs.length qc, .slice vo p.vs.length vc, .slice tto p.ts.length tc, .slice uo p.us.length uc, .slice oo p.on.length oc, .int .i64 p.miss] 40 (0, 0)) ∧ w1.heap[w.heap.size + 1]? = some (.cells #[.string q.name, .slice ao2 q.rows.length ac2, .slice qo2 q.qs.length qc2, .slice vo2 q.vs.length vc2, .slice tto2 q.ts.length tc2, .slice uo2 q.us.length uc2, .slice oo2 q.on.length oc2, .int .i64 q.miss] 40 (0, 0))) := ⟨HB0.out.1.trans (hb1.mono HB0.out.1.size), (hb1.block _ (blk_lt HB0.out.2.1)).trans HB0.out.2.1, (hb1.block _ (blk_lt HB0.out.2.2)).trans HB0.out.2.2⟩
      have HI0 := show Hid _ from hbi
      clear HC hb1 hbi
      cases b with
      | false =>
        have HNe : Hid (p ≠ q) := fun e => absurd (HI0.out.2 (by rw [e])) (by decide)
        go_wp2
        go_ret
        exact ⟨⟨false, rfl, by simp [HNe.out]⟩, HB1.out.1⟩
      | true =>
        have HT0 := show Hid _ from HI0.out.1 rfl
        clear HI0
        obtain ⟨k0, k1, k2, k3, k4, k5, k6, k7⟩ := pol8 HB1.out.2.1
        obtain ⟨m0, m1, m2, m3, m4, m5, m6, m7⟩ := pol8 HB1.out.2.2
        go_wp2_with fail
        have HC := show Hid _ from eqQsG (ca := qc) (cb := qc2) (RdG.below H1.out HB1.out.1).q (RdG.below H2.out HB1.out.1).q HS1.out.q
        clear k0 k1 k2 k3 k4 k5 k6 k7 m0 m1 m2 m3 m4 m5 m6 m7
        refine Calls.mono HC.out ?_
        rintro e w2 ⟨⟨b, rfl, hbi⟩, hb2⟩
        have HB2 : Hid (Below w.heap.size w w2 ∧ w2.heap[w.heap.size]? = some (.cells #[.string p.name, .slice ao p.rows.length ac, .slice qo p.qs.length qc, .slice vo p.vs.length vc, .slice tto p.ts.length tc, .slice uo p.us.length uc, .slice oo p.on.length oc, .int .i64 p.miss] 40 (0, 0)) ∧ w2.heap[w.heap.size + 1]? = some (.cells #[.string q.name, .slice ao2 q.rows.length ac2, .slice qo2 q.qs.length qc2, .slice vo2 q.vs.length vc2, .slice tto2 q.ts.length tc2, .slice uo2 q.us.length uc2, .slice oo2 q.on.length oc2, .int .i64 q.miss] 40 (0, 0))) := ⟨HB1.out.1.trans (hb2.mono HB1.out.1.size), (hb2.block _ (blk_lt HB1.out.2.1)).trans HB1.out.2.1, (hb2.block _ (blk_lt HB1.out.2.2)).trans HB1.out.2.2⟩
        have HI1 := show Hid _ from hbi
        clear HC hb2 hbi
        cases b with
        | false =>
          have HNe : Hid (p ≠ q) := fun e => absurd (HI1.out.2 (by rw [e])) (by decide)
          go_wp2
          go_ret
          exact ⟨⟨false, rfl, by simp [HNe.out]⟩, HB2.out.1⟩
        | true =>
          have HT1 := show Hid _ from HI1.out.1 rfl
          clear HI1
          obtain ⟨k0, k1, k2, k3, k4, k5, k6, k7⟩ := pol8 HB2.out.2.1
          obtain ⟨m0, m1, m2, m3, m4, m5, m6, m7⟩ := pol8 HB2.out.2.2
          go_wp2_with fail
          have HC := show Hid _ from eqStrsG (ca := vc) (cb := vc2) (RdG.below H1.out HB2.out.1).v (RdG.below H2.out HB2.out.1).v HS1.out.v
          clear k0 k1 k2 k3 k4 k5 k6 k7 m0 m1 m2 m3 m4 m5 m6 m7
          refine Calls.mono HC.out ?_
          rintro e w3 ⟨⟨b, rfl, hbi⟩, hb3⟩
          have HB3 : Hid (Below w.heap.size w w3 ∧ w3.heap[w.heap.size]? = some (.cells #[.string p.name, .slice ao p.rows.length ac, .slice qo p.qs.length qc, .slice vo p.vs.length vc, .slice tto p.ts.length tc, .slice uo p.us.length uc, .slice oo p.on.length oc, .int .i64 p.miss] 40 (0, 0)) ∧ w3.heap[w.heap.size + 1]? = some (.cells #[.string q.name, .slice ao2 q.rows.length ac2, .slice qo2 q.qs.length qc2, .slice vo2 q.vs.length vc2, .slice tto2 q.ts.length tc2, .slice uo2 q.us.length uc2, .slice oo2 q.on.length oc2, .int .i64 q.miss] 40 (0, 0))) := ⟨HB2.out.1.trans (hb3.mono HB2.out.1.size), (hb3.block _ (blk_lt HB2.out.2.1)).trans HB2.out.2.1, (hb3.block _ (blk_lt HB2.out.2.2)).trans HB2.out.2.2⟩
          have HI2 := show Hid _ from hbi
          clear HC hb3 hbi
          cases b with
          | false =>
            have HNe : Hid (p ≠ q) := fun e => absurd (HI2.out.2 (by rw [e])) (by decide)
            go_wp2
            go_ret
            exact ⟨⟨false, rfl, by simp [HNe.out]⟩, HB3.out.1⟩
          | true =>
            have HT2 := show Hid _ from HI2.out.1 rfl
            clear HI2
            obtain ⟨k0, k1, k2, k3, k4, k5, k6, k7⟩ := pol8 HB3.out.2.1
            obtain ⟨m0, m1, m2, m3, m4, m5, m6, m7⟩ := pol8 HB3.out.2.2
            go_wp2_with fail
            have HC := show Hid _ from eqStrsG (ca := tc) (cb := tc2) (RdG.below H1.out HB3.out.1).t (RdG.below H2.out HB3.out.1).t HS1.out.t
            clear k0 k1 k2 k3 k4 k5 k6 k7 m0 m1 m2 m3 m4 m5 m6 m7
            refine Calls.mono HC.out ?_
            rintro e w4 ⟨⟨b, rfl, hbi⟩, hb4⟩
            have HB4 : Hid (Below w.heap.size w w4 ∧ w4.heap[w.heap.size]? = some (.cells #[.string p.name, .slice ao p.rows.length ac, .slice qo p.qs.length qc, .slice vo p.vs.length vc, .slice tto p.ts.length tc, .slice uo p.us.length uc, .slice oo p.on.length oc, .int .i64 p.miss] 40 (0, 0)) ∧ w4.heap[w.heap.size + 1]? = some (.cells #[.string q.name, .slice ao2 q.rows.length ac2, .slice qo2 q.qs.length qc2, .slice vo2 q.vs.length vc2, .slice tto2 q.ts.length tc2, .slice uo2 q.us.length uc2, .slice oo2 q.on.length oc2, .int .i64 q.miss] 40 (0, 0))) := ⟨HB3.out.1.trans (hb4.mono HB3.out.1.size), (hb4.block _ (blk_lt HB3.out.2.1)).trans HB3.out.2.1, (hb4.block _ (blk_lt HB3.out.2.2)).trans HB3.out.2.2⟩
            have HI3 := show Hid _ from hbi
            clear HC hb4 hbi
            cases b with
            | false =>
              have HNe : Hid (p ≠ q) := fun e => absurd (HI3.out.2 (by rw [e])) (by decide)
              go_wp2
              go_ret
              exact ⟨⟨false, rfl, by simp [HNe.out]⟩, HB4.out.1⟩
            | true =>
              have HT3 := show Hid _ from HI3.out.1 rfl
              clear HI3
              obtain ⟨k0, k1, k2, k3, k4, k5, k6, k7⟩ := pol8 HB4.out.2.1
              obtain ⟨m0, m1, m2, m3, m4, m5, m6, m7⟩ := pol8 HB4.out.2.2
              go_wp2_with fail
              have HC := show Hid _ from eqIntsG (ca := uc) (cb := uc2) (RdG.below H1.out HB4.out.1).u (RdG.below H2.out HB4.out.1).u HS1.out.u
              clear k0 k1 k2 k3 k4 k5 k6 k7 m0 m1 m2 m3 m4 m5 m6 m7
              refine Calls.mono HC.out ?_
              rintro e w5 ⟨⟨b, rfl, hbi⟩, hb5⟩
              have HB5 : Hid (Below w.heap.size w w5 ∧ w5.heap[w.heap.size]? = some (.cells #[.string p.name, .slice ao p.rows.length ac, .slice qo p.qs.length qc, .slice vo p.vs.length vc, .slice tto p.ts.length tc, .slice uo p.us.length uc, .slice oo p.on.length oc, .int .i64 p.miss] 40 (0, 0)) ∧ w5.heap[w.heap.size + 1]? = some (.cells #[.string q.name, .slice ao2 q.rows.length ac2, .slice qo2 q.qs.length qc2, .slice vo2 q.vs.length vc2, .slice tto2 q.ts.length tc2, .slice uo2 q.us.length uc2, .slice oo2 q.on.length oc2, .int .i64 q.miss] 40 (0, 0))) := ⟨HB4.out.1.trans (hb5.mono HB4.out.1.size), (hb5.block _ (blk_lt HB4.out.2.1)).trans HB4.out.2.1, (hb5.block _ (blk_lt HB4.out.2.2)).trans HB4.out.2.2⟩
              have HI4 := show Hid _ from hbi
              clear HC hb5 hbi
              cases b with
              | false =>
                have HNe : Hid (p ≠ q) := fun e => absurd (HI4.out.2 (by rw [e])) (by decide)
                go_wp2
                go_ret
                exact ⟨⟨false, rfl, by simp [HNe.out]⟩, HB5.out.1⟩
              | true =>
                have HT4 := show Hid _ from HI4.out.1 rfl
                clear HI4
                obtain ⟨k0, k1, k2, k3, k4, k5, k6, k7⟩ := pol8 HB5.out.2.1
                obtain ⟨m0, m1, m2, m3, m4, m5, m6, m7⟩ := pol8 HB5.out.2.2
                go_wp2_with fail
                have HC := show Hid _ from eqIntsG (ca := oc) (cb := oc2) (RdG.below H1.out HB5.out.1).o (RdG.below H2.out HB5.out.1).o HS1.out.o
                clear k0 k1 k2 k3 k4 k5 k6 k7 m0 m1 m2 m3 m4 m5 m6 m7
                refine Calls.mono HC.out ?_
                rintro e w6 ⟨⟨b, rfl, hbi⟩, hb6⟩
                have HB6 : Hid (Below w.heap.size w w6 ∧ w6.heap[w.heap.size]? = some (.cells #[.string p.name, .slice ao p.rows.length ac, .slice qo p.qs.length qc, .slice vo p.vs.length vc, .slice tto p.ts.length tc, .slice uo p.us.length uc, .slice oo p.on.length oc, .int .i64 p.miss] 40 (0, 0)) ∧ w6.heap[w.heap.size + 1]? = some (.cells #[.string q.name, .slice ao2 q.rows.length ac2, .slice qo2 q.qs.length qc2, .slice vo2 q.vs.length vc2, .slice tto2 q.ts.length tc2, .slice uo2 q.us.length uc2, .slice oo2 q.on.length oc2, .int .i64 q.miss] 40 (0, 0))) := ⟨HB5.out.1.trans (hb6.mono HB5.out.1.size), (hb6.block _ (blk_lt HB5.out.2.1)).trans HB5.out.2.1, (hb6.block _ (blk_lt HB5.out.2.2)).trans HB5.out.2.2⟩
                have HI5 := show Hid _ from hbi
                clear HC hb6 hbi
                cases b with
                | false =>
                  have HNe : Hid (p ≠ q) := fun e => absurd (HI5.out.2 (by rw [e])) (by decide)
                  go_wp2
                  go_ret
                  exact ⟨⟨false, rfl, by simp [HNe.out]⟩, HB6.out.1⟩
                | true =>
                  have HT5 := show Hid _ from HI5.out.1 rfl
                  clear HI5
                  go_wp2
                  go_ret
                  exact ⟨⟨true, rfl, by simp [Pg.ext8 HNm.out HMi.out HT0.out HT1.out HT2.out HT3.out HT4.out HT5.out]⟩, HB6.out.1⟩
    · have hmb : (p.miss == q.miss) = false := by simp [hmi]
      have HMi : Hid (p ≠ q) := fun e => hmi (by rw [e])
      clear hmi
      go_enter Try.func29, Try.ntmps29
      go_wp2
      go_ret
      exact ⟨⟨false, rfl, by simp [HMi.out]⟩, HB0.out.1⟩
  · have hnb : (p.name.toList == q.name.toList) = false := by
      simp only [beq_eq_false_iff_ne]
      exact fun e => hnm (bytes_of e)
    have HNm : Hid (p ≠ q) := fun e => hnm (by rw [e])
    clear hnm
    go_enter Try.func29, Try.ntmps29
    go_wp2
    go_ret
    exact ⟨⟨false, rfl, by simp [HNm.out]⟩, HB0.out.1⟩
/-- what is told can be read -/
theorem Rd.gen {w : World} {p : Pl} {ao qo vo tto uo oo : Option Addr} (h : Rd w p ao qo vo tto uo oo) : RdG w p.g ao qo vo tto uo oo := ⟨h.r, h.q, h.v, h.t, h.u, h.o⟩
set_option maxHeartbeats 1600000 in
set_option maxRecDepth 100000 in
theorem unnamed_nil (w : World) : Calls Try.prog 28 #[.slice none 0 0] w fun e w' => e = .returned (.slice none 0 0) ∧ w' = w := by
  have HC : Hid (Calls Try.prog 33 #[.slice none 0 0] w fun r w' => r = .returned (.slice none 0 0) ∧ w' = w) := by
    have hnil : ∀ u : World, (binOp BinOp.eql 36 (.slice none 0 0) (.slice none 0 0)).run Try.prog u = .ok (.bool true) u := fun _ => rfl
    go_enter Try.func33, Try.ntmps33
    go_wp2
    go_ret
    exact ⟨rfl, rfl⟩
  go_enter Try.func28, Try.ntmps28
  go_wp2_with fail
  refine Calls.mono HC.out ?_
  rintro e w1 ⟨rfl, rfl⟩
  go_wp2_with fail
  go_loopg [9] 0 (fun gq x wr => gq = 0 ∧ x = .int .i64 0 ∧ wr = w1)
  case atStart => exact ⟨rfl, rfl, rfl⟩
  case round =>
    obtain ⟨_, rfl, rfl⟩ := hrel
    go_wp2
    go_ret
    exact ⟨rfl, rfl⟩
theorem ask_pos {i c : Nat} {s : Rs} {j : Nat} (h : ask j i s = .error c) : 0 < c := by
  unfold ask at h
  split at h
  · unfold askD at h
    repeat' split at h
    all_goals first | (cases h; done) | (cases h; decide)
  · split at h
    · unfold askM at h
      repeat' split at h
      all_goals first | (cases h; done) | (cases h; decide)
    · unfold askH at h
      repeat' split at h
      all_goals first | (cases h; done) | (cases h; decide)
theorem askN_pos {i c : Nat} {s : Rs} (j : Nat) (h : askN i s j = .error c) : 0 < c := by
  induction j with
  | zero => cases h
  | succ j ih =>
    cases hj : askN i s j with
    | error c' =>
      simp only [askN, hj] at h
      cases h
      exact ih hj
    | ok t =>
      rw [askN_succ hj] at h
      exact ask_pos h
theorem upto_pos {s : Rs} {ci : Nat × Nat} (n : Nat) (h : upto s n = .error ci) : 0 < ci.1 := by
  induction n with
  | zero => cases h
  | succ n ih =>
    simp only [upto] at h
    split at h
    · rename_i e he
      cases h
      exact ih he
    · split at h
      · rename_i c hc
        cases h
        exact askN_pos 3 hc
      · cases h
theorem res_pos {l : List Rz} {ci : Nat × Nat} (h : res l = .error ci) : 0 < ci.1 := by
  unfold res at h
  split at h
  · rename_i hc
    cases h
    omega
  · unfold resR at h
    split at h
    · rename_i e he
      cases h
      exact upto_pos _ he
    · split at h
      · cases h
        exact (by decide : 0 < 34)
      · cases h
theorem upto_good {l : List Rz} (hB : Base l) (n : Nat) (hn : n ≤ l.length) {s : Rs} (h : upto (start l) n = .ok s) : Good l n s := by
  induction n generalizing s with
  | zero =>
    cases h
    exact good_start l
  | succ n ih =>
    simp only [upto] at h
    split at h
    · cases h
    · rename_i t ht
      have hg := ih (by omega) ht
      split at h
      · cases h
      · rename_i t' h3
        cases h
        cases h1 : askN n t 1 with
        | error c => rw [askN_err h1 2] at h3; cases h3
        | ok t1 =>
          cases h2 : askN n t 2 with
          | error c => rw [askN_err h2 1] at h3; cases h3
          | ok t2 =>
            have a1 : askD n t = .ok t1 := (askN_succ (j := 0) rfl).symm.trans h1
            have a2 : askM n t1 = .ok t2 := (askN_succ h1).symm.trans h2
            have a3 : askH n t2 = .ok s := (askN_succ h2).symm.trans h3
            exact good_H (good_M (good_D hB (by omega) hg a1) a2) a3
/-- what is told is no longer than it may be -/
theorem res_sm {l : List Rz} {p : Pl} (hl : l.length ≤ 2932031007317) (h : res l = .ok p) : p.g.Sm ∧ TreeZ p.rows ∧ p.us.length ≤ 64 ∧ p.rows.map clr = l.map clr ∧ ∀ u ∈ p.us, u < p.rows.length := by
  unfold res at h
  split at h
  · cases h
  · rename_i hc
    have hB := base_of (chk_ok (by simpa using hc)).2
    unfold resR at h
    split at h
    · cases h
    · rename_i s hs
      have hg := upto_good hB _ (Nat.le_refl _) hs
      have hll := like_len hg.like
      split at h
      · cases h
      · cases h
        have := hg.q
        have := hg.v
        have := hg.t
        have := hg.u
        exact ⟨⟨by show s.rows.length ≤ _; omega, by show s.qs.length ≤ _; omega, by show s.vs.length ≤ _; omega, by show s.ts.length ≤ _; omega, by show (s.us.map _).length ≤ _; rw [List.length_map]; omega, by show (onsOf _ _).length ≤ _; rw [onsOf_len]; omega⟩, like_tree hg.like hB.tree, hg.u, hg.like, fun u hu => by show u < s.rows.length; rw [hll]; exact hg.ul u hu⟩
theorem unnamed_gen {w : World} {ao : Option Addr} {l : List Rz} {cap : Nat} (h : IsRz w ao l) (hl : l.length ≤ 2932031007317) (hnil : ao = none → cap = 0) :
    Calls Try.prog 28 #[.slice ao l.length cap] w fun e w' => ∃ bo rc, e = .returned (.slice bo l.length rc) ∧ IsRz w' bo (l.map unn) ∧ Below w.heap.size w w' := by
  cases ao with
  | none =>
    have h0 : l = [] := by
      cases l with
      | nil => rfl
      | cons x l =>
        obtain ⟨g, o, e, _⟩ := h 0 x rfl
        cases e
    subst h0
    rw [hnil rfl]
    refine Calls.mono (unnamed_nil w) ?_
    rintro e w' ⟨rfl, rfl⟩
    exact ⟨none, 0, rfl, fun i x hx => by simp at hx, Below.refl _ _⟩
  | some a =>
    refine Calls.mono (unnamed_any h hl) ?_
    rintro e w' ⟨rb, rc, rfl, hr, hb⟩
    exact ⟨some ⟨rb, 0, none⟩, rc, rfl, hr.rz, hb⟩
set_option maxHeartbeats 12800000 in
set_option maxRecDepth 100000 in
/-- Check, of any policy -/
theorem checkP_any {w : World} {p : Pg} {ao qo vo tto uo oo : Option Addr} {ac qc vc tc uc oc : Nat} (h : RdG w p ao qo vo tto uo oo) (hs : p.Sm) (hnil : ao = none → ac = 0) :
    Calls Try.prog 23 #[pvG p ao qo vo tto uo oo ac qc vc tc uc oc] w fun e w' => ((∃ p', res (p.rows.map unn) = .ok p' ∧ p'.g = p ∧ e = .returned (.int .i64 0)) ∨ ((¬ ∃ p', res (p.rows.map unn) = .ok p' ∧ p'.g = p) ∧ e = .returned (.int .i64 23))) ∧ Below w.heap.size w w' := by
  have hb0 : Below w.heap.size w (w.alloc (.cells #[.string p.name, .slice ao p.rows.length ac, .slice qo p.qs.length qc, .slice vo p.vs.length vc, .slice tto p.ts.length tc, .slice uo p.us.length uc, .slice oo p.on.length oc, .int .i64 p.miss] 40)) := (Below.refl _ w).alloc (Nat.le_refl _) _
  have HB0 : Hid (Below w.heap.size w (w.alloc (.cells #[.string p.name, .slice ao p.rows.length ac, .slice qo p.qs.length qc, .slice vo p.vs.length vc, .slice tto p.ts.length tc, .slice uo p.us.length uc, .slice oo p.on.length oc, .int .i64 p.miss] 40)) ∧ (w.alloc (.cells #[.string p.name, .slice ao p.rows.length ac, .slice qo p.qs.length qc, .slice vo p.vs.length vc, .slice tto p.ts.length tc, .slice uo p.us.length uc, .slice oo p.on.length oc, .int .i64 p.miss] 40)).heap[w.heap.size]? = some (.cells #[.string p.name, .slice ao p.rows.length ac, .slice qo p.qs.length qc, .slice vo p.vs.length vc, .slice tto p.ts.length tc, .slice uo p.us.length uc, .slice oo p.on.length oc, .int .i64 p.miss] 40 (0, 0))) := ⟨hb0, heap_alloc_new w _⟩
  have HU := show Hid _ from unnamed_gen (cap := ac) (h.r.below hb0) hs.r hnil
  have H := show Hid _ from h
  have HS := show Hid _ from hs
  obtain ⟨k0, k1, k2, k3, k4, k5, k6, k7⟩ := pol8 HB0.out.2
  clear h hs hb0 hnil
  unfold pvG
  go_enter Try.func23, Try.ntmps23
  go_wp2_with fail
  refine Calls.mono HU.out ?_
  rintro e w1 ⟨bo, rc, rfl, hrw, hb1⟩
  have HB1 : Hid (Below w.heap.size w w1 ∧ w1.heap[w.heap.size]? = some (.cells #[.string p.name, .slice ao p.rows.length ac, .slice qo p.qs.length qc, .slice vo p.vs.length vc, .slice tto p.ts.length tc, .slice uo p.us.length uc, .slice oo p.on.length oc, .int .i64 p.miss] 40 (0, 0))) := ⟨HB0.out.1.trans (hb1.mono HB0.out.1.size), (hb1.block _ (blk_lt HB0.out.2)).trans HB0.out.2⟩
  have hlm : (p.rows.map unn).length ≤ 2932031007317 := by rw [List.length_map]; exact HS.out.r
  have HRs := show Hid _ from resolve_any (cap := rc) hrw hlm
  rw [List.length_map] at HRs
  have HPos : Hid (∀ ci, res (p.rows.map unn) = .error ci → 0 < ci.1) := fun ci h => res_pos h
  have HSm2 : Hid (∀ p', res (p.rows.map unn) = .ok p' → p'.g.Sm) := fun p' h => (res_sm hlm h).1
  clear hrw hb1 HU hlm k0 k1 k2 k3 k4 k5 k6 k7
  cases hRe : res (p.rows.map unn) with
  | error ci =>
    rw [hRe] at HRs
    have HRe := show Hid _ from hRe
    have hpos := HPos.out ci hRe
    clear hRe
    obtain ⟨c1, c2⟩ := ci
    dsimp only at hpos
    have hc0 : ((c1 : Int) != 0) = true := by simp; omega
    clear hpos HPos HSm2
    go_wp2_with fail
    refine Calls.mono HRs.out ?_
    rintro e w2 ⟨hb2, rfl⟩
    have hx3 : ((w2.alloc (.cells #[.string ⟨#[]⟩, pz, pz, pz, pz, pz, pz, .int .i64 0] 40)).alloc (.cells #[.int .i64 (c1 : Int), .int .i64 (c2 : Int)] 44)).heap[w2.heap.size + 1]? = some (.cells #[.int .i64 (c1 : Int), .int .i64 (c2 : Int)] 44 (0, 0)) := alloc_at _ _ _ (by simp)
    have f0 : ((w2.alloc (.cells #[.string ⟨#[]⟩, pz, pz, pz, pz, pz, pz, .int .i64 0] 40)).alloc (.cells #[.int .i64 (c1 : Int), .int .i64 (c2 : Int)] 44)).cell? ⟨w2.heap.size + 1, 0, none⟩ = some (.int .i64 (c1 : Int)) := by rw [World.cell?, hx3]; rfl
    have HB3 : Hid (Below w.heap.size w ((w2.alloc (.cells #[.string ⟨#[]⟩, pz, pz, pz, pz, pz, pz, .int .i64 0] 40)).alloc (.cells #[.int .i64 (c1 : Int), .int .i64 (c2 : Int)] 44))) := HB1.out.1.trans ((hb2.trans (((Below.refl _ w2).alloc (Nat.le_refl _) _).alloc (by simp) _ |>.mono hb2.size)).mono HB1.out.1.size)
    clear hb2 hx3 HRs
    go_wp2
    go_ret
    exact ⟨Or.inr ⟨fun ⟨p', h, _⟩ => (by rw [HRe.out] at h; cases h), rfl⟩, HB3.out⟩
  | ok p' =>
    rw [hRe] at HRs
    have HRe := show Hid _ from hRe
    have HSp := show Hid _ from HSm2.out p' hRe
    clear hRe
    clear HPos HSm2
    go_wp2_with fail
    refine Calls.mono HRs.out ?_
    rintro e w2 ⟨hb2, v, rfl, hpl⟩
    obtain ⟨rb2, qo2, vo2, tto2, uo2, oo2, ac2, qc2, vc2, tc2, uc2, oc2, rfl, _, hrd, _, _⟩ := hpl.rd
    have hul : p'.us.length = p'.g.us.length := by simp [Pl.g]
    dsimp only [pv]
    rw [hul]
    have hb3 : Below w2.heap.size w2 ((w2.alloc (.cells #[.string p'.name, .slice (some ⟨rb2, 0, none⟩) p'.rows.length ac2, .slice qo2 p'.qs.length qc2, .slice vo2 p'.vs.length vc2, .slice tto2 p'.ts.length tc2, .slice uo2 p'.g.us.length uc2, .slice oo2 p'.on.length oc2, .int .i64 p'.miss] 40)).alloc (.cells #[.int .i64 0, .int .i64 0] 44)) := ((Below.refl _ w2).alloc (Nat.le_refl _) _).alloc (by simp) _
    have HB3 : Hid (Below w.heap.size w ((w2.alloc (.cells #[.string p'.name, .slice (some ⟨rb2, 0, none⟩) p'.rows.length ac2, .slice qo2 p'.qs.length qc2, .slice vo2 p'.vs.length vc2, .slice tto2 p'.ts.length tc2, .slice uo2 p'.g.us.length uc2, .slice oo2 p'.on.length oc2, .int .i64 p'.miss] 40)).alloc (.cells #[.int .i64 0, .int .i64 0] 44)) ∧ RdG ((w2.alloc (.cells #[.string p'.name, .slice (some ⟨rb2, 0, none⟩) p'.rows.length ac2, .slice qo2 p'.qs.length qc2, .slice vo2 p'.vs.length vc2, .slice tto2 p'.ts.length tc2, .slice uo2 p'.g.us.length uc2, .slice oo2 p'.on.length oc2, .int .i64 p'.miss] 40)).alloc (.cells #[.int .i64 0, .int .i64 0] 44)) p'.g (some ⟨rb2, 0, none⟩) qo2 vo2 tto2 uo2 oo2) := ⟨HB1.out.1.trans ((hb2.trans (hb3.mono hb2.size)).mono HB1.out.1.size), (hrd.below hb3).gen⟩
    have hx1 : ((w2.alloc (.cells #[.string p'.name, .slice (some ⟨rb2, 0, none⟩) p'.rows.length ac2, .slice qo2 p'.qs.length qc2, .slice vo2 p'.vs.length vc2, .slice tto2 p'.ts.length tc2, .slice uo2 p'.g.us.length uc2, .slice oo2 p'.on.length oc2, .int .i64 p'.miss] 40)).alloc (.cells #[.int .i64 0, .int .i64 0] 44)).heap[w.heap.size]? = some (.cells #[.string p.name, .slice ao p.rows.length ac, .slice qo p.qs.length qc, .slice vo p.vs.length vc, .slice tto p.ts.length tc, .slice uo p.us.length uc, .slice oo p.on.length oc, .int .i64 p.miss] 40 (0, 0)) := ((hb2.trans (hb3.mono hb2.size)).block _ (blk_lt HB1.out.2)).trans HB1.out.2
    have hx2 : ((w2.alloc (.cells #[.string p'.name, .slice (some ⟨rb2, 0, none⟩) p'.rows.length ac2, .slice qo2 p'.qs.length qc2, .slice vo2 p'.vs.length vc2, .slice tto2 p'.ts.length tc2, .slice uo2 p'.g.us.length uc2, .slice oo2 p'.on.length oc2, .int .i64 p'.miss] 40)).alloc (.cells #[.int .i64 0, .int .i64 0] 44)).heap[w2.heap.size]? = some (.cells #[.string p'.name, .slice (some ⟨rb2, 0, none⟩) p'.rows.length ac2, .slice qo2 p'.qs.length qc2, .slice vo2 p'.vs.length vc2, .slice tto2 p'.ts.length tc2, .slice uo2 p'.g.us.length uc2, .slice oo2 p'.on.length oc2, .int .i64 p'.miss] 40 (0, 0)) := by rw [alloc_old _ _ _ (by simp)]; exact alloc_at _ _ _ rfl
    have hx3 : ((w2.alloc (.cells #[.string p'.name, .slice (some ⟨rb2, 0, none⟩) p'.rows.length ac2, .slice qo2 p'.qs.length qc2, .slice vo2 p'.vs.length vc2, .slice tto2 p'.ts.length tc2, .slice uo2 p'.g.us.length uc2, .slice oo2 p'.on.length oc2, .int .i64 p'.miss] 40)).alloc (.cells #[.int .i64 0, .int .i64 0] 44)).heap[w2.heap.size + 1]? = some (.cells #[.int .i64 0, .int .i64 0] 44 (0, 0)) := alloc_at _ _ _ (by simp)
    obtain ⟨k0, k1, k2, k3, k4, k5, k6, k7⟩ := pol8 hx1
    obtain ⟨m0, m1, m2, m3, m4, m5, m6, m7⟩ := pol8 hx2
    have f0 : ((w2.alloc (.cells #[.string p'.name, .slice (some ⟨rb2, 0, none⟩) p'.rows.length ac2, .slice qo2 p'.qs.length qc2, .slice vo2 p'.vs.length vc2, .slice tto2 p'.ts.length tc2, .slice uo2 p'.g.us.length uc2, .slice oo2 p'.on.length oc2, .int .i64 p'.miss] 40)).alloc (.cells #[.int .i64 0, .int .i64 0] 44)).cell? ⟨w2.heap.size + 1, 0, none⟩ = some (.int .i64 0) := by rw [World.cell?, hx3]; rfl
    have HSm : Hid (Calls Try.prog 29 #[.agg #[.string p'.name, .slice (some ⟨rb2, 0, none⟩) p'.rows.length ac2, .slice qo2 p'.qs.length qc2, .slice vo2 p'.vs.length vc2, .slice tto2 p'.ts.length tc2, .slice uo2 p'.g.us.length uc2, .slice oo2 p'.on.length oc2, .int .i64 p'.miss], .agg #[.string p.name, .slice ao p.rows.length ac, .slice qo p.qs.length qc, .slice vo p.vs.length vc, .slice tto p.ts.length tc, .slice uo p.us.length uc, .slice oo p.on.length oc, .int .i64 p.miss]] ((w2.alloc (.cells #[.string p'.name, .slice (some ⟨rb2, 0, none⟩) p'.rows.length ac2, .slice qo2 p'.qs.length qc2, .slice vo2 p'.vs.length vc2, .slice tto2 p'.ts.length tc2, .slice uo2 p'.g.us.length uc2, .slice oo2 p'.on.length oc2, .int .i64 p'.miss] 40)).alloc (.cells #[.int .i64 0, .int .i64 0] 44)) fun e w' => (∃ b, e = .returned (.bool b) ∧ (b = true ↔ p'.g = p)) ∧ Below ((w2.alloc (.cells #[.string p'.name, .slice (some ⟨rb2, 0, none⟩) p'.rows.length ac2, .slice qo2 p'.qs.length qc2, .slice vo2 p'.vs.length vc2, .slice tto2 p'.ts.length tc2, .slice uo2 p'.g.us.length uc2, .slice oo2 p'.on.length oc2, .int .i64 p'.miss] 40)).alloc (.cells #[.int .i64 0, .int .i64 0] 44)).heap.size ((w2.alloc (.cells #[.string p'.name, .slice (some ⟨rb2, 0, none⟩) p'.rows.length ac2, .slice qo2 p'.qs.length qc2, .slice vo2 p'.vs.length vc2, .slice tto2 p'.ts.length tc2, .slice uo2 p'.g.us.length uc2, .slice oo2 p'.on.length oc2, .int .i64 p'.miss] 40)).alloc (.cells #[.int .i64 0, .int .i64 0] 44)) w') := same_any (p := p'.g) (q := p) HB3.out.2 (RdG.below H.out HB3.out.1) HSp.out
    clear hb2 hb3 hpl hrd hx1 hx2 hx3 HRs hul
    go_wp2_with fail
    refine Calls.mono HSm.out ?_
    rintro e w5 ⟨⟨b, rfl, hbi⟩, hb5⟩
    have HB5 : Hid (Below w.heap.size w w5) := HB3.out.1.trans (hb5.mono HB3.out.1.size)
    have HI := show Hid _ from hbi
    clear hb5 hbi HSm k0 k1 k2 k3 k4 k5 k6 k7 m0 m1 m2 m3 m4 m5 m6 m7
    cases b with
    | true =>
      have HT := show Hid _ from HI.out.1 rfl
      clear HI
      go_wp2
      go_ret
      exact ⟨Or.inl ⟨p', HRe.out, HT.out, rfl⟩, HB5.out⟩
    | false =>
      have HT : Hid (p'.g ≠ p) := fun e => absurd (HI.out.2 e) (by decide)
      clear HI
      go_wp2
      go_ret
      exact ⟨Or.inr ⟨fun ⟨p2, h, e⟩ => (by rw [HRe.out] at h; cases h; exact HT.out e), rfl⟩, HB5.out⟩
end Go.Proofs.Ytjhlfdlamjpdeaa.Nm

namespace Go.Proofs.Ytjhlfdlamjpdeaa.Gr
open Go.RowKit Go.Proofs.Ytjhlfdlamjpdeaa.Sp Go.Proofs.Ytjhlfdlamjpdeaa.Lx

/-- a rule, a policy stand nowhere within a rule -/
theorem stand_in {d s c k : Int} (h0 : d ≠ 0) (h1 : d ≠ 1) (h : mayStand d s c k = true) : k ≠ 7 ∧ k ≠ 1 ∧ k ≠ 0 := by
  unfold mayStand at h
  rw [if_neg h0, if_neg h1] at h
  refine ⟨?_, ?_, ?_⟩
  all_goals
    rintro rfl
    split at h
    · exact absurd h (by decide)
    split at h
    · exact absurd h (by decide)
    split at h
    · exact absurd h (by decide)
    split at h
    · exact absurd h (by decide)
    unfold mayFollow at h
    repeat' split at h
    all_goals exact absurd h (by decide)
theorem pop_app (v b : List Ab) : pop (v ++ b) = if pop v = [] then pop b else pop v ++ b := by
  induction v with
  | nil => simp [pop]
  | cons a v ih =>
    simp only [List.cons_append, pop]
    split
    · exact ih
    · simp
theorem pop_mem (v : List Ab) : ∀ a ∈ pop v, a ∈ v := by
  induction v with
  | nil => intro a h; exact h
  | cons c v ih =>
    intro a h
    simp only [pop] at h
    split at h
    · exact List.mem_cons_of_mem _ (ih a h)
    · exact h
theorem in_rule (l : List Rz) : ∀ (u b : List Ab) (i : Nat), (∀ a ∈ u, a.kind ≠ 0 ∧ a.kind ≠ 1) → (u = [] ∨ ∃ a r, u = a :: r ∧ (a.seen : Int) < a.kids) → (wrong (u ++ b) i l).2 = false → ∀ j x, sz l (mis u) = some x → j < x → (rat l j).kind ≠ 7 := by
  induction l with
  | nil =>
    intro u b i _ _ _ j x hx hj
    simp only [sz] at hx
    split at hx
    · cases hx; omega
    · cases hx
  | cons r l ih =>
    intro u b i hu ht h j x hx hj
    rcases ht with rfl | ⟨a, t, rfl, hlt⟩
    · rw [show mis [] = 0 from rfl, sz_zero] at hx
      cases hx
      omega
    · simp only [wrong, List.cons_append] at h
      split at h
      · cases h
      · rename_i hc
        simp only [List.isEmpty_cons, Bool.false_or, Bool.not_eq_true', Bool.not_eq_false, Bool.and_eq_true] at hc
        have hk := filled_kids hc.2
        obtain ⟨a0, a1⟩ := hu a (by simp)
        obtain ⟨k7, k1, k0⟩ := stand_in (d := a.kind) a0 a1 hc.1
        cases j with
        | zero => exact k7
        | succ j =>
          have hm : mis (pop (⟨r.kind, r.kids, 0, 0, 0⟩ :: bump r.kind (a :: t))) = mis (a :: t) - 1 + r.m := by
            rw [mis_pop]
            simp only [mis, bump, Rz.m]
            omega
          obtain ⟨x1, hx1⟩ := sz_cons (by simp only [mis]; omega) hx
          rw [← hm] at hx1
          have hpa : past (a :: (t ++ b)) r 0 = if pop (⟨r.kind, r.kids, 0, 0, 0⟩ :: bump r.kind (a :: t)) = [] then pop b else pop (⟨r.kind, r.kids, 0, 0, 0⟩ :: bump r.kind (a :: t)) ++ b := by
            rw [← pop_app]
            rfl
          rw [hpa] at h
          by_cases hp : pop (⟨r.kind, r.kids, 0, 0, 0⟩ :: bump r.kind (a :: t)) = []
          · rw [hp, show mis [] = 0 from rfl, sz_zero] at hx1
            have := Option.some.inj hx1
            omega
          · rw [if_neg hp] at h
            have hmem : ∀ c ∈ pop (⟨r.kind, r.kids, 0, 0, 0⟩ :: bump r.kind (a :: t)), c.kind ≠ 0 ∧ c.kind ≠ 1 := fun c hc2 => by
              have := pop_mem _ c hc2
              simp only [bump, List.mem_cons] at this
              rcases this with rfl | rfl | hm2
              · exact ⟨k0, k1⟩
              · exact ⟨a0, a1⟩
              · exact hu c (by simp [hm2])
            have hpp : ∀ x : List Ab, pop x = [] ∨ ∃ b q, pop x = b :: q ∧ (b.seen : Int) < b.kids := by
              intro x
              induction x with
              | nil => exact Or.inl rfl
              | cons c x ihx =>
                simp only [pop]
                split
                · exact ihx
                · exact Or.inr ⟨c, x, rfl, by omega⟩
            have := ih _ b (i + 1) hmem (hpp _) h j (x - 1) hx1 (by omega)
            exact this
theorem wrong_drop (l : List Rz) : ∀ (t : List Ab) (i a : Nat), a ≤ l.length → (wrong t i l).2 = false → ∃ t', (wrong t' (i + a) (l.drop a)).2 = false := by
  induction l with
  | nil =>
    intro t i a ha h
    have h0 : a = 0 := by simpa using ha
    subst h0
    exact ⟨t, h⟩
  | cons r l ih =>
    intro t i a ha h
    cases a with
    | zero => exact ⟨t, h⟩
    | succ a =>
      simp only [wrong] at h
      split at h
      · cases h
      · obtain ⟨t', h'⟩ := ih _ (i + 1) a (by simpa using ha) h
        exact ⟨t', by rw [show i + (a + 1) = i + 1 + a by omega]; exact h'⟩
theorem rat_drop (l : List Rz) (a j : Nat) : rat (l.drop a) j = rat l (a + j) := by simp [rat, List.getD_eq_getElem?_getD, List.getElem?_drop]
/-- no rule stands within a rule -/
theorem rule_apart {l : List Rz} (h : (wrong [ab1] 0 l).2 = false) {a c : Nat} (ha : a < l.length) (hk : (rat l a).kind = 7) (hac : a < c) (hce : c < endp l a) : (rat l c).kind ≠ 7 := by
  have hW := whole_of h
  have hf := wrong_all l _ _ h _ (List.mem_of_getElem? (some_rat ha))
  have hk1 : 1 ≤ (rat l a).kids := Nm.filled_kid hf (Or.inl hk)
  obtain ⟨t, ht⟩ := wrong_drop l [ab1] 0 a (by omega) h
  obtain ⟨r, hr1, hr2, _⟩ := drop_at ha
  have hr : r = rat l a := by rw [some_rat ha] at hr1; exact (Option.some.inj hr1).symm
  subst hr
  rw [hr2] at ht
  simp only [wrong] at ht
  split at ht
  · cases ht
  · have hpa : past t (rat l a) 0 = [⟨(rat l a).kind, (rat l a).kids, 0, 0, 0⟩] ++ bump (rat l a).kind t := by
      unfold past
      simp only [pop]
      rw [if_neg (by omega)]
      rfl
    rw [hpa] at ht
    have hE : ∃ x, sz (l.drop (a + 1)) (mis [⟨(rat l a).kind, (rat l a).kids, 0, 0, 0⟩]) = some x ∧ endp l a = a + 1 + x := by
      obtain ⟨h1, h2⟩ := end_kid hW ha
      unfold endp at *
      rw [hr2] at *
      cases hs : sz (rat l a :: l.drop (a + 1)) 1 with
      | none => rw [hs] at h2; simp at h2
      | some y =>
        obtain ⟨hy, hz⟩ := sz_cons (Nat.le_refl 1) hs
        refine ⟨y - 1, ?_, ?_⟩
        · rw [← hz]
          congr 1
          simp [mis, Rz.m]
        · simp
          omega
    obtain ⟨x, hx1, hx2⟩ := hE
    have := in_rule (l.drop (a + 1)) [⟨(rat l a).kind, (rat l a).kids, 0, 0, 0⟩] (bump (rat l a).kind t) _ (by intro q hq; simp only [List.mem_singleton] at hq; subst hq; dsimp only; rw [hk]; decide) (Or.inr ⟨_, [], rfl, by show (0 : Int) < (rat l a).kids; omega⟩) ht (c - (a + 1)) x hx1 (by omega)
    rw [rat_drop, show a + 1 + (c - (a + 1)) = c by omega] at this
    exact this
end Go.Proofs.Ytjhlfdlamjpdeaa.Gr

namespace Go.Proofs.Ytjhlfdlamjpdeaa.Nm
open Go.RowKit Go.Maps Go.Proofs.Ytjhlfdlamjpdeaa.Sp Go.Proofs.Ytjhlfdlamjpdeaa.Lx Go.Proofs.Ytjhlfdlamjpdeaa.Gr

theorem rat_numb_ne {l : List Rz} {i j n : Nat} (h : j ≠ i) : rat (numb l i n) j = rat l j := by
  simp only [rat, numb, List.getD_eq_getElem?_getD, List.getElem?_set, if_neg (Ne.symm h)]
/-- rules, and what calls mean, in the first i rows (m of them named) -/
structure Cl (l0 : List Rz) (i m : Nat) (s : Rs) : Prop where
  k : ∀ e ∈ s.known, e.2.1 = 4 → ∃ h : e.2.2.1 < s.us.length, e.2.2.2 = endp l0 (s.us[e.2.2.1] - 1)
  u : ∀ k (h : k < s.us.length), 1 ≤ s.us[k] ∧ s.us[k] ≤ i ∧ (rat l0 (s.us[k] - 1)).kind = 7
  o : s.us.Pairwise (· < ·)
  c : ∀ j, j < m → (rat l0 j).kind = 22 → ∃ n : Nat, ∃ h : n < s.us.length, (rat s.rows j).n = (n : Int) ∧ endp l0 (s.us[n] - 1) ≤ j
theorem cl_D {l0 : List Rz} {i m : Nat} {s s' : Rs} (hi : i < l0.length) (hg : Good l0 m s) (h : Cl l0 i i s) (hs : askD i s = .ok s') : Cl l0 (i + 1) i s' := by
  have hup : Cl l0 (i + 1) i s := ⟨h.k, fun k hk => ⟨(h.u k hk).1, Nat.le_succ_of_le (h.u k hk).2.1, (h.u k hk).2.2⟩, h.o, h.c⟩
  unfold askD at hs
  split at hs
  · cases hs; exact hup
  split at hs
  · cases hs
  split at hs
  · cases hs
  rename_i hd _ _
  cases hs
  have hkd := like_kind hg.like hi
  have hend : endp (numb s.rows i (s.cnt (decl (rat s.rows i).kind))) i = endp l0 i := endp_like ((numb_clr _ _ _).trans hg.like) i
  by_cases h7 : (rat s.rows i).kind = 7
  · have hus : (s.dec i).us = s.us ++ [i + 1] := if_pos h7
    have hd4 : decl (rat s.rows i).kind = 4 := by rw [h7]; rfl
    have hcn : s.cnt 4 = s.us.length := rfl
    have hget : ∀ k (hk : k < s.us.length) (hk2 : k < (s.dec i).us.length), (s.dec i).us[k] = s.us[k] := fun k hk hk2 => by simp only [hus]; exact List.getElem_append_left hk
    refine ⟨fun e he h4 => ?_, fun k hk => ?_, ?_, fun j hj h22 => ?_⟩
    · rcases List.mem_cons.1 he with rfl | he
      · dsimp only
        rw [hend, hd4, hcn]
        refine ⟨by rw [hus]; simp, ?_⟩
        simp only [hus]
        simp
      · obtain ⟨h1, h2⟩ := h.k e he h4
        have h3 : e.2.2.1 < (s.dec i).us.length := by rw [hus]; simp; omega
        exact ⟨h3, by rw [hget _ h1 h3]; exact h2⟩
    · by_cases hk2 : k < s.us.length
      · rw [hget k hk2 hk]
        exact hup.u k hk2
      · have hk3 : k = s.us.length := by rw [hus] at hk; simp at hk; omega
        subst hk3
        have he : (s.dec i).us[s.us.length] = i + 1 := by simp only [hus]; simp
        rw [he]
        exact ⟨by omega, Nat.le_refl _, by rw [Nat.add_sub_cancel, ← hkd.1]; exact h7⟩
    · rw [hus]
      refine List.pairwise_append.2 ⟨h.o, List.pairwise_singleton _ _, fun a ha b hb => ?_⟩
      rw [List.mem_singleton.1 hb]
      obtain ⟨k, hk, rfl⟩ := List.mem_iff_getElem.1 ha
      have := (h.u k hk).2.1
      omega
    · obtain ⟨n, hn, h1, h2⟩ := h.c j hj h22
      have h3 : n < (s.dec i).us.length := by rw [hus]; simp; omega
      exact ⟨n, h3, by show (rat (numb _ _ _) j).n = _; rw [rat_numb_ne (by omega)]; exact h1, by rw [hget _ hn h3]; exact h2⟩
  · have hus : (s.dec i).us = s.us := if_neg h7
    have hd4 : decl (rat s.rows i).kind ≠ 4 := fun e => by
      rcases decl_cases (rat s.rows i).kind with ⟨_, e2⟩ | ⟨_, e2⟩ | ⟨_, e2⟩ | ⟨_, e2⟩ | ⟨e1, _⟩ | ⟨_, _, _, _, _, e2⟩
      all_goals first | exact h7 e1 | omega
    refine ⟨fun e he h4 => ?_, ?_, ?_, fun j hj h22 => ?_⟩
    · rcases List.mem_cons.1 he with rfl | he
      · exact absurd h4 hd4
      · simp only [hus]
        exact h.k e he h4
    · simp only [hus]
      exact hup.u
    · rw [hus]
      exact h.o
    · simp only [hus]
      obtain ⟨n, hn, h1, h2⟩ := h.c j hj h22
      exact ⟨n, hn, by show (rat (numb _ _ _) j).n = _; rw [rat_numb_ne (by omega)]; exact h1, h2⟩
theorem cl_M {l0 : List Rz} {i m : Nat} {s s' : Rs} (hi : i < l0.length) (hg : Good l0 m s) (h : Cl l0 (i + 1) i s) (hs : askM i s = .ok s') : Cl l0 (i + 1) (i + 1) s' := by
  have hkd := like_kind hg.like hi
  have hlen := like_len hg.like
  unfold askM at hs
  split at hs
  · rename_i h0
    cases hs
    refine ⟨h.k, h.u, h.o, fun j hj h22 => ?_⟩
    by_cases e : j = i
    · subst e
      rw [hkd.1, h22] at h0
      exact absurd h0 (by decide)
    · exact h.c j (by omega) h22
  split at hs
  · cases hs
  rename_i k mm p hlk
  split at hs
  · cases hs
  rename_i hp
  split at hs
  · cases hs
  · rename_i hne
    cases hs
    refine ⟨h.k, h.u, h.o, fun j hj h22 => ?_⟩
    by_cases e : j = i
    · subst e
      have h4 : k = 4 := by
        have : nmd (rat s.rows j).kind = 4 := by rw [hkd.1, h22]; rfl
        omega
      obtain ⟨h1, h2⟩ := h.k _ (lk_mem hlk) h4
      exact ⟨mm, h1, by show (rat (numb _ _ _) j).n = _; rw [rat_numb (by omega)], by rw [← h2]; dsimp only; omega⟩
    · obtain ⟨n, hn, h1, h2⟩ := h.c j (by omega) h22
      exact ⟨n, hn, by show (rat (numb _ _ _) j).n = _; rw [rat_numb_ne e]; exact h1, h2⟩
theorem cl_H {l0 : List Rz} {i n : Nat} {s s' : Rs} (h : Cl l0 n n s) (hs : askH i s = .ok s') : Cl l0 n n s' := by
  unfold askH at hs
  split at hs
  · cases hs; exact h
  split at hs
  · cases hs
  · cases hs
    exact ⟨h.k, h.u, h.o, h.c⟩
theorem upto_cl {l : List Rz} (hB : Base l) (n : Nat) (hn : n ≤ l.length) {s : Rs} (h : upto (start l) n = .ok s) : Cl l n n s := by
  induction n generalizing s with
  | zero =>
    cases h
    exact ⟨fun e he => by simp [start] at he, fun k hk => by simp [start] at hk, List.Pairwise.nil, fun j hj => by omega⟩
  | succ n ih =>
    simp only [upto] at h
    split at h
    · cases h
    · rename_i t ht
      have hc := ih (by omega) ht
      have hg := upto_good hB n (by omega) ht
      split at h
      · cases h
      · rename_i t' h3
        cases h
        cases h1 : askN n t 1 with
        | error c => rw [askN_err h1 2] at h3; cases h3
        | ok t1 =>
          cases h2 : askN n t 2 with
          | error c => rw [askN_err h2 1] at h3; cases h3
          | ok t2 =>
            have a1 : askD n t = .ok t1 := (askN_succ (j := 0) rfl).symm.trans h1
            have a2 : askM n t1 = .ok t2 := (askN_succ h1).symm.trans h2
            have a3 : askH n t2 = .ok s := (askN_succ h2).symm.trans h3
            exact cl_H (cl_M (by omega) (good_D hB (by omega) hg a1) (cl_D (by omega) hg hc a1) a2) a3
/-- a call in a rule is of a rule ahead of it -/
theorem calls_ahead {l : List Rz} {m : Nat} {s : Rs} (hw : (wrong [ab1] 0 l).2 = false) (hg : Good l m s) (h : Cl l l.length l.length s) : ∀ k (hk : k < s.us.length) j, s.us[k] ≤ j → j < endp s.rows s.us[k] → (rat s.rows j).kind = 22 → 0 ≤ (rat s.rows j).n ∧ (rat s.rows j).n < (k : Int) := by
  intro k hk j hj1 hj2 h22
  have hW := whole_of hw
  obtain ⟨u1, u2, u3⟩ := h.u k hk
  have ha : s.us[k] - 1 < l.length := by omega
  have hB := base_of hw
  have hf := hB.fill _ ha
  have hkid : km l (s.us[k] - 1) = 1 := by
    have h1 := filled_kid hf (Or.inl u3)
    have h2 : (rat l (s.us[k] - 1)).kids ≤ 1 := by
      unfold filled wtn at hf
      simp only [Bool.and_eq_true, decide_eq_true_eq] at hf
      have := hf.2.2.2.2
      rw [u3] at this
      exact this
    have := hB.tree.kids _ ha
    omega
  have hend : endp l (s.us[k] - 1) = endp l s.us[k] := by
    obtain ⟨e1, _, _⟩ := end_kid hW ha
    obtain ⟨_, e2, _⟩ := kid_at hW ha (k := 0) (by omega)
    rw [e1, hkid, show (1 : Nat) = 0 + 1 from rfl, e2]
    congr 1
    simp [kidp, sz_zero]
    omega
  rw [endp_like hg.like] at hj2
  have hjl : j < l.length := by
    have := (end_kid hW ha).2.2
    omega
  rw [(like_kind hg.like hjl).1] at h22
  obtain ⟨n, hn, e1, e2⟩ := h.c j hjl h22
  rw [e1]
  refine ⟨by omega, ?_⟩
  by_cases hlt : n < k
  · omega
  · exfalso
    by_cases he : n = k
    · subst he
      omega
    · have hlt2 : s.us[k] < s.us[n] := List.pairwise_iff_getElem.1 h.o k n hk hn (by omega)
      obtain ⟨v1, v2, v3⟩ := h.u n hn
      have hnl : s.us[n] - 1 < l.length := by omega
      have := (end_kid hW hnl).2.1
      exact rule_apart hw ha u3 (c := s.us[n] - 1) (by omega) (by omega) v3
/-- every call is of a rule that is there -/
theorem calls_there {l : List Rz} {m : Nat} {s : Rs} (hg : Good l m s) (h : Cl l l.length l.length s) : ∀ j, j < l.length → (rat s.rows j).kind = 22 → 0 ≤ (rat s.rows j).n ∧ (rat s.rows j).n < (s.us.length : Int) := by
  intro j hj h22
  rw [(like_kind hg.like hj).1] at h22
  obtain ⟨n, hn, e1, _⟩ := h.c j hj h22
  rw [e1]
  exact ⟨by omega, by omega⟩
end Go.Proofs.Ytjhlfdlamjpdeaa.Nm

namespace Go.Proofs.Ytjhlfdlamjpdeaa.Nm
open Go.RowKit Go.Maps Go.Proofs.Ytjhlfdlamjpdeaa.Sp Go.Proofs.Ytjhlfdlamjpdeaa.Lx Go.Proofs.Ytjhlfdlamjpdeaa.Gr

theorem rat_numbN {l : List Rz} {i j n : Nat} (h : j ≠ i) : rat (numb l i n) j = rat l j := by
  simp only [rat, numb, List.getD_eq_getElem?_getD, List.getElem?_set, if_neg (Ne.symm h)]
/-- the name of a thing, by its kind and number -/
def nameOf (l0 : List Rz) (qs : List (ByteArray × Bool)) (vs ts : List ByteArray) (us : List Nat) (k n : Nat) : Option ByteArray :=
  if k = 1 then (qs[n]?).map (·.1) else if k = 2 then vs[n]? else if k = 3 then ts[n]? else if k = 4 then (us[n]?).map (fun u => (rat l0 (u - 1)).name) else none
abbrev Rs.nm (s : Rs) (l0 : List Rz) (k n : Nat) : Option ByteArray := nameOf l0 s.qs s.vs s.ts s.us k n
theorem get_more {α : Type} {l m : List α} {n : Nat} {x : α} (h : l[n]? = some x) : (l ++ m)[n]? = some x := by
  rw [List.getElem?_append_left (List.getElem?_eq_some_iff.1 h).1]
  exact h
theorem dec_mono {l0 : List Rz} {s : Rs} {i k n : Nat} {x : ByteArray} (h : s.nm l0 k n = some x) : (s.dec i).nm l0 k n = some x := by
  unfold Rs.nm nameOf at *
  by_cases h1 : k = 1
  · rw [if_pos h1] at h ⊢
    cases hq : s.qs[n]? with
    | none => rw [hq] at h; cases h
    | some q =>
      rw [hq] at h
      have : (s.dec i).qs[n]? = some q := by
        show (if (rat s.rows i).kind = 2 then s.qs ++ [((rat s.rows i).name, false)] else if (rat s.rows i).kind = 3 then s.qs ++ [((rat s.rows i).name, true)] else s.qs)[n]? = some q
        split
        · exact get_more hq
        · split
          · exact get_more hq
          · exact hq
      rw [this]
      exact h
  · rw [if_neg h1] at h ⊢
    by_cases h2 : k = 2
    · rw [if_pos h2] at h ⊢
      show (if (rat s.rows i).kind = 4 then s.vs ++ [(rat s.rows i).name] else s.vs)[n]? = some x
      split
      · exact get_more h
      · exact h
    · rw [if_neg h2] at h ⊢
      by_cases h3 : k = 3
      · rw [if_pos h3] at h ⊢
        show (if (rat s.rows i).kind = 5 then s.ts ++ [(rat s.rows i).name] else s.ts)[n]? = some x
        split
        · exact get_more h
        · exact h
      · rw [if_neg h3] at h ⊢
        by_cases h4 : k = 4
        · rw [if_pos h4] at h ⊢
          cases hu : s.us[n]? with
          | none => rw [hu] at h; cases h
          | some u =>
            rw [hu] at h
            have : (s.dec i).us[n]? = some u := by
              show (if (rat s.rows i).kind = 7 then s.us ++ [i + 1] else s.us)[n]? = some u
              split
              · exact get_more hu
              · exact hu
            rw [this]
            exact h
        · rw [if_neg h4] at h
          cases h
theorem dec_new {l0 : List Rz} {s : Rs} {i : Nat} (hn : (rat s.rows i).name = (rat l0 i).name) (hd : decl (rat s.rows i).kind ≠ 0) : (s.dec i).nm l0 (decl (rat s.rows i).kind) (s.cnt (decl (rat s.rows i).kind)) = some (rat s.rows i).name := by
  unfold Rs.nm nameOf
  have hq : (s.dec i).qs = if (rat s.rows i).kind = 2 then s.qs ++ [((rat s.rows i).name, false)] else if (rat s.rows i).kind = 3 then s.qs ++ [((rat s.rows i).name, true)] else s.qs := rfl
  have hv : (s.dec i).vs = if (rat s.rows i).kind = 4 then s.vs ++ [(rat s.rows i).name] else s.vs := rfl
  have ht : (s.dec i).ts = if (rat s.rows i).kind = 5 then s.ts ++ [(rat s.rows i).name] else s.ts := rfl
  have hu : (s.dec i).us = if (rat s.rows i).kind = 7 then s.us ++ [i + 1] else s.us := rfl
  rcases decl_cases (rat s.rows i).kind with ⟨e, ed⟩ | ⟨e, ed⟩ | ⟨e, ed⟩ | ⟨e, ed⟩ | ⟨e, ed⟩ | ⟨_, _, _, _, _, ed⟩
  · rw [ed, hq, e]
    simp [Rs.cnt]
  · rw [ed, hq, e]
    simp [Rs.cnt]
  · rw [ed, hv, e]
    simp [Rs.cnt]
  · rw [ed, ht, e]
    simp [Rs.cnt]
  · rw [ed, hu, e]
    simp [Rs.cnt]
    simpa [rat, List.getD_eq_getElem?_getD] using hn.symm
  · exact absurd ed hd
/-- what the numbers in the rows mean, of the first i -/
structure Mean (l0 : List Rz) (i : Nat) (s : Rs) : Prop where
  kn : ∀ e ∈ s.known, s.nm l0 e.2.1 e.2.2.1 = some e.1
  rw : ∀ j, j < i → j < l0.length → decl (rat l0 j).kind ≠ 0 ∨ nmd (rat l0 j).kind ≠ 0 → ∃ n : Nat, (rat s.rows j).n = (n : Int) ∧ s.nm l0 (decl (rat l0 j).kind + nmd (rat l0 j).kind) n = some (rat l0 j).name
  ot : ∀ j, j < l0.length → i ≤ j ∨ (decl (rat l0 j).kind = 0 ∧ nmd (rat l0 j).kind = 0) → (rat s.rows j).n = (rat l0 j).n
  up : ∀ u ∈ s.us, 1 ≤ u
theorem mean_start (l : List Rz) : Mean l 0 (start l) := ⟨fun e he => by simp [start] at he, fun j hj => by omega, fun j _ _ => rfl, fun u hu => by simp [start] at hu⟩
theorem mean_skip {l0 : List Rz} {i : Nat} {s : Rs} (h : Mean l0 i s) (hd : decl (rat l0 i).kind = 0) (hn : nmd (rat l0 i).kind = 0) : Mean l0 (i + 1) s :=
  ⟨h.kn, fun j hj hl hk => by
    by_cases e : j = i
    · subst e
      rcases hk with hk | hk
      · exact absurd hd hk
      · exact absurd hn hk
    · exact h.rw j (by omega) hl hk, fun j hl ho => by
    by_cases e : j = i
    · subst e
      exact h.ot j hl (Or.inl (Nat.le_refl _))
    · refine h.ot j hl ?_
      rcases ho with ho | ho
      · exact Or.inl (by omega)
      · exact Or.inr ho, h.up⟩
theorem mean_dec {l0 : List Rz} {i m : Nat} {s : Rs} (h : Mean l0 i s) (hg : Good l0 m s) (hi : i < l0.length) (hd : decl (rat s.rows i).kind ≠ 0) : Mean l0 (i + 1) (s.dec i) := by
  have hk := like_kind hg.like hi
  have hil : i < s.rows.length := by rw [like_len hg.like]; exact hi
  have hnew := dec_new (l0 := l0) hk.2.1 hd
  have hrows : (s.dec i).rows = numb s.rows i (s.cnt (decl (rat s.rows i).kind)) := rfl
  have hn0 : nmd (rat l0 i).kind = 0 := by
    rcases decl_cases (rat s.rows i).kind with ⟨e, _⟩ | ⟨e, _⟩ | ⟨e, _⟩ | ⟨e, _⟩ | ⟨e, _⟩ | ⟨_, _, _, _, _, e⟩
    all_goals first | exact absurd e hd | (rw [← hk.1, e]; rfl)
  refine ⟨fun e he => ?_, fun j hj hl hkd => ?_, fun j hl ho => ?_, fun u hu => ?_⟩
  · have he2 : e = ((rat s.rows i).name, decl (rat s.rows i).kind, s.cnt (decl (rat s.rows i).kind), endp (numb s.rows i (s.cnt (decl (rat s.rows i).kind))) i) ∨ e ∈ s.known := List.mem_cons.1 he
    rcases he2 with rfl | he2
    · exact hnew
    · exact dec_mono (h.kn e he2)
  · by_cases e : j = i
    · subst e
      refine ⟨s.cnt (decl (rat s.rows j).kind), ?_, ?_⟩
      · rw [hrows, rat_numb hil]
      · rw [hn0, Nat.add_zero, ← hk.1, ← hk.2.1]
        exact hnew
    · obtain ⟨n, h1, h2⟩ := h.rw j (by omega) hl hkd
      exact ⟨n, by rw [hrows, rat_numbN e]; exact h1, dec_mono h2⟩
  · have e : j ≠ i := fun e => by
      subst e
      rcases ho with ho | ho
      · omega
      · rw [hk.1] at hd
        exact hd ho.1
    rw [hrows, rat_numbN e]
    refine h.ot j hl ?_
    rcases ho with ho | ho
    · exact Or.inl (by omega)
    · exact Or.inr ho
  · have hu2 : u ∈ (if (rat s.rows i).kind = 7 then s.us ++ [i + 1] else s.us) := hu
    split at hu2
    · rcases List.mem_append.1 hu2 with hu3 | hu3
      · exact h.up u hu3
      · rw [List.mem_singleton.1 hu3]; omega
    · exact h.up u hu2
theorem mean_ref {l0 : List Rz} {i m k n p : Nat} {s : Rs} (h : Mean l0 i s) (hg : Good l0 m s) (hi : i < l0.length) (hd : decl (rat l0 i).kind = 0) (hlk : lk s.known (rat s.rows i).name = some (k, n, p)) (hk : k = nmd (rat s.rows i).kind) : Mean l0 (i + 1) { s with rows := numb s.rows i n } := by
  have hkd := like_kind hg.like hi
  have hil : i < s.rows.length := by rw [like_len hg.like]; exact hi
  have hm := h.kn _ (lk_mem hlk)
  refine ⟨h.kn, fun j hj hl hx => ?_, fun j hl ho => ?_, h.up⟩
  · by_cases e : j = i
    · subst e
      refine ⟨n, ?_, ?_⟩
      · show (rat (numb s.rows j n) j).n = _
        rw [rat_numb hil]
      · rw [hd, Nat.zero_add, ← hkd.1, ← hk, ← hkd.2.1]
        exact hm
    · obtain ⟨q, h1, h2⟩ := h.rw j (by omega) hl hx
      exact ⟨q, by show (rat (numb s.rows i n) j).n = _; rw [rat_numbN e]; exact h1, h2⟩
  · have e : j ≠ i := fun e => by
      subst e
      rcases ho with ho | ho
      · omega
      · have := hg.kn _ (lk_mem hlk)
        dsimp only at this
        rw [hk, hkd.1, ho.2] at this
        omega
    show (rat (numb s.rows i n) j).n = _
    rw [rat_numbN e]
    refine h.ot j hl ?_
    rcases ho with ho | ho
    · exact Or.inl (by omega)
    · exact Or.inr ho
theorem upto_mean {l : List Rz} (hB : Base l) (n : Nat) (hn : n ≤ l.length) {s : Rs} (h : upto (start l) n = .ok s) : Mean l n s := by
  induction n generalizing s with
  | zero =>
    cases h
    exact mean_start l
  | succ n ih =>
    simp only [upto] at h
    split at h
    · cases h
    · rename_i t ht
      have hc := ih (by omega) ht
      have hg := upto_good hB n (by omega) ht
      have hkd := like_kind hg.like (show n < l.length by omega)
      split at h
      · cases h
      · rename_i t' h3
        cases h
        cases h1 : askN n t 1 with
        | error c => rw [askN_err h1 2] at h3; cases h3
        | ok t1 =>
          cases h2 : askN n t 2 with
          | error c => rw [askN_err h2 1] at h3; cases h3
          | ok t2 =>
            have a1 : askD n t = .ok t1 := (askN_succ (j := 0) rfl).symm.trans h1
            have a2 : askM n t1 = .ok t2 := (askN_succ h1).symm.trans h2
            have a3 : askH n t2 = .ok s := (askN_succ h2).symm.trans h3
            have hH : ∀ {a : Rs}, Mean l (n + 1) t2 → askH n t2 = .ok a → Mean l (n + 1) a := fun hm ha => by
              unfold askH at ha
              split at ha
              · cases ha; exact hm
              · split at ha
                · cases ha
                · cases ha
                  exact ⟨hm.kn, hm.rw, hm.ot, hm.up⟩
            refine hH ?_ a3
            have hg1 := good_D hB (by omega) hg a1
            have hk1 := like_kind hg1.like (show n < l.length by omega)
            unfold askD at a1
            split at a1
            · rename_i hd
              cases a1
              unfold askM at a2
              split at a2
              · rename_i hn0
                cases a2
                exact mean_skip hc (by rw [← hkd.1]; exact hd) (by rw [← hkd.1]; exact hn0)
              · split at a2
                · cases a2
                · rename_i k q p hlk
                  split at a2
                  · cases a2
                  · split at a2
                    · cases a2
                    · rename_i hk
                      cases a2
                      exact mean_ref hc hg (by omega) (by rw [← hkd.1]; exact hd) hlk (by simpa using hk)
            · rename_i hd
              split at a1
              · cases a1
              · split at a1
                · cases a1
                · cases a1
                  have hn0 : nmd (rat t.rows n).kind = 0 := by
                    rcases decl_cases (rat t.rows n).kind with ⟨e, _⟩ | ⟨e, _⟩ | ⟨e, _⟩ | ⟨e, _⟩ | ⟨e, _⟩ | ⟨_, _, _, _, _, e⟩
                    all_goals first | exact absurd e hd | (rw [e]; rfl)
                  have e2 : askM n (t.dec n) = .ok (t.dec n) := by
                    unfold askM
                    rw [if_pos (by rw [hk1.1, ← hkd.1]; exact hn0)]
                  rw [e2] at a2
                  cases a2
                  exact mean_dec hc hg (by omega) hd
end Go.Proofs.Ytjhlfdlamjpdeaa.Nm

namespace Go.Proofs.Ytjhlfdlamjpdeaa.Nm
open Go.RowKit Go.Maps Go.Proofs.Ytjhlfdlamjpdeaa.Sp Go.Proofs.Ytjhlfdlamjpdeaa.Lx Go.Proofs.Ytjhlfdlamjpdeaa.Gr

/-- the policy that is told of rows; nothing, where there is a fault -/
def zeroG : Pg := ⟨⟨#[]⟩, [], [], [], [], [], [], 0⟩
def resP (l : List Rz) : Pg := match res l with | .error _ => zeroG | .ok p => p.g
def resC (l : List Rz) : Nat × Nat := match res l with | .error ci => ci | .ok _ => (0, 0)
theorem resP_sm {l : List Rz} (hl : l.length ≤ 2932031007317) : (resP l).Sm := by
  unfold resP
  cases h : res l with
  | error ci => exact ⟨by simp [zeroG], by simp [zeroG], by simp [zeroG], by simp [zeroG], by simp [zeroG], by simp [zeroG]⟩
  | ok p => exact (res_sm hl h).1
theorem zero_rd (W : World) : RdG W zeroG none none none none none none := ⟨fun i x hx => by simp [zeroG] at hx, fun i x hx => by simp [zeroG, qF] at hx, fun i x hx => by simp [zeroG] at hx, fun i x hx => by simp [zeroG] at hx, fun i x hx => by simp [zeroG] at hx, fun i x hx => by simp [zeroG] at hx⟩
/-- what is told can be read, wherever its memory is as it was -/
theorem IsPl.all {w : World} {base : Nat} {v : Value} {p : Pl} (h : IsPl w base v p) : ∃ rb qo vo tto uo oo ac qc vc tc uc oc, v = pv p (some ⟨rb, 0, none⟩) qo vo tto uo oo ac qc vc tc uc oc ∧ p.us.length ≤ uc ∧ ∀ W : World, (∀ k, base ≤ k → k < w.heap.size → W.heap[k]? = w.heap[k]?) → Rd W p (some ⟨rb, 0, none⟩) qo vo tto uo oo ∧ IsNats W uo p.us := by
  obtain ⟨rb, cap, qv, vv, tv, uv, ov, rfl, hrb, hr, hq, hv, ht, hu, ho⟩ := h.ex
  obtain ⟨qo, qc, rfl⟩ := own_form hq
  obtain ⟨vo, vc, rfl⟩ := own_form hv
  obtain ⟨tto, tc, rfl⟩ := own_form ht
  obtain ⟨uo, uc, rfl⟩ := own_form hu
  obtain ⟨oo, oc, rfl⟩ := own_form ho
  refine ⟨rb, qo, vo, tto, uo, oo, cap, qc, vc, tc, uc, oc, rfl, (nats_of hu).2, fun W hW => ?_⟩
  have kp : ∀ {T : TypeId} {sz n : Nat} {v' : Value} {xs : List Value}, w.ownsRow base T sz v' n xs → W.ownsRow base T sz v' n xs := fun h1 => own_keepB h1 (fun k hk => hW k (World.ownsRow.lt h1 k hk).1 (World.ownsRow.lt h1 k hk).2)
  refine ⟨⟨(hr.same (hW rb hrb hr.lt)).rz, vals_of (kp hq), vals_of (kp hv), vals_of (kp ht), ?_, vals_of (kp ho)⟩, (nats_of (kp hu)).1⟩
  have := vals_of (kp hu)
  simpa [iv, nv, List.map_map, Function.comp_def] using this
theorem rd_g {W : World} {p : Pl} {ao qo vo tto uo oo : Option Addr} (h : Rd W p ao qo vo tto uo oo) : RdG W p.g ao qo vo tto uo oo := ⟨h.r, h.q, h.v, h.t, h.u, h.o⟩
/-- what Resolve tells, of any rows -/
theorem told_g {w w' : World} {l : List Rz} {e : Ending} (h : Told w (res l) e w') : ∃ ao qo vo tto uo oo ac qc vc tc uc oc, e = .returned (.tuple #[pvG (resP l) ao qo vo tto uo oo ac qc vc tc uc oc, .agg #[.int .i64 ((resC l).1 : Int), .int .i64 ((resC l).2 : Int)]]) ∧ Below w.heap.size w w' ∧ ∀ W : World, (∀ k, w.heap.size ≤ k → k < w'.heap.size → W.heap[k]? = w'.heap[k]?) → RdG W (resP l) ao qo vo tto uo oo := by
  obtain ⟨hb, hm⟩ := h
  unfold resP resC
  cases hr : res l with
  | error ci =>
    rw [hr] at hm
    exact ⟨none, none, none, none, none, none, 0, 0, 0, 0, 0, 0, hm, hb, fun W _ => zero_rd W⟩
  | ok p =>
    rw [hr] at hm
    obtain ⟨v, he, hp⟩ := hm
    obtain ⟨rb, qo, vo, tto, uo, oo, ac, qc, vc, tc, uc, oc, rfl, _, hall⟩ := hp.all
    refine ⟨some ⟨rb, 0, none⟩, qo, vo, tto, uo, oo, ac, qc, vc, tc, uc, oc, ?_, hb, fun W hW => rd_g (hall W hW).1⟩
    rw [he]
    simp [pvG, pv, Pl.g]
end Go.Proofs.Ytjhlfdlamjpdeaa.Nm

namespace Go.Proofs.Ytjhlfdlamjpdeaa.Nm
open Go.RowKit Go.Maps Go.Proofs.Ytjhlfdlamjpdeaa.Sp Go.Proofs.Ytjhlfdlamjpdeaa.Lx Go.Proofs.Ytjhlfdlamjpdeaa.Gr

theorem filled_num {r : Rz} (h : filled r = true) : 0 ≤ r.n ∧ r.n ≤ 1073741824 ∧ (r.kind ≠ 27 → r.n = 0) := by
  unfold filled at h
  simp only [Bool.and_eq_true, wtn, decide_eq_true_eq] at h
  obtain ⟨_, _, ⟨h1, h2⟩, _⟩ := h
  unfold lastNum at h2
  split at h2
  · rename_i h27
    exact ⟨h1, h2, fun e => absurd h27 e⟩
  · exact ⟨h1, by omega, fun _ => by omega⟩
/-- what a policy that was told says of its rows -/
structure Told7 (l : List Rz) (p : Pl) : Prop where
  len : p.rows.length = l.length
  pos : 0 < l.length
  onl : p.on.length = p.qs.length
  row : ∀ j, j < l.length → (rat p.rows j).kind = (rat l j).kind ∧ (rat p.rows j).name = (rat l j).name ∧ 0 ≤ (rat p.rows j).n ∧ (rat p.rows j).n ≤ 1073741824 ∧ (decl (rat l j).kind + nmd (rat l j).kind = 0 ∨ ∃ n : Nat, (rat p.rows j).n = (n : Int) ∧ nameOf l p.qs p.vs p.ts p.us (decl (rat l j).kind + nmd (rat l j).kind) n = some (rat l j).name)
  up : ∀ u ∈ p.us, 1 ≤ u ∧ u < l.length
  back : p.rows.map unn = l
  sm : p.g.Sm
theorem nm_lt {l : List Rz} {qs : List (ByteArray × Bool)} {vs ts : List ByteArray} {us : List Nat} {k n : Nat} {x : ByteArray} (h : nameOf l qs vs ts us k n = some x) : n < qs.length ∨ n < vs.length ∨ n < ts.length ∨ n < us.length := by
  unfold nameOf at h
  split at h
  · cases hq : qs[n]? with
    | none => rw [hq] at h; cases h
    | some q => exact Or.inl (List.getElem?_eq_some_iff.1 hq).1
  · split at h
    · exact Or.inr (Or.inl (List.getElem?_eq_some_iff.1 h).1)
    · split at h
      · exact Or.inr (Or.inr (Or.inl (List.getElem?_eq_some_iff.1 h).1))
      · split at h
        · cases hu : us[n]? with
          | none => rw [hu] at h; cases h
          | some u => exact Or.inr (Or.inr (Or.inr (List.getElem?_eq_some_iff.1 hu).1))
        · cases h
theorem rz_ext {a b : Rz} (h : clr a = clr b) (hn : a.n = b.n) : a = b := by
  cases a
  cases b
  simp [clr] at h hn ⊢
  exact ⟨h.1, h.2.1, h.2.2.1, hn, h.2.2.2⟩
theorem res_told7 {l : List Rz} {p : Pl} (hl : l.length ≤ 2932031007317) (h : res l = .ok p) : Told7 l p := by
  have hsm := (res_sm hl h).1
  unfold res at h
  split at h
  · cases h
  · rename_i hc
    have hB := base_of (chk_ok (by simpa using hc)).2
    unfold resR at h
    split at h
    · cases h
    · rename_i s hs
      have hg := upto_good hB _ (Nat.le_refl _) hs
      have hm := upto_mean hB _ (Nat.le_refl _) hs
      have hll := like_len hg.like
      split at h
      · cases h
      · cases h
        have hot : ∀ j, j < l.length → decl (rat l j).kind = 0 ∧ nmd (rat l j).kind = 0 → (rat s.rows j).n = (rat l j).n := fun j hj h0 => hm.ot j hj (Or.inr h0)
        refine ⟨hll, hB.pos, onsOf_len _ _, fun j hj => ?_, fun u hu => ⟨hm.up u hu, hg.ul u hu⟩, ?_, hsm⟩
        · have hk := like_kind hg.like hj
          have hf := filled_num (hB.fill j hj)
          refine ⟨hk.1, hk.2.1, ?_⟩
          by_cases h0 : decl (rat l j).kind + nmd (rat l j).kind = 0
          · have e := hot j hj (by omega)
            exact ⟨by rw [e]; exact hf.1, by rw [e]; exact hf.2.1, Or.inl h0⟩
          · obtain ⟨n, h1, h2⟩ := hm.rw j hj hj (by omega)
            refine ⟨by rw [h1]; omega, ?_, Or.inr ⟨n, h1, h2⟩⟩
            rw [h1]
            have := nm_lt h2
            have := hg.q
            have := hg.v
            have := hg.t
            have := hg.u
            omega
        · apply List.ext_getElem?
          intro j
          by_cases hj : j < l.length
          · rw [List.getElem?_map, some_rat (l := s.rows) (by omega), some_rat hj]
            show some (unn (rat s.rows j)) = some (rat l j)
            congr 1
            have ha := like_at hg.like hj
            have hk := (like_kind hg.like hj).1
            have hf := filled_num (hB.fill j hj)
            unfold unn
            split
            · rename_i h27
              rw [hk] at h27
              exact rz_ext ha (hot j hj (by rw [h27]; exact ⟨rfl, rfl⟩))
            · rename_i h27
              rw [hk] at h27
              refine rz_ext ?_ (hf.2.2 h27).symm
              rw [← ha]
              rfl
          · rw [List.getElem?_eq_none (by rw [List.length_map]; show s.rows.length ≤ j; omega), List.getElem?_eq_none (by omega)]
/-- a number turned -/
abbrev turn (p : Pl) (a : Nat) (b : Int) : Pg := { p.g with rows := p.rows.set a { rat p.rows a with n := (rat p.rows a).n + b } }
theorem turned {l : List Rz} {p : Pl} (h : res l = .ok p) (ht : Told7 l p) {a : Nat} (ha : a < p.rows.length) (hk : (rat p.rows a).kind ≠ 27) {b : Int} (hb : 0 < b) : ¬ ∃ p', res ((turn p a b).rows.map unn) = .ok p' ∧ p'.g = turn p a b := by
  rintro ⟨p', h1, h2⟩
  have e : (turn p a b).rows.map unn = l := by
    show (p.rows.set a _).map unn = l
    rw [List.map_set]
    have e2 : unn { rat p.rows a with n := (rat p.rows a).n + b } = unn (rat p.rows a) := by
      unfold unn
      rw [if_neg hk, if_neg hk]
    rw [e2, ← ht.back]
    apply List.ext_getElem?
    intro j
    rw [List.getElem?_set]
    split
    · rename_i e3
      subst e3
      rw [List.length_map, if_pos ha, List.getElem?_map, some_rat ha]
      rfl
    · rfl
  rw [e, h] at h1
  cases h1
  have h3 := congrArg (fun q : Pg => (rat q.rows a).n) h2
  dsimp only at h3
  have h4 : (rat p.g.rows a).n = (rat p.rows a).n := rfl
  have h5 : rat (turn p a b).rows a = { rat p.rows a with n := (rat p.rows a).n + b } := by
    show rat (p.rows.set a _) a = _
    exact rat_some (by rw [List.getElem?_set]; simp [ha])
  rw [h4, h5] at h3
  dsimp only at h3
  omega
end Go.Proofs.Ytjhlfdlamjpdeaa.Nm

namespace Go.Proofs.Ytjhlfdlamjpdeaa.Nm
open Go.RowKit Go.Maps Go.Proofs.Ytjhlfdlamjpdeaa.Sp Go.Proofs.Ytjhlfdlamjpdeaa.Lx Go.Proofs.Ytjhlfdlamjpdeaa.Gr

/-- calls of a policy that was told: of rules ahead, of rules that are there -/
structure Cls (p : Pl) : Prop where
  ahead : ∀ k (hk : k < p.us.length) j, p.us[k] ≤ j → j < endp p.rows p.us[k] → (rat p.rows j).kind = 22 → 0 ≤ (rat p.rows j).n ∧ (rat p.rows j).n < (k : Int)
  there : ∀ j, j < p.rows.length → (rat p.rows j).kind = 22 → 0 ≤ (rat p.rows j).n ∧ (rat p.rows j).n < (p.us.length : Int)
theorem res_calls {l : List Rz} {p : Pl} (h : res l = .ok p) : Cls p := by
  unfold res at h
  split at h
  · cases h
  · rename_i hc
    have hw := (chk_ok (by simpa using hc)).2
    have hB := base_of hw
    unfold resR at h
    split at h
    · cases h
    · rename_i s hs
      have hg := upto_good hB _ (Nat.le_refl _) hs
      have hcl := upto_cl hB _ (Nat.le_refl _) hs
      split at h
      · cases h
      · cases h
        exact ⟨calls_ahead hw hg hcl, fun j hj => calls_there hg hcl j (by rw [← like_len hg.like]; exact hj)⟩
theorem nats_vals {w : World} {uo : Option Addr} {us : List Nat} (h : IsVals w uo (iv (us.map fun n : Nat => (n : Int)))) : IsNats w uo us := fun k x hx => by
  obtain ⟨g, o, e, hg, hc⟩ := h k (.int .i64 (x : Int)) (by simp [iv, hx])
  exact ⟨g, o, e, hg, hc⟩
/-- what holds of a policy that was told -/
structure Tg (p : Pl) : Prop where
  r : p.rows.length ≤ 65536
  pos : 0 < p.rows.length
  q : p.qs.length ≤ 16
  v : p.vs.length ≤ 16
  t : p.ts.length ≤ 4
  u : p.us.length ≤ 64
  o : p.on.length ≤ 16
  tree : TreeZ p.rows
  ul : ∀ u ∈ p.us, u < p.rows.length
  cls : Cls p
theorem res_tg {l : List Rz} {p : Pl} (hl : l.length ≤ 65536) (h : res l = .ok p) : Tg p := by
  have hc := res_calls h
  unfold res at h
  split at h
  · cases h
  · rename_i hk
    have hB := base_of (chk_ok (by simpa using hk)).2
    unfold resR at h
    split at h
    · cases h
    · rename_i s hs
      have hg := upto_good hB _ (Nat.le_refl _) hs
      have hll := like_len hg.like
      split at h
      · cases h
      · cases h
        exact ⟨by show s.rows.length ≤ _; omega, by show 0 < s.rows.length; have := hB.pos; omega, hg.q, hg.v, hg.t, hg.u, by show (onsOf _ _).length ≤ _; rw [onsOf_len]; exact hg.q, like_tree hg.like hB.tree, fun u hu => by show u < s.rows.length; rw [hll]; exact hg.ul u hu, hc⟩
theorem filled_least {r : Rz} (h : filled r = true) : (least r.kind : Int) ≤ r.kids := by
  unfold filled at h
  simp only [Bool.and_eq_true] at h
  have h1 := h.2.2.2
  unfold wtn at h1
  simp only [Bool.and_eq_true, decide_eq_true_eq] at h1
  exact h1.1
/-- as many kids as the kind wants -/
theorem res_least {l : List Rz} {p : Pl} (h : res l = .ok p) : ∀ i, i < p.rows.length → least (rat p.rows i).kind ≤ km p.rows i := by
  unfold res at h
  split at h
  · cases h
  · rename_i hk
    have hB := base_of (chk_ok (by simpa using hk)).2
    unfold resR at h
    split at h
    · cases h
    · rename_i s hs
      have hg := upto_good hB _ (Nat.le_refl _) hs
      have hll := like_len hg.like
      split at h
      · cases h
      · cases h
        intro i hi
        have hi' : i < s.rows.length := hi
        have hi2 : i < l.length := by omega
        obtain ⟨e1, _, e2⟩ := like_kind hg.like hi2
        have h3 := filled_least (hB.fill i hi2)
        have h4 := (like_tree hg.like hB.tree).kids i hi'
        show least (rat s.rows i).kind ≤ km s.rows i
        have h5 : (rat s.rows i).kids = (rat l i).kids := by
          have := e2
          first | exact this | exact this.1
        rw [e1]
        omega
end Go.Proofs.Ytjhlfdlamjpdeaa.Nm
