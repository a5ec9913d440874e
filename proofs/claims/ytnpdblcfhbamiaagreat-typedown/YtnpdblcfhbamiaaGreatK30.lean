import Derived.Test.YtnpdblcfhbamiaaGreatK29
import Derived.Test.YtnpdblcfhbamiaaGreatK18
set_option maxHeartbeats 6400000
set_option maxRecDepth 100000
namespace Go.Proofs.YtnpdblcfhbamiaaGreat.Nm
open Go.RowKit Go.Maps Go.Proofs.YtnpdblcfhbamiaaGreat.Sp Go.Proofs.YtnpdblcfhbamiaaGreat.Lx Go.Proofs.YtnpdblcfhbamiaaGreat.Gr
/-- a row without what its name means -/
def unn (x : Rz) : Rz := if x.kind = 27 then x else { x with n := 0 }
def unK (l : List Rz) : Nat → List Rz
  | 0 => l
  | k + 1 => if (rat (unK l k) k).kind = 27 then unK l k else (unK l k).set k { rat (unK l k) k with n := 0 }
theorem unK_len (l : List Rz) (k : Nat) : (unK l k).length = l.length := by
  induction k with
  | zero => rfl
  | succ k ih =>
    simp only [unK]
    split
    · exact ih
    · rw [List.length_set]; exact ih
theorem unK_at (l : List Rz) (k i : Nat) : (unK l k)[i]? = if i < k then (l[i]?).map unn else l[i]? := by
  induction k generalizing i with
  | zero => simp [unK]
  | succ k ih =>
    have hk := ih k
    rw [if_neg (Nat.lt_irrefl k)] at hk
    have hr : k < l.length → rat (unK l k) k = rat l k := fun hl => by
      have h1 := some_rat (l := unK l k) (i := k) (by rw [unK_len]; exact hl)
      rw [hk, some_rat hl] at h1
      exact (Option.some.inj h1).symm
    simp only [unK]
    by_cases hl : k < l.length
    · rw [hr hl]
      by_cases hi : i = k
      · subst hi
        rw [if_pos (Nat.lt_succ_self _), some_rat hl]
        split
        · rename_i h27
          rw [hk, some_rat hl]
          show some (rat l i) = some (unn (rat l i))
          unfold unn
          rw [if_pos h27]
        · rename_i h27
          rw [List.getElem?_set, if_pos rfl, if_pos (by rw [unK_len]; exact hl)]
          simp only [Option.map_some, unn, if_neg h27]
      · have h1 : (i < k + 1) = (i < k) := by apply propext; omega
        split
        · rw [ih i]; simp only [h1]
        · rw [List.getElem?_set, if_neg (fun e => hi e.symm), ih i]; simp only [h1]
    · have hset : ∀ x : Rz, (unK l k).set k x = unK l k := fun x => List.set_eq_of_length_le (by rw [unK_len]; omega)
      rw [hset, ite_self, ih i]
      by_cases hi : i < k
      · rw [if_pos hi, if_pos (by omega)]
      · rw [if_neg hi, List.getElem?_eq_none (by omega)]
        split <;> rfl
theorem unK_all (l : List Rz) : unK l l.length = l.map unn := by
  refine List.ext_getElem? fun i => ?_
  rw [unK_at, List.getElem?_map]
  split
  · rfl
  · rw [List.getElem?_eq_none (by omega)]; rfl
/-- rows without what names mean in them -/
theorem unnamed_any {w : World} {a : Addr} {l : List Rz} {cap : Nat} (h : IsRz w (some a) l) (hl : l.length ≤ 2932031007317) :
    Calls Tryz.prog 56 #[.slice (some a) l.length cap] w fun e w' => ∃ rb rc, e = .returned (.slice (some ⟨rb, 0, none⟩) l.length rc) ∧ Rw w' rb (l.map unn) ∧ Below w.heap.size w w' := by
  have HC := show Hid _ from clone_rows w a cap l h hl
  have hl2 : (l.length : Int) ≤ 2932031007317 := by omega
  have HM : Hid (unK l l.length = l.map unn) := unK_all l
  clear h hl
  go_enter Tryz.func56, Tryz.ntmps56
  go_wp2_with fail
  refine Calls.mono HC.out ?_
  rintro e w1 ⟨rb, rc, rfl, hrw, hrb, hb1⟩
  have H0 : Hid (Rw w1 rb (unK l 0) ∧ w.heap.size ≤ rb ∧ Below w.heap.size w w1) := ⟨hrw, hrb, hb1⟩
  clear hrw hrb hb1 HC
  go_wp2_with fail
  go_loopg [9] l.length (fun gq x wr => ∃ k : Nat, k + gq = l.length ∧ x = .int .i64 (k : Int) ∧ Rw wr rb (unK l k) ∧ Below w.heap.size w wr)
  case atStart => exact ⟨0, by omega, rfl, H0.out.1, H0.out.2.2⟩
  case round =>
    obtain ⟨k, hkg, rfl, hR, hbw⟩ := hrel
    have HG : Hid (k + gk = l.length ∧ Rw wr rb (unK l k) ∧ Below w.heap.size w wr) := ⟨hkg, hR, hbw⟩
    by_cases hlt : k < l.length
    · have hk' : (k : Int) < (l.length : Int) := by omega
      have hk2 : (k : Int) ≤ 2932031007317 := by omega
      have hx := some_rat (l := unK l k) (i := k) (by rw [unK_len]; exact hlt)
      obtain ⟨d0, d1, d2, d3, d4, fz⟩ := hR.cells hx
      have fz3 := fz (k * 5 + 3)
      have HU : Hid (unK l (k + 1) = if (rat (unK l k) k).kind = 27 then unK l k else (unK l k).set k { rat (unK l k) k with n := 0 }) := rfl
      have HS : Hid (Rw (wr.setCell ⟨rb, k * 5 + 3, none⟩ (.int .i64 0)) rb ((unK l k).set k { rat (unK l k) k with n := 0 }) ∧ Below w.heap.size w (wr.setCell ⟨rb, k * 5 + 3, none⟩ (.int .i64 0))) := ⟨hR.setN hx 0, below_set hbw H0.out.2.1 _ _⟩
      have HLt : Hid (k < l.length) := hlt
      clear hkg hlt hbw hR hx fz
      generalize rat (unK l k) k = x at *
      obtain ⟨kd, nm, st, n, ks⟩ := x
      dsimp only at *
      by_cases h27 : kd = 27
      · have h27' : (kd != 27) = false := by simp [h27]
        rw [if_pos h27] at HU
        clear h27
        go_wp2_with fail
        go_roundg (l.length - (k + 1))
        case measure => have := HG.out.1; have := HLt.out; omega
        case rel => exact ⟨k + 1, by have := HLt.out; omega, by go_num, by rw [HU.out]; exact HG.out.2.1, HG.out.2.2⟩
      · have h27' : (kd != 27) = true := by simp [h27]
        rw [if_neg h27] at HU
        clear h27
        go_wp2_with fail
        go_roundg (l.length - (k + 1))
        case measure => have := HG.out.1; have := HLt.out; omega
        case rel => exact ⟨k + 1, by have := HLt.out; omega, by go_num, by rw [HU.out]; exact HS.out.1, HS.out.2⟩
    · have hk' : decide (k < l.length) = false := decide_eq_false hlt
      have hke : k = l.length := by omega
      have HE : Hid (Rw wr rb (l.map unn)) := by rw [hke, HM.out] at hR; exact hR
      clear hkg hlt hbw hR hke
      go_wp2
      go_ret
      exact ⟨rb, rc, rfl, HE.out, HG.out.2.2⟩
/-- a policy's value that can be read -/
structure Rd (w : World) (p : Pl) (ao qo vo tto uo oo : Option Addr) : Prop where
  r : IsRz w ao p.rows
  q : IsVals w qo (qF p.qs)
  v : IsVals w vo (p.vs.map Value.string)
  t : IsVals w tto (p.ts.map Value.string)
  u : IsVals w uo (iv (p.us.map fun n : Nat => (n : Int)))
  o : IsVals w oo (iv p.on)
theorem Rd.below {w w' : World} {p : Pl} {ao qo vo tto uo oo : Option Addr} (h : Rd w p ao qo vo tto uo oo) (hb : Below w.heap.size w w') : Rd w' p ao qo vo tto uo oo := ⟨h.r.below hb, h.q.below hb, h.v.below hb, h.t.below hb, h.u.below hb, h.o.below hb⟩
/-- no list is too long -/
structure Pl.Sm (p : Pl) : Prop where
  r : p.rows.length ≤ 2932031007317
  q : p.qs.length ≤ 1000
  v : p.vs.length ≤ 1000
  t : p.ts.length ≤ 1000
  u : p.us.length ≤ 1000
  o : p.on.length ≤ 1000
abbrev pv (p : Pl) (ao qo vo tto uo oo : Option Addr) (ac qc vc tc uc oc : Nat) : Value := .agg #[.string p.name, .slice ao p.rows.length ac, .slice qo p.qs.length qc, .slice vo p.vs.length vc, .slice tto p.ts.length tc, .slice uo p.us.length uc, .slice oo p.on.length oc, .int .i64 p.miss]
/-- what is told can be read -/
theorem IsPl.rd {w : World} {base : Nat} {v : Value} {p : Pl} (h : IsPl w base v p) : ∃ rb qo vo tto uo oo ac qc vc tc uc oc, v = pv p (some ⟨rb, 0, none⟩) qo vo tto uo oo ac qc vc tc uc oc ∧ Rw w rb p.rows ∧ Rd w p (some ⟨rb, 0, none⟩) qo vo tto uo oo ∧ IsNats w uo p.us ∧ p.us.length ≤ uc := by
  obtain ⟨rb, cap, qv, vv, tv, uv, ov, rfl, _, hr, hq, hv, ht, hu, ho⟩ := h.ex
  obtain ⟨qo, qc, rfl⟩ := own_form hq
  obtain ⟨vo, vc, rfl⟩ := own_form hv
  obtain ⟨tto, tc, rfl⟩ := own_form ht
  obtain ⟨uo, uc, rfl⟩ := own_form hu
  obtain ⟨oo, oc, rfl⟩ := own_form ho
  refine ⟨rb, qo, vo, tto, uo, oo, cap, qc, vc, tc, uc, oc, rfl, hr, ⟨hr.rz, vals_of hq, vals_of hv, vals_of ht, ?_, vals_of ho⟩, nats_of hu⟩
  have := vals_of hu
  simpa [iv, nv, List.map_map, Function.comp_def] using this
/-- two policies that are the same -/
theorem same_told {w : World} {p : Pl} {ao qo vo tto uo oo ao2 qo2 vo2 tto2 uo2 oo2 : Option Addr} {ac qc vc tc uc oc ac2 qc2 vc2 tc2 uc2 oc2 : Nat} (h1 : Rd w p ao qo vo tto uo oo) (h2 : Rd w p ao2 qo2 vo2 tto2 uo2 oo2) (hs : p.Sm) :
    Calls Tryz.prog 57 #[pv p ao qo vo tto uo oo ac qc vc tc uc oc, pv p ao2 qo2 vo2 tto2 uo2 oo2 ac2 qc2 vc2 tc2 uc2 oc2] w fun e w' => e = .returned (.bool true) ∧ Below w.heap.size w w' := by
  obtain ⟨nm, rows, qs, vs, ts, us, on, miss⟩ := p
  dsimp only [pv]
  have hb0 : Below w.heap.size w ((w.alloc (.cells #[.string nm, .slice ao rows.length ac, .slice qo qs.length qc, .slice vo vs.length vc, .slice tto ts.length tc, .slice uo us.length uc, .slice oo on.length oc, .int .i64 miss] 30)).alloc (.cells #[.string nm, .slice ao2 rows.length ac2, .slice qo2 qs.length qc2, .slice vo2 vs.length vc2, .slice tto2 ts.length tc2, .slice uo2 us.length uc2, .slice oo2 on.length oc2, .int .i64 miss] 30)) := ((Below.refl _ w).alloc (Nat.le_refl _) _).alloc (by simp) _
  have HB0 : Hid (Below w.heap.size w ((w.alloc (.cells #[.string nm, .slice ao rows.length ac, .slice qo qs.length qc, .slice vo vs.length vc, .slice tto ts.length tc, .slice uo us.length uc, .slice oo on.length oc, .int .i64 miss] 30)).alloc (.cells #[.string nm, .slice ao2 rows.length ac2, .slice qo2 qs.length qc2, .slice vo2 vs.length vc2, .slice tto2 ts.length tc2, .slice uo2 us.length uc2, .slice oo2 on.length oc2, .int .i64 miss] 30)) ∧ ((w.alloc (.cells #[.string nm, .slice ao rows.length ac, .slice qo qs.length qc, .slice vo vs.length vc, .slice tto ts.length tc, .slice uo us.length uc, .slice oo on.length oc, .int .i64 miss] 30)).alloc (.cells #[.string nm, .slice ao2 rows.length ac2, .slice qo2 qs.length qc2, .slice vo2 vs.length vc2, .slice tto2 ts.length tc2, .slice uo2 us.length uc2, .slice oo2 on.length oc2, .int .i64 miss] 30)).heap[w.heap.size]? = some (.cells #[.string nm, .slice ao rows.length ac, .slice qo qs.length qc, .slice vo vs.length vc, .slice tto ts.length tc, .slice uo us.length uc, .slice oo on.length oc, .int .i64 miss] 30 (0, 0)) ∧ ((w.alloc (.cells #[.string nm, .slice ao rows.length ac, .slice qo qs.length qc, .slice vo vs.length vc, .slice tto ts.length tc, .slice uo us.length uc, .slice oo on.length oc, .int .i64 miss] 30)).alloc (.cells #[.string nm, .slice ao2 rows.length ac2, .slice qo2 qs.length qc2, .slice vo2 vs.length vc2, .slice tto2 ts.length tc2, .slice uo2 us.length uc2, .slice oo2 on.length oc2, .int .i64 miss] 30)).heap[w.heap.size + 1]? = some (.cells #[.string nm, .slice ao2 rows.length ac2, .slice qo2 qs.length qc2, .slice vo2 vs.length vc2, .slice tto2 ts.length tc2, .slice uo2 us.length uc2, .slice oo2 on.length oc2, .int .i64 miss] 30 (0, 0))) := ⟨hb0, by rw [alloc_old _ _ _ (by simp)]; exact alloc_at _ _ _ rfl, alloc_at _ _ _ (by simp)⟩
  have HS := show Hid _ from hs
  have H1 := show Hid _ from h1
  have H2 := show Hid _ from h2
  have hnm : (nm.toList == nm.toList) = true := by simp
  have hmi : (miss == miss) = true := by simp
  clear h1 h2 hs hb0
  go_enter Tryz.func57, Tryz.ntmps57
  obtain ⟨k0, k1, k2, k3, k4, k5, k6, k7⟩ := pol8 HB0.out.2.1
  obtain ⟨m0, m1, m2, m3, m4, m5, m6, m7⟩ := pol8 HB0.out.2.2
  go_wp2_with fail
  have HC := show Hid _ from eqRows (ca := ac) (cb := ac2) (Rd.below H1.out HB0.out.1).r (Rd.below H2.out HB0.out.1).r HS.out.r
  clear k0 k1 k2 k3 k4 k5 k6 k7 m0 m1 m2 m3 m4 m5 m6 m7
  refine Calls.mono HC.out ?_
  rintro e w1 ⟨rfl, hb1⟩
  have HB1 : Hid (Below w.heap.size w w1 ∧ w1.heap[w.heap.size]? = some (.cells #[.string nm, .slice ao rows.length ac, .slice qo qs.length qc, .slice vo vs.length vc, .slice tto ts.length tc, .slice uo us.length uc, .slice oo on.length oc, .int .i64 miss] 30 (0, 0)) ∧ w1.heap[w.heap.size + 1]? = some (.cells #[.string nm, .slice ao2 rows.length ac2, .slice qo2 qs.length qc2, .slice vo2 vs.length vc2, .slice tto2 ts.length tc2, .slice uo2 us.length uc2, .slice oo2 on.length oc2, .int .i64 miss] 30 (0, 0))) := ⟨HB0.out.1.trans (hb1.mono HB0.out.1.size), (hb1.block _ (blk_lt HB0.out.2.1)).trans HB0.out.2.1, (hb1.block _ (blk_lt HB0.out.2.2)).trans HB0.out.2.2⟩
  clear HC hb1
  obtain ⟨k0, k1, k2, k3, k4, k5, k6, k7⟩ := pol8 HB1.out.2.1
  obtain ⟨m0, m1, m2, m3, m4, m5, m6, m7⟩ := pol8 HB1.out.2.2
  go_wp2_with fail
  have HC := show Hid _ from eqQs (ca := qc) (cb := qc2) (Rd.below H1.out HB1.out.1).q (Rd.below H2.out HB1.out.1).q (Nat.le_trans HS.out.q (by decide))
  clear k0 k1 k2 k3 k4 k5 k6 k7 m0 m1 m2 m3 m4 m5 m6 m7
  refine Calls.mono HC.out ?_
  rintro e w2 ⟨rfl, hb2⟩
  have HB2 : Hid (Below w.heap.size w w2 ∧ w2.heap[w.heap.size]? = some (.cells #[.string nm, .slice ao rows.length ac, .slice qo qs.length qc, .slice vo vs.length vc, .slice tto ts.length tc, .slice uo us.length uc, .slice oo on.length oc, .int .i64 miss] 30 (0, 0)) ∧ w2.heap[w.heap.size + 1]? = some (.cells #[.string nm, .slice ao2 rows.length ac2, .slice qo2 qs.length qc2, .slice vo2 vs.length vc2, .slice tto2 ts.length tc2, .slice uo2 us.length uc2, .slice oo2 on.length oc2, .int .i64 miss] 30 (0, 0))) := ⟨HB1.out.1.trans (hb2.mono HB1.out.1.size), (hb2.block _ (blk_lt HB1.out.2.1)).trans HB1.out.2.1, (hb2.block _ (blk_lt HB1.out.2.2)).trans HB1.out.2.2⟩
  clear HC hb2
  obtain ⟨k0, k1, k2, k3, k4, k5, k6, k7⟩ := pol8 HB2.out.2.1
  obtain ⟨m0, m1, m2, m3, m4, m5, m6, m7⟩ := pol8 HB2.out.2.2
  go_wp2_with fail
  have HC := show Hid _ from eqStrs (ca := vc) (cb := vc2) (Rd.below H1.out HB2.out.1).v (Rd.below H2.out HB2.out.1).v (Nat.le_trans HS.out.v (by decide))
  clear k0 k1 k2 k3 k4 k5 k6 k7 m0 m1 m2 m3 m4 m5 m6 m7
  refine Calls.mono HC.out ?_
  rintro e w3 ⟨rfl, hb3⟩
  have HB3 : Hid (Below w.heap.size w w3 ∧ w3.heap[w.heap.size]? = some (.cells #[.string nm, .slice ao rows.length ac, .slice qo qs.length qc, .slice vo vs.length vc, .slice tto ts.length tc, .slice uo us.length uc, .slice oo on.length oc, .int .i64 miss] 30 (0, 0)) ∧ w3.heap[w.heap.size + 1]? = some (.cells #[.string nm, .slice ao2 rows.length ac2, .slice qo2 qs.length qc2, .slice vo2 vs.length vc2, .slice tto2 ts.length tc2, .slice uo2 us.length uc2, .slice oo2 on.length oc2, .int .i64 miss] 30 (0, 0))) := ⟨HB2.out.1.trans (hb3.mono HB2.out.1.size), (hb3.block _ (blk_lt HB2.out.2.1)).trans HB2.out.2.1, (hb3.block _ (blk_lt HB2.out.2.2)).trans HB2.out.2.2⟩
  clear HC hb3
  obtain ⟨k0, k1, k2, k3, k4, k5, k6, k7⟩ := pol8 HB3.out.2.1
  obtain ⟨m0, m1, m2, m3, m4, m5, m6, m7⟩ := pol8 HB3.out.2.2
  go_wp2_with fail
  have HC := show Hid _ from eqStrs (ca := tc) (cb := tc2) (Rd.below H1.out HB3.out.1).t (Rd.below H2.out HB3.out.1).t (Nat.le_trans HS.out.t (by decide))
  clear k0 k1 k2 k3 k4 k5 k6 k7 m0 m1 m2 m3 m4 m5 m6 m7
  refine Calls.mono HC.out ?_
  rintro e w4 ⟨rfl, hb4⟩
  have HB4 : Hid (Below w.heap.size w w4 ∧ w4.heap[w.heap.size]? = some (.cells #[.string nm, .slice ao rows.length ac, .slice qo qs.length qc, .slice vo vs.length vc, .slice tto ts.length tc, .slice uo us.length uc, .slice oo on.length oc, .int .i64 miss] 30 (0, 0)) ∧ w4.heap[w.heap.size + 1]? = some (.cells #[.string nm, .slice ao2 rows.length ac2, .slice qo2 qs.length qc2, .slice vo2 vs.length vc2, .slice tto2 ts.length tc2, .slice uo2 us.length uc2, .slice oo2 on.length oc2, .int .i64 miss] 30 (0, 0))) := ⟨HB3.out.1.trans (hb4.mono HB3.out.1.size), (hb4.block _ (blk_lt HB3.out.2.1)).trans HB3.out.2.1, (hb4.block _ (blk_lt HB3.out.2.2)).trans HB3.out.2.2⟩
  clear HC hb4
  obtain ⟨k0, k1, k2, k3, k4, k5, k6, k7⟩ := pol8 HB4.out.2.1
  obtain ⟨m0, m1, m2, m3, m4, m5, m6, m7⟩ := pol8 HB4.out.2.2
  go_wp2_with fail
  have HC := show Hid _ from eqInts (ca := uc) (cb := uc2) (Rd.below H1.out HB4.out.1).u (Rd.below H2.out HB4.out.1).u (by rw [List.length_map]; exact Nat.le_trans HS.out.u (by decide))
  rw [List.length_map] at HC
  clear k0 k1 k2 k3 k4 k5 k6 k7 m0 m1 m2 m3 m4 m5 m6 m7
  refine Calls.mono HC.out ?_
  rintro e w5 ⟨rfl, hb5⟩
  have HB5 : Hid (Below w.heap.size w w5 ∧ w5.heap[w.heap.size]? = some (.cells #[.string nm, .slice ao rows.length ac, .slice qo qs.length qc, .slice vo vs.length vc, .slice tto ts.length tc, .slice uo us.length uc, .slice oo on.length oc, .int .i64 miss] 30 (0, 0)) ∧ w5.heap[w.heap.size + 1]? = some (.cells #[.string nm, .slice ao2 rows.length ac2, .slice qo2 qs.length qc2, .slice vo2 vs.length vc2, .slice tto2 ts.length tc2, .slice uo2 us.length uc2, .slice oo2 on.length oc2, .int .i64 miss] 30 (0, 0))) := ⟨HB4.out.1.trans (hb5.mono HB4.out.1.size), (hb5.block _ (blk_lt HB4.out.2.1)).trans HB4.out.2.1, (hb5.block _ (blk_lt HB4.out.2.2)).trans HB4.out.2.2⟩
  clear HC hb5
  obtain ⟨k0, k1, k2, k3, k4, k5, k6, k7⟩ := pol8 HB5.out.2.1
  obtain ⟨m0, m1, m2, m3, m4, m5, m6, m7⟩ := pol8 HB5.out.2.2
  go_wp2_with fail
  have HC := show Hid _ from eqInts (ca := oc) (cb := oc2) (Rd.below H1.out HB5.out.1).o (Rd.below H2.out HB5.out.1).o (Nat.le_trans HS.out.o (by decide))
  clear k0 k1 k2 k3 k4 k5 k6 k7 m0 m1 m2 m3 m4 m5 m6 m7
  refine Calls.mono HC.out ?_
  rintro e w6 ⟨rfl, hb6⟩
  have HB6 : Hid (Below w.heap.size w w6 ∧ w6.heap[w.heap.size]? = some (.cells #[.string nm, .slice ao rows.length ac, .slice qo qs.length qc, .slice vo vs.length vc, .slice tto ts.length tc, .slice uo us.length uc, .slice oo on.length oc, .int .i64 miss] 30 (0, 0)) ∧ w6.heap[w.heap.size + 1]? = some (.cells #[.string nm, .slice ao2 rows.length ac2, .slice qo2 qs.length qc2, .slice vo2 vs.length vc2, .slice tto2 ts.length tc2, .slice uo2 us.length uc2, .slice oo2 on.length oc2, .int .i64 miss] 30 (0, 0))) := ⟨HB5.out.1.trans (hb6.mono HB5.out.1.size), (hb6.block _ (blk_lt HB5.out.2.1)).trans HB5.out.2.1, (hb6.block _ (blk_lt HB5.out.2.2)).trans HB5.out.2.2⟩
  clear HC hb6
  obtain ⟨k0, k1, k2, k3, k4, k5, k6, k7⟩ := pol8 HB6.out.2.1
  obtain ⟨m0, m1, m2, m3, m4, m5, m6, m7⟩ := pol8 HB6.out.2.2
  go_wp2
  go_ret
  exact ⟨rfl, HB6.out.1⟩
/-- Check of a policy whose rows resolve to it -/
theorem check_told {w : World} {p : Pl} {a : Addr} {qo vo tto uo oo : Option Addr} {ac qc vc tc uc oc : Nat} (h : Rd w p (some a) qo vo tto uo oo) (hs : p.Sm) (hr : res (p.rows.map unn) = .ok p) :
    Calls Tryz.prog 33 #[pv p (some a) qo vo tto uo oo ac qc vc tc uc oc] w fun e w' => e = .returned (.int .i64 0) ∧ Below w.heap.size w w' := by
  have hb0 : Below w.heap.size w (w.alloc (.cells #[.string p.name, .slice (some a) p.rows.length ac, .slice qo p.qs.length qc, .slice vo p.vs.length vc, .slice tto p.ts.length tc, .slice uo p.us.length uc, .slice oo p.on.length oc, .int .i64 p.miss] 30)) := (Below.refl _ w).alloc (Nat.le_refl _) _
  have HB0 : Hid (Below w.heap.size w (w.alloc (.cells #[.string p.name, .slice (some a) p.rows.length ac, .slice qo p.qs.length qc, .slice vo p.vs.length vc, .slice tto p.ts.length tc, .slice uo p.us.length uc, .slice oo p.on.length oc, .int .i64 p.miss] 30)) ∧ (w.alloc (.cells #[.string p.name, .slice (some a) p.rows.length ac, .slice qo p.qs.length qc, .slice vo p.vs.length vc, .slice tto p.ts.length tc, .slice uo p.us.length uc, .slice oo p.on.length oc, .int .i64 p.miss] 30)).heap[w.heap.size]? = some (.cells #[.string p.name, .slice (some a) p.rows.length ac, .slice qo p.qs.length qc, .slice vo p.vs.length vc, .slice tto p.ts.length tc, .slice uo p.us.length uc, .slice oo p.on.length oc, .int .i64 p.miss] 30 (0, 0))) := ⟨hb0, heap_alloc_new w _⟩
  have HU := show Hid _ from unnamed_any (cap := ac) (h.r.below hb0) hs.r
  have H := show Hid _ from h
  have HS := show Hid _ from hs
  have HR := show Hid _ from hr
  obtain ⟨k0, k1, k2, k3, k4, k5, k6, k7⟩ := pol8 HB0.out.2
  clear h hs hr hb0
  unfold pv
  go_enter Tryz.func33, Tryz.ntmps33
  go_wp2_with fail
  refine Calls.mono HU.out ?_
  rintro e w1 ⟨rb, rc, rfl, hrw, hb1⟩
  have HB1 : Hid (Below w.heap.size w w1 ∧ w1.heap[w.heap.size]? = some (.cells #[.string p.name, .slice (some a) p.rows.length ac, .slice qo p.qs.length qc, .slice vo p.vs.length vc, .slice tto p.ts.length tc, .slice uo p.us.length uc, .slice oo p.on.length oc, .int .i64 p.miss] 30 (0, 0))) := ⟨HB0.out.1.trans (hb1.mono HB0.out.1.size), (hb1.block _ (blk_lt HB0.out.2)).trans HB0.out.2⟩
  have HRs := show Hid _ from resolve_any (cap := rc) hrw.rz (by rw [List.length_map]; exact HS.out.r)
  rw [HR.out, List.length_map] at HRs
  clear hrw hb1 HU k0 k1 k2 k3 k4 k5 k6 k7
  go_wp2_with fail
  refine Calls.mono HRs.out ?_
  rintro e w2 ⟨hb2, v, rfl, hpl⟩
  obtain ⟨rb2, qo2, vo2, tto2, uo2, oo2, ac2, qc2, vc2, tc2, uc2, oc2, rfl, _, hrd, _, _⟩ := hpl.rd
  have hb3 : Below w2.heap.size w2 ((w2.alloc (.cells #[.string p.name, .slice (some ⟨rb2, 0, none⟩) p.rows.length ac2, .slice qo2 p.qs.length qc2, .slice vo2 p.vs.length vc2, .slice tto2 p.ts.length tc2, .slice uo2 p.us.length uc2, .slice oo2 p.on.length oc2, .int .i64 p.miss] 30)).alloc (.cells #[.int .i64 0, .int .i64 0] 33)) := ((Below.refl _ w2).alloc (Nat.le_refl _) _).alloc (by simp) _
  have HB3 : Hid (Below w.heap.size w ((w2.alloc (.cells #[.string p.name, .slice (some ⟨rb2, 0, none⟩) p.rows.length ac2, .slice qo2 p.qs.length qc2, .slice vo2 p.vs.length vc2, .slice tto2 p.ts.length tc2, .slice uo2 p.us.length uc2, .slice oo2 p.on.length oc2, .int .i64 p.miss] 30)).alloc (.cells #[.int .i64 0, .int .i64 0] 33)) ∧ Rd ((w2.alloc (.cells #[.string p.name, .slice (some ⟨rb2, 0, none⟩) p.rows.length ac2, .slice qo2 p.qs.length qc2, .slice vo2 p.vs.length vc2, .slice tto2 p.ts.length tc2, .slice uo2 p.us.length uc2, .slice oo2 p.on.length oc2, .int .i64 p.miss] 30)).alloc (.cells #[.int .i64 0, .int .i64 0] 33)) p (some ⟨rb2, 0, none⟩) qo2 vo2 tto2 uo2 oo2) := ⟨HB1.out.1.trans ((hb2.trans (hb3.mono hb2.size)).mono HB1.out.1.size), hrd.below hb3⟩
  have hx1 : ((w2.alloc (.cells #[.string p.name, .slice (some ⟨rb2, 0, none⟩) p.rows.length ac2, .slice qo2 p.qs.length qc2, .slice vo2 p.vs.length vc2, .slice tto2 p.ts.length tc2, .slice uo2 p.us.length uc2, .slice oo2 p.on.length oc2, .int .i64 p.miss] 30)).alloc (.cells #[.int .i64 0, .int .i64 0] 33)).heap[w.heap.size]? = some (.cells #[.string p.name, .slice (some a) p.rows.length ac, .slice qo p.qs.length qc, .slice vo p.vs.length vc, .slice tto p.ts.length tc, .slice uo p.us.length uc, .slice oo p.on.length oc, .int .i64 p.miss] 30 (0, 0)) := ((hb2.trans (hb3.mono hb2.size)).block _ (blk_lt HB1.out.2)).trans HB1.out.2
  have hx2 : ((w2.alloc (.cells #[.string p.name, .slice (some ⟨rb2, 0, none⟩) p.rows.length ac2, .slice qo2 p.qs.length qc2, .slice vo2 p.vs.length vc2, .slice tto2 p.ts.length tc2, .slice uo2 p.us.length uc2, .slice oo2 p.on.length oc2, .int .i64 p.miss] 30)).alloc (.cells #[.int .i64 0, .int .i64 0] 33)).heap[w2.heap.size]? = some (.cells #[.string p.name, .slice (some ⟨rb2, 0, none⟩) p.rows.length ac2, .slice qo2 p.qs.length qc2, .slice vo2 p.vs.length vc2, .slice tto2 p.ts.length tc2, .slice uo2 p.us.length uc2, .slice oo2 p.on.length oc2, .int .i64 p.miss] 30 (0, 0)) := by rw [alloc_old _ _ _ (by simp)]; exact alloc_at _ _ _ rfl
  have hx3 : ((w2.alloc (.cells #[.string p.name, .slice (some ⟨rb2, 0, none⟩) p.rows.length ac2, .slice qo2 p.qs.length qc2, .slice vo2 p.vs.length vc2, .slice tto2 p.ts.length tc2, .slice uo2 p.us.length uc2, .slice oo2 p.on.length oc2, .int .i64 p.miss] 30)).alloc (.cells #[.int .i64 0, .int .i64 0] 33)).heap[w2.heap.size + 1]? = some (.cells #[.int .i64 0, .int .i64 0] 33 (0, 0)) := alloc_at _ _ _ (by simp)
  obtain ⟨k0, k1, k2, k3, k4, k5, k6, k7⟩ := pol8 hx1
  obtain ⟨m0, m1, m2, m3, m4, m5, m6, m7⟩ := pol8 hx2
  have f0 : ((w2.alloc (.cells #[.string p.name, .slice (some ⟨rb2, 0, none⟩) p.rows.length ac2, .slice qo2 p.qs.length qc2, .slice vo2 p.vs.length vc2, .slice tto2 p.ts.length tc2, .slice uo2 p.us.length uc2, .slice oo2 p.on.length oc2, .int .i64 p.miss] 30)).alloc (.cells #[.int .i64 0, .int .i64 0] 33)).cell? ⟨w2.heap.size + 1, 0, none⟩ = some (.int .i64 0) := by rw [World.cell?, hx3]; rfl
  have HSm := show Hid _ from same_told (ac := ac2) (qc := qc2) (vc := vc2) (tc := tc2) (uc := uc2) (oc := oc2) (ac2 := ac) (qc2 := qc) (vc2 := vc) (tc2 := tc) (uc2 := uc) (oc2 := oc) HB3.out.2 (Rd.below H.out HB3.out.1) HS.out
  clear hb2 hb3 hpl hrd hx1 hx2 hx3 HRs
  unfold pv at HSm
  unfold pv
  go_wp2_with fail
  refine Calls.mono HSm.out ?_
  rintro e w5 ⟨rfl, hb5⟩
  have HB5 : Hid (Below w.heap.size w w5) := HB3.out.1.trans (hb5.mono HB3.out.1.size)
  clear hb5 HSm k0 k1 k2 k3 k4 k5 k6 k7 m0 m1 m2 m3 m4 m5 m6 m7
  go_wp2
  go_ret
  exact ⟨rfl, HB5.out⟩
end Go.Proofs.YtnpdblcfhbamiaaGreat.Nm
