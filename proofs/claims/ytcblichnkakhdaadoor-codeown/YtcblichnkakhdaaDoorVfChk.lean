import Derived.Test.YtcblichnkakhdaaDoorVfChI
import Derived.Test.YtcblichnkakhdaaDoorVfTab
import Derived.Test.YtcblichnkakhdaaDoorVfPlc
namespace Go.Proofs.YtcblichnkakhdaaDoor.Vf
open Go.RowKit Go.Proofs.YtcblichnkakhdaaDoor.Nm

theorem firstE_take {f : Ins → Nat} : ∀ {l : List Ins} {j : Nat}, j < l.length → (∀ x ∈ l.take j, f x = 0) → ∀ (h : j < l.length), f l[j] ≠ 0 → firstE f l = f l[j]
  | [], _, h, _, _, _ => absurd h (by simp)
  | x :: l, 0, _, _, _, hx => by
    have hx' : f x ≠ 0 := hx
    show (if f x = 0 then _ else _) = f x
    rw [if_neg hx']
  | x :: l, j + 1, _, ha, h, hx => by
    show (if f x = 0 then _ else _) = _
    rw [if_pos (ha x (by simp))]
    exact firstE_take (l := l) (j := j) (by simpa using h) (fun y hy => ha y (by simp [hy])) (by simpa using h) hx
theorem firstE_all {f : Ins → Nat} : ∀ {l : List Ins}, (∀ x ∈ l, f x = 0) → firstE f l = 0
  | [], _ => rfl
  | x :: l, ha => by
    show (if f x = 0 then _ else _) = _
    rw [if_pos (ha x (by simp))]
    exact firstE_all (fun y hy => ha y (by simp [hy]))
set_option maxHeartbeats 12800000 in
set_option maxRecDepth 100000 in
/-- Check -/
theorem chk_any (v : PV) (p : Pg) (w : World) (hP : IsPg w v p) : Calls Tryd.prog 16 #[.agg (pvC v p)] w fun e w' => e = .returned (.int .i64 (chk p : Int)) ∧ Below w.heap.size w w' := by
  have HT : Hid (∀ W, Below w.heap.size w W → Calls Tryd.prog 45 #[.agg (pvC v p)] W fun e w' => e = .returned (.bool (tabF p)) ∧ Below W.heap.size W w') := fun W hb => tab_any v p W (hP.below hb)
  have HL : Hid (∀ W, Below w.heap.size w W → Calls Tryd.prog 46 #[.agg (pvC v p)] W fun e w' => e = .returned (.bool (plcF p)) ∧ Below W.heap.size W w') := fun W hb => plc_any v p W (hP.below hb)
  have HS : Hid (∀ W, Calls Tryd.prog 47 #[.agg (pvC v p)] W fun e w' => e = .returned (.agg (spV p).toArray) ∧ Below W.heap.size W w') := fun W => cspans (by have := hP.lgh; omega) (by have := hP.lvs; omega) (by have := hP.lts; omega) (by have := hP.lcd; omega) W
  have HI : Hid (∀ x W, Calls Tryd.prog 48 #[.agg #[.int .i64 (x : Ins).op, .int .i64 x.a, .int .i64 x.b, .int .i64 x.c, .int .i64 x.d], .agg (spV p).toArray] W fun e w' => e = .returned (.int .i64 (insF p x : Int)) ∧ Below W.heap.size W w') := fun x W => chi_any p x W
  have HZ : Hid ((spV p).toArray.size = 18) := rfl
  obtain ⟨qo, qc, vo, vc, to, tc, oo, oc, co, cc⟩ := v
  show Calls _ _ #[.agg #[.slice qo p.gh.length qc, .slice vo p.vs.length vc, .slice to p.ts.length tc, .slice oo p.on.length oc, .int .i64 p.miss, .slice co p.cd.length cc]] _ _
  have HB : Hid (Below w.heap.size w (w.alloc (.cells #[.slice qo p.gh.length qc, .slice vo p.vs.length vc, .slice to p.ts.length tc, .slice oo p.on.length oc, .int .i64 p.miss, .slice co p.cd.length cc] 29)) ∧ (w.alloc (.cells #[.slice qo p.gh.length qc, .slice vo p.vs.length vc, .slice to p.ts.length tc, .slice oo p.on.length oc, .int .i64 p.miss, .slice co p.cd.length cc] 29)).heap[w.heap.size]? = some (.cells #[.slice qo p.gh.length qc, .slice vo p.vs.length vc, .slice to p.ts.length tc, .slice oo p.on.length oc, .int .i64 p.miss, .slice co p.cd.length cc] 29 (0, 0))) := ⟨(Below.refl _ w).alloc (Nat.le_refl _) _, heap_alloc_new _ _⟩
  have HP : Hid (IsPg w ⟨qo, qc, vo, vc, to, tc, oo, oc, co, cc⟩ p) := hP
  have n3 : (p.cd.length : Int) ≤ 1000000000000000 := by have := hP.lcd; omega
  have HSp : Hid (chk p = if tabF p && plcF p then firstE (insF p) p.cd else 85) := rfl
  clear hP
  generalize tabF p = tb at *
  generalize plcF p = pl at *
  generalize chk p = ck at *
  go_enter Tryd.func16, Tryd.ntmps16
  go_wp2_with fail
  generalize w.alloc (.cells #[.slice qo p.gh.length qc, .slice vo p.vs.length vc, .slice to p.ts.length tc, .slice oo p.on.length oc, .int .i64 p.miss, .slice co p.cd.length cc] 29) = w0 at *
  refine (HT.out _ HB.out.1).mono ?_
  rintro e w1 ⟨rfl, hb1⟩
  have HB1 : Hid (Below w.heap.size w w1 ∧ w1.heap[w.heap.size]? = some (.cells #[.slice qo p.gh.length qc, .slice vo p.vs.length vc, .slice to p.ts.length tc, .slice oo p.on.length oc, .int .i64 p.miss, .slice co p.cd.length cc] 29 (0, 0))) := ⟨HB.out.1.trans (hb1.mono HB.out.1.size), (hb1.block _ (blk_lt HB.out.2)).trans HB.out.2⟩
  obtain ⟨i0, i1, i2, i3, i4, i5⟩ := cells6 HB1.out.2
  clear hb1 HB HT
  cases tb
  · have hr : ck = 85 := HSp.out
    go_wp2_with fail
    go_ret
    exact ⟨by rw [hr]; rfl, HB1.out.1⟩
  go_wp2_with fail
  refine (HL.out _ HB1.out.1).mono ?_
  rintro e w2 ⟨rfl, hb2⟩
  have HB2 : Hid (Below w.heap.size w w2 ∧ w2.heap[w.heap.size]? = some (.cells #[.slice qo p.gh.length qc, .slice vo p.vs.length vc, .slice to p.ts.length tc, .slice oo p.on.length oc, .int .i64 p.miss, .slice co p.cd.length cc] 29 (0, 0))) := ⟨HB1.out.1.trans (hb2.mono HB1.out.1.size), (hb2.block _ (blk_lt HB1.out.2)).trans HB1.out.2⟩
  clear hb2 HB1 HL i0 i1 i2 i3 i4 i5
  obtain ⟨i0, i1, i2, i3, i4, i5⟩ := cells6 HB2.out.2
  cases pl
  · have hr : ck = 85 := HSp.out
    go_wp2_with fail
    go_ret
    exact ⟨by rw [hr]; rfl, HB2.out.1⟩
  have HS2 : Hid (ck = firstE (insF p) p.cd) := HSp.out
  clear HSp
  go_wp2_with fail
  refine (HS.out _).mono ?_
  rintro e w3 ⟨rfl, hb3⟩
  have hbA : Below w3.heap.size w3 (w3.alloc (.cells #[.int .i64 0, .int .i64 0, .int .i64 0, .int .i64 0, .int .i64 0, .int .i64 0, .int .i64 0, .int .i64 0, .int .i64 0, .int .i64 0, .int .i64 0, .int .i64 0, .int .i64 0, .int .i64 0, .int .i64 0, .int .i64 0, .int .i64 0, .int .i64 0] 86)) := (Below.refl _ w3).alloc (Nat.le_refl _) _
  have h3a : w3.heap[w.heap.size]? = some (.cells #[.slice qo p.gh.length qc, .slice vo p.vs.length vc, .slice to p.ts.length tc, .slice oo p.on.length oc, .int .i64 p.miss, .slice co p.cd.length cc] 29 (0, 0)) := (hb3.block _ (blk_lt HB2.out.2)).trans HB2.out.2
  have h3b : Below w.heap.size w w3 := HB2.out.1.trans (hb3.mono HB2.out.1.size)
  have hlt3 : w.heap.size < w3.heap.size := blk_lt h3a
  have HB4 : Hid (Below w.heap.size w ((w3.alloc (.cells #[.int .i64 0, .int .i64 0, .int .i64 0, .int .i64 0, .int .i64 0, .int .i64 0, .int .i64 0, .int .i64 0, .int .i64 0, .int .i64 0, .int .i64 0, .int .i64 0, .int .i64 0, .int .i64 0, .int .i64 0, .int .i64 0, .int .i64 0, .int .i64 0] 86)).setRow w3.heap.size (spV p).toArray) ∧ ((w3.alloc (.cells #[.int .i64 0, .int .i64 0, .int .i64 0, .int .i64 0, .int .i64 0, .int .i64 0, .int .i64 0, .int .i64 0, .int .i64 0, .int .i64 0, .int .i64 0, .int .i64 0, .int .i64 0, .int .i64 0, .int .i64 0, .int .i64 0, .int .i64 0, .int .i64 0] 86)).setRow w3.heap.size (spV p).toArray).heap[w.heap.size]? = some (.cells #[.slice qo p.gh.length qc, .slice vo p.vs.length vc, .slice to p.ts.length tc, .slice oo p.on.length oc, .int .i64 p.miss, .slice co p.cd.length cc] 29 (0, 0)) ∧ ((w3.alloc (.cells #[.int .i64 0, .int .i64 0, .int .i64 0, .int .i64 0, .int .i64 0, .int .i64 0, .int .i64 0, .int .i64 0, .int .i64 0, .int .i64 0, .int .i64 0, .int .i64 0, .int .i64 0, .int .i64 0, .int .i64 0, .int .i64 0, .int .i64 0, .int .i64 0] 86)).setRow w3.heap.size (spV p).toArray).heap[w3.heap.size]? = some (.cells (spV p).toArray 86 (0, 0)) ∧ w.heap.size < w3.heap.size) :=
    ⟨below_setRow (h3b.trans (hbA.mono h3b.size)) h3b.size, (setRow_other _ _ _ _ (by omega)).trans ((hbA.block _ hlt3).trans h3a), setRow_heap _ _ _ _ _ _ (heap_alloc_new _ _), hlt3⟩
  clear hbA h3a h3b hlt3 hb3 HB2 HS i0 i1 i2 i3 i4 i5
  go_wp2_with (refine wpList_store_row rfl 86 _ _ rfl w3.heap.size (spV p).toArray rfl rfl 86 #[.int .i64 0, .int .i64 0, .int .i64 0, .int .i64 0, .int .i64 0, .int .i64 0, .int .i64 0, .int .i64 0, .int .i64 0, .int .i64 0, .int .i64 0, .int .i64 0, .int .i64 0, .int .i64 0, .int .i64 0, .int .i64 0, .int .i64 0, .int .i64 0] (heap_alloc_new w3 _) (by kernel_rfl) rfl (by kernel_rfl) ?_; generalize (w3.alloc (.cells #[.int .i64 0, .int .i64 0, .int .i64 0, .int .i64 0, .int .i64 0, .int .i64 0, .int .i64 0, .int .i64 0, .int .i64 0, .int .i64 0, .int .i64 0, .int .i64 0, .int .i64 0, .int .i64 0, .int .i64 0, .int .i64 0, .int .i64 0, .int .i64 0] 86)).setRow w3.heap.size (spV p).toArray = w4 at *; obtain ⟨i0, i1, i2, i3, i4, i5⟩ := cells6 HB4.out.2.1)
  generalize w3.heap.size = sb at *
  go_loopg [20] p.cd.length (fun gq x wr => ∃ j : Nat, j ≤ p.cd.length ∧ gq = p.cd.length - j ∧ x = .int .i64 (j : Int) ∧ (∀ x ∈ p.cd.take j, insF p x = 0) ∧ Below w4.heap.size w4 wr)
  case atStart => exact ⟨0, Nat.zero_le _, rfl, rfl, by simp, Below.refl _ _⟩
  case round =>
    obtain ⟨j, hj, hgk, rfl, ha, hb⟩ := hrel
    have HG : Hid (gk = p.cd.length - j ∧ (∀ x ∈ p.cd.take j, insF p x = 0) ∧ Below w4.heap.size w4 wr ∧ Below w.heap.size w wr) := ⟨hgk, ha, hb, HB4.out.1.trans (hb.mono HB4.out.1.size)⟩
    clear hgk ha hb i0 i1 i2 i3 i4 i5
    by_cases hlt : j < p.cd.length
    · have hlt' : (j : Int) < (p.cd.length : Int) := by omega
      obtain ⟨g, f, hvo, hg, d0, d1, d2, d3, d4⟩ := rd_ins (HP.out.cd.below HG.out.2.2.2) hlt
      have HLt : Hid (j < p.cd.length) := hlt
      have hg1 : ¬ g = wr.heap.size := by omega
      have hsb : wr.heap[sb]? = some (.cells (spV p).toArray 86 (0, 0)) := (HG.out.2.2.1.block _ (blk_lt HB4.out.2.2.1)).trans HB4.out.2.2.1
      have HSb : Hid (∀ o, (wr.alloc o).heap[sb]? = some (.cells (spV p).toArray 86 (0, 0))) := fun o => (((Below.refl _ wr).alloc (Nat.le_refl _) o).block _ (blk_lt hsb)).trans hsb
      have HTk : Hid (insF p p.cd[j] = 0 → ∀ x ∈ p.cd.take (j + 1), insF p x = 0) := fun h x hx => by
        rw [List.take_add_one, List.getElem?_eq_getElem hlt] at hx
        rcases List.mem_append.1 hx with h1 | h1
        · exact HG.out.2.1 x h1
        · rw [List.mem_singleton.1 h1]; exact h
      have HNo : Hid (insF p p.cd[j] ≠ 0 → firstE (insF p) p.cd = insF p p.cd[j]) := fun h => firstE_take hlt HG.out.2.1 hlt h
      have HI2 := HI.out p.cd[j]
      generalize insF p p.cd[j] = er at *
      generalize p.cd[j].op = y0 at *
      generalize p.cd[j].a = y1 at *
      generalize p.cd[j].b = y2 at *
      generalize p.cd[j].c = y3 at *
      generalize p.cd[j].d = y4 at *
      have HI3 : Hid _ := HI2
      obtain rfl : co = some ⟨g, f, none⟩ := hvo
      clear HI2 hlt hg hsb
      go_wp2_with (refine wpList_load_row rfl 86 _ rfl sb rfl 86 (spV p).toArray (0, 0) _ (HSb.out _) Tryd.underlying86 rfl (by kernel_rfl) ?_)
      refine (HI3.out _).mono ?_
      rintro e w6 ⟨rfl, hb6⟩
      have HB6 : Hid (Below w4.heap.size w4 w6 ∧ Below w.heap.size w w6) := ⟨(HG.out.2.2.1.alloc HG.out.2.2.1.size _).trans (hb6.mono (Nat.le_trans HG.out.2.2.1.size (by simp))), (HG.out.2.2.2.alloc HG.out.2.2.2.size _).trans (hb6.mono (Nat.le_trans HG.out.2.2.2.size (by simp)))⟩
      clear hb6 HI3 HSb d0 d1 d2 d3 d4
      by_cases he : er = 0
      · have HTk' : Hid _ := HTk.out he
        subst he
        go_wp2_with fail
        go_roundg (p.cd.length - (j + 1))
        case measure => have h1 := HG.out.1; have := HLt.out; omega
        case rel => exact ⟨j + 1, HLt.out, rfl, by go_num, HTk'.out, HB6.out.1⟩
      · have he' : ¬ (er : Int) = 0 := by omega
        have hr : ck = er := HS2.out.trans (HNo.out he)
        clear he
        go_wp2_with fail
        go_ret
        exact ⟨by rw [hr]; rfl, HB6.out.2⟩
    · have hlt' : ¬ (j : Int) < (p.cd.length : Int) := by omega
      obtain rfl : j = p.cd.length := by omega
      have hr : ck = 0 := HS2.out.trans (firstE_all (fun x hx => HG.out.2.1 x (by rw [List.take_length]; exact hx)))
      clear hlt hj
      go_wp2_with fail
      go_ret
      exact ⟨rfl, HG.out.2.2.2⟩
end Go.Proofs.YtcblichnkakhdaaDoor.Vf
