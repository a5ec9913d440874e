import Derived.Test.YtnpdblcfhbamiaaGreatK38
import Derived.BigQuiet
import Derived.Laws.CopyOwn
import Derived.Laws.Externs
set_option maxHeartbeats 6400000
set_option maxRecDepth 1759218604390400
namespace Go.Proofs.YtnpdblcfhbamiaaGreat.Nm.Ty
open Go.RowKit Go.Maps Go.Proofs.YtnpdblcfhbamiaaGreat.Sp Go.Proofs.YtnpdblcfhbamiaaGreat.Lx Go.Proofs.YtnpdblcfhbamiaaGreat.Gr Go.Proofs.YtnpdblcfhbamiaaGreat.Nm
theorem iv_len (l : List Int) : (iv l).length = l.length := by simp [iv]
theorem vC_len (l : List (Int × Int × Int)) : (vC l).length = l.length * 3 := by
  induction l with
  | nil => rfl
  | cons x l ih =>
    have e : vC (x :: l) = [.int .i64 x.1, .int .i64 x.2.1, .int .i64 x.2.2] ++ vC l := by simp [vC]
    rw [e, List.length_append, ih]
    simp
    omega
theorem vC_at {l : List (Int × Int × Int)} {k : Nat} (h : k < l.length) : (vC l)[k * 3]? = some (.int .i64 l[k].1) ∧ (vC l)[k * 3 + 1]? = some (.int .i64 l[k].2.1) ∧ (vC l)[k * 3 + 2]? = some (.int .i64 l[k].2.2) := by
  induction l generalizing k with
  | nil => simp at h
  | cons x l ih =>
    have e : vC (x :: l) = [.int .i64 x.1, .int .i64 x.2.1, .int .i64 x.2.2] ++ vC l := by simp [vC]
    cases k with
    | zero => rw [e]; exact ⟨rfl, rfl, rfl⟩
    | succ k =>
      have h2 := ih (k := k) (by simpa using h)
      rw [e]
      refine ⟨?_, ?_, ?_⟩
      · rw [List.getElem?_append_right (by simp; omega)]
        have : (k + 1) * 3 - [Value.int .i64 x.1, .int .i64 x.2.1, .int .i64 x.2.2].length = k * 3 := by simp; omega
        rw [this]
        exact h2.1
      · rw [List.getElem?_append_right (by simp; omega)]
        have : (k + 1) * 3 + 1 - [Value.int .i64 x.1, .int .i64 x.2.1, .int .i64 x.2.2].length = k * 3 + 1 := by simp; omega
        rw [this]
        exact h2.2.1
      · rw [List.getElem?_append_right (by simp; omega)]
        have : (k + 1) * 3 + 2 - [Value.int .i64 x.1, .int .i64 x.2.1, .int .i64 x.2.2].length = k * 3 + 2 := by simp; omega
        rw [this]
        exact h2.2.2
/-- what is told twice, the same -/
theorem sameTyped_any {vs : List (Int × Int × Int)} {ts rl : List Int} {vo1 to1 ro1 vo2 to2 ro2 : Option Addr} {vc1 tc1 rc1 vc2 tc2 rc2 : Nat} {w : World} (h1 : IsVals w vo1 (vC vs)) (h2 : IsVals w vo2 (vC vs)) (h3 : IsVals w to1 (iv ts)) (h4 : IsVals w to2 (iv ts)) (h5 : IsVals w ro1 (iv rl)) (h6 : IsVals w ro2 (iv rl)) (hv : vs.length ≤ 2932031007317) (ht : ts.length ≤ 2932031007317) (hr : rl.length ≤ 2932031007317) :
    Calls Tryz.prog 9 #[.agg #[.slice vo1 vs.length vc1, .slice to1 ts.length tc1, .slice ro1 rl.length rc1], .agg #[.slice vo2 vs.length vc2, .slice to2 ts.length tc2, .slice ro2 rl.length rc2]] w fun e w' => e = .returned (.bool true) ∧ Below w.heap.size w w' := by
  have hb : Below w.heap.size w ((w.alloc (.cells #[.slice vo1 vs.length vc1, .slice to1 ts.length tc1, .slice ro1 rl.length rc1] 40)).alloc (.cells #[.slice vo2 vs.length vc2, .slice to2 ts.length tc2, .slice ro2 rl.length rc2] 40)) := ((Below.refl _ w).alloc (Nat.le_refl _) _).alloc (by simp) _
  have HB := show Hid _ from hb
  have HX : Hid (((w.alloc (.cells #[.slice vo1 vs.length vc1, .slice to1 ts.length tc1, .slice ro1 rl.length rc1] 40)).alloc (.cells #[.slice vo2 vs.length vc2, .slice to2 ts.length tc2, .slice ro2 rl.length rc2] 40)).heap[w.heap.size]? = some (.cells #[.slice vo1 vs.length vc1, .slice to1 ts.length tc1, .slice ro1 rl.length rc1] 40 (0, 0)) ∧ ((w.alloc (.cells #[.slice vo1 vs.length vc1, .slice to1 ts.length tc1, .slice ro1 rl.length rc1] 40)).alloc (.cells #[.slice vo2 vs.length vc2, .slice to2 ts.length tc2, .slice ro2 rl.length rc2] 40)).heap[w.heap.size + 1]? = some (.cells #[.slice vo2 vs.length vc2, .slice to2 ts.length tc2, .slice ro2 rl.length rc2] 40 (0, 0))) := ⟨by rw [alloc_old _ _ _ (by simp)]; exact alloc_at _ _ _ rfl, alloc_at _ _ _ (by simp)⟩
  have HS1 := show Hid _ from same17 (ca := tc1) (cb := tc2) (h3.below hb) (h4.below hb) (by omega)
  have H5 := show Hid _ from h5.below hb
  have H6 := show Hid _ from h6.below hb
  have H1 := show Hid _ from h1.below hb
  have H2 := show Hid _ from h2.below hb
  have HL : Hid (rl.length ≤ 2932031007317) := hr
  have hvl : (vs.length : Int) ≤ 2932031007317 := by omega
  obtain ⟨a0, a1, a2⟩ := cells3 HX.out.1
  obtain ⟨b0, b1, b2⟩ := cells3 HX.out.2
  clear h1 h2 h3 h4 h5 h6 hv ht hr hb
  go_enter Tryz.func9, Tryz.ntmps9
  go_wp2_with fail
  generalize ((w.alloc (.cells #[.slice vo1 vs.length vc1, .slice to1 ts.length tc1, .slice ro1 rl.length rc1] 40)).alloc (.cells #[.slice vo2 vs.length vc2, .slice to2 ts.length tc2, .slice ro2 rl.length rc2] 40)) = w2 at *
  refine Calls.mono HS1.out ?_
  rintro e w3 ⟨⟨bb, rfl, hbb⟩, hb3⟩
  have hbt : bb = true := hbb.2 (by first | rfl | trivial)
  subst hbt
  have HS2 := show Hid _ from same17 (ca := rc1) (cb := rc2) (IsVals.below H5.out hb3) (IsVals.below H6.out hb3) (by have := HL.out; omega)
  have HX3 : Hid (w3.heap[w.heap.size]? = some (.cells #[.slice vo1 vs.length vc1, .slice to1 ts.length tc1, .slice ro1 rl.length rc1] 40 (0, 0)) ∧ w3.heap[w.heap.size + 1]? = some (.cells #[.slice vo2 vs.length vc2, .slice to2 ts.length tc2, .slice ro2 rl.length rc2] 40 (0, 0))) := ⟨(hb3.block _ (blk_lt HX.out.1)).trans HX.out.1, (hb3.block _ (blk_lt HX.out.2)).trans HX.out.2⟩
  have HB3 : Hid (Below w2.heap.size w2 w3) := hb3
  clear hb3 hbb HS1 a0 a1 a2 b0 b1 b2
  obtain ⟨a0, a1, a2⟩ := cells3 HX3.out.1
  obtain ⟨b0, b1, b2⟩ := cells3 HX3.out.2
  go_wp2_with fail
  refine Calls.mono HS2.out ?_
  rintro e w4 ⟨⟨bb, rfl, hbb⟩, hb4⟩
  have hbt : bb = true := hbb.2 (by first | rfl | trivial)
  subst hbt
  have HB4 : Hid (Below w2.heap.size w2 w4) := HB3.out.trans (hb4.mono HB3.out.size)
  have HX4 : Hid (w4.heap[w.heap.size]? = some (.cells #[.slice vo1 vs.length vc1, .slice to1 ts.length tc1, .slice ro1 rl.length rc1] 40 (0, 0)) ∧ w4.heap[w.heap.size + 1]? = some (.cells #[.slice vo2 vs.length vc2, .slice to2 ts.length tc2, .slice ro2 rl.length rc2] 40 (0, 0))) := ⟨(hb4.block _ (blk_lt HX3.out.1)).trans HX3.out.1, (hb4.block _ (blk_lt HX3.out.2)).trans HX3.out.2⟩
  clear hb4 hbb HS2 a0 a1 a2 b0 b1 b2 HX HX3 HB3
  go_wp2_with fail
  go_loopg [5] vs.length (fun gq x wr => ∃ k : Nat, k ≤ vs.length ∧ gq = vs.length - k ∧ x = .int .i64 (k : Int) ∧ Below w4.heap.size w4 wr)
  case atStart => exact ⟨0, Nat.zero_le _, rfl, rfl, Below.refl _ _⟩
  case round =>
    obtain ⟨k, hk, hgk, rfl, hbr⟩ := hrel
    have HG : Hid (gk = vs.length - k) := hgk
    have HBr : Hid (Below w4.heap.size w4 wr) := hbr
    have hx1 := (hbr.block _ (blk_lt HX4.out.1)).trans HX4.out.1
    have hx2 := (hbr.block _ (blk_lt HX4.out.2)).trans HX4.out.2
    obtain ⟨a0, a1, a2⟩ := cells3 hx1
    obtain ⟨b0, b1, b2⟩ := cells3 hx2
    clear hgk hx1 hx2
    by_cases hlt : k < vs.length
    · have hlt' : (k : Int) < (vs.length : Int) := by omega
      have HLt : Hid (k < vs.length) := hlt
      have hbx := HB4.out.trans (hbr.mono HB4.out.size)
      obtain ⟨q0, q1, q2⟩ := vC_at hlt
      obtain ⟨g1, o1, e1, _, x0⟩ := (IsVals.below H1.out hbx) _ _ q0
      obtain ⟨_, _, ea, _, x1⟩ := (IsVals.below H1.out hbx) _ _ q1
      rw [e1] at ea
      cases ea
      obtain ⟨_, _, ea, _, x2⟩ := (IsVals.below H1.out hbx) _ _ q2
      rw [e1] at ea
      cases ea
      obtain ⟨g2, o2, e2, _, y0⟩ := (IsVals.below H2.out hbx) _ _ q0
      obtain ⟨_, _, ea, _, y1⟩ := (IsVals.below H2.out hbx) _ _ q1
      rw [e2] at ea
      cases ea
      obtain ⟨_, _, ea, _, y2⟩ := (IsVals.below H2.out hbx) _ _ q2
      rw [e2] at ea
      cases ea
      subst e1
      subst e2
      generalize vs[k].1 = z0 at *
      generalize vs[k].2.1 = z1 at *
      generalize vs[k].2.2 = z2 at *
      rw [← Nat.add_assoc] at x1 x2 y1 y2
      clear hlt hk hbr hbx q0 q1 q2
      go_wp2_with fail
      go_quiet (fail)
      go_wp2_with fail
      go_roundg (vs.length - (k + 1))
      case measure => have h1 := HG.out; have := HLt.out; omega
      case rel => exact ⟨k + 1, HLt.out, rfl, by go_num, HBr.out.trans ((below_drewN _ _).mono HBr.out.size)⟩
    · have hlt' : ¬ (k : Int) < (vs.length : Int) := by omega
      clear hlt hk hbr
      go_wp2_with fail
      go_ret
      exact ⟨rfl, HB.out.trans ((HB4.out.trans (HBr.out.mono HB4.out.size)).mono HB.out.size)⟩
/-- round -/
theorem round8 (a : Int) (n : Nat) (hn : 0 < n) (hn2 : n ≤ 2932031007317) (w : World) : Calls Tryz.prog 12 #[.int .i64 a, .int .i64 (n : Int)] w fun r w' => (∃ k : Nat, k < n ∧ r = .returned (.int .i64 (k : Int))) ∧ w' = w := by
  have h1 := Int.tmod_lt_of_pos a (show (0 : Int) < n by omega)
  have h2 := Int.lt_tmod_of_pos a (show (0 : Int) < n by omega)
  have hw : IntKind.i64.wrap (a.tmod n) = a.tmod n := by
    rw [IntKind.wrap_i64]
    generalize a.tmod n = z at *
    omega
  have h3 : ((n : Int) == 0) = false := by simp; omega
  have h4 : (n : Int) ≤ 2932031007317 := by omega
  by_cases h0 : a.tmod n < 0
  · go_enter Tryz.func12, Tryz.ntmps12
    go_wp2
    go_ret
    exact ⟨⟨(a.tmod n + n).toNat, by omega, by rw [Int.toNat_of_nonneg (by omega)]; rfl⟩, rfl⟩
  · have h5 : decide (a.tmod n < 0) = false := by simp; omega
    go_enter Tryz.func12, Tryz.ntmps12
    go_wp2
    go_ret
    exact ⟨⟨(a.tmod n).toNat, by omega, by rw [Int.toNat_of_nonneg (by omega)]; rfl⟩, rfl⟩
theorem cell_two (w : World) (a b : Value) (T : TypeId) : ∀ j u, [a, b][j]? = some u → (w.alloc (.cells #[a, b] T)).cell? (Addr.add ⟨w.heap.size, 0, none⟩ j) = some u := fun j u hu => by
  rw [Lib.addr_add, World.cell?, heap_alloc_new]
  simpa using hu
theorem spoil_fr {w wa w2 : World} {F : List Nat} {v v1 : Value} {g1 : Nat} (h : Fr F w wa) (hF : ∀ g, v.ownBlock = some g → g ∈ F) (hg : wa.grownBy w2 v.ownBlock) (h1 : v1.ownBlock = some g1) (hd : v1.ownBlock = v.ownBlock ∨ v1.ownBlock = some wa.heap.size) (x : Value) : Fr F w (w2.setCell ⟨g1, 0, none⟩ x) := by
  have k1 : Fr F wa w2 := ⟨hg.os, hg.tape, hg.output, hg.size, fun k hk hn => hg.block k hk (fun e => hn (hF k e.symm))⟩
  have k2 := h.trans k1 (fun x hx => Or.inl hx)
  refine k2.trans (Fr.set (F := [g1]) w2 0 x (by simp)) (fun y hy => ?_)
  obtain rfl := List.mem_singleton.1 hy
  rcases hd with e | e
  · exact Or.inl (hF _ (e ▸ h1))
  · rw [h1] at e
    cases e
    exact Or.inr h.size
/-- numbers spoilt: nothing but their own block has turned -/
theorem spoil17 {w : World} {base : Nat} {v : Value} {l : List Int} (h : w.ownsRow base 3 1 v l.length (iv l)) (hb : base ≤ w.heap.size) (hn : l.length ≤ 17592186043904) :
    Calls Tryz.prog 10 #[v] w fun e w' => e = .returned (.tuple #[]) ∧ Fr v.ownBlock.toList w w' := by
  obtain ⟨i0, hi, hz0, hz1, hz2⟩ := info_parts infoI
  have HBs : Hid (base ≤ w.heap.size) := hb
  have hln : (l.length : Int) ≤ 17592186043904 := by omega
  rcases h.2 with ⟨rfl, hl0⟩ | ⟨g, cap, cur, rfl, hbg, hcur, hcap, hcm, hsz, htk⟩
  · obtain rfl : l = [] := List.eq_nil_of_length_eq_zero hl0
    have HO : Hid ((w.alloc (.cells #[.int .i64 42, .int .i64 43] 3)).ownsRow base 3 1 (.slice none 0 0) 0 []) := ⟨rfl, Or.inl ⟨rfl, rfl⟩⟩
    have HF : Hid (Fr [] w (w.alloc (.cells #[.int .i64 42, .int .i64 43] 3))) := Fr.of_below ((Below.refl _ w).alloc (Nat.le_refl _) _)
    clear h hl0 hb hn hln
    go_enter Tryz.func10, Tryz.ntmps10
    go_wp2_with fail
    go_loopg [2] 1 (fun gq x wr => gq = 1 ∧ x = .int .i64 0 ∧ wr = w)
    case atStart => exact ⟨rfl, rfl, rfl⟩
    case round =>
      obtain ⟨hg1, rfl, rfl⟩ := hrel
      clear hg1
      go_wp2_with (at_builtin; refine wpl_app _ rfl _ _ 23 rfl base 3 i0 (.int .i64 0) 1 8 Tryz.underlying23 hi hz0 hz1 hz2 rfl (by decide) (.slice none 0 0) 0 [] rfl HO.out (some ⟨wr.heap.size, 0, none⟩) 2 2 [.int .i64 42, .int .i64 43] rfl rfl (fun e => by cases e) (fun ad e => by cases e; exact cell_two wr _ _ _) (by intro u hu; simp only [List.mem_cons, List.not_mem_nil, or_false] at hu; rcases hu with rfl | rfl <;> rfl) ?c3 ?c4 (Nat.le_trans HBs.out HF.out.size) ?_)
      case c3 => unfold maxLen; omega
      case c4 => omega
      intro v1 w2 ho1 hgr hd
      obtain ⟨g1, c1, rfl, hc1, _⟩ := own_some ho1 (by omega)
      have hfz := (own_putI (k := 0) (x := 44) (l := [42, 43]) ho1).2
      obtain ⟨g', o', e', _, hce⟩ := vals_of ho1 0 _ rfl
      cases e'
      have HE : Hid (Fr [] wr (w2.setCell ⟨g1, 0, none⟩ (.int .i64 44))) := spoil_fr HF.out (fun g e => by cases e) hgr rfl (hd.imp id fun e => by rw [e]; simp) _
      clear hgr hd ho1
      go_wp2_with fail
      go_end0
      exact ⟨rfl, HE.out⟩
  · have HC : Hid (w.ownsRow base 3 1 (.slice (some ⟨g, 0, none⟩) l.length cap) l.length (iv l)) := h
    have hcap' : l.length ≤ cap := hcap
    clear h hb hn hbg hcur hcap hcm hsz htk
    go_enter Tryz.func10, Tryz.ntmps10
    go_wp2_with fail
    go_loopg [2] l.length (fun gq x wr => ∃ (k : Nat) (l' : List Int), k + gq = l.length ∧ l'.length = l.length ∧ x = .int .i64 (k : Int) ∧ wr.ownsRow base 3 1 (.slice (some ⟨g, 0, none⟩) l.length cap) l.length (iv l') ∧ Fr [g] w wr)
    case atStart => exact ⟨0, l, by omega, rfl, rfl, HC.out, Fr.refl _ _⟩
    case round =>
      obtain ⟨k, l', hkg, hll, rfl, ho, hFr⟩ := hrel
      have HG : Hid (k + gk = l.length ∧ l'.length = l.length ∧ wr.ownsRow base 3 1 (.slice (some ⟨g, 0, none⟩) l.length cap) l.length (iv l') ∧ Fr [g] w wr) := ⟨hkg, hll, ho, hFr⟩
      by_cases hlt : k < l.length
      · have hk' : (k : Int) < (l.length : Int) := by omega
        obtain ⟨g', o', e', _, hce⟩ := vals_of ho k (.int .i64 (l'[k]'(by omega))) (by rw [List.getElem?_map, List.getElem?_eq_getElem (by omega)]; rfl)
        cases e'
        rw [Nat.zero_add] at hce
        obtain ⟨ho2, hfz⟩ := own_putI (k := k) (x := -41) ho
        have HS2 : Hid ((wr.setCell ⟨g, k, none⟩ (.int .i64 (-41))).ownsRow base 3 1 (.slice (some ⟨g, 0, none⟩) l.length cap) l.length (iv (l'.set k (-41))) ∧ Fr [g] w (wr.setCell ⟨g, k, none⟩ (.int .i64 (-41)))) := ⟨ho2, hFr.trans (Fr.set (F := [g]) wr k _ (by simp)) (fun x hx => Or.inl hx)⟩
        have HLt : Hid (k < l.length) := hlt
        generalize l'[k]'(by omega) = old at hce
        clear hkg hll ho ho2 hFr hlt
        go_wp2_with fail
        go_roundg (l.length - (k + 1))
        case measure => have := HG.out.1; have := HLt.out; omega
        case rel => exact ⟨k + 1, l'.set k (-41), by have := HLt.out; omega, by simpa using HG.out.2.1, by go_num, HS2.out.1, HS2.out.2⟩
      · have hk' : decide (k < l.length) = false := decide_eq_false hlt
        have hk2 : decide ((k : Int) < (l.length : Int)) = false := decide_eq_false (by omega)
        have hb3 : Below wr.heap.size wr (wr.alloc (.cells #[.int .i64 42, .int .i64 43] 3)) := (Below.refl _ wr).alloc (Nat.le_refl _) _
        have HO : Hid ((wr.alloc (.cells #[.int .i64 42, .int .i64 43] 3)).ownsRow base 3 1 (.slice (some ⟨g, 0, none⟩) l.length cap) l.length (iv l')) := own_below ho hb3
        have HF : Hid (Fr [g] w (wr.alloc (.cells #[.int .i64 42, .int .i64 43] 3))) := hFr.trans (Fr.of_below (F := [g]) hb3) (fun x hx => Or.inl hx)
        clear hkg hll ho hFr hlt hb3
        go_wp2_with (at_builtin; refine wpl_app _ rfl _ _ 23 rfl base 3 i0 (.int .i64 0) 1 8 Tryz.underlying23 hi hz0 hz1 hz2 rfl (by decide) (.slice (some ⟨g, 0, none⟩) l.length cap) l.length (iv l') rfl HO.out (some ⟨wr.heap.size, 0, none⟩) 2 2 [.int .i64 42, .int .i64 43] rfl rfl (fun e => by cases e) (fun ad e => by cases e; exact cell_two wr _ _ _) (by intro u hu; simp only [List.mem_cons, List.not_mem_nil, or_false] at hu; rcases hu with rfl | rfl <;> rfl) ?c3 ?c4 (Nat.le_trans HBs.out HF.out.size) ?_)
        case c3 => unfold maxLen; omega
        case c4 => omega
        intro v1 w2 ho1 hgr hd
        obtain ⟨g1, c1, rfl, hc1, _⟩ := own_some ho1 (by omega)
        have hfz : w2.frozen? ⟨g1, 0, none⟩ = false := (own_putI (k := 0) (x := 44) (l := l' ++ [42, 43]) (by simpa [iv] using ho1)).2
        obtain ⟨old, hold⟩ : ∃ o : Value, (iv l' ++ [.int .i64 42, .int .i64 43])[0]? = some o := by cases l' <;> exact ⟨_, rfl⟩
        obtain ⟨g', o', e', _, hce⟩ := vals_of ho1 0 _ hold
        cases e'
        have hln0 : (0 : Int) < (l.length : Int) + 2 := by omega
        have HE : Hid (Fr [g] w (w2.setCell ⟨g1, 0, none⟩ (.int .i64 44))) := spoil_fr HF.out (fun g' e => by cases e; simp) hgr rfl (hd.imp id fun e => by rw [e]; simp) _
        clear hgr hd ho1 hold
        go_wp2_with fail
        go_end0
        exact ⟨rfl, HE.out⟩
end Go.Proofs.YtnpdblcfhbamiaaGreat.Nm.Ty
set_option linter.unusedSimpArgs false
namespace Go.Proofs.YtnpdblcfhbamiaaGreat.Nm.Ty
open Go.RowKit Go.Maps Go.Proofs.YtnpdblcfhbamiaaGreat.Sp Go.Proofs.YtnpdblcfhbamiaaGreat.Lx Go.Proofs.YtnpdblcfhbamiaaGreat.Gr Go.Proofs.YtnpdblcfhbamiaaGreat.Nm
theorem nats_ivO {w : World} {uo : Option Addr} {us : List Nat} (h : IsNats w uo us) : IsVals w uo (iv (us.map fun n : Nat => (n : Int))) := fun k x hx => by
  simp only [iv, List.map_map, List.getElem?_map] at hx
  cases hu : us[k]? with
  | none => rw [hu] at hx; cases hx
  | some u =>
    rw [hu] at hx
    cases hx
    exact h k u hu
/-- a policy that was told can be read -/
theorem told_rdO {w : World} {base : Nat} {v : Value} {p : Pl} (h : IsPl w base v p) : ∃ ao qo vo tto uo oo ac qc vc tc uc oc, v = pvG p.g ao qo vo tto uo oo ac qc vc tc uc oc ∧ (ao = none → ac = 0) ∧ RdG w p.g ao qo vo tto uo oo := by
  obtain ⟨rb, qo, vo, tto, uo, oo, ac, qc, vc, tc, uc, oc, hv0, hrw, hrd, hnat, huc⟩ := h.rd
  refine ⟨some ⟨rb, 0, none⟩, qo, vo, tto, uo, oo, ac, qc, vc, tc, uc, oc, ?_, nofun, ⟨hrd.r, hrd.q, hrd.v, hrd.t, nats_ivO hnat, hrd.o⟩⟩
  rw [hv0]
  simp [pv, pvG, Pl.g]
/-- the law at work: its boxes; all that was when the policy had been told is as it was -/
structure Zo (w3 W : World) (pc : Array Value) (fe fa : Int) : Prop where
  p : W.heap[w3.heap.size]? = some (.cells pc 30 (0, 0))
  f : W.heap[w3.heap.size + 1]? = some (.cells #[.int .i64 fe, .int .i64 fa] 33 (0, 0))
  be : Below w3.heap.size w3 W
theorem Zo.below {w3 W W' : World} {pc : Array Value} {fe fa : Int} (h : Zo w3 W pc fe fa) (hb : Below W.heap.size W W') : Zo w3 W' pc fe fa := ⟨(hb.block _ (blk_lt h.p)).trans h.p, (hb.block _ (blk_lt h.f)).trans h.f, h.be.trans (hb.mono h.be.size)⟩
theorem Zo.put {w3 W : World} {pc : Array Value} {fe fa : Int} (h : Zo w3 W pc fe fa) (e a : Int) : Zo w3 ((W.setCell ⟨w3.heap.size + 1, 0, none⟩ (.int .i64 e)).setCell ⟨w3.heap.size + 1, 1, none⟩ (.int .i64 a)) pc e a ∧ ∀ k, k ≠ w3.heap.size + 1 → ((W.setCell ⟨w3.heap.size + 1, 0, none⟩ (.int .i64 e)).setCell ⟨w3.heap.size + 1, 1, none⟩ (.int .i64 a)).heap[k]? = W.heap[k]? := by
  obtain ⟨c1, c2, c3⟩ := put2M (v0 := .int .i64 e) (v1 := .int .i64 a) h.be (Nat.le_succ _) h.f
  exact ⟨⟨(c3 _ (by omega)).trans h.p, c1, c2⟩, c3⟩
/-- an append whose result is told as owned, with facts on the element's type in one -/
theorem wpl_ap1 {P : Program} (w : World) {ops : Array Oper} {rest : List Oper} {o : Oper} {a : Act} {Q : Exit → Act → World → Prop} (hgd : o.guard = none) (s x : Operand) (t : TypeId)
    (ho : o.op = .call { callee := .builtin .append, args := #[s, x], argTypes := #[t, t] })
    {e : TypeId} {z : Value} {size bytes : Nat} (ht : P.underlying t = some (.slice e)) (hinfo : (P.info? e).map (fun i => (i.zero, i.size, i.bytes)) = some (some z, size, bytes)) (hzs : z.cells.size = size) (hsz : 0 < size)
    {base : Nat} {v : Value} {n : Nat} {xs : List Value} (hs : a.eval s = v) (hown : w.ownsRow base e size v n xs) (hbase : base ≤ w.heap.size)
    {b2 m c : Nat} {ao : Option Addr} {news : List Value} (hx : a.eval x = .slice ao m c) (hxo : w.ownsRow b2 e size (.slice ao m c) m news) (h1 : ∀ u ∈ news, u.oneCell' = true)
    (h63 : n + m ≤ maxLen) (hbytes : (n + m) * bytes ≤ 140737488355328)
    (h : ∀ v' w', w'.ownsRow base e size v' (n + m) (xs ++ news) → w.grownBy w' v.ownBlock → (v'.ownBlock = v.ownBlock ∨ v'.ownBlock = some w.heap.size) → wpList P ops Q rest (a.put o.dst v') w') : wpList P ops Q (o :: rest) a w := by
  obtain ⟨i, hi, hz0, hz1, hz2⟩ := info_parts hinfo
  refine wpl_app w hgd s x t ho base e i z size bytes ht hi hz0 hz1 hz2 hzs hsz v n xs hs hown ao m c news hx hxo.1 (fun e0 => ?_) (vals_src (vals_of hxo)) h1 h63 hbytes hbase h
  rcases hxo.2 with ⟨e1, e2⟩ | ⟨g, cap, cur, e1, _⟩
  · cases e1; exact ⟨rfl, rfl⟩
  · rw [e0] at e1; cases e1
theorem step_ap1 {P : Program} (w : World) {ops : Array Oper} {o : Oper} {a : Act} {K : Act → World → Prop} {Q : Exit → Act → World → Prop} {F : Prop} (hgd : o.guard = none) (s x : Operand) (t : TypeId)
    (ho : o.op = .call { callee := .builtin .append, args := #[s, x], argTypes := #[t, t] })
    {e : TypeId} {z : Value} {size bytes : Nat} (ht : P.underlying t = some (.slice e)) (hinfo : (P.info? e).map (fun i => (i.zero, i.size, i.bytes)) = some (some z, size, bytes)) (hzs : z.cells.size = size) (hsz : 0 < size)
    {base : Nat} {v : Value} {n : Nat} {xs : List Value} (hs : a.eval s = v) (hown : w.ownsRow base e size v n xs) (hbase : base ≤ w.heap.size)
    {b2 m c : Nat} {ao : Option Addr} {news : List Value} (hx : a.eval x = .slice ao m c) (hxo : w.ownsRow b2 e size (.slice ao m c) m news) (h1 : ∀ u ∈ news, u.oneCell' = true)
    (h63 : n + m ≤ maxLen) (hbytes : (n + m) * bytes ≤ 140737488355328)
    (h : ∀ v' w', w'.ownsRow base e size v' (n + m) (xs ++ news) → w.grownBy w' v.ownBlock → (v'.ownBlock = v.ownBlock ∨ v'.ownBlock = some w.heap.size) → K (a.put o.dst v') w') : if Region.wanted o (yielded ops a.tmps) = true then Oper.wp P o a w K Q else F := by
  obtain ⟨i, hi, hz0, hz1, hz2⟩ := info_parts hinfo
  refine step_app w hgd s x t ho base e i z size bytes ht hi hz0 hz1 hz2 hzs hsz v n xs hs hown ao m c news hx hxo.1 (fun e0 => ?_) (vals_src (vals_of hxo)) h1 h63 hbytes hbase h
  rcases hxo.2 with ⟨e1, e2⟩ | ⟨g, cap, cur, e1, _⟩
  · cases e1; exact ⟨rfl, rfl⟩
  · rw [e0] at e1; cases e1
theorem vC_oneO (l : List (Int × Int × Int)) : ∀ u ∈ vC l, u.oneCell' = true := fun u hu => by
  unfold vC at hu
  obtain ⟨x, -, hx⟩ := List.mem_flatMap.1 hu
  simp only [List.mem_cons, List.not_mem_nil, or_false] at hx
  rcases hx with rfl | rfl | rfl <;> rfl
theorem fr_bel {F : List Nat} {n : Nat} {w w' : World} (h : Fr F w w') (hF : ∀ k ∈ F, n ≤ k) (hn : n ≤ w.heap.size) : Below n w w' := ⟨h.os, h.tape, h.output, h.size, fun k hk => h.block k (by omega) (fun hm => by have := hF k hm; omega)⟩
theorem toL_mem {v : Value} {k : Nat} (h : k ∈ v.ownBlock.toList) : v.ownBlock = some k := by
  cases hv : v.ownBlock with
  | none => rw [hv] at h; cases h
  | some r => rw [hv] at h; simp at h; rw [h]
theorem vC_setO (l : List (Int × Int × Int)) (k : Nat) (x : Int × Int × Int) : (((vC l).set (k * 3) (.int .i64 x.1)).set (k * 3 + 1) (.int .i64 x.2.1)).set (k * 3 + 2) (.int .i64 x.2.2) = vC (l.set k x) := by
  induction l generalizing k with
  | nil => rfl
  | cons y l ih =>
    have e : vC (y :: l) = .int .i64 y.1 :: .int .i64 y.2.1 :: .int .i64 y.2.2 :: vC l := rfl
    rw [e]
    cases k with
    | zero => rfl
    | succ k =>
      have e2 : vC ((y :: l).set (k + 1) x) = .int .i64 y.1 :: .int .i64 y.2.1 :: .int .i64 y.2.2 :: vC (l.set k x) := rfl
      rw [e2, ← ih k, show (k + 1) * 3 = k * 3 + 1 + 1 + 1 by omega]
      rfl
theorem Ap.set3 {w : World} {pb j g n c b k : Nat} {T : TypeId} {l : List (Int × Int × Int)} {E : Nat → Option Ent} (x : Int × Int × Int) (h : Ap w pb E) (hx : E j = some ⟨b, T, 3, .slice (some ⟨g, 0, none⟩) n c, n, vC l⟩) : Ap (((w.setCell ⟨g, k * 3, none⟩ (.int .i64 x.1)).setCell ⟨g, k * 3 + 1, none⟩ (.int .i64 x.2.1)).setCell ⟨g, k * 3 + 2, none⟩ (.int .i64 x.2.2)) pb (up E j (some ⟨b, T, 3, .slice (some ⟨g, 0, none⟩) n c, n, vC (l.set k x)⟩)) := by
  have h1 := h.setC hx (k * 3) (.int .i64 x.1)
  have h2 := h1.setC (up_same _ _ _) (k * 3 + 1) (.int .i64 x.2.1)
  have h3 := h2.setC (up_same _ _ _) (k * 3 + 2) (.int .i64 x.2.2)
  rw [up_up, up_up, vC_setO] at h3
  exact h3
/-- a list is spoilt: it is struck, the others stay -/
theorem Ap.spoil {w w' : World} {pb j : Nat} {x : Ent} {E : Nat → Option Ent} (h : Ap w pb E) (hx : E j = some x) (hF : Fr x.v.ownBlock.toList w w') : Ap w' pb (fun i => if i = j then none else E i) := by
  refine ⟨fun i y hy => ?_, fun i k y z hik hy hz => ?_⟩
  · by_cases e : i = j
    · rw [if_pos e] at hy; cases hy
    · rw [if_neg e] at hy
      refine ⟨(h.ow i y hy).1, own_kb (h.ow i y hy).2 fun q hq => hF.block q (World.ownsRow.lt (h.ow i y hy).2 q hq).2 (fun hm => ?_)⟩
      have h2 : x.v.ownBlock = some q := by
        cases hv : x.v.ownBlock with
        | none => rw [hv] at hm; cases hm
        | some r => rw [hv] at hm; simp at hm; rw [hm]
      exact h.ap i j y x e hy hx q hq h2
  · by_cases e : i = j
    · rw [if_pos e] at hy; cases hy
    · rw [if_neg e] at hy
      by_cases e2 : k = j
      · rw [if_pos e2] at hz; cases hz
      · rw [if_neg e2] at hz
        exact h.ap i k y z hik hy hz
theorem own_atO {w : World} {base n c : Nat} {T : TypeId} {sz : Nat} {o : Option Addr} {xs : List Value} (h : w.ownsRow base T sz (.slice o n c) n xs) (hn : 0 < n) : ∃ g, o = some ⟨g, 0, none⟩ := by
  rcases h.2 with ⟨_, e2⟩ | ⟨g, cap, cur, e1, _⟩
  · omega
  · injection e1 with e1 _ _
    exact ⟨g, e1⟩
theorem spoil_ap {w : World} {pb j b : Nat} {l : List Int} {v : Value} {E : Nat → Option Ent} (h : Ap w pb E) (hx : E j = some ⟨b, 3, 1, v, l.length, iv l⟩) (hp : pb < w.heap.size) (hn : l.length ≤ 17592186043904) :
    Calls Tryz.prog 10 #[v] w fun e w' => e = .returned (.tuple #[]) ∧ Below (pb + 1) w w' ∧ Ap w' pb (fun i => if i = j then none else E i) := by
  obtain ⟨b', hb', hA⟩ := h.base hx hp
  have ho := (hA.ow j _ (up_same _ _ _))
  refine (spoil17 ho.2 hb' hn).mono ?_
  rintro e w' ⟨rfl, hF⟩
  refine ⟨rfl, fr_bel hF (fun k hk => ?_) (by omega), h.spoil hx hF⟩
  have h1 := (World.ownsRow.lt ho.2 k (toL_mem hk)).1
  have h2 : pb < b' := ho.1
  omega
end Go.Proofs.YtnpdblcfhbamiaaGreat.Nm.Ty
namespace Go.Proofs.YtnpdblcfhbamiaaGreat.Nm.Ty
open Go.RowKit Go.Maps Go.Proofs.YtnpdblcfhbamiaaGreat.Sp Go.Proofs.YtnpdblcfhbamiaaGreat.Lx Go.Proofs.YtnpdblcfhbamiaaGreat.Gr Go.Proofs.YtnpdblcfhbamiaaGreat.Nm
/-- copy of elements of several cells, into a row that is known -/
theorem run_copyS {P : Program} (w : World) (dT sT ty elem : TypeId) (i : TypeInfo) (hq : P.info? elem = some i) (g o dLen dCap : Nat) (a : Addr) (sLen sCap k : Nat) (hk : Nat.min sLen dLen = k) (cur : List Value) (t : TypeId) (cs : List Value)
    (hu : P.underlying dT = some (.slice elem))
    (hg : w.heap[g]? = some (.cells cur.toArray t (0, 0))) (hn : cs.length = k * i.size)
    (hsrc : ∀ j v, cs[j]? = some v → w.cell? (a.add j) = some v) (hfit : o + cs.length ≤ cur.length) (h1 : ∀ v ∈ cs, v.oneCell' = true) :
    (Builtin.copy_ #[dT, sT] ty #[.slice (some ⟨g, o, none⟩) dLen dCap, .slice (some a) sLen sCap]).run P w = .ok (goInt k) (w.setRow g (splice cur o cs).toArray) := by
  have hl := run_loadCells_list (P := P) w a cs hsrc
  have hst := run_storeCells_at P g o t cs 0 cur.toArray w hg (by simpa using hfit) h1
  simp only [Nat.add_zero] at hst
  simp [Builtin.copy_, run_underlying hu, Builtin.lenOf, Builtin.firstCells, sizeOf, typeInfo, hq, hk, ← hn, hl, hst, splice]
/-- make of n elements of any size -/
theorem mk_gen {t e : TypeId} {i : TypeInfo} {z : Value} {size bytes : Nat} (ht : Tryz.prog.underlying t = some (.slice e)) (hi : Tryz.prog.info? e = some i) (hz : i.zero = some z) (hsize : i.size = size) (hby : i.bytes = bytes) (n : Nat) (hn : (bytes : Int) * n ≤ 281474976710656) (hn2 : n ≤ 140737488355328) :
    ∃ M : List Value, M.length = n * size ∧ ∀ u : World, (Instr.makeSlice t (.int .i64 (n : Int)) (.int .i64 (n : Int))).run Tryz.prog u = .ok (.slice (some ⟨u.heap.size, 0, none⟩) n n) (u.alloc (.cells M.toArray e)) := by
  refine ⟨(madeCells z.cells (n * size)).toList, by rw [Array.length_toList, size_madeCells], fun u => ?_⟩
  have h := run_make (P := Tryz.prog) u t e i z ht hi hz .i64 .i64 (n : Int) (n : Int) (by omega) (Int.le_refl _) (by rw [hby]; exact hn) (by omega)
  rw [hsize] at h
  rw [h]
  simp only [Int.toNat_natCast, Array.toArray_toList]
/-- copy of a slice that may be nil into a row that was made just now: elements of any size -/
theorem copied_gen {t e : TypeId} {i : TypeInfo} {size : Nat} (ht : Tryz.prog.underlying t = some (.slice e)) (hi : Tryz.prog.info? e = some i) (hsize : i.size = size) (hpos : 0 < size) (ao : Option Addr) (n k cap : Nat) (w : World) (M xs : List Value) (hM : M.length = (n + k) * size) (h : IsVals w ao xs) (hl : xs.length = n * size) (h1 : ∀ u ∈ xs, u.oneCell' = true) (ty : TypeId) :
    ∃ W2, (Builtin.copy_ #[t, t] ty #[.slice (some ⟨w.heap.size, 0, none⟩) (n + k) (n + k), .slice ao n cap]).run Tryz.prog (w.alloc (.cells M.toArray e)) = .ok (goInt n) W2 ∧
      W2.heap[w.heap.size]? = some (.cells (xs ++ M.drop (n * size)).toArray e (0, 0)) ∧ Below w.heap.size w W2 ∧ W2.heap.size = w.heap.size + 1 := by
  have hB : Below w.heap.size w (w.alloc (.cells M.toArray e)) := (Below.refl _ w).alloc (Nat.le_refl _) _
  by_cases h0 : n = 0
  · subst h0
    obtain rfl : xs = [] := List.eq_nil_of_length_eq_zero (by omega)
    refine ⟨w.alloc (.cells M.toArray e), ?_, ?_, hB, by simp⟩
    · simp [Builtin.copy_, run_underlying ht, Builtin.lenOf, Builtin.firstCells, sizeOf, typeInfo, hi]
      cases ao <;> simp [storeCells, loadCells, go_sem]
    · rw [heap_alloc_new]
      simp
  · cases ao with
    | none => exact absurd (vals_nil h hl hpos rfl) h0
    | some ad =>
      have hr := run_copyS (P := Tryz.prog) (w.alloc (.cells M.toArray e)) t t ty e i hi w.heap.size 0 (n + k) (n + k) ad n cap n (Nat.min_eq_left (by omega)) M e xs ht (heap_alloc_new w _) (by rw [hl, hsize]) (vals_src (h.below hB) ad rfl) (by rw [hl, hM, Nat.add_mul]; omega) h1
      refine ⟨_, hr, ?_, below_setRow hB (Nat.le_refl _) _, by simp [World.setRow]⟩
      have h5 := setRow_heap (w.alloc (.cells M.toArray e)) w.heap.size M.toArray (splice M 0 xs).toArray e (0, 0) (heap_alloc_new w _)
      rw [h5]
      simp [splice, hl]
/-- what was copied can be read -/
theorem copied_vals {W : World} {g : Nat} {e : TypeId} {xs ys : List Value} (h : W.heap[g]? = some (.cells (xs ++ ys).toArray e (0, 0))) : IsVals W (some ⟨g, 0, none⟩) xs := fun k x hx => by
  refine ⟨g, 0, rfl, (Array.getElem?_eq_some_iff.1 h).1, ?_⟩
  have hx' : (xs ++ ys)[k]? = some x := by rw [List.getElem?_append_left (List.getElem?_eq_some_iff.1 hx).1]; exact hx
  rw [Nat.zero_add, World.cell?, h]
  simpa using hx'
end Go.Proofs.YtnpdblcfhbamiaaGreat.Nm.Ty
