import Derived.Test.YtnpdblcfhbamiaaGreatK41
set_option maxHeartbeats 6400000
set_option maxRecDepth 100000
set_option linter.unusedSimpArgs false
namespace Go.Proofs.YtnpdblcfhbamiaaGreat.Nm.Ty
open Go.RowKit Go.Maps Go.Proofs.YtnpdblcfhbamiaaGreat.Sp Go.Proofs.YtnpdblcfhbamiaaGreat.Lx Go.Proofs.YtnpdblcfhbamiaaGreat.Gr Go.Proofs.YtnpdblcfhbamiaaGreat.Nm
theorem own_blk {W : World} {base g m sz : Nat} {T : TypeId} {xs : List Value} (h : W.ownsRow base T sz (.slice (some ⟨g, 0, none⟩) m m) m xs) : W.heap[g]? = some (.cells xs.toArray T (0, 0)) ∧ base ≤ g ∧ g < W.heap.size := by
  obtain ⟨hx, h1⟩ := h
  rcases h1 with ⟨e, _⟩ | ⟨g', cap, cur, e, h2, h3, h4, h5, h6, h7⟩
  · cases e
  · cases e
    have e1 : cur = xs.toArray := by
      apply Array.toList_inj.1
      rw [← h7, ← h6]
      exact (List.take_of_length_le (by simp)).symm
    rw [e1] at h3
    exact ⟨h3, h2, blk_lt h3⟩
/-- a policy that was lent: its blocks -/
structure Lb8 (w : World) (base : Nat) (p : Pg) (g gq gv gt gu go : Nat) : Prop where
  r : RowZ w g (fillL p.rows 9)
  q : w.heap[gq]? = some (.cells (qF (p.qs ++ List.replicate 3 qz0)).toArray 115 (0, 0))
  v : w.heap[gv]? = some (.cells ((p.vs ++ List.replicate 3 (⟨#[]⟩ : ByteArray)).map Value.string).toArray 9 (0, 0))
  t : w.heap[gt]? = some (.cells ((p.ts ++ List.replicate 3 (⟨#[]⟩ : ByteArray)).map Value.string).toArray 9 (0, 0))
  u : RowJ w gu (fillI p.us 5)
  o : RowJ w go (fillI p.on 5)
  n : base ≤ g ∧ base ≤ gq ∧ base ≤ gv ∧ base ≤ gt ∧ base ≤ gu ∧ base ≤ go
  d : (g ≠ gq ∧ g ≠ gv ∧ g ≠ gt ∧ g ≠ gu ∧ g ≠ go) ∧ (gq ≠ gv ∧ gq ≠ gt ∧ gq ≠ gu ∧ gq ≠ go) ∧ (gv ≠ gt ∧ gv ≠ gu ∧ gv ≠ go) ∧ (gt ≠ gu ∧ gt ≠ go) ∧ gu ≠ go
theorem lb_of {w : World} {base : Nat} {p : Pg} {g gq gv gt gu go : Nat} (h : Ls w base (los8 p g gq gv gt gu go)) : Lb8 w base p g gq gv gt gu go := by
  obtain ⟨ho, hd⟩ := h
  have h1 := own_blk (ho _ (List.mem_cons_self ..))
  have h2 := own_blk (ho _ (List.mem_cons_of_mem _ (List.mem_cons_self ..)))
  have h3 := own_blk (ho _ (List.mem_cons_of_mem _ (List.mem_cons_of_mem _ (List.mem_cons_self ..))))
  have h4 := own_blk (ho _ (List.mem_cons_of_mem _ (List.mem_cons_of_mem _ (List.mem_cons_of_mem _ (List.mem_cons_self ..)))))
  have h5 := own_blk (ho _ (List.mem_cons_of_mem _ (List.mem_cons_of_mem _ (List.mem_cons_of_mem _ (List.mem_cons_of_mem _ (List.mem_cons_self ..))))))
  have h6 := own_blk (ho _ (List.mem_cons_of_mem _ (List.mem_cons_of_mem _ (List.mem_cons_of_mem _ (List.mem_cons_of_mem _ (List.mem_cons_of_mem _ (List.mem_cons_self ..)))))))
  refine ⟨h1.1, h2.1, h3.1, h4.1, h5.1, h6.1, ⟨h1.2.1, h2.2.1, h3.2.1, h4.2.1, h5.2.1, h6.2.1⟩, ?_⟩
  simp [los8, Value.ownBlock] at hd
  omega
theorem Lb8.rd {w : World} {base : Nat} {p : Pg} {g gq gv gt gu go : Nat} (h : Lb8 w base p g gq gv gt gu go) : RdG w p (some ⟨g, 0, none⟩) (some ⟨gq, 0, none⟩) (some ⟨gv, 0, none⟩) (some ⟨gt, 0, none⟩) (some ⟨gu, 0, none⟩) (some ⟨go, 0, none⟩) :=
  ⟨RowZ.reads h.r, copied_vals (ys := qF (List.replicate 3 qz0)) (by rw [← qF_app]; exact h.q), copied_vals (ys := (List.replicate 3 (⟨#[]⟩ : ByteArray)).map Value.string) (by rw [← List.map_append]; exact h.v), copied_vals (ys := (List.replicate 3 (⟨#[]⟩ : ByteArray)).map Value.string) (by rw [← List.map_append]; exact h.t), RowJ.vals h.u, RowJ.vals h.o⟩
theorem Lb8.keep {w w' : World} {base : Nat} {p : Pg} {g gq gv gt gu go : Nat} (h : Lb8 w base p g gq gv gt gu go) (hk : ∀ k, k < w.heap.size → base ≤ k → w'.heap[k]? = w.heap[k]?) : Lb8 w' base p g gq gv gt gu go :=
  ⟨(hk _ h.r.lt h.n.1).trans h.r, (hk _ (blk_lt h.q) h.n.2.1).trans h.q, (hk _ (blk_lt h.v) h.n.2.2.1).trans h.v, (hk _ (blk_lt h.t) h.n.2.2.2.1).trans h.t, (hk _ h.u.lt h.n.2.2.2.2.1).trans h.u, (hk _ h.o.lt h.n.2.2.2.2.2).trans h.o, h.n, h.d⟩
theorem Lb8.below {w w' : World} {base : Nat} {p : Pg} {g gq gv gt gu go : Nat} (h : Lb8 w base p g gq gv gt gu go) (hb : Below w.heap.size w w') : Lb8 w' base p g gq gv gt gu go := h.keep fun k hk _ => hb.block k hk
theorem rz5_set2 (l : List Rz) (i : Nat) (r : Rz) (k n : Int) (h : l[i]? = some r) : (l.set i { r with kind := k, n := n }).flatMap rz5 = ((l.flatMap rz5).set (i * 5) (.int .i64 k)).set (i * 5 + 3) (.int .i64 n) := by
  induction l generalizing i with
  | nil => simp at h
  | cons y l ih =>
    cases i with
    | zero =>
      obtain rfl : y = r := by simpa using h
      rw [List.set_cons_zero, List.flatMap_cons, List.flatMap_cons]
      simp [rz5]
    | succ i =>
      rw [List.set_cons_succ, List.flatMap_cons, List.flatMap_cons, ih i (by simpa using h)]
      rw [show (i + 1) * 5 = i * 5 + 1 + 1 + 1 + 1 + 1 by omega, show i * 5 + 1 + 1 + 1 + 1 + 1 + 3 = (i * 5 + 3) + 1 + 1 + 1 + 1 + 1 by omega]
      simp only [rz5, List.cons_append, List.nil_append, List.set_cons_succ]
theorem RowZ.set2 {w : World} {g i : Nat} {l : List Rz} {r : Rz} (h : RowZ w g (fillL l 9)) (hi : l[i]? = some r) (k n : Int) : RowZ ((w.setCell ⟨g, i * 5, none⟩ (.int .i64 k)).setCell ⟨g, i * 5 + 3, none⟩ (.int .i64 n)) g (fillL (l.set i { r with kind := k, n := n }) 9) := by
  have h1 := heap_setCell_same w g (i * 5) _ _ (.int .i64 k) h
  have h2 := heap_setCell_same _ g (i * 5 + 3) _ _ (.int .i64 n) h1
  have hlt : i < l.length := (List.getElem?_eq_some_iff.1 hi).1
  have hf : (fillL l 9)[i]? = some r := by unfold fillL; rw [List.getElem?_append_left hlt]; exact hi
  have he : fillL (l.set i { r with kind := k, n := n }) 9 = (fillL l 9).set i { r with kind := k, n := n } := by
    unfold fillL
    rw [List.set_append_left _ _ hlt, List.length_set]
  unfold RowZ
  rw [h2, he, rz5_set2 _ _ _ _ _ hf]
  simp
theorem RowZ.c3 {w : World} {g i : Nat} {l : List Rz} {r : Rz} (h : RowZ w g (fillL l 9)) (hi : l[i]? = some r) (v : Value) : (w.setCell ⟨g, i * 5, none⟩ v).cell? ⟨g, i * 5 + 3, none⟩ = some (.int .i64 r.n) ∧ ∀ j, (w.setCell ⟨g, i * 5, none⟩ v).frozen? ⟨g, j, none⟩ = false := by
  have h1 := heap_setCell_same w g (i * 5) _ _ v h
  have hlt : i < l.length := (List.getElem?_eq_some_iff.1 hi).1
  have hf : (fillL l 9)[i]? = some r := by unfold fillL; rw [List.getElem?_append_left hlt]; exact hi
  have h2 := h.cell hf 3 (by omega)
  refine ⟨?_, fun j => zr8f h1 j⟩
  rw [World.cell?, h] at h2
  rw [World.cell?, h1]
  show (Array.setIfInBounds _ _ _)[i * 5 + 3]? = _
  rw [Array.getElem?_setIfInBounds_ne (by omega)]
  exact h2
theorem RowZ.at0 {w : World} {g i : Nat} {l : List Rz} {r : Rz} (h : RowZ w g (fillL l 9)) (hi : l[i]? = some r) : w.cell? ⟨g, i * 5, none⟩ = some (.int .i64 r.kind) := by
  have hlt : i < l.length := (List.getElem?_eq_some_iff.1 hi).1
  exact (h.cells (r := r) (by unfold fillL; rw [List.getElem?_append_left hlt]; exact hi)).1
/-- a row of what was lent is turned -/
theorem Lb8.row {w : World} {base i g gq gv gt gu go : Nat} {P : Pg} {rk : List Rz} {r : Rz} (h : Lb8 w base { P with rows := rk } g gq gv gt gu go) (hi : rk[i]? = some r) (k n : Int) : Lb8 ((w.setCell ⟨g, i * 5, none⟩ (.int .i64 k)).setCell ⟨g, i * 5 + 3, none⟩ (.int .i64 n)) base { P with rows := rk.set i { r with kind := k, n := n } } g gq gv gt gu go := by
  have hd := h.d
  have hne : ∀ q, q ≠ g → ((w.setCell ⟨g, i * 5, none⟩ (.int .i64 k)).setCell ⟨g, i * 5 + 3, none⟩ (.int .i64 n)).heap[q]? = w.heap[q]? := fun q hq => by
    rw [Below.heap_setCell _ _ _ _ (fun e => hq e), Below.heap_setCell _ _ _ _ (fun e => hq e)]
  exact ⟨h.r.set2 hi k n, (hne _ (by omega)).trans h.q, (hne _ (by omega)).trans h.v, (hne _ (by omega)).trans h.t, (hne _ (by omega)).trans h.u, (hne _ (by omega)).trans h.o, h.n, h.d⟩
theorem res_few {l : List Rz} {p : Pl} (h : res l = .ok p) : p.g.vs.length ≤ 16 ∧ p.g.ts.length ≤ 4 := by
  unfold res at h
  split at h
  · cases h
  · rename_i hc
    have hB := base_of (chk_ok (by simpa using hc)).2
    unfold resR at h
    split at h
    · cases h
    · rename_i s hs
      have hg := upto_good hB _ (Nat.le_refl _) hs
      split at h
      · cases h
      · cases h
        exact ⟨hg.v, hg.t⟩
/-- a policy with other rows is as long -/
theorem Pg.Sm.rows {P : Pg} {rk : List Rz} (h : P.Sm) (hl : rk.length = P.rows.length) : ({ P with rows := rk } : Pg).Sm := ⟨by show rk.length ≤ _; rw [hl]; exact h.r, h.q, h.v, h.t, h.u, h.o⟩
end Go.Proofs.YtnpdblcfhbamiaaGreat.Nm.Ty
namespace Go.Proofs.YtnpdblcfhbamiaaGreat.Nm.Ty
open Go.RowKit Go.Maps Go.Proofs.YtnpdblcfhbamiaaGreat.Sp Go.Proofs.YtnpdblcfhbamiaaGreat.Lx Go.Proofs.YtnpdblcfhbamiaaGreat.Gr
/-- is one of the first k changing -/
def anyC (f : Nat → Prt) : Nat → Bool
  | 0 => false
  | k + 1 => anyC f k || (f k).changing
theorem anyC_of {f : Nat → Prt} {k n : Nat} (h : anyC f k = true) (hk : k ≤ n) : anyC f n = true := by
  induction n with
  | zero =>
    obtain rfl : k = 0 := by omega
    exact h
  | succ n ih =>
    by_cases e : k = n + 1
    · subst e; exact h
    · simp only [anyC, ih (by omega), Bool.true_or]
theorem indexF_any {f : Nat → Prt} {so : Option Addr} {n sc : Nat} {w : World} (h : IsVals w so (fL n (fun i => (f i).V))) (hn : n ≤ 2932031007317) :
    Calls Tryz.prog 71 #[.slice so n sc, .func (.func 54) #[] #[]] w fun e w' => ∃ z : Int, e = .returned (.int .i64 z) ∧ decide (0 ≤ z) = anyC f n ∧ Below w.heap.size w w' := by
  have HI : Hid (IsVals w so (fL n (fun i => (f i).V))) := h
  have hnl : (n : Int) ≤ 2932031007317 := by omega
  clear h
  go_enter Tryz.func71, Tryz.ntmps71
  go_wp2_with fail
  go_loopg [8] n (fun gq x wr => ∃ m : Nat, m ≤ n ∧ gq = n - m ∧ x = .int .i64 m ∧ anyC f m = false ∧ Below w.heap.size w wr)
  case atStart => exact ⟨0, Nat.zero_le _, rfl, by go_num, rfl, Below.refl _ _⟩
  case round =>
    obtain ⟨m, hm, hgk, rfl, hno, hB⟩ := hrel
    have HB := show Hid _ from hB
    have HNo : Hid (anyC f m = false) := hno
    have HG : Hid (gk = n - m) := hgk
    clear hgk hB hno
    by_cases hlt : m < n
    · have hlt' : (m : Int) < (n : Int) := by omega
      obtain ⟨g, o, rfl, hg, c0⟩ := (IsVals.below HI.out HB.out) m _ (fL_at hlt)
      have HC := show Hid _ from changing_any (f m) wr
      have HA : Hid (anyC f (m + 1) = (f m).changing) := by show (anyC f m || (f m).changing) = _; rw [HNo.out]; rfl
      have HT : Hid ((f m).changing = true → anyC f n = true) := fun hc => anyC_of (k := m + 1) (by rw [HA.out]; exact hc) (by omega)
      generalize hx : f m = x at *
      clear hx
      go_wp2_with fail
      refine Calls.mono HC.out ?_
      rintro e w2 ⟨rfl, hb2⟩
      have HB2 : Hid (Below w.heap.size w w2) := HB.out.trans (hb2.mono HB.out.size)
      clear hb2 HC
      cases hc : x.changing with
      | true =>
        have HT2 := show Hid _ from HT.out hc
        clear hc HT
        go_wp2_with fail
        go_ret
        exact ⟨(m : Int), rfl, by rw [HT2.out]; simp, HB2.out⟩
      | false =>
        have HN2 : Hid (anyC f (m + 1) = false) := by show _ = _; rw [HA.out]; exact hc
        clear hc HT
        go_wp2_with fail
        go_roundg (n - (m + 1))
        case measure => have := HG.out; omega
        case rel => exact ⟨m + 1, by omega, rfl, by go_num, HN2.out, HB2.out⟩
    · have hlt' : ¬ (m : Int) < (n : Int) := by omega
      have hme : m = n := by omega
      have HF : Hid (anyC f n = false) := by rw [hme] at HNo; exact HNo
      clear hme hlt
      go_wp2_with fail
      go_ret
      exact ⟨-1, rfl, by rw [HF.out]; rfl, HB.out⟩
theorem containsF_any {f : Nat → Prt} {so : Option Addr} {n sc : Nat} {w : World} (h : IsVals w so (fL n (fun i => (f i).V))) (hn : n ≤ 2932031007317) :
    Calls Tryz.prog 53 #[.slice so n sc, .func (.func 54) #[] #[]] w fun e w' => e = .returned (.bool (anyC f n)) ∧ Below w.heap.size w w' := by
  have HC := show Hid _ from indexF_any (sc := sc) h hn
  clear h hn
  go_enter Tryz.func53, Tryz.ntmps53
  go_wp2_with fail
  refine Calls.mono HC.out ?_
  rintro e w2 ⟨z, rfl, hz, hb2⟩
  have HZ := show Hid _ from hz
  have HB := show Hid _ from hb2
  clear hz hb2 HC
  go_wp2
  go_ret
  refine ⟨?_, HB.out⟩
  rw [← HZ.out]
  rfl
theorem vals_cut {w : World} {g o n i k : Nat} {f : Nat → Value} (h : IsVals w (some ⟨g, o, none⟩) (fL n f)) (hk : i + k ≤ n) : IsVals w (some ⟨g, o + i, none⟩) (fL k (fun j => f (i + j))) := fun j x hx => by
  have hj : j < k := by have := (List.getElem?_eq_some_iff.1 hx).1; simpa [fL] using this
  rw [fL_at hj] at hx
  cases hx
  obtain ⟨g', o', e, hg, hc⟩ := h (i + j) _ (fL_at (by omega))
  cases e
  exact ⟨g, o + i, rfl, hg, by rw [Nat.add_assoc]; exact hc⟩
theorem has_any {l : List Rz} {qv : List Value} {nq : Nat} {ao qo po eo : Option Addr} {ac qc pc ec : Nat} (i : Nat) {w : World} (h : IsRg w l qv ao qo po eo) (hn : l.length ≤ 2932031007317) (hT : TreeZ l) (hi : i < l.length) (hpc : l.length ≤ pc) :
    Calls Tryz.prog 31 #[.agg (rgC l nq ao qo po eo ac qc pc ec), .int .i64 i] w fun e w' => e = .returned (.bool (anyC (fun j => rP l (i + j)) (endp l i - i))) ∧ Below w.heap.size w w' := by
  have hb : Below w.heap.size w (w.alloc (.cells (rgC l nq ao qo po eo ac qc pc ec) 72)) := (Below.refl _ w).alloc (Nat.le_refl _) _
  have HI := show Hid _ from h.below hb
  have HB := show Hid _ from hb
  have HX := show Hid _ from heap_alloc_new w (.cells (rgC l nq ao qo po eo ac qc pc ec) 72)
  obtain ⟨gp, op, rfl, hgp, _⟩ := HI.out.part hi
  obtain ⟨ge, oe, rfl, hge, ce⟩ := HI.out.ends hi
  obtain ⟨b0, b1, b2, b3⟩ := cells4 HX.out
  obtain ⟨-, he1, he2⟩ := end_kid hT.whole hi
  have hi1 : (i : Int) < (l.length : Int) := by omega
  have hin : (i : Int) ≤ (endp l i : Int) := by omega
  have hen : (endp l i : Int) ≤ (l.length : Int) := by omega
  have hec : (endp l i : Int) ≤ (pc : Int) := by omega
  have hln : (l.length : Int) ≤ 2932031007317 := by omega
  have hnz : ¬ pc = i := by omega
  have hA : i ≤ endp l i := by omega
  have hBc : endp l i ≤ pc := by omega
  have hD1 : decide (i ≤ endp l i) = true := decide_eq_true hA
  have hD2 : decide (endp l i ≤ pc) = true := decide_eq_true hBc
  have hnz2 : ¬ pc - i = 0 := by omega
  have HCv : Hid (∀ W : World, Below (w.alloc (.cells (rgC l nq ao qo (some ⟨gp, op, none⟩) (some ⟨ge, oe, none⟩) ac qc pc ec) 72)).heap.size (w.alloc (.cells (rgC l nq ao qo (some ⟨gp, op, none⟩) (some ⟨ge, oe, none⟩) ac qc pc ec) 72)) W → Calls Tryz.prog 53 #[.slice (some ⟨gp, op + i, none⟩) (endp l i - i) (pc - i), .func (.func 54) #[] #[]] W fun e w' => e = .returned (.bool (anyC (fun j => rP l (i + j)) (endp l i - i))) ∧ Below W.heap.size W w') := fun W hW => containsF_any (f := fun j => rP l (i + j)) (vals_cut (HI.out.below hW).p (by omega)) (by omega)
  dsimp only [rgC] at *
  clear h hb hn hT
  generalize anyC (fun j => rP l (i + j)) (endp l i - i) = z at *
  generalize endp l i = en at *
  go_enter Tryz.func31, Tryz.ntmps31
  go_wp2_with fail
  generalize (w.alloc (.cells #[.slice ao l.length ac, .slice qo nq qc, .slice (some ⟨gp, op, none⟩) l.length pc, .slice (some ⟨ge, oe, none⟩) l.length ec] 72)) = w1 at *
  have hlt := blk_lt HX.out
  have y2 : ∀ y : Kin w1, y.u.cell? ⟨w.heap.size, 2, none⟩ = some (.slice (some ⟨gp, op, none⟩) l.length pc) := fun y => y.cell (a := ⟨w.heap.size, 2, none⟩) hlt b2
  have y3 : ∀ y : Kin w1, y.u.cell? ⟨w.heap.size, 3, none⟩ = some (.slice (some ⟨ge, oe, none⟩) l.length ec) := fun y => y.cell (a := ⟨w.heap.size, 3, none⟩) hlt b3
  have ye : ∀ y : Kin w1, y.u.cell? ⟨ge, oe + i, none⟩ = some (.int .i64 (en : Nat)) := fun y => y.cell (a := ⟨ge, oe + i, none⟩) hge ce
  have HC3 : Hid (∀ (y : Kin w1), Calls Tryz.prog 53 #[.slice (some ⟨gp, op + i, none⟩) (en - i) (pc - i), .func (.func 54) #[] #[]] y.u fun e w' => e = .returned (.bool z) ∧ Below y.u.heap.size y.u w') := fun y => HCv.out y.u y.ok
  clear HCv b0 b1 b2 b3 ce
  refine wp_region_kin (by kernel_rfl) (by kernel_rfl) ?_
  iterate 9 quiet_step (with_reducible rfl)
  quiet_step (first | with_reducible rfl | exact kin_of (HC3.out _))
  quiet_step (with_reducible rfl)
  refine wpQuiet_nil ?_
  rintro _ ⟨y, rfl⟩
  have HYk : Hid (Below w.heap.size w y.u) := HB.out.trans (y.ok.mono HB.out.size)
  clear y2 y3 ye HC3
  generalize y.u = w4 at *
  go_wp2
  go_ret
  exact ⟨rfl, HYk.out⟩
end Go.Proofs.YtnpdblcfhbamiaaGreat.Nm.Ty
