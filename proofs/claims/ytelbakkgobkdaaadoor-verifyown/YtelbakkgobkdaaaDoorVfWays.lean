import Derived.Test.YtelbakkgobkdaaaDoorVfLook
import Derived.Test.YtelbakkgobkdaaaDoorVfBehS
namespace Go.Proofs.YtelbakkgobkdaaaDoor.Vf
open Go.RowKit Go.Proofs.YtelbakkgobkdaaaDoor.Nm

/-- a way, as its cells -/
def wyC : Option (Int × Sd) → List Value
  | none => [.int .i64 0, .int .u64 0, .int .u64 0, .int .u64 0, .int .u64 0, .bool false, .int .i64 0, .int .i64 0, .int .i64 (-1)]
  | some (n, s) => [.int .i64 (s.ty.length : Int), .int .u64 (wd s.ty 0 : Int), .int .u64 (wd s.ty 1 : Int), .int .u64 (wd s.ty 2 : Int), .int .u64 (wd s.ty 3 : Int), .bool true, .int .i64 (s.hand : Int), .int .i64 s.turn, .int .i64 n]
def wysC (l : List (Int × Sd)) : List Value := wyC l[0]? ++ wyC l[1]?
theorem cells9 {W : World} {B : Nat} {v0 v1 v2 v3 v4 v5 v6 v7 v8 : Value} {T : TypeId} (h : W.heap[B]? = some (.cells #[v0, v1, v2, v3, v4, v5, v6, v7, v8] T (0, 0))) : W.cell? ⟨B, 0, none⟩ = some v0 ∧ W.cell? ⟨B, 1, none⟩ = some v1 ∧ W.cell? ⟨B, 2, none⟩ = some v2 ∧ W.cell? ⟨B, 3, none⟩ = some v3 ∧ W.cell? ⟨B, 4, none⟩ = some v4 ∧ W.cell? ⟨B, 5, none⟩ = some v5 ∧ W.cell? ⟨B, 6, none⟩ = some v6 ∧ W.cell? ⟨B, 7, none⟩ = some v7 ∧ W.cell? ⟨B, 8, none⟩ = some v8 :=
  ⟨cell_of (cs := [v0, v1, v2, v3, v4, v5, v6, v7, v8]) h rfl, cell_of (cs := [v0, v1, v2, v3, v4, v5, v6, v7, v8]) h rfl, cell_of (cs := [v0, v1, v2, v3, v4, v5, v6, v7, v8]) h rfl, cell_of (cs := [v0, v1, v2, v3, v4, v5, v6, v7, v8]) h rfl, cell_of (cs := [v0, v1, v2, v3, v4, v5, v6, v7, v8]) h rfl, cell_of (cs := [v0, v1, v2, v3, v4, v5, v6, v7, v8]) h rfl, cell_of (cs := [v0, v1, v2, v3, v4, v5, v6, v7, v8]) h rfl, cell_of (cs := [v0, v1, v2, v3, v4, v5, v6, v7, v8]) h rfl, cell_of (cs := [v0, v1, v2, v3, v4, v5, v6, v7, v8]) h rfl⟩
theorem step_store {P : Program} {w : World} {ops : Array Oper} {o : Oper} {a : Act} {K : Act → World → Prop} {Q : Exit → Act → World → Prop} {E : Prop} (hgd : o.guard = none) (ty : TypeId) (x y : Operand) (ho : o.op = .store ty x y)
    (g : Nat) (cells : Array Value) (hx : a.eval x = .pointer (some ⟨g, 0, none⟩)) (hy : a.eval y = .agg cells)
    (t : TypeId) (old : Array Value) (hg : w.heap[g]? = some (.cells old t (0, 0))) (hi : (P.info? ty).map (·.size) = some cells.size)
    (hold : old.size = cells.size) (h1 : cells.all (·.oneCell') = true)
    (h : K (a.put o.dst undef) (w.setRow g cells)) : if Region.wanted o (yielded ops a.tmps) = true then Oper.wp P o a w K Q else E := by
  have hw : Region.wanted o (yielded ops a.tmps) = true := by simp [Region.wanted, hgd]
  rw [if_pos hw]
  exact wp_store_row ty x y ho g cells hx hy t old hg hi hold h1 h
theorem al_old {w : World} {b : Nat} {o x : Obj} (h : w.heap[b]? = some o) : (w.alloc x).heap[b]? = some o := (((Below.refl _ w).alloc (Nat.le_refl _) x).block _ (blk_lt h)).trans h
theorem al_dr {w : World} {b : Nat} {o : Obj} (h : w.heap[b]? = some o) : w.drew.heap[b]? = some o := h
theorem si_fin {W0 X : World} {bs bi : Nat} {cs0 ci0 : Array Value} (cs ci : Array Value) (hb : Below W0.heap.size W0 X) (li : W0.heap.size ≤ bi) (ls : W0.heap.size ≤ bs) (ne : bs ≠ bi) (hi : X.heap[bi]? = some (.cells ci0 54 (0, 0))) (hs : X.heap[bs]? = some (.cells cs0 71 (0, 0))) : Si W0.heap.size W0 ((X.setRow bi ci).setRow bs cs) bs bi cs ci :=
  ⟨below_setRow (below_setRow hb li) ls, ls, li, ne, setRow_heap _ _ _ _ _ _ ((setRow_other _ _ _ _ ne).trans hs), (setRow_other _ _ _ _ (Ne.symm ne)).trans (setRow_heap _ _ _ _ _ _ hi)⟩
set_option maxHeartbeats 12800000 in
set_option maxRecDepth 100000 in
/-- ways -/
theorem ways_any {w : World} {wb gb : Nat} {v : PV} {p : Pg} {eo : Option Addr} {ec gc : Nat} {g : Nat → Option Sd} (h : Wk w wb gb v p eo ec gc g) (hE : Ef w) (hI : Inv p g) (i : Nat) (hi : i < p.cd.length) (hk : OkI p (p.at i)) (s : Sd) (hs : g i = some s) (hf : fitsB s.ty (p.at i).op.toNat = true) (ht : (p.at i).op = 26 → s.turn ≠ -1) :
    Calls Tryd.prog 43 #[.pointer (some ⟨wb, 0, none⟩), .int .i64 (i : Int)] w fun e w' => e = .returned (.agg (wysC (waysL p g i s)).toArray) ∧ Below w.heap.size w w' := by
  have HBe : Hid (∀ W, Below w.heap.size w W → Calls Tryd.prog 68 #[.pointer (some ⟨wb, 0, none⟩), .int .i64 (i : Int)] W fun e w' => e = .returned (.agg (sdV (behS p s (p.at i)))) ∧ Below W.heap.size W w') := fun W hb => behS_any (h.below hb) (hE.below hb) i hi s hs hk.op (hI.ht i s hs) hf (fun e => hk.qa (by omega))
  have HTn : Hid ((p.at i).op = 26 → ∃ k : Nat, s.turn = (k : Int) ∧ ∃ t, g k = some t ∧ tnAt g s.turn = t.turn) := fun e => by
    rcases hI.tn i s hs with h1 | ⟨h1, t, h2⟩
    · exact absurd h1 (ht e)
    · exact ⟨s.turn.toNat, by omega, t, h2, by unfold tnAt; rw [h2]⟩
  have HRes : Hid (waysL p g i s = waysL p g i s) := rfl
  obtain ⟨R, hR⟩ : ∃ R, R = waysL p g i s := ⟨_, rfl⟩
  rw [← hR]
  unfold waysL at hR
  dsimp only at hR
  have htu : (behS p s (p.at i)).turn = s.turn := rfl
  obtain ⟨qo, qc, vo, vc, tto, tc, oo, oc, co, cc⟩ := v
  obtain ⟨cg, cf, rfl, c5, c7, d0, d1, d2, d3, d4⟩ := h.reads hi
  have n3 : (p.cd.length : Int) ≤ 1000000000000000 := by have := h.pg.lcd; omega
  have hi' : (i : Int) < (p.cd.length : Int) := by omega
  have hx : p.at i = p.cd[i] := at_eq hi
  rw [hx] at HBe HTn hR htu
  generalize behS p s p.cd[i] = sb at *
  obtain ⟨ty, hd, tn⟩ := sb
  obtain rfl : tn = s.turn := htu
  unfold sdV at HBe
  dsimp only at HBe hR
  generalize p.cd[i].op = y0 at *
  generalize p.cd[i].a = y1 at *
  generalize p.cd[i].b = y2 at *
  generalize p.cd[i].c = y3 at *
  generalize p.cd[i].d = y4 at *
  have HW : Hid (Wk w wb gb ⟨qo, qc, vo, vc, tto, tc, oo, oc, some ⟨cg, cf, none⟩, cc⟩ p eo ec gc g) := h
  have HI : Hid (Inv p g) := hI
  have hbA : Below w.heap.size w (w.alloc (.cells #[.int .i64 0, .int .u64 0, .int .u64 0, .int .u64 0, .int .u64 0, .bool false, .int .i64 0, .int .i64 0, .int .i64 0, .int .i64 0, .int .u64 0, .int .u64 0, .int .u64 0, .int .u64 0, .bool false, .int .i64 0, .int .i64 0, .int .i64 0] 103)) := (Below.refl _ w).alloc (Nat.le_refl _) _
  have HX0 : Hid (Below w.heap.size w (w.alloc (.cells #[.int .i64 0, .int .u64 0, .int .u64 0, .int .u64 0, .int .u64 0, .bool false, .int .i64 0, .int .i64 0, .int .i64 0, .int .i64 0, .int .u64 0, .int .u64 0, .int .u64 0, .int .u64 0, .bool false, .int .i64 0, .int .i64 0, .int .i64 0] 103)) ∧ (w.alloc (.cells #[.int .i64 0, .int .u64 0, .int .u64 0, .int .u64 0, .int .u64 0, .bool false, .int .i64 0, .int .i64 0, .int .i64 0, .int .i64 0, .int .u64 0, .int .u64 0, .int .u64 0, .int .u64 0, .bool false, .int .i64 0, .int .i64 0, .int .i64 0] 103)).heap[w.heap.size]? = some (.cells #[.int .i64 0, .int .u64 0, .int .u64 0, .int .u64 0, .int .u64 0, .bool false, .int .i64 0, .int .i64 0, .int .i64 0, .int .i64 0, .int .u64 0, .int .u64 0, .int .u64 0, .int .u64 0, .bool false, .int .i64 0, .int .i64 0, .int .i64 0] 103 (0, 0)) ∧ (w.alloc (.cells #[.int .i64 0, .int .u64 0, .int .u64 0, .int .u64 0, .int .u64 0, .bool false, .int .i64 0, .int .i64 0, .int .i64 0, .int .i64 0, .int .u64 0, .int .u64 0, .int .u64 0, .int .u64 0, .bool false, .int .i64 0, .int .i64 0, .int .i64 0] 103)).heap.size = w.heap.size + 1) := ⟨hbA, heap_alloc_new _ _, by simp⟩
  have HSb : Hid (∀ W, Below (w.alloc (.cells #[.int .i64 0, .int .u64 0, .int .u64 0, .int .u64 0, .int .u64 0, .bool false, .int .i64 0, .int .i64 0, .int .i64 0, .int .i64 0, .int .u64 0, .int .u64 0, .int .u64 0, .int .u64 0, .bool false, .int .i64 0, .int .i64 0, .int .i64 0] 103)).heap.size (w.alloc (.cells #[.int .i64 0, .int .u64 0, .int .u64 0, .int .u64 0, .int .u64 0, .bool false, .int .i64 0, .int .i64 0, .int .i64 0, .int .i64 0, .int .u64 0, .int .u64 0, .int .u64 0, .int .u64 0, .bool false, .int .i64 0, .int .i64 0, .int .i64 0] 103)) W → (fun w' : World => w'.cell? ⟨wb, 5, none⟩ = some (.slice (some ⟨cg, cf, none⟩) p.cd.length cc) ∧ w'.cell? ⟨cg, cf + i * 5, none⟩ = some (.int .i64 y0) ∧ w'.cell? ⟨cg, cf + i * 5 + 1, none⟩ = some (.int .i64 y1) ∧ w'.cell? ⟨cg, cf + i * 5 + 2, none⟩ = some (.int .i64 y2) ∧ w'.cell? ⟨cg, cf + i * 5 + 3, none⟩ = some (.int .i64 y3) ∧ w'.cell? ⟨cg, cf + i * 5 + 4, none⟩ = some (.int .i64 y4)) W) := fun W hb0 => by
    have hb := hbA.trans (hb0.mono hbA.size)
    have hc : ∀ b o v, w.cell? ⟨b, o, none⟩ = some v → W.cell? ⟨b, o, none⟩ = some v := fun b o v hv => by
      have hlt : b < w.heap.size := by
        rcases Nat.lt_or_ge b w.heap.size with h1 | h1
        · exact h1
        · exfalso
          simp [World.cell?, Array.getElem?_eq_none h1] at hv
      exact (hb.cell (p := ⟨b, o, none⟩) hlt).trans hv
    exact ⟨hc _ _ _ c5, hc _ _ _ d0, hc _ _ _ d1, hc _ _ _ d2, hc _ _ _ d3, hc _ _ _ d4⟩
  have HR : Hid _ := hR
  clear hx h c5 c7 d0 d1 d2 d3 d4 hE hI hk hs hR hf ht hbA HRes
  go_enter Tryd.func43, Tryd.ntmps43
  go_upto_region 1 with fail
  generalize w.alloc (.cells #[.int .i64 0, .int .u64 0, .int .u64 0, .int .u64 0, .int .u64 0, .bool false, .int .i64 0, .int .i64 0, .int .i64 0, .int .i64 0, .int .u64 0, .int .u64 0, .int .u64 0, .int .u64 0, .bool false, .int .i64 0, .int .i64 0, .int .i64 0] 103) = W0 at *
  go_cut [5, 6] (fun s5 s6 wx => ∃ bi bs, s5 = .pointer (some ⟨bi, 0, none⟩) ∧ s6 = .pointer (some ⟨bs, 0, none⟩) ∧ Si W0.heap.size W0 wx bs bi #[.int .i64 (ty.length : Int), .int .u64 (wd ty 0 : Int), .int .u64 (wd ty 1 : Int), .int .u64 (wd ty 2 : Int), .int .u64 (wd ty 3 : Int), .bool true, .int .i64 (hd : Int), .int .i64 s.turn] #[.int .i64 y0, .int .i64 y1, .int .i64 y2, .int .i64 y3, .int .i64 y4])
  case first =>
    refine wp_region_held (S := fun w' : World => w'.cell? ⟨wb, 5, none⟩ = some (.slice (some ⟨cg, cf, none⟩) p.cd.length cc) ∧ w'.cell? ⟨cg, cf + i * 5, none⟩ = some (.int .i64 y0) ∧ w'.cell? ⟨cg, cf + i * 5 + 1, none⟩ = some (.int .i64 y1) ∧ w'.cell? ⟨cg, cf + i * 5 + 2, none⟩ = some (.int .i64 y2) ∧ w'.cell? ⟨cg, cf + i * 5 + 3, none⟩ = some (.int .i64 y3) ∧ w'.cell? ⟨cg, cf + i * 5 + 4, none⟩ = some (.int .i64 y4)) (by kernel_rfl) ?_
    have hS : (fun w' : World => w'.cell? ⟨wb, 5, none⟩ = some (.slice (some ⟨cg, cf, none⟩) p.cd.length cc) ∧ w'.cell? ⟨cg, cf + i * 5, none⟩ = some (.int .i64 y0) ∧ w'.cell? ⟨cg, cf + i * 5 + 1, none⟩ = some (.int .i64 y1) ∧ w'.cell? ⟨cg, cf + i * 5 + 2, none⟩ = some (.int .i64 y2) ∧ w'.cell? ⟨cg, cf + i * 5 + 3, none⟩ = some (.int .i64 y3) ∧ w'.cell? ⟨cg, cf + i * 5 + 4, none⟩ = some (.int .i64 y4)) W0.drew := HSb.out _ (Below.refl _ W0).drew
    change wpAnyH _ _ _ _ _ _ _ _ W0.drew
    refine tqA 0 rfl hS ?_
    refine tqA 1 rfl hS ?_
    refine tqA 2 rfl hS ?_
    refine tqA 3 rfl hS ?_
    refine tqA 4 rfl hS ?_
    refine tqA 5 rfl hS ?_
    refine tqA 6 rfl hS ?_
    refine tqA 7 rfl hS ?_
    refine tqA 8 rfl hS ?_
    refine tqA 9 rfl hS ?_
    have hbd : Below W0.heap.size W0 W0.drew := (Below.refl _ W0).drew
    refine wpAnyH_ready (rs := [10, 11, 12]) (by kernel_rfl) (by simp) ?_
    refine AllReadyH.cons rfl (fun K hK => ?_) (AllReadyH.cons rfl (fun K hK => ?_) (AllReadyH.cons rfl (fun K hK => ?_) AllReadyH.nil))
    · go_simp
      refine Calls.mono (HBe.out _ (HX0.out.1.trans (hbd.mono HX0.out.1.size))) ?_
      rintro e x1 ⟨rfl, hc1⟩
      have hb1 : Below W0.heap.size W0 x1 := hbd.trans (hc1.mono hbd.size)
      have hz1 := hc1.size
      refine hK.out _ _ (HSb.out _ hb1) (fun hS => ?_)
      refine wpAnyH_ready (rs := [11, 12]) (by kernel_rfl) (by simp) ?_
      refine AllReadyH.cons rfl (fun K hK => ?_) (AllReadyH.cons rfl (fun K hK => ?_) AllReadyH.nil)
      · go_simp
        have ha2 : (x1.alloc (.cells #[.int .i64 0, .int .i64 0, .int .i64 0, .int .i64 0, .int .i64 0] 54)).heap[x1.heap.size]? = some (.cells #[.int .i64 0, .int .i64 0, .int .i64 0, .int .i64 0, .int .i64 0] 54 (0, 0)) := heap_alloc_new x1 _
        have hb2 : Below W0.heap.size W0 (x1.alloc (.cells #[.int .i64 0, .int .i64 0, .int .i64 0, .int .i64 0, .int .i64 0] 54)) := Below.trans hb1 (Below.mono (show Below x1.heap.size x1 (x1.alloc (.cells #[.int .i64 0, .int .i64 0, .int .i64 0, .int .i64 0, .int .i64 0] 54)) from ⟨rfl, rfl, rfl, by simp, fun k hk => (((Below.refl _ x1).alloc (Nat.le_refl _) _).block k hk)⟩) hb1.size)
        have hz2 : (x1.alloc (.cells #[.int .i64 0, .int .i64 0, .int .i64 0, .int .i64 0, .int .i64 0] 54)).heap.size = x1.heap.size + 1 := by show (x1.alloc (.cells #[.int .i64 0, .int .i64 0, .int .i64 0, .int .i64 0, .int .i64 0] 54)).heap.size = _; simp
        have hg2 := hb1.size
        refine hK.out _ _ (HSb.out _ hb2) (fun hS => ?_)
        refine wpAnyH_ready (rs := [12]) (by kernel_rfl) (by simp) ?_
        refine AllReadyH.cons rfl (fun K hK => ?_) AllReadyH.nil
        · go_simp
          have ha3 : ((x1.alloc (.cells #[.int .i64 0, .int .i64 0, .int .i64 0, .int .i64 0, .int .i64 0] 54)).alloc (.cells #[.int .i64 0, .int .u64 0, .int .u64 0, .int .u64 0, .int .u64 0, .bool false, .int .i64 0, .int .i64 0] 71)).heap[x1.heap.size + 1]? = some (.cells #[.int .i64 0, .int .u64 0, .int .u64 0, .int .u64 0, .int .u64 0, .bool false, .int .i64 0, .int .i64 0] 71 (0, 0)) := by have hq := heap_alloc_new (x1.alloc (.cells #[.int .i64 0, .int .i64 0, .int .i64 0, .int .i64 0, .int .i64 0] 54)) (.cells #[.int .i64 0, .int .u64 0, .int .u64 0, .int .u64 0, .int .u64 0, .bool false, .int .i64 0, .int .i64 0] 71); rw [show (x1.alloc (.cells #[.int .i64 0, .int .i64 0, .int .i64 0, .int .i64 0, .int .i64 0] 54)).heap.size = x1.heap.size + 1 by simp] at hq; exact hq
          have hb3 : Below W0.heap.size W0 ((x1.alloc (.cells #[.int .i64 0, .int .i64 0, .int .i64 0, .int .i64 0, .int .i64 0] 54)).alloc (.cells #[.int .i64 0, .int .u64 0, .int .u64 0, .int .u64 0, .int .u64 0, .bool false, .int .i64 0, .int .i64 0] 71)) := Below.trans hb2 (Below.mono (show Below (x1.alloc (.cells #[.int .i64 0, .int .i64 0, .int .i64 0, .int .i64 0, .int .i64 0] 54)).heap.size (x1.alloc (.cells #[.int .i64 0, .int .i64 0, .int .i64 0, .int .i64 0, .int .i64 0] 54)) ((x1.alloc (.cells #[.int .i64 0, .int .i64 0, .int .i64 0, .int .i64 0, .int .i64 0] 54)).alloc (.cells #[.int .i64 0, .int .u64 0, .int .u64 0, .int .u64 0, .int .u64 0, .bool false, .int .i64 0, .int .i64 0] 71)) from ⟨rfl, rfl, rfl, by simp, fun k hk => (((Below.refl _ (x1.alloc (.cells #[.int .i64 0, .int .i64 0, .int .i64 0, .int .i64 0, .int .i64 0] 54))).alloc (Nat.le_refl _) _).block k hk)⟩) hb2.size)
          have hz3 : ((x1.alloc (.cells #[.int .i64 0, .int .i64 0, .int .i64 0, .int .i64 0, .int .i64 0] 54)).alloc (.cells #[.int .i64 0, .int .u64 0, .int .u64 0, .int .u64 0, .int .u64 0, .bool false, .int .i64 0, .int .i64 0] 71)).heap.size = x1.heap.size + 1 + 1 := by show ((x1.alloc (.cells #[.int .i64 0, .int .i64 0, .int .i64 0, .int .i64 0, .int .i64 0] 54)).alloc (.cells #[.int .i64 0, .int .u64 0, .int .u64 0, .int .u64 0, .int .u64 0, .bool false, .int .i64 0, .int .i64 0] 71)).heap.size = _; simp
          have hg3 := hb2.size
          have hi3 : ((x1.alloc (.cells #[.int .i64 0, .int .i64 0, .int .i64 0, .int .i64 0, .int .i64 0] 54)).alloc (.cells #[.int .i64 0, .int .u64 0, .int .u64 0, .int .u64 0, .int .u64 0, .bool false, .int .i64 0, .int .i64 0] 71)).heap[x1.heap.size]? = _ := al_old ha2
          have hl3 := blk_lt ha2
          refine hK.out _ _ (HSb.out _ hb3) (fun hS => ?_)
          refine wpAnyH_ready (rs := [13]) (by kernel_rfl) (by simp) ?_
          refine AllReadyH.cons rfl (fun K hK => ?_) AllReadyH.nil
          refine step_store rfl 54 (.tmp 5) (.tmp 16) rfl _ #[.int .i64 y0, .int .i64 y1, .int .i64 y2, .int .i64 y3, .int .i64 y4] rfl rfl 54 _ hi3 (by kernel_rfl) rfl (by kernel_rfl) ?_
          refine hK.out _ _ (HSb.out _ (below_setRow hb3 (by omega))) (fun hS => ?_)
          refine wpAnyH_ready (rs := [14]) (by kernel_rfl) (by simp) ?_
          refine AllReadyH.cons rfl (fun K hK => ?_) AllReadyH.nil
          refine step_store rfl 71 (.tmp 6) (.tmp 19) rfl _ #[.int .i64 (ty.length : Int), .int .u64 (wd ty 0 : Int), .int .u64 (wd ty 1 : Int), .int .u64 (wd ty 2 : Int), .int .u64 (wd ty 3 : Int), .bool true, .int .i64 (hd : Int), .int .i64 s.turn] rfl rfl 71 _ ((setRow_other _ _ _ _ (by omega)).trans ha3) (by kernel_rfl) rfl (by kernel_rfl) ?_
          refine hK.out _ _ (HSb.out _ (below_setRow (below_setRow hb3 (by omega)) (by omega))) (fun hS => ?_)
          refine wpAnyH_done (by kernel_rfl) ?_ _
          have HF := show Hid _ from si_fin #[.int .i64 (ty.length : Int), .int .u64 (wd ty 0 : Int), .int .u64 (wd ty 1 : Int), .int .u64 (wd ty 2 : Int), .int .u64 (wd ty 3 : Int), .bool true, .int .i64 (hd : Int), .int .i64 s.turn] #[.int .i64 y0, .int .i64 y1, .int .i64 y2, .int .i64 y3, .int .i64 y4] hb3 (by omega) (by omega) (by omega) hi3 ha3
          clear hK K hS
          go_wp2_with fail
          go_meet
          exact ⟨_, _, rfl, rfl, HF.out⟩
      · go_simp
        have ha4 : (x1.alloc (.cells #[.int .i64 0, .int .u64 0, .int .u64 0, .int .u64 0, .int .u64 0, .bool false, .int .i64 0, .int .i64 0] 71)).heap[x1.heap.size]? = some (.cells #[.int .i64 0, .int .u64 0, .int .u64 0, .int .u64 0, .int .u64 0, .bool false, .int .i64 0, .int .i64 0] 71 (0, 0)) := heap_alloc_new x1 _
        have hb4 : Below W0.heap.size W0 (x1.alloc (.cells #[.int .i64 0, .int .u64 0, .int .u64 0, .int .u64 0, .int .u64 0, .bool false, .int .i64 0, .int .i64 0] 71)) := Below.trans hb1 (Below.mono (show Below x1.heap.size x1 (x1.alloc (.cells #[.int .i64 0, .int .u64 0, .int .u64 0, .int .u64 0, .int .u64 0, .bool false, .int .i64 0, .int .i64 0] 71)) from ⟨rfl, rfl, rfl, by simp, fun k hk => (((Below.refl _ x1).alloc (Nat.le_refl _) _).block k hk)⟩) hb1.size)
        have hz4 : (x1.alloc (.cells #[.int .i64 0, .int .u64 0, .int .u64 0, .int .u64 0, .int .u64 0, .bool false, .int .i64 0, .int .i64 0] 71)).heap.size = x1.heap.size + 1 := by show (x1.alloc (.cells #[.int .i64 0, .int .u64 0, .int .u64 0, .int .u64 0, .int .u64 0, .bool false, .int .i64 0, .int .i64 0] 71)).heap.size = _; simp
        have hg4 := hb1.size
        refine hK.out _ _ (HSb.out _ hb4) (fun hS => ?_)
        refine wpAnyH_ready (rs := [11]) (by kernel_rfl) (by simp) ?_
        refine AllReadyH.cons rfl (fun K hK => ?_) AllReadyH.nil
        · go_simp
          have ha5 : ((x1.alloc (.cells #[.int .i64 0, .int .u64 0, .int .u64 0, .int .u64 0, .int .u64 0, .bool false, .int .i64 0, .int .i64 0] 71)).alloc (.cells #[.int .i64 0, .int .i64 0, .int .i64 0, .int .i64 0, .int .i64 0] 54)).heap[x1.heap.size + 1]? = some (.cells #[.int .i64 0, .int .i64 0, .int .i64 0, .int .i64 0, .int .i64 0] 54 (0, 0)) := by have hq := heap_alloc_new (x1.alloc (.cells #[.int .i64 0, .int .u64 0, .int .u64 0, .int .u64 0, .int .u64 0, .bool false, .int .i64 0, .int .i64 0] 71)) (.cells #[.int .i64 0, .int .i64 0, .int .i64 0, .int .i64 0, .int .i64 0] 54); rw [show (x1.alloc (.cells #[.int .i64 0, .int .u64 0, .int .u64 0, .int .u64 0, .int .u64 0, .bool false, .int .i64 0, .int .i64 0] 71)).heap.size = x1.heap.size + 1 by simp] at hq; exact hq
          have hb5 : Below W0.heap.size W0 ((x1.alloc (.cells #[.int .i64 0, .int .u64 0, .int .u64 0, .int .u64 0, .int .u64 0, .bool false, .int .i64 0, .int .i64 0] 71)).alloc (.cells #[.int .i64 0, .int .i64 0, .int .i64 0, .int .i64 0, .int .i64 0] 54)) := Below.trans hb4 (Below.mono (show Below (x1.alloc (.cells #[.int .i64 0, .int .u64 0, .int .u64 0, .int .u64 0, .int .u64 0, .bool false, .int .i64 0, .int .i64 0] 71)).heap.size (x1.alloc (.cells #[.int .i64 0, .int .u64 0, .int .u64 0, .int .u64 0, .int .u64 0, .bool false, .int .i64 0, .int .i64 0] 71)) ((x1.alloc (.cells #[.int .i64 0, .int .u64 0, .int .u64 0, .int .u64 0, .int .u64 0, .bool false, .int .i64 0, .int .i64 0] 71)).alloc (.cells #[.int .i64 0, .int .i64 0, .int .i64 0, .int .i64 0, .int .i64 0] 54)) from ⟨rfl, rfl, rfl, by simp, fun k hk => (((Below.refl _ (x1.alloc (.cells #[.int .i64 0, .int .u64 0, .int .u64 0, .int .u64 0, .int .u64 0, .bool false, .int .i64 0, .int .i64 0] 71))).alloc (Nat.le_refl _) _).block k hk)⟩) hb4.size)
          have hz5 : ((x1.alloc (.cells #[.int .i64 0, .int .u64 0, .int .u64 0, .int .u64 0, .int .u64 0, .bool false, .int .i64 0, .int .i64 0] 71)).alloc (.cells #[.int .i64 0, .int .i64 0, .int .i64 0, .int .i64 0, .int .i64 0] 54)).heap.size = x1.heap.size + 1 + 1 := by show ((x1.alloc (.cells #[.int .i64 0, .int .u64 0, .int .u64 0, .int .u64 0, .int .u64 0, .bool false, .int .i64 0, .int .i64 0] 71)).alloc (.cells #[.int .i64 0, .int .i64 0, .int .i64 0, .int .i64 0, .int .i64 0] 54)).heap.size = _; simp
          have hg5 := hb4.size
          have hs5 : ((x1.alloc (.cells #[.int .i64 0, .int .u64 0, .int .u64 0, .int .u64 0, .int .u64 0, .bool false, .int .i64 0, .int .i64 0] 71)).alloc (.cells #[.int .i64 0, .int .i64 0, .int .i64 0, .int .i64 0, .int .i64 0] 54)).heap[x1.heap.size]? = _ := al_old ha4
          have hl5 := blk_lt ha4
          refine hK.out _ _ (HSb.out _ hb5) (fun hS => ?_)
          refine wpAnyH_ready (rs := [13]) (by kernel_rfl) (by simp) ?_
          refine AllReadyH.cons rfl (fun K hK => ?_) AllReadyH.nil
          refine step_store rfl 54 (.tmp 5) (.tmp 16) rfl _ #[.int .i64 y0, .int .i64 y1, .int .i64 y2, .int .i64 y3, .int .i64 y4] rfl rfl 54 _ ha5 (by kernel_rfl) rfl (by kernel_rfl) ?_
          refine hK.out _ _ (HSb.out _ (below_setRow hb5 (by omega))) (fun hS => ?_)
          refine wpAnyH_ready (rs := [14]) (by kernel_rfl) (by simp) ?_
          refine AllReadyH.cons rfl (fun K hK => ?_) AllReadyH.nil
          refine step_store rfl 71 (.tmp 6) (.tmp 19) rfl _ #[.int .i64 (ty.length : Int), .int .u64 (wd ty 0 : Int), .int .u64 (wd ty 1 : Int), .int .u64 (wd ty 2 : Int), .int .u64 (wd ty 3 : Int), .bool true, .int .i64 (hd : Int), .int .i64 s.turn] rfl rfl 71 _ ((setRow_other _ _ _ _ (by omega)).trans hs5) (by kernel_rfl) rfl (by kernel_rfl) ?_
          refine hK.out _ _ (HSb.out _ (below_setRow (below_setRow hb5 (by omega)) (by omega))) (fun hS => ?_)
          refine wpAnyH_done (by kernel_rfl) ?_ _
          have HF := show Hid _ from si_fin #[.int .i64 (ty.length : Int), .int .u64 (wd ty 0 : Int), .int .u64 (wd ty 1 : Int), .int .u64 (wd ty 2 : Int), .int .u64 (wd ty 3 : Int), .bool true, .int .i64 (hd : Int), .int .i64 s.turn] #[.int .i64 y0, .int .i64 y1, .int .i64 y2, .int .i64 y3, .int .i64 y4] hb5 (by omega) (by omega) (by omega) ha5 hs5
          clear hK K hS
          go_wp2_with fail
          go_meet
          exact ⟨_, _, rfl, rfl, HF.out⟩
    · go_simp
      have ha6 : (W0.alloc (.cells #[.int .i64 0, .int .i64 0, .int .i64 0, .int .i64 0, .int .i64 0] 54)).drew.heap[W0.heap.size]? = some (.cells #[.int .i64 0, .int .i64 0, .int .i64 0, .int .i64 0, .int .i64 0] 54 (0, 0)) := heap_alloc_new W0 _
      have hb6 : Below W0.heap.size W0 (W0.alloc (.cells #[.int .i64 0, .int .i64 0, .int .i64 0, .int .i64 0, .int .i64 0] 54)).drew := Below.trans hbd (Below.mono (show Below W0.drew.heap.size W0.drew (W0.alloc (.cells #[.int .i64 0, .int .i64 0, .int .i64 0, .int .i64 0, .int .i64 0] 54)).drew from ⟨rfl, rfl, rfl, by simp, fun k hk => (((Below.refl _ W0).alloc (Nat.le_refl _) _).block k hk)⟩) hbd.size)
      have hz6 : (W0.alloc (.cells #[.int .i64 0, .int .i64 0, .int .i64 0, .int .i64 0, .int .i64 0] 54)).drew.heap.size = W0.heap.size + 1 := by show (W0.alloc (.cells #[.int .i64 0, .int .i64 0, .int .i64 0, .int .i64 0, .int .i64 0] 54)).heap.size = _; simp
      have hg6 := hbd.size
      refine hK.out _ _ (HSb.out _ hb6) (fun hS => ?_)
      refine wpAnyH_ready (rs := [10, 12]) (by kernel_rfl) (by simp) ?_
      refine AllReadyH.cons rfl (fun K hK => ?_) (AllReadyH.cons rfl (fun K hK => ?_) AllReadyH.nil)
      · go_simp
        refine Calls.mono (HBe.out _ (HX0.out.1.trans (hb6.mono HX0.out.1.size))) ?_
        rintro e x7 ⟨rfl, hc7⟩
        have hb7 : Below W0.heap.size W0 x7 := hb6.trans (hc7.mono hb6.size)
        have hz7 := hc7.size
        have hi7 := (hc7.block _ (blk_lt ha6)).trans ha6
        have hl7 := blk_lt ha6
        refine hK.out _ _ (HSb.out _ hb7) (fun hS => ?_)
        refine wpAnyH_ready (rs := [12]) (by kernel_rfl) (by simp) ?_
        refine AllReadyH.cons rfl (fun K hK => ?_) AllReadyH.nil
        · go_simp
          have ha8 : (x7.alloc (.cells #[.int .i64 0, .int .u64 0, .int .u64 0, .int .u64 0, .int .u64 0, .bool false, .int .i64 0, .int .i64 0] 71)).heap[x7.heap.size]? = some (.cells #[.int .i64 0, .int .u64 0, .int .u64 0, .int .u64 0, .int .u64 0, .bool false, .int .i64 0, .int .i64 0] 71 (0, 0)) := heap_alloc_new x7 _
          have hb8 : Below W0.heap.size W0 (x7.alloc (.cells #[.int .i64 0, .int .u64 0, .int .u64 0, .int .u64 0, .int .u64 0, .bool false, .int .i64 0, .int .i64 0] 71)) := Below.trans hb7 (Below.mono (show Below x7.heap.size x7 (x7.alloc (.cells #[.int .i64 0, .int .u64 0, .int .u64 0, .int .u64 0, .int .u64 0, .bool false, .int .i64 0, .int .i64 0] 71)) from ⟨rfl, rfl, rfl, by simp, fun k hk => (((Below.refl _ x7).alloc (Nat.le_refl _) _).block k hk)⟩) hb7.size)
          have hz8 : (x7.alloc (.cells #[.int .i64 0, .int .u64 0, .int .u64 0, .int .u64 0, .int .u64 0, .bool false, .int .i64 0, .int .i64 0] 71)).heap.size = x7.heap.size + 1 := by show (x7.alloc (.cells #[.int .i64 0, .int .u64 0, .int .u64 0, .int .u64 0, .int .u64 0, .bool false, .int .i64 0, .int .i64 0] 71)).heap.size = _; simp
          have hg8 := hb7.size
          have hi8 : (x7.alloc (.cells #[.int .i64 0, .int .u64 0, .int .u64 0, .int .u64 0, .int .u64 0, .bool false, .int .i64 0, .int .i64 0] 71)).heap[W0.heap.size]? = _ := al_old hi7
          have hl8 := blk_lt hi7
          refine hK.out _ _ (HSb.out _ hb8) (fun hS => ?_)
          refine wpAnyH_ready (rs := [13]) (by kernel_rfl) (by simp) ?_
          refine AllReadyH.cons rfl (fun K hK => ?_) AllReadyH.nil
          refine step_store rfl 54 (.tmp 5) (.tmp 16) rfl _ #[.int .i64 y0, .int .i64 y1, .int .i64 y2, .int .i64 y3, .int .i64 y4] rfl rfl 54 _ hi8 (by kernel_rfl) rfl (by kernel_rfl) ?_
          refine hK.out _ _ (HSb.out _ (below_setRow hb8 (by omega))) (fun hS => ?_)
          refine wpAnyH_ready (rs := [14]) (by kernel_rfl) (by simp) ?_
          refine AllReadyH.cons rfl (fun K hK => ?_) AllReadyH.nil
          refine step_store rfl 71 (.tmp 6) (.tmp 19) rfl _ #[.int .i64 (ty.length : Int), .int .u64 (wd ty 0 : Int), .int .u64 (wd ty 1 : Int), .int .u64 (wd ty 2 : Int), .int .u64 (wd ty 3 : Int), .bool true, .int .i64 (hd : Int), .int .i64 s.turn] rfl rfl 71 _ ((setRow_other _ _ _ _ (by omega)).trans ha8) (by kernel_rfl) rfl (by kernel_rfl) ?_
          refine hK.out _ _ (HSb.out _ (below_setRow (below_setRow hb8 (by omega)) (by omega))) (fun hS => ?_)
          refine wpAnyH_done (by kernel_rfl) ?_ _
          have HF := show Hid _ from si_fin #[.int .i64 (ty.length : Int), .int .u64 (wd ty 0 : Int), .int .u64 (wd ty 1 : Int), .int .u64 (wd ty 2 : Int), .int .u64 (wd ty 3 : Int), .bool true, .int .i64 (hd : Int), .int .i64 s.turn] #[.int .i64 y0, .int .i64 y1, .int .i64 y2, .int .i64 y3, .int .i64 y4] hb8 (by omega) (by omega) (by omega) hi8 ha8
          clear hK K hS
          go_wp2_with fail
          go_meet
          exact ⟨_, _, rfl, rfl, HF.out⟩
      · go_simp
        have ha9 : ((W0.alloc (.cells #[.int .i64 0, .int .i64 0, .int .i64 0, .int .i64 0, .int .i64 0] 54)).alloc (.cells #[.int .i64 0, .int .u64 0, .int .u64 0, .int .u64 0, .int .u64 0, .bool false, .int .i64 0, .int .i64 0] 71)).drew.heap[W0.heap.size + 1]? = some (.cells #[.int .i64 0, .int .u64 0, .int .u64 0, .int .u64 0, .int .u64 0, .bool false, .int .i64 0, .int .i64 0] 71 (0, 0)) := by have hq := heap_alloc_new (W0.alloc (.cells #[.int .i64 0, .int .i64 0, .int .i64 0, .int .i64 0, .int .i64 0] 54)) (.cells #[.int .i64 0, .int .u64 0, .int .u64 0, .int .u64 0, .int .u64 0, .bool false, .int .i64 0, .int .i64 0] 71); rw [show (W0.alloc (.cells #[.int .i64 0, .int .i64 0, .int .i64 0, .int .i64 0, .int .i64 0] 54)).heap.size = W0.heap.size + 1 by simp] at hq; exact hq
        have hb9 : Below W0.heap.size W0 ((W0.alloc (.cells #[.int .i64 0, .int .i64 0, .int .i64 0, .int .i64 0, .int .i64 0] 54)).alloc (.cells #[.int .i64 0, .int .u64 0, .int .u64 0, .int .u64 0, .int .u64 0, .bool false, .int .i64 0, .int .i64 0] 71)).drew := Below.trans hb6 (Below.mono (show Below (W0.alloc (.cells #[.int .i64 0, .int .i64 0, .int .i64 0, .int .i64 0, .int .i64 0] 54)).drew.heap.size (W0.alloc (.cells #[.int .i64 0, .int .i64 0, .int .i64 0, .int .i64 0, .int .i64 0] 54)).drew ((W0.alloc (.cells #[.int .i64 0, .int .i64 0, .int .i64 0, .int .i64 0, .int .i64 0] 54)).alloc (.cells #[.int .i64 0, .int .u64 0, .int .u64 0, .int .u64 0, .int .u64 0, .bool false, .int .i64 0, .int .i64 0] 71)).drew from ⟨rfl, rfl, rfl, by simp, fun k hk => (((Below.refl _ (W0.alloc (.cells #[.int .i64 0, .int .i64 0, .int .i64 0, .int .i64 0, .int .i64 0] 54))).alloc (Nat.le_refl _) _).block k hk)⟩) hb6.size)
        have hz9 : ((W0.alloc (.cells #[.int .i64 0, .int .i64 0, .int .i64 0, .int .i64 0, .int .i64 0] 54)).alloc (.cells #[.int .i64 0, .int .u64 0, .int .u64 0, .int .u64 0, .int .u64 0, .bool false, .int .i64 0, .int .i64 0] 71)).drew.heap.size = W0.heap.size + 1 + 1 := by show ((W0.alloc (.cells #[.int .i64 0, .int .i64 0, .int .i64 0, .int .i64 0, .int .i64 0] 54)).alloc (.cells #[.int .i64 0, .int .u64 0, .int .u64 0, .int .u64 0, .int .u64 0, .bool false, .int .i64 0, .int .i64 0] 71)).heap.size = _; simp
        have hg9 := hb6.size
        have hi9 : ((W0.alloc (.cells #[.int .i64 0, .int .i64 0, .int .i64 0, .int .i64 0, .int .i64 0] 54)).alloc (.cells #[.int .i64 0, .int .u64 0, .int .u64 0, .int .u64 0, .int .u64 0, .bool false, .int .i64 0, .int .i64 0] 71)).drew.heap[W0.heap.size]? = _ := al_old ha6
        have hl9 := blk_lt ha6
        refine hK.out _ _ (HSb.out _ hb9) (fun hS => ?_)
        refine wpAnyH_ready (rs := [10]) (by kernel_rfl) (by simp) ?_
        refine AllReadyH.cons rfl (fun K hK => ?_) AllReadyH.nil
        · go_simp
          refine Calls.mono (HBe.out _ (HX0.out.1.trans (hb9.mono HX0.out.1.size))) ?_
          rintro e x10 ⟨rfl, hc10⟩
          have hb10 : Below W0.heap.size W0 x10 := hb9.trans (hc10.mono hb9.size)
          have hz10 := hc10.size
          have hi10 := (hc10.block _ (blk_lt hi9)).trans hi9
          have hs10 := (hc10.block _ (blk_lt ha9)).trans ha9
          have hl10 := blk_lt hi9
          refine hK.out _ _ (HSb.out _ hb10) (fun hS => ?_)
          refine wpAnyH_ready (rs := [13]) (by kernel_rfl) (by simp) ?_
          refine AllReadyH.cons rfl (fun K hK => ?_) AllReadyH.nil
          refine step_store rfl 54 (.tmp 5) (.tmp 16) rfl _ #[.int .i64 y0, .int .i64 y1, .int .i64 y2, .int .i64 y3, .int .i64 y4] rfl rfl 54 _ hi10 (by kernel_rfl) rfl (by kernel_rfl) ?_
          refine hK.out _ _ (HSb.out _ (below_setRow hb10 (by omega))) (fun hS => ?_)
          refine wpAnyH_ready (rs := [14]) (by kernel_rfl) (by simp) ?_
          refine AllReadyH.cons rfl (fun K hK => ?_) AllReadyH.nil
          refine step_store rfl 71 (.tmp 6) (.tmp 19) rfl _ #[.int .i64 (ty.length : Int), .int .u64 (wd ty 0 : Int), .int .u64 (wd ty 1 : Int), .int .u64 (wd ty 2 : Int), .int .u64 (wd ty 3 : Int), .bool true, .int .i64 (hd : Int), .int .i64 s.turn] rfl rfl 71 _ ((setRow_other _ _ _ _ (by omega)).trans hs10) (by kernel_rfl) rfl (by kernel_rfl) ?_
          refine hK.out _ _ (HSb.out _ (below_setRow (below_setRow hb10 (by omega)) (by omega))) (fun hS => ?_)
          refine wpAnyH_done (by kernel_rfl) ?_ _
          have HF := show Hid _ from si_fin #[.int .i64 (ty.length : Int), .int .u64 (wd ty 0 : Int), .int .u64 (wd ty 1 : Int), .int .u64 (wd ty 2 : Int), .int .u64 (wd ty 3 : Int), .bool true, .int .i64 (hd : Int), .int .i64 s.turn] #[.int .i64 y0, .int .i64 y1, .int .i64 y2, .int .i64 y3, .int .i64 y4] hb10 (by omega) (by omega) (by omega) hi10 hs10
          clear hK K hS
          go_wp2_with fail
          go_meet
          exact ⟨_, _, rfl, rfl, HF.out⟩
    · go_simp
      have ha11 : (W0.alloc (.cells #[.int .i64 0, .int .u64 0, .int .u64 0, .int .u64 0, .int .u64 0, .bool false, .int .i64 0, .int .i64 0] 71)).drew.heap[W0.heap.size]? = some (.cells #[.int .i64 0, .int .u64 0, .int .u64 0, .int .u64 0, .int .u64 0, .bool false, .int .i64 0, .int .i64 0] 71 (0, 0)) := heap_alloc_new W0 _
      have hb11 : Below W0.heap.size W0 (W0.alloc (.cells #[.int .i64 0, .int .u64 0, .int .u64 0, .int .u64 0, .int .u64 0, .bool false, .int .i64 0, .int .i64 0] 71)).drew := Below.trans hbd (Below.mono (show Below W0.drew.heap.size W0.drew (W0.alloc (.cells #[.int .i64 0, .int .u64 0, .int .u64 0, .int .u64 0, .int .u64 0, .bool false, .int .i64 0, .int .i64 0] 71)).drew from ⟨rfl, rfl, rfl, by simp, fun k hk => (((Below.refl _ W0).alloc (Nat.le_refl _) _).block k hk)⟩) hbd.size)
      have hz11 : (W0.alloc (.cells #[.int .i64 0, .int .u64 0, .int .u64 0, .int .u64 0, .int .u64 0, .bool false, .int .i64 0, .int .i64 0] 71)).drew.heap.size = W0.heap.size + 1 := by show (W0.alloc (.cells #[.int .i64 0, .int .u64 0, .int .u64 0, .int .u64 0, .int .u64 0, .bool false, .int .i64 0, .int .i64 0] 71)).heap.size = _; simp
      have hg11 := hbd.size
      refine hK.out _ _ (HSb.out _ hb11) (fun hS => ?_)
      refine wpAnyH_ready (rs := [10, 11]) (by kernel_rfl) (by simp) ?_
      refine AllReadyH.cons rfl (fun K hK => ?_) (AllReadyH.cons rfl (fun K hK => ?_) AllReadyH.nil)
      · go_simp
        refine Calls.mono (HBe.out _ (HX0.out.1.trans (hb11.mono HX0.out.1.size))) ?_
        rintro e x12 ⟨rfl, hc12⟩
        have hb12 : Below W0.heap.size W0 x12 := hb11.trans (hc12.mono hb11.size)
        have hz12 := hc12.size
        have hs12 := (hc12.block _ (blk_lt ha11)).trans ha11
        have hl12 := blk_lt ha11
        refine hK.out _ _ (HSb.out _ hb12) (fun hS => ?_)
        refine wpAnyH_ready (rs := [11]) (by kernel_rfl) (by simp) ?_
        refine AllReadyH.cons rfl (fun K hK => ?_) AllReadyH.nil
        · go_simp
          have ha13 : (x12.alloc (.cells #[.int .i64 0, .int .i64 0, .int .i64 0, .int .i64 0, .int .i64 0] 54)).heap[x12.heap.size]? = some (.cells #[.int .i64 0, .int .i64 0, .int .i64 0, .int .i64 0, .int .i64 0] 54 (0, 0)) := heap_alloc_new x12 _
          have hb13 : Below W0.heap.size W0 (x12.alloc (.cells #[.int .i64 0, .int .i64 0, .int .i64 0, .int .i64 0, .int .i64 0] 54)) := Below.trans hb12 (Below.mono (show Below x12.heap.size x12 (x12.alloc (.cells #[.int .i64 0, .int .i64 0, .int .i64 0, .int .i64 0, .int .i64 0] 54)) from ⟨rfl, rfl, rfl, by simp, fun k hk => (((Below.refl _ x12).alloc (Nat.le_refl _) _).block k hk)⟩) hb12.size)
          have hz13 : (x12.alloc (.cells #[.int .i64 0, .int .i64 0, .int .i64 0, .int .i64 0, .int .i64 0] 54)).heap.size = x12.heap.size + 1 := by show (x12.alloc (.cells #[.int .i64 0, .int .i64 0, .int .i64 0, .int .i64 0, .int .i64 0] 54)).heap.size = _; simp
          have hg13 := hb12.size
          have hs13 : (x12.alloc (.cells #[.int .i64 0, .int .i64 0, .int .i64 0, .int .i64 0, .int .i64 0] 54)).heap[W0.heap.size]? = _ := al_old hs12
          have hl13 := blk_lt hs12
          refine hK.out _ _ (HSb.out _ hb13) (fun hS => ?_)
          refine wpAnyH_ready (rs := [13]) (by kernel_rfl) (by simp) ?_
          refine AllReadyH.cons rfl (fun K hK => ?_) AllReadyH.nil
          refine step_store rfl 54 (.tmp 5) (.tmp 16) rfl _ #[.int .i64 y0, .int .i64 y1, .int .i64 y2, .int .i64 y3, .int .i64 y4] rfl rfl 54 _ ha13 (by kernel_rfl) rfl (by kernel_rfl) ?_
          refine hK.out _ _ (HSb.out _ (below_setRow hb13 (by omega))) (fun hS => ?_)
          refine wpAnyH_ready (rs := [14]) (by kernel_rfl) (by simp) ?_
          refine AllReadyH.cons rfl (fun K hK => ?_) AllReadyH.nil
          refine step_store rfl 71 (.tmp 6) (.tmp 19) rfl _ #[.int .i64 (ty.length : Int), .int .u64 (wd ty 0 : Int), .int .u64 (wd ty 1 : Int), .int .u64 (wd ty 2 : Int), .int .u64 (wd ty 3 : Int), .bool true, .int .i64 (hd : Int), .int .i64 s.turn] rfl rfl 71 _ ((setRow_other _ _ _ _ (by omega)).trans hs13) (by kernel_rfl) rfl (by kernel_rfl) ?_
          refine hK.out _ _ (HSb.out _ (below_setRow (below_setRow hb13 (by omega)) (by omega))) (fun hS => ?_)
          refine wpAnyH_done (by kernel_rfl) ?_ _
          have HF := show Hid _ from si_fin #[.int .i64 (ty.length : Int), .int .u64 (wd ty 0 : Int), .int .u64 (wd ty 1 : Int), .int .u64 (wd ty 2 : Int), .int .u64 (wd ty 3 : Int), .bool true, .int .i64 (hd : Int), .int .i64 s.turn] #[.int .i64 y0, .int .i64 y1, .int .i64 y2, .int .i64 y3, .int .i64 y4] hb13 (by omega) (by omega) (by omega) ha13 hs13
          clear hK K hS
          go_wp2_with fail
          go_meet
          exact ⟨_, _, rfl, rfl, HF.out⟩
      · go_simp
        have ha14 : ((W0.alloc (.cells #[.int .i64 0, .int .u64 0, .int .u64 0, .int .u64 0, .int .u64 0, .bool false, .int .i64 0, .int .i64 0] 71)).alloc (.cells #[.int .i64 0, .int .i64 0, .int .i64 0, .int .i64 0, .int .i64 0] 54)).drew.heap[W0.heap.size + 1]? = some (.cells #[.int .i64 0, .int .i64 0, .int .i64 0, .int .i64 0, .int .i64 0] 54 (0, 0)) := by have hq := heap_alloc_new (W0.alloc (.cells #[.int .i64 0, .int .u64 0, .int .u64 0, .int .u64 0, .int .u64 0, .bool false, .int .i64 0, .int .i64 0] 71)) (.cells #[.int .i64 0, .int .i64 0, .int .i64 0, .int .i64 0, .int .i64 0] 54); rw [show (W0.alloc (.cells #[.int .i64 0, .int .u64 0, .int .u64 0, .int .u64 0, .int .u64 0, .bool false, .int .i64 0, .int .i64 0] 71)).heap.size = W0.heap.size + 1 by simp] at hq; exact hq
        have hb14 : Below W0.heap.size W0 ((W0.alloc (.cells #[.int .i64 0, .int .u64 0, .int .u64 0, .int .u64 0, .int .u64 0, .bool false, .int .i64 0, .int .i64 0] 71)).alloc (.cells #[.int .i64 0, .int .i64 0, .int .i64 0, .int .i64 0, .int .i64 0] 54)).drew := Below.trans hb11 (Below.mono (show Below (W0.alloc (.cells #[.int .i64 0, .int .u64 0, .int .u64 0, .int .u64 0, .int .u64 0, .bool false, .int .i64 0, .int .i64 0] 71)).drew.heap.size (W0.alloc (.cells #[.int .i64 0, .int .u64 0, .int .u64 0, .int .u64 0, .int .u64 0, .bool false, .int .i64 0, .int .i64 0] 71)).drew ((W0.alloc (.cells #[.int .i64 0, .int .u64 0, .int .u64 0, .int .u64 0, .int .u64 0, .bool false, .int .i64 0, .int .i64 0] 71)).alloc (.cells #[.int .i64 0, .int .i64 0, .int .i64 0, .int .i64 0, .int .i64 0] 54)).drew from ⟨rfl, rfl, rfl, by simp, fun k hk => (((Below.refl _ (W0.alloc (.cells #[.int .i64 0, .int .u64 0, .int .u64 0, .int .u64 0, .int .u64 0, .bool false, .int .i64 0, .int .i64 0] 71))).alloc (Nat.le_refl _) _).block k hk)⟩) hb11.size)
        have hz14 : ((W0.alloc (.cells #[.int .i64 0, .int .u64 0, .int .u64 0, .int .u64 0, .int .u64 0, .bool false, .int .i64 0, .int .i64 0] 71)).alloc (.cells #[.int .i64 0, .int .i64 0, .int .i64 0, .int .i64 0, .int .i64 0] 54)).drew.heap.size = W0.heap.size + 1 + 1 := by show ((W0.alloc (.cells #[.int .i64 0, .int .u64 0, .int .u64 0, .int .u64 0, .int .u64 0, .bool false, .int .i64 0, .int .i64 0] 71)).alloc (.cells #[.int .i64 0, .int .i64 0, .int .i64 0, .int .i64 0, .int .i64 0] 54)).heap.size = _; simp
        have hg14 := hb11.size
        have hs14 : ((W0.alloc (.cells #[.int .i64 0, .int .u64 0, .int .u64 0, .int .u64 0, .int .u64 0, .bool false, .int .i64 0, .int .i64 0] 71)).alloc (.cells #[.int .i64 0, .int .i64 0, .int .i64 0, .int .i64 0, .int .i64 0] 54)).drew.heap[W0.heap.size]? = _ := al_old ha11
        have hl14 := blk_lt ha11
        refine hK.out _ _ (HSb.out _ hb14) (fun hS => ?_)
        refine wpAnyH_ready (rs := [10]) (by kernel_rfl) (by simp) ?_
        refine AllReadyH.cons rfl (fun K hK => ?_) AllReadyH.nil
        · go_simp
          refine Calls.mono (HBe.out _ (HX0.out.1.trans (hb14.mono HX0.out.1.size))) ?_
          rintro e x15 ⟨rfl, hc15⟩
          have hb15 : Below W0.heap.size W0 x15 := hb14.trans (hc15.mono hb14.size)
          have hz15 := hc15.size
          have hi15 := (hc15.block _ (blk_lt ha14)).trans ha14
          have hs15 := (hc15.block _ (blk_lt hs14)).trans hs14
          have hl15 := blk_lt ha14
          refine hK.out _ _ (HSb.out _ hb15) (fun hS => ?_)
          refine wpAnyH_ready (rs := [13]) (by kernel_rfl) (by simp) ?_
          refine AllReadyH.cons rfl (fun K hK => ?_) AllReadyH.nil
          refine step_store rfl 54 (.tmp 5) (.tmp 16) rfl _ #[.int .i64 y0, .int .i64 y1, .int .i64 y2, .int .i64 y3, .int .i64 y4] rfl rfl 54 _ hi15 (by kernel_rfl) rfl (by kernel_rfl) ?_
          refine hK.out _ _ (HSb.out _ (below_setRow hb15 (by omega))) (fun hS => ?_)
          refine wpAnyH_ready (rs := [14]) (by kernel_rfl) (by simp) ?_
          refine AllReadyH.cons rfl (fun K hK => ?_) AllReadyH.nil
          refine step_store rfl 71 (.tmp 6) (.tmp 19) rfl _ #[.int .i64 (ty.length : Int), .int .u64 (wd ty 0 : Int), .int .u64 (wd ty 1 : Int), .int .u64 (wd ty 2 : Int), .int .u64 (wd ty 3 : Int), .bool true, .int .i64 (hd : Int), .int .i64 s.turn] rfl rfl 71 _ ((setRow_other _ _ _ _ (by omega)).trans hs15) (by kernel_rfl) rfl (by kernel_rfl) ?_
          refine hK.out _ _ (HSb.out _ (below_setRow (below_setRow hb15 (by omega)) (by omega))) (fun hS => ?_)
          refine wpAnyH_done (by kernel_rfl) ?_ _
          have HF := show Hid _ from si_fin #[.int .i64 (ty.length : Int), .int .u64 (wd ty 0 : Int), .int .u64 (wd ty 1 : Int), .int .u64 (wd ty 2 : Int), .int .u64 (wd ty 3 : Int), .bool true, .int .i64 (hd : Int), .int .i64 s.turn] #[.int .i64 y0, .int .i64 y1, .int .i64 y2, .int .i64 y3, .int .i64 y4] hb15 (by omega) (by omega) (by omega) hi15 hs15
          clear hK K hS
          go_wp2_with fail
          go_meet
          exact ⟨_, _, rfl, rfl, HF.out⟩
  case rest =>
    obtain ⟨bi, bs, rfl, rfl, hsi⟩ := hcut
    obtain ⟨i0, i1, i2, i3, i4⟩ := cells5 hsi.hi
    obtain ⟨j0, j1, j2, j3, j4, j5, j6, j7⟩ := cells8 hsi.hs
    have hB0 : Below w.heap.size w wc := HX0.out.1.trans (hsi.bel.mono HX0.out.1.size)
    have hR0 : wc.heap[w.heap.size]? = some (.cells #[.int .i64 0, .int .u64 0, .int .u64 0, .int .u64 0, .int .u64 0, .bool false, .int .i64 0, .int .i64 0, .int .i64 0, .int .i64 0, .int .u64 0, .int .u64 0, .int .u64 0, .int .u64 0, .bool false, .int .i64 0, .int .i64 0, .int .i64 0] 103 (0, 0)) := (hsi.bel.block _ (blk_lt HX0.out.2.1)).trans HX0.out.2.1
    have hlw : w.heap.size < wc.heap.size := blk_lt hR0
    have hb2 : Below wc.heap.size wc ((wc.alloc (.cells #[.int .i64 (ty.length : Int), .int .u64 (wd ty 0 : Int), .int .u64 (wd ty 1 : Int), .int .u64 (wd ty 2 : Int), .int .u64 (wd ty 3 : Int), .bool true, .int .i64 (hd : Int), .int .i64 s.turn, .int .i64 ((i : Int) + 1)] 102)).alloc (.cells #[.int .i64 0, .int .u64 0, .int .u64 0, .int .u64 0, .int .u64 0, .bool false, .int .i64 0, .int .i64 0, .int .i64 (-1)] 102)) := ((Below.refl _ wc).alloc (Nat.le_refl _) _).alloc (by simp) _
    have hs1 : (wc.alloc (.cells #[.int .i64 (ty.length : Int), .int .u64 (wd ty 0 : Int), .int .u64 (wd ty 1 : Int), .int .u64 (wd ty 2 : Int), .int .u64 (wd ty 3 : Int), .bool true, .int .i64 (hd : Int), .int .i64 s.turn, .int .i64 ((i : Int) + 1)] 102)).heap.size = wc.heap.size + 1 := by simp
    have hq1 : ((wc.alloc (.cells #[.int .i64 (ty.length : Int), .int .u64 (wd ty 0 : Int), .int .u64 (wd ty 1 : Int), .int .u64 (wd ty 2 : Int), .int .u64 (wd ty 3 : Int), .bool true, .int .i64 (hd : Int), .int .i64 s.turn, .int .i64 ((i : Int) + 1)] 102)).alloc (.cells #[.int .i64 0, .int .u64 0, .int .u64 0, .int .u64 0, .int .u64 0, .bool false, .int .i64 0, .int .i64 0, .int .i64 (-1)] 102)).heap[wc.heap.size]? = some (.cells #[.int .i64 (ty.length : Int), .int .u64 (wd ty 0 : Int), .int .u64 (wd ty 1 : Int), .int .u64 (wd ty 2 : Int), .int .u64 (wd ty 3 : Int), .bool true, .int .i64 (hd : Int), .int .i64 s.turn, .int .i64 ((i : Int) + 1)] 102 (0, 0)) := al_old (heap_alloc_new wc _)
    have hq2 : ((wc.alloc (.cells #[.int .i64 (ty.length : Int), .int .u64 (wd ty 0 : Int), .int .u64 (wd ty 1 : Int), .int .u64 (wd ty 2 : Int), .int .u64 (wd ty 3 : Int), .bool true, .int .i64 (hd : Int), .int .i64 s.turn, .int .i64 ((i : Int) + 1)] 102)).alloc (.cells #[.int .i64 0, .int .u64 0, .int .u64 0, .int .u64 0, .int .u64 0, .bool false, .int .i64 0, .int .i64 0, .int .i64 (-1)] 102)).heap[wc.heap.size + 1]? = some (.cells #[.int .i64 0, .int .u64 0, .int .u64 0, .int .u64 0, .int .u64 0, .bool false, .int .i64 0, .int .i64 0, .int .i64 (-1)] 102 (0, 0)) := by
      have hq := heap_alloc_new (wc.alloc (.cells #[.int .i64 (ty.length : Int), .int .u64 (wd ty 0 : Int), .int .u64 (wd ty 1 : Int), .int .u64 (wd ty 2 : Int), .int .u64 (wd ty 3 : Int), .bool true, .int .i64 (hd : Int), .int .i64 s.turn, .int .i64 ((i : Int) + 1)] 102)) (.cells #[.int .i64 0, .int .u64 0, .int .u64 0, .int .u64 0, .int .u64 0, .bool false, .int .i64 0, .int .i64 0, .int .i64 (-1)] 102)
      rw [hs1] at hq
      exact hq
    have HX2 : Hid (Below w.heap.size w ((wc.alloc (.cells #[.int .i64 (ty.length : Int), .int .u64 (wd ty 0 : Int), .int .u64 (wd ty 1 : Int), .int .u64 (wd ty 2 : Int), .int .u64 (wd ty 3 : Int), .bool true, .int .i64 (hd : Int), .int .i64 s.turn, .int .i64 ((i : Int) + 1)] 102)).alloc (.cells #[.int .i64 0, .int .u64 0, .int .u64 0, .int .u64 0, .int .u64 0, .bool false, .int .i64 0, .int .i64 0, .int .i64 (-1)] 102)) ∧ ((wc.alloc (.cells #[.int .i64 (ty.length : Int), .int .u64 (wd ty 0 : Int), .int .u64 (wd ty 1 : Int), .int .u64 (wd ty 2 : Int), .int .u64 (wd ty 3 : Int), .bool true, .int .i64 (hd : Int), .int .i64 s.turn, .int .i64 ((i : Int) + 1)] 102)).alloc (.cells #[.int .i64 0, .int .u64 0, .int .u64 0, .int .u64 0, .int .u64 0, .bool false, .int .i64 0, .int .i64 0, .int .i64 (-1)] 102)).heap[w.heap.size]? = some (.cells #[.int .i64 0, .int .u64 0, .int .u64 0, .int .u64 0, .int .u64 0, .bool false, .int .i64 0, .int .i64 0, .int .i64 0, .int .i64 0, .int .u64 0, .int .u64 0, .int .u64 0, .int .u64 0, .bool false, .int .i64 0, .int .i64 0, .int .i64 0] 103 (0, 0)) ∧ ((wc.alloc (.cells #[.int .i64 (ty.length : Int), .int .u64 (wd ty 0 : Int), .int .u64 (wd ty 1 : Int), .int .u64 (wd ty 2 : Int), .int .u64 (wd ty 3 : Int), .bool true, .int .i64 (hd : Int), .int .i64 s.turn, .int .i64 ((i : Int) + 1)] 102)).alloc (.cells #[.int .i64 0, .int .u64 0, .int .u64 0, .int .u64 0, .int .u64 0, .bool false, .int .i64 0, .int .i64 0, .int .i64 (-1)] 102)).heap[bs]? = some (.cells #[.int .i64 (ty.length : Int), .int .u64 (wd ty 0 : Int), .int .u64 (wd ty 1 : Int), .int .u64 (wd ty 2 : Int), .int .u64 (wd ty 3 : Int), .bool true, .int .i64 (hd : Int), .int .i64 s.turn] 71 (0, 0)) ∧ ((wc.alloc (.cells #[.int .i64 (ty.length : Int), .int .u64 (wd ty 0 : Int), .int .u64 (wd ty 1 : Int), .int .u64 (wd ty 2 : Int), .int .u64 (wd ty 3 : Int), .bool true, .int .i64 (hd : Int), .int .i64 s.turn, .int .i64 ((i : Int) + 1)] 102)).alloc (.cells #[.int .i64 0, .int .u64 0, .int .u64 0, .int .u64 0, .int .u64 0, .bool false, .int .i64 0, .int .i64 0, .int .i64 (-1)] 102)).heap[bi]? = some (.cells #[.int .i64 y0, .int .i64 y1, .int .i64 y2, .int .i64 y3, .int .i64 y4] 54 (0, 0)) ∧ ((wc.alloc (.cells #[.int .i64 (ty.length : Int), .int .u64 (wd ty 0 : Int), .int .u64 (wd ty 1 : Int), .int .u64 (wd ty 2 : Int), .int .u64 (wd ty 3 : Int), .bool true, .int .i64 (hd : Int), .int .i64 s.turn, .int .i64 ((i : Int) + 1)] 102)).alloc (.cells #[.int .i64 0, .int .u64 0, .int .u64 0, .int .u64 0, .int .u64 0, .bool false, .int .i64 0, .int .i64 0, .int .i64 (-1)] 102)).heap[wc.heap.size]? = some (.cells #[.int .i64 (ty.length : Int), .int .u64 (wd ty 0 : Int), .int .u64 (wd ty 1 : Int), .int .u64 (wd ty 2 : Int), .int .u64 (wd ty 3 : Int), .bool true, .int .i64 (hd : Int), .int .i64 s.turn, .int .i64 ((i : Int) + 1)] 102 (0, 0)) ∧ ((wc.alloc (.cells #[.int .i64 (ty.length : Int), .int .u64 (wd ty 0 : Int), .int .u64 (wd ty 1 : Int), .int .u64 (wd ty 2 : Int), .int .u64 (wd ty 3 : Int), .bool true, .int .i64 (hd : Int), .int .i64 s.turn, .int .i64 ((i : Int) + 1)] 102)).alloc (.cells #[.int .i64 0, .int .u64 0, .int .u64 0, .int .u64 0, .int .u64 0, .bool false, .int .i64 0, .int .i64 0, .int .i64 (-1)] 102)).heap[wc.heap.size + 1]? = some (.cells #[.int .i64 0, .int .u64 0, .int .u64 0, .int .u64 0, .int .u64 0, .bool false, .int .i64 0, .int .i64 0, .int .i64 (-1)] 102 (0, 0))) := ⟨hB0.trans (hb2.mono hB0.size), al_old (al_old hR0), al_old (al_old hsi.hs), al_old (al_old hsi.hi), hq1, hq2⟩
    have HNe : Hid (bs ≠ w.heap.size ∧ bi ≠ w.heap.size ∧ wc.heap.size ≠ w.heap.size ∧ wb ≠ w.heap.size ∧ gb ≠ w.heap.size) := ⟨by have := hsi.ls; have := HX0.out.2.2; omega, by have := hsi.li; have := HX0.out.2.2; omega, by omega, by have := blk_lt HW.out.hw; omega, by have := blk_lt HW.out.gt; omega⟩
    clear hsi hB0 hR0 hlw hb2 hs1 hq1 hq2 HSb HX0 HBe
    go_upto_region 3 with fail
    clear i0 i1 i2 i3 i4 j0 j1 j2 j3 j4 j5 j6 j7
    generalize wc.heap.size = wn at *
    generalize (wc.alloc (.cells #[.int .i64 (ty.length : Int), .int .u64 (wd ty 0 : Int), .int .u64 (wd ty 1 : Int), .int .u64 (wd ty 2 : Int), .int .u64 (wd ty 3 : Int), .bool true, .int .i64 (hd : Int), .int .i64 s.turn, .int .i64 ((i : Int) + 1)] 102)).alloc (.cells #[.int .i64 0, .int .u64 0, .int .u64 0, .int .u64 0, .int .u64 0, .bool false, .int .i64 0, .int .i64 0, .int .i64 (-1)] 102) = W2 at *
    obtain ⟨i0, i1, i2, i3, i4⟩ := cells5 HX2.out.2.2.2.1
    obtain ⟨j0, j1, j2, j3, j4, j5, j6, j7⟩ := cells8 HX2.out.2.2.1
    obtain ⟨k0, k1, k2, k3, k4, k5, k6, k7, k8⟩ := cells9 HX2.out.2.2.2.2.1
    obtain ⟨l0, l1, l2, l3, l4, l5, l6, l7, l8⟩ := cells9 HX2.out.2.2.2.2.2
    have hR := HR.out
    clear HR
    by_cases o0 : y0 = 0 ∨ y0 = 27
    · have hr : R = [] := by rw [hR]; rcases o0 with rfl | rfl <;> rfl
      clear hR HW HI HTn
      rcases o0 with rfl | rfl
      · go_wp2_with (refine wpList_store_row rfl 103 _ _ rfl w.heap.size _ rfl rfl 103 _ HX2.out.2.1 (by kernel_rfl) rfl (by kernel_rfl) ?_)
        have hh := setRow_heap _ _ _ #[.int .i64 0, .int .u64 0, .int .u64 0, .int .u64 0, .int .u64 0, .bool false, .int .i64 0, .int .i64 0, .int .i64 (-1), .int .i64 0, .int .u64 0, .int .u64 0, .int .u64 0, .int .u64 0, .bool false, .int .i64 0, .int .i64 0, .int .i64 (-1)] _ _ HX2.out.2.1
        refine bodyPost_ret (results_cell_row (P := Tryd.prog) (fn := Tryd.f43) Tryd.results43 _ _ w.heap.size 103 #[.int .i64 0, .int .u64 0, .int .u64 0, .int .u64 0, .int .u64 0, .bool false, .int .i64 0, .int .i64 0, .int .i64 (-1), .int .i64 0, .int .u64 0, .int .u64 0, .int .u64 0, .int .u64 0, .bool false, .int .i64 0, .int .i64 0, .int .i64 (-1)] (0, 0) _ rfl hh Tryd.underlying103 rfl (by kernel_rfl)) rfl ?_
        exact ⟨by rw [hr]; rfl, below_setRow HX2.out.1 (Nat.le_refl _)⟩
      · go_wp2_with (refine wpList_store_row rfl 103 _ _ rfl w.heap.size _ rfl rfl 103 _ HX2.out.2.1 (by kernel_rfl) rfl (by kernel_rfl) ?_)
        have hh := setRow_heap _ _ _ #[.int .i64 0, .int .u64 0, .int .u64 0, .int .u64 0, .int .u64 0, .bool false, .int .i64 0, .int .i64 0, .int .i64 (-1), .int .i64 0, .int .u64 0, .int .u64 0, .int .u64 0, .int .u64 0, .bool false, .int .i64 0, .int .i64 0, .int .i64 (-1)] _ _ HX2.out.2.1
        refine bodyPost_ret (results_cell_row (P := Tryd.prog) (fn := Tryd.f43) Tryd.results43 _ _ w.heap.size 103 #[.int .i64 0, .int .u64 0, .int .u64 0, .int .u64 0, .int .u64 0, .bool false, .int .i64 0, .int .i64 0, .int .i64 (-1), .int .i64 0, .int .u64 0, .int .u64 0, .int .u64 0, .int .u64 0, .bool false, .int .i64 0, .int .i64 0, .int .i64 (-1)] (0, 0) _ rfl hh Tryd.underlying103 rfl (by kernel_rfl)) rfl ?_
        exact ⟨by rw [hr]; rfl, below_setRow HX2.out.1 (Nat.le_refl _)⟩
    have o1 : ¬ y0 = 0 := fun e => o0 (Or.inl e)
    have o2 : ¬ y0 = 27 := fun e => o0 (Or.inr e)
    simp only [o1, o2, decide_false, Bool.or_self, Bool.false_eq_true, if_false] at hR
    clear o0
    by_cases o22 : y0 = 22
    · subst o22
      have hr : R = [(y1, ⟨ty, hd, s.turn⟩)] := hR
      clear hR HW HI HTn
      go_wp2_with (refine wpList_store_row rfl 103 _ _ rfl w.heap.size _ rfl rfl 103 _ HX2.out.2.1 (by kernel_rfl) rfl (by kernel_rfl) ?_)
      have hh := setRow_heap _ _ _ #[.int .i64 (ty.length : Int), .int .u64 (wd ty 0 : Int), .int .u64 (wd ty 1 : Int), .int .u64 (wd ty 2 : Int), .int .u64 (wd ty 3 : Int), .bool true, .int .i64 (hd : Int), .int .i64 s.turn, .int .i64 y1, .int .i64 0, .int .u64 0, .int .u64 0, .int .u64 0, .int .u64 0, .bool false, .int .i64 0, .int .i64 0, .int .i64 (-1)] _ _ HX2.out.2.1
      refine bodyPost_ret (results_cell_row (P := Tryd.prog) (fn := Tryd.f43) Tryd.results43 _ _ w.heap.size 103 #[.int .i64 (ty.length : Int), .int .u64 (wd ty 0 : Int), .int .u64 (wd ty 1 : Int), .int .u64 (wd ty 2 : Int), .int .u64 (wd ty 3 : Int), .bool true, .int .i64 (hd : Int), .int .i64 s.turn, .int .i64 y1, .int .i64 0, .int .u64 0, .int .u64 0, .int .u64 0, .int .u64 0, .bool false, .int .i64 0, .int .i64 0, .int .i64 (-1)] (0, 0) _ rfl hh Tryd.underlying103 rfl (by kernel_rfl)) rfl ?_
      exact ⟨by rw [hr]; rfl, below_setRow HX2.out.1 (Nat.le_refl _)⟩
    simp only [o22, if_false] at hR
    by_cases o23 : y0 = 23
    · subst o23
      have hr : R = [((i : Int) + 1, ⟨ty, hd, s.turn⟩), (y1, ⟨ty, hd, s.turn⟩)] := hR
      clear hR HW HI HTn
      go_wp2_with (refine wpList_store_row rfl 103 _ _ rfl w.heap.size _ rfl rfl 103 _ HX2.out.2.1 (by kernel_rfl) rfl (by kernel_rfl) ?_)
      have hh := setRow_heap _ _ _ #[.int .i64 (ty.length : Int), .int .u64 (wd ty 0 : Int), .int .u64 (wd ty 1 : Int), .int .u64 (wd ty 2 : Int), .int .u64 (wd ty 3 : Int), .bool true, .int .i64 (hd : Int), .int .i64 s.turn, .int .i64 ((i : Int) + 1), .int .i64 (ty.length : Int), .int .u64 (wd ty 0 : Int), .int .u64 (wd ty 1 : Int), .int .u64 (wd ty 2 : Int), .int .u64 (wd ty 3 : Int), .bool true, .int .i64 (hd : Int), .int .i64 s.turn, .int .i64 y1] _ _ HX2.out.2.1
      refine bodyPost_ret (results_cell_row (P := Tryd.prog) (fn := Tryd.f43) Tryd.results43 _ _ w.heap.size 103 #[.int .i64 (ty.length : Int), .int .u64 (wd ty 0 : Int), .int .u64 (wd ty 1 : Int), .int .u64 (wd ty 2 : Int), .int .u64 (wd ty 3 : Int), .bool true, .int .i64 (hd : Int), .int .i64 s.turn, .int .i64 ((i : Int) + 1), .int .i64 (ty.length : Int), .int .u64 (wd ty 0 : Int), .int .u64 (wd ty 1 : Int), .int .u64 (wd ty 2 : Int), .int .u64 (wd ty 3 : Int), .bool true, .int .i64 (hd : Int), .int .i64 s.turn, .int .i64 y1] (0, 0) _ rfl hh Tryd.underlying103 rfl (by kernel_rfl)) rfl ?_
      exact ⟨by rw [hr]; rfl, below_setRow HX2.out.1 (Nat.le_refl _)⟩
    simp only [o23, if_false] at hR
    by_cases o25 : y0 = 25
    · subst o25
      have hr : R = [((i : Int) + 1, ⟨ty, hd, (i : Int)⟩), (y1, ⟨ty, hd, s.turn⟩)] := hR
      have HWi : Hid (∀ W, Calls Tryd.prog 69 #[.agg #[.int .i64 (ty.length : Int), .int .u64 (wd ty 0 : Int), .int .u64 (wd ty 1 : Int), .int .u64 (wd ty 2 : Int), .int .u64 (wd ty 3 : Int), .bool true, .int .i64 (hd : Int), .int .i64 s.turn], .int .i64 (i : Int)] W fun e w' => e = .returned (.agg #[.int .i64 (ty.length : Int), .int .u64 (wd ty 0 : Int), .int .u64 (wd ty 1 : Int), .int .u64 (wd ty 2 : Int), .int .u64 (wd ty 3 : Int), .bool true, .int .i64 (hd : Int), .int .i64 (i : Int)]) ∧ Below W.heap.size W w') := fun W => within_any ⟨ty, hd, s.turn⟩ (i : Int) W
      have hwr : IntKind.i64.wrap ((i : Int) + 1) = (i : Int) + 1 := by rw [IntKind.wrap_i64]; omega
      clear hR HW HI HTn
      have HSw : Hid (∀ W, Below W2.heap.size W2 W → (fun w' : World => w'.cell? ⟨bs, 0, none⟩ = some (.int .i64 (ty.length : Int)) ∧ w'.cell? ⟨bs, 1, none⟩ = some (.int .u64 (wd ty 0 : Int)) ∧ w'.cell? ⟨bs, 2, none⟩ = some (.int .u64 (wd ty 1 : Int)) ∧ w'.cell? ⟨bs, 3, none⟩ = some (.int .u64 (wd ty 2 : Int)) ∧ w'.cell? ⟨bs, 4, none⟩ = some (.int .u64 (wd ty 3 : Int)) ∧ w'.cell? ⟨bs, 5, none⟩ = some (.bool true) ∧ w'.cell? ⟨bs, 6, none⟩ = some (.int .i64 (hd : Int)) ∧ w'.cell? ⟨bs, 7, none⟩ = some (.int .i64 s.turn) ∧ w'.cell? ⟨bi, 1, none⟩ = some (.int .i64 y1)) (W.setRow w.heap.size #[.int .i64 (ty.length : Int), .int .u64 (wd ty 0 : Int), .int .u64 (wd ty 1 : Int), .int .u64 (wd ty 2 : Int), .int .u64 (wd ty 3 : Int), .bool true, .int .i64 (hd : Int), .int .i64 (i : Int), .int .i64 ((i : Int) + 1), .int .i64 (ty.length : Int), .int .u64 (wd ty 0 : Int), .int .u64 (wd ty 1 : Int), .int .u64 (wd ty 2 : Int), .int .u64 (wd ty 3 : Int), .bool true, .int .i64 (hd : Int), .int .i64 s.turn, .int .i64 y1])) := fun W hb => by
        have hc : ∀ b o v, b ≠ w.heap.size → W2.cell? ⟨b, o, none⟩ = some v → (W.setRow w.heap.size #[.int .i64 (ty.length : Int), .int .u64 (wd ty 0 : Int), .int .u64 (wd ty 1 : Int), .int .u64 (wd ty 2 : Int), .int .u64 (wd ty 3 : Int), .bool true, .int .i64 (hd : Int), .int .i64 (i : Int), .int .i64 ((i : Int) + 1), .int .i64 (ty.length : Int), .int .u64 (wd ty 0 : Int), .int .u64 (wd ty 1 : Int), .int .u64 (wd ty 2 : Int), .int .u64 (wd ty 3 : Int), .bool true, .int .i64 (hd : Int), .int .i64 s.turn, .int .i64 y1]).cell? ⟨b, o, none⟩ = some v := fun b o v hne hv => by
          have hlt : b < W2.heap.size := by
            rcases Nat.lt_or_ge b W2.heap.size with h1 | h1
            · exact h1
            · exfalso
              simp [World.cell?, Array.getElem?_eq_none h1] at hv
          exact ((World.cell?_of_block (a := ⟨b, o, none⟩) (setRow_other W w.heap.size b #[.int .i64 (ty.length : Int), .int .u64 (wd ty 0 : Int), .int .u64 (wd ty 1 : Int), .int .u64 (wd ty 2 : Int), .int .u64 (wd ty 3 : Int), .bool true, .int .i64 (hd : Int), .int .i64 (i : Int), .int .i64 ((i : Int) + 1), .int .i64 (ty.length : Int), .int .u64 (wd ty 0 : Int), .int .u64 (wd ty 1 : Int), .int .u64 (wd ty 2 : Int), .int .u64 (wd ty 3 : Int), .bool true, .int .i64 (hd : Int), .int .i64 s.turn, .int .i64 y1] hne)).trans (hb.cell (p := ⟨b, o, none⟩) hlt)).trans hv
        exact ⟨hc _ _ _ HNe.out.1 j0, hc _ _ _ HNe.out.1 j1, hc _ _ _ HNe.out.1 j2, hc _ _ _ HNe.out.1 j3, hc _ _ _ HNe.out.1 j4, hc _ _ _ HNe.out.1 j5, hc _ _ _ HNe.out.1 j6, hc _ _ _ HNe.out.1 j7, hc _ _ _ HNe.out.2.1 i1⟩
      have HS2 : Hid (∀ W, Below W2.heap.size W2 W → (fun w' : World => w'.cell? ⟨bs, 0, none⟩ = some (.int .i64 (ty.length : Int)) ∧ w'.cell? ⟨bs, 1, none⟩ = some (.int .u64 (wd ty 0 : Int)) ∧ w'.cell? ⟨bs, 2, none⟩ = some (.int .u64 (wd ty 1 : Int)) ∧ w'.cell? ⟨bs, 3, none⟩ = some (.int .u64 (wd ty 2 : Int)) ∧ w'.cell? ⟨bs, 4, none⟩ = some (.int .u64 (wd ty 3 : Int)) ∧ w'.cell? ⟨bs, 5, none⟩ = some (.bool true) ∧ w'.cell? ⟨bs, 6, none⟩ = some (.int .i64 (hd : Int)) ∧ w'.cell? ⟨bs, 7, none⟩ = some (.int .i64 s.turn) ∧ w'.cell? ⟨bi, 1, none⟩ = some (.int .i64 y1)) W) := fun W hb => by
        have hc : ∀ b o v, W2.cell? ⟨b, o, none⟩ = some v → W.cell? ⟨b, o, none⟩ = some v := fun b o v hv => by
          have hlt : b < W2.heap.size := by
            rcases Nat.lt_or_ge b W2.heap.size with h1 | h1
            · exact h1
            · exfalso
              simp [World.cell?, Array.getElem?_eq_none h1] at hv
          exact (hb.cell (p := ⟨b, o, none⟩) hlt).trans hv
        exact ⟨hc _ _ _ j0, hc _ _ _ j1, hc _ _ _ j2, hc _ _ _ j3, hc _ _ _ j4, hc _ _ _ j5, hc _ _ _ j6, hc _ _ _ j7, hc _ _ _ i1⟩
      go_wp2_with fail
      refine wp_region_held (S := fun w' : World => w'.cell? ⟨bs, 0, none⟩ = some (.int .i64 (ty.length : Int)) ∧ w'.cell? ⟨bs, 1, none⟩ = some (.int .u64 (wd ty 0 : Int)) ∧ w'.cell? ⟨bs, 2, none⟩ = some (.int .u64 (wd ty 1 : Int)) ∧ w'.cell? ⟨bs, 3, none⟩ = some (.int .u64 (wd ty 2 : Int)) ∧ w'.cell? ⟨bs, 4, none⟩ = some (.int .u64 (wd ty 3 : Int)) ∧ w'.cell? ⟨bs, 5, none⟩ = some (.bool true) ∧ w'.cell? ⟨bs, 6, none⟩ = some (.int .i64 (hd : Int)) ∧ w'.cell? ⟨bs, 7, none⟩ = some (.int .i64 s.turn) ∧ w'.cell? ⟨bi, 1, none⟩ = some (.int .i64 y1)) (by kernel_rfl) ?_
      have hS : (fun w' : World => w'.cell? ⟨bs, 0, none⟩ = some (.int .i64 (ty.length : Int)) ∧ w'.cell? ⟨bs, 1, none⟩ = some (.int .u64 (wd ty 0 : Int)) ∧ w'.cell? ⟨bs, 2, none⟩ = some (.int .u64 (wd ty 1 : Int)) ∧ w'.cell? ⟨bs, 3, none⟩ = some (.int .u64 (wd ty 2 : Int)) ∧ w'.cell? ⟨bs, 4, none⟩ = some (.int .u64 (wd ty 3 : Int)) ∧ w'.cell? ⟨bs, 5, none⟩ = some (.bool true) ∧ w'.cell? ⟨bs, 6, none⟩ = some (.int .i64 (hd : Int)) ∧ w'.cell? ⟨bs, 7, none⟩ = some (.int .i64 s.turn) ∧ w'.cell? ⟨bi, 1, none⟩ = some (.int .i64 y1)) W2.drew := HS2.out _ (Below.refl _ W2).drew
      change wpAnyH _ _ _ _ _ _ _ _ W2.drew
      refine tqA 0 rfl hS ?_
      refine tqA 1 rfl hS ?_
      refine tqA 3 rfl hS ?_
      refine tqA (v := .int .i64 ((i : Int) + 1)) 4 rfl hS ?_
      refine tqA 6 rfl hS ?_
      refine tqA 7 rfl hS ?_
      refine tqA 8 rfl hS ?_
      refine tqA 9 rfl hS ?_
      refine wpAnyH_ready (rs := [2]) (by kernel_rfl) (by simp) ?_
      refine AllReadyH.cons rfl (fun K hK => ?_) AllReadyH.nil
      go_simp
      refine Calls.mono (HWi.out _) ?_
      rintro e w7 ⟨rfl, hb7⟩
      have hb8 : Below W2.heap.size W2 w7 := (Below.refl _ W2).drew.trans (hb7.mono (Nat.le_refl _))
      have hR7 := (hb8.block _ (blk_lt HX2.out.2.1)).trans HX2.out.2.1
      have HB8 : Hid (Below w.heap.size w w7) := HX2.out.1.trans (hb8.mono HX2.out.1.size)
      refine hK.out _ _ (HS2.out _ hb8) (fun hS => ?_)
      refine tqA 5 rfl hS ?_
      refine tqA 10 rfl hS ?_
      refine wpAnyH_ready (rs := [11]) (by kernel_rfl) (by simp) ?_
      refine AllReadyH.cons rfl (fun K hK => ?_) AllReadyH.nil
      refine step_store rfl 103 (.tmp 4) (.tmp 61) rfl _ #[.int .i64 (ty.length : Int), .int .u64 (wd ty 0 : Int), .int .u64 (wd ty 1 : Int), .int .u64 (wd ty 2 : Int), .int .u64 (wd ty 3 : Int), .bool true, .int .i64 (hd : Int), .int .i64 (i : Int), .int .i64 ((i : Int) + 1), .int .i64 (ty.length : Int), .int .u64 (wd ty 0 : Int), .int .u64 (wd ty 1 : Int), .int .u64 (wd ty 2 : Int), .int .u64 (wd ty 3 : Int), .bool true, .int .i64 (hd : Int), .int .i64 s.turn, .int .i64 y1] rfl rfl 103 _ hR7 (by kernel_rfl) rfl (by kernel_rfl) ?_
      have hh := setRow_heap _ _ _ #[.int .i64 (ty.length : Int), .int .u64 (wd ty 0 : Int), .int .u64 (wd ty 1 : Int), .int .u64 (wd ty 2 : Int), .int .u64 (wd ty 3 : Int), .bool true, .int .i64 (hd : Int), .int .i64 (i : Int), .int .i64 ((i : Int) + 1), .int .i64 (ty.length : Int), .int .u64 (wd ty 0 : Int), .int .u64 (wd ty 1 : Int), .int .u64 (wd ty 2 : Int), .int .u64 (wd ty 3 : Int), .bool true, .int .i64 (hd : Int), .int .i64 s.turn, .int .i64 y1] _ _ hR7
      refine hK.out _ _ ?_ (fun hS => ?_)
      · exact HSw.out _ hb8
      refine wpAnyH_done (by kernel_rfl) ?_ _
      have Hh : Hid _ := hh
      clear hK K hS hb7 hb8 hh
      go_wp2_with fail
      refine bodyPost_ret (results_cell_row (P := Tryd.prog) (fn := Tryd.f43) Tryd.results43 _ _ w.heap.size 103 #[.int .i64 (ty.length : Int), .int .u64 (wd ty 0 : Int), .int .u64 (wd ty 1 : Int), .int .u64 (wd ty 2 : Int), .int .u64 (wd ty 3 : Int), .bool true, .int .i64 (hd : Int), .int .i64 (i : Int), .int .i64 ((i : Int) + 1), .int .i64 (ty.length : Int), .int .u64 (wd ty 0 : Int), .int .u64 (wd ty 1 : Int), .int .u64 (wd ty 2 : Int), .int .u64 (wd ty 3 : Int), .bool true, .int .i64 (hd : Int), .int .i64 s.turn, .int .i64 y1] (0, 0) _ rfl Hh.out Tryd.underlying103 rfl (by kernel_rfl)) rfl ?_
      exact ⟨rfl, below_setRow HB8.out (Nat.le_refl _)⟩
    simp only [o25, if_false] at hR
    by_cases o26 : y0 = 26
    · subst o26
      obtain ⟨k, hk, tk, hgk, htk⟩ := HTn.out rfl
      have htt : tnAt g s.turn = tk.turn := htk
      have hr : R = [((i : Int) + 1, ⟨ty, hd, s.turn⟩), (y1, ⟨ty, hd, tk.turn⟩)] := by rw [hR, ← htt]; rfl
      clear hR htk htt HTn
      generalize s.turn = tn at *
      subst hk
      have hkl := HI.out.lt _ _ hgk
      have hkl' : (k : Int) < (p.cd.length : Int) := by omega
      have hWk := HW.out.below HX2.out.1
      obtain ⟨-, -, -, -, -, -, -, c7⟩ := cells8 hWk.hw
      obtain ⟨-, -, -, -, -, -, -, f7⟩ := hWk.isS hkl hgk
      have HWi : Hid (∀ W, Calls Tryd.prog 69 #[.agg #[.int .i64 (ty.length : Int), .int .u64 (wd ty 0 : Int), .int .u64 (wd ty 1 : Int), .int .u64 (wd ty 2 : Int), .int .u64 (wd ty 3 : Int), .bool true, .int .i64 (hd : Int), .int .i64 (k : Int)], .int .i64 tk.turn] W fun e w' => e = .returned (.agg #[.int .i64 (ty.length : Int), .int .u64 (wd ty 0 : Int), .int .u64 (wd ty 1 : Int), .int .u64 (wd ty 2 : Int), .int .u64 (wd ty 3 : Int), .bool true, .int .i64 (hd : Int), .int .i64 tk.turn]) ∧ Below W.heap.size W w') := fun W => within_any ⟨ty, hd, (k : Int)⟩ tk.turn W
      clear HW HI hgk hWk hkl
      have HSw : Hid (∀ W, Below W2.heap.size W2 W → (fun w' : World => w'.cell? ⟨bs, 0, none⟩ = some (.int .i64 (ty.length : Int)) ∧ w'.cell? ⟨bs, 1, none⟩ = some (.int .u64 (wd ty 0 : Int)) ∧ w'.cell? ⟨bs, 2, none⟩ = some (.int .u64 (wd ty 1 : Int)) ∧ w'.cell? ⟨bs, 3, none⟩ = some (.int .u64 (wd ty 2 : Int)) ∧ w'.cell? ⟨bs, 4, none⟩ = some (.int .u64 (wd ty 3 : Int)) ∧ w'.cell? ⟨bs, 5, none⟩ = some (.bool true) ∧ w'.cell? ⟨bs, 6, none⟩ = some (.int .i64 (hd : Int)) ∧ w'.cell? ⟨bs, 7, none⟩ = some (.int .i64 (k : Int)) ∧ w'.cell? ⟨bi, 1, none⟩ = some (.int .i64 y1) ∧ w'.cell? ⟨wn, 0, none⟩ = some (.int .i64 (ty.length : Int)) ∧ w'.cell? ⟨wn, 1, none⟩ = some (.int .u64 (wd ty 0 : Int)) ∧ w'.cell? ⟨wn, 2, none⟩ = some (.int .u64 (wd ty 1 : Int)) ∧ w'.cell? ⟨wn, 3, none⟩ = some (.int .u64 (wd ty 2 : Int)) ∧ w'.cell? ⟨wn, 4, none⟩ = some (.int .u64 (wd ty 3 : Int)) ∧ w'.cell? ⟨wn, 5, none⟩ = some (.bool true) ∧ w'.cell? ⟨wn, 6, none⟩ = some (.int .i64 (hd : Int)) ∧ w'.cell? ⟨wn, 7, none⟩ = some (.int .i64 (k : Int)) ∧ w'.cell? ⟨wn, 8, none⟩ = some (.int .i64 ((i : Int) + 1)) ∧ w'.cell? ⟨wb, 7, none⟩ = some (.slice (some ⟨gb, 0, none⟩) p.cd.length gc) ∧ w'.cell? ⟨gb, k * 8 + 7, none⟩ = some (.int .i64 tk.turn)) (W.setRow w.heap.size #[.int .i64 (ty.length : Int), .int .u64 (wd ty 0 : Int), .int .u64 (wd ty 1 : Int), .int .u64 (wd ty 2 : Int), .int .u64 (wd ty 3 : Int), .bool true, .int .i64 (hd : Int), .int .i64 (k : Int), .int .i64 ((i : Int) + 1), .int .i64 (ty.length : Int), .int .u64 (wd ty 0 : Int), .int .u64 (wd ty 1 : Int), .int .u64 (wd ty 2 : Int), .int .u64 (wd ty 3 : Int), .bool true, .int .i64 (hd : Int), .int .i64 tk.turn, .int .i64 y1])) := fun W hb => by
        have hc : ∀ b o v, b ≠ w.heap.size → W2.cell? ⟨b, o, none⟩ = some v → (W.setRow w.heap.size #[.int .i64 (ty.length : Int), .int .u64 (wd ty 0 : Int), .int .u64 (wd ty 1 : Int), .int .u64 (wd ty 2 : Int), .int .u64 (wd ty 3 : Int), .bool true, .int .i64 (hd : Int), .int .i64 (k : Int), .int .i64 ((i : Int) + 1), .int .i64 (ty.length : Int), .int .u64 (wd ty 0 : Int), .int .u64 (wd ty 1 : Int), .int .u64 (wd ty 2 : Int), .int .u64 (wd ty 3 : Int), .bool true, .int .i64 (hd : Int), .int .i64 tk.turn, .int .i64 y1]).cell? ⟨b, o, none⟩ = some v := fun b o v hne hv => by
          have hlt : b < W2.heap.size := by
            rcases Nat.lt_or_ge b W2.heap.size with h1 | h1
            · exact h1
            · exfalso
              simp [World.cell?, Array.getElem?_eq_none h1] at hv
          exact ((World.cell?_of_block (a := ⟨b, o, none⟩) (setRow_other W w.heap.size b #[.int .i64 (ty.length : Int), .int .u64 (wd ty 0 : Int), .int .u64 (wd ty 1 : Int), .int .u64 (wd ty 2 : Int), .int .u64 (wd ty 3 : Int), .bool true, .int .i64 (hd : Int), .int .i64 (k : Int), .int .i64 ((i : Int) + 1), .int .i64 (ty.length : Int), .int .u64 (wd ty 0 : Int), .int .u64 (wd ty 1 : Int), .int .u64 (wd ty 2 : Int), .int .u64 (wd ty 3 : Int), .bool true, .int .i64 (hd : Int), .int .i64 tk.turn, .int .i64 y1] hne)).trans (hb.cell (p := ⟨b, o, none⟩) hlt)).trans hv
        exact ⟨hc _ _ _ HNe.out.1 j0, hc _ _ _ HNe.out.1 j1, hc _ _ _ HNe.out.1 j2, hc _ _ _ HNe.out.1 j3, hc _ _ _ HNe.out.1 j4, hc _ _ _ HNe.out.1 j5, hc _ _ _ HNe.out.1 j6, hc _ _ _ HNe.out.1 j7, hc _ _ _ HNe.out.2.1 i1, hc _ _ _ HNe.out.2.2.1 k0, hc _ _ _ HNe.out.2.2.1 k1, hc _ _ _ HNe.out.2.2.1 k2, hc _ _ _ HNe.out.2.2.1 k3, hc _ _ _ HNe.out.2.2.1 k4, hc _ _ _ HNe.out.2.2.1 k5, hc _ _ _ HNe.out.2.2.1 k6, hc _ _ _ HNe.out.2.2.1 k7, hc _ _ _ HNe.out.2.2.1 k8, hc _ _ _ HNe.out.2.2.2.1 c7, hc _ _ _ HNe.out.2.2.2.2 f7⟩
      have HS2 : Hid (∀ W, Below W2.heap.size W2 W → (fun w' : World => w'.cell? ⟨bs, 0, none⟩ = some (.int .i64 (ty.length : Int)) ∧ w'.cell? ⟨bs, 1, none⟩ = some (.int .u64 (wd ty 0 : Int)) ∧ w'.cell? ⟨bs, 2, none⟩ = some (.int .u64 (wd ty 1 : Int)) ∧ w'.cell? ⟨bs, 3, none⟩ = some (.int .u64 (wd ty 2 : Int)) ∧ w'.cell? ⟨bs, 4, none⟩ = some (.int .u64 (wd ty 3 : Int)) ∧ w'.cell? ⟨bs, 5, none⟩ = some (.bool true) ∧ w'.cell? ⟨bs, 6, none⟩ = some (.int .i64 (hd : Int)) ∧ w'.cell? ⟨bs, 7, none⟩ = some (.int .i64 (k : Int)) ∧ w'.cell? ⟨bi, 1, none⟩ = some (.int .i64 y1) ∧ w'.cell? ⟨wn, 0, none⟩ = some (.int .i64 (ty.length : Int)) ∧ w'.cell? ⟨wn, 1, none⟩ = some (.int .u64 (wd ty 0 : Int)) ∧ w'.cell? ⟨wn, 2, none⟩ = some (.int .u64 (wd ty 1 : Int)) ∧ w'.cell? ⟨wn, 3, none⟩ = some (.int .u64 (wd ty 2 : Int)) ∧ w'.cell? ⟨wn, 4, none⟩ = some (.int .u64 (wd ty 3 : Int)) ∧ w'.cell? ⟨wn, 5, none⟩ = some (.bool true) ∧ w'.cell? ⟨wn, 6, none⟩ = some (.int .i64 (hd : Int)) ∧ w'.cell? ⟨wn, 7, none⟩ = some (.int .i64 (k : Int)) ∧ w'.cell? ⟨wn, 8, none⟩ = some (.int .i64 ((i : Int) + 1)) ∧ w'.cell? ⟨wb, 7, none⟩ = some (.slice (some ⟨gb, 0, none⟩) p.cd.length gc) ∧ w'.cell? ⟨gb, k * 8 + 7, none⟩ = some (.int .i64 tk.turn)) W) := fun W hb => by
        have hc : ∀ b o v, W2.cell? ⟨b, o, none⟩ = some v → W.cell? ⟨b, o, none⟩ = some v := fun b o v hv => by
          have hlt : b < W2.heap.size := by
            rcases Nat.lt_or_ge b W2.heap.size with h1 | h1
            · exact h1
            · exfalso
              simp [World.cell?, Array.getElem?_eq_none h1] at hv
          exact (hb.cell (p := ⟨b, o, none⟩) hlt).trans hv
        exact ⟨hc _ _ _ j0, hc _ _ _ j1, hc _ _ _ j2, hc _ _ _ j3, hc _ _ _ j4, hc _ _ _ j5, hc _ _ _ j6, hc _ _ _ j7, hc _ _ _ i1, hc _ _ _ k0, hc _ _ _ k1, hc _ _ _ k2, hc _ _ _ k3, hc _ _ _ k4, hc _ _ _ k5, hc _ _ _ k6, hc _ _ _ k7, hc _ _ _ k8, hc _ _ _ c7, hc _ _ _ f7⟩
      go_wp2_with fail
      refine wp_region_held (S := fun w' : World => w'.cell? ⟨bs, 0, none⟩ = some (.int .i64 (ty.length : Int)) ∧ w'.cell? ⟨bs, 1, none⟩ = some (.int .u64 (wd ty 0 : Int)) ∧ w'.cell? ⟨bs, 2, none⟩ = some (.int .u64 (wd ty 1 : Int)) ∧ w'.cell? ⟨bs, 3, none⟩ = some (.int .u64 (wd ty 2 : Int)) ∧ w'.cell? ⟨bs, 4, none⟩ = some (.int .u64 (wd ty 3 : Int)) ∧ w'.cell? ⟨bs, 5, none⟩ = some (.bool true) ∧ w'.cell? ⟨bs, 6, none⟩ = some (.int .i64 (hd : Int)) ∧ w'.cell? ⟨bs, 7, none⟩ = some (.int .i64 (k : Int)) ∧ w'.cell? ⟨bi, 1, none⟩ = some (.int .i64 y1) ∧ w'.cell? ⟨wn, 0, none⟩ = some (.int .i64 (ty.length : Int)) ∧ w'.cell? ⟨wn, 1, none⟩ = some (.int .u64 (wd ty 0 : Int)) ∧ w'.cell? ⟨wn, 2, none⟩ = some (.int .u64 (wd ty 1 : Int)) ∧ w'.cell? ⟨wn, 3, none⟩ = some (.int .u64 (wd ty 2 : Int)) ∧ w'.cell? ⟨wn, 4, none⟩ = some (.int .u64 (wd ty 3 : Int)) ∧ w'.cell? ⟨wn, 5, none⟩ = some (.bool true) ∧ w'.cell? ⟨wn, 6, none⟩ = some (.int .i64 (hd : Int)) ∧ w'.cell? ⟨wn, 7, none⟩ = some (.int .i64 (k : Int)) ∧ w'.cell? ⟨wn, 8, none⟩ = some (.int .i64 ((i : Int) + 1)) ∧ w'.cell? ⟨wb, 7, none⟩ = some (.slice (some ⟨gb, 0, none⟩) p.cd.length gc) ∧ w'.cell? ⟨gb, k * 8 + 7, none⟩ = some (.int .i64 tk.turn)) (by kernel_rfl) ?_
      have hS : (fun w' : World => w'.cell? ⟨bs, 0, none⟩ = some (.int .i64 (ty.length : Int)) ∧ w'.cell? ⟨bs, 1, none⟩ = some (.int .u64 (wd ty 0 : Int)) ∧ w'.cell? ⟨bs, 2, none⟩ = some (.int .u64 (wd ty 1 : Int)) ∧ w'.cell? ⟨bs, 3, none⟩ = some (.int .u64 (wd ty 2 : Int)) ∧ w'.cell? ⟨bs, 4, none⟩ = some (.int .u64 (wd ty 3 : Int)) ∧ w'.cell? ⟨bs, 5, none⟩ = some (.bool true) ∧ w'.cell? ⟨bs, 6, none⟩ = some (.int .i64 (hd : Int)) ∧ w'.cell? ⟨bs, 7, none⟩ = some (.int .i64 (k : Int)) ∧ w'.cell? ⟨bi, 1, none⟩ = some (.int .i64 y1) ∧ w'.cell? ⟨wn, 0, none⟩ = some (.int .i64 (ty.length : Int)) ∧ w'.cell? ⟨wn, 1, none⟩ = some (.int .u64 (wd ty 0 : Int)) ∧ w'.cell? ⟨wn, 2, none⟩ = some (.int .u64 (wd ty 1 : Int)) ∧ w'.cell? ⟨wn, 3, none⟩ = some (.int .u64 (wd ty 2 : Int)) ∧ w'.cell? ⟨wn, 4, none⟩ = some (.int .u64 (wd ty 3 : Int)) ∧ w'.cell? ⟨wn, 5, none⟩ = some (.bool true) ∧ w'.cell? ⟨wn, 6, none⟩ = some (.int .i64 (hd : Int)) ∧ w'.cell? ⟨wn, 7, none⟩ = some (.int .i64 (k : Int)) ∧ w'.cell? ⟨wn, 8, none⟩ = some (.int .i64 ((i : Int) + 1)) ∧ w'.cell? ⟨wb, 7, none⟩ = some (.slice (some ⟨gb, 0, none⟩) p.cd.length gc) ∧ w'.cell? ⟨gb, k * 8 + 7, none⟩ = some (.int .i64 tk.turn)) W2.drew := HS2.out _ (Below.refl _ W2).drew
      change wpAnyH _ _ _ _ _ _ _ _ W2.drew
      refine tqA 0 rfl hS ?_
      refine tqA 1 rfl hS ?_
      refine tqA 2 rfl hS ?_
      refine tqA 3 rfl hS ?_
      refine tqA 4 rfl hS ?_
      refine tqA 5 rfl hS ?_
      refine tqA 6 rfl hS ?_
      refine tqA 7 rfl hS ?_
      refine tqA 8 rfl hS ?_
      refine tqA 9 rfl hS ?_
      refine tqA 10 rfl hS ?_
      refine tqA 12 rfl hS ?_
      refine tqA 13 rfl hS ?_
      refine wpAnyH_ready (rs := [11]) (by kernel_rfl) (by simp) ?_
      refine AllReadyH.cons rfl (fun K hK => ?_) AllReadyH.nil
      go_simp
      refine Calls.mono (HWi.out _) ?_
      rintro e w7 ⟨rfl, hb7⟩
      have hb8 : Below W2.heap.size W2 w7 := (Below.refl _ W2).drew.trans (hb7.mono (Nat.le_refl _))
      have hR7 := (hb8.block _ (blk_lt HX2.out.2.1)).trans HX2.out.2.1
      have HB8 : Hid (Below w.heap.size w w7) := HX2.out.1.trans (hb8.mono HX2.out.1.size)
      refine hK.out _ _ (HS2.out _ hb8) (fun hS => ?_)
      refine tqA 14 rfl hS ?_
      refine tqA 15 rfl hS ?_
      refine wpAnyH_ready (rs := [16]) (by kernel_rfl) (by simp) ?_
      refine AllReadyH.cons rfl (fun K hK => ?_) AllReadyH.nil
      refine step_store rfl 103 (.tmp 4) (.tmp 79) rfl _ #[.int .i64 (ty.length : Int), .int .u64 (wd ty 0 : Int), .int .u64 (wd ty 1 : Int), .int .u64 (wd ty 2 : Int), .int .u64 (wd ty 3 : Int), .bool true, .int .i64 (hd : Int), .int .i64 (k : Int), .int .i64 ((i : Int) + 1), .int .i64 (ty.length : Int), .int .u64 (wd ty 0 : Int), .int .u64 (wd ty 1 : Int), .int .u64 (wd ty 2 : Int), .int .u64 (wd ty 3 : Int), .bool true, .int .i64 (hd : Int), .int .i64 tk.turn, .int .i64 y1] rfl rfl 103 _ hR7 (by kernel_rfl) rfl (by kernel_rfl) ?_
      have hh := setRow_heap _ _ _ #[.int .i64 (ty.length : Int), .int .u64 (wd ty 0 : Int), .int .u64 (wd ty 1 : Int), .int .u64 (wd ty 2 : Int), .int .u64 (wd ty 3 : Int), .bool true, .int .i64 (hd : Int), .int .i64 (k : Int), .int .i64 ((i : Int) + 1), .int .i64 (ty.length : Int), .int .u64 (wd ty 0 : Int), .int .u64 (wd ty 1 : Int), .int .u64 (wd ty 2 : Int), .int .u64 (wd ty 3 : Int), .bool true, .int .i64 (hd : Int), .int .i64 tk.turn, .int .i64 y1] _ _ hR7
      refine hK.out _ _ ?_ (fun hS => ?_)
      · exact HSw.out _ hb8
      refine wpAnyH_done (by kernel_rfl) ?_ _
      have Hh : Hid _ := hh
      clear hK K hS hb7 hb8 hh
      go_wp2_with fail
      refine bodyPost_ret (results_cell_row (P := Tryd.prog) (fn := Tryd.f43) Tryd.results43 _ _ w.heap.size 103 #[.int .i64 (ty.length : Int), .int .u64 (wd ty 0 : Int), .int .u64 (wd ty 1 : Int), .int .u64 (wd ty 2 : Int), .int .u64 (wd ty 3 : Int), .bool true, .int .i64 (hd : Int), .int .i64 (k : Int), .int .i64 ((i : Int) + 1), .int .i64 (ty.length : Int), .int .u64 (wd ty 0 : Int), .int .u64 (wd ty 1 : Int), .int .u64 (wd ty 2 : Int), .int .u64 (wd ty 3 : Int), .bool true, .int .i64 (hd : Int), .int .i64 tk.turn, .int .i64 y1] (0, 0) _ rfl Hh.out Tryd.underlying103 rfl (by kernel_rfl)) rfl ?_
      exact ⟨rfl, below_setRow HB8.out (Nat.le_refl _)⟩
    simp only [o26, if_false] at hR
    have hr : R = [((i : Int) + 1, ⟨ty, hd, s.turn⟩)] := hR
    clear hR HW HI HTn
    go_wp2_with (refine wpList_store_row rfl 103 _ _ rfl w.heap.size _ rfl rfl 103 _ HX2.out.2.1 (by kernel_rfl) rfl (by kernel_rfl) ?_)
    have hh := setRow_heap _ _ _ #[.int .i64 (ty.length : Int), .int .u64 (wd ty 0 : Int), .int .u64 (wd ty 1 : Int), .int .u64 (wd ty 2 : Int), .int .u64 (wd ty 3 : Int), .bool true, .int .i64 (hd : Int), .int .i64 s.turn, .int .i64 ((i : Int) + 1), .int .i64 0, .int .u64 0, .int .u64 0, .int .u64 0, .int .u64 0, .bool false, .int .i64 0, .int .i64 0, .int .i64 (-1)] _ _ HX2.out.2.1
    refine bodyPost_ret (results_cell_row (P := Tryd.prog) (fn := Tryd.f43) Tryd.results43 _ _ w.heap.size 103 #[.int .i64 (ty.length : Int), .int .u64 (wd ty 0 : Int), .int .u64 (wd ty 1 : Int), .int .u64 (wd ty 2 : Int), .int .u64 (wd ty 3 : Int), .bool true, .int .i64 (hd : Int), .int .i64 s.turn, .int .i64 ((i : Int) + 1), .int .i64 0, .int .u64 0, .int .u64 0, .int .u64 0, .int .u64 0, .bool false, .int .i64 0, .int .i64 0, .int .i64 (-1)] (0, 0) _ rfl hh Tryd.underlying103 rfl (by kernel_rfl)) rfl ?_
    exact ⟨by rw [hr]; rfl, below_setRow HX2.out.1 (Nat.le_refl _)⟩
end Go.Proofs.YtelbakkgobkdaaaDoor.Vf
