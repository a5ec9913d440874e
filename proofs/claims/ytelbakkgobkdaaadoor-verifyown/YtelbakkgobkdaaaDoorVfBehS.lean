import Derived.Test.YtelbakkgobkdaaaDoorVfSi
import Derived.Deep.DeepCutAuto
namespace Go.Proofs.YtelbakkgobkdaaaDoor.Vf
open Go.RowKit Go.Proofs.YtelbakkgobkdaaaDoor.Nm

theorem set_in {w : World} {g j : Nat} {T : TypeId} {cur : Array Value} (h : w.heap[g]? = some (.cells cur T (0, 0))) (v : Value) : (w.setCell ⟨g, j, none⟩ v).heap[g]? = some (.cells (cur.setIfInBounds j v) T (0, 0)) := heap_setCell_same w g j cur T v h
theorem put5 {W : World} {b : Nat} {T : TypeId} {a0 a1 a2 a3 a4 a5 a6 a7 : Value} (v0 v1 v2 v3 v4 : Value) (h : W.heap[b]? = some (.cells #[a0, a1, a2, a3, a4, a5, a6, a7] T (0, 0))) :
    (((((W.setCell ⟨b, 0, none⟩ v0).setCell ⟨b, 1, none⟩ v1).setCell ⟨b, 2, none⟩ v2).setCell ⟨b, 3, none⟩ v3).setCell ⟨b, 4, none⟩ v4).heap[b]? = some (.cells #[v0, v1, v2, v3, v4, a5, a6, a7] T (0, 0)) ∧
    (∀ k, k ≠ b → (((((W.setCell ⟨b, 0, none⟩ v0).setCell ⟨b, 1, none⟩ v1).setCell ⟨b, 2, none⟩ v2).setCell ⟨b, 3, none⟩ v3).setCell ⟨b, 4, none⟩ v4).heap[k]? = W.heap[k]?) ∧
    (∀ n w, Below n w W → n ≤ b → Below n w (((((W.setCell ⟨b, 0, none⟩ v0).setCell ⟨b, 1, none⟩ v1).setCell ⟨b, 2, none⟩ v2).setCell ⟨b, 3, none⟩ v3).setCell ⟨b, 4, none⟩ v4)) :=
  ⟨set_in (set_in (set_in (set_in (set_in h v0) v1) v2) v3) v4, fun k hk => by
    rw [Below.heap_setCell _ _ _ _ hk, Below.heap_setCell _ _ _ _ hk, Below.heap_setCell _ _ _ _ hk, Below.heap_setCell _ _ _ _ hk, Below.heap_setCell _ _ _ _ hk],
   fun n w hb hn => ((((hb.setCell (p := ⟨b, 0, none⟩) hn _).setCell (p := ⟨b, 1, none⟩) hn _).setCell (p := ⟨b, 2, none⟩) hn _).setCell (p := ⟨b, 3, none⟩) hn _).setCell (p := ⟨b, 4, none⟩) hn _⟩
set_option maxHeartbeats 12800000 in
set_option maxRecDepth 100000 in
/-- behind -/
theorem behS_any {w : World} {wb gb : Nat} {v : PV} {p : Pg} {eo : Option Addr} {ec gc : Nat} {g : Nat → Option Sd} (h : Wk w wb gb v p eo ec gc g) (hE : Ef w) (i : Nat) (hi : i < p.cd.length) (s : Sd) (hs : g i = some s) (ho : 0 ≤ (p.at i).op ∧ (p.at i).op < 42) (hl : s.ty.length ≤ 256) (hf : fitsB s.ty (p.at i).op.toNat = true) (ha : (p.at i).op = 34 → 0 ≤ (p.at i).a ∧ (p.at i).a < (p.gh.length : Int)) :
    Calls Tryd.prog 68 #[.pointer (some ⟨wb, 0, none⟩), .int .i64 (i : Int)] w fun e w' => e = .returned (.agg (sdV (behS p s (p.at i)))) ∧ Below w.heap.size w w' := by
  have HHb : Hid (∀ W, Below w.heap.size w W → Calls Tryd.prog 93 #[.pointer (some ⟨wb, 0, none⟩), .int .i64 (s.hand : Int), .agg #[.int .i64 (p.at i).op, .int .i64 (p.at i).a, .int .i64 (p.at i).b, .int .i64 (p.at i).c, .int .i64 (p.at i).d]] W fun e w' => e = .returned (.int .i64 (handBeh p s.hand (p.at i) : Int)) ∧ Below W.heap.size W w') := fun W hb => handB_any (h.below hb) (p.at i) s.hand ha
  have HBt : Hid (∀ W, Below w.heap.size w W → Calls Tryd.prog 92 #[.agg (opV s.ty).toArray, .int .i64 (p.at i).op] W fun e w' => e = .returned (.agg (opV (behT s.ty (p.at i).op.toNat)).toArray) ∧ Below W.heap.size W w') := fun W hb => by
    have := behindT_any s.ty (p.at i).op.toNat (by omega) hl hf W (hE.below hb)
    rw [show (((p.at i).op.toNat : Nat) : Int) = (p.at i).op by omega] at this
    exact this
  have HRes : Hid (sdV (behS p s (p.at i)) = #[.int .i64 ((behT s.ty (p.at i).op.toNat).length : Int), .int .u64 (wd (behT s.ty (p.at i).op.toNat) 0 : Int), .int .u64 (wd (behT s.ty (p.at i).op.toNat) 1 : Int), .int .u64 (wd (behT s.ty (p.at i).op.toNat) 2 : Int), .int .u64 (wd (behT s.ty (p.at i).op.toNat) 3 : Int), .bool true, .int .i64 (handBeh p s.hand (p.at i) : Int), .int .i64 s.turn]) := rfl
  obtain ⟨qo, qc, vo, vc, tto, tc, oo, oc, co, cc⟩ := v
  obtain ⟨cg, cf, rfl, c5, c7, d0, d1, d2, d3, d4⟩ := h.reads hi
  obtain ⟨e0, e1, e2, e3, e4, e5, e6, e7⟩ := h.isS hi hs
  obtain ⟨ty, hd, tn⟩ := s
  dsimp only at e0 e1 e2 e3 e4 e6 e7 HHb HBt HRes
  have n3 : (p.cd.length : Int) ≤ 1000000000000000 := by have := h.pg.lcd; omega
  have hi' : (i : Int) < (p.cd.length : Int) := by omega
  have hx : p.at i = p.cd[i] := at_eq hi
  rw [hx] at HHb HBt HRes ⊢
  generalize sdV (behS p ⟨ty, hd, tn⟩ p.cd[i]) = R at *
  generalize handBeh p hd p.cd[i] = hd2 at *
  generalize behT ty p.cd[i].op.toNat = t2 at *
  generalize p.cd[i].op = y0 at *
  generalize p.cd[i].a = y1 at *
  generalize p.cd[i].b = y2 at *
  generalize p.cd[i].c = y3 at *
  generalize p.cd[i].d = y4 at *
  have hbA : Below w.heap.size w (w.alloc (.cells #[.int .i64 0, .int .u64 0, .int .u64 0, .int .u64 0, .int .u64 0, .bool false, .int .i64 0, .int .i64 0] 71)) := (Below.refl _ w).alloc (Nat.le_refl _) _
  have HSb0 : Hid (∀ W, Below w.heap.size w W → (fun w' : World => w'.cell? ⟨wb, 5, none⟩ = some (.slice (some ⟨cg, cf, none⟩) p.cd.length cc) ∧ w'.cell? ⟨wb, 7, none⟩ = some (.slice (some ⟨gb, 0, none⟩) p.cd.length gc) ∧ w'.cell? ⟨gb, i * 8, none⟩ = some (.int .i64 (ty.length : Int)) ∧ w'.cell? ⟨gb, i * 8 + 1, none⟩ = some (.int .u64 (wd ty 0 : Int)) ∧ w'.cell? ⟨gb, i * 8 + 2, none⟩ = some (.int .u64 (wd ty 1 : Int)) ∧ w'.cell? ⟨gb, i * 8 + 3, none⟩ = some (.int .u64 (wd ty 2 : Int)) ∧ w'.cell? ⟨gb, i * 8 + 4, none⟩ = some (.int .u64 (wd ty 3 : Int)) ∧ w'.cell? ⟨gb, i * 8 + 5, none⟩ = some (.bool true) ∧ w'.cell? ⟨gb, i * 8 + 6, none⟩ = some (.int .i64 (hd : Int)) ∧ w'.cell? ⟨gb, i * 8 + 7, none⟩ = some (.int .i64 tn) ∧ w'.cell? ⟨cg, cf + i * 5, none⟩ = some (.int .i64 y0) ∧ w'.cell? ⟨cg, cf + i * 5 + 1, none⟩ = some (.int .i64 y1) ∧ w'.cell? ⟨cg, cf + i * 5 + 2, none⟩ = some (.int .i64 y2) ∧ w'.cell? ⟨cg, cf + i * 5 + 3, none⟩ = some (.int .i64 y3) ∧ w'.cell? ⟨cg, cf + i * 5 + 4, none⟩ = some (.int .i64 y4)) W) := fun W hb => by
    have hc : ∀ b o v, w.cell? ⟨b, o, none⟩ = some v → W.cell? ⟨b, o, none⟩ = some v := fun b o v hv => by
      have hlt : b < w.heap.size := by
        rcases Nat.lt_or_ge b w.heap.size with h1 | h1
        · exact h1
        · exfalso
          simp [World.cell?, Array.getElem?_eq_none h1] at hv
      exact (hb.cell (p := ⟨b, o, none⟩) hlt).trans hv
    exact ⟨hc _ _ _ c5, hc _ _ _ c7, hc _ _ _ e0, hc _ _ _ e1, hc _ _ _ e2, hc _ _ _ e3, hc _ _ _ e4, hc _ _ _ e5, hc _ _ _ e6, hc _ _ _ e7, hc _ _ _ d0, hc _ _ _ d1, hc _ _ _ d2, hc _ _ _ d3, hc _ _ _ d4⟩
  have HSb : Hid (∀ W, Below (w.alloc (.cells #[.int .i64 0, .int .u64 0, .int .u64 0, .int .u64 0, .int .u64 0, .bool false, .int .i64 0, .int .i64 0] 71)).heap.size (w.alloc (.cells #[.int .i64 0, .int .u64 0, .int .u64 0, .int .u64 0, .int .u64 0, .bool false, .int .i64 0, .int .i64 0] 71)) W → (fun w' : World => w'.cell? ⟨wb, 5, none⟩ = some (.slice (some ⟨cg, cf, none⟩) p.cd.length cc) ∧ w'.cell? ⟨wb, 7, none⟩ = some (.slice (some ⟨gb, 0, none⟩) p.cd.length gc) ∧ w'.cell? ⟨gb, i * 8, none⟩ = some (.int .i64 (ty.length : Int)) ∧ w'.cell? ⟨gb, i * 8 + 1, none⟩ = some (.int .u64 (wd ty 0 : Int)) ∧ w'.cell? ⟨gb, i * 8 + 2, none⟩ = some (.int .u64 (wd ty 1 : Int)) ∧ w'.cell? ⟨gb, i * 8 + 3, none⟩ = some (.int .u64 (wd ty 2 : Int)) ∧ w'.cell? ⟨gb, i * 8 + 4, none⟩ = some (.int .u64 (wd ty 3 : Int)) ∧ w'.cell? ⟨gb, i * 8 + 5, none⟩ = some (.bool true) ∧ w'.cell? ⟨gb, i * 8 + 6, none⟩ = some (.int .i64 (hd : Int)) ∧ w'.cell? ⟨gb, i * 8 + 7, none⟩ = some (.int .i64 tn) ∧ w'.cell? ⟨cg, cf + i * 5, none⟩ = some (.int .i64 y0) ∧ w'.cell? ⟨cg, cf + i * 5 + 1, none⟩ = some (.int .i64 y1) ∧ w'.cell? ⟨cg, cf + i * 5 + 2, none⟩ = some (.int .i64 y2) ∧ w'.cell? ⟨cg, cf + i * 5 + 3, none⟩ = some (.int .i64 y3) ∧ w'.cell? ⟨cg, cf + i * 5 + 4, none⟩ = some (.int .i64 y4)) W) := fun W hb => HSb0.out W (hbA.trans (hb.mono hbA.size))
  have HX0 : Hid (Below w.heap.size w (w.alloc (.cells #[.int .i64 0, .int .u64 0, .int .u64 0, .int .u64 0, .int .u64 0, .bool false, .int .i64 0, .int .i64 0] 71)) ∧ (w.alloc (.cells #[.int .i64 0, .int .u64 0, .int .u64 0, .int .u64 0, .int .u64 0, .bool false, .int .i64 0, .int .i64 0] 71)).heap[w.heap.size]? = some (.cells #[.int .i64 0, .int .u64 0, .int .u64 0, .int .u64 0, .int .u64 0, .bool false, .int .i64 0, .int .i64 0] 71 (0, 0)) ∧ (w.alloc (.cells #[.int .i64 0, .int .u64 0, .int .u64 0, .int .u64 0, .int .u64 0, .bool false, .int .i64 0, .int .i64 0] 71)).heap.size = w.heap.size + 1) := ⟨hbA, heap_alloc_new _ _, by simp⟩
  clear hx h c5 c7 d0 d1 d2 d3 d4 e0 e1 e2 e3 e4 e5 e6 e7 HSb0 hbA hE ho hl hf ha hs
  go_enter Tryd.func68, Tryd.ntmps68
  go_upto_region 1 with fail
  generalize w.alloc (.cells #[.int .i64 0, .int .u64 0, .int .u64 0, .int .u64 0, .int .u64 0, .bool false, .int .i64 0, .int .i64 0] 71) = W0 at *
  go_cut [5, 6] (fun s5 s6 wx => ∃ bs bi, s5 = .pointer (some ⟨bs, 0, none⟩) ∧ s6 = .pointer (some ⟨bi, 0, none⟩) ∧ Si W0.heap.size W0 wx bs bi #[.int .i64 (ty.length : Int), .int .u64 (wd ty 0 : Int), .int .u64 (wd ty 1 : Int), .int .u64 (wd ty 2 : Int), .int .u64 (wd ty 3 : Int), .bool true, .int .i64 (hd : Int), .int .i64 tn] #[.int .i64 y0, .int .i64 y1, .int .i64 y2, .int .i64 y3, .int .i64 y4])
  case first =>
    refine wp_region_held (S := fun w' : World => w'.cell? ⟨wb, 5, none⟩ = some (.slice (some ⟨cg, cf, none⟩) p.cd.length cc) ∧ w'.cell? ⟨wb, 7, none⟩ = some (.slice (some ⟨gb, 0, none⟩) p.cd.length gc) ∧ w'.cell? ⟨gb, i * 8, none⟩ = some (.int .i64 (ty.length : Int)) ∧ w'.cell? ⟨gb, i * 8 + 1, none⟩ = some (.int .u64 (wd ty 0 : Int)) ∧ w'.cell? ⟨gb, i * 8 + 2, none⟩ = some (.int .u64 (wd ty 1 : Int)) ∧ w'.cell? ⟨gb, i * 8 + 3, none⟩ = some (.int .u64 (wd ty 2 : Int)) ∧ w'.cell? ⟨gb, i * 8 + 4, none⟩ = some (.int .u64 (wd ty 3 : Int)) ∧ w'.cell? ⟨gb, i * 8 + 5, none⟩ = some (.bool true) ∧ w'.cell? ⟨gb, i * 8 + 6, none⟩ = some (.int .i64 (hd : Int)) ∧ w'.cell? ⟨gb, i * 8 + 7, none⟩ = some (.int .i64 tn) ∧ w'.cell? ⟨cg, cf + i * 5, none⟩ = some (.int .i64 y0) ∧ w'.cell? ⟨cg, cf + i * 5 + 1, none⟩ = some (.int .i64 y1) ∧ w'.cell? ⟨cg, cf + i * 5 + 2, none⟩ = some (.int .i64 y2) ∧ w'.cell? ⟨cg, cf + i * 5 + 3, none⟩ = some (.int .i64 y3) ∧ w'.cell? ⟨cg, cf + i * 5 + 4, none⟩ = some (.int .i64 y4)) (by kernel_rfl) ?_
    have hS : (fun w' : World => w'.cell? ⟨wb, 5, none⟩ = some (.slice (some ⟨cg, cf, none⟩) p.cd.length cc) ∧ w'.cell? ⟨wb, 7, none⟩ = some (.slice (some ⟨gb, 0, none⟩) p.cd.length gc) ∧ w'.cell? ⟨gb, i * 8, none⟩ = some (.int .i64 (ty.length : Int)) ∧ w'.cell? ⟨gb, i * 8 + 1, none⟩ = some (.int .u64 (wd ty 0 : Int)) ∧ w'.cell? ⟨gb, i * 8 + 2, none⟩ = some (.int .u64 (wd ty 1 : Int)) ∧ w'.cell? ⟨gb, i * 8 + 3, none⟩ = some (.int .u64 (wd ty 2 : Int)) ∧ w'.cell? ⟨gb, i * 8 + 4, none⟩ = some (.int .u64 (wd ty 3 : Int)) ∧ w'.cell? ⟨gb, i * 8 + 5, none⟩ = some (.bool true) ∧ w'.cell? ⟨gb, i * 8 + 6, none⟩ = some (.int .i64 (hd : Int)) ∧ w'.cell? ⟨gb, i * 8 + 7, none⟩ = some (.int .i64 tn) ∧ w'.cell? ⟨cg, cf + i * 5, none⟩ = some (.int .i64 y0) ∧ w'.cell? ⟨cg, cf + i * 5 + 1, none⟩ = some (.int .i64 y1) ∧ w'.cell? ⟨cg, cf + i * 5 + 2, none⟩ = some (.int .i64 y2) ∧ w'.cell? ⟨cg, cf + i * 5 + 3, none⟩ = some (.int .i64 y3) ∧ w'.cell? ⟨cg, cf + i * 5 + 4, none⟩ = some (.int .i64 y4)) W0.drew := HSb.out _ (Below.refl _ W0).drew
    change wpAnyH _ _ _ _ _ _ _ _ W0.drew
    refine tqA 0 rfl hS ?_
    refine tqA 1 rfl hS ?_
    refine tqA 2 rfl hS ?_
    refine tqA 3 rfl hS ?_
    refine tqA 4 rfl hS ?_
    refine tqA 5 rfl hS ?_
    refine tqA 6 rfl hS ?_
    refine tqA 7 rfl hS ?_
    refine tqA 8 rfl hS ?_
    refine tqA 9 rfl hS ?_
    refine tqA 10 rfl hS ?_
    refine tqA 11 rfl hS ?_
    refine tqA 12 rfl hS ?_
    refine tqA 13 rfl hS ?_
    refine tqA 14 rfl hS ?_
    refine wpAnyH_ready (rs := [15, 16]) (by kernel_rfl) (by simp) ?_
    refine AllReadyH.cons rfl (fun K hK => ?_) (AllReadyH.cons rfl (fun K hK => ?_) AllReadyH.nil)
    · go_simp
      refine hK.out _ _ (HSb.out _ ((Below.refl _ W0).alloc (Nat.le_refl _) _).drew) (fun hS => ?_)
      refine wpAnyH_ready (rs := [16]) (by kernel_rfl) (by simp) ?_
      refine AllReadyH.cons rfl (fun K hK => ?_) AllReadyH.nil
      go_simp
      refine hK.out _ _ (HSb.out _ (((Below.refl _ W0).alloc (Nat.le_refl _) _).alloc (by simp) _).drew) (fun hS => ?_)
      refine wpAnyH_ready (rs := [17]) (by kernel_rfl) (by simp) ?_
      refine AllReadyH.cons rfl (fun K hK => ?_) AllReadyH.nil
      go_simp
      refine hK.out _ _ (HSb.out _ (((Below.refl _ W0).alloc (Nat.le_refl _) _).alloc (by simp) _).drew) (fun hS => ?_)
      refine wpAnyH_ready (rs := [18]) (by kernel_rfl) (by simp) ?_
      refine AllReadyH.cons rfl (fun K hK => ?_) AllReadyH.nil
      go_simp
      refine hK.out _ _ (HSb.out _ (((Below.refl _ W0).alloc (Nat.le_refl _) _).alloc (by simp) _).drew) (fun hS => ?_)
      refine wpAnyH_done (by kernel_rfl) ?_ _
      clear hK K hS
      go_wp2_with fail
      go_meet
      exact ⟨_, _, rfl, rfl, Si.mk1 W0 _ _⟩
    · go_simp
      refine hK.out _ _ (HSb.out _ ((Below.refl _ W0).alloc (Nat.le_refl _) _).drew) (fun hS => ?_)
      refine wpAnyH_ready (rs := [15]) (by kernel_rfl) (by simp) ?_
      refine AllReadyH.cons rfl (fun K hK => ?_) AllReadyH.nil
      go_simp
      refine hK.out _ _ (HSb.out _ (((Below.refl _ W0).alloc (Nat.le_refl _) _).alloc (by simp) _).drew) (fun hS => ?_)
      refine wpAnyH_ready (rs := [17]) (by kernel_rfl) (by simp) ?_
      refine AllReadyH.cons rfl (fun K hK => ?_) AllReadyH.nil
      go_simp
      refine hK.out _ _ (HSb.out _ (((Below.refl _ W0).alloc (Nat.le_refl _) _).alloc (by simp) _).drew) (fun hS => ?_)
      refine wpAnyH_ready (rs := [18]) (by kernel_rfl) (by simp) ?_
      refine AllReadyH.cons rfl (fun K hK => ?_) AllReadyH.nil
      go_simp
      refine hK.out _ _ (HSb.out _ (((Below.refl _ W0).alloc (Nat.le_refl _) _).alloc (by simp) _).drew) (fun hS => ?_)
      refine wpAnyH_done (by kernel_rfl) ?_ _
      clear hK K hS
      go_wp2_with fail
      go_meet
      exact ⟨_, _, rfl, rfl, Si.mk2 W0 _ _⟩
  case rest =>
    obtain ⟨bs, bi, rfl, rfl, hsi⟩ := hcut
    have hB0 : Below w.heap.size w wc := HX0.out.1.trans (hsi.bel.mono HX0.out.1.size)
    have hR0 : wc.heap[w.heap.size]? = some (.cells #[.int .i64 0, .int .u64 0, .int .u64 0, .int .u64 0, .int .u64 0, .bool false, .int .i64 0, .int .i64 0] 71 (0, 0)) := (hsi.bel.block _ (blk_lt HX0.out.2.1)).trans HX0.out.2.1
    have hn1 : bs ≠ w.heap.size := by have := hsi.ls; have := HX0.out.2.2; omega
    have hn2 : bi ≠ w.heap.size := by have := hsi.li; have := HX0.out.2.2; omega
    have hl1 : w.heap.size ≤ bs := by have := hsi.ls; have := HX0.out.2.2; omega
    obtain ⟨i0, i1, i2, i3, i4⟩ := cells5 hsi.hi
    obtain ⟨j0, j1, j2, j3, j4, j5, j6, j7⟩ := cells8 hsi.hs
    have HX : Hid (Below w.heap.size w wc ∧ wc.heap[w.heap.size]? = some (.cells #[.int .i64 0, .int .u64 0, .int .u64 0, .int .u64 0, .int .u64 0, .bool false, .int .i64 0, .int .i64 0] 71 (0, 0)) ∧ wc.heap[bs]? = some (.cells #[.int .i64 (ty.length : Int), .int .u64 (wd ty 0 : Int), .int .u64 (wd ty 1 : Int), .int .u64 (wd ty 2 : Int), .int .u64 (wd ty 3 : Int), .bool true, .int .i64 (hd : Int), .int .i64 tn] 71 (0, 0)) ∧ wc.heap[bi]? = some (.cells #[.int .i64 y0, .int .i64 y1, .int .i64 y2, .int .i64 y3, .int .i64 y4] 54 (0, 0)) ∧ bs ≠ bi ∧ bs ≠ w.heap.size ∧ bi ≠ w.heap.size ∧ w.heap.size ≤ bs) := ⟨hB0, hR0, hsi.hs, hsi.hi, hsi.ne, hn1, hn2, hl1⟩
    clear hsi hB0 hR0 hn1 hn2 hl1 HSb HX0
    go_wp2_with fail
    unfold opV at HBt
    refine Calls.mono (HBt.out _ HX.out.1) ?_
    rintro e w2 ⟨rfl, hb2⟩
    have HX2 : Hid (Below w.heap.size w w2 ∧ w2.heap[w.heap.size]? = some (.cells #[.int .i64 0, .int .u64 0, .int .u64 0, .int .u64 0, .int .u64 0, .bool false, .int .i64 0, .int .i64 0] 71 (0, 0)) ∧ w2.heap[bs]? = some (.cells #[.int .i64 (ty.length : Int), .int .u64 (wd ty 0 : Int), .int .u64 (wd ty 1 : Int), .int .u64 (wd ty 2 : Int), .int .u64 (wd ty 3 : Int), .bool true, .int .i64 (hd : Int), .int .i64 tn] 71 (0, 0)) ∧ w2.heap[bi]? = some (.cells #[.int .i64 y0, .int .i64 y1, .int .i64 y2, .int .i64 y3, .int .i64 y4] 54 (0, 0))) := ⟨HX.out.1.trans (hb2.mono HX.out.1.size), (hb2.block _ (blk_lt HX.out.2.1)).trans HX.out.2.1, (hb2.block _ (blk_lt HX.out.2.2.1)).trans HX.out.2.2.1, (hb2.block _ (blk_lt HX.out.2.2.2.1)).trans HX.out.2.2.2.1⟩
    clear hb2 i0 i1 i2 i3 i4 j0 j1 j2 j3 j4 j5 j6 j7 HBt
    obtain ⟨j0, j1, j2, j3, j4, j5, j6, j7⟩ := cells8 HX2.out.2.2.1
    obtain ⟨i0, i1, i2, i3, i4⟩ := cells5 HX2.out.2.2.2
    have fz : ∀ j, w2.frozen? ⟨bs, j, none⟩ = false := fun j => by have := HX2.out.2.2.1; simp only [World.frozen?, this]; rfl
    go_upto_region 3 with fail
    obtain ⟨p1, p2, p3⟩ := put5 (.int .i64 (t2.length : Int)) (.int .u64 (wd t2 0 : Int)) (.int .u64 (wd t2 1 : Int)) (.int .u64 (wd t2 2 : Int)) (.int .u64 (wd t2 3 : Int)) HX2.out.2.2.1
    have HX3 : Hid (Below w.heap.size w (((((w2.setCell ⟨bs, 0, none⟩ (.int .i64 (t2.length : Int))).setCell ⟨bs, 1, none⟩ (.int .u64 (wd t2 0 : Int))).setCell ⟨bs, 2, none⟩ (.int .u64 (wd t2 1 : Int))).setCell ⟨bs, 3, none⟩ (.int .u64 (wd t2 2 : Int))).setCell ⟨bs, 4, none⟩ (.int .u64 (wd t2 3 : Int))) ∧ (((((w2.setCell ⟨bs, 0, none⟩ (.int .i64 (t2.length : Int))).setCell ⟨bs, 1, none⟩ (.int .u64 (wd t2 0 : Int))).setCell ⟨bs, 2, none⟩ (.int .u64 (wd t2 1 : Int))).setCell ⟨bs, 3, none⟩ (.int .u64 (wd t2 2 : Int))).setCell ⟨bs, 4, none⟩ (.int .u64 (wd t2 3 : Int))).heap[w.heap.size]? = some (.cells #[.int .i64 0, .int .u64 0, .int .u64 0, .int .u64 0, .int .u64 0, .bool false, .int .i64 0, .int .i64 0] 71 (0, 0)) ∧ (((((w2.setCell ⟨bs, 0, none⟩ (.int .i64 (t2.length : Int))).setCell ⟨bs, 1, none⟩ (.int .u64 (wd t2 0 : Int))).setCell ⟨bs, 2, none⟩ (.int .u64 (wd t2 1 : Int))).setCell ⟨bs, 3, none⟩ (.int .u64 (wd t2 2 : Int))).setCell ⟨bs, 4, none⟩ (.int .u64 (wd t2 3 : Int))).heap[bs]? = some (.cells #[.int .i64 (t2.length : Int), .int .u64 (wd t2 0 : Int), .int .u64 (wd t2 1 : Int), .int .u64 (wd t2 2 : Int), .int .u64 (wd t2 3 : Int), .bool true, .int .i64 (hd : Int), .int .i64 tn] 71 (0, 0)) ∧ (((((w2.setCell ⟨bs, 0, none⟩ (.int .i64 (t2.length : Int))).setCell ⟨bs, 1, none⟩ (.int .u64 (wd t2 0 : Int))).setCell ⟨bs, 2, none⟩ (.int .u64 (wd t2 1 : Int))).setCell ⟨bs, 3, none⟩ (.int .u64 (wd t2 2 : Int))).setCell ⟨bs, 4, none⟩ (.int .u64 (wd t2 3 : Int))).heap[bi]? = some (.cells #[.int .i64 y0, .int .i64 y1, .int .i64 y2, .int .i64 y3, .int .i64 y4] 54 (0, 0))) := ⟨p3 _ _ HX2.out.1 HX.out.2.2.2.2.2.2.2, (p2 _ (Ne.symm HX.out.2.2.2.2.2.1)).trans HX2.out.2.1, p1, (p2 _ (Ne.symm HX.out.2.2.2.2.1)).trans HX2.out.2.2.2⟩
    clear p1 p2 p3 j0 j1 j2 j3 j4 j5 j6 j7 i0 i1 i2 i3 i4 fz HX2
    generalize (((((w2.setCell ⟨bs, 0, none⟩ (.int .i64 (t2.length : Int))).setCell ⟨bs, 1, none⟩ (.int .u64 (wd t2 0 : Int))).setCell ⟨bs, 2, none⟩ (.int .u64 (wd t2 1 : Int))).setCell ⟨bs, 3, none⟩ (.int .u64 (wd t2 2 : Int))).setCell ⟨bs, 4, none⟩ (.int .u64 (wd t2 3 : Int))) = w3 at *
    obtain ⟨j0, j1, j2, j3, j4, j5, j6, j7⟩ := cells8 HX3.out.2.2.1
    obtain ⟨i0, i1, i2, i3, i4⟩ := cells5 HX3.out.2.2.2
    go_wp2_with fail
    refine Calls.mono (HHb.out _ HX3.out.1) ?_
    rintro e w4 ⟨rfl, hb4⟩
    have HX4 : Hid (Below w.heap.size w w4 ∧ w4.heap[w.heap.size]? = some (.cells #[.int .i64 0, .int .u64 0, .int .u64 0, .int .u64 0, .int .u64 0, .bool false, .int .i64 0, .int .i64 0] 71 (0, 0)) ∧ w4.heap[bs]? = some (.cells #[.int .i64 (t2.length : Int), .int .u64 (wd t2 0 : Int), .int .u64 (wd t2 1 : Int), .int .u64 (wd t2 2 : Int), .int .u64 (wd t2 3 : Int), .bool true, .int .i64 (hd : Int), .int .i64 tn] 71 (0, 0))) := ⟨HX3.out.1.trans (hb4.mono HX3.out.1.size), (hb4.block _ (blk_lt HX3.out.2.1)).trans HX3.out.2.1, (hb4.block _ (blk_lt HX3.out.2.2.1)).trans HX3.out.2.2.1⟩
    clear hb4 j0 j1 j2 j3 j4 j5 j6 j7 i0 i1 i2 i3 i4 HHb HX3
    obtain ⟨j0, j1, j2, j3, j4, j5, j6, j7⟩ := cells8 HX4.out.2.2
    have fz : ∀ j, w4.frozen? ⟨bs, j, none⟩ = false := fun j => by have := HX4.out.2.2; simp only [World.frozen?, this]; rfl
    go_upto_region 4 with fail
    have HX5 : Hid (Below w.heap.size w (w4.setCell ⟨bs, 6, none⟩ (.int .i64 (hd2 : Int))) ∧ (w4.setCell ⟨bs, 6, none⟩ (.int .i64 (hd2 : Int))).heap[w.heap.size]? = some (.cells #[.int .i64 0, .int .u64 0, .int .u64 0, .int .u64 0, .int .u64 0, .bool false, .int .i64 0, .int .i64 0] 71 (0, 0)) ∧ (w4.setCell ⟨bs, 6, none⟩ (.int .i64 (hd2 : Int))).heap[bs]? = some (.cells #[.int .i64 (t2.length : Int), .int .u64 (wd t2 0 : Int), .int .u64 (wd t2 1 : Int), .int .u64 (wd t2 2 : Int), .int .u64 (wd t2 3 : Int), .bool true, .int .i64 (hd2 : Int), .int .i64 tn] 71 (0, 0))) := ⟨HX4.out.1.setCell (p := ⟨bs, 6, none⟩) HX.out.2.2.2.2.2.2.2 _, (Below.heap_setCell _ _ _ _ (Ne.symm HX.out.2.2.2.2.2.1)).trans HX4.out.2.1, set_in HX4.out.2.2 _⟩
    clear j0 j1 j2 j3 j4 j5 j6 j7 fz HX4
    generalize w4.setCell ⟨bs, 6, none⟩ (.int .i64 (hd2 : Int)) = w5 at *
    obtain ⟨j0, j1, j2, j3, j4, j5, j6, j7⟩ := cells8 HX5.out.2.2
    go_wp2_with (refine wpList_store_row rfl 71 _ _ rfl w.heap.size _ rfl rfl 71 _ HX5.out.2.1 (by kernel_rfl) rfl (by kernel_rfl) ?_)
    have hh := setRow_heap _ _ _ #[.int .i64 (t2.length : Int), .int .u64 (wd t2 0 : Int), .int .u64 (wd t2 1 : Int), .int .u64 (wd t2 2 : Int), .int .u64 (wd t2 3 : Int), .bool true, .int .i64 (hd2 : Int), .int .i64 tn] _ _ HX5.out.2.1
    refine bodyPost_ret (results_cell_row (P := Tryd.prog) (fn := Tryd.f68) Tryd.results68 _ _ w.heap.size 71 #[.int .i64 (t2.length : Int), .int .u64 (wd t2 0 : Int), .int .u64 (wd t2 1 : Int), .int .u64 (wd t2 2 : Int), .int .u64 (wd t2 3 : Int), .bool true, .int .i64 (hd2 : Int), .int .i64 tn] (0, 0) _ rfl hh Tryd.underlying71 rfl (by kernel_rfl)) rfl ?_
    exact ⟨by rw [HRes.out], below_setRow HX5.out.1 (Nat.le_refl _)⟩
end Go.Proofs.YtelbakkgobkdaaaDoor.Vf
