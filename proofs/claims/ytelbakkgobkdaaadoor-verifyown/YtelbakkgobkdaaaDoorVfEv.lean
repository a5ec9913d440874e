import Derived.Test.YtelbakkgobkdaaaDoorVfFuel2
import Derived.Test.YtelbakkgobkdaaaDoorVfTk
namespace Go.Proofs.YtelbakkgobkdaaaDoor.Vf
open Go.RowKit Go.Proofs.YtelbakkgobkdaaaDoor.Nm

theorem iC_len (l : List Int) : (iC l).length = l.length * 1 := by unfold iC; simp
theorem iC_one (l : List Int) : ∀ v ∈ iC l, v.oneCell' = true := by
  intro v hv
  unfold iC at hv
  obtain ⟨n, _, rfl⟩ := List.mem_map.1 hv
  rfl
theorem rd_of_own {w : World} {base : Nat} {v : Value} {n : Nat} {xs : List Value} (h : w.ownsRow base 3 1 v n xs) : ∃ bo bc, v = .slice bo n bc ∧ Rd w bo xs ∧ (∀ g o, bo = some ⟨g, o, none⟩ → base ≤ g) := by
  have hl := h.1
  rcases h.2 with ⟨rfl, h0⟩ | ⟨g, cap, cur, rfl, h2, h3, h4, h5, h6, h7⟩
  · refine ⟨none, 0, by rw [h0], fun k x hx => ?_, fun g o e => by cases e⟩
    have := (List.getElem?_eq_some_iff.1 hx).1
    omega
  · refine ⟨_, _, rfl, fun k x hx => ⟨g, 0, rfl, (Array.getElem?_eq_some_iff.1 h3).1, ?_⟩, fun g' o e => by cases e; exact h2⟩
    have := h.cells (g := g) rfl k x hx
    rw [Lib.addr_add] at this
    exact this
set_option maxHeartbeats 1600000 in
set_option maxRecDepth 100000 in
/-- Clone -/
theorem clone_any (w : World) (o : Option Addr) (c : Nat) (l : List Int) (h : Rd w o (iC l)) (hn : l.length ≤ 1000000000000) :
    Calls Tryd.prog 62 #[.slice o l.length c] w fun r w' => ∃ v, r = .returned v ∧ w'.ownsRow w.heap.size 3 1 v l.length (iC l) ∧ Below w.heap.size w w' := by
  cases o with
  | none =>
    have h0 : l = [] := by
      cases l with
      | nil => rfl
      | cons x l =>
        obtain ⟨g, f, e, _⟩ := h 0 (.int .i64 x) rfl
        cases e
    subst h0
    have hnil : ∀ u : World, (binOp BinOp.eql 24 (.slice none 0 c) (.slice none 0 0)).run Tryd.prog u = .ok (.bool true) u := fun _ => rfl
    clear h hn
    go_enter Tryd.func62, Tryd.ntmps62
    go_wp2_with fail
    go_ret
    exact ⟨_, rfl, ⟨rfl, Or.inl ⟨rfl, rfl⟩⟩, Below.refl _ _⟩
  | some a =>
    have hnil : ∀ u : World, (binOp BinOp.eql 24 (.slice (some a) l.length c) (.slice none 0 0)).run Tryd.prog u = .ok (.bool false) u := fun _ => rfl
    obtain ⟨i0, hi, hz0, hz1, hz2⟩ := info_parts infoI
    have hb1 : Below w.heap.size w (w.alloc (.cells #[] 3)) := (Below.refl _ w).alloc (Nat.le_refl _) _
    have HB : Hid (Below w.heap.size w (w.alloc (.cells #[] 3))) := hb1
    have HO : Hid ((w.alloc (.cells #[] 3)).ownsRow w.heap.size 3 1 (.slice (some ⟨w.heap.size, 0, none⟩) 0 0) 0 []) := own_mk (cur := []) rfl (Nat.le_refl _) (heap_alloc_new w _) (Nat.le_refl _) (Nat.zero_le _) rfl rfl
    have HC : Hid ((∀ j u, (iC l)[j]? = some u → (w.alloc (.cells #[] 3)).cell? (a.add j) = some u) ∧ (∀ u ∈ iC l, u.oneCell' = true) ∧ (iC l).length = l.length * 1 ∧ l.length ≤ 1000000000000) := by
      refine ⟨fun j u hu => ?_, iC_one l, iC_len l, hn⟩
      obtain ⟨g, f, e, hg, hc⟩ := (h.below hb1) j u hu
      cases e
      rw [Lib.addr_add]
      exact hc
    generalize iC l = xs at *
    clear h hn hb1
    go_enter Tryd.func62, Tryd.ntmps62
    go_wp2_with (at_builtin; refine wpList_append_own _ rfl _ _ 24 rfl w.heap.size 3 i0 (.int .i64 0) 1 8 Tryd.underlying24 hi hz0 hz1 hz2 rfl (by decide) (.slice (some ⟨w.heap.size, 0, none⟩) 0 0) 0 [] rfl HO.out a l.length c xs rfl HC.out.2.2.1 HC.out.1 HC.out.2.1 ?c3 ?c4 ?c5 ?_)
    case c3 => have := HC.out.2.2.2; unfold maxLen; omega
    case c4 => have := HC.out.2.2.2; omega
    case c5 => exact HB.out.size
    intro v' w2 ho hg hiff
    have HR : Hid (w2.ownsRow w.heap.size 3 1 v' l.length xs ∧ Below w.heap.size w w2) := ⟨ho, HB.out.grown hg HB.out.size (fun k e => by cases e; exact Nat.le_refl _)⟩
    clear ho hg hiff
    obtain ⟨bo, bc, rfl⟩ := own_form HR.out.1
    go_wp2
    go_ret
    exact ⟨_, rfl, HR.out.1, HR.out.2⟩
/-- what eventsOf tells -/
structure EvP (w : World) (p : Pg) (r : Ending) (w' : World) : Prop where
  ex : ∃ eo ec, r = .returned (.slice eo (p.on.length + 1) ec) ∧ Rd w' eo (iC (evs p)) ∧ (∀ g o, eo = some ⟨g, o, none⟩ → w.heap.size ≤ g) ∧ Below w.heap.size w w'
set_option maxHeartbeats 6400000 in
set_option maxRecDepth 100000 in
/-- eventsOf -/
theorem events_any (v : PV) (p : Pg) (w : World) (hP : IsPg w v p) (hn : p.on.length ≤ 1000000) :
    Calls Tryd.prog 40 #[.agg (pvC v p)] w (EvP w p) := by
  have HCl : Hid (∀ W, Below w.heap.size w W → Calls Tryd.prog 62 #[.slice v.oo p.on.length v.oc] W fun r w' => ∃ u, r = .returned u ∧ w'.ownsRow W.heap.size 3 1 u p.on.length (iC p.on) ∧ Below W.heap.size W w') := fun W hb => clone_any W v.oo v.oc p.on (hP.on.below hb) (by omega)
  have HEv : Hid (iC (evs p) = iC p.on ++ [.int .i64 p.miss]) := by show _ = _; unfold iC evs; rw [List.map_append]; rfl
  have HN : Hid (p.on.length ≤ 1000000) := hn
  obtain ⟨qo, qc, vo, vc, tto, tc, oo, oc, co, cc⟩ := v
  show Calls _ _ #[.agg #[.slice qo p.gh.length qc, .slice vo p.vs.length vc, .slice tto p.ts.length tc, .slice oo p.on.length oc, .int .i64 p.miss, .slice co p.cd.length cc]] _ _
  have hb0 : Below w.heap.size w (w.alloc (.cells #[.slice qo p.gh.length qc, .slice vo p.vs.length vc, .slice tto p.ts.length tc, .slice oo p.on.length oc, .int .i64 p.miss, .slice co p.cd.length cc] 27)) := (Below.refl _ w).alloc (Nat.le_refl _) _
  have hx0 : (w.alloc (.cells #[.slice qo p.gh.length qc, .slice vo p.vs.length vc, .slice tto p.ts.length tc, .slice oo p.on.length oc, .int .i64 p.miss, .slice co p.cd.length cc] 27)).heap[w.heap.size]? = some (.cells #[.slice qo p.gh.length qc, .slice vo p.vs.length vc, .slice tto p.ts.length tc, .slice oo p.on.length oc, .int .i64 p.miss, .slice co p.cd.length cc] 27 (0, 0)) := heap_alloc_new _ _
  have hs0 : (w.alloc (.cells #[.slice qo p.gh.length qc, .slice vo p.vs.length vc, .slice tto p.ts.length tc, .slice oo p.on.length oc, .int .i64 p.miss, .slice co p.cd.length cc] 27)).heap.size = w.heap.size + 1 := by simp
  have HB : Hid (Below w.heap.size w (w.alloc (.cells #[.slice qo p.gh.length qc, .slice vo p.vs.length vc, .slice tto p.ts.length tc, .slice oo p.on.length oc, .int .i64 p.miss, .slice co p.cd.length cc] 27)) ∧ (w.alloc (.cells #[.slice qo p.gh.length qc, .slice vo p.vs.length vc, .slice tto p.ts.length tc, .slice oo p.on.length oc, .int .i64 p.miss, .slice co p.cd.length cc] 27)).heap.size = w.heap.size + 1) := ⟨hb0, hs0⟩
  have HS : Hid (∀ W, Below (w.alloc (.cells #[.slice qo p.gh.length qc, .slice vo p.vs.length vc, .slice tto p.ts.length tc, .slice oo p.on.length oc, .int .i64 p.miss, .slice co p.cd.length cc] 27)).heap.size (w.alloc (.cells #[.slice qo p.gh.length qc, .slice vo p.vs.length vc, .slice tto p.ts.length tc, .slice oo p.on.length oc, .int .i64 p.miss, .slice co p.cd.length cc] 27)) W → (fun w' : World => w'.cell? ⟨w.heap.size, 3, none⟩ = some (.slice oo p.on.length oc) ∧ w'.cell? ⟨w.heap.size, 4, none⟩ = some (.int .i64 p.miss)) W) := fun W hb => by
    have h1 := (hb.block _ (blk_lt hx0)).trans hx0
    obtain ⟨-, -, -, e3, e4, -⟩ := cells6 h1
    exact ⟨e3, e4⟩
  clear hb0 hx0 hs0 hP hn
  obtain ⟨j0, hj, hj0, hj1, hj2⟩ := info_parts infoI
  go_enter Tryd.func40, Tryd.ntmps40
  go_wp2_with fail
  generalize w.alloc (.cells #[.slice qo p.gh.length qc, .slice vo p.vs.length vc, .slice tto p.ts.length tc, .slice oo p.on.length oc, .int .i64 p.miss, .slice co p.cd.length cc] 27) = W0 at *
  refine wp_region_held (S := fun w' : World => w'.cell? ⟨w.heap.size, 3, none⟩ = some (.slice oo p.on.length oc) ∧ w'.cell? ⟨w.heap.size, 4, none⟩ = some (.int .i64 p.miss)) (by kernel_rfl) ?_
  have hS : (fun w' : World => w'.cell? ⟨w.heap.size, 3, none⟩ = some (.slice oo p.on.length oc) ∧ w'.cell? ⟨w.heap.size, 4, none⟩ = some (.int .i64 p.miss)) W0.drew := HS.out _ (Below.refl _ W0).drew
  change wpAnyH _ _ _ _ _ _ _ _ W0.drew
  refine tqA 0 rfl hS ?_
  refine tqA 1 rfl hS ?_
  refine tqA 3 rfl hS ?_
  refine tqA 4 rfl hS ?_
  refine wpAnyH_ready (rs := [2, 5]) (by kernel_rfl) (by simp) ?_
  have hbd : Below W0.heap.size W0 W0.drew := (Below.refl _ W0).drew
  refine AllReadyH.cons rfl (fun K hK => ?_) (AllReadyH.cons rfl (fun K hK => ?_) AllReadyH.nil)
  · go_simp
    refine Calls.mono (HCl.out _ (HB.out.1.trans (hbd.mono HB.out.1.size))) ?_
    rintro e w2 ⟨u, rfl, ho2, hb2⟩
    have hb02 : Below W0.heap.size W0 w2 := hbd.trans (hb2.mono hbd.size)
    refine hK.out _ _ (HS.out _ hb02) (fun hS => ?_)
    obtain ⟨bo, bc, rfl⟩ := own_form ho2
    refine wpAnyH_ready (rs := [5]) (by kernel_rfl) (by simp) ?_
    refine AllReadyH.cons rfl (fun K hK => ?_) AllReadyH.nil
    go_simp
    have hb3 : Below w2.heap.size w2 (w2.alloc (.cells #[.int .i64 p.miss] 3)) := (Below.refl _ w2).alloc (Nat.le_refl _) _
    have hb03 : Below W0.heap.size W0 (w2.alloc (.cells #[.int .i64 p.miss] 3)) := hb02.trans (hb3.mono hb02.size)
    refine hK.out _ _ (HS.out _ hb03) (fun hS => ?_)
    refine wpAnyH_ready (rs := [6]) (by kernel_rfl) (by simp) ?_
    refine AllReadyH.cons rfl (fun K hK => ?_) AllReadyH.nil
    refine step_gone _ rfl (.tmp 5) (.tmp 8) 24 rfl W0.heap.size 3 j0 (.int .i64 0) 1 8 Tryd.underlying24 hj hj0 hj1 hj2 rfl (by decide) (.slice bo p.on.length bc) _ (iC p.on) (by simp [Act.eval]) (own_below ho2 hb3) ⟨w2.heap.size, 0, none⟩ 1 1 [.int .i64 p.miss] (by simp [Act.eval]) rfl (cell_one w2 _ _) (by intro u hu; simp only [List.mem_cons, List.not_mem_nil, or_false] at hu; subst hu; rfl) (by have := HN.out; unfold maxLen; omega) (by have := HN.out; omega) hb03.size (by decide) ?_
    intro v4 w4 ho4 hG4
    have hb4 : Below W0.heap.size W0 w4 := hb03.grown hG4.1 hb03.size (fun k e => (World.ownsRow.lt (own_below ho2 hb3) k e).1)
    obtain ⟨bo4, bc4, rfl, hr4, hg4⟩ := rd_of_own ho4
    refine hK.out _ _ (HS.out _ hb4) (fun hS => ?_)
    refine wpAnyH_ready (rs := [7]) (by kernel_rfl) (by simp) ?_
    refine AllReadyH.cons rfl (fun K hK => ?_) AllReadyH.nil
    go_simp
    refine hK.out _ _ hS (fun hS => ?_)
    refine wpAnyH_done (by kernel_rfl) ?_ _
    have HF : Hid (Rd w4 bo4 (iC (evs p)) ∧ (∀ g o, bo4 = some ⟨g, o, none⟩ → w.heap.size ≤ g) ∧ Below w.heap.size w w4) := ⟨by rw [HEv.out]; exact hr4, fun g o e => by have := hg4 g o e; have := HB.out.2; omega, HB.out.1.trans (hb4.mono HB.out.1.size)⟩
    clear hK K hS hb4 hr4 hg4 ho4 hG4 hb03 hb3 hb02 ho2 hb2 hbd
    go_wp2_with fail
    go_ret
    exact ⟨⟨_, _, rfl, HF.out.1, HF.out.2.1, HF.out.2.2⟩⟩
  · go_simp
    have hb2 : Below W0.heap.size W0 (W0.alloc (.cells #[.int .i64 p.miss] 3)).drew := ((Below.refl _ W0).alloc (Nat.le_refl _) _).drew
    refine hK.out _ _ (HS.out _ hb2) (fun hS => ?_)
    refine wpAnyH_ready (rs := [2]) (by kernel_rfl) (by simp) ?_
    refine AllReadyH.cons rfl (fun K hK => ?_) AllReadyH.nil
    go_simp
    have hc2 : ∀ j u, [Value.int .i64 p.miss][j]? = some u → (W0.alloc (.cells #[.int .i64 p.miss] 3)).drew.cell? ((⟨W0.heap.size, 0, none⟩ : Addr).add j) = some u := cell_one W0 _ _
    have hs2 : (W0.alloc (.cells #[.int .i64 p.miss] 3)).drew.heap.size = W0.heap.size + 1 := by show (W0.alloc (.cells #[.int .i64 p.miss] 3)).heap.size = _; simp
    generalize (W0.alloc (.cells #[.int .i64 p.miss] 3)).drew = W2 at *
    refine Calls.mono (HCl.out _ (HB.out.1.trans (hb2.mono HB.out.1.size))) ?_
    rintro e w3 ⟨u, rfl, ho3, hb3⟩
    have hb03 : Below W0.heap.size W0 w3 := hb2.trans (hb3.mono hb2.size)
    refine hK.out _ _ (HS.out _ hb03) (fun hS => ?_)
    obtain ⟨bo, bc, rfl⟩ := own_form ho3
    refine wpAnyH_ready (rs := [6]) (by kernel_rfl) (by simp) ?_
    refine AllReadyH.cons rfl (fun K hK => ?_) AllReadyH.nil
    refine step_gone _ rfl (.tmp 5) (.tmp 8) 24 rfl W2.heap.size 3 j0 (.int .i64 0) 1 8 Tryd.underlying24 hj hj0 hj1 hj2 rfl (by decide) (.slice bo p.on.length bc) _ (iC p.on) (by simp [Act.eval]) ho3 ⟨W0.heap.size, 0, none⟩ 1 1 [.int .i64 p.miss] (by simp [Act.eval]) rfl (fun j u hu => by have := hc2 j u hu; rw [Lib.addr_add] at this ⊢; exact (hb3.cell (p := ⟨W0.heap.size, 0 + j, none⟩) (by show W0.heap.size < _; omega)).trans this) (by intro u hu; simp only [List.mem_cons, List.not_mem_nil, or_false] at hu; subst hu; rfl) (by have := HN.out; unfold maxLen; omega) (by have := HN.out; omega) hb3.size (by decide) ?_
    intro v4 w4 ho4 hG4
    have hb4 : Below W0.heap.size W0 w4 := hb03.grown hG4.1 hb03.size (fun k e => by have := (World.ownsRow.lt ho3 k e).1; omega)
    obtain ⟨bo4, bc4, rfl, hr4, hg4⟩ := rd_of_own ho4
    refine hK.out _ _ (HS.out _ hb4) (fun hS => ?_)
    refine wpAnyH_ready (rs := [7]) (by kernel_rfl) (by simp) ?_
    refine AllReadyH.cons rfl (fun K hK => ?_) AllReadyH.nil
    go_simp
    refine hK.out _ _ hS (fun hS => ?_)
    refine wpAnyH_done (by kernel_rfl) ?_ _
    have HF : Hid (Rd w4 bo4 (iC (evs p)) ∧ (∀ g o, bo4 = some ⟨g, o, none⟩ → w.heap.size ≤ g) ∧ Below w.heap.size w w4) := ⟨by rw [HEv.out]; exact hr4, fun g o e => by have := hg4 g o e; have := HB.out.2; omega, HB.out.1.trans (hb4.mono HB.out.1.size)⟩
    clear hK K hS hb4 hr4 hg4 ho4 hG4 hb03 hb3 hb2 hbd ho3 hc2 hs2
    go_wp2_with fail
    go_ret
    exact ⟨⟨_, _, rfl, HF.out.1, HF.out.2.1, HF.out.2.2⟩⟩
end Go.Proofs.YtelbakkgobkdaaaDoor.Vf
