import Derived.Test.YtelbakkgobkdaaaDoorVfNew
import Derived.Test.YtelbakkgobkdaaaDoorVfTk2
import Derived.Test.YtelbakkgobkdaaaDoorVfWays
import Derived.Deep.DeepCutAuto
namespace Go.Proofs.YtelbakkgobkdaaaDoor.Vf
open Go.RowKit Go.Proofs.YtelbakkgobkdaaaDoor.Nm

theorem foldl_take {α β : Type} (f : β → α → β) (b : β) {l : List α} {j : Nat} (h : j < l.length) : (l.take (j + 1)).foldl f b = f ((l.take j).foldl f b) l[j] := by
  rw [List.take_add_one, List.getElem?_eq_getElem h, List.foldl_append]
  rfl
theorem Wk.any {W : World} {wb gb : Nat} {v : PV} {p : Pg} {eo : Option Addr} {ec gc : Nat} {g : Nat → Option Sd} (h : Wk W wb gb v p eo ec gc g) {k : Nat} (hk : k < p.cd.length) :
    ∃ v0 v1 v2 v3 v4 v5 v6 v7, W.cell? ⟨gb, k * 8, none⟩ = some v0 ∧ W.cell? ⟨gb, k * 8 + 1, none⟩ = some v1 ∧ W.cell? ⟨gb, k * 8 + 2, none⟩ = some v2 ∧ W.cell? ⟨gb, k * 8 + 3, none⟩ = some v3 ∧ W.cell? ⟨gb, k * 8 + 4, none⟩ = some v4 ∧ W.cell? ⟨gb, k * 8 + 5, none⟩ = some v5 ∧ W.cell? ⟨gb, k * 8 + 6, none⟩ = some v6 ∧ W.cell? ⟨gb, k * 8 + 7, none⟩ = some v7 := by
  cases hg : g k with
  | none => obtain ⟨a0, a1, a2, a3, a4, a5, a6, a7⟩ := h.isN hk hg; exact ⟨_, _, _, _, _, _, _, _, a0, a1, a2, a3, a4, a5, a6, a7⟩
  | some s => obtain ⟨a0, a1, a2, a3, a4, a5, a6, a7⟩ := h.isS hk hg; exact ⟨_, _, _, _, _, _, _, _, a0, a1, a2, a3, a4, a5, a6, a7⟩
set_option maxHeartbeats 12800000 in
set_option maxRecDepth 100000 in
/-- newWalker -/
theorem new_any (v : PV) (p : Pg) (w : World) (hP : IsPg w v p) (hn : p.on.length ≤ 1000000) (hc : p.cd.length ≤ 262144) (hev : ∀ n ∈ evs p, -1 ≤ n ∧ n < (p.cd.length : Int)) :
    Calls Tryd.prog 26 #[.agg (pvC v p)] w (NwP w v p) := by
  have HEv : Hid (∀ W, Below w.heap.size w W → Calls Tryd.prog 40 #[.agg (pvC v p)] W (EvP W p)) := fun W hb => events_any v p W (hP.below hb) hn
  have HFr : Hid (∀ W, Calls Tryd.prog 41 #[] W fun e w' => e = .returned (.agg #[.int .i64 0, .int .u64 0, .int .u64 0, .int .u64 0, .int .u64 0, .bool true, .int .i64 0, .int .i64 (-1)]) ∧ Below W.heap.size W w') := fun W => fresh_any W
  have HP : Hid (IsPg w v p) := hP
  have HN : Hid (∀ n ∈ evs p, -1 ≤ n ∧ n < (p.cd.length : Int)) := hev
  have hel : (evs p).length = p.on.length + 1 := by unfold evs; simp
  have HEl : Hid ((evs p).length = p.on.length + 1) := hel
  have hn' : (p.on.length : Int) ≤ 1000000 := by omega
  have hc' : (p.cd.length : Int) ≤ 262144 := by omega
  have hmk := mk_stands p.cd.length (by omega)
  have HWm : Hid (∀ (W : World) wb gb eo ec, Below w.heap.size w W → w.heap.size ≤ wb → w.heap.size ≤ gb → wb ≠ gb → (∀ b o, eo = some ⟨b, o, none⟩ → b ≠ gb) → W.heap[wb]? = some (.cells #[.slice v.qo p.gh.length v.qc, .slice v.vo p.vs.length v.vc, .slice v.«to» p.ts.length v.tc, .slice v.oo p.on.length v.oc, .int .i64 p.miss, .slice v.co p.cd.length v.cc, .slice eo (p.on.length + 1) ec, .slice (some ⟨gb, 0, none⟩) p.cd.length p.cd.length] 87 (0, 0)) → Rd W eo (iC (evs p)) → W.heap[gb]? = some (.cells (gotC p.cd.length (fun _ => none)).toArray 71 (0, 0)) → Wa w W wb gb v p eo ec p.cd.length (fun _ => none)) := fun W wb gb eo ec hb h1 h2 h3 h4 h5 h6 h7 => ⟨⟨h5, hP.below hb, h6, h7⟩, hP, hb, h1, h2, h3, h4⟩
  obtain ⟨qo, qc, vo, vc, tto, tc, oo, oc, co, cc⟩ := v
  show Calls _ _ #[.agg #[.slice qo p.gh.length qc, .slice vo p.vs.length vc, .slice tto p.ts.length tc, .slice oo p.on.length oc, .int .i64 p.miss, .slice co p.cd.length cc]] _ _
  dsimp only at HEv HWm
  have hb0 : Below w.heap.size w (w.alloc (.cells #[.slice qo p.gh.length qc, .slice vo p.vs.length vc, .slice tto p.ts.length tc, .slice oo p.on.length oc, .int .i64 p.miss, .slice co p.cd.length cc] 27)) := (Below.refl _ w).alloc (Nat.le_refl _) _
  have hx0 : (w.alloc (.cells #[.slice qo p.gh.length qc, .slice vo p.vs.length vc, .slice tto p.ts.length tc, .slice oo p.on.length oc, .int .i64 p.miss, .slice co p.cd.length cc] 27)).heap[w.heap.size]? = some (.cells #[.slice qo p.gh.length qc, .slice vo p.vs.length vc, .slice tto p.ts.length tc, .slice oo p.on.length oc, .int .i64 p.miss, .slice co p.cd.length cc] 27 (0, 0)) := heap_alloc_new _ _
  have HB : Hid (Below w.heap.size w (w.alloc (.cells #[.slice qo p.gh.length qc, .slice vo p.vs.length vc, .slice tto p.ts.length tc, .slice oo p.on.length oc, .int .i64 p.miss, .slice co p.cd.length cc] 27)) ∧ (w.alloc (.cells #[.slice qo p.gh.length qc, .slice vo p.vs.length vc, .slice tto p.ts.length tc, .slice oo p.on.length oc, .int .i64 p.miss, .slice co p.cd.length cc] 27)).heap.size = w.heap.size + 1) := ⟨hb0, by simp⟩
  have HS : Hid (∀ W, Below (w.alloc (.cells #[.slice qo p.gh.length qc, .slice vo p.vs.length vc, .slice tto p.ts.length tc, .slice oo p.on.length oc, .int .i64 p.miss, .slice co p.cd.length cc] 27)).heap.size (w.alloc (.cells #[.slice qo p.gh.length qc, .slice vo p.vs.length vc, .slice tto p.ts.length tc, .slice oo p.on.length oc, .int .i64 p.miss, .slice co p.cd.length cc] 27)) W → (fun w' : World => w'.cell? ⟨w.heap.size, 0, none⟩ = some (.slice qo p.gh.length qc) ∧ w'.cell? ⟨w.heap.size, 1, none⟩ = some (.slice vo p.vs.length vc) ∧ w'.cell? ⟨w.heap.size, 2, none⟩ = some (.slice tto p.ts.length tc) ∧ w'.cell? ⟨w.heap.size, 3, none⟩ = some (.slice oo p.on.length oc) ∧ w'.cell? ⟨w.heap.size, 4, none⟩ = some (.int .i64 p.miss) ∧ w'.cell? ⟨w.heap.size, 5, none⟩ = some (.slice co p.cd.length cc)) W) := fun W hb => by
    exact cells6 ((hb.block _ (blk_lt hx0)).trans hx0)
  clear hb0 hx0 hP hn hc hev hel
  go_enter Tryd.func26, Tryd.ntmps26
  go_upto_region 1 with fail
  generalize w.alloc (.cells #[.slice qo p.gh.length qc, .slice vo p.vs.length vc, .slice tto p.ts.length tc, .slice oo p.on.length oc, .int .i64 p.miss, .slice co p.cd.length cc] 27) = W0 at *
  go_cut [3] (fun s3 wx => ∃ wb gb eo ec, s3 = .pointer (some ⟨wb, 0, none⟩) ∧ Wa w wx wb gb ⟨qo, qc, vo, vc, tto, tc, oo, oc, co, cc⟩ p eo ec p.cd.length (fun _ => none))
  case first =>
    refine wp_region_held (S := fun w' : World => w'.cell? ⟨w.heap.size, 0, none⟩ = some (.slice qo p.gh.length qc) ∧ w'.cell? ⟨w.heap.size, 1, none⟩ = some (.slice vo p.vs.length vc) ∧ w'.cell? ⟨w.heap.size, 2, none⟩ = some (.slice tto p.ts.length tc) ∧ w'.cell? ⟨w.heap.size, 3, none⟩ = some (.slice oo p.on.length oc) ∧ w'.cell? ⟨w.heap.size, 4, none⟩ = some (.int .i64 p.miss) ∧ w'.cell? ⟨w.heap.size, 5, none⟩ = some (.slice co p.cd.length cc)) (by kernel_rfl) ?_
    have hS : (fun w' : World => w'.cell? ⟨w.heap.size, 0, none⟩ = some (.slice qo p.gh.length qc) ∧ w'.cell? ⟨w.heap.size, 1, none⟩ = some (.slice vo p.vs.length vc) ∧ w'.cell? ⟨w.heap.size, 2, none⟩ = some (.slice tto p.ts.length tc) ∧ w'.cell? ⟨w.heap.size, 3, none⟩ = some (.slice oo p.on.length oc) ∧ w'.cell? ⟨w.heap.size, 4, none⟩ = some (.int .i64 p.miss) ∧ w'.cell? ⟨w.heap.size, 5, none⟩ = some (.slice co p.cd.length cc)) W0.drew := HS.out _ (Below.refl _ W0).drew
    change wpAnyH _ _ _ _ _ _ _ _ W0.drew
    refine tqA 0 rfl hS ?_
    refine tqA 1 rfl hS ?_
    refine tqA 3 rfl hS ?_
    refine tqA 4 rfl hS ?_
    refine tqA 5 rfl hS ?_
    have hbd : Below W0.heap.size W0 W0.drew := (Below.refl _ W0).drew
    refine wpAnyH_ready (rs := [2, 6]) (by kernel_rfl) (by simp) ?_
    refine AllReadyH.cons rfl (fun K hK => ?_) (AllReadyH.cons rfl (fun K hK => ?_) AllReadyH.nil)
    · go_simp
      refine Calls.mono (HEv.out _ (HB.out.1.trans (hbd.mono HB.out.1.size))) ?_
      rintro e w2 ⟨⟨eo, ec, rfl, hr2, hg2, hb2⟩⟩
      have hb02 : Below W0.heap.size W0 w2 := hbd.trans (hb2.mono hbd.size)
      refine hK.out _ _ (HS.out _ hb02) (fun hS => ?_)
      refine wpAnyH_ready (rs := [6]) (by kernel_rfl) (by simp) ?_
      refine AllReadyH.cons rfl (fun K hK => ?_) AllReadyH.nil
      go_simp
      have hb3 : Below w2.heap.size w2 (w2.alloc (.cells (gotC p.cd.length (fun _ => none)).toArray 71)) := (Below.refl _ w2).alloc (Nat.le_refl _) _
      have hb03 : Below W0.heap.size W0 (w2.alloc (.cells (gotC p.cd.length (fun _ => none)).toArray 71)) := hb02.trans (hb3.mono hb02.size)
      have hq3 : (w2.alloc (.cells (gotC p.cd.length (fun _ => none)).toArray 71)).heap[w2.heap.size]? = some (.cells (gotC p.cd.length (fun _ => none)).toArray 71 (0, 0)) := heap_alloc_new _ _
      have hen : ∀ b o, eo = some ⟨b, o, none⟩ → b ≠ w2.heap.size := fun b o e => by
        have hz0 : 0 < (evs p).length := by have := HEl.out; omega
        obtain ⟨g1, f1, e1, hl1, -⟩ := rd_int hr2 hz0
        rw [e] at e1
        cases e1
        omega
      have hsz := hb02.size
      refine hK.out _ _ (HS.out _ hb03) (fun hS => ?_)
      have hr3 := hr2.below hb3
      have hw2 : w.heap.size ≤ w2.heap.size := by have := HB.out.2; omega
      generalize w2.heap.size = gb at *
      generalize w2.alloc (.cells (gotC p.cd.length (fun _ => none)).toArray 71) = w3 at *
      refine tqA 7 rfl hS ?_
      refine wpAnyH_ready (rs := [8]) (by kernel_rfl) (by simp) ?_
      refine AllReadyH.cons rfl (fun K hK => ?_) AllReadyH.nil
      go_simp
      have hb9 : Below W0.heap.size W0 (w3.alloc (.cells #[.slice qo p.gh.length qc, .slice vo p.vs.length vc, .slice tto p.ts.length tc, .slice oo p.on.length oc, .int .i64 p.miss, .slice co p.cd.length cc, .slice eo (p.on.length + 1) ec, .slice (some ⟨gb, 0, none⟩) p.cd.length p.cd.length] 87)) := hb03.alloc hb03.size _
      have hbw : Below w3.heap.size w3 (w3.alloc (.cells #[.slice qo p.gh.length qc, .slice vo p.vs.length vc, .slice tto p.ts.length tc, .slice oo p.on.length oc, .int .i64 p.miss, .slice co p.cd.length cc, .slice eo (p.on.length + 1) ec, .slice (some ⟨gb, 0, none⟩) p.cd.length p.cd.length] 87)) := (Below.refl _ _).alloc (Nat.le_refl _) _
      refine hK.out _ _ (HS.out _ hb9) (fun hS => ?_)
      refine wpAnyH_ready (rs := [9]) (by kernel_rfl) (by simp) ?_
      refine AllReadyH.cons rfl (fun K hK => ?_) AllReadyH.nil
      go_simp
      refine hK.out _ _ hS (fun hS => ?_)
      refine wpAnyH_done (by kernel_rfl) ?_ _
      have hgl := blk_lt hq3
      have HF := show Hid _ from HWm.out (w3.alloc (.cells #[.slice qo p.gh.length qc, .slice vo p.vs.length vc, .slice tto p.ts.length tc, .slice oo p.on.length oc, .int .i64 p.miss, .slice co p.cd.length cc, .slice eo (p.on.length + 1) ec, .slice (some ⟨gb, 0, none⟩) p.cd.length p.cd.length] 87)) w3.heap.size (gb) eo ec (HB.out.1.trans (hb9.mono HB.out.1.size)) (by have := hb03.size; have := HB.out.2; omega) hw2 (by omega) hen (heap_alloc_new _ _) (Rd.below hr3 hbw) (al_old hq3)
      clear hK K hS
      go_wp2_with fail
      go_meet
      exact ⟨_, _, _, _, rfl, HF.out⟩
    · go_simp
      have hb3 : Below W0.heap.size W0 (W0.alloc (.cells (gotC p.cd.length (fun _ => none)).toArray 71)).drew := ((Below.refl _ W0).alloc (Nat.le_refl _) _).drew
      have hq3 : (W0.alloc (.cells (gotC p.cd.length (fun _ => none)).toArray 71)).drew.heap[W0.heap.size]? = some (.cells (gotC p.cd.length (fun _ => none)).toArray 71 (0, 0)) := heap_alloc_new W0 _
      have hs3 : (W0.alloc (.cells (gotC p.cd.length (fun _ => none)).toArray 71)).drew.heap.size = W0.heap.size + 1 := by show (W0.alloc (.cells (gotC p.cd.length (fun _ => none)).toArray 71)).heap.size = _; simp
      refine hK.out _ _ (HS.out _ hb3) (fun hS => ?_)
      refine wpAnyH_ready (rs := [2]) (by kernel_rfl) (by simp) ?_
      refine AllReadyH.cons rfl (fun K hK => ?_) AllReadyH.nil
      go_simp
      generalize (W0.alloc (.cells (gotC p.cd.length (fun _ => none)).toArray 71)).drew = w3 at *
      refine Calls.mono (HEv.out _ (HB.out.1.trans (hb3.mono HB.out.1.size))) ?_
      rintro e w4 ⟨⟨eo, ec, rfl, hr4, hg4, hb4⟩⟩
      have hb04 : Below W0.heap.size W0 w4 := hb3.trans (hb4.mono hb3.size)
      have hq4 := (hb4.block _ (blk_lt hq3)).trans hq3
      have hen : ∀ b o, eo = some ⟨b, o, none⟩ → b ≠ W0.heap.size := fun b o e => by have := hg4 b o e; omega
      refine hK.out _ _ (HS.out _ hb04) (fun hS => ?_)
      refine tqA 7 rfl hS ?_
      refine wpAnyH_ready (rs := [8]) (by kernel_rfl) (by simp) ?_
      refine AllReadyH.cons rfl (fun K hK => ?_) AllReadyH.nil
      go_simp
      have hb9 : Below W0.heap.size W0 (w4.alloc (.cells #[.slice qo p.gh.length qc, .slice vo p.vs.length vc, .slice tto p.ts.length tc, .slice oo p.on.length oc, .int .i64 p.miss, .slice co p.cd.length cc, .slice eo (p.on.length + 1) ec, .slice (some ⟨W0.heap.size, 0, none⟩) p.cd.length p.cd.length] 87)) := hb04.alloc hb04.size _
      have hbw : Below w4.heap.size w4 (w4.alloc (.cells #[.slice qo p.gh.length qc, .slice vo p.vs.length vc, .slice tto p.ts.length tc, .slice oo p.on.length oc, .int .i64 p.miss, .slice co p.cd.length cc, .slice eo (p.on.length + 1) ec, .slice (some ⟨W0.heap.size, 0, none⟩) p.cd.length p.cd.length] 87)) := (Below.refl _ _).alloc (Nat.le_refl _) _
      refine hK.out _ _ (HS.out _ hb9) (fun hS => ?_)
      refine wpAnyH_ready (rs := [9]) (by kernel_rfl) (by simp) ?_
      refine AllReadyH.cons rfl (fun K hK => ?_) AllReadyH.nil
      go_simp
      refine hK.out _ _ hS (fun hS => ?_)
      refine wpAnyH_done (by kernel_rfl) ?_ _
      have hgl := blk_lt hq4
      have HF := show Hid _ from HWm.out (w4.alloc (.cells #[.slice qo p.gh.length qc, .slice vo p.vs.length vc, .slice tto p.ts.length tc, .slice oo p.on.length oc, .int .i64 p.miss, .slice co p.cd.length cc, .slice eo (p.on.length + 1) ec, .slice (some ⟨W0.heap.size, 0, none⟩) p.cd.length p.cd.length] 87)) w4.heap.size (W0.heap.size) eo ec (HB.out.1.trans (hb9.mono HB.out.1.size)) (by have := hb04.size; have := HB.out.2; omega) (by have := hb04.size; have := HB.out.2; omega) (by omega) hen (heap_alloc_new _ _) (Rd.below hr4 hbw) (al_old hq4)
      clear hK K hS
      go_wp2_with fail
      go_meet
      exact ⟨_, _, _, _, rfl, HF.out⟩
  case rest =>
    obtain ⟨wb, gb, eo, ec, rfl, hwa⟩ := hcut
    obtain ⟨c0, c1, c2, c3, c4, c5, c6, c7⟩ := cells8 hwa.wk.hw
    have HA : Hid (Wa w wc wb gb ⟨qo, qc, vo, vc, tto, tc, oo, oc, co, cc⟩ p eo ec p.cd.length (fun _ => none)) := hwa
    clear hwa HS HB HEv HWm hmk c0 c1 c2 c3 c4 c5 c7
    go_wp2_with fail
    clear c6
    go_loopg [20] (p.on.length + 1) (fun gq x wr => ∃ j : Nat, j ≤ p.on.length + 1 ∧ gq = p.on.length + 1 - j ∧ x = .int .i64 (j : Int) ∧ Wa w wr wb gb ⟨qo, qc, vo, vc, tto, tc, oo, oc, co, cc⟩ p eo ec p.cd.length (((evs p).take j).foldl put0 (fun _ => none)))
    case atStart => exact ⟨0, Nat.zero_le _, rfl, rfl, HA.out⟩
    case round =>
      obtain ⟨j, hj, hgk, rfl, hwa⟩ := hrel
      have HG : Hid (gk = p.on.length + 1 - j ∧ Wa w wr wb gb ⟨qo, qc, vo, vc, tto, tc, oo, oc, co, cc⟩ p eo ec p.cd.length (((evs p).take j).foldl put0 (fun _ => none))) := ⟨hgk, hwa⟩
      clear hgk hwa HA
      by_cases hlt : j < p.on.length + 1
      · have hlt' : (j : Int) < (p.on.length : Int) + 1 := by omega
        have hle : j < (evs p).length := by have := HEl.out; omega
        obtain ⟨g1, f1, heo, hg1, d0⟩ := rd_int HG.out.2.wk.ev hle
        obtain rfl : eo = some ⟨g1, f1, none⟩ := heo
        have HLt : Hid (j < p.on.length + 1) := hlt
        have HFo : Hid (((evs p).take (j + 1)).foldl put0 (fun _ => none) = put0 (((evs p).take j).foldl put0 (fun _ => none)) (evs p)[j]) := foldl_take put0 _ hle
        obtain ⟨q1, q2⟩ := HN.out _ (List.getElem_mem hle)
        generalize (evs p)[j] = n at *
        generalize ((evs p).take j).foldl put0 (fun _ => none) = g at *
        by_cases hn1 : n = -1
        · subst hn1
          have HFo2 : Hid (((evs p).take (j + 1)).foldl put0 (fun _ => none) = g) := HFo.out
          clear hlt hle hg1 q1 q2
          go_wp2_with fail
          go_roundg (p.on.length + 1 - (j + 1))
          case measure => have h1 := HG.out.1; have := HLt.out; omega
          case rel => exact ⟨j + 1, HLt.out, rfl, by go_num, by rw [HFo2.out]; exact HG.out.2⟩
        · have hn1' : (n == -1) = false := by simpa using hn1
          obtain ⟨k, rfl⟩ : ∃ k : Nat, n = (k : Int) := ⟨n.toNat, by omega⟩
          have hk : k < p.cd.length := by omega
          have hk' : (k : Int) < (p.cd.length : Int) := by omega
          have HFo2 : Hid (((evs p).take (j + 1)).foldl put0 (fun _ => none) = upd g k freshS) := by
            show _ = _
            rw [HFo.out]
            unfold put0
            rw [if_neg hn1, Int.toNat_natCast]
          obtain ⟨-, -, -, -, -, -, -, c7⟩ := cells8 HG.out.2.wk.hw
          have HS6 : Hid (∀ W, Below wr.heap.size wr W → (fun w' : World => w'.cell? ⟨wb, 7, none⟩ = some (.slice (some ⟨gb, 0, none⟩) p.cd.length p.cd.length)) W) := fun W hb => by
            obtain ⟨-, -, -, -, -, -, -, c7⟩ := cells8 (HG.out.2.wk.below hb).hw
            exact c7
          have HSp : Hid (∀ W, Below wr.heap.size wr W → (fun w' : World => w'.cell? ⟨wb, 7, none⟩ = some (.slice (some ⟨gb, 0, none⟩) p.cd.length p.cd.length)) (put8 W gb k freshS)) := fun W hb => by
            obtain ⟨-, -, -, -, -, -, -, c7⟩ := cells8 ((HG.out.2.below hb).put hk freshS).wk.hw
            exact c7
          clear hlt hle hg1 q1 q2 hn1 HFo
          go_upto_region 6 with fail
          refine wp_region_held (S := fun w' : World => w'.cell? ⟨wb, 7, none⟩ = some (.slice (some ⟨gb, 0, none⟩) p.cd.length p.cd.length)) (by kernel_rfl) ?_
          have hS : (fun w' : World => w'.cell? ⟨wb, 7, none⟩ = some (.slice (some ⟨gb, 0, none⟩) p.cd.length p.cd.length)) wr.drew := HS6.out _ (Below.refl _ wr).drew
          change wpAnyH _ _ _ _ _ _ _ _ wr.drew
          refine tqS 0 rfl hS ?_
          refine tqS 1 rfl hS ?_
          refine tqS 2 rfl hS ?_
          refine tqS 3 rfl hS ?_
          refine tqS 4 rfl hS ?_
          refine wpAnyH_ready (rs := [5]) (by kernel_rfl) (by simp) ?_
          refine AllReadyH.cons rfl (fun K hK => ?_) AllReadyH.nil
          go_simp
          refine Calls.mono (HFr.out _) ?_
          rintro e w3 ⟨rfl, hb3⟩
          have hb4 : Below wr.heap.size wr w3 := (Below.refl _ wr).drew.trans (hb3.mono (Nat.le_refl _))
          refine hK.out _ _ (HS6.out _ hb4) (fun hS => ?_)
          refine wpAnyH_ready (rs := [6]) (by kernel_rfl) (by simp) ?_
          refine AllReadyH.cons rfl (fun K hK => ?_) AllReadyH.nil
          go_simp
          refine hK.out _ _ hS (fun hS => ?_)
          have hwa3 := HG.out.2.below hb4
          obtain ⟨v0, v1, v2, v3, v4, v5, v6, v7, a0, a1, a2, a3, a4, a5, a6, a7⟩ := hwa3.wk.any hk
          have fz : ∀ j, w3.frozen? ⟨gb, j, none⟩ = false := fun j => by have := hwa3.wk.gt; simp only [World.frozen?, this]; rfl
          have HW4 : Hid (Wa w (put8 w3 gb k freshS) wb gb ⟨qo, qc, vo, vc, tto, tc, oo, oc, co, cc⟩ p (some ⟨g1, f1, none⟩) ec p.cd.length (upd g k freshS)) := hwa3.put hk freshS
          refine wpAnyH_ready (rs := [7]) (by kernel_rfl) (by simp) ?_
          refine AllReadyH.cons rfl (fun K hK => ?_) AllReadyH.nil
          go_simp
          refine hK.out _ _ (HSp.out _ hb4) (fun hS => ?_)
          refine wpAnyH_done (by kernel_rfl) ?_ _
          clear hK K hS a0 a1 a2 a3 a4 a5 a6 a7 fz hwa3 hb3 hb4 HS6 HSp c7
          have HW5 : Hid (Wa w ((((((((w3.setCell ⟨gb, k * 8, none⟩ (.int .i64 0)).setCell ⟨gb, k * 8 + 1, none⟩ (.int .u64 0)).setCell ⟨gb, k * 8 + 2, none⟩ (.int .u64 0)).setCell ⟨gb, k * 8 + 3, none⟩ (.int .u64 0)).setCell ⟨gb, k * 8 + 4, none⟩ (.int .u64 0)).setCell ⟨gb, k * 8 + 5, none⟩ (.bool true)).setCell ⟨gb, k * 8 + 6, none⟩ (.int .i64 0)).setCell ⟨gb, k * 8 + 7, none⟩ (.int .i64 (-1))) wb gb ⟨qo, qc, vo, vc, tto, tc, oo, oc, co, cc⟩ p (some ⟨g1, f1, none⟩) ec p.cd.length (upd g k freshS)) := HW4.out
          generalize ((((((((w3.setCell ⟨gb, k * 8, none⟩ (.int .i64 0)).setCell ⟨gb, k * 8 + 1, none⟩ (.int .u64 0)).setCell ⟨gb, k * 8 + 2, none⟩ (.int .u64 0)).setCell ⟨gb, k * 8 + 3, none⟩ (.int .u64 0)).setCell ⟨gb, k * 8 + 4, none⟩ (.int .u64 0)).setCell ⟨gb, k * 8 + 5, none⟩ (.bool true)).setCell ⟨gb, k * 8 + 6, none⟩ (.int .i64 0)).setCell ⟨gb, k * 8 + 7, none⟩ (.int .i64 (-1))) = w4 at *
          go_wp2_with fail
          go_roundg (p.on.length + 1 - (j + 1))
          case measure => have h1 := HG.out.1; have := HLt.out; omega
          case rel => exact ⟨j + 1, HLt.out, rfl, by go_num, by rw [HFo2.out]; exact HW5.out⟩
      · have hlt' : ¬ (j : Int) < (p.on.length : Int) + 1 := by omega
        obtain rfl : j = p.on.length + 1 := by omega
        have HE : Hid (Wa w wr wb gb ⟨qo, qc, vo, vc, tto, tc, oo, oc, co, cc⟩ p eo ec p.cd.length (got0 p)) := by
          have h1 := HG.out.2
          rw [← HEl.out, List.take_length] at h1
          exact h1
        clear hlt hj HG
        go_wp2_with fail
        go_ret
        exact ⟨⟨_, _, _, _, rfl, HE.out⟩⟩
end Go.Proofs.YtelbakkgobkdaaaDoor.Vf
