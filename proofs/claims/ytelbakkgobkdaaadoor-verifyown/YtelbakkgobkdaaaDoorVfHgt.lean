import Derived.Test.YtelbakkgobkdaaaDoorVfRun
namespace Go.Proofs.YtelbakkgobkdaaaDoor.Vf
open Go.RowKit Go.Proofs.YtelbakkgobkdaaaDoor.Nm
/-- how many operands a place has -/
def hgt (g : Nat → Option Sd) (k : Nat) : Int := match g k with | some s => (s.ty.length : Int) | none => 0
theorem sd_form (g : Nat → Option Sd) (k : Nat) : ∃ a1 a2 a3 a4 b a6 a7, sdC (g k) = [.int .i64 (hgt g k), .int .u64 a1, .int .u64 a2, .int .u64 a3, .int .u64 a4, .bool b, .int .i64 a6, .int .i64 a7] := by
  unfold hgt
  cases g k with
  | none => exact ⟨_, _, _, _, _, _, _, rfl⟩
  | some s => exact ⟨_, _, _, _, _, _, _, rfl⟩
theorem rd_sd {W : World} {o : Option Addr} {n : Nat} {g : Nat → Option Sd} (h : Rd W o (gotC n g)) {k : Nat} (hk : k < n) : ∃ gb f a1 a2 a3 a4 b a6 a7, o = some ⟨gb, f, none⟩ ∧ gb < W.heap.size ∧ W.cell? ⟨gb, f + k * 8, none⟩ = some (.int .i64 (hgt g k)) ∧ W.cell? ⟨gb, f + k * 8 + 1, none⟩ = some (.int .u64 a1) ∧ W.cell? ⟨gb, f + k * 8 + 2, none⟩ = some (.int .u64 a2) ∧ W.cell? ⟨gb, f + k * 8 + 3, none⟩ = some (.int .u64 a3) ∧ W.cell? ⟨gb, f + k * 8 + 4, none⟩ = some (.int .u64 a4) ∧ W.cell? ⟨gb, f + k * 8 + 5, none⟩ = some (.bool b) ∧ W.cell? ⟨gb, f + k * 8 + 6, none⟩ = some (.int .i64 a6) ∧ W.cell? ⟨gb, f + k * 8 + 7, none⟩ = some (.int .i64 a7) := by
  obtain ⟨a1, a2, a3, a4, b, a6, a7, e⟩ := sd_form g k
  have c : ∀ i, i < 8 → ∀ v, (sdC (g k))[i]? = some v → (gotC n g)[k * 8 + i]? = some v := fun i hi v hv => by rw [gotC_at hk hi]; exact hv
  have c0 := c 0 (by omega) _ (by rw [e]; rfl)
  obtain ⟨gb, f, rfl, hg, d0⟩ := h _ _ c0
  have c' : ∀ i v, (gotC n g)[k * 8 + i]? = some v → W.cell? ⟨gb, f + k * 8 + i, none⟩ = some v := fun i v hv => by
    obtain ⟨g', f', e', _, d⟩ := h _ _ hv
    cases e'
    rwa [← Nat.add_assoc] at d
  exact ⟨gb, f, a1, a2, a3, a4, b, a6, a7, rfl, hg, d0, c' 1 _ (c 1 (by omega) _ (by rw [e]; rfl)), c' 2 _ (c 2 (by omega) _ (by rw [e]; rfl)), c' 3 _ (c 3 (by omega) _ (by rw [e]; rfl)), c' 4 _ (c 4 (by omega) _ (by rw [e]; rfl)), c' 5 _ (c 5 (by omega) _ (by rw [e]; rfl)), c' 6 _ (c 6 (by omega) _ (by rw [e]; rfl)), c' 7 _ (c 7 (by omega) _ (by rw [e]; rfl))⟩
/-- what Heights tells -/
structure HgP (w : World) (p : Pg) (r : Ending) (w' : World) : Prop where
  bel : Below w.heap.size w w'
  err : ∀ e n, judge p = .error (e, n) → ∃ b, r = .returned (.tuple #[.slice (some ⟨b, 0, none⟩) 0 0, .agg #[.int .i64 (e : Int), .int .i64 n]]) ∧ w.heap.size ≤ b
  ok : ∀ g, judge p = .ok g → ∃ b, r = .returned (.tuple #[.slice (some ⟨b, 0, none⟩) p.cd.length p.cd.length, .agg #[.int .i64 0, .int .i64 0]]) ∧ w.heap.size ≤ b ∧ w'.heap[b]? = some (.cells (fuC p.cd.length (hgt g)).toArray 3 (0, 0))
/-- the heights of the first j places -/
def hgF (g : Nat → Option Sd) (j : Nat) : Nat → Int := fun k => if k < j then hgt g k else 0
theorem hgF_zero (g : Nat → Option Sd) : hgF g 0 = fun _ => 0 := by funext k; unfold hgF; rw [if_neg (by omega)]
theorem hgF_step (g : Nat → Option Sd) (j : Nat) : (fun k => if k = j then hgt g j else hgF g j k) = hgF g (j + 1) := by
  funext k
  unfold hgF
  by_cases e : k = j
  · subst e; rw [if_pos rfl, if_pos (by omega)]
  · rw [if_neg e]
    by_cases h : k < j
    · rw [if_pos h, if_pos (by omega)]
    · rw [if_neg h, if_neg (by omega)]
theorem hgF_all (g : Nat → Option Sd) (n : Nat) : fuC n (hgF g n) = fuC n (hgt g) := by
  unfold fuC
  refine List.map_congr_left (fun k hk => ?_)
  rw [List.mem_range] at hk
  unfold hgF
  rw [if_pos hk]
set_option maxHeartbeats 12800000 in
set_option maxRecDepth 100000 in
/-- Heights -/
theorem heights_any (v : PV) (p : Pg) (w : World) (hP : IsPg w v p) (hE : Ef w) : Calls Tryd.prog 13 #[.agg (pvC v p)] w (HgP w p) := by
  have HJu : Hid (∀ W, Below w.heap.size w W → Calls Tryd.prog 19 #[.agg (pvC v p)] W (JuP W p)) := fun W hb => judge_any v p W (hP.below hb) (hE.below hb)
  obtain ⟨qo, qc, vo, vc, tto, tc, oo, oc, co, cc⟩ := v
  show Calls _ _ #[.agg #[.slice qo p.gh.length qc, .slice vo p.vs.length vc, .slice tto p.ts.length tc, .slice oo p.on.length oc, .int .i64 p.miss, .slice co p.cd.length cc]] _ _
  unfold pvC at HJu
  dsimp only at HJu
  have hs0 : (w.alloc (.cells #[.slice qo p.gh.length qc, .slice vo p.vs.length vc, .slice tto p.ts.length tc, .slice oo p.on.length oc, .int .i64 p.miss, .slice co p.cd.length cc] 27)).heap.size = w.heap.size + 1 := by simp
  have hb0 : Below w.heap.size w ((w.alloc (.cells #[.slice qo p.gh.length qc, .slice vo p.vs.length vc, .slice tto p.ts.length tc, .slice oo p.on.length oc, .int .i64 p.miss, .slice co p.cd.length cc] 27)).alloc (.cells #[.int .i64 0, .int .i64 0] 35)) := ((Below.refl _ w).alloc (Nat.le_refl _) _).alloc (by rw [hs0]; omega) _
  have hc0 : ((w.alloc (.cells #[.slice qo p.gh.length qc, .slice vo p.vs.length vc, .slice tto p.ts.length tc, .slice oo p.on.length oc, .int .i64 p.miss, .slice co p.cd.length cc] 27)).alloc (.cells #[.int .i64 0, .int .i64 0] 35)).heap[w.heap.size]? = some (.cells #[.slice qo p.gh.length qc, .slice vo p.vs.length vc, .slice tto p.ts.length tc, .slice oo p.on.length oc, .int .i64 p.miss, .slice co p.cd.length cc] 27 (0, 0)) := (((Below.refl _ (w.alloc (.cells #[.slice qo p.gh.length qc, .slice vo p.vs.length vc, .slice tto p.ts.length tc, .slice oo p.on.length oc, .int .i64 p.miss, .slice co p.cd.length cc] 27))).alloc (Nat.le_refl _) _).block _ (by rw [hs0]; omega)).trans (heap_alloc_new w _)
  have hd0 : ((w.alloc (.cells #[.slice qo p.gh.length qc, .slice vo p.vs.length vc, .slice tto p.ts.length tc, .slice oo p.on.length oc, .int .i64 p.miss, .slice co p.cd.length cc] 27)).alloc (.cells #[.int .i64 0, .int .i64 0] 35)).heap[w.heap.size + 1]? = some (.cells #[.int .i64 0, .int .i64 0] 35 (0, 0)) := by have := heap_alloc_new (w.alloc (.cells #[.slice qo p.gh.length qc, .slice vo p.vs.length vc, .slice tto p.ts.length tc, .slice oo p.on.length oc, .int .i64 p.miss, .slice co p.cd.length cc] 27)) (.cells #[.int .i64 0, .int .i64 0] 35); rwa [hs0] at this
  have HB : Hid (Below w.heap.size w _ ∧ _ ∧ _) := ⟨hb0, hc0, hd0⟩
  clear hP hE hs0 hb0 hc0 hd0
  go_enter Tryd.func13, Tryd.ntmps13
  go_upto_region 1 with fail
  generalize ((w.alloc (.cells #[.slice qo p.gh.length qc, .slice vo p.vs.length vc, .slice tto p.ts.length tc, .slice oo p.on.length oc, .int .i64 p.miss, .slice co p.cd.length cc] 27)).alloc (.cells #[.int .i64 0, .int .i64 0] 35)) = W0 at *
  obtain ⟨i0, i1, i2, i3, i4, i5⟩ := cells6 HB.out.2.1
  go_wp2_with fail
  refine (HJu.out _ HB.out.1).mono ?_
  rintro e w1 hj
  obtain ⟨s0, n0, G, o1, n1, m1, cm, f0, f1, rfl, hRd, hn0, hOk⟩ : ∃ s0 n0 G o1 n1 m1 cm f0 f1, e = .returned (.tuple #[.slice s0 n0 n0, .agg #[.slice o1 n1 m1, .int .i64 cm], .agg #[.int .i64 f0, .int .i64 f1]]) ∧ Rd w1 s0 (gotC n0 G) ∧ n0 ≤ 262144 ∧ ((∀ er n, judge p = .error (er, n) → n0 = 0 ∧ f0 = (er : Int) ∧ f1 = n) ∧ (∀ g, judge p = .ok g → n0 = p.cd.length ∧ G = g ∧ f0 = 0 ∧ f1 = 0)) := by
    cases hR : judge p with
    | error x =>
      obtain ⟨er, n⟩ := x
      exact ⟨_, 0, (fun _ => none), _, _, _, _, _, _, hj.err er n hR, fun k x hx => by simp [gotC] at hx, by omega, fun er' n' h => by cases h; exact ⟨rfl, rfl, rfl⟩, fun g h => by cases h⟩
    | ok g =>
      obtain ⟨gb, b, h, -, hg, -, -, -⟩ := hj.ok g hR
      refine ⟨_, _, g, _, _, _, _, _, _, h, fun k x hx => ⟨gb, 0, rfl, blk_lt hg, by rw [Nat.zero_add]; exact cell_of hg hx⟩, ?_, fun er' n' h => by (cases h), fun g' h => by cases h; exact ⟨rfl, rfl, rfl, rfl⟩⟩
      unfold judge at hR
      split at hR
      · rename_i hck; exact (chk_of hck).2.1
      · cases hR
  have HOk : Hid ((∀ er n, judge p = .error (er, n) → n0 = 0 ∧ f0 = (er : Int) ∧ f1 = n) ∧ (∀ g, judge p = .ok g → n0 = p.cd.length ∧ G = g ∧ f0 = 0 ∧ f1 = 0)) := hOk
  have HN0 : Hid (n0 ≤ 262144) := hn0
  have hn0' : (n0 : Int) ≤ 262144 := by omega
  have HB1 : Hid (Below w.heap.size w w1 ∧ w1.heap[w.heap.size + 1]? = some (.cells #[.int .i64 0, .int .i64 0] 35 (0, 0))) := ⟨HB.out.1.trans (hj.bel.mono HB.out.1.size), (hj.bel.block _ (blk_lt HB.out.2.2)).trans HB.out.2.2⟩
  have hs6 : (w1.alloc (.cells #[.slice o1 n1 m1, .int .i64 cm] 32)).heap.size = w1.heap.size + 1 := by simp
  have hal : Below w1.heap.size w1 ((w1.alloc (.cells #[.slice o1 n1 m1, .int .i64 cm] 32)).alloc (.cells #[.int .i64 f0, .int .i64 f1] 35)) := ((Below.refl _ w1).alloc (Nat.le_refl _) _).alloc (by rw [hs6]; omega) _
  have hd6 : ((w1.alloc (.cells #[.slice o1 n1 m1, .int .i64 cm] 32)).alloc (.cells #[.int .i64 f0, .int .i64 f1] 35)).heap[w1.heap.size + 1]? = some (.cells #[.int .i64 f0, .int .i64 f1] 35 (0, 0)) := by have := heap_alloc_new (w1.alloc (.cells #[.slice o1 n1 m1, .int .i64 cm] 32)) (.cells #[.int .i64 f0, .int .i64 f1] 35); rwa [hs6] at this
  have HB6 : Hid (Below w.heap.size w ((w1.alloc (.cells #[.slice o1 n1 m1, .int .i64 cm] 32)).alloc (.cells #[.int .i64 f0, .int .i64 f1] 35)) ∧ ((w1.alloc (.cells #[.slice o1 n1 m1, .int .i64 cm] 32)).alloc (.cells #[.int .i64 f0, .int .i64 f1] 35)).heap[w.heap.size + 1]? = some (.cells #[.int .i64 0, .int .i64 0] 35 (0, 0)) ∧ ((w1.alloc (.cells #[.slice o1 n1 m1, .int .i64 cm] 32)).alloc (.cells #[.int .i64 f0, .int .i64 f1] 35)).heap[w1.heap.size + 1]? = some (.cells #[.int .i64 f0, .int .i64 f1] 35 (0, 0)) ∧ Rd ((w1.alloc (.cells #[.slice o1 n1 m1, .int .i64 cm] 32)).alloc (.cells #[.int .i64 f0, .int .i64 f1] 35)) s0 (gotC n0 G) ∧ w.heap.size + 1 < w1.heap.size) := ⟨HB1.out.1.trans (hal.mono HB1.out.1.size), (hal.block _ (blk_lt HB1.out.2)).trans HB1.out.2, hd6, hRd.below hal, blk_lt HB1.out.2⟩
  clear hj HB HJu i0 i1 i2 i3 i4 i5 hOk hn0 hRd HB1 hs6 hal hd6
  go_upto_region 2 with fail
  generalize ((w1.alloc (.cells #[.slice o1 n1 m1, .int .i64 cm] 32)).alloc (.cells #[.int .i64 f0, .int .i64 f1] 35)) = W6 at *
  generalize w1.heap.size = cb at *
  have hmk := mk_ints n0 (by have := HN0.out; omega)
  have hb7 : Below W6.heap.size W6 (W6.alloc (.cells (fuC n0 (fun _ => 0)).toArray 3)) := (Below.refl _ W6).alloc (Nat.le_refl _) _
  have H7 : Hid (Below W6.heap.size W6 (W6.alloc (.cells (fuC n0 (fun _ => 0)).toArray 3)) ∧ (W6.alloc (.cells (fuC n0 (fun _ => 0)).toArray 3)).heap[W6.heap.size]? = some (.cells (fuC n0 (fun _ => 0)).toArray 3 (0, 0))) := ⟨hb7, heap_alloc_new _ _⟩
  have HL6 : Hid (cb + 1 < W6.heap.size ∧ w.heap.size + 1 < cb) := ⟨blk_lt HB6.out.2.2.1, HB6.out.2.2.2.2⟩
  clear hb7
  go_wp2_with fail
  generalize W6.alloc (.cells (fuC n0 (fun _ => 0)).toArray 3) = W7 at *
  obtain ⟨kb, hkb⟩ : ∃ kb, kb = W6.heap.size := ⟨_, rfl⟩
  rw [← hkb] at H7 HL6 ⊢
  have HKb : Hid (kb = W6.heap.size) := hkb
  clear hkb
  go_loopg [21] n0 (fun gq x wr => ∃ j : Nat, j ≤ n0 ∧ gq = n0 - j ∧ x = .int .i64 (j : Int) ∧ Below kb W6 wr ∧ wr.heap[kb]? = some (.cells (fuC n0 (hgF G j)).toArray 3 (0, 0)))
  case atStart => exact ⟨0, Nat.zero_le _, rfl, rfl, H7.out.1, by rw [hgF_zero]; exact H7.out.2⟩
  case round =>
    obtain ⟨j, hj, hgk, rfl, hbx, hkx⟩ := hrel
    have HG : Hid (gk = n0 - j ∧ Below kb W6 wr ∧ wr.heap[kb]? = some (.cells (fuC n0 (hgF G j)).toArray 3 (0, 0))) := ⟨hgk, hbx, hkx⟩
    clear hgk hbx hkx
    by_cases hlt : j < n0
    · have hlt' : (j : Int) < (n0 : Int) := by omega
      have HLt : Hid (j < n0) := hlt
      have hbk : Below W6.heap.size W6 wr := by rw [← HKb.out]; exact HG.out.2.1
      obtain ⟨gb, f, a1, a2, a3, a4, b, a6, a7, heo, -, d0, d1, d2, d3, d4, d5, d6, d7⟩ := rd_sd (HB6.out.2.2.2.1.below hbk) hlt
      obtain rfl : s0 = some ⟨gb, f, none⟩ := heo
      have c0 := cell_of HG.out.2.2 (fuC_at (f := hgF G j) hlt)
      have fz : ∀ j, wr.frozen? ⟨kb, j, none⟩ = false := fun j => by have := HG.out.2.2; simp only [World.frozen?, this]; rfl
      obtain ⟨hv, hhv⟩ : ∃ hv, hv = hgt G j := ⟨_, rfl⟩
      rw [← hhv] at d0
      have HHv : Hid (hv = hgt G j) := hhv
      have hkl : kb < wr.heap.size := blk_lt HG.out.2.2
      clear hlt hj hbk hhv
      have hss : (wr.setCell ⟨kb, j, none⟩ (.int .i64 hv)).heap.size = wr.heap.size := by simp [World.setCell]
      have hB2 : Below kb W6 ((wr.setCell ⟨kb, j, none⟩ (.int .i64 hv)).alloc (.cells #[.int .i64 hv, .int .u64 a1, .int .u64 a2, .int .u64 a3, .int .u64 a4, .bool b, .int .i64 a6, .int .i64 a7] 71)) := (HG.out.2.1.setCell (p := ⟨kb, j, none⟩) (Nat.le_refl _) _).alloc (by rw [hss]; omega) _
      have hX2 : ((wr.setCell ⟨kb, j, none⟩ (.int .i64 hv)).alloc (.cells #[.int .i64 hv, .int .u64 a1, .int .u64 a2, .int .u64 a3, .int .u64 a4, .bool b, .int .i64 a6, .int .i64 a7] 71)).heap[kb]? = some (.cells (fuC n0 (hgF G (j + 1))).toArray 3 (0, 0)) := by
        have h1 : (wr.setCell ⟨kb, j, none⟩ (.int .i64 hv)).heap[kb]? = some (.cells (fuC n0 (hgF G (j + 1))).toArray 3 (0, 0)) := by
          rw [heap_setCell_same wr kb j _ _ _ HG.out.2.2, fuC_set hv HLt.out, HHv.out, hgF_step]
        exact (((Below.refl _ (wr.setCell ⟨kb, j, none⟩ (.int .i64 hv))).alloc (Nat.le_refl _) _).block _ (blk_lt h1)).trans h1
      have HX : Hid (Below kb W6 ((wr.setCell ⟨kb, j, none⟩ (.int .i64 hv)).alloc (.cells #[.int .i64 hv, .int .u64 a1, .int .u64 a2, .int .u64 a3, .int .u64 a4, .bool b, .int .i64 a6, .int .i64 a7] 71)) ∧ ((wr.setCell ⟨kb, j, none⟩ (.int .i64 hv)).alloc (.cells #[.int .i64 hv, .int .u64 a1, .int .u64 a2, .int .u64 a3, .int .u64 a4, .bool b, .int .i64 a6, .int .i64 a7] 71)).heap[kb]? = some (.cells (fuC n0 (hgF G (j + 1))).toArray 3 (0, 0))) := ⟨hB2, hX2⟩
      clear hB2 hX2 hss
      go_wp2_with fail
      go_roundg (n0 - (j + 1))
      case measure => have h1 := HG.out.1; have := HLt.out; omega
      case rel => exact ⟨j + 1, HLt.out, rfl, by go_num, HX.out.1, HX.out.2⟩
    · obtain rfl : j = n0 := by omega
      clear hlt hj
      go_upto_region 8 with fail
      have HG2 : Hid (Below kb W6 wr ∧ wr.heap[kb]? = some (.cells (fuC j (hgt G)).toArray 3 (0, 0))) := ⟨HG.out.2.1, by rw [← hgF_all]; exact HG.out.2.2⟩
      have hkk : kb = W6.heap.size := HKb.out
      have hbk : Below W6.heap.size W6 wr := by rw [← hkk]; exact HG.out.2.1
      have HB9 : Hid (Below w.heap.size w wr ∧ wr.heap[w.heap.size + 1]? = some (.cells #[.int .i64 0, .int .i64 0] 35 (0, 0)) ∧ wr.heap[cb + 1]? = some (.cells #[.int .i64 f0, .int .i64 f1] 35 (0, 0))) := ⟨HB6.out.1.trans (hbk.mono HB6.out.1.size), (hbk.block _ (blk_lt HB6.out.2.1)).trans HB6.out.2.1, (hbk.block _ (blk_lt HB6.out.2.2.1)).trans HB6.out.2.2.1⟩
      clear hkk hbk HG HB6 H7 HKb hmk
      have HSS : Hid (∀ X, X.heap[cb + 1]? = wr.heap[cb + 1]? → (fun w' : World => w'.cell? ⟨cb + 1, 0, none⟩ = some (.int .i64 f0) ∧ w'.cell? ⟨cb + 1, 1, none⟩ = some (.int .i64 f1)) X) := fun X hX => cells2 (hX.trans HB9.out.2.2)
      refine wp_region_held (S := fun w' : World => w'.cell? ⟨cb + 1, 0, none⟩ = some (.int .i64 f0) ∧ w'.cell? ⟨cb + 1, 1, none⟩ = some (.int .i64 f1)) (by kernel_rfl) ?_
      change wpAnyH _ _ _ _ _ _ _ _ wr.drew
      have hS := HSS.out wr.drew rfl
      refine tqA 0 rfl hS ?_
      refine tqA 1 rfl hS ?_
      refine wpAnyH_ready (rs := [2]) (by kernel_rfl) (by simp) ?_
      refine AllReadyH.cons rfl (fun K hK => ?_) AllReadyH.nil
      go_simp
      refine hK.out _ _ hS (fun hS => ?_)
      clear hK K
      have hk1 : ∀ k, k ≠ w.heap.size + 1 → (wr.drew.setRow (w.heap.size + 1) #[.int .i64 f0, .int .i64 f1]).heap[k]? = wr.heap[k]? := fun k hk => setRow_other _ _ _ _ hk
      have hd1 : wr.drew.heap[w.heap.size + 1]? = some (.cells #[.int .i64 0, .int .i64 0] 35 (0, 0)) := HB9.out.2.1
      refine stA 3 (by kernel_rfl) rfl rfl 35 (.tmp 3) (.tmp 34) rfl (w.heap.size + 1) #[.int .i64 f0, .int .i64 f1] (by go_simp) (by go_simp) 35 _ hd1 (by kernel_rfl) rfl (by kernel_rfl) (HSS.out _ (hk1 _ (by have := HL6.out; omega))) (fun hS => ?_)
      refine wpAnyH_done (by kernel_rfl) ?_ _
      have hB9d : Below w.heap.size w wr.drew := HB9.out.1.drew
      have HE : Hid (Below w.heap.size w (wr.drew.setRow (w.heap.size + 1) #[.int .i64 f0, .int .i64 f1]) ∧ (wr.drew.setRow (w.heap.size + 1) #[.int .i64 f0, .int .i64 f1]).heap[w.heap.size + 1]? = some (.cells #[.int .i64 f0, .int .i64 f1] 35 (0, 0)) ∧ (wr.drew.setRow (w.heap.size + 1) #[.int .i64 f0, .int .i64 f1]).heap[kb]? = some (.cells (fuC j (hgt G)).toArray 3 (0, 0))) := ⟨below_setRow hB9d (by omega), setRow_heap _ _ _ _ _ _ hd1, (hk1 _ (by have := HL6.out; omega)).trans HG2.out.2⟩
      clear hS hk1 hd1 hB9d HSS
      generalize wr.drew.setRow (w.heap.size + 1) #[.int .i64 f0, .int .i64 f1] = W9 at *
      obtain ⟨z0, z1⟩ := cells2 HE.out.2.1
      go_wp2_with fail
      refine bodyPost_ret (v := .tuple #[.slice (some ⟨kb, 0, none⟩) j j, .agg #[.int .i64 f0, .int .i64 f1]]) (by simp [results, Tryd.results13, go_sem, z0, z1]) rfl ?_
      have hle : w.heap.size ≤ kb := by have := HL6.out; omega
      refine ⟨HE.out.1, fun e n hj => ?_, fun g hj => ?_⟩
      · obtain ⟨e1, e2, e3⟩ := HOk.out.1 e n hj
        exact ⟨kb, by rw [e1, e2, e3], hle⟩
      · obtain ⟨e1, e2, e3, e4⟩ := HOk.out.2 g hj
        have := HE.out.2.2
        rw [e1, e2] at this
        exact ⟨kb, by rw [e1, e3, e4], hle, this⟩
end Go.Proofs.YtelbakkgobkdaaaDoor.Vf
