import Derived.Test.YtelbakkgobkdaaaDoorVfWout
namespace Go.Proofs.YtelbakkgobkdaaaDoor.Vf
open Go.RowKit Go.Proofs.YtelbakkgobkdaaaDoor.Nm

/-- the table of effects lies in its variable -/
structure Ef (w : World) : Prop where
  pos : 0 < w.heap.size
  cell : ∀ op, op < 42 → w.cell? ⟨0, op * 3, none⟩ = some (.int .i64 ((ef op).1 : Int)) ∧ w.cell? ⟨0, op * 3 + 1, none⟩ = some (.int .i64 ((ef op).2.1 : Int)) ∧ w.cell? ⟨0, op * 3 + 2, none⟩ = some (.int .i64 ((ef op).2.2 : Int))
theorem Ef.below {w w' : World} (h : Ef w) (hb : Below w.heap.size w w') : Ef w' :=
  ⟨Nat.lt_of_lt_of_le h.pos hb.size, fun op ho => ⟨(hb.cell (p := ⟨0, op * 3, none⟩) h.pos).trans (h.cell op ho).1, (hb.cell (p := ⟨0, op * 3 + 1, none⟩) h.pos).trans (h.cell op ho).2.1, (hb.cell (p := ⟨0, op * 3 + 2, none⟩) h.pos).trans (h.cell op ho).2.2⟩⟩
theorem ef_le : ∀ op, op < 42 → (ef op).1 ≤ 2 ∧ (ef op).2.1 ≤ 3 ∧ (ef op).2.2 ≤ 2 ∧ ((ef op).2.1 = 3 → (ef op).1 = 2) ∧ (0 < (ef op).1 → 1 ≤ (ef op).2.1) := by decide
set_option maxHeartbeats 1600000 in
set_option maxRecDepth 100000 in
theorem fits_any (ty : List Bool) (op : Nat) (hop : op < 42) (hh : ty.length ≤ 256) (w : World) (hE : Ef w) :
    Calls Tryd.prog 64 #[.agg (opV ty).toArray, .int .i64 (op : Int)] w fun e w' => e = .returned (.bool (fitsB ty op)) ∧ Below w.heap.size w w' := by
  unfold opV fitsB
  have hop1 : (op : Int) < 42 := by omega
  obtain ⟨c0, c1, c2⟩ := hE.cell op hop
  have hz : 0 < w.heap.size := hE.pos
  obtain ⟨l1, l2, l3, -⟩ := ef_le op hop
  generalize (ef op).1 = t at *
  generalize (ef op).2.1 = k at *
  generalize (ef op).2.2 = g at *
  have hh1 : (ty.length : Int) ≤ 256 := by omega
  have l1' : (t : Int) ≤ 2 := by omega
  generalize ty.length = h at *
  clear hE
  by_cases ht : t ≤ h
  · have ht1 : ¬ (h : Int) < t := by omega
    by_cases h0 : op = 0 ∧ 0 < h
    · obtain ⟨rfl, h1⟩ := h0
      have h1' : (0 : Int) < h := by omega
      go_enter Tryd.func64, Tryd.ntmps64
      go_wp2_with fail
      go_ret
      refine ⟨?_, ((Below.refl _ w).alloc (Nat.le_refl _) _).alloc (by simp) _⟩
      simp
    · have h00 : (!(decide (op = 0) && decide (0 < h))) = true := by
        simp only [not_and, Nat.not_lt] at h0
        by_cases e : op = 0
        · have := h0 e; simp; omega
        · simp [e]
      rw [h00]
      by_cases g0 : g = 0
      · subst g0
        by_cases e0 : op = 0
        · have h1 : h = 0 := by omega
          subst e0 h1
          go_enter Tryd.func64, Tryd.ntmps64
          go_wp2_with fail
          go_ret
          refine ⟨?_, ((Below.refl _ w).alloc (Nat.le_refl _) _).alloc (by simp) _⟩
          simp
        · have e1 : ¬ (op : Int) = 0 := by omega
          go_enter Tryd.func64, Tryd.ntmps64
          go_wp2_with fail
          go_ret
          refine ⟨?_, ((Below.refl _ w).alloc (Nat.le_refl _) _).alloc (by simp) _⟩
          simp
      · have g1 : ¬ (g : Int) = 0 := by omega
        have hd : (decide (g = 0) || decide (h - t < 256)) = decide ((h : Int) - t < 256) := by
          rw [decide_eq_false g0, Bool.false_or]
          exact decide_eq_decide.2 (by omega)
        rw [hd, decide_eq_true ht, Bool.true_and, Bool.true_and]
        by_cases e0 : op = 0
        · have h1 : h = 0 := by omega
          subst e0 h1
          go_enter Tryd.func64, Tryd.ntmps64
          go_wp2_with fail
          go_ret
          refine ⟨?_, ((Below.refl _ w).alloc (Nat.le_refl _) _).alloc (by simp) _⟩
          simp [g0]
        · have e1 : ¬ (op : Int) = 0 := by omega
          go_enter Tryd.func64, Tryd.ntmps64
          go_wp2_with fail
          go_ret
          refine ⟨?_, ((Below.refl _ w).alloc (Nat.le_refl _) _).alloc (by simp) _⟩
          simp [g0]
  · have ht1 : (h : Int) < t := by omega
    go_enter Tryd.func64, Tryd.ntmps64
    go_wp2_with fail
    go_ret
    refine ⟨?_, ((Below.refl _ w).alloc (Nat.le_refl _) _).alloc (by simp) _⟩
    simp [ht]
theorem bcell {W w1 : World} (hb : Below W.heap.size W w1) : (∀ b o, b < W.heap.size → w1.cell? ⟨b, o, none⟩ = W.cell? ⟨b, o, none⟩) ∧ (∀ b o, b < W.heap.size → w1.frozen? ⟨b, o, none⟩ = W.frozen? ⟨b, o, none⟩) :=
  ⟨fun b o h => hb.cell (p := ⟨b, o, none⟩) h, fun b o h => hb.frozen (p := ⟨b, o, none⟩) h⟩
theorem suits_0 {ty : List Bool} {op : Nat} (h : (ef op).1 = 0) : suitsB ty op = true := by unfold suitsB; rw [h]; rfl
theorem suits_1 {ty : List Bool} {op : Nat} (h : (ef op).1 = 1) : suitsB ty op = decide (knd (blw ty 0) = wantK ty op) := by unfold suitsB; rw [h]; simp [List.range_succ]
theorem suits_2 {ty : List Bool} {op : Nat} (h : (ef op).1 = 2) : suitsB ty op = (decide (knd (blw ty 0) = wantK ty op) && decide (knd (blw ty 1) = wantK ty op)) := by unfold suitsB; rw [h]; simp [List.range_succ]
set_option maxHeartbeats 3200000 in
set_option maxRecDepth 100000 in
theorem suits_any (ty : List Bool) (op : Nat) (hop : op < 42) (hh : ty.length ≤ 256) (ht : (ef op).1 ≤ ty.length) (w : World) (hE : Ef w) :
    Calls Tryd.prog 65 #[.agg (opV ty).toArray, .int .i64 (op : Int)] w fun e w' => e = .returned (.bool (suitsB ty op)) ∧ Below w.heap.size w w' := by
  have hop1 : (op : Int) < 42 := by omega
  obtain ⟨c0, c1, c2⟩ := hE.cell op hop
  have hz : 0 < w.heap.size := hE.pos
  obtain ⟨l1, l2, l3, l4, -⟩ := ef_le op hop
  have hB : Hid (∀ n W, n < ty.length → Calls Tryd.prog 88 #[.agg (opV ty).toArray, .int .i64 (n : Int)] W fun e w' => e = .returned (.int .i64 (knd (blw ty n) : Int)) ∧ Below W.heap.size W w') := fun n W hn => below_any ty n hn hh W
  have h012 : (ef op).1 = 0 ∨ (ef op).1 = 1 ∨ (ef op).1 = 2 := by omega
  clear hE
  rcases h012 with h0 | h0 | h0
  · rw [suits_0 h0]
    rw [h0] at c0 l4
    have l5 : ¬ (((ef op).2.1 : Nat) : Int) = 3 := fun e => by have := l4 (by omega); omega
    generalize (ef op).2.1 = k at *
    generalize (ef op).2.2 = g at *
    unfold opV at *
    clear l4
    go_enter Tryd.func65, Tryd.ntmps65
    go_wp2_with fail
    refine wp_loop_rounds 1 ?_
    rw [rounds_succ]
    go_wp2_with fail
    go_ret
    exact ⟨rfl, ((Below.refl _ w).alloc (Nat.le_refl _) _).alloc (by simp) _⟩
  · rw [suits_1 h0]
    rw [h0] at c0 l4
    have l5 : ¬ (((ef op).2.1 : Nat) : Int) = 3 := fun e => by have := l4 (by omega); omega
    have hW : wantK ty op = (ef op).2.1 := by unfold wantK; rw [if_neg (by omega)]
    rw [hW]
    have hB0 := fun W => hB.out 0 W (by omega)
    generalize (ef op).2.1 = k at *
    generalize (ef op).2.2 = g at *
    generalize knd (blw ty 0) = x at *
    unfold opV at *
    clear l4 hW hB
    by_cases hx : x = k
    · subst hx
      go_enter Tryd.func65, Tryd.ntmps65
      go_wp2_with fail
      refine wp_loop_rounds 2 ?_
      rw [rounds_succ]
      go_wp2_with (go_at_call 88; refine (hB0 _).mono ?_; rintro e w1 ⟨rfl, hb⟩; have HB : Hid _ := hb; clear hb)
      rw [rounds_succ]
      go_wp2_with fail
      go_ret
      refine ⟨by simp, (((Below.refl _ w).alloc (Nat.le_refl _) _).alloc (by simp) _).trans (HB.out.mono (by simp; omega))⟩
    · have hx1 : ¬ (x : Int) = k := by omega
      go_enter Tryd.func65, Tryd.ntmps65
      go_wp2_with fail
      refine wp_loop_rounds 2 ?_
      rw [rounds_succ]
      go_wp2_with (go_at_call 88; refine (hB0 _).mono ?_; rintro e w1 ⟨rfl, hb⟩; have HB : Hid _ := hb; clear hb)
      go_ret
      refine ⟨by simp [hx], (((Below.refl _ w).alloc (Nat.le_refl _) _).alloc (by simp) _).trans (HB.out.mono (by simp; omega))⟩
  · rw [suits_2 h0]
    rw [h0] at c0 ht
    have hB0 := fun W => hB.out 0 W (by omega)
    have hB1 := fun W => hB.out 1 W (by omega)
    unfold wantK
    generalize (ef op).2.1 = k at *
    generalize (ef op).2.2 = g at *
    generalize knd (blw ty 0) = x at *
    generalize knd (blw ty 1) = y at *
    unfold opV at *
    clear l4 hB
    by_cases hk : k = 3
    · subst hk
      rw [if_pos rfl, decide_eq_true (rfl : x = x), Bool.true_and]
      by_cases hx : y = x
      · subst hx
        go_enter Tryd.func65, Tryd.ntmps65
        go_wp2_with (go_at_call 88; refine (hB0 _).mono ?_; rintro e w1 ⟨rfl, hb1⟩; obtain ⟨hc1, hf1⟩ := bcell hb1; have hz1 : w.heap.size + 1 < w1.heap.size := (by have := hb1.size; simp at this; omega); have hy1 : w.heap.size < w1.heap.size := (by omega); have HB1 : Hid _ := hb1; clear hb1)
        refine wp_loop_rounds 3 ?_
        rw [rounds_succ]
        go_wp2_with (go_at_call 88; refine (hB0 _).mono ?_; rintro e w2 ⟨rfl, hb2⟩; obtain ⟨hc2, hf2⟩ := bcell hb2; have hz2 : w.heap.size + 1 < w2.heap.size := (by have := hb2.size; omega); have hy2 : w.heap.size < w2.heap.size := (by omega); have HB2 : Hid _ := hb2; clear hb2)
        rw [rounds_succ]
        go_wp2_with (go_at_call 88; refine (hB1 _).mono ?_; rintro e w3 ⟨rfl, hb3⟩; obtain ⟨hc3, hf3⟩ := bcell hb3; have hz3 : w.heap.size + 1 < w3.heap.size := (by have := hb3.size; omega); have hy3 : w.heap.size < w3.heap.size := (by omega); have HB3 : Hid _ := hb3; clear hb3)
        rw [rounds_succ]
        go_wp2_with fail
        go_ret
        exact ⟨by simp, ((((((Below.refl _ w).alloc (Nat.le_refl _) _).alloc (by simp) _).trans (HB1.out.mono (by simp; omega))).trans (HB2.out.mono (by omega))).trans (HB3.out.mono (by omega)))⟩
      · have hx1 : ¬ (y : Int) = x := by omega
        go_enter Tryd.func65, Tryd.ntmps65
        go_wp2_with (go_at_call 88; refine (hB0 _).mono ?_; rintro e w1 ⟨rfl, hb1⟩; obtain ⟨hc1, hf1⟩ := bcell hb1; have hz1 : w.heap.size + 1 < w1.heap.size := (by have := hb1.size; simp at this; omega); have hy1 : w.heap.size < w1.heap.size := (by omega); have HB1 : Hid _ := hb1; clear hb1)
        refine wp_loop_rounds 3 ?_
        rw [rounds_succ]
        go_wp2_with (go_at_call 88; refine (hB0 _).mono ?_; rintro e w2 ⟨rfl, hb2⟩; obtain ⟨hc2, hf2⟩ := bcell hb2; have hz2 : w.heap.size + 1 < w2.heap.size := (by have := hb2.size; omega); have hy2 : w.heap.size < w2.heap.size := (by omega); have HB2 : Hid _ := hb2; clear hb2)
        rw [rounds_succ]
        go_wp2_with (go_at_call 88; refine (hB1 _).mono ?_; rintro e w3 ⟨rfl, hb3⟩; obtain ⟨hc3, hf3⟩ := bcell hb3; have hz3 : w.heap.size + 1 < w3.heap.size := (by have := hb3.size; omega); have hy3 : w.heap.size < w3.heap.size := (by omega); have HB3 : Hid _ := hb3; clear hb3)
        go_ret
        exact ⟨by simp [hx], ((((((Below.refl _ w).alloc (Nat.le_refl _) _).alloc (by simp) _).trans (HB1.out.mono (by simp; omega))).trans (HB2.out.mono (by omega))).trans (HB3.out.mono (by omega)))⟩
    · have hk1 : ¬ (k : Int) = 3 := by omega
      rw [if_neg hk]
      by_cases hx : x = k
      · subst hx
        rw [decide_eq_true (rfl : x = x), Bool.true_and]
        by_cases hy : y = x
        · subst hy
          go_enter Tryd.func65, Tryd.ntmps65
          go_wp2_with fail
          refine wp_loop_rounds 3 ?_
          rw [rounds_succ]
          go_wp2_with (go_at_call 88; refine (hB0 _).mono ?_; rintro e w1 ⟨rfl, hb1⟩; obtain ⟨hc1, hf1⟩ := bcell hb1; have hz1 : w.heap.size + 1 < w1.heap.size := (by have := hb1.size; simp at this; omega); have hy1 : w.heap.size < w1.heap.size := (by omega); have HB1 : Hid _ := hb1; clear hb1)
          rw [rounds_succ]
          go_wp2_with (go_at_call 88; refine (hB1 _).mono ?_; rintro e w2 ⟨rfl, hb2⟩; obtain ⟨hc2, hf2⟩ := bcell hb2; have hz2 : w.heap.size + 1 < w2.heap.size := (by have := hb2.size; omega); have hy2 : w.heap.size < w2.heap.size := (by omega); have HB2 : Hid _ := hb2; clear hb2)
          rw [rounds_succ]
          go_wp2_with fail
          go_ret
          exact ⟨by simp, (((((Below.refl _ w).alloc (Nat.le_refl _) _).alloc (by simp) _).trans (HB1.out.mono (by simp; omega))).trans (HB2.out.mono (by omega)))⟩
        · have hy1 : ¬ (y : Int) = x := by omega
          go_enter Tryd.func65, Tryd.ntmps65
          go_wp2_with fail
          refine wp_loop_rounds 3 ?_
          rw [rounds_succ]
          go_wp2_with (go_at_call 88; refine (hB0 _).mono ?_; rintro e w1 ⟨rfl, hb1⟩; obtain ⟨hc1, hf1⟩ := bcell hb1; have hz1 : w.heap.size + 1 < w1.heap.size := (by have := hb1.size; simp at this; omega); have hy1 : w.heap.size < w1.heap.size := (by omega); have HB1 : Hid _ := hb1; clear hb1)
          rw [rounds_succ]
          go_wp2_with (go_at_call 88; refine (hB1 _).mono ?_; rintro e w2 ⟨rfl, hb2⟩; obtain ⟨hc2, hf2⟩ := bcell hb2; have hz2 : w.heap.size + 1 < w2.heap.size := (by have := hb2.size; omega); have hy2 : w.heap.size < w2.heap.size := (by omega); have HB2 : Hid _ := hb2; clear hb2)
          go_ret
          exact ⟨by simp [hy], (((((Below.refl _ w).alloc (Nat.le_refl _) _).alloc (by simp) _).trans (HB1.out.mono (by simp; omega))).trans (HB2.out.mono (by omega)))⟩
      · have hx1 : ¬ (x : Int) = k := by omega
        go_enter Tryd.func65, Tryd.ntmps65
        go_wp2_with fail
        refine wp_loop_rounds 3 ?_
        rw [rounds_succ]
        go_wp2_with (go_at_call 88; refine (hB0 _).mono ?_; rintro e w1 ⟨rfl, hb1⟩; obtain ⟨hc1, hf1⟩ := bcell hb1; have hz1 : w.heap.size + 1 < w1.heap.size := (by have := hb1.size; simp at this; omega); have hy1 : w.heap.size < w1.heap.size := (by omega); have HB1 : Hid _ := hb1; clear hb1)
        go_ret
        exact ⟨by simp [hx], ((((Below.refl _ w).alloc (Nat.le_refl _) _).alloc (by simp) _).trans (HB1.out.mono (by simp; omega)))⟩
end Go.Proofs.YtelbakkgobkdaaaDoor.Vf
