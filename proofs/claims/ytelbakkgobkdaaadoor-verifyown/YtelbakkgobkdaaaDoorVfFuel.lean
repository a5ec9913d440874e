import Derived.Test.YtelbakkgobkdaaaDoorVfWk
import Derived.Test.YtelbakkgobkdaaaDoorVfBeh
import Derived.Deep.DeepCutAuto
namespace Go.Proofs.YtelbakkgobkdaaaDoor.Vf
open Go.RowKit Go.Proofs.YtelbakkgobkdaaaDoor.Nm

set_option maxHeartbeats 1600000 in
/-- sum -/
theorem sum_any (a b : Int) (ha : 0 ≤ a) (ha2 : a ≤ 4611686018427387904) (hb : 0 ≤ b) (hb2 : b ≤ 4611686018427387904) (w : World) :
    Calls Tryd.prog 71 #[.int .i64 a, .int .i64 b] w fun e w' => e = .returned (.int .i64 (sm a b)) ∧ w' = w := by
  unfold sm
  by_cases h : 4611686018427387904 - b < a
  · rw [if_pos h]
    go_enter Tryd.func71, Tryd.ntmps71
    go_wp2_with fail
    go_ret
    exact ⟨rfl, rfl⟩
  · rw [if_neg h]
    have h2 : a + b ≤ 4611686018427387904 := by omega
    go_enter Tryd.func71, Tryd.ntmps71
    go_wp2_with fail
    go_ret
    exact ⟨rfl, rfl⟩
theorem sm_le {a b : Int} (ha : 0 ≤ a) (hb : 0 ≤ b) : 0 ≤ sm a b ∧ sm a b ≤ 4611686018427387904 := by
  unfold sm
  split <;> omega
theorem tm_le {a b : Int} (ha : 0 ≤ a) (hb : 0 ≤ b) : 0 ≤ tm a b ∧ tm a b ≤ 4611686018427387904 := by
  unfold tm
  split
  · omega
  · rename_i h
    refine ⟨Int.mul_nonneg ha hb, ?_⟩
    rcases Int.lt_or_eq_of_le ha with h1 | h1
    · have h2 : b ≤ 4611686018427387904 / a := by omega
      have h3 := Int.mul_le_mul_of_nonneg_left h2 ha
      have h4 := Int.mul_ediv_self_le (x := 4611686018427387904) (k := a) (by omega)
      omega
    · rw [← h1]; omega
set_option maxHeartbeats 1600000 in
/-- times -/
theorem times_any (a b : Int) (ha : 0 ≤ a) (ha2 : a ≤ 4611686018427387904) (hb : 0 ≤ b) (_hb2 : b ≤ 4611686018427387904) (w : World) :
    Calls Tryd.prog 94 #[.int .i64 a, .int .i64 b] w fun e w' => e = .returned (.int .i64 (tm a b)) ∧ w' = w := by
  have hm := tm_le ha hb
  unfold tm at *
  by_cases h0 : 0 < a
  · have h00 : ¬ a = 0 := by omega
    by_cases h : 4611686018427387904 / a < b
    · rw [if_pos ⟨h0, h⟩]
      clear hm
      go_enter Tryd.func94, Tryd.ntmps94
      go_wp2_with fail
      go_ret
      exact ⟨rfl, rfl⟩
    · rw [if_neg (fun e => h e.2)] at hm ⊢
      obtain ⟨m1, m2⟩ := hm
      generalize hq : a * b = ab at *
      go_enter Tryd.func94, Tryd.ntmps94
      go_wp2_with fail
      go_ret
      exact ⟨rfl, rfl⟩
  · obtain rfl : a = 0 := by omega
    rw [if_neg (fun e => h0 e.1)]
    clear hm
    go_enter Tryd.func94, Tryd.ntmps94
    go_wp2_with fail
    go_ret
    exact ⟨by simp, rfl⟩
theorem ret_int {k : IntKind} {a b : Int} (h : a = b) : Ending.returned (.int k a) = .returned (.int k b) := by rw [h]
def fuC (n : Nat) (f : Nat → Int) : List Value := (List.range n).map fun k => .int .i64 (f k)
theorem fuC_at {n k : Nat} {f : Nat → Int} (h : k < n) : (fuC n f)[k]? = some (.int .i64 (f k)) := by unfold fuC; simp [h]
/-- what a place's instruction must be for its fuel to be asked -/
structure FuOk (p : Pg) (i : Nat) : Prop where
  j : (p.at i).op = 22 → 0 ≤ (p.at i).a ∧ (p.at i).a < (p.cd.length : Int)
  e : (p.at i).op = 23 → i + 1 < p.cd.length ∧ 0 ≤ (p.at i).a ∧ (p.at i).a < (p.cd.length : Int)
  l : (p.at i).op = 24 → i + 2 < p.cd.length ∧ 0 ≤ (p.at i).a ∧ (p.at i).a ≤ 4611686018427387904 ∧ 0 ≤ (p.at (i + 1)).a ∧ (p.at (i + 1)).a < (p.cd.length : Int)
  o : (p.at i).op ≠ 0 → (p.at i).op ≠ 27 → (p.at i).op ≠ 22 → i + 1 < p.cd.length
set_option maxHeartbeats 6400000 in
set_option maxRecDepth 100000 in
/-- fuelBehind -/
theorem fuB_any (co : Option Addr) (cc fb fc : Nat) (p : Pg) (f : Nat → Int) (i : Nat) (w : World) (hc : Rd w co (cC p.cd)) (hl : p.cd.length ≤ 1000000000000000) (hi : i < p.cd.length) (hf : w.heap[fb]? = some (.cells (fuC p.cd.length f).toArray 3 (0, 0))) (hb : ∀ k, 0 ≤ f k ∧ f k ≤ 4611686018427387904) (ho : FuOk p i) :
    Calls Tryd.prog 72 #[.slice co p.cd.length cc, .slice (some ⟨fb, 0, none⟩) p.cd.length fc, .int .i64 (i : Int)] w fun e w' => e = .returned (.int .i64 (fuB p f i)) ∧ Below w.heap.size w w' := by
  obtain ⟨cg, cf, rfl, hcg, d0, d1, d2, d3, d4⟩ := rd_ins hc hi
  have n3 : (p.cd.length : Int) ≤ 1000000000000000 := by omega
  have hi' : (i : Int) < (p.cd.length : Int) := by omega
  obtain ⟨R, hR⟩ : ∃ R, R = fuB p f i := ⟨_, rfl⟩
  rw [← hR]
  unfold fuB at hR
  have hx : p.at i = p.cd[i] := at_eq hi
  have hoj := ho.j
  have hoe := ho.e
  have hol := ho.l
  have hoo := ho.o
  rw [hx] at hR hoj hoe hol hoo
  obtain ⟨x, hxx⟩ : ∃ x, x = p.cd[i] := ⟨_, rfl⟩
  obtain ⟨y0, y1, y2, y3, y4⟩ := x
  simp only [← hxx] at hR hoj hoe hol hoo d0 d1 d2 d3 d4
  have hbA : Below w.heap.size w (w.alloc (.cells #[.int .i64 y0, .int .i64 y1, .int .i64 y2, .int .i64 y3, .int .i64 y4] 54)) := (Below.refl _ w).alloc (Nat.le_refl _) _
  have HB : Hid (Below w.heap.size w (w.alloc (.cells #[.int .i64 y0, .int .i64 y1, .int .i64 y2, .int .i64 y3, .int .i64 y4] 54))) := hbA
  have HF : Hid (∀ k, k < p.cd.length → (w.alloc (.cells #[.int .i64 y0, .int .i64 y1, .int .i64 y2, .int .i64 y3, .int .i64 y4] 54)).cell? ⟨fb, k, none⟩ = some (.int .i64 (f k))) := fun k hk => cell_of ((hbA.block _ (blk_lt hf)).trans hf) (fuC_at hk)
  have HC : Hid (Rd (w.alloc (.cells #[.int .i64 y0, .int .i64 y1, .int .i64 y2, .int .i64 y3, .int .i64 y4] 54)) (some ⟨cg, cf, none⟩) (cC p.cd)) := hc.below hbA
  have HX : Hid ((w.alloc (.cells #[.int .i64 y0, .int .i64 y1, .int .i64 y2, .int .i64 y3, .int .i64 y4] 54)).heap[w.heap.size]? = some (.cells #[.int .i64 y0, .int .i64 y1, .int .i64 y2, .int .i64 y3, .int .i64 y4] 54 (0, 0))) := heap_alloc_new _ _
  have HR : Hid _ := hR
  have hcg1 : ¬ cg = w.heap.size := by omega
  clear hbA hf hc hx hxx ho hR hcg
  go_enter Tryd.func72, Tryd.ntmps72
  go_upto_region 2 with fail
  obtain ⟨i0, i1, i2, i3, i4⟩ := cells5 HX.out
  generalize w.alloc (.cells #[.int .i64 y0, .int .i64 y1, .int .i64 y2, .int .i64 y3, .int .i64 y4] 54) = W1 at *
  have hR := HR.out
  clear HR HX d0 d1 d2 d3 d4
  by_cases o0 : y0 = 0 ∨ y0 = 27
  · have hr : R = 0 := by rw [hR]; rcases o0 with rfl | rfl <;> rfl
    have HRr : Hid _ := hr
    clear hR hr hoj hoe hol hoo
    rcases o0 with rfl | rfl
    all_goals
      go_wp2_with fail
      go_ret
      exact ⟨by rw [HRr.out]; rfl, HB.out⟩
  have o1 : ¬ y0 = 0 := fun e => o0 (Or.inl e)
  have o2 : ¬ y0 = 27 := fun e => o0 (Or.inr e)
  simp only [o1, o2, decide_false, Bool.or_self, Bool.false_eq_true, if_false] at hR
  clear o0
  by_cases o22 : y0 = 22
  · subst o22
    obtain ⟨n, rfl, hn⟩ : ∃ n : Nat, y1 = (n : Int) ∧ n < p.cd.length := ⟨y1.toNat, by have := hoj rfl; omega, by have := hoj rfl; omega⟩
    have hn' : (n : Int) < (p.cd.length : Int) := by omega
    have k0 := HF.out n hn
    simp only [if_true, Int.toNat_natCast] at hR
    have HRr : Hid _ := hR
    clear hR hoj hoe hol hoo hn
    go_wp2_with fail
    go_ret
    exact ⟨by rw [HRr.out]; rfl, HB.out⟩
  simp only [o22, if_false] at hR
  by_cases o23 : y0 = 23
  · subst o23
    obtain ⟨n, rfl, hn⟩ : ∃ n : Nat, y1 = (n : Int) ∧ n < p.cd.length := ⟨y1.toNat, by have := hoe rfl; omega, by have := hoe rfl; omega⟩
    have hn' : (n : Int) < (p.cd.length : Int) := by omega
    have hi1 := (hoe rfl).1
    have hi1' : (i : Int) + 1 < (p.cd.length : Int) := by omega
    have k0 := HF.out n hn
    have k1 := HF.out (i + 1) hi1
    simp only [if_true, Int.toNat_natCast] at hR
    have HRr : Hid _ := hR
    clear hR hoj hoe hol hoo hn hi1 hb
    go_wp2_with fail
    go_region
    all_goals go_wp2_with fail
    all_goals
      go_ret
      exact ⟨by rw [HRr.out]; exact ret_int (by omega), HB.out.drew⟩
  simp only [o23, if_false] at hR
  by_cases o24 : y0 = 24
  · subst o24
    obtain ⟨q1, q2, q3, q4, q5⟩ := hol rfl
    have hi1 : i + 1 < p.cd.length := by omega
    have hi1' : (i : Int) + 1 < (p.cd.length : Int) := by omega
    have hi2' : (i : Int) + 2 < (p.cd.length : Int) := by omega
    have k2 := HF.out (i + 2) q1
    obtain ⟨cg2, cf2, hco2, -, -, e1, -⟩ := rd_ins HC.out hi1
    obtain ⟨rfl, rfl⟩ : cg = cg2 ∧ cf = cf2 := by cases hco2; exact ⟨rfl, rfl⟩
    have hx1 : (p.at (i + 1)).a = p.cd[i + 1].a := by rw [at_eq hi1]
    rw [hx1] at q4 q5
    obtain ⟨n, hn0, hn⟩ : ∃ n : Nat, p.cd[i + 1].a = (n : Int) ∧ n < p.cd.length := ⟨p.cd[i + 1].a.toNat, by omega, by omega⟩
    have hn' : (n : Int) < (p.cd.length : Int) := by omega
    have k0 := HF.out n hn
    have e1' : W1.cell? ⟨cg, cf + (i + 1) * 5 + 1, none⟩ = some (.int .i64 (n : Int)) := e1.trans (congrArg (fun z => some (Value.int .i64 z)) hn0)
    simp only [if_true] at hR
    rw [hx1, show p.cd[i + 1].a.toNat = n by omega] at hR
    obtain ⟨b1, b2⟩ := hb (i + 2)
    obtain ⟨b3, b4⟩ := hb n
    obtain ⟨s1, s2⟩ := sm_le (a := 1) (b := f (i + 2)) (by omega) b1
    obtain ⟨s3, s4⟩ := tm_le (a := y1) (b := sm 1 (f (i + 2))) q2 s1
    obtain ⟨s5, s6⟩ := sm_le (a := 1) (b := f n) (by omega) b3
    have H1 : Hid (∀ W, Calls Tryd.prog 71 #[.int .i64 1, .int .i64 (f (i + 2))] W fun e w' => e = .returned (.int .i64 (sm 1 (f (i + 2)))) ∧ w' = W) := fun W => sum_any 1 (f (i + 2)) (by omega) (by omega) b1 b2 W
    have H2 : Hid (∀ W, Calls Tryd.prog 94 #[.int .i64 y1, .int .i64 (sm 1 (f (i + 2)))] W fun e w' => e = .returned (.int .i64 (tm y1 (sm 1 (f (i + 2))))) ∧ w' = W) := fun W => times_any y1 _ q2 q3 s1 s2 W
    have H3 : Hid (∀ W, Calls Tryd.prog 71 #[.int .i64 1, .int .i64 (f n)] W fun e w' => e = .returned (.int .i64 (sm 1 (f n))) ∧ w' = W) := fun W => sum_any 1 (f n) (by omega) (by omega) b3 b4 W
    have H4 : Hid (∀ W, Calls Tryd.prog 71 #[.int .i64 (tm y1 (sm 1 (f (i + 2)))), .int .i64 (sm 1 (f n))] W fun e w' => e = .returned (.int .i64 (sm (tm y1 (sm 1 (f (i + 2)))) (sm 1 (f n)))) ∧ w' = W) := fun W => sum_any _ _ s3 s4 s5 s6 W
    generalize sm (tm y1 (sm 1 (f (i + 2)))) (sm 1 (f n)) = r4 at *
    generalize tm y1 (sm 1 (f (i + 2))) = r2 at *
    generalize sm 1 (f (i + 2)) = r1 at *
    generalize sm 1 (f n) = r3 at *
    have HRr : Hid _ := hR
    clear hR hoj hoe hol hoo hn hi1 hb e1 hx1 hn0 q4 q5 hco2 s1 s2 s3 s4 s5 s6 b1 b2 b3 b4
    go_wp2_with fail
    go_quiet ((first | (go_at_call 71; exact Calls.quiet_of_same (H1.out _)) | (go_at_call 94; exact Calls.quiet_of_same (H2.out _))))
    go_wp2_with fail
    refine Calls.mono (H3.out _) ?_
    rintro e w3 ⟨rfl, rfl⟩
    go_wp2_with fail
    refine Calls.mono (H4.out _) ?_
    rintro e w4 ⟨rfl, rfl⟩
    go_wp2_with fail
    go_ret
    exact ⟨by rw [HRr.out]; rfl, HB.out.trans ((drN _ _).mono HB.out.size)⟩
  simp only [o24, if_false] at hR
  have hi1 := hoo o1 o2 o22
  have hi1' : (i : Int) + 1 < (p.cd.length : Int) := by omega
  have k1 := HF.out (i + 1) hi1
  have HRr : Hid _ := hR
  clear hR hoj hoe hol hoo hi1
  go_wp2_with fail
  go_ret
  exact ⟨by rw [HRr.out]; rfl, HB.out⟩
end Go.Proofs.YtelbakkgobkdaaaDoor.Vf
