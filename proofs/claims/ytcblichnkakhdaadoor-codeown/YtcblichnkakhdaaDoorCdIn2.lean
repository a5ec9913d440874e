import Derived.Test.YtcblichnkakhdaaDoorCdIns
import Derived.Test.YtcblichnkakhdaaDoorCdTk
import Derived.Deep.RegionHeld3
namespace Go.Proofs.YtcblichnkakhdaaDoor.Cd
open Go.RowKit Go.Proofs.YtcblichnkakhdaaDoor.Nm

theorem Wr.own_below {W W' : World} {b base k : Nat} {fs : List Value} {xs : List Nat} (h : Wr W b base fs xs) (hb : Below W.heap.size W W') (ho : Own W' b k) : k < W.heap.size := by
  obtain ⟨u, h3, h4⟩ := ho
  exact h.own_lt ⟨u, (hb.cell (p := ⟨b, 0, none⟩) h.blt).symm.trans h3, h4⟩
theorem cells5 {wq : World} {B : Nat} {v0 v1 v2 v3 v4 : Value} {T : TypeId} (h : wq.heap[B]? = some (.cells #[v0, v1, v2, v3, v4] T (0, 0))) : wq.cell? ⟨B, 0, none⟩ = some v0 ∧ wq.cell? ⟨B, 1, none⟩ = some v1 ∧ wq.cell? ⟨B, 2, none⟩ = some v2 ∧ wq.cell? ⟨B, 3, none⟩ = some v3 ∧ wq.cell? ⟨B, 4, none⟩ = some v4 := by
  refine ⟨?_, ?_, ?_, ?_, ?_⟩
  all_goals
    simp only [World.cell?, h]
    rfl
theorem idx4_0 (x0 x1 x2 x3 : Int) (u : World) : (Instr.index 103 (.agg #[.int .i64 x0, .int .i64 x1, .int .i64 x2, .int .i64 x3]) (.int .i64 0)).run Tryd.prog u = .ok (.int .i64 x0) u := by kernel_rfl
theorem idx4_1 (x0 x1 x2 x3 : Int) (u : World) : (Instr.index 103 (.agg #[.int .i64 x0, .int .i64 x1, .int .i64 x2, .int .i64 x3]) (.int .i64 1)).run Tryd.prog u = .ok (.int .i64 x1) u := by kernel_rfl
theorem idx4_2 (x0 x1 x2 x3 : Int) (u : World) : (Instr.index 103 (.agg #[.int .i64 x0, .int .i64 x1, .int .i64 x2, .int .i64 x3]) (.int .i64 2)).run Tryd.prog u = .ok (.int .i64 x2) u := by kernel_rfl
theorem idx4_3 (x0 x1 x2 x3 : Int) (u : World) : (Instr.index 103 (.agg #[.int .i64 x0, .int .i64 x1, .int .i64 x2, .int .i64 x3]) (.int .i64 3)).run Tryd.prog u = .ok (.int .i64 x3) u := by kernel_rfl
/-- the first j of four operands' bytes -/
def insP (k a : Nat → Int) : Nat → List Nat
  | 0 => []
  | j + 1 => insP k a j ++ opB (k j) (a j)
def pick4 (x : Int × Int × Int × Int) (j : Nat) : Int := if j = 0 then x.1 else if j = 1 then x.2.1 else if j = 2 then x.2.2.1 else x.2.2.2
/-- an instruction's bytes -/
def insB (op : Nat) (a : Nat → Int) : List Nat := numB op ++ insP (pick4 (kd4 op)) a 4
theorem insP_len {k a : Nat → Int} (h : ∀ j, j < 4 → OpOk (k j) (a j)) : ∀ j, j ≤ 4 → (insP k a j).length ≤ 10 * j
  | 0, _ => Nat.le_refl _
  | j + 1, hj => by
    have h1 := insP_len h j (by omega)
    have h2 := opB_len (h j (by omega))
    show (insP k a j ++ opB (k j) (a j)).length ≤ _
    rw [List.length_append]
    omega
set_option maxHeartbeats 25600000 in
set_option maxRecDepth 100000 in
/-- an instruction is written -/
theorem wins_any {W : World} {b base op : Nat} {a : Nat → Int} {xs : List Nat} (h : Wr W b base wayL xs) (hl : xs.length ≤ 999999999000) (hop : op < 42) (ha : ∀ j, j < 4 → OpOk (pick4 (kd4 op) j) (a j)) :
    Calls Tryd.prog 51 #[.pointer (some ⟨b, 0, none⟩), .agg #[.int .i64 (op : Int), .int .i64 (a 0), .int .i64 (a 1), .int .i64 (a 2), .int .i64 (a 3)]] W fun e W' => e = .returned (.tuple #[]) ∧ Wr W' b base wayL (xs ++ insB op a) ∧ Fo b W W' := by
  obtain ⟨a0, e0⟩ : ∃ x, x = a 0 := ⟨_, rfl⟩
  obtain ⟨a1, e1⟩ : ∃ x, x = a 1 := ⟨_, rfl⟩
  obtain ⟨a2, e2⟩ : ∃ x, x = a 2 := ⟨_, rfl⟩
  obtain ⟨a3, e3⟩ : ∃ x, x = a 3 := ⟨_, rfl⟩
  obtain ⟨q0, f0⟩ : ∃ x, x = (kd4 op).1 := ⟨_, rfl⟩
  obtain ⟨q1, f1⟩ : ∃ x, x = (kd4 op).2.1 := ⟨_, rfl⟩
  obtain ⟨q2, f2⟩ : ∃ x, x = (kd4 op).2.2.1 := ⟨_, rfl⟩
  obtain ⟨q3, f3⟩ : ∃ x, x = (kd4 op).2.2.2 := ⟨_, rfl⟩
  have HA : Hid (∀ j, j < 4 → OpOk (pick4 (kd4 op) j) (a j)) := ha
  have HAe : Hid (a 0 = a0 ∧ a 1 = a1 ∧ a 2 = a2 ∧ a 3 = a3 ∧ (kd4 op).1 = q0 ∧ (kd4 op).2.1 = q1 ∧ (kd4 op).2.2.1 = q2 ∧ (kd4 op).2.2.2 = q3) := ⟨e0.symm, e1.symm, e2.symm, e3.symm, f0.symm, f1.symm, f2.symm, f3.symm⟩
  have HL : Hid (xs.length ≤ 999999999000 ∧ (numB op).length ≤ 10) := ⟨hl, numB_ten (by omega)⟩
  rw [← e0, ← e1, ← e2, ← e3]
  have hb1 : Below W.heap.size W (W.alloc (.cells #[.int .i64 (op : Int), .int .i64 a0, .int .i64 a1, .int .i64 a2, .int .i64 a3] 64)) := (Below.refl _ W).alloc (Nat.le_refl _) _
  have hw1 := h.below hb1
  have HX1 := show Hid _ from heap_alloc_new W (.cells #[.int .i64 (op : Int), .int .i64 a0, .int .i64 a1, .int .i64 a2, .int .i64 a3] 64)
  have HF1 : Hid (Fo b W (W.alloc (.cells #[.int .i64 (op : Int), .int .i64 a0, .int .i64 a1, .int .i64 a2, .int .i64 a3] 64)) ∧ b < W.heap.size ∧ ¬ Own (W.alloc (.cells #[.int .i64 (op : Int), .int .i64 a0, .int .i64 a1, .int .i64 a2, .int .i64 a3] 64)) b W.heap.size) := ⟨Fo.of_below hb1 h.blt, h.blt, fun e => by have := h.own_below hb1 e; omega⟩
  have HN := show Hid _ from wnum_any (n := op) hw1 (by omega) (by omega)
  have HC := show Hid _ from fun u => cops (op : Int) a0 a1 a2 a3 u
  have HK : Hid (∀ u, Calls Tryd.prog 63 #[.int .i64 (op : Int)] u fun e w' => e = .returned (.agg #[.int .i64 q0, .int .i64 q1, .int .i64 q2, .int .i64 q3]) ∧ Below u.heap.size u w') := fun u => by rw [f0, f1, f2, f3]; exact ckinds op hop u
  clear h hl hop ha e0 e1 e2 e3 f0 f1 f2 f3 hb1 hw1
  go_enter Tryd.func51, Tryd.ntmps51
  go_wp2_with fail
  generalize (W.alloc (.cells #[.int .i64 (op : Int), .int .i64 a0, .int .i64 a1, .int .i64 a2, .int .i64 a3] 64)) = w1 at *
  refine Calls.mono HN.out ?_
  rintro e w2 ⟨rfl, hw2, hf2⟩
  have HW2 : Hid (Wr w2 b base wayL (xs ++ numB op) ∧ Fo b W w2) := ⟨hw2, HF1.out.1.trans hf2⟩
  have HX2 : Hid (w2.heap[W.heap.size]? = some (.cells #[.int .i64 (op : Int), .int .i64 a0, .int .i64 a1, .int .i64 a2, .int .i64 a3] 64 (0, 0))) := (hf2.block _ (blk_lt HX1.out) (by have := HF1.out.2.1; omega) HF1.out.2.2).trans HX1.out
  clear hw2 hf2 HN HX1 HF1
  obtain ⟨i0, i1, i2, i3, i4⟩ := cells5 HX2.out
  go_wp2_with fail
  refine Calls.mono (HC.out _) ?_
  rintro e w3 ⟨rfl, hb3⟩
  have hb4 : Below w3.heap.size w3 (w3.alloc (.cells #[.int .i64 a0, .int .i64 a1, .int .i64 a2, .int .i64 a3] 100)) := (Below.refl _ w3).alloc (Nat.le_refl _) _
  have hb24 := hb3.trans (hb4.mono hb3.size)
  have HW4 : Hid (Wr (w3.alloc (.cells #[.int .i64 a0, .int .i64 a1, .int .i64 a2, .int .i64 a3] 100)) b base wayL (xs ++ numB op) ∧ Fo b W (w3.alloc (.cells #[.int .i64 a0, .int .i64 a1, .int .i64 a2, .int .i64 a3] 100)) ∧ b < w3.heap.size) := ⟨HW2.out.1.below hb24, HW2.out.2.trans (Fo.of_below hb24 HW2.out.1.blt), Nat.lt_of_lt_of_le HW2.out.1.blt hb3.size⟩
  have HX4 : Hid ((w3.alloc (.cells #[.int .i64 a0, .int .i64 a1, .int .i64 a2, .int .i64 a3] 100)).heap[W.heap.size]? = some (.cells #[.int .i64 (op : Int), .int .i64 a0, .int .i64 a1, .int .i64 a2, .int .i64 a3] 64 (0, 0))) := (hb24.block _ (blk_lt HX2.out)).trans HX2.out
  have HO4 : Hid ((w3.alloc (.cells #[.int .i64 a0, .int .i64 a1, .int .i64 a2, .int .i64 a3] 100)).heap[w3.heap.size]? = some (.cells #[.int .i64 a0, .int .i64 a1, .int .i64 a2, .int .i64 a3] 100 (0, 0)) ∧ ¬ Own (w3.alloc (.cells #[.int .i64 a0, .int .i64 a1, .int .i64 a2, .int .i64 a3] 100)) b w3.heap.size) := ⟨heap_alloc_new _ _, fun e => by have := (HW2.out.1.below hb3).own_below hb4 e; omega⟩
  clear hb3 hb4 hb24 HW2 HX2 i0 i1 i2 i3 i4 HC
  obtain ⟨i0, i1, i2, i3, i4⟩ := cells5 HX4.out
  go_wp2_with fail
  generalize w3.alloc (.cells #[.int .i64 a0, .int .i64 a1, .int .i64 a2, .int .i64 a3] 100) = w4 at *
  refine Calls.mono (HK.out _) ?_
  rintro e w5 ⟨rfl, hb5⟩
  have HW5 : Hid (Wr w5 b base wayL (xs ++ numB op) ∧ Fo b W w5) := ⟨HW4.out.1.below hb5, HW4.out.2.1.trans (Fo.of_below hb5 HW4.out.1.blt)⟩
  have HO5 : Hid (w5.heap[w3.heap.size]? = some (.cells #[.int .i64 a0, .int .i64 a1, .int .i64 a2, .int .i64 a3] 100 (0, 0)) ∧ ¬ Own w5 b w3.heap.size ∧ w3.heap.size ≠ b) := ⟨(hb5.block _ (blk_lt HO4.out.1)).trans HO4.out.1, fun e => by
    rcases (Fo.of_below hb5 HW4.out.1.blt).own _ e with e1 | e1
    · exact HO4.out.2 e1
    · have := blk_lt HO4.out.1; omega, by have := HW4.out.2.2; omega⟩
  clear hb5 HW4 HX4 HO4 i0 i1 i2 i3 i4 HK
  generalize w3.heap.size = ob at *
  go_wp2_with fail
  go_loopg [16] 4 (fun gq x wr => ∃ j : Nat, j ≤ 4 ∧ gq = 4 - j ∧ x = .int .i64 (j : Int) ∧ Wr wr b base wayL (xs ++ (numB op ++ insP (pick4 (kd4 op)) a j)) ∧ Fo b W wr ∧ wr.heap[ob]? = some (.cells #[.int .i64 a0, .int .i64 a1, .int .i64 a2, .int .i64 a3] 100 (0, 0)) ∧ ¬ Own wr b ob)
  case atStart => exact ⟨0, by omega, rfl, rfl, by show Wr w5 b base wayL (xs ++ (numB op ++ [])); rw [List.append_nil]; exact HW5.out.1, HW5.out.2, HO5.out.1, HO5.out.2.1⟩
  case round =>
    obtain ⟨j, hj, hgk, rfl, hw, hf, hob, hno⟩ := hrel
    have HG : Hid (gk = 4 - j ∧ Wr wr b base wayL (xs ++ (numB op ++ insP (pick4 (kd4 op)) a j)) ∧ Fo b W wr ∧ wr.heap[ob]? = some (.cells #[.int .i64 a0, .int .i64 a1, .int .i64 a2, .int .i64 a3] 100 (0, 0)) ∧ ¬ Own wr b ob) := ⟨hgk, hw, hf, hob, hno⟩
    clear hgk hw hf hob hno
    by_cases hj4 : j < 4
    · obtain ⟨kk, hkk, hk8⟩ : ∃ kk : Nat, pick4 (kd4 op) j = (kk : Int) ∧ kk ≤ 8 := ⟨(pick4 (kd4 op) j).toNat, by rcases HA.out j hj4 with h | h | h <;> omega, by rcases HA.out j hj4 with h | h | h <;> omega⟩
      obtain ⟨F, hF, hent, hcall⟩ := wfun kk hk8
      have hlen : (xs ++ (numB op ++ insP (pick4 (kd4 op)) a j)).length ≤ 999999999900 := by
        have h1 := HL.out
        have h2 := insP_len HA.out j (by omega)
        rw [List.length_append, List.length_append]
        omega
      have HCl := show Hid _ from fun W' hw => hcall W' b base _ (a j) hw hlen (by rw [← hkk]; exact HA.out j hj4)
      have cw : ∀ W' xs', Wr W' b base wayL xs' → W'.cell? ⟨b, 3 * kk + 1 + 1, none⟩ = some (.func (.func F) #[] #[]) := fun W' xs' hw => (hw.way _).trans hF
      have HCw := show Hid _ from cw
      have HKk : Hid (pick4 (kd4 op) j = (kk : Int)) := hkk
      clear hcall cw hF hlen hkk
      have hj5 : j = 0 ∨ j = 1 ∨ j = 2 ∨ j = 3 := by omega
      rcases hj5 with rfl | rfl | rfl | rfl
      · have hq : q0 = (kk : Int) := by rw [← HKk.out]; exact HAe.out.2.2.2.2.1.symm
        subst hq
        have hix := fun u => idx4_0 kk q1 q2 q3 u
        have hk9 : (kk : Int) < 9 := by omega
        have HSb : Hid (∀ W' xs', Wr W' b base wayL xs' → W'.heap[ob]? = some (.cells #[.int .i64 a0, .int .i64 a1, .int .i64 a2, .int .i64 a3] 100 (0, 0)) → (fun w' : World => w'.cell? ⟨b, 1 + kk * 3 + 1, none⟩ = some (.func (.func F) #[] #[]) ∧ w'.cell? ⟨ob, 0, none⟩ = some (.int .i64 a0)) W') := fun W' xs' hw ho => ⟨by rw [show 1 + kk * 3 + 1 = 3 * kk + 1 + 1 by omega]; exact HCw.out W' xs' hw, (cells4 ho).1⟩
        rw [HAe.out.1] at HCl
        go_wp2_with fail
        refine wp_region_held (S := fun w' : World => w'.cell? ⟨b, 1 + kk * 3 + 1, none⟩ = some (.func (.func F) #[] #[]) ∧ w'.cell? ⟨ob, 0, none⟩ = some (.int .i64 a0)) (by kernel_rfl) ?_
        have hS : (fun w' : World => w'.cell? ⟨b, 1 + kk * 3 + 1, none⟩ = some (.func (.func F) #[] #[]) ∧ w'.cell? ⟨ob, 0, none⟩ = some (.int .i64 a0)) wr.drew := HSb.out wr _ HG.out.2.1 HG.out.2.2.2.1
        change wpAnyH _ _ _ _ _ _ _ _ wr.drew
        refine tqA 0 rfl hS ?_
        refine tqA 1 rfl hS ?_
        refine tqA 2 rfl hS ?_
        refine tqA 3 rfl hS ?_
        refine tqA 4 rfl hS ?_
        refine tqA 5 rfl hS ?_
        refine tqA 6 rfl hS ?_
        refine tqA 7 rfl hS ?_
        refine tqA 8 rfl hS ?_
        refine tqA 9 rfl hS ?_
        refine tqA 10 rfl hS ?_
        refine wpAnyH_ready (rs := [11]) (by kernel_rfl) (by simp) ?_
        refine AllReadyH.cons rfl (fun K hK => ?_) AllReadyH.nil
        go_simp
        have hwd : Wr wr.drew b base wayL (xs ++ (numB op ++ insP (pick4 (kd4 op)) a 0)) := HG.out.2.1.below (Below.refl _ wr).drew
        refine Calls.mono (HCl.out _ hwd) ?_
        rintro e w7 ⟨rfl, hw7, hf7⟩
        have hfd : Fo b wr w7 := (Fo.of_below (Below.refl _ wr).drew HG.out.2.1.blt).trans hf7
        have hob7 : w7.heap[ob]? = some (.cells #[.int .i64 a0, .int .i64 a1, .int .i64 a2, .int .i64 a3] 100 (0, 0)) := (hfd.block ob (blk_lt HG.out.2.2.2.1) HO5.out.2.2 HG.out.2.2.2.2).trans HG.out.2.2.2.1
        have HR : Hid (Wr w7 b base wayL (xs ++ (numB op ++ insP (pick4 (kd4 op)) a (0 + 1))) ∧ Fo b W w7 ∧ w7.heap[ob]? = some (.cells #[.int .i64 a0, .int .i64 a1, .int .i64 a2, .int .i64 a3] 100 (0, 0)) ∧ ¬ Own w7 b ob) := ⟨by
          show Wr w7 b base wayL (xs ++ (numB op ++ (insP (pick4 (kd4 op)) a 0 ++ opB (pick4 (kd4 op) 0) (a 0))))
          rw [HKk.out, HAe.out.1, ← List.append_assoc (numB op), ← List.append_assoc xs]
          exact hw7, HG.out.2.2.1.trans hfd, hob7, fun e => by
          rcases hfd.own _ e with e1 | e1
          · exact HG.out.2.2.2.2 e1
          · have := blk_lt HG.out.2.2.2.1; omega⟩
        refine hK.out _ _ (HSb.out _ _ hw7 hob7) (fun hS => ?_)
        refine wpAnyH_done (by kernel_rfl) ?_ _
        clear hK K hS hw7 hf7 hfd hob7 hwd HCl HSb hix
        go_wp2_with fail
        go_roundg (4 - (0 + 1))
        case measure => have h2 := HG.out.1; omega
        case rel => exact ⟨0 + 1, by omega, rfl, by go_num, HR.out.1, HR.out.2.1, HR.out.2.2.1, HR.out.2.2.2⟩
      · have hq : q1 = (kk : Int) := by rw [← HKk.out]; exact HAe.out.2.2.2.2.2.1.symm
        subst hq
        have hix := fun u => idx4_1 q0 kk q2 q3 u
        have hk9 : (kk : Int) < 9 := by omega
        have HSb : Hid (∀ W' xs', Wr W' b base wayL xs' → W'.heap[ob]? = some (.cells #[.int .i64 a0, .int .i64 a1, .int .i64 a2, .int .i64 a3] 100 (0, 0)) → (fun w' : World => w'.cell? ⟨b, 1 + kk * 3 + 1, none⟩ = some (.func (.func F) #[] #[]) ∧ w'.cell? ⟨ob, 1, none⟩ = some (.int .i64 a1)) W') := fun W' xs' hw ho => ⟨by rw [show 1 + kk * 3 + 1 = 3 * kk + 1 + 1 by omega]; exact HCw.out W' xs' hw, (cells4 ho).2.1⟩
        rw [HAe.out.2.1] at HCl
        go_wp2_with fail
        refine wp_region_held (S := fun w' : World => w'.cell? ⟨b, 1 + kk * 3 + 1, none⟩ = some (.func (.func F) #[] #[]) ∧ w'.cell? ⟨ob, 1, none⟩ = some (.int .i64 a1)) (by kernel_rfl) ?_
        have hS : (fun w' : World => w'.cell? ⟨b, 1 + kk * 3 + 1, none⟩ = some (.func (.func F) #[] #[]) ∧ w'.cell? ⟨ob, 1, none⟩ = some (.int .i64 a1)) wr.drew := HSb.out wr _ HG.out.2.1 HG.out.2.2.2.1
        change wpAnyH _ _ _ _ _ _ _ _ wr.drew
        refine tqA 0 rfl hS ?_
        refine tqA 1 rfl hS ?_
        refine tqA 2 rfl hS ?_
        refine tqA 3 rfl hS ?_
        refine tqA 4 rfl hS ?_
        refine tqA 5 rfl hS ?_
        refine tqA 6 rfl hS ?_
        refine tqA 7 rfl hS ?_
        refine tqA 8 rfl hS ?_
        refine tqA 9 rfl hS ?_
        refine tqA 10 rfl hS ?_
        refine wpAnyH_ready (rs := [11]) (by kernel_rfl) (by simp) ?_
        refine AllReadyH.cons rfl (fun K hK => ?_) AllReadyH.nil
        go_simp
        have hwd : Wr wr.drew b base wayL (xs ++ (numB op ++ insP (pick4 (kd4 op)) a 1)) := HG.out.2.1.below (Below.refl _ wr).drew
        refine Calls.mono (HCl.out _ hwd) ?_
        rintro e w7 ⟨rfl, hw7, hf7⟩
        have hfd : Fo b wr w7 := (Fo.of_below (Below.refl _ wr).drew HG.out.2.1.blt).trans hf7
        have hob7 : w7.heap[ob]? = some (.cells #[.int .i64 a0, .int .i64 a1, .int .i64 a2, .int .i64 a3] 100 (0, 0)) := (hfd.block ob (blk_lt HG.out.2.2.2.1) HO5.out.2.2 HG.out.2.2.2.2).trans HG.out.2.2.2.1
        have HR : Hid (Wr w7 b base wayL (xs ++ (numB op ++ insP (pick4 (kd4 op)) a (1 + 1))) ∧ Fo b W w7 ∧ w7.heap[ob]? = some (.cells #[.int .i64 a0, .int .i64 a1, .int .i64 a2, .int .i64 a3] 100 (0, 0)) ∧ ¬ Own w7 b ob) := ⟨by
          show Wr w7 b base wayL (xs ++ (numB op ++ (insP (pick4 (kd4 op)) a 1 ++ opB (pick4 (kd4 op) 1) (a 1))))
          rw [HKk.out, HAe.out.2.1, ← List.append_assoc (numB op), ← List.append_assoc xs]
          exact hw7, HG.out.2.2.1.trans hfd, hob7, fun e => by
          rcases hfd.own _ e with e1 | e1
          · exact HG.out.2.2.2.2 e1
          · have := blk_lt HG.out.2.2.2.1; omega⟩
        refine hK.out _ _ (HSb.out _ _ hw7 hob7) (fun hS => ?_)
        refine wpAnyH_done (by kernel_rfl) ?_ _
        clear hK K hS hw7 hf7 hfd hob7 hwd HCl HSb hix
        go_wp2_with fail
        go_roundg (4 - (1 + 1))
        case measure => have h2 := HG.out.1; omega
        case rel => exact ⟨1 + 1, by omega, rfl, by go_num, HR.out.1, HR.out.2.1, HR.out.2.2.1, HR.out.2.2.2⟩
      · have hq : q2 = (kk : Int) := by rw [← HKk.out]; exact HAe.out.2.2.2.2.2.2.1.symm
        subst hq
        have hix := fun u => idx4_2 q0 q1 kk q3 u
        have hk9 : (kk : Int) < 9 := by omega
        have HSb : Hid (∀ W' xs', Wr W' b base wayL xs' → W'.heap[ob]? = some (.cells #[.int .i64 a0, .int .i64 a1, .int .i64 a2, .int .i64 a3] 100 (0, 0)) → (fun w' : World => w'.cell? ⟨b, 1 + kk * 3 + 1, none⟩ = some (.func (.func F) #[] #[]) ∧ w'.cell? ⟨ob, 2, none⟩ = some (.int .i64 a2)) W') := fun W' xs' hw ho => ⟨by rw [show 1 + kk * 3 + 1 = 3 * kk + 1 + 1 by omega]; exact HCw.out W' xs' hw, (cells4 ho).2.2.1⟩
        rw [HAe.out.2.2.1] at HCl
        go_wp2_with fail
        refine wp_region_held (S := fun w' : World => w'.cell? ⟨b, 1 + kk * 3 + 1, none⟩ = some (.func (.func F) #[] #[]) ∧ w'.cell? ⟨ob, 2, none⟩ = some (.int .i64 a2)) (by kernel_rfl) ?_
        have hS : (fun w' : World => w'.cell? ⟨b, 1 + kk * 3 + 1, none⟩ = some (.func (.func F) #[] #[]) ∧ w'.cell? ⟨ob, 2, none⟩ = some (.int .i64 a2)) wr.drew := HSb.out wr _ HG.out.2.1 HG.out.2.2.2.1
        change wpAnyH _ _ _ _ _ _ _ _ wr.drew
        refine tqA 0 rfl hS ?_
        refine tqA 1 rfl hS ?_
        refine tqA 2 rfl hS ?_
        refine tqA 3 rfl hS ?_
        refine tqA 4 rfl hS ?_
        refine tqA 5 rfl hS ?_
        refine tqA 6 rfl hS ?_
        refine tqA 7 rfl hS ?_
        refine tqA 8 rfl hS ?_
        refine tqA 9 rfl hS ?_
        refine tqA 10 rfl hS ?_
        refine wpAnyH_ready (rs := [11]) (by kernel_rfl) (by simp) ?_
        refine AllReadyH.cons rfl (fun K hK => ?_) AllReadyH.nil
        go_simp
        have hwd : Wr wr.drew b base wayL (xs ++ (numB op ++ insP (pick4 (kd4 op)) a 2)) := HG.out.2.1.below (Below.refl _ wr).drew
        refine Calls.mono (HCl.out _ hwd) ?_
        rintro e w7 ⟨rfl, hw7, hf7⟩
        have hfd : Fo b wr w7 := (Fo.of_below (Below.refl _ wr).drew HG.out.2.1.blt).trans hf7
        have hob7 : w7.heap[ob]? = some (.cells #[.int .i64 a0, .int .i64 a1, .int .i64 a2, .int .i64 a3] 100 (0, 0)) := (hfd.block ob (blk_lt HG.out.2.2.2.1) HO5.out.2.2 HG.out.2.2.2.2).trans HG.out.2.2.2.1
        have HR : Hid (Wr w7 b base wayL (xs ++ (numB op ++ insP (pick4 (kd4 op)) a (2 + 1))) ∧ Fo b W w7 ∧ w7.heap[ob]? = some (.cells #[.int .i64 a0, .int .i64 a1, .int .i64 a2, .int .i64 a3] 100 (0, 0)) ∧ ¬ Own w7 b ob) := ⟨by
          show Wr w7 b base wayL (xs ++ (numB op ++ (insP (pick4 (kd4 op)) a 2 ++ opB (pick4 (kd4 op) 2) (a 2))))
          rw [HKk.out, HAe.out.2.2.1, ← List.append_assoc (numB op), ← List.append_assoc xs]
          exact hw7, HG.out.2.2.1.trans hfd, hob7, fun e => by
          rcases hfd.own _ e with e1 | e1
          · exact HG.out.2.2.2.2 e1
          · have := blk_lt HG.out.2.2.2.1; omega⟩
        refine hK.out _ _ (HSb.out _ _ hw7 hob7) (fun hS => ?_)
        refine wpAnyH_done (by kernel_rfl) ?_ _
        clear hK K hS hw7 hf7 hfd hob7 hwd HCl HSb hix
        go_wp2_with fail
        go_roundg (4 - (2 + 1))
        case measure => have h2 := HG.out.1; omega
        case rel => exact ⟨2 + 1, by omega, rfl, by go_num, HR.out.1, HR.out.2.1, HR.out.2.2.1, HR.out.2.2.2⟩
      · have hq : q3 = (kk : Int) := by rw [← HKk.out]; exact HAe.out.2.2.2.2.2.2.2.symm
        subst hq
        have hix := fun u => idx4_3 q0 q1 q2 kk u
        have hk9 : (kk : Int) < 9 := by omega
        have HSb : Hid (∀ W' xs', Wr W' b base wayL xs' → W'.heap[ob]? = some (.cells #[.int .i64 a0, .int .i64 a1, .int .i64 a2, .int .i64 a3] 100 (0, 0)) → (fun w' : World => w'.cell? ⟨b, 1 + kk * 3 + 1, none⟩ = some (.func (.func F) #[] #[]) ∧ w'.cell? ⟨ob, 3, none⟩ = some (.int .i64 a3)) W') := fun W' xs' hw ho => ⟨by rw [show 1 + kk * 3 + 1 = 3 * kk + 1 + 1 by omega]; exact HCw.out W' xs' hw, (cells4 ho).2.2.2⟩
        rw [HAe.out.2.2.2.1] at HCl
        go_wp2_with fail
        refine wp_region_held (S := fun w' : World => w'.cell? ⟨b, 1 + kk * 3 + 1, none⟩ = some (.func (.func F) #[] #[]) ∧ w'.cell? ⟨ob, 3, none⟩ = some (.int .i64 a3)) (by kernel_rfl) ?_
        have hS : (fun w' : World => w'.cell? ⟨b, 1 + kk * 3 + 1, none⟩ = some (.func (.func F) #[] #[]) ∧ w'.cell? ⟨ob, 3, none⟩ = some (.int .i64 a3)) wr.drew := HSb.out wr _ HG.out.2.1 HG.out.2.2.2.1
        change wpAnyH _ _ _ _ _ _ _ _ wr.drew
        refine tqA 0 rfl hS ?_
        refine tqA 1 rfl hS ?_
        refine tqA 2 rfl hS ?_
        refine tqA 3 rfl hS ?_
        refine tqA 4 rfl hS ?_
        refine tqA 5 rfl hS ?_
        refine tqA 6 rfl hS ?_
        refine tqA 7 rfl hS ?_
        refine tqA 8 rfl hS ?_
        refine tqA 9 rfl hS ?_
        refine tqA 10 rfl hS ?_
        refine wpAnyH_ready (rs := [11]) (by kernel_rfl) (by simp) ?_
        refine AllReadyH.cons rfl (fun K hK => ?_) AllReadyH.nil
        go_simp
        have hwd : Wr wr.drew b base wayL (xs ++ (numB op ++ insP (pick4 (kd4 op)) a 3)) := HG.out.2.1.below (Below.refl _ wr).drew
        refine Calls.mono (HCl.out _ hwd) ?_
        rintro e w7 ⟨rfl, hw7, hf7⟩
        have hfd : Fo b wr w7 := (Fo.of_below (Below.refl _ wr).drew HG.out.2.1.blt).trans hf7
        have hob7 : w7.heap[ob]? = some (.cells #[.int .i64 a0, .int .i64 a1, .int .i64 a2, .int .i64 a3] 100 (0, 0)) := (hfd.block ob (blk_lt HG.out.2.2.2.1) HO5.out.2.2 HG.out.2.2.2.2).trans HG.out.2.2.2.1
        have HR : Hid (Wr w7 b base wayL (xs ++ (numB op ++ insP (pick4 (kd4 op)) a (3 + 1))) ∧ Fo b W w7 ∧ w7.heap[ob]? = some (.cells #[.int .i64 a0, .int .i64 a1, .int .i64 a2, .int .i64 a3] 100 (0, 0)) ∧ ¬ Own w7 b ob) := ⟨by
          show Wr w7 b base wayL (xs ++ (numB op ++ (insP (pick4 (kd4 op)) a 3 ++ opB (pick4 (kd4 op) 3) (a 3))))
          rw [HKk.out, HAe.out.2.2.2.1, ← List.append_assoc (numB op), ← List.append_assoc xs]
          exact hw7, HG.out.2.2.1.trans hfd, hob7, fun e => by
          rcases hfd.own _ e with e1 | e1
          · exact HG.out.2.2.2.2 e1
          · have := blk_lt HG.out.2.2.2.1; omega⟩
        refine hK.out _ _ (HSb.out _ _ hw7 hob7) (fun hS => ?_)
        refine wpAnyH_done (by kernel_rfl) ?_ _
        clear hK K hS hw7 hf7 hfd hob7 hwd HCl HSb hix
        go_wp2_with fail
        go_roundg (4 - (3 + 1))
        case measure => have h2 := HG.out.1; omega
        case rel => exact ⟨3 + 1, by omega, rfl, by go_num, HR.out.1, HR.out.2.1, HR.out.2.2.1, HR.out.2.2.2⟩
    · obtain rfl : j = 4 := by omega
      have HE : Hid (Wr wr b base wayL (xs ++ insB op a) ∧ Fo b W wr) := ⟨HG.out.2.1, HG.out.2.2.1⟩
      clear HA HAe HG HO5 HW5
      go_wp2_with fail
      go_end0
      exact ⟨rfl, HE.out.1, HE.out.2⟩
end Go.Proofs.YtcblichnkakhdaaDoor.Cd
