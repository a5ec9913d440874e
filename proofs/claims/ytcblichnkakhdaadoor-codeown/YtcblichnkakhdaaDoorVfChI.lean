import Derived.Test.YtcblichnkakhdaaDoorVfBeh
import Derived.Test.YtcblichnkakhdaaDoorVfKind
import Derived.Test.YtcblichnkakhdaaDoorVfSpn
namespace Go.Proofs.YtcblichnkakhdaaDoor.Vf
open Go.RowKit Go.Proofs.YtcblichnkakhdaaDoor.Nm

theorem cells4 {wq : World} {B : Nat} {v0 v1 v2 v3 : Value} {T : TypeId} (h : wq.heap[B]? = some (.cells #[v0, v1, v2, v3] T (0, 0))) : wq.cell? ⟨B, 0, none⟩ = some v0 ∧ wq.cell? ⟨B, 1, none⟩ = some v1 ∧ wq.cell? ⟨B, 2, none⟩ = some v2 ∧ wq.cell? ⟨B, 3, none⟩ = some v3 :=
  ⟨cell_of (cs := [v0, v1, v2, v3]) h rfl, cell_of (cs := [v0, v1, v2, v3]) h rfl, cell_of (cs := [v0, v1, v2, v3]) h rfl, cell_of (cs := [v0, v1, v2, v3]) h rfl⟩
theorem idx4_0 (x0 x1 x2 x3 : Int) (u : World) : (Instr.index 103 (.agg #[.int .i64 x0, .int .i64 x1, .int .i64 x2, .int .i64 x3]) (.int .i64 0)).run Tryd.prog u = .ok (.int .i64 x0) u := by kernel_rfl
theorem idx4_1 (x0 x1 x2 x3 : Int) (u : World) : (Instr.index 103 (.agg #[.int .i64 x0, .int .i64 x1, .int .i64 x2, .int .i64 x3]) (.int .i64 1)).run Tryd.prog u = .ok (.int .i64 x1) u := by kernel_rfl
theorem idx4_2 (x0 x1 x2 x3 : Int) (u : World) : (Instr.index 103 (.agg #[.int .i64 x0, .int .i64 x1, .int .i64 x2, .int .i64 x3]) (.int .i64 2)).run Tryd.prog u = .ok (.int .i64 x2) u := by kernel_rfl
theorem idx4_3 (x0 x1 x2 x3 : Int) (u : World) : (Instr.index 103 (.agg #[.int .i64 x0, .int .i64 x1, .int .i64 x2, .int .i64 x3]) (.int .i64 3)).run Tryd.prog u = .ok (.int .i64 x3) u := by kernel_rfl
def spV (p : Pg) : List Value := spanL p.gh.length p.vs.length p.ts.length p.cd.length
theorem spV_at (p : Pg) : ∀ q : Nat, q ≤ 8 → (spV p)[q * 2]? = some (.int .i64 (loK (q : Int))) ∧ (spV p)[q * 2 + 1]? = some (.int .i64 (hiK p (q : Int))) := by
  intro q hq
  have h : q = 0 ∨ q = 1 ∨ q = 2 ∨ q = 3 ∨ q = 4 ∨ q = 5 ∨ q = 6 ∨ q = 7 ∨ q = 8 := by omega
  rcases h with rfl | rfl | rfl | rfl | rfl | rfl | rfl | rfl | rfl <;> exact ⟨rfl, rfl⟩
theorem kd_le : ∀ op, op < 42 → (0 ≤ (kd4 op).1 ∧ (kd4 op).1 ≤ 8) ∧ (0 ≤ (kd4 op).2.1 ∧ (kd4 op).2.1 ≤ 8) ∧ (0 ≤ (kd4 op).2.2.1 ∧ (kd4 op).2.2.1 ≤ 8) ∧ (0 ≤ (kd4 op).2.2.2 ∧ (kd4 op).2.2.2 ≤ 8) := by decide
def pickI (q0 q1 q2 q3 : Nat) (a b c d : Int) (j : Nat) : Nat × Int := if j = 0 then (q0, a) else if j = 1 then (q1, b) else if j = 2 then (q2, c) else (q3, d)
set_option maxHeartbeats 12800000 in
set_option maxRecDepth 100000 in
/-- checkInstr -/
theorem chi_any (p : Pg) (x : Ins) (w : World) : Calls Tryd.prog 48 #[.agg #[.int .i64 x.op, .int .i64 x.a, .int .i64 x.b, .int .i64 x.c, .int .i64 x.d], .agg (spV p).toArray] w fun e w' => e = .returned (.int .i64 (insF p x : Int)) ∧ Below w.heap.size w w' := by
  obtain ⟨xo, xa, xb, xc, xd⟩ := x
  show Calls _ _ #[.agg #[.int .i64 xo, .int .i64 xa, .int .i64 xb, .int .i64 xc, .int .i64 xd], _] _ _
  obtain ⟨sp, hsp⟩ : ∃ sp, sp = (spV p).toArray := ⟨_, rfl⟩
  rw [← hsp]
  have HSq : Hid (sp = (spV p).toArray) := hsp
  clear hsp
  have HB : Hid (Below w.heap.size w ((w.alloc (.cells #[.int .i64 xo, .int .i64 xa, .int .i64 xb, .int .i64 xc, .int .i64 xd] 64)).alloc (.cells sp 86)) ∧ ((w.alloc (.cells #[.int .i64 xo, .int .i64 xa, .int .i64 xb, .int .i64 xc, .int .i64 xd] 64)).alloc (.cells sp 86)).heap[w.heap.size]? = some (.cells #[.int .i64 xo, .int .i64 xa, .int .i64 xb, .int .i64 xc, .int .i64 xd] 64 (0, 0)) ∧ ((w.alloc (.cells #[.int .i64 xo, .int .i64 xa, .int .i64 xb, .int .i64 xc, .int .i64 xd] 64)).alloc (.cells sp 86)).heap[w.heap.size + 1]? = some (.cells sp 86 (0, 0))) := by
    have e0 := heap_alloc_new w (.cells #[.int .i64 xo, .int .i64 xa, .int .i64 xb, .int .i64 xc, .int .i64 xd] 64)
    have e1 := heap_alloc_new (w.alloc (.cells #[.int .i64 xo, .int .i64 xa, .int .i64 xb, .int .i64 xc, .int .i64 xd] 64)) (.cells sp 86)
    have s1 : (w.alloc (.cells #[.int .i64 xo, .int .i64 xa, .int .i64 xb, .int .i64 xc, .int .i64 xd] 64)).heap.size = w.heap.size + 1 := by simp
    refine ⟨((Below.refl _ w).alloc (Nat.le_refl _) _).alloc (by simp) _, ?_, by rw [s1] at e1; exact e1⟩
    exact (((Below.refl _ (w.alloc (.cells #[.int .i64 xo, .int .i64 xa, .int .i64 xb, .int .i64 xc, .int .i64 xd] 64))).alloc (Nat.le_refl _) (.cells sp 86)).block _ (by omega)).trans e0
  by_cases hop : 0 ≤ xo ∧ xo < 42
  case neg =>
    have hr : insF p ⟨xo, xa, xb, xc, xd⟩ = 91 := by unfold insF; rw [← Bool.decide_and, decide_eq_false hop]; rfl
    rw [hr]
    have hw : xo < 0 ∨ (¬ xo < 0 ∧ 42 ≤ xo) := by omega
    clear hop
    rcases hw with h1 | ⟨h1, h2⟩
    all_goals
      go_enter Tryd.func48, Tryd.ntmps48
      go_wp2_with fail
      go_ret
      exact ⟨rfl, HB.out.1⟩
  obtain ⟨op, rfl⟩ : ∃ op : Nat, xo = (op : Int) := ⟨xo.toNat, by omega⟩
  have hop' : op < 42 := by omega
  obtain ⟨⟨a1, a2⟩, ⟨b1, b2⟩, ⟨c1, c2⟩, ⟨d1, d2⟩⟩ := kd_le op hop'
  obtain ⟨q0, f0⟩ : ∃ q : Nat, (kd4 op).1 = (q : Int) := ⟨(kd4 op).1.toNat, by omega⟩
  obtain ⟨q1, f1⟩ : ∃ q : Nat, (kd4 op).2.1 = (q : Int) := ⟨(kd4 op).2.1.toNat, by omega⟩
  obtain ⟨q2, f2⟩ : ∃ q : Nat, (kd4 op).2.2.1 = (q : Int) := ⟨(kd4 op).2.2.1.toNat, by omega⟩
  obtain ⟨q3, f3⟩ : ∃ q : Nat, (kd4 op).2.2.2 = (q : Int) := ⟨(kd4 op).2.2.2.toNat, by omega⟩
  rw [f0] at a1 a2
  rw [f1] at b1 b2
  rw [f2] at c1 c2
  rw [f3] at d1 d2
  have HQ : Hid (q0 ≤ 8 ∧ q1 ≤ 8 ∧ q2 ≤ 8 ∧ q3 ≤ 8) := ⟨by omega, by omega, by omega, by omega⟩
  have hins : insF p ⟨(op : Int), xa, xb, xc, xd⟩ = if inK p (q0 : Int) xa && (inK p (q1 : Int) xb && (inK p (q2 : Int) xc && inK p (q3 : Int) xd)) then 0 else 92 := by
    unfold insF
    rw [decide_eq_true hop.1, decide_eq_true hop.2]
    simp only [Bool.and_self, if_true, Int.toNat_natCast, f0, f1, f2, f3]
  have HIn : Hid ((∀ i, i < 4 → inK p ((pickI q0 q1 q2 q3 xa xb xc xd i).1 : Int) (pickI q0 q1 q2 q3 xa xb xc xd i).2 = true) → insF p ⟨(op : Int), xa, xb, xc, xd⟩ = 0) := fun h => by
    have h0 := h 0 (by omega)
    have h1 := h 1 (by omega)
    have h2 := h 2 (by omega)
    have h3 := h 3 (by omega)
    rw [hins, show inK p (q0 : Int) xa = true from h0, show inK p (q1 : Int) xb = true from h1, show inK p (q2 : Int) xc = true from h2, show inK p (q3 : Int) xd = true from h3]
    rfl
  have HIm : Hid (∀ i, i < 4 → inK p ((pickI q0 q1 q2 q3 xa xb xc xd i).1 : Int) (pickI q0 q1 q2 q3 xa xb xc xd i).2 = false → insF p ⟨(op : Int), xa, xb, xc, xd⟩ = 92) := fun i hi h => by
    have h4 : i = 0 ∨ i = 1 ∨ i = 2 ∨ i = 3 := by omega
    rw [hins]
    rcases h4 with rfl | rfl | rfl | rfl
    · rw [show inK p (q0 : Int) xa = false from h]; rfl
    · rw [show inK p (q1 : Int) xb = false from h]; simp
    · rw [show inK p (q2 : Int) xc = false from h]; simp
    · rw [show inK p (q3 : Int) xd = false from h]; simp
  have HC : Hid (∀ u, Calls Tryd.prog 62 #[.agg #[.int .i64 (op : Int), .int .i64 xa, .int .i64 xb, .int .i64 xc, .int .i64 xd]] u fun e w' => e = .returned (.agg #[.int .i64 xa, .int .i64 xb, .int .i64 xc, .int .i64 xd]) ∧ Below u.heap.size u w') := fun u => cops (op : Int) xa xb xc xd u
  have HK : Hid (∀ u, Calls Tryd.prog 63 #[.int .i64 (op : Int)] u fun e w' => e = .returned (.agg #[.int .i64 (q0 : Int), .int .i64 (q1 : Int), .int .i64 (q2 : Int), .int .i64 (q3 : Int)]) ∧ Below u.heap.size u w') := fun u => by rw [← f0, ← f1, ← f2, ← f3]; exact ckinds op hop' u
  have ho1 : ¬ (op : Int) < 0 := by omega
  have ho2 : ¬ 42 ≤ (op : Int) := by omega
  clear hins f0 f1 f2 f3 a1 a2 b1 b2 c1 c2 d1 d2 hop hop'
  go_enter Tryd.func48, Tryd.ntmps48
  go_wp2_with fail
  generalize (w.alloc (.cells #[.int .i64 (op : Int), .int .i64 xa, .int .i64 xb, .int .i64 xc, .int .i64 xd] 64)).alloc (.cells sp 86) = w0 at *
  refine (HC.out _).mono ?_
  rintro e w1 ⟨rfl, hb1⟩
  have HB1 : Hid (Below w.heap.size w w1 ∧ w1.heap[w.heap.size]? = some (.cells #[.int .i64 (op : Int), .int .i64 xa, .int .i64 xb, .int .i64 xc, .int .i64 xd] 64 (0, 0)) ∧ w1.heap[w.heap.size + 1]? = some (.cells sp 86 (0, 0))) := ⟨HB.out.1.trans (hb1.mono HB.out.1.size), (hb1.block _ (blk_lt HB.out.2.1)).trans HB.out.2.1, (hb1.block _ (blk_lt HB.out.2.2)).trans HB.out.2.2⟩
  have hb2 : Below w1.heap.size w1 (w1.alloc (.cells #[.int .i64 xa, .int .i64 xb, .int .i64 xc, .int .i64 xd] 100)) := (Below.refl _ w1).alloc (Nat.le_refl _) _
  have HB2 : Hid (Below w.heap.size w (w1.alloc (.cells #[.int .i64 xa, .int .i64 xb, .int .i64 xc, .int .i64 xd] 100)) ∧ (w1.alloc (.cells #[.int .i64 xa, .int .i64 xb, .int .i64 xc, .int .i64 xd] 100)).heap[w.heap.size]? = some (.cells #[.int .i64 (op : Int), .int .i64 xa, .int .i64 xb, .int .i64 xc, .int .i64 xd] 64 (0, 0)) ∧ (w1.alloc (.cells #[.int .i64 xa, .int .i64 xb, .int .i64 xc, .int .i64 xd] 100)).heap[w.heap.size + 1]? = some (.cells sp 86 (0, 0)) ∧ (w1.alloc (.cells #[.int .i64 xa, .int .i64 xb, .int .i64 xc, .int .i64 xd] 100)).heap[w1.heap.size]? = some (.cells #[.int .i64 xa, .int .i64 xb, .int .i64 xc, .int .i64 xd] 100 (0, 0))) :=
    ⟨HB1.out.1.trans (hb2.mono HB1.out.1.size), (hb2.block _ (blk_lt HB1.out.2.1)).trans HB1.out.2.1, (hb2.block _ (blk_lt HB1.out.2.2)).trans HB1.out.2.2, heap_alloc_new _ _⟩
  clear hb1 hb2 HB HB1 HC
  obtain ⟨i0, i1, i2, i3, i4⟩ := cells5 HB2.out.2.1
  go_wp2_with fail
  generalize w1.alloc (.cells #[.int .i64 xa, .int .i64 xb, .int .i64 xc, .int .i64 xd] 100) = w2 at *
  refine (HK.out _).mono ?_
  rintro e w3 ⟨rfl, hb3⟩
  have HO : Hid (Below w.heap.size w w3 ∧ w3.heap[w1.heap.size]? = some (.cells #[.int .i64 xa, .int .i64 xb, .int .i64 xc, .int .i64 xd] 100 (0, 0))) := ⟨HB2.out.1.trans (hb3.mono HB2.out.1.size), (hb3.block _ (blk_lt HB2.out.2.2.2)).trans HB2.out.2.2.2⟩
  have hs3 : w3.heap[w.heap.size + 1]? = some (.cells sp 86 (0, 0)) := (hb3.block _ (blk_lt HB2.out.2.2.1)).trans HB2.out.2.2.1
  have HSp : Hid (∀ q : Nat, q ≤ 8 → w3.cell? ⟨w.heap.size + 1, q * 2, none⟩ = some (.int .i64 (loK (q : Int))) ∧ w3.cell? ⟨w.heap.size + 1, q * 2 + 1, none⟩ = some (.int .i64 (hiK p (q : Int)))) := fun q hq => by
    rw [HSq.out] at hs3
    exact ⟨cell_of hs3 (spV_at p q hq).1, cell_of hs3 (spV_at p q hq).2⟩
  clear hb3 hs3 HB2 HK i0 i1 i2 i3 i4
  generalize w1.heap.size = ob at *
  go_wp2_with fail
  go_loopg [22] 4 (fun gq y wr => ∃ j : Nat, j ≤ 4 ∧ gq = 4 - j ∧ y = .int .i64 (j : Int) ∧ (∀ i, i < j → inK p ((pickI q0 q1 q2 q3 xa xb xc xd i).1 : Int) (pickI q0 q1 q2 q3 xa xb xc xd i).2 = true) ∧ wr = w3)
  case atStart => exact ⟨0, by omega, rfl, rfl, fun i hi => absurd hi (by omega), rfl⟩
  case round =>
    obtain ⟨j, hj, hgk, rfl, ha, rfl⟩ := hrel
    have HG : Hid (gk = 4 - j ∧ ∀ i, i < j → inK p ((pickI q0 q1 q2 q3 xa xb xc xd i).1 : Int) (pickI q0 q1 q2 q3 xa xb xc xd i).2 = true) := ⟨hgk, ha⟩
    clear hgk ha
    have hj5 : j = 0 ∨ j = 1 ∨ j = 2 ∨ j = 3 ∨ j = 4 := by omega
    rcases hj5 with rfl | rfl | rfl | rfl | rfl
    all_goals clear hj
    · have hix := fun u => idx4_0 q0 q1 q2 q3 u
      have k9 : (q0 : Int) < 9 := by have := HQ.out; omega
      obtain ⟨s0, s1⟩ := HSp.out q0 (by have := HQ.out; omega)
      obtain ⟨o0, o1, o2, o3⟩ := cells4 HO.out.2
      obtain ⟨lo, hlo⟩ : ∃ lo, lo = loK (q0 : Int) := ⟨_, rfl⟩
      obtain ⟨hi, hhi⟩ : ∃ hi, hi = hiK p (q0 : Int) := ⟨_, rfl⟩
      rw [← hlo] at s0
      rw [← hhi] at s1
      have HL : Hid (lo = loK (q0 : Int) ∧ hi = hiK p (q0 : Int)) := ⟨hlo, hhi⟩
      clear hlo hhi
      by_cases hk : lo ≤ xa ∧ xa ≤ hi
      · have k1 : ¬ xa < lo := by omega
        have k2 : ¬ hi < xa := by omega
        have HK : Hid (inK p (q0 : Int) xa = true) := by
          show _ = _
          unfold inK
          rw [← HL.out.1, ← HL.out.2, decide_eq_true hk.1, decide_eq_true hk.2]
          rfl
        clear hk
        go_wp2_with fail
        go_roundg (4 - 1)
        case measure => have h2 := HG.out.1; omega
        case rel => exact ⟨1, by omega, rfl, rfl, (by rintro i hi; have h5 := HG.out.2; rcases Nat.lt_or_ge i 0 with h6 | h6; exact h5 i h6; obtain rfl : i = 0 := (by omega); exact HK.out), rfl⟩
      · have HR : Hid (insF p ⟨(op : Int), xa, xb, xc, xd⟩ = 92) := by
          show _ = _
          refine HIm.out 0 (by omega) ?_
          show inK p (q0 : Int) xa = false
          unfold inK
          rw [← HL.out.1, ← HL.out.2, ← Bool.decide_and, decide_eq_false hk]
        have hk' : xa < lo ∨ (¬ xa < lo ∧ hi < xa) := by omega
        clear hk
        rcases hk' with k1 | ⟨k1, k2⟩
        all_goals
          go_wp2_with fail
          go_ret
          exact ⟨by rw [HR.out]; rfl, HO.out.1⟩
    · have hix := fun u => idx4_1 q0 q1 q2 q3 u
      have k9 : (q1 : Int) < 9 := by have := HQ.out; omega
      obtain ⟨s0, s1⟩ := HSp.out q1 (by have := HQ.out; omega)
      obtain ⟨o0, o1, o2, o3⟩ := cells4 HO.out.2
      obtain ⟨lo, hlo⟩ : ∃ lo, lo = loK (q1 : Int) := ⟨_, rfl⟩
      obtain ⟨hi, hhi⟩ : ∃ hi, hi = hiK p (q1 : Int) := ⟨_, rfl⟩
      rw [← hlo] at s0
      rw [← hhi] at s1
      have HL : Hid (lo = loK (q1 : Int) ∧ hi = hiK p (q1 : Int)) := ⟨hlo, hhi⟩
      clear hlo hhi
      by_cases hk : lo ≤ xb ∧ xb ≤ hi
      · have k1 : ¬ xb < lo := by omega
        have k2 : ¬ hi < xb := by omega
        have HK : Hid (inK p (q1 : Int) xb = true) := by
          show _ = _
          unfold inK
          rw [← HL.out.1, ← HL.out.2, decide_eq_true hk.1, decide_eq_true hk.2]
          rfl
        clear hk
        go_wp2_with fail
        go_roundg (4 - 2)
        case measure => have h2 := HG.out.1; omega
        case rel => exact ⟨2, by omega, rfl, rfl, (by rintro i hi; have h5 := HG.out.2; rcases Nat.lt_or_ge i 1 with h6 | h6; exact h5 i h6; obtain rfl : i = 1 := (by omega); exact HK.out), rfl⟩
      · have HR : Hid (insF p ⟨(op : Int), xa, xb, xc, xd⟩ = 92) := by
          show _ = _
          refine HIm.out 1 (by omega) ?_
          show inK p (q1 : Int) xb = false
          unfold inK
          rw [← HL.out.1, ← HL.out.2, ← Bool.decide_and, decide_eq_false hk]
        have hk' : xb < lo ∨ (¬ xb < lo ∧ hi < xb) := by omega
        clear hk
        rcases hk' with k1 | ⟨k1, k2⟩
        all_goals
          go_wp2_with fail
          go_ret
          exact ⟨by rw [HR.out]; rfl, HO.out.1⟩
    · have hix := fun u => idx4_2 q0 q1 q2 q3 u
      have k9 : (q2 : Int) < 9 := by have := HQ.out; omega
      obtain ⟨s0, s1⟩ := HSp.out q2 (by have := HQ.out; omega)
      obtain ⟨o0, o1, o2, o3⟩ := cells4 HO.out.2
      obtain ⟨lo, hlo⟩ : ∃ lo, lo = loK (q2 : Int) := ⟨_, rfl⟩
      obtain ⟨hi, hhi⟩ : ∃ hi, hi = hiK p (q2 : Int) := ⟨_, rfl⟩
      rw [← hlo] at s0
      rw [← hhi] at s1
      have HL : Hid (lo = loK (q2 : Int) ∧ hi = hiK p (q2 : Int)) := ⟨hlo, hhi⟩
      clear hlo hhi
      by_cases hk : lo ≤ xc ∧ xc ≤ hi
      · have k1 : ¬ xc < lo := by omega
        have k2 : ¬ hi < xc := by omega
        have HK : Hid (inK p (q2 : Int) xc = true) := by
          show _ = _
          unfold inK
          rw [← HL.out.1, ← HL.out.2, decide_eq_true hk.1, decide_eq_true hk.2]
          rfl
        clear hk
        go_wp2_with fail
        go_roundg (4 - 3)
        case measure => have h2 := HG.out.1; omega
        case rel => exact ⟨3, by omega, rfl, rfl, (by rintro i hi; have h5 := HG.out.2; rcases Nat.lt_or_ge i 2 with h6 | h6; exact h5 i h6; obtain rfl : i = 2 := (by omega); exact HK.out), rfl⟩
      · have HR : Hid (insF p ⟨(op : Int), xa, xb, xc, xd⟩ = 92) := by
          show _ = _
          refine HIm.out 2 (by omega) ?_
          show inK p (q2 : Int) xc = false
          unfold inK
          rw [← HL.out.1, ← HL.out.2, ← Bool.decide_and, decide_eq_false hk]
        have hk' : xc < lo ∨ (¬ xc < lo ∧ hi < xc) := by omega
        clear hk
        rcases hk' with k1 | ⟨k1, k2⟩
        all_goals
          go_wp2_with fail
          go_ret
          exact ⟨by rw [HR.out]; rfl, HO.out.1⟩
    · have hix := fun u => idx4_3 q0 q1 q2 q3 u
      have k9 : (q3 : Int) < 9 := by have := HQ.out; omega
      obtain ⟨s0, s1⟩ := HSp.out q3 (by have := HQ.out; omega)
      obtain ⟨o0, o1, o2, o3⟩ := cells4 HO.out.2
      obtain ⟨lo, hlo⟩ : ∃ lo, lo = loK (q3 : Int) := ⟨_, rfl⟩
      obtain ⟨hi, hhi⟩ : ∃ hi, hi = hiK p (q3 : Int) := ⟨_, rfl⟩
      rw [← hlo] at s0
      rw [← hhi] at s1
      have HL : Hid (lo = loK (q3 : Int) ∧ hi = hiK p (q3 : Int)) := ⟨hlo, hhi⟩
      clear hlo hhi
      by_cases hk : lo ≤ xd ∧ xd ≤ hi
      · have k1 : ¬ xd < lo := by omega
        have k2 : ¬ hi < xd := by omega
        have HK : Hid (inK p (q3 : Int) xd = true) := by
          show _ = _
          unfold inK
          rw [← HL.out.1, ← HL.out.2, decide_eq_true hk.1, decide_eq_true hk.2]
          rfl
        clear hk
        go_wp2_with fail
        go_roundg (4 - 4)
        case measure => have h2 := HG.out.1; omega
        case rel => exact ⟨4, by omega, rfl, rfl, (by rintro i hi; have h5 := HG.out.2; rcases Nat.lt_or_ge i 3 with h6 | h6; exact h5 i h6; obtain rfl : i = 3 := (by omega); exact HK.out), rfl⟩
      · have HR : Hid (insF p ⟨(op : Int), xa, xb, xc, xd⟩ = 92) := by
          show _ = _
          refine HIm.out 3 (by omega) ?_
          show inK p (q3 : Int) xd = false
          unfold inK
          rw [← HL.out.1, ← HL.out.2, ← Bool.decide_and, decide_eq_false hk]
        have hk' : xd < lo ∨ (¬ xd < lo ∧ hi < xd) := by omega
        clear hk
        rcases hk' with k1 | ⟨k1, k2⟩
        all_goals
          go_wp2_with fail
          go_ret
          exact ⟨by rw [HR.out]; rfl, HO.out.1⟩
    · have HR : Hid (insF p ⟨(op : Int), xa, xb, xc, xd⟩ = 0) := HIn.out HG.out.2
      go_wp2_with fail
      go_ret
      exact ⟨by rw [HR.out]; rfl, HO.out.1⟩
end Go.Proofs.YtcblichnkakhdaaDoor.Vf
