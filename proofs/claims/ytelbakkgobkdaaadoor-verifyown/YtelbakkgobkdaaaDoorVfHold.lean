import Derived.Test.YtelbakkgobkdaaaDoorVfBring
namespace Go.Proofs.YtelbakkgobkdaaaDoor.Vf
open Go.RowKit Go.Proofs.YtelbakkgobkdaaaDoor.Nm

theorem natD (h k : Nat) : decide (h = k) = ((h : Int) == (k : Int)) := by rw [Bool.eq_iff_iff]; simp; omega
theorem nat2 (h : Nat) : decide (h = 2) = ((h : Int) == 2) := natD h 2
theorem nat1 (h : Nat) : decide (h = 1) = ((h : Int) == 1) := natD h 1
theorem nat3 (h : Nat) : decide (h = 3) = ((h : Int) == 3) := natD h 3
theorem nat0 (h : Nat) : decide (h = 0) = ((h : Int) == 0) := natD h 0
set_option maxHeartbeats 6400000 in
set_option maxRecDepth 100000 in
/-- mayHold -/
theorem hold_any {w : World} {wb gb : Nat} {v : PV} {p : Pg} {eo : Option Addr} {ec gc : Nat} {g : Nat → Option Sd} (h : Wk w wb gb v p eo ec gc g) (x : Ins) (k : Nat) (ha : x.op = 35 → 0 ≤ x.a ∧ x.a < (p.gh.length : Int)) :
    Calls Tryd.prog 63 #[.pointer (some ⟨wb, 0, none⟩), .int .i64 (k : Int), .agg #[.int .i64 x.op, .int .i64 x.a, .int .i64 x.b, .int .i64 x.c, .int .i64 x.d]] w fun e w' => e = .returned (.bool (holdB p k x)) ∧ Below w.heap.size w w' := by
  obtain ⟨xo, xa, xb, xc, xd⟩ := x
  dsimp only at ha ⊢
  obtain ⟨qo, qc, vo, vc, to, tc, oo, oc, co, cc⟩ := v
  obtain ⟨c0, c1, c2, c3, c4, c5, c6, c7⟩ := cells8 h.hw
  have n3 : (p.gh.length : Int) ≤ 1000000000000000 := by have := h.pg.lgh; omega
  dsimp only at c0
  clear c1 c2 c3 c4 c5 c6 c7
  have hbA : Below w.heap.size w (w.alloc (.cells #[.int .i64 xo, .int .i64 xa, .int .i64 xb, .int .i64 xc, .int .i64 xd] 54)) := (Below.refl _ w).alloc (Nat.le_refl _) _
  have HB : Hid (∀ n, Below w.heap.size w ((w.alloc (.cells #[.int .i64 xo, .int .i64 xa, .int .i64 xb, .int .i64 xc, .int .i64 xd] 54)).drewN n)) := fun n => hbA.trans ((drN _ n).mono hbA.size)
  have HB0 : Hid (Below w.heap.size w (w.alloc (.cells #[.int .i64 xo, .int .i64 xa, .int .i64 xb, .int .i64 xc, .int .i64 xd] 54))) := hbA
  have HX : Hid ((w.alloc (.cells #[.int .i64 xo, .int .i64 xa, .int .i64 xb, .int .i64 xc, .int .i64 xd] 54)).heap[w.heap.size]? = some (.cells #[.int .i64 xo, .int .i64 xa, .int .i64 xb, .int .i64 xc, .int .i64 xd] 54 (0, 0))) := heap_alloc_new _ _
  have HC : Hid ((w.alloc (.cells #[.int .i64 xo, .int .i64 xa, .int .i64 xb, .int .i64 xc, .int .i64 xd] 54)).cell? ⟨wb, 0, none⟩ = some (.slice qo p.gh.length qc)) := (hbA.cell (p := ⟨wb, 0, none⟩) (blk_lt h.hw)).trans c0
  clear hbA c0
  unfold holdB
  dsimp only
  rw [nat0, nat1, nat2, nat3]
  by_cases r1 : 1 ≤ xo ∧ xo ≤ 21
  · obtain ⟨r2, r3⟩ := r1
    rw [decide_eq_true r2, decide_eq_true r3]
    clear ha h
    go_enter Tryd.func63, Tryd.ntmps63
    go_wp2_with fail
    go_ret
    exact ⟨rfl, HB0.out⟩
  by_cases r2 : 28 ≤ xo ∧ xo ≤ 30
  · obtain ⟨r3, r4⟩ := r2
    have r5 : ¬ xo ≤ 21 := by omega
    have r6 : 1 ≤ xo := by omega
    rw [decide_eq_true r3, decide_eq_true r4, decide_eq_false r5]
    clear ha h r1
    go_enter Tryd.func63, Tryd.ntmps63
    go_wp2_with fail
    go_ret
    exact ⟨rfl, HB0.out⟩
  have hf : ((decide (1 ≤ xo) && decide (xo ≤ 21)) || (decide (28 ≤ xo) && decide (xo ≤ 30))) = false := by
    rw [← Bool.decide_and, ← Bool.decide_and, decide_eq_false r1, decide_eq_false r2]
    rfl
  rw [hf]
  clear hf
  by_cases o36 : xo = 36
  · subst o36
    clear ha h r1 r2
    go_enter Tryd.func63, Tryd.ntmps63
    go_wp2_with fail
    go_ret
    exact ⟨rfl, HB0.out⟩
  by_cases o37 : xo = 37
  · subst o37
    clear ha h r1 r2
    by_cases k1 : (k : Int) = 1
    · rw [k1]
      go_enter Tryd.func63, Tryd.ntmps63
      go_wp2_with fail
      have c0 := HC.out
      obtain ⟨i0, i1, i2, i3, i4⟩ := cells5 HX.out
      generalize w.alloc (.cells #[.int .i64 37, .int .i64 xa, .int .i64 xb, .int .i64 xc, .int .i64 xd] 54) = W1 at *
      clear HX HC
      go_quiet (fail)
      go_wp2_with fail
      go_ret
      exact ⟨rfl, HB.out _⟩
    · have k1' : ((k : Int) == 1) = false := by simpa using k1
      rw [k1']
      go_enter Tryd.func63, Tryd.ntmps63
      go_wp2_with fail
      have c0 := HC.out
      obtain ⟨i0, i1, i2, i3, i4⟩ := cells5 HX.out
      generalize w.alloc (.cells #[.int .i64 37, .int .i64 xa, .int .i64 xb, .int .i64 xc, .int .i64 xd] 54) = W1 at *
      clear HX HC
      go_quiet (fail)
      go_wp2_with fail
      go_ret
      exact ⟨by simp, HB.out _⟩
  by_cases o35 : xo = 35
  · subst o35
    obtain ⟨h0, h1⟩ := ha (by simp)
    obtain ⟨ka, rfl, hka, ga⟩ := gh_at h0 h1
    obtain ⟨g1, f1, hqo, hg, d0⟩ := rd_bool (h.pg.below HB0.out).gh hka
    obtain rfl : qo = some ⟨g1, f1, none⟩ := hqo
    have hk1 : (ka : Int) < (p.gh.length : Int) := by omega
    simp only [ga]
    generalize p.gh[ka] = ba at *
    clear ha h hg h0 h1 hka ga
    cases ba
    · go_enter Tryd.func63, Tryd.ntmps63
      go_wp2_with fail
      have c0 := HC.out
      obtain ⟨i0, i1, i2, i3, i4⟩ := cells5 HX.out
      generalize w.alloc (.cells #[.int .i64 35, .int .i64 (ka : Int), .int .i64 xb, .int .i64 xc, .int .i64 xd] 54) = W1 at *
      clear HX HC
      go_quiet (fail)
      go_wp2_with fail
      go_ret
      exact ⟨rfl, HB.out _⟩
    · by_cases k1 : (k : Int) = 1
      · rw [k1]
        go_enter Tryd.func63, Tryd.ntmps63
        go_wp2_with fail
        have c0 := HC.out
        obtain ⟨i0, i1, i2, i3, i4⟩ := cells5 HX.out
        generalize w.alloc (.cells #[.int .i64 35, .int .i64 (ka : Int), .int .i64 xb, .int .i64 xc, .int .i64 xd] 54) = W1 at *
        clear HX HC
        go_quiet (fail)
        go_wp2_with fail
        go_ret
        exact ⟨rfl, HB.out _⟩
      · have k1' : ((k : Int) == 1) = false := by simpa using k1
        rw [k1']
        go_enter Tryd.func63, Tryd.ntmps63
        go_wp2_with fail
        have c0 := HC.out
        obtain ⟨i0, i1, i2, i3, i4⟩ := cells5 HX.out
        generalize w.alloc (.cells #[.int .i64 35, .int .i64 (ka : Int), .int .i64 xb, .int .i64 xc, .int .i64 xd] 54) = W1 at *
        clear HX HC
        go_quiet (fail)
        go_wp2_with fail
        go_ret
        exact ⟨by simp, HB.out _⟩
  simp only [o36, o37, o35, decide_false, Bool.or_self, Bool.false_and, if_false, Bool.false_eq_true]
  clear ha h
  have hs : xo < 1 ∨ 31 ≤ xo ∨ (22 ≤ xo ∧ xo ≤ 27) := by omega
  clear r1 r2
  have b35 : (xo == 35) = false := by simpa using o35
  rcases hs with r1 | r1 | ⟨r1, r2⟩
  · have r3 : ¬ 1 ≤ xo := by omega
    have r4 : ¬ 28 ≤ xo := by omega
    go_enter Tryd.func63, Tryd.ntmps63
    go_wp2_with fail
    have c0 := HC.out
    obtain ⟨i0, i1, i2, i3, i4⟩ := cells5 HX.out
    generalize w.alloc (.cells #[.int .i64 xo, .int .i64 xa, .int .i64 xb, .int .i64 xc, .int .i64 xd] 54) = W1 at *
    clear HX HC
    go_quiet (fail)
    go_wp2_with fail
    go_ret
    exact ⟨by simp, HB.out _⟩
  · have r3 : 1 ≤ xo := by omega
    have r4 : 28 ≤ xo := by omega
    have r5 : ¬ xo ≤ 21 := by omega
    have r6 : ¬ xo ≤ 30 := by omega
    go_enter Tryd.func63, Tryd.ntmps63
    go_wp2_with fail
    have c0 := HC.out
    obtain ⟨i0, i1, i2, i3, i4⟩ := cells5 HX.out
    generalize w.alloc (.cells #[.int .i64 xo, .int .i64 xa, .int .i64 xb, .int .i64 xc, .int .i64 xd] 54) = W1 at *
    clear HX HC
    go_quiet (fail)
    go_wp2_with fail
    go_ret
    exact ⟨by simp, HB.out _⟩
  · have r3 : 1 ≤ xo := by omega
    have r4 : ¬ 28 ≤ xo := by omega
    have r5 : ¬ xo ≤ 21 := by omega
    go_enter Tryd.func63, Tryd.ntmps63
    go_wp2_with fail
    have c0 := HC.out
    obtain ⟨i0, i1, i2, i3, i4⟩ := cells5 HX.out
    generalize w.alloc (.cells #[.int .i64 xo, .int .i64 xa, .int .i64 xb, .int .i64 xc, .int .i64 xd] 54) = W1 at *
    clear HX HC
    go_quiet (fail)
    go_wp2_with fail
    go_ret
    exact ⟨by simp, HB.out _⟩
end Go.Proofs.YtelbakkgobkdaaaDoor.Vf
