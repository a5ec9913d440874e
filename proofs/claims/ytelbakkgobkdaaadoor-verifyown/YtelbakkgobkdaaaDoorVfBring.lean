import Derived.Test.YtelbakkgobkdaaaDoorVfWk
namespace Go.Proofs.YtelbakkgobkdaaaDoor.Vf
open Go.RowKit Go.Proofs.YtelbakkgobkdaaaDoor.Nm

theorem gh_at {p : Pg} {n : Int} (h0 : 0 ≤ n) (h1 : n < (p.gh.length : Int)) : ∃ k : Nat, n = (k : Int) ∧ ∃ hk : k < p.gh.length, ghA p n = p.gh[k] := by
  refine ⟨n.toNat, by omega, by omega, ?_⟩
  unfold ghA
  rw [List.getD_eq_getElem?_getD, List.getElem?_eq_getElem (by omega)]
  rfl
set_option maxHeartbeats 6400000 in
set_option maxRecDepth 100000 in
/-- mayBring -/
theorem bring_any {w : World} {wb gb : Nat} {v : PV} {p : Pg} {eo : Option Addr} {ec gc : Nat} {g : Nat → Option Sd} (h : Wk w wb gb v p eo ec gc g) (x : Ins) (ha : x.op = 32 ∨ x.op = 40 ∨ x.op = 41 ∨ x.op = 38 ∨ x.op = 39 → 0 ≤ x.a ∧ x.a < (p.gh.length : Int)) (hc : x.op = 38 ∨ x.op = 39 → 0 ≤ x.c ∧ x.c < (p.gh.length : Int)) :
    Calls Tryd.prog 66 #[.pointer (some ⟨wb, 0, none⟩), .agg #[.int .i64 x.op, .int .i64 x.a, .int .i64 x.b, .int .i64 x.c, .int .i64 x.d]] w fun e w' => e = .returned (.bool (bringB p x)) ∧ Below w.heap.size w w' := by
  obtain ⟨xo, xa, xb, xc, xd⟩ := x
  dsimp only at ha hc ⊢
  obtain ⟨qo, qc, vo, vc, to, tc, oo, oc, co, cc⟩ := v
  obtain ⟨c0, c1, c2, c3, c4, c5, c6, c7⟩ := cells8 h.hw
  have hwb : ¬ wb = w.heap.size := by have := blk_lt h.hw; omega
  have n3 : (p.gh.length : Int) ≤ 1000000000000000 := by have := h.pg.lgh; omega
  dsimp only at c0
  clear c1 c2 c3 c4 c5 c6 c7
  have hbA : Below w.heap.size w (w.alloc (.cells #[.int .i64 xo, .int .i64 xa, .int .i64 xb, .int .i64 xc, .int .i64 xd] 54)) := (Below.refl _ w).alloc (Nat.le_refl _) _
  have HB : Hid (∀ n, Below w.heap.size w ((w.alloc (.cells #[.int .i64 xo, .int .i64 xa, .int .i64 xb, .int .i64 xc, .int .i64 xd] 54)).drewN n)) := fun n => hbA.trans ((drN _ n).mono hbA.size)
  have HB0 : Hid (Below w.heap.size w (w.alloc (.cells #[.int .i64 xo, .int .i64 xa, .int .i64 xb, .int .i64 xc, .int .i64 xd] 54))) := hbA
  have HX : Hid ((w.alloc (.cells #[.int .i64 xo, .int .i64 xa, .int .i64 xb, .int .i64 xc, .int .i64 xd] 54)).heap[w.heap.size]? = some (.cells #[.int .i64 xo, .int .i64 xa, .int .i64 xb, .int .i64 xc, .int .i64 xd] 54 (0, 0))) := heap_alloc_new _ _
  have HC : Hid ((w.alloc (.cells #[.int .i64 xo, .int .i64 xa, .int .i64 xb, .int .i64 xc, .int .i64 xd] 54)).cell? ⟨wb, 0, none⟩ = some (.slice qo p.gh.length qc)) := (hbA.cell (p := ⟨wb, 0, none⟩) (blk_lt h.hw)).trans c0
  clear hbA c0
  unfold bringB
  dsimp only
  by_cases o32 : xo = 32
  · subst o32
    obtain ⟨h0, h1⟩ := ha (by simp)
    obtain ⟨ka, rfl, hka, ga⟩ := gh_at h0 h1
    obtain ⟨g1, f1, hqo, hg, d0⟩ := rd_bool (h.pg.below HB0.out).gh hka
    obtain rfl : qo = some ⟨g1, f1, none⟩ := hqo
    have hk1 : (ka : Int) < (p.gh.length : Int) := by omega
    simp only [ga]
    generalize p.gh[ka] = ba at *
    clear ha hc h hg h0 h1 hka ga
    go_enter Tryd.func66, Tryd.ntmps66
    go_wp2_with fail
    have c0 := HC.out
    obtain ⟨i0, i1, i2, i3, i4⟩ := cells5 HX.out
    generalize w.alloc (.cells #[.int .i64 32, .int .i64 (ka : Int), .int .i64 xb, .int .i64 xc, .int .i64 xd] 54) = W1 at *
    clear HX HC
    go_quiet (fail)
    go_wp2_with fail
    go_ret
    exact ⟨rfl, HB.out _⟩
  by_cases o40 : xo = 40
  · subst o40
    obtain ⟨h0, h1⟩ := ha (by simp)
    obtain ⟨ka, rfl, hka, ga⟩ := gh_at h0 h1
    obtain ⟨g1, f1, hqo, hg, d0⟩ := rd_bool (h.pg.below HB0.out).gh hka
    obtain rfl : qo = some ⟨g1, f1, none⟩ := hqo
    have hk1 : (ka : Int) < (p.gh.length : Int) := by omega
    simp only [ga]
    generalize p.gh[ka] = ba at *
    clear ha hc h hg h0 h1 hka ga
    go_enter Tryd.func66, Tryd.ntmps66
    go_wp2_with fail
    have c0 := HC.out
    obtain ⟨i0, i1, i2, i3, i4⟩ := cells5 HX.out
    generalize w.alloc (.cells #[.int .i64 40, .int .i64 (ka : Int), .int .i64 xb, .int .i64 xc, .int .i64 xd] 54) = W1 at *
    clear HX HC
    go_quiet (fail)
    go_wp2_with fail
    go_ret
    exact ⟨rfl, HB.out _⟩
  by_cases o41 : xo = 41
  · subst o41
    obtain ⟨h0, h1⟩ := ha (by simp)
    obtain ⟨ka, rfl, hka, ga⟩ := gh_at h0 h1
    obtain ⟨g1, f1, hqo, hg, d0⟩ := rd_bool (h.pg.below HB0.out).gh hka
    obtain rfl : qo = some ⟨g1, f1, none⟩ := hqo
    have hk1 : (ka : Int) < (p.gh.length : Int) := by omega
    simp only [ga]
    generalize p.gh[ka] = ba at *
    clear ha hc h hg h0 h1 hka ga
    go_enter Tryd.func66, Tryd.ntmps66
    go_wp2_with fail
    have c0 := HC.out
    obtain ⟨i0, i1, i2, i3, i4⟩ := cells5 HX.out
    generalize w.alloc (.cells #[.int .i64 41, .int .i64 (ka : Int), .int .i64 xb, .int .i64 xc, .int .i64 xd] 54) = W1 at *
    clear HX HC
    go_quiet (fail)
    go_wp2_with fail
    go_ret
    exact ⟨rfl, HB.out _⟩
  by_cases o38 : xo = 38
  · subst o38
    obtain ⟨h0, h1⟩ := ha (by simp)
    obtain ⟨ka, rfl, hka, ga⟩ := gh_at h0 h1
    obtain ⟨h2, h3⟩ := hc (by simp)
    obtain ⟨kc, rfl, hkc, gc1⟩ := gh_at h2 h3
    obtain ⟨g1, f1, hqo, hg, d0⟩ := rd_bool (h.pg.below HB0.out).gh hka
    obtain ⟨g2, f2, hq2, hg2, d2⟩ := rd_bool (h.pg.below HB0.out).gh hkc
    obtain rfl : qo = some ⟨g1, f1, none⟩ := hqo
    obtain ⟨rfl, rfl⟩ : g2 = g1 ∧ f2 = f1 := by cases hq2; exact ⟨rfl, rfl⟩
    have hk1 : (ka : Int) < (p.gh.length : Int) := by omega
    have hk3 : (kc : Int) < (p.gh.length : Int) := by omega
    simp only [ga, gc1]
    generalize p.gh[ka] = ba at *
    generalize p.gh[kc] = bc at *
    clear ha hc h hg h0 h1 hka ga h2 h3 hkc gc1 hq2 hg2
    go_enter Tryd.func66, Tryd.ntmps66
    go_wp2_with fail
    have c0 := HC.out
    obtain ⟨i0, i1, i2, i3, i4⟩ := cells5 HX.out
    generalize w.alloc (.cells #[.int .i64 38, .int .i64 (ka : Int), .int .i64 xb, .int .i64 (kc : Int), .int .i64 xd] 54) = W1 at *
    clear HX HC
    go_quiet (fail)
    go_wp2_with fail
    go_ret
    exact ⟨rfl, HB.out _⟩
  by_cases o39 : xo = 39
  · subst o39
    obtain ⟨h0, h1⟩ := ha (by simp)
    obtain ⟨ka, rfl, hka, ga⟩ := gh_at h0 h1
    obtain ⟨h2, h3⟩ := hc (by simp)
    obtain ⟨kc, rfl, hkc, gc1⟩ := gh_at h2 h3
    obtain ⟨g1, f1, hqo, hg, d0⟩ := rd_bool (h.pg.below HB0.out).gh hka
    obtain ⟨g2, f2, hq2, hg2, d2⟩ := rd_bool (h.pg.below HB0.out).gh hkc
    obtain rfl : qo = some ⟨g1, f1, none⟩ := hqo
    obtain ⟨rfl, rfl⟩ : g2 = g1 ∧ f2 = f1 := by cases hq2; exact ⟨rfl, rfl⟩
    have hk1 : (ka : Int) < (p.gh.length : Int) := by omega
    have hk3 : (kc : Int) < (p.gh.length : Int) := by omega
    simp only [ga, gc1]
    generalize p.gh[ka] = ba at *
    generalize p.gh[kc] = bc at *
    clear ha hc h hg h0 h1 hka ga h2 h3 hkc gc1 hq2 hg2
    cases ba
    · go_enter Tryd.func66, Tryd.ntmps66
      go_wp2_with fail
      have c0 := HC.out
      obtain ⟨i0, i1, i2, i3, i4⟩ := cells5 HX.out
      generalize w.alloc (.cells #[.int .i64 39, .int .i64 (ka : Int), .int .i64 xb, .int .i64 (kc : Int), .int .i64 xd] 54) = W1 at *
      clear HX HC
      go_quiet (fail)
      go_wp2_with fail
      go_ret
      exact ⟨rfl, HB.out _⟩
    · go_enter Tryd.func66, Tryd.ntmps66
      go_wp2_with fail
      have c0 := HC.out
      obtain ⟨i0, i1, i2, i3, i4⟩ := cells5 HX.out
      generalize w.alloc (.cells #[.int .i64 39, .int .i64 (ka : Int), .int .i64 xb, .int .i64 (kc : Int), .int .i64 xd] 54) = W1 at *
      clear HX HC
      go_quiet (fail)
      go_wp2_with fail
      go_ret
      exact ⟨rfl, HB.out _⟩
  simp only [o32, o40, o41, o38, o39, decide_false, Bool.or_self, if_false]
  clear ha hc h
  go_enter Tryd.func66, Tryd.ntmps66
  go_wp2_with fail
  go_ret
  exact ⟨by simp, HB0.out⟩
end Go.Proofs.YtelbakkgobkdaaaDoor.Vf
