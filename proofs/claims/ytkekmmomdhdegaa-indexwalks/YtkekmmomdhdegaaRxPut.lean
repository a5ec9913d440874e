import Derived.Test.YtkekmmomdhdegaaRxFind
namespace Go.Proofs.Ytkekmmomdhdegaa.Rx
open Go.RowKit Go.Proofs.Ytkekmmomdhdegaa.Ix Go.Proofs.Ytkekmmomdhdegaa.Ii

def un {β : Type} (f : Nat → β) (p : Nat) (x : β) : Nat → β := fun j => if j = p then x else f j
/-- the three rows by themselves -/
structure Rr (w : World) (q : Ro) (n most bits len : Nat) (S : Nat → Bool) (K : Nat → Nat) (V : Nat → Int) : Prop where
  blk : w.heap[q.r]? = some (.cells (rblk q n most bits len) 33 (0, 0))
  is : ∃ cs, w.heap[q.bi]? = some (.cells cs 4 (0, 0)) ∧ ∀ p, p < n → cs[p]? = some (.bool (S p))
  ks : ∃ cs, w.heap[q.bk]? = some (.cells cs 22 (0, 0)) ∧ ∀ p, p < n → cs[p]? = some (U (K p))
  vs : ∃ cs, w.heap[q.bv]? = some (.cells cs 3 (0, 0)) ∧ ∀ p, p < n → cs[p]? = some (I (V p))
def Tq (n : Nat) (t : Tb Int) (S : Nat → Bool) (K : Nat → Nat) (V : Nat → Int) : Prop := ∀ p, p < n → t p = if S p then some (K p, V p) else none
section
variable {w : World} {q : Ro} {n most bits len : Nat} {t : Tb Int} {S : Nat → Bool} {K : Nat → Nat} {V : Nat → Int}
theorem Rm.raw (h : Rm w q n most bits len t) : ∃ S K V, Rr w q n most bits len S K V ∧ Tq n t S K V := by
  obtain ⟨h1, ⟨c2, h2, k2⟩, ⟨c3, h3, k3⟩, ⟨c4, h4, k4⟩⟩ := h
  refine ⟨fun p => (t p).isSome, fun p => if hp : p < n then Classical.choose (k3 p hp) else 0, fun p => if hp : p < n then Classical.choose (k4 p hp) else 0, ⟨h1, ⟨c2, h2, k2⟩, ⟨c3, h3, fun p hp => ?_⟩, ⟨c4, h4, fun p hp => ?_⟩⟩, fun p hp => ?_⟩
  · rw [dif_pos hp]; exact (Classical.choose_spec (k3 p hp)).1
  · rw [dif_pos hp]; exact (Classical.choose_spec (k4 p hp)).1
  · dsimp only
    rw [dif_pos hp, dif_pos hp]
    have e1 := (Classical.choose_spec (k3 p hp)).2
    have e2 := (Classical.choose_spec (k4 p hp)).2
    generalize Classical.choose (k3 p hp) = kk at *
    generalize Classical.choose (k4 p hp) = vv at *
    by_cases hs : (t p).isSome = true
    · obtain ⟨e, he⟩ := Option.isSome_iff_exists.1 hs
      rw [if_pos hs, he, ← e1 e he, ← e2 e he]
    · rw [if_neg hs]
      simpa using hs
theorem Rr.rm (h : Rr w q n most bits len S K V) (ht : Tq n t S K V) : Rm w q n most bits len t := by
  obtain ⟨h1, ⟨c2, h2, k2⟩, ⟨c3, h3, k3⟩, ⟨c4, h4, k4⟩⟩ := h
  refine ⟨h1, ⟨c2, h2, fun p hp => ?_⟩, ⟨c3, h3, fun p hp => ⟨K p, k3 p hp, fun e he => ?_⟩⟩, ⟨c4, h4, fun p hp => ⟨V p, k4 p hp, fun e he => ?_⟩⟩⟩
  · rw [k2 p hp, ht p hp]; cases S p <;> rfl
  · rw [ht p hp] at he
    cases hS : S p with
    | false => rw [hS] at he; cases he
    | true => rw [hS] at he; cases he; rfl
  · rw [ht p hp] at he
    cases hS : S p with
    | false => rw [hS] at he; cases he
    | true => rw [hS] at he; cases he; rfl
theorem Rr.setL (h : Rr w q n most bits len S K V) (l : Nat) : Rr (w.setCell ⟨q.r, 5, none⟩ (I l)) q n most bits l S K V := by
  obtain ⟨h1, ⟨c2, h2, k2⟩, ⟨c3, h3, k3⟩, ⟨c4, h4, k4⟩⟩ := h
  exact ⟨by rw [set_blk h1]; rfl, ⟨c2, by rw [set_other (ne_of_type h2 h1 (by decide))]; exact h2, k2⟩, ⟨c3, by rw [set_other (ne_of_type h3 h1 (by decide))]; exact h3, k3⟩, ⟨c4, by rw [set_other (ne_of_type h4 h1 (by decide))]; exact h4, k4⟩⟩
theorem un_get {β : Type} {cs : Array Value} {f : Nat → β} {g : β → Value} {p j : Nat} {x : β} (h : cs[j]? = some (g (f j))) : (cs.setIfInBounds p (g x))[j]? = some (g (un f p x j)) := by
  rw [set_get h]
  unfold un
  by_cases e : j = p
  · subst e; rw [if_pos rfl, if_pos rfl]
  · rw [if_neg (Ne.symm e), if_neg e]
theorem Rr.setS (h : Rr w q n most bits len S K V) (p : Nat) (x : Bool) : Rr (w.setCell ⟨q.bi, p, none⟩ (.bool x)) q n most bits len (un S p x) K V := by
  obtain ⟨h1, ⟨c2, h2, k2⟩, ⟨c3, h3, k3⟩, ⟨c4, h4, k4⟩⟩ := h
  exact ⟨by rw [set_other (ne_of_type h1 h2 (by decide))]; exact h1, ⟨_, set_blk h2, fun j hj => un_get (g := Value.bool) (k2 j hj)⟩, ⟨c3, by rw [set_other (ne_of_type h3 h2 (by decide))]; exact h3, k3⟩, ⟨c4, by rw [set_other (ne_of_type h4 h2 (by decide))]; exact h4, k4⟩⟩
theorem Rr.setK (h : Rr w q n most bits len S K V) (p : Nat) (x : Nat) : Rr (w.setCell ⟨q.bk, p, none⟩ (U x)) q n most bits len S (un K p x) V := by
  obtain ⟨h1, ⟨c2, h2, k2⟩, ⟨c3, h3, k3⟩, ⟨c4, h4, k4⟩⟩ := h
  exact ⟨by rw [set_other (ne_of_type h1 h3 (by decide))]; exact h1, ⟨c2, by rw [set_other (ne_of_type h2 h3 (by decide))]; exact h2, k2⟩, ⟨_, set_blk h3, fun j hj => un_get (g := fun k : Nat => U k) (k3 j hj)⟩, ⟨c4, by rw [set_other (ne_of_type h4 h3 (by decide))]; exact h4, k4⟩⟩
theorem Rr.setV (h : Rr w q n most bits len S K V) (p : Nat) (x : Int) : Rr (w.setCell ⟨q.bv, p, none⟩ (I x)) q n most bits len S K (un V p x) := by
  obtain ⟨h1, ⟨c2, h2, k2⟩, ⟨c3, h3, k3⟩, ⟨c4, h4, k4⟩⟩ := h
  exact ⟨by rw [set_other (ne_of_type h1 h4 (by decide))]; exact h1, ⟨c2, by rw [set_other (ne_of_type h2 h4 (by decide))]; exact h2, k2⟩, ⟨c3, by rw [set_other (ne_of_type h3 h4 (by decide))]; exact h3, k3⟩, ⟨_, set_blk h4, fun j hj => un_get (g := fun v : Int => I v) (k4 j hj)⟩⟩
theorem Rr.cells (h : Rr w q n most bits len S K V) {p : Nat} (hp : p < n) : w.cell? ⟨q.bi, p, none⟩ = some (.bool (S p)) ∧ w.cell? ⟨q.bk, p, none⟩ = some (U (K p)) ∧ w.cell? ⟨q.bv, p, none⟩ = some (I (V p)) := by
  obtain ⟨h1, ⟨c2, h2, k2⟩, ⟨c3, h3, k3⟩, ⟨c4, h4, k4⟩⟩ := h
  exact ⟨by simp [World.cell?, h2, k2 p hp], by simp [World.cell?, h3, k3 p hp], by simp [World.cell?, h4, k4 p hp]⟩
theorem Rr.fr (h : Rr w q n most bits len S K V) : (∀ j, w.frozen? ⟨q.r, j, none⟩ = false) ∧ (∀ j, w.frozen? ⟨q.bi, j, none⟩ = false) ∧ (∀ j, w.frozen? ⟨q.bk, j, none⟩ = false) ∧ ∀ j, w.frozen? ⟨q.bv, j, none⟩ = false := by
  obtain ⟨h1, ⟨c2, h2, k2⟩, ⟨c3, h3, k3⟩, ⟨c4, h4, k4⟩⟩ := h
  exact ⟨fun j => by simp [World.frozen?, h1], fun j => by simp [World.frozen?, h2], fun j => by simp [World.frozen?, h3], fun j => by simp [World.frozen?, h4]⟩
theorem Rr.cellsR (h : Rr w q n most bits len S K V) : w.cell? ⟨q.r, 0, none⟩ = some (I most) ∧ w.cell? ⟨q.r, 2, none⟩ = some (.slice (some ⟨q.bi, 0, none⟩) n n) ∧ w.cell? ⟨q.r, 3, none⟩ = some (.slice (some ⟨q.bk, 0, none⟩) n n) ∧ w.cell? ⟨q.r, 4, none⟩ = some (.slice (some ⟨q.bv, 0, none⟩) n n) ∧ w.cell? ⟨q.r, 5, none⟩ = some (I len) :=
  ⟨by simp [World.cell?, h.blk], by simp [World.cell?, h.blk], by simp [World.cell?, h.blk], by simp [World.cell?, h.blk], by simp [World.cell?, h.blk]⟩
/-- a place is filled -/
theorem Tq.fill (h : Tq n t S K V) (f k : Nat) (v : Int) : Tq n (up t f (some (k, v))) (un S f true) (un K f k) (un V f v) := fun p hp => by
  unfold un up
  by_cases e : p = f
  · simp [e]
  · simp [e, h p hp]
/-- a place is emptied -/
theorem Tq.clear (h : Tq n t S K V) (f : Nat) : Tq n (up t f none) (un S f false) K V := fun p hp => by
  unfold un up
  by_cases e : p = f
  · simp [e]
  · simp [e, h p hp]
end
section
variable {w : World} {q : Ro} {n most bits len : Nat} {S : Nat → Bool} {K : Nat → Nat} {V : Nat → Int} {k f : Nat}
set_option maxHeartbeats 1600000 in
set_option maxRecDepth 100000 in
theorem rput_full (hm : Rr w q n most bits most S K V) (hF : FindIs w q k f) (hl : f < n) (hS : S f = false) (v : Int) : Calls Try.prog 34 #[.pointer (some ⟨q.r, 0, none⟩), U k, I v] w fun e w' => e = .returned (I 3) ∧ Below w.heap.size w w' := by
  have HF : Hid (FindIs w q k f) := hF
  have hl1 : ((f : Nat) : Int) < (n : Int) := by omega
  have hl0 : (0 : Int) ≤ ((f : Nat) : Int) := by omega
  obtain ⟨c0, c2, c3, c4, c5⟩ := hm.cellsR
  obtain ⟨d1, d2, d3⟩ := hm.cells hl
  rw [hS] at d1
  clear hm hF hS
  go_enter Try.func34, Try.ntmps34
  go_wp2_with fail
  refine Calls.mono HF.out ?_
  rintro e w1 ⟨rfl, rfl⟩
  go_wp2_with fail
  go_quiet (fail)
  have HB := show Hid _ from bel_drewN w1 nq
  generalize w1.drewN nq = w2 at *
  go_wp2
  go_ret
  exact ⟨rfl, HB.out⟩
set_option maxHeartbeats 1600000 in
set_option maxRecDepth 100000 in
theorem rput_there (hm : Rr w q n most bits len S K V) (hF : FindIs w q k f) (hl : f < n) (hS : S f = true) (v : Int) : Calls Try.prog 34 #[.pointer (some ⟨q.r, 0, none⟩), U k, I v] w fun e w' => e = .returned (I 0) ∧ Rr w' q n most bits len (un S f true) (un K f k) (un V f v) ∧ Fr q.foot w w' := by
  have HF : Hid (FindIs w q k f) := hF
  have hl1 : ((f : Nat) : Int) < (n : Int) := by omega
  have hl0 : (0 : Int) ≤ ((f : Nat) : Int) := by omega
  obtain ⟨c0, c2, c3, c4, c5⟩ := hm.cellsR
  obtain ⟨d1, d2, d3⟩ := hm.cells hl
  obtain ⟨f0, f1, f2, f3⟩ := hm.fr
  rw [hS] at d1
  have m1 := hm.setS f true
  obtain ⟨_, _, c3a, _, _⟩ := m1.cellsR
  obtain ⟨_, d2a, _⟩ := m1.cells hl
  obtain ⟨_, _, f2a, _⟩ := m1.fr
  have m2 := m1.setK f k
  obtain ⟨_, _, _, c4b, _⟩ := m2.cellsR
  obtain ⟨_, _, d3b⟩ := m2.cells hl
  obtain ⟨_, _, _, f3b⟩ := m2.fr
  have HM := show Hid _ from m2.setV f v
  clear hm hF hS m1 m2
  go_enter Try.func34, Try.ntmps34
  go_wp2_with fail
  refine Calls.mono HF.out ?_
  rintro e w1 ⟨rfl, rfl⟩
  go_wp2
  go_ret
  exact ⟨rfl, HM.out, ((Fr.set _ _ _ (by simp [Ro.foot])).trans (Fr.set _ _ _ (by simp [Ro.foot])) (fun _ h => Or.inl h)).trans (Fr.set _ _ _ (by simp [Ro.foot])) (fun _ h => Or.inl h)⟩
set_option maxHeartbeats 1600000 in
set_option maxRecDepth 100000 in
theorem rput_new (hm : Rr w q n most bits len S K V) (hF : FindIs w q k f) (hl : f < n) (hS : S f = false) (hc : len ≠ most) (hlen : len ≤ 4194304) (v : Int) : Calls Try.prog 34 #[.pointer (some ⟨q.r, 0, none⟩), U k, I v] w fun e w' => e = .returned (I 0) ∧ Rr w' q n most bits (len + 1) (un S f true) (un K f k) (un V f v) ∧ Fr q.foot w w' := by
  have HF : Hid (FindIs w q k f) := hF
  have hl1 : ((f : Nat) : Int) < (n : Int) := by omega
  have hl0 : (0 : Int) ≤ ((f : Nat) : Int) := by omega
  have hcc : ((len : Int) == (most : Int)) = false := by simp; omega
  have hc8 : (len : Int) ≤ 4194304 := by omega
  obtain ⟨c0, c2, c3, c4, c5⟩ := hm.cellsR
  obtain ⟨d1, d2, d3⟩ := hm.cells hl
  rw [hS] at d1
  have HM0 : Hid (Rr w q n most bits len S K V) := hm
  clear hm hF hS hc
  go_enter Try.func34, Try.ntmps34
  go_wp2_with fail
  refine Calls.mono HF.out ?_
  rintro e w1 ⟨rfl, rfl⟩
  go_wp2_with fail
  go_quiet (fail)
  have hb := bel_drewN w1 nq
  have HB := show Hid _ from hb
  have hm : Rr (w1.drewN nq) q n most bits len S K V := by
    obtain ⟨h1, ⟨x2, h2, k2⟩, ⟨x3, h3, k3⟩, ⟨x4, h4, k4⟩⟩ := HM0.out
    exact ⟨(hb.block _ (Array.getElem?_eq_some_iff.1 h1).1).trans h1, ⟨x2, (hb.block _ (Array.getElem?_eq_some_iff.1 h2).1).trans h2, k2⟩, ⟨x3, (hb.block _ (Array.getElem?_eq_some_iff.1 h3).1).trans h3, k3⟩, ⟨x4, (hb.block _ (Array.getElem?_eq_some_iff.1 h4).1).trans h4, k4⟩⟩
  clear hb c0 c2 c3 c4 c5 d1 d2 d3
  generalize w1.drewN nq = w2 at *
  obtain ⟨c0, c2, c3, c4, c5⟩ := hm.cellsR
  obtain ⟨f0, f1, f2, f3⟩ := hm.fr
  have m0 := hm.setL (len + 1)
  rw [show ((len + 1 : Nat) : Int) = (len : Int) + 1 by omega] at m0
  have HFr : Hid (Fr q.foot w1 (w2.setCell ⟨q.r, 5, none⟩ (I ((len : Int) + 1)))) := (Fr.of_below HB.out).trans (Fr.set _ _ _ (by simp [Ro.foot])) (fun _ h => Or.inl h)
  go_upto_region 6 with fail
  generalize w2.setCell ⟨q.r, 5, none⟩ (I ((len : Int) + 1)) = w3 at *
  clear c0 c2 c3 c4 c5 f0 f1 f2 f3
  obtain ⟨_, c2, _, _, _⟩ := m0.cellsR
  obtain ⟨d1, _, _⟩ := m0.cells hl
  obtain ⟨_, f1, _, _⟩ := m0.fr
  have m1 := m0.setS f true
  obtain ⟨_, _, c3a, _, _⟩ := m1.cellsR
  obtain ⟨_, d2a, _⟩ := m1.cells hl
  obtain ⟨_, _, f2a, _⟩ := m1.fr
  have m2 := m1.setK f k
  obtain ⟨_, _, _, c4b, _⟩ := m2.cellsR
  obtain ⟨_, _, d3b⟩ := m2.cells hl
  obtain ⟨_, _, _, f3b⟩ := m2.fr
  have HM := show Hid _ from m2.setV f v
  clear hm m0 m1 m2
  go_wp2
  go_ret
  exact ⟨rfl, HM.out, (((HFr.out).trans (Fr.set _ _ _ (by simp [Ro.foot])) (fun _ h => Or.inl h)).trans (Fr.set _ _ _ (by simp [Ro.foot])) (fun _ h => Or.inl h)).trans (Fr.set _ _ _ (by simp [Ro.foot])) (fun _ h => Or.inl h)⟩
end
theorem Tq.at_ {n : Nat} {t : Tb Int} {S : Nat → Bool} {K : Nat → Nat} {V : Nat → Int} (h : Tq n t S K V) {p : Nat} (hp : p < n) : S p = (t p).isSome := by
  rw [h p hp]
  cases S p <;> rfl
theorem rput_any {w : World} {q : Ro} {a : Ix Int} (hm : Rm w q a.n a.most (a.b + 1) a.count a.t) (hk : Ok a) (k : Nat) (v : Int) : Calls Try.prog 34 #[.pointer (some ⟨q.r, 0, none⟩), U k, I v] w fun e w' => e = .returned (I ((a.put k v).1 : Nat)) ∧ Rm w' q (a.put k v).2.n (a.put k v).2.most ((a.put k v).2.b + 1) (a.put k v).2.count (a.put k v).2.t ∧ Fr q.foot w w' := by
  have hF : FindIs w q k (a.find k) := rfind_any hm hk k
  have hl := hk.find_lt k
  obtain ⟨S, K, V, hr, ht⟩ := hm.raw
  have hS := ht.at_ hl
  have hc4 : a.count ≤ 4194304 := by
    have := hk.cnt
    have := hk.most
    have := Nat.pow_le_pow_right (n := 2) (by omega) hk.b
    omega
  cases hg : a.t (a.find k) with
  | some e0 =>
    have e1 : a.put k v = (0, { a with t := up a.t (a.find k) (some (k, v)) }) := by unfold Ix.put; rw [hg]
    rw [e1]
    rw [hg] at hS
    refine (rput_there hr hF hl hS v).mono ?_
    rintro e w' ⟨rfl, h1, h2⟩
    exact ⟨rfl, h1.rm (ht.fill _ _ _), h2⟩
  | none =>
    rw [hg] at hS
    by_cases hc : a.count = a.most
    · have e1 : a.put k v = (3, a) := by unfold Ix.put; rw [hg]; dsimp only; rw [if_pos hc]
      rw [e1]
      have hr' := hr
      rw [hc] at hr'
      refine (rput_full hr' hF hl hS v).mono ?_
      rintro e w' ⟨rfl, hb⟩
      exact ⟨rfl, hm.below hb, Fr.of_below hb⟩
    · have e1 : a.put k v = (0, { a with t := up a.t (a.find k) (some (k, v)), count := a.count + 1 }) := by unfold Ix.put; rw [hg]; dsimp only; rw [if_neg hc]
      rw [e1]
      refine (rput_new hr hF hl hS hc hc4 v).mono ?_
      rintro e w' ⟨rfl, h1, h2⟩
      exact ⟨rfl, h1.rm (ht.fill _ _ _), h2⟩
end Go.Proofs.Ytkekmmomdhdegaa.Rx
