import Derived.Test.YtkekmmomdhdegaaRxNew
namespace Go.Proofs.Ytkekmmomdhdegaa.Rx
open Go.RowKit Go.Proofs.Ytkekmmomdhdegaa.Ix Go.Proofs.Ytkekmmomdhdegaa.Ii

theorem rem_nx {n p : Nat} (hp : p < n) : ((p : Int) + 1).tmod (n : Int) = (nx n p : Nat) := by
  rw [Int.tmod_eq_emod_of_nonneg (by omega)]
  exact nx_mod hp
section
variable {w : World} {q : Ro} {n most bits len : Nat} {t : Tb Int}
theorem Rm.isAt (h : Rm w q n most bits len t) {p : Nat} (hp : p < n) : w.cell? ⟨q.bi, p, none⟩ = some (.bool (t p).isSome) ∧ ∀ j, w.frozen? ⟨q.bi, j, none⟩ = false := by
  obtain ⟨cs, h1, h2⟩ := h.is
  exact ⟨by simp [World.cell?, h1, h2 p hp], fun j => by simp [World.frozen?, h1]⟩
theorem Rm.keyAt (h : Rm w q n most bits len t) {p : Nat} (hp : p < n) : ∃ k, w.cell? ⟨q.bk, p, none⟩ = some (U k) ∧ (∀ e, t p = some e → e.1 = k) ∧ ∀ j, w.frozen? ⟨q.bk, j, none⟩ = false := by
  obtain ⟨cs, h1, h2⟩ := h.ks
  obtain ⟨k, h3, h4⟩ := h2 p hp
  exact ⟨k, by simp [World.cell?, h1, h3], h4, fun j => by simp [World.frozen?, h1]⟩
theorem Rm.valAt (h : Rm w q n most bits len t) {p : Nat} (hp : p < n) : ∃ v, w.cell? ⟨q.bv, p, none⟩ = some (I v) ∧ (∀ e, t p = some e → e.2 = v) ∧ ∀ j, w.frozen? ⟨q.bv, j, none⟩ = false := by
  obtain ⟨cs, h1, h2⟩ := h.vs
  obtain ⟨v, h3, h4⟩ := h2 p hp
  exact ⟨v, by simp [World.cell?, h1, h3], h4, fun j => by simp [World.frozen?, h1]⟩
end
set_option maxHeartbeats 1600000 in
set_option maxRecDepth 100000 in
theorem rfind_any {w : World} {q : Ro} {a : Ix Int} {len : Nat} (hm : Rm w q a.n a.most (a.b + 1) len a.t) (hk : Ok a) (k : Nat) : Calls Try.prog 55 #[.pointer (some ⟨q.r, 0, none⟩), U k] w fun e w' => e = .returned (I (a.find k : Nat)) ∧ w' = w := by
  have hn := Ix.n_le hk.b
  have hH := rhome_any hm hk.b k
  have HC : Hid (∀ x, x < a.n → w.cell? ⟨q.bi, x, none⟩ = some (.bool (a.t x).isSome) ∧ ∃ k, w.cell? ⟨q.bk, x, none⟩ = some (U k) ∧ ∀ e, a.t x = some e → e.1 = k) := fun x hx => by
    obtain ⟨k, h1, h2, _⟩ := hm.keyAt hx
    exact ⟨(hm.isAt hx).1, k, h1, h2⟩
  obtain ⟨_, _, c2, c3, _⟩ := hm.cellsR
  obtain ⟨h, F, eh, hh, hF, ef, w1, w2⟩ := find_way hk k
  rw [eh] at hH
  rw [ef]
  clear hm hk eh ef
  obtain ⟨b, most, count, t⟩ := a
  generalize Ix.n ⟨b, most, count, t⟩ = n at *
  dsimp only at *
  have HH := show Hid _ from hH
  have W1 := show Hid _ from w1
  have W2 := show Hid _ from w2
  have hF8 : (F : Int) ≤ 8388608 := by omega
  have hn0 : ((n : Int) == 0) = false := by simp; omega
  have hn8 : (n : Int) ≤ 8388608 := by omega
  have hn1 : (n : Int) ≠ 0 := by omega
  clear hH w1 w2
  go_enter Try.func55, Try.ntmps55
  go_wp2_with fail
  refine Calls.mono HH.out ?_
  rintro e w1 ⟨rfl, rfl⟩
  go_wp2_with fail
  go_loopg [5] F (fun r vi wr => ∃ i : Nat, i + r = F ∧ vi = I (pl n h i : Nat) ∧ wr = w1)
  case atStart => exact ⟨0, by omega, by rw [pl_zero hh], rfl⟩
  case round =>
    obtain ⟨i, hi, rfl, rfl⟩ := hrel
    have hin : i < n := by omega
    have hpl := pl_lt hh hin
    have hpl1 : ((pl n h i : Nat) : Int) < (n : Int) := by omega
    have hpl0 : (0 : Int) ≤ ((pl n h i : Nat) : Int) := by omega
    obtain ⟨d1, k', d2, d3⟩ := HC.out _ hpl
    by_cases hlt : i < F
    · obtain ⟨e, he, hne⟩ := W1.out i hlt
      have hek := d3 e he
      have hne : ((k' : Int) != (k : Int)) = true := by simp; omega
      rw [he] at d1
      have hrm := rem_nx hpl
      rw [nx_pl hh (by omega)] at hrm
      have hpl' := pl_lt hh (i := i + 1) (by omega)
      have hw : IntKind.i64.wrap ((((pl n h i : Nat) : Int) + 1).tmod (n : Int)) = ((pl n h (i + 1) : Nat) : Int) := by rw [hrm, IntKind.wrap_i64]; omega
      clear he d3 hek
      generalize hp1 : pl n h (i + 1) = p1 at *
      have HP1 : Hid (pl n h (i + 1) = p1) := hp1
      clear hp1
      generalize pl n h i = p0 at *
      go_wp2
      go_roundg (gk - 1)
      case measure => omega
      case rel => exact ⟨i + 1, by omega, by rw [HP1.out], rfl⟩
    · have : i = F := by omega
      subst this
      rcases W2.out with he | ⟨e, he, hek⟩
      · rw [he] at d1
        clear he d3
        go_wp2
        go_ret
        exact ⟨rfl, rfl⟩
      · have hek2 := d3 e he
        have hne : ((k' : Int) != (k : Int)) = false := by simp; omega
        rw [he] at d1
        clear he d3
        go_wp2
        go_ret
        exact ⟨rfl, rfl⟩
section
variable {w : World} {q : Ro} {n most bits len : Nat} {t : Tb Int} {k f : Nat}
abbrev FindIs (w : World) (q : Ro) (k f : Nat) : Prop := Calls Try.prog 55 #[.pointer (some ⟨q.r, 0, none⟩), U k] w fun e w' => e = .returned (I (f : Nat)) ∧ w' = w
set_option maxHeartbeats 1600000 in
set_option maxRecDepth 100000 in
theorem rget_none (hm : Rm w q n most bits len t) (hF : FindIs w q k f) (hl : f < n) (he : t f = none) : Calls Try.prog 35 #[.pointer (some ⟨q.r, 0, none⟩), U k] w fun e w' => e = .returned (.tuple #[I 0, .bool false]) ∧ w' = w := by
  have HF : Hid (FindIs w q k f) := hF
  have hl1 : ((f : Nat) : Int) < (n : Int) := by omega
  have hl0 : (0 : Int) ≤ ((f : Nat) : Int) := by omega
  obtain ⟨_, _, c2, _, c4, _⟩ := hm.cellsR
  obtain ⟨d1, _⟩ := hm.isAt hl
  rw [he, Option.isSome_none] at d1
  clear hm hF he
  go_enter Try.func35, Try.ntmps35
  go_wp2_with fail
  refine Calls.mono HF.out ?_
  rintro e w1 ⟨rfl, rfl⟩
  go_wp2
  go_ret2
  exact ⟨rfl, rfl⟩
set_option maxHeartbeats 1600000 in
set_option maxRecDepth 100000 in
theorem rget_some (hm : Rm w q n most bits len t) (hF : FindIs w q k f) (hl : f < n) {e : Nat × Int} (he : t f = some e) : Calls Try.prog 35 #[.pointer (some ⟨q.r, 0, none⟩), U k] w fun r w' => r = .returned (.tuple #[I e.2, .bool true]) ∧ w' = w := by
  have HF : Hid (FindIs w q k f) := hF
  have hl1 : ((f : Nat) : Int) < (n : Int) := by omega
  have hl0 : (0 : Int) ≤ ((f : Nat) : Int) := by omega
  obtain ⟨_, _, c2, _, c4, _⟩ := hm.cellsR
  obtain ⟨d1, _⟩ := hm.isAt hl
  obtain ⟨v, d2, d3, _⟩ := hm.valAt hl
  rw [he, Option.isSome_some] at d1
  rw [← d3 e he] at d2
  clear hm hF he d3
  go_enter Try.func35, Try.ntmps35
  go_wp2_with fail
  refine Calls.mono HF.out ?_
  rintro e w1 ⟨rfl, rfl⟩
  go_wp2
  go_ret2
  exact ⟨rfl, rfl⟩
set_option maxHeartbeats 1600000 in
set_option maxRecDepth 100000 in
theorem rslot_none (hm : Rm w q n most bits len t) (hF : FindIs w q k f) (hl : f < n) (he : t f = none) : Calls Try.prog 37 #[.pointer (some ⟨q.r, 0, none⟩), U k] w fun e w' => e = .returned (.tuple #[I 0, .bool false]) ∧ w' = w := by
  have HF : Hid (FindIs w q k f) := hF
  have hl1 : ((f : Nat) : Int) < (n : Int) := by omega
  have hl0 : (0 : Int) ≤ ((f : Nat) : Int) := by omega
  obtain ⟨_, _, c2, _, c4, _⟩ := hm.cellsR
  obtain ⟨d1, _⟩ := hm.isAt hl
  rw [he, Option.isSome_none] at d1
  clear hm hF he
  go_enter Try.func37, Try.ntmps37
  go_wp2_with fail
  refine Calls.mono HF.out ?_
  rintro e w1 ⟨rfl, rfl⟩
  go_wp2
  go_ret2
  exact ⟨rfl, rfl⟩
set_option maxHeartbeats 1600000 in
set_option maxRecDepth 100000 in
theorem rslot_some (hm : Rm w q n most bits len t) (hF : FindIs w q k f) (hl : f < n) {e : Nat × Int} (he : t f = some e) : Calls Try.prog 37 #[.pointer (some ⟨q.r, 0, none⟩), U k] w fun r w' => r = .returned (.tuple #[I f, .bool true]) ∧ w' = w := by
  have HF : Hid (FindIs w q k f) := hF
  have hl1 : ((f : Nat) : Int) < (n : Int) := by omega
  have hl0 : (0 : Int) ≤ ((f : Nat) : Int) := by omega
  obtain ⟨_, _, c2, _, c4, _⟩ := hm.cellsR
  obtain ⟨d1, _⟩ := hm.isAt hl
  rw [he, Option.isSome_some] at d1
  clear hm hF he
  go_enter Try.func37, Try.ntmps37
  go_wp2_with fail
  refine Calls.mono HF.out ?_
  rintro e w1 ⟨rfl, rfl⟩
  go_wp2
  go_ret2
  exact ⟨rfl, rfl⟩
end
theorem rget_any {w : World} {q : Ro} {a : Ix Int} (hm : Rm w q a.n a.most (a.b + 1) a.count a.t) (hk : Ok a) (k : Nat) : Calls Try.prog 35 #[.pointer (some ⟨q.r, 0, none⟩), U k] w fun e w' => e = .returned (.tuple #[((a.get k).map ev).getD zv, .bool (a.get k).isSome]) ∧ w' = w := by
  have hF : FindIs w q k (a.find k) := rfind_any hm hk k
  unfold Ix.get
  cases he : a.t (a.find k) with
  | none => exact rget_none hm hF (hk.find_lt k) he
  | some e => exact rget_some hm hF (hk.find_lt k) he
theorem rslot_any {w : World} {q : Ro} {a : Ix Int} (hm : Rm w q a.n a.most (a.b + 1) a.count a.t) (hk : Ok a) (k : Nat) : Calls Try.prog 37 #[.pointer (some ⟨q.r, 0, none⟩), U k] w fun e w' => e = .returned (.tuple #[I (if (a.get k).isSome then a.find k else 0 : Nat), .bool (a.get k).isSome]) ∧ w' = w := by
  have hF : FindIs w q k (a.find k) := rfind_any hm hk k
  unfold Ix.get
  cases he : a.t (a.find k) with
  | none =>
    simp only [Option.map_none, Option.isSome_none, Bool.false_eq_true, if_false]
    exact rslot_none hm hF (hk.find_lt k) he
  | some e =>
    simp only [Option.map_some, Option.isSome_some, if_true]
    exact rslot_some hm hF (hk.find_lt k) he
end Go.Proofs.Ytkekmmomdhdegaa.Rx
