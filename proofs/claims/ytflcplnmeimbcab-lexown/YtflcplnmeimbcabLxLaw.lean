import Derived.Test.YtflcplnmeimbcabLxTok
namespace Go.Proofs.Ytflcplnmeimbcab.Lx
open Go.RowKit Go.Proofs.Ytflcplnmeimbcab.Sp

/-- a slice of tokens, to be read -/
def IsToks (w : World) (ao : Option Addr) (ts : List Tok) : Prop := ∀ i x, ts[i]? = some x → ∃ g o, ao = some ⟨g, o, none⟩ ∧ g < w.heap.size ∧
  w.cell? ⟨g, o + i * 4, none⟩ = some (.int .i64 x.kind) ∧ w.cell? ⟨g, o + i * 4 + 1, none⟩ = some (.int .i64 x.at_) ∧ w.cell? ⟨g, o + i * 4 + 2, none⟩ = some (.int .i64 x.stop) ∧ w.cell? ⟨g, o + i * 4 + 3, none⟩ = some (.int .i64 x.n)
theorem IsToks.below {w w' : World} {ao : Option Addr} {ts : List Tok} (h : IsToks w ao ts) (hb : Below w.heap.size w w') : IsToks w' ao ts := by
  intro i x hx
  obtain ⟨g, o, e, hg, h1, h2, h3, h4⟩ := h i x hx
  have hc : ∀ j, w'.cell? ⟨g, j, none⟩ = w.cell? ⟨g, j, none⟩ := fun j => hb.cell (p := ⟨g, j, none⟩) hg
  exact ⟨g, o, e, Nat.lt_of_lt_of_le hg hb.size, (hc _).trans h1, (hc _).trans h2, (hc _).trans h3, (hc _).trans h4⟩
theorem flat_at (ts : List Tok) (i : Nat) (x : Tok) (h : ts[i]? = some x) (j : Nat) (hj : j < 4) : (ts.flatMap tc)[i * 4 + j]? = (tc x)[j]? := by
  induction ts generalizing i with
  | nil => simp at h
  | cons y r ih =>
    rw [List.flatMap_cons]
    have hl : (tc y).length = 4 := rfl
    cases i with
    | zero =>
      simp at h
      subst h
      rw [List.getElem?_append_left (by omega)]
      simp
    | succ i =>
      rw [List.getElem?_append_right (by omega), show (i + 1) * 4 + j - (tc y).length = i * 4 + j by omega]
      exact ih i (by simpa using h)
theorem TokRow.toks {w : World} {base : Nat} {v : Value} {ts : List Tok} (h : TokRow w base v ts) : ∃ ao cap, v = .slice ao ts.length cap ∧ IsToks w ao ts ∧ ts.length ≤ cap := by
  rcases h.2 with ⟨rfl, h0⟩ | ⟨g, cap, cur, rfl, hb, hg, h3, h4, h5, h6⟩
  · refine ⟨none, 0, by rw [h0], fun i x hx => ?_, by omega⟩
    have := (List.getElem?_eq_some_iff.1 hx).1
    omega
  · refine ⟨some ⟨g, 0, none⟩, cap, rfl, fun i x hx => ?_, h3⟩
    have hlt := (List.getElem?_eq_some_iff.1 hx).1
    have hc : ∀ j, j < 4 → w.cell? ⟨g, i * 4 + j, none⟩ = (tc x)[j]? := fun j hj => by
      have e := flat_at ts i x hx j hj
      rw [← h6] at e
      have hj4 : j < (tc x).length := hj
      rw [List.getElem?_eq_getElem hj4] at e ⊢
      have := Lib.cells_of_row hg (ts.length * 4) (i * 4 + j) _ e
      rw [Lib.addr_add] at this
      simpa using this
    refine ⟨g, 0, rfl, (Array.getElem?_eq_some_iff.1 hg).1, ?_, ?_, ?_, ?_⟩
    · simpa [tc] using hc 0 (by omega)
    · simpa [Nat.add_assoc, tc] using hc 1 (by omega)
    · simpa [Nat.add_assoc, tc] using hc 2 (by omega)
    · simpa [Nat.add_assoc, tc] using hc 3 (by omega)

set_option maxHeartbeats 1600000 in
theorem same_any (ao bo : Option Addr) (ts : List Tok) (ca cb : Nat) (w : World) (h1 : IsToks w ao ts) (h2 : IsToks w bo ts) (hn : ts.length ≤ 4611686018427387904) :
    Calls Try.prog 7 #[.slice ao ts.length ca, .slice bo ts.length cb] w fun e w' => e = .returned (.bool true) ∧ Below w.heap.size w w' := by
  have H1 : Hid (IsToks w ao ts) := h1
  have H2 : Hid (IsToks w bo ts) := h2
  clear h1 h2
  have hne : ((ts.length : Int) != (ts.length : Int)) = false := by simp
  go_enter Try.func7, Try.ntmps7
  go_wp2
  go_loopw [5] (fun i wr => ∃ k : Nat, k ≤ ts.length ∧ i = .int .i64 k ∧ Below w.heap.size w wr) (fun i _ => ts.length - (intOf i).toNat)
  case atStart => exact ⟨0, Nat.zero_le _, rfl, Below.refl _ _⟩
  case round =>
    obtain ⟨k, hk, rfl, hB⟩ := hrel
    have HB : Hid (Below w.heap.size w wr) := hB
    clear hB
    by_cases hlt : k < ts.length
    · obtain ⟨x, hx⟩ : ∃ x, ts[k]? = some x := ⟨_, List.getElem?_eq_getElem hlt⟩
      obtain ⟨g1, o1, rfl, hg1, a0, a1, a2, a3⟩ := (H1.out.below HB.out) k x hx
      obtain ⟨g2, o2, rfl, hg2, b0, b1, b2, b3⟩ := (H2.out.below HB.out) k x hx
      obtain ⟨kd, p, e, m⟩ := x
      clear hx
      simp only at a0 a1 a2 a3 b0 b1 b2 b3
      go_wp2_with fail
      go_quiet (fail)
      go_wp2
      go_roundw
      case rel => exact ⟨k + 1, by omega, by go_num, HB.out.trans ((below_drewN _ _).mono HB.out.size)⟩
      case measure => simp [intOf]; omega
    · have hd : decide ((k : Int) < (ts.length : Int)) = false := by simp; omega
      go_wp2
      go_ret
      exact ⟨rfl, HB.out⟩

/-- round -/
def rnd (a : Int) (n : Nat) : Nat := if a.tmod n < 0 then (a.tmod n + n).toNat else (a.tmod n).toNat
theorem rnd_lt (a : Int) (n : Nat) (h : 0 < n) : rnd a n < n := by
  have t1 := Int.tmod_lt_of_pos a (show (0 : Int) < n by omega)
  have t2 : -(n : Int) < a.tmod n := by
    have := Int.lt_tmod_of_pos a (show (0 : Int) < n by omega)
    omega
  unfold rnd
  split <;> omega
theorem round_any (a : Int) (n : Nat) (N : Int) (w : World) (hN : N = (n : Int)) (h1 : 1 ≤ n) (h2 : n ≤ 4611686018427387904) :
    Calls Try.prog 9 #[.int .i64 a, .int .i64 N] w fun e w' => e = .returned (.int .i64 (rnd a n : Nat)) ∧ w' = w := by
  subst hN
  have t1 := Int.tmod_lt_of_pos a (show (0 : Int) < n by omega)
  have t2 : -(n : Int) < a.tmod n := by
    have := Int.lt_tmod_of_pos a (show (0 : Int) < n by omega)
    omega
  have hne : ¬ (n : Int) = 0 := by omega
  have hw : IntKind.i64.wrap (a.tmod n) = a.tmod n := by rw [IntKind.wrap_i64]; omega
  by_cases h0 : a.tmod n < 0
  · have HR : Hid (rnd a n = (a.tmod n + n).toNat) := by show _ = _; unfold rnd; rw [if_pos h0]
    go_enter Try.func9, Try.ntmps9
    go_wp2
    go_ret
    exact ⟨ret_i (by rw [HR.out]; omega), rfl⟩
  · have HR : Hid (rnd a n = (a.tmod n).toNat) := by show _ = _; unfold rnd; rw [if_neg h0]
    go_enter Try.func9, Try.ntmps9
    go_wp2
    go_ret
    exact ⟨ret_i (by rw [HR.out]; omega), rfl⟩
end Go.Proofs.Ytflcplnmeimbcab.Lx
