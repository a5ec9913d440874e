import Derived.Test.YtkdepeadledpnaaGrParse
import Derived.Test.YtkdepeadledpnaaGrLoose
namespace Go.Proofs.Ytkdepeadledpnaa.Gr
open Go.RowKit Go.Proofs.Ytkdepeadledpnaa.Sp Go.Proofs.Ytkdepeadledpnaa.Lx Go.Maps

/-- slices of rows, of numbers, to be read -/
def IsRows (w : World) (ao : Option Addr) (l : List Rw) : Prop := ∀ (i : Nat) (x : Rw), l[i]? = some x → ∃ g o, ao = some ⟨g, o, none⟩ ∧ g < w.heap.size ∧
  w.cell? ⟨g, o + i * 5, none⟩ = some (.int .i64 x.kind) ∧ w.cell? ⟨g, o + i * 5 + 1, none⟩ = some (.string x.name) ∧ w.cell? ⟨g, o + i * 5 + 2, none⟩ = some (.int .i64 x.stop) ∧ w.cell? ⟨g, o + i * 5 + 3, none⟩ = some (.int .i64 x.n) ∧ w.cell? ⟨g, o + i * 5 + 4, none⟩ = some (.int .i64 x.kids)
def IsInts (w : World) (ao : Option Addr) (l : List Nat) : Prop := ∀ (i : Nat) (x : Nat), l[i]? = some x → ∃ g o, ao = some ⟨g, o, none⟩ ∧ g < w.heap.size ∧ w.cell? ⟨g, o + i, none⟩ = some (.int .i64 x)
theorem IsRows.below {w w' : World} {ao : Option Addr} {l : List Rw} (h : IsRows w ao l) (hb : Below w.heap.size w w') : IsRows w' ao l := by
  intro i x hx
  obtain ⟨g, o, e, hg, h1, h2, h3, h4, h5⟩ := h i x hx
  have hc : ∀ j, w'.cell? ⟨g, j, none⟩ = w.cell? ⟨g, j, none⟩ := fun j => hb.cell (p := ⟨g, j, none⟩) hg
  exact ⟨g, o, e, Nat.lt_of_lt_of_le hg hb.size, (hc _).trans h1, (hc _).trans h2, (hc _).trans h3, (hc _).trans h4, (hc _).trans h5⟩
theorem IsInts.below {w w' : World} {ao : Option Addr} {l : List Nat} (h : IsInts w ao l) (hb : Below w.heap.size w w') : IsInts w' ao l := by
  intro i x hx
  obtain ⟨g, o, e, hg, h1⟩ := h i x hx
  exact ⟨g, o, e, Nat.lt_of_lt_of_le hg hb.size, (hb.cell (p := ⟨g, o + i, none⟩) hg).trans h1⟩
theorem rows_of_block {w : World} {g : Nat} {T : TypeId} {f : Nat × Nat} {l : List Rw} {R : List Value} (h : w.heap[g]? = some (.cells (l.flatMap rc ++ R).toArray T f)) : IsRows w (some ⟨g, 0, none⟩) l := by
  intro i x hx
  have hc : ∀ j, j < 5 → w.cell? ⟨g, i * 5 + j, none⟩ = (rc x)[j]? := fun j hj => row_at h hx hj
  refine ⟨g, 0, rfl, (Array.getElem?_eq_some_iff.1 h).1, ?_, ?_, ?_, ?_, ?_⟩
  · simpa [rc] using hc 0 (by omega)
  · simpa [rc] using hc 1 (by omega)
  · simpa [rc] using hc 2 (by omega)
  · simpa [rc] using hc 3 (by omega)
  · simpa [rc] using hc 4 (by omega)
theorem ints_of_block {w : World} {g : Nat} {T : TypeId} {f : Nat × Nat} {l : List Nat} {R : List Value} (h : w.heap[g]? = some (.cells (l.map nc ++ R).toArray T f)) : IsInts w (some ⟨g, 0, none⟩) l := by
  intro i x hx
  exact ⟨g, 0, rfl, (Array.getElem?_eq_some_iff.1 h).1, by rw [Nat.zero_add]; exact int_at h hx⟩
theorem rows_of_own {w : World} {base : Nat} {v : Value} {l : List Rw} (h : w.ownsRow base 33 5 v l.length (l.flatMap rc)) : ∃ ao cap, v = .slice ao l.length cap ∧ IsRows w ao l := by
  by_cases h0 : l.length = 0
  · obtain ⟨bo, bc, e⟩ := own_form h
    refine ⟨bo, bc, e, fun i x hx => ?_⟩
    have := (List.getElem?_eq_some_iff.1 hx).1
    omega
  · obtain ⟨g, cap, cur, rfl, h2, h3, h4, h5, h6, h7⟩ := own_block h (by omega)
    refine ⟨_, cap, rfl, rows_of_block (R := cur.drop (l.length * 5)) (T := 33) (f := (0, 0)) ?_⟩
    rw [h3, ← h7, List.take_append_drop]
theorem ints_of_own {w : World} {base : Nat} {v : Value} {l : List Nat} (h : w.ownsRow base 3 1 v l.length (l.map nc)) : ∃ ao cap, v = .slice ao l.length cap ∧ IsInts w ao l := by
  by_cases h0 : l.length = 0
  · obtain ⟨bo, bc, e⟩ := own_form h
    refine ⟨bo, bc, e, fun i x hx => ?_⟩
    have := (List.getElem?_eq_some_iff.1 hx).1
    omega
  · obtain ⟨g, cap, cur, rfl, h2, h3, h4, h5, h6, h7⟩ := own_block h (by omega)
    refine ⟨_, cap, rfl, ints_of_block (R := cur.drop (l.length * 1)) (T := 3) (f := (0, 0)) ?_⟩
    rw [h3, ← h7, List.take_append_drop]

set_option maxHeartbeats 1600000 in
theorem sameRows_any (ao bo : Option Addr) (l : List Rw) (ca cb : Nat) (w : World) (h1 : IsRows w ao l) (h2 : IsRows w bo l) (hn : l.length ≤ 4611686018427387904) :
    Calls Try.prog 8 #[.slice ao l.length ca, .slice bo l.length cb] w fun e w' => e = .returned (.bool true) ∧ Below w.heap.size w w' := by
  have H1 : Hid (IsRows w ao l) := h1
  have H2 : Hid (IsRows w bo l) := h2
  clear h1 h2
  have hne : ((l.length : Int) != (l.length : Int)) = false := by simp
  go_enter Try.func8, Try.ntmps8
  go_wp2
  go_loopw [5] (fun i wr => ∃ k : Nat, k ≤ l.length ∧ i = .int .i64 k ∧ Below w.heap.size w wr) (fun i _ => l.length - (intOf i).toNat)
  case atStart => exact ⟨0, Nat.zero_le _, rfl, Below.refl _ _⟩
  case round =>
    obtain ⟨k, hk, rfl, hB⟩ := hrel
    have HB : Hid (Below w.heap.size w wr) := hB
    clear hB
    by_cases hlt : k < l.length
    · obtain ⟨x, hx⟩ : ∃ x, l[k]? = some x := ⟨_, List.getElem?_eq_getElem hlt⟩
      obtain ⟨g1, o1, rfl, hg1, a0, a1, a2, a3, a4⟩ := (H1.out.below HB.out) k x hx
      obtain ⟨g2, o2, rfl, hg2, b0, b1, b2, b3, b4⟩ := (H2.out.below HB.out) k x hx
      obtain ⟨kd, nm, e, m, c⟩ := x
      clear hx
      simp only at a0 a1 a2 a3 a4 b0 b1 b2 b3 b4
      go_wp2_with fail
      go_quiet (fail)
      go_wp2
      go_roundw
      case rel => exact ⟨k + 1, by omega, by go_num, HB.out.trans ((Go.Proofs.Ytkdepeadledpnaa.Lx.below_drewN _ _).mono HB.out.size)⟩
      case measure => simp [intOf]; omega
    · have hd : decide ((k : Int) < (l.length : Int)) = false := by simp; omega
      go_wp2
      go_ret
      exact ⟨rfl, HB.out⟩
set_option maxHeartbeats 1600000 in
theorem sameInts_any (ao bo : Option Addr) (l : List Nat) (ca cb : Nat) (w : World) (h1 : IsInts w ao l) (h2 : IsInts w bo l) (hn : l.length ≤ 4611686018427387904) :
    Calls Try.prog 9 #[.slice ao l.length ca, .slice bo l.length cb] w fun e w' => e = .returned (.bool true) ∧ Below w.heap.size w w' := by
  have H1 : Hid (IsInts w ao l) := h1
  have H2 : Hid (IsInts w bo l) := h2
  clear h1 h2
  have hne : ((l.length : Int) != (l.length : Int)) = false := by simp
  go_enter Try.func9, Try.ntmps9
  go_wp2
  go_loopw [5] (fun i wr => ∃ k : Nat, k ≤ l.length ∧ i = .int .i64 k ∧ Below w.heap.size w wr) (fun i _ => l.length - (intOf i).toNat)
  case atStart => exact ⟨0, Nat.zero_le _, rfl, Below.refl _ _⟩
  case round =>
    obtain ⟨k, hk, rfl, hB⟩ := hrel
    have HB : Hid (Below w.heap.size w wr) := hB
    clear hB
    by_cases hlt : k < l.length
    · obtain ⟨x, hx⟩ : ∃ x, l[k]? = some x := ⟨_, List.getElem?_eq_getElem hlt⟩
      obtain ⟨g1, o1, rfl, hg1, a0⟩ := (H1.out.below HB.out) k x hx
      obtain ⟨g2, o2, rfl, hg2, b0⟩ := (H2.out.below HB.out) k x hx
      clear hx
      go_wp2_with fail
      go_quiet (fail)
      go_wp2
      go_roundw
      case rel => exact ⟨k + 1, by omega, by go_num, HB.out.trans ((Go.Proofs.Ytkdepeadledpnaa.Lx.below_drewN _ _).mono HB.out.size)⟩
      case measure => simp [intOf]; omega
    · have hd : decide ((k : Int) < (l.length : Int)) = false := by simp; omega
      go_wp2
      go_ret
      exact ⟨rfl, HB.out⟩
end Go.Proofs.Ytkdepeadledpnaa.Gr
