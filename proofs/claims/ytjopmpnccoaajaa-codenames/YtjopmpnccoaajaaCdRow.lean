import Derived.Test.YtjopmpnccoaajaaRows
import Derived.WalkKit
import Derived.WalkSpells
import Derived.WalkLawsBesides
import Derived.Deep.QuietTactic
import Derived.BigQuiet
import Derived.Deep.LoopGhost
import Derived.Laws.MakeOwn
import Derived.Below
namespace Go.Proofs.Ytjopmpnccoaajaa.Cd
open Go.RowKit

/-- the first k of the numbers, then 0 -/
def pk (l : Nat → Int) (k j : Nat) : Int := if j < k then l j else 0
/-- a row of the reference's table -/
def rowC (nm : ByteArray) (l : Nat → Int) (k : Nat) : Array Value := #[.string nm, .int .i64 (pk l k 0), .int .i64 (pk l k 1), .int .i64 (pk l k 2), .int .i64 (pk l k 3)]
theorem rowC_zero (nm : ByteArray) (l : Nat → Int) : rowC nm l 0 = #[.string nm, .int .i64 0, .int .i64 0, .int .i64 0, .int .i64 0] := rfl
theorem rowC_next (nm : ByteArray) (l : Nat → Int) (k : Nat) (hk : k < 4) : (rowC nm l k).setIfInBounds (1 + k) (.int .i64 (l k)) = rowC nm l (k + 1) := by
  have h : k = 0 ∨ k = 1 ∨ k = 2 ∨ k = 3 := by omega
  rcases h with rfl | rfl | rfl | rfl <;> rfl
set_option maxHeartbeats 6400000 in
set_option maxRecDepth 100000 in
/-- the reference's row -/
theorem crow {w : World} {nm : ByteArray} {so : Option Addr} {n cap : Nat} {l : Nat → Int} (hn : n ≤ 4) (hl : ∀ k, k < n → ∃ g o, so = some ⟨g, o, none⟩ ∧ g < w.heap.size ∧ w.cell? ⟨g, o + k, none⟩ = some (.int .i64 (l k))) :
    Calls Try.prog 5 #[.string nm, .slice so n cap] w fun e w' => e = .returned (.agg #[.string nm, .int .i64 (pk l n 0), .int .i64 (pk l n 1), .int .i64 (pk l n 2), .int .i64 (pk l n 3)]) ∧ Below w.heap.size w w' := by
  have HN : Hid (n ≤ 4) := hn
  have HL := show Hid _ from hl
  clear hn hl
  go_enter Try.func5, Try.ntmps5
  go_wp2_with fail
  have HB : Hid (Below w.heap.size w ((w.alloc (.cells #[.string ⟨#[]⟩, .int .i64 0, .int .i64 0, .int .i64 0, .int .i64 0] 27)).alloc (.cells #[.string nm, .int .i64 0, .int .i64 0, .int .i64 0, .int .i64 0] 27)) ∧ ((w.alloc (.cells #[.string ⟨#[]⟩, .int .i64 0, .int .i64 0, .int .i64 0, .int .i64 0] 27)).alloc (.cells #[.string nm, .int .i64 0, .int .i64 0, .int .i64 0, .int .i64 0] 27)).heap[w.heap.size]? = some (.cells #[.string ⟨#[]⟩, .int .i64 0, .int .i64 0, .int .i64 0, .int .i64 0] 27 (0, 0)) ∧ ((w.alloc (.cells #[.string ⟨#[]⟩, .int .i64 0, .int .i64 0, .int .i64 0, .int .i64 0] 27)).alloc (.cells #[.string nm, .int .i64 0, .int .i64 0, .int .i64 0, .int .i64 0] 27)).heap[w.heap.size + 1]? = some (.cells #[.string nm, .int .i64 0, .int .i64 0, .int .i64 0, .int .i64 0] 27 (0, 0))) := by
    refine ⟨((Below.refl _ w).alloc (Nat.le_refl _) _).alloc (by simp) _, ?_, ?_⟩
    · rw [Below.heap_alloc _ _ _ (by simp)]
      exact heap_alloc_new w _
    · have := heap_alloc_new (w.alloc (.cells #[.string ⟨#[]⟩, .int .i64 0, .int .i64 0, .int .i64 0, .int .i64 0] 27)) (.cells #[.string nm, .int .i64 0, .int .i64 0, .int .i64 0, .int .i64 0] 27)
      simpa using this
  generalize ((w.alloc (.cells #[.string ⟨#[]⟩, .int .i64 0, .int .i64 0, .int .i64 0, .int .i64 0] 27)).alloc (.cells #[.string nm, .int .i64 0, .int .i64 0, .int .i64 0, .int .i64 0] 27)) = w2 at *
  go_loopg [6] n (fun gq c wr => ∃ k : Nat, k ≤ n ∧ gq = n - k ∧ c = .int .i64 (k : Int) ∧ Below w.heap.size w wr ∧ wr.heap[w.heap.size]? = some (.cells #[.string ⟨#[]⟩, .int .i64 0, .int .i64 0, .int .i64 0, .int .i64 0] 27 (0, 0)) ∧ wr.heap[w.heap.size + 1]? = some (.cells (rowC nm l k) 27 (0, 0)))
  case atStart => exact ⟨0, Nat.zero_le _, rfl, rfl, HB.out.1, HB.out.2.1, HB.out.2.2⟩
  case round =>
    obtain ⟨k, hk, hgk, rfl, hb, h0, h1⟩ := hrel
    have HG : Hid (gk = n - k ∧ Below w.heap.size w wr ∧ wr.heap[w.heap.size]? = some (.cells #[.string ⟨#[]⟩, .int .i64 0, .int .i64 0, .int .i64 0, .int .i64 0] 27 (0, 0)) ∧ wr.heap[w.heap.size + 1]? = some (.cells (rowC nm l k) 27 (0, 0))) := ⟨hgk, hb, h0, h1⟩
    clear hgk hb h0 h1 HB
    have c0 : ∀ j, wr.cell? ⟨w.heap.size + 1, j, none⟩ = (rowC nm l k)[j]? := fun j => by simp only [World.cell?, HG.out.2.2.2]; rfl
    have f1 : ∀ j, wr.frozen? ⟨w.heap.size + 1, j, none⟩ = false := fun j => frozen_of_row wr _ j _ _ HG.out.2.2.2
    have f0 : ∀ j, wr.frozen? ⟨w.heap.size, j, none⟩ = false := fun j => frozen_of_row wr _ j _ _ HG.out.2.2.1
    by_cases hkn : k < n
    · have hkn' : (k : Int) < (n : Int) := by omega
      have hk4 : k < 4 := by have := HN.out; omega
      have hk4' : (k : Int) < 4 := by omega
      obtain ⟨g, o, rfl, hg, hc⟩ := HL.out k hkn
      have hc' : wr.cell? ⟨g, o + k, none⟩ = some (.int .i64 (l k)) := (HG.out.2.1.cell (p := ⟨g, o + k, none⟩) hg).trans hc
      have cz : ∃ x, wr.cell? ⟨w.heap.size + 1, 1 + k, none⟩ = some x := by
        rw [c0]
        have h : k = 0 ∨ k = 1 ∨ k = 2 ∨ k = 3 := by omega
        rcases h with rfl | rfl | rfl | rfl <;> exact ⟨_, rfl⟩
      obtain ⟨x, cz⟩ := cz
      have fz := f1 (1 + k)
      clear c0 f1 f0 hg hc
      go_wp2_with fail
      go_roundg (n - (k + 1))
      case measure => have := HG.out.1; omega
      case rel =>
        have e := heap_setCell_same wr (w.heap.size + 1) (1 + k) _ _ (.int .i64 (l k)) HG.out.2.2.2
        rw [rowC_next nm l k hk4] at e
        exact ⟨k + 1, by omega, rfl, by go_num, HG.out.2.1.setCell (p := ⟨w.heap.size + 1, 1 + k, none⟩) (by simp) _, (heap_setCell_other wr ⟨w.heap.size + 1, 1 + k, none⟩ w.heap.size _ (by simp)).trans HG.out.2.2.1, e⟩
    · have hkn' : ¬ (k : Int) < (n : Int) := by omega
      obtain rfl : k = n := by omega
      have e0 := c0 0
      have e1 := c0 1
      have e2 := c0 2
      have e3 := c0 3
      have e4 := c0 4
      simp only [rowC, List.getElem?_toArray, List.getElem?_cons_zero, List.getElem?_cons_succ] at e0 e1 e2 e3 e4
      have zc : ∀ j, wr.cell? ⟨w.heap.size, j, none⟩ = (#[Value.string ⟨#[]⟩, .int .i64 0, .int .i64 0, .int .i64 0, .int .i64 0] : Array Value)[j]? := fun j => by simp only [World.cell?, HG.out.2.2.1]; rfl
      have z0 := zc 0
      have z1 := zc 1
      have z2 := zc 2
      have z3 := zc 3
      have z4 := zc 4
      simp only [List.getElem?_toArray, List.getElem?_cons_zero, List.getElem?_cons_succ] at z0 z1 z2 z3 z4
      clear c0 f1 zc
      go_wp2_with fail
      have q : (((((wr.setCell ⟨w.heap.size, 0, none⟩ (.string nm)).setCell ⟨w.heap.size, 1, none⟩ (.int .i64 (pk l k 0))).setCell ⟨w.heap.size, 2, none⟩ (.int .i64 (pk l k 1))).setCell ⟨w.heap.size, 3, none⟩ (.int .i64 (pk l k 2))).setCell ⟨w.heap.size, 4, none⟩ (.int .i64 (pk l k 3))).heap[w.heap.size]? = some (.cells (rowC nm l k) 27 (0, 0)) := heap_setCell_same _ _ 4 _ _ _ (heap_setCell_same _ _ 3 _ _ _ (heap_setCell_same _ _ 2 _ _ _ (heap_setCell_same _ _ 1 _ _ _ (heap_setCell_same wr _ 0 _ _ _ HG.out.2.2.1))))
      have bq : Below w.heap.size w (((((wr.setCell ⟨w.heap.size, 0, none⟩ (.string nm)).setCell ⟨w.heap.size, 1, none⟩ (.int .i64 (pk l k 0))).setCell ⟨w.heap.size, 2, none⟩ (.int .i64 (pk l k 1))).setCell ⟨w.heap.size, 3, none⟩ (.int .i64 (pk l k 2))).setCell ⟨w.heap.size, 4, none⟩ (.int .i64 (pk l k 3))) := ((((HG.out.2.1.setCell (p := ⟨w.heap.size, 0, none⟩) (Nat.le_refl _) _).setCell (p := ⟨w.heap.size, 1, none⟩) (Nat.le_refl _) _).setCell (p := ⟨w.heap.size, 2, none⟩) (Nat.le_refl _) _).setCell (p := ⟨w.heap.size, 3, none⟩) (Nat.le_refl _) _).setCell (p := ⟨w.heap.size, 4, none⟩) (Nat.le_refl _) _
      clear e0 e1 e2 e3 e4 z0 z1 z2 z3 z4 f0
      generalize (((((wr.setCell ⟨w.heap.size, 0, none⟩ (.string nm)).setCell ⟨w.heap.size, 1, none⟩ (.int .i64 (pk l k 0))).setCell ⟨w.heap.size, 2, none⟩ (.int .i64 (pk l k 1))).setCell ⟨w.heap.size, 3, none⟩ (.int .i64 (pk l k 2))).setCell ⟨w.heap.size, 4, none⟩ (.int .i64 (pk l k 3))) = wx at *
      have zc : ∀ j, wx.cell? ⟨w.heap.size, j, none⟩ = (rowC nm l k)[j]? := fun j => by simp only [World.cell?, q]; rfl
      have z0 := zc 0
      have z1 := zc 1
      have z2 := zc 2
      have z3 := zc 3
      have z4 := zc 4
      simp only [rowC, List.getElem?_toArray, List.getElem?_cons_zero, List.getElem?_cons_succ] at z0 z1 z2 z3 z4
      refine bodyPost_ret (v := .agg #[.string nm, .int .i64 (pk l k 0), .int .i64 (pk l k 1), .int .i64 (pk l k 2), .int .i64 (pk l k 3)]) (by simp [results, Try.results5, go_sem, z0, z1, z2, z3, z4]) rfl ?_
      exact ⟨rfl, bq⟩
end Go.Proofs.Ytjopmpnccoaajaa.Cd
