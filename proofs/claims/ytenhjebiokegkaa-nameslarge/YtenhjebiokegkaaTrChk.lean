import Derived.Test.YtenhjebiokegkaaTrLev2
import Derived.Test.YtenhjebiokegkaaTrWrong
namespace Go.Proofs.Ytenhjebiokegkaa.Gr
open Go.RowKit Go.Proofs.Ytenhjebiokegkaa.Sp Go.Proofs.Ytenhjebiokegkaa.Lx

/-- what Check tells -/
def chk (l : List Rz) : Nat × Nat := if (wrong [ab1] 0 l).2 then (23, (wrong [ab1] 0 l).1) else if 64 < mx opn loose l l.length then (22, 0) else (0, 0)
theorem two_cells {u : World} {B : Nat} {T : TypeId} {x y : Value} (a b : Value) (h : u.heap[B]? = some (.cells #[x, y] T (0, 0))) : ((u.setCell ⟨B, 0, none⟩ a).setCell ⟨B, 1, none⟩ b).cell? ⟨B, 0, none⟩ = some a ∧ ((u.setCell ⟨B, 0, none⟩ a).setCell ⟨B, 1, none⟩ b).cell? ⟨B, 1, none⟩ = some b := by
  have h1 := heap_setCell_same u B 0 #[x, y] T a h
  have h2 := heap_setCell_same _ B 1 _ T b h1
  constructor
  · rw [World.cell?, h2]; rfl
  · rw [World.cell?, h2]; rfl

set_option maxHeartbeats 3200000 in
set_option maxRecDepth 100000 in
theorem check_any (ao : Option Addr) (l : List Rz) (cap : Nat) (w : World) (h : IsRz w ao l) (hn : l.length ≤ 2932031007317) :
    Calls Try.prog 18 #[.slice ao l.length cap] w fun e w' => e = .returned (.agg #[.int .i64 ((chk l).1 : Nat), .int .i64 ((chk l).2 : Nat)]) ∧ Below w.heap.size w w' := by
  have hb1 : Below w.heap.size w (w.alloc (.cells #[.int .i64 0, .int .i64 0] 37)) := (Below.refl _ w).alloc (Nat.le_refl _) _
  have HF := show Hid (Calls Try.prog 29 #[.slice ao l.length cap] (w.alloc (.cells #[.int .i64 0, .int .i64 0] 37)) fun e w' => e = .returned (.tuple #[.int .i64 ((wrong [ab1] 0 l).1 : Nat), .bool (wrong [ab1] 0 l).2]) ∧ Below (w.alloc (.cells #[.int .i64 0, .int .i64 0] 37)).heap.size (w.alloc (.cells #[.int .i64 0, .int .i64 0] 37)) w') from
    firstWrong_any ao l cap _ (h.below hb1) hn
  have HL : Hid (∀ W, Below w.heap.size w W → Calls Try.prog 30 #[.slice ao l.length cap] W fun e w' => e = .returned (.int .i64 (mx opn loose l l.length)) ∧ Below W.heap.size W w') := fun W hW => levels_any ao l cap W (h.below hW) hn
  have HC : Hid (chk l = if (wrong [ab1] 0 l).2 then (23, (wrong [ab1] 0 l).1) else if 64 < mx opn loose l l.length then (22, 0) else (0, 0)) := rfl
  have HB1 : Hid (Below w.heap.size w (w.alloc (.cells #[.int .i64 0, .int .i64 0] 37))) := hb1
  clear h hn hb1
  generalize chk l = C at *
  generalize wrong [ab1] 0 l = F at *
  generalize mx opn loose l l.length = X at *
  obtain ⟨f1, f2⟩ := F
  go_enter Try.func18, Try.ntmps18
  go_wp2_with fail
  refine HF.out.mono ?_
  rintro e w1 ⟨rfl, hB1⟩
  have hz := hB1.size
  rw [World.size_alloc] at hz
  have hT1 : w1.heap[w.heap.size]? = some (.cells #[.int .i64 0, .int .i64 0] 37 (0, 0)) := (hB1.block w.heap.size (by simp)).trans (heap_alloc_new w _)
  have HB2 : Hid (Below w.heap.size w w1) := HB1.out.trans (hB1.mono HB1.out.size)
  have hgz : w.heap.size < w1.heap.size := by omega
  clear hB1 hz
  cases f2
  · go_wp2_with fail
    refine (HL.out w1 HB2.out).mono ?_
    rintro e w2 ⟨rfl, hB3⟩
    have HT2 : Hid (w2.heap[w.heap.size]? = some (.cells #[.int .i64 0, .int .i64 0] 37 (0, 0))) := (hB3.block w.heap.size hgz).trans hT1
    have d0 : w2.cell? ⟨w.heap.size, 0, none⟩ = some (.int .i64 0) := by rw [World.cell?, HT2.out]; rfl
    have d1 : w2.cell? ⟨w.heap.size, 1, none⟩ = some (.int .i64 0) := by rw [World.cell?, HT2.out]; rfl
    have hf2 : ∀ j, w2.frozen? ⟨w.heap.size, j, none⟩ = false := fun j => by rw [World.frozen?, HT2.out]; rfl
    have HB4 : Hid (Below w.heap.size w w2) := HB2.out.trans (hB3.mono HB2.out.size)
    clear hB3 hT1
    by_cases hx : 64 < X
    · have HC2 : Hid (C = (22, 0)) := by show _ = _; rw [HC.out]; simp [hx]
      clear HC
      go_wp2_with fail
      obtain ⟨q0, q1⟩ := two_cells (.int .i64 22) (.int .i64 0) HT2.out
      exact bodyPost_ret (v := .agg #[.int .i64 22, .int .i64 0]) (by simp [results, Try.results18, go_sem, q0, q1]) rfl ⟨by rw [HC2.out]; rfl, (HB4.out.setCell (p := ⟨w.heap.size, 0, none⟩) (Nat.le_refl _) _).setCell (p := ⟨w.heap.size, 1, none⟩) (Nat.le_refl _) _⟩
    · have HC2 : Hid (C = (0, 0)) := by show _ = _; rw [HC.out]; simp [hx]
      clear HC
      go_wp2_with fail
      obtain ⟨q0, q1⟩ := two_cells (.int .i64 0) (.int .i64 0) HT2.out
      exact bodyPost_ret (v := .agg #[.int .i64 0, .int .i64 0]) (by simp [results, Try.results18, go_sem, q0, q1]) rfl ⟨by rw [HC2.out]; rfl, (HB4.out.setCell (p := ⟨w.heap.size, 0, none⟩) (Nat.le_refl _) _).setCell (p := ⟨w.heap.size, 1, none⟩) (Nat.le_refl _) _⟩
  · have HC2 : Hid (C = (23, f1)) := by show _ = _; rw [HC.out]; simp
    clear HC
    have HT2 : Hid (w1.heap[w.heap.size]? = some (.cells #[.int .i64 0, .int .i64 0] 37 (0, 0))) := hT1
    have d0 : w1.cell? ⟨w.heap.size, 0, none⟩ = some (.int .i64 0) := by rw [World.cell?, HT2.out]; rfl
    have d1 : w1.cell? ⟨w.heap.size, 1, none⟩ = some (.int .i64 0) := by rw [World.cell?, HT2.out]; rfl
    have hf2 : ∀ j, w1.frozen? ⟨w.heap.size, j, none⟩ = false := fun j => by rw [World.frozen?, HT2.out]; rfl
    clear hT1
    go_wp2_with fail
    obtain ⟨q0, q1⟩ := two_cells (.int .i64 23) (.int .i64 (f1 : Int)) HT2.out
    exact bodyPost_ret (v := .agg #[.int .i64 23, .int .i64 f1]) (by simp [results, Try.results18, go_sem, q0, q1]) rfl ⟨by rw [HC2.out]; rfl, (HB2.out.setCell (p := ⟨w.heap.size, 0, none⟩) (Nat.le_refl _) _).setCell (p := ⟨w.heap.size, 1, none⟩) (Nat.le_refl _) _⟩
end Go.Proofs.Ytenhjebiokegkaa.Gr
