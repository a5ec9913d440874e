import Derived.Test.YtelbakkgobkdaaaDoorVfFlow
import Derived.Test.YtelbakkgobkdaaaDoorVfRd
import Derived.Great.BuildSlice
namespace Go.Proofs.YtelbakkgobkdaaaDoor.Vf
open Go.RowKit Go.Proofs.YtelbakkgobkdaaaDoor.Nm
/-- a program of one queue, whose miss inserts -/
def smP : Pg := ⟨[false], [], [], [-1], 0, [⟨31, 0, 0, 0, 0⟩, ⟨0, 0, 0, 0, 0⟩]⟩
/-- what small tells: its lists lie in new blocks -/
structure SmP (w : World) (r : Ending) (w' : World) : Prop where
  bel : Below w.heap.size w w'
  is : ∃ a b c, r = .returned (.agg #[.slice (some ⟨a, 0, none⟩) 1 1, .slice none 0 0, .slice none 0 0, .slice (some ⟨b, 0, none⟩) 1 1, .int .i64 0, .slice (some ⟨c, 0, none⟩) 2 2]) ∧ w.heap.size ≤ a ∧ w.heap.size ≤ b ∧ w.heap.size ≤ c ∧
    IsPg w' ⟨some ⟨a, 0, none⟩, 1, none, 0, none, 0, some ⟨b, 0, none⟩, 1, some ⟨c, 0, none⟩, 2⟩ smP
theorem rd_blk {W : World} {b : Nat} {xs : List Value} {T : TypeId} (h : W.heap[b]? = some (.cells xs.toArray T (0, 0))) : Rd W (some ⟨b, 0, none⟩) xs := fun k x hx => ⟨b, 0, rfl, blk_lt h, by rw [Nat.zero_add]; exact cell_of h hx⟩
theorem rd_nil (W : World) (o : Option Addr) : Rd W o [] := fun k x hx => by simp at hx
/-- four new blocks -/
theorem al4 (w : World) (a b c d : Obj) : Below w.heap.size w ((((w.alloc a).alloc b).alloc c).alloc d) ∧ ((((w.alloc a).alloc b).alloc c).alloc d).heap[w.heap.size]? = some a ∧ ((((w.alloc a).alloc b).alloc c).alloc d).heap[w.heap.size + 1]? = some b ∧ ((((w.alloc a).alloc b).alloc c).alloc d).heap[w.heap.size + 1 + 1]? = some c ∧ ((((w.alloc a).alloc b).alloc c).alloc d).heap[w.heap.size + 1 + 1 + 1]? = some d := by
  have s1 : (w.alloc a).heap.size = w.heap.size + 1 := by simp
  have s2 : ((w.alloc a).alloc b).heap.size = w.heap.size + 1 + 1 := by simp
  have s3 : (((w.alloc a).alloc b).alloc c).heap.size = w.heap.size + 1 + 1 + 1 := by simp
  have h0 := heap_alloc_new w a
  have h1 := heap_alloc_new (w.alloc a) b
  have h2 := heap_alloc_new ((w.alloc a).alloc b) c
  have h3 := heap_alloc_new (((w.alloc a).alloc b).alloc c) d
  rw [s1] at h1
  rw [s2] at h2
  rw [s3] at h3
  have b0 : Below w.heap.size w (w.alloc a) := (Below.refl _ w).alloc (Nat.le_refl _) _
  have b1 : Below (w.alloc a).heap.size (w.alloc a) ((w.alloc a).alloc b) := (Below.refl _ _).alloc (Nat.le_refl _) _
  have b2 : Below ((w.alloc a).alloc b).heap.size ((w.alloc a).alloc b) (((w.alloc a).alloc b).alloc c) := (Below.refl _ _).alloc (Nat.le_refl _) _
  have b3 : Below (((w.alloc a).alloc b).alloc c).heap.size (((w.alloc a).alloc b).alloc c) ((((w.alloc a).alloc b).alloc c).alloc d) := (Below.refl _ _).alloc (Nat.le_refl _) _
  rw [s1] at b1
  rw [s2] at b2
  rw [s3] at b3
  refine ⟨((b0.trans (b1.mono (by omega))).trans (b2.mono (by omega))).trans (b3.mono (by omega)), ?_, ?_, ?_, h3⟩
  · exact (b3.block _ (by omega)).trans ((b2.block _ (by omega)).trans ((b1.block _ (by omega)).trans h0))
  · exact (b3.block _ (by omega)).trans ((b2.block _ (by omega)).trans h1)
  · exact (b3.block _ (by omega)).trans h2
set_option maxHeartbeats 3200000 in
set_option maxRecDepth 100000 in
theorem small_any (w : World) : Calls Tryd.prog 17 #[] w (SmP w) := by
  have HA := show Hid _ from al4 w (.cells #[.slice (some ⟨w.heap.size + 1, 0, none⟩) 1 1, .slice none 0 0, .slice none 0 0, .slice (some ⟨w.heap.size + 1 + 1, 0, none⟩) 1 1, .int .i64 0, .slice (some ⟨w.heap.size + 1 + 1 + 1, 0, none⟩) 2 2] 27) (.cells #[.bool false] 4) (.cells #[.int .i64 (-1)] 3) (.cells #[.int .i64 31, .int .i64 0, .int .i64 0, .int .i64 0, .int .i64 0, .int .i64 0, .int .i64 0, .int .i64 0, .int .i64 0, .int .i64 0] 54)
  go_enter Tryd.func17, Tryd.ntmps17
  go_wp2_with fail
  generalize ((((w.alloc (.cells #[.slice (some ⟨w.heap.size + 1, 0, none⟩) 1 1, .slice none 0 0, .slice none 0 0, .slice (some ⟨w.heap.size + 1 + 1, 0, none⟩) 1 1, .int .i64 0, .slice (some ⟨w.heap.size + 1 + 1 + 1, 0, none⟩) 2 2] 27)).alloc (.cells #[.bool false] 4)).alloc (.cells #[.int .i64 (-1)] 3)).alloc (.cells #[.int .i64 31, .int .i64 0, .int .i64 0, .int .i64 0, .int .i64 0, .int .i64 0, .int .i64 0, .int .i64 0, .int .i64 0, .int .i64 0] 54)) = W1 at *
  obtain ⟨i0, i1, i2, i3, i4, i5⟩ := cells6 HA.out.2.1
  refine bodyPost_ret (v := .agg #[.slice (some ⟨w.heap.size + 1, 0, none⟩) 1 1, .slice none 0 0, .slice none 0 0, .slice (some ⟨w.heap.size + 1 + 1, 0, none⟩) 1 1, .int .i64 0, .slice (some ⟨w.heap.size + 1 + 1 + 1, 0, none⟩) 2 2]) (by simp [results, Tryd.results17, go_sem, i0, i1, i2, i3, i4, i5]) rfl ?_
  refine ⟨HA.out.1, _, _, _, rfl, by omega, by omega, by omega, ?_⟩
  exact ⟨rd_blk (xs := bC [false]) HA.out.2.2.1, rd_nil _ _, rd_nil _ _, rd_blk (xs := iC [-1]) HA.out.2.2.2.1, rd_blk (xs := cC [⟨31, 0, 0, 0, 0⟩, ⟨0, 0, 0, 0, 0⟩]) HA.out.2.2.2.2, by decide, by decide, by decide, by decide, by decide⟩
end Go.Proofs.YtelbakkgobkdaaaDoor.Vf
