import Derived.Test.YtjcbpejplnaakaaGreatMdRow
namespace Go.Proofs.YtjcbpejplnaakaaGreat.Md
open Go.RowKit Go.Maps Go.Proofs.YtjcbpejplnaakaaGreat.Nm

theorem cellsMn : Tryz.prog.cellsOf 118 = 3 := by kernel_rfl
theorem bytesMn : Tryz.prog.bytesOf 118 = 24 := by kernel_rfl
theorem byte0 : byteOfCell Tryz.prog Tryz.prog.depth 118 0 = some 0 := by kernel_rfl
theorem byte1 : byteOfCell Tryz.prog Tryz.prog.depth 118 1 = some 8 := by kernel_rfl
theorem shape_blk {W : World} {b : Nat} {cs : Array Value} {T : TypeId} {f : Nat × Nat} (hb : W.heap[b]? = some (.cells cs T f)) : W.shape? b = some (T, cs.size) := by simp [World.shape?, hb]
theorem byteOf_ok {W : World} {b i n : Nat} (hb : W.shape? b = some (118, n)) {d : Nat} (hd : byteOfCell Tryz.prog Tryz.prog.depth 118 (i % 3) = some d) : (byteOf ⟨b, i, none⟩).run Tryz.prog W = .ok (i / 3 * 24 + d) W := by
  unfold byteOf
  simp [noView, viewAt, cellsMn, bytesMn, hd, hb]
theorem part_ok {W : World} {b x n : Nat} (hb : W.shape? b = some (118, n)) : (partAt ⟨b, x * 3, none⟩ 1 8).run Tryz.prog W = .ok ⟨b, x * 3 + 1, none⟩ W := by
  unfold partAt
  have h0 := byteOf_ok (i := x * 3) hb (d := 0) (by rw [show x * 3 % 3 = 0 by omega]; exact byte0)
  have h1 := byteOf_ok (i := x * 3 + 1) hb (d := 8) (by rw [show (x * 3 + 1) % 3 = 1 by omega]; exact byte1)
  have e0 : x * 3 / 3 = x := by omega
  have e1 : (x * 3 + 1) / 3 = x := by omega
  rw [e0] at h0
  rw [e1] at h1
  simp [Sem.run_bind, h0, h1]
end Go.Proofs.YtjcbpejplnaakaaGreat.Md
