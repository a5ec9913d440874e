import Derived.Test.YtcblichnkakhdaaDoorCdWay
import Derived.Test.YtcblichnkakhdaaDoorCdNum
namespace Go.Proofs.YtcblichnkakhdaaDoor.Cd
open Go.RowKit Go.Proofs.YtcblichnkakhdaaDoor.Nm

theorem Wr.below {W W' : World} {b base : Nat} {fs : List Value} {xs : List Nat} (h : Wr W b base fs xs) (hb : Below W.heap.size W W') : Wr W' b base fs xs := by
  obtain ⟨v, h1, h2⟩ := h.ex
  exact ⟨⟨v, (hb.block _ (blk_lt h1)).trans h1, own_below h2 hb⟩, h.lt, Nat.le_trans h.sz hb.size⟩
theorem Wr.blt {W : World} {b base : Nat} {fs : List Value} {xs : List Nat} (h : Wr W b base fs xs) : b < W.heap.size := Nat.lt_of_lt_of_le h.lt h.sz
theorem Fo.of_below {b : Nat} {w w' : World} (h : Below w.heap.size w w') (hb : b < w.heap.size) : Fo b w w' :=
  ⟨h.os, h.tape, h.output, h.size, fun k hk _ _ => h.block k hk, fun _ ⟨v, h1, h2⟩ => Or.inl ⟨v, (h.cell (p := ⟨b, 0, none⟩) hb).symm.trans h1, h2⟩⟩
theorem Wr.own_lt {W : World} {b base k : Nat} {fs : List Value} {xs : List Nat} (h : Wr W b base fs xs) (ho : Own W b k) : k < W.heap.size := by
  obtain ⟨v, h1, h2⟩ := h.ex
  obtain ⟨u, h3, h4⟩ := ho
  have h5 : W.cell? ⟨b, 0, none⟩ = some v := by simp only [World.cell?, h1]; rfl
  rw [h5] at h3
  cases h3
  exact (World.ownsRow.lt h2 k h4).2
/-- a cell of the writer's table -/
theorem Wr.way {W : World} {b base : Nat} {fs : List Value} {xs : List Nat} (h : Wr W b base fs xs) (j : Nat) : W.cell? ⟨b, j + 1, none⟩ = fs[j]? := by
  obtain ⟨v, h1, h2⟩ := h.ex
  simp only [World.cell?, h1]
  simp
set_option maxHeartbeats 1600000 in
theorem wnothing (b : Nat) (v : Int) (W : World) : Calls Tryd.prog 29 #[.pointer (some ⟨b, 0, none⟩), .int .i64 v] W fun e W' => e = .returned (.tuple #[]) ∧ W' = W := by
  go_enter Tryd.func29, Tryd.ntmps29
  go_wp2_with fail
  go_end0
  exact ⟨rfl, rfl⟩
/-- an operand's bytes -/
def opB (k v : Int) : List Nat := if k = 0 then [] else if k = 5 then numB (sgN v) else numB v.toNat
/-- what may be written as an operand of a kind -/
def OpOk (k v : Int) : Prop := k = 0 ∨ (k = 5 ∧ -4611686018427387904 < v ∧ v < 4611686018427387904) ∨ (1 ≤ k ∧ k ≤ 8 ∧ k ≠ 5 ∧ 0 ≤ v ∧ v < 9223372036854775808)
theorem opB_len {k v : Int} (h : OpOk k v) : (opB k v).length ≤ 10 := by
  unfold opB
  split
  · simp
  · split
    · rename_i h0 h5
      refine numB_ten ?_
      rcases h with h | h | h
      · exact absurd h h0
      · unfold sgN; split <;> omega
      · exact absurd h5 h.2.2.1
    · rename_i h0 h5
      refine numB_ten ?_
      rcases h with h | h | h
      · exact absurd h h0
      · exact absurd h.1 h5
      · omega
/-- what writes operands of a kind -/
theorem wfun (k : Nat) (hk : k ≤ 8) : ∃ F : Nat, wayL[3 * k + 1]? = some (.func (.func F) #[] #[]) ∧ (∀ (args : Array Value) (u : World), (callFunc F args).run Tryd.prog u = .ok (.enter F args) u) ∧
    ∀ (W : World) (b base : Nat) (xs : List Nat) (v : Int), Wr W b base wayL xs → xs.length ≤ 999999999900 → OpOk (k : Int) v → Calls Tryd.prog F #[.pointer (some ⟨b, 0, none⟩), .int .i64 v] W fun e W' => e = .returned (.tuple #[]) ∧ Wr W' b base wayL (xs ++ opB (k : Int) v) ∧ Fo b W W' := by
  have hnum : ∀ k : Nat, 1 ≤ k → k ≤ 8 → k ≠ 5 → ∀ (W : World) (b base : Nat) (xs : List Nat) (v : Int), Wr W b base wayL xs → xs.length ≤ 999999999900 → OpOk (k : Int) v → Calls Tryd.prog 32 #[.pointer (some ⟨b, 0, none⟩), .int .i64 v] W fun e W' => e = .returned (.tuple #[]) ∧ Wr W' b base wayL (xs ++ opB (k : Int) v) ∧ Fo b W W' := by
    intro k h1 h8 h5 W b base xs v hw hl ho
    obtain ⟨m, rfl⟩ : ∃ m : Nat, v = (m : Int) := ⟨v.toNat, by rcases ho with h | h | h <;> omega⟩
    have e : opB (k : Int) (m : Int) = numB m := by unfold opB; rw [if_neg (by omega), if_neg (by omega), Int.toNat_natCast]
    rw [e]
    exact wnum_any hw hl (by rcases ho with h | h | h <;> omega)
  have h9 : k = 0 ∨ k = 1 ∨ k = 2 ∨ k = 3 ∨ k = 4 ∨ k = 5 ∨ k = 6 ∨ k = 7 ∨ k = 8 := by omega
  rcases h9 with rfl | rfl | rfl | rfl | rfl | rfl | rfl | rfl | rfl
  · refine ⟨29, rfl, fun _ _ => by kernel_rfl, fun W b base xs v hw hl ho => ?_⟩
    refine Calls.mono (wnothing b v W) ?_
    rintro e W' ⟨rfl, rfl⟩
    exact ⟨rfl, by show Wr W' b base wayL (xs ++ []); rw [List.append_nil]; exact hw, Fo.refl _ _⟩
  · exact ⟨32, rfl, fun _ _ => by kernel_rfl, hnum 1 (by omega) (by omega) (by omega)⟩
  · exact ⟨32, rfl, fun _ _ => by kernel_rfl, hnum 2 (by omega) (by omega) (by omega)⟩
  · exact ⟨32, rfl, fun _ _ => by kernel_rfl, hnum 3 (by omega) (by omega) (by omega)⟩
  · exact ⟨32, rfl, fun _ _ => by kernel_rfl, hnum 4 (by omega) (by omega) (by omega)⟩
  · refine ⟨38, rfl, fun _ _ => by kernel_rfl, fun W b base xs v hw hl ho => ?_⟩
    exact wsgn_any hw hl (by rcases ho with h | h | h <;> omega)
  · exact ⟨32, rfl, fun _ _ => by kernel_rfl, hnum 6 (by omega) (by omega) (by omega)⟩
  · exact ⟨32, rfl, fun _ _ => by kernel_rfl, hnum 7 (by omega) (by omega) (by omega)⟩
  · exact ⟨32, rfl, fun _ _ => by kernel_rfl, hnum 8 (by omega) (by omega) (by omega)⟩
end Go.Proofs.YtcblichnkakhdaaDoor.Cd
