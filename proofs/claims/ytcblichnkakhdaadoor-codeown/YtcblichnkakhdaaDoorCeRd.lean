import Derived.Test.YtcblichnkakhdaaDoorCePure
import Derived.Test.YtcblichnkakhdaaDoorCdPr
import Derived.Laws.BitsLemmas
set_option linter.unusedSimpArgs false
namespace Go.Proofs.YtcblichnkakhdaaDoor.Cd
open Go.RowKit Go.Proofs.YtcblichnkakhdaaDoor.Nm

abbrev flt (er i : Nat) : Ending := .panicked [{ v := .iface 32 (.agg #[.int .i64 (er : Int), .int .i64 (i : Int)]), recovered := false }]
/-- of the blocks that were only b has turned -/
structure Fg (b : Nat) (w w' : World) : Prop where
  os : w'.os = w.os
  tape : w'.tape = w.tape
  output : w'.output = w.output
  size : w.heap.size ≤ w'.heap.size
  block : ∀ k, k < w.heap.size → k ≠ b → w'.heap[k]? = w.heap[k]?
theorem Fg.refl (b : Nat) (w : World) : Fg b w w := ⟨rfl, rfl, rfl, Nat.le_refl _, fun _ _ _ => rfl⟩
theorem Fg.trans {b : Nat} {w1 w2 w3 : World} (h : Fg b w1 w2) (k : Fg b w2 w3) : Fg b w1 w3 := ⟨k.os.trans h.os, k.tape.trans h.tape, k.output.trans h.output, Nat.le_trans h.size k.size, fun x hx hn => (k.block x (Nat.lt_of_lt_of_le hx h.size) hn).trans (h.block x hx hn)⟩
theorem Fg.of_below {b : Nat} {w w' : World} (h : Below w.heap.size w w') : Fg b w w' := ⟨h.os, h.tape, h.output, h.size, fun k hk _ => h.block k hk⟩
theorem Fg.set (b j : Nat) (w : World) (v : Value) : Fg b w (w.setCell ⟨b, j, none⟩ v) := ⟨rfl, rfl, rfl, by simp [World.setCell], fun k _ hn => Below.heap_setCell w _ v k (fun e => hn e)⟩
theorem Fg.drew (b : Nat) (w : World) : Fg b w w.drew := Fg.of_below (Below.refl _ w).drew
/-- with only a block b of one's own turned, nothing that was has turned -/
theorem Fg.below {b n : Nat} {w w' : World} (h : Fg b w w') (hn : n ≤ b) (hs : n ≤ w.heap.size) : Below n w w' := ⟨h.os, h.tape, h.output, h.size, fun k hk => h.block k (by omega) (by omega)⟩
/-- a reader's cells -/
def rdC (bo : Option Addr) (n bc i fr : Nat) : List Value := .slice bo n bc :: .int .i64 (i : Int) :: .int .i64 (fr : Int) :: wayL
/-- a reader at place i; its last thing began at fr -/
structure Rdr (W : World) (b : Nat) (bo : Option Addr) (bc : Nat) (s : List Nat) (i fr : Nat) : Prop where
  hb : W.heap[b]? = some (.cells (rdC bo s.length bc i fr).toArray 54 (0, 0))
  rd : Rd W bo b (u8L s)
  le : i ≤ s.length
  lt : s.length ≤ 1000000000
  byt : ∀ x ∈ s, x < 256
section
variable {W W' : World} {b : Nat} {bo : Option Addr} {bc : Nat} {s : List Nat} {i fr j : Nat}
theorem Rdr.blt (h : Rdr W b bo bc s i fr) : b < W.heap.size := blk_lt h.hb
theorem Rdr.cells (h : Rdr W b bo bc s i fr) : W.cell? ⟨b, 0, none⟩ = some (.slice bo s.length bc) ∧ W.cell? ⟨b, 1, none⟩ = some (.int .i64 (i : Int)) ∧ W.cell? ⟨b, 2, none⟩ = some (.int .i64 (fr : Int)) ∧ W.frozen? ⟨b, 1, none⟩ = false ∧ W.frozen? ⟨b, 2, none⟩ = false := by
  refine ⟨?_, ?_, ?_, fzb h.hb 1, fzb h.hb 2⟩
  all_goals
    simp only [World.cell?, h.hb]
    rfl
theorem Rdr.way (h : Rdr W b bo bc s i fr) (k : Nat) : W.cell? ⟨b, k + 3, none⟩ = wayL[k]? := by
  simp only [World.cell?, h.hb]
  simp [rdC]
theorem rd_other {o : Option Addr} {m : Nat} {ys : List Value} (h : Rd W o m ys) (hf : Fg b W W') (hm : m ≤ b) : Rd W' o m ys := fun k x hx => by
  obtain ⟨g, f, e, h1, h2, h3⟩ := h k x hx
  exact ⟨g, f, e, h1, Nat.lt_of_lt_of_le h2 hf.size, (World.cell?_of_block (a := ⟨g, f + k, none⟩) (hf.block g h2 (by omega))).trans h3⟩
theorem Rdr.put1 (h : Rdr W b bo bc s i fr) (hj : j ≤ s.length) : Rdr (W.setCell ⟨b, 1, none⟩ (.int .i64 (j : Int))) b bo bc s j fr :=
  ⟨by rw [heap_setCell_same W b 1 _ _ _ h.hb]; simp [rdC], rd_other h.rd (Fg.set b 1 W _) (Nat.le_refl _), hj, h.lt, h.byt⟩
theorem Rdr.put2 (h : Rdr W b bo bc s i fr) (j : Nat) : Rdr (W.setCell ⟨b, 2, none⟩ (.int .i64 (j : Int))) b bo bc s i j :=
  ⟨by rw [heap_setCell_same W b 2 _ _ _ h.hb]; simp [rdC], rd_other h.rd (Fg.set b 2 W _) (Nat.le_refl _), h.le, h.lt, h.byt⟩
theorem Rdr.below (h : Rdr W b bo bc s i fr) (hb : Below W.heap.size W W') : Rdr W' b bo bc s i fr := ⟨(hb.block _ h.blt).trans h.hb, h.rd.below hb, h.le, h.lt, h.byt⟩
theorem Rdr.drew (h : Rdr W b bo bc s i fr) : Rdr W.drew b bo bc s i fr := h.below (Below.refl _ W).drew
theorem Rdr.byte (h : Rdr W b bo bc s i fr) (hi : i < s.length) : ∃ g f, bo = some ⟨g, f, none⟩ ∧ W.cell? ⟨g, f + i, none⟩ = some (.int .u8 (s[i] : Int)) := by
  obtain ⟨g, f, e, _, _, h3⟩ := h.rd i (.int .u8 (s[i] : Int)) (by simp [u8L, hi])
  exact ⟨g, f, e, h3⟩
set_option maxHeartbeats 3200000 in
set_option maxRecDepth 100000 in
/-- fail -/
theorem rfail_any (h : Rdr W b bo bc s i fr) (er : Nat) : Calls Tryd.prog 44 #[.pointer (some ⟨b, 0, none⟩), .int .i64 (er : Int)] W fun e W' => e = flt er fr ∧ Fg b W W' := by
  obtain ⟨c0, c1, c2, f1, f2⟩ := h.cells
  clear h
  go_enter Tryd.func44, Tryd.ntmps44
  go_wp2_with fail
  exact ⟨rfl, rfl, Fg.refl _ _⟩
set_option maxHeartbeats 3200000 in
set_option maxRecDepth 100000 in
/-- next, where a byte is left -/
theorem rnext_ok (h : Rdr W b bo bc s i fr) (hi : i < s.length) : Calls Tryd.prog 55 #[.pointer (some ⟨b, 0, none⟩)] W fun e W' => e = .returned (.int .u8 (s[i] : Int)) ∧ Rdr W' b bo bc s (i + 1) fr ∧ Fg b W W' := by
  obtain ⟨c0, c1, c2, f1, f2⟩ := h.cells
  obtain ⟨g, f, rfl, cb⟩ := h.byte hi
  obtain ⟨n, hn⟩ : ∃ n, n = s.length := ⟨_, rfl⟩
  obtain ⟨x, hx⟩ : ∃ x, x = s[i] := ⟨_, rfl⟩
  have HR : Hid (Rdr W b (some ⟨g, f, none⟩) bc s i fr ∧ i < s.length) := ⟨h, hi⟩
  rw [← hx] at cb ⊢
  rw [← hn] at c0
  have h1 : ((i : Int) == (n : Int)) = false := by rw [beq_eq_false_iff_ne]; omega
  have h2 : (i : Int) < (n : Int) := by omega
  have h3 : (n : Int) ≤ 1000000000 := by have := h.lt; omega
  have HE : Hid (Rdr (W.drew.drew.setCell ⟨b, 1, none⟩ (.int .i64 ((i : Int) + 1))) b (some ⟨g, f, none⟩) bc s (i + 1) fr ∧ Fg b W (W.drew.drew.setCell ⟨b, 1, none⟩ (.int .i64 ((i : Int) + 1)))) := by
    have := h.drew.drew.put1 (j := i + 1) (by omega)
    exact ⟨by simpa using this, ((Fg.drew b W).trans (Fg.drew b _)).trans (Fg.set b 1 _ _)⟩
  clear h hi hn hx
  go_enter Tryd.func55, Tryd.ntmps55
  go_wp2_with fail
  go_region
  go_wp2_with fail
  go_region
  go_wp2_with fail
  go_ret
  exact ⟨rfl, HE.out.1, HE.out.2⟩
set_option maxHeartbeats 3200000 in
set_option maxRecDepth 100000 in
/-- next, at the end -/
theorem rnext_die (h : Rdr W b bo bc s i fr) (hi : i = s.length) : Calls Tryd.prog 55 #[.pointer (some ⟨b, 0, none⟩)] W fun e W' => e = flt 81 i ∧ Fg b W W' := by
  obtain ⟨c0, c1, c2, f1, f2⟩ := h.cells
  rw [← hi] at c0
  have HF : Hid (Calls Tryd.prog 44 #[.pointer (some ⟨b, 0, none⟩), .int .i64 ((81 : Nat) : Int)] (W.drew.setCell ⟨b, 2, none⟩ (.int .i64 (i : Int))) fun e W' => e = flt 81 i ∧ Fg b (W.drew.setCell ⟨b, 2, none⟩ (.int .i64 (i : Int))) W') := rfail_any ((h.drew).put2 i) 81
  have HE : Hid (Fg b W (W.drew.setCell ⟨b, 2, none⟩ (.int .i64 (i : Int)))) := (Fg.drew b W).trans (Fg.set b 2 _ _)
  clear h hi
  go_enter Tryd.func55, Tryd.ntmps55
  go_wp2_with fail
  go_region
  go_wp2_with fail
  refine HF.out.mono ?_
  rintro e w1 ⟨rfl, hf⟩
  have HG : Hid (Fg b W w1) := HE.out.trans hf
  clear hf
  go_wp2_with fail
  exact ⟨rfl, rfl, HG.out⟩
end
end Go.Proofs.YtcblichnkakhdaaDoor.Cd
