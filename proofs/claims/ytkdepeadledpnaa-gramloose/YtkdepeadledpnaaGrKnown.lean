import Derived.Test.YtkdepeadledpnaaGrSame
import Derived.Lib.SlBytesConst
namespace Go.Proofs.Ytkdepeadledpnaa.Gr
open Go.RowKit Go.Proofs.Ytkdepeadledpnaa.Sp Go.Proofs.Ytkdepeadledpnaa.Lx Go.Maps

theorem const_bytes (w : World) (C : Array Value) (m : Nat × Nat) (s : ByteArray) (hC : C.toList = Lib.byteCells s.data.toList) : IsBytes (w.alloc (.cells C 5 m)) (some ⟨w.heap.size, 0, none⟩) s := by
  intro i hi
  refine ⟨w.heap.size, 0, rfl, by simp, ?_⟩
  have hl : C.toList.length = s.size := by rw [hC, Lib.byteCells_length]; simp
  have hc := Lib.cells_of_row (heap_alloc_new w (.cells C 5 m)) C.size i (.int .u8 (nb s i : Nat)) (by
    rw [List.take_of_length_le (by simp), hC]
    unfold Lib.byteCells
    rw [List.getElem?_map, byte_at s i hi, nb_get s i hi]
    rfl)
  rw [Lib.addr_add] at hc
  exact hc
theorem const_at (w : World) (C : Array Value) (m : Nat × Nat) (s : ByteArray) (n : Nat) (hn : n = w.heap.size) (hC : C.toList = Lib.byteCells s.data.toList) : IsBytes (w.alloc (.cells C 5 m)) (some ⟨n, 0, none⟩) s := by
  subst hn; exact const_bytes w C m s hC
theorem parse1 (ao : Option Addr) (cap : Nat) (w : World) (h : IsBytes w ao tx1) (hc : 36 ≤ cap) : Calls Try.prog 7 #[.slice ao 36 cap] w fun e w' =>
    (∃ ro rk po pk, e = .returned (.tuple #[.slice ro 10 rk, .slice po 10 pk, .agg #[.int .i64 0, .int .i64 0]]) ∧ IsRows w' ro rw1 ∧ IsInts w' po pl1) ∧ Below w.heap.size w w' :=
  (parse_ok ao tx1 cap w h hc (by decide) tk1 full1 tokOk1 6 (.ok () ⟨14, 0, rw1, pl1⟩) (fun _ _ _ _ _ _ _ _ _ _ _ _ => pol1 _ _ _ _ _ _ _ _ _ _ _ _)).mono fun e w' hh => by
    obtain ⟨⟨a, b, rfl, h1, h2⟩, h3⟩ := hh
    obtain ⟨ro, rk, rfl, q1⟩ := rows_of_own h1
    obtain ⟨po, pk, rfl, q2⟩ := ints_of_own h2
    exact ⟨⟨ro, rk, po, pk, rfl, q1, q2⟩, h3⟩
theorem parse2 (ao : Option Addr) (cap : Nat) (w : World) (h : IsBytes w ao tx2) (hc : 31 ≤ cap) : Calls Try.prog 7 #[.slice ao 31 cap] w fun e w' =>
    e = .returned (.tuple #[.slice none 0 0, .slice none 0 0, .agg #[.int .i64 21, .int .i64 25]]) ∧ Below w.heap.size w w' :=
  (parse_ok ao tx2 cap w h hc (by decide) tk2 full2 tokOk2 6 (.die 21 25) (fun _ _ _ _ _ _ _ _ _ _ _ _ => pol2 _ _ _ _ _ _ _ _ _ _ _ _)).mono fun _ _ hh => hh
theorem lit_rows (w : World) (T : TypeId) (m : Nat × Nat) (C : Array Value) (l : List Rw) (n : Nat) (hn : n = w.heap.size) (hC : C = (l.flatMap rc ++ []).toArray) : IsRows (w.alloc (.cells C T m)) (some ⟨n, 0, none⟩) l := by
  subst hn
  subst hC
  exact rows_of_block (heap_alloc_new w _)
theorem lit_ints (w : World) (T : TypeId) (m : Nat × Nat) (C : Array Value) (l : List Nat) (n : Nat) (hn : n = w.heap.size) (hC : C = (l.map nc ++ []).toArray) : IsInts (w.alloc (.cells C T m)) (some ⟨n, 0, none⟩) l := by
  subst hn
  subst hC
  exact ints_of_block (heap_alloc_new w _)
theorem same10 (ao bo : Option Addr) (ca cb : Nat) (w : World) (h1 : IsRows w ao rw1) (h2 : IsRows w bo rw1) : Calls Try.prog 8 #[.slice ao 10 ca, .slice bo 10 cb] w fun e w' => e = .returned (.bool true) ∧ Below w.heap.size w w' :=
  sameRows_any ao bo rw1 ca cb w h1 h2 (by decide)
theorem sami10 (ao bo : Option Addr) (ca cb : Nat) (w : World) (h1 : IsInts w ao pl1) (h2 : IsInts w bo pl1) : Calls Try.prog 9 #[.slice ao 10 ca, .slice bo 10 cb] w fun e w' => e = .returned (.bool true) ∧ Below w.heap.size w w' :=
  sameInts_any ao bo pl1 ca cb w h1 h2 (by decide)
theorem loose_yes (w : World) : Calls Try.prog 5 #[.int .i64 46, .int .i64 1, .int .i64 46] w fun e w' => e = .returned (.bool true) ∧ w' = w := (loose_any 46 1 46 w).mono fun _ _ hh => hh
theorem loose_no (w : World) : Calls Try.prog 5 #[.int .i64 46, .int .i64 0, .int .i64 46] w fun e w' => e = .returned (.bool false) ∧ w' = w := (loose_any 46 0 46 w).mono fun _ _ hh => hh

set_option maxHeartbeats 6400000 in
set_option maxRecDepth 100000 in
theorem known_any (w : World) : Calls Try.prog 4 #[] w fun e w' => e = .returned (.bool true) ∧ Below w.heap.size w w' := by
  have kc := fun (w : World) (C : Array Value) (n c : Nat) => Lib.run_convert_bytes_const (P := Try.prog) w 31 5 C n c Try.underlying31 Try.underlying5
  have kc2 : ∀ (w : World) (o : Obj) (C : Array Value) (n c : Nat), (convert 31 31 (.slice (some ⟨w.heap.size + 1, 0, none⟩) n c)).run Try.prog ((w.alloc o).alloc (.cells C 5)) = .ok (.slice (some ⟨w.heap.size + 1, 0, none⟩) n c) ((w.alloc o).alloc (.cells C 5 (C.size, C.size + 1))) := fun w o C n c => by
    have := kc (w.alloc o) C n c
    rw [World.size_alloc] at this
    exact this
  have hnot : ∀ (x : Bool) (w : World), (Op.unary .not (.bool x)).run Try.prog w = .ok (.bool (!x)) w := fun _ _ => rfl
  go_enter Try.func4, Try.ntmps4
  go_wp2_with fail
  refine (parse1 _ _ _ (const_bytes w _ _ tx1 (by rfl)) (by decide)).mono ?_
  rintro e w1 ⟨⟨ro, rk, po, pk, rfl, hR, hI⟩, hB1⟩
  have hB0 : Below w.heap.size w w1 := ((Below.refl _ w).alloc (Nat.le_refl _) _).trans (hB1.mono (by simp))
  have HR1 : Hid (IsRows w1 ro rw1 ∧ IsInts w1 po pl1) := ⟨hR, hI⟩
  have HB1 : Hid (Below w.heap.size w w1) := hB0
  clear hR hI hB1 hB0
  go_wp2_with fail
  refine (parse2 _ _ _ (const_at _ _ _ tx2 _ (by simp) (by rfl)) (by decide)).mono ?_
  rintro e w2 ⟨rfl, hB2⟩
  have hB3 : Below w1.heap.size w1 w2 := (((Below.refl _ w1).alloc (Nat.le_refl _) _).alloc (by simp) _).trans (hB2.mono (by simp; omega))
  have HB2 : Hid (Below w.heap.size w w2) := HB1.out.trans (hB3.mono HB1.out.size)
  have HC2 : Hid (w2.heap[w1.heap.size]? = some (.cells #[.int .i64 0, .int .i64 0] 28 (0, 0)) ∧ w1.heap.size < w2.heap.size) := by
    refine ⟨?_, ?_⟩
    · rw [hB2.block _ (by simp; omega), Below.heap_alloc _ _ _ (by simp)]
      exact heap_alloc_new w1 _
    · have := hB2.size
      simp at this
      omega
  have HR2 : Hid (IsRows w2 ro rw1 ∧ IsInts w2 po pl1) := ⟨HR1.out.1.below hB3, HR1.out.2.below hB3⟩
  have c0 : w2.cell? ⟨w1.heap.size, 0, none⟩ = some (.int .i64 0) := by simp [World.cell?, HC2.out.1]
  have c1 : w2.cell? ⟨w1.heap.size, 1, none⟩ = some (.int .i64 0) := by simp [World.cell?, HC2.out.1]
  have hlt := HC2.out.2
  clear hB2 hB3 HR1 HB1 HC2 kc kc2
  go_wp2_with fail
  refine (same10 _ _ _ _ _ ((HR2.out.1.below ((Below.refl _ _).alloc (Nat.le_refl _) _)).below ((Below.refl _ _).alloc (Nat.le_refl _) _)) (lit_rows _ _ _ _ rw1 _ (by simp) (by rfl))).mono ?_
  rintro e w3 ⟨rfl, hB3⟩
  have hB4 : Below w2.heap.size w2 w3 := (((Below.refl _ w2).alloc (Nat.le_refl _) _).alloc (by simp) _).trans (hB3.mono (by simp; omega))
  have HB3 : Hid (Below w.heap.size w w3) := HB2.out.trans (hB4.mono HB2.out.size)
  have HR3 : Hid (IsInts w3 po pl1) := HR2.out.2.below hB4
  clear hB3 hB4 c0 c1 hlt HR2 HB2
  go_wp2_with fail
  refine (sami10 _ _ _ _ _ (HR3.out.below ((Below.refl _ _).alloc (Nat.le_refl _) _)) (lit_ints _ _ _ _ pl1 _ rfl (by rfl))).mono ?_
  rintro e w4 ⟨rfl, hB4⟩
  have HB4 : Hid (Below w.heap.size w w4) := (HB3.out.alloc HB3.out.size _).trans (hB4.mono (Nat.le_trans HB3.out.size (by simp)))
  clear hB4 HB3 HR3
  go_wp2_with fail
  refine (loose_yes w4).mono ?_
  intro e w5 hh
  obtain ⟨rfl, hw⟩ := hh
  rw [hw]
  clear hw w5
  go_wp2_with fail
  refine (loose_no w4).mono ?_
  intro e w5 hh
  obtain ⟨rfl, hw⟩ := hh
  rw [hw]
  clear hw w5
  go_wp2_with fail
  go_ret
  exact ⟨rfl, HB4.out⟩
end Go.Proofs.Ytkdepeadledpnaa.Gr
