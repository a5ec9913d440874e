import Derived.Test.YtflcplnmeimbcaaLxRefE
import Derived.Test.YtflcplnmeimbcaaLxParts
import Derived.Test.YtflcplnmeimbcaaLxKept
namespace Go.Proofs.Ytflcplnmeimbcaa.lexScans
open Go.RowKit Go.Proofs.Ytflcplnmeimbcaa.Sp Go.Proofs.Ytflcplnmeimbcaa.Lx

set_option maxHeartbeats 3200000 in
set_option maxRecDepth 100000 in
theorem walk (ao : Option Addr) (s : ByteArray) (cap : Nat) (w : World) (h : IsBytes w ao s) (hc : s.size ≤ cap) (hs : s.size ≤ 140737488351232) :
    Calls Try.prog 3 #[.slice ao s.size cap] w fun e w' => e = .returned (.bool true) ∧ Below w.heap.size w w' := by
  have HI : Hid (IsBytes w ao s) := h
  have HN : Hid ((tsOf (full s)).length ≤ 65537) := sc_len s
  clear h
  go_enter Try.func3, Try.ntmps3
  go_wp2_with fail
  refine (known_any _).mono ?_
  rintro e w1 ⟨rfl, hB1⟩
  have HB1 : Hid (Below w.heap.size w w1) := hB1
  clear hB1
  go_wp2_with fail
  refine (lend_any ao s cap _ (HI.out.below HB1.out) hs).mono ?_
  rintro e w2 ⟨rfl, hR, hB2⟩
  have HL : Hid (Row w2 w1.heap.size (s.size + 67) (lent s)) := hR
  have HB2 : Hid (Below w.heap.size w w2) := HB1.out.trans (hB2.mono HB1.out.size)
  have hlt := hR.lt
  have hz1 := HB1.out.size
  clear hR hB2
  go_wp2_with fail
  refine (scan_parts _ s (s.size + 67) _ HL.out.bytes (by omega)).mono ?_
  rintro e w3 ⟨⟨a1, c1, rfl, hrow1⟩, hB3⟩
  have HL3 : Hid (Row w3 w1.heap.size (s.size + 67) (lent s)) := HL.out.below hB3
  have HB3 : Hid (Below w.heap.size w w3) := HB2.out.trans (hB3.mono HB2.out.size)
  have hz3 := hB3.size
  have HR1 : Hid (TokRow w3 w2.heap.size (.slice a1 (tsOf (full s)).length c1) (tsOf (full s))) := hrow1
  have HS : Hid (∀ W, IsBytes W ao s → Calls Try.prog 12 #[.slice ao s.size cap] W fun e w' => (∃ bo bc, e = .returned (.tuple #[.slice bo (tsOf (full s)).length bc, .agg #[.int .i64 (erOf (full s) : Nat), .int .i64 (atOf (full s) : Nat)]]) ∧ TokRow w' W.heap.size (.slice bo (tsOf (full s)).length bc) (tsOf (full s))) ∧ Below W.heap.size W w') := fun W hb => (refScan_any ao s cap W hb hc).mono fun _ _ ⟨h1, h2⟩ => ⟨h1.parts, h2⟩
  clear hB3 hrow1
  generalize tsOf (full s) = ts at *
  generalize erOf (full s) = er at *
  generalize atOf (full s) = fa at *
  go_wp2_with fail
  have H4 : Hid (Below w3.heap.size w3 (w3.alloc (.cells #[.int .i64 er, .int .i64 fa] 28))) := (Below.refl _ _).alloc (Nat.le_refl _) _
  refine (HS.out _ (HI.out.below (HB3.out.trans (H4.out.mono HB3.out.size)))).mono ?_
  rintro e w4 ⟨⟨a2, c2, rfl, hrow2⟩, hB4⟩
  simp only [World.size_alloc] at hrow2 hB4
  have hz4 := hB4.size
  simp only [World.size_alloc] at hz4
  have hblk : w4.heap[w3.heap.size]? = some (.cells #[.int .i64 er, .int .i64 fa] 28 (0, 0)) := (hB4.block w3.heap.size (by omega)).trans (heap_alloc_new w3 _)
  have H5 : Hid (Below w3.heap.size w3 w4) := H4.out.trans (hB4.mono (by omega))
  have HR2 : Hid (TokRow w4 (w3.heap.size + 1) (.slice a2 ts.length c2) ts) := hrow2
  have H6 : Hid (Below w4.heap.size w4 (w4.alloc (.cells #[.int .i64 er, .int .i64 fa] 28))) := (Below.refl _ _).alloc (Nat.le_refl _) _
  have H7 : Hid (Below w3.heap.size w3 (w4.alloc (.cells #[.int .i64 er, .int .i64 fa] 28))) := H5.out.trans (H6.out.mono (by omega))
  clear hrow2 hB4
  go_wp2_with fail
  refine (kept_any ao _ s cap _ (HL3.out.below H7.out) (HI.out.below (HB3.out.trans (H7.out.mono HB3.out.size))) hs).mono ?_
  rintro e w5 ⟨rfl, hO⟩
  have hz5 := hO.size
  simp only [World.size_alloc] at hz5
  have hc1 : w5.heap[w3.heap.size]? = some (.cells #[.int .i64 er, .int .i64 fa] 28 (0, 0)) := by
    rw [hO.block _ (by omega), Below.heap_alloc _ _ _ (by omega)]
    exact hblk
  have hc2 : w5.heap[w4.heap.size]? = some (.cells #[.int .i64 er, .int .i64 fa] 28 (0, 0)) := by
    rw [hO.block _ (by omega)]
    exact heap_alloc_new w4 _
  have f10 : w5.cell? ⟨w3.heap.size, 0, none⟩ = some (.int .i64 er) := by simp [World.cell?, hc1]
  have f11 : w5.cell? ⟨w3.heap.size, 1, none⟩ = some (.int .i64 fa) := by simp [World.cell?, hc1]
  have f20 : w5.cell? ⟨w4.heap.size, 0, none⟩ = some (.int .i64 er) := by simp [World.cell?, hc2]
  have f21 : w5.cell? ⟨w4.heap.size, 1, none⟩ = some (.int .i64 fa) := by simp [World.cell?, hc2]
  have HT1 : Hid (IsToks w5 a1 ts) := ((HR1.out.below H7.out).only hO (by omega)).read
  have HT2 : Hid (IsToks w5 a2 ts) := ((HR2.out.below H6.out).only hO (by omega)).read
  have HB5 : Hid (Below w.heap.size w w5) := (HB3.out.trans (H7.out.mono HB3.out.size)).trans (hO.below.mono (by omega))
  clear hO hc1 hc2 hblk
  go_wp2_with fail
  refine (same_any a1 a2 ts c1 c2 _ HT1.out HT2.out (by have := HN.out; omega)).mono ?_
  rintro e w6 ⟨rfl, hB6⟩
  have HB6 : Hid (Below w.heap.size w w6) := HB5.out.trans (hB6.mono HB5.out.size)
  clear hB6
  go_wp2
  go_ret
  exact ⟨rfl, HB6.out⟩
end Go.Proofs.Ytflcplnmeimbcaa.lexScans
