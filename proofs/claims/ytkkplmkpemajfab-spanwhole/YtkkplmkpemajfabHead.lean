import Derived.Test.YtkkplmkpemajfabNew
import Derived.Lib.SlBytesConst
namespace Go.Proofs.Ytkkplmkpemajfab.Sp
open Go.RowKit

def s0 : ByteArray := ⟨#[97, 10, 9, 98, 195, 169, 10]⟩
theorem f1 : nl s0 = 3 := by decide +kernel
theorem f2 : LV s0 2 = ⟨#[9, 98, 195, 169]⟩ := by decide +kernel
theorem f3 : LE s0 2 = 0 := by decide +kernel
theorem f4 : SL s0 6 = 2 ∧ SC s0 6 = 4 ∧ SE s0 6 = 0 := by decide +kernel
theorem f5 : PV s0 2 3 = 4 ∧ PE s0 2 3 = 0 := by decide +kernel

theorem new_i (ao : Option Addr) (s : ByteArray) (n cap : Nat) (w : World) (hn : n = s.size) (h : IsBytes w ao s) (hs : s.size ≤ 2097152) :
    Calls Try.prog 19 #[.slice ao n cap] w fun e w' => ∃ b, e = .returned (.pointer (some ⟨b, 0, none⟩)) ∧ IsText w' b s ∧ w.heap.size ≤ b ∧ Below w.heap.size w w' := by
  subst hn; exact (new_any ao s cap w h hs).mono fun e w' ⟨b, h1, h2, h3, h4, _⟩ => ⟨b, h1, h2, h3, h4⟩
theorem isBytes_const (w : World) (C : Array Value) (m : Nat × Nat) (s : ByteArray) (hC : C.toList = Lib.byteCells s.data.toList) : IsBytes (w.alloc (.cells C 5 m)) (some ⟨w.heap.size, 0, none⟩) s := by
  intro i hi
  refine ⟨w.heap.size, 0, rfl, by simp, ?_⟩
  have hl : C.toList.length = s.size := by rw [hC, Lib.byteCells_length]; simp
  have hc := Lib.cells_of_row (heap_alloc_new w (.cells C 5 m)) C.size i (.int .u8 (bt s i)) (by
    rw [List.take_of_length_le (by simp), hC]
    unfold Lib.byteCells
    rw [List.getElem?_map, byte_at s i hi, bt_get s i hi]
    rfl)
  rw [Lib.addr_add] at hc
  exact hc

set_option maxHeartbeats 800000 in
theorem head_any (w : World) : Calls Try.prog 8 #[] w fun e w' => e = .returned (.bool true) ∧ Below w.heap.size w w' := by
  have kc := fun (w : World) (C : Array Value) (n c : Nat) => Lib.run_convert_bytes_const (P := Try.prog) w 22 5 C n c Try.underlying22 Try.underlying5
  go_enter Try.func8, Try.ntmps8
  go_wp2_with fail
  clear kc
  refine (new_i _ s0 _ _ _ (by decide) (isBytes_const w _ _ s0 (by rfl)) (by decide)).mono ?_
  rintro e w1 ⟨b, rfl, hT, hb, hB1⟩
  have hB0 : Below w.heap.size w w1 := ((Below.refl _ w).alloc (Nat.le_refl _) _).trans (hB1.mono (by simp))
  clear hB1
  go_wp2_with fail
  refine (lineF_any b s0 2 _ hT).mono ?_
  rintro e w2 ⟨rfl, hB2⟩
  have hT2 := hT.below hB2
  have hB0 := hB0.trans (hB2.mono hB0.size)
  clear hT hB2
  rw [f2, f3]
  go_wp2_with fail
  refine (spot_any b s0 6 _ hT2).mono ?_
  rintro e w3 ⟨rfl, hB3⟩
  have hT3 := hT2.below hB3
  have hB0 := hB0.trans (hB3.mono hB0.size)
  clear hT2 hB3
  rw [f4.1, f4.2.1, f4.2.2]
  go_wp2_with fail
  refine (place_any b s0 2 3 _ hT3).mono ?_
  rintro e w4 ⟨rfl, hB4⟩
  have hT4 := hT3.below hB4
  have hB0 := hB0.trans (hB4.mono hB0.size)
  clear hT3 hB4
  rw [f5.1, f5.2]
  go_wp2_with fail
  refine (lines_any b s0 _ hT4).mono ?_
  rintro e w5 ⟨rfl, rfl⟩
  rw [f1]
  go_wp2
  go_ret
  exact ⟨rfl, hB0⟩
end Go.Proofs.Ytkkplmkpemajfab.Sp
