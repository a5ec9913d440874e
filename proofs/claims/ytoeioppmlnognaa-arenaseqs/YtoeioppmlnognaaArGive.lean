import Derived.Test.YtoeioppmlnognaaArLink
namespace Go.Proofs.Ytoeioppmlnognaa.Ar
open Go.RowKit

set_option maxHeartbeats 1600000 in
set_option maxRecDepth 100000 in
theorem give_any {w : World} {g : Nat} {o : Lo} {c : Cs} {size nl used free : Nat} {freed : Int} (h : Mem w g o c size nl used free freed) {x : Nat} (hx : x < used) (hf : free ≤ 4194304) :
    Calls Try.prog 56 #[.pointer (some ⟨g, 0, none⟩), I x] w fun e w' => e = .returned (I (c.vl x)) ∧ MF w w' g o (c.give x freed) size nl used (free + 1) x := by
  have hxs : x < size := Nat.lt_of_lt_of_le hx h.us
  obtain ⟨b, hb⟩ := h.page hx
  obtain ⟨s0, s1, s2, s3, sf⟩ := h.cellsS hxs hb
  obtain ⟨_, _, _, _, _, a5⟩ := h.cellsA
  have HM : Hid (MF w w g o c size nl used free freed) := ⟨h, Fr.refl _ _⟩
  have HC : Hid (free ≤ 4194304) := hf
  clear h hf
  go_enter Try.func56, Try.ntmps56
  go_wp2_with fail
  refine (at_any HM.out.1 hxs hb).mono ?_
  rintro e w0 ⟨rfl, rfl⟩
  go_upto_region 4 with fail
  have HM1 : Hid (MF w0 ((((w0.setCell ⟨b, x % 64 * 4, none⟩ (I freed)).setCell ⟨b, x % 64 * 4 + 1, none⟩ (I 0)).setCell ⟨b, x % 64 * 4 + 2, none⟩ (I (-1))).setCell ⟨b, x % 64 * 4 + 3, none⟩ (I 0)) g o (c.give x freed) size nl used free freed) :=
    (((HM.out.putB0 hb freed).putB1 hb 0).putLi hb (-1)).putV hb 0
  generalize ((((w0.setCell ⟨b, x % 64 * 4, none⟩ (I freed)).setCell ⟨b, x % 64 * 4 + 1, none⟩ (I 0)).setCell ⟨b, x % 64 * 4 + 2, none⟩ (I (-1))).setCell ⟨b, x % 64 * 4 + 3, none⟩ (I 0)) = w1 at *
  clear HM s0 s1 s2 s3 sf a5
  obtain ⟨_, _, _, _, _, a5⟩ := HM1.out.1.cellsA
  have f5 := (HM1.out.1.blkA 5).2
  go_upto_region 5 with fail
  have HM2 : Hid (MF w0 (w1.setCell ⟨g, 5, none⟩ (I x)) g o (c.give x freed) size nl used free x) := HM1.out.putFreed x
  generalize w1.setCell ⟨g, 5, none⟩ (I x) = w2 at *
  clear HM1 a5 f5
  obtain ⟨_, _, _, _, a4, _⟩ := HM2.out.1.cellsA
  have f4 := (HM2.out.1.blkA 4).2
  have hf0 : (0 : Int) ≤ (free : Int) := by omega
  have hf1 : (free : Int) ≤ 4194304 := by have := HC.out; omega
  go_wp2
  go_ret
  refine ⟨rfl, ?_⟩
  have := HM2.out.putFree (free + 1)
  rw [show ((free + 1 : Nat) : Int) = (free : Int) + 1 by omega] at this
  exact this
end Go.Proofs.Ytoeioppmlnognaa.Ar
