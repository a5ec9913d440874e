import Derived.Test.YtoeioppmlnognaaArPut
namespace Go.Proofs.Ytoeioppmlnognaa.Ar
open Go.RowKit

theorem MF.drew {w0 w : World} {g : Nat} {o : Lo} {c : Cs} {size nl used free : Nat} {freed : Int} (h : MF w0 w g o c size nl used free freed) : MF w0 w.drew g o c size nl used free freed := h.below (Below.refl _ w).drew

set_option maxHeartbeats 1600000 in
set_option maxRecDepth 100000 in
theorem link0n {w : World} {g : Nat} {o : Lo} {c : Cs} {size nl used free : Nat} {freed : Int} (h : Mem w g o c size nl used free freed) {x i b : Nat} (hx : x < used) (hb : o.ps[x / 64]? = some b) (hi : i < nl) (hc : c.ct i ≤ 4194304) (hz : c.la i 0 = -1) :
    Calls Try.prog 54 #[.pointer (some ⟨g, 0, none⟩), I x, I i, I 0] w fun e w' => e = .returned (.tuple #[]) ∧ MF w w' g o (c.link x i 0) size nl used free freed := by
  have hxs : x < size := Nat.lt_of_lt_of_le hx h.us
  obtain ⟨_, a1, _⟩ := h.cellsA
  rw [h.lo (by omega)] at a1
  have hi' : (i : Int) < (nl : Int) := by omega
  have HM : Hid (MF w w g o c size nl used free freed) := ⟨h, Fr.refl _ _⟩
  have HC : Hid (c.ct i ≤ 4194304) := hc
  clear h hc
  go_enter Try.func54, Try.ntmps54
  go_wp2_with fail
  go_quiet ((go_at_call 58; exact Calls.quiet_of_same (at_any (HM.out.drewN _).1 hxs hb)))
  have HM1 : Hid (MF w (w.drewN nq) g o c size nl used free freed) := HM.out.drewN nq
  generalize w.drewN nq = w1 at *
  obtain ⟨l0, l1, _⟩ := HM1.out.1.cellsL hi
  rw [hz] at l0
  go_upto_region 2 with fail
  clear l0 l1
  obtain ⟨_, _, s2, _, sf⟩ := HM1.out.1.cellsS hxs hb
  go_upto_region 3 with fail
  have HM2 : Hid (MF w (w1.setCell ⟨b, x % 64 * 4 + 2, none⟩ (I i)) g o _ size nl used free freed) := HM1.out.putLi hb i
  generalize w1.setCell ⟨b, x % 64 * 4 + 2, none⟩ (I i) = w2 at *
  clear HM1 s2 sf
  obtain ⟨s0, s1, _, _, sf⟩ := HM2.out.1.cellsS hxs hb
  go_region
  have HM3 : Hid (MF w ((w2.setCell ⟨b, x % 64 * 4, none⟩ (I (-1))).setCell ⟨b, x % 64 * 4 + 1, none⟩ (I (-1))).drew g o _ size nl used free freed) := ((HM2.out.putB0 hb (-1)).putB1 hb (-1)).drew
  generalize ((w2.setCell ⟨b, x % 64 * 4, none⟩ (I (-1))).setCell ⟨b, x % 64 * 4 + 1, none⟩ (I (-1))).drew = w3 at *
  clear HM2 s0 s1 sf
  obtain ⟨l0, l1, _, lf⟩ := HM3.out.1.cellsL hi
  go_upto_region 7 with fail
  have HM4 : Hid (MF w (w3.setCell ⟨o.lb, i * 3 + 1, none⟩ (I x)) g o _ size nl used free freed) := HM3.out.putLa1 hi x
  generalize w3.setCell ⟨o.lb, i * 3 + 1, none⟩ (I x) = w4 at *
  clear HM3 l0 l1 lf
  obtain ⟨l0, l1, _, lf⟩ := HM4.out.1.cellsL hi
  go_upto_region 8 with fail
  have HM5 : Hid (MF w (w4.setCell ⟨o.lb, i * 3, none⟩ (I x)) g o _ size nl used free freed) := HM4.out.putLa0 hi x
  generalize w4.setCell ⟨o.lb, i * 3, none⟩ (I x) = w5 at *
  clear HM4 l0 l1 lf
  obtain ⟨_, _, l2, lf⟩ := HM5.out.1.cellsL hi
  have hc1 : ((c.ct i : Nat) : Int) ≤ 4194304 := by have := HC.out; omega
  have hc0 : (0 : Int) ≤ ((c.ct i : Nat) : Int) := by omega
  dsimp only at l2
  go_wp2
  go_end0
  refine ⟨rfl, ?_⟩
  have := HM5.out.putCt hi (c.ct i + 1)
  rw [show ((c.ct i + 1 : Nat) : Int) = (c.ct i : Int) + 1 by omega] at this
  simpa [Cs.link, hz] using this

set_option maxHeartbeats 1600000 in
set_option maxRecDepth 100000 in
theorem link0s {w : World} {g : Nat} {o : Lo} {c : Cs} {size nl used free : Nat} {freed : Int} (h : Mem w g o c size nl used free freed) {x i b : Nat} (hx : x < used) (hb : o.ps[x / 64]? = some b) (hi : i < nl) (hc : c.ct i ≤ 4194304) {z bz : Nat} (hz : c.la i 0 = z) (hzu : z < used) (hbz : o.ps[z / 64]? = some bz) :
    Calls Try.prog 54 #[.pointer (some ⟨g, 0, none⟩), I x, I i, I 0] w fun e w' => e = .returned (.tuple #[]) ∧ MF w w' g o (c.link x i 0) size nl used free freed := by
  have hxs : x < size := Nat.lt_of_lt_of_le hx h.us
  obtain ⟨_, a1, _⟩ := h.cellsA
  rw [h.lo (by omega)] at a1
  have hi' : (i : Int) < (nl : Int) := by omega
  have HM : Hid (MF w w g o c size nl used free freed) := ⟨h, Fr.refl _ _⟩
  have HC : Hid (c.ct i ≤ 4194304) := hc
  have hzs : z < size := Nat.lt_of_lt_of_le hzu h.us
  have hzn : ((z : Int) == -1) = false := by simp
  clear h hc
  go_enter Try.func54, Try.ntmps54
  go_wp2_with fail
  go_quiet ((go_at_call 58; exact Calls.quiet_of_same (at_any (HM.out.drewN _).1 hxs hb)))
  have HM1 : Hid (MF w (w.drewN nq) g o c size nl used free freed) := HM.out.drewN nq
  generalize w.drewN nq = w1 at *
  obtain ⟨l0, l1, _⟩ := HM1.out.1.cellsL hi
  rw [hz] at l0
  go_upto_region 2 with fail
  clear l0 l1
  obtain ⟨_, _, s2, _, sf⟩ := HM1.out.1.cellsS hxs hb
  go_upto_region 3 with fail
  have HM2 : Hid (MF w (w1.setCell ⟨b, x % 64 * 4 + 2, none⟩ (I i)) g o _ size nl used free freed) := HM1.out.putLi hb i
  generalize w1.setCell ⟨b, x % 64 * 4 + 2, none⟩ (I i) = w2 at *
  clear HM1 s2 sf
  obtain ⟨s0, s1, _, _, sf⟩ := HM2.out.1.cellsS hxs hb
  go_region
  have HM3 : Hid (MF w ((w2.setCell ⟨b, x % 64 * 4, none⟩ (I (-1))).setCell ⟨b, x % 64 * 4 + 1, none⟩ (I z)).drew g o _ size nl used free freed) := ((HM2.out.putB0 hb (-1)).putB1 hb z).drew
  generalize ((w2.setCell ⟨b, x % 64 * 4, none⟩ (I (-1))).setCell ⟨b, x % 64 * 4 + 1, none⟩ (I z)).drew = w3 at *
  clear HM2 s0 s1 sf
  go_wp2_with fail
  refine (at_any HM3.out.1 hzs hbz).mono ?_
  rintro e w3' ⟨rfl, rfl⟩
  obtain ⟨s0, s1, _, _, sf⟩ := HM3.out.1.cellsS hzs hbz
  go_upto_region 7 with fail
  have HM4 : Hid (MF w (w3'.setCell ⟨bz, z % 64 * 4, none⟩ (I x)) g o _ size nl used free freed) := HM3.out.putB0 hbz x
  generalize w3'.setCell ⟨bz, z % 64 * 4, none⟩ (I x) = w4 at *
  clear HM3 s0 s1 sf
  obtain ⟨l0, l1, _, lf⟩ := HM4.out.1.cellsL hi
  go_upto_region 8 with fail
  have HM5 : Hid (MF w (w4.setCell ⟨o.lb, i * 3, none⟩ (I x)) g o _ size nl used free freed) := HM4.out.putLa0 hi x
  generalize w4.setCell ⟨o.lb, i * 3, none⟩ (I x) = w5 at *
  clear HM4 l0 l1 lf
  obtain ⟨_, _, l2, lf⟩ := HM5.out.1.cellsL hi
  have hc1 : ((c.ct i : Nat) : Int) ≤ 4194304 := by have := HC.out; omega
  have hc0 : (0 : Int) ≤ ((c.ct i : Nat) : Int) := by omega
  dsimp only at l2
  go_wp2
  go_end0
  refine ⟨rfl, ?_⟩
  have := HM5.out.putCt hi (c.ct i + 1)
  rw [show ((c.ct i + 1 : Nat) : Int) = (c.ct i : Int) + 1 by omega] at this
  simpa [Cs.link, hz] using this

set_option maxHeartbeats 1600000 in
set_option maxRecDepth 100000 in
theorem link1n {w : World} {g : Nat} {o : Lo} {c : Cs} {size nl used free : Nat} {freed : Int} (h : Mem w g o c size nl used free freed) {x i b : Nat} (hx : x < used) (hb : o.ps[x / 64]? = some b) (hi : i < nl) (hc : c.ct i ≤ 4194304) (hz : c.la i 1 = -1) :
    Calls Try.prog 54 #[.pointer (some ⟨g, 0, none⟩), I x, I i, I 1] w fun e w' => e = .returned (.tuple #[]) ∧ MF w w' g o (c.link x i 1) size nl used free freed := by
  have hxs : x < size := Nat.lt_of_lt_of_le hx h.us
  obtain ⟨_, a1, _⟩ := h.cellsA
  rw [h.lo (by omega)] at a1
  have hi' : (i : Int) < (nl : Int) := by omega
  have HM : Hid (MF w w g o c size nl used free freed) := ⟨h, Fr.refl _ _⟩
  have HC : Hid (c.ct i ≤ 4194304) := hc
  clear h hc
  go_enter Try.func54, Try.ntmps54
  go_wp2_with fail
  go_quiet ((go_at_call 58; exact Calls.quiet_of_same (at_any (HM.out.drewN _).1 hxs hb)))
  have HM1 : Hid (MF w (w.drewN nq) g o c size nl used free freed) := HM.out.drewN nq
  generalize w.drewN nq = w1 at *
  obtain ⟨l0, l1, _⟩ := HM1.out.1.cellsL hi
  rw [hz] at l1
  go_upto_region 2 with fail
  clear l0 l1
  obtain ⟨_, _, s2, _, sf⟩ := HM1.out.1.cellsS hxs hb
  go_upto_region 3 with fail
  have HM2 : Hid (MF w (w1.setCell ⟨b, x % 64 * 4 + 2, none⟩ (I i)) g o _ size nl used free freed) := HM1.out.putLi hb i
  generalize w1.setCell ⟨b, x % 64 * 4 + 2, none⟩ (I i) = w2 at *
  clear HM1 s2 sf
  obtain ⟨s0, s1, _, _, sf⟩ := HM2.out.1.cellsS hxs hb
  go_region
  have HM3 : Hid (MF w ((w2.setCell ⟨b, x % 64 * 4 + 1, none⟩ (I (-1))).setCell ⟨b, x % 64 * 4, none⟩ (I (-1))).drew g o _ size nl used free freed) := ((HM2.out.putB1 hb (-1)).putB0 hb (-1)).drew
  generalize ((w2.setCell ⟨b, x % 64 * 4 + 1, none⟩ (I (-1))).setCell ⟨b, x % 64 * 4, none⟩ (I (-1))).drew = w3 at *
  clear HM2 s0 s1 sf
  obtain ⟨l0, l1, _, lf⟩ := HM3.out.1.cellsL hi
  go_upto_region 7 with fail
  have HM4 : Hid (MF w (w3.setCell ⟨o.lb, i * 3, none⟩ (I x)) g o _ size nl used free freed) := HM3.out.putLa0 hi x
  generalize w3.setCell ⟨o.lb, i * 3, none⟩ (I x) = w4 at *
  clear HM3 l0 l1 lf
  obtain ⟨l0, l1, _, lf⟩ := HM4.out.1.cellsL hi
  go_upto_region 8 with fail
  have HM5 : Hid (MF w (w4.setCell ⟨o.lb, i * 3 + 1, none⟩ (I x)) g o _ size nl used free freed) := HM4.out.putLa1 hi x
  generalize w4.setCell ⟨o.lb, i * 3 + 1, none⟩ (I x) = w5 at *
  clear HM4 l0 l1 lf
  obtain ⟨_, _, l2, lf⟩ := HM5.out.1.cellsL hi
  have hc1 : ((c.ct i : Nat) : Int) ≤ 4194304 := by have := HC.out; omega
  have hc0 : (0 : Int) ≤ ((c.ct i : Nat) : Int) := by omega
  dsimp only at l2
  go_wp2
  go_end0
  refine ⟨rfl, ?_⟩
  have := HM5.out.putCt hi (c.ct i + 1)
  rw [show ((c.ct i + 1 : Nat) : Int) = (c.ct i : Int) + 1 by omega] at this
  simpa [Cs.link, hz] using this

set_option maxHeartbeats 1600000 in
set_option maxRecDepth 100000 in
theorem link1s {w : World} {g : Nat} {o : Lo} {c : Cs} {size nl used free : Nat} {freed : Int} (h : Mem w g o c size nl used free freed) {x i b : Nat} (hx : x < used) (hb : o.ps[x / 64]? = some b) (hi : i < nl) (hc : c.ct i ≤ 4194304) {z bz : Nat} (hz : c.la i 1 = z) (hzu : z < used) (hbz : o.ps[z / 64]? = some bz) :
    Calls Try.prog 54 #[.pointer (some ⟨g, 0, none⟩), I x, I i, I 1] w fun e w' => e = .returned (.tuple #[]) ∧ MF w w' g o (c.link x i 1) size nl used free freed := by
  have hxs : x < size := Nat.lt_of_lt_of_le hx h.us
  obtain ⟨_, a1, _⟩ := h.cellsA
  rw [h.lo (by omega)] at a1
  have hi' : (i : Int) < (nl : Int) := by omega
  have HM : Hid (MF w w g o c size nl used free freed) := ⟨h, Fr.refl _ _⟩
  have HC : Hid (c.ct i ≤ 4194304) := hc
  have hzs : z < size := Nat.lt_of_lt_of_le hzu h.us
  have hzn : ((z : Int) == -1) = false := by simp
  clear h hc
  go_enter Try.func54, Try.ntmps54
  go_wp2_with fail
  go_quiet ((go_at_call 58; exact Calls.quiet_of_same (at_any (HM.out.drewN _).1 hxs hb)))
  have HM1 : Hid (MF w (w.drewN nq) g o c size nl used free freed) := HM.out.drewN nq
  generalize w.drewN nq = w1 at *
  obtain ⟨l0, l1, _⟩ := HM1.out.1.cellsL hi
  rw [hz] at l1
  go_upto_region 2 with fail
  clear l0 l1
  obtain ⟨_, _, s2, _, sf⟩ := HM1.out.1.cellsS hxs hb
  go_upto_region 3 with fail
  have HM2 : Hid (MF w (w1.setCell ⟨b, x % 64 * 4 + 2, none⟩ (I i)) g o _ size nl used free freed) := HM1.out.putLi hb i
  generalize w1.setCell ⟨b, x % 64 * 4 + 2, none⟩ (I i) = w2 at *
  clear HM1 s2 sf
  obtain ⟨s0, s1, _, _, sf⟩ := HM2.out.1.cellsS hxs hb
  go_region
  have HM3 : Hid (MF w ((w2.setCell ⟨b, x % 64 * 4 + 1, none⟩ (I (-1))).setCell ⟨b, x % 64 * 4, none⟩ (I z)).drew g o _ size nl used free freed) := ((HM2.out.putB1 hb (-1)).putB0 hb z).drew
  generalize ((w2.setCell ⟨b, x % 64 * 4 + 1, none⟩ (I (-1))).setCell ⟨b, x % 64 * 4, none⟩ (I z)).drew = w3 at *
  clear HM2 s0 s1 sf
  go_wp2_with fail
  refine (at_any HM3.out.1 hzs hbz).mono ?_
  rintro e w3' ⟨rfl, rfl⟩
  obtain ⟨s0, s1, _, _, sf⟩ := HM3.out.1.cellsS hzs hbz
  go_upto_region 7 with fail
  have HM4 : Hid (MF w (w3'.setCell ⟨bz, z % 64 * 4 + 1, none⟩ (I x)) g o _ size nl used free freed) := HM3.out.putB1 hbz x
  generalize w3'.setCell ⟨bz, z % 64 * 4 + 1, none⟩ (I x) = w4 at *
  clear HM3 s0 s1 sf
  obtain ⟨l0, l1, _, lf⟩ := HM4.out.1.cellsL hi
  go_upto_region 8 with fail
  have HM5 : Hid (MF w (w4.setCell ⟨o.lb, i * 3 + 1, none⟩ (I x)) g o _ size nl used free freed) := HM4.out.putLa1 hi x
  generalize w4.setCell ⟨o.lb, i * 3 + 1, none⟩ (I x) = w5 at *
  clear HM4 l0 l1 lf
  obtain ⟨_, _, l2, lf⟩ := HM5.out.1.cellsL hi
  have hc1 : ((c.ct i : Nat) : Int) ≤ 4194304 := by have := HC.out; omega
  have hc0 : (0 : Int) ≤ ((c.ct i : Nat) : Int) := by omega
  dsimp only at l2
  go_wp2
  go_end0
  refine ⟨rfl, ?_⟩
  have := HM5.out.putCt hi (c.ct i + 1)
  rw [show ((c.ct i + 1 : Nat) : Int) = (c.ct i : Int) + 1 by omega] at this
  simpa [Cs.link, hz] using this

/-- link -/
theorem link_any {w : World} {g : Nat} {o : Lo} {c : Cs} {size nl used free : Nat} {freed : Int} (h : Mem w g o c size nl used free freed) {x i e : Nat} (hx : x < used) (hi : i < nl) (he : e < 2) (hc : c.ct i ≤ 4194304) (hz : c.la i e = -1 ∨ ∃ z : Nat, c.la i e = z ∧ z < used) :
    Calls Try.prog 54 #[.pointer (some ⟨g, 0, none⟩), I x, I i, I e] w fun r w' => r = .returned (.tuple #[]) ∧ MF w w' g o (c.link x i e) size nl used free freed := by
  obtain ⟨b, hb⟩ := h.page hx
  have h2 : e = 0 ∨ e = 1 := by omega
  rcases h2 with rfl | rfl
  · rcases hz with hz | ⟨z, hz, hzu⟩
    · exact link0n h hx hb hi hc hz
    · obtain ⟨bz, hbz⟩ := h.page hzu
      exact link0s h hx hb hi hc hz hzu hbz
  · rcases hz with hz | ⟨z, hz, hzu⟩
    · exact link1n h hx hb hi hc hz
    · obtain ⟨bz, hbz⟩ := h.page hzu
      exact link1s h hx hb hi hc hz hzu hbz
end Go.Proofs.Ytoeioppmlnognaa.Ar
