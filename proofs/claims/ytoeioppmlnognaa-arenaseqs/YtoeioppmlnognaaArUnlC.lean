import Derived.Test.YtoeioppmlnognaaArIdx
namespace Go.Proofs.Ytoeioppmlnognaa.Ar
open Go.RowKit

set_option maxHeartbeats 1600000 in
set_option maxRecDepth 100000 in
theorem unlinksn {w : World} {g : Nat} {o : Lo} {c : Cs} {size nl used free : Nat} {freed : Int} (h : Mem w g o c size nl used free freed) {x i b : Nat} (hx : x < used) (hb : o.ps[x / 64]? = some b) (hi : i < nl) (hl : c.li x = i) (hc : c.ct i ≤ 4194304) (hc0 : 0 < c.ct i) {z0 b0 : Nat} (h0 : c.bs x 0 = z0) (hu0 : z0 < used) (hp0 : o.ps[z0 / 64]? = some b0) (h1 : c.bs x 1 = -1) (hzx : x ≠ z0) :
    Calls Try.prog 53 #[.pointer (some ⟨g, 0, none⟩), I x] w fun e w' => e = .returned (.tuple #[]) ∧ MF w w' g o (c.unlink x i) size nl used free freed := by
  have hxs : x < size := Nat.lt_of_lt_of_le hx h.us
  obtain ⟨_, a1, _⟩ := h.cellsA
  rw [h.lo (by omega)] at a1
  obtain ⟨s0, s1, s2, _, _⟩ := h.cellsS hxs hb
  rw [hl] at s2
  rw [h0] at s0
  rw [h1] at s1
  have hi' : (i : Int) < (nl : Int) := by omega
  have HM : Hid (MF w w g o c size nl used free freed) := ⟨h, Fr.refl _ _⟩
  have HC : Hid (c.ct i ≤ 4194304 ∧ 0 < c.ct i) := ⟨hc, hc0⟩
  have hs0 : z0 < size := Nat.lt_of_lt_of_le hu0 h.us
  have hn0 : ((z0 : Int) == -1) = false := by simp
  have hm0 : ¬ ((z0 : Int) = -1) := by omega
  clear h hc hc0
  have ix0 := idx0
  have ix1 := idx1
  go_enter Try.func53, Try.ntmps53
  go_wp2_with fail
  refine (at_any HM.out.1 hxs hb).mono ?_
  rintro e w0 ⟨rfl, rfl⟩
  go_wp2_with fail
  go_quiet (fail)
  have HM1 : Hid (MF w0 (w0.drewN nq) g o c size nl used free freed) := HM.out.drewN nq
  obtain ⟨s0, s1, _, _, _⟩ := HM1.out.1.cellsS hxs hb
  rw [h0] at s0
  rw [h1] at s1
  generalize w0.drewN nq = w1 at *
  go_wp2_with fail
  refine wp_loop_rounds 3 ?_
  rw [rounds_succ]
  obtain ⟨t0, t1, _, _, tf⟩ := HM1.out.1.cellsS hs0 hp0
  go_wp2_with fail
  go_region_with (go_at_call 58; refine (at_any HM1.out.drew.1 hs0 hp0).mono ?_; rintro e w' ⟨rfl, rfl⟩)
  all_goals (
    have HM2 : Hid (MF w0 (w1.setCell ⟨b0, z0 % 64 * 4 + 1, none⟩ (I (-1))).drew g o _ size nl used free freed) := (HM1.out.putB1 hp0 (-1)).drew
    generalize (w1.setCell ⟨b0, z0 % 64 * 4 + 1, none⟩ (I (-1))).drew = w2 at *
    clear HM1 t0 t1 tf s0 s1
    obtain ⟨s0, s1, _, _, _⟩ := HM2.out.1.cellsS hxs hb
    dsimp only at s0 s1
    rw [up2_ne _ _ (by omega)] at s0 s1
    rw [h0] at s0
    rw [h1] at s1
    go_wp2_with fail
    rw [rounds_succ]
    obtain ⟨l0, l1, _, lf⟩ := HM2.out.1.cellsL hi
    go_wp2_with fail
    go_region
    have HM3 : Hid (MF w0 (w2.setCell ⟨o.lb, i * 3 + 1, none⟩ (I z0)).drew g o _ size nl used free freed) := (HM2.out.putLa1 hi z0).drew
    generalize (w2.setCell ⟨o.lb, i * 3 + 1, none⟩ (I z0)).drew = w3 at *
    clear HM2 l0 l1 lf s0 s1
    go_wp2_with fail
    rw [rounds_succ]
    obtain ⟨_, _, l2, lf⟩ := HM3.out.1.cellsL hi
    have hc1 : ((c.ct i : Nat) : Int) ≤ 4194304 := by have := HC.out.1; omega
    have hc0 : (1 : Int) ≤ ((c.ct i : Nat) : Int) := by have := HC.out.2; omega
    dsimp only at l2
    go_wp2
    go_end0
    refine ⟨rfl, ?_⟩
    have := HM3.out.putCt hi (c.ct i - 1)
    rw [show ((c.ct i - 1 : Nat) : Int) = (c.ct i : Int) - 1 by omega] at this
    have hxz : ¬ (x = z0) := hzx
    simpa [Cs.unlink, Cs.un1, h0, h1, up2, hxz, hm0] using this)
end Go.Proofs.Ytoeioppmlnognaa.Ar
