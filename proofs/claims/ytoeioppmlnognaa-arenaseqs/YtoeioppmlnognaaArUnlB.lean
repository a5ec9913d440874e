import Derived.Test.YtoeioppmlnognaaArIdx
namespace Go.Proofs.Ytoeioppmlnognaa.Ar
open Go.RowKit

set_option maxHeartbeats 1600000 in
set_option maxRecDepth 100000 in
theorem unlinkns {w : World} {g : Nat} {o : Lo} {c : Cs} {size nl used free : Nat} {freed : Int} (h : Mem w g o c size nl used free freed) {x i b : Nat} (hx : x < used) (hb : o.ps[x / 64]? = some b) (hi : i < nl) (hl : c.li x = i) (hc : c.ct i ≤ 4194304) (hc0 : 0 < c.ct i) (h0 : c.bs x 0 = -1) {z1 b1 : Nat} (h1 : c.bs x 1 = z1) (hu1 : z1 < used) (hp1 : o.ps[z1 / 64]? = some b1) :
    Calls Try.prog 53 #[.pointer (some ⟨g, 0, none⟩), I x] w fun e w' => e = .returned (.tuple #[]) ∧ MF w w' g o (c.unlink x i) size nl used free freed := by
  have hxs : x < size := Nat.lt_of_lt_of_le hx h.us
  obtain ⟨_, a1, _⟩ := h.cellsA
  rw [h.lo (by omega)] at a1
  obtain ⟨s0, s1, s2, _, _⟩ := h.cellsS hxs hb
  rw [hl] at s2
  rw [h0] at s0
  rw [h1] at s1
  have hi' : (i : Int) < (nl : Int) := by omega
  have HM : Hid (MF w w g o c size nl used free freed) := ⟨h, Fr.refl _ _⟩
  have HC : Hid (c.ct i ≤ 4194304 ∧ 0 < c.ct i) := ⟨hc, hc0⟩
  have hs1 : z1 < size := Nat.lt_of_lt_of_le hu1 h.us
  have hn1 : ((z1 : Int) == -1) = false := by simp
  have hm1 : ¬ ((z1 : Int) = -1) := by omega
  clear h hc hc0
  have ix0 := idx0
  have ix1 := idx1
  go_enter Try.func53, Try.ntmps53
  go_wp2_with fail
  refine (at_any HM.out.1 hxs hb).mono ?_
  rintro e w0 ⟨rfl, rfl⟩
  go_wp2_with fail
  go_quiet (fail)
  have HM1 : Hid (MF w0 (w0.drewN nq) g o c size nl used free freed) := HM.out.drewN nq
  obtain ⟨s0, s1, _, _, _⟩ := HM1.out.1.cellsS hxs hb
  rw [h0] at s0
  rw [h1] at s1
  generalize w0.drewN nq = w1 at *
  go_wp2_with fail
  refine wp_loop_rounds 3 ?_
  rw [rounds_succ]
  obtain ⟨l0, l1, _, lf⟩ := HM1.out.1.cellsL hi
  go_wp2_with fail
  go_region
  have HM2 : Hid (MF w0 (w1.setCell ⟨o.lb, i * 3, none⟩ (I z1)).drew g o _ size nl used free freed) := (HM1.out.putLa0 hi z1).drew
  generalize (w1.setCell ⟨o.lb, i * 3, none⟩ (I z1)).drew = w2 at *
  clear HM1 l0 l1 lf s0 s1
  obtain ⟨s0, s1, _, _, _⟩ := HM2.out.1.cellsS hxs hb
  dsimp only at s0 s1
  
  rw [h0] at s0
  rw [h1] at s1
  go_wp2_with fail
  rw [rounds_succ]
  obtain ⟨t0, t1, _, _, tf⟩ := HM2.out.1.cellsS hs1 hp1
  go_wp2_with fail
  go_region_with (go_at_call 58; refine (at_any HM2.out.drew.1 hs1 hp1).mono ?_; rintro e w' ⟨rfl, rfl⟩)
  all_goals (
    have HM3 : Hid (MF w0 (w2.setCell ⟨b1, z1 % 64 * 4, none⟩ (I (-1))).drew g o _ size nl used free freed) := (HM2.out.putB0 hp1 (-1)).drew
    generalize (w2.setCell ⟨b1, z1 % 64 * 4, none⟩ (I (-1))).drew = w3 at *
    clear HM2 t0 t1 tf s0 s1
    go_wp2_with fail
    rw [rounds_succ]
    obtain ⟨_, _, l2, lf⟩ := HM3.out.1.cellsL hi
    have hc1 : ((c.ct i : Nat) : Int) ≤ 4194304 := by have := HC.out.1; omega
    have hc0 : (1 : Int) ≤ ((c.ct i : Nat) : Int) := by have := HC.out.2; omega
    dsimp only at l2
    go_wp2
    go_end0
    refine ⟨rfl, ?_⟩
    have := HM3.out.putCt hi (c.ct i - 1)
    rw [show ((c.ct i - 1 : Nat) : Int) = (c.ct i : Int) - 1 by omega] at this
    
    simpa [Cs.unlink, Cs.un1, h0, h1, up2, hm1] using this)
end Go.Proofs.Ytoeioppmlnognaa.Ar
