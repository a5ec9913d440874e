import Derived.Test.YtoeioppmlnognaaArModel
import Derived.Test.YtoeioppmlnognaaArFresh
import Derived.Test.YtoeioppmlnognaaArGive
namespace Go.Proofs.Ytoeioppmlnognaa.Ar
open Go.RowKit

section
variable {w : World} {g : Nat} {o : Lo} {c : Cs} {size nl used free : Nat} {freed : Int}
set_option maxHeartbeats 1600000 in
set_option maxRecDepth 100000 in
theorem take_old (h : Mem w g o c size nl used free freed) {x : Nat} (hx : x < used) (hfx : freed = x) (hf : 0 < free) (hf1 : free ≤ 4194304) :
    Calls Try.prog 57 #[.pointer (some ⟨g, 0, none⟩)] w fun e w' => e = .returned (I x) ∧ MF w w' g o c size nl used (free - 1) (c.bs x 0) := by
  subst hfx
  have hxs : x < size := Nat.lt_of_lt_of_le hx h.us
  obtain ⟨b, hb⟩ := h.page hx
  obtain ⟨_, _, _, _, a4, _⟩ := h.cellsA
  have f4 := (h.blkA 4).2
  have q0 : (1 : Int) ≤ (free : Int) := by omega
  have q1 : (free : Int) ≤ 4194304 := by omega
  have HM : Hid (MF w w g o c size nl used free x) := ⟨h, Fr.refl _ _⟩
  have qx : ((x : Int) == -1) = false := by simp
  clear h hf hf1 hx
  go_enter Try.func57, Try.ntmps57
  go_upto_region 2 with fail
  have HM1 : Hid (MF w (w.setCell ⟨g, 4, none⟩ (I ((free : Int) - 1))) g o c size nl used (free - 1) x) := by
    have := HM.out.putFree (free - 1)
    rw [show ((free - 1 : Nat) : Int) = (free : Int) - 1 by omega] at this
    exact this
  generalize w.setCell ⟨g, 4, none⟩ (I ((free : Int) - 1)) = w1 at *
  clear HM a4 f4 q0 q1
  obtain ⟨_, _, _, _, _, a5⟩ := HM1.out.1.cellsA
  have f5 := (HM1.out.1.blkA 5).2
  obtain ⟨s0, _⟩ := HM1.out.1.cellsS hxs hb
  go_wp2_with fail
  refine (at_any HM1.out.1 hxs hb).mono ?_
  rintro e w2 ⟨rfl, rfl⟩
  go_wp2
  go_ret
  exact ⟨rfl, HM1.out.putFreed _⟩
set_option maxHeartbeats 1600000 in
set_option maxRecDepth 100000 in
theorem take_new (h : Mem w g o c size nl used free (-1)) (hu : used < size) (hf : 0 < free) (hf1 : free ≤ 4194304) :
    Calls Try.prog 57 #[.pointer (some ⟨g, 0, none⟩)] w fun e w' => e = .returned (I used) ∧ ∃ w1, MF w w1 g o c size nl used (free - 1) (-1) ∧ Fresh w1 g o c size nl used (free - 1) (-1) w' := by
  obtain ⟨_, _, _, _, a4, _⟩ := h.cellsA
  have f4 := (h.blkA 4).2
  have q0 : (1 : Int) ≤ (free : Int) := by omega
  have q1 : (free : Int) ≤ 4194304 := by omega
  have HM : Hid (MF w w g o c size nl used free (-1)) := ⟨h, Fr.refl _ _⟩
  clear h hf hf1
  go_enter Try.func57, Try.ntmps57
  go_upto_region 2 with fail
  have HM1 : Hid (MF w (w.setCell ⟨g, 4, none⟩ (I ((free : Int) - 1))) g o c size nl used (free - 1) (-1)) := by
    have := HM.out.putFree (free - 1)
    rw [show ((free - 1 : Nat) : Int) = (free : Int) - 1 by omega] at this
    exact this
  generalize w.setCell ⟨g, 4, none⟩ (I ((free : Int) - 1)) = w1 at *
  clear HM a4 f4 q0 q1
  obtain ⟨_, _, _, _, _, a5⟩ := HM1.out.1.cellsA
  go_wp2_with fail
  refine (fresh_any HM1.out.1 hu).mono ?_
  rintro e w2 ⟨rfl, hF⟩
  have HF := show Hid _ from hF
  clear hF
  go_wp2
  go_ret
  exact ⟨rfl, w1, HM1.out, HF.out⟩
end

/-- an arena -/
def IsAr (w : World) (g : Nat) (o : Lo) (a : As) : Prop := ∃ c, Mem w g o c a.size a.nl a.used a.free (hd a.fr) ∧ Inv c a []
/-- what a call leaves -/
def Goes (w : World) (g : Nat) (o : Lo) (a' : As) (w' : World) : Prop := ∃ o', IsAr w' g o' a' ∧ Fr (o.foot g a'.nl) w w' ∧ ∀ k ∈ o'.foot g a'.nl, k ∈ o.foot g a'.nl ∨ w.heap.size ≤ k
/-- what take leaves -/
def Took (w : World) (g : Nat) (o : Lo) (a : As) (x : Nat) (free : Nat) (w' : World) : Prop := ∃ o' c', Mem w' g o' c' a.size a.nl a.used free (hd a.fr) ∧ Inv c' a [x] ∧ Fr (o.foot g a.nl) w w' ∧ ∀ k ∈ o'.foot g a.nl, k ∈ o.foot g a.nl ∨ w.heap.size ≤ k

theorem take_any {w : World} {g : Nat} {o : Lo} {a : As} (h : IsAr w g o a) (hf : a.free ≠ 0) :
    Calls Try.prog 57 #[.pointer (some ⟨g, 0, none⟩)] w fun e w' => e = .returned (I (a.take.1 : Nat)) ∧ Took w g o a.take.2 a.take.1 (a.free - 1) w' := by
  obtain ⟨c, hm, hi⟩ := h
  have hf1 : a.free ≤ 4194304 := Nat.le_trans hi.free_le hm.sz
  cases hfr : a.fr with
  | nil =>
    have hu : a.used < a.size := by
      unfold As.free at hf
      rw [hfr] at hf
      simp at hf
      omega
    have e : a.take = (a.used, { a with used := a.used + 1 }) := by unfold As.take; rw [hfr]
    rw [e]
    rw [hfr] at hm
    refine (take_new hm hu (by omega) hf1).mono ?_
    rintro r w' ⟨rfl, w1, hm1, o', c', hm2, fr2, fo2, la2, ct2, x2⟩
    refine ⟨rfl, o', c', ?_, ?_, ?_, ?_⟩
    · show Mem w' g o' c' a.size a.nl (a.used + 1) (a.free - 1) (hd a.fr)
      rw [hfr]
      exact hm2
    · refine (hi.fresh hu).agree la2 ct2 fun x hx hn => ?_
      have hx1 : x < a.used + 1 := hx
      have hne : x ≠ a.used := by simpa using hn
      have hx' := x2 x (by omega)
      exact ⟨fun e _ => hx'.1 e, hx'.2⟩
    · exact hm1.2.trans fr2 (fun _ hx => Or.inl hx)
    · exact fun k hk => (fo2 k hk).imp id (fun h => Nat.le_trans hm1.2.size h)
  | cons x t =>
    have e : a.take = (x, { a with fr := t }) := by unfold As.take; rw [hfr]
    rw [e]
    obtain ⟨hi2, hb⟩ := hi.take hfr
    have hx : x < a.used := (hi.flt x (by rw [hfr]; simp)).1
    rw [hfr] at hm
    refine (take_old hm hx rfl (by omega) hf1).mono ?_
    rintro r w' ⟨rfl, hm1⟩
    rw [hb] at hm1
    exact ⟨rfl, o, c, hm1.1, hi2, hm1.2, fun k hk => Or.inl hk⟩
end Go.Proofs.Ytoeioppmlnognaa.Ar
