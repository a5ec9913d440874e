import Derived.Test.YtngoolkojnoplaaLxToks
namespace Go.Proofs.Ytngoolkojnoplaa.Lx
open Go.RowKit Go.Proofs.Ytngoolkojnoplaa.Sp

set_option maxHeartbeats 1600000 in
theorem same_any (ao bo : Option Addr) (ts : List Tok) (ca cb : Nat) (w : World) (h1 : IsToks w ao ts) (h2 : IsToks w bo ts) (hn : ts.length ≤ 4611686018427387904) :
    Calls Try.prog 9 #[.slice ao ts.length ca, .slice bo ts.length cb] w fun e w' => e = .returned (.bool true) ∧ Below w.heap.size w w' := by
  have H1 : Hid (IsToks w ao ts) := h1
  have H2 : Hid (IsToks w bo ts) := h2
  clear h1 h2
  have hne : ((ts.length : Int) != (ts.length : Int)) = false := by simp
  go_enter Try.func9, Try.ntmps9
  go_wp2
  go_loopw [5] (fun i wr => ∃ k : Nat, k ≤ ts.length ∧ i = .int .i64 k ∧ Below w.heap.size w wr) (fun i _ => ts.length - (intOf i).toNat)
  case atStart => exact ⟨0, Nat.zero_le _, rfl, Below.refl _ _⟩
  case round =>
    obtain ⟨k, hk, rfl, hB⟩ := hrel
    have HB : Hid (Below w.heap.size w wr) := hB
    clear hB
    by_cases hlt : k < ts.length
    · obtain ⟨x, hx⟩ : ∃ x, ts[k]? = some x := ⟨_, List.getElem?_eq_getElem hlt⟩
      obtain ⟨g1, o1, rfl, hg1, a0, a1, a2, a3⟩ := (H1.out.below HB.out) k x hx
      obtain ⟨g2, o2, rfl, hg2, b0, b1, b2, b3⟩ := (H2.out.below HB.out) k x hx
      obtain ⟨kd, p, e, m⟩ := x
      clear hx
      simp only at a0 a1 a2 a3 b0 b1 b2 b3
      go_wp2_with fail
      go_quiet (fail)
      go_wp2
      go_roundw
      case rel => exact ⟨k + 1, by omega, by go_num, HB.out.trans ((below_drewN _ _).mono HB.out.size)⟩
      case measure => simp [intOf]; omega
    · have hd : decide ((k : Int) < (ts.length : Int)) = false := by simp; omega
      go_wp2
      go_ret
      exact ⟨rfl, HB.out⟩

end Go.Proofs.Ytngoolkojnoplaa.Lx
