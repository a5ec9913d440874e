import Derived.Test.YtoeioppmlnognaaArUnlA
import Derived.Test.YtoeioppmlnognaaArUnlB
import Derived.Test.YtoeioppmlnognaaArUnlC
import Derived.Test.YtoeioppmlnognaaArUnlD
namespace Go.Proofs.Ytoeioppmlnognaa.Ar
open Go.RowKit

/-- unlink -/
theorem unlink_any {w : World} {g : Nat} {o : Lo} {c : Cs} {size nl used free : Nat} {freed : Int} (h : Mem w g o c size nl used free freed) {x i : Nat} (hx : x < used) (hi : i < nl) (hl : c.li x = i) (hc : c.ct i ≤ 4194304) (hc0 : 0 < c.ct i)
    (hz : ∀ e, e < 2 → c.bs x e = -1 ∨ ∃ z : Nat, c.bs x e = z ∧ z < used ∧ x ≠ z) :
    Calls Try.prog 53 #[.pointer (some ⟨g, 0, none⟩), I x] w fun r w' => r = .returned (.tuple #[]) ∧ MF w w' g o (c.unlink x i) size nl used free freed := by
  obtain ⟨b, hb⟩ := h.page hx
  rcases hz 0 (by omega) with h0 | ⟨z0, h0, u0, n0⟩
  · rcases hz 1 (by omega) with h1 | ⟨z1, h1, u1, _⟩
    · exact unlinknn h hx hb hi hl hc hc0 h0 h1
    · obtain ⟨b1, p1⟩ := h.page u1
      exact unlinkns h hx hb hi hl hc hc0 h0 h1 u1 p1
  · obtain ⟨b0, p0⟩ := h.page u0
    rcases hz 1 (by omega) with h1 | ⟨z1, h1, u1, _⟩
    · exact unlinksn h hx hb hi hl hc hc0 h0 u0 p0 h1 n0
    · obtain ⟨b1, p1⟩ := h.page u1
      exact unlinkss h hx hb hi hl hc hc0 h0 u0 p0 h1 u1 p1 n0
end Go.Proofs.Ytoeioppmlnognaa.Ar
