import Derived.Test.YtcblichnkakhdaaDoorVfRd
import Derived.ProofKit
import Derived.OpenShut
import Derived.ChangeSlices
namespace Go.Proofs.YtcblichnkakhdaaDoor.Vf
open Go.ChangeShapes Go.WideShapes Go.ChangeAt Go.RowKit

/-- ints that are handed in -/
theorem open_intsV {H : Type} {enc : TypeId × Value → H} {W : World} {a : Option Addr} {len cap : Nat} {d : DataW H} {p : List MemPlace} (h : DataW.Trod enc Tryd.prog W 0 (fun _ => true) true 26 (.slice a len cap) d p) :
    ∃ l : List Int, len = l.length ∧ Rd W a (iC l) ∧ l.length ≤ maxLen ∧ ∀ n ∈ l, -9223372036854775808 ≤ n ∧ n ≤ 9223372036854775807 := by
  obtain ⟨fuel, hf⟩ := h
  rcases open_ints Tryd.underlying26 Tryd.underlying3 (by kernel_rfl) hf with ⟨hcs, hx⟩ | ⟨x, l, c, zs, hcs, _, hl, hm, hz, hx, hcell, hwz⟩
  · simp [Value.cells] at hcs
    obtain ⟨rfl, rfl, rfl⟩ := hcs
    exact ⟨[], rfl, fun k x hx => by simp [iC] at hx, Nat.zero_le _, fun n hn => by cases hn⟩
  · simp [Value.cells] at hcs
    obtain ⟨rfl, rfl, rfl⟩ := hcs
    simp at hz
    refine ⟨zs.take len, by simp; omega, fun i v hv => ?_, by simp; omega, fun n hn => bounds_i64 (hwz n (List.mem_of_mem_take hn))⟩
    have hi : i < (iC (zs.take len)).length := (List.getElem?_eq_some_iff.1 hv).1
    have hi2 : i < len ∧ i < zs.length := by simp [iC] at hi; omega
    obtain ⟨b, off, spot⟩ := x
    have h0 := hcell 0 (by omega)
    have hspot : spot = none := by simpa [Addr.add] using World.cell?_spot h0
    subst hspot
    have hc := hcell i (by omega)
    rw [Lib.addr_add] at hc
    refine ⟨b, off, rfl, World.block_lt_of_cell? W _ hc, hc.trans ?_⟩
    rw [← hv]
    simp [iC, hi2.1, hi2.2, List.getD_eq_getElem?_getD]
end Go.Proofs.YtcblichnkakhdaaDoor.Vf
