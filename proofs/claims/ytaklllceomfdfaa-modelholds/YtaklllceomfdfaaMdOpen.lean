import Derived.Test.YtaklllceomfdfaaMdWtn
import Derived.ProofKit
import Derived.OpenShut
import Derived.ChangeOld
import Derived.Below
import Derived.ChangeSlices
import Derived.ChangeSame
namespace Go.Proofs.Ytaklllceomfdfaa.Md
open Go.ChangeShapes Go.WideShapes Go.ChangeAt Go.RowKit

theorem own : ownKnob Try.prog.godebug = none := by kernel_rfl
theorem laidOut : laidOutB Try.prog = true := by kernel_rfl
theorem u64_nat {z : Int} (h : (Lit.int .u64 z).wf = true) : (z.toNat : Int) = z ∧ z.toNat < 18446744073709551616 := by
  simp [Lit.wf, IntKind.min, IntKind.max, IntKind.bits, IntKind.signed] at h
  omega
/-- keys that are handed in -/
theorem open_keys {H : Type} {enc : TypeId × Value → H} {W : World} {a : Option Addr} {len cap : Nat} {d : DataW H} {p : List MemPlace} (h : DataW.Trod enc Try.prog W 0 (fun _ => true) true 23 (.slice a len cap) d p) :
    ∃ l : List Nat, len = l.length ∧ KIn W a l ∧ (∀ x ∈ l, x < 18446744073709551616) ∧ l.length ≤ maxLen := by
  obtain ⟨fuel, hf⟩ := h
  rcases open_ints Try.underlying23 Try.underlying32 (by kernel_rfl) hf with ⟨hcs, hx⟩ | ⟨x, l, c, zs, hcs, _, hl, hm, hz, hx, hcell, hwz⟩
  · simp [Value.cells] at hcs
    obtain ⟨rfl, rfl, rfl⟩ := hcs
    exact ⟨[], rfl, (fun k x hx => by simp at hx), (fun n hn => by cases hn), Nat.zero_le _⟩
  · simp [Value.cells] at hcs
    obtain ⟨rfl, rfl, rfl⟩ := hcs
    simp at hz
    refine ⟨(zs.take len).map Int.toNat, by simp; omega, fun i v hv => ?_, fun n hn => ?_, by simp; omega⟩
    · rw [List.getElem?_map, Option.map_eq_some_iff] at hv
      obtain ⟨y, hy, rfl⟩ := hv
      have hi : i < (zs.take len).length := (List.getElem?_eq_some_iff.1 hy).1
      have hi2 : i < len ∧ i < zs.length := by simp at hi; omega
      obtain ⟨b, off, spot⟩ := x
      have h0 := hcell 0 (by omega)
      have hspot : spot = none := by simpa [Addr.add] using World.cell?_spot h0
      subst hspot
      have hc := hcell i (by omega)
      rw [Lib.addr_add] at hc
      refine ⟨b, off, rfl, World.block_lt_of_cell? W _ hc, hc.trans ?_⟩
      have hy2 : zs[i]? = some y := by
        rw [List.getElem?_take_of_lt hi2.1] at hy
        exact hy
      rw [List.getD_eq_getElem?_getD, hy2]
      show some (Value.int .u64 y) = some (U y.toNat)
      unfold U
      rw [(u64_nat (hwz y (List.mem_of_getElem? hy2))).1]
    · obtain ⟨y, hy, rfl⟩ := List.mem_map.1 hn
      exact (u64_nat (hwz y (List.mem_of_mem_take hy))).2
end Go.Proofs.Ytaklllceomfdfaa.Md
