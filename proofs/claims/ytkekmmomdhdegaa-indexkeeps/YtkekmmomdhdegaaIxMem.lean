import Derived.Test.YtkekmmomdhdegaaRows
import Derived.Test.YtkekmmomdhdegaaPureIx2
import Derived.WalkKit
import Derived.WalkSpells
import Derived.WalkLawsBesides
import Derived.Deep.QuietTactic
import Derived.BigQuiet
import Derived.Deep.LoopGhost
import Derived.Laws.MakeOwn
import Derived.Laws.CopyOwn
import Derived.Laws.OwnMore
import Derived.Deep.RegionLaw
import Derived.Lib.Buffer
namespace Go.Proofs.Ytkekmmomdhdegaa.Ix
open Go.RowKit

abbrev I (n : Int) : Value := .int .i64 n
abbrev U (n : Nat) : Value := .int .u64 n
theorem bel_drewN (w : World) (n : Nat) : Below w.heap.size w (w.drewN n) := by
  induction n with
  | zero => exact Below.refl _ _
  | succ n ih => exact ih.drew

/-- of the blocks that were, only those of F have turned -/
structure Fr (F : List Nat) (w w' : World) : Prop where
  os : w'.os = w.os
  tape : w'.tape = w.tape
  output : w'.output = w.output
  size : w.heap.size ≤ w'.heap.size
  block : ∀ k, k < w.heap.size → k ∉ F → w'.heap[k]? = w.heap[k]?
theorem Fr.refl (F : List Nat) (w : World) : Fr F w w := ⟨rfl, rfl, rfl, Nat.le_refl _, fun _ _ _ => rfl⟩
theorem Fr.trans {F F' : List Nat} {a b c : World} (h : Fr F a b) (k : Fr F' b c) (hF : ∀ x ∈ F', x ∈ F ∨ a.heap.size ≤ x) : Fr F a c :=
  ⟨k.os.trans h.os, k.tape.trans h.tape, k.output.trans h.output, Nat.le_trans h.size k.size, fun i hi hn => (k.block i (Nat.lt_of_lt_of_le hi h.size) (fun hm => (hF i hm).elim hn (fun h => by omega))).trans (h.block i hi hn)⟩
theorem Fr.of_below {F : List Nat} {w w' : World} (h : Below w.heap.size w w') : Fr F w w' := ⟨h.os, h.tape, h.output, h.size, fun k hk _ => h.block k hk⟩
theorem Fr.below {w w' : World} (h : Fr [] w w') : Below w.heap.size w w' := ⟨h.os, h.tape, h.output, h.size, fun k hk => h.block k hk (by simp)⟩
theorem Fr.set {F : List Nat} (w : World) {g : Nat} (i : Nat) (v : Value) (hg : g ∈ F) : Fr F w (w.setCell ⟨g, i, none⟩ v) :=
  ⟨rfl, rfl, rfl, by simp [World.setCell], fun k _ hk => Below.heap_setCell w _ v k (by rintro rfl; exact hk hg)⟩
theorem Fr.mono {F F' : List Nat} {w w' : World} (h : Fr F w w') (hs : ∀ x ∈ F, x ∈ F') : Fr F' w w' := ⟨h.os, h.tape, h.output, h.size, fun k hk hn => h.block k hk (fun hm => hn (hs k hm))⟩

theorem ne_of_type {w : World} {a b : Nat} {c c' : Array Value} {T T' : TypeId} {f f' : Nat × Nat} (h : w.heap[a]? = some (.cells c T f)) (h' : w.heap[b]? = some (.cells c' T' f')) (hT : T ≠ T') : a ≠ b := by
  rintro rfl
  rw [h] at h'
  cases h'
  exact hT rfl
theorem set_blk {w : World} {b i : Nat} {cs : Array Value} {T : TypeId} {f : Nat × Nat} {v : Value} (h : w.heap[b]? = some (.cells cs T f)) : (w.setCell ⟨b, i, none⟩ v).heap[b]? = some (.cells (cs.setIfInBounds i v) T f) := by
  simp [World.setCell, Array.getElem?_modify, h]
theorem set_other {w : World} {b i k : Nat} {v : Value} (h : k ≠ b) : (w.setCell ⟨b, i, none⟩ v).heap[k]? = w.heap[k]? := Below.heap_setCell w _ v k h
theorem set_get {cs : Array Value} {i j : Nat} {v u : Value} (h : cs[j]? = some u) : (cs.setIfInBounds i v)[j]? = some (if i = j then v else u) := by
  have hj := (Array.getElem?_eq_some_iff.1 h).1
  rw [Array.getElem?_setIfInBounds]
  split
  · rename_i e
    subst e
    simp [hj]
  · rw [h]
/-- and, of numbers, with a power of two less one -/
theorem and_mask (x : Int) {b : Nat} (hb : b ≤ 22) : ((BitVec.ofInt 64 x &&& BitVec.ofInt 64 ((2 * 2 ^ b : Nat) - 1 : Int)).toNat : Int) = x % (2 * 2 ^ b : Nat) := by
  have h1 := two_pos b
  have h2 := Nat.pow_le_pow_right (n := 2) (by omega) hb
  have e1 : (2 * 2 ^ b : Nat) = 2 ^ (b + 1) := by rw [Nat.pow_succ, Nat.mul_comm]
  have e2 : (((2 * 2 ^ b : Nat) - 1 : Int) % (18446744073709551616 : Int)).toNat = 2 ^ (b + 1) - 1 := by rw [← e1]; omega
  rw [BitVec.toNat_and, BitVec.toNat_ofInt, BitVec.toNat_ofInt]
  rw [show ((2 ^ 64 : Nat) : Int) = (18446744073709551616 : Int) from rfl, e2, Nat.and_two_pow_sub_one_eq_mod, ← e1]
  have h3 : (0 : Int) ≤ x % 18446744073709551616 := Int.emod_nonneg _ (by omega)
  rw [Int.natCast_emod, Int.toNat_of_nonneg h3]
  apply Int.emod_emod_of_dvd
  refine ⟨((2 ^ (63 - b) : Nat) : Int), ?_⟩
  rw [← Int.natCast_mul, e1, ← Nat.pow_add, show b + 1 + (63 - b) = 64 by omega]
  rfl
theorem D_mod {n a c : Nat} (ha : a < n) (hc : c < n) : ((c : Int) - (a : Int)) % (n : Int) = (D n a c : Nat) := by
  unfold D
  split
  · rw [Int.emod_eq_of_lt (by omega) (by omega)]; omega
  · have : ((c : Int) - (a : Int)) % (n : Int) = ((c : Int) - (a : Int) + n) % n := by rw [Int.add_emod_right]
    rw [this, Int.emod_eq_of_lt (by omega) (by omega)]; omega
theorem nx_mod {n p : Nat} (hp : p < n) : ((p : Int) + 1) % (n : Int) = (nx n p : Nat) := by
  unfold nx
  split
  · rw [Int.emod_eq_of_lt (by omega) (by omega)]; omega
  · have : ((p : Int) + 1) = (n : Int) := by omega
    rw [this, Int.emod_self]
    rfl
theorem slots_eq {b n : Nat} (hb : b ≤ 22) (hn : n = 2 * 2 ^ b) : wrap64 ((2 : Int) * 2 ^ b) = (n : Int) := by
  have h2 := Nat.pow_le_pow_right (n := 2) (by omega) hb
  have e : (2 : Int) * 2 ^ b = ((2 * 2 ^ b : Nat) : Int) := by rw [Int.natCast_mul, Int.natCast_pow]; rfl
  rw [e, ← hn]
  unfold wrap64
  omega
theorem home_eq {b k : Nat} (hb : b ≤ 22) : wrap64 (IntKind.u64.wrap ((k : Int) * 11400714819323198485) / 2 ^ (63 - b)) = (hm b k : Nat) := by
  have h1 := hm_lt (k := k) hb
  have h2 := Nat.pow_le_pow_right (n := 2) (by omega) hb
  have e : IntKind.u64.wrap ((k : Int) * 11400714819323198485) / 2 ^ (63 - b) = (hm b k : Nat) := by
    have e1 : IntKind.u64.wrap ((k : Int) * 11400714819323198485) = ((k * 11400714819323198485 % 18446744073709551616 : Nat) : Int) := by
      simp [IntKind.wrap, IntKind.bits, IntKind.signed]
    rw [e1]
    unfold hm
    rw [Int.natCast_ediv, Int.natCast_pow]
    rfl
  rw [e]
  unfold wrap64
  omega
theorem mask_eq {b n : Nat} (x : Int) (hb : b ≤ 22) (hn : n = 2 * 2 ^ b) : bits .and .i64 x ((n : Int) - 1) = x % (n : Int) := by
  have h2 := Nat.pow_le_pow_right (n := 2) (by omega) hb
  have h1 := two_pos b
  have e : bits .and .i64 x ((n : Int) - 1) = IntKind.i64.wrap ((BitVec.ofInt 64 x &&& BitVec.ofInt 64 ((n : Int) - 1)).toNat : Int) := rfl
  rw [e]
  subst hn
  rw [and_mask x hb]
  have h3 : (0 : Int) ≤ x % ((2 * 2 ^ b : Nat) : Int) := Int.emod_nonneg _ (by omega)
  have h4 : x % ((2 * 2 ^ b : Nat) : Int) < ((2 * 2 ^ b : Nat) : Int) := Int.emod_lt_of_pos _ (by omega)
  rw [IntKind.wrap_i64]
  omega
theorem eql_nil {P : Program} (w : World) (t e : TypeId) (a : Option Addr) (l c : Nat) (h : P.underlying t = some (.slice e)) : (binOp .eql t (.slice a l c) (.slice none 0 0)).run P w = .ok (.bool a.isNone) w := by
  simp only [binOp]
  simp [run_equal_slice_nil w t e a l c h]
end Go.Proofs.Ytkekmmomdhdegaa.Ix
