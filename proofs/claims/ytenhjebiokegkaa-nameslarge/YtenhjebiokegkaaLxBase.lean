import Derived.Test.YtenhjebiokegkaaRows
import Derived.Test.YtenhjebiokegkaaPureLexC
import Derived.WalkKit
import Derived.WalkSpells
import Derived.WalkLawsBesides
import Derived.Deep.QuietTactic
import Derived.BigQuiet
import Derived.Deep.LoopGhost
import Derived.Lib.BufferWrite
import Derived.Laws.MakeOwn
import Derived.Laws.CopyOwn
namespace Go.Proofs.Ytenhjebiokegkaa.Lx
open Go.RowKit Go.Proofs.Ytenhjebiokegkaa.Sp

/-- the slice at ao holds the bytes of s (as many as it has) -/
def IsBytes (w : World) (ao : Option Addr) (s : ByteArray) : Prop := ∀ i, i < s.size → ∃ g o, ao = some ⟨g, o, none⟩ ∧ g < w.heap.size ∧ w.cell? ⟨g, o + i, none⟩ = some (.int .u8 (nb s i : Nat))
theorem IsBytes.below {w w' : World} {ao : Option Addr} {s : ByteArray} (h : IsBytes w ao s) (hb : Below w.heap.size w w') : IsBytes w' ao s := by
  intro i hi
  obtain ⟨g, o, e, hg, hc⟩ := h i hi
  exact ⟨g, o, e, Nat.lt_of_lt_of_le hg hb.size, (hb.cell (p := ⟨g, o + i, none⟩) hg).trans hc⟩
theorem IsBytes.drewN {w : World} {ao : Option Addr} {s : ByteArray} (h : IsBytes w ao s) (n : Nat) : IsBytes (w.drewN n) ao s := by
  intro i hi
  obtain ⟨g, o, e, hg, hc⟩ := h i hi
  exact ⟨g, o, e, hg, hc⟩
theorem below_drewN (w : World) (n : Nat) : Below w.heap.size w (w.drewN n) := by
  induction n with
  | zero => exact Below.refl _ _
  | succ n ih => exact ih.drew

theorem nb_lt (s : ByteArray) (k : Nat) : nb s k ≤ 255 := by
  have h1 := nb_bt s k
  have h2 := bt_bd s k
  omega
theorem nb_get (s : ByteArray) (i : Nat) (h : i < s.size) : nb s i = s[i].toNat := by
  unfold nb tx
  have e : s.data.toList[i]? = some s[i] := byte_at s i h
  simp only [List.getD, List.getElem?_map, e, Option.map_some, Option.getD_some]

theorem info5 : (Try.prog.info? 5).map (fun i => (i.zero, i.size, i.bytes)) = some (some (.int .u8 0), 1, 1) := by kernel_rfl
theorem size5 (w : World) : (Go.sizeOf 5).run Try.prog w = .ok 1 w := by
  obtain ⟨i0, hi, hz0, hz1, hz2⟩ := info_parts info5
  simp [Go.sizeOf, typeInfo, hi, hz1]
theorem elem48 : Try.prog.elem 48 = 5 := by simp [Program.elem, Try.underlying48]
theorem elem99 : Try.prog.elem 99 = 5 := by simp [Program.elem, Try.underlying99]

theorem empty_of_size {s : ByteArray} (h : s.size = 0) : s = ByteArray.empty := by
  apply ByteArray.ext
  exact Array.eq_empty_of_size_eq_zero h
theorem conv_none {T : TypeId} (hT : Try.prog.underlying T = some (.slice 5)) (ao : Option Addr) (cap : Nat) (w : World) : (convert T 9 (.slice ao 0 cap)).run Try.prog w = .ok (.string ByteArray.empty) w := by
  rw [run_convert_bytes_string w T 9 5 ao 0 cap hT Try.underlying5 Try.underlying9]
  cases ao with
  | none => simp [Conv.bytesToString]
  | some a =>
    have hl : (loadCells a 0).run Try.prog w = .ok (([] : List Int).map (Value.int .u8)).toArray w := run_loadCells_list (P := Try.prog) w a [] (fun j v h => by simp at h)
    rw [run_bytesToString w a 0 cap [] hl]
    rfl
theorem conv_any {T : TypeId} (hT : Try.prog.underlying T = some (.slice 5)) (ao : Option Addr) (s : ByteArray) (cap : Nat) (w : World) (h : IsBytes w ao s) : (convert T 9 (.slice ao s.size cap)).run Try.prog w = .ok (.string s) w := by
  by_cases h0 : s.size = 0
  · rw [h0, conv_none hT, empty_of_size h0]
  · obtain ⟨g, o, rfl, _, _⟩ := h 0 (by omega)
    refine Lib.run_convert_whole (P := Try.prog) w T 5 9 hT Try.underlying5 Try.underlying9 g o s (fun i hi => ?_) cap
    obtain ⟨g', o', e, _, hc⟩ := h i hi
    simp at e
    obtain ⟨rfl, rfl⟩ := e
    rw [hc, nb_get s i hi]

/-- b[l:h] of a slice -/
theorem IsBytes.cut {w : World} {ao : Option Addr} {s : ByteArray} (hb : IsBytes w ao s) {l h : Nat} (hlh : l ≤ h) (hh : h ≤ s.size) : IsBytes w (ao.map (·.add l)) (s.extract l h) := by
  intro i hi
  have hz : (s.extract l h).size = h - l := by simp [ByteArray.size_extract]; omega
  obtain ⟨g, o, rfl, hg, hc⟩ := hb (l + i) (by omega)
  refine ⟨g, o + l, by simp [Lib.addr_add], hg, ?_⟩
  rw [show o + l + i = o + (l + i) by omega, hc]
  congr 3
  rw [nb_get _ _ (by omega), nb_get _ _ (by omega)]
  congr 1
  rw [ByteArray.getElem_extract]
theorem cut_any {T : TypeId} (hT : Try.prog.underlying T = some (.slice 5)) (ao : Option Addr) (s : ByteArray) (cap l h : Nat) (hc : s.size ≤ cap) (hlh : l ≤ h) (hh : h ≤ s.size) :
    ∃ A C, (∀ w, (Instr.slice T (.slice ao s.size cap) (some (.int .i64 (l : Int))) (some (.int .i64 (h : Int))) none).run Try.prog w = .ok (.slice A (h - l) C) w) ∧ (∀ w, IsBytes w ao s → IsBytes w A (s.extract l h)) ∧ h - l ≤ C ∧ (s.extract l h).size = h - l := by
  have hE : Try.prog.elem T = 5 := by simp [Program.elem, hT]
  have hT' : Try.prog.underlying T = some (.slice (Try.prog.elem T)) := by rw [hE]; exact hT
  have hz : (s.extract l h).size = h - l := by simp [ByteArray.size_extract]; omega
  refine ⟨if cap = l then ao else ao.map (·.add l), cap - l, fun w => ?_, fun w hb => ?_, ?_, hz⟩
  · have h1 := run_slice_lh (P := Try.prog) w T ao s.size cap hT' .i64 .i64 (l : Int) (h : Int) (by omega) (by omega) (by omega)
    rw [hE, size5] at h1
    rw [h1]
    simp only [Result.andThen, sliced, Int.toNat_natCast, Nat.mul_one]
  · by_cases e : cap = l
    · intro i hi
      omega
    · rw [if_neg e]
      exact hb.cut hlh hh
  · omega
theorem front_any {T : TypeId} (hT : Try.prog.underlying T = some (.slice 5)) (ao : Option Addr) (n cap h : Nat) (hh : h ≤ cap) (w : World) :
    (Instr.slice T (.slice ao n cap) none (some (.int .i64 (h : Int))) none).run Try.prog w = .ok (.slice ao h cap) w := by
  have hE : Try.prog.elem T = 5 := by simp [Program.elem, hT]
  have hT' : Try.prog.underlying T = some (.slice (Try.prog.elem T)) := by rw [hE]; exact hT
  have h1 := run_slice_h (P := Try.prog) w T ao n cap hT' .i64 (h : Int) (by omega) (by omega)
  rw [hE, size5] at h1
  rw [h1]
  simp only [Result.andThen, sliced, Int.toNat_natCast, Nat.sub_zero, Nat.zero_mul]
  have e : Option.map (fun x => Addr.add x 0) ao = ao := by cases ao <;> simp [Addr.add]
  rw [e]
  split <;> rfl
theorem IsBytes.front {w : World} {ao : Option Addr} {s : ByteArray} (hb : IsBytes w ao s) (h : Nat) (hh : h ≤ s.size) : IsBytes w ao (s.extract 0 h) := by
  have hz : (s.extract 0 h).size = h := by simp [ByteArray.size_extract]; omega
  intro i hi
  obtain ⟨g, o, rfl, hg, hc⟩ := hb i (by omega)
  refine ⟨g, o, rfl, hg, ?_⟩
  rw [hc, nb_get _ _ (by omega), nb_get _ _ (by omega), ByteArray.getElem_extract]
  simp
theorem tx_extract (s : ByteArray) (l h : Nat) : tx (s.extract l h) = ((tx s).drop l).take (h - l) := by
  unfold tx
  rw [Lib.extract_data, List.map_take, List.map_drop]

theorem ret_b {a b : Bool} (h : a = b) : Ending.returned (.bool a) = .returned (.bool b) := by rw [h]
theorem ret_i {k : IntKind} {a b : Int} (h : a = b) : Ending.returned (.int k a) = .returned (.int k b) := by rw [h]
end Go.Proofs.Ytenhjebiokegkaa.Lx
