import Derived.Test.YtnpdblcfhbamiaaGreatK01
import Derived.Test.YtnpdblcfhbamiaaGreatRows
import Derived.WalkKit
import Derived.WalkSpells
import Derived.WalkLawsBesides
import Derived.Deep.QuietTactic
import Derived.BigQuiet
import Derived.Deep.LoopGhost
import Derived.Lib.BufferWrite
import Derived.Laws.MakeOwn
import Derived.Laws.CopyOwn
set_option maxHeartbeats 3200000
namespace Go.Proofs.YtnpdblcfhbamiaaGreat.Lx
open Go.Proofs.YtnpdblcfhbamiaaGreat.Sp
/-- a text's bytes as numbers -/
def tx (s : ByteArray) : List Nat := s.data.toList.map UInt8.toNat
theorem tx_len (s : ByteArray) : (tx s).length = s.size := by rw [tx, List.length_map]; rfl
/-- byte k, as a number -/
def nb (s : ByteArray) (k : Nat) : Nat := (tx s).getD k 0
theorem nb_bt (s : ByteArray) (k : Nat) : (nb s k : Int) = bt s k := by
  unfold nb bt tx
  rw [List.getD, List.getD, List.getElem?_map]
  cases s.data.toList[k]? <;> rfl
theorem tx_drop {s : ByteArray} {i : Nat} (h : i < s.size) : (tx s).drop i = nb s i :: (tx s).drop (i + 1) := by
  have h1 : i < (tx s).length := by rw [tx_len]; exact h
  rw [List.drop_eq_getElem_cons h1]
  simp [nb, List.getD, h1]
theorem tx_drop_end {s : ByteArray} {i : Nat} (h : s.size ≤ i) : (tx s).drop i = [] := List.drop_eq_nil_of_le (by rw [tx_len]; exact h)
/-- the place behind blanks and remarks; behind a remark -/
def bl (s : ByteArray) (i : Nat) : Nat := s.size - (blk false ((tx s).drop i)).length
def rl (s : ByteArray) (i : Nat) : Nat := s.size - (blk true ((tx s).drop i)).length
theorem bl_end {s : ByteArray} {i : Nat} (h : s.size ≤ i) : bl s i = s.size := by simp [bl, tx_drop_end h, blk]
theorem rl_end {s : ByteArray} {i : Nat} (h : s.size ≤ i) : rl s i = s.size := by simp [rl, tx_drop_end h, blk]
theorem bl_blank {s : ByteArray} {i : Nat} (h : i < s.size) (hb : isB (nb s i) = true) : bl s i = bl s (i + 1) := by
  unfold bl; rw [tx_drop h]; simp only [blk, hb, if_true]
theorem bl_hash {s : ByteArray} {i : Nat} (h : i < s.size) (hb : nb s i = 35) : bl s i = rl s i := by
  unfold bl rl; rw [tx_drop h, hb]
  simp [blk, isB]
theorem rl_nl {s : ByteArray} {i : Nat} (h : i < s.size) (hb : nb s i = 10) : rl s i = bl s i := by
  unfold bl rl; rw [tx_drop h, hb]
  simp [blk, isB]
theorem rl_other {s : ByteArray} {i : Nat} (h : i < s.size) (hb : nb s i ≠ 10) : rl s i = rl s (i + 1) := by
  unfold rl; rw [tx_drop h]
  have : (nb s i != 10) = true := by simpa using hb
  simp only [blk, this]
theorem bl_stop {s : ByteArray} {i : Nat} (h : i < s.size) (hb : isS (nb s i) = false) : bl s i = i := by
  unfold bl; rw [tx_drop h, blk_head hb, ← tx_drop h, List.length_drop, tx_len]; omega
theorem bl_le (s : ByteArray) (i : Nat) : bl s i ≤ s.size := by unfold bl; omega
theorem bl_ge {s : ByteArray} {i : Nat} (h : i ≤ s.size) : i ≤ bl s i := by
  have h1 := blk_len false ((tx s).drop i)
  rw [List.length_drop, tx_len] at h1
  unfold bl; omega
/-- what stands there -/
theorem bl_drop {s : ByteArray} {i : Nat} (h : i ≤ s.size) : (tx s).drop (bl s i) = blk false ((tx s).drop i) := by
  obtain ⟨p, h1, _⟩ := blk_split false ((tx s).drop i)
  have h2 := congrArg List.length h1
  simp only [List.length_drop, List.length_append, tx_len] at h2
  have h3 := blk_len false ((tx s).drop i)
  rw [List.length_drop, tx_len] at h3
  have e : bl s i = i + p.length := by unfold bl; omega
  rw [e, ← List.drop_drop]
  have h4 : (p ++ blk false ((tx s).drop i)).drop p.length = blk false ((tx s).drop i) := by simp
  rw [← h1] at h4
  exact h4
/-- where a run of bytes ends -/
def ru (p : Nat → Bool) (s : ByteArray) (i : Nat) : Nat := i + (((tx s).drop i).takeWhile p).length
theorem ru_in {p : Nat → Bool} {s : ByteArray} {i : Nat} (h : i < s.size) (hp : p (nb s i) = true) : ru p s i = ru p s (i + 1) := by
  unfold ru; rw [tx_drop h, List.takeWhile_cons, if_pos hp, List.length_cons]; omega
theorem ru_out {p : Nat → Bool} {s : ByteArray} {i : Nat} (h : i < s.size) (hp : p (nb s i) = false) : ru p s i = i := by
  unfold ru; rw [tx_drop h, List.takeWhile_cons, hp]; rfl
theorem ru_end {p : Nat → Bool} {s : ByteArray} {i : Nat} (h : s.size ≤ i) : ru p s i = i := by
  unfold ru; rw [tx_drop_end h]; rfl
theorem ru_le {p : Nat → Bool} {s : ByteArray} {i : Nat} (h : i ≤ s.size) : i ≤ ru p s i ∧ ru p s i ≤ s.size := by
  have h1 := takeWhile_len (p := p) ((tx s).drop i)
  rw [List.length_drop, tx_len] at h1
  unfold ru; omega
/-- what stands in a list between two bytes 32 that have no other between -/
def inner : List Nat → List (List Nat)
  | [] => []
  | c :: r => if c = 32 then (if (r.dropWhile (· != 32)).isEmpty then [] else [r.takeWhile (· != 32)]) ++ inner r else inner r
def Occurs (K t : List Nat) (i : Nat) : Prop := ∃ a b, K = a ++ 32 :: (t ++ 32 :: b) ∧ a.length = i
theorem take_drop_while (p : Nat → Bool) (l : List Nat) : l = l.takeWhile p ++ l.dropWhile p := (List.takeWhile_append_dropWhile).symm
theorem while_of {t b : List Nat} (ht : ∀ c ∈ t, c ≠ 32) : (t ++ 32 :: b).takeWhile (· != 32) = t ∧ (t ++ 32 :: b).dropWhile (· != 32) = 32 :: b := by
  induction t with
  | nil => simp
  | cons c t ih =>
    have h1 : (c != 32) = true := by simpa using ht c (by simp)
    have h2 := ih fun x hx => ht x (by simp [hx])
    rw [List.cons_append, List.takeWhile_cons, List.dropWhile_cons, if_pos h1, if_pos h1, h2.1, h2.2]
    exact ⟨rfl, rfl⟩
theorem dropWhile_head {l : List Nat} (h : (l.dropWhile (· != 32)).isEmpty = false) : ∃ b, l.dropWhile (· != 32) = 32 :: b := by
  induction l with
  | nil => simp at h
  | cons c r ih =>
    rw [List.dropWhile_cons] at h ⊢
    split
    · rename_i h1; rw [if_pos h1] at h; exact ih h
    · rename_i h1
      have : c = 32 := by simpa using h1
      exact ⟨r, by rw [this]⟩
theorem inner_iff {K t : List Nat} (ht : ∀ c ∈ t, c ≠ 32) : t ∈ inner K ↔ ∃ i, Occurs K t i := by
  induction K with
  | nil =>
    constructor
    · intro h; cases h
    · rintro ⟨i, a, b, h, _⟩; simp at h
  | cons c r ih =>
    constructor
    · intro h
      have up : t ∈ inner r → ∃ i, Occurs (c :: r) t i := by
        intro h1
        obtain ⟨i, a, b, e, hl⟩ := ih.1 h1
        exact ⟨i + 1, c :: a, b, by rw [e]; rfl, by simp [hl]⟩
      simp only [inner] at h
      split at h
      · rename_i hc
        rcases List.mem_append.1 h with h1 | h1
        · split at h1
          · cases h1
          · rename_i h2
            obtain ⟨b, hb⟩ := dropWhile_head (by simpa using h2)
            have h3 : t = r.takeWhile (· != 32) := by simpa using h1
            refine ⟨0, [], b, ?_, rfl⟩
            rw [List.nil_append, hc, h3, ← hb, ← take_drop_while]
        · exact up h1
      · exact up h
    · rintro ⟨i, a, b, e, hl⟩
      simp only [inner]
      cases a with
      | nil =>
        rw [List.nil_append] at e
        injection e with e1 e2
        have hw := while_of (b := b) ht
        rw [if_pos e1, e2, hw.1, hw.2]
        simp
      | cons x a =>
        rw [List.cons_append] at e
        injection e with e1 e2
        have h1 := ih.2 ⟨a.length, a, b, e2, rfl⟩
        split
        · exact List.mem_append.2 (Or.inr h1)
        · exact h1
def keptText : List Nat := bytes " policy queue resident ghost var in tag require rule on hit miss if else loop while set mark insert move forget shift evict to drop call pass front back x true false len cap size total empty full at min max "
def signs : List (List Nat) := [[123], [125], [40], [41], [59], [44], [46, 46], [61], [61, 61], [33, 61], [60], [60, 61], [62], [62, 61], [43], [45], [42], [47], [38, 38], [124, 124], [33]]
def signText : List Nat := 32 :: signs.flatMap fun t => t ++ [32]
theorem inner_kept : inner keptText = kept := by decide +kernel
theorem inner_signs : inner signText = signs := by decide +kernel
theorem signs_two (c d : Nat) : [c, d] ∈ signs ↔ sign2.contains [c, d] = true := by simp [signs, sign2]
theorem signs_one (c : Nat) : [c] ∈ signs ↔ sign1.contains c = true := by simp [signs, sign1]
end Go.Proofs.YtnpdblcfhbamiaaGreat.Lx
namespace Go.Proofs.YtnpdblcfhbamiaaGreat.Lx
open Go.RowKit Go.Proofs.YtnpdblcfhbamiaaGreat.Sp
/-- the slice at ao holds the bytes of s (as many as it has) -/
def IsBytes (w : World) (ao : Option Addr) (s : ByteArray) : Prop := ∀ i, i < s.size → ∃ g o, ao = some ⟨g, o, none⟩ ∧ g < w.heap.size ∧ w.cell? ⟨g, o + i, none⟩ = some (.int .u8 (nb s i : Nat))
theorem IsBytes.below {w w' : World} {ao : Option Addr} {s : ByteArray} (h : IsBytes w ao s) (hb : Below w.heap.size w w') : IsBytes w' ao s := by
  intro i hi
  obtain ⟨g, o, e, hg, hc⟩ := h i hi
  exact ⟨g, o, e, Nat.lt_of_lt_of_le hg hb.size, (hb.cell (p := ⟨g, o + i, none⟩) hg).trans hc⟩
theorem IsBytes.drewN {w : World} {ao : Option Addr} {s : ByteArray} (h : IsBytes w ao s) (n : Nat) : IsBytes (w.drewN n) ao s := by
  intro i hi
  obtain ⟨g, o, e, hg, hc⟩ := h i hi
  exact ⟨g, o, e, hg, hc⟩
theorem below_drewN (w : World) (n : Nat) : Below w.heap.size w (w.drewN n) := by
  induction n with
  | zero => exact Below.refl _ _
  | succ n ih => exact ih.drew
theorem nb_lt (s : ByteArray) (k : Nat) : nb s k ≤ 255 := by
  have h1 := nb_bt s k
  have h2 := bt_bd s k
  omega
theorem nb_get (s : ByteArray) (i : Nat) (h : i < s.size) : nb s i = s[i].toNat := by
  unfold nb tx
  have e : s.data.toList[i]? = some s[i] := byte_at s i h
  simp only [List.getD, List.getElem?_map, e, Option.map_some, Option.getD_some]
theorem info5 : (Tryz.prog.info? 5).map (fun i => (i.zero, i.size, i.bytes)) = some (some (.int .u8 0), 1, 1) := by kernel_rfl
theorem size5 (w : World) : (Go.sizeOf 5).run Tryz.prog w = .ok 1 w := by
  obtain ⟨i0, hi, hz0, hz1, hz2⟩ := info_parts info5
  simp [Go.sizeOf, typeInfo, hi, hz1]
theorem elem160 : Tryz.prog.elem 160 = 5 := by simp [Program.elem, Tryz.underlying160]
theorem elem161 : Tryz.prog.elem 161 = 5 := by simp [Program.elem, Tryz.underlying161]
theorem empty_of_size {s : ByteArray} (h : s.size = 0) : s = ByteArray.empty := by
  apply ByteArray.ext
  exact Array.eq_empty_of_size_eq_zero h
theorem conv_none {T : TypeId} (hT : Tryz.prog.underlying T = some (.slice 5)) (ao : Option Addr) (cap : Nat) (w : World) : (convert T 9 (.slice ao 0 cap)).run Tryz.prog w = .ok (.string ByteArray.empty) w := by
  rw [run_convert_bytes_string w T 9 5 ao 0 cap hT Tryz.underlying5 Tryz.underlying9]
  cases ao with
  | none => simp [Conv.bytesToString]
  | some a =>
    have hl : (loadCells a 0).run Tryz.prog w = .ok (([] : List Int).map (Value.int .u8)).toArray w := run_loadCells_list (P := Tryz.prog) w a [] (fun j v h => by simp at h)
    rw [run_bytesToString w a 0 cap [] hl]
    rfl
theorem conv_any {T : TypeId} (hT : Tryz.prog.underlying T = some (.slice 5)) (ao : Option Addr) (s : ByteArray) (cap : Nat) (w : World) (h : IsBytes w ao s) : (convert T 9 (.slice ao s.size cap)).run Tryz.prog w = .ok (.string s) w := by
  by_cases h0 : s.size = 0
  · rw [h0, conv_none hT, empty_of_size h0]
  · obtain ⟨g, o, rfl, _, _⟩ := h 0 (by omega)
    refine Lib.run_convert_whole (P := Tryz.prog) w T 5 9 hT Tryz.underlying5 Tryz.underlying9 g o s (fun i hi => ?_) cap
    obtain ⟨g', o', e, _, hc⟩ := h i hi
    simp at e
    obtain ⟨rfl, rfl⟩ := e
    rw [hc, nb_get s i hi]
/-- b[l:h] of a slice -/
theorem IsBytes.cut {w : World} {ao : Option Addr} {s : ByteArray} (hb : IsBytes w ao s) {l h : Nat} (hlh : l ≤ h) (hh : h ≤ s.size) : IsBytes w (ao.map (·.add l)) (s.extract l h) := by
  intro i hi
  have hz : (s.extract l h).size = h - l := by simp [ByteArray.size_extract]; omega
  obtain ⟨g, o, rfl, hg, hc⟩ := hb (l + i) (by omega)
  refine ⟨g, o + l, by simp [Lib.addr_add], hg, ?_⟩
  rw [show o + l + i = o + (l + i) by omega, hc]
  congr 3
  rw [nb_get _ _ (by omega), nb_get _ _ (by omega)]
  congr 1
  rw [ByteArray.getElem_extract]
theorem cut_any {T : TypeId} (hT : Tryz.prog.underlying T = some (.slice 5)) (ao : Option Addr) (s : ByteArray) (cap l h : Nat) (hc : s.size ≤ cap) (hlh : l ≤ h) (hh : h ≤ s.size) :
    ∃ A C, (∀ w, (Instr.slice T (.slice ao s.size cap) (some (.int .i64 (l : Int))) (some (.int .i64 (h : Int))) none).run Tryz.prog w = .ok (.slice A (h - l) C) w) ∧ (∀ w, IsBytes w ao s → IsBytes w A (s.extract l h)) ∧ h - l ≤ C ∧ (s.extract l h).size = h - l := by
  have hE : Tryz.prog.elem T = 5 := by simp [Program.elem, hT]
  have hT' : Tryz.prog.underlying T = some (.slice (Tryz.prog.elem T)) := by rw [hE]; exact hT
  have hz : (s.extract l h).size = h - l := by simp [ByteArray.size_extract]; omega
  refine ⟨if cap = l then ao else ao.map (·.add l), cap - l, fun w => ?_, fun w hb => ?_, ?_, hz⟩
  · have h1 := run_slice_lh (P := Tryz.prog) w T ao s.size cap hT' .i64 .i64 (l : Int) (h : Int) (by omega) (by omega) (by omega)
    rw [hE, size5] at h1
    rw [h1]
    simp only [Result.andThen, sliced, Int.toNat_natCast, Nat.mul_one]
  · by_cases e : cap = l
    · intro i hi
      omega
    · rw [if_neg e]
      exact hb.cut hlh hh
  · omega
theorem front_any {T : TypeId} (hT : Tryz.prog.underlying T = some (.slice 5)) (ao : Option Addr) (n cap h : Nat) (hh : h ≤ cap) (w : World) :
    (Instr.slice T (.slice ao n cap) none (some (.int .i64 (h : Int))) none).run Tryz.prog w = .ok (.slice ao h cap) w := by
  have hE : Tryz.prog.elem T = 5 := by simp [Program.elem, hT]
  have hT' : Tryz.prog.underlying T = some (.slice (Tryz.prog.elem T)) := by rw [hE]; exact hT
  have h1 := run_slice_h (P := Tryz.prog) w T ao n cap hT' .i64 (h : Int) (by omega) (by omega)
  rw [hE, size5] at h1
  rw [h1]
  simp only [Result.andThen, sliced, Int.toNat_natCast, Nat.sub_zero, Nat.zero_mul]
  have e : Option.map (fun x => Addr.add x 0) ao = ao := by cases ao <;> simp [Addr.add]
  rw [e]
  split <;> rfl
theorem IsBytes.front {w : World} {ao : Option Addr} {s : ByteArray} (hb : IsBytes w ao s) (h : Nat) (hh : h ≤ s.size) : IsBytes w ao (s.extract 0 h) := by
  have hz : (s.extract 0 h).size = h := by simp [ByteArray.size_extract]; omega
  intro i hi
  obtain ⟨g, o, rfl, hg, hc⟩ := hb i (by omega)
  refine ⟨g, o, rfl, hg, ?_⟩
  rw [hc, nb_get _ _ (by omega), nb_get _ _ (by omega), ByteArray.getElem_extract]
  simp
theorem tx_extract (s : ByteArray) (l h : Nat) : tx (s.extract l h) = ((tx s).drop l).take (h - l) := by
  unfold tx
  rw [Lib.extract_data, List.map_take, List.map_drop]
theorem ret_b {a b : Bool} (h : a = b) : Ending.returned (.bool a) = .returned (.bool b) := by rw [h]
theorem ret_i {k : IntKind} {a b : Int} (h : a = b) : Ending.returned (.int k a) = .returned (.int k b) := by rw [h]
end Go.Proofs.YtnpdblcfhbamiaaGreat.Lx
namespace Go.Proofs.YtnpdblcfhbamiaaGreat.Nm
open Go.RowKit Go.Proofs.YtnpdblcfhbamiaaGreat.Sp Go.Proofs.YtnpdblcfhbamiaaGreat.Lx
/-- of what kind a thing is that a row declares (1 queue, 2 var, 3 tag, 4 rule; 0 none) -/
def decl (k : Int) : Nat := if k = 2 ∨ k = 3 then 1 else if k = 4 then 2 else if k = 5 then 3 else if k = 7 then 4 else 0
/-- of what kind the thing is that a row names -/
def nmd (k : Int) : Nat :=
  if k = 8 ∨ k = 9 ∨ k = 16 ∨ k = 17 ∨ k = 21 ∨ k = 19 ∨ k = 20 ∨ k = 24 ∨ k = 26 ∨ k = 31 ∨ k = 32 ∨ k = 35 ∨ k = 36 ∨ k = 37 then 1
  else if k = 14 ∨ k = 28 then 2 else if k = 15 ∨ k = 38 then 3 else if k = 22 then 4 else 0
def mst (k : Nat) : Nat := if k = 1 then 16 else if k = 2 then 16 else if k = 3 then 4 else if k = 4 then 64 else 0
theorem nmd_le (k : Int) : nmd k ≤ 4 := by
  unfold nmd
  repeat' split
  all_goals omega
theorem decl_le (k : Int) : decl k ≤ 4 := by
  unfold decl
  repeat' split
  all_goals omega
theorem declared_any (k : Int) (w : World) : Calls Tryz.prog 38 #[.int .i64 k] w fun e w' => e = .returned (.int .i64 (decl k : Nat)) ∧ w' = w := by
  have HD : Hid (decl k = if k = 2 ∨ k = 3 then 1 else if k = 4 then 2 else if k = 5 then 3 else if k = 7 then 4 else 0) := rfl
  generalize decl k = z at *
  go_enter Tryz.func38, Tryz.ntmps38
  go_wp2
  all_goals
    go_ret
    refine ⟨?_, rfl⟩
    rw [HD.out]
    simp_all
theorem named_any (k : Int) (w : World) : Calls Tryz.prog 43 #[.int .i64 k] w fun e w' => e = .returned (.int .i64 (nmd k : Nat)) ∧ w' = w := by
  have HD : Hid (nmd k = if k = 8 ∨ k = 9 ∨ k = 16 ∨ k = 17 ∨ k = 21 ∨ k = 19 ∨ k = 20 ∨ k = 24 ∨ k = 26 ∨ k = 31 ∨ k = 32 ∨ k = 35 ∨ k = 36 ∨ k = 37 then 1 else if k = 14 ∨ k = 28 then 2 else if k = 15 ∨ k = 38 then 3 else if k = 22 then 4 else 0) := rfl
  generalize nmd k = z at *
  go_enter Tryz.func43, Tryz.ntmps43
  go_wp2
  all_goals
    go_ret
    refine ⟨?_, rfl⟩
    rw [HD.out]
    simp_all
/-- sums up to MaxSum -/
def pls (a b : Nat) : Nat := min a (4611686018427387904 - b) + b
theorem plus_any (a b : Nat) (ha : a ≤ 4611686018427387904) (hb : b ≤ 4611686018427387904) (w : World) : Calls Tryz.prog 48 #[.int .i64 a, .int .i64 b] w fun e w' => e = .returned (.int .i64 (pls a b : Nat)) ∧ w' = w := by
  have h1 : (a : Int) ≤ 4611686018427387904 := by omega
  have h2 : (b : Int) ≤ 4611686018427387904 := by omega
  have HP : Hid ((pls a b : Int) = min (a : Int) (4611686018427387904 - (b : Int)) + b) := by
    show _ = _
    unfold pls
    omega
  go_enter Tryz.func48, Tryz.ntmps48
  go_wp2
  all_goals
    go_ret
    refine ⟨?_, rfl⟩
    rw [HP.out]
    first | rfl | simp
theorem pls_le (a b : Nat) (hb : b ≤ 4611686018427387904) : pls a b ≤ 4611686018427387904 := by unfold pls; omega
end Go.Proofs.YtnpdblcfhbamiaaGreat.Nm
namespace Go.Proofs.YtnpdblcfhbamiaaGreat.Lx
open Go.RowKit Go.Proofs.YtnpdblcfhbamiaaGreat.Sp
/-- an append either stays in its block, or leaves all blocks as they were -/
theorem run_append_keep {P : Program} (w : World) (base : Nat) (t ty e : TypeId) (i : TypeInfo) (z : Value) (size bytes : Nat) (ht : P.underlying t = some (.slice e)) (hi : P.info? e = some i) (hz : i.zero = some z)
    (hsize : i.size = size) (hby : i.bytes = bytes) (hzs : z.cells.size = size) (hsz : 0 < size)
    (v : Value) (n : Nat) (xs : List Value) (hown : w.ownsRow base e size v n xs)
    (a : Addr) (m c : Nat) (news : List Value) (hl : news.length = m * size) (hnews : ∀ j u, news[j]? = some u → w.cell? (a.add j) = some u) (h1 : ∀ u ∈ news, u.oneCell' = true)
    (h63 : n + m ≤ maxLen) (hbytes : (n + m) * bytes ≤ 140737488355328) (hbase : base ≤ w.heap.size) (hm : 0 < m) :
    ∃ v' w', (Builtin.append_ #[t, t] ty #[v, .slice (some a) m c]).run P w = .ok v' w' ∧ w'.ownsRow base e size v' (n + m) (xs ++ news) ∧ w.grownBy w' v.ownBlock ∧
      ((∃ g, v.ownBlock = some g ∧ v'.ownBlock = some g) ∨ ((∀ k, k < w.heap.size → w'.heap[k]? = w.heap[k]?) ∧ ∀ g, v'.ownBlock = some g → w.heap.size ≤ g)) := by
  obtain ⟨v', w', hr, h2, h3, _⟩ := run_append_own (P := P) w base t ty e i z size bytes ht hi hz hsize hby hzs hsz v n xs hown a m c news hl hnews h1 h63 hbytes hbase
  refine ⟨v', w', hr, h2, h3, ?_⟩
  subst hsize
  subst hby
  have hsmall : n + m ≤ 9223372036854775807 := by simp only [maxLen] at h63; omega
  rcases hown.2 with ⟨rfl, rfl⟩ | ⟨g, cap, cur, rfl, hbg, hg, hnc, hcm, hcs, htake⟩
  · right
    have hr2 := run_append_nil (P := P) w t ty e i z ht hi hz a m c news hl hnews (by omega) (by omega) (by have hb := hbytes; simp only [Nat.zero_add] at hb; omega)
    rw [hr2] at hr
    cases hr
    refine ⟨fun k hk => Below.heap_alloc w.drew _ k hk, fun g hg => ?_⟩
    simp only [Value.ownBlock, Option.some.injEq] at hg
    omega
  · by_cases hroom : n + m ≤ cap
    · left
      have hfit : n * i.size + news.length ≤ cur.size := by rw [hl, hcs, ← Nat.add_mul]; exact Nat.mul_le_mul_right _ hroom
      have hr2 := run_append_room (P := P) w t ty e i ht hi g n cap cur hg a m c news hl hnews h1 hroom hfit
      rw [hr2] at hr
      cases hr
      exact ⟨g, rfl, rfl⟩
    · right
      have holds : ∀ j u, xs[j]? = some u → w.cell? ((⟨g, 0, none⟩ : Addr).add j) = some u := hown.cells (g := g) rfl
      have hr2 := run_append_grow (P := P) w t ty e i z ht hi hz ⟨g, 0, none⟩ n cap xs hown.1 holds a m c news hl hnews (by omega) (by omega) (growslice_fits (by omega) hbytes)
      rw [hr2] at hr
      cases hr
      refine ⟨fun k hk => Below.heap_alloc w.drew _ k hk, fun g hg => ?_⟩
      simp only [Value.ownBlock, Option.some.injEq] at hg
      omega
theorem append_keep {P : Program} (w : World) {ops : Array Oper} {rest : List Oper} {o : Oper} {a : Act} {Q : Exit → Act → World → Prop} (hgd : o.guard = none) (s x : Operand) (t : TypeId)
    (ho : o.op = .call { callee := .builtin .append, args := #[s, x], argTypes := #[t, t] })
    (base : Nat) (e : TypeId) (i : TypeInfo) (z : Value) (size bytes : Nat) (ht : P.underlying t = some (.slice e)) (hi : P.info? e = some i) (hz : i.zero = some z)
    (hsize : i.size = size) (hby : i.bytes = bytes) (hzs : z.cells.size = size) (hsz : 0 < size)
    (v : Value) (n : Nat) (xs : List Value) (hs : a.eval s = v) (hown : w.ownsRow base e size v n xs)
    (ad : Addr) (m c : Nat) (news : List Value) (hx : a.eval x = .slice (some ad) m c) (hl : news.length = m * size) (hnews : ∀ j u, news[j]? = some u → w.cell? (ad.add j) = some u) (h1 : ∀ u ∈ news, u.oneCell' = true)
    (h63 : n + m ≤ maxLen) (hbytes : (n + m) * bytes ≤ 140737488355328) (hbase : base ≤ w.heap.size) (hm : 0 < m)
    (h : ∀ v' w', w'.ownsRow base e size v' (n + m) (xs ++ news) → w.grownBy w' v.ownBlock → ((∃ g, v.ownBlock = some g ∧ v'.ownBlock = some g) ∨ ((∀ k, k < w.heap.size → w'.heap[k]? = w.heap[k]?) ∧ ∀ g, v'.ownBlock = some g → w.heap.size ≤ g)) → wpList P ops Q rest (a.put o.dst v') w') : wpList P ops Q (o :: rest) a w := by
  refine wpList_plain hgd fun K hK => ?_
  obtain ⟨v', w', hr, h2, h3, h4⟩ := run_append_keep (P := P) w base t o.type e i z size bytes ht hi hz hsize hby hzs hsz v n xs hown ad m c news hl hnews h1 h63 hbytes hbase hm
  unfold Oper.wp execOp
  simp only [ho, resolve, invoke, builtin, Sem.run_bind, Sem.run_pure, Result.andThen_ok, List.map_toArray, List.map_cons, List.map_nil, hs, hx, hr]
  exact hK _ _ (h v' w' h2 h3 h4)
end Go.Proofs.YtnpdblcfhbamiaaGreat.Lx
