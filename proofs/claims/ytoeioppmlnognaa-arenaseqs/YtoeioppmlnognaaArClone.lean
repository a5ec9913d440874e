import Derived.Test.YtoeioppmlnognaaArAll
import Derived.Test.YtoeioppmlnognaaArNew
namespace Go.Proofs.Ytoeioppmlnognaa.Ar
open Go.RowKit

set_option maxHeartbeats 1600000 in
set_option maxRecDepth 100000 in
theorem cloneC_any (w : World) (b n c : Nat) (xs : List Value) (hl : xs.length = n * 3) (hc : ∀ j u, xs[j]? = some u → w.cell? ⟨b, j, none⟩ = some u) (h1 : ∀ u ∈ xs, u.oneCell' = true) (hn : n ≤ 4194304) :
    Calls Try.prog 47 #[.slice (some ⟨b, 0, none⟩) n c] w fun r w' => ∃ v, r = .returned v ∧ (∃ ad c', v = .slice (some ⟨ad, 0, none⟩) n c') ∧ w'.ownsRow w.heap.size 92 3 v n xs ∧ Below w.heap.size w w' := by
  have hnil : ∀ u : World, (binOp BinOp.eql 83 (.slice (some ⟨b, 0, none⟩) n c) (.slice none 0 0)).run Try.prog u = .ok (.bool false) u := fun _ => rfl
  obtain ⟨i0, hi, hz0, hz1, hz2⟩ := info_parts info92
  have hb1 : Below w.heap.size w (w.alloc (.cells #[] 92)) := (Below.refl _ w).alloc (Nat.le_refl _) _
  have HB : Hid (Below w.heap.size w (w.alloc (.cells #[] 92))) := hb1
  have HO : Hid ((w.alloc (.cells #[] 92)).ownsRow w.heap.size 92 3 (.slice (some ⟨w.heap.size, 0, none⟩) 0 0) 0 []) := own_mk (cur := []) rfl (Nat.le_refl _) (heap_alloc_new w _) (Nat.le_refl _) (Nat.zero_le _) rfl rfl
  have HC : Hid ((∀ j u, xs[j]? = some u → (w.alloc (.cells #[] 92)).cell? ((⟨b, 0, none⟩ : Addr).add j) = some u) ∧ (∀ u ∈ xs, u.oneCell' = true) ∧ xs.length = n * 3 ∧ n ≤ 4194304) := by
    refine ⟨fun j u hu => ?_, h1, hl, hn⟩
    have e := hc j u hu
    have hlt := World.block_lt_of_cell? w _ e
    rw [Lib.addr_add]
    simp only [Nat.zero_add]
    rw [World.cell?_of_block (a := ⟨b, j, none⟩) (Below.heap_alloc w _ b hlt)]
    exact e
  clear hl hc h1 hn hb1
  go_enter Try.func47, Try.ntmps47
  go_wp2_with (at_builtin; refine wpList_append_own _ rfl _ _ 83 rfl w.heap.size 92 i0 (.agg #[.int .i64 0, .int .i64 0, .int .i64 0]) 3 24 Try.underlying83 hi hz0 hz1 hz2 rfl (by decide) (.slice (some ⟨w.heap.size, 0, none⟩) 0 0) 0 [] rfl HO.out ⟨b, 0, none⟩ n c xs rfl HC.out.2.2.1 HC.out.1 HC.out.2.1 ?c3 ?c4 ?c5 ?_)
  case c3 => have := HC.out.2.2.2; unfold maxLen; omega
  case c4 => have := HC.out.2.2.2; omega
  case c5 => exact HB.out.size
  intro v' w2 ho hg hiff
  have HR : Hid (w2.ownsRow w.heap.size 92 3 v' n xs ∧ Below w.heap.size w w2) := ⟨ho, HB.out.grown hg HB.out.size (fun k e => by cases e; exact Nat.le_refl _)⟩
  have hform : ∃ ad c', v' = .slice (some ⟨ad, 0, none⟩) n c' := by
    rcases ho.2 with ⟨e1, _⟩ | ⟨g, cap, cur, e1, _⟩
    · exact absurd e1 hiff
    · exact ⟨g, cap, e1⟩
  obtain ⟨ad, c', rfl⟩ := hform
  clear ho hg hiff
  go_wp2
  go_ret
  exact ⟨_, rfl, ⟨ad, c', rfl⟩, HR.out.1, HR.out.2⟩

set_option maxHeartbeats 1600000 in
set_option maxRecDepth 100000 in
theorem cloneS_any (w : World) (b n c : Nat) (xs : List Value) (hl : xs.length = n * 4) (hc : ∀ j u, xs[j]? = some u → w.cell? ⟨b, j, none⟩ = some u) (h1 : ∀ u ∈ xs, u.oneCell' = true) (hn : n ≤ 4194304) :
    Calls Try.prog 48 #[.slice (some ⟨b, 0, none⟩) n c] w fun r w' => ∃ v, r = .returned v ∧ (∃ ad c', v = .slice (some ⟨ad, 0, none⟩) n c') ∧ w'.ownsRow w.heap.size 96 4 v n xs ∧ Below w.heap.size w w' := by
  have hnil : ∀ u : World, (binOp BinOp.eql 93 (.slice (some ⟨b, 0, none⟩) n c) (.slice none 0 0)).run Try.prog u = .ok (.bool false) u := fun _ => rfl
  obtain ⟨i0, hi, hz0, hz1, hz2⟩ := info_parts info96
  have hb1 : Below w.heap.size w (w.alloc (.cells #[] 96)) := (Below.refl _ w).alloc (Nat.le_refl _) _
  have HB : Hid (Below w.heap.size w (w.alloc (.cells #[] 96))) := hb1
  have HO : Hid ((w.alloc (.cells #[] 96)).ownsRow w.heap.size 96 4 (.slice (some ⟨w.heap.size, 0, none⟩) 0 0) 0 []) := own_mk (cur := []) rfl (Nat.le_refl _) (heap_alloc_new w _) (Nat.le_refl _) (Nat.zero_le _) rfl rfl
  have HC : Hid ((∀ j u, xs[j]? = some u → (w.alloc (.cells #[] 96)).cell? ((⟨b, 0, none⟩ : Addr).add j) = some u) ∧ (∀ u ∈ xs, u.oneCell' = true) ∧ xs.length = n * 4 ∧ n ≤ 4194304) := by
    refine ⟨fun j u hu => ?_, h1, hl, hn⟩
    have e := hc j u hu
    have hlt := World.block_lt_of_cell? w _ e
    rw [Lib.addr_add]
    simp only [Nat.zero_add]
    rw [World.cell?_of_block (a := ⟨b, j, none⟩) (Below.heap_alloc w _ b hlt)]
    exact e
  clear hl hc h1 hn hb1
  go_enter Try.func48, Try.ntmps48
  go_wp2_with (at_builtin; refine wpList_append_own _ rfl _ _ 93 rfl w.heap.size 96 i0 (.agg #[.int .i64 0, .int .i64 0, .int .i64 0, .int .i64 0]) 4 32 Try.underlying93 hi hz0 hz1 hz2 rfl (by decide) (.slice (some ⟨w.heap.size, 0, none⟩) 0 0) 0 [] rfl HO.out ⟨b, 0, none⟩ n c xs rfl HC.out.2.2.1 HC.out.1 HC.out.2.1 ?c3 ?c4 ?c5 ?_)
  case c3 => have := HC.out.2.2.2; unfold maxLen; omega
  case c4 => have := HC.out.2.2.2; omega
  case c5 => exact HB.out.size
  intro v' w2 ho hg hiff
  have HR : Hid (w2.ownsRow w.heap.size 96 4 v' n xs ∧ Below w.heap.size w w2) := ⟨ho, HB.out.grown hg HB.out.size (fun k e => by cases e; exact Nat.le_refl _)⟩
  have hform : ∃ ad c', v' = .slice (some ⟨ad, 0, none⟩) n c' := by
    rcases ho.2 with ⟨e1, _⟩ | ⟨g, cap, cur, e1, _⟩
    · exact absurd e1 hiff
    · exact ⟨g, cap, e1⟩
  obtain ⟨ad, c', rfl⟩ := hform
  clear ho hg hiff
  go_wp2
  go_ret
  exact ⟨_, rfl, ⟨ad, c', rfl⟩, HR.out.1, HR.out.2⟩
end Go.Proofs.Ytoeioppmlnognaa.Ar
