import Derived.Test.YtkkplmkpemajfabRows
import Derived.Test.YtkkplmkpemajfabPureSpot
import Derived.WalkKit
import Derived.WalkSpells
import Derived.WalkLawsBesides
import Derived.Deep.QuietTactic
import Derived.BigQuiet
import Derived.Deep.LoopGhost
namespace Go.Proofs.Ytkkplmkpemajfab.Sp
open Go.RowKit

/-- the Text at block b tells the text s -/
structure IsText (w : World) (b : Nat) (s : ByteArray) : Prop where
  hb : b < w.heap.size
  h0 : w.cell? ⟨b, 0, none⟩ = some (.string s)
  h1 : ∃ ao c, w.cell? ⟨b, 1, none⟩ = some (.slice ao (B s).length c) ∧ ∀ i, i < (B s).length → ∃ g, ao = some ⟨g, 0, none⟩ ∧ g < w.heap.size ∧ w.cell? ⟨g, i, none⟩ = some (.int .i64 ((B s).getD i 0 : Nat))
  hs : s.size ≤ 2097152

theorem IsText.below {w w' : World} {b : Nat} {s : ByteArray} (h : IsText w b s) (hb : Below w.heap.size w w') : IsText w' b s := by
  obtain ⟨h1, h2, ⟨ao, c, h3, h4⟩, h5⟩ := h
  refine ⟨Nat.lt_of_lt_of_le h1 hb.size, (hb.cell (p := ⟨b, 0, none⟩) h1).trans h2, ⟨ao, c, (hb.cell (p := ⟨b, 1, none⟩) h1).trans h3, fun i hi => ?_⟩, h5⟩
  obtain ⟨g, e, hg, hc⟩ := h4 i hi
  exact ⟨g, e, Nat.lt_of_lt_of_le hg hb.size, (hb.cell (p := ⟨g, i, none⟩) hg).trans hc⟩

theorem ret_int {k : IntKind} {a b : Int} (h : a = b) : Ending.returned (.int k a) = .returned (.int k b) := by rw [h]

theorem lines_any (b : Nat) (s : ByteArray) (w : World) (h : IsText w b s) :
    Calls Try.prog 13 #[.pointer (some ⟨b, 0, none⟩)] w fun e w' => e = .returned (.int .i64 (nl s : Nat)) ∧ w' = w := by
  obtain ⟨hb, h0, ⟨ao, c, h1, _⟩, hs⟩ := h
  have hl := nl_le s
  have hn : ((nl s : Nat) : Int) = ((B s).length : Int) + 1 := by unfold nl; omega
  have HN : Hid (((nl s : Nat) : Int) = ((B s).length : Int) + 1) := hn
  have hl2 : (B s).length ≤ s.size := by unfold nl at hl; omega
  clear hn
  go_enter Try.func13, Try.ntmps13
  go_wp2
  go_ret
  exact ⟨ret_int HN.out.symm, rfl⟩

theorem start_any (b : Nat) (s : ByteArray) (n : Nat) (w : World) (h : IsText w b s) (n1 : 1 ≤ n) (n2 : n ≤ nl s) :
    Calls Try.prog 25 #[.pointer (some ⟨b, 0, none⟩), .int .i64 n] w fun e w' => e = .returned (.int .i64 (st s n : Nat)) ∧ w' = w := by
  obtain ⟨hb, h0, ⟨ao, c, h1, h2⟩, hs⟩ := h
  have hl := nl_le s
  by_cases hn : n = 1
  · subst hn
    go_enter Try.func25, Try.ntmps25
    go_wp2
    go_ret
    exact ⟨by simp [st], rfl⟩
  · have hlen : (B s).length + 1 = nl s := rfl
    obtain ⟨g, rfl, hg, hc⟩ := h2 (n - 2) (by omega)
    have hlt := B_lt s (n - 2) (by omega)
    have HF : Hid ((st s n : Nat) = (B s).getD (n - 2) 0 + 1) := by show _ = _; unfold st; rw [if_neg hn]
    generalize (B s).getD (n - 2) 0 = q at *
    generalize (B s).length = m at *
    have hne : ((n : Int) == 1) = false := by simp; omega
    obtain ⟨k, rfl⟩ : ∃ k, n = k + 2 := ⟨n - 2, by omega⟩
    rw [show k + 2 - 2 = k by omega] at hc
    have hk : (k : Int) < (m : Int) := by omega
    clear h2
    go_enter Try.func25, Try.ntmps25
    go_wp2
    go_ret
    exact ⟨ret_int (by rw [HF.out]; omega), rfl⟩

theorem end_any (b : Nat) (s : ByteArray) (n : Nat) (w : World) (h : IsText w b s) (n1 : 1 ≤ n) (n2 : n ≤ nl s) :
    Calls Try.prog 34 #[.pointer (some ⟨b, 0, none⟩), .int .i64 n] w fun e w' => e = .returned (.int .i64 (en s n : Nat)) ∧ w' = w := by
  have H := h
  obtain ⟨hb, h0, ⟨ao, c, h1, h2⟩, hs⟩ := h
  have hl := nl_le s
  by_cases hn : n = nl s
  · have HF : Hid (en s n = s.size) := by show _ = _; unfold en; rw [if_pos hn]
    have hne : ((n : Int) == (nl s : Int)) = true := by simp; omega
    clear hn h2
    go_enter Try.func34, Try.ntmps34
    go_wp2_with (go_at_call 13; refine (lines_any b s _ H).mono ?_; rintro e w' ⟨rfl, rfl⟩)
    go_ret
    exact ⟨ret_int (by rw [HF.out]), rfl⟩
  · have hlen : (B s).length + 1 = nl s := rfl
    obtain ⟨g, rfl, hg, hc⟩ := h2 (n - 1) (by omega)
    have hlt := B_lt s (n - 1) (by omega)
    have HF : Hid ((en s n : Nat) = (B s).getD (n - 1) 0) := by show _ = _; unfold en; rw [if_neg hn]
    have hne : ((n : Int) == (nl s : Int)) = false := by simp; omega
    generalize (B s).getD (n - 1) 0 = q at *
    generalize (B s).length = m at *
    obtain ⟨k, rfl⟩ : ∃ k, n = k + 1 := ⟨n - 1, by omega⟩
    rw [show k + 1 - 1 = k by omega] at hc
    have hk : (k : Int) < (m : Int) := by omega
    clear h2 hn hlen
    go_enter Try.func34, Try.ntmps34
    go_wp2_with (go_at_call 13; refine (lines_any b s _ H).mono ?_; rintro e w' ⟨rfl, rfl⟩)
    go_ret
    exact ⟨ret_int (by rw [HF.out]), rfl⟩

theorem below_drewN (w : World) (n : Nat) : Below w.heap.size w (w.drewN n) := by
  induction n with
  | zero => exact Below.refl _ _
  | succ n ih => exact ih.drew

set_option maxHeartbeats 400000 in
theorem line_any (b : Nat) (s : ByteArray) (n : Nat) (w : World) (h : IsText w b s) (n1 : 1 ≤ n) (n2 : n ≤ nl s) :
    Calls Try.prog 24 #[.pointer (some ⟨b, 0, none⟩), .int .i64 n] w fun e w' => e = .returned (.string (ln s n)) ∧ Below w.heap.size w w' := by
  have H := h
  obtain ⟨hb, h0, ⟨ao, c, h1, h2⟩, hs⟩ := h
  have h3 := st_le s n n1 n2
  have h4 := en_le s n n1 n2
  have HF : Hid (ln s n = s.extract (st s n) (en s n)) := rfl
  clear h2
  go_enter Try.func24, Try.ntmps24
  go_wp2
  go_quiet ((first | (go_at_call 25; exact Calls.quiet_of_same (start_any b s n _ (H.below (below_drewN _ _)) n1 n2)) | (go_at_call 34; exact Calls.quiet_of_same (end_any b s n _ (H.below (below_drewN _ _)) n1 n2))))
  go_wp2
  go_ret
  exact ⟨by rw [HF.out]; rfl, below_drewN _ _⟩

theorem hasLine_any (b : Nat) (s : ByteArray) (n : Int) (w : World) (h : IsText w b s) :
    Calls Try.prog 26 #[.pointer (some ⟨b, 0, none⟩), .int .i64 n] w fun e w' => e = .returned (.bool (hasB s n)) ∧ w' = w := by
  by_cases h1 : 1 ≤ n
  · by_cases h2 : n ≤ (nl s : Int)
    · have HF : Hid (hasB s n = true) := by show _ = _; simp [hasB, h1, h2]
      go_enter Try.func26, Try.ntmps26
      go_wp2_with (go_at_call 13; refine (lines_any b s _ h).mono ?_; rintro e w' ⟨rfl, rfl⟩)
      go_ret
      exact ⟨by rw [HF.out]; rfl, rfl⟩
    · have HF : Hid (hasB s n = false) := by show _ = _; simp [hasB, h2]
      have hd : decide (n ≤ (nl s : Int)) = false := by simpa using h2
      go_enter Try.func26, Try.ntmps26
      go_wp2_with (go_at_call 13; refine (lines_any b s _ h).mono ?_; rintro e w' ⟨rfl, rfl⟩)
      go_ret
      exact ⟨by rw [HF.out]; rfl, rfl⟩
  · have HF : Hid (hasB s n = false) := by show _ = _; simp [hasB, h1]
    go_enter Try.func26, Try.ntmps26
    go_wp2_with (go_at_call 13; refine (lines_any b s _ h).mono ?_; rintro e w' ⟨rfl, rfl⟩)
    go_ret
    exact ⟨by rw [HF.out]; rfl, rfl⟩
end Go.Proofs.Ytkkplmkpemajfab.Sp
