import Derived.Test.YtkkplmkpemajfabDoorDigits
namespace Go.Proofs.YtkkplmkpemajfabDoor.Sp
open Go.RowKit

def P1 : ByteArray := ⟨#[108, 105, 110, 101, 32]⟩
def P2 : ByteArray := ⟨#[44, 32, 99, 111, 108, 117, 109, 110, 32]⟩
def P3 : ByteArray := ⟨#[58, 32]⟩
/-- what an Error tells -/
def tld (W : ByteArray) (line col : Int) : ByteArray := if line = 0 then W else P1 ++ dgS line ++ P2 ++ dgS col ++ P3 ++ W

abbrev Tab (w : World) : Prop := Lib.TabIs Tryd.prog w "internal/strconv.uint64pow10" .u64 Lib.pow10Tab
theorem gTab : Tryd.prog.globalNamed "internal/strconv.uint64pow10" = some 1 := by kernel_rfl
theorem tab_lt {w : World} (h : Tab w) : 1 < w.heap.size := World.block_lt_of_cell? w _ (h.cell gTab 0 (by decide))
theorem tab_below {w w' : World} (h : Tab w) (hb : Below w.heap.size w w') : Tab w' := var?_below hb gTab (tab_lt h) h

set_option maxHeartbeats 800000 in
theorem told_any (W : ByteArray) (line col : Int) (w : World) (hW : W.size ≤ 100) (l0 : -9223372036854775808 ≤ line) (l1 : line ≤ 9223372036854775807) (c0 : -9223372036854775808 ≤ col) (c1 : col ≤ 9223372036854775807) :
    Calls Tryd.prog 6 #[.string W, .int .i64 line, .int .i64 col] w fun e w' => e = .returned (.string (tld W line col)) ∧ Below w.heap.size w w' := by
  by_cases h : line = 0
  · subst h
    go_enter Tryd.func6, Tryd.ntmps6
    go_wp2
    go_ret
    exact ⟨rfl, Below.refl _ _⟩
  · have hq : (line == 0) = false := by simp [h]
    have HS : Hid (tld W line col = P1 ++ dgS line ++ P2 ++ dgS col ++ P3 ++ W) := by show _ = _; unfold tld; rw [if_neg h]
    have hl1 := dgS_len line l0 l1
    have hl2 := dgS_len col c0 c1
    have B0 : Hid (-9223372036854775808 ≤ line ∧ line ≤ 9223372036854775807 ∧ -9223372036854775808 ≤ col ∧ col ≤ 9223372036854775807) := ⟨l0, l1, c0, c1⟩
    clear h l0 l1 c0 c1
    go_enter Tryd.func6, Tryd.ntmps6
    go_wp2_with fail
    refine (digits_any line B0.out.1 B0.out.2.1 _).mono ?_
    rintro e w1 ⟨rfl, hB1⟩
    go_wp2_with fail
    refine (digits_any col B0.out.2.2.1 B0.out.2.2.2 _).mono ?_
    rintro e w2 ⟨rfl, hB2⟩
    go_wp2
    go_ret
    exact ⟨ret_str HS.out.symm, hB1.trans (hB2.mono hB1.size)⟩

set_option maxHeartbeats 1600000 in
set_option maxRecDepth 100000 in
theorem terr_any (q : Nat) (e a line col : Int) (w : World) (hb : w.heap[q]? = some (.cells #[.int .i64 e, .int .i64 a, .int .i64 line, .int .i64 col] 27)) (ht : Tab w) (l0 : -9223372036854775808 ≤ line) (l1 : line ≤ 9223372036854775807) (c0 : -9223372036854775808 ≤ col) (c1 : col ≤ 9223372036854775807) :
    Calls Tryd.prog 5 #[.pointer (some ⟨q, 0, none⟩)] w fun x w' => x = .returned (.string (tld (word e) line col)) ∧ Below w.heap.size w w' := by
  have k0 : w.cell? ⟨q, 0, none⟩ = some (.int .i64 e) := by rw [Lib.cell_of_heap hb]; rfl
  have k2 : w.cell? ⟨q, 2, none⟩ = some (.int .i64 line) := by rw [Lib.cell_of_heap hb]; rfl
  have k3 : w.cell? ⟨q, 3, none⟩ = some (.int .i64 col) := by rw [Lib.cell_of_heap hb]; rfl
  have hqs : q < w.heap.size := (Array.getElem?_eq_some_iff.1 hb).1
  clear hb
  by_cases h : line = 0
  · have HS : Hid (tld (word e) line col = word e) := by show _ = _; unfold tld; rw [if_pos h]
    have hq : (line == 0) = true := by simp [h]
    clear h
    go_enter Tryd.func5, Tryd.ntmps5
    go_wp2_with fail
    refine (word_any e _).mono ?_
    rintro x w' ⟨rfl, rfl⟩
    go_wp2
    go_ret
    exact ⟨ret_str HS.out.symm, Below.refl _ _⟩
  · have hq : (line == 0) = false := by simp [h]
    have HS : Hid (tld (word e) line col = P1 ++ dgS line ++ P2 ++ dgS col ++ P3 ++ word e) := by show _ = _; unfold tld; rw [if_neg h]
    have hl1 := dgS_len line l0 l1
    have hl2 := dgS_len col c0 c1
    have hl3 := word_len e
    have B0 : Hid (-9223372036854775808 ≤ line ∧ line ≤ 9223372036854775807 ∧ -9223372036854775808 ≤ col ∧ col ≤ 9223372036854775807) := ⟨l0, l1, c0, c1⟩
    have HT : Hid (Tab w) := ht
    clear h l0 l1 c0 c1 ht
    go_enter Tryd.func5, Tryd.ntmps5
    go_wp2_with fail
    refine (word_any e _).mono ?_
    rintro x w' ⟨rfl, rfl⟩
    go_wp2
    go_region_with (first | (go_at_call_of 13 (Value.int IntKind.i64 line); refine (itoa_any line B0.out.1 B0.out.2.1 _ (tab_below HT.out (Below.refl _ _).drew)).mono ?_; rintro x w1 ⟨rfl, hB1⟩; have k3' : w1.cell? ⟨q, 3, none⟩ = some (.int .i64 col) := (hB1.cell (p := ⟨q, 3, none⟩) hqs).trans k3) | (go_at_call_of 13 (Value.int IntKind.i64 col); refine (itoa_any col B0.out.2.2.1 B0.out.2.2.2 _ (tab_below (tab_below HT.out (Below.refl _ _).drew) hB1)).mono ?_; rintro x w2 ⟨rfl, hB2⟩))
    all_goals
      go_wp2
      go_ret
      exact ⟨ret_str HS.out.symm, ((Below.refl _ _).drew.trans hB1).trans (hB2.mono hB1.size)⟩
end Go.Proofs.YtkkplmkpemajfabDoor.Sp
