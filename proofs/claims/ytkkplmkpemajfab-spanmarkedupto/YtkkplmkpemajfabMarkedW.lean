import Derived.Test.YtkkplmkpemajfabOpen
import Derived.Test.YtkkplmkpemajfabIndent
import Derived.Test.YtkkplmkpemajfabMarkedF
namespace Go.Proofs.Ytkkplmkpemajfab.spanMarked
open Go.RowKit Go.Proofs.Ytkkplmkpemajfab.Sp

theorem round_any (a : Int) (n : Nat) (N : Int) (w : World) (hN : N = (n : Int)) (h1 : 1 ≤ n) (h2 : n ≤ 4194304) :
    Calls Try.prog 15 #[.int .i64 a, .int .i64 N] w fun e w' => (∃ k : Nat, k < n ∧ e = .returned (.int .i64 k)) ∧ w' = w := by
  subst hN
  have t1 := Int.tmod_lt_of_pos a (show (0 : Int) < n by omega)
  have t2 : -(n : Int) < a.tmod n := by
    have := Int.lt_tmod_of_pos a (show (0 : Int) < n by omega)
    omega
  have hne : ¬ (n : Int) = 0 := by omega
  have hw : IntKind.i64.wrap (a.tmod n) = a.tmod n := by rw [IntKind.wrap_i64]; omega
  by_cases h0 : a.tmod n < 0
  · go_enter Try.func15, Try.ntmps15
    go_wp2
    go_ret
    exact ⟨⟨(a.tmod n + n).toNat, by omega, ret_int (by omega)⟩, rfl⟩
  · go_enter Try.func15, Try.ntmps15
    go_wp2
    go_ret
    exact ⟨⟨(a.tmod n).toNat, by omega, ret_int (by omega)⟩, rfl⟩

set_option maxHeartbeats 3200000 in
set_option maxRecDepth 100000 in
theorem walk (ao : Option Addr) (s : ByteArray) (cap : Nat) (x : Int) (w : World) (h : IsBytes w ao s) (_hc : s.size ≤ cap) (hs : s.size ≤ 2097152) (_hx : (Lit.int .i64 x).wf = true) :
    Calls Try.prog 5 #[.slice ao s.size cap, .int .i64 x] w fun e w' => e = .returned (.bool true) ∧ Below w.heap.size w w' := by
  go_enter Try.func5, Try.ntmps5
  go_wp2_with fail
  refine (made_any ao s cap _ h hs).mono ?_
  rintro e w1 ⟨b, rfl, hT, hB⟩
  have H1 : Hid (IsText w1 b s ∧ Below w.heap.size w w1) := ⟨hT, hB⟩
  clear hT hB
  go_wp2_with fail
  refine (round_any x (s.size + 1) _ _ (by omega) (by omega) (by omega)).mono ?_
  rintro e w2 ⟨⟨a, ha, rfl⟩, rfl⟩
  have ha' : a ≤ s.size := by omega
  obtain ⟨M, t, L, c, HM, q1, q2, q3, q4, q5, q6, q7⟩ := mv_facts s a ha'
  have HM : Hid _ := HM
  have HF : Hid (bt M (t.size + c) = 94 ∧ ∀ i, t.size + 1 ≤ i → i < t.size + c → bt M i = 9 ∨ bt M i = 32) := ⟨q6, q7⟩
  have hX : (M.extract 0 (t.size + 1)).toList = (t ++ ⟨#[10]⟩ : ByteArray).toList := by
    rw [show M.extract 0 (t.size + 1) = t ++ ⟨#[10]⟩ from str_eq (by rw [q5]; simp)]
  have q8 : t.size ≤ 2097152 := by omega
  have HS : Hid (M.size = t.size + 1 + c) := q4
  have hlt : t.size + c < M.size := by omega
  have hlast : (((M[t.size + c]'hlt).toNat : Int) != 94) = false := by
    have := bt_get M (t.size + c) hlt
    rw [q6] at this
    simp [← this]
  have hsz : (M.size : Int) = (t.size : Int) + 1 + (c : Int) := by omega
  have q9 : t.size + 1 + c ≤ M.size := by omega
  clear q5 q6 q7 q4
  go_wp2_with fail
  refine (spot_any b s a _ H1.out.1).mono ?_
  rintro e w3 ⟨rfl, hB3⟩
  rw [HM.out.2.1, HM.out.2.2.1, HM.out.2.2.2.1]
  have H3 : Hid (IsText w3 b s ∧ Below w.heap.size w w3) := ⟨H1.out.1.below hB3, H1.out.2.trans (hB3.mono H1.out.2.size)⟩
  clear hB3
  go_wp2_with fail
  refine (lineF_any b s _ _ H3.out.1).mono ?_
  rintro e w4 ⟨rfl, hB4⟩
  rw [HM.out.2.2.2.2.1, HM.out.2.2.2.2.2]
  have H4 : Hid (IsText w4 b s ∧ Below w.heap.size w w4) := ⟨H3.out.1.below hB4, H3.out.2.trans (hB4.mono H3.out.2.size)⟩
  clear hB4
  go_wp2_with fail
  refine (mark_any b s _ _ H4.out.1).mono ?_
  rintro e w5 ⟨rfl, hB5⟩
  rw [HM.out.1, HM.out.2.1]
  have H5 : Hid (Below w.heap.size w w5) := H4.out.2.trans (hB5.mono H4.out.2.size)
  clear hB5
  go_wp2
  clear hX hlast
  go_loop [13] (fun i => ∃ k : Nat, t.size + 1 ≤ k ∧ k ≤ t.size + c ∧ i = .int .i64 k) (fun i => t.size + c - (intOf i).toNat)
  case atStart => exact ⟨t.size + 1, by omega, by omega, by go_num⟩
  case round =>
    obtain ⟨k, k1, k2, rfl⟩ := hrel
    by_cases hk : k < t.size + c
    · have hkM : k < M.size := by omega
      have hb := HF.out.2 k k1 hk
      rw [bt_get M k hkM] at hb
      by_cases h9 : ((M[k]'hkM).toNat : Int) = 9
      · have hq : (((M[k]'hkM).toNat : Int) != 9) = false := by simp [h9]
        clear h9 hb
        go_wp2
        go_round
        case rel => exact ⟨k + 1, by omega, by omega, by go_num⟩
        case measure => simp [intOf]; omega
      · have hq : (((M[k]'hkM).toNat : Int) != 9) = true := by rw [bne_iff_ne]; exact h9
        have hq2 : (((M[k]'hkM).toNat : Int) != 32) = false := by
          have : ((M[k]'hkM).toNat : Int) = 32 := by omega
          simp [this]
        clear h9 hb
        go_wp2
        go_round
        case rel => exact ⟨k + 1, by omega, by omega, by go_num⟩
        case measure => simp [intOf]; omega
    · go_wp2_with fail
      refine (head_any _).mono ?_
      rintro e w6 ⟨rfl, hB6⟩
      go_wp2
      go_ret
      exact ⟨rfl, H5.out.trans (hB6.mono H5.out.size)⟩
end Go.Proofs.Ytkkplmkpemajfab.spanMarked
