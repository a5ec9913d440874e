import Derived.Test.YtkkplmkpemajfabLend
namespace Go.Proofs.Ytkkplmkpemajfab.Sp
open Go.RowKit

theorem size5 (w : World) : (Go.sizeOf 5).run Try.prog w = .ok 1 w := by
  obtain ⟨i0, hi, hz0, hz1, hz2⟩ := info_parts info5
  simp [Go.sizeOf, typeInfo, hi, hz1]
theorem elem22 : Try.prog.elem 22 = 5 := by simp [Program.elem, Try.underlying22]

/-- b[l:h] of a slice, and string() of it -/
theorem cut_any (ao : Option Addr) (s : ByteArray) (cap l h : Nat) (w : World) (hb : IsBytes w ao s) (hc : s.size ≤ cap) (hlh : l ≤ h) (hh : h ≤ s.size) :
    ∃ A C, (Instr.slice 22 (.slice ao s.size cap) (some (.int .i64 (l : Int))) (some (.int .i64 (h : Int))) none).run Try.prog w = .ok (.slice A (h - l) C) w ∧
      (convert 22 9 (.slice A (h - l) C)).run Try.prog w = .ok (.string (s.extract l h)) w := by
  have ht' : Try.prog.underlying 22 = some (.slice (Try.prog.elem 22)) := by rw [elem22]; exact Try.underlying22
  have h1 := run_slice_lh (P := Try.prog) w 22 ao s.size cap ht' .i64 .i64 (l : Int) (h : Int) (by omega) (by omega) (by omega)
  rw [elem22, size5] at h1
  refine ⟨_, _, h1, ?_⟩
  show (convert 22 9 (.slice _ (((h : Int).toNat) - ((l : Int).toNat)) _)).run Try.prog w = _
  simp only [Int.toNat_natCast]
  by_cases e : l = h
  · subst e
    rw [Nat.sub_self, conv_none]
    congr 2
    apply ByteArray.ext
    apply Array.toList_inj.1
    rw [Lib.extract_data]
    simp [ByteArray.empty, ByteArray.emptyWithCapacity]
    rfl
  · obtain ⟨g, o, rfl, _, _⟩ := hb l (by omega)
    rw [if_neg (by omega)]
    have := Lib.run_convert_window (P := Try.prog) w 22 5 9 Try.underlying22 Try.underlying5 Try.underlying9 g o s (fun i hi => by
      obtain ⟨g', o', e', _, hc'⟩ := hb i hi
      simp at e'
      obtain ⟨rfl, rfl⟩ := e'
      rw [hc', bt_get s i hi]) l (h - l) (cap - l) (by omega)
    rw [show l + (h - l) = h by omega] at this
    rw [show Option.map (fun x => Addr.add x (l * 1)) (some (⟨g, o, none⟩ : Addr)) = some ⟨g, o + l, none⟩ by simp only [Option.map_some, Nat.mul_one, Lib.addr_add]]
    exact this

theorem B_at (s : ByteArray) (k : Nat) (hk : k < s.size) (hy : bt s k = 10) : (B s).getD (brk s k).length 0 = k ∧ (brk s k).length < (B s).length := by
  obtain ⟨r, hr, _⟩ := brk_front s (k + 1) (s.size - (k + 1))
  rw [show k + 1 + (s.size - (k + 1)) = s.size by omega, brk_yes hy] at hr
  unfold B
  rw [hr]
  constructor
  · simp [List.getD]
  · simp

set_option maxHeartbeats 800000 in
theorem refLines_any (ao : Option Addr) (s : ByteArray) (n cap : Nat) (w : World) (h : IsBytes w ao s) (hn : n ≤ s.size) (hs : s.size ≤ 2097152) :
    Calls Try.prog 30 #[.slice ao n cap] w fun e w' => e = .returned (.int .i64 ((brk s n).length + 1 : Nat)) ∧ w' = w := by
  have HB : Hid (IsBytes w ao s) := h
  clear h
  go_enter Try.func30, Try.ntmps30
  go_wp2
  go_loop [3, 4] (fun c i => ∃ k : Nat, k ≤ n ∧ i = .int .i64 k ∧ c = .int .i64 ((brk s k).length + 1 : Nat)) (fun _ i => n - (intOf i).toNat)
  case atStart => exact ⟨0, Nat.zero_le _, rfl, rfl⟩
  case round =>
    obtain ⟨k, hk, rfl, rfl⟩ := hrel
    have hl := brk_len s k
    by_cases hlt : k < n
    · obtain ⟨g, o, rfl, hg, hc⟩ := HB.out k (by omega)
      by_cases hy : bt s k = 10
      · have hq : (bt s k == 10) = true := by simp [hy]
        have HY : Hid (bt s k = 10) := hy
        clear hy
        have HL : Hid ((brk s (k + 1)).length = (brk s k).length + 1) := by show _ = _; rw [brk_yes HY.out]; simp
        generalize (brk s k).length = m at *
        go_wp2
        go_round
        case rel => exact ⟨k + 1, by omega, by go_num, by rw [HL.out]; go_num⟩
        case measure => simp [intOf]; omega
      · have hq : (bt s k == 10) = false := by simp [hy]
        have HL : Hid ((brk s (k + 1)).length = (brk s k).length) := by show _ = _; rw [brk_no hy]
        clear hy
        generalize (brk s k).length = m at *
        go_wp2
        go_round
        case rel => exact ⟨k + 1, by omega, by go_num, by rw [HL.out]⟩
        case measure => simp [intOf]; omega
    · obtain rfl : k = n := by omega
      go_wp2
      go_ret
      exact ⟨rfl, rfl⟩

theorem st_succ (s : ByteArray) (k : Nat) (hk : k < s.size) (hy : bt s k = 10) : st s ((brk s k).length + 2) = k + 1 := by
  unfold st
  rw [if_neg (by omega), show (brk s k).length + 2 - 2 = (brk s k).length by omega, (B_at s k hk hy).1]

set_option maxHeartbeats 800000 in
theorem bounds_any (ao : Option Addr) (s : ByteArray) (n cap : Nat) (w : World) (h : IsBytes w ao s) (n1 : 1 ≤ n) (n2 : n ≤ nl s) (hs : s.size ≤ 2097152) :
    Calls Try.prog 31 #[.slice ao s.size cap, .int .i64 n] w fun e w' => e = .returned (.tuple #[.int .i64 (st s n : Nat), .int .i64 (en s n : Nat)]) ∧ w' = w := by
  have HB : Hid (IsBytes w ao s) := h
  clear h
  have hnl := nl_le s
  go_enter Try.func31, Try.ntmps31
  go_wp2
  go_loop [1, 6, 7] (fun c fr i => ∃ k m f : Nat, k ≤ s.size ∧ i = .int .i64 k ∧ m + (brk s k).length = n ∧ 1 ≤ m ∧ c = .int .i64 m ∧ f = st s ((brk s k).length + 1) ∧ f ≤ k ∧ fr = .int .i64 f) (fun _ _ i => s.size - (intOf i).toNat)
  case atStart => exact ⟨0, n, 0, Nat.zero_le _, rfl, rfl, n1, rfl, rfl, by omega, rfl⟩
  case round =>
    obtain ⟨k, m, f, hk, rfl, hm, m1, rfl, hf, hfk, rfl⟩ := hrel
    have HM : Hid (m + (brk s k).length = n) := hm
    have HF : Hid (f = st s ((brk s k).length + 1)) := hf
    have hmn : m ≤ n := by omega
    clear hm hf
    by_cases hlt : k < s.size
    · obtain ⟨g, o, rfl, hg, hc⟩ := HB.out k (by omega)
      by_cases hy : bt s k = 10
      · have hq : (bt s k != 10) = false := by simp [hy]
        have HY : Hid (bt s k = 10) := hy
        clear hy
        by_cases h1 : m = 1
        · subst h1
          have hE : Hid (st s n = f ∧ en s n = k) := by
            have e1 := HM.out
            have e2 := B_at s k hlt HY.out
            refine ⟨by rw [HF.out]; congr 1; omega, ?_⟩
            unfold en
            rw [if_neg (by unfold nl; omega), show n - 1 = (brk s k).length by omega]
            exact e2.1
          go_wp2
          go_ret2
          exact ⟨by rw [hE.out.1, hE.out.2]; rfl, rfl⟩
        · have h1' : ((m : Int) == 1) = false := by simp; omega
          have hE : Hid (k + 1 = st s ((brk s (k + 1)).length + 1) ∧ (m - 1) + (brk s (k + 1)).length = n) := by
            have e1 := HM.out
            rw [Hid, brk_yes HY.out, List.length_append]
            refine ⟨(st_succ s k hlt HY.out).symm, ?_⟩
            simp
            omega
          go_wp2
          go_round
          case rel => exact ⟨k + 1, m - 1, k + 1, by omega, by go_num, hE.out.2, by omega, by go_num, hE.out.1, by omega, by go_num⟩
          case measure => simp [intOf]; omega
      · have hq : (bt s k != 10) = true := by simp [hy]
        have hE : Hid (brk s (k + 1) = brk s k) := brk_no hy
        clear hy
        go_wp2
        go_round
        case rel => exact ⟨k + 1, m, f, by omega, by go_num, by rw [hE.out]; exact HM.out, m1, rfl, by rw [hE.out]; exact HF.out, by omega, rfl⟩
        case measure => simp [intOf]; omega
    · obtain rfl : k = s.size := by omega
      have hE : Hid (st s n = f ∧ en s n = s.size) := by
        have e1 := HM.out
        have e2 : (brk s s.size).length + 1 = nl s := rfl
        refine ⟨by rw [HF.out]; congr 1; omega, ?_⟩
        unfold en
        rw [if_pos (by omega)]
      go_wp2
      go_ret2
      exact ⟨by rw [hE.out.1, hE.out.2]; rfl, rfl⟩
end Go.Proofs.Ytkkplmkpemajfab.Sp
