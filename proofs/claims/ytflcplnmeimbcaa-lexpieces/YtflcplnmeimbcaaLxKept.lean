import Derived.Test.YtflcplnmeimbcaaLxLend
namespace Go.Proofs.Ytflcplnmeimbcaa.Lx
open Go.RowKit Go.Proofs.Ytflcplnmeimbcaa.Sp

set_option maxHeartbeats 800000 in
theorem kept_any (ao : Option Addr) (g : Nat) (s : ByteArray) (cap : Nat) (w : World) (hR : Row w g (s.size + 67) (lent s)) (h : IsBytes w ao s) (hs : s.size ≤ 140737488351232) :
    Calls Try.prog 13 #[.slice (some ⟨g, 0, none⟩) s.size (s.size + 67), .slice ao s.size cap] w fun e w' => e = .returned (.bool true) ∧ Only g w w' := by
  have hc1 := conv_any Try.underlying22 _ s (s.size + 67) w hR.bytes
  have hc2 := conv_any Try.underlying22 ao s cap w h
  have HR : Hid (Row w g (s.size + 67) (lent s)) := hR
  clear hR h
  go_enter Try.func13, Try.ntmps13
  go_wp2
  clear hc1 hc2
  go_loop [5, 7] (fun ok i => ∃ k : Nat, s.size ≤ k ∧ k ≤ s.size + 67 ∧ ok = .bool true ∧ i = .int .i64 k) (fun _ i => s.size + 67 - (intOf i).toNat)
  case atStart => exact ⟨s.size, by omega, by omega, rfl, rfl⟩
  case round =>
    obtain ⟨k, k1, k2, rfl, rfl⟩ := hrel
    by_cases hlt : k < s.size + 67
    · have hc : w.cell? ⟨g, k, none⟩ = some (.int .u8 169) := by
        have := HR.out.cell hlt
        unfold lent at this
        rw [if_neg (by omega)] at this
        exact this
      go_wp2
      go_round
      case rel => exact ⟨k + 1, by omega, by omega, rfl, by go_num⟩
      case measure => simp [intOf]; omega
    · go_wp2
      go_loopw [8] (fun i wr => ∃ (k : Nat) (f : Nat → Int), k ≤ s.size + 67 ∧ i = .int .i64 k ∧ Row wr g (s.size + 67) f ∧ Only g w wr) (fun i _ => s.size + 67 - (intOf i).toNat)
      case atStart => exact ⟨0, _, by omega, rfl, HR.out, Only.refl _ _⟩
      case round =>
        obtain ⟨k, f, k2, rfl, r1, r2⟩ := hrel
        have HQ : Hid (Row wr g (s.size + 67) f ∧ Only g w wr) := ⟨r1, r2⟩
        by_cases hlt : k < s.size + 67
        · have hc := r1.cell hlt
          have hz := r1.frozen k
          generalize f k = y at hc
          clear r1 r2
          go_wp2
          go_roundw
          case rel => exact ⟨k + 1, _, by omega, by go_num, HQ.out.1.set k 94, HQ.out.2.set k _⟩
          case measure => simp [intOf]; omega
        · clear r1 r2
          go_wp2
          go_ret
          exact ⟨rfl, HQ.out.2⟩

end Go.Proofs.Ytflcplnmeimbcaa.Lx
