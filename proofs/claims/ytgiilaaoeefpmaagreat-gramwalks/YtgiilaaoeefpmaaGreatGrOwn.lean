import Derived.Test.YtgiilaaoeefpmaaGreatGrIns2
import Derived.Test.YtgiilaaoeefpmaaGreatGrRev3
import Derived.Test.YtgiilaaoeefpmaaGreatGrRev4
namespace Go.Proofs.YtgiilaaoeefpmaaGreat.Gr
open Go.RowKit Go.Proofs.YtgiilaaoeefpmaaGreat.Sp Go.Proofs.YtgiilaaoeefpmaaGreat.Lx

theorem rows_one (l : List Rw) : ∀ v ∈ l.flatMap rc, v.oneCell' = true := by
  intro v hv
  rw [List.mem_flatMap] at hv
  obtain ⟨r, _, hv⟩ := hv
  simp only [rc, List.mem_cons, List.not_mem_nil, or_false] at hv
  rcases hv with rfl | rfl | rfl | rfl | rfl <;> rfl
theorem ints_one (l : List Nat) : ∀ v ∈ l.map nc, v.oneCell' = true := by
  intro v hv
  rw [List.mem_map] at hv
  obtain ⟨r, _, rfl⟩ := hv
  rfl
theorem flat_take (l : List Rw) (i : Nat) : (l.flatMap rc).take (i * 5) = (l.take i).flatMap rc := by
  induction l generalizing i with
  | nil => simp
  | cons r l ih =>
    cases i with
    | zero => simp
    | succ i =>
      rw [List.take_succ_cons, List.flatMap_cons, List.flatMap_cons, show (i + 1) * 5 = (rc r).length + i * 5 by rw [rc_len]; omega, List.take_length_add_append, ih]
theorem flat_drop (l : List Rw) (i : Nat) : (l.flatMap rc).drop (i * 5) = (l.drop i).flatMap rc := by
  induction l generalizing i with
  | nil => simp
  | cons r l ih =>
    cases i with
    | zero => simp
    | succ i =>
      rw [List.drop_succ_cons, List.flatMap_cons, show (i + 1) * 5 = (rc r).length + i * 5 by rw [rc_len]; omega, List.drop_length_add_append, ih]

theorem revRows {w : World} {base : Nat} {v : Value} (l : List Rw) (h : w.ownsRow base 46 5 v l.length (l.flatMap rc)) (hs : l.length ≤ 1000000) :
    Calls Tryz.prog 140 #[v] w fun e w' => e = .returned (.tuple #[]) ∧ w'.ownsRow base 46 5 v l.length (l.reverse.flatMap rc) ∧ w.grownBy w' v.ownBlock := by
  by_cases h0 : l.length = 0
  · obtain ⟨bo, bc, rfl⟩ : ∃ bo bc, v = .slice bo l.length bc := by
      rcases h.2 with ⟨rfl, h0⟩ | ⟨g, cap, cur, rfl, _⟩
      · exact ⟨none, 0, by rw [h0]⟩
      · exact ⟨_, _, rfl⟩
    obtain rfl : l = [] := List.eq_nil_of_length_eq_zero h0
    exact (revrow_none bo bc w).mono fun e w' hh => by
      obtain ⟨rfl, rfl⟩ := hh
      exact ⟨rfl, h, ⟨rfl, rfl, rfl, Nat.le_refl _, fun _ _ _ => rfl⟩⟩
  · obtain ⟨g, cap, cur, rfl, h2, h3, h4, h5, h6, h7⟩ := own_block h (by omega)
    have hc : cur = l.flatMap rc ++ cur.drop (l.length * 5) := by rw [← h7, List.take_append_drop]
    have hd : (cur.drop (l.length * 5)).length = cap * 5 - l.length * 5 := by rw [List.length_drop, h6]
    generalize cur.drop (l.length * 5) = R at hc hd
    subst hc
    exact (revrow l R g cap w h3 hs).mono fun e w' hh => by
      obtain ⟨rfl, e1, e2⟩ := hh
      refine ⟨rfl, own_mk (by rw [flat_len, List.length_reverse]) h2 e1 h4 h5 (by rw [List.length_append, flat_len, List.length_reverse, hd]; omega) ?_, e2⟩
      rw [List.take_append_of_le_length (by rw [flat_len, List.length_reverse]; omega)]
      exact List.take_of_length_le (by rw [flat_len, List.length_reverse]; omega)
theorem revInts {w : World} {base : Nat} {v : Value} (l : List Nat) (h : w.ownsRow base 3 1 v l.length (l.map nc)) (hs : l.length ≤ 1000000) :
    Calls Tryz.prog 141 #[v] w fun e w' => e = .returned (.tuple #[]) ∧ w'.ownsRow base 3 1 v l.length (l.reverse.map nc) ∧ w.grownBy w' v.ownBlock := by
  by_cases h0 : l.length = 0
  · obtain ⟨bo, bc, rfl⟩ : ∃ bo bc, v = .slice bo l.length bc := by
      rcases h.2 with ⟨rfl, h0⟩ | ⟨g, cap, cur, rfl, _⟩
      · exact ⟨none, 0, by rw [h0]⟩
      · exact ⟨_, _, rfl⟩
    obtain rfl : l = [] := List.eq_nil_of_length_eq_zero h0
    exact (revint_none bo bc w).mono fun e w' hh => by
      obtain ⟨rfl, rfl⟩ := hh
      exact ⟨rfl, h, ⟨rfl, rfl, rfl, Nat.le_refl _, fun _ _ _ => rfl⟩⟩
  · obtain ⟨g, cap, cur, rfl, h2, h3, h4, h5, h6, h7⟩ := own_block h (by omega)
    rw [Nat.mul_one] at h6 h7
    have hc : cur = l.map nc ++ cur.drop l.length := by rw [← h7, List.take_append_drop]
    have hd : (cur.drop l.length).length = cap - l.length := by rw [List.length_drop, h6]
    generalize cur.drop l.length = R at hc hd
    subst hc
    exact (revint l R g cap w h3 hs).mono fun e w' hh => by
      obtain ⟨rfl, e1, e2⟩ := hh
      refine ⟨rfl, own_mk (by rw [List.length_map, List.length_reverse]; omega) h2 e1 h4 h5 (by rw [List.length_append, List.length_map, List.length_reverse, hd]; omega) ?_, e2⟩
      rw [Nat.mul_one, List.take_append_of_le_length (by rw [List.length_map, List.length_reverse]; omega)]
      exact List.take_of_length_le (by rw [List.length_map, List.length_reverse]; omega)

set_option maxHeartbeats 800000 in
set_option maxRecDepth 100000 in
theorem insrow_none (ao bo : Option Addr) (n cap i bc : Nat) (w : World) (hi : i ≤ n) (hc : n ≤ cap) (hs : cap ≤ maxLen) : Calls Tryz.prog 142 #[.slice ao n cap, .int .i64 i, .slice bo 0 bc] w fun e w' => e = .returned (.slice ao n cap) ∧ w' = w := by
  have hc63 : cap ≤ 9223372036854775807 := hs
  have h1 : (i : Int) ≤ (n : Int) := by omega
  have h2 : (n : Int) ≤ (cap : Int) := by omega
  clear hs
  go_enter Tryz.func142, Tryz.ntmps142
  go_wp2
  all_goals go_ret
  all_goals exact ⟨rfl, rfl⟩
set_option maxHeartbeats 800000 in
set_option maxRecDepth 100000 in
theorem insint_none (ao bo : Option Addr) (n cap i bc : Nat) (w : World) (hi : i ≤ n) (hc : n ≤ cap) (hs : cap ≤ maxLen) : Calls Tryz.prog 143 #[.slice ao n cap, .int .i64 i, .slice bo 0 bc] w fun e w' => e = .returned (.slice ao n cap) ∧ w' = w := by
  have hc63 : cap ≤ 9223372036854775807 := hs
  have h1 : (i : Int) ≤ (n : Int) := by omega
  have h2 : (n : Int) ≤ (cap : Int) := by omega
  clear hs
  go_enter Tryz.func143, Tryz.ntmps143
  go_wp2
  all_goals go_ret
  all_goals exact ⟨rfl, rfl⟩

theorem insRows {w : World} {base : Nat} {v u : Value} (l m : List Rw) (i : Nat) (hi : i < l.length) (h : w.ownsRow base 46 5 v l.length (l.flatMap rc)) (k : w.ownsRow base 46 5 u m.length (m.flatMap rc)) (hne : ∀ g, u.ownBlock = some g → v.ownBlock ≠ some g) (hb : base ≤ w.heap.size) (hs : l.length + m.length ≤ 1000000) :
    Calls Tryz.prog 142 #[v, .int .i64 i, u] w fun e w' => ∃ v', e = .returned v' ∧ w'.ownsRow base 46 5 v' (l.take i ++ m ++ l.drop i).length ((l.take i ++ m ++ l.drop i).flatMap rc) ∧ Gone w v w' v' := by
  obtain ⟨g, cap, cur, rfl, h2, h3, h4, h5, h6, h7⟩ := own_block h (by omega)
  have hlen : (l.take i ++ m ++ l.drop i).length = l.length + m.length := by simp; omega
  have hfl : (l.flatMap rc).take (i * 5) ++ m.flatMap rc ++ (l.flatMap rc).drop (i * 5) = (l.take i ++ m ++ l.drop i).flatMap rc := by rw [flat_take, flat_drop]; simp
  rw [hlen]
  by_cases h0 : m.length = 0
  · obtain rfl : m = [] := List.eq_nil_of_length_eq_zero h0
    obtain ⟨bo, bc, rfl⟩ : ∃ bo bc, u = .slice bo 0 bc := by
      rcases k.2 with ⟨rfl, h0⟩ | ⟨g, cap, cur, rfl, _⟩
      · exact ⟨none, 0, rfl⟩
      · exact ⟨_, _, rfl⟩
    exact (insrow_none _ bo l.length cap i bc w (by omega) h4 h5).mono fun e w' hh => by
      obtain ⟨rfl, rfl⟩ := hh
      refine ⟨_, rfl, ?_, ⟨⟨rfl, rfl, rfl, Nat.le_refl _, fun _ _ _ => rfl⟩, Or.inl ⟨g, rfl, rfl⟩⟩⟩
      rw [List.append_nil, List.take_append_drop]
      exact h
  · obtain ⟨q, qc, qcur, rfl, k2, k3, k4, k5, k6, k7⟩ := own_block k (by omega)
    have hqg : q ≠ g := fun e => hne q rfl (by rw [e]; rfl)
    by_cases hroom : l.length + m.length ≤ cap
    · exact (insrow_room l.length cap i m.length qc g q (l.flatMap rc) (m.flatMap rc) cur qcur w hi (by omega) hs h3 h6 (flat_len l) h7 k3 (flat_len m) k7 (rows_one l) (rows_one m) hroom h5 hqg).mono fun e w' hh => by
        obtain ⟨rfl, cur', e1, e2, e3, e4⟩ := hh
        rw [hfl] at e3
        exact ⟨_, rfl, own_mk (by rw [flat_len, hlen]) h2 e1 hroom h5 e2 e3, ⟨e4, Or.inl ⟨g, rfl, rfl⟩⟩⟩
    · exact (insrow_grow l.length cap i m.length qc g q (l.flatMap rc) (m.flatMap rc) cur qcur w hi (by omega) h4 hs h3 h6 (flat_len l) h7 k3 (flat_len m) k7 (rows_one l) (rows_one m) (by omega)).mono fun e w' hh => by
        obtain ⟨G, rfl, g1, g2, cur', e1, e2, e3, e4⟩ := hh
        rw [hfl] at e3
        refine ⟨_, rfl, own_mk (by rw [flat_len, hlen]) hb e1 g1 g2 e2 e3, ⟨⟨e4.os, e4.tape, e4.output, e4.size, fun k hk _ => e4.block k hk⟩, Or.inr ⟨e4.block, fun x hx => ?_⟩⟩⟩
        cases hx
        exact Nat.le_refl _
theorem insInts {w : World} {base : Nat} {v u : Value} (l m : List Nat) (i : Nat) (hi : i < l.length) (h : w.ownsRow base 3 1 v l.length (l.map nc)) (k : w.ownsRow base 3 1 u m.length (m.map nc)) (hne : ∀ g, u.ownBlock = some g → v.ownBlock ≠ some g) (hb : base ≤ w.heap.size) (hs : l.length + m.length ≤ 1000000) :
    Calls Tryz.prog 143 #[v, .int .i64 i, u] w fun e w' => ∃ v', e = .returned v' ∧ w'.ownsRow base 3 1 v' (l.take i ++ m ++ l.drop i).length ((l.take i ++ m ++ l.drop i).map nc) ∧ Gone w v w' v' := by
  obtain ⟨g, cap, cur, rfl, h2, h3, h4, h5, h6, h7⟩ := own_block h (by omega)
  rw [Nat.mul_one] at h6 h7
  have hlen : (l.take i ++ m ++ l.drop i).length = l.length + m.length := by simp; omega
  have hfl : (l.map nc).take i ++ m.map nc ++ (l.map nc).drop i = (l.take i ++ m ++ l.drop i).map nc := by simp [List.map_take, List.map_drop]
  rw [hlen]
  by_cases h0 : m.length = 0
  · obtain rfl : m = [] := List.eq_nil_of_length_eq_zero h0
    obtain ⟨bo, bc, rfl⟩ : ∃ bo bc, u = .slice bo 0 bc := by
      rcases k.2 with ⟨rfl, h0⟩ | ⟨g, cap, cur, rfl, _⟩
      · exact ⟨none, 0, rfl⟩
      · exact ⟨_, _, rfl⟩
    exact (insint_none _ bo l.length cap i bc w (by omega) h4 h5).mono fun e w' hh => by
      obtain ⟨rfl, rfl⟩ := hh
      refine ⟨_, rfl, ?_, ⟨⟨rfl, rfl, rfl, Nat.le_refl _, fun _ _ _ => rfl⟩, Or.inl ⟨g, rfl, rfl⟩⟩⟩
      rw [List.append_nil, List.take_append_drop]
      exact h
  · obtain ⟨q, qc, qcur, rfl, k2, k3, k4, k5, k6, k7⟩ := own_block k (by omega)
    rw [Nat.mul_one] at k6 k7
    have hqg : q ≠ g := fun e => hne q rfl (by rw [e]; rfl)
    by_cases hroom : l.length + m.length ≤ cap
    · exact (insint_room l.length cap i m.length qc g q (l.map nc) (m.map nc) cur qcur w hi (by omega) hs h3 h6 (List.length_map _) h7 k3 (List.length_map _) k7 (ints_one l) (ints_one m) hroom h5 hqg).mono fun e w' hh => by
        obtain ⟨rfl, cur', e1, e2, e3, e4⟩ := hh
        rw [hfl] at e3
        exact ⟨_, rfl, own_mk (by rw [List.length_map, hlen]; omega) h2 e1 hroom h5 (by omega) (by rw [Nat.mul_one]; exact e3), ⟨e4, Or.inl ⟨g, rfl, rfl⟩⟩⟩
    · exact (insint_grow l.length cap i m.length qc g q (l.map nc) (m.map nc) cur qcur w hi (by omega) h4 hs h3 h6 (List.length_map _) h7 k3 (List.length_map _) k7 (ints_one l) (ints_one m) (by omega)).mono fun e w' hh => by
        obtain ⟨G, rfl, g1, g2, cur', e1, e2, e3, e4⟩ := hh
        rw [hfl] at e3
        refine ⟨_, rfl, own_mk (by rw [List.length_map, hlen]; omega) hb e1 g1 g2 (by omega) (by rw [Nat.mul_one]; exact e3), ⟨⟨e4.os, e4.tape, e4.output, e4.size, fun k hk _ => e4.block k hk⟩, Or.inr ⟨e4.block, fun x hx => ?_⟩⟩⟩
        cases hx
        exact Nat.le_refl _
end Go.Proofs.YtgiilaaoeefpmaaGreat.Gr
