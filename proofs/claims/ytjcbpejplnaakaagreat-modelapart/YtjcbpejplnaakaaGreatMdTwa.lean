import Derived.Test.YtjcbpejplnaakaaGreatMdTwo
namespace Go.Proofs.YtjcbpejplnaakaaGreat.Md
open Go.RowKit Go.Maps Go.Proofs.YtjcbpejplnaakaaGreat.Nm

section
variable {w w' w2 w0 : World} {g o : Nat} {F F' G : List Nat} {k size : Nat} {ks ks' l k1 k2 k3 : List Nat}
set_option maxHeartbeats 1600000 in
set_option maxRecDepth 100000 in
/-- reclaim: a key of M goes -/
theorem recl_main {a m o : List Nat} {x : Nat} (h : Q3 w0 w g F size a (m ++ [x]) o) (hz : 1 ≤ size ∧ size ≤ 1048576) (hsm : a.length ≤ max 1 (size / 4)) : Calls Tryz.prog 92 #[.pointer (some ⟨g, 0, none⟩)] w fun e w' => e = .returned (U x) ∧ Q3 w0 w' g F size a m o := by
  have H : Hid (Q3 w0 w g F size a (m ++ [x]) o) := h
  have hz1 : (1 : Int) ≤ (size : Int) := by omega
  have hz2 : (size : Int) ≤ 1048576 := by omega
  have hdec : decide ((a.length : Int) ≤ if 1 < (size : Int) / 4 then (size : Int) / 4 else 1) = true := by
    rw [decide_eq_true_iff]
    split <;> omega
  have hs : w.cell? ⟨g, 0, none⟩ = some (I size) := by obtain ⟨_, _, _, _, q⟩ := h; exact q
  clear h hz hsm
  go_enter Tryz.func92, Tryz.ntmps92
  go_wp2_with fail
  go_quiet ((go_at_call 63; obtain ⟨_, q, _⟩ := (H.out.below (Go.Proofs.YtjcbpejplnaakaaGreat.Nm.below_drewN _ _)).r1; exact Calls.quiet_of_same q.count))
  have H1 : Hid (Q3 w0 (w.drewN nq) g F size a (m ++ [x]) o) := H.out.below (Go.Proofs.YtjcbpejplnaakaaGreat.Nm.below_drewN _ nq)
  generalize w.drewN nq = w1 at *
  generalize (if 1 < (size : Int) / 4 then (size : Int) / 4 else 1) = mx at *
  go_wp2_with fail
  obtain ⟨F2, r2, f2⟩ := H1.out.r2
  refine r2.pop.mono ?_
  rintro _ w2 ⟨rfl, h2⟩
  have H2 : Hid (Q3 w0 w2 g F size a m o) := f2 w2 _ h2
  clear h2 f2 r2 H1
  go_wp2
  go_ret
  exact ⟨rfl, H2.out⟩
theorem Q3.drop3 (h : Q3 w0 w g F size k1 k2 k3) (hk : k < 18446744073709551616) : Calls Tryz.prog 68 #[.pointer (some ⟨g, 7, none⟩), U k] w fun e w' => (∃ b, e = .returned (.bool b)) ∧ Q3 w0 w' g F size k1 k2 (k3.erase k) := by
  obtain ⟨F3, r, f⟩ := h.r3
  by_cases hm : k ∈ k3
  · refine (r.dodrop hm).mono ?_
    rintro _ w' ⟨rfl, h'⟩
    exact ⟨⟨_, rfl⟩, f w' _ h'⟩
  · refine (r.nodrop hm hk).mono ?_
    rintro _ w' ⟨rfl, rfl⟩
    rw [List.erase_of_not_mem hm]
    exact ⟨⟨_, rfl⟩, h⟩
set_option maxRecDepth 100000 in
theorem two_hitA {a m o : List Nat} (h : Q3 w0 w g F size a m o) (hk : k ∈ a) (hk2 : k < 18446744073709551616) : Calls Tryz.prog 90 #[.pointer (some ⟨g, 0, none⟩), U k] w fun e w' => e = .returned (.tuple #[.bool true, .slice none 0 0]) ∧ w' = w := by
  obtain ⟨F1, r1, _⟩ := h.r1
  have H : Hid (Rw w w g 1 F1 a ∧ k < 18446744073709551616 ∧ decide (k ∈ a) = true) := ⟨r1, hk2, decide_eq_true hk⟩
  clear h hk hk2 r1
  go_enter Tryz.func90, Tryz.ntmps90
  go_wp2_with (go_at_call 62; refine (H.out.1.has H.out.2.1).mono ?_; rw [H.out.2.2]; rintro _ w ⟨rfl, rfl⟩)
  go_ret2
  exact ⟨rfl, rfl⟩
set_option maxRecDepth 100000 in
theorem two_hitM {a m o : List Nat} (h : Q3 w0 w g F size a m o) (hka : k ∉ a) (hk : k ∈ m) (hk2 : k < 18446744073709551616) : Calls Tryz.prog 90 #[.pointer (some ⟨g, 0, none⟩), U k] w fun e w' => e = .returned (.tuple #[.bool true, .slice none 0 0]) ∧ Q3 w0 w' g F size a (k :: m.erase k) o := by
  obtain ⟨F1, r1, _⟩ := h.r1
  obtain ⟨F2, r2, f2⟩ := h.r2
  have H : Hid (Rw w w g 1 F1 a ∧ k < 18446744073709551616 ∧ decide (k ∈ a) = false ∧ Rw w w g 4 F2 m ∧ decide (k ∈ m) = true ∧ k ∈ m ∧ ∀ w' ks', Rw w w' g 4 F2 ks' → Q3 w0 w' g F size a ks' o) := ⟨r1, hk2, decide_eq_false hka, r2, decide_eq_true hk, hk, f2⟩
  clear h hka hk hk2 r1 r2 f2
  go_enter Tryz.func90, Tryz.ntmps90
  go_wp2_with fail
  refine (H.out.1.has H.out.2.1).mono ?_
  rw [H.out.2.2.1]
  rintro _ w ⟨rfl, rfl⟩
  go_wp2_with fail
  refine (H.out.2.2.2.1.has H.out.2.1).mono ?_
  rw [H.out.2.2.2.2.1]
  rintro _ w ⟨rfl, rfl⟩
  go_wp2_with fail
  refine (H.out.2.2.2.1.raise H.out.2.2.2.2.2.1).mono ?_
  rintro _ w1 ⟨rfl, h1⟩
  have H1 : Hid (Q3 w0 w1 g F size a (k :: m.erase k) o) := H.out.2.2.2.2.2.2 w1 _ h1
  clear h1
  go_wp2
  go_ret2
  exact ⟨rfl, H1.out⟩
end
end Go.Proofs.YtjcbpejplnaakaaGreat.Md
