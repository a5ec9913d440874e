import Derived.Test.YtjcbpejplnaakaaGreatMdTwa
namespace Go.Proofs.YtjcbpejplnaakaaGreat.Md
open Go.RowKit Go.Maps Go.Proofs.YtjcbpejplnaakaaGreat.Nm

section
variable {w w' : World} {g : Nat} {F : List Nat} {k size : Nat}
set_option maxHeartbeats 1600000 in
set_option maxRecDepth 100000 in
theorem two_out {a m o : List Nat} (h : Q3 w w g F size a m o) (hka : k ∉ a) (hkm : k ∉ m) (hko : k ∈ o) (hk2 : k < 18446744073709551616) (hz : size ≤ 1048576) (hnf : a.length + m.length < size) : Calls Tryz.prog 90 #[.pointer (some ⟨g, 0, none⟩), U k] w fun e w' => ∃ v F', e = .returned (.tuple #[.bool false, v]) ∧ Q3 w' w' g F' size a (k :: m) (o.erase k) ∧ Fr F w w' ∧ (∀ y ∈ F', y ∈ F ∨ w.heap.size ≤ y) ∧ (∀ y ∈ F', y < w'.heap.size) ∧ Tld w w' F' v [] := by
  obtain ⟨F1, r1, _⟩ := h.r1
  obtain ⟨F2, r2, _⟩ := h.r2
  obtain ⟨F3, r3, _⟩ := h.r3
  have H : Hid (Rw w w g 1 F1 a ∧ k < 18446744073709551616 ∧ decide (k ∈ a) = false ∧ Rw w w g 4 F2 m ∧ decide (k ∈ m) = false ∧ Rw w w g 7 F3 o ∧ decide (k ∈ o) = true ∧ Q3 w w g F size a m o ∧ k ∉ m ∧ m.length ≤ 1000000000) := ⟨r1, hk2, decide_eq_false hka, r2, decide_eq_false hkm, r3, decide_eq_true hko, h, hkm, by omega⟩
  have hs : w.cell? ⟨g, 0, none⟩ = some (I size) := by obtain ⟨_, _, _, _, q⟩ := h; exact q
  have hl1 : (a.length : Int) + (m.length : Int) ≤ 1048576 := by omega
  have hl2 : (0 : Int) ≤ (a.length : Int) + (m.length : Int) := by omega
  have hful : ((a.length : Int) + (m.length : Int) == (size : Int)) = false := by
    rw [beq_eq_false_iff_ne]
    omega
  clear r1 r2 r3
  clear h hka hkm hko hk2 hz hnf
  go_enter Tryz.func90, Tryz.ntmps90
  go_wp2_with fail
  refine (H.out.1.has H.out.2.1).mono ?_
  rw [H.out.2.2.1]
  rintro _ w ⟨rfl, rfl⟩
  go_wp2_with fail
  refine (H.out.2.2.2.1.has H.out.2.1).mono ?_
  rw [H.out.2.2.2.2.1]
  rintro _ w ⟨rfl, rfl⟩
  go_wp2_with fail
  refine (H.out.2.2.2.2.2.1.has H.out.2.1).mono ?_
  rw [H.out.2.2.2.2.2.2.1]
  rintro _ w ⟨rfl, rfl⟩
  go_wp2_with fail
  go_quiet (first | (go_at_call_of 63 (Value.pointer (some ⟨g, 1, none⟩)); obtain ⟨_, q, _⟩ := (H.out.2.2.2.2.2.2.2.1.below (Go.Proofs.YtjcbpejplnaakaaGreat.Nm.below_drewN _ _)).r1; exact Calls.quiet_of_same q.count) | (go_at_call_of 63 (Value.pointer (some ⟨g, 4, none⟩)); obtain ⟨_, q, _⟩ := (H.out.2.2.2.2.2.2.2.1.below (Go.Proofs.YtjcbpejplnaakaaGreat.Nm.below_drewN _ _)).r2; exact Calls.quiet_of_same q.count))
  have H0 : Hid (Q3 w (w.drewN nq) g F size a m o) := H.out.2.2.2.2.2.2.2.1.below (Go.Proofs.YtjcbpejplnaakaaGreat.Nm.below_drewN _ nq)
  generalize w.drewN nq = w1 at *
  have HQ : Hid (Q3 w w1 g F size a m o) := H0.out
  go_wp2_with fail
  refine (HQ.out.drop3 H.out.2.1).mono ?_
  rintro _ w6 ⟨⟨bb, rfl⟩, h6⟩
  have H6 : Hid (Q3 w w6 g F size a m (o.erase k)) := h6
  clear h6
  go_wp2_with fail
  obtain ⟨F2', r2, f2⟩ := H6.out.r2
  refine (r2.push H.out.2.2.2.2.2.2.2.2.1 H.out.2.1 H.out.2.2.2.2.2.2.2.2.2).mono ?_
  rintro _ w5 ⟨rfl, h5⟩
  have H5 : Hid (Q3 w w5 g F size a (k :: m) (o.erase k)) := f2 w5 _ h5
  clear h5 f2 r2
  go_wp2
  go_ret2
  obtain ⟨F5, hR5, hF5⟩ := H5.out.rebase (Below.refl _ _)
  exact ⟨_, F5, rfl, hR5, H5.out.fr_, fun y hy => (hF5 y hy).2, fun y hy => (hF5 y hy).1, Or.inl ⟨rfl, rfl⟩⟩
set_option maxHeartbeats 1600000 in
set_option maxRecDepth 100000 in
theorem two_new {a m o : List Nat} (h : Q3 w w g F size a m o) (hka : k ∉ a) (hkm : k ∉ m) (hko : k ∉ o) (hk2 : k < 18446744073709551616) (hz : size ≤ 1048576) (hnf : a.length + m.length < size) : Calls Tryz.prog 90 #[.pointer (some ⟨g, 0, none⟩), U k] w fun e w' => ∃ v F', e = .returned (.tuple #[.bool false, v]) ∧ Q3 w' w' g F' size (k :: a) m o ∧ Fr F w w' ∧ (∀ y ∈ F', y ∈ F ∨ w.heap.size ≤ y) ∧ (∀ y ∈ F', y < w'.heap.size) ∧ Tld w w' F' v [] := by
  obtain ⟨F1, r1, _⟩ := h.r1
  obtain ⟨F2, r2, _⟩ := h.r2
  obtain ⟨F3, r3, _⟩ := h.r3
  have H : Hid (Rw w w g 1 F1 a ∧ k < 18446744073709551616 ∧ decide (k ∈ a) = false ∧ Rw w w g 4 F2 m ∧ decide (k ∈ m) = false ∧ Rw w w g 7 F3 o ∧ decide (k ∈ o) = false ∧ Q3 w w g F size a m o ∧ k ∉ a ∧ a.length ≤ 1000000000) := ⟨r1, hk2, decide_eq_false hka, r2, decide_eq_false hkm, r3, decide_eq_false hko, h, hka, by omega⟩
  have hs : w.cell? ⟨g, 0, none⟩ = some (I size) := by obtain ⟨_, _, _, _, q⟩ := h; exact q
  have hl1 : (a.length : Int) + (m.length : Int) ≤ 1048576 := by omega
  have hl2 : (0 : Int) ≤ (a.length : Int) + (m.length : Int) := by omega
  have hful : ((a.length : Int) + (m.length : Int) == (size : Int)) = false := by
    rw [beq_eq_false_iff_ne]
    omega
  clear r1 r2 r3
  clear h hka hkm hko hk2 hz hnf
  go_enter Tryz.func90, Tryz.ntmps90
  go_wp2_with fail
  refine (H.out.1.has H.out.2.1).mono ?_
  rw [H.out.2.2.1]
  rintro _ w ⟨rfl, rfl⟩
  go_wp2_with fail
  refine (H.out.2.2.2.1.has H.out.2.1).mono ?_
  rw [H.out.2.2.2.2.1]
  rintro _ w ⟨rfl, rfl⟩
  go_wp2_with fail
  refine (H.out.2.2.2.2.2.1.has H.out.2.1).mono ?_
  rw [H.out.2.2.2.2.2.2.1]
  rintro _ w ⟨rfl, rfl⟩
  go_wp2_with fail
  go_quiet (first | (go_at_call_of 63 (Value.pointer (some ⟨g, 1, none⟩)); obtain ⟨_, q, _⟩ := (H.out.2.2.2.2.2.2.2.1.below (Go.Proofs.YtjcbpejplnaakaaGreat.Nm.below_drewN _ _)).r1; exact Calls.quiet_of_same q.count) | (go_at_call_of 63 (Value.pointer (some ⟨g, 4, none⟩)); obtain ⟨_, q, _⟩ := (H.out.2.2.2.2.2.2.2.1.below (Go.Proofs.YtjcbpejplnaakaaGreat.Nm.below_drewN _ _)).r2; exact Calls.quiet_of_same q.count))
  have H0 : Hid (Q3 w (w.drewN nq) g F size a m o) := H.out.2.2.2.2.2.2.2.1.below (Go.Proofs.YtjcbpejplnaakaaGreat.Nm.below_drewN _ nq)
  generalize w.drewN nq = w1 at *
  have HQ : Hid (Q3 w w1 g F size a m o) := H0.out
  go_wp2_with fail
  obtain ⟨F1', r1, f1⟩ := HQ.out.r1
  refine (r1.push H.out.2.2.2.2.2.2.2.2.1 H.out.2.1 H.out.2.2.2.2.2.2.2.2.2).mono ?_
  rintro _ w5 ⟨rfl, h5⟩
  have H5 : Hid (Q3 w w5 g F size (k :: a) m o) := f1 w5 _ h5
  clear h5 f1 r1
  go_wp2
  go_ret2
  obtain ⟨F5, hR5, hF5⟩ := H5.out.rebase (Below.refl _ _)
  exact ⟨_, F5, rfl, hR5, H5.out.fr_, fun y hy => (hF5 y hy).2, fun y hy => (hF5 y hy).1, Or.inl ⟨rfl, rfl⟩⟩
set_option maxHeartbeats 1600000 in
set_option maxRecDepth 100000 in
theorem two_outF {a m o a1 m1 o1 : List Nat} {x : Nat} (h : Q3 w w g F size a m o) (hka : k ∉ a) (hkm : k ∉ m) (hko : k ∈ o) (hk2 : k < 18446744073709551616) (hz : size ≤ 1048576) (hfl : a.length + m.length = size) (hrc : ∀ u, Q3 w u g F size a m o → Calls Tryz.prog 92 #[.pointer (some ⟨g, 0, none⟩)] u fun e w' => e = .returned (U x) ∧ Q3 w w' g F size a1 m1 o1) (hp1 : k ∉ m1) (hp2 : m1.length ≤ 1000000000) : Calls Tryz.prog 90 #[.pointer (some ⟨g, 0, none⟩), U k] w fun e w' => ∃ v F', e = .returned (.tuple #[.bool false, v]) ∧ Q3 w' w' g F' size a1 (k :: m1) (o1.erase k) ∧ Fr F w w' ∧ (∀ y ∈ F', y ∈ F ∨ w.heap.size ≤ y) ∧ (∀ y ∈ F', y < w'.heap.size) ∧ Tld w w' F' v [x] := by
  obtain ⟨F1, r1, _⟩ := h.r1
  obtain ⟨F2, r2, _⟩ := h.r2
  obtain ⟨F3, r3, _⟩ := h.r3
  have H : Hid (Rw w w g 1 F1 a ∧ k < 18446744073709551616 ∧ decide (k ∈ a) = false ∧ Rw w w g 4 F2 m ∧ decide (k ∈ m) = false ∧ Rw w w g 7 F3 o ∧ decide (k ∈ o) = true ∧ Q3 w w g F size a m o ∧ k ∉ m1 ∧ m1.length ≤ 1000000000) := ⟨r1, hk2, decide_eq_false hka, r2, decide_eq_false hkm, r3, decide_eq_true hko, h, hp1, hp2⟩
  have hs : w.cell? ⟨g, 0, none⟩ = some (I size) := by obtain ⟨_, _, _, _, q⟩ := h; exact q
  have hl1 : (a.length : Int) + (m.length : Int) ≤ 1048576 := by omega
  have hl2 : (0 : Int) ≤ (a.length : Int) + (m.length : Int) := by omega
  have hful : ((a.length : Int) + (m.length : Int) == (size : Int)) = true := by
    rw [beq_iff_eq]
    omega
  have HRc : Hid (∀ u, Q3 w u g F size a m o → Calls Tryz.prog 92 #[.pointer (some ⟨g, 0, none⟩)] u fun e w' => e = .returned (U x) ∧ Q3 w w' g F size a1 m1 o1) := hrc
  obtain ⟨j0, hj, hj0, hj1, hj2⟩ := info_parts info33
  clear r1 r2 r3
  clear h hka hkm hko hk2 hz hfl hrc hp1 hp2
  go_enter Tryz.func90, Tryz.ntmps90
  go_wp2_with fail
  refine (H.out.1.has H.out.2.1).mono ?_
  rw [H.out.2.2.1]
  rintro _ w ⟨rfl, rfl⟩
  go_wp2_with fail
  refine (H.out.2.2.2.1.has H.out.2.1).mono ?_
  rw [H.out.2.2.2.2.1]
  rintro _ w ⟨rfl, rfl⟩
  go_wp2_with fail
  refine (H.out.2.2.2.2.2.1.has H.out.2.1).mono ?_
  rw [H.out.2.2.2.2.2.2.1]
  rintro _ w ⟨rfl, rfl⟩
  go_wp2_with fail
  go_quiet (first | (go_at_call_of 63 (Value.pointer (some ⟨g, 1, none⟩)); obtain ⟨_, q, _⟩ := (H.out.2.2.2.2.2.2.2.1.below (Go.Proofs.YtjcbpejplnaakaaGreat.Nm.below_drewN _ _)).r1; exact Calls.quiet_of_same q.count) | (go_at_call_of 63 (Value.pointer (some ⟨g, 4, none⟩)); obtain ⟨_, q, _⟩ := (H.out.2.2.2.2.2.2.2.1.below (Go.Proofs.YtjcbpejplnaakaaGreat.Nm.below_drewN _ _)).r2; exact Calls.quiet_of_same q.count))
  have H0 : Hid (Q3 w (w.drewN nq) g F size a m o) := H.out.2.2.2.2.2.2.2.1.below (Go.Proofs.YtjcbpejplnaakaaGreat.Nm.below_drewN _ nq)
  generalize w.drewN nq = w9 at *
  go_wp2_with fail
  refine (HRc.out _ H0.out).mono ?_
  rintro _ w1 ⟨rfl, h1⟩
  have H1 : Hid (Q3 w w1 g F size a1 m1 o1) := h1
  clear h1 H0
  have HO : Hid ((w1.alloc (.cells #[U x] 33)).ownsRow w1.heap.size 33 1 (.slice none 0 0) 0 []) := World.ownsRow_nil _ _ _ _
  go_wp2_with (at_builtin; refine append_gone _ rfl _ _ 22 rfl w1.heap.size 33 j0 (.int .u64 0) 1 8 Tryz.underlying22 hj hj0 hj1 hj2 rfl (by decide) (.slice none 0 0) 0 [] rfl HO.out ⟨w1.heap.size, 0, none⟩ 1 1 [U x] rfl rfl ?c1 ?c2 ?c3 ?c4 ?c5 ?c6 ?_)
  case c1 => exact cells_new w1 33 [U x]
  case c2 => simp [Value.oneCell']
  case c3 => unfold maxLen; omega
  case c4 => omega
  case c5 => simp
  case c6 => decide
  intro v4 w4 ho hG
  have hb4 : Below w1.heap.size w1 w4 := gone_below ((Below.refl _ w1).alloc (Nat.le_refl _) _) (fun k hk => (World.ownsRow.lt HO.out k hk).1) (by simp) hG
  obtain ⟨b, cap, cur, rfl, hb1, hb2, hb5, hb6, hb7, hb3⟩ := own_block ho (by omega)
  obtain ⟨F4, hR4, hF4⟩ := H1.out.rebase hb4
  have hcell : Ob w4 b cap x := ob_mk hb2 hb5 hb6 hb7 hb3
  have H4 : Hid (Below w1.heap.size w1 w4 ∧ w1.heap.size ≤ b ∧ b < w4.heap.size ∧ Ob w4 b cap x ∧ Q3 w4 w4 g F4 size a1 m1 o1 ∧ ∀ y ∈ F4, y < w1.heap.size ∧ (y ∈ F ∨ w.heap.size ≤ y)) := ⟨hb4, hb1, blk_lt hb2, hcell, hR4, hF4⟩
  clear ho hG hb4 hb1 hb2 hb5 hb6 hb7 hb3 hR4 hF4 hcell
  have HQ : Hid (Q3 w4 w4 g F4 size a1 m1 o1) := H4.out.2.2.2.2.1
  go_wp2_with fail
  refine (HQ.out.drop3 H.out.2.1).mono ?_
  rintro _ w6 ⟨⟨bb, rfl⟩, h6⟩
  have H6 : Hid (Q3 w4 w6 g F4 size a1 m1 (o1.erase k)) := h6
  clear h6
  go_wp2_with fail
  obtain ⟨F2', r2, f2⟩ := H6.out.r2
  refine (r2.push H.out.2.2.2.2.2.2.2.2.1 H.out.2.1 H.out.2.2.2.2.2.2.2.2.2).mono ?_
  rintro _ w5 ⟨rfl, h5⟩
  have H5 : Hid (Q3 w4 w5 g F4 size a1 (k :: m1) (o1.erase k)) := f2 w5 _ h5
  clear h5 f2 r2
  go_wp2
  go_ret2
  obtain ⟨q1, q2, q3, q4, q5, q6⟩ := H4.out
  obtain ⟨F5, hR5, hF5⟩ := H5.out.rebase (Below.refl _ _)
  have z1 := H1.out.fr_.size
  have z4 := q1.size
  have z5 := H5.out.fr_.size
  have hbF : b ∉ F4 := fun e => by have := (q6 b e).1; omega
  have hcomp := (H1.out.below q1).comp H5.out fun y hy => (q6 y hy).2
  refine ⟨_, F5, rfl, hR5, hcomp.fr_, fun y hy => ?_, fun y hy => (hF5 y hy).1, Or.inr ⟨x, b, cap, rfl, rfl, q4.same (H5.out.fr_.block b q3 hbF), by omega, by omega, fun e => ?_⟩⟩
  · rcases (hF5 y hy).2 with e | e
    · exact (q6 y e).2
    · right; omega
  · rcases (hF5 b e).2 with e | e
    · exact hbF e
    · omega
set_option maxHeartbeats 1600000 in
set_option maxRecDepth 100000 in
theorem two_newF {a m o a1 m1 o1 : List Nat} {x : Nat} (h : Q3 w w g F size a m o) (hka : k ∉ a) (hkm : k ∉ m) (hko : k ∉ o) (hk2 : k < 18446744073709551616) (hz : size ≤ 1048576) (hfl : a.length + m.length = size) (hrc : ∀ u, Q3 w u g F size a m o → Calls Tryz.prog 92 #[.pointer (some ⟨g, 0, none⟩)] u fun e w' => e = .returned (U x) ∧ Q3 w w' g F size a1 m1 o1) (hp1 : k ∉ a1) (hp2 : a1.length ≤ 1000000000) : Calls Tryz.prog 90 #[.pointer (some ⟨g, 0, none⟩), U k] w fun e w' => ∃ v F', e = .returned (.tuple #[.bool false, v]) ∧ Q3 w' w' g F' size (k :: a1) m1 o1 ∧ Fr F w w' ∧ (∀ y ∈ F', y ∈ F ∨ w.heap.size ≤ y) ∧ (∀ y ∈ F', y < w'.heap.size) ∧ Tld w w' F' v [x] := by
  obtain ⟨F1, r1, _⟩ := h.r1
  obtain ⟨F2, r2, _⟩ := h.r2
  obtain ⟨F3, r3, _⟩ := h.r3
  have H : Hid (Rw w w g 1 F1 a ∧ k < 18446744073709551616 ∧ decide (k ∈ a) = false ∧ Rw w w g 4 F2 m ∧ decide (k ∈ m) = false ∧ Rw w w g 7 F3 o ∧ decide (k ∈ o) = false ∧ Q3 w w g F size a m o ∧ k ∉ a1 ∧ a1.length ≤ 1000000000) := ⟨r1, hk2, decide_eq_false hka, r2, decide_eq_false hkm, r3, decide_eq_false hko, h, hp1, hp2⟩
  have hs : w.cell? ⟨g, 0, none⟩ = some (I size) := by obtain ⟨_, _, _, _, q⟩ := h; exact q
  have hl1 : (a.length : Int) + (m.length : Int) ≤ 1048576 := by omega
  have hl2 : (0 : Int) ≤ (a.length : Int) + (m.length : Int) := by omega
  have hful : ((a.length : Int) + (m.length : Int) == (size : Int)) = true := by
    rw [beq_iff_eq]
    omega
  have HRc : Hid (∀ u, Q3 w u g F size a m o → Calls Tryz.prog 92 #[.pointer (some ⟨g, 0, none⟩)] u fun e w' => e = .returned (U x) ∧ Q3 w w' g F size a1 m1 o1) := hrc
  obtain ⟨j0, hj, hj0, hj1, hj2⟩ := info_parts info33
  clear r1 r2 r3
  clear h hka hkm hko hk2 hz hfl hrc hp1 hp2
  go_enter Tryz.func90, Tryz.ntmps90
  go_wp2_with fail
  refine (H.out.1.has H.out.2.1).mono ?_
  rw [H.out.2.2.1]
  rintro _ w ⟨rfl, rfl⟩
  go_wp2_with fail
  refine (H.out.2.2.2.1.has H.out.2.1).mono ?_
  rw [H.out.2.2.2.2.1]
  rintro _ w ⟨rfl, rfl⟩
  go_wp2_with fail
  refine (H.out.2.2.2.2.2.1.has H.out.2.1).mono ?_
  rw [H.out.2.2.2.2.2.2.1]
  rintro _ w ⟨rfl, rfl⟩
  go_wp2_with fail
  go_quiet (first | (go_at_call_of 63 (Value.pointer (some ⟨g, 1, none⟩)); obtain ⟨_, q, _⟩ := (H.out.2.2.2.2.2.2.2.1.below (Go.Proofs.YtjcbpejplnaakaaGreat.Nm.below_drewN _ _)).r1; exact Calls.quiet_of_same q.count) | (go_at_call_of 63 (Value.pointer (some ⟨g, 4, none⟩)); obtain ⟨_, q, _⟩ := (H.out.2.2.2.2.2.2.2.1.below (Go.Proofs.YtjcbpejplnaakaaGreat.Nm.below_drewN _ _)).r2; exact Calls.quiet_of_same q.count))
  have H0 : Hid (Q3 w (w.drewN nq) g F size a m o) := H.out.2.2.2.2.2.2.2.1.below (Go.Proofs.YtjcbpejplnaakaaGreat.Nm.below_drewN _ nq)
  generalize w.drewN nq = w9 at *
  go_wp2_with fail
  refine (HRc.out _ H0.out).mono ?_
  rintro _ w1 ⟨rfl, h1⟩
  have H1 : Hid (Q3 w w1 g F size a1 m1 o1) := h1
  clear h1 H0
  have HO : Hid ((w1.alloc (.cells #[U x] 33)).ownsRow w1.heap.size 33 1 (.slice none 0 0) 0 []) := World.ownsRow_nil _ _ _ _
  go_wp2_with (at_builtin; refine append_gone _ rfl _ _ 22 rfl w1.heap.size 33 j0 (.int .u64 0) 1 8 Tryz.underlying22 hj hj0 hj1 hj2 rfl (by decide) (.slice none 0 0) 0 [] rfl HO.out ⟨w1.heap.size, 0, none⟩ 1 1 [U x] rfl rfl ?c1 ?c2 ?c3 ?c4 ?c5 ?c6 ?_)
  case c1 => exact cells_new w1 33 [U x]
  case c2 => simp [Value.oneCell']
  case c3 => unfold maxLen; omega
  case c4 => omega
  case c5 => simp
  case c6 => decide
  intro v4 w4 ho hG
  have hb4 : Below w1.heap.size w1 w4 := gone_below ((Below.refl _ w1).alloc (Nat.le_refl _) _) (fun k hk => (World.ownsRow.lt HO.out k hk).1) (by simp) hG
  obtain ⟨b, cap, cur, rfl, hb1, hb2, hb5, hb6, hb7, hb3⟩ := own_block ho (by omega)
  obtain ⟨F4, hR4, hF4⟩ := H1.out.rebase hb4
  have hcell : Ob w4 b cap x := ob_mk hb2 hb5 hb6 hb7 hb3
  have H4 : Hid (Below w1.heap.size w1 w4 ∧ w1.heap.size ≤ b ∧ b < w4.heap.size ∧ Ob w4 b cap x ∧ Q3 w4 w4 g F4 size a1 m1 o1 ∧ ∀ y ∈ F4, y < w1.heap.size ∧ (y ∈ F ∨ w.heap.size ≤ y)) := ⟨hb4, hb1, blk_lt hb2, hcell, hR4, hF4⟩
  clear ho hG hb4 hb1 hb2 hb5 hb6 hb7 hb3 hR4 hF4 hcell
  have HQ : Hid (Q3 w4 w4 g F4 size a1 m1 o1) := H4.out.2.2.2.2.1
  go_wp2_with fail
  obtain ⟨F1', r1, f1⟩ := HQ.out.r1
  refine (r1.push H.out.2.2.2.2.2.2.2.2.1 H.out.2.1 H.out.2.2.2.2.2.2.2.2.2).mono ?_
  rintro _ w5 ⟨rfl, h5⟩
  have H5 : Hid (Q3 w4 w5 g F4 size (k :: a1) m1 o1) := f1 w5 _ h5
  clear h5 f1 r1
  go_wp2
  go_ret2
  obtain ⟨q1, q2, q3, q4, q5, q6⟩ := H4.out
  obtain ⟨F5, hR5, hF5⟩ := H5.out.rebase (Below.refl _ _)
  have z1 := H1.out.fr_.size
  have z4 := q1.size
  have z5 := H5.out.fr_.size
  have hbF : b ∉ F4 := fun e => by have := (q6 b e).1; omega
  have hcomp := (H1.out.below q1).comp H5.out fun y hy => (q6 y hy).2
  refine ⟨_, F5, rfl, hR5, hcomp.fr_, fun y hy => ?_, fun y hy => (hF5 y hy).1, Or.inr ⟨x, b, cap, rfl, rfl, q4.same (H5.out.fr_.block b q3 hbF), by omega, by omega, fun e => ?_⟩⟩
  · rcases (hF5 y hy).2 with e | e
    · exact (q6 y e).2
    · right; omega
  · rcases (hF5 b e).2 with e | e
    · exact hbF e
    · omega
end
end Go.Proofs.YtjcbpejplnaakaaGreat.Md
