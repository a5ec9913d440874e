import Derived.Test.YtjcbpejplnaakaaGreatMdTwo
namespace Go.Proofs.YtjcbpejplnaakaaGreat.Md
open Go.RowKit Go.Maps Go.Proofs.YtjcbpejplnaakaaGreat.Nm

section
variable {w w' w2 w0 : World} {g o : Nat} {F F' G : List Nat} {k size p : Nat} {ks ks' l k1 k2 k3 k4 : List Nat}
theorem Rw.gF (h : Rw w w g o F ks) : g ∈ F := by
  obtain ⟨L, c, m, ns, fr, h1, h2⟩ := h
  exact (h1.inF g (by simp [foot])).elim id (fun e => absurd (h1.mem.lt g (by simp [foot])) (by omega))
/-- a cell ahead of a row is written -/
theorem Rw.hdr (h : Rw w w g o F ks) {j : Nat} (hj : j < o) (v : Value) : Rw (w.setCell ⟨g, j, none⟩ v) (w.setCell ⟨g, j, none⟩ v) g o F ks := by
  obtain ⟨L, c, m, ns, fr, h1, h2⟩ := h
  have hft : ∀ x ∈ foot g L, x ∈ F := fun x hx => (h1.inF x hx).elim id (fun e => absurd (h1.mem.lt x hx) (by omega))
  obtain ⟨cs, T, q1, q2, q3, q4⟩ := h1.mem.row
  obtain ⟨cs2, q5, q6⟩ := h1.mem.nds
  refine ⟨L, c, m, ns, fr, ⟨⟨⟨_, T, set_blk q1, ?_, ?_, ?_⟩, ⟨cs2, (set_other h1.mem.ne.symm).trans q5, q6⟩, h1.mem.book.same (set_other h1.mem.gm.symm), h1.mem.ne, h1.mem.cap, h1.mem.capm⟩, Fr.refl _ _, fun _ _ => rfl, fun x hx => Or.inl (hft x hx)⟩, h2⟩
  · rw [set_get q2, if_neg (by omega)]
  · rw [set_get q3, if_neg (by omega)]
  · rw [set_get q4, if_neg (by omega)]
theorem Qs.hdr {rs : List (Nat × List Nat × List Nat)} {r : Nat × List Nat × List Nat} (h : Qs w0 w g F rs) {j : Nat} (hj : ∀ r ∈ rs, j < r.1) (hr : r ∈ rs) (v : Value) : Qs w0 (w.setCell ⟨g, j, none⟩ v) g F rs := by
  have hs := (Fr.set (F := [g]) (g := g) w j v (by simp)).size
  refine ⟨⟨fun r hr => (h.rows.row r hr).hdr (hj r hr) v, h.rows.ap, fun r hr x hx => Nat.lt_of_lt_of_le (h.rows.lt r hr x hx) hs⟩, h.fr.trans (Fr.set (F := [g]) (g := g) w j v (by simp)) (fun x hx => ?_), h.inF⟩
  rw [List.mem_singleton.1 hx]
  exact h.inF r hr g (h.rows.row r hr).gF
/-- a block of four rows, its p -/
def Q4 (w0 w : World) (g : Nat) (F : List Nat) (size p : Nat) (k1 k2 k3 k4 : List Nat) : Prop := ∃ F1 F2 F3 F4, Qs w0 w g F [(2, F1, k1), (5, F2, k2), (8, F3, k3), (11, F4, k4)] ∧ w.cell? ⟨g, 0, none⟩ = some (I size) ∧ w.cell? ⟨g, 1, none⟩ = some (I p)
theorem Q4.r1 (h : Q4 w0 w g F size p k1 k2 k3 k4) : ∃ Fi, Rw w w g 2 Fi k1 ∧ ∀ w' ks', Rw w w' g 2 Fi ks' → Q4 w0 w' g F size p ks' k2 k3 k4 := by
  obtain ⟨F1, F2, F3, F4, hq, hs, hp⟩ := h
  refine ⟨F1, hq.rows.row (2, F1, k1) (by simp), fun w' ks' hr => ?_⟩
  obtain ⟨F', q1, q2⟩ := hq.step (a := []) hr
  exact ⟨F', F2, F3, F4, q1, (q2 0 (by omega)).trans hs, (q2 1 (by omega)).trans hp⟩
theorem Q4.r2 (h : Q4 w0 w g F size p k1 k2 k3 k4) : ∃ Fi, Rw w w g 5 Fi k2 ∧ ∀ w' ks', Rw w w' g 5 Fi ks' → Q4 w0 w' g F size p k1 ks' k3 k4 := by
  obtain ⟨F1, F2, F3, F4, hq, hs, hp⟩ := h
  refine ⟨F2, hq.rows.row (5, F2, k2) (by simp), fun w' ks' hr => ?_⟩
  obtain ⟨F', q1, q2⟩ := hq.step (a := [(2, F1, k1)]) hr
  exact ⟨F1, F', F3, F4, q1, (q2 0 (by omega)).trans hs, (q2 1 (by omega)).trans hp⟩
theorem Q4.r3 (h : Q4 w0 w g F size p k1 k2 k3 k4) : ∃ Fi, Rw w w g 8 Fi k3 ∧ ∀ w' ks', Rw w w' g 8 Fi ks' → Q4 w0 w' g F size p k1 k2 ks' k4 := by
  obtain ⟨F1, F2, F3, F4, hq, hs, hp⟩ := h
  refine ⟨F3, hq.rows.row (8, F3, k3) (by simp), fun w' ks' hr => ?_⟩
  obtain ⟨F', q1, q2⟩ := hq.step (a := [(2, F1, k1), (5, F2, k2)]) hr
  exact ⟨F1, F2, F', F4, q1, (q2 0 (by omega)).trans hs, (q2 1 (by omega)).trans hp⟩
theorem Q4.r4 (h : Q4 w0 w g F size p k1 k2 k3 k4) : ∃ Fi, Rw w w g 11 Fi k4 ∧ ∀ w' ks', Rw w w' g 11 Fi ks' → Q4 w0 w' g F size p k1 k2 k3 ks' := by
  obtain ⟨F1, F2, F3, F4, hq, hs, hp⟩ := h
  refine ⟨F4, hq.rows.row (11, F4, k4) (by simp), fun w' ks' hr => ?_⟩
  obtain ⟨F', q1, q2⟩ := hq.step (a := [(2, F1, k1), (5, F2, k2), (8, F3, k3)]) hr
  exact ⟨F1, F2, F3, F', q1, (q2 0 (by omega)).trans hs, (q2 1 (by omega)).trans hp⟩
theorem Q4.below (h : Q4 w0 w g F size p k1 k2 k3 k4) (hb : Below w.heap.size w w') : Q4 w0 w' g F size p k1 k2 k3 k4 := by
  obtain ⟨F1, F2, F3, F4, hq, hs, hp⟩ := h
  have hg := hq.gB (r := (2, F1, k1)) (by simp)
  exact ⟨F1, F2, F3, F4, hq.below hb, (cell_blk (hb.block g hg) 0).trans hs, (cell_blk (hb.block g hg) 1).trans hp⟩
theorem Q4.rebase (h : Q4 w0 w g F size p k1 k2 k3 k4) (hb : Below w.heap.size w w2) : ∃ F', Q4 w2 w2 g F' size p k1 k2 k3 k4 ∧ ∀ x ∈ F', x < w.heap.size ∧ (x ∈ F ∨ w0.heap.size ≤ x) := by
  obtain ⟨F1, F2, F3, F4, hq, hs, hp⟩ := h
  have hg := hq.gB (r := (2, F1, k1)) (by simp)
  obtain ⟨F', q1, q2⟩ := hq.rebase hb
  exact ⟨F', ⟨F1, F2, F3, F4, q1, (cell_blk (hb.block g hg) 0).trans hs, (cell_blk (hb.block g hg) 1).trans hp⟩, q2⟩
theorem Q4.comp {p' : Nat} {k1' k2' k3' k4' : List Nat} (h : Q4 w0 w g F size p k1 k2 k3 k4) (h2 : Q4 w w' g F' size p' k1' k2' k3' k4') (hF : ∀ x ∈ F', x ∈ F ∨ w0.heap.size ≤ x) : Q4 w0 w' g F size p' k1' k2' k3' k4' := by
  obtain ⟨F1, F2, F3, F4, hq, hs, hp⟩ := h
  obtain ⟨G1, G2, G3, G4, hq2, hs2⟩ := h2
  exact ⟨G1, G2, G3, G4, hq.comp hq2 hF, hs2⟩
theorem Q4.fr_ (h : Q4 w0 w g F size p k1 k2 k3 k4) : Fr F w0 w := by
  obtain ⟨F1, F2, F3, F4, hq, _⟩ := h
  exact hq.fr
theorem Q4.sz (h : Q4 w0 w g F size p k1 k2 k3 k4) : w.cell? ⟨g, 0, none⟩ = some (I size) := by
  obtain ⟨F1, F2, F3, F4, hq, hs, hp⟩ := h
  exact hs
theorem Q4.pv (h : Q4 w0 w g F size p k1 k2 k3 k4) : w.cell? ⟨g, 1, none⟩ = some (I p) := by
  obtain ⟨F1, F2, F3, F4, hq, hs, hp⟩ := h
  exact hp
theorem Q4.setP (h : Q4 w0 w g F size p k1 k2 k3 k4) (p' : Nat) : Q4 w0 (w.setCell ⟨g, 1, none⟩ (I p')) g F size p' k1 k2 k3 k4 := by
  obtain ⟨F1, F2, F3, F4, hq, hs, hp⟩ := h
  refine ⟨F1, F2, F3, F4, hq.hdr (r := (2, F1, k1)) (by simp) (by simp) _, (set_cell_ne (by omega)).trans hs, ?_⟩
  obtain ⟨L, c, m, ns, fr, h1, _⟩ := hq.rows.row (2, F1, k1) (by simp)
  obtain ⟨cs, T, q1, q2, _⟩ := h1.mem.row
  simp only [World.cell?, q1] at hp
  simp only [World.cell?, set_blk q1]
  have hp' : cs[1]? = some (I p) := hp
  rw [set_get hp', if_pos rfl]
  rfl
set_option maxRecDepth 100000 in
theorem spill1 (h : Q4 w0 w g F size p (l ++ [k]) k2 k3 k4) (hk : k ∉ k3) (hk2 : k < 18446744073709551616) (hl : k3.length ≤ 1000000000) : Calls Tryz.prog 121 #[.pointer (some ⟨g, 2, none⟩), .pointer (some ⟨g, 8, none⟩)] w fun e w' => e = .returned (U k) ∧ Q4 w0 w' g F size p l k2 (k :: k3) k4 := by
  have H : Hid (Q4 w0 w g F size p (l ++ [k]) k2 k3 k4 ∧ k ∉ k3 ∧ k < 18446744073709551616 ∧ k3.length ≤ 1000000000) := ⟨h, hk, hk2, hl⟩
  clear h hk hk2 hl
  go_enter Tryz.func121, Tryz.ntmps121
  go_wp2_with fail
  obtain ⟨Fi, r, f⟩ := H.out.1.r1
  refine r.pop.mono ?_
  rintro _ w1 ⟨rfl, h1⟩
  have H1 : Hid (Q4 w0 w1 g F size p l k2 k3 k4) := f w1 _ h1
  clear h1 f r
  go_wp2_with fail
  obtain ⟨Fi, r, f⟩ := H1.out.r3
  refine (r.push H.out.2.1 H.out.2.2.1 H.out.2.2.2).mono ?_
  rintro _ w2 ⟨rfl, h2⟩
  have H2 : Hid (Q4 w0 w2 g F size p l k2 (k :: k3) k4) := f w2 _ h2
  clear h2 f r
  go_wp2
  go_ret
  exact ⟨rfl, H2.out⟩
set_option maxRecDepth 100000 in
theorem spill2 (h : Q4 w0 w g F size p k1 (l ++ [k]) k3 k4) (hk : k ∉ k4) (hk2 : k < 18446744073709551616) (hl : k4.length ≤ 1000000000) : Calls Tryz.prog 121 #[.pointer (some ⟨g, 5, none⟩), .pointer (some ⟨g, 11, none⟩)] w fun e w' => e = .returned (U k) ∧ Q4 w0 w' g F size p k1 l k3 (k :: k4) := by
  have H : Hid (Q4 w0 w g F size p k1 (l ++ [k]) k3 k4 ∧ k ∉ k4 ∧ k < 18446744073709551616 ∧ k4.length ≤ 1000000000) := ⟨h, hk, hk2, hl⟩
  clear h hk hk2 hl
  go_enter Tryz.func121, Tryz.ntmps121
  go_wp2_with fail
  obtain ⟨Fi, r, f⟩ := H.out.1.r2
  refine r.pop.mono ?_
  rintro _ w1 ⟨rfl, h1⟩
  have H1 : Hid (Q4 w0 w1 g F size p k1 l k3 k4) := f w1 _ h1
  clear h1 f r
  go_wp2_with fail
  obtain ⟨Fi, r, f⟩ := H1.out.r4
  refine (r.push H.out.2.1 H.out.2.2.1 H.out.2.2.2).mono ?_
  rintro _ w2 ⟨rfl, h2⟩
  have H2 : Hid (Q4 w0 w2 g F size p k1 l k3 (k :: k4)) := f w2 _ h2
  clear h2 f r
  go_wp2
  go_ret
  exact ⟨rfl, H2.out⟩
set_option maxHeartbeats 1600000 in
set_option maxRecDepth 100000 in
theorem repA {bb : Bool} (h : Q4 w0 w g F size p (l ++ [k]) k2 k3 k4) (hc : p < (l ++ [k]).length) (hk : k ∉ k3) (hk2 : k < 18446744073709551616) (hl : k3.length ≤ 1000000000) (hn : (l ++ [k]).length ≤ 1000000000) : Calls Tryz.prog 119 #[.pointer (some ⟨g, 0, none⟩), .bool bb] w fun e w' => e = .returned (U k) ∧ Q4 w0 w' g F size p l k2 (k :: k3) k4 := by
  have H : Hid (Q4 w0 w g F size p (l ++ [k]) k2 k3 k4 ∧ k ∉ k3 ∧ k < 18446744073709551616 ∧ k3.length ≤ 1000000000) := ⟨h, hk, hk2, hl⟩
  have HC : Hid (Calls Tryz.prog 63 #[.pointer (some ⟨g, 2, none⟩)] w fun e w' => e = .returned (I ((l ++ [k]).length : Nat)) ∧ w' = w) := by obtain ⟨_, r, _⟩ := h.r1; exact r.count
  have hp := h.pv
  generalize (l ++ [k]).length = n at HC hc hn
  have hc1 : (0 : Int) < (n : Int) := by omega
  have hc2 : (p : Int) < (n : Int) := by omega
  clear h hk hk2 hl hc
  go_enter Tryz.func119, Tryz.ntmps119
  go_wp2_with fail
  refine HC.out.mono ?_
  rintro _ w ⟨rfl, rfl⟩
  go_wp2_with fail
  go_region_with (go_at_call 121; refine (spill1 (H.out.1.below (by repeat (first | exact Below.refl _ _ | apply Below.drew))) H.out.2.1 H.out.2.2.1 H.out.2.2.2).mono ?_; rintro _ w2 ⟨rfl, h2⟩)
  all_goals (have H2 : Hid (Q4 w0 w2 g F size p l k2 (k :: k3) k4) := h2)
  all_goals clear h2
  all_goals (go_wp2; go_ret; exact ⟨rfl, H2.out⟩)
set_option maxHeartbeats 1600000 in
set_option maxRecDepth 100000 in
theorem repB (h : Q4 w0 w g F size p (l ++ [k]) k2 k3 k4) (hc : (l ++ [k]).length = p) (hk : k ∉ k3) (hk2 : k < 18446744073709551616) (hl : k3.length ≤ 1000000000) (hn : (l ++ [k]).length ≤ 1000000000) : Calls Tryz.prog 119 #[.pointer (some ⟨g, 0, none⟩), .bool true] w fun e w' => e = .returned (U k) ∧ Q4 w0 w' g F size p l k2 (k :: k3) k4 := by
  have H : Hid (Q4 w0 w g F size p (l ++ [k]) k2 k3 k4 ∧ k ∉ k3 ∧ k < 18446744073709551616 ∧ k3.length ≤ 1000000000) := ⟨h, hk, hk2, hl⟩
  have HC : Hid (Calls Tryz.prog 63 #[.pointer (some ⟨g, 2, none⟩)] w fun e w' => e = .returned (I ((l ++ [k]).length : Nat)) ∧ w' = w) := by obtain ⟨_, r, _⟩ := h.r1; exact r.count
  have hp := h.pv
  generalize hnl : (l ++ [k]).length = n at HC hc hn
  have hn0 : 0 < n := by rw [← hnl]; simp
  have hc1 : (0 : Int) < (n : Int) := by omega
  have hc2 : ¬ (p : Int) < (n : Int) := by omega
  have hc3 : ((n : Int) == (p : Int)) = true := by rw [beq_iff_eq]; omega
  clear h hk hk2 hl hc hnl
  go_enter Tryz.func119, Tryz.ntmps119
  go_wp2_with fail
  refine HC.out.mono ?_
  rintro _ w ⟨rfl, rfl⟩
  go_wp2_with fail
  go_region_with (go_at_call 121; refine (spill1 (H.out.1.below (by repeat (first | exact Below.refl _ _ | apply Below.drew))) H.out.2.1 H.out.2.2.1 H.out.2.2.2).mono ?_; rintro _ w2 ⟨rfl, h2⟩)
  all_goals (have H2 : Hid (Q4 w0 w2 g F size p l k2 (k :: k3) k4) := h2)
  all_goals clear h2
  all_goals (go_wp2; go_ret; exact ⟨rfl, H2.out⟩)
set_option maxHeartbeats 1600000 in
set_option maxRecDepth 100000 in
theorem repC {bb : Bool} (h : Q4 w0 w g F size p k1 (l ++ [k]) k3 k4) (hc : k1.length = 0) (hk : k ∉ k4) (hk2 : k < 18446744073709551616) (hl : k4.length ≤ 1000000000) (hn : k1.length ≤ 1000000000) : Calls Tryz.prog 119 #[.pointer (some ⟨g, 0, none⟩), .bool bb] w fun e w' => e = .returned (U k) ∧ Q4 w0 w' g F size p k1 l k3 (k :: k4) := by
  have H : Hid (Q4 w0 w g F size p k1 (l ++ [k]) k3 k4 ∧ k ∉ k4 ∧ k < 18446744073709551616 ∧ k4.length ≤ 1000000000) := ⟨h, hk, hk2, hl⟩
  have HC : Hid (Calls Tryz.prog 63 #[.pointer (some ⟨g, 2, none⟩)] w fun e w' => e = .returned (I (k1.length : Nat)) ∧ w' = w) := by obtain ⟨_, r, _⟩ := h.r1; exact r.count
  have hp := h.pv
  generalize k1.length = n at HC hc hn
  have hc1 : ¬ (0 : Int) < (n : Int) := by omega
  clear h hk hk2 hl hc
  go_enter Tryz.func119, Tryz.ntmps119
  go_wp2_with fail
  refine HC.out.mono ?_
  rintro _ w ⟨rfl, rfl⟩
  go_wp2_with fail
  go_region_with (go_at_call 121; refine (spill2 (H.out.1.below (by repeat (first | exact Below.refl _ _ | apply Below.drew))) H.out.2.1 H.out.2.2.1 H.out.2.2.2).mono ?_; rintro _ w2 ⟨rfl, h2⟩)
  all_goals (have H2 : Hid (Q4 w0 w2 g F size p k1 l k3 (k :: k4)) := h2)
  all_goals clear h2
  all_goals (go_wp2; go_ret; exact ⟨rfl, H2.out⟩)
set_option maxHeartbeats 1600000 in
set_option maxRecDepth 100000 in
theorem repD {bb : Bool} (h : Q4 w0 w g F size p k1 (l ++ [k]) k3 k4) (hc : 0 < k1.length ∧ k1.length < p) (hk : k ∉ k4) (hk2 : k < 18446744073709551616) (hl : k4.length ≤ 1000000000) (hn : k1.length ≤ 1000000000) : Calls Tryz.prog 119 #[.pointer (some ⟨g, 0, none⟩), .bool bb] w fun e w' => e = .returned (U k) ∧ Q4 w0 w' g F size p k1 l k3 (k :: k4) := by
  have H : Hid (Q4 w0 w g F size p k1 (l ++ [k]) k3 k4 ∧ k ∉ k4 ∧ k < 18446744073709551616 ∧ k4.length ≤ 1000000000) := ⟨h, hk, hk2, hl⟩
  have HC : Hid (Calls Tryz.prog 63 #[.pointer (some ⟨g, 2, none⟩)] w fun e w' => e = .returned (I (k1.length : Nat)) ∧ w' = w) := by obtain ⟨_, r, _⟩ := h.r1; exact r.count
  have hp := h.pv
  generalize k1.length = n at HC hc hn
  have hc1 : (0 : Int) < (n : Int) := by omega
  have hc2 : ¬ (p : Int) < (n : Int) := by omega
  have hc3 : ((n : Int) == (p : Int)) = false := by rw [beq_eq_false_iff_ne]; omega
  clear h hk hk2 hl hc
  go_enter Tryz.func119, Tryz.ntmps119
  go_wp2_with fail
  refine HC.out.mono ?_
  rintro _ w ⟨rfl, rfl⟩
  go_wp2_with fail
  go_region_with (go_at_call 121; refine (spill2 (H.out.1.below (by repeat (first | exact Below.refl _ _ | apply Below.drew))) H.out.2.1 H.out.2.2.1 H.out.2.2.2).mono ?_; rintro _ w2 ⟨rfl, h2⟩)
  all_goals (have H2 : Hid (Q4 w0 w2 g F size p k1 l k3 (k :: k4)) := h2)
  all_goals clear h2
  all_goals (go_wp2; go_ret; exact ⟨rfl, H2.out⟩)
set_option maxHeartbeats 1600000 in
set_option maxRecDepth 100000 in
theorem repE (h : Q4 w0 w g F size p k1 (l ++ [k]) k3 k4) (hc : 0 < k1.length ∧ k1.length = p) (hk : k ∉ k4) (hk2 : k < 18446744073709551616) (hl : k4.length ≤ 1000000000) (hn : k1.length ≤ 1000000000) : Calls Tryz.prog 119 #[.pointer (some ⟨g, 0, none⟩), .bool false] w fun e w' => e = .returned (U k) ∧ Q4 w0 w' g F size p k1 l k3 (k :: k4) := by
  have H : Hid (Q4 w0 w g F size p k1 (l ++ [k]) k3 k4 ∧ k ∉ k4 ∧ k < 18446744073709551616 ∧ k4.length ≤ 1000000000) := ⟨h, hk, hk2, hl⟩
  have HC : Hid (Calls Tryz.prog 63 #[.pointer (some ⟨g, 2, none⟩)] w fun e w' => e = .returned (I (k1.length : Nat)) ∧ w' = w) := by obtain ⟨_, r, _⟩ := h.r1; exact r.count
  have hp := h.pv
  generalize k1.length = n at HC hc hn
  have hc1 : (0 : Int) < (n : Int) := by omega
  have hc2 : ¬ (p : Int) < (n : Int) := by omega
  have hc3 : ((n : Int) == (p : Int)) = true := by rw [beq_iff_eq]; omega
  clear h hk hk2 hl hc
  go_enter Tryz.func119, Tryz.ntmps119
  go_wp2_with fail
  refine HC.out.mono ?_
  rintro _ w ⟨rfl, rfl⟩
  go_wp2_with fail
  go_region_with (go_at_call 121; refine (spill2 (H.out.1.below (by repeat (first | exact Below.refl _ _ | apply Below.drew))) H.out.2.1 H.out.2.2.1 H.out.2.2.2).mono ?_; rintro _ w2 ⟨rfl, h2⟩)
  all_goals (have H2 : Hid (Q4 w0 w2 g F size p k1 l k3 (k :: k4)) := h2)
  all_goals clear h2
  all_goals (go_wp2; go_ret; exact ⟨rfl, H2.out⟩)
end
end Go.Proofs.YtjcbpejplnaakaaGreat.Md
