import Derived.Test.YtjcbpejplnaakaaGreatMdArb
namespace Go.Proofs.YtjcbpejplnaakaaGreat.Md
open Go.RowKit Go.Maps Go.Proofs.YtjcbpejplnaakaaGreat.Nm

section
variable {w w' w2 w0 : World} {g o : Nat} {F F' G : List Nat} {k size p : Nat} {ks ks' l k1 k2 k3 k4 : List Nat}
theorem Q4.cn1 (h : Q4 w0 w g F size p k1 k2 k3 k4) : Calls Tryz.prog 63 #[.pointer (some ⟨g, 2, none⟩)] w fun e w' => e = .returned (I (k1.length : Nat)) ∧ w' = w := by obtain ⟨_, r, _⟩ := h.r1; exact r.count
theorem Q4.cn2 (h : Q4 w0 w g F size p k1 k2 k3 k4) : Calls Tryz.prog 63 #[.pointer (some ⟨g, 5, none⟩)] w fun e w' => e = .returned (I (k2.length : Nat)) ∧ w' = w := by obtain ⟨_, r, _⟩ := h.r2; exact r.count
theorem Q4.cn3 (h : Q4 w0 w g F size p k1 k2 k3 k4) : Calls Tryz.prog 63 #[.pointer (some ⟨g, 8, none⟩)] w fun e w' => e = .returned (I (k3.length : Nat)) ∧ w' = w := by obtain ⟨_, r, _⟩ := h.r3; exact r.count
theorem Q4.cn4 (h : Q4 w0 w g F size p k1 k2 k3 k4) : Calls Tryz.prog 63 #[.pointer (some ⟨g, 11, none⟩)] w fun e w' => e = .returned (I (k4.length : Nat)) ∧ w' = w := by obtain ⟨_, r, _⟩ := h.r4; exact r.count
theorem Q4.nf (h : Q4 w0 w g F size p k1 k2 k3 k4) : w.frozen? ⟨g, 1, none⟩ = false := by obtain ⟨F1, F2, F3, F4, hq, hs, hp⟩ := h; obtain ⟨L, c, m, ns, fr, h1, _⟩ := hq.rows.row (2, F1, k1) (by simp); exact h1.mem.cellsR.2.2.2 1
/-- a key of B1: p grows; of B2: it falls -/
def pUp (size p n3 n4 : Nat) : Nat := min (p + max 1 (n4 / n3)) size
def pDn (p n3 n4 : Nat) : Nat := p - max 1 (n3 / n4)
/-- what Access leaves that evicts one, and misses -/
def Aq (w w' : World) (g : Nat) (F F' : List Nat) (size p : Nat) (k1 k2 k3 k4 : List Nat) (v : Value) (out : List Nat) : Prop := Q4 w' w' g F' size p k1 k2 k3 k4 ∧ Fr F w w' ∧ (∀ y ∈ F', y ∈ F ∨ w.heap.size ≤ y) ∧ (∀ y ∈ F', y < w'.heap.size) ∧ Tld w w' F' v out
set_option maxHeartbeats 1600000 in
set_option maxRecDepth 100000 in
theorem arc_b1 (h : Q4 w w g F size p k1 k2 k3 k4) (hk1 : k ∉ k1) (hkk : k ∉ k2) (hk3 : k ∈ k3) (hk2 : k < 18446744073709551616) (hz : size ≤ 1048576) (hp : p ≤ size) (hl1 : k1.length ≤ 1048576) (hl2 : k2.length ≤ 1048576) (hl3 : k3.length ≤ 2097152) (hl4 : k4.length ≤ 2097152) (h13 : ∀ x ∈ k1, x ∉ k3) (h24 : ∀ x ∈ k2, x ∉ k4) (hne : ¬ RepC (pUp size p k3.length k4.length) k1.length false → k2 ≠ []) : Calls Tryz.prog 117 #[.pointer (some ⟨g, 0, none⟩), U k] w fun e w' => ∃ v F' x j1 j2 j3 j4, e = .returned (.tuple #[.bool false, v]) ∧ Rep (pUp size p k3.length k4.length) false k1 k2 k3 k4 x j1 j2 j3 j4 ∧ Aq w w' g F F' size (pUp size p k3.length k4.length) j1 (k :: j2) (j3.erase k) j4 v [x] := by
  have hn3 : 0 < k3.length := List.length_pos_of_mem hk3
  have H : Hid (Q4 w w g F size p k1 k2 k3 k4 ∧ k ∉ k1 ∧ k ∉ k2 ∧ k < 18446744073709551616 ∧ k ∈ k3 ∧ decide (k ∈ k3) = true) := ⟨h, hk1, hkk, hk2, hk3, decide_eq_true hk3⟩
  have HL : Hid (k1.length ≤ 1000000000 ∧ k2.length ≤ 1000000000 ∧ k3.length ≤ 1000000000 ∧ k4.length ≤ 1000000000 ∧ (∀ x ∈ k1, x ∉ k3) ∧ ∀ x ∈ k2, x ∉ k4) := ⟨by omega, by omega, by omega, by omega, h13, h24⟩
  have HNE : Hid (¬ RepC (pUp size p k3.length k4.length) k1.length false → k2 ≠ []) := hne
  have HC3 : Hid (∀ j, Calls Tryz.prog 63 #[.pointer (some ⟨g, 8, none⟩)] (w.drewN j) fun e w' => e = .returned (I (k3.length : Nat)) ∧ w' = w.drewN j) := fun j => (h.below (Go.Proofs.YtjcbpejplnaakaaGreat.Nm.below_drewN _ _)).cn3
  have HC4 : Hid (∀ j, Calls Tryz.prog 63 #[.pointer (some ⟨g, 11, none⟩)] (w.drewN j) fun e w' => e = .returned (I (k4.length : Nat)) ∧ w' = w.drewN j) := fun j => (h.below (Go.Proofs.YtjcbpejplnaakaaGreat.Nm.below_drewN _ _)).cn4
  have hsz := h.sz
  have hpv := h.pv
  clear hne
  generalize k3.length = n3 at hn3 HNE HC3 hl3 ⊢
  generalize k4.length = n4 at hn3 HNE HC4 hl4 ⊢
  have hi3 : ¬ n3 = 0 := by omega
  have hqle : n4 / n3 ≤ n4 := Nat.div_le_self _ _
  have hqc : (n4 : Int) / (n3 : Int) = ((n4 / n3 : Nat) : Int) := by simp
  have HP : Hid (pUp size p n3 n4 = min (p + max 1 (n4 / n3)) size) := rfl
  generalize hqe : n4 / n3 = q at HP hqc hqle
  have hq : IntKind.i64.wrap ((n4 : Int) / (n3 : Int)) = (q : Int) := by rw [hqc, IntKind.wrap_i64]; omega
  have hm1 : (if (1 : Int) < (q : Int) then (q : Int) else 1) = ((max 1 q : Nat) : Int) := by split <;> omega
  have hm2 : (if 1 < q then (q : Int) else 1) = ((max 1 q : Nat) : Int) := by split <;> omega
  have hmx : max 1 q ≤ 2097153 := by omega
  generalize max 1 q = mx at *
  have hw1 : IntKind.i64.wrap ((p : Int) + (mx : Int)) = ((p + mx : Nat) : Int) := by rw [IntKind.wrap_i64]; omega
  generalize hpm : p + mx = pm at *
  have hs1 : (if (size : Int) < (pm : Int) then (size : Int) else (pm : Int)) = ((min pm size : Nat) : Int) := by split <;> omega
  have hs2 : (if size < pm then (size : Int) else (pm : Int)) = ((min pm size : Nat) : Int) := by split <;> omega
  generalize hpp : min pm size = pp at *
  have hmx' : (mx : Int) ≤ 2097153 := by omega
  have hp' : (p : Int) ≤ 1048576 := by omega
  have hsz' : (size : Int) ≤ 1048576 := by omega
  clear hqc hqe hqle hpp hl4 hl3 hz hp hpm
  clear h hk1 hkk hk3 hk2 hl1 hl2 h13 h24
  obtain ⟨j0, hj, hj0, hj1, hj2⟩ := info_parts info33
  go_enter Tryz.func117, Tryz.ntmps117
  go_wp2_with fail
  obtain ⟨Fi, r, f⟩ := H.out.1.r1
  refine (r.nodrop H.out.2.1 H.out.2.2.2.1).mono ?_
  rintro _ w ⟨rfl, rfl⟩
  clear r f
  go_wp2_with fail
  obtain ⟨Fi, r, f⟩ := H.out.1.r2
  refine (r.nodrop H.out.2.2.1 H.out.2.2.2.1).mono ?_
  rintro _ w ⟨rfl, rfl⟩
  clear r f
  go_wp2_with fail
  obtain ⟨Fi, r, f⟩ := H.out.1.r3
  refine (r.has H.out.2.2.2.1).mono ?_
  rw [H.out.2.2.2.2.2]
  rintro _ w ⟨rfl, rfl⟩
  clear r f
  go_wp2_with fail
  refine wp_region_quiet_tail (C := fun w' => ∃ j, w' = w.drewN j) 23 (by kernel_rfl) (by kernel_rfl) ⟨1, rfl⟩ ?_
  simp only [List.take_succ_cons, List.take_zero, List.drop_succ_cons, List.drop_zero]
  iterate 23 quiet_step (first | (go_at_call_of 63 (Value.pointer (some ⟨g, 8, none⟩)); exact Calls.quiet_of_same (HC3.out _)) | (go_at_call_of 63 (Value.pointer (some ⟨g, 11, none⟩)); exact Calls.quiet_of_same (HC4.out _)))
  refine wpQuiet_nil ?_
  rintro _ ⟨j, rfl⟩
  have H0 : Hid (Q4 w (w.drewN j) g F size p k1 k2 k3 k4) := H.out.1.below (Go.Proofs.YtjcbpejplnaakaaGreat.Nm.below_drewN _ j)
  generalize w.drewN j = w9 at *
  have hpv9 := H0.out.pv
  have hfz9 := H0.out.nf
  have H1 : Hid (Q4 w (w9.setCell ⟨g, 1, none⟩ (I pp)) g F size pp k1 k2 k3 k4) := H0.out.setP pp
  clear hm1 hm2 hs1 hs2 hw1 hq HC3 HC4 hpv hsz
  go_wp2_with fail
  refine (rep_any (bb := false) H1.out (by rw [← HP.out]; exact HNE.out) HL.out.2.2.2.2.1 HL.out.2.2.2.2.2 HL.out.1 HL.out.2.2.1 HL.out.2.2.2.1).mono ?_
  rintro _ w1 ⟨x, j1, j2, j3, j4, rfl, h3, hrep⟩
  have H3 : Hid (Q4 w w1 g F size pp j1 j2 j3 j4 ∧ Rep pp false k1 k2 k3 k4 x j1 j2 j3 j4) := ⟨h3, hrep⟩
  have HJ : Hid (k ∈ j3 ∧ k ∉ j2 ∧ j2.length ≤ 1000000000) := by
    have a1 := H.out.2.2.1
    have a2 := H.out.2.2.2.2.1
    have a3 := HL.out.2.1
    rcases hrep with ⟨_, e1, e2, e3, e4⟩ | ⟨_, e1, e2, e3, e4⟩
    · refine ⟨?_, by rw [e2]; exact a1, by rw [e2]; exact a3⟩
      first | (rw [e3]; exact List.mem_cons_of_mem _ a2) | (rw [e4]; exact a2)
    · refine ⟨?_, fun e => a1 (by rw [e2]; exact List.mem_append_left _ e), ?_⟩
      · first | (rw [e3]; exact a2) | (rw [e4]; exact List.mem_cons_of_mem _ a2)
      · rw [e2] at a3
        simp at a3
        omega
  clear h3 hrep H1 H0 hpv9 hfz9
  have HO : Hid ((w1.alloc (.cells #[U x] 33)).ownsRow w1.heap.size 33 1 (.slice none 0 0) 0 []) := World.ownsRow_nil _ _ _ _
  go_wp2_with (at_builtin; refine append_gone _ rfl _ _ 22 rfl w1.heap.size 33 j0 (.int .u64 0) 1 8 Tryz.underlying22 hj hj0 hj1 hj2 rfl (by decide) (.slice none 0 0) 0 [] rfl HO.out ⟨w1.heap.size, 0, none⟩ 1 1 [U x] rfl rfl ?c1 ?c2 ?c3 ?c4 ?c5 ?c6 ?_)
  case c1 => exact cells_new w1 33 [U x]
  case c2 => simp [Value.oneCell']
  case c3 => unfold maxLen; omega
  case c4 => omega
  case c5 => simp
  case c6 => decide
  intro v4 w4 ho hG
  have hb4 : Below w1.heap.size w1 w4 := gone_below ((Below.refl _ w1).alloc (Nat.le_refl _) _) (fun k hk => (World.ownsRow.lt HO.out k hk).1) (by simp) hG
  obtain ⟨b, cap, cur, rfl, hb1, hb2, hb5, hb6, hb7, hb3⟩ := own_block ho (by omega)
  obtain ⟨F4, hR4, hF4⟩ := H3.out.1.rebase hb4
  have hcell : Ob w4 b cap x := ob_mk hb2 hb5 hb6 hb7 hb3
  have H4 : Hid (Below w1.heap.size w1 w4 ∧ w1.heap.size ≤ b ∧ b < w4.heap.size ∧ Ob w4 b cap x ∧ Q4 w4 w4 g F4 size pp j1 j2 j3 j4 ∧ ∀ y ∈ F4, y < w1.heap.size ∧ (y ∈ F ∨ w.heap.size ≤ y)) := ⟨hb4, hb1, blk_lt hb2, hcell, hR4, hF4⟩
  clear ho hG hb4 hb1 hb2 hb5 hb6 hb7 hb3 hR4 hF4 hcell
  go_wp2_with fail
  obtain ⟨Fi, r, f⟩ := H4.out.2.2.2.2.1.r3
  refine (r.dodrop HJ.out.1).mono ?_
  rintro _ w6 ⟨rfl, h6⟩
  have H6 : Hid (Q4 w4 w6 g F4 size pp j1 j2 (j3.erase k) j4) := f w6 _ h6
  clear h6 f r
  go_wp2_with fail
  obtain ⟨Fi, r, f⟩ := H6.out.r2
  refine (r.push HJ.out.2.1 H.out.2.2.2.1 HJ.out.2.2).mono ?_
  rintro _ w5 ⟨rfl, h5⟩
  have H5 : Hid (Q4 w4 w5 g F4 size pp j1 (k :: j2) (j3.erase k) j4) := f w5 _ h5
  clear h5 f r
  go_wp2
  go_ret2
  rw [HP.out]
  obtain ⟨q1, q2, q3, q4, q5, q6⟩ := H4.out
  obtain ⟨F5, hR5, hF5⟩ := H5.out.rebase (Below.refl _ _)
  have z1 := H3.out.1.fr_.size
  have z4 := q1.size
  have z5 := H5.out.fr_.size
  have hbF : b ∉ F4 := fun e => by have := (q6 b e).1; omega
  have hcomp := (H3.out.1.below q1).comp H5.out fun y hy => (q6 y hy).2
  refine ⟨_, F5, x, j1, j2, j3, j4, rfl, H3.out.2, hR5, hcomp.fr_, fun y hy => ?_, fun y hy => (hF5 y hy).1, Or.inr ⟨x, b, cap, rfl, rfl, q4.same (H5.out.fr_.block b q3 hbF), by omega, by omega, fun e => ?_⟩⟩
  · rcases (hF5 y hy).2 with e | e
    · exact (q6 y e).2
    · right; omega
  · rcases (hF5 b e).2 with e | e
    · exact hbF e
    · omega
set_option maxHeartbeats 1600000 in
set_option maxRecDepth 100000 in
theorem arc_b2 (h : Q4 w w g F size p k1 k2 k3 k4) (hk1 : k ∉ k1) (hkk : k ∉ k2) (hka : k ∉ k3) (hk3 : k ∈ k4) (hk2 : k < 18446744073709551616) (hz : size ≤ 1048576) (hp : p ≤ size) (hl1 : k1.length ≤ 1048576) (hl2 : k2.length ≤ 1048576) (hl3 : k3.length ≤ 2097152) (hl4 : k4.length ≤ 2097152) (h13 : ∀ x ∈ k1, x ∉ k3) (h24 : ∀ x ∈ k2, x ∉ k4) (hne : ¬ RepC (pDn p k3.length k4.length) k1.length true → k2 ≠ []) : Calls Tryz.prog 117 #[.pointer (some ⟨g, 0, none⟩), U k] w fun e w' => ∃ v F' x j1 j2 j3 j4, e = .returned (.tuple #[.bool false, v]) ∧ Rep (pDn p k3.length k4.length) true k1 k2 k3 k4 x j1 j2 j3 j4 ∧ Aq w w' g F F' size (pDn p k3.length k4.length) j1 (k :: j2) j3 (j4.erase k) v [x] := by
  have hn3 : 0 < k4.length := List.length_pos_of_mem hk3
  have H : Hid (Q4 w w g F size p k1 k2 k3 k4 ∧ k ∉ k1 ∧ k ∉ k2 ∧ k < 18446744073709551616 ∧ k ∈ k4 ∧ decide (k ∈ k4) = true) := ⟨h, hk1, hkk, hk2, hk3, decide_eq_true hk3⟩
  have HX : Hid (decide (k ∈ k3) = false) := decide_eq_false hka
  have HL : Hid (k1.length ≤ 1000000000 ∧ k2.length ≤ 1000000000 ∧ k3.length ≤ 1000000000 ∧ k4.length ≤ 1000000000 ∧ (∀ x ∈ k1, x ∉ k3) ∧ ∀ x ∈ k2, x ∉ k4) := ⟨by omega, by omega, by omega, by omega, h13, h24⟩
  have HNE : Hid (¬ RepC (pDn p k3.length k4.length) k1.length true → k2 ≠ []) := hne
  have HC3 : Hid (∀ j, Calls Tryz.prog 63 #[.pointer (some ⟨g, 8, none⟩)] (w.drewN j) fun e w' => e = .returned (I (k3.length : Nat)) ∧ w' = w.drewN j) := fun j => (h.below (Go.Proofs.YtjcbpejplnaakaaGreat.Nm.below_drewN _ _)).cn3
  have HC4 : Hid (∀ j, Calls Tryz.prog 63 #[.pointer (some ⟨g, 11, none⟩)] (w.drewN j) fun e w' => e = .returned (I (k4.length : Nat)) ∧ w' = w.drewN j) := fun j => (h.below (Go.Proofs.YtjcbpejplnaakaaGreat.Nm.below_drewN _ _)).cn4
  have hsz := h.sz
  have hpv := h.pv
  clear hne
  generalize k3.length = n3 at hn3 HNE HC3 hl3 ⊢
  generalize k4.length = n4 at hn3 HNE HC4 hl4 ⊢
  have hi3 : ¬ n4 = 0 := by omega
  have hqle : n3 / n4 ≤ n3 := Nat.div_le_self _ _
  have hqc : (n3 : Int) / (n4 : Int) = ((n3 / n4 : Nat) : Int) := by simp
  have HP : Hid (pDn p n3 n4 = p - max 1 (n3 / n4)) := rfl
  generalize hqe : n3 / n4 = q at HP hqc hqle
  have hq : IntKind.i64.wrap ((n3 : Int) / (n4 : Int)) = (q : Int) := by rw [hqc, IntKind.wrap_i64]; omega
  have hm1 : (if (1 : Int) < (q : Int) then (q : Int) else 1) = ((max 1 q : Nat) : Int) := by split <;> omega
  have hm2 : (if 1 < q then (q : Int) else 1) = ((max 1 q : Nat) : Int) := by split <;> omega
  have hmx : max 1 q ≤ 2097153 := by omega
  generalize max 1 q = mx at *
  obtain ⟨pm, hpm⟩ : ∃ pm : Int, pm = (p : Int) - (mx : Int) := ⟨_, rfl⟩
  have hw1 : IntKind.i64.wrap ((p : Int) - (mx : Int)) = pm := by rw [IntKind.wrap_i64]; omega
  have hs1 : (if pm < 0 then 0 else pm) = ((p - mx : Nat) : Int) := by split <;> omega
  have hs2 : (0 : Int) = 0 := rfl
  generalize hpp : p - mx = pp at *
  have hmx' : (mx : Int) ≤ 2097153 := by omega
  have hp' : (p : Int) ≤ 1048576 := by omega
  clear hqc hqe hqle hpp hl4 hl3 hz hp hpm
  clear h hk1 hkk hk3 hk2 hl1 hl2 h13 h24 hka
  obtain ⟨j0, hj, hj0, hj1, hj2⟩ := info_parts info33
  go_enter Tryz.func117, Tryz.ntmps117
  go_wp2_with fail
  obtain ⟨Fi, r, f⟩ := H.out.1.r1
  refine (r.nodrop H.out.2.1 H.out.2.2.2.1).mono ?_
  rintro _ w ⟨rfl, rfl⟩
  clear r f
  go_wp2_with fail
  obtain ⟨Fi, r, f⟩ := H.out.1.r2
  refine (r.nodrop H.out.2.2.1 H.out.2.2.2.1).mono ?_
  rintro _ w ⟨rfl, rfl⟩
  clear r f
  go_wp2_with fail
  obtain ⟨Fi, r, f⟩ := H.out.1.r3
  refine (r.has H.out.2.2.2.1).mono ?_
  rw [HX.out]
  rintro _ w ⟨rfl, rfl⟩
  clear r f
  go_wp2_with fail
  obtain ⟨Fi, r, f⟩ := H.out.1.r4
  refine (r.has H.out.2.2.2.1).mono ?_
  rw [H.out.2.2.2.2.2]
  rintro _ w ⟨rfl, rfl⟩
  clear r f
  go_wp2_with fail
  refine wp_region_quiet_tail (C := fun w' => ∃ j, w' = w.drewN j) 19 (by kernel_rfl) (by kernel_rfl) ⟨1, rfl⟩ ?_
  simp only [List.take_succ_cons, List.take_zero, List.drop_succ_cons, List.drop_zero]
  iterate 19 quiet_step (first | (go_at_call_of 63 (Value.pointer (some ⟨g, 8, none⟩)); exact Calls.quiet_of_same (HC3.out _)) | (go_at_call_of 63 (Value.pointer (some ⟨g, 11, none⟩)); exact Calls.quiet_of_same (HC4.out _)))
  refine wpQuiet_nil ?_
  rintro _ ⟨j, rfl⟩
  have H0 : Hid (Q4 w (w.drewN j) g F size p k1 k2 k3 k4) := H.out.1.below (Go.Proofs.YtjcbpejplnaakaaGreat.Nm.below_drewN _ j)
  generalize w.drewN j = w9 at *
  have hpv9 := H0.out.pv
  have hfz9 := H0.out.nf
  have H1 : Hid (Q4 w (w9.setCell ⟨g, 1, none⟩ (I pp)) g F size pp k1 k2 k3 k4) := H0.out.setP pp
  clear hm1 hm2 hs1 hs2 hw1 hq HC3 HC4 hpv hsz
  go_wp2_with fail
  refine (rep_any (bb := true) H1.out (by rw [← HP.out]; exact HNE.out) HL.out.2.2.2.2.1 HL.out.2.2.2.2.2 HL.out.1 HL.out.2.2.1 HL.out.2.2.2.1).mono ?_
  rintro _ w1 ⟨x, j1, j2, j3, j4, rfl, h3, hrep⟩
  have H3 : Hid (Q4 w w1 g F size pp j1 j2 j3 j4 ∧ Rep pp true k1 k2 k3 k4 x j1 j2 j3 j4) := ⟨h3, hrep⟩
  have HJ : Hid (k ∈ j4 ∧ k ∉ j2 ∧ j2.length ≤ 1000000000) := by
    have a1 := H.out.2.2.1
    have a2 := H.out.2.2.2.2.1
    have a3 := HL.out.2.1
    rcases hrep with ⟨_, e1, e2, e3, e4⟩ | ⟨_, e1, e2, e3, e4⟩
    · refine ⟨?_, by rw [e2]; exact a1, by rw [e2]; exact a3⟩
      first | (rw [e3]; exact List.mem_cons_of_mem _ a2) | (rw [e4]; exact a2)
    · refine ⟨?_, fun e => a1 (by rw [e2]; exact List.mem_append_left _ e), ?_⟩
      · first | (rw [e3]; exact a2) | (rw [e4]; exact List.mem_cons_of_mem _ a2)
      · rw [e2] at a3
        simp at a3
        omega
  clear h3 hrep H1 H0 hpv9 hfz9
  have HO : Hid ((w1.alloc (.cells #[U x] 33)).ownsRow w1.heap.size 33 1 (.slice none 0 0) 0 []) := World.ownsRow_nil _ _ _ _
  go_wp2_with (at_builtin; refine append_gone _ rfl _ _ 22 rfl w1.heap.size 33 j0 (.int .u64 0) 1 8 Tryz.underlying22 hj hj0 hj1 hj2 rfl (by decide) (.slice none 0 0) 0 [] rfl HO.out ⟨w1.heap.size, 0, none⟩ 1 1 [U x] rfl rfl ?c1 ?c2 ?c3 ?c4 ?c5 ?c6 ?_)
  case c1 => exact cells_new w1 33 [U x]
  case c2 => simp [Value.oneCell']
  case c3 => unfold maxLen; omega
  case c4 => omega
  case c5 => simp
  case c6 => decide
  intro v4 w4 ho hG
  have hb4 : Below w1.heap.size w1 w4 := gone_below ((Below.refl _ w1).alloc (Nat.le_refl _) _) (fun k hk => (World.ownsRow.lt HO.out k hk).1) (by simp) hG
  obtain ⟨b, cap, cur, rfl, hb1, hb2, hb5, hb6, hb7, hb3⟩ := own_block ho (by omega)
  obtain ⟨F4, hR4, hF4⟩ := H3.out.1.rebase hb4
  have hcell : Ob w4 b cap x := ob_mk hb2 hb5 hb6 hb7 hb3
  have H4 : Hid (Below w1.heap.size w1 w4 ∧ w1.heap.size ≤ b ∧ b < w4.heap.size ∧ Ob w4 b cap x ∧ Q4 w4 w4 g F4 size pp j1 j2 j3 j4 ∧ ∀ y ∈ F4, y < w1.heap.size ∧ (y ∈ F ∨ w.heap.size ≤ y)) := ⟨hb4, hb1, blk_lt hb2, hcell, hR4, hF4⟩
  clear ho hG hb4 hb1 hb2 hb5 hb6 hb7 hb3 hR4 hF4 hcell
  go_wp2_with fail
  obtain ⟨Fi, r, f⟩ := H4.out.2.2.2.2.1.r4
  refine (r.dodrop HJ.out.1).mono ?_
  rintro _ w6 ⟨rfl, h6⟩
  have H6 : Hid (Q4 w4 w6 g F4 size pp j1 j2 j3 (j4.erase k)) := f w6 _ h6
  clear h6 f r
  go_wp2_with fail
  obtain ⟨Fi, r, f⟩ := H6.out.r2
  refine (r.push HJ.out.2.1 H.out.2.2.2.1 HJ.out.2.2).mono ?_
  rintro _ w5 ⟨rfl, h5⟩
  have H5 : Hid (Q4 w4 w5 g F4 size pp j1 (k :: j2) j3 (j4.erase k)) := f w5 _ h5
  clear h5 f r
  go_wp2
  go_ret2
  rw [HP.out]
  obtain ⟨q1, q2, q3, q4, q5, q6⟩ := H4.out
  obtain ⟨F5, hR5, hF5⟩ := H5.out.rebase (Below.refl _ _)
  have z1 := H3.out.1.fr_.size
  have z4 := q1.size
  have z5 := H5.out.fr_.size
  have hbF : b ∉ F4 := fun e => by have := (q6 b e).1; omega
  have hcomp := (H3.out.1.below q1).comp H5.out fun y hy => (q6 y hy).2
  refine ⟨_, F5, x, j1, j2, j3, j4, rfl, H3.out.2, hR5, hcomp.fr_, fun y hy => ?_, fun y hy => (hF5 y hy).1, Or.inr ⟨x, b, cap, rfl, rfl, q4.same (H5.out.fr_.block b q3 hbF), by omega, by omega, fun e => ?_⟩⟩
  · rcases (hF5 y hy).2 with e | e
    · exact (q6 y e).2
    · right; omega
  · rcases (hF5 b e).2 with e | e
    · exact hbF e
    · omega
end
end Go.Proofs.YtjcbpejplnaakaaGreat.Md
