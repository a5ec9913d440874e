import Derived.Test.YtjcbpejplnaakaaGreatMbNew
import Derived.Test.YtjcbpejplnaakaaGreatMdAcc
namespace Go.Proofs.YtjcbpejplnaakaaGreat.Mb
open Go.RowKit Go.Maps Go.Proofs.YtjcbpejplnaakaaGreat.Nm Go.Proofs.YtjcbpejplnaakaaGreat.Md

/-- how many bits are set -/
def cnt (ps : List (Nat × Bool)) : Nat := (ps.filter Prod.snd).length
theorem cnt_snoc (l : List (Nat × Bool)) (x : Nat × Bool) : cnt (l ++ [x]) = cnt l + if x.2 then 1 else 0 := by
  unfold cnt
  rw [List.filter_append, List.length_append]
  cases h : x.2 <;> simp [h]
theorem cnt_cons (x : Nat × Bool) (l : List (Nat × Bool)) : cnt (x :: l) = cnt l + if x.2 then 1 else 0 := by
  unfold cnt
  cases h : x.2 <;> simp [h]
/-- the hand of the clock goes on as long as bits are set -/
def rotF : Nat → List (Nat × Bool) → List (Nat × Bool)
  | 0, ps => ps
  | f + 1, ps => match ps.getLast? with
    | some (k, true) => rotF f ((k, false) :: ps.dropLast)
    | _ => ps
def rot (ps : List (Nat × Bool)) : List (Nat × Bool) := rotF (cnt ps) ps
theorem rot_step (l : List (Nat × Bool)) (k : Nat) : rot (l ++ [(k, true)]) = rot ((k, false) :: l) := by
  unfold rot
  rw [cnt_snoc, cnt_cons]
  simp [rotF]
theorem rot_stop (l : List (Nat × Bool)) (k : Nat) : rot (l ++ [(k, false)]) = l ++ [(k, false)] := by
  unfold rot
  generalize cnt (l ++ [(k, false)]) = f
  cases f with
  | zero => rfl
  | succ f => simp [rotF]
/-- what a key's bit is set to -/
def setB (ps : List (Nat × Bool)) (k : Nat) (v : Bool) : List (Nat × Bool) := ps.map fun p => if p.1 = k then (p.1, v) else p
theorem setB_app {l r : List (Nat × Bool)} {k : Nat} {h v : Bool} (hn : ((l ++ (k, h) :: r).map Prod.fst).Nodup) : setB (l ++ (k, h) :: r) k v = l ++ (k, v) :: r := by
  rw [List.map_append, List.map_cons] at hn
  have h1 : k ∉ l.map Prod.fst := fun e => (List.nodup_append.1 hn).2.2 k e k (by simp) rfl
  have h2 : k ∉ r.map Prod.fst := (List.nodup_cons.1 (List.nodup_append.1 hn).2.1).1
  have e : ∀ s : List (Nat × Bool), k ∉ s.map Prod.fst → (s.map fun p => if p.1 = k then (p.1, v) else p) = s := fun s hs => by
    conv => rhs; rw [← List.map_id s]
    refine List.map_congr_left fun p hp => if_neg fun e => hs (List.mem_map.2 ⟨p, hp, e⟩)
  unfold setB
  rw [List.map_append, List.map_cons, if_pos rfl, e l h1, e r h2]
section
variable {w w' w2 w0 : World} {g o : Nat} {F F' G : List Nat} {k size : Nat} {ps ps' l : List (Nat × Bool)}
theorem Rw.fr_ (h : Rw w0 w g o F ps) : Fr F w0 w := by
  obtain ⟨_, _, _, _, _, _, h1, _⟩ := h
  exact h1.fr
theorem Rw.rest (h : Rw w0 w g o F ps) {j : Nat} (hj : j < o) : w.cell? ⟨g, j, none⟩ = w0.cell? ⟨g, j, none⟩ := by
  obtain ⟨_, _, _, _, _, _, h1, _⟩ := h
  exact h1.rest j (Or.inl hj)
theorem Rw.nodup (h : Rw w0 w g o F ps) : (ps.map Prod.fst).Nodup := by
  obtain ⟨_, _, _, _, _, _, _, h2, _, rfl, _⟩ := h
  rw [prs_fst]
  exact h2.kd
theorem Rw.rebase (h : Rw w0 w g o F ps) (hb : Below w.heap.size w w2) : ∃ F', Rw w2 w2 g o F' ps ∧ ∀ x ∈ F', x < w.heap.size ∧ (x ∈ F ∨ w0.heap.size ≤ x) := by
  obtain ⟨L, c, hd, m, ns, fr, h1, h2⟩ := h
  exact ⟨foot g L, ⟨L, c, hd, m, ns, fr, Mf.base (h1.mem.below hb), h2⟩, fun x hx => ⟨h1.mem.lt x hx, h1.inF x hx⟩⟩
theorem Rw.comp (h : Rw w0 w g o F ps) (h2 : Rw w w' g o F' ps') (hF : ∀ x ∈ F', x ∈ F ∨ w0.heap.size ≤ x) : Rw w0 w' g o F ps' := by
  obtain ⟨_, _, _, _, _, _, h1, _⟩ := h
  obtain ⟨L, c, hd, m, ns, fr, q1, q2⟩ := h2
  refine ⟨L, c, hd, m, ns, fr, ⟨q1.mem, h1.fr.trans q1.fr hF, fun j hj => (q1.rest j hj).trans (h1.rest j hj), fun x hx => ?_⟩, q2⟩
  rcases q1.inF x hx with e | e
  · exact hF x e
  · exact Or.inr (Nat.le_trans h1.fr.size e)
set_option maxRecDepth 100000 in
theorem clock_hit (h : Rw w0 w g 1 F ps) (hk : k ∈ ps.map Prod.fst) (hk2 : k < 18446744073709551616) : Calls Tryz.prog 75 #[.pointer (some ⟨g, 0, none⟩), U k] w fun e w' => e = .returned (.tuple #[.bool true, .slice none 0 0]) ∧ Rw w0 w' g 1 F (setB ps k true) := by
  obtain ⟨⟨k', hv⟩, hm, rfl⟩ := List.mem_map.1 hk
  obtain ⟨l, r, rfl⟩ := List.append_of_mem hm
  rw [setB_app h.nodup]
  have H : Hid (Rw w0 w g 1 F (l ++ (k', hv) :: r) ∧ k' < 18446744073709551616 ∧ decide (k' ∈ (l ++ (k', hv) :: r).map Prod.fst) = true) := ⟨h, hk2, decide_eq_true hk⟩
  clear h hk hk2 hm
  go_enter Tryz.func75, Tryz.ntmps75
  go_wp2_with (go_at_call 77; refine (H.out.1.has H.out.2.1).mono ?_; rw [H.out.2.2]; rintro _ w ⟨rfl, rfl⟩)
  refine H.out.1.at_.mono ?_
  rintro _ w1 ⟨b, x, d, rfl, hw1, h2, h3, h4⟩
  have H1 : Hid (Rw w0 (w1.setCell ⟨b, x * 4 + 1, none⟩ (.bool true)) g 1 F (l ++ (k', true) :: r)) := h4 true
  clear h4 hw1
  go_wp2
  go_ret2
  exact ⟨rfl, H1.out⟩
set_option maxRecDepth 100000 in
theorem clock_miss (h : Rw w0 w g 1 F ps) (hk : k ∉ ps.map Prod.fst) (hk2 : k < 18446744073709551616) (hs : w.cell? ⟨g, 0, none⟩ = some (I size)) (hl : ps.length < size) (hz : size ≤ 1000000000) : Calls Tryz.prog 75 #[.pointer (some ⟨g, 0, none⟩), U k] w fun e w' => e = .returned (.tuple #[.bool false, .slice none 0 0]) ∧ Rw w0 w' g 1 F ((k, false) :: ps) := by
  have H : Hid (Rw w0 w g 1 F ps ∧ k < 18446744073709551616 ∧ decide (k ∈ ps.map Prod.fst) = false ∧ k ∉ ps.map Prod.fst ∧ ps.length ≤ 1000000000) := ⟨h, hk2, decide_eq_false hk, hk, by omega⟩
  have hne : ((ps.length : Int) == (size : Int)) = false := by
    rw [beq_eq_false_iff_ne]
    omega
  clear h hk hk2
  go_enter Tryz.func75, Tryz.ntmps75
  go_wp2_with (go_at_call 77; refine (H.out.1.has H.out.2.1).mono ?_; rw [H.out.2.2.1]; rintro _ w ⟨rfl, rfl⟩)
  go_quiet ((go_at_call 79; exact Calls.quiet_of_same (H.out.1.below (Go.Proofs.YtjcbpejplnaakaaGreat.Nm.below_drewN _ _)).count))
  go_wp2_with fail
  refine ((H.out.1.below (Go.Proofs.YtjcbpejplnaakaaGreat.Nm.below_drewN _ nq)).push (hv := false) H.out.2.2.2.1 H.out.2.1 H.out.2.2.2.2).mono ?_
  rintro _ w1 ⟨rfl, h1⟩
  have H1 : Hid (Rw w0 w1 g 1 F ((k, false) :: ps)) := h1
  clear h1
  go_wp2
  go_ret2
  exact ⟨rfl, H1.out⟩
theorem snoc_of {ps : List (Nat × Bool)} (h : 0 < ps.length) : ∃ l x b, ps = l ++ [(x, b)] := by
  have hne : ps ≠ [] := by rintro rfl; simp at h
  exact ⟨ps.dropLast, (ps.getLast hne).1, (ps.getLast hne).2, (List.dropLast_concat_getLast _).symm⟩
set_option maxHeartbeats 1600000 in
set_option maxRecDepth 100000 in
theorem clock_full (h : Rw w w g 1 F ps) (hk : k ∉ ps.map Prod.fst) (hk2 : k < 18446744073709551616) (hs : w.cell? ⟨g, 0, none⟩ = some (I size)) (hl : ps.length = size) (hz : size ≤ 1000000000) (h0 : 0 < size) : Calls Tryz.prog 75 #[.pointer (some ⟨g, 0, none⟩), U k] w fun e w' => ∃ b c F' l x, rot ps = l ++ [(x, false)] ∧ e = .returned (.tuple #[.bool false, .slice (some ⟨b, 0, none⟩) 1 c]) ∧ Rw w w' g 1 F ((k, false) :: l) ∧ w.heap.size ≤ b ∧ b < w'.heap.size ∧ Ob w' b c x ∧ Rw w' w' g 1 F' ((k, false) :: l) ∧ b ∉ F' ∧ (∀ y ∈ F', y < w'.heap.size ∧ (y ∈ F ∨ w.heap.size ≤ y)) := by
  have H : Hid (Rw w w g 1 F ps ∧ k < 18446744073709551616 ∧ decide (k ∈ ps.map Prod.fst) = false ∧ k ∉ ps.map Prod.fst ∧ ps.length ≤ 1000000000 ∧ 0 < ps.length) := ⟨h, hk2, decide_eq_false hk, hk, by omega, by omega⟩
  have hne : ((ps.length : Int) == (size : Int)) = true := by
    rw [beq_iff_eq]
    omega
  obtain ⟨j0, hj, hj0, hj1, hj2⟩ := info_parts info33
  clear h hk hk2 hl hz
  go_enter Tryz.func75, Tryz.ntmps75
  go_wp2_with (go_at_call 77; refine (H.out.1.has H.out.2.1).mono ?_; rw [H.out.2.2.1]; rintro _ w ⟨rfl, rfl⟩)
  go_quiet ((go_at_call 79; exact Calls.quiet_of_same (H.out.1.below (Go.Proofs.YtjcbpejplnaakaaGreat.Nm.below_drewN _ _)).count))
  have H1 : Hid (Rw w (w.drewN nq) g 1 F ps) := H.out.1.below (Go.Proofs.YtjcbpejplnaakaaGreat.Nm.below_drewN _ nq)
  generalize w.drewN nq = w1 at *
  go_wp2_with fail
  go_loopg [] (cnt ps) (fun gq wr => ∃ qs, Rw w wr g 1 F qs ∧ rot qs = rot ps ∧ gq = cnt qs ∧ qs.length = ps.length ∧ (qs.map Prod.fst).Perm (ps.map Prod.fst))
  case atStart => exact ⟨ps, H1.out, rfl, rfl, rfl, List.Perm.refl _⟩
  case round =>
    obtain ⟨qs, hq, hr, hgk, hln, hpm⟩ := hrel
    clear H1
    obtain ⟨l, x, b, rfl⟩ := snoc_of (ps := qs) (by have := H.out.2.2.2.2.2; omega)
    have HQ : Hid (Rw w wr g 1 F (l ++ [(x, b)]) ∧ rot (l ++ [(x, b)]) = rot ps ∧ gk = cnt (l ++ [(x, b)]) ∧ (l ++ [(x, b)]).length = ps.length ∧ ((l ++ [(x, b)]).map Prod.fst).Perm (ps.map Prod.fst)) := ⟨hq, hr, hgk, hln, hpm⟩
    clear hq hr hgk hln hpm
    go_wp2_with fail
    refine HQ.out.1.last.mono ?_
    rintro _ w2 ⟨b1, x1, d, rfl, hw2, q0, q1, q2, q3⟩
    have HR2 : Hid (Rw w w2 g 1 F (l ++ [(x, b)])) := by rw [hw2]; exact HQ.out.1.below (Go.Proofs.YtjcbpejplnaakaaGreat.Nm.below_drewN wr d)
    clear hw2 q0 q2 q3
    cases b with
    | true =>
      go_wp2_with fail
      refine HR2.out.last.mono ?_
      rintro _ w3 ⟨b2, x2, d2, rfl, hw3, q0', q1', q2', q3'⟩
      have HR3 : Hid (Rw w (w3.setCell ⟨b2, x2 * 4 + 1, none⟩ (.bool false)) g 1 F (l ++ [(x, false)])) := q3' false
      clear q3' q1 hw3 q0'
      go_wp2_with fail
      refine HR3.out.turn.mono ?_
      rintro _ w4 ⟨rfl, h4⟩
      have HR4 : Hid (Rw w w4 g 1 F ((x, false) :: l)) := h4
      clear h4 HR3 HR2 q1' q2'
      go_wp2_with fail
      go_roundg (cnt ((x, false) :: l))
      case measure => have h1 := HQ.out.2.2.1; rw [cnt_snoc] at h1; rw [cnt_cons]; simp at h1 ⊢; omega
      case rel =>
        refine ⟨_, HR4.out, (rot_step l x).symm.trans HQ.out.2.1, rfl, ?_, ?_⟩
        · have := HQ.out.2.2.2.1
          simp at this ⊢
          exact this
        · refine List.Perm.trans ?_ HQ.out.2.2.2.2
          rw [List.map_append, List.map_cons]
          exact (List.perm_append_singleton x (l.map Prod.fst)).symm
    | false =>
      go_wp2_with fail
      refine HR2.out.pop.mono ?_
      rintro _ w3 ⟨rfl, h3⟩
      have HR3 : Hid (Rw w w3 g 1 F l) := h3
      have HO : Hid ((w3.alloc (.cells #[U x] 33)).ownsRow w3.heap.size 33 1 (.slice none 0 0) 0 []) := World.ownsRow_nil _ _ _ _
      clear h3 q1 HR2
      go_wp2_with (at_builtin; refine append_gone _ rfl _ _ 22 rfl w3.heap.size 33 j0 (.int .u64 0) 1 8 Tryz.underlying22 hj hj0 hj1 hj2 rfl (by decide) (.slice none 0 0) 0 [] rfl HO.out ⟨w3.heap.size, 0, none⟩ 1 1 [U x] rfl rfl ?c1 ?c2 ?c3 ?c4 ?c5 ?c6 ?_)
      case c1 => exact cells_new w3 33 [U x]
      case c2 => simp [Value.oneCell']
      case c3 => unfold maxLen; omega
      case c4 => omega
      case c5 => simp
      case c6 => decide
      intro v4 w4 ho hG
      have hb4 : Below w3.heap.size w3 w4 := gone_below ((Below.refl _ w3).alloc (Nat.le_refl _) _) (fun k hk => (World.ownsRow.lt HO.out k hk).1) (by simp) hG
      obtain ⟨b, cap, cur, rfl, hb1, hb2, hb5, hb6, hb7, hb3⟩ := own_block ho (by omega)
      obtain ⟨F4, hR4, hF4⟩ := HR3.out.rebase hb4
      have hcell : Ob w4 b cap x := ob_mk hb2 hb5 hb6 hb7 hb3
      have H4 : Hid (Below w3.heap.size w3 w4 ∧ w3.heap.size ≤ b ∧ b < w4.heap.size ∧ Ob w4 b cap x ∧ Rw w4 w4 g 1 F4 l ∧ ∀ y ∈ F4, y < w3.heap.size ∧ (y ∈ F ∨ w.heap.size ≤ y)) := ⟨hb4, hb1, blk_lt hb2, hcell, hR4, hF4⟩
      clear ho hG hb4 hb1 hb2 hb5 hb6 hb7 hb3 hR4 hF4 hcell
      have HKL : Hid (k ∉ l.map Prod.fst ∧ l.length ≤ 1000000000) := by
        refine ⟨fun e => H.out.2.2.2.1 (HQ.out.2.2.2.2.mem_iff.1 ?_), ?_⟩
        · rw [List.map_append]
          exact List.mem_append_left _ e
        · have h1 := HQ.out.2.2.2.1
          have h2 := H.out.2.2.2.2.1
          simp at h1
          omega
      go_wp2_with fail
      refine (H4.out.2.2.2.2.1.push (hv := false) HKL.out.1 H.out.2.1 HKL.out.2).mono ?_
      rintro _ w5 ⟨rfl, h5⟩
      have H5 : Hid (Rw w4 w5 g 1 F4 ((k, false) :: l)) := h5
      clear h5
      go_wp2
      go_ret2
      obtain ⟨q1, q2, q3, q4, q5, q6⟩ := H4.out
      obtain ⟨F5, hR5, hF5⟩ := H5.out.rebase (Below.refl _ _)
      have z1 := HR3.out.fr_.size
      have z4 := q1.size
      have z5 := H5.out.fr_.size
      have hbF : b ∉ F4 := fun e => by have := (q6 b e).1; omega
      refine ⟨b, cap, F5, l, x, HQ.out.2.1.symm.trans (rot_stop l x), rfl, (HR3.out.below q1).comp H5.out fun y hy => (q6 y hy).2, by omega, by omega, q4.same (H5.out.fr_.block b q3 hbF), hR5, fun e => ?_, fun y hy => ⟨(hF5 y hy).1, ?_⟩⟩
      · rcases (hF5 b e).2 with e | e
        · exact hbF e
        · omega
      · rcases (hF5 y hy).2 with e | e
        · exact (q6 y e).2
        · right; omega
end
end Go.Proofs.YtjcbpejplnaakaaGreat.Mb
