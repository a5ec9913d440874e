import Derived.Test.YtjcbpejplnaakaaGreatMdNew
namespace Go.Proofs.YtjcbpejplnaakaaGreat.Md
open Go.RowKit Go.Maps Go.Proofs.YtjcbpejplnaakaaGreat.Nm

section
variable {w w' w2 w0 : World} {g o : Nat} {F F' G : List Nat} {k size : Nat} {ks ks' l : List Nat}
theorem Rw.fr_ (h : Rw w0 w g o F ks) : Fr F w0 w := by
  obtain ⟨_, _, _, _, _, h1, _⟩ := h
  exact h1.fr
theorem Rw.rest (h : Rw w0 w g o F ks) {j : Nat} (hj : j < o) : w.cell? ⟨g, j, none⟩ = w0.cell? ⟨g, j, none⟩ := by
  obtain ⟨_, _, _, _, _, h1, _⟩ := h
  exact h1.rest j (Or.inl hj)
theorem Rw.nodup (h : Rw w0 w g o F ks) : ks.Nodup := by
  obtain ⟨_, _, _, _, _, _, h2, _, rfl, _⟩ := h
  exact h2.kd
theorem Rw.rebase (h : Rw w0 w g o F ks) (hb : Below w.heap.size w w2) : ∃ F', Rw w2 w2 g o F' ks ∧ ∀ x ∈ F', x < w.heap.size ∧ (x ∈ F ∨ w0.heap.size ≤ x) := by
  obtain ⟨L, c, m, ns, fr, h1, h2⟩ := h
  exact ⟨foot g L, ⟨L, c, m, ns, fr, Mf.base (h1.mem.below hb), h2⟩, fun x hx => ⟨h1.mem.lt x hx, h1.inF x hx⟩⟩
theorem Rw.comp (h : Rw w0 w g o F ks) (h2 : Rw w w' g o F' ks') (hF : ∀ x ∈ F', x ∈ F ∨ w0.heap.size ≤ x) : Rw w0 w' g o F ks' := by
  obtain ⟨_, _, _, _, _, h1, _⟩ := h
  obtain ⟨L, c, m, ns, fr, q1, q2⟩ := h2
  refine ⟨L, c, m, ns, fr, ⟨q1.mem, h1.fr.trans q1.fr hF, fun j hj => (q1.rest j hj).trans (h1.rest j hj), fun x hx => ?_⟩, q2⟩
  rcases q1.inF x hx with e | e
  · exact hF x e
  · exact Or.inr (Nat.le_trans h1.fr.size e)
theorem Ca.kept (h : Ca w g size F ks) (hf : Fr G w w') (hd : ∀ x ∈ F, x ∉ G) (hg : g ∉ G) (hgl : g < w.heap.size) : Ca w' g size F ks := by
  obtain ⟨⟨L, c, m, ns, fr, h1, h2⟩, h3, h4⟩ := h
  have hft : ∀ x ∈ foot g L, x ∈ F := fun x hx => (h1.inF x hx).elim id (fun e => absurd (h1.mem.lt x hx) (by omega))
  refine ⟨⟨L, c, m, ns, fr, ⟨h1.mem.kept hf fun x hx => hd x (hft x hx), Fr.refl _ _, fun _ _ => rfl, fun x hx => Or.inl (hft x hx)⟩, h2⟩, (cell_blk (hf.block g hgl hg) 0).trans h3, fun x hx => Nat.lt_of_lt_of_le (h4 x hx) hf.size⟩
theorem Ca.gF (h : Ca w g size F ks) : g ∈ F := by
  obtain ⟨⟨L, c, m, ns, fr, h1, h2⟩, h3, h4⟩ := h
  exact (h1.inF g (by simp [foot])).elim id (fun e => absurd (h1.mem.lt g (by simp [foot])) (by omega))
theorem Ca.keep (h : Ca w g size F ks) (hf : Fr G w w') (hd : ∀ x ∈ F, x ∉ G) : Ca w' g size F ks := h.kept hf hd (hd g h.gF) (h.lt g h.gF)
theorem Ca.below (h : Ca w g size F ks) (hb : Below w.heap.size w w') : Ca w' g size F ks := h.keep (G := []) (Fr.of_below hb) (by simp)

set_option maxRecDepth 100000 in
theorem fifo_hit (h : Rw w0 w g 1 F ks) (hk : k ∈ ks) (hk2 : k < 18446744073709551616) : Calls Tryz.prog 60 #[.pointer (some ⟨g, 0, none⟩), U k] w fun e w' => e = .returned (.tuple #[.bool true, .slice none 0 0]) ∧ w' = w := by
  have H : Hid (Rw w0 w g 1 F ks ∧ k < 18446744073709551616 ∧ decide (k ∈ ks) = true) := ⟨h, hk2, decide_eq_true hk⟩
  clear h hk hk2
  go_enter Tryz.func60, Tryz.ntmps60
  go_wp2_with (go_at_call 62; refine (H.out.1.has H.out.2.1).mono ?_; rw [H.out.2.2]; rintro _ w ⟨rfl, rfl⟩)
  go_ret2
  exact ⟨rfl, rfl⟩
set_option maxRecDepth 100000 in
theorem fifo_miss (h : Rw w0 w g 1 F ks) (hk : k ∉ ks) (hk2 : k < 18446744073709551616) (hs : w.cell? ⟨g, 0, none⟩ = some (I size)) (hl : ks.length < size) (hz : size ≤ 1000000000) : Calls Tryz.prog 60 #[.pointer (some ⟨g, 0, none⟩), U k] w fun e w' => e = .returned (.tuple #[.bool false, .slice none 0 0]) ∧ Rw w0 w' g 1 F (k :: ks) := by
  have H : Hid (Rw w0 w g 1 F ks ∧ k < 18446744073709551616 ∧ decide (k ∈ ks) = false ∧ k ∉ ks ∧ ks.length ≤ 1000000000) := ⟨h, hk2, decide_eq_false hk, hk, by omega⟩
  have hne : ((ks.length : Int) == (size : Int)) = false := by
    rw [beq_eq_false_iff_ne]
    omega
  clear h hk hk2
  go_enter Tryz.func60, Tryz.ntmps60
  go_wp2_with (go_at_call 62; refine (H.out.1.has H.out.2.1).mono ?_; rw [H.out.2.2.1]; rintro _ w ⟨rfl, rfl⟩)
  go_quiet ((go_at_call 63; exact Calls.quiet_of_same (H.out.1.below (Go.Proofs.YtjcbpejplnaakaaGreat.Nm.below_drewN _ _)).count))
  go_wp2_with fail
  refine ((H.out.1.below (Go.Proofs.YtjcbpejplnaakaaGreat.Nm.below_drewN _ nq)).push H.out.2.2.2.1 H.out.2.1 H.out.2.2.2.2).mono ?_
  rintro _ w1 ⟨rfl, h1⟩
  have H1 : Hid (Rw w0 w1 g 1 F (k :: ks)) := h1
  clear h1
  go_wp2
  go_ret2
  exact ⟨rfl, H1.out⟩
set_option maxHeartbeats 800000 in
set_option maxRecDepth 100000 in
theorem fifo_full {x : Nat} (h : Rw w w g 1 F (l ++ [x])) (hk : k ∉ l ++ [x]) (hk2 : k < 18446744073709551616) (hs : w.cell? ⟨g, 0, none⟩ = some (I size)) (hl : (l ++ [x]).length = size) (hz : size ≤ 1000000000) : Calls Tryz.prog 60 #[.pointer (some ⟨g, 0, none⟩), U k] w fun e w' => ∃ b c F', e = .returned (.tuple #[.bool false, .slice (some ⟨b, 0, none⟩) 1 c]) ∧ Rw w w' g 1 F (k :: l) ∧ w.heap.size ≤ b ∧ b < w'.heap.size ∧ Ob w' b c x ∧ Rw w' w' g 1 F' (k :: l) ∧ b ∉ F' ∧ (∀ y ∈ F', y < w'.heap.size ∧ (y ∈ F ∨ w.heap.size ≤ y)) := by
  have H : Hid (Rw w w g 1 F (l ++ [x]) ∧ k < 18446744073709551616 ∧ decide (k ∈ l ++ [x]) = false ∧ k ∉ l ++ [x] ∧ l.length ≤ 1000000000) := ⟨h, hk2, decide_eq_false hk, hk, by simp at hl; omega⟩
  have hne : (((l ++ [x]).length : Int) == (size : Int)) = true := by
    rw [beq_iff_eq]
    omega
  obtain ⟨j0, hj, hj0, hj1, hj2⟩ := info_parts info33
  clear h hk hk2 hl hz
  generalize hks : l ++ [x] = ks at *
  have HKS : Hid (l ++ [x] = ks) := hks
  clear hks
  go_enter Tryz.func60, Tryz.ntmps60
  go_wp2_with (go_at_call 62; refine (H.out.1.has H.out.2.1).mono ?_; rw [H.out.2.2.1]; rintro _ w ⟨rfl, rfl⟩)
  go_quiet ((go_at_call 63; exact Calls.quiet_of_same (H.out.1.below (Go.Proofs.YtjcbpejplnaakaaGreat.Nm.below_drewN _ _)).count))
  go_wp2_with fail
  have hp : Rw w (w.drewN nq) g 1 F (l ++ [x]) := by rw [HKS.out]; exact H.out.1.below (Go.Proofs.YtjcbpejplnaakaaGreat.Nm.below_drewN _ nq)
  refine hp.pop.mono ?_
  rintro _ w1 ⟨rfl, h1⟩
  have H1 : Hid (Rw w w1 g 1 F l) := h1
  have HO : Hid ((w1.alloc (.cells #[U x] 33)).ownsRow w1.heap.size 33 1 (.slice none 0 0) 0 []) := World.ownsRow_nil _ _ _ _
  clear h1 hp
  go_wp2_with (at_builtin; refine append_gone _ rfl _ _ 22 rfl w1.heap.size 33 j0 (.int .u64 0) 1 8 Tryz.underlying22 hj hj0 hj1 hj2 rfl (by decide) (.slice none 0 0) 0 [] rfl HO.out ⟨w1.heap.size, 0, none⟩ 1 1 [U x] rfl rfl ?c1 ?c2 ?c3 ?c4 ?c5 ?c6 ?_)
  case c1 => exact cells_new w1 33 [U x]
  case c2 => simp [Value.oneCell']
  case c3 => unfold maxLen; omega
  case c4 => omega
  case c5 => simp
  case c6 => decide
  intro v4 w4 ho hG
  have hb4 : Below w1.heap.size w1 w4 := gone_below ((Below.refl _ w1).alloc (Nat.le_refl _) _) (fun k hk => (World.ownsRow.lt HO.out k hk).1) (by simp) hG
  obtain ⟨b, cap, cur, rfl, hb1, hb2, hb5, hb6, hb7, hb3⟩ := own_block ho (by omega)
  obtain ⟨F4, hR4, hF4⟩ := H1.out.rebase hb4
  have hcell : Ob w4 b cap x := ob_mk hb2 hb5 hb6 hb7 hb3
  have H4 : Hid (Below w1.heap.size w1 w4 ∧ w1.heap.size ≤ b ∧ b < w4.heap.size ∧ Ob w4 b cap x ∧ Rw w4 w4 g 1 F4 l ∧ ∀ y ∈ F4, y < w1.heap.size ∧ (y ∈ F ∨ w.heap.size ≤ y)) := ⟨hb4, hb1, blk_lt hb2, hcell, hR4, hF4⟩
  clear ho hG hb4 hb1 hb2 hb5 hb6 hb7 hb3 hR4 hF4 hcell
  have HKL : Hid (k ∉ l) := by
    have := H.out.2.2.2.1
    rw [← HKS.out] at this
    exact fun e => this (List.mem_append_left _ e)
  go_wp2_with fail
  refine (H4.out.2.2.2.2.1.push HKL.out H.out.2.1 H.out.2.2.2.2).mono ?_
  rintro _ w5 ⟨rfl, h5⟩
  have H5 : Hid (Rw w4 w5 g 1 F4 (k :: l)) := h5
  clear h5
  go_wp2
  go_ret2
  obtain ⟨q1, q2, q3, q4, q5, q6⟩ := H4.out
  obtain ⟨F5, hR5, hF5⟩ := H5.out.rebase (Below.refl _ _)
  have z1 := H1.out.fr_.size
  have z4 := q1.size
  have z5 := H5.out.fr_.size
  have hbF : b ∉ F4 := fun e => by have := (q6 b e).1; omega
  refine ⟨b, cap, F5, rfl, (H1.out.below q1).comp H5.out fun y hy => (q6 y hy).2, by omega, by omega, q4.same (H5.out.fr_.block b q3 hbF), hR5, fun e => ?_, fun y hy => ⟨(hF5 y hy).1, ?_⟩⟩
  · rcases (hF5 b e).2 with e | e
    · exact hbF e
    · omega
  · rcases (hF5 y hy).2 with e | e
    · exact (q6 y e).2
    · right; omega

/-- what an LRU does -/
def lruNext (size : Nat) (ks : List Nat) (k : Nat) : List Nat := if k ∈ ks then k :: ks.erase k else if ks.length = size then k :: ks.dropLast else k :: ks
def lruOut (size : Nat) (ks : List Nat) (k : Nat) : List Nat := if k ∈ ks then [] else if ks.length = size then [ks.getLast?.getD 0] else []
/-- what was told is evicted -/
def Tld (w w' : World) (F' : List Nat) (v : Value) (out : List Nat) : Prop := (out = [] ∧ v = .slice none 0 0) ∨ ∃ x b c, out = [x] ∧ v = .slice (some ⟨b, 0, none⟩) 1 c ∧ Ob w' b c x ∧ w.heap.size ≤ b ∧ b < w'.heap.size ∧ b ∉ F'
set_option maxHeartbeats 800000 in
set_option maxRecDepth 100000 in
theorem lru_any (h : Ca w g size F ks) (hk : k < 18446744073709551616) (hl : ks.length ≤ size) (hz : size ≤ 1000000000) (h0 : 0 < size) : Calls Tryz.prog 72 #[.pointer (some ⟨g, 0, none⟩), U k] w fun e w' => ∃ v F', e = .returned (.tuple #[.bool (decide (k ∈ ks)), v]) ∧ Ca w' g size F' (lruNext size ks k) ∧ Fr F w w' ∧ (∀ x ∈ F', x ∈ F ∨ w.heap.size ≤ x) ∧ Tld w w' F' v (lruOut size ks k) := by
  by_cases hm : k ∈ ks
  · have H : Hid (Rw w w g 1 F ks ∧ k < 18446744073709551616 ∧ k ∈ ks ∧ Ca w g size F ks) := ⟨h.rw, hk, hm, h⟩
    have e1 : lruNext size ks k = k :: ks.erase k := if_pos hm
    have e2 : lruOut size ks k = [] := if_pos hm
    rw [e1, e2, decide_eq_true hm]
    clear h hk hl hz h0 hm e1 e2
    go_enter Tryz.func72, Tryz.ntmps72
    go_wp2_with (go_at_call 60; refine (fifo_hit H.out.1 H.out.2.2.1 H.out.2.1).mono ?_; rintro _ w ⟨rfl, rfl⟩)
    go_wp2_with fail
    refine (H.out.1.raise H.out.2.2.1).mono ?_
    rintro _ w1 ⟨rfl, h1⟩
    have H1 : Hid (Rw w w1 g 1 F (k :: ks.erase k)) := h1
    clear h1
    go_wp2
    go_ret2
    obtain ⟨F5, hR5, hF5⟩ := H1.out.rebase (Below.refl _ _)
    exact ⟨_, F5, rfl, ⟨hR5, (H1.out.rest (by omega)).trans H.out.2.2.2.sz, fun x hx => (hF5 x hx).1⟩, H1.out.fr_, fun x hx => (hF5 x hx).2, Or.inl ⟨rfl, rfl⟩⟩
  · by_cases hf : ks.length = size
    · obtain ⟨l, x, rfl⟩ : ∃ l x, ks = l ++ [x] := ⟨ks.dropLast, ks.getLast (by rintro rfl; simp at hf; omega), (List.dropLast_concat_getLast _).symm⟩
      have H : Hid (Rw w w g 1 F (l ++ [x]) ∧ k < 18446744073709551616 ∧ k ∉ l ++ [x] ∧ w.cell? ⟨g, 0, none⟩ = some (I size) ∧ (l ++ [x]).length = size ∧ size ≤ 1000000000) := ⟨h.rw, hk, hm, h.sz, hf, hz⟩
      have e1 : lruNext size (l ++ [x]) k = k :: l := by unfold lruNext; rw [if_neg hm, if_pos hf, List.dropLast_concat]
      have e2 : lruOut size (l ++ [x]) k = [x] := by unfold lruOut; rw [if_neg hm, if_pos hf]; simp
      rw [e1, e2, decide_eq_false hm]
      clear h hk hl hz h0 hm e1 e2 hf
      go_enter Tryz.func72, Tryz.ntmps72
      go_wp2_with fail
      refine (fifo_full H.out.1 H.out.2.2.1 H.out.2.1 H.out.2.2.2.1 H.out.2.2.2.2.1 H.out.2.2.2.2.2).mono ?_
      rintro _ w1 ⟨b, c, F', rfl, h1⟩
      have H1 : Hid _ := h1
      clear h1
      go_wp2
      go_ret2
      obtain ⟨q1, q2, q3, q4, q5, q6, q7⟩ := H1.out
      exact ⟨_, F', rfl, ⟨q5, (q1.rest (by omega)).trans H.out.2.2.2.1, fun x hx => (q7 x hx).1⟩, q1.fr_, fun x hx => (q7 x hx).2, Or.inr ⟨x, b, c, rfl, rfl, q4, q2, q3, q6⟩⟩
    · have H : Hid (Rw w w g 1 F ks ∧ k < 18446744073709551616 ∧ k ∉ ks ∧ w.cell? ⟨g, 0, none⟩ = some (I size) ∧ ks.length < size ∧ size ≤ 1000000000) := ⟨h.rw, hk, hm, h.sz, by omega, hz⟩
      have e1 : lruNext size ks k = k :: ks := by unfold lruNext; rw [if_neg hm, if_neg hf]
      have e2 : lruOut size ks k = [] := by unfold lruOut; rw [if_neg hm, if_neg hf]
      rw [e1, e2, decide_eq_false hm]
      clear h hk hl hz h0 hm e1 e2 hf
      go_enter Tryz.func72, Tryz.ntmps72
      go_wp2_with fail
      refine (fifo_miss H.out.1 H.out.2.2.1 H.out.2.1 H.out.2.2.2.1 H.out.2.2.2.2.1 H.out.2.2.2.2.2).mono ?_
      rintro _ w1 ⟨rfl, h1⟩
      have H1 : Hid (Rw w w1 g 1 F (k :: ks)) := h1
      clear h1
      go_wp2
      go_ret2
      obtain ⟨F5, hR5, hF5⟩ := H1.out.rebase (Below.refl _ _)
      exact ⟨_, F5, rfl, ⟨hR5, (H1.out.rest (by omega)).trans H.out.2.2.2.1, fun x hx => (hF5 x hx).1⟩, H1.out.fr_, fun x hx => (hF5 x hx).2, Or.inl ⟨rfl, rfl⟩⟩
set_option maxRecDepth 100000 in
theorem Ca.keys (h : Ca w g size F ks) (hl : ks.length ≤ 1000000000) : Calls Tryz.prog 61 #[.pointer (some ⟨g, 0, none⟩)] w fun e w' => ∃ v, e = .returned v ∧ w'.ownsRow w.heap.size 33 1 v ks.length (ks.map U) ∧ Below w.heap.size w w' := by
  obtain ⟨⟨L, c, m, ns, fr, h1, h2, h3, rfl, h5⟩, _, _⟩ := h
  rw [List.length_map] at hl
  have H : Hid (Mem (w.alloc (.cells #[.pointer (some ⟨g, 1, none⟩)] 115)) g 1 L c m ns.length ∧ Inv c ns fr [] ∧ ns.length ≤ 1000000000) := ⟨h1.mem.below ((Below.refl _ w).alloc (Nat.le_refl _) _), h2, hl⟩
  clear h1 h2 h3 h5 hl
  go_enter Tryz.func61, Tryz.ntmps61
  go_wp2_with fail
  refine (keysOf_any H.out.1 H.out.2.1 H.out.2.2 (pb := w.heap.size) (by unfold World.cell?; rw [heap_alloc_new]; rfl) (by simp)).mono ?_
  rintro _ w1 ⟨v, rfl, h1, h2⟩
  have H1 : Hid (w1.ownsRow (w.alloc (.cells #[.pointer (some ⟨g, 1, none⟩)] 115)).heap.size 33 1 v ns.length ((ns.map c.key).map U) ∧ Below (w.alloc (.cells #[.pointer (some ⟨g, 1, none⟩)] 115)).heap.size (w.alloc (.cells #[.pointer (some ⟨g, 1, none⟩)] 115)) w1) := ⟨h1, h2⟩
  clear h1 h2
  go_wp2
  go_ret
  refine ⟨_, rfl, ?_, ((Below.refl _ w).alloc (Nat.le_refl _) _).trans (H1.out.2.mono (by simp))⟩
  rw [List.length_map]
  obtain ⟨q1, q2⟩ := H1.out.1
  refine ⟨q1, q2.imp id ?_⟩
  rintro ⟨b, cap, cur, r1, r2, r3⟩
  exact ⟨b, cap, cur, r1, Nat.le_trans (by simp) r2, r3⟩
end
end Go.Proofs.YtjcbpejplnaakaaGreat.Md
