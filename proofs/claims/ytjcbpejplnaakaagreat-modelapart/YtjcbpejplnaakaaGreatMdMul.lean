import Derived.Test.YtjcbpejplnaakaaGreatMdAcc
namespace Go.Proofs.YtjcbpejplnaakaaGreat.Md
open Go.RowKit Go.Maps Go.Proofs.YtjcbpejplnaakaaGreat.Nm

section
variable {w w' w2 w0 : World} {g o oi oj : Nat} {F Fi Fj G : List Nat} {k size : Nat} {ks ks' ksi ksj l : List Nat}
/-- a row stays as it is where another one of its block is turned -/
theorem Rw.aside (hi : Rw w w' g oi Fi ksi) (hj : Rw w w g oj Fj ksj) (hd : oj + 3 ≤ oi ∨ oi + 3 ≤ oj) (hF : ∀ x ∈ Fj, x ∈ Fi → x = g) : Rw w' w' g oj Fj ksj := by
  obtain ⟨Li, ci, mi, nsi, fri, a1, _⟩ := hi
  obtain ⟨L, c, m, ns, fr, h1, h2⟩ := hj
  have hft : ∀ x ∈ foot g L, x ∈ Fj := fun x hx => (h1.inF x hx).elim id (fun e => absurd (h1.mem.lt x hx) (by omega))
  have hnb : w'.heap[L.nb]? = w.heap[L.nb]? := a1.fr.block L.nb (h1.mem.lt _ (by simp [foot])) fun e => h1.mem.ne (hF _ (hft _ (by simp [foot])) e).symm
  have hmb : w'.heap[L.mb]? = w.heap[L.mb]? := a1.fr.block L.mb (h1.mem.lt _ (by simp [foot])) fun e => h1.mem.gm (hF _ (hft _ (by simp [foot])) e).symm
  obtain ⟨cs, T, q1, q2, q3, q4⟩ := h1.mem.row
  obtain ⟨cs', T', p1, _⟩ := a1.mem.row
  obtain ⟨cs2, q5, q6⟩ := h1.mem.nds
  have hcell : ∀ j, j < 3 → cs'[oj + j]? = cs[oj + j]? := fun j hj => by
    have := a1.rest (oj + j) (by omega)
    simp only [World.cell?, p1, q1] at this
    exact this
  refine ⟨L, c, m, ns, fr, ⟨⟨⟨cs', T', p1, ?_, ?_, ?_⟩, ⟨cs2, hnb.trans q5, q6⟩, h1.mem.book.same hmb, h1.mem.ne, h1.mem.cap, h1.mem.capm⟩, Fr.refl _ _, fun _ _ => rfl, fun x hx => Or.inl (hft x hx)⟩, h2⟩
  · exact (hcell 0 (by omega)).trans q2
  · exact (hcell 1 (by omega)).trans q3
  · exact (hcell 2 (by omega)).trans q4
theorem Rw.keep (h : Rw w w g o F ks) (hf : Fr G w w') (hd : ∀ x ∈ F, x ∉ G) : Rw w' w' g o F ks := by
  obtain ⟨L, c, m, ns, fr, h1, h2⟩ := h
  have hft : ∀ x ∈ foot g L, x ∈ F := fun x hx => (h1.inF x hx).elim id (fun e => absurd (h1.mem.lt x hx) (by omega))
  exact ⟨L, c, m, ns, fr, ⟨h1.mem.kept hf fun x hx => hd x (hft x hx), Fr.refl _ _, fun _ _ => rfl, fun x hx => Or.inl (hft x hx)⟩, h2⟩
/-- rows of one block, apart but for it -/
structure Rows (w : World) (g : Nat) (rs : List (Nat × List Nat × List Nat)) : Prop where
  row : ∀ r ∈ rs, Rw w w g r.1 r.2.1 r.2.2
  ap : rs.Pairwise fun r s => r.1 + 3 ≤ s.1 ∧ ∀ x ∈ r.2.1, x ∈ s.2.1 → x = g
  lt : ∀ r ∈ rs, ∀ x ∈ r.2.1, x < w.heap.size
theorem Rows.step {a b : List (Nat × List Nat × List Nat)} (h : Rows w g (a ++ (o, F, ks) :: b)) (hr : Rw w w' g o F ks') : ∃ F', Rows w' g (a ++ (o, F', ks') :: b) ∧ Fr F w w' ∧ (∀ x ∈ F', x ∈ F ∨ w.heap.size ≤ x) ∧ ∀ j, j < o → w'.cell? ⟨g, j, none⟩ = w.cell? ⟨g, j, none⟩ := by
  obtain ⟨F', h1, h2⟩ := hr.rebase (Below.refl _ w')
  have hap := h.ap
  rw [List.pairwise_append, List.pairwise_cons] at hap
  obtain ⟨p1, ⟨p2, p3⟩, p4⟩ := hap
  have hnew : ∀ r : Nat × List Nat × List Nat, r ∈ a ∨ r ∈ b → ∀ x ∈ r.2.1, x < w.heap.size := fun r hr x hx => h.lt r (by rcases hr with e | e <;> simp [e]) x hx
  refine ⟨F', ⟨fun r hr' => ?_, ?_, fun r hr' x hx => ?_⟩, hr.fr_, fun x hx => (h2 x hx).2, fun j hj => hr.rest hj⟩
  · rcases List.mem_append.1 hr' with e | e
    · have := p4 r e (o, F, ks) (by simp)
      exact hr.aside (h.row r (by simp [e])) (Or.inl this.1) (fun x hx hx2 => this.2 x hx hx2)
    · rcases List.mem_cons.1 e with rfl | e
      · exact h1
      · have := p2 r e
        exact hr.aside (h.row r (by simp [e])) (Or.inr this.1) (fun x hx hx2 => this.2 x hx2 hx)
  · rw [List.pairwise_append, List.pairwise_cons]
    refine ⟨p1, ⟨fun r hr' => ⟨(p2 r hr').1, fun x hx hx2 => ?_⟩, p3⟩, fun r hr' s hs => ?_⟩
    · rcases (h2 x hx).2 with e | e
      · exact (p2 r hr').2 x e hx2
      · have := hnew r (Or.inr hr') x hx2
        omega
    · rcases List.mem_cons.1 hs with rfl | e
      · have := p4 r hr' (o, F, ks) (by simp)
        refine ⟨this.1, fun x hx hx2 => ?_⟩
        rcases (h2 x hx2).2 with e | e
        · exact this.2 x hx e
        · have := hnew r (Or.inl hr') x hx
          omega
      · exact p4 r hr' s (by simp [e])
  · rcases List.mem_append.1 hr' with e | e
    · exact Nat.lt_of_lt_of_le (hnew r (Or.inl e) x hx) hr.fr_.size
    · rcases List.mem_cons.1 e with rfl | e
      · exact (h2 x hx).1
      · exact Nat.lt_of_lt_of_le (hnew r (Or.inr e) x hx) hr.fr_.size
theorem Rows.below {rs : List (Nat × List Nat × List Nat)} (h : Rows w g rs) (hb : Below w.heap.size w w') : Rows w' g rs :=
  ⟨fun r hr => (h.row r hr).keep (G := []) (Fr.of_below hb) (by simp), h.ap, fun r hr x hx => Nat.lt_of_lt_of_le (h.lt r hr x hx) hb.size⟩
/-- drop of a key, there or not -/
theorem Rw.nodrop (h : Rw w0 w g o F ks) (hk : k ∉ ks) (hk2 : k < 18446744073709551616) : Calls Tryz.prog 68 #[.pointer (some ⟨g, o, none⟩), U k] w fun e w' => e = .returned (.bool false) ∧ w' = w := by
  obtain ⟨L, c, m, ns, fr, h1, h2, h3, rfl, h5⟩ := h
  obtain ⟨_, a1, _, _⟩ := h1.mem.cellsR
  have hl := h1.mem.book.lookOk hk2
  rw [h3.none.2 hk] at hl
  have hl' : (Instr.lookup 57 (.map (some L.mb)) (U k) true).run Tryz.prog w = .ok (.tuple #[I 0, .bool false]) w := hl
  clear h1 h2 h3 h5 hl
  go_enter Tryz.func68, Tryz.ntmps68
  go_wp2
  go_ret
  exact ⟨rfl, rfl⟩
theorem Rw.dodrop (h : Rw w0 w g o F ks) (hk : k ∈ ks) : Calls Tryz.prog 68 #[.pointer (some ⟨g, o, none⟩), U k] w fun e w' => e = .returned (.bool true) ∧ Rw w0 w' g o F (ks.erase k) := by
  obtain ⟨L, c, m, ns, fr, h1, h2, h3, rfl, h5⟩ := h
  obtain ⟨n, hn, rfl⟩ := List.mem_map.1 hk
  obtain ⟨p, s, rfl⟩ := List.append_of_mem hn
  refine (drop_any h1 h2 (h5 _ hk) ((h3 _ _).2 ⟨n, hn, rfl, rfl⟩)).mono ?_
  rintro _ w' ⟨rfl, hf⟩
  have hu := h2.unlink
  rw [List.nil_append] at hu
  have hfr := hu.free
  have hkd := h2.kd
  simp only [List.map_append, List.map_cons] at hkd
  have hpm := (List.perm_middle (a := c.key n) (l₁ := p.map c.key) (l₂ := s.map c.key)).nodup_iff.1 hkd
  have hnk := (List.nodup_cons.1 hpm).1
  have hnd := (List.nodup_append.1 (List.nodup_cons.1 h2.nd).2).1
  have hnm : n ∉ p ++ s := (List.nodup_cons.1 ((List.perm_middle (a := n) (l₁ := p) (l₂ := s)).nodup_iff.1 hnd)).1
  have hkey : ∀ i ∈ p ++ s, ((c.unlink n).free n).key i = c.key i := fun i hi => up_ne (by rintro rfl; exact hnm hi)
  have herase : ((p ++ n :: s).map c.key).erase (c.key n) = (p ++ s).map c.key := by
    simp only [List.map_append, List.map_cons]
    rw [List.erase_append_right _ (fun e => hnk (List.mem_append_left _ e)), List.erase_cons_head]
  refine ⟨rfl, L, _, upd m (c.key n) none, p ++ s, n :: fr, ?_, hfr, fun kk y => ?_, ?_, fun x hx => h5 x (List.mem_of_mem_erase hx)⟩
  · have e : (p ++ n :: s).length - 1 = (p ++ s).length := by simp
    rw [e] at hf
    exact hf
  · by_cases e : kk = c.key n
    · subst e
      rw [upd_same]
      constructor
      · intro e; cases e
      · rintro ⟨i, hi, h1, _⟩
        rw [hkey i hi] at h1
        rw [← List.map_append] at hnk
        exact absurd (List.mem_map.2 ⟨i, hi, h1⟩) hnk
    · rw [upd_ne e, h3 kk y]
      constructor
      · rintro ⟨i, hi, hk1, hk2⟩
        have hin : i ≠ n := fun q => e (by rw [← hk1, q])
        have hi2 : i ∈ p ++ s := by
          simp only [List.mem_append, List.mem_cons] at hi ⊢
          rcases hi with q | q | q
          · exact Or.inl q
          · exact absurd q hin
          · exact Or.inr q
        exact ⟨i, hi2, (hkey i hi2).trans hk1, hk2⟩
      · rintro ⟨i, hi, h1, h2⟩
        refine ⟨i, ?_, (hkey i hi).symm.trans h1, h2⟩
        simp only [List.mem_append, List.mem_cons] at hi ⊢
        rcases hi with q | q
        · exact Or.inl q
        · exact Or.inr (Or.inr q)
  · rw [herase]
    exact (List.map_congr_left hkey).symm
end
end Go.Proofs.YtjcbpejplnaakaaGreat.Md
