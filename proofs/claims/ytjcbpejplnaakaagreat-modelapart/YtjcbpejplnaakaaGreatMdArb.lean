import Derived.Test.YtjcbpejplnaakaaGreatMdTail
namespace Go.Proofs.YtjcbpejplnaakaaGreat.Md
open Go.RowKit Go.Maps Go.Proofs.YtjcbpejplnaakaaGreat.Nm

section
variable {w w' w2 w0 : World} {g o : Nat} {F F' G : List Nat} {k size p : Nat} {ks ks' l k1 k2 k3 k4 : List Nat}
/-- whether a key of T1 goes -/
def RepC (p n : Nat) (bb : Bool) : Prop := 0 < n ∧ (p < n ∨ n = p ∧ bb = true)
instance (p n : Nat) (bb : Bool) : Decidable (RepC p n bb) := by unfold RepC; infer_instance
/-- what replace does -/
def Rep (p : Nat) (bb : Bool) (k1 k2 k3 k4 : List Nat) (x : Nat) (j1 j2 j3 j4 : List Nat) : Prop := (RepC p k1.length bb ∧ k1 = j1 ++ [x] ∧ j2 = k2 ∧ j3 = x :: k3 ∧ j4 = k4) ∨ (¬ RepC p k1.length bb ∧ j1 = k1 ∧ k2 = j2 ++ [x] ∧ j3 = k3 ∧ j4 = x :: k4)
theorem snocN {l : List Nat} (h : l ≠ []) : ∃ a x, l = a ++ [x] := ⟨l.dropLast, l.getLast h, (List.dropLast_concat_getLast _).symm⟩
theorem Rw.ltU (h : Rw w0 w g o F ks) : ∀ x ∈ ks, x < 18446744073709551616 := by
  obtain ⟨L, c, m, ns, fr, h1, h2, h3, h4, h5⟩ := h
  exact h5
theorem rep_any {bb : Bool} (h : Q4 w0 w g F size p k1 k2 k3 k4) (hne : ¬ RepC p k1.length bb → k2 ≠ []) (h13 : ∀ x ∈ k1, x ∉ k3) (h24 : ∀ x ∈ k2, x ∉ k4) (hl1 : k1.length ≤ 1000000000) (hl3 : k3.length ≤ 1000000000) (hl4 : k4.length ≤ 1000000000) : Calls Tryz.prog 119 #[.pointer (some ⟨g, 0, none⟩), .bool bb] w fun e w' => ∃ x j1 j2 j3 j4, e = .returned (U x) ∧ Q4 w0 w' g F size p j1 j2 j3 j4 ∧ Rep p bb k1 k2 k3 k4 x j1 j2 j3 j4 := by
  by_cases hc : RepC p k1.length bb
  · have hc0 := hc
    obtain ⟨a, x, rfl⟩ := snocN (l := k1) (by rintro rfl; exact absurd hc0.1 (by simp))
    obtain ⟨_, r, _⟩ := h.r1
    have hx := r.ltU x (by simp)
    rcases hc.2 with e | ⟨e, rfl⟩
    · refine (repA (bb := bb) h e (h13 x (by simp)) hx hl3 hl1).mono ?_
      rintro _ w' ⟨rfl, h'⟩
      exact ⟨x, _, _, _, _, rfl, h', Or.inl ⟨hc, rfl, rfl, rfl, rfl⟩⟩
    · refine (repB h e (h13 x (by simp)) hx hl3 hl1).mono ?_
      rintro _ w' ⟨rfl, h'⟩
      exact ⟨x, _, _, _, _, rfl, h', Or.inl ⟨hc, rfl, rfl, rfl, rfl⟩⟩
  · obtain ⟨b, x, rfl⟩ := snocN (hne hc)
    obtain ⟨_, r, _⟩ := h.r2
    have hx := r.ltU x (by simp)
    have hx4 := h24 x (by simp)
    have fin : ∀ (e : Ending) (w' : World), (e = .returned (U x) ∧ Q4 w0 w' g F size p k1 b k3 (x :: k4)) → ∃ x' j1 j2 j3 j4, e = .returned (U x') ∧ Q4 w0 w' g F size p j1 j2 j3 j4 ∧ Rep p bb k1 (b ++ [x]) k3 k4 x' j1 j2 j3 j4 := by
      rintro _ w' ⟨rfl, h'⟩
      exact ⟨x, _, _, _, _, rfl, h', Or.inr ⟨hc, rfl, rfl, rfl, rfl⟩⟩
    by_cases h0 : k1.length = 0
    · exact (repC (bb := bb) h h0 hx4 hx hl4 hl1).mono fin
    · by_cases h1 : k1.length < p
      · exact (repD (bb := bb) h ⟨by omega, h1⟩ hx4 hx hl4 hl1).mono fin
      · have he : k1.length = p := by
          by_cases e : k1.length = p
          · exact e
          · exact absurd ⟨by omega, Or.inl (by omega)⟩ hc
        have hbb : bb = false := by
          cases bb with
          | false => rfl
          | true => exact absurd ⟨by omega, Or.inr ⟨he, rfl⟩⟩ hc
        subst hbb
        exact (repE h ⟨by omega, he⟩ hx4 hx hl4 hl1).mono fin
set_option maxHeartbeats 1600000 in
set_option maxRecDepth 100000 in
theorem arc_hit1 (h : Q4 w0 w g F size p k1 k2 k3 k4) (hk : k ∈ k1) (hk' : k ∉ k2) (hk2 : k < 18446744073709551616) (hl : k2.length ≤ 1000000000) : Calls Tryz.prog 117 #[.pointer (some ⟨g, 0, none⟩), U k] w fun e w' => e = .returned (.tuple #[.bool true, .slice none 0 0]) ∧ Q4 w0 w' g F size p (k1.erase k) (k :: k2) k3 k4 := by
  have H : Hid (Q4 w0 w g F size p k1 k2 k3 k4 ∧ k ∈ k1 ∧ k ∉ k2 ∧ k < 18446744073709551616 ∧ k2.length ≤ 1000000000) := ⟨h, hk, hk', hk2, hl⟩
  clear h hk hk' hk2 hl
  go_enter Tryz.func117, Tryz.ntmps117
  go_wp2_with fail
  obtain ⟨Fi, r, f⟩ := H.out.1.r1
  refine (r.dodrop H.out.2.1).mono ?_
  rintro _ w1 ⟨rfl, h1⟩
  have H1 : Hid (Q4 w0 w1 g F size p (k1.erase k) k2 k3 k4) := f w1 _ h1
  clear h1 f r
  go_wp2_with fail
  obtain ⟨Fi, r, f⟩ := H1.out.r2
  refine (r.push H.out.2.2.1 H.out.2.2.2.1 H.out.2.2.2.2).mono ?_
  rintro _ w2 ⟨rfl, h2⟩
  have H2 : Hid (Q4 w0 w2 g F size p (k1.erase k) (k :: k2) k3 k4) := f w2 _ h2
  clear h2 f r
  go_wp2
  go_ret2
  exact ⟨rfl, H2.out⟩
set_option maxHeartbeats 1600000 in
set_option maxRecDepth 100000 in
theorem arc_hit2 (h : Q4 w0 w g F size p k1 k2 k3 k4) (hk : k ∉ k1) (hk' : k ∈ k2) (hk2 : k < 18446744073709551616) (hl : k2.length ≤ 1000000000) : Calls Tryz.prog 117 #[.pointer (some ⟨g, 0, none⟩), U k] w fun e w' => e = .returned (.tuple #[.bool true, .slice none 0 0]) ∧ Q4 w0 w' g F size p k1 (k :: k2.erase k) k3 k4 := by
  have hnm : k ∉ k2.erase k := by obtain ⟨_, r, _⟩ := h.r2; exact r.nodup.not_mem_erase
  have H : Hid (Q4 w0 w g F size p k1 k2 k3 k4 ∧ k ∉ k1 ∧ k ∈ k2 ∧ k < 18446744073709551616 ∧ (k2.erase k).length ≤ 1000000000 ∧ k ∉ k2.erase k) := ⟨h, hk, hk', hk2, Nat.le_trans List.length_erase_le hl, hnm⟩
  clear h hk hk' hk2 hl hnm
  go_enter Tryz.func117, Tryz.ntmps117
  go_wp2_with fail
  obtain ⟨Fi, r, f⟩ := H.out.1.r1
  refine (r.nodrop H.out.2.1 H.out.2.2.2.1).mono ?_
  rintro _ w ⟨rfl, rfl⟩
  clear r f
  go_wp2_with fail
  obtain ⟨Fi, r, f⟩ := H.out.1.r2
  refine (r.dodrop H.out.2.2.1).mono ?_
  rintro _ w1 ⟨rfl, h1⟩
  have H1 : Hid (Q4 w0 w1 g F size p k1 (k2.erase k) k3 k4) := f w1 _ h1
  clear h1 f r
  go_wp2_with fail
  obtain ⟨Fi, r, f⟩ := H1.out.r2
  refine (r.push H.out.2.2.2.2.2 H.out.2.2.2.1 H.out.2.2.2.2.1).mono ?_
  rintro _ w2 ⟨rfl, h2⟩
  have H2 : Hid (Q4 w0 w2 g F size p k1 (k :: k2.erase k) k3 k4) := f w2 _ h2
  clear h2 f r
  go_wp2
  go_ret2
  exact ⟨rfl, H2.out⟩
end
end Go.Proofs.YtjcbpejplnaakaaGreat.Md
