import Derived.Test.YtjcbpejplnaakaaGreatMdArp
namespace Go.Proofs.YtjcbpejplnaakaaGreat.Md
open Go.RowKit Go.Maps Go.Proofs.YtjcbpejplnaakaaGreat.Nm

section
variable {w w' w1 w2 w0 : World} {g o : Nat} {F F' F1 G : List Nat} {k size p p' x : Nat} {l k1 k2 k3 k4 j1 j2 j3 j4 out : List Nat} {v : Value}
theorem Ark.d13 (h : Ark size p k1 k2 k3 k4) : ∀ x ∈ k1, x ∉ k3 := fun x h1 h3 => by
  have := ct_pos h1
  have := ct_pos h3
  have := h.nd x
  omega
theorem Ark.d24 (h : Ark size p k1 k2 k3 k4) : ∀ x ∈ k2, x ∉ k4 := fun x h1 h3 => by
  have := ct_pos h1
  have := ct_pos h3
  have := h.nd x
  omega
theorem mkroom (h : Q4 w w g F size p k1 k2 k3 k4) (ok : Ark size p k1 k2 k3 k4) (hz : size ≤ 1048576) (h0 : 0 < size) : Calls Tryz.prog 120 #[.pointer (some ⟨g, 0, none⟩)] w fun e w' => ∃ v F' out j1 j2 j3 j4, e = .returned v ∧ Mkr size p k1 k2 k3 k4 out j1 j2 j3 j4 ∧ Aq w w' g F F' size p j1 j2 j3 j4 v out := by
  obtain ⟨nd, h1, h2, h3, h4, h5⟩ := ok
  have ok : Ark size p k1 k2 k3 k4 := ⟨nd, h1, h2, h3, h4, h5⟩
  by_cases ha : k1.length = size
  · obtain ⟨l, y, e⟩ := snocN (l := k1) (by rintro rfl; simp at ha; omega)
    refine (mkr_a h e hz (by omega) (by omega) (by omega) ha).mono ?_
    rintro _ w' ⟨v, F', rfl, q⟩
    exact ⟨v, F', _, _, _, _, _, rfl, Mkr.a y l ha e, q⟩
  · have hlt : k1.length < size := by omega
    by_cases hb : k1.length + k3.length = size
    · obtain ⟨l, y, e⟩ := snocN (l := k3) (by rintro rfl; simp at hb; omega)
      have hn : k2 ≠ [] := by
        rintro rfl
        have := h5 (by omega)
        simp at this
        omega
      have d := ok.d13
      refine (mkr_b h hlt e (fun _ => hn) (fun x hx hx2 => d x hx (by rw [e]; exact List.mem_append_left _ hx2)) ok.d24 hz (by omega) (by omega) (by omega) (by omega) hb).mono ?_
      rintro _ w' ⟨v, F', x, j1, j2, j3, j4, rfl, hr, q⟩
      exact ⟨v, F', _, _, _, _, _, rfl, Mkr.b x y l j1 j2 j3 j4 ha hb e hr, q⟩
    · by_cases hc : k1.length + k3.length + k2.length + k4.length < size
      · refine (mkr_c h hlt hz (by omega) (by omega) (by omega) (by omega) ⟨by omega, hc⟩).mono ?_
        rintro _ w' ⟨v, F', rfl, q⟩
        exact ⟨v, F', _, _, _, _, _, rfl, Mkr.c hb hc, q⟩
      · have hful : k1.length + k2.length = size := by
          by_cases q : 0 < k3.length + k4.length
          · exact h5 q
          · omega
        have hn : k2 ≠ [] := by
          rintro rfl
          simp at hful
          omega
        by_cases hd : k1.length + k3.length + k2.length + k4.length = 2 * size
        · obtain ⟨l, y, e⟩ := snocN (l := k4) (by rintro rfl; simp at hd; omega)
          have d := ok.d24
          refine (mkr_d h hlt e (fun _ => hn) ok.d13 (fun x hx hx2 => d x hx (by rw [e]; exact List.mem_append_left _ hx2)) (by omega) (by omega) (by omega) (by omega) ⟨hb, by omega, hd⟩).mono ?_
          rintro _ w' ⟨v, F', x, j1, j2, j3, j4, rfl, hr, q⟩
          exact ⟨v, F', _, _, _, _, _, rfl, Mkr.d x y l j1 j2 j3 j4 hb (by omega) hd e hr, q⟩
        · refine (mkr_e h hlt (fun _ => hn) ok.d13 ok.d24 hz (by omega) (by omega) (by omega) (by omega) ⟨hb, by omega, hd⟩).mono ?_
          rintro _ w' ⟨v, F', x, j1, j2, j3, j4, rfl, hr, q⟩
          exact ⟨v, F', _, _, _, _, _, rfl, Mkr.e x j1 j2 j3 j4 hb (by omega) hd hr, q⟩
set_option maxHeartbeats 1600000 in
set_option maxRecDepth 100000 in
theorem arc_new (h : Q4 w w g F size p k1 k2 k3 k4) (ok : Ark size p k1 k2 k3 k4) (n1 : k ∉ k1) (n2 : k ∉ k2) (n3 : k ∉ k3) (n4 : k ∉ k4) (hk2 : k < 18446744073709551616) (hz : size ≤ 1048576) (h0 : 0 < size) : Calls Tryz.prog 117 #[.pointer (some ⟨g, 0, none⟩), U k] w fun e w' => ∃ v F' out j1 j2 j3 j4, e = .returned (.tuple #[.bool false, v]) ∧ Mkr size p k1 k2 k3 k4 out j1 j2 j3 j4 ∧ Aq w w' g F F' size p (k :: j1) j2 j3 j4 v out := by
  have H : Hid (Q4 w w g F size p k1 k2 k3 k4 ∧ Ark size p k1 k2 k3 k4 ∧ k ∉ k1 ∧ k ∉ k2 ∧ k < 18446744073709551616 ∧ decide (k ∈ k3) = false ∧ decide (k ∈ k4) = false ∧ size ≤ 1048576 ∧ 0 < size ∧ k ∉ k3 ∧ k ∉ k4) := ⟨h, ok, n1, n2, hk2, decide_eq_false n3, decide_eq_false n4, hz, h0, n3, n4⟩
  clear h ok n1 n2 hk2 n3 n4 hz h0
  go_enter Tryz.func117, Tryz.ntmps117
  go_wp2_with fail
  obtain ⟨Fi, r, f⟩ := H.out.1.r1
  refine (r.nodrop H.out.2.2.1 H.out.2.2.2.2.1).mono ?_
  rintro _ w ⟨rfl, rfl⟩
  clear r f
  go_wp2_with fail
  obtain ⟨Fi, r, f⟩ := H.out.1.r2
  refine (r.nodrop H.out.2.2.2.1 H.out.2.2.2.2.1).mono ?_
  rintro _ w ⟨rfl, rfl⟩
  clear r f
  go_wp2_with fail
  obtain ⟨Fi, r, f⟩ := H.out.1.r3
  refine (r.has H.out.2.2.2.2.1).mono ?_
  rw [H.out.2.2.2.2.2.1]
  rintro _ w ⟨rfl, rfl⟩
  clear r f
  go_wp2_with fail
  obtain ⟨Fi, r, f⟩ := H.out.1.r4
  refine (r.has H.out.2.2.2.2.1).mono ?_
  rw [H.out.2.2.2.2.2.2.1]
  rintro _ w ⟨rfl, rfl⟩
  clear r f
  go_wp2_with fail
  refine (mkroom H.out.1 H.out.2.1 H.out.2.2.2.2.2.2.2.1 H.out.2.2.2.2.2.2.2.2.1).mono ?_
  rintro _ w1 ⟨v, F', out, j1, j2, j3, j4, rfl, hm, hq⟩
  have H1 : Hid (Mkr size p k1 k2 k3 k4 out j1 j2 j3 j4 ∧ Aq w w1 g F F' size p j1 j2 j3 j4 v out ∧ k ∉ j1 ∧ j1.length ≤ 1000000000) := by
    obtain ⟨a1, a2, a3, a4, a5, _, _, a6, a7, a8, a9⟩ := H.out
    obtain ⟨_, _, q1, q2⟩ := a2.new_ a7 a3 a4 a8 a9 hm
    exact ⟨hm, hq, q1, by omega⟩
  clear hm hq
  go_wp2_with fail
  obtain ⟨Fi, r, f⟩ := H1.out.2.1.1.r1
  refine (r.push H1.out.2.2.1 H.out.2.2.2.2.1 H1.out.2.2.2).mono ?_
  rintro _ w2 ⟨rfl, h2⟩
  have H2 : Hid (Q4 w1 w2 g F' size p (k :: j1) j2 j3 j4) := f w2 _ h2
  clear h2 f r
  go_wp2
  go_ret2
  obtain ⟨F2, q⟩ := H1.out.2.1.go_ H2.out
  exact ⟨v, F2, out, j1, j2, j3, j4, rfl, H1.out.1, q⟩
/-- ARC's Access, of any key -/
theorem arc_any (h : Q4 w w g F size p k1 k2 k3 k4) (ok : Ark size p k1 k2 k3 k4) (hk2 : k < 18446744073709551616) (hz : size ≤ 1048576) (h0 : 0 < size) : Calls Tryz.prog 117 #[.pointer (some ⟨g, 0, none⟩), U k] w fun e w' => ∃ v F' p' out j1 j2 j3 j4, e = .returned (.tuple #[.bool (decide (k ∈ k1 ++ k2)), v]) ∧ Aq w w' g F F' size p' j1 j2 j3 j4 v out ∧ Ark size p' j1 j2 j3 j4 ∧ Snd false size k (k1 ++ k2) (j1 ++ j2) out := by
  obtain ⟨nd, h1, h2, h3, h4, h5⟩ := ok
  have ok : Ark size p k1 k2 k3 k4 := ⟨nd, h1, h2, h3, h4, h5⟩
  by_cases e1 : k ∈ k1
  · have e2 : k ∉ k2 := ct_no (by have := ct_pos e1; have := nd k; omega)
    rw [decide_eq_true (show k ∈ k1 ++ k2 by simp [e1])]
    refine (arc_hit1 h e1 e2 hk2 (by omega)).mono ?_
    rintro _ w' ⟨rfl, q⟩
    obtain ⟨F', q'⟩ := aq_nil q
    exact ⟨_, F', p, [], _, _, _, _, rfl, q', (ok.hit1 e1).1, (ok.hit1 e1).2⟩
  · by_cases e2 : k ∈ k2
    · rw [decide_eq_true (show k ∈ k1 ++ k2 by simp [e2])]
      refine (arc_hit2 h e1 e2 hk2 (by omega)).mono ?_
      rintro _ w' ⟨rfl, q⟩
      obtain ⟨F', q'⟩ := aq_nil q
      exact ⟨_, F', p, [], _, _, _, _, rfl, q', (ok.hit2 e2).1, (ok.hit2 e2).2⟩
    · rw [decide_eq_false (show k ∉ k1 ++ k2 by simp [e1, e2])]
      by_cases e3 : k ∈ k3
      · have hp := List.length_pos_of_mem e3
        have hg := h5 (by omega)
        refine (arc_b1 h e1 e2 e3 hk2 hz h4 (by omega) (by omega) (by omega) (by omega) ok.d13 ok.d24 (fun _ => by rintro rfl; simp at hg; omega)).mono ?_
        rintro _ w' ⟨v, F', x, j1, j2, j3, j4, rfl, hr, q⟩
        obtain ⟨r1, r2⟩ := ok.back3 e1 e2 e3 (by unfold pUp; omega) hr
        exact ⟨_, F', _, [x], _, _, _, _, rfl, q, r1, r2⟩
      · by_cases e4 : k ∈ k4
        · have hp := List.length_pos_of_mem e4
          have hg := h5 (by omega)
          have hpd : pDn p k3.length k4.length ≤ p := by unfold pDn; omega
          refine (arc_b2 h e1 e2 e3 e4 hk2 hz h4 (by omega) (by omega) (by omega) (by omega) ok.d13 ok.d24 (fun q => ?_)).mono ?_
          · rintro rfl
            simp at hg
            exact q ⟨by omega, by
              by_cases t : pDn p k3.length k4.length < k1.length
              · exact Or.inl t
              · exact Or.inr ⟨by omega, rfl⟩⟩
          · rintro _ w' ⟨v, F', x, j1, j2, j3, j4, rfl, hr, q⟩
            obtain ⟨r1, r2⟩ := ok.back4 e1 e2 e4 (by omega) hr
            exact ⟨_, F', _, [x], _, _, _, _, rfl, q, r1, r2⟩
        · refine (arc_new h ok e1 e2 e3 e4 hk2 hz h0).mono ?_
          rintro _ w' ⟨v, F', out, j1, j2, j3, j4, rfl, hm, q⟩
          obtain ⟨r1, r2, _⟩ := ok.new_ h0 e1 e2 e3 e4 hm
          exact ⟨_, F', _, out, _, _, _, _, rfl, q, r1, r2⟩
end
end Go.Proofs.YtjcbpejplnaakaaGreat.Md
