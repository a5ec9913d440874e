import Derived.Test.YtjcbpejplnaakaaGreatJC
import Derived.Test.YtjcbpejplnaakaaGreatJD
import Derived.Test.YtjcbpejplnaakaaGreatJA
import Derived.Test.YtjcbpejplnaakaaGreatMdTail
import Derived.Test.YtjcbpejplnaakaaGreatJE
namespace Go.Proofs.YtjcbpejplnaakaaGreat.Mr
open Go.RowKit Go.Maps Go.Proofs.YtjcbpejplnaakaaGreat.Nm Go.Proofs.YtjcbpejplnaakaaGreat.Md

/-- the numbers of keys are those of a row of pairs -/
def AgN (N : Nat → Option Nat) (ps : List (Nat × Nat)) : Prop := ∀ q ∈ ps, N q.1 = some q.2
section
variable {N : Nat → Option Nat} {l ps pm r a b : List (Nat × Nat)} {y x v k n size : Nat} {ks out c d : List Nat}
theorem AgN.other (h : AgN N ps) (hy : y ∉ fs ps) : AgN (nset N y v) ps := fun q hq => by
  unfold nset
  rw [if_neg fun e => hy (by rw [← e]; exact List.mem_map.2 ⟨q, hq, rfl⟩)]
  exact h q hq
theorem AgN.front (h : AgN N (l ++ [(y, k)])) : AgN N l := fun q hq => h q (by simp [hq])
theorem AgN.cons (h : AgN N l) (hy : y ∉ fs l) : AgN (nset N y v) ((y, v) :: l) := fun q hq => by
  rcases List.mem_cons.1 hq with e | e
  · rw [e]; simp [nset]
  · exact h.other hy q e
theorem fs_app (l : List (Nat × Nat)) (y k : Nat) : fs (l ++ [(y, k)]) = fs l ++ [y] := by simp [fs]
theorem snoc_inj {l l' : List (Nat × Nat)} {q q' : Nat × Nat} (h : l ++ [q] = l' ++ [q']) : l = l' ∧ q = q' := by
  have h2 := List.append_inj' h rfl
  exact ⟨h2.1, by simpa using h2.2⟩
theorem RotI.inv0 (h : RotI (l ++ [(x, 0)]) r) : r = l ++ [(x, 0)] := by
  generalize ht : l ++ [(x, 0)] = t at h
  cases h with
  | stop l' x' => rfl
  | step l' x' n' r' h' =>
    have := (snoc_inj ht).2
    simp at this
theorem RotI.invS (h : RotI (l ++ [(x, n + 1)]) r) : RotI ((x, n) :: l) r := by
  generalize ht : l ++ [(x, n + 1)] = t at h
  cases h with
  | stop l' x' =>
    have := (snoc_inj ht).2
    simp at this
  | step l' x' n' r' h' =>
    obtain ⟨rfl, h2⟩ := snoc_inj ht
    simp only [Prod.mk.injEq, Nat.add_right_cancel_iff] at h2
    obtain ⟨rfl, rfl⟩ := h2
    exact h'
theorem RotI.ne (h : RotI pm r) : pm ≠ [] := by
  cases h with
  | stop l' x' => simp
  | step l' x' n' r' h' => simp
theorem FsR.inv0 (h : FsR size ks [] pm out a b c d) : a = [] ∧ b = pm ∧ c = ks ∧ d = out := by
  generalize ht : ([] : List (Nat × Nat)) = t at h
  cases h with
  | none => exact ⟨rfl, rfl, rfl, rfl⟩
  | out => exact absurd ht (by simp)
  | mv => exact absurd ht (by simp)
  | mf => exact absurd ht (by simp)
theorem FsR.invO (h : FsR size ks (l ++ [(x, n)]) pm out a b c d) (hn : n ≤ 1) : a = l ∧ b = pm ∧ c = x :: (if ks.length = mMost size then ks.dropLast else ks) ∧ d = out ++ [x] := by
  generalize ht : l ++ [(x, n)] = t at h
  cases h with
  | none => exact absurd ht (by simp)
  | out l' pm' out' x' n' h1 =>
    obtain ⟨rfl, h2⟩ := snoc_inj ht
    cases h2
    exact ⟨rfl, rfl, rfl, rfl⟩
  | mv l' pm' out' x' n' a' b' c' d' h1 =>
    have := (snoc_inj ht).2
    cases this
    omega
  | mf l' pm' q' out' x' n' y' a' b' c' d' h1 =>
    have := (snoc_inj ht).2
    cases this
    omega
theorem FsR.invM (h : FsR size ks (l ++ [(x, n)]) pm out a b c d) (hn : 1 < n) : (pm.length ≠ mMost size ∧ FsR size ks l ((x, 0) :: pm) out a b c d) ∨ (pm.length = mMost size ∧ ∃ q y, RotI pm (q ++ [(y, 0)]) ∧ FsR size ks l ((x, 0) :: q) (out ++ [y]) a b c d) := by
  generalize ht : l ++ [(x, n)] = t at h
  cases h with
  | none => exact absurd ht (by simp)
  | out l' pm' out' x' n' h1 =>
    have := (snoc_inj ht).2
    cases this
    omega
  | mv l' pm' out' x' n' a' b' c' d' h1 h2 h3 =>
    obtain ⟨rfl, h4⟩ := snoc_inj ht
    cases h4
    exact Or.inl ⟨h2, h3⟩
  | mf l' pm' q' out' x' n' y' a' b' c' d' h1 h2 h3 h4 =>
    obtain ⟨rfl, h5⟩ := snoc_inj ht
    cases h5
    exact Or.inr ⟨h2, q', y', h3, h4⟩
end
end Go.Proofs.YtjcbpejplnaakaaGreat.Mr

set_option linter.unusedSimpArgs false
namespace Go.Proofs.YtjcbpejplnaakaaGreat.Mr
open Go.RowKit Go.Maps Go.Proofs.YtjcbpejplnaakaaGreat.Nm Go.Proofs.YtjcbpejplnaakaaGreat.Md

section
variable {w0 w w' w1 w4 : World} {g m kd c x y z : Nat} {V : Vs} {F : List Nat} {l A B G H O X : List Nat} {N : Nat → Option Nat} {n p : Nat} {v : Value} {s : St} {ps pm qq : List (Nat × Nat)}
set_option maxHeartbeats 6400000 in
set_option maxRecDepth 100000 in
theorem fmr_any (h : Rc w0 w g m kd c F V ⟨fs ps, fs pm, G, H, N, n, p, O⟩) (hl : (fs ps).length + (fs pm).length + G.length + H.length + O.length ≤ 95000000) (hn : n < maxLen) (ha : AgN N ps ∧ AgN N pm) (hd : ∀ a, ct a (fs ps) + ct a (fs pm) ≤ 1) (h3 : ∀ q ∈ pm, q.2 ≤ 3) (hU : ∀ q ∈ pm, q.1 < 18446744073709551616) (hr : RotI pm (qq ++ [(y, 0)])) : Calls Tryz.prog 42 #[.pointer (some ⟨g, 0, none⟩)] w fun e w' => e = .returned (.tuple #[]) ∧ ∃ V' M, Rc w0 w' g m kd c F V' ⟨fs ps, fs qq, G, H, M, n, p, O ++ [y]⟩ ∧ AgN M ps ∧ AgN M qq := by
  have HS : Hid (Rc w0 w g m kd c F V ⟨fs ps, fs pm, G, H, N, n, p, O⟩ ∧ AgN N ps ∧ AgN N pm ∧ (∀ q ∈ pm, q.2 ≤ 3) ∧ (∀ q ∈ pm, q.1 < 18446744073709551616) ∧ RotI pm (qq ++ [(y, 0)])) := ⟨h, ha.1, ha.2, h3, hU, hr⟩
  have HL : Hid ((fs ps).length + (fs pm).length + G.length + H.length + O.length ≤ 95000000) := hl
  have HD : Hid ((∀ a, ct a (fs ps) + ct a (fs pm) ≤ 1) ∧ n < maxLen) := ⟨hd, hn⟩
  clear h hl hn ha hd h3 hU hr
  go_enter Tryz.func42, Tryz.ntmps42
  go_wp2_with fail
  go_loopg [] (sumH pm) (fun gq wr => ∃ qs M V, Rc w0 wr g m kd c F V ⟨fs ps, fs qs, G, H, M, n, p, O⟩ ∧ RotI qs (qq ++ [(y, 0)]) ∧ AgN M ps ∧ AgN M qs ∧ gq = sumH qs ∧ (∀ a, ct a (fs qs) = ct a (fs pm)) ∧ qs.length = pm.length ∧ (∀ q ∈ qs, q.2 ≤ 3) ∧ ∀ q ∈ qs, q.1 < 18446744073709551616)
  case atStart => exact ⟨pm, N, _, HS.out.1, HS.out.2.2.2.2.2, HS.out.2.1, HS.out.2.2.1, rfl, fun _ => rfl, rfl, HS.out.2.2.2.1, HS.out.2.2.2.2.1⟩
  case round =>
    clear HS
    obtain ⟨qs, M, ⟨va, vb, vg, vh, vo⟩, hr, hro, hap, haq, hgk, hct, hln, hle, hlt⟩ := hrel
    obtain ⟨lq, z, nv, rfl⟩ := snocP (RotI.ne hro)
    have hmem : (z, nv) ∈ lq ++ [(z, nv)] := by simp
    have HR : Hid (Rc w0 wr g m kd c F ⟨va, vb, vg, vh, vo⟩ ⟨fs ps, fs lq ++ [z], G, H, M, n, p, O⟩) := by rw [← fs_app lq z nv]; exact hr
    have HI : Hid (RotI (lq ++ [(z, nv)]) (qq ++ [(y, 0)]) ∧ AgN M ps ∧ AgN M (lq ++ [(z, nv)]) ∧ gk = sumH (lq ++ [(z, nv)]) ∧ (∀ a, ct a (fs (lq ++ [(z, nv)])) = ct a (fs pm)) ∧ (lq ++ [(z, nv)]).length = pm.length ∧ (∀ q ∈ lq ++ [(z, nv)], q.2 ≤ 3) ∧ (∀ q ∈ lq ++ [(z, nv)], q.1 < 18446744073709551616)) := ⟨hro, hap, haq, hgk, hct, hln, hle, hlt⟩
    have HZ : Hid (M z = some nv ∧ z < 18446744073709551616 ∧ (fs ps).length + (fs lq ++ [z]).length + G.length + H.length + O.length ≤ 95000000 ∧ z ∉ fs ps ∧ z ∉ fs lq ∧ n < maxLen) := by
      have h1 := HD.out.1 z
      have h2 := hct z
      rw [fs_snoc, one_same] at h2
      refine ⟨haq _ hmem, hlt _ hmem, ?_, ct_no (by omega), ct_no (by omega), HD.out.2⟩
      have h3 := HL.out
      have h4 : (fs lq ++ [z]).length = (fs pm).length := by rw [← fs_app lq z nv]; unfold fs; rw [List.length_map, List.length_map]; exact hln
      omega
    have hn3 : nv ≤ 3 := hle _ hmem
    clear hr hro hap haq hgk hct hln hle hlt hmem
    obtain ⟨b1, k1, ev, hce⟩ := HR.out.rb.end_
    have ev : vb = .slice (some ⟨b1, 0, none⟩) ((fs lq).length + 1) k1 := ev
    subst ev
    have hj : ((fs lq).length : Int) ≤ 95000000 := by have := HZ.out.2.2.1; simp only [List.length_append, List.length_cons, List.length_nil] at this; omega
    have c3 : wr.cell? ⟨g, 3, none⟩ = some (.slice (some ⟨b1, 0, none⟩) ((fs lq).length + 1) k1) := HR.out.cell 3
    generalize hjj : (fs lq).length = j1 at *
    obtain ⟨n1, hn1⟩ : ∃ n1 : Nat, n1 = j1 + 1 := ⟨_, rfl⟩
    rw [← hn1] at HR c3
    have hw1 : IntKind.i64.wrap ((n1 : Int) - 1) = (j1 : Int) := by rw [IntKind.wrap_i64]; omega
    have hi1 : (j1 : Int) < (n1 : Int) := by omega
    have hi0 : (0 : Int) < (n1 : Int) := by omega
    have hi2 : decide (0 < n1) = true := decide_eq_true (by omega)
    clear hn1 hjj
    have c6 : wr.cell? ⟨g, 6, none⟩ = some (.map (some m)) := HR.out.cell 6
    cases nv with
    | succ k =>
      have hlk : ∀ d, (Instr.lookup 57 (.map (some m)) (U z) false).run Tryz.prog (wr.drewN d) = .ok (I ((k + 1 : Nat) : Int)) (wr.drewN d) := fun d => look_is (HR.out.below (Go.Proofs.YtjcbpejplnaakaaGreat.Nm.below_drewN _ d)).bk HZ.out.2.1 HZ.out.1
      obtain ⟨kk, hkk⟩ : ∃ kk : Nat, kk = k + 1 := ⟨_, rfl⟩
      rw [← hkk] at hlk
      have hk0 : (0 : Int) < (kk : Int) := by omega
      have hk1 : decide (0 < kk) = true := decide_eq_true (by omega)
      have HKK : Hid (kk = k + 1) := hkk
      clear hkk
      go_wp2_with fail
      go_quiet (fail)
      have HQ : Hid (Rc w0 (wr.drewN nq) g m kd c F ⟨va, .slice (some ⟨b1, 0, none⟩) n1 k1, vg, vh, vo⟩ ⟨fs ps, fs lq ++ [z], G, H, M, n, p, O⟩) := HR.out.below (Go.Proofs.YtjcbpejplnaakaaGreat.Nm.below_drewN _ nq)
      generalize wr.drewN nq = wq at *
      clear c3 c6 hlk hce HR hw1 hi1 hj hi0 hi2 hk0 hk1
      have c3 : wq.cell? ⟨g, 3, none⟩ = some (.slice (some ⟨b1, 0, none⟩) n1 k1) := HQ.out.cell 3
      go_wp2_with fail
      refine (last_any (l := fs lq) (x := z) HQ.out.rb.1 (Nat.le_trans (show (fs lq ++ [z]).length ≤ 95000000 by have := HZ.out.2.2.1; omega) (by omega))).mono ?_
      rintro _ w5 ⟨u, rfl, ho5, hb5⟩
      obtain ⟨b5, n5, k5, rfl⟩ := own_any ho5
      have H5 : Hid (Rc w0 w5 g m kd c F ⟨va, .slice (some ⟨b1, 0, none⟩) n1 k1, vg, vh, vo⟩ ⟨fs ps, fs lq ++ [z], G, H, M, n, p, O⟩ ∧ Rr w5 (g :: m :: (vo.ownBlock.toList ++ F)) (.slice b5 n5 k5) (fs lq)) := ⟨HQ.out.below hb5, Rr.mk_ ho5 HQ.out.xlt⟩
      clear ho5 hb5 HQ c3
      go_upto_region 2 with fail
      have c6 : w5.cell? ⟨g, 6, none⟩ = some (.map (some m)) := H5.out.1.cell 6
      have hlk : ∀ d, (Instr.lookup 57 (.map (some m)) (U z) false).run Tryz.prog (w5.drewN d) = .ok (I (kk : Int)) (w5.drewN d) := fun d => look_is (H5.out.1.below (Go.Proofs.YtjcbpejplnaakaaGreat.Nm.below_drewN _ d)).bk HZ.out.2.1 (by rw [HKK.out]; exact HZ.out.1)
      have hwk : IntKind.i64.wrap ((kk : Int) - 1) = (k : Int) := by have := HKK.out; rw [IntKind.wrap_i64]; omega
      refine wp_region_quiet_tail (C := fun w' => ∃ j, w' = w5.drewN j) 12 (by kernel_rfl) (by kernel_rfl) ⟨1, rfl⟩ ?_
      simp only [List.take_succ_cons, List.take_zero, List.drop_succ_cons, List.drop_zero]
      iterate 12 quiet_step (fail)
      refine wpQuiet_nil ?_
      rintro _ ⟨j, rfl⟩
      have HJ : Hid (Rc w0 (w5.drewN j) g m kd c F ⟨va, .slice (some ⟨b1, 0, none⟩) n1 k1, vg, vh, vo⟩ ⟨fs ps, fs lq ++ [z], G, H, M, n, p, O⟩ ∧ Rr (w5.drewN j) (g :: m :: (vo.ownBlock.toList ++ F)) (.slice b5 n5 k5) (fs lq)) := ⟨H5.out.1.below (Go.Proofs.YtjcbpejplnaakaaGreat.Nm.below_drewN _ j), H5.out.2.below (Go.Proofs.YtjcbpejplnaakaaGreat.Nm.below_drewN _ j)⟩
      generalize w5.drewN j = wj at *
      clear c6 hlk hwk H5
      obtain ⟨w6, hu6, hk6, hg6⟩ := HJ.out.1.bk.put (k := z) HZ.out.2.1 HZ.out.2.2.2.2.2 (k : Int)
      have H6 : Hid (Rc w0 w6 g m kd c F ⟨va, .slice (some ⟨b1, 0, none⟩) n1 k1, vg, vh, vo⟩ ⟨fs ps, fs lq ++ [z], G, H, nset M z k, ncnt M n z, p, O⟩ ∧ Rr w6 (g :: m :: (vo.ownBlock.toList ++ F)) (.slice b5 n5 k5) (fs lq)) := ⟨HJ.out.1.num (v := k) hk6 hg6, HJ.out.2.grown (by simp) hg6⟩
      clear hk6 hg6 HJ
      go_upto_region 3 with fail
      clear hu6
      go_wp2_with fail
      refine (ahead_any (x := z) H6.out.2.rl (Nat.le_trans (show (fs lq).length ≤ 95000000 by have := HZ.out.2.2.1; simp only [List.length_append, List.length_cons, List.length_nil] at this; omega) (by omega))).mono ?_
      rintro _ w7 ⟨u, rfl, ho7, hb7⟩
      obtain ⟨b7, n7, k7, rfl⟩ := own_any ho7
      have h7 := H6.out.1.below hb7
      have e7 : w7.cell? ⟨g, 3, none⟩ = some (.slice (some ⟨b1, 0, none⟩) n1 k1) := h7.cell 3
      have f7 : w7.frozen? ⟨g, 3, none⟩ = false := h7.nf 3
      have H8 : Hid (Rc w0 (w7.setCell ⟨g, 3, none⟩ (.slice b7 n7 k7)) g m kd c F ⟨va, .slice b7 n7 k7, vg, vh, vo⟩ ⟨fs ps, fs ((z, k) :: lq), G, H, nset M z k, n, p, O⟩) := by
        have q := H6.out.1.setB hb7 ho7
        have e : ncnt M n z = n := by unfold ncnt; rw [HZ.out.1]; rfl
        rw [e] at q
        exact q
      clear h7 ho7 hb7 H6
      go_wp2_with fail
      go_roundg (sumH ((z, k) :: lq))
      case measure => have h1 := HI.out.2.2.2.1; rw [sumH_snoc] at h1; rw [sumH_cons]; omega
      case rel =>
        obtain ⟨i1, i2, i3, i4, i5, i6, i7, i8⟩ := HI.out
        refine ⟨(z, k) :: lq, nset M z k, _, H8.out, RotI.invS i1, i2.other HZ.out.2.2.2.1, i3.front.cons HZ.out.2.2.2.2.1, rfl, fun a => ?_, ?_, fun q hq => ?_, fun q hq => ?_⟩
        · rw [← i5 a, fs_snoc, fs_cons]
        · simp at i6 ⊢; exact i6
        · rcases List.mem_cons.1 hq with e | e
          · rw [e]; show k ≤ 3; omega
          · exact i7 q (by simp [e])
        · rcases List.mem_cons.1 hq with e | e
          · rw [e]; exact HZ.out.2.1
          · exact i8 q (by simp [e])
    | zero =>
      have hlk : ∀ d, (Instr.lookup 57 (.map (some m)) (U z) false).run Tryz.prog (wr.drewN d) = .ok (I 0) (wr.drewN d) := fun d => look_is (v := 0) (HR.out.below (Go.Proofs.YtjcbpejplnaakaaGreat.Nm.below_drewN _ d)).bk HZ.out.2.1 HZ.out.1
      obtain ⟨rfl, rfl⟩ : qq = lq ∧ y = z := by
        have := snoc_inj (RotI.inv0 HI.out.1)
        exact ⟨this.1, by simpa using this.2⟩
      go_wp2_with fail
      go_quiet (fail)
      have HQ : Hid (Rc w0 (wr.drewN nq) g m kd c F ⟨va, .slice (some ⟨b1, 0, none⟩) n1 k1, vg, vh, vo⟩ ⟨fs ps, fs qq ++ [y], G, H, M, n, p, O⟩) := HR.out.below (Go.Proofs.YtjcbpejplnaakaaGreat.Nm.below_drewN _ nq)
      generalize wr.drewN nq = wq at *
      clear c3 c6 hlk hce HR hw1 hi1 hj
      have c3 : wq.cell? ⟨g, 3, none⟩ = some (.slice (some ⟨b1, 0, none⟩) n1 k1) := HQ.out.cell 3
      go_upto_region 5 with fail
      clear c3 hi0 hi2
      go_wp2_with fail
      refine (evB_any (l := fs qq) (x := y) HQ.out rfl (show (fs qq ++ [y]).length ≤ 1000000000 by have := HZ.out.2.2.1; omega) (show O.length ≤ 1000000000 by have := HZ.out.2.2.1; omega)).mono ?_
      rintro _ w4 ⟨rfl, V4, h4⟩
      have H4 : Hid (Rc w0 w4 g m kd c F V4 ⟨fs ps, fs qq, G, H, M, n, p, O ++ [y]⟩) := h4
      clear h4 HQ
      go_wp2
      go_end0
      exact ⟨rfl, _, M, H4.out, HI.out.2.1, HI.out.2.2.1.front⟩
end
end Go.Proofs.YtjcbpejplnaakaaGreat.Mr

set_option linter.unusedSimpArgs false
namespace Go.Proofs.YtjcbpejplnaakaaGreat.Mr
open Go.RowKit Go.Maps Go.Proofs.YtjcbpejplnaakaaGreat.Nm Go.Proofs.YtjcbpejplnaakaaGreat.Md

section
variable {w0 w w' w1 w4 : World} {g m kd c x y z : Nat} {V : Vs} {F : List Nat} {l A B G H O X ks cc d : List Nat} {N : Nat → Option Nat} {n p : Nat} {v : Value} {s : St} {ps pm qq a b : List (Nat × Nat)}
theorem agn_nil (N : Nat → Option Nat) : AgN N [] := fun q hq => by simp at hq
theorem nv_cases {v : Nat} (h : v ≤ 3) : v ≤ 1 ∨ 1 < v := by omega
set_option maxHeartbeats 12800000 in
set_option maxRecDepth 100000 in
theorem fsr_any (h : Rc w0 w g m kd c F V ⟨fs ps, fs pm, ks, H, N, n, p, O⟩) (hz : 10 ≤ c ∧ c ≤ 1048576) (ok : S3k c ps pm ks) (hl : ps.length ≤ 1048576 ∧ O.length ≤ 2097152 ∧ H.length ≤ 1048576) (hn : n < maxLen) (ha : AgN N ps ∧ AgN N pm) (hU : (∀ q ∈ ps, q.1 < 18446744073709551616) ∧ ∀ q ∈ pm, q.1 < 18446744073709551616) (hr : FsR c ks ps pm O a b cc d) : Calls Tryz.prog 41 #[.pointer (some ⟨g, 0, none⟩)] w fun e w' => e = .returned (.tuple #[]) ∧ ∃ V' M, Rc w0 w' g m kd c F V' ⟨fs a, fs b, cc, H, M, n, p, d⟩ ∧ AgN M a ∧ AgN M b := by
  have HS : Hid (Rc w0 w g m kd c F V ⟨fs ps, fs pm, ks, H, N, n, p, O⟩ ∧ AgN N ps ∧ AgN N pm ∧ S3k c ps pm ks ∧ (∀ q ∈ ps, q.1 < 18446744073709551616) ∧ (∀ q ∈ pm, q.1 < 18446744073709551616) ∧ FsR c ks ps pm O a b cc d) := ⟨h, ha.1, ha.2, ok, hU.1, hU.2, hr⟩
  have HB : Hid ((10 ≤ c ∧ c ≤ 1048576) ∧ ps.length ≤ 1048576 ∧ O.length ≤ 2097152 ∧ H.length ≤ 1048576 ∧ n < maxLen) := ⟨hz, hl.1, hl.2.1, hl.2.2, hn⟩
  have HM : Hid (0 < mMost c ∧ mMost c ≤ 1048576) := by unfold mMost; exact ⟨by omega, by omega⟩
  have c1 : w.cell? ⟨g, 1, none⟩ = some (I c) := h.cell 1
  obtain ⟨q0, hq0⟩ : ∃ q : Nat, q = c / 10 := ⟨_, rfl⟩
  have hw0 : IntKind.i64.wrap ((c : Int) / 10) = (q0 : Int) := by rw [IntKind.wrap_i64]; omega
  obtain ⟨mm, hmm⟩ : ∃ q : Nat, q = mMost c := ⟨_, rfl⟩
  have hw1 : IntKind.i64.wrap ((c : Int) - (q0 : Int)) = (mm : Int) := by rw [hmm]; unfold mMost; rw [IntKind.wrap_i64]; omega
  have HMM : Hid (mm = mMost c) := hmm
  clear h hz ok hl hn ha hU hr hq0 hmm
  go_enter Tryz.func41, Tryz.ntmps41
  go_wp2_with fail
  go_quiet (fail)
  have HT : Hid (Rc w0 (w.drewN nq) g m kd c F V ⟨fs ps, fs pm, ks, H, N, n, p, O⟩) := HS.out.1.below (Go.Proofs.YtjcbpejplnaakaaGreat.Nm.below_drewN _ nq)
  generalize w.drewN nq = wt at *
  clear c1 hw0 hw1
  go_wp2_with fail
  go_loopg [] ps.length (fun gq wr => ∃ qs rs o M V, Rc w0 wr g m kd c F V ⟨fs qs, fs rs, ks, H, M, n, p, o⟩ ∧ FsR c ks qs rs o a b cc d ∧ AgN M qs ∧ AgN M rs ∧ S3k c qs rs ks ∧ gq = qs.length ∧ o.length + qs.length ≤ O.length + ps.length ∧ (∀ q ∈ qs, q.1 < 18446744073709551616) ∧ ∀ q ∈ rs, q.1 < 18446744073709551616)
  case atStart => exact ⟨ps, pm, O, N, _, HT.out, HS.out.2.2.2.2.2.2, HS.out.2.1, HS.out.2.2.1, HS.out.2.2.2.1, rfl, Nat.le_refl _, HS.out.2.2.2.2.1, HS.out.2.2.2.2.2.1⟩
  case round =>
    clear HS HT
    obtain ⟨qs, rs, o, M, ⟨va, vb, vg, vh, vo⟩, hr, hfs, haq, har, hok, hgk, hol, hlt, hlr⟩ := hrel
    by_cases hqe : qs = []
    · subst hqe
      obtain ⟨ba, ca, ev⟩ := hr.ra.form
      have ev : va = .slice ba 0 ca := ev
      subst ev
      have HR : Hid (Rc w0 wr g m kd c F ⟨.slice ba 0 ca, vb, vg, vh, vo⟩ ⟨fs [], fs rs, ks, H, M, n, p, o⟩ ∧ AgN M rs ∧ FsR c ks [] rs o a b cc d) := ⟨hr, har, hfs⟩
      have c2 : wr.cell? ⟨g, 2, none⟩ = some (.slice ba 0 ca) := hr.cell 2
      clear hr hfs haq har hok hgk hol hlt hlr
      go_wp2_with fail
      go_quiet (fail)
      have HQ : Hid (Rc w0 (wr.drewN nq) g m kd c F ⟨.slice ba 0 ca, vb, vg, vh, vo⟩ ⟨fs [], fs rs, ks, H, M, n, p, o⟩) := HR.out.1.below (Go.Proofs.YtjcbpejplnaakaaGreat.Nm.below_drewN _ nq)
      generalize wr.drewN nq = wq at *
      clear c2
      have c2 : wq.cell? ⟨g, 2, none⟩ = some (.slice ba 0 ca) := HQ.out.cell 2
      go_wp2
      go_end0
      obtain ⟨rfl, rfl, rfl, rfl⟩ := FsR.inv0 HR.out.2.2
      exact ⟨rfl, _, M, HQ.out, agn_nil M, HR.out.2.1⟩
    · obtain ⟨lq, z, nv, rfl⟩ := snocP hqe
      clear hqe
      have hmem : (z, nv) ∈ lq ++ [(z, nv)] := by simp
      have HR : Hid (Rc w0 wr g m kd c F ⟨va, vb, vg, vh, vo⟩ ⟨fs lq ++ [z], fs rs, ks, H, M, n, p, o⟩) := by rw [← fs_app lq z nv]; exact hr
      have HI : Hid (FsR c ks (lq ++ [(z, nv)]) rs o a b cc d ∧ AgN M (lq ++ [(z, nv)]) ∧ AgN M rs ∧ S3k c (lq ++ [(z, nv)]) rs ks ∧ gk = (lq ++ [(z, nv)]).length ∧ o.length + (lq ++ [(z, nv)]).length ≤ O.length + ps.length ∧ (∀ q ∈ lq ++ [(z, nv)], q.1 < 18446744073709551616) ∧ (∀ q ∈ rs, q.1 < 18446744073709551616)) := ⟨hfs, haq, har, hok, hgk, hol, hlt, hlr⟩
      have HL : Hid ((fs lq ++ [z]).length + (fs rs).length + ks.length + H.length + o.length ≤ 90000000) := by
        show (fs lq ++ [z]).length + (fs rs).length + ks.length + H.length + o.length ≤ 90000000
        have h1 := HB.out
        have h2 := HM.out
        have h3 := hok.main
        have h4 := hok.gone
        have h5 : (fs lq ++ [z]).length = (lq ++ [(z, nv)]).length := by simp [fs]
        have h6 : (fs rs).length = rs.length := List.length_map ..
        omega
      have HZ : Hid (M z = some nv ∧ z < 18446744073709551616 ∧ n < maxLen) := ⟨haq _ hmem, hlt _ hmem, HB.out.2.2.2.2⟩
      have hn3 : nv ≤ 3 := hok.hs _ hmem
      clear hr hfs haq har hok hgk hol hlt hlr hmem
      obtain ⟨b1, k1, ev, hce⟩ := HR.out.ra.end_
      have ev : va = .slice (some ⟨b1, 0, none⟩) ((fs lq).length + 1) k1 := ev
      subst ev
      have hj : ((fs lq).length : Int) ≤ 90000000 := by have := HL.out; simp only [List.length_append, List.length_cons, List.length_nil] at this; omega
      have c2 : wr.cell? ⟨g, 2, none⟩ = some (.slice (some ⟨b1, 0, none⟩) ((fs lq).length + 1) k1) := HR.out.cell 2
      generalize hjj : (fs lq).length = j1 at *
      obtain ⟨n1, hn1⟩ : ∃ n1 : Nat, n1 = j1 + 1 := ⟨_, rfl⟩
      rw [← hn1] at HR c2
      have hw1 : IntKind.i64.wrap ((n1 : Int) - 1) = (j1 : Int) := by rw [IntKind.wrap_i64]; omega
      have hi1 : (j1 : Int) < (n1 : Int) := by omega
      have hi0 : (0 : Int) < (n1 : Int) := by omega
      have hi2 : decide (0 < n1) = true := decide_eq_true (by omega)
      clear hn1 hjj
      have c6 : wr.cell? ⟨g, 6, none⟩ = some (.map (some m)) := HR.out.cell 6
      have hlk : ∀ d, (Instr.lookup 57 (.map (some m)) (U z) false).run Tryz.prog (wr.drewN d) = .ok (I (nv : Nat)) (wr.drewN d) := fun d => look_is (HR.out.below (Go.Proofs.YtjcbpejplnaakaaGreat.Nm.below_drewN _ d)).bk HZ.out.2.1 HZ.out.1
      rcases nv_cases hn3 with hv | hv
      · have HV : Hid (nv ≤ 1) := hv
        have hk0 : ¬ ((1 : Int) < (nv : Int)) := by omega
        have hk1 : decide (1 < nv) = false := decide_eq_false (by omega)
        go_wp2_with fail
        go_quiet (fail)
        have HQ : Hid (Rc w0 (wr.drewN nq) g m kd c F ⟨.slice (some ⟨b1, 0, none⟩) n1 k1, vb, vg, vh, vo⟩ ⟨fs lq ++ [z], fs rs, ks, H, M, n, p, o⟩) := HR.out.below (Go.Proofs.YtjcbpejplnaakaaGreat.Nm.below_drewN _ nq)
        generalize wr.drewN nq = wq at *
        clear c2 c6 hlk hce HR hw1 hi1 hj hk0 hk1
        have HEQ : Hid (a = lq ∧ b = rs ∧ cc = z :: (if ks.length = mMost c then ks.dropLast else ks) ∧ d = o ++ [z]) := FsR.invO HI.out.1 HV.out
        obtain ⟨bg, cg, eg⟩ := HQ.out.rg.form
        obtain ⟨ng, hng⟩ : ∃ q : Nat, q = ks.length := ⟨_, rfl⟩
        have eh : vg = .slice bg ng cg := by rw [hng]; exact eg
        clear eg
        subst eh
        have d2 : wq.cell? ⟨g, 2, none⟩ = some (.slice (some ⟨b1, 0, none⟩) n1 k1) := HQ.out.cell 2
        have d4 : wq.cell? ⟨g, 4, none⟩ = some (.slice bg ng cg) := HQ.out.cell 4
        by_cases hkm : ks.length = mMost c
        · obtain ⟨lk, y, hky⟩ := snocN (l := ks) (by rintro rfl; have := HM.out.1; simp at hkm; omega)
          have hge : ((ng : Int) == (mm : Int)) = true := by have := HMM.out; rw [beq_iff_eq]; omega
          have HKE : Hid (z :: (if ks.length = mMost c then ks.dropLast else ks) = z :: lk ∧ ks = lk ++ [y]) := ⟨by rw [if_pos hkm, hky, List.dropLast_concat], hky⟩
          clear hkm hky hng
          go_upto_region 10 with fail
          clear d2 d4 hge hi0 hi2
          have HG : Hid (Rc w0 wq g m kd c F ⟨.slice (some ⟨b1, 0, none⟩) n1 k1, vb, .slice bg ng cg, vh, vo⟩ ⟨(fs lq ++ [z]), (fs rs), (lk ++ [y]), H, M, n, p, o⟩) := by rw [← HKE.out.2]; exact HQ.out
          clear HQ
          have c21 : wq.cell? ⟨g, 4, none⟩ = some (.slice bg ng cg) := HG.out.cell 4
          go_wp2_with fail
          refine (last_any (l := lk) (x := y) HG.out.rg.1 (by have hl := HL.out; have hk := congrArg List.length HKE.out.2; (try simp only [List.length_append, List.length_cons, List.length_nil] at hk); (try simp only [List.length_append, List.length_cons, List.length_nil] at hl ⊢); omega)).mono ?_
          rintro _ w21 ⟨u, rfl, ho21, hb21⟩
          obtain ⟨b21, n21, k21, rfl⟩ := own_any ho21
          clear c21
          have h21 := HG.out.below hb21
          have e21 : w21.cell? ⟨g, 4, none⟩ = some (.slice bg ng cg) := h21.cell 4
          have f21 : w21.frozen? ⟨g, 4, none⟩ = false := h21.nf 4
          have H21 : Hid (Rc w0 (w21.setCell ⟨g, 4, none⟩ (.slice b21 n21 k21)) g m kd c F ⟨.slice (some ⟨b1, 0, none⟩) n1 k1, vb, .slice b21 n21 k21, vh, vo⟩ ⟨(fs lq ++ [z]), (fs rs), lk, H, M, n, p, o⟩) := HG.out.setG hb21 ho21
          clear h21 hb21 ho21 HG
          go_upto_region 12 with fail
          generalize w21.setCell ⟨g, 4, none⟩ (.slice b21 n21 k21) = v21 at *
          clear e21 f21
          go_wp2_with fail
          refine (evA_any (l := (fs lq)) (x := z) H21.out rfl (by have hl := HL.out; have hk := congrArg List.length HKE.out.2; (try simp only [List.length_append, List.length_cons, List.length_nil] at hk); (try simp only [List.length_append, List.length_cons, List.length_nil] at hl ⊢); omega) (by have hl := HL.out; have hk := congrArg List.length HKE.out.2; (try simp only [List.length_append, List.length_cons, List.length_nil] at hk); (try simp only [List.length_append, List.length_cons, List.length_nil] at hl ⊢); omega)).mono ?_
          rintro _ w22 ⟨rfl, ⟨p22, q22, r22, t22, u22⟩, h22⟩
          have H22 : Hid (Rc w0 w22 g m kd c F ⟨p22, q22, r22, t22, u22⟩ ⟨(fs lq), (fs rs), lk, H, M, n, p, (o ++ [z])⟩) := h22
          clear h22 H21
          have c23 : w22.cell? ⟨g, 4, none⟩ = some r22 := H22.out.cell 4
          go_wp2_with fail
          refine (ahead_any (x := z) H22.out.rg.rl (by have hl := HL.out; have hk := congrArg List.length HKE.out.2; (try simp only [List.length_append, List.length_cons, List.length_nil] at hk); (try simp only [List.length_append, List.length_cons, List.length_nil] at hl ⊢); omega)).mono ?_
          rintro _ w23 ⟨u, rfl, ho23, hb23⟩
          obtain ⟨b23, n23, k23, rfl⟩ := own_any ho23
          clear c23
          have h23 := H22.out.below hb23
          have e23 : w23.cell? ⟨g, 4, none⟩ = some r22 := h23.cell 4
          have f23 : w23.frozen? ⟨g, 4, none⟩ = false := h23.nf 4
          have H23 : Hid (Rc w0 (w23.setCell ⟨g, 4, none⟩ (.slice b23 n23 k23)) g m kd c F ⟨p22, q22, .slice b23 n23 k23, t22, u22⟩ ⟨(fs lq), (fs rs), (z :: lk), H, M, n, p, (o ++ [z])⟩) := H22.out.setG hb23 ho23
          clear h23 hb23 ho23 H22
          go_wp2
          go_end0
          rw [HEQ.out.1, HEQ.out.2.1, HEQ.out.2.2.1, HEQ.out.2.2.2, HKE.out.1]
          exact ⟨rfl, _, M, H23.out, HI.out.2.1.front, HI.out.2.2.1⟩
        · have hge : ((ng : Int) == (mm : Int)) = false := by have := HMM.out; rw [beq_eq_false_iff_ne]; omega
          have HKE : Hid (z :: (if ks.length = mMost c then ks.dropLast else ks) = z :: ks) := by rw [if_neg hkm]; exact rfl
          clear hkm hng
          go_upto_region 12 with fail
          clear d2 d4 hge hi0 hi2
          go_wp2_with fail
          refine (evA_any (l := (fs lq)) (x := z) HQ.out rfl (by have hl := HL.out; (try simp only [List.length_append, List.length_cons, List.length_nil] at hl ⊢); omega) (by have hl := HL.out; (try simp only [List.length_append, List.length_cons, List.length_nil] at hl ⊢); omega)).mono ?_
          rintro _ w21 ⟨rfl, ⟨p21, q21, r21, t21, u21⟩, h21⟩
          have H21 : Hid (Rc w0 w21 g m kd c F ⟨p21, q21, r21, t21, u21⟩ ⟨(fs lq), (fs rs), ks, H, M, n, p, (o ++ [z])⟩) := h21
          clear h21 HQ
          have c22 : w21.cell? ⟨g, 4, none⟩ = some r21 := H21.out.cell 4
          go_wp2_with fail
          refine (ahead_any (x := z) H21.out.rg.rl (by have hl := HL.out; (try simp only [List.length_append, List.length_cons, List.length_nil] at hl ⊢); omega)).mono ?_
          rintro _ w22 ⟨u, rfl, ho22, hb22⟩
          obtain ⟨b22, n22, k22, rfl⟩ := own_any ho22
          clear c22
          have h22 := H21.out.below hb22
          have e22 : w22.cell? ⟨g, 4, none⟩ = some r21 := h22.cell 4
          have f22 : w22.frozen? ⟨g, 4, none⟩ = false := h22.nf 4
          have H22 : Hid (Rc w0 (w22.setCell ⟨g, 4, none⟩ (.slice b22 n22 k22)) g m kd c F ⟨p21, q21, .slice b22 n22 k22, t21, u21⟩ ⟨(fs lq), (fs rs), (z :: ks), H, M, n, p, (o ++ [z])⟩) := H21.out.setG hb22 ho22
          clear h22 hb22 ho22 H21
          go_wp2
          go_end0
          rw [HEQ.out.1, HEQ.out.2.1, HEQ.out.2.2.1, HEQ.out.2.2.2, HKE.out]
          exact ⟨rfl, _, M, H22.out, HI.out.2.1.front, HI.out.2.2.1⟩
      · have HV : Hid (1 < nv) := hv
        have hk0 : (1 : Int) < (nv : Int) := by omega
        have hk1 : decide (1 < nv) = true := decide_eq_true (by omega)
        go_wp2_with fail
        go_quiet (fail)
        have HQ : Hid (Rc w0 (wr.drewN nq) g m kd c F ⟨.slice (some ⟨b1, 0, none⟩) n1 k1, vb, vg, vh, vo⟩ ⟨fs lq ++ [z], fs rs, ks, H, M, n, p, o⟩) := HR.out.below (Go.Proofs.YtjcbpejplnaakaaGreat.Nm.below_drewN _ nq)
        generalize wr.drewN nq = wq at *
        clear c2 c6 hlk hce HR hw1 hi1 hj hk0 hk1
        clear hi0 hi2
        obtain ⟨bb, cb, eb⟩ := HQ.out.rb.form
        obtain ⟨nb, hnb⟩ : ∃ q : Nat, q = (fs rs).length := ⟨_, rfl⟩
        have eh : vb = .slice bb nb cb := by rw [hnb]; exact eb
        clear eb
        subst eh
        have hrl : (fs rs).length = rs.length := List.length_map ..
        have d3 : wq.cell? ⟨g, 3, none⟩ = some (.slice bb nb cb) := HQ.out.cell 3
        rcases FsR.invM HI.out.1 HV.out with ⟨hm1, hf1⟩ | ⟨hm1, q, y, hro, hf1⟩
        · have hge : ((nb : Int) == (mm : Int)) = false := by have := HMM.out; rw [beq_eq_false_iff_ne]; omega
          have HF1 : Hid (FsR c ks lq ((z, 0) :: rs) o a b cc d ∧ rs.length ≠ mMost c) := ⟨hf1, hm1⟩
          clear hf1 hm1 hrl hnb
          go_upto_region 4 with fail
          clear d3 hge
          have c21 : wq.cell? ⟨g, 2, none⟩ = some (.slice (some ⟨b1, 0, none⟩) n1 k1) := HQ.out.cell 2
          go_wp2_with fail
          refine (last_any (l := (fs lq)) (x := z) HQ.out.ra.1 (by have hl := HL.out; (try simp only [List.length_append, List.length_cons, List.length_nil] at hl ⊢); omega)).mono ?_
          rintro _ w21 ⟨u, rfl, ho21, hb21⟩
          obtain ⟨b21, n21, k21, rfl⟩ := own_any ho21
          clear c21
          have h21 := HQ.out.below hb21
          have e21 : w21.cell? ⟨g, 2, none⟩ = some (.slice (some ⟨b1, 0, none⟩) n1 k1) := h21.cell 2
          have f21 : w21.frozen? ⟨g, 2, none⟩ = false := h21.nf 2
          have H21 : Hid (Rc w0 (w21.setCell ⟨g, 2, none⟩ (.slice b21 n21 k21)) g m kd c F ⟨.slice b21 n21 k21, .slice bb nb cb, vg, vh, vo⟩ ⟨(fs lq), (fs rs), ks, H, M, n, p, o⟩) := HQ.out.setA hb21 ho21
          clear h21 hb21 ho21 HQ
          go_upto_region 6 with fail
          generalize w21.setCell ⟨g, 2, none⟩ (.slice b21 n21 k21) = v21 at *
          clear e21 f21
          have c22 : v21.cell? ⟨g, 6, none⟩ = some ((.map (some m))) := H21.out.cell 6
          obtain ⟨w22, hu22, hk22, hg22⟩ := H21.out.bk.put (k := z) HZ.out.2.1 HZ.out.2.2 0
          have H22 : Hid (Rc w0 w22 g m kd c F ⟨.slice b21 n21 k21, .slice bb nb cb, vg, vh, vo⟩ ⟨(fs lq), (fs rs), ks, H, (nset M z 0), (ncnt M n z), p, o⟩) := H21.out.num (v := 0) hk22 hg22
          clear hk22 hg22 H21
          go_upto_region 7 with fail
          clear hu22 c22
          have c23 : w22.cell? ⟨g, 3, none⟩ = some (.slice bb nb cb) := H22.out.cell 3
          go_wp2_with fail
          refine (ahead_any (x := z) H22.out.rb.rl (by have hl := HL.out; (try simp only [List.length_append, List.length_cons, List.length_nil] at hl ⊢); omega)).mono ?_
          rintro _ w23 ⟨u, rfl, ho23, hb23⟩
          obtain ⟨b23, n23, k23, rfl⟩ := own_any ho23
          clear c23
          have h23 := H22.out.below hb23
          have e23 : w23.cell? ⟨g, 3, none⟩ = some (.slice bb nb cb) := h23.cell 3
          have f23 : w23.frozen? ⟨g, 3, none⟩ = false := h23.nf 3
          have H23 : Hid (Rc w0 (w23.setCell ⟨g, 3, none⟩ (.slice b23 n23 k23)) g m kd c F ⟨.slice b21 n21 k21, .slice b23 n23 k23, vg, vh, vo⟩ ⟨(fs lq), (z :: (fs rs)), ks, H, (nset M z 0), (ncnt M n z), p, o⟩) := H22.out.setB hb23 ho23
          clear h23 hb23 ho23 H22
          go_wp2_with fail
          go_roundg lq.length
          case measure => have h1 := HI.out.2.2.2.2.1; simp at h1; omega
          case rel =>
            obtain ⟨hS, hzr⟩ := S3k.mv HI.out.2.2.2.1 HF1.out.2
            have hMz := HZ.out.1
            have hAl := HI.out.2.1.front
            have hAr := HI.out.2.2.1
            have hUr := HI.out.2.2.2.2.2.2.2
            have hzl : z ∉ fs lq := by
              have := HI.out.2.2.2.1.nd z
              rw [fs_snoc, one_same] at this
              exact ct_no (by omega)
            have hoo : o.length + lq.length ≤ O.length + ps.length := by have := HI.out.2.2.2.2.2.1; simp at this; omega
            have hcn : ncnt M n z = n := by unfold ncnt; rw [hMz]; rfl
            have hfin := H23.out
            rw [hcn] at hfin
            refine ⟨lq, (z, 0) :: rs, o, nset M z 0, _, hfin, HF1.out.1, hAl.other hzl, hAr.cons hzr, hS, rfl, hoo, fun q hq => HI.out.2.2.2.2.2.2.1 q (by simp [hq]), fun q hq => ?_⟩
            rcases List.mem_cons.1 hq with e | e
            · rw [e]; exact HZ.out.2.1
            · exact hUr q e
        · have hge : ((nb : Int) == (mm : Int)) = true := by have := HMM.out; rw [beq_iff_eq]; omega
          have HF1 : Hid (FsR c ks lq ((z, 0) :: q) (o ++ [y]) a b cc d ∧ rs.length = mMost c ∧ RotI rs (q ++ [(y, 0)])) := ⟨hf1, hm1, hro⟩
          clear hf1 hm1 hrl hnb hro
          go_upto_region 3 with fail
          clear d3 hge
          have HG : Hid (Rc w0 wq g m kd c F ⟨.slice (some ⟨b1, 0, none⟩) n1 k1, .slice bb nb cb, vg, vh, vo⟩ ⟨fs (lq ++ [(z, nv)]), fs rs, ks, H, M, n, p, o⟩) := by rw [fs_app]; exact HQ.out
          clear HQ
          go_wp2_with fail
          refine (fmr_any HG.out (by have hl := HL.out; rw [fs_app]; omega) HZ.out.2.2 ⟨HI.out.2.1, HI.out.2.2.1⟩ (fun a => by have := HI.out.2.2.2.1.nd a; omega) HI.out.2.2.2.1.hm HI.out.2.2.2.2.2.2.2 HF1.out.2.2).mono ?_
          rintro _ w2 ⟨rfl, ⟨p2, q2, r2, t2, u2⟩, M2, h2, hA2, hB2⟩
          have HQ : Hid (Rc w0 w2 g m kd c F ⟨p2, q2, r2, t2, u2⟩ ⟨fs lq ++ [z], fs q, ks, H, M2, n, p, o ++ [y]⟩ ∧ AgN M2 (lq ++ [(z, nv)]) ∧ AgN M2 q) := ⟨by rw [← fs_app lq z nv]; exact h2, hA2, hB2⟩
          have HQ2 : Hid (Rc w0 w2 g m kd c F ⟨p2, q2, r2, t2, u2⟩ ⟨fs lq ++ [z], fs q, ks, H, M2, n, p, o ++ [y]⟩) := HQ.out.1
          clear h2 hA2 hB2 HG
          have c11 : w2.cell? ⟨g, 2, none⟩ = some p2 := HQ2.out.cell 2
          go_wp2_with fail
          refine (last_any (l := (fs lq)) (x := z) HQ2.out.ra.1 (by have hl := HL.out; have hr := (S3k.mf HI.out.2.2.2.1 HF1.out.2.2).2; have hq1 : (fs q).length = q.length := List.length_map ..; have hq2 : (fs rs).length = rs.length := List.length_map ..; (try simp only [List.length_append, List.length_cons, List.length_nil] at hl ⊢); omega)).mono ?_
          rintro _ w11 ⟨u, rfl, ho11, hb11⟩
          obtain ⟨b11, n11, k11, rfl⟩ := own_any ho11
          clear c11
          have h11 := HQ2.out.below hb11
          have e11 : w11.cell? ⟨g, 2, none⟩ = some p2 := h11.cell 2
          have f11 : w11.frozen? ⟨g, 2, none⟩ = false := h11.nf 2
          have H11 : Hid (Rc w0 (w11.setCell ⟨g, 2, none⟩ (.slice b11 n11 k11)) g m kd c F ⟨.slice b11 n11 k11, q2, r2, t2, u2⟩ ⟨(fs lq), (fs q), ks, H, M2, n, p, (o ++ [y])⟩) := HQ2.out.setA hb11 ho11
          clear h11 hb11 ho11 HQ2
          go_upto_region 6 with fail
          generalize w11.setCell ⟨g, 2, none⟩ (.slice b11 n11 k11) = v11 at *
          clear e11 f11
          have c12 : v11.cell? ⟨g, 6, none⟩ = some ((.map (some m))) := H11.out.cell 6
          obtain ⟨w12, hu12, hk12, hg12⟩ := H11.out.bk.put (k := z) HZ.out.2.1 HZ.out.2.2 0
          have H12 : Hid (Rc w0 w12 g m kd c F ⟨.slice b11 n11 k11, q2, r2, t2, u2⟩ ⟨(fs lq), (fs q), ks, H, (nset M2 z 0), (ncnt M2 n z), p, (o ++ [y])⟩) := H11.out.num (v := 0) hk12 hg12
          clear hk12 hg12 H11
          go_upto_region 7 with fail
          clear hu12 c12
          have c13 : w12.cell? ⟨g, 3, none⟩ = some q2 := H12.out.cell 3
          go_wp2_with fail
          refine (ahead_any (x := z) H12.out.rb.rl (by have hl := HL.out; have hr := (S3k.mf HI.out.2.2.2.1 HF1.out.2.2).2; have hq1 : (fs q).length = q.length := List.length_map ..; have hq2 : (fs rs).length = rs.length := List.length_map ..; (try simp only [List.length_append, List.length_cons, List.length_nil] at hl ⊢); omega)).mono ?_
          rintro _ w13 ⟨u, rfl, ho13, hb13⟩
          obtain ⟨b13, n13, k13, rfl⟩ := own_any ho13
          clear c13
          have h13 := H12.out.below hb13
          have e13 : w13.cell? ⟨g, 3, none⟩ = some q2 := h13.cell 3
          have f13 : w13.frozen? ⟨g, 3, none⟩ = false := h13.nf 3
          have H13 : Hid (Rc w0 (w13.setCell ⟨g, 3, none⟩ (.slice b13 n13 k13)) g m kd c F ⟨.slice b11 n11 k11, .slice b13 n13 k13, r2, t2, u2⟩ ⟨(fs lq), (z :: (fs q)), ks, H, (nset M2 z 0), (ncnt M2 n z), p, (o ++ [y])⟩) := H12.out.setB hb13 ho13
          clear h13 hb13 ho13 H12
          go_wp2_with fail
          go_roundg lq.length
          case measure => have h1 := HI.out.2.2.2.2.1; simp at h1; omega
          case rel =>
            obtain ⟨hS1, hS2⟩ := S3k.mf HI.out.2.2.2.1 HF1.out.2.2
            obtain ⟨hS, hzr⟩ := S3k.mv hS1 (by have := HF1.out.2.1; omega)
            have hMz : M2 z = some nv := HQ.out.2.1 (z, nv) (by simp)
            have hAl := HQ.out.2.1.front
            have hAr := HQ.out.2.2
            have hUr : ∀ r ∈ q, r.1 < 18446744073709551616 := fun r hr => by
              have h1 := HF1.out.2.2.cts.1 r.1
              have h2 : r.1 ∈ fs (q ++ [(y, 0)]) := List.mem_map.2 ⟨r, by simp [hr], rfl⟩
              have h3 := ct_pos h2
              rw [h1] at h3
              obtain ⟨t, ht, e⟩ := List.mem_map.1 (ct_mem h3)
              rw [← e]
              exact HI.out.2.2.2.2.2.2.2 t ht
            have hzl : z ∉ fs lq := by
              have := HI.out.2.2.2.1.nd z
              rw [fs_snoc, one_same] at this
              exact ct_no (by omega)
            have hoo : (o ++ [y]).length + lq.length ≤ O.length + ps.length := by have := HI.out.2.2.2.2.2.1; simp at this ⊢; omega
            have hcn : ncnt M2 n z = n := by unfold ncnt; rw [hMz]; rfl
            have hfin := H13.out
            rw [hcn] at hfin
            refine ⟨lq, (z, 0) :: q, (o ++ [y]), nset M2 z 0, _, hfin, HF1.out.1, hAl.other hzl, hAr.cons hzr, hS, rfl, hoo, fun q hq => HI.out.2.2.2.2.2.2.1 q (by simp [hq]), fun q hq => ?_⟩
            rcases List.mem_cons.1 hq with e | e
            · rw [e]; exact HZ.out.2.1
            · exact hUr q e
end
end Go.Proofs.YtjcbpejplnaakaaGreat.Mr

set_option linter.unusedSimpArgs false
namespace Go.Proofs.YtjcbpejplnaakaaGreat.Mr
open Go.RowKit Go.Maps Go.Proofs.YtjcbpejplnaakaaGreat.Nm Go.Proofs.YtjcbpejplnaakaaGreat.Md

abbrev Qd := List (Nat × Nat) × List (Nat × Nat) × List Nat × List Nat
/-- one turn of a miss -/
def T3 (size : Nat) (s t : Qd) : Prop := (s.1.length + s.2.1.length = size ∧ RcR size s.2.2.1 s.1 s.2.1 s.2.2.2 t.1 t.2.1 t.2.2.1 t.2.2.2) ∨ (s.1.length + s.2.1.length ≠ size ∧ t = s)
def Rm (size : Nat) (f : Qd) : Nat → Qd → Prop
  | 0, s => s = f
  | k + 1, s => ∃ t, T3 size s t ∧ Rm size f k t
section
variable {w0 w w' w1 w4 : World} {g m kd c x y z size : Nat} {V : Vs} {F : List Nat} {l A B G H O X ks cc d c' d' : List Nat} {N : Nat → Option Nat} {n p : Nat} {v : Value} {s : St} {ps pm qq a b a' b' : List (Nat × Nat)}
theorem Lp3.last_ {i : Nat} (h : Lp3 size ps pm ks (i + 1) a b cc d) : ∃ s : Qd, Lp3 size ps pm ks i s.1 s.2.1 s.2.2.1 s.2.2.2 ∧ T3 size s (a, b, cc, d) := by
  cases h with
  | f i a0 b0 a1 b1 c0 d0 c1 d1 h1 h2 h3 => exact ⟨(a0, b0, c0, d0), h1, Or.inl ⟨h2, h3⟩⟩
  | n i a0 b0 c0 d0 h1 h2 => exact ⟨(a, b, cc, d), h1, Or.inr ⟨h2, rfl⟩⟩
theorem Lp3.zero_ (h : Lp3 size ps pm ks 0 a b cc d) : a = ps ∧ b = pm ∧ cc = ks ∧ d = [] := by
  cases h with
  | z => exact ⟨rfl, rfl, rfl, rfl⟩
theorem Lp3.two_ (h : Lp3 size ps pm ks 2 a b cc d) : Rm size (a, b, cc, d) 2 (ps, pm, ks, []) := by
  obtain ⟨s1, h1, t1⟩ := Lp3.last_ h
  obtain ⟨s0, h0, t0⟩ := Lp3.last_ h1
  obtain ⟨e1, e2, e3, e4⟩ := Lp3.zero_ h0
  obtain ⟨p0, p1, p2, p3⟩ := s0
  simp only at e1 e2 e3 e4
  subst e1 e2 e3 e4
  exact ⟨s1, t0, (a, b, cc, d), t1, rfl⟩
theorem nodup_ct {l : List Nat} (h : ∀ a, ct a l ≤ 1) : l.Nodup := List.nodup_iff_count.2 h
theorem mem_fs {l : List (Nat × Nat)} {q : Nat × Nat} (h : q ∈ l) : q.1 ∈ fs l := List.mem_map.2 ⟨q, h, rfl⟩
/-- keys that were of the rows are below the bound -/
theorem Kp3.lt (h : Kp3 size ps pm O a b cc d) (hp : ∀ q ∈ ps, q.1 < 18446744073709551616) (hm : ∀ q ∈ pm, q.1 < 18446744073709551616) (hO : ∀ q ∈ O, q < 18446744073709551616) : (∀ q ∈ a, q.1 < 18446744073709551616) ∧ (∀ q ∈ b, q.1 < 18446744073709551616) ∧ ∀ q ∈ d, q < 18446744073709551616 := by
  obtain ⟨_, h2, _⟩ := h
  have key : ∀ z, 0 < ct z (fs a) + ct z (fs b) + ct z d → z < 18446744073709551616 := fun z hz => by
    rw [h2 z] at hz
    by_cases e1 : 0 < ct z (fs ps)
    · obtain ⟨t, ht, e⟩ := List.mem_map.1 (ct_mem e1)
      rw [← e]; exact hp t ht
    · by_cases e2 : 0 < ct z (fs pm)
      · obtain ⟨t, ht, e⟩ := List.mem_map.1 (ct_mem e2)
        rw [← e]; exact hm t ht
      · exact hO z (ct_mem (by omega))
  exact ⟨fun q hq => key q.1 (by have := ct_pos (mem_fs hq); omega), fun q hq => key q.1 (by have := ct_pos (mem_fs hq); omega), fun q hq => key q (by have := ct_pos hq; omega)⟩
theorem wo_er {l : List Nat} (h : l.Nodup) : wo l x = l.erase x := by
  unfold wo
  rw [List.Nodup.erase_eq_filter h]
theorem S3k.mf2 (h : RotI pm (qq ++ [(y, 0)])) : qq.length + 1 = pm.length := by
  have := h.cts.2.1
  simp at this
  exact this
/-- an S3-FIFO of the reference at work -/
structure Sx (w0 w : World) (g m kd c : Nat) (F : List Nat) (V : Vs) (H : List Nat) (M : Nat → Option Nat) (n p tot : Nat) (x : Nat) (s : Qd) : Prop where
  rc : Rc w0 w g m kd c F V ⟨fs s.1, fs s.2.1, s.2.2.1, H, M, n, p, s.2.2.2⟩
  a1 : AgN M s.1
  a2 : AgN M s.2.1
  ok : S3k c s.1 s.2.1 s.2.2.1
  le : s.1.length + s.2.1.length ≤ c
  tot : s.1.length + s.2.1.length + s.2.2.2.length = tot
  u1 : ∀ q ∈ s.1, q.1 < 18446744073709551616
  u2 : ∀ q ∈ s.2.1, q.1 < 18446744073709551616
  u3 : ∀ q ∈ s.2.2.2, q < 18446744073709551616
  no : ct x (fs s.1) + ct x (fs s.2.1) + ct x s.2.2.2 = 0
theorem Sx.below {H : List Nat} {M : Nat → Option Nat} {tot : Nat} {s : Qd} (h : Sx w0 w g m kd c F V H M n p tot x s) (hb : Below w.heap.size w w') : Sx w0 w' g m kd c F V H M n p tot x s := ⟨h.rc.below hb, h.a1, h.a2, h.ok, h.le, h.tot, h.u1, h.u2, h.u3, h.no⟩
theorem FsR.grow {out : List Nat} (h : FsR size ks ps pm out a b cc d) : out.length ≤ d.length := by
  induction h with
  | none => exact Nat.le_refl _
  | out l pm out x n _ => simp
  | mv l pm out x n a b c d _ _ _ ih => exact ih
  | mf l pm q out x n y a b c d _ _ _ _ ih => simp at ih; omega
theorem Sx.next {H : List Nat} {M M' : Nat → Option Nat} {tot : Nat} {s t : Qd} {V' : Vs} (h : Sx w0 w g m kd c F V H M n p tot x s) (hz : 10 ≤ c) (hr : RcR c s.2.2.1 s.1 s.2.1 s.2.2.2 t.1 t.2.1 t.2.2.1 t.2.2.2) (h1 : Rc w0 w' g m kd c F V' ⟨fs t.1, fs t.2.1, t.2.2.1, H, M', n, p, t.2.2.2⟩) (h2 : AgN M' t.1) (h3 : AgN M' t.2.1) : Sx w0 w' g m kd c F V' H M' n p tot x t := by
  have hk := (hr.keep hz h.ok).1
  obtain ⟨l1, l2, l3⟩ := Kp3.lt hk h.u1 h.u2 h.u3
  obtain ⟨k1, k2, k3⟩ := hk
  have e1 := h.tot
  have e2 := h.le
  have e3 := h.no
  have e4 := k2 x
  have e5 : s.2.2.2.length ≤ t.2.2.2.length := by
    rcases hr with ⟨_, q⟩ | ⟨_, _, _, y, _, q⟩
    · exact FsR.grow q
    · rw [q]; simp
  exact ⟨h1, h2, h3, k1, by omega, by omega, l1, l2, l3, by omega⟩
set_option maxHeartbeats 12800000 in
set_option maxRecDepth 100000 in
theorem s3r_any (h : Rc w0 w g m kd c F V ⟨fs ps, fs pm, ks, H, N, n, p, []⟩) (hz : 10 ≤ c ∧ c ≤ 1048576) (ok : S3k c ps pm ks) (hl : ps.length + pm.length ≤ c ∧ H.length ≤ 1048576) (hn : n < maxLen) (ha : AgN N ps ∧ AgN N pm) (hU : (∀ q ∈ ps, q.1 < 18446744073709551616) ∧ ∀ q ∈ pm, q.1 < 18446744073709551616) (hx : x < 18446744073709551616) (h1 : x ∉ fs ps) (h2 : x ∉ fs pm) (hL : Lp3 c ps pm ks 2 a b cc d) (hA : AdR c x cc a b d a' b' c' d') : Calls Tryz.prog 24 #[.pointer (some ⟨g, 0, none⟩), U x] w fun e w' => e = .returned (.tuple #[]) ∧ ∃ V' M n', n' ≤ n + 1 ∧ Rc w0 w' g m kd c F V' ⟨fs a', fs b', c', H, M, n', p, d'⟩ ∧ AgN M a' ∧ AgN M b' := by
  have HS : Hid (Sx w0 w g m kd c F V H N n p (ps.length + pm.length) x (ps, pm, ks, []) ∧ Rm c (a, b, cc, d) 2 (ps, pm, ks, [])) := ⟨⟨h, ha.1, ha.2, ok, hl.1, rfl, hU.1, hU.2, fun q hq => by simp at hq, by have e1 := ct_zero h1; have e2 := ct_zero h2; show ct x (fs ps) + ct x (fs pm) + ct x [] = 0; rw [e1, e2]; rfl⟩, Lp3.two_ hL⟩
  have HB : Hid ((10 ≤ c ∧ c ≤ 1048576) ∧ ps.length + pm.length ≤ c ∧ H.length ≤ 1048576 ∧ n < maxLen ∧ x < 18446744073709551616 ∧ a.length + b.length < c) := ⟨hz, hl.1, hl.2, hn, hx, (Lp3.keep hL hz.1 ok hl.1).2.2 (by omega)⟩
  have HA : Hid (AdR c x cc a b d a' b' c' d') := hA
  have hc : (c : Int) ≤ 1048576 := by omega
  clear h hz ok hl hn ha hU hx h1 h2 hL hA
  go_enter Tryz.func24, Tryz.ntmps24
  go_wp2_with fail
  go_loopg [4] 2 (fun gq yv wr => ∃ (i : Nat) (s : Qd) (M : Nat → Option Nat) (V : Vs), i ≤ 2 ∧ gq = 2 - i ∧ yv = I i ∧ Sx w0 wr g m kd c F V H M n p (ps.length + pm.length) x s ∧ Rm c (a, b, cc, d) (2 - i) s)
  case atStart => exact ⟨0, _, N, _, by omega, rfl, rfl, HS.out.1, HS.out.2⟩
  case round =>
    clear HS
    obtain ⟨i, ⟨sa, sb, sc, sd⟩, M, ⟨va, vb, vg, vh, vo⟩, hi, hgk, rfl, hS, hRm⟩ := hrel
    by_cases hi2 : i < 2
    · have e2 : 2 - i = (1 - i) + 1 := by omega
      rw [e2] at hRm
      obtain ⟨⟨ta, tb, tc, td⟩, hT, hRm⟩ := hRm
      have hi3 : (i : Int) < 2 := by omega
      have HI : Hid (i < 2 ∧ gk = 2 - i ∧ 2 - (i + 1) = 1 - i ∧ Rm c (a, b, cc, d) (1 - i) (ta, tb, tc, td)) := ⟨hi2, hgk, by omega, hRm⟩
      clear hRm e2 hi2 hgk hi
      obtain ⟨ba, na, ca, bb, nb, cb, bg, ng, cg, bh, nh, ch, vo2, hV, e1, e2, e3, e4⟩ := hS.rc.forms2
      injection hV with v1 v2 v3 v4 v5
      subst v1 v2 v3 v4 v5
      have e1 : na = sa.length := e1.trans (List.length_map ..)
      have HR : Hid (Sx w0 wr g m kd c F ⟨.slice ba na ca, .slice bb nb cb, .slice bg ng cg, .slice bh nh ch, vo⟩ H M n p (ps.length + pm.length) x (sa, sb, sc, sd)) := hS
      have c1 : wr.cell? ⟨g, 1, none⟩ = some (I c) := hS.rc.cell 1
      have c2 : wr.cell? ⟨g, 2, none⟩ = some (.slice ba na ca) := hS.rc.cell 2
      have HLn : Hid ((fs sa).length = sa.length ∧ (fs sb).length = sb.length ∧ sa.length + sb.length ≤ c ∧ sd.length ≤ c ∧ sc.length ≤ c ∧ sb.length ≤ c) := by
        have q1 := hS.tot
        have q2 := hS.le
        have q3 := hS.ok.gone
        have q4 := HB.out.2.1
        simp only at q1 q2 q3
        unfold mMost at q3
        exact ⟨List.length_map .., List.length_map .., q2, by omega, by omega, by omega⟩
      have hHF : ∀ dd, Calls Tryz.prog 37 #[.pointer (some ⟨g, 0, none⟩)] (wr.drewN dd) fun e w' => e = .returned (.bool (decide ((fs sa).length + (fs sb).length = c))) ∧ ∃ k, w' = (wr.drewN dd).drewN k := fun dd => full_dr (hS.rc.below (Go.Proofs.YtjcbpejplnaakaaGreat.Nm.below_drewN _ dd)) (by show (fs sa).length + (fs sb).length ≤ 1000000000; have := HLn.out; have := HB.out; omega)
      obtain ⟨q0, hq0⟩ : ∃ q : Nat, q = c / 10 := ⟨_, rfl⟩
      have hw0 : IntKind.i64.wrap ((c : Int) / 10) = (q0 : Int) := by rw [IntKind.wrap_i64]; omega
      clear hS e2 e3 e4
      rcases hT with ⟨hf, hrc⟩ | ⟨hf, hte⟩
      · have hf : sa.length + sb.length = c := hf
        have hrc : RcR c sc sa sb sd ta tb tc td := hrc
        have hdf : decide ((fs sa).length + (fs sb).length = c) = true := decide_eq_true (by have := HLn.out; omega)
        rw [hdf] at hHF
        have HHF : Hid (∀ dd, Calls Tryz.prog 37 #[.pointer (some ⟨g, 0, none⟩)] (wr.drewN dd) fun e w' => e = .returned (.bool true) ∧ ∃ k, w' = (wr.drewN dd).drewN k) := hHF
        have HFl : Hid (sa.length + sb.length = c ∧ RcR c sc sa sb sd ta tb tc td) := ⟨hf, hrc⟩
        clear hHF hdf
        rcases hrc with ⟨hq, hfs⟩ | ⟨hq, ea, ec, yy, hro, ed⟩
        · have hg1 : (q0 : Int) ≤ (na : Int) := by omega
          have hg2 : decide (q0 ≤ na) = true := decide_eq_true (by omega)
          have HF2 : Hid (FsR c sc sa sb sd ta tb tc td) := hfs
          clear hf hq hfs hq0 e1
          go_wp2_with fail
          go_quiet ((go_at_call 37; exact Calls.quiet_of (HHF.out _)))
          have HQ : Hid (Sx w0 (wr.drewN nq) g m kd c F ⟨.slice ba na ca, .slice bb nb cb, .slice bg ng cg, .slice bh nh ch, vo⟩ H M n p (ps.length + pm.length) x (sa, sb, sc, sd)) := HR.out.below (Go.Proofs.YtjcbpejplnaakaaGreat.Nm.below_drewN _ nq)
          generalize wr.drewN nq = wq at *
          clear c1 c2 HHF hw0 HR
          go_wp2_with fail
          clear hg1 hg2
          refine (fsr_any HQ.out.rc HB.out.1 HQ.out.ok ⟨by have := HLn.out; have := HB.out; show sa.length ≤ 1048576; omega, by have := HLn.out; have := HB.out; show sd.length ≤ 2097152; omega, HB.out.2.2.1⟩ HB.out.2.2.2.1 ⟨HQ.out.a1, HQ.out.a2⟩ ⟨HQ.out.u1, HQ.out.u2⟩ HF2.out).mono ?_
          rintro _ w5 ⟨rfl, V5, M5, h5, h6, h7⟩
          have H5 : Hid (Sx w0 w5 g m kd c F V5 H M5 n p (ps.length + pm.length) x (ta, tb, tc, td)) := HQ.out.next (t := (ta, tb, tc, td)) HB.out.1.1 HFl.out.2 h5 h6 h7
          clear h5 h6 h7 HQ
          go_wp2_with fail
          go_roundg (2 - (i + 1))
          case measure => have h1 := HI.out.1; have := HI.out.2.1; omega
          case rel => exact ⟨i + 1, _, M5, _, HI.out.1, rfl, by go_num, H5.out, by rw [HI.out.2.2.1]; exact HI.out.2.2.2⟩
        · have hg1 : ¬ ((q0 : Int) ≤ (na : Int)) := by omega
          have hg2 : decide (q0 ≤ na) = false := decide_eq_false (by omega)
          have HF2 : Hid (RotI sb (tb ++ [(yy, 0)]) ∧ ta = sa ∧ tc = sc ∧ td = sd ++ [yy]) := ⟨hro, ea, ec, ed⟩
          clear hf hq hro ea ec ed hq0 e1
          go_wp2_with fail
          go_quiet ((go_at_call 37; exact Calls.quiet_of (HHF.out _)))
          have HQ : Hid (Sx w0 (wr.drewN nq) g m kd c F ⟨.slice ba na ca, .slice bb nb cb, .slice bg ng cg, .slice bh nh ch, vo⟩ H M n p (ps.length + pm.length) x (sa, sb, sc, sd)) := HR.out.below (Go.Proofs.YtjcbpejplnaakaaGreat.Nm.below_drewN _ nq)
          generalize wr.drewN nq = wq at *
          clear c1 c2 HHF hw0 HR
          go_wp2_with fail
          clear hg1 hg2
          refine (full_yes HQ.out.rc (by show (fs sa).length + (fs sb).length ≤ 1000000000; have := HLn.out; have := HB.out; omega) (by show (fs sa).length + (fs sb).length = c; have := HLn.out; have := HFl.out.1; omega)).mono ?_
          rintro _ w6 ⟨rfl, h6⟩
          have H6 : Hid (Rc w0 w6 g m kd c F ⟨.slice ba na ca, .slice bb nb cb, .slice bg ng cg, .slice bh nh ch, vo⟩ ⟨fs sa, fs sb, sc, H, M, n, p, sd⟩) := h6
          clear h6
          go_wp2_with fail
          refine (fmr_any H6.out (by have := HLn.out; have := HB.out; omega) HB.out.2.2.2.1 ⟨HQ.out.a1, HQ.out.a2⟩ (fun a => by have := HQ.out.ok.nd a; simp only at this; omega) HQ.out.ok.hm HQ.out.u2 HF2.out.1).mono ?_
          rintro _ w5 ⟨rfl, V5, M5, h5, h6, h7⟩
          have H5 : Hid (Sx w0 w5 g m kd c F V5 H M5 n p (ps.length + pm.length) x (ta, tb, tc, td)) := by
            refine HQ.out.next (t := (ta, tb, tc, td)) HB.out.1.1 HFl.out.2 ?_ ?_ h7
            · show Rc w0 w5 g m kd c F V5 ⟨fs ta, fs tb, tc, H, M5, n, p, td⟩
              rw [HF2.out.2.1, HF2.out.2.2.1, HF2.out.2.2.2]
              exact h5
            · show AgN M5 ta
              rw [HF2.out.2.1]
              exact h6
          clear h5 h6 h7 HQ H6
          go_wp2_with fail
          go_roundg (2 - (i + 1))
          case measure => have h1 := HI.out.1; have := HI.out.2.1; omega
          case rel => exact ⟨i + 1, _, M5, _, HI.out.1, rfl, by go_num, H5.out, by rw [HI.out.2.2.1]; exact HI.out.2.2.2⟩
      · have hf : sa.length + sb.length ≠ c := hf
        have hte : ta = sa ∧ tb = sb ∧ tc = sc ∧ td = sd := by simpa using hte
        obtain ⟨rfl, rfl, rfl, rfl⟩ := hte
        have hdf : decide ((fs ta).length + (fs tb).length = c) = false := decide_eq_false (by have := HLn.out; omega)
        rw [hdf] at hHF
        have HHF : Hid (∀ dd, Calls Tryz.prog 37 #[.pointer (some ⟨g, 0, none⟩)] (wr.drewN dd) fun e w' => e = .returned (.bool false) ∧ ∃ k, w' = (wr.drewN dd).drewN k) := hHF
        have HFl : Hid (ta.length + tb.length ≠ c) := hf
        clear hHF hdf hf hq0 e1
        go_wp2_with fail
        go_quiet ((go_at_call 37; exact Calls.quiet_of (HHF.out _)))
        have HQ : Hid (Sx w0 (wr.drewN nq) g m kd c F ⟨.slice ba na ca, .slice bb nb cb, .slice bg ng cg, .slice bh nh ch, vo⟩ H M n p (ps.length + pm.length) x (ta, tb, tc, td)) := HR.out.below (Go.Proofs.YtjcbpejplnaakaaGreat.Nm.below_drewN _ nq)
        generalize wr.drewN nq = wq at *
        clear c1 c2 HHF hw0 HR
        go_wp2_with fail
        refine (full_dr HQ.out.rc (by show (fs ta).length + (fs tb).length ≤ 1000000000; have := HLn.out; have := HB.out; omega)).mono ?_
        rw [show decide ((⟨fs ta, fs tb, tc, H, M, n, p, td⟩ : St).A.length + (⟨fs ta, fs tb, tc, H, M, n, p, td⟩ : St).B.length = c) = false from decide_eq_false (by show (fs ta).length + (fs tb).length ≠ c; have := HLn.out; have := HFl.out; omega)]
        rintro _ w6 ⟨rfl, dd, hw6⟩
        have H6 : Hid (Sx w0 w6 g m kd c F ⟨.slice ba na ca, .slice bb nb cb, .slice bg ng cg, .slice bh nh ch, vo⟩ H M n p (ps.length + pm.length) x (ta, tb, tc, td)) := by rw [hw6]; exact HQ.out.below (Go.Proofs.YtjcbpejplnaakaaGreat.Nm.below_drewN _ dd)
        clear hw6 HQ
        go_wp2_with fail
        go_roundg (2 - (i + 1))
        case measure => have h1 := HI.out.1; have := HI.out.2.1; omega
        case rel => exact ⟨i + 1, _, M, _, HI.out.1, rfl, by go_num, H6.out, by rw [HI.out.2.2.1]; exact HI.out.2.2.2⟩
    · have e2 : 2 - i = 0 := by omega
      have hi3 : ¬ ((i : Int) < 2) := by omega
      rw [e2] at hRm
      have hRm : sa = a ∧ sb = b ∧ sc = cc ∧ sd = d := by
        have : (sa, sb, sc, sd) = (a, b, cc, d) := hRm
        simpa using this
      obtain ⟨rfl, rfl, rfl, rfl⟩ := hRm
      have HR : Hid (Sx w0 wr g m kd c F ⟨va, vb, vg, vh, vo⟩ H M n p (ps.length + pm.length) x (sa, sb, sc, sd)) := hS
      have HLn : Hid ((fs sa).length = sa.length ∧ (fs sb).length = sb.length ∧ sa.length + sb.length ≤ c ∧ sd.length ≤ c ∧ sc.length ≤ c ∧ sb.length ≤ c) := by
        have q1 := hS.tot
        have q2 := hS.le
        have q3 := hS.ok.gone
        have q4 := HB.out.2.1
        simp only at q1 q2 q3
        unfold mMost at q3
        exact ⟨List.length_map .., List.length_map .., q2, by omega, by omega, by omega⟩
      clear hS e2 hi hgk hi2
      go_wp2_with fail
      refine (full_no HR.out.rc (by show (fs sa).length + (fs sb).length ≤ 1000000000; have := HLn.out; have := HB.out; omega) (by show (fs sa).length + (fs sb).length ≠ c; have := HLn.out; have := HB.out; omega)).mono ?_
      rintro _ w6 ⟨rfl, h6⟩
      have H6 : Hid (Rc w0 w6 g m kd c F ⟨va, vb, vg, vh, vo⟩ ⟨fs sa, fs sb, sc, H, M, n, p, sd⟩) := h6
      have HL : Hid ((fs sa).length + (fs sb).length + sc.length + H.length + sd.length ≤ 90000000) := by
        show (fs sa).length + (fs sb).length + sc.length + H.length + sd.length ≤ 90000000
        have := HLn.out
        have := HB.out
        omega
      have HN : Hid (x ∉ fs sa ∧ x ∉ fs sb ∧ ∀ M n, ncnt M n x ≤ n + 1) := by
        have := HR.out.no
        simp only at this
        exact ⟨ct_no (by omega), ct_no (by omega), fun M n => by unfold ncnt; split <;> omega⟩
      clear h6 hi3
      rcases HA.out with ⟨hk, ea, eb, ec, ed⟩ | ⟨hk, hm, ea, eb, ec, ed⟩ | ⟨hk, hm, ea, ec, q, y, hro, eb, ed⟩
      · have HE : Hid (x ∉ sc ∧ a' = (x, 0) :: sa ∧ b' = sb ∧ c' = sc ∧ d' = sd) := ⟨hk, ea, eb, ec, ed⟩
        clear hk ea eb ec ed
        have c21 : w6.cell? ⟨g, 4, none⟩ = some vg := H6.out.cell 4
        go_wp2_with fail
        refine (rhas_no H6.out.rg.rl.1 (by have hl := HL.out; (try simp only [List.length_append, List.length_cons, List.length_nil] at hl ⊢); omega) HE.out.1).mono ?_
        rintro _ w6 ⟨rfl, rfl⟩
        clear c21
        have c22 : w6.cell? ⟨g, 2, none⟩ = some va := H6.out.cell 2
        go_wp2_with fail
        refine (ahead_any (x := x) H6.out.ra.rl (by have hl := HL.out; (try simp only [List.length_append, List.length_cons, List.length_nil] at hl ⊢); omega)).mono ?_
        rintro _ w22 ⟨u, rfl, ho22, hb22⟩
        obtain ⟨b22, n22, k22, rfl⟩ := own_any ho22
        clear c22
        have h22 := H6.out.below hb22
        have e22 : w22.cell? ⟨g, 2, none⟩ = some va := h22.cell 2
        have f22 : w22.frozen? ⟨g, 2, none⟩ = false := h22.nf 2
        have H22 : Hid (Rc w0 (w22.setCell ⟨g, 2, none⟩ (.slice b22 n22 k22)) g m kd c F ⟨.slice b22 n22 k22, vb, vg, vh, vo⟩ ⟨(x :: (fs sa)), (fs sb), sc, H, M, n, p, sd⟩) := H6.out.setA hb22 ho22
        clear h22 hb22 ho22 H6
        go_upto_region 14 with fail
        generalize w22.setCell ⟨g, 2, none⟩ (.slice b22 n22 k22) = v22 at *
        clear e22 f22
        have c23 : v22.cell? ⟨g, 6, none⟩ = some ((.map (some m))) := H22.out.cell 6
        obtain ⟨w23, hu23, hk23, hg23⟩ := H22.out.bk.put (k := x) HB.out.2.2.2.2.1 HB.out.2.2.2.1 0
        have H23 : Hid (Rc w0 w23 g m kd c F ⟨.slice b22 n22 k22, vb, vg, vh, vo⟩ ⟨(x :: (fs sa)), (fs sb), sc, H, (nset M x 0), (ncnt M n x), p, sd⟩) := H22.out.num (v := 0) hk23 hg23
        clear hk23 hg23 H22
        go_wp2
        go_end0
        rw [HE.out.2.1, HE.out.2.2.1, HE.out.2.2.2.1, HE.out.2.2.2.2]
        exact ⟨rfl, _, _, _, HN.out.2.2 _ _, H23.out, HR.out.a1.cons HN.out.1, HR.out.a2.other HN.out.2.1⟩
      · have HE : Hid (x ∈ sc ∧ a' = sa ∧ b' = (x, 0) :: sb ∧ c' = sc.erase x ∧ d' = sd) := ⟨hk, ea, eb, ec, ed⟩
        clear hk ea eb ec ed
        have c21 : w6.cell? ⟨g, 4, none⟩ = some vg := H6.out.cell 4
        go_wp2_with fail
        refine (rhas_yes H6.out.rg.rl.1 (by have hl := HL.out; (try simp only [List.length_append, List.length_cons, List.length_nil] at hl ⊢); omega) HE.out.1).mono ?_
        rintro _ w6 ⟨rfl, rfl⟩
        clear c21
        obtain ⟨bb, cb, eb2⟩ := H6.out.rb.form
        obtain ⟨nb, hnb⟩ : ∃ q : Nat, q = (fs sb).length := ⟨_, rfl⟩
        have eh : vb = .slice bb nb cb := by rw [hnb]; exact eb2
        clear eb2
        subst eh
        obtain ⟨q0, hq0⟩ : ∃ q : Nat, q = c / 10 := ⟨_, rfl⟩
        have hw0 : IntKind.i64.wrap ((c : Int) / 10) = (q0 : Int) := by rw [IntKind.wrap_i64]; omega
        obtain ⟨mm, hmm⟩ : ∃ q : Nat, q = mMost c := ⟨_, rfl⟩
        have hw1 : IntKind.i64.wrap ((c : Int) - (q0 : Int)) = (mm : Int) := by rw [hmm]; unfold mMost; rw [IntKind.wrap_i64]; omega
        have hge : ((nb : Int) == (mm : Int)) = false := by have := HLn.out; rw [beq_eq_false_iff_ne]; omega
        have d1 : w6.cell? ⟨g, 1, none⟩ = some ((I c)) := H6.out.cell 1
        have d3 : w6.cell? ⟨g, 3, none⟩ = some (.slice bb nb cb) := H6.out.cell 3
        clear hq0 hmm hnb hm
        go_wp2_with fail
        go_quiet (fail)
        have H7 : Hid (Rc w0 (w6.drewN nq) g m kd c F ⟨va, .slice bb nb cb, vg, vh, vo⟩ ⟨(fs sa), (fs sb), sc, H, M, n, p, sd⟩) := H6.out.below (Go.Proofs.YtjcbpejplnaakaaGreat.Nm.below_drewN _ nq)
        generalize w6.drewN nq = w7 at *
        clear d1 d3 hw0 hw1 hge H6
        have c22 : w7.cell? ⟨g, 4, none⟩ = some vg := H7.out.cell 4
        go_wp2_with fail
        refine (without_any (x := x) H7.out.rg.rl.1 (by have hl := HL.out; (try simp only [List.length_append, List.length_cons, List.length_nil] at hl ⊢); omega)).mono ?_
        rintro _ w22 ⟨u, rfl, ho22, hb22⟩
        obtain ⟨b22, n22, k22, rfl⟩ := own_any ho22
        clear c22
        have h22 := H7.out.below hb22
        have e22 : w22.cell? ⟨g, 4, none⟩ = some vg := h22.cell 4
        have f22 : w22.frozen? ⟨g, 4, none⟩ = false := h22.nf 4
        have H22 : Hid (Rc w0 (w22.setCell ⟨g, 4, none⟩ (.slice b22 n22 k22)) g m kd c F ⟨va, .slice bb nb cb, .slice b22 n22 k22, vh, vo⟩ ⟨(fs sa), (fs sb), (wo sc x), H, M, n, p, sd⟩) := H7.out.setG hb22 ho22
        clear h22 hb22 ho22 H7
        go_upto_region 12 with fail
        generalize w22.setCell ⟨g, 4, none⟩ (.slice b22 n22 k22) = v22 at *
        clear e22 f22
        have c23 : v22.cell? ⟨g, 3, none⟩ = some (.slice bb nb cb) := H22.out.cell 3
        go_wp2_with fail
        refine (ahead_any (x := x) H22.out.rb.rl (by have hl := HL.out; (try simp only [List.length_append, List.length_cons, List.length_nil] at hl ⊢); omega)).mono ?_
        rintro _ w23 ⟨u, rfl, ho23, hb23⟩
        obtain ⟨b23, n23, k23, rfl⟩ := own_any ho23
        clear c23
        have h23 := H22.out.below hb23
        have e23 : w23.cell? ⟨g, 3, none⟩ = some (.slice bb nb cb) := h23.cell 3
        have f23 : w23.frozen? ⟨g, 3, none⟩ = false := h23.nf 3
        have H23 : Hid (Rc w0 (w23.setCell ⟨g, 3, none⟩ (.slice b23 n23 k23)) g m kd c F ⟨va, .slice b23 n23 k23, .slice b22 n22 k22, vh, vo⟩ ⟨(fs sa), (x :: (fs sb)), (wo sc x), H, M, n, p, sd⟩) := H22.out.setB hb23 ho23
        clear h23 hb23 ho23 H22
        go_upto_region 14 with fail
        generalize w23.setCell ⟨g, 3, none⟩ (.slice b23 n23 k23) = v23 at *
        clear e23 f23
        have c24 : v23.cell? ⟨g, 6, none⟩ = some ((.map (some m))) := H23.out.cell 6
        obtain ⟨w24, hu24, hk24, hg24⟩ := H23.out.bk.put (k := x) HB.out.2.2.2.2.1 HB.out.2.2.2.1 0
        have H24 : Hid (Rc w0 w24 g m kd c F ⟨va, .slice b23 n23 k23, .slice b22 n22 k22, vh, vo⟩ ⟨(fs sa), (x :: (fs sb)), (wo sc x), H, (nset M x 0), (ncnt M n x), p, sd⟩) := H23.out.num (v := 0) hk24 hg24
        clear hk24 hg24 H23
        go_wp2
        go_end0
        have hwe : wo sc x = sc.erase x := by
          refine wo_er (nodup_ct fun z => ?_)
          have := HR.out.ok.nd z
          simp only at this
          omega
        rw [HE.out.2.1, HE.out.2.2.1, HE.out.2.2.2.1, HE.out.2.2.2.2, ← hwe]
        exact ⟨rfl, _, _, _, HN.out.2.2 _ _, H24.out, HR.out.a1.other HN.out.1, HR.out.a2.cons HN.out.2.1⟩
      · have HE : Hid (x ∈ sc ∧ a' = sa ∧ b' = (x, 0) :: q ∧ c' = sc.erase x ∧ d' = sd ++ [y] ∧ RotI sb (q ++ [(y, 0)])) := ⟨hk, ea, eb, ec, ed, hro⟩
        clear hk ea eb ec ed hro
        have c21 : w6.cell? ⟨g, 4, none⟩ = some vg := H6.out.cell 4
        go_wp2_with fail
        refine (rhas_yes H6.out.rg.rl.1 (by have hl := HL.out; (try simp only [List.length_append, List.length_cons, List.length_nil] at hl ⊢); omega) HE.out.1).mono ?_
        rintro _ w6 ⟨rfl, rfl⟩
        clear c21
        obtain ⟨bb, cb, eb2⟩ := H6.out.rb.form
        obtain ⟨nb, hnb⟩ : ∃ q : Nat, q = (fs sb).length := ⟨_, rfl⟩
        have eh : vb = .slice bb nb cb := by rw [hnb]; exact eb2
        clear eb2
        subst eh
        obtain ⟨q0, hq0⟩ : ∃ q : Nat, q = c / 10 := ⟨_, rfl⟩
        have hw0 : IntKind.i64.wrap ((c : Int) / 10) = (q0 : Int) := by rw [IntKind.wrap_i64]; omega
        obtain ⟨mm, hmm⟩ : ∃ q : Nat, q = mMost c := ⟨_, rfl⟩
        have hw1 : IntKind.i64.wrap ((c : Int) - (q0 : Int)) = (mm : Int) := by rw [hmm]; unfold mMost; rw [IntKind.wrap_i64]; omega
        have hge : ((nb : Int) == (mm : Int)) = true := by have := HLn.out; rw [beq_iff_eq]; omega
        have d1 : w6.cell? ⟨g, 1, none⟩ = some ((I c)) := H6.out.cell 1
        have d3 : w6.cell? ⟨g, 3, none⟩ = some (.slice bb nb cb) := H6.out.cell 3
        clear hq0 hmm hnb hm
        go_wp2_with fail
        go_quiet (fail)
        have H7 : Hid (Rc w0 (w6.drewN nq) g m kd c F ⟨va, .slice bb nb cb, vg, vh, vo⟩ ⟨(fs sa), (fs sb), sc, H, M, n, p, sd⟩) := H6.out.below (Go.Proofs.YtjcbpejplnaakaaGreat.Nm.below_drewN _ nq)
        generalize w6.drewN nq = w7 at *
        clear d1 d3 hw0 hw1 hge H6
        go_wp2_with fail
        refine (fmr_any H7.out (by have := HLn.out; have := HB.out; omega) HB.out.2.2.2.1 ⟨HR.out.a1, HR.out.a2⟩ (fun a => by have := HR.out.ok.nd a; simp only at this; omega) HR.out.ok.hm HR.out.u2 HE.out.2.2.2.2.2).mono ?_
        rintro _ w9 ⟨rfl, ⟨p9, q9, r9, t9, u9⟩, M9, h9, hA9, hB9⟩
        have H9 : Hid (Rc w0 w9 g m kd c F ⟨p9, q9, r9, t9, u9⟩ ⟨(fs sa), (fs q), sc, H, M9, n, p, (sd ++ [y])⟩) := h9
        have HG9 : Hid (AgN M9 sa ∧ AgN M9 q ∧ q.length + 1 = sb.length ∧ x ∉ fs q) := by
          have e1 := S3k.mf2 HE.out.2.2.2.2.2
          have e2 := HE.out.2.2.2.2.2.cts.1 x
          rw [fs_snoc] at e2
          have e3 := ct_zero HN.out.2.1
          exact ⟨hA9, hB9, e1, ct_no (by omega)⟩
        clear h9 hA9 hB9 H7
        have c22 : w9.cell? ⟨g, 4, none⟩ = some r9 := H9.out.cell 4
        go_wp2_with fail
        refine (without_any (x := x) H9.out.rg.rl.1 (by have hl := HL.out; have hq1 : (fs q).length = q.length := List.length_map ..; have hq2 := HG9.out.2.2.1; have hq3 := HLn.out; (try simp only [List.length_append, List.length_cons, List.length_nil] at hl ⊢); omega)).mono ?_
        rintro _ w22 ⟨u, rfl, ho22, hb22⟩
        obtain ⟨b22, n22, k22, rfl⟩ := own_any ho22
        clear c22
        have h22 := H9.out.below hb22
        have e22 : w22.cell? ⟨g, 4, none⟩ = some r9 := h22.cell 4
        have f22 : w22.frozen? ⟨g, 4, none⟩ = false := h22.nf 4
        have H22 : Hid (Rc w0 (w22.setCell ⟨g, 4, none⟩ (.slice b22 n22 k22)) g m kd c F ⟨p9, q9, .slice b22 n22 k22, t9, u9⟩ ⟨(fs sa), (fs q), (wo sc x), H, M9, n, p, (sd ++ [y])⟩) := H9.out.setG hb22 ho22
        clear h22 hb22 ho22 H9
        go_upto_region 12 with fail
        generalize w22.setCell ⟨g, 4, none⟩ (.slice b22 n22 k22) = v22 at *
        clear e22 f22
        have c23 : v22.cell? ⟨g, 3, none⟩ = some q9 := H22.out.cell 3
        go_wp2_with fail
        refine (ahead_any (x := x) H22.out.rb.rl (by have hl := HL.out; have hq1 : (fs q).length = q.length := List.length_map ..; have hq2 := HG9.out.2.2.1; have hq3 := HLn.out; (try simp only [List.length_append, List.length_cons, List.length_nil] at hl ⊢); omega)).mono ?_
        rintro _ w23 ⟨u, rfl, ho23, hb23⟩
        obtain ⟨b23, n23, k23, rfl⟩ := own_any ho23
        clear c23
        have h23 := H22.out.below hb23
        have e23 : w23.cell? ⟨g, 3, none⟩ = some q9 := h23.cell 3
        have f23 : w23.frozen? ⟨g, 3, none⟩ = false := h23.nf 3
        have H23 : Hid (Rc w0 (w23.setCell ⟨g, 3, none⟩ (.slice b23 n23 k23)) g m kd c F ⟨p9, .slice b23 n23 k23, .slice b22 n22 k22, t9, u9⟩ ⟨(fs sa), (x :: (fs q)), (wo sc x), H, M9, n, p, (sd ++ [y])⟩) := H22.out.setB hb23 ho23
        clear h23 hb23 ho23 H22
        go_upto_region 14 with fail
        generalize w23.setCell ⟨g, 3, none⟩ (.slice b23 n23 k23) = v23 at *
        clear e23 f23
        have c24 : v23.cell? ⟨g, 6, none⟩ = some ((.map (some m))) := H23.out.cell 6
        obtain ⟨w24, hu24, hk24, hg24⟩ := H23.out.bk.put (k := x) HB.out.2.2.2.2.1 HB.out.2.2.2.1 0
        have H24 : Hid (Rc w0 w24 g m kd c F ⟨p9, .slice b23 n23 k23, .slice b22 n22 k22, t9, u9⟩ ⟨(fs sa), (x :: (fs q)), (wo sc x), H, (nset M9 x 0), (ncnt M9 n x), p, (sd ++ [y])⟩) := H23.out.num (v := 0) hk24 hg24
        clear hk24 hg24 H23
        go_wp2
        go_end0
        have hwe : wo sc x = sc.erase x := by
          refine wo_er (nodup_ct fun z => ?_)
          have := HR.out.ok.nd z
          simp only at this
          omega
        rw [HE.out.2.1, HE.out.2.2.1, HE.out.2.2.2.1, HE.out.2.2.2.2.1, ← hwe]
        exact ⟨rfl, _, _, _, HN.out.2.2 _ _, H24.out, HG9.out.1.other HN.out.1, HG9.out.2.1.cons HG9.out.2.2.2⟩
end
end Go.Proofs.YtjcbpejplnaakaaGreat.Mr
