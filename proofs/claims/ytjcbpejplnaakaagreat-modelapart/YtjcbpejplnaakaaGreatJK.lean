import Derived.Test.YtjcbpejplnaakaaGreatJI
import Derived.Test.YtjcbpejplnaakaaGreatJG
import Derived.Deep.DeepCutAuto
import Derived.BigQuiet
import Derived.Test.YtjcbpejplnaakaaGreatRows
import Derived.ProofKit
import Derived.OpenShut
import Derived.ChangeOld
import Derived.Below
import Derived.Test.YtjcbpejplnaakaaGreatMdWtn
import Derived.ChangeSlices
import Derived.ChangeSame
set_option linter.unusedSimpArgs false
namespace Go.Proofs.YtjcbpejplnaakaaGreat.Mr
open Go.RowKit Go.Maps Go.Proofs.YtjcbpejplnaakaaGreat.Nm Go.Proofs.YtjcbpejplnaakaaGreat.Md

theorem infoS : (Tryz.prog.info? 22).map (fun i => (i.zero, i.size, i.bytes)) = some (some (.slice none 0 0), 1, 24) := by kernel_rfl
theorem add_cell {w : World} {b j : Nat} {v : Value} (h : w.cell? ((⟨b, 0, none⟩ : Addr).add j) = some v) : w.cell? ⟨b, j, none⟩ = some v := by
  by_cases h0 : j = 0
  · subst h0; exact h
  · simp only [Addr.add, h0, if_false] at h
    simpa using h
section
variable {W w w' : World} {SA SB : World → List Nat → List Nat → Prop} {f : Nat → List Nat} {vs us xs : List Value} {c : Nat → List Value} {vk : Value} {i : Nat} {ns : Nat → Nat}
/-- five lists were written over -/
theorem Av.spoil5 (kA : KeepS SA) (kB : KeepS SB) (h : Av W w SA SB f (vs ++ us) c vk xs) (hl : vs.length = 5 * i) (hu : us.length = 5) (ho : ∀ j, j < 5 * i → c j = nums (j / 5) (j % 5) (ns j)) (hf : Fr (bls us) w w') (hz : Ez w' W.heap.size us (fun r => nums i r (c (5 * i + r)).length)) : Av W w' SA SB f (vs ++ us) (fun j => nums (j / 5) (j % 5) (if j < 5 * i then ns j else (c j).length)) vk xs := by
  have hin : ∀ x ∈ bls us, x ∈ bls (vs ++ us) := fun x hx => by
    unfold bls at hx ⊢
    rw [List.filterMap_append]
    exact List.mem_append_right _ hx
  refine h.over kA kB hf hin fun j v hv => ?_
  by_cases hj : j < 5 * i
  · rw [if_pos hj]
    have hq := h.ez j v hv
    rw [ho j hj] at hq
    refine own_blk hq fun g e => hf.block g (World.ownsRow.lt hq g e).2 fun q => ?_
    obtain ⟨u, hu1, hu2⟩ := List.mem_filterMap.1 q
    obtain ⟨r, hr, rfl⟩ := List.getElem_of_mem hu1
    have hr2 : (vs ++ us)[vs.length + r]? = some us[r] := by
      rw [List.getElem?_append_right (by omega), Nat.add_sub_cancel_left]
      exact List.getElem?_eq_getElem hr
    have := h.dz j (vs.length + r) v us[r] g hv hr2 e hu2
    omega
  · rw [if_neg hj]
    have hjl := (List.getElem?_eq_some_iff.1 hv).1
    rw [List.length_append] at hjl
    obtain ⟨r, rfl⟩ : ∃ r, j = 5 * i + r := ⟨j - 5 * i, by omega⟩
    rw [List.getElem?_append_right (by omega), hl, Nat.add_sub_cancel_left] at hv
    have := hz r v hv
    rw [show (5 * i + r) / 5 = i by omega, show (5 * i + r) % 5 = r by omega]
    exact this
end
set_option maxHeartbeats 51200000 in
set_option maxRecDepth 100000 in
theorem apartWalk (o1 o2 z1 z2 : Int) (ka : Option Addr) (l : List Nat) (cap : Nat) (W : World) (hk : KIn W ka l) (h64 : ∀ x ∈ l, x < 18446744073709551616) (hl : l.length ≤ maxLen) :
    Calls Tryz.prog 4 #[I o1, I o2, I z1, I z2, .slice ka l.length cap] W fun e w' => e = .returned (.bool true) ∧ Below W.heap.size W w' := by
  have HK : Hid (KIn W ka l ∧ (∀ x ∈ l, x < 18446744073709551616) ∧ l.length ≤ maxLen) := ⟨hk, h64, hl⟩
  clear hk h64 hl
  go_enter Tryz.func4, Tryz.ntmps4
  go_wp2_with fail
  refine (fits_any W o1 z1).mono ?_
  rintro _ w ⟨kA, nA, rfl, rfl, a1, a2, a3⟩
  have HZA : Hid (kA < 6 ∧ lN kA ≤ nA ∧ nA ≤ 1048576) := ⟨a1, a2, a3⟩
  clear a1 a2 a3
  go_wp2_with fail
  refine (fits_any w o2 z2).mono ?_
  rintro _ w ⟨kB, nB, rfl, rfl, a1, a2, a3⟩
  have HZB : Hid (kB < 6 ∧ lN kB ≤ nB ∧ nB ≤ 1048576) := ⟨a1, a2, a3⟩
  clear a1 a2 a3
  go_wp2_with fail
  refine (newz_all w kA nA HZA.out.1 HZA.out.2.1 HZA.out.2.2).mono ?_
  rintro _ w1 ⟨TA, faA, fkA, σA, s0A, keyA, SpA, PA, invA, relA, gA, rfl, ⟨FA, q1, q2, q3⟩, KDA, IFA⟩
  have HDA : Hid (Kz TA faA fkA kA nA σA s0A keyA SpA PA invA relA) := KDA
  have hncA := IFA.nil
  have hmaA := IFA.acc
  have hmkA := IFA.keys
  have hnaA := IFA.ahead
  have heaA := IFA.ea
  have hekA := IFA.ek
  have H1 : Hid (Below w.heap.size w w1 ∧ PA w1 gA FA s0A ∧ ∀ x ∈ FA, w.heap.size ≤ x) := ⟨q2, q1, q3⟩
  clear KDA IFA q1 q2 q3
  go_wp2_with fail
  refine (newz_all w1 kB nB HZB.out.1 HZB.out.2.1 HZB.out.2.2).mono ?_
  rintro _ w2 ⟨TB, faB, fkB, σB, s0B, keyB, SpB, PB, invB, relB, gB, rfl, ⟨FB, q1, q2, q3⟩, KDB, IFB⟩
  have HDB : Hid (Kz TB faB fkB kB nB σB s0B keyB SpB PB invB relB) := KDB
  have hncB := IFB.nil
  have hmaB := IFB.acc
  have hmkB := IFB.keys
  have hnaB := IFB.ahead
  have heaB := IFB.ea
  have hekB := IFB.ek
  have H2 : Hid (Below w1.heap.size w1 w2 ∧ PB w2 gB FB s0B ∧ ∀ x ∈ FB, w1.heap.size ≤ x) := ⟨q2, q1, q3⟩
  clear KDB IFB q1 q2 q3
  go_wp2_with fail
  refine (rnew_ok w2 kA nA HZA.out.1 HZA.out.2.1 HZA.out.2.2).mono ?_
  rintro _ w3 ⟨grA, mrA, VA, rfl, r1, r2, r3, r4⟩
  have H3 : Hid ((∀ F, (∀ x ∈ F, x < w3.heap.size) → Rc w3 w3 grA mrA kA nA F VA st0) ∧ Below w2.heap.size w2 w3 ∧ w2.heap.size ≤ grA ∧ w2.heap.size ≤ mrA) := ⟨r1, r2, r3, r4⟩
  clear r1 r2 r3 r4
  go_wp2_with fail
  refine (rnew_ok w3 kB nB HZB.out.1 HZB.out.2.1 HZB.out.2.2).mono ?_
  rintro _ w4 ⟨grB, mrB, VB, rfl, r1, r2, r3, r4⟩
  have H4 : Hid (∃ f, Av w w4 (Sd PA relA gA grA mrA kA nA s0A s0A st0 0) (Sd PB relB gB grB mrB kB nB s0B s0B st0 0) f [] (fun _ => []) (.slice none 0 0) []) := by
    have e1 := H1.out.1.size
    have e2 := H2.out.1.size
    have e3 := H3.out.2.1.size
    have e4 := r2.size
    have la : ∀ x ∈ FA, x < w1.heap.size := HDA.out.lt H1.out.2.1
    have lb : ∀ x ∈ FB, x < w2.heap.size := HDB.out.lt H2.out.2.1
    obtain ⟨RA, ra1, ra2⟩ := Rp.of (H3.out.1 (FA ++ FB ++ List.range w.heap.size) (fun x hx => by
      rcases List.mem_append.1 hx with hx | hx
      · rcases List.mem_append.1 hx with hx | hx
        · have := la x hx; omega
        · have := lb x hx; omega
      · have := List.mem_range.1 hx; omega)).rest (fun hx => by
      rcases List.mem_append.1 hx with hx | hx
      · rcases List.mem_append.1 hx with hx | hx
        · have := la _ hx; have := H3.out.2.2.1; omega
        · have := lb _ hx; have := H3.out.2.2.1; omega
      · have := List.mem_range.1 hx; have := H3.out.2.2.1; omega) (fun hx => by
      rcases List.mem_append.1 hx with hx | hx
      · rcases List.mem_append.1 hx with hx | hx
        · have := la _ hx; have := H3.out.2.2.2; omega
        · have := lb _ hx; have := H3.out.2.2.2; omega
      · have := List.mem_range.1 hx; have := H3.out.2.2.2; omega)
    have lra := ra1.lt
    obtain ⟨RB, rb1, rb2⟩ := Rp.of (r1 (FA ++ FB ++ RA ++ List.range w.heap.size) (fun x hx => by
      rcases List.mem_append.1 hx with hx | hx
      · rcases List.mem_append.1 hx with hx | hx
        · rcases List.mem_append.1 hx with hx | hx
          · have := la x hx; omega
          · have := lb x hx; omega
        · have := lra x hx; omega
      · have := List.mem_range.1 hx; omega)).rest (fun hx => by
      rcases List.mem_append.1 hx with hx | hx
      · rcases List.mem_append.1 hx with hx | hx
        · rcases List.mem_append.1 hx with hx | hx
          · have := la _ hx; omega
          · have := lb _ hx; omega
        · have := lra _ hx; omega
      · have := List.mem_range.1 hx; omega) (fun hx => by
      rcases List.mem_append.1 hx with hx | hx
      · rcases List.mem_append.1 hx with hx | hx
        · rcases List.mem_append.1 hx with hx | hx
          · have := la _ hx; omega
          · have := lb _ hx; omega
        · have := lra _ hx; omega
      · have := List.mem_range.1 hx; omega)
    have lrb := rb1.lt
    have b14 : Below w1.heap.size w1 w4 := H2.out.1.trans ((H3.out.2.1.trans (r2.mono e3)).mono e2)
    have b24 : Below w2.heap.size w2 w4 := H3.out.2.1.trans (r2.mono e3)
    refine ⟨_, Av.start (FA := FA) (RA := RA) (FB := FB) (RB := RB) (H1.out.1.trans (b14.mono e1)) ⟨HDA.out.keep (G := []) H1.out.2.1 (Fr.of_below b14) (by simp), ra1.keep (G := []) (Fr.of_below r2) (by simp), HDA.out.rel0, Nat.le_refl _⟩ ⟨HDB.out.keep (G := []) H2.out.2.1 (Fr.of_below b24) (by simp), rb1, HDB.out.rel0, Nat.le_refl _⟩ (fun x hx => ⟨H1.out.2.2 x hx, by have := la x hx; omega⟩) (fun x hx => ?_) (fun x hx => ⟨by have := H2.out.2.2 x hx; omega, by have := lb x hx; omega, fun e => by have := la x e; have := H2.out.2.2 x hx; omega⟩) (fun x hx => ?_)⟩
    · have n1 := ra2 x hx
      have := lra x hx
      simp only [List.mem_append, List.mem_range, not_or] at n1
      exact ⟨by omega, by omega, n1.1.1, n1.1.2⟩
    · have n1 := rb2 x hx
      simp only [List.mem_append, List.mem_range, not_or] at n1
      exact ⟨by omega, lrb x hx, n1.1.1.1, n1.1.1.2, n1.1.2⟩
  clear r1 r2 r3 r4 H1 H2 H3
  have HkA : Hid (∀ s s' t i, KeepS (Sd PA relA gA grA mrA kA nA s s' t i)) := fun s s' t i => Sd.keepS HDA.out gA grA mrA nA s s' t i
  have HkB : Hid (∀ s s' t i, KeepS (Sd PB relB gB grB mrB kB nB s s' t i)) := fun s s' t i => Sd.keepS HDB.out gB grB mrB nB s s' t i
  obtain ⟨y0, hy, hy0, hy1, hy2⟩ := info_parts infoS
  have hl63 : (l.length : Int) ≤ 9223372036854775807 := by have := HK.out.2.2; unfold maxLen at this; omega
  go_wp2_with fail
  go_loopg [19, 20] (min l.length 200) (fun gq kv x wr => ∃ (i : Nat) (f : Nat → List Nat) (vs : List Value) (ns : Nat → Nat) (sA : σA) (tA : St) (sB : σB) (tB : St), i ≤ min l.length 200 ∧ gq = min l.length 200 - i ∧ x = I i ∧ vs.length = 5 * i ∧ Av w wr (Sd PA relA gA grA mrA kA nA sA sA tA i) (Sd PB relB gB grB mrB kB nB sB sB tB i) f vs (fun j => nums (j / 5) (j % 5) (ns j)) kv vs ∧ ∀ j, j < 5 * i → ns j ≤ 1000000000)
  case atStart =>
    obtain ⟨f, h4⟩ := H4.out
    refine ⟨0, f, [], fun _ => 0, s0A, st0, s0B, st0, Nat.zero_le _, rfl, rfl, rfl, ?_, fun j hj => by omega⟩
    have e : (fun j => nums (j / 5) (j % 5) ((fun _ => 0) j)) = fun _ : Nat => ([] : List Value) := by funext j; rfl
    rw [e]
    exact h4
  case round =>
    clear H4
    obtain ⟨i, f, vs, ns, sA, tA, sB, tB, hi, hgk, rfl, hvl, hT, hns⟩ := hrel
    by_cases hlt : i < min l.length 200
    · have hlt1 : (i : Int) < (l.length : Int) := by omega
      have hlt2 : (i : Int) < 200 := by omega
      obtain ⟨k1, hx1⟩ : ∃ k, l[i]? = some k := ⟨l[i]'(by omega), List.getElem?_eq_getElem _⟩
      obtain ⟨j2, hj2⟩ : ∃ j : Nat, j = l.length - 1 - i := ⟨_, rfl⟩
      obtain ⟨m1, hm1⟩ : ∃ j : Nat, j = l.length - 1 := ⟨_, rfl⟩
      obtain ⟨k2, hx2⟩ : ∃ k, l[j2]? = some k := ⟨l[j2]'(by omega), List.getElem?_eq_getElem _⟩
      have hwm : IntKind.i64.wrap ((l.length : Int) - 1) = (m1 : Int) := by rw [IntKind.wrap_i64]; omega
      have hwj : IntKind.i64.wrap ((m1 : Int) - (i : Int)) = (j2 : Int) := by rw [IntKind.wrap_i64]; omega
      have hj3 : (j2 : Int) < (l.length : Int) := by omega
      obtain ⟨bo19, bc19, e19⟩ := own_form hT.ow
      subst e19
      obtain ⟨nv, hnv⟩ : ∃ q : Nat, q = vs.length := ⟨_, rfl⟩
      rw [← hnv] at hT
      have HT : Hid (Av w wr (Sd PA relA gA grA mrA kA nA sA sA tA i) (Sd PB relB gB grB mrB kB nB sB sB tB i) f vs (fun j => nums (j / 5) (j % 5) (ns j)) (.slice bo19 nv bc19) vs ∧ i < min l.length 200 ∧ gk = min l.length 200 - i ∧ vs.length = 5 * i ∧ (∀ j, j < 5 * i → ns j ≤ 1000000000) ∧ l[i]? = some k1 ∧ l[j2]? = some k2 ∧ k1 < 18446744073709551616 ∧ k2 < 18446744073709551616 ∧ nv = vs.length) := ⟨hT, hlt, hgk, hvl, hns, hx1, hx2, HK.out.2.1 k1 (List.mem_of_getElem? hx1), HK.out.2.1 k2 (List.mem_of_getElem? hx2), hnv⟩
      rw [← hnv]
      clear hT hlt hgk hvl hns hx1 hx2 hi hj2 hm1 hnv
      obtain ⟨b', off, e', _, i0⟩ := HK.out.1.below HT.out.1.bel i _ HT.out.2.2.2.2.2.1
      subst e'
      have H3 : Hid (Av w wr.drew (Sd PA relA gA grA mrA kA nA sA sA tA i) (Sd PB relB gB grB mrB kB nB sB sB tB i) f vs (fun j => nums (j / 5) (j % 5) (ns j)) (.slice bo19 nv bc19) vs) := HT.out.1.below (HkA.out _ _ _ _) (HkB.out _ _ _ _) (Below.refl _ wr).drew
      go_upto_region 13 with fail
      go_cut [21, 22] (fun s21 s22 wx => ∃ f4 s4 out hit, s21 = .bool hit ∧ Av w wx (Sd PA relA gA grA mrA kA nA s4 sA tA i) (Sd PB relB gB grB mrB kB nB sB sB tB i) f4 (vs ++ [s22]) (cons5 vs.length out (fun j => nums (j / 5) (j % 5) (ns j))) (.slice bo19 nv bc19) vs ∧ KRd wx s22 out ∧ SpA sA k1 hit s4 out)
      case first =>
        go_region_with (refine (HDA.out.acc H3.out.a.p HT.out.2.2.2.2.2.2.2.1).mono ?_; rintro _ w4 ⟨v4, F4, s4, out, hit, rfl, q4⟩)
        all_goals (
          go_wp2_with fail
          go_meet
          obtain ⟨c1, c2, c3, c4, c5⟩ := q4
          obtain ⟨f4, hf4⟩ := H3.out.accA HDA.out (HkB.out _ _ _ _) c1 c2 c3 c4
          exact ⟨f4, s4, out, hit, rfl, hf4, c4.1, c5⟩)
      case rest =>
        obtain ⟨f4, s4, out, hit, rfl, hJ, hGone, hSp⟩ := hcut
        obtain ⟨bg, cg, e13⟩ := hGone.form
        subst e13
        obtain ⟨b', off', e', _, i1⟩ := HK.out.1.below hJ.bel i _ HT.out.2.2.2.2.2.1
        cases e'
        have H5 : Hid (Av w wc (Sd PA relA gA grA mrA kA nA s4 sA tA i) (Sd PB relB gB grB mrB kB nB sB sB tB i) f4 (vs ++ [Value.slice bg out.length cg]) (cons5 vs.length out (fun j => nums (j / 5) (j % 5) (ns j))) (.slice bo19 nv bc19) vs ∧ KRd wc (.slice bg out.length cg) out ∧ SpA sA k1 hit s4 out) := ⟨hJ, hGone, hSp⟩
        have HO : Hid (out.length ≤ 1000000000) := HDA.out.ol (HDA.out.iv HT.out.1.a.p) hSp
        clear hJ hGone hSp H3 i0
        go_wp2_with fail
        refine (Rp.acc HDA.out H5.out.1.a.r (avo_no H5.out.1 1) (avo_lt H5.out.1 1) (HDA.out.iv HT.out.1.a.p) H5.out.1.a.rl H5.out.2.2 HT.out.2.2.2.2.2.2.2.1 (by have := H5.out.1.a.cn; have := HT.out.2.1; omega)).mono ?_
        rintro _ w6 ⟨v6, R6, t6, rfl, y1, y2, y3, y4, y5, y6⟩
        obtain ⟨bt, ct', e6⟩ := y6.form
        subst e6
        have H6 : Hid ((∃ f6, Av w w6 (Sd PA relA gA grA mrA kA nA s4 s4 t6 (i + 1)) (Sd PB relB gB grB mrB kB nB sB sB tB i) f6 (vs ++ [Value.slice bg out.length cg]) (cons5 vs.length out (fun j => nums (j / 5) (j % 5) (ns j))) (.slice bo19 nv bc19) vs) ∧ KRd w6 (.slice bg out.length cg) out ∧ KRd w6 (.slice bt out.length ct') out) := ⟨H5.out.1.refA HDA.out (HkB.out _ _ _ _) y1 y2 y3 (by have := H5.out.1.a.cn; omega) y5, H5.out.1.a.r.krd H5.out.2.1 y5, y6⟩
        clear y1 y2 y3 y4 y5 y6 i1
        have hbb : (hit != hit) = false := by simp
        obtain ⟨⟨f6, h6⟩, _⟩ := H6.out
        have H6a : Hid (Av w w6 (Sd PA relA gA grA mrA kA nA s4 s4 t6 (i + 1)) (Sd PB relB gB grB mrB kB nB sB sB tB i) f6 (vs ++ [Value.slice bg out.length cg]) (cons5 vs.length out (fun j => nums (j / 5) (j % 5) (ns j))) (.slice bo19 nv bc19) vs) := h6
        clear h6
        go_wp2_with fail
        refine (sameK_eq H6.out.2.1 H6.out.2.2 HO.out).mono ?_
        rintro _ w7 ⟨rfl, b7⟩
        have H7 : Hid (Av w w7 (Sd PA relA gA grA mrA kA nA s4 s4 t6 (i + 1)) (Sd PB relB gB grB mrB kB nB sB sB tB i) f6 (vs ++ [Value.slice bg out.length cg]) (cons5 vs.length out (fun j => nums (j / 5) (j % 5) (ns j))) (.slice bo19 nv bc19) vs) := H6a.out.below (HkA.out _ _ _ _) (HkB.out _ _ _ _) b7
        clear b7 H6 H6a
        have HKL : Hid ((keyA s4).length ≤ 1000000000 ∧ t6.A ++ t6.B = keyA s4) := ⟨Nat.le_trans (HDA.out.le (HDA.out.iv H7.out.a.p)) (by omega), HDA.out.rkey H7.out.a.rl⟩
        go_wp2_with fail
        refine (HDA.out.keys H7.out.a.p).mono ?_
        rintro _ w8 ⟨v8, rfl, o8, b8⟩
        obtain ⟨bo8, bc8, rfl⟩ := own_form o8
        obtain ⟨f8, h8⟩ := H7.out.told (HkA.out _ _ _ _) (HkB.out _ _ _ _) b8 o8
        have H8 : Hid (Av w w8 (Sd PA relA gA grA mrA kA nA s4 s4 t6 (i + 1)) (Sd PB relB gB grB mrB kB nB sB sB tB i) f8 (vs ++ [Value.slice bg out.length cg] ++ [Value.slice bo8 (keyA s4).length bc8]) (cons5 (vs ++ [Value.slice bg out.length cg]).length (keyA s4) (cons5 vs.length out (fun j => nums (j / 5) (j % 5) (ns j)))) (.slice bo19 nv bc19) vs ∧ KRd w8 (.slice bo8 (keyA s4).length bc8) (keyA s4)) := ⟨h8, KRd.own o8⟩
        clear o8 b8 h8
        go_wp2_with fail
        refine (HDA.out.keys H8.out.1.a.p).mono ?_
        rintro _ w9 ⟨v9, rfl, o9, b9⟩
        obtain ⟨bo9, bc9, rfl⟩ := own_form o9
        obtain ⟨f9, h9⟩ := H8.out.1.told (HkA.out _ _ _ _) (HkB.out _ _ _ _) b9 o9
        obtain ⟨vs3, hvs3⟩ : ∃ q, q = vs ++ [Value.slice bg out.length cg] ++ [Value.slice bo8 (keyA s4).length bc8] ++ [Value.slice bo9 (keyA s4).length bc9] := ⟨_, rfl⟩
        obtain ⟨c3, hc3⟩ : ∃ q, q = cons5 (vs ++ [Value.slice bg out.length cg] ++ [Value.slice bo8 (keyA s4).length bc8]).length (keyA s4) (cons5 (vs ++ [Value.slice bg out.length cg]).length (keyA s4) (cons5 vs.length out (fun j => nums (j / 5) (j % 5) (ns j)))) := ⟨_, rfl⟩
        have HV3 : Hid (vs3 = vs ++ [Value.slice bg out.length cg] ++ [Value.slice bo8 (keyA s4).length bc8] ++ [Value.slice bo9 (keyA s4).length bc9] ∧ c3 = cons5 (vs ++ [Value.slice bg out.length cg] ++ [Value.slice bo8 (keyA s4).length bc8]).length (keyA s4) (cons5 (vs ++ [Value.slice bg out.length cg]).length (keyA s4) (cons5 vs.length out (fun j => nums (j / 5) (j % 5) (ns j))))) := ⟨hvs3, hc3⟩
        rw [← hvs3, ← hc3] at h9
        have H9 : Hid (Av w w9 (Sd PA relA gA grA mrA kA nA s4 s4 t6 (i + 1)) (Sd PB relB gB grB mrB kB nB sB sB tB i) f9 vs3 c3 (.slice bo19 nv bc19) vs ∧ KRd w9 (.slice bo8 (keyA s4).length bc8) (keyA s4) ∧ KRd w9 (.slice bo9 (keyA s4).length bc9) (keyA s4)) := ⟨h9, H8.out.2.below b9, KRd.own o9⟩
        clear o9 b9 h9 H8 H7 hvs3 hc3
        go_wp2_with fail
        refine (H9.out.1.a.r.keys (by have := congrArg List.length HKL.out.2; rw [List.length_append] at this; have := HKL.out.1; omega)).mono ?_
        rintro _ wa ⟨va, rfl, oa, ba⟩
        rw [HKL.out.2] at oa
        obtain ⟨boa, bca, rfl⟩ := own_form oa
        have HA : Hid (Av w wa (Sd PA relA gA grA mrA kA nA s4 s4 t6 (i + 1)) (Sd PB relB gB grB mrB kB nB sB sB tB i) f9 vs3 c3 (.slice bo19 nv bc19) vs ∧ KRd wa (.slice bo8 (keyA s4).length bc8) (keyA s4) ∧ KRd wa (.slice bo9 (keyA s4).length bc9) (keyA s4) ∧ KRd wa (.slice boa (keyA s4).length bca) (keyA s4)) := ⟨H9.out.1.below (HkA.out _ _ _ _) (HkB.out _ _ _ _) ba, H9.out.2.1.below ba, H9.out.2.2.below ba, KRd.own oa⟩
        clear oa ba H9
        go_wp2_with fail
        refine (sameK_eq HA.out.2.1 HA.out.2.2.2 HKL.out.1).mono ?_
        rintro _ wb ⟨rfl, bb⟩
        have HB : Hid (Av w wb (Sd PA relA gA grA mrA kA nA s4 s4 t6 (i + 1)) (Sd PB relB gB grB mrB kB nB sB sB tB i) f9 vs3 c3 (.slice bo19 nv bc19) vs ∧ KRd wb (.slice bo8 (keyA s4).length bc8) (keyA s4) ∧ KRd wb (.slice bo9 (keyA s4).length bc9) (keyA s4)) := ⟨HA.out.1.below (HkA.out _ _ _ _) (HkB.out _ _ _ _) bb, HA.out.2.1.below bb, HA.out.2.2.1.below bb⟩
        clear bb HA
        go_wp2_with fail
        refine (sameK_eq HB.out.2.2 HB.out.2.1 HKL.out.1).mono ?_
        rintro _ wd ⟨rfl, bd⟩
        have HC : Hid (Av w wd (Sd PA relA gA grA mrA kA nA s4 s4 t6 (i + 1)) (Sd PB relB gB grB mrB kB nB sB sB tB i) f9 vs3 c3 (.slice bo19 nv bc19) vs) := HB.out.1.below (HkA.out _ _ _ _) (HkB.out _ _ _ _) bd
        clear bd HB
        obtain ⟨b', off', e', _, i2⟩ := HK.out.1.below HC.out.bel j2 _ HT.out.2.2.2.2.2.2.1
        cases e'
        have HD3 : Hid (Av w wd.drew (Sd PA relA gA grA mrA kA nA s4 s4 t6 (i + 1)) (Sd PB relB gB grB mrB kB nB sB sB tB i) f9 vs3 c3 (.slice bo19 nv bc19) vs) := HC.out.below (HkA.out _ _ _ _) (HkB.out _ _ _ _) (Below.refl _ wd).drew
        go_upto_region 21 with fail
        go_cut [21, 27] (fun s21 s27 wx => ∃ fb sb outB hitB, s21 = .bool hitB ∧ Av w wx (Sd PA relA gA grA mrA kA nA s4 s4 t6 (i + 1)) (Sd PB relB gB grB mrB kB nB sb sB tB i) fb (vs3 ++ [s27]) (cons5 vs3.length outB c3) (.slice bo19 nv bc19) vs ∧ KRd wx s27 outB ∧ SpB sB k2 hitB sb outB)
        case first =>
          go_region_with (refine (HDB.out.acc HD3.out.b.p HT.out.2.2.2.2.2.2.2.2.1).mono ?_; rintro _ w4 ⟨v4, F4, sb, outB, hitB, rfl, q4⟩)
          all_goals (
            go_wp2_with fail
            go_meet
            obtain ⟨c1, c2, c3', c4, c5⟩ := q4
            obtain ⟨fb, hfb⟩ := HD3.out.accB HDB.out (HkA.out _ _ _ _) c1 c2 c3' c4
            exact ⟨fb, sb, outB, hitB, rfl, hfb, c4.1, c5⟩)
        case rest =>
          obtain ⟨fb, sb, outB, hitB, rfl, hJ, hGone, hSp⟩ := hcut
          obtain ⟨bh, ch, e27⟩ := hGone.form
          subst e27
          obtain ⟨b', off', e', _, i3⟩ := HK.out.1.below hJ.bel j2 _ HT.out.2.2.2.2.2.2.1
          cases e'
          have HE : Hid (Av w wc (Sd PA relA gA grA mrA kA nA s4 s4 t6 (i + 1)) (Sd PB relB gB grB mrB kB nB sb sB tB i) fb (vs3 ++ [Value.slice bh outB.length ch]) (cons5 vs3.length outB c3) (.slice bo19 nv bc19) vs ∧ KRd wc (.slice bh outB.length ch) outB ∧ SpB sB k2 hitB sb outB) := ⟨hJ, hGone, hSp⟩
          have HOB : Hid (outB.length ≤ 1000000000) := HDB.out.ol (HDB.out.iv HT.out.1.b.p) hSp
          clear hJ hGone hSp HC HD3 i2
          go_wp2_with fail
          refine (Rp.acc HDB.out HE.out.1.b.r (avo_no HE.out.1 3) (avo_lt HE.out.1 3) (HDB.out.iv HT.out.1.b.p) HE.out.1.b.rl HE.out.2.2 HT.out.2.2.2.2.2.2.2.2.1 (by have := HE.out.1.b.cn; have := HT.out.2.1; omega)).mono ?_
          rintro _ wf ⟨vf, Rf, tf, rfl, y1, y2, y3, y4, y5, y6⟩
          obtain ⟨bt2, ct2, e6⟩ := y6.form
          subst e6
          have HF : Hid ((∃ f6, Av w wf (Sd PA relA gA grA mrA kA nA s4 s4 t6 (i + 1)) (Sd PB relB gB grB mrB kB nB sb sb tf (i + 1)) f6 (vs3 ++ [Value.slice bh outB.length ch]) (cons5 vs3.length outB c3) (.slice bo19 nv bc19) vs) ∧ KRd wf (.slice bh outB.length ch) outB ∧ KRd wf (.slice bt2 outB.length ct2) outB) := ⟨HE.out.1.refB HDB.out (HkA.out _ _ _ _) y1 y2 y3 (by have := HE.out.1.b.cn; omega) y5, HE.out.1.b.r.krd HE.out.2.1 y5, y6⟩
          clear y1 y2 y3 y4 y5 y6 i3
          have hbb2 : (hitB != hitB) = false := by simp
          obtain ⟨⟨fg, h6⟩, _⟩ := HF.out
          have HFa : Hid (Av w wf (Sd PA relA gA grA mrA kA nA s4 s4 t6 (i + 1)) (Sd PB relB gB grB mrB kB nB sb sb tf (i + 1)) fg (vs3 ++ [Value.slice bh outB.length ch]) (cons5 vs3.length outB c3) (.slice bo19 nv bc19) vs) := h6
          clear h6
          go_wp2_with fail
          refine (sameK_eq HF.out.2.1 HF.out.2.2 HOB.out).mono ?_
          rintro _ wg ⟨rfl, bg2⟩
          have HG : Hid (Av w wg (Sd PA relA gA grA mrA kA nA s4 s4 t6 (i + 1)) (Sd PB relB gB grB mrB kB nB sb sb tf (i + 1)) fg (vs3 ++ [Value.slice bh outB.length ch]) (cons5 vs3.length outB c3) (.slice bo19 nv bc19) vs) := HFa.out.below (HkA.out _ _ _ _) (HkB.out _ _ _ _) bg2
          clear bg2 HF HFa HE
          have HKB : Hid ((keyB sb).length ≤ 1000000000) := Nat.le_trans (HDB.out.le (HDB.out.iv HG.out.b.p)) (by omega)
          go_wp2_with fail
          refine (HDB.out.keys HG.out.b.p).mono ?_
          rintro _ wk ⟨vkk, rfl, ok, bk⟩
          obtain ⟨bok, bck, rfl⟩ := own_form ok
          obtain ⟨fk2, hk2⟩ := HG.out.told (HkA.out _ _ _ _) (HkB.out _ _ _ _) bk ok
          have HH : Hid (Av w wk (Sd PA relA gA grA mrA kA nA s4 s4 t6 (i + 1)) (Sd PB relB gB grB mrB kB nB sb sb tf (i + 1)) fk2 (vs3 ++ [Value.slice bh outB.length ch] ++ [Value.slice bok (keyB sb).length bck]) (cons5 (vs3 ++ [Value.slice bh outB.length ch]).length (keyB sb) (cons5 vs3.length outB c3)) (.slice bo19 nv bc19) vs) := hk2
          clear ok bk hk2 HG
          have HOW : Hid ((wk.alloc (.cells #[.slice bg out.length cg, .slice bo8 (keyA s4).length bc8, .slice bo9 (keyA s4).length bc9, .slice bh outB.length ch, .slice bok (keyB sb).length bck] 22)).ownsRow w.heap.size 22 1 (.slice bo19 nv bc19) nv vs ∧ w.heap.size ≤ (wk.alloc (.cells #[.slice bg out.length cg, .slice bo8 (keyA s4).length bc8, .slice bo9 (keyA s4).length bc9, .slice bh outB.length ch, .slice bok (keyB sb).length bck] 22)).heap.size) := by
            have q := (HH.out.below (HkA.out _ _ _ _) (HkB.out _ _ _ _) ((Below.refl _ wk).alloc (Nat.le_refl _) (.cells #[.slice bg out.length cg, .slice bo8 (keyA s4).length bc8, .slice bo9 (keyA s4).length bc9, .slice bh outB.length ch, .slice bok (keyB sb).length bck] 22)))
            have q2 := q.ow
            rw [← HT.out.2.2.2.2.2.2.2.2.2] at q2
            exact ⟨q2, q.bel.size⟩
          go_wp2_with (at_builtin; refine append_gone _ rfl _ _ 40 rfl w.heap.size 22 y0 (.slice none 0 0) 1 24 Tryz.underlying40 hy hy0 hy1 hy2 rfl (by decide) (.slice bo19 nv bc19) nv vs rfl HOW.out.1 ⟨wk.heap.size, 0, none⟩ 5 5 [Value.slice bg out.length cg, .slice bo8 (keyA s4).length bc8, .slice bo9 (keyA s4).length bc9, .slice bh outB.length ch, .slice bok (keyB sb).length bck] rfl rfl ?g1 ?g2 ?g3 ?g4 ?g5 ?g6 ?_)
          case g1 => exact cells_new wk 22 [Value.slice bg out.length cg, .slice bo8 (keyA s4).length bc8, .slice bo9 (keyA s4).length bc9, .slice bh outB.length ch, .slice bok (keyB sb).length bck]
          case g2 => intro u hu; simp only [List.mem_cons, List.not_mem_nil, or_false] at hu; rcases hu with rfl | rfl | rfl | rfl | rfl <;> rfl
          case g3 => have := HT.out.2.1; have := HT.out.2.2.2.1; have := HT.out.2.2.2.2.2.2.2.2.2; unfold maxLen; omega
          case g4 => have := HT.out.2.1; have := HT.out.2.2.2.1; have := HT.out.2.2.2.2.2.2.2.2.2; omega
          case g5 => exact HOW.out.2
          case g6 => decide
          intro vm wm hom hGm
          obtain ⟨kb, kcap, kcur, rfl, _, hkb2, hkb3, hkb4, _⟩ := own_block hom (by omega)
          obtain ⟨us, hus⟩ : ∃ q : List Value, q = [Value.slice bg out.length cg, .slice bo8 (keyA s4).length bc8, .slice bo9 (keyA s4).length bc9, .slice bh outB.length ch, .slice bok (keyB sb).length bck] := ⟨_, rfl⟩
          obtain ⟨c5, hc5⟩ : ∃ q, q = cons5 (vs3 ++ [Value.slice bh outB.length ch]).length (keyB sb) (cons5 vs3.length outB c3) := ⟨_, rfl⟩
          have hvl := HT.out.2.2.2.1
          have hnv := HT.out.2.2.2.2.2.2.2.2.2
          have hul : us.length = 5 := by rw [hus]; rfl
          have hl5 : (vs ++ us).length = nv + 5 := by rw [List.length_append, hul]; omega
          have hom2 : wm.ownsRow w.heap.size 22 1 (.slice (some ⟨kb, 0, none⟩) (nv + 5) kcap) (vs ++ us).length (vs ++ us) := by rw [hl5, hus]; exact hom
          obtain ⟨fm, hm⟩ : ∃ fm, Av w wm (Sd PA relA gA grA mrA kA nA s4 s4 t6 (i + 1)) (Sd PB relB gB grB mrB kB nB sb sb tf (i + 1)) fm (vs ++ us) c5 (.slice (some ⟨kb, 0, none⟩) (nv + 5) kcap) (vs ++ us) := by
            have e5 : vs3 ++ [Value.slice bh outB.length ch] ++ [Value.slice bok (keyB sb).length bck] = vs ++ us := by rw [HV3.out.1, hus]; simp
            have q := HH.out.kapp (news := us) (HkA.out _ _ _ _) (HkB.out _ _ _ _) hGm hom2
            rw [e5, ← hc5] at q
            exact ⟨_, q⟩
          have hat : ∀ r : Nat, (vs ++ us)[5 * i + r]? = us[r]? := fun r => by rw [List.getElem?_append_right (by omega), hvl, Nat.add_sub_cancel_left]
          have hcel : ∀ r v, us[r]? = some v → wm.cell? ⟨kb, nv + r, none⟩ = some v := fun r v hv => add_cell (hm.ow.cells (g := kb) rfl (nv + r) v (by rw [show nv + r = 5 * i + r by omega, hat]; exact hv))
          have hl3 : vs3.length = 5 * i + 3 := by rw [HV3.out.1]; simp; omega
          have hc3 : c3 = cons5 (5 * i + 2) (keyA s4) (cons5 (5 * i + 1) (keyA s4) (cons5 (5 * i) out (fun j => nums (j / 5) (j % 5) (ns j)))) := by rw [HV3.out.2]; simp [hvl]
          have hc5' : c5 = cons5 (5 * i + 4) (keyB sb) (cons5 (5 * i + 3) outB c3) := by rw [hc5]; simp [hl3]
          have hold : ∀ j, j < 5 * i → c5 j = nums (j / 5) (j % 5) (ns j) := fun j hj => by
            rw [hc5', hc3]
            unfold cons5
            rw [if_neg (by omega), if_neg (by omega), if_neg (by omega), if_neg (by omega), if_neg (by omega)]
          have hlen : ∀ r, r < 5 → (c5 (5 * i + r)).length ≤ 1000000000 := fun r hr => by
            have q1 := HO.out
            have q2 := HOB.out
            have q3 := HKL.out.1
            have q4 := HKB.out
            rw [hc5', hc3]
            unfold cons5
            obtain rfl | rfl | rfl | rfl | rfl : r = 0 ∨ r = 1 ∨ r = 2 ∨ r = 3 ∨ r = 4 := by omega
            all_goals simp
            all_goals omega
          have HM : Hid (Av w wm (Sd PA relA gA grA mrA kA nA s4 s4 t6 (i + 1)) (Sd PB relB gB grB mrB kB nB sb sb tf (i + 1)) fm (vs ++ us) c5 (.slice (some ⟨kb, 0, none⟩) (nv + 5) kcap) (vs ++ us) ∧ (∀ r v, us[r]? = some v → wm.cell? ⟨kb, nv + r, none⟩ = some v) ∧ us.length = 5 ∧ (∀ j, j < 5 * i → c5 j = nums (j / 5) (j % 5) (ns j)) ∧ (∀ r, r < 5 → (c5 (5 * i + r)).length ≤ 1000000000) ∧ Ez wm w.heap.size us (fun r => c5 (5 * i + r)) ∧ Dz us ∧ (kb < wm.heap.size ∧ kb ∉ bls us)) := by
            refine ⟨hm, hcel, hul, hold, hlen, fun r v hv => hm.ez (5 * i + r) v (by rw [hat]; exact hv), fun a b u u' g h1 h2 e e' => ?_, blk_lt hkb2, fun q => (hm.ok kb rfl).2 ?_⟩
            · have := hm.dz (5 * i + a) (5 * i + b) u u' g (by rw [hat]; exact h1) (by rw [hat]; exact h2) e e'
              omega
            · unfold bls at q ⊢
              rw [List.filterMap_append]
              exact List.mem_append_right _ q
          have h26a : (nv : Int) + 5 ≤ (kcap : Int) := by omega
          have h26b : (nv : Int) ≤ 1000 := by have := HT.out.2.1; omega
          have h26c : (nv : Int) ≤ (nv : Int) + 5 := by omega
          clear hom hGm hkb2 hkb3 hkb4 hus hc5 hvl hnv hul hl5 hom2 hm hat hcel hl3 hc3 hc5' hold hlen HOW HH HV3
          go_wp2_with fail
          refine (spoil_any (kb := kb) (off := nv) (N := i) HM.out.2.2.2.2.2.1 HM.out.2.2.2.2.2.2.1 HM.out.2.2.1 HM.out.2.1 HM.out.2.2.2.2.2.2.2 (by have := HT.out.2.1; omega) HM.out.2.2.2.2.1 HM.out.1.bel.size).mono ?_
          rintro _ wz ⟨rfl, x1, x2⟩
          have HN : Hid (Av w wz (Sd PA relA gA grA mrA kA nA s4 s4 t6 (i + 1)) (Sd PB relB gB grB mrB kB nB sb sb tf (i + 1)) fm (vs ++ us) (fun j => nums (j / 5) (j % 5) (if j < 5 * i then ns j else (c5 j).length)) (.slice (some ⟨kb, 0, none⟩) (nv + 5) kcap) (vs ++ us)) := HM.out.1.spoil5 (HkA.out _ _ _ _) (HkB.out _ _ _ _) HT.out.2.2.2.1 HM.out.2.2.1 HM.out.2.2.2.1 x2 x1
          clear x1 x2
          go_wp2_with fail
          go_roundg (min l.length 200 - (i + 1))
          case measure => have h1 := HT.out.2.1; have := HT.out.2.2.1; omega
          case rel =>
            refine ⟨i + 1, fm, vs ++ us, fun j => if j < 5 * i then ns j else (c5 j).length, s4, t6, sb, tf, HT.out.2.1, rfl, by go_num, ?_, HN.out, fun j hj => ?_⟩
            · rw [List.length_append, HM.out.2.2.1, HT.out.2.2.2.1]; omega
            · by_cases e : j < 5 * i
              · simp only [if_pos e]
                exact HT.out.2.2.2.2.1 j e
              · simp only [if_neg e]
                obtain ⟨r, rfl⟩ : ∃ r, j = 5 * i + r := ⟨j - 5 * i, by omega⟩
                exact HM.out.2.2.2.2.1 r (by omega)
    · obtain ⟨bo19, bc19, e19⟩ := own_form hT.ow
      subst e19
      obtain ⟨nv, hnv⟩ : ∃ q : Nat, q = vs.length := ⟨_, rfl⟩
      rw [← hnv] at hT
      have HT : Hid (Av w wr (Sd PA relA gA grA mrA kA nA sA sA tA i) (Sd PB relB gB grB mrB kB nB sB sB tB i) f vs (fun j => nums (j / 5) (j % 5) (ns j)) (.slice bo19 nv bc19) vs ∧ nv = vs.length ∧ nv = 5 * i ∧ i ≤ 200 ∧ (∀ j, j < nv → ns j ≤ 1000000000)) := ⟨hT, hnv, by omega, by omega, fun j hj => hns j (by omega)⟩
      rw [← hnv]
      have hex : ¬ ((i : Int) < (l.length : Int)) ∨ ¬ ((i : Int) < 200) := by omega
      clear hT hlt hgk hvl hns hi hnv
      by_cases h1 : (i : Int) < (l.length : Int)
      case' pos =>
        have h2 : ¬ ((i : Int) < 200) := hex.elim (fun h => absurd h1 h) id
        clear hex
        go_wp2_with fail
        clear h1 h2
      case' neg =>
        clear hex
        go_wp2_with fail
        clear h1
      all_goals
        go_loopg [28] nv (fun gq x wx => ∃ j : Nat, j ≤ nv ∧ gq = nv - j ∧ x = I j ∧ wr = wx)
        case atStart => exact ⟨0, Nat.zero_le _, rfl, rfl, rfl⟩
        case round =>
          obtain ⟨j, hj, hgj, rfl, rfl⟩ := hrel
          by_cases hlt : j < nv
          · have hlt' : (j : Int) < (nv : Int) := by omega
            obtain ⟨v, hv⟩ : ∃ v, vs[j]? = some v := ⟨vs[j]'(by have := HT.out.2.1; omega), List.getElem?_eq_getElem _⟩
            have ho := HT.out.1.ez j v hv
            obtain ⟨bo, bc, rfl⟩ := own_form ho
            rw [nums_len] at ho hv
            obtain ⟨n1, hn1⟩ : ∃ q : Nat, q = ns j := ⟨_, rfl⟩
            rw [← hn1] at ho hv
            have hn2 : n1 ≤ 1000000000 := by rw [hn1]; exact HT.out.2.2.2.2 j hlt
            obtain ⟨kb, rfl, _, _⟩ : ∃ kb, bo19 = some ⟨kb, 0, none⟩ ∧ True ∧ True := by
              obtain ⟨kb, kcap, kcur, e, _⟩ := own_block HT.out.1.ow (by have := HT.out.2.1; omega)
              cases e
              exact ⟨kb, rfl, trivial, trivial⟩
            have hnv1 : (nv : Int) ≤ 1000 := by have := HT.out.2.2.1; have := HT.out.2.2.2.1; omega
            have hn11 : (n1 : Int) ≤ 1000000000 := by omega
            have ck : wr.cell? ⟨kb, j, none⟩ = some (.slice bo n1 bc) := add_cell (HT.out.1.ow.cells (g := kb) rfl j _ hv)
            have HO : Hid (wr.ownsRow w.heap.size 33 1 (.slice bo n1 bc) n1 (nums (j / 5) (j % 5) n1) ∧ j < nv ∧ gk = nv - j ∧ n1 ≤ 1000000000) := ⟨ho, hlt, hgj, hn2⟩
            clear ho hlt hgj hn2 hn1 hv hj
            go_wp2_with fail
            go_loopg [29] n1 (fun gq x wx => ∃ k : Nat, k ≤ n1 ∧ gq = n1 - k ∧ x = I k ∧ wr = wx)
            case atStart => exact ⟨0, Nat.zero_le _, rfl, rfl, rfl⟩
            case round =>
              obtain ⟨k, hk, hgj2, rfl, rfl⟩ := hrel
              by_cases hlt2 : k < n1
              · have hkl' : (k : Int) < (n1 : Int) := by omega
                obtain ⟨b1, rfl, _, _⟩ : ∃ b1, bo = some ⟨b1, 0, none⟩ ∧ (∃ u, wr.cell? ⟨b1, k, none⟩ = some u) ∧ wr.frozen? ⟨b1, k, none⟩ = false := own_spot HO.out.1 hlt2
                have hn1 : (nums (j / 5) (j % 5) n1)[k]? = some (num (j / 5) (j % 5) k) := by
                  unfold nums
                  rw [List.getElem?_map, List.getElem?_range hlt2]
                  rfl
                obtain ⟨t0, ht0⟩ : ∃ t : Nat, t = j / 5 := ⟨_, rfl⟩
                obtain ⟨t00, ht00⟩ : ∃ t : Nat, t = j % 5 := ⟨_, rfl⟩
                obtain ⟨t1, ht1⟩ : ∃ t : Nat, t = 1000000 * t0 := ⟨_, rfl⟩
                obtain ⟨t2, ht2⟩ : ∃ t : Nat, t = 1000 * t00 := ⟨_, rfl⟩
                obtain ⟨t3, ht3⟩ : ∃ t : Nat, t = t1 + t2 := ⟨_, rfl⟩
                obtain ⟨t4, ht4⟩ : ∃ t : Nat, t = t3 + k := ⟨_, rfl⟩
                have hc1 : wr.cell? ⟨b1, k, none⟩ = some (U t4) := by
                  have q := add_cell (World.ownsRow.cells (g := b1) HO.out.1 rfl k _ hn1)
                  rw [q]
                  unfold num
                  congr 2
                  omega
                have hi200 := HT.out.2.2.2.1
                have hi5 := HT.out.2.2.1
                have hj5 := HO.out.2.1
                have hn5 := HO.out.2.2.2
                have w01 : (j : Int) / 5 = (t0 : Int) := by omega
                have w00 : (j : Int) % 5 = (t00 : Int) := by omega
                have w1 : IntKind.i64.wrap (1000000 * (t0 : Int)) = (t1 : Int) := by rw [IntKind.wrap_i64]; omega
                have w2 : IntKind.i64.wrap (1000 * (t00 : Int)) = (t2 : Int) := by rw [IntKind.wrap_i64]; omega
                have w3 : IntKind.i64.wrap ((t1 : Int) + (t2 : Int)) = (t3 : Int) := by rw [IntKind.wrap_i64]; omega
                have w4 : IntKind.i64.wrap ((t3 : Int) + (k : Int)) = (t4 : Int) := by rw [IntKind.wrap_i64]; omega
                have w5 : (t4 : Int) ≤ 2000000000 := by omega
                have w6 : IntKind.u64.wrap (t4 : Int) = (t4 : Int) := by rw [IntKind.wrap_u64]; omega
                have HK2 : Hid (k < n1 ∧ gk = n1 - k) := ⟨hlt2, hgj2⟩
                clear hn1 ht0 ht00 ht1 ht2 ht3 ht4 hi200 hi5 hj5 hn5 hlt2 hgj2 hk
                go_wp2_with fail
                go_roundg (n1 - (k + 1))
                case measure => have h1 := HK2.out.1; have := HK2.out.2; omega
                case rel => exact ⟨k + 1, HK2.out.1, rfl, by go_num, rfl⟩
              · have hkl' : ¬ ((k : Int) < (n1 : Int)) := by omega
                obtain rfl : k = n1 := by omega
                clear hlt2 hgj2 hk
                go_wp2_with fail
                go_roundg (nv - (j + 1))
                case measure => have h1 := HO.out.2.1; have := HO.out.2.2.1; omega
                case rel => exact ⟨j + 1, HO.out.2.1, rfl, by go_num, rfl⟩
          · have hlt' : ¬ ((j : Int) < (nv : Int)) := by omega
            clear hlt hgj hj
            have HKL : Hid (((keyA sA).length ≤ 1000000000 ∧ tA.A ++ tA.B = keyA sA) ∧ ((keyB sB).length ≤ 1000000000 ∧ tB.A ++ tB.B = keyB sB)) := ⟨⟨Nat.le_trans (HDA.out.le (HDA.out.iv HT.out.1.a.p)) (by omega), HDA.out.rkey HT.out.1.a.rl⟩, ⟨Nat.le_trans (HDB.out.le (HDB.out.iv HT.out.1.b.p)) (by omega), HDB.out.rkey HT.out.1.b.rl⟩⟩
            go_wp2_with fail
            refine (HDA.out.keys HT.out.1.a.p).mono ?_
            rintro _ w8 ⟨v8, rfl, o8, b8⟩
            obtain ⟨bo8, bc8, rfl⟩ := own_form o8
            have H8 : Hid (Av w w8 (Sd PA relA gA grA mrA kA nA sA sA tA i) (Sd PB relB gB grB mrB kB nB sB sB tB i) f vs (fun j => nums (j / 5) (j % 5) (ns j)) (.slice bo19 nv bc19) vs ∧ KRd w8 (.slice bo8 (keyA sA).length bc8) (keyA sA)) := ⟨HT.out.1.below (HkA.out _ _ _ _) (HkB.out _ _ _ _) b8, KRd.own o8⟩
            clear o8 b8
            go_wp2_with fail
            refine (H8.out.1.a.r.keys (by have := congrArg List.length HKL.out.1.2; rw [List.length_append] at this; have := HKL.out.1.1; omega)).mono ?_
            rintro _ wa ⟨va, rfl, oa, ba⟩
            rw [HKL.out.1.2] at oa
            obtain ⟨boa, bca, rfl⟩ := own_form oa
            have HA : Hid (Av w wa (Sd PA relA gA grA mrA kA nA sA sA tA i) (Sd PB relB gB grB mrB kB nB sB sB tB i) f vs (fun j => nums (j / 5) (j % 5) (ns j)) (.slice bo19 nv bc19) vs ∧ KRd wa (.slice bo8 (keyA sA).length bc8) (keyA sA) ∧ KRd wa (.slice boa (keyA sA).length bca) (keyA sA)) := ⟨H8.out.1.below (HkA.out _ _ _ _) (HkB.out _ _ _ _) ba, H8.out.2.below ba, KRd.own oa⟩
            clear oa ba H8
            go_wp2_with fail
            refine (sameK_eq HA.out.2.1 HA.out.2.2 HKL.out.1.1).mono ?_
            rintro _ wb ⟨rfl, bb⟩
            have HB : Hid (Av w wb (Sd PA relA gA grA mrA kA nA sA sA tA i) (Sd PB relB gB grB mrB kB nB sB sB tB i) f vs (fun j => nums (j / 5) (j % 5) (ns j)) (.slice bo19 nv bc19) vs) := HA.out.1.below (HkA.out _ _ _ _) (HkB.out _ _ _ _) bb
            clear bb HA
            go_wp2_with fail
            refine (HDB.out.keys HB.out.b.p).mono ?_
            rintro _ wk ⟨v9, rfl, o9, b9⟩
            obtain ⟨bo9, bc9, rfl⟩ := own_form o9
            have H9 : Hid (Av w wk (Sd PA relA gA grA mrA kA nA sA sA tA i) (Sd PB relB gB grB mrB kB nB sB sB tB i) f vs (fun j => nums (j / 5) (j % 5) (ns j)) (.slice bo19 nv bc19) vs ∧ KRd wk (.slice bo9 (keyB sB).length bc9) (keyB sB)) := ⟨HB.out.below (HkA.out _ _ _ _) (HkB.out _ _ _ _) b9, KRd.own o9⟩
            clear o9 b9 HB
            go_wp2_with fail
            refine (H9.out.1.b.r.keys (by have := congrArg List.length HKL.out.2.2; rw [List.length_append] at this; have := HKL.out.2.1; omega)).mono ?_
            rintro _ wl ⟨vl, rfl, ol, bl⟩
            rw [HKL.out.2.2] at ol
            obtain ⟨bol, bcl, rfl⟩ := own_form ol
            have HL : Hid (Av w wl (Sd PA relA gA grA mrA kA nA sA sA tA i) (Sd PB relB gB grB mrB kB nB sB sB tB i) f vs (fun j => nums (j / 5) (j % 5) (ns j)) (.slice bo19 nv bc19) vs ∧ KRd wl (.slice bo9 (keyB sB).length bc9) (keyB sB) ∧ KRd wl (.slice bol (keyB sB).length bcl) (keyB sB)) := ⟨H9.out.1.below (HkA.out _ _ _ _) (HkB.out _ _ _ _) bl, H9.out.2.below bl, KRd.own ol⟩
            clear ol bl H9
            go_wp2_with fail
            refine (sameK_eq HL.out.2.1 HL.out.2.2 HKL.out.2.1).mono ?_
            rintro _ wm ⟨rfl, bm⟩
            have HM : Hid (Below w.heap.size w wm) := (HL.out.1.below (HkA.out _ _ _ _) (HkB.out _ _ _ _) bm).bel
            clear bm HL
            go_wp2_with fail
            refine (head_any _).mono ?_
            rintro _ wn ⟨rfl, bn⟩
            have HE : Hid (Below w.heap.size w wn) := HM.out.trans (bn.mono HM.out.size)
            clear bn
            go_wp2
            go_ret
            exact ⟨rfl, HE.out⟩
end Go.Proofs.YtjcbpejplnaakaaGreat.Mr

namespace Go.Proofs.YtjcbpejplnaakaaGreat.Md
open Go.ChangeShapes Go.WideShapes Go.ChangeAt Go.RowKit

theorem own : ownKnob Tryz.prog.godebug = none := by kernel_rfl
theorem laidOut : laidOutB Tryz.prog = true := by kernel_rfl
end Go.Proofs.YtjcbpejplnaakaaGreat.Md

namespace Go.Proofs.YtjcbpejplnaakaaGreat.Md
open Go.ChangeShapes Go.WideShapes Go.ChangeAt Go.RowKit

theorem u64_nat {z : Int} (h : (Lit.int .u64 z).wf = true) : (z.toNat : Int) = z ∧ z.toNat < 18446744073709551616 := by
  simp [Lit.wf, IntKind.min, IntKind.max, IntKind.bits, IntKind.signed] at h
  omega
/-- keys that are handed in -/
theorem open_keys {H : Type} {enc : TypeId × Value → H} {W : World} {a : Option Addr} {len cap : Nat} {d : DataW H} {p : List MemPlace} (h : DataW.Trod enc Tryz.prog W 0 (fun _ => true) true 22 (.slice a len cap) d p) :
    ∃ l : List Nat, len = l.length ∧ KIn W a l ∧ (∀ x ∈ l, x < 18446744073709551616) ∧ l.length ≤ maxLen := by
  obtain ⟨fuel, hf⟩ := h
  rcases open_ints Tryz.underlying22 Tryz.underlying33 (by kernel_rfl) hf with ⟨hcs, hx⟩ | ⟨x, l, c, zs, hcs, _, hl, hm, hz, hx, hcell, hwz⟩
  · simp [Value.cells] at hcs
    obtain ⟨rfl, rfl, rfl⟩ := hcs
    exact ⟨[], rfl, (fun k x hx => by simp at hx), (fun n hn => by cases hn), Nat.zero_le _⟩
  · simp [Value.cells] at hcs
    obtain ⟨rfl, rfl, rfl⟩ := hcs
    simp at hz
    refine ⟨(zs.take len).map Int.toNat, by simp; omega, fun i v hv => ?_, fun n hn => ?_, by simp; omega⟩
    · rw [List.getElem?_map, Option.map_eq_some_iff] at hv
      obtain ⟨y, hy, rfl⟩ := hv
      have hi : i < (zs.take len).length := (List.getElem?_eq_some_iff.1 hy).1
      have hi2 : i < len ∧ i < zs.length := by simp at hi; omega
      obtain ⟨b, off, spot⟩ := x
      have h0 := hcell 0 (by omega)
      have hspot : spot = none := by simpa [Addr.add] using World.cell?_spot h0
      subst hspot
      have hc := hcell i (by omega)
      rw [Lib.addr_add] at hc
      refine ⟨b, off, rfl, World.block_lt_of_cell? W _ hc, hc.trans ?_⟩
      have hy2 : zs[i]? = some y := by
        rw [List.getElem?_take_of_lt hi2.1] at hy
        exact hy
      rw [List.getD_eq_getElem?_getD, hy2]
      show some (Value.int .u64 y) = some (U y.toNat)
      unfold U
      rw [(u64_nat (hwz y (List.mem_of_getElem? hy2))).1]
    · obtain ⟨y, hy, rfl⟩ := List.mem_map.1 hn
      exact (u64_nat (hwz y (List.mem_of_mem_take hy))).2
end Go.Proofs.YtjcbpejplnaakaaGreat.Md

namespace Go.Proofs.YtjcbpejplnaakaaGreat.modelApart
open Go.ChangeShapes Go.WideShapes Go.ChangeAt Go.RowKit
open Go.Proofs.YtjcbpejplnaakaaGreat.Md

set_option maxRecDepth 100000 in
theorem liftedF (os : Os) (started : os.Started) (H : Type) (enc : TypeId × Value → H) :
    ReturnsInHanded {} Tryz.checked os 4 .any (Rows.modelApartSpec.pre6 enc Tryz.prog Tryz.f4 Rows.modelApartRow.domain false) (Rows.modelApartSpec.post enc Tryz.prog Tryz.f4 false true false false) := by
  refine returnsInHanded_of_change (C := Tryz.checked) own started (by kernel_rfl) Tryz.func4
    (ChangeSpec.witness6 (enc := enc) (C := Tryz.checked) false ⟨#[], #[.int .i64 0, .int .i64 0, .int .i64 0, .int .i64 0, .slice none 0 0], []⟩ 8 (by kernel_rfl) (by kernel_rfl) (by kernel_rfl) (by kernel_rfl)) ?_
  intro W base args ds gs before hval hW hcnd _
  have hW' := hW
  obtain ⟨p, q, hA0, hV, rfl, hfz, hnd⟩ := hW
  have hA : DataW.TrodAll enc Tryz.prog W 0 (fun _ => true) true Tryz.f4.params.toList args.toList ds p := hA0
  rw [Tryz.params4] at hA hval
  obtain ⟨v0, vs0, d0, ds0, p0, q0, hargs, rfl, rfl, h0, r0⟩ := trodAll_cons hA
  obtain ⟨v1, vs1, d1, ds1, p1, q1, rfl, rfl, rfl, h1, r1⟩ := trodAll_cons r0
  obtain ⟨v2, vs2, d2, ds2, p2, q2, rfl, rfl, rfl, h2, r2⟩ := trodAll_cons r1
  obtain ⟨v3, vs3, d3, ds3, p3, q3, rfl, rfl, rfl, h3, r3⟩ := trodAll_cons r2
  obtain ⟨v4, vs4, d4, ds4, p4, q4, rfl, rfl, rfl, h4, r4⟩ := trodAll_cons r3
  obtain ⟨rfl, rfl, rfl⟩ := trodAll_nil r4
  obtain rfl : args = #[v0, v1, v2, v3, v4] := by cases args; simp_all
  obtain ⟨rfl, rfl⟩ := trodVars_none hV
  obtain ⟨a0, rfl, rfl, rfl, w0⟩ := open_int Tryz.underlying3 (hval 0 3 v0 rfl rfl) h0
  obtain ⟨a1, rfl, rfl, rfl, w1⟩ := open_int Tryz.underlying3 (hval 1 3 v1 rfl rfl) h1
  obtain ⟨a2, rfl, rfl, rfl, w2⟩ := open_int Tryz.underlying3 (hval 2 3 v2 rfl rfl) h2
  obtain ⟨a3, rfl, rfl, rfl, w3⟩ := open_int Tryz.underlying3 (hval 3 3 v3 rfl rfl) h3
  obtain ⟨a4, len4, cap4, rfl⟩ := okWide_slice Tryz.underlying22 (hval 4 22 v4 rfl rfl)
  have lt4 : ∀ x ∈ p4, x.block < W.heap.size := by obtain ⟨m, hm⟩ := h4; exact DataW.trod_lt m _ _ _ hm
  obtain ⟨s4, rfl, ib4, kb4, lb4⟩ := open_keys h4
  refine (Mr.apartWalk a0 a1 a2 a3 a4 s4 cap4 W ib4 kb4 lb4).mono fun e W2 ⟨he, bel⟩ => ?_
  subst he
  exact ⟨_, rfl, _, _, _, [], _, [], hW', trodAll_mk1 (shut_bool Tryz.underlying4 _), (trodAll_cons_mk (shut_int Tryz.underlying3 w0) (trodAll_cons_mk (shut_int Tryz.underlying3 w1) (trodAll_cons_mk (shut_int Tryz.underlying3 w2) (trodAll_cons_mk (shut_int Tryz.underlying3 w3) (trodAll_cons_mk (Below.trod laidOut (by kernel_rfl) (of_decide_eq_true (by kernel_rfl)) h4 bel lt4) trodAll_mk0))))), rfl, bel.frame _, fun h => by cases h⟩

theorem provedF : Rows.ModelApartSaid :=
  OpenClaim.holds_of_wide 4 Tryz.f4 rfl rfl rfl rfl rfl rfl rfl ⟨rfl, rfl, rfl, rfl, rfl⟩ rfl rfl rfl rfl rfl (by kernel_rfl) Tryz.func4 (by kernel_rfl)
    (of_decide_eq_true (by kernel_rfl)) (by unfold Func.isWrapper; first | (rw [if_pos (by decide +kernel)]; kernel_rfl) | (rw [if_neg (by decide +kernel)]; exact ⟨rfl, rfl⟩))
    (fun os started H enc _ => liftedF os started H enc)
end Go.Proofs.YtjcbpejplnaakaaGreat.modelApart
