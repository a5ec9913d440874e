import Derived.Test.YtcblichnkakhdaaDoorCdPr
namespace Go.Proofs.YtcblichnkakhdaaDoor.Cd
open Go.RowKit Go.Proofs.YtcblichnkakhdaaDoor.Nm

/-- the tables' bytes -/
def tabB (p : Pr) : List Nat := numB p.gh.length ++ (ghB p.gh ++ (numB p.vs.length ++ (vsB p.vs ++ (numB p.ts.length ++ nsB p.ts))))
/-- what may be written of tables -/
structure TbOk (p : Pr) : Prop where
  q : p.gh.length ≤ 1000
  v : p.vs.length ≤ 1000
  t : p.ts.length ≤ 1000
  vr : ∀ x ∈ p.vs, (-4611686018427387904 < x.1 ∧ x.1 < 4611686018427387904) ∧ (-4611686018427387904 < x.2.1 ∧ x.2.1 < 4611686018427387904) ∧ (-4611686018427387904 < x.2.2 ∧ x.2.2 < 4611686018427387904)
  tr : ∀ n ∈ p.ts, 0 ≤ n ∧ n < 9223372036854775808
theorem sgN_lt {n : Int} (h : -4611686018427387904 < n ∧ n < 4611686018427387904) : sgN n < 9223372036854775808 := by
  unfold sgN
  split <;> omega
theorem vsB_len : ∀ l : List (Int × Int × Int), (∀ x ∈ l, (-4611686018427387904 < x.1 ∧ x.1 < 4611686018427387904) ∧ (-4611686018427387904 < x.2.1 ∧ x.2.1 < 4611686018427387904) ∧ (-4611686018427387904 < x.2.2 ∧ x.2.2 < 4611686018427387904)) → (vsB l).length ≤ 30 * l.length
  | [], _ => Nat.le_refl _
  | x :: l, h => by
    have h1 := vsB_len l (fun y hy => h y (List.mem_cons_of_mem _ hy))
    obtain ⟨h2, h3, h4⟩ := h x (by simp)
    have e2 := numB_ten (sgN_lt h2)
    have e3 := numB_ten (sgN_lt h3)
    have e4 := numB_ten (sgN_lt h4)
    have e : vsB (x :: l) = (numB (sgN x.1) ++ (numB (sgN x.2.1) ++ numB (sgN x.2.2))) ++ vsB l := rfl
    rw [e]
    simp only [List.length_append, List.length_cons]
    omega
theorem nsB_len : ∀ l : List Int, (∀ n ∈ l, 0 ≤ n ∧ n < 9223372036854775808) → (nsB l).length ≤ 10 * l.length
  | [], _ => Nat.le_refl _
  | x :: l, h => by
    have h1 := nsB_len l (fun y hy => h y (List.mem_cons_of_mem _ hy))
    have h2 := h x (by simp)
    have e2 := numB_ten (n := x.toNat) (by omega)
    have e : nsB (x :: l) = numB x.toNat ++ nsB l := rfl
    rw [e]
    simp only [List.length_append, List.length_cons]
    omega
theorem cells3 {wq : World} {B : Nat} {v0 v1 v2 : Value} {T : TypeId} (h : wq.heap[B]? = some (.cells #[v0, v1, v2] T (0, 0))) : wq.cell? ⟨B, 0, none⟩ = some v0 ∧ wq.cell? ⟨B, 1, none⟩ = some v1 ∧ wq.cell? ⟨B, 2, none⟩ = some v2 := by
  refine ⟨?_, ?_, ?_⟩
  all_goals
    simp only [World.cell?, h]
    rfl
theorem cells6 {wq : World} {B : Nat} {v0 v1 v2 v3 v4 v5 : Value} {T : TypeId} (h : wq.heap[B]? = some (.cells #[v0, v1, v2, v3, v4, v5] T (0, 0))) : wq.cell? ⟨B, 0, none⟩ = some v0 ∧ wq.cell? ⟨B, 1, none⟩ = some v1 ∧ wq.cell? ⟨B, 2, none⟩ = some v2 ∧ wq.cell? ⟨B, 3, none⟩ = some v3 ∧ wq.cell? ⟨B, 4, none⟩ = some v4 ∧ wq.cell? ⟨B, 5, none⟩ = some v5 := by
  refine ⟨?_, ?_, ?_, ?_, ?_, ?_⟩
  all_goals
    simp only [World.cell?, h]
    rfl
theorem vC_at {l : List (Int × Int × Int)} {k : Nat} (h : k < l.length) : (vC l)[k * 3]? = some (.int .i64 l[k].1) ∧ (vC l)[k * 3 + 1]? = some (.int .i64 l[k].2.1) ∧ (vC l)[k * 3 + 2]? = some (.int .i64 l[k].2.2) := by
  induction l generalizing k with
  | nil => simp at h
  | cons x l ih =>
    cases k with
    | zero => exact ⟨rfl, rfl, rfl⟩
    | succ k =>
      have e : vC (x :: l) = [.int .i64 x.1, .int .i64 x.2.1, .int .i64 x.2.2] ++ vC l := rfl
      have h1 := ih (k := k) (by simpa using h)
      rw [e, show (k + 1) * 3 = k * 3 + 3 by omega]
      refine ⟨?_, ?_, ?_⟩
      · rw [List.getElem?_append_right (by simp)]
        simpa using h1.1
      · rw [List.getElem?_append_right (by simp)]
        have : k * 3 + 3 + 1 - [Value.int .i64 x.1, .int .i64 x.2.1, .int .i64 x.2.2].length = k * 3 + 1 := by simp
        rw [this]
        simpa using h1.2.1
      · rw [List.getElem?_append_right (by simp)]
        have : k * 3 + 3 + 2 - [Value.int .i64 x.1, .int .i64 x.2.1, .int .i64 x.2.2].length = k * 3 + 2 := by simp
        rw [this]
        simpa using h1.2.2
set_option maxHeartbeats 25600000 in
set_option maxRecDepth 100000 in
/-- the tables are written -/
theorem wtab_any {W : World} {b base m : Nat} {p : Pr} {fs : List Value} {xs : List Nat} {qo vo tto oo co : Option Addr} {qc vc tc no oc nc cc : Nat} (h : Wr W b base fs xs) (hl : xs.length ≤ 999999000000) (hp : TbOk p) (hm : m ≤ b) (hq : Rd W qo m (bC p.gh)) (hv : Rd W vo m (vC p.vs)) (ht : Rd W tto m (iC p.ts)) :
    Calls Tryd.prog 50 #[.pointer (some ⟨b, 0, none⟩), .agg #[.slice qo p.gh.length qc, .slice vo p.vs.length vc, .slice tto p.ts.length tc, .slice oo no oc, .int .i64 p.miss, .slice co nc cc]] W fun e W' => e = .returned (.tuple #[]) ∧ Wr W' b base fs (xs ++ tabB p) ∧ Fo b W W' := by
  have hb1 : Below W.heap.size W (W.alloc (.cells #[.slice qo p.gh.length qc, .slice vo p.vs.length vc, .slice tto p.ts.length tc, .slice oo no oc, .int .i64 p.miss, .slice co nc cc] 29)) := (Below.refl _ W).alloc (Nat.le_refl _) _
  have HW1 := show Hid _ from h.below hb1
  have HF1 : Hid (Fo b W (W.alloc (.cells #[.slice qo p.gh.length qc, .slice vo p.vs.length vc, .slice tto p.ts.length tc, .slice oo no oc, .int .i64 p.miss, .slice co nc cc] 29))) := Fo.of_below hb1 h.blt
  have HK1 := show Hid _ from Kb.new h (.cells #[.slice qo p.gh.length qc, .slice vo p.vs.length vc, .slice tto p.ts.length tc, .slice oo no oc, .int .i64 p.miss, .slice co nc cc] 29)
  have HR : Hid (Rd (W.alloc (.cells #[.slice qo p.gh.length qc, .slice vo p.vs.length vc, .slice tto p.ts.length tc, .slice oo no oc, .int .i64 p.miss, .slice co nc cc] 29)) qo m (bC p.gh) ∧ Rd (W.alloc (.cells #[.slice qo p.gh.length qc, .slice vo p.vs.length vc, .slice tto p.ts.length tc, .slice oo no oc, .int .i64 p.miss, .slice co nc cc] 29)) vo m (vC p.vs) ∧ Rd (W.alloc (.cells #[.slice qo p.gh.length qc, .slice vo p.vs.length vc, .slice tto p.ts.length tc, .slice oo no oc, .int .i64 p.miss, .slice co nc cc] 29)) tto m (iC p.ts) ∧ m ≤ b) := ⟨hq.below hb1, hv.below hb1, ht.below hb1, hm⟩
  have HP : Hid (TbOk p ∧ xs.length ≤ 999999000000) := ⟨hp, hl⟩
  obtain ⟨c0, c1, c2, c3, c4, c5⟩ := cells6 HK1.out.h
  have hq1 : (p.gh.length : Int) ≤ 1000 := by have := hp.q; omega
  have hv1 : (p.vs.length : Int) ≤ 1000 := by have := hp.v; omega
  have ht1 : (p.ts.length : Int) ≤ 1000 := by have := hp.t; omega
  clear h hl hp hm hq hv ht hb1
  go_enter Tryd.func50, Tryd.ntmps50
  go_wp2_with fail
  generalize (W.alloc (.cells #[.slice qo p.gh.length qc, .slice vo p.vs.length vc, .slice tto p.ts.length tc, .slice oo no oc, .int .i64 p.miss, .slice co nc cc] 29)) = w1 at *
  generalize W.heap.size = pb at *
  refine Calls.mono (wnum_any HW1.out (by have := HP.out.2; omega) (by omega)) ?_
  rintro e w2 ⟨rfl, hw2, hf2⟩
  have H2 : Hid (Wr w2 b base fs (xs ++ numB p.gh.length) ∧ Fo b w1 w2) := ⟨hw2, hf2⟩
  clear hw2 hf2 c0 c1 c2 c3 c4 c5
  obtain ⟨c0, c1, c2, c3, c4, c5⟩ := cells6 (HK1.out.fo H2.out.2).h
  go_wp2_with fail
  clear c0 c1 c2 c3 c4 c5
  go_loopg [18] p.gh.length (fun gq x wr => ∃ j : Nat, j ≤ p.gh.length ∧ gq = p.gh.length - j ∧ x = .int .i64 (j : Int) ∧ Wr wr b base fs (xs ++ numB p.gh.length ++ ghB (p.gh.take j)) ∧ Fo b w1 wr)
  case atStart => exact ⟨0, Nat.zero_le _, rfl, rfl, by show Wr w2 b base fs (xs ++ numB p.gh.length ++ []); rw [List.append_nil]; exact H2.out.1, H2.out.2⟩
  case round =>
    obtain ⟨j, hj, hgk, rfl, hw, hf⟩ := hrel
    have HG : Hid (gk = p.gh.length - j ∧ Wr wr b base fs (xs ++ numB p.gh.length ++ ghB (p.gh.take j)) ∧ Fo b w1 wr) := ⟨hgk, hw, hf⟩
    clear hgk hw hf
    by_cases hlt : j < p.gh.length
    · have hlt' : (j : Int) < (p.gh.length : Int) := by omega
      obtain ⟨g, f, rfl, _, _, cg⟩ := (HR.out.1.fo HW1.out HR.out.2.2.2 HG.out.2.2) j (.bool p.gh[j]) (by simp [bC, hlt])
      have HT : Hid (ghB (p.gh.take (j + 1)) = ghB (p.gh.take j) ++ [if p.gh[j] then 1 else 0]) := ghB_take hlt
      have HLt : Hid (j < p.gh.length) := hlt
      have HGh := show Hid _ from wgh_any (g := p.gh[j]) HG.out.2.1 (by
        have h1 := HP.out
        have h2 := numB_ten (n := p.gh.length) (by have := h1.1.q; omega)
        have h3 : (ghB (p.gh.take j)).length ≤ 1000 := by simp [ghB]; omega
        simp only [List.length_append]
        omega)
      generalize p.gh[j] = gv at *
      clear hlt
      go_wp2_with fail
      refine Calls.mono HGh.out ?_
      rintro e w3 ⟨rfl, hw, hf⟩
      have HE : Hid (Wr w3 b base fs (xs ++ numB p.gh.length ++ ghB (p.gh.take (j + 1))) ∧ Fo b w1 w3) := ⟨by rw [HT.out, ← List.append_assoc]; exact hw, HG.out.2.2.trans hf⟩
      clear hw hf HGh cg
      go_wp2_with fail
      go_roundg (p.gh.length - (j + 1))
      case measure => have h1 := HG.out.1; have := HLt.out; omega
      case rel => exact ⟨j + 1, HLt.out, rfl, by go_num, HE.out.1, HE.out.2⟩
    · have hlt' : ¬ (j : Int) < (p.gh.length : Int) := by omega
      obtain rfl : j = p.gh.length := by omega
      have H3 : Hid (Wr wr b base fs (xs ++ numB p.gh.length ++ ghB p.gh) ∧ Fo b w1 wr) := ⟨by have h1 := HG.out.2.1; rw [List.take_length] at h1; exact h1, HG.out.2.2⟩
      obtain ⟨c0, c1, c2, c3, c4, c5⟩ := cells6 (HK1.out.fo H3.out.2).h
      clear HG hlt hj H2
      have hgl : (xs ++ numB p.gh.length ++ ghB p.gh).length ≤ 999999002000 := by
        have h1 := HP.out
        have h2 := numB_ten (n := p.gh.length) (by have := h1.1.q; omega)
        have h3 : (ghB p.gh).length = p.gh.length := by simp [ghB]
        have h4 := h1.1.q
        simp only [List.length_append]
        omega
      obtain ⟨ys, hys⟩ : ∃ ys, ys = xs ++ numB p.gh.length ++ ghB p.gh := ⟨_, rfl⟩
      rw [← hys] at H3 hgl
      have HYs : Hid (ys = xs ++ numB p.gh.length ++ ghB p.gh ∧ ys.length ≤ 999999002000) := ⟨hys, hgl⟩
      clear hys hgl
      go_wp2_with fail
      refine Calls.mono (wnum_any H3.out.1 (by have := HYs.out.2; omega) (by omega)) ?_
      rintro e w4 ⟨rfl, hw4, hf4⟩
      have H4 : Hid (Wr w4 b base fs (ys ++ numB p.vs.length) ∧ Fo b w1 w4) := ⟨hw4, H3.out.2.trans hf4⟩
      clear hw4 hf4 c0 c1 c2 c3 c4 c5 H3
      obtain ⟨c0, c1, c2, c3, c4, c5⟩ := cells6 (HK1.out.fo H4.out.2).h
      go_wp2_with fail
      clear c0 c1 c2 c3 c4 c5
      go_loopg [34] p.vs.length (fun gq x wr => ∃ j : Nat, j ≤ p.vs.length ∧ gq = p.vs.length - j ∧ x = .int .i64 (j : Int) ∧ Wr wr b base fs (ys ++ numB p.vs.length ++ vsB (p.vs.take j)) ∧ Fo b w1 wr)
      case atStart => exact ⟨0, Nat.zero_le _, rfl, rfl, by show Wr w4 b base fs (ys ++ numB p.vs.length ++ []); rw [List.append_nil]; exact H4.out.1, H4.out.2⟩
      case round =>
        obtain ⟨j, hj, hgk, rfl, hw, hf⟩ := hrel
        have HG : Hid (gk = p.vs.length - j ∧ Wr wr b base fs (ys ++ numB p.vs.length ++ vsB (p.vs.take j)) ∧ Fo b w1 wr) := ⟨hgk, hw, hf⟩
        have hbl : (ys ++ numB p.vs.length ++ vsB (p.vs.take j)).length ≤ 999999040000 := by
          have h1 := HP.out.1
          have h2 := numB_ten (n := p.vs.length) (by have := h1.v; omega)
          have h3 := vsB_len (p.vs.take j) (fun x hx => h1.vr x (List.mem_of_mem_take hx))
          have h4 := h1.v
          have h5 := HYs.out.2
          have h6 : (p.vs.take j).length ≤ p.vs.length := by simp; omega
          simp only [List.length_append]
          omega
        clear hgk hw hf
        by_cases hlt : j < p.vs.length
        · have hlt' : (j : Int) < (p.vs.length : Int) := by omega
          obtain ⟨e0, e1, e2⟩ := vC_at hlt
          have HRr := show Hid _ from HR.out.2.1.fo HW1.out HR.out.2.2.2 HG.out.2.2
          obtain ⟨g, f, rfl, _, _, d0⟩ := HRr.out _ _ e0
          obtain ⟨g', f', e', _, _, d1⟩ := HRr.out _ _ e1
          cases e'
          obtain ⟨g', f', e', _, _, d2⟩ := HRr.out _ _ e2
          cases e'
          rw [← Nat.add_assoc] at d1 d2
          have HT : Hid (vsB (p.vs.take (j + 1)) = vsB (p.vs.take j) ++ (numB (sgN p.vs[j].1) ++ (numB (sgN p.vs[j].2.1) ++ numB (sgN p.vs[j].2.2)))) := vsB_take hlt
          have HLt : Hid (j < p.vs.length ∧ (ys ++ numB p.vs.length ++ vsB (p.vs.take j)).length ≤ 999999040000) := ⟨hlt, hbl⟩
          have HVr := show Hid _ from HP.out.1.vr p.vs[j] (List.getElem_mem hlt)
          generalize p.vs[j] = va at *
          obtain ⟨y0, y1, y2⟩ := va
          dsimp only at *
          have hb5 : Below wr.heap.size wr (wr.alloc (.cells #[.int .i64 y0, .int .i64 y1, .int .i64 y2] 60)) := (Below.refl _ wr).alloc (Nat.le_refl _) _
          have HW5 := show Hid _ from HG.out.2.1.below hb5
          have HF5 : Hid (Fo b w1 (wr.alloc (.cells #[.int .i64 y0, .int .i64 y1, .int .i64 y2] 60))) := HG.out.2.2.trans (Fo.of_below hb5 HG.out.2.1.blt)
          have HK5 := show Hid _ from Kb.new HG.out.2.1 (.cells #[.int .i64 y0, .int .i64 y1, .int .i64 y2] 60)
          clear hlt hbl e0 e1 e2 hb5 HRr
          go_wp2_with fail
          clear d0 d1 d2
          generalize (wr.alloc (.cells #[.int .i64 y0, .int .i64 y1, .int .i64 y2] 60)) = w5 at *
          generalize wr.heap.size = vb at *
          refine Calls.mono (wsgn_any HW5.out (by have h1 := HLt.out.2; have h2 := numB_ten (sgN_lt HVr.out.1); have h3 := numB_ten (sgN_lt HVr.out.2.1); simp only [List.length_append] at h1 ⊢; omega) HVr.out.1) ?_
          rintro e w6 ⟨rfl, hw, hf⟩
          have H6 : Hid (Wr w6 b base fs (ys ++ numB p.vs.length ++ vsB (p.vs.take j) ++ numB (sgN y0)) ∧ Fo b w1 w6 ∧ Kb w6 b vb (.cells #[.int .i64 y0, .int .i64 y1, .int .i64 y2] 60)) := ⟨hw, HF5.out.trans hf, HK5.out.fo hf⟩
          clear hw hf
          obtain ⟨k0, k1, k2⟩ := cells3 H6.out.2.2.h
          go_wp2_with fail
          clear k0 k1 k2
          refine Calls.mono (wsgn_any H6.out.1 (by have h1 := HLt.out.2; have h2 := numB_ten (sgN_lt HVr.out.1); have h3 := numB_ten (sgN_lt HVr.out.2.1); simp only [List.length_append] at h1 ⊢; omega) HVr.out.2.1) ?_
          rintro e w7 ⟨rfl, hw, hf⟩
          have H7 : Hid (Wr w7 b base fs (ys ++ numB p.vs.length ++ vsB (p.vs.take j) ++ numB (sgN y0) ++ numB (sgN y1)) ∧ Fo b w1 w7 ∧ Kb w7 b vb (.cells #[.int .i64 y0, .int .i64 y1, .int .i64 y2] 60)) := ⟨hw, H6.out.2.1.trans hf, H6.out.2.2.fo hf⟩
          clear hw hf
          obtain ⟨k0, k1, k2⟩ := cells3 H7.out.2.2.h
          go_wp2_with fail
          clear k0 k1 k2
          refine Calls.mono (wsgn_any H7.out.1 (by have h1 := HLt.out.2; have h2 := numB_ten (sgN_lt HVr.out.1); have h3 := numB_ten (sgN_lt HVr.out.2.1); simp only [List.length_append] at h1 ⊢; omega) HVr.out.2.2) ?_
          rintro e w8 ⟨rfl, hw, hf⟩
          have H8 : Hid (Wr w8 b base fs (ys ++ numB p.vs.length ++ vsB (p.vs.take j) ++ numB (sgN y0) ++ numB (sgN y1) ++ numB (sgN y2)) ∧ Fo b w1 w8 ∧ Kb w8 b vb (.cells #[.int .i64 y0, .int .i64 y1, .int .i64 y2] 60)) := ⟨hw, H7.out.2.1.trans hf, H7.out.2.2.fo hf⟩
          clear hw hf
          have HE : Hid (Wr w8 b base fs (ys ++ numB p.vs.length ++ vsB (p.vs.take (j + 1))) ∧ Fo b w1 w8) := ⟨by rw [HT.out]; have h1 := H8.out.1; simp only [List.append_assoc] at h1 ⊢; exact h1, H8.out.2.1⟩
          clear H6 H7 H8 HW5 HF5 HK5
          go_wp2_with fail
          go_roundg (p.vs.length - (j + 1))
          case measure => have h1 := HG.out.1; have := HLt.out.1; omega
          case rel => exact ⟨j + 1, HLt.out.1, rfl, by go_num, HE.out.1, HE.out.2⟩
        · have hlt' : ¬ (j : Int) < (p.vs.length : Int) := by omega
          obtain rfl : j = p.vs.length := by omega
          have H3 : Hid (Wr wr b base fs (ys ++ numB p.vs.length ++ vsB p.vs) ∧ Fo b w1 wr) := ⟨by have h1 := HG.out.2.1; rw [List.take_length] at h1; exact h1, HG.out.2.2⟩
          rw [List.take_length] at hbl
          obtain ⟨zs, hzs⟩ : ∃ zs, zs = ys ++ numB p.vs.length ++ vsB p.vs := ⟨_, rfl⟩
          rw [← hzs] at H3 hbl
          have HZs : Hid (zs = ys ++ numB p.vs.length ++ vsB p.vs ∧ zs.length ≤ 999999040000) := ⟨hzs, hbl⟩
          obtain ⟨c0, c1, c2, c3, c4, c5⟩ := cells6 (HK1.out.fo H3.out.2).h
          clear HG hlt hj H4 hzs hbl
          go_wp2_with fail
          refine Calls.mono (wnum_any H3.out.1 (by have := HZs.out.2; omega) (by omega)) ?_
          rintro e w6 ⟨rfl, hw6, hf6⟩
          have H6 : Hid (Wr w6 b base fs (zs ++ numB p.ts.length) ∧ Fo b w1 w6) := ⟨hw6, H3.out.2.trans hf6⟩
          clear hw6 hf6 c0 c1 c2 c3 c4 c5 H3
          obtain ⟨c0, c1, c2, c3, c4, c5⟩ := cells6 (HK1.out.fo H6.out.2).h
          go_wp2_with fail
          clear c0 c1 c2 c3 c4 c5
          go_loopg [59] p.ts.length (fun gq x wr => ∃ j : Nat, j ≤ p.ts.length ∧ gq = p.ts.length - j ∧ x = .int .i64 (j : Int) ∧ Wr wr b base fs (zs ++ numB p.ts.length ++ nsB (p.ts.take j)) ∧ Fo b w1 wr)
          case atStart => exact ⟨0, Nat.zero_le _, rfl, rfl, by show Wr w6 b base fs (zs ++ numB p.ts.length ++ []); rw [List.append_nil]; exact H6.out.1, H6.out.2⟩
          case round =>
            obtain ⟨j, hj, hgk, rfl, hw, hf⟩ := hrel
            have HG : Hid (gk = p.ts.length - j ∧ Wr wr b base fs (zs ++ numB p.ts.length ++ nsB (p.ts.take j)) ∧ Fo b w1 wr) := ⟨hgk, hw, hf⟩
            clear hgk hw hf
            by_cases hlt : j < p.ts.length
            · have hlt' : (j : Int) < (p.ts.length : Int) := by omega
              have h0 := HP.out.1.tr p.ts[j] (List.getElem_mem hlt)
              obtain ⟨y, hy⟩ : ∃ y : Nat, p.ts[j] = (y : Int) := ⟨p.ts[j].toNat, by omega⟩
              obtain ⟨g, f, rfl, _, _, d0⟩ := (HR.out.2.2.1.fo HW1.out HR.out.2.2.2 HG.out.2.2) j (.int .i64 p.ts[j]) (by simp [iC, hlt])
              have HT : Hid (nsB (p.ts.take (j + 1)) = nsB (p.ts.take j) ++ numB y) := by show _ = _; rw [nsB_take hlt, hy, Int.toNat_natCast]
              have HLt : Hid (j < p.ts.length) := hlt
              have HNm := show Hid _ from wnum_any (n := y) HG.out.2.1 (by
                have h1 := HP.out.1
                have h2 := numB_ten (n := p.ts.length) (by have := h1.t; omega)
                have h3 := nsB_len (p.ts.take j) (fun x hx => h1.tr x (List.mem_of_mem_take hx))
                have h4 := h1.t
                have h5 := HZs.out.2
                have h6 : (p.ts.take j).length ≤ p.ts.length := by simp; omega
                simp only [List.length_append]
                omega) (by omega)
              rw [hy] at d0
              clear hlt h0 hy
              go_wp2_with fail
              refine Calls.mono HNm.out ?_
              rintro e w7 ⟨rfl, hw, hf⟩
              have HE : Hid (Wr w7 b base fs (zs ++ numB p.ts.length ++ nsB (p.ts.take (j + 1))) ∧ Fo b w1 w7) := ⟨by rw [HT.out, ← List.append_assoc]; exact hw, HG.out.2.2.trans hf⟩
              clear hw hf HNm d0
              go_wp2_with fail
              go_roundg (p.ts.length - (j + 1))
              case measure => have h1 := HG.out.1; have := HLt.out; omega
              case rel => exact ⟨j + 1, HLt.out, rfl, by go_num, HE.out.1, HE.out.2⟩
            · have hlt' : ¬ (j : Int) < (p.ts.length : Int) := by omega
              obtain rfl : j = p.ts.length := by omega
              have HE : Hid (Wr wr b base fs (xs ++ tabB p) ∧ Fo b W wr) := ⟨by
                have h1 := HG.out.2.1
                rw [List.take_length, HZs.out.1, HYs.out.1] at h1
                unfold tabB
                simp only [List.append_assoc] at h1 ⊢
                exact h1, HF1.out.trans HG.out.2.2⟩
              clear HG hlt hj H6
              go_wp2_with fail
              go_end0
              exact ⟨rfl, HE.out.1, HE.out.2⟩
end Go.Proofs.YtcblichnkakhdaaDoor.Cd
