import Derived.Test.YtjcbpejplnaakaaGreatJC
import Derived.Test.YtjcbpejplnaakaaGreatMdClk
import Derived.Test.YtjcbpejplnaakaaGreatMdTwc
set_option linter.unusedSimpArgs false
namespace Go.Proofs.YtjcbpejplnaakaaGreat.Mr
open Go.RowKit Go.Maps Go.Proofs.YtjcbpejplnaakaaGreat.Nm Go.Proofs.YtjcbpejplnaakaaGreat.Md

/-- the numbers of keys are those of a row of pairs -/
def Agr (N : Nat → Option Nat) (ps : List (Nat × Bool)) : Prop := ∀ q ∈ ps, N q.1 = some (if q.2 then 1 else 0)
def fb (ps : List (Nat × Bool)) : List Nat := ps.map Prod.fst
theorem fb_snoc (l : List (Nat × Bool)) (y : Nat) (b : Bool) : fb (l ++ [(y, b)]) = fb l ++ [y] := by simp [fb]
theorem fb_len (l : List (Nat × Bool)) : (fb l).length = l.length := List.length_map ..
theorem Agr.step {N : Nat → Option Nat} {l : List (Nat × Bool)} {y : Nat} {b : Bool} (h : Agr N (l ++ [(y, b)])) (hn : (fb (l ++ [(y, b)])).Nodup) : Agr (nset N y 0) ((y, false) :: l) := by
  intro q hq
  rcases List.mem_cons.1 hq with rfl | hq2
  · simp [nset]
  · have hne : q.1 ≠ y := by
      rintro rfl
      rw [fb_snoc] at hn
      exact (List.nodup_append.1 hn).2.2 q.1 (List.mem_map.2 ⟨q, hq2, rfl⟩) q.1 (by simp) rfl
    unfold nset
    rw [if_neg hne]
    exact h q (by simp [hq2])
theorem fb_rot {l : List (Nat × Bool)} {y : Nat} {b : Bool} (hn : (fb (l ++ [(y, b)])).Nodup) : (fb ((y, false) :: l)).Nodup := by
  rw [fb_snoc] at hn
  have h := List.nodup_append.1 hn
  exact List.nodup_cons.2 ⟨fun e => h.2.2 y e y (by simp) rfl, h.1⟩
section
variable {w0 w w' w1 w4 : World} {g m kd c x y z : Nat} {V : Vs} {F : List Nat} {l A B G H O X : List Nat} {N : Nat → Option Nat} {n p : Nat} {v : Value} {s : St} {ps lr : List (Nat × Bool)}
theorem Rr.grown (h : Rr w X v l) (hm : m ∈ X) (hg : w.grownBy w' (some m)) : Rr w' X v l :=
  h.same fun b e => hg.block b (h.lt b e) fun e2 => h.2 b e (by simp only [Option.some.injEq] at e2; rw [e2]; exact hm)
/-- a row's last key, where it lies -/
theorem Rr.end_ (h : Rr w X v (l ++ [y])) : ∃ b k, v = .slice (some ⟨b, 0, none⟩) (l.length + 1) k ∧ w.cell? ⟨b, l.length, none⟩ = some (U y) := by
  obtain ⟨b, cap, cur, rfl, _⟩ := own_block h.1 (by simp)
  obtain ⟨_, _, e1, h1⟩ := KRd.own h.1
  cases e1
  obtain ⟨g1, e2, _, i1⟩ := h1 l.length y (by simp)
  cases e2
  exact ⟨b, cap, by rw [show (l ++ [y]).length = l.length + 1 by simp], i1⟩
set_option maxHeartbeats 3200000 in
set_option maxRecDepth 100000 in
theorem one_n (h : Rc w0 w g m kd c F V ⟨A, B, G, H, N, n, p, O⟩) (hl : A.length + B.length + G.length + H.length + O.length ≤ 100000000) (hx : x < 18446744073709551616) (hn : n < maxLen) (hf : A.length + B.length ≠ c) : Calls Tryz.prog 26 #[.pointer (some ⟨g, 0, none⟩), U x] w fun e w' => e = .returned (.tuple #[]) ∧ ∃ V', Rc w0 w' g m kd c F V' ⟨(x :: A), B, G, H, (nset N x 0), (ncnt N n x), p, O⟩ := by
  obtain ⟨va, vb, vg, vh, vo⟩ := V
  have H0 : Hid (Rc w0 w g m kd c F ⟨va, vb, vg, vh, vo⟩ ⟨A, B, G, H, N, n, p, O⟩) := h
  have HL : Hid (A.length + B.length + G.length + H.length + O.length ≤ 100000000) := hl
  have HN : Hid (x < 18446744073709551616 ∧ n < maxLen) := ⟨hx, hn⟩
  have HF : Hid (A.length + B.length ≠ c) := hf
  clear h hl hx hn hf
  go_enter Tryz.func26, Tryz.ntmps26
  go_wp2_with fail
  refine (full_no H0.out (by have hl := HL.out; (try simp only [List.length_append, List.length_cons, List.length_nil] at hl ⊢); omega) HF.out).mono ?_
  rintro _ w1 ⟨rfl, h1⟩
  have H1 : Hid (Rc w0 w1 g m kd c F ⟨va, vb, vg, vh, vo⟩ ⟨A, B, G, H, N, n, p, O⟩) := h1
  clear h1 H0
  have c2 : w1.cell? ⟨g, 2, none⟩ = some va := H1.out.cell 2
  go_wp2_with fail
  refine (ahead_any (x := x) H1.out.ra.rl (by have hl := HL.out; (try simp only [List.length_append, List.length_cons, List.length_nil] at hl ⊢); omega)).mono ?_
  rintro _ w2 ⟨u, rfl, ho2, hb2⟩
  obtain ⟨b2, n2, k2, rfl⟩ := own_any ho2
  clear c2
  have h2 := H1.out.below hb2
  have e2 : w2.cell? ⟨g, 2, none⟩ = some va := h2.cell 2
  have f2 : w2.frozen? ⟨g, 2, none⟩ = false := h2.nf 2
  have H2 : Hid (Rc w0 (w2.setCell ⟨g, 2, none⟩ (.slice b2 n2 k2)) g m kd c F ⟨.slice b2 n2 k2, vb, vg, vh, vo⟩ ⟨(x :: A), B, G, H, N, n, p, O⟩) := H1.out.setA hb2 ho2
  clear h2 hb2 ho2 H1
  go_upto_region 7 with fail
  generalize w2.setCell ⟨g, 2, none⟩ (.slice b2 n2 k2) = v2 at *
  clear e2 f2
  have c3 : v2.cell? ⟨g, 6, none⟩ = some ((.map (some m))) := H2.out.cell 6
  obtain ⟨w3, hu3, hk3, hg3⟩ := H2.out.bk.put (k := x) HN.out.1 HN.out.2 0
  have H3 : Hid (Rc w0 w3 g m kd c F ⟨.slice b2 n2 k2, vb, vg, vh, vo⟩ ⟨(x :: A), B, G, H, (nset N x 0), (ncnt N n x), p, O⟩) := H2.out.num (v := 0) hk3 hg3
  clear hk3 hg3 H2
  go_wp2
  go_end0
  exact ⟨rfl, _, H3.out⟩
set_option maxHeartbeats 3200000 in
set_option maxRecDepth 100000 in
theorem one_f (h : Rc w0 w g m kd c F V ⟨(l ++ [y]), B, G, H, N, n, p, O⟩) (hl : (l ++ [y]).length + B.length + G.length + H.length + O.length ≤ 100000000) (hk : kd ≠ 2) (hx : x < 18446744073709551616) (hn : n < maxLen) (hf : (l ++ [y]).length + B.length = c) : Calls Tryz.prog 26 #[.pointer (some ⟨g, 0, none⟩), U x] w fun e w' => e = .returned (.tuple #[]) ∧ ∃ V', Rc w0 w' g m kd c F V' ⟨(x :: l), B, G, H, (nset N x 0), (ncnt N n x), p, (O ++ [y])⟩ := by
  obtain ⟨va, vb, vg, vh, vo⟩ := V
  have H0 : Hid (Rc w0 w g m kd c F ⟨va, vb, vg, vh, vo⟩ ⟨(l ++ [y]), B, G, H, N, n, p, O⟩) := h
  have HL : Hid ((l ++ [y]).length + B.length + G.length + H.length + O.length ≤ 100000000) := hl
  have HKD : Hid (kd ≠ 2) := hk
  have HN : Hid (x < 18446744073709551616 ∧ n < maxLen) := ⟨hx, hn⟩
  have HF : Hid ((l ++ [y]).length + B.length = c) := hf
  clear h hl hk hx hn hf
  go_enter Tryz.func26, Tryz.ntmps26
  go_wp2_with fail
  refine (full_yes H0.out (by have hl := HL.out; (try simp only [List.length_append, List.length_cons, List.length_nil] at hl ⊢); omega) HF.out).mono ?_
  rintro _ w1 ⟨rfl, h1⟩
  have H1 : Hid (Rc w0 w1 g m kd c F ⟨va, vb, vg, vh, vo⟩ ⟨(l ++ [y]), B, G, H, N, n, p, O⟩) := h1
  clear h1 H0
  have HS : Hid (Rc w0 w1 g m kd c F ⟨va, vb, vg, vh, vo⟩ ⟨(l ++ [y]), B, G, H, N, n, p, O⟩) := H1.out
  clear H1
  go_wp2_with fail
  go_loopg [] 0 (fun gq wr => gq = 0 ∧ Rc w0 wr g m kd c F ⟨va, vb, vg, vh, vo⟩ ⟨(l ++ [y]), B, G, H, N, n, p, O⟩)
  case atStart => exact ⟨rfl, HS.out⟩
  case round =>
    obtain ⟨_, hr⟩ := hrel
    have HR : Hid (Rc w0 wr g m kd c F ⟨va, vb, vg, vh, vo⟩ ⟨(l ++ [y]), B, G, H, N, n, p, O⟩) := hr
    clear hr HS
    have c0 : wr.cell? ⟨g, 0, none⟩ = some (I kd) := HR.out.cell 0
    have hkd : ((kd : Int) == 2) = false := by rw [beq_eq_false_iff_ne]; have := HKD.out; omega
    go_wp2_with fail
    go_quiet (fail)
    have HQ : Hid (Rc w0 (wr.drewN nq) g m kd c F ⟨va, vb, vg, vh, vo⟩ ⟨(l ++ [y]), B, G, H, N, n, p, O⟩) := HR.out.below (Go.Proofs.YtjcbpejplnaakaaGreat.Nm.below_drewN _ nq)
    generalize wr.drewN nq = wq at *
    clear c0 hkd HR
    go_wp2_with fail
    refine (evA_any (l := l) (x := y) HQ.out rfl (by have hl := HL.out; (try simp only [List.length_append, List.length_cons, List.length_nil] at hl ⊢); omega) (by have hl := HL.out; (try simp only [List.length_append, List.length_cons, List.length_nil] at hl ⊢); omega)).mono ?_
    rintro _ w2 ⟨rfl, ⟨p2, q2, r2, t2, u2⟩, h2⟩
    have H2 : Hid (Rc w0 w2 g m kd c F ⟨p2, q2, r2, t2, u2⟩ ⟨l, B, G, H, N, n, p, (O ++ [y])⟩) := h2
    clear h2 HQ
    have c3 : w2.cell? ⟨g, 2, none⟩ = some p2 := H2.out.cell 2
    go_wp2_with fail
    refine (ahead_any (x := x) H2.out.ra.rl (by have hl := HL.out; (try simp only [List.length_append, List.length_cons, List.length_nil] at hl ⊢); omega)).mono ?_
    rintro _ w3 ⟨u, rfl, ho3, hb3⟩
    obtain ⟨b3, n3, k3, rfl⟩ := own_any ho3
    clear c3
    have h3 := H2.out.below hb3
    have e3 : w3.cell? ⟨g, 2, none⟩ = some p2 := h3.cell 2
    have f3 : w3.frozen? ⟨g, 2, none⟩ = false := h3.nf 2
    have H3 : Hid (Rc w0 (w3.setCell ⟨g, 2, none⟩ (.slice b3 n3 k3)) g m kd c F ⟨.slice b3 n3 k3, q2, r2, t2, u2⟩ ⟨(x :: l), B, G, H, N, n, p, (O ++ [y])⟩) := H2.out.setA hb3 ho3
    clear h3 hb3 ho3 H2
    go_upto_region 7 with fail
    generalize w3.setCell ⟨g, 2, none⟩ (.slice b3 n3 k3) = v3 at *
    clear e3 f3
    have c4 : v3.cell? ⟨g, 6, none⟩ = some ((.map (some m))) := H3.out.cell 6
    obtain ⟨w4, hu4, hk4, hg4⟩ := H3.out.bk.put (k := x) HN.out.1 HN.out.2 0
    have H4 : Hid (Rc w0 w4 g m kd c F ⟨.slice b3 n3 k3, q2, r2, t2, u2⟩ ⟨(x :: l), B, G, H, (nset N x 0), (ncnt N n x), p, (O ++ [y])⟩) := H3.out.num (v := 0) hk4 hg4
    clear hk4 hg4 H3
    go_wp2
    go_end0
    exact ⟨rfl, _, H4.out⟩
set_option maxHeartbeats 3200000 in
set_option maxRecDepth 100000 in
theorem one_c (h : Rc w0 w g m kd c F V ⟨(fb ps), B, G, H, N, n, p, O⟩) (hl : (fb ps).length + B.length + G.length + H.length + O.length ≤ 100000000) (hk : kd = 2) (hx : x < 18446744073709551616) (hn : n < maxLen) (hf : (fb ps).length + B.length = c) (ha : Agr N ps) (hnd : (fb ps).Nodup) (hU : ∀ q ∈ ps, q.1 < 18446744073709551616) (hr : Mb.rot ps = lr ++ [(z, false)]) (hp : 0 < ps.length) : Calls Tryz.prog 26 #[.pointer (some ⟨g, 0, none⟩), U x] w fun e w' => e = .returned (.tuple #[]) ∧ ∃ V' M, Rc w0 w' g m kd c F V' ⟨x :: fb lr, B, G, H, nset M x 0, ncnt M n x, p, O ++ [z]⟩ ∧ Agr M lr := by
  obtain ⟨va, vb, vg, vh, vo⟩ := V
  have H0 : Hid (Rc w0 w g m kd c F ⟨va, vb, vg, vh, vo⟩ ⟨(fb ps), B, G, H, N, n, p, O⟩) := h
  have HL : Hid ((fb ps).length + B.length + G.length + H.length + O.length ≤ 100000000) := hl
  have HKD : Hid (kd = 2) := hk
  have HN : Hid (x < 18446744073709551616 ∧ n < maxLen) := ⟨hx, hn⟩
  have HF : Hid ((fb ps).length + B.length = c) := hf
  have HA : Hid (Agr N ps ∧ (fb ps).Nodup ∧ ∀ q ∈ ps, q.1 < 18446744073709551616) := ⟨ha, hnd, hU⟩
  have HRT : Hid (Mb.rot ps = lr ++ [(z, false)]) := hr
  have HP : Hid (0 < ps.length) := hp
  clear h hl hk hx hn hf ha hnd hU hr hp
  go_enter Tryz.func26, Tryz.ntmps26
  go_wp2_with fail
  refine (full_yes H0.out (by have hl := HL.out; (try simp only [List.length_append, List.length_cons, List.length_nil] at hl ⊢); omega) HF.out).mono ?_
  rintro _ w1 ⟨rfl, h1⟩
  have H1 : Hid (Rc w0 w1 g m kd c F ⟨va, vb, vg, vh, vo⟩ ⟨(fb ps), B, G, H, N, n, p, O⟩) := h1
  clear h1 H0
  have HS : Hid (Rc w0 w1 g m kd c F ⟨va, vb, vg, vh, vo⟩ ⟨(fb ps), B, G, H, N, n, p, O⟩) := H1.out
  clear H1
  go_wp2_with fail
  go_loopg [] (Mb.cnt ps) (fun gq wr => ∃ qs M V, Rc w0 wr g m kd c F V ⟨fb qs, B, G, H, M, n, p, O⟩ ∧ Agr M qs ∧ Mb.rot qs = Mb.rot ps ∧ gq = Mb.cnt qs ∧ (fb qs).Nodup ∧ qs.length = ps.length ∧ ∀ q ∈ qs, q.1 < 18446744073709551616)
  case atStart => exact ⟨ps, N, _, HS.out, HA.out.1, rfl, rfl, HA.out.2.1, rfl, HA.out.2.2⟩
  case round =>
    clear HS
    obtain ⟨qs, M, ⟨va, vb, vg, vh, vo⟩, hr, ha, hro, hgk, hnd, hln, hlt⟩ := hrel
    obtain ⟨lq, y, b, rfl⟩ := Mb.snoc_of (ps := qs) (by have := HP.out; omega)
    have hmem : (y, b) ∈ lq ++ [(y, b)] := by simp
    have HR : Hid (Rc w0 wr g m kd c F ⟨va, vb, vg, vh, vo⟩ ⟨fb lq ++ [y], B, G, H, M, n, p, O⟩) := by rw [← fb_snoc lq y b]; exact hr
    have HI : Hid (Agr M (lq ++ [(y, b)]) ∧ Mb.rot (lq ++ [(y, b)]) = Mb.rot ps ∧ gk = Mb.cnt (lq ++ [(y, b)]) ∧ (fb (lq ++ [(y, b)])).Nodup ∧ (lq ++ [(y, b)]).length = ps.length ∧ (∀ q ∈ lq ++ [(y, b)], q.1 < 18446744073709551616) ∧ M y = some (if b then 1 else 0) ∧ y < 18446744073709551616 ∧ (fb lq ++ [y]).length + B.length + G.length + H.length + O.length ≤ 100000000) := by
      refine ⟨ha, hro, hgk, hnd, hln, hlt, ha _ hmem, hlt _ hmem, ?_⟩
      have h1 := HL.out
      rw [← fb_snoc lq y b, fb_len, hln]
      rw [fb_len] at h1
      exact h1
    clear hr ha hro hgk hnd hln hlt hmem
    obtain ⟨b1, k1, ev, hce⟩ := HR.out.ra.end_
    have ev : va = .slice (some ⟨b1, 0, none⟩) ((fb lq).length + 1) k1 := ev
    subst ev
    have hj : ((fb lq).length : Int) ≤ 100000000 := by have := HI.out.2.2.2.2.2.2.2.2; simp only [List.length_append, List.length_cons, List.length_nil] at this; omega
    have c2 : wr.cell? ⟨g, 2, none⟩ = some (.slice (some ⟨b1, 0, none⟩) ((fb lq).length + 1) k1) := HR.out.cell 2
    generalize hjj : (fb lq).length = j1 at *
    obtain ⟨n1, hn1⟩ : ∃ n1 : Nat, n1 = j1 + 1 := ⟨_, rfl⟩
    rw [← hn1] at HR c2
    have hw1 : IntKind.i64.wrap ((n1 : Int) - 1) = (j1 : Int) := by rw [IntKind.wrap_i64]; omega
    have hi1 : (j1 : Int) < (n1 : Int) := by omega
    clear hn1 hjj
    have c0 : wr.cell? ⟨g, 0, none⟩ = some (I 2) := by rw [show (2 : Int) = ((kd : Nat) : Int) by rw [HKD.out]; rfl]; exact HR.out.cell 0
    have c6 : wr.cell? ⟨g, 6, none⟩ = some (.map (some m)) := HR.out.cell 6
    cases b with
    | true =>
      have hlk : ∀ d, (Instr.lookup 57 (.map (some m)) (U y) false).run Tryz.prog (wr.drewN d) = .ok (I 1) (wr.drewN d) := fun d => look_is (v := 1) (HR.out.below (Go.Proofs.YtjcbpejplnaakaaGreat.Nm.below_drewN _ d)).bk HI.out.2.2.2.2.2.2.2.1 HI.out.2.2.2.2.2.2.1
      go_wp2_with fail
      go_quiet (fail)
      have HQ : Hid (Rc w0 (wr.drewN nq) g m kd c F ⟨.slice (some ⟨b1, 0, none⟩) n1 k1, vb, vg, vh, vo⟩ ⟨fb lq ++ [y], B, G, H, M, n, p, O⟩) := HR.out.below (Go.Proofs.YtjcbpejplnaakaaGreat.Nm.below_drewN _ nq)
      generalize wr.drewN nq = wq at *
      clear c0 c2 c6 hlk hce HR hw1 hi1 hj
      have c2 : wq.cell? ⟨g, 2, none⟩ = some (.slice (some ⟨b1, 0, none⟩) n1 k1) := HQ.out.cell 2
      go_wp2_with fail
      refine (last_any (l := fb lq) (x := y) HQ.out.ra.1 (Nat.le_trans (show (fb lq ++ [y]).length ≤ 100000000 by have := HI.out.2.2.2.2.2.2.2.2; omega) (by omega))).mono ?_
      rintro _ w5 ⟨u, rfl, ho5, hb5⟩
      obtain ⟨b5, n5, k5, rfl⟩ := own_any ho5
      have H5 : Hid (Rc w0 w5 g m kd c F ⟨.slice (some ⟨b1, 0, none⟩) n1 k1, vb, vg, vh, vo⟩ ⟨fb lq ++ [y], B, G, H, M, n, p, O⟩ ∧ Rr w5 (g :: m :: (vo.ownBlock.toList ++ F)) (.slice b5 n5 k5) (fb lq)) := ⟨HQ.out.below hb5, Rr.mk_ ho5 HQ.out.xlt⟩
      clear ho5 hb5 HQ c2
      have c6 : w5.cell? ⟨g, 6, none⟩ = some (.map (some m)) := H5.out.1.cell 6
      obtain ⟨w6, hu6, hk6, hg6⟩ := H5.out.1.bk.put (k := y) HI.out.2.2.2.2.2.2.2.1 HN.out.2 0
      have H6 : Hid (Rc w0 w6 g m kd c F ⟨.slice (some ⟨b1, 0, none⟩) n1 k1, vb, vg, vh, vo⟩ ⟨fb lq ++ [y], B, G, H, nset M y 0, ncnt M n y, p, O⟩ ∧ Rr w6 (g :: m :: (vo.ownBlock.toList ++ F)) (.slice b5 n5 k5) (fb lq)) := ⟨H5.out.1.num (v := 0) hk6 hg6, H5.out.2.grown (by simp) hg6⟩
      clear hk6 hg6 H5
      go_upto_region 4 with fail
      clear hu6 c6
      go_wp2_with fail
      refine (ahead_any (x := y) H6.out.2.rl (Nat.le_trans (show (fb lq).length ≤ 100000000 by have := HI.out.2.2.2.2.2.2.2.2; simp only [List.length_append, List.length_cons, List.length_nil] at this; omega) (by omega))).mono ?_
      rintro _ w7 ⟨u, rfl, ho7, hb7⟩
      obtain ⟨b7, n7, k7, rfl⟩ := own_any ho7
      have h7 := H6.out.1.below hb7
      have e7 : w7.cell? ⟨g, 2, none⟩ = some (.slice (some ⟨b1, 0, none⟩) n1 k1) := h7.cell 2
      have f7 : w7.frozen? ⟨g, 2, none⟩ = false := h7.nf 2
      have H8 : Hid (Rc w0 (w7.setCell ⟨g, 2, none⟩ (.slice b7 n7 k7)) g m kd c F ⟨.slice b7 n7 k7, vb, vg, vh, vo⟩ ⟨fb ((y, false) :: lq), B, G, H, nset M y 0, n, p, O⟩) := by
        have q := H6.out.1.setA hb7 ho7
        have e : ncnt M n y = n := by unfold ncnt; rw [HI.out.2.2.2.2.2.2.1]; rfl
        rw [e] at q
        exact q
      clear h7 ho7 hb7 H6
      go_wp2_with fail
      go_roundg (Mb.cnt ((y, false) :: lq))
      case measure => have h1 := HI.out.2.2.1; rw [Mb.cnt_snoc] at h1; rw [Mb.cnt_cons]; simp at h1 ⊢; omega
      case rel =>
        refine ⟨(y, false) :: lq, nset M y 0, _, H8.out, HI.out.1.step HI.out.2.2.2.1, ?_, rfl, fb_rot HI.out.2.2.2.1, ?_, fun q hq => ?_⟩
        · rw [← Mb.rot_step]; exact HI.out.2.1
        · have := HI.out.2.2.2.2.1; simp at this ⊢; exact this
        · rcases List.mem_cons.1 hq with e | e
          · rw [e]; exact HI.out.2.2.2.2.2.2.2.1
          · exact HI.out.2.2.2.2.2.1 q (by simp [e])
    | false =>
      have hlk : ∀ d, (Instr.lookup 57 (.map (some m)) (U y) false).run Tryz.prog (wr.drewN d) = .ok (I 0) (wr.drewN d) := fun d => look_is (v := 0) (HR.out.below (Go.Proofs.YtjcbpejplnaakaaGreat.Nm.below_drewN _ d)).bk HI.out.2.2.2.2.2.2.2.1 HI.out.2.2.2.2.2.2.1
      obtain ⟨rfl, rfl⟩ : lq = lr ∧ y = z := by
        have := HI.out.2.1
        rw [Mb.rot_stop, HRT.out] at this
        have h2 := List.append_inj' this rfl
        exact ⟨h2.1, by simpa using h2.2⟩
      go_wp2_with fail
      go_quiet (fail)
      have HQ : Hid (Rc w0 (wr.drewN nq) g m kd c F ⟨.slice (some ⟨b1, 0, none⟩) n1 k1, vb, vg, vh, vo⟩ ⟨(fb lq ++ [y]), B, G, H, M, n, p, O⟩) := HR.out.below (Go.Proofs.YtjcbpejplnaakaaGreat.Nm.below_drewN _ nq)
      generalize wr.drewN nq = wq at *
      clear c0 c2 c6 hlk hce HR hw1 hi1 hj HL
      have HL : Hid ((fb lq ++ [y]).length + B.length + G.length + H.length + O.length ≤ 100000000) := HI.out.2.2.2.2.2.2.2.2
      go_wp2_with fail
      refine (evA_any (l := (fb lq)) (x := y) HQ.out rfl (by have hl := HL.out; (try simp only [List.length_append, List.length_cons, List.length_nil] at hl ⊢); omega) (by have hl := HL.out; (try simp only [List.length_append, List.length_cons, List.length_nil] at hl ⊢); omega)).mono ?_
      rintro _ w2 ⟨rfl, ⟨p2, q2, r2, t2, u2⟩, h2⟩
      have H2 : Hid (Rc w0 w2 g m kd c F ⟨p2, q2, r2, t2, u2⟩ ⟨(fb lq), B, G, H, M, n, p, (O ++ [y])⟩) := h2
      clear h2 HQ
      have c3 : w2.cell? ⟨g, 2, none⟩ = some p2 := H2.out.cell 2
      go_wp2_with fail
      refine (ahead_any (x := x) H2.out.ra.rl (by have hl := HL.out; (try simp only [List.length_append, List.length_cons, List.length_nil] at hl ⊢); omega)).mono ?_
      rintro _ w3 ⟨u, rfl, ho3, hb3⟩
      obtain ⟨b3, n3, k3, rfl⟩ := own_any ho3
      clear c3
      have h3 := H2.out.below hb3
      have e3 : w3.cell? ⟨g, 2, none⟩ = some p2 := h3.cell 2
      have f3 : w3.frozen? ⟨g, 2, none⟩ = false := h3.nf 2
      have H3 : Hid (Rc w0 (w3.setCell ⟨g, 2, none⟩ (.slice b3 n3 k3)) g m kd c F ⟨.slice b3 n3 k3, q2, r2, t2, u2⟩ ⟨(x :: (fb lq)), B, G, H, M, n, p, (O ++ [y])⟩) := H2.out.setA hb3 ho3
      clear h3 hb3 ho3 H2
      go_upto_region 7 with fail
      generalize w3.setCell ⟨g, 2, none⟩ (.slice b3 n3 k3) = v3 at *
      clear e3 f3
      have c4 : v3.cell? ⟨g, 6, none⟩ = some ((.map (some m))) := H3.out.cell 6
      obtain ⟨w4, hu4, hk4, hg4⟩ := H3.out.bk.put (k := x) HN.out.1 HN.out.2 0
      have H4 : Hid (Rc w0 w4 g m kd c F ⟨.slice b3 n3 k3, q2, r2, t2, u2⟩ ⟨(x :: (fb lq)), B, G, H, (nset M x 0), (ncnt M n x), p, (O ++ [y])⟩) := H3.out.num (v := 0) hk4 hg4
      clear hk4 hg4 H3
      go_wp2
      go_end0
      exact ⟨rfl, _, M, H4.out, fun q hq => HI.out.1 q (by simp [hq])⟩
end
end Go.Proofs.YtjcbpejplnaakaaGreat.Mr

set_option linter.unusedSimpArgs false
namespace Go.Proofs.YtjcbpejplnaakaaGreat.Mr
open Go.RowKit Go.Maps Go.Proofs.YtjcbpejplnaakaaGreat.Nm Go.Proofs.YtjcbpejplnaakaaGreat.Md

section
variable {w0 w w' w1 w4 : World} {g m kd c x y z : Nat} {V : Vs} {F : List Nat} {l k a' A B G H O : List Nat} {N : Nat → Option Nat} {n p : Nat} {v : Nat} {s : St}
theorem wo_erase {l : List Nat} (h : l.Nodup) : wo l x = l.erase x := by
  unfold wo
  rw [List.Nodup.erase_eq_filter h]
set_option maxHeartbeats 3200000 in
set_option maxRecDepth 100000 in
theorem two_nk (h : Rc w0 w g m kd c F V ⟨A, B, G, H, N, n, p, O⟩) (hl : A.length + B.length + G.length + H.length + O.length ≤ 100000000) (hx : x ∈ G) (hf : A.length + B.length ≠ c) : Calls Tryz.prog 23 #[.pointer (some ⟨g, 0, none⟩), U x] w fun e w' => e = .returned (.tuple #[]) ∧ ∃ V', Rc w0 w' g m kd c F V' ⟨A, (x :: B), (wo G x), H, N, n, p, O⟩ := by
  obtain ⟨va, vb, vg, vh, vo⟩ := V
  have H0 : Hid (Rc w0 w g m kd c F ⟨va, vb, vg, vh, vo⟩ ⟨A, B, G, H, N, n, p, O⟩) := h
  have HL : Hid (A.length + B.length + G.length + H.length + O.length ≤ 100000000) := hl
  have HX : Hid (x ∈ G) := hx
  have HF : Hid (A.length + B.length ≠ c) := hf
  clear h hl hx hf
  go_enter Tryz.func23, Tryz.ntmps23
  have c1 : w.cell? ⟨g, 4, none⟩ = some vg := H0.out.cell 4
  go_wp2_with fail
  refine (rhas_yes H0.out.rg.rl.1 (by have hl := HL.out; (try simp only [List.length_append, List.length_cons, List.length_nil] at hl ⊢); omega) HX.out).mono ?_
  rintro _ w ⟨rfl, rfl⟩
  clear c1
  go_wp2_with fail
  refine (full_no H0.out (by have hl := HL.out; (try simp only [List.length_append, List.length_cons, List.length_nil] at hl ⊢); omega) HF.out).mono ?_
  rintro _ w2 ⟨rfl, h2⟩
  have H2 : Hid (Rc w0 w2 g m kd c F ⟨va, vb, vg, vh, vo⟩ ⟨A, B, G, H, N, n, p, O⟩) := h2
  clear h2 H0
  have c3 : w2.cell? ⟨g, 4, none⟩ = some vg := H2.out.cell 4
  go_wp2_with fail
  refine (without_any (x := x) H2.out.rg.rl.1 (by have hl := HL.out; (try simp only [List.length_append, List.length_cons, List.length_nil] at hl ⊢); omega)).mono ?_
  rintro _ w3 ⟨u, rfl, ho3, hb3⟩
  obtain ⟨b3, n3, k3, rfl⟩ := own_any ho3
  clear c3
  have h3 := H2.out.below hb3
  have e3 : w3.cell? ⟨g, 4, none⟩ = some vg := h3.cell 4
  have f3 : w3.frozen? ⟨g, 4, none⟩ = false := h3.nf 4
  have H3 : Hid (Rc w0 (w3.setCell ⟨g, 4, none⟩ (.slice b3 n3 k3)) g m kd c F ⟨va, vb, .slice b3 n3 k3, vh, vo⟩ ⟨A, B, (wo G x), H, N, n, p, O⟩) := H2.out.setG hb3 ho3
  clear h3 hb3 ho3 H2
  go_upto_region 11 with fail
  generalize w3.setCell ⟨g, 4, none⟩ (.slice b3 n3 k3) = v3 at *
  clear e3 f3
  have c4 : v3.cell? ⟨g, 3, none⟩ = some vb := H3.out.cell 3
  go_wp2_with fail
  refine (ahead_any (x := x) H3.out.rb.rl (by have hl := HL.out; (try simp only [List.length_append, List.length_cons, List.length_nil] at hl ⊢); omega)).mono ?_
  rintro _ w4 ⟨u, rfl, ho4, hb4⟩
  obtain ⟨b4, n4, k4, rfl⟩ := own_any ho4
  clear c4
  have h4 := H3.out.below hb4
  have e4 : w4.cell? ⟨g, 3, none⟩ = some vb := h4.cell 3
  have f4 : w4.frozen? ⟨g, 3, none⟩ = false := h4.nf 3
  have H4 : Hid (Rc w0 (w4.setCell ⟨g, 3, none⟩ (.slice b4 n4 k4)) g m kd c F ⟨va, .slice b4 n4 k4, .slice b3 n3 k3, vh, vo⟩ ⟨A, (x :: B), (wo G x), H, N, n, p, O⟩) := H3.out.setB hb4 ho4
  clear h4 hb4 ho4 H3
  go_wp2
  go_end0
  exact ⟨rfl, _, H4.out⟩
set_option maxHeartbeats 3200000 in
set_option maxRecDepth 100000 in
theorem two_nn (h : Rc w0 w g m kd c F V ⟨A, B, G, H, N, n, p, O⟩) (hl : A.length + B.length + G.length + H.length + O.length ≤ 100000000) (hx : x ∉ G) (hf : A.length + B.length ≠ c) : Calls Tryz.prog 23 #[.pointer (some ⟨g, 0, none⟩), U x] w fun e w' => e = .returned (.tuple #[]) ∧ ∃ V', Rc w0 w' g m kd c F V' ⟨(x :: A), B, G, H, N, n, p, O⟩ := by
  obtain ⟨va, vb, vg, vh, vo⟩ := V
  have H0 : Hid (Rc w0 w g m kd c F ⟨va, vb, vg, vh, vo⟩ ⟨A, B, G, H, N, n, p, O⟩) := h
  have HL : Hid (A.length + B.length + G.length + H.length + O.length ≤ 100000000) := hl
  have HX : Hid (x ∉ G) := hx
  have HF : Hid (A.length + B.length ≠ c) := hf
  clear h hl hx hf
  go_enter Tryz.func23, Tryz.ntmps23
  have c1 : w.cell? ⟨g, 4, none⟩ = some vg := H0.out.cell 4
  go_wp2_with fail
  refine (rhas_no H0.out.rg.rl.1 (by have hl := HL.out; (try simp only [List.length_append, List.length_cons, List.length_nil] at hl ⊢); omega) HX.out).mono ?_
  rintro _ w ⟨rfl, rfl⟩
  clear c1
  go_wp2_with fail
  refine (full_no H0.out (by have hl := HL.out; (try simp only [List.length_append, List.length_cons, List.length_nil] at hl ⊢); omega) HF.out).mono ?_
  rintro _ w2 ⟨rfl, h2⟩
  have H2 : Hid (Rc w0 w2 g m kd c F ⟨va, vb, vg, vh, vo⟩ ⟨A, B, G, H, N, n, p, O⟩) := h2
  clear h2 H0
  have c3 : w2.cell? ⟨g, 2, none⟩ = some va := H2.out.cell 2
  go_wp2_with fail
  refine (ahead_any (x := x) H2.out.ra.rl (by have hl := HL.out; (try simp only [List.length_append, List.length_cons, List.length_nil] at hl ⊢); omega)).mono ?_
  rintro _ w3 ⟨u, rfl, ho3, hb3⟩
  obtain ⟨b3, n3, k3, rfl⟩ := own_any ho3
  clear c3
  have h3 := H2.out.below hb3
  have e3 : w3.cell? ⟨g, 2, none⟩ = some va := h3.cell 2
  have f3 : w3.frozen? ⟨g, 2, none⟩ = false := h3.nf 2
  have H3 : Hid (Rc w0 (w3.setCell ⟨g, 2, none⟩ (.slice b3 n3 k3)) g m kd c F ⟨.slice b3 n3 k3, vb, vg, vh, vo⟩ ⟨(x :: A), B, G, H, N, n, p, O⟩) := H2.out.setA hb3 ho3
  clear h3 hb3 ho3 H2
  go_wp2
  go_end0
  exact ⟨rfl, _, H3.out⟩
set_option maxHeartbeats 3200000 in
set_option maxRecDepth 100000 in
theorem two_fkt (h : Rc w0 w g m kd c F V ⟨(l ++ [y]), B, G, H, N, n, p, O⟩) (hl : (l ++ [y]).length + B.length + G.length + H.length + O.length ≤ 100000000) (hc : c ≤ 1048576) (hx : x ∈ G) (hf : (l ++ [y]).length + B.length = c) (ha : max 1 (c / 4) < (l ++ [y]).length) (ht : max 1 (c / 2) < (y :: G).length) (hz : y :: G = k ++ [z]) : Calls Tryz.prog 23 #[.pointer (some ⟨g, 0, none⟩), U x] w fun e w' => e = .returned (.tuple #[]) ∧ ∃ V', Rc w0 w' g m kd c F V' ⟨l, (x :: B), (wo k x), H, N, n, p, (O ++ [y])⟩ := by
  obtain ⟨va, vb, vg, vh, vo⟩ := V
  have H0 : Hid (Rc w0 w g m kd c F ⟨va, vb, vg, vh, vo⟩ ⟨(l ++ [y]), B, G, H, N, n, p, O⟩) := h
  have HL : Hid ((l ++ [y]).length + B.length + G.length + H.length + O.length ≤ 100000000) := hl
  have HC : Hid (c ≤ 1048576) := hc
  have HX : Hid (x ∈ G) := hx
  have HF : Hid ((l ++ [y]).length + B.length = c) := hf
  have HA : Hid (max 1 (c / 4) < (l ++ [y]).length) := ha
  have HT : Hid (max 1 (c / 2) < (y :: G).length) := ht
  have HZ : Hid (y :: G = k ++ [z]) := hz
  clear h hl hc hx hf ha ht hz
  go_enter Tryz.func23, Tryz.ntmps23
  have c1 : w.cell? ⟨g, 4, none⟩ = some vg := H0.out.cell 4
  go_wp2_with fail
  refine (rhas_yes H0.out.rg.rl.1 (by have hl := HL.out; (try simp only [List.length_append, List.length_cons, List.length_nil] at hl ⊢); omega) HX.out).mono ?_
  rintro _ w ⟨rfl, rfl⟩
  clear c1
  go_wp2_with fail
  refine (full_yes H0.out (by have hl := HL.out; (try simp only [List.length_append, List.length_cons, List.length_nil] at hl ⊢); omega) HF.out).mono ?_
  rintro _ w2 ⟨rfl, h2⟩
  have H2 : Hid (Rc w0 w2 g m kd c F ⟨va, vb, vg, vh, vo⟩ ⟨(l ++ [y]), B, G, H, N, n, p, O⟩) := h2
  clear h2 H0
  obtain ⟨sb3, sc3, se3⟩ := H2.out.ra.form
  obtain ⟨fl3, hf3⟩ : ∃ q : Nat, q = (l ++ [y]).length := ⟨_, rfl⟩
  have sf3 : va = .slice sb3 fl3 sc3 := by rw [hf3]; exact se3
  clear se3
  subst sf3
  have cc3 : w2.cell? ⟨g, 1, none⟩ = some (I c) := H2.out.cell 1
  have ca3 : w2.cell? ⟨g, 2, none⟩ = some (.slice sb3 fl3 sc3) := H2.out.cell 2
  obtain ⟨q3, hq3⟩ : ∃ q : Nat, q = c / 4 := ⟨_, rfl⟩
  have hw3 : IntKind.i64.wrap ((c : Int) / 4) = (q3 : Int) := by have := HC.out; rw [IntKind.wrap_i64]; omega
  have hv3 : (q3 : Int) ≤ 1048576 := by have := HC.out; omega
  obtain ⟨mx3, hx3⟩ : ∃ q : Nat, q = max 1 q3 := ⟨_, rfl⟩
  have hm3 : (if (1 : Int) < (q3 : Int) then (q3 : Int) else 1) = (mx3 : Int) := by split <;> omega
  have hn3 : (if 1 < q3 then (q3 : Int) else 1) = (mx3 : Int) := by split <;> omega
  have hg3 : ((mx3 : Int) < (fl3 : Int)) := by have := HA.out; omega
  clear hq3 hx3 hf3
  go_wp2_with fail
  go_quiet (fail)
  have H103 : Hid (Rc w0 (w2.drewN nq) g m kd c F ⟨.slice sb3 fl3 sc3, vb, vg, vh, vo⟩ ⟨(l ++ [y]), B, G, H, N, n, p, O⟩) := H2.out.below (Go.Proofs.YtjcbpejplnaakaaGreat.Nm.below_drewN _ nq)
  generalize w2.drewN nq = y3 at *
  clear cc3 ca3 hw3 hv3 hm3 hn3 hg3 H2
  go_wp2_with fail
  refine (evA_any (l := l) (x := y) H103.out rfl (by have hl := HL.out; (try simp only [List.length_append, List.length_cons, List.length_nil] at hl ⊢); omega) (by have hl := HL.out; (try simp only [List.length_append, List.length_cons, List.length_nil] at hl ⊢); omega)).mono ?_
  rintro _ w4 ⟨rfl, ⟨p4, q4, r4, t4, u4⟩, h4⟩
  have H4 : Hid (Rc w0 w4 g m kd c F ⟨p4, q4, r4, t4, u4⟩ ⟨l, B, G, H, N, n, p, (O ++ [y])⟩) := h4
  clear h4 H103
  have c5 : w4.cell? ⟨g, 4, none⟩ = some r4 := H4.out.cell 4
  go_wp2_with fail
  refine (ahead_any (x := y) H4.out.rg.rl (by have hl := HL.out; (try simp only [List.length_append, List.length_cons, List.length_nil] at hl ⊢); omega)).mono ?_
  rintro _ w5 ⟨u, rfl, ho5, hb5⟩
  obtain ⟨b5, n5, k5, rfl⟩ := own_any ho5
  clear c5
  have h5 := H4.out.below hb5
  have e5 : w5.cell? ⟨g, 4, none⟩ = some r4 := h5.cell 4
  have f5 : w5.frozen? ⟨g, 4, none⟩ = false := h5.nf 4
  have H5 : Hid (Rc w0 (w5.setCell ⟨g, 4, none⟩ (.slice b5 n5 k5)) g m kd c F ⟨p4, q4, .slice b5 n5 k5, t4, u4⟩ ⟨l, B, (y :: G), H, N, n, p, (O ++ [y])⟩) := H4.out.setG hb5 ho5
  clear h5 hb5 ho5 H4
  go_upto_region 5 with fail
  generalize w5.setCell ⟨g, 4, none⟩ (.slice b5 n5 k5) = v5 at *
  clear e5 f5
  obtain ⟨sb6, sc6, se6⟩ := H5.out.rg.form
  have hf6 : n5 = (y :: G).length := (Value.slice.inj se6).2.1
  clear se6
  have cc6 : v5.cell? ⟨g, 1, none⟩ = some (I c) := H5.out.cell 1
  have ca6 : v5.cell? ⟨g, 4, none⟩ = some (.slice b5 n5 k5) := H5.out.cell 4
  obtain ⟨q6, hq6⟩ : ∃ q : Nat, q = c / 2 := ⟨_, rfl⟩
  have hw6 : IntKind.i64.wrap ((c : Int) / 2) = (q6 : Int) := by have := HC.out; rw [IntKind.wrap_i64]; omega
  have hv6 : (q6 : Int) ≤ 1048576 := by have := HC.out; omega
  obtain ⟨mx6, hx6⟩ : ∃ q : Nat, q = max 1 q6 := ⟨_, rfl⟩
  have hm6 : (if (1 : Int) < (q6 : Int) then (q6 : Int) else 1) = (mx6 : Int) := by split <;> omega
  have hn6 : (if 1 < q6 then (q6 : Int) else 1) = (mx6 : Int) := by split <;> omega
  have hg6 : ((mx6 : Int) < (n5 : Int)) := by have := HT.out; omega
  clear hq6 hx6 hf6
  go_wp2_with fail
  go_quiet (fail)
  have H106 : Hid (Rc w0 (v5.drewN nq) g m kd c F ⟨p4, q4, .slice b5 n5 k5, t4, u4⟩ ⟨l, B, (y :: G), H, N, n, p, (O ++ [y])⟩) := H5.out.below (Go.Proofs.YtjcbpejplnaakaaGreat.Nm.below_drewN _ nq)
  generalize v5.drewN nq = y6 at *
  clear cc6 ca6 hw6 hv6 hm6 hn6 hg6 H5
  have HTE : Hid (y :: G = k ++ [z]) := HZ.out
  have HR : Hid (Rc w0 y6 g m kd c F ⟨p4, q4, .slice b5 n5 k5, t4, u4⟩ ⟨l, B, (k ++ [z]), H, N, n, p, (O ++ [y])⟩) := by rw [← HTE.out]; exact H106.out
  have c7 : y6.cell? ⟨g, 4, none⟩ = some (.slice b5 n5 k5) := HR.out.cell 4
  go_wp2_with fail
  refine (last_any (l := k) (x := z) HR.out.rg.1 (by have hl := HL.out; have hz := congrArg List.length HTE.out; (try simp only [List.length_append, List.length_cons, List.length_nil] at hz); (try simp only [List.length_append, List.length_cons, List.length_nil] at hl ⊢); omega)).mono ?_
  rintro _ w7 ⟨u, rfl, ho7, hb7⟩
  obtain ⟨b7, n7, k7, rfl⟩ := own_any ho7
  clear c7
  have h7 := HR.out.below hb7
  have e7 : w7.cell? ⟨g, 4, none⟩ = some (.slice b5 n5 k5) := h7.cell 4
  have f7 : w7.frozen? ⟨g, 4, none⟩ = false := h7.nf 4
  have H7 : Hid (Rc w0 (w7.setCell ⟨g, 4, none⟩ (.slice b7 n7 k7)) g m kd c F ⟨p4, q4, .slice b7 n7 k7, t4, u4⟩ ⟨l, B, k, H, N, n, p, (O ++ [y])⟩) := HR.out.setG hb7 ho7
  clear h7 hb7 ho7 HR
  go_upto_region 9 with fail
  generalize w7.setCell ⟨g, 4, none⟩ (.slice b7 n7 k7) = v7 at *
  clear e7 f7
  have c8 : v7.cell? ⟨g, 4, none⟩ = some (.slice b7 n7 k7) := H7.out.cell 4
  go_wp2_with fail
  refine (without_any (x := x) H7.out.rg.rl.1 (by have hl := HL.out; have hz := congrArg List.length HTE.out; (try simp only [List.length_append, List.length_cons, List.length_nil] at hz); (try simp only [List.length_append, List.length_cons, List.length_nil] at hl ⊢); omega)).mono ?_
  rintro _ w8 ⟨u, rfl, ho8, hb8⟩
  obtain ⟨b8, n8, k8, rfl⟩ := own_any ho8
  clear c8
  have h8 := H7.out.below hb8
  have e8 : w8.cell? ⟨g, 4, none⟩ = some (.slice b7 n7 k7) := h8.cell 4
  have f8 : w8.frozen? ⟨g, 4, none⟩ = false := h8.nf 4
  have H8 : Hid (Rc w0 (w8.setCell ⟨g, 4, none⟩ (.slice b8 n8 k8)) g m kd c F ⟨p4, q4, .slice b8 n8 k8, t4, u4⟩ ⟨l, B, (wo k x), H, N, n, p, (O ++ [y])⟩) := H7.out.setG hb8 ho8
  clear h8 hb8 ho8 H7
  go_upto_region 11 with fail
  generalize w8.setCell ⟨g, 4, none⟩ (.slice b8 n8 k8) = v8 at *
  clear e8 f8
  have c9 : v8.cell? ⟨g, 3, none⟩ = some q4 := H8.out.cell 3
  go_wp2_with fail
  refine (ahead_any (x := x) H8.out.rb.rl (by have hl := HL.out; have hz := congrArg List.length HTE.out; (try simp only [List.length_append, List.length_cons, List.length_nil] at hz); (try simp only [List.length_append, List.length_cons, List.length_nil] at hl ⊢); omega)).mono ?_
  rintro _ w9 ⟨u, rfl, ho9, hb9⟩
  obtain ⟨b9, n9, k9, rfl⟩ := own_any ho9
  clear c9
  have h9 := H8.out.below hb9
  have e9 : w9.cell? ⟨g, 3, none⟩ = some q4 := h9.cell 3
  have f9 : w9.frozen? ⟨g, 3, none⟩ = false := h9.nf 3
  have H9 : Hid (Rc w0 (w9.setCell ⟨g, 3, none⟩ (.slice b9 n9 k9)) g m kd c F ⟨p4, .slice b9 n9 k9, .slice b8 n8 k8, t4, u4⟩ ⟨l, (x :: B), (wo k x), H, N, n, p, (O ++ [y])⟩) := H8.out.setB hb9 ho9
  clear h9 hb9 ho9 H8
  go_wp2
  go_end0
  exact ⟨rfl, _, H9.out⟩
set_option maxHeartbeats 3200000 in
set_option maxRecDepth 100000 in
theorem two_fnt (h : Rc w0 w g m kd c F V ⟨(l ++ [y]), B, G, H, N, n, p, O⟩) (hl : (l ++ [y]).length + B.length + G.length + H.length + O.length ≤ 100000000) (hc : c ≤ 1048576) (hx : x ∉ G) (hf : (l ++ [y]).length + B.length = c) (ha : max 1 (c / 4) < (l ++ [y]).length) (ht : max 1 (c / 2) < (y :: G).length) (hz : y :: G = k ++ [z]) : Calls Tryz.prog 23 #[.pointer (some ⟨g, 0, none⟩), U x] w fun e w' => e = .returned (.tuple #[]) ∧ ∃ V', Rc w0 w' g m kd c F V' ⟨(x :: l), B, k, H, N, n, p, (O ++ [y])⟩ := by
  obtain ⟨va, vb, vg, vh, vo⟩ := V
  have H0 : Hid (Rc w0 w g m kd c F ⟨va, vb, vg, vh, vo⟩ ⟨(l ++ [y]), B, G, H, N, n, p, O⟩) := h
  have HL : Hid ((l ++ [y]).length + B.length + G.length + H.length + O.length ≤ 100000000) := hl
  have HC : Hid (c ≤ 1048576) := hc
  have HX : Hid (x ∉ G) := hx
  have HF : Hid ((l ++ [y]).length + B.length = c) := hf
  have HA : Hid (max 1 (c / 4) < (l ++ [y]).length) := ha
  have HT : Hid (max 1 (c / 2) < (y :: G).length) := ht
  have HZ : Hid (y :: G = k ++ [z]) := hz
  clear h hl hc hx hf ha ht hz
  go_enter Tryz.func23, Tryz.ntmps23
  have c1 : w.cell? ⟨g, 4, none⟩ = some vg := H0.out.cell 4
  go_wp2_with fail
  refine (rhas_no H0.out.rg.rl.1 (by have hl := HL.out; (try simp only [List.length_append, List.length_cons, List.length_nil] at hl ⊢); omega) HX.out).mono ?_
  rintro _ w ⟨rfl, rfl⟩
  clear c1
  go_wp2_with fail
  refine (full_yes H0.out (by have hl := HL.out; (try simp only [List.length_append, List.length_cons, List.length_nil] at hl ⊢); omega) HF.out).mono ?_
  rintro _ w2 ⟨rfl, h2⟩
  have H2 : Hid (Rc w0 w2 g m kd c F ⟨va, vb, vg, vh, vo⟩ ⟨(l ++ [y]), B, G, H, N, n, p, O⟩) := h2
  clear h2 H0
  obtain ⟨sb3, sc3, se3⟩ := H2.out.ra.form
  obtain ⟨fl3, hf3⟩ : ∃ q : Nat, q = (l ++ [y]).length := ⟨_, rfl⟩
  have sf3 : va = .slice sb3 fl3 sc3 := by rw [hf3]; exact se3
  clear se3
  subst sf3
  have cc3 : w2.cell? ⟨g, 1, none⟩ = some (I c) := H2.out.cell 1
  have ca3 : w2.cell? ⟨g, 2, none⟩ = some (.slice sb3 fl3 sc3) := H2.out.cell 2
  obtain ⟨q3, hq3⟩ : ∃ q : Nat, q = c / 4 := ⟨_, rfl⟩
  have hw3 : IntKind.i64.wrap ((c : Int) / 4) = (q3 : Int) := by have := HC.out; rw [IntKind.wrap_i64]; omega
  have hv3 : (q3 : Int) ≤ 1048576 := by have := HC.out; omega
  obtain ⟨mx3, hx3⟩ : ∃ q : Nat, q = max 1 q3 := ⟨_, rfl⟩
  have hm3 : (if (1 : Int) < (q3 : Int) then (q3 : Int) else 1) = (mx3 : Int) := by split <;> omega
  have hn3 : (if 1 < q3 then (q3 : Int) else 1) = (mx3 : Int) := by split <;> omega
  have hg3 : ((mx3 : Int) < (fl3 : Int)) := by have := HA.out; omega
  clear hq3 hx3 hf3
  go_wp2_with fail
  go_quiet (fail)
  have H103 : Hid (Rc w0 (w2.drewN nq) g m kd c F ⟨.slice sb3 fl3 sc3, vb, vg, vh, vo⟩ ⟨(l ++ [y]), B, G, H, N, n, p, O⟩) := H2.out.below (Go.Proofs.YtjcbpejplnaakaaGreat.Nm.below_drewN _ nq)
  generalize w2.drewN nq = y3 at *
  clear cc3 ca3 hw3 hv3 hm3 hn3 hg3 H2
  go_wp2_with fail
  refine (evA_any (l := l) (x := y) H103.out rfl (by have hl := HL.out; (try simp only [List.length_append, List.length_cons, List.length_nil] at hl ⊢); omega) (by have hl := HL.out; (try simp only [List.length_append, List.length_cons, List.length_nil] at hl ⊢); omega)).mono ?_
  rintro _ w4 ⟨rfl, ⟨p4, q4, r4, t4, u4⟩, h4⟩
  have H4 : Hid (Rc w0 w4 g m kd c F ⟨p4, q4, r4, t4, u4⟩ ⟨l, B, G, H, N, n, p, (O ++ [y])⟩) := h4
  clear h4 H103
  have c5 : w4.cell? ⟨g, 4, none⟩ = some r4 := H4.out.cell 4
  go_wp2_with fail
  refine (ahead_any (x := y) H4.out.rg.rl (by have hl := HL.out; (try simp only [List.length_append, List.length_cons, List.length_nil] at hl ⊢); omega)).mono ?_
  rintro _ w5 ⟨u, rfl, ho5, hb5⟩
  obtain ⟨b5, n5, k5, rfl⟩ := own_any ho5
  clear c5
  have h5 := H4.out.below hb5
  have e5 : w5.cell? ⟨g, 4, none⟩ = some r4 := h5.cell 4
  have f5 : w5.frozen? ⟨g, 4, none⟩ = false := h5.nf 4
  have H5 : Hid (Rc w0 (w5.setCell ⟨g, 4, none⟩ (.slice b5 n5 k5)) g m kd c F ⟨p4, q4, .slice b5 n5 k5, t4, u4⟩ ⟨l, B, (y :: G), H, N, n, p, (O ++ [y])⟩) := H4.out.setG hb5 ho5
  clear h5 hb5 ho5 H4
  go_upto_region 5 with fail
  generalize w5.setCell ⟨g, 4, none⟩ (.slice b5 n5 k5) = v5 at *
  clear e5 f5
  obtain ⟨sb6, sc6, se6⟩ := H5.out.rg.form
  have hf6 : n5 = (y :: G).length := (Value.slice.inj se6).2.1
  clear se6
  have cc6 : v5.cell? ⟨g, 1, none⟩ = some (I c) := H5.out.cell 1
  have ca6 : v5.cell? ⟨g, 4, none⟩ = some (.slice b5 n5 k5) := H5.out.cell 4
  obtain ⟨q6, hq6⟩ : ∃ q : Nat, q = c / 2 := ⟨_, rfl⟩
  have hw6 : IntKind.i64.wrap ((c : Int) / 2) = (q6 : Int) := by have := HC.out; rw [IntKind.wrap_i64]; omega
  have hv6 : (q6 : Int) ≤ 1048576 := by have := HC.out; omega
  obtain ⟨mx6, hx6⟩ : ∃ q : Nat, q = max 1 q6 := ⟨_, rfl⟩
  have hm6 : (if (1 : Int) < (q6 : Int) then (q6 : Int) else 1) = (mx6 : Int) := by split <;> omega
  have hn6 : (if 1 < q6 then (q6 : Int) else 1) = (mx6 : Int) := by split <;> omega
  have hg6 : ((mx6 : Int) < (n5 : Int)) := by have := HT.out; omega
  clear hq6 hx6 hf6
  go_wp2_with fail
  go_quiet (fail)
  have H106 : Hid (Rc w0 (v5.drewN nq) g m kd c F ⟨p4, q4, .slice b5 n5 k5, t4, u4⟩ ⟨l, B, (y :: G), H, N, n, p, (O ++ [y])⟩) := H5.out.below (Go.Proofs.YtjcbpejplnaakaaGreat.Nm.below_drewN _ nq)
  generalize v5.drewN nq = y6 at *
  clear cc6 ca6 hw6 hv6 hm6 hn6 hg6 H5
  have HTE : Hid (y :: G = k ++ [z]) := HZ.out
  have HR : Hid (Rc w0 y6 g m kd c F ⟨p4, q4, .slice b5 n5 k5, t4, u4⟩ ⟨l, B, (k ++ [z]), H, N, n, p, (O ++ [y])⟩) := by rw [← HTE.out]; exact H106.out
  have c7 : y6.cell? ⟨g, 4, none⟩ = some (.slice b5 n5 k5) := HR.out.cell 4
  go_wp2_with fail
  refine (last_any (l := k) (x := z) HR.out.rg.1 (by have hl := HL.out; have hz := congrArg List.length HTE.out; (try simp only [List.length_append, List.length_cons, List.length_nil] at hz); (try simp only [List.length_append, List.length_cons, List.length_nil] at hl ⊢); omega)).mono ?_
  rintro _ w7 ⟨u, rfl, ho7, hb7⟩
  obtain ⟨b7, n7, k7, rfl⟩ := own_any ho7
  clear c7
  have h7 := HR.out.below hb7
  have e7 : w7.cell? ⟨g, 4, none⟩ = some (.slice b5 n5 k5) := h7.cell 4
  have f7 : w7.frozen? ⟨g, 4, none⟩ = false := h7.nf 4
  have H7 : Hid (Rc w0 (w7.setCell ⟨g, 4, none⟩ (.slice b7 n7 k7)) g m kd c F ⟨p4, q4, .slice b7 n7 k7, t4, u4⟩ ⟨l, B, k, H, N, n, p, (O ++ [y])⟩) := HR.out.setG hb7 ho7
  clear h7 hb7 ho7 HR
  go_upto_region 9 with fail
  generalize w7.setCell ⟨g, 4, none⟩ (.slice b7 n7 k7) = v7 at *
  clear e7 f7
  have c8 : v7.cell? ⟨g, 2, none⟩ = some p4 := H7.out.cell 2
  go_wp2_with fail
  refine (ahead_any (x := x) H7.out.ra.rl (by have hl := HL.out; have hz := congrArg List.length HTE.out; (try simp only [List.length_append, List.length_cons, List.length_nil] at hz); (try simp only [List.length_append, List.length_cons, List.length_nil] at hl ⊢); omega)).mono ?_
  rintro _ w8 ⟨u, rfl, ho8, hb8⟩
  obtain ⟨b8, n8, k8, rfl⟩ := own_any ho8
  clear c8
  have h8 := H7.out.below hb8
  have e8 : w8.cell? ⟨g, 2, none⟩ = some p4 := h8.cell 2
  have f8 : w8.frozen? ⟨g, 2, none⟩ = false := h8.nf 2
  have H8 : Hid (Rc w0 (w8.setCell ⟨g, 2, none⟩ (.slice b8 n8 k8)) g m kd c F ⟨.slice b8 n8 k8, q4, .slice b7 n7 k7, t4, u4⟩ ⟨(x :: l), B, k, H, N, n, p, (O ++ [y])⟩) := H7.out.setA hb8 ho8
  clear h8 hb8 ho8 H7
  go_wp2
  go_end0
  exact ⟨rfl, _, H8.out⟩
set_option maxHeartbeats 3200000 in
set_option maxRecDepth 100000 in
theorem two_fk (h : Rc w0 w g m kd c F V ⟨(l ++ [y]), B, G, H, N, n, p, O⟩) (hl : (l ++ [y]).length + B.length + G.length + H.length + O.length ≤ 100000000) (hc : c ≤ 1048576) (hx : x ∈ G) (hf : (l ++ [y]).length + B.length = c) (ha : max 1 (c / 4) < (l ++ [y]).length) (ht : (y :: G).length ≤ max 1 (c / 2)) : Calls Tryz.prog 23 #[.pointer (some ⟨g, 0, none⟩), U x] w fun e w' => e = .returned (.tuple #[]) ∧ ∃ V', Rc w0 w' g m kd c F V' ⟨l, (x :: B), (wo (y :: G) x), H, N, n, p, (O ++ [y])⟩ := by
  obtain ⟨va, vb, vg, vh, vo⟩ := V
  have H0 : Hid (Rc w0 w g m kd c F ⟨va, vb, vg, vh, vo⟩ ⟨(l ++ [y]), B, G, H, N, n, p, O⟩) := h
  have HL : Hid ((l ++ [y]).length + B.length + G.length + H.length + O.length ≤ 100000000) := hl
  have HC : Hid (c ≤ 1048576) := hc
  have HX : Hid (x ∈ G) := hx
  have HF : Hid ((l ++ [y]).length + B.length = c) := hf
  have HA : Hid (max 1 (c / 4) < (l ++ [y]).length) := ha
  have HT : Hid ((y :: G).length ≤ max 1 (c / 2)) := ht
  clear h hl hc hx hf ha ht
  go_enter Tryz.func23, Tryz.ntmps23
  have c1 : w.cell? ⟨g, 4, none⟩ = some vg := H0.out.cell 4
  go_wp2_with fail
  refine (rhas_yes H0.out.rg.rl.1 (by have hl := HL.out; (try simp only [List.length_append, List.length_cons, List.length_nil] at hl ⊢); omega) HX.out).mono ?_
  rintro _ w ⟨rfl, rfl⟩
  clear c1
  go_wp2_with fail
  refine (full_yes H0.out (by have hl := HL.out; (try simp only [List.length_append, List.length_cons, List.length_nil] at hl ⊢); omega) HF.out).mono ?_
  rintro _ w2 ⟨rfl, h2⟩
  have H2 : Hid (Rc w0 w2 g m kd c F ⟨va, vb, vg, vh, vo⟩ ⟨(l ++ [y]), B, G, H, N, n, p, O⟩) := h2
  clear h2 H0
  obtain ⟨sb3, sc3, se3⟩ := H2.out.ra.form
  obtain ⟨fl3, hf3⟩ : ∃ q : Nat, q = (l ++ [y]).length := ⟨_, rfl⟩
  have sf3 : va = .slice sb3 fl3 sc3 := by rw [hf3]; exact se3
  clear se3
  subst sf3
  have cc3 : w2.cell? ⟨g, 1, none⟩ = some (I c) := H2.out.cell 1
  have ca3 : w2.cell? ⟨g, 2, none⟩ = some (.slice sb3 fl3 sc3) := H2.out.cell 2
  obtain ⟨q3, hq3⟩ : ∃ q : Nat, q = c / 4 := ⟨_, rfl⟩
  have hw3 : IntKind.i64.wrap ((c : Int) / 4) = (q3 : Int) := by have := HC.out; rw [IntKind.wrap_i64]; omega
  have hv3 : (q3 : Int) ≤ 1048576 := by have := HC.out; omega
  obtain ⟨mx3, hx3⟩ : ∃ q : Nat, q = max 1 q3 := ⟨_, rfl⟩
  have hm3 : (if (1 : Int) < (q3 : Int) then (q3 : Int) else 1) = (mx3 : Int) := by split <;> omega
  have hn3 : (if 1 < q3 then (q3 : Int) else 1) = (mx3 : Int) := by split <;> omega
  have hg3 : ((mx3 : Int) < (fl3 : Int)) := by have := HA.out; omega
  clear hq3 hx3 hf3
  go_wp2_with fail
  go_quiet (fail)
  have H103 : Hid (Rc w0 (w2.drewN nq) g m kd c F ⟨.slice sb3 fl3 sc3, vb, vg, vh, vo⟩ ⟨(l ++ [y]), B, G, H, N, n, p, O⟩) := H2.out.below (Go.Proofs.YtjcbpejplnaakaaGreat.Nm.below_drewN _ nq)
  generalize w2.drewN nq = y3 at *
  clear cc3 ca3 hw3 hv3 hm3 hn3 hg3 H2
  go_wp2_with fail
  refine (evA_any (l := l) (x := y) H103.out rfl (by have hl := HL.out; (try simp only [List.length_append, List.length_cons, List.length_nil] at hl ⊢); omega) (by have hl := HL.out; (try simp only [List.length_append, List.length_cons, List.length_nil] at hl ⊢); omega)).mono ?_
  rintro _ w4 ⟨rfl, ⟨p4, q4, r4, t4, u4⟩, h4⟩
  have H4 : Hid (Rc w0 w4 g m kd c F ⟨p4, q4, r4, t4, u4⟩ ⟨l, B, G, H, N, n, p, (O ++ [y])⟩) := h4
  clear h4 H103
  have c5 : w4.cell? ⟨g, 4, none⟩ = some r4 := H4.out.cell 4
  go_wp2_with fail
  refine (ahead_any (x := y) H4.out.rg.rl (by have hl := HL.out; (try simp only [List.length_append, List.length_cons, List.length_nil] at hl ⊢); omega)).mono ?_
  rintro _ w5 ⟨u, rfl, ho5, hb5⟩
  obtain ⟨b5, n5, k5, rfl⟩ := own_any ho5
  clear c5
  have h5 := H4.out.below hb5
  have e5 : w5.cell? ⟨g, 4, none⟩ = some r4 := h5.cell 4
  have f5 : w5.frozen? ⟨g, 4, none⟩ = false := h5.nf 4
  have H5 : Hid (Rc w0 (w5.setCell ⟨g, 4, none⟩ (.slice b5 n5 k5)) g m kd c F ⟨p4, q4, .slice b5 n5 k5, t4, u4⟩ ⟨l, B, (y :: G), H, N, n, p, (O ++ [y])⟩) := H4.out.setG hb5 ho5
  clear h5 hb5 ho5 H4
  go_upto_region 5 with fail
  generalize w5.setCell ⟨g, 4, none⟩ (.slice b5 n5 k5) = v5 at *
  clear e5 f5
  obtain ⟨sb6, sc6, se6⟩ := H5.out.rg.form
  have hf6 : n5 = (y :: G).length := (Value.slice.inj se6).2.1
  clear se6
  have cc6 : v5.cell? ⟨g, 1, none⟩ = some (I c) := H5.out.cell 1
  have ca6 : v5.cell? ⟨g, 4, none⟩ = some (.slice b5 n5 k5) := H5.out.cell 4
  obtain ⟨q6, hq6⟩ : ∃ q : Nat, q = c / 2 := ⟨_, rfl⟩
  have hw6 : IntKind.i64.wrap ((c : Int) / 2) = (q6 : Int) := by have := HC.out; rw [IntKind.wrap_i64]; omega
  have hv6 : (q6 : Int) ≤ 1048576 := by have := HC.out; omega
  obtain ⟨mx6, hx6⟩ : ∃ q : Nat, q = max 1 q6 := ⟨_, rfl⟩
  have hm6 : (if (1 : Int) < (q6 : Int) then (q6 : Int) else 1) = (mx6 : Int) := by split <;> omega
  have hn6 : (if 1 < q6 then (q6 : Int) else 1) = (mx6 : Int) := by split <;> omega
  have hg6 : ¬ ((mx6 : Int) < (n5 : Int)) := by have := HT.out; omega
  have hd6 : decide (mx6 < n5) = false := decide_eq_false (by omega)
  have hD6 : decide ((mx6 : Int) < (n5 : Int)) = false := decide_eq_false (by omega)
  clear hq6 hx6 hf6
  go_wp2_with fail
  go_quiet (fail)
  have H106 : Hid (Rc w0 (v5.drewN nq) g m kd c F ⟨p4, q4, .slice b5 n5 k5, t4, u4⟩ ⟨l, B, (y :: G), H, N, n, p, (O ++ [y])⟩) := H5.out.below (Go.Proofs.YtjcbpejplnaakaaGreat.Nm.below_drewN _ nq)
  generalize v5.drewN nq = y6 at *
  clear cc6 ca6 hw6 hv6 hm6 hn6 hg6 hd6 hD6 H5
  have c7 : y6.cell? ⟨g, 4, none⟩ = some (.slice b5 n5 k5) := H106.out.cell 4
  go_wp2_with fail
  refine (without_any (x := x) H106.out.rg.rl.1 (by have hl := HL.out; (try simp only [List.length_append, List.length_cons, List.length_nil] at hl ⊢); omega)).mono ?_
  rintro _ w7 ⟨u, rfl, ho7, hb7⟩
  obtain ⟨b7, n7, k7, rfl⟩ := own_any ho7
  clear c7
  have h7 := H106.out.below hb7
  have e7 : w7.cell? ⟨g, 4, none⟩ = some (.slice b5 n5 k5) := h7.cell 4
  have f7 : w7.frozen? ⟨g, 4, none⟩ = false := h7.nf 4
  have H7 : Hid (Rc w0 (w7.setCell ⟨g, 4, none⟩ (.slice b7 n7 k7)) g m kd c F ⟨p4, q4, .slice b7 n7 k7, t4, u4⟩ ⟨l, B, (wo (y :: G) x), H, N, n, p, (O ++ [y])⟩) := H106.out.setG hb7 ho7
  clear h7 hb7 ho7 H106
  go_upto_region 11 with fail
  generalize w7.setCell ⟨g, 4, none⟩ (.slice b7 n7 k7) = v7 at *
  clear e7 f7
  have c8 : v7.cell? ⟨g, 3, none⟩ = some q4 := H7.out.cell 3
  go_wp2_with fail
  refine (ahead_any (x := x) H7.out.rb.rl (by have hl := HL.out; (try simp only [List.length_append, List.length_cons, List.length_nil] at hl ⊢); omega)).mono ?_
  rintro _ w8 ⟨u, rfl, ho8, hb8⟩
  obtain ⟨b8, n8, k8, rfl⟩ := own_any ho8
  clear c8
  have h8 := H7.out.below hb8
  have e8 : w8.cell? ⟨g, 3, none⟩ = some q4 := h8.cell 3
  have f8 : w8.frozen? ⟨g, 3, none⟩ = false := h8.nf 3
  have H8 : Hid (Rc w0 (w8.setCell ⟨g, 3, none⟩ (.slice b8 n8 k8)) g m kd c F ⟨p4, .slice b8 n8 k8, .slice b7 n7 k7, t4, u4⟩ ⟨l, (x :: B), (wo (y :: G) x), H, N, n, p, (O ++ [y])⟩) := H7.out.setB hb8 ho8
  clear h8 hb8 ho8 H7
  go_wp2
  go_end0
  exact ⟨rfl, _, H8.out⟩
set_option maxHeartbeats 3200000 in
set_option maxRecDepth 100000 in
theorem two_fn (h : Rc w0 w g m kd c F V ⟨(l ++ [y]), B, G, H, N, n, p, O⟩) (hl : (l ++ [y]).length + B.length + G.length + H.length + O.length ≤ 100000000) (hc : c ≤ 1048576) (hx : x ∉ G) (hf : (l ++ [y]).length + B.length = c) (ha : max 1 (c / 4) < (l ++ [y]).length) (ht : (y :: G).length ≤ max 1 (c / 2)) : Calls Tryz.prog 23 #[.pointer (some ⟨g, 0, none⟩), U x] w fun e w' => e = .returned (.tuple #[]) ∧ ∃ V', Rc w0 w' g m kd c F V' ⟨(x :: l), B, (y :: G), H, N, n, p, (O ++ [y])⟩ := by
  obtain ⟨va, vb, vg, vh, vo⟩ := V
  have H0 : Hid (Rc w0 w g m kd c F ⟨va, vb, vg, vh, vo⟩ ⟨(l ++ [y]), B, G, H, N, n, p, O⟩) := h
  have HL : Hid ((l ++ [y]).length + B.length + G.length + H.length + O.length ≤ 100000000) := hl
  have HC : Hid (c ≤ 1048576) := hc
  have HX : Hid (x ∉ G) := hx
  have HF : Hid ((l ++ [y]).length + B.length = c) := hf
  have HA : Hid (max 1 (c / 4) < (l ++ [y]).length) := ha
  have HT : Hid ((y :: G).length ≤ max 1 (c / 2)) := ht
  clear h hl hc hx hf ha ht
  go_enter Tryz.func23, Tryz.ntmps23
  have c1 : w.cell? ⟨g, 4, none⟩ = some vg := H0.out.cell 4
  go_wp2_with fail
  refine (rhas_no H0.out.rg.rl.1 (by have hl := HL.out; (try simp only [List.length_append, List.length_cons, List.length_nil] at hl ⊢); omega) HX.out).mono ?_
  rintro _ w ⟨rfl, rfl⟩
  clear c1
  go_wp2_with fail
  refine (full_yes H0.out (by have hl := HL.out; (try simp only [List.length_append, List.length_cons, List.length_nil] at hl ⊢); omega) HF.out).mono ?_
  rintro _ w2 ⟨rfl, h2⟩
  have H2 : Hid (Rc w0 w2 g m kd c F ⟨va, vb, vg, vh, vo⟩ ⟨(l ++ [y]), B, G, H, N, n, p, O⟩) := h2
  clear h2 H0
  obtain ⟨sb3, sc3, se3⟩ := H2.out.ra.form
  obtain ⟨fl3, hf3⟩ : ∃ q : Nat, q = (l ++ [y]).length := ⟨_, rfl⟩
  have sf3 : va = .slice sb3 fl3 sc3 := by rw [hf3]; exact se3
  clear se3
  subst sf3
  have cc3 : w2.cell? ⟨g, 1, none⟩ = some (I c) := H2.out.cell 1
  have ca3 : w2.cell? ⟨g, 2, none⟩ = some (.slice sb3 fl3 sc3) := H2.out.cell 2
  obtain ⟨q3, hq3⟩ : ∃ q : Nat, q = c / 4 := ⟨_, rfl⟩
  have hw3 : IntKind.i64.wrap ((c : Int) / 4) = (q3 : Int) := by have := HC.out; rw [IntKind.wrap_i64]; omega
  have hv3 : (q3 : Int) ≤ 1048576 := by have := HC.out; omega
  obtain ⟨mx3, hx3⟩ : ∃ q : Nat, q = max 1 q3 := ⟨_, rfl⟩
  have hm3 : (if (1 : Int) < (q3 : Int) then (q3 : Int) else 1) = (mx3 : Int) := by split <;> omega
  have hn3 : (if 1 < q3 then (q3 : Int) else 1) = (mx3 : Int) := by split <;> omega
  have hg3 : ((mx3 : Int) < (fl3 : Int)) := by have := HA.out; omega
  clear hq3 hx3 hf3
  go_wp2_with fail
  go_quiet (fail)
  have H103 : Hid (Rc w0 (w2.drewN nq) g m kd c F ⟨.slice sb3 fl3 sc3, vb, vg, vh, vo⟩ ⟨(l ++ [y]), B, G, H, N, n, p, O⟩) := H2.out.below (Go.Proofs.YtjcbpejplnaakaaGreat.Nm.below_drewN _ nq)
  generalize w2.drewN nq = y3 at *
  clear cc3 ca3 hw3 hv3 hm3 hn3 hg3 H2
  go_wp2_with fail
  refine (evA_any (l := l) (x := y) H103.out rfl (by have hl := HL.out; (try simp only [List.length_append, List.length_cons, List.length_nil] at hl ⊢); omega) (by have hl := HL.out; (try simp only [List.length_append, List.length_cons, List.length_nil] at hl ⊢); omega)).mono ?_
  rintro _ w4 ⟨rfl, ⟨p4, q4, r4, t4, u4⟩, h4⟩
  have H4 : Hid (Rc w0 w4 g m kd c F ⟨p4, q4, r4, t4, u4⟩ ⟨l, B, G, H, N, n, p, (O ++ [y])⟩) := h4
  clear h4 H103
  have c5 : w4.cell? ⟨g, 4, none⟩ = some r4 := H4.out.cell 4
  go_wp2_with fail
  refine (ahead_any (x := y) H4.out.rg.rl (by have hl := HL.out; (try simp only [List.length_append, List.length_cons, List.length_nil] at hl ⊢); omega)).mono ?_
  rintro _ w5 ⟨u, rfl, ho5, hb5⟩
  obtain ⟨b5, n5, k5, rfl⟩ := own_any ho5
  clear c5
  have h5 := H4.out.below hb5
  have e5 : w5.cell? ⟨g, 4, none⟩ = some r4 := h5.cell 4
  have f5 : w5.frozen? ⟨g, 4, none⟩ = false := h5.nf 4
  have H5 : Hid (Rc w0 (w5.setCell ⟨g, 4, none⟩ (.slice b5 n5 k5)) g m kd c F ⟨p4, q4, .slice b5 n5 k5, t4, u4⟩ ⟨l, B, (y :: G), H, N, n, p, (O ++ [y])⟩) := H4.out.setG hb5 ho5
  clear h5 hb5 ho5 H4
  go_upto_region 5 with fail
  generalize w5.setCell ⟨g, 4, none⟩ (.slice b5 n5 k5) = v5 at *
  clear e5 f5
  obtain ⟨sb6, sc6, se6⟩ := H5.out.rg.form
  have hf6 : n5 = (y :: G).length := (Value.slice.inj se6).2.1
  clear se6
  have cc6 : v5.cell? ⟨g, 1, none⟩ = some (I c) := H5.out.cell 1
  have ca6 : v5.cell? ⟨g, 4, none⟩ = some (.slice b5 n5 k5) := H5.out.cell 4
  obtain ⟨q6, hq6⟩ : ∃ q : Nat, q = c / 2 := ⟨_, rfl⟩
  have hw6 : IntKind.i64.wrap ((c : Int) / 2) = (q6 : Int) := by have := HC.out; rw [IntKind.wrap_i64]; omega
  have hv6 : (q6 : Int) ≤ 1048576 := by have := HC.out; omega
  obtain ⟨mx6, hx6⟩ : ∃ q : Nat, q = max 1 q6 := ⟨_, rfl⟩
  have hm6 : (if (1 : Int) < (q6 : Int) then (q6 : Int) else 1) = (mx6 : Int) := by split <;> omega
  have hn6 : (if 1 < q6 then (q6 : Int) else 1) = (mx6 : Int) := by split <;> omega
  have hg6 : ¬ ((mx6 : Int) < (n5 : Int)) := by have := HT.out; omega
  have hd6 : decide (mx6 < n5) = false := decide_eq_false (by omega)
  have hD6 : decide ((mx6 : Int) < (n5 : Int)) = false := decide_eq_false (by omega)
  clear hq6 hx6 hf6
  go_wp2_with fail
  go_quiet (fail)
  have H106 : Hid (Rc w0 (v5.drewN nq) g m kd c F ⟨p4, q4, .slice b5 n5 k5, t4, u4⟩ ⟨l, B, (y :: G), H, N, n, p, (O ++ [y])⟩) := H5.out.below (Go.Proofs.YtjcbpejplnaakaaGreat.Nm.below_drewN _ nq)
  generalize v5.drewN nq = y6 at *
  clear cc6 ca6 hw6 hv6 hm6 hn6 hg6 hd6 hD6 H5
  have c7 : y6.cell? ⟨g, 2, none⟩ = some p4 := H106.out.cell 2
  go_wp2_with fail
  refine (ahead_any (x := x) H106.out.ra.rl (by have hl := HL.out; (try simp only [List.length_append, List.length_cons, List.length_nil] at hl ⊢); omega)).mono ?_
  rintro _ w7 ⟨u, rfl, ho7, hb7⟩
  obtain ⟨b7, n7, k7, rfl⟩ := own_any ho7
  clear c7
  have h7 := H106.out.below hb7
  have e7 : w7.cell? ⟨g, 2, none⟩ = some p4 := h7.cell 2
  have f7 : w7.frozen? ⟨g, 2, none⟩ = false := h7.nf 2
  have H7 : Hid (Rc w0 (w7.setCell ⟨g, 2, none⟩ (.slice b7 n7 k7)) g m kd c F ⟨.slice b7 n7 k7, q4, .slice b5 n5 k5, t4, u4⟩ ⟨(x :: l), B, (y :: G), H, N, n, p, (O ++ [y])⟩) := H106.out.setA hb7 ho7
  clear h7 hb7 ho7 H106
  go_wp2
  go_end0
  exact ⟨rfl, _, H7.out⟩
set_option maxHeartbeats 3200000 in
set_option maxRecDepth 100000 in
theorem two_mk (h : Rc w0 w g m kd c F V ⟨A, (l ++ [y]), G, H, N, n, p, O⟩) (hl : A.length + (l ++ [y]).length + G.length + H.length + O.length ≤ 100000000) (hc : c ≤ 1048576) (hx : x ∈ G) (hf : A.length + (l ++ [y]).length = c) (ha : A.length ≤ max 1 (c / 4)) : Calls Tryz.prog 23 #[.pointer (some ⟨g, 0, none⟩), U x] w fun e w' => e = .returned (.tuple #[]) ∧ ∃ V', Rc w0 w' g m kd c F V' ⟨A, (x :: l), (wo G x), H, N, n, p, (O ++ [y])⟩ := by
  obtain ⟨va, vb, vg, vh, vo⟩ := V
  have H0 : Hid (Rc w0 w g m kd c F ⟨va, vb, vg, vh, vo⟩ ⟨A, (l ++ [y]), G, H, N, n, p, O⟩) := h
  have HL : Hid (A.length + (l ++ [y]).length + G.length + H.length + O.length ≤ 100000000) := hl
  have HC : Hid (c ≤ 1048576) := hc
  have HX : Hid (x ∈ G) := hx
  have HF : Hid (A.length + (l ++ [y]).length = c) := hf
  have HA : Hid (A.length ≤ max 1 (c / 4)) := ha
  clear h hl hc hx hf ha
  go_enter Tryz.func23, Tryz.ntmps23
  have c1 : w.cell? ⟨g, 4, none⟩ = some vg := H0.out.cell 4
  go_wp2_with fail
  refine (rhas_yes H0.out.rg.rl.1 (by have hl := HL.out; (try simp only [List.length_append, List.length_cons, List.length_nil] at hl ⊢); omega) HX.out).mono ?_
  rintro _ w ⟨rfl, rfl⟩
  clear c1
  go_wp2_with fail
  refine (full_yes H0.out (by have hl := HL.out; (try simp only [List.length_append, List.length_cons, List.length_nil] at hl ⊢); omega) HF.out).mono ?_
  rintro _ w2 ⟨rfl, h2⟩
  have H2 : Hid (Rc w0 w2 g m kd c F ⟨va, vb, vg, vh, vo⟩ ⟨A, (l ++ [y]), G, H, N, n, p, O⟩) := h2
  clear h2 H0
  obtain ⟨sb3, sc3, se3⟩ := H2.out.ra.form
  obtain ⟨fl3, hf3⟩ : ∃ q : Nat, q = A.length := ⟨_, rfl⟩
  have sf3 : va = .slice sb3 fl3 sc3 := by rw [hf3]; exact se3
  clear se3
  subst sf3
  have cc3 : w2.cell? ⟨g, 1, none⟩ = some (I c) := H2.out.cell 1
  have ca3 : w2.cell? ⟨g, 2, none⟩ = some (.slice sb3 fl3 sc3) := H2.out.cell 2
  obtain ⟨q3, hq3⟩ : ∃ q : Nat, q = c / 4 := ⟨_, rfl⟩
  have hw3 : IntKind.i64.wrap ((c : Int) / 4) = (q3 : Int) := by have := HC.out; rw [IntKind.wrap_i64]; omega
  have hv3 : (q3 : Int) ≤ 1048576 := by have := HC.out; omega
  obtain ⟨mx3, hx3⟩ : ∃ q : Nat, q = max 1 q3 := ⟨_, rfl⟩
  have hm3 : (if (1 : Int) < (q3 : Int) then (q3 : Int) else 1) = (mx3 : Int) := by split <;> omega
  have hn3 : (if 1 < q3 then (q3 : Int) else 1) = (mx3 : Int) := by split <;> omega
  have hg3 : ¬ ((mx3 : Int) < (fl3 : Int)) := by have := HA.out; omega
  have hd3 : decide (mx3 < fl3) = false := decide_eq_false (by omega)
  have hD3 : decide ((mx3 : Int) < (fl3 : Int)) = false := decide_eq_false (by omega)
  clear hq3 hx3 hf3
  go_wp2_with fail
  go_quiet (fail)
  have H103 : Hid (Rc w0 (w2.drewN nq) g m kd c F ⟨.slice sb3 fl3 sc3, vb, vg, vh, vo⟩ ⟨A, (l ++ [y]), G, H, N, n, p, O⟩) := H2.out.below (Go.Proofs.YtjcbpejplnaakaaGreat.Nm.below_drewN _ nq)
  generalize w2.drewN nq = y3 at *
  clear cc3 ca3 hw3 hv3 hm3 hn3 hg3 hd3 hD3 H2
  go_wp2_with fail
  refine (evB_any (l := l) (x := y) H103.out rfl (by have hl := HL.out; (try simp only [List.length_append, List.length_cons, List.length_nil] at hl ⊢); omega) (by have hl := HL.out; (try simp only [List.length_append, List.length_cons, List.length_nil] at hl ⊢); omega)).mono ?_
  rintro _ w4 ⟨rfl, ⟨p4, q4, r4, t4, u4⟩, h4⟩
  have H4 : Hid (Rc w0 w4 g m kd c F ⟨p4, q4, r4, t4, u4⟩ ⟨A, l, G, H, N, n, p, (O ++ [y])⟩) := h4
  clear h4 H103
  have c5 : w4.cell? ⟨g, 4, none⟩ = some r4 := H4.out.cell 4
  go_wp2_with fail
  refine (without_any (x := x) H4.out.rg.rl.1 (by have hl := HL.out; (try simp only [List.length_append, List.length_cons, List.length_nil] at hl ⊢); omega)).mono ?_
  rintro _ w5 ⟨u, rfl, ho5, hb5⟩
  obtain ⟨b5, n5, k5, rfl⟩ := own_any ho5
  clear c5
  have h5 := H4.out.below hb5
  have e5 : w5.cell? ⟨g, 4, none⟩ = some r4 := h5.cell 4
  have f5 : w5.frozen? ⟨g, 4, none⟩ = false := h5.nf 4
  have H5 : Hid (Rc w0 (w5.setCell ⟨g, 4, none⟩ (.slice b5 n5 k5)) g m kd c F ⟨p4, q4, .slice b5 n5 k5, t4, u4⟩ ⟨A, l, (wo G x), H, N, n, p, (O ++ [y])⟩) := H4.out.setG hb5 ho5
  clear h5 hb5 ho5 H4
  go_upto_region 11 with fail
  generalize w5.setCell ⟨g, 4, none⟩ (.slice b5 n5 k5) = v5 at *
  clear e5 f5
  have c6 : v5.cell? ⟨g, 3, none⟩ = some q4 := H5.out.cell 3
  go_wp2_with fail
  refine (ahead_any (x := x) H5.out.rb.rl (by have hl := HL.out; (try simp only [List.length_append, List.length_cons, List.length_nil] at hl ⊢); omega)).mono ?_
  rintro _ w6 ⟨u, rfl, ho6, hb6⟩
  obtain ⟨b6, n6, k6, rfl⟩ := own_any ho6
  clear c6
  have h6 := H5.out.below hb6
  have e6 : w6.cell? ⟨g, 3, none⟩ = some q4 := h6.cell 3
  have f6 : w6.frozen? ⟨g, 3, none⟩ = false := h6.nf 3
  have H6 : Hid (Rc w0 (w6.setCell ⟨g, 3, none⟩ (.slice b6 n6 k6)) g m kd c F ⟨p4, .slice b6 n6 k6, .slice b5 n5 k5, t4, u4⟩ ⟨A, (x :: l), (wo G x), H, N, n, p, (O ++ [y])⟩) := H5.out.setB hb6 ho6
  clear h6 hb6 ho6 H5
  go_wp2
  go_end0
  exact ⟨rfl, _, H6.out⟩
set_option maxHeartbeats 3200000 in
set_option maxRecDepth 100000 in
theorem two_mn (h : Rc w0 w g m kd c F V ⟨A, (l ++ [y]), G, H, N, n, p, O⟩) (hl : A.length + (l ++ [y]).length + G.length + H.length + O.length ≤ 100000000) (hc : c ≤ 1048576) (hx : x ∉ G) (hf : A.length + (l ++ [y]).length = c) (ha : A.length ≤ max 1 (c / 4)) : Calls Tryz.prog 23 #[.pointer (some ⟨g, 0, none⟩), U x] w fun e w' => e = .returned (.tuple #[]) ∧ ∃ V', Rc w0 w' g m kd c F V' ⟨(x :: A), l, G, H, N, n, p, (O ++ [y])⟩ := by
  obtain ⟨va, vb, vg, vh, vo⟩ := V
  have H0 : Hid (Rc w0 w g m kd c F ⟨va, vb, vg, vh, vo⟩ ⟨A, (l ++ [y]), G, H, N, n, p, O⟩) := h
  have HL : Hid (A.length + (l ++ [y]).length + G.length + H.length + O.length ≤ 100000000) := hl
  have HC : Hid (c ≤ 1048576) := hc
  have HX : Hid (x ∉ G) := hx
  have HF : Hid (A.length + (l ++ [y]).length = c) := hf
  have HA : Hid (A.length ≤ max 1 (c / 4)) := ha
  clear h hl hc hx hf ha
  go_enter Tryz.func23, Tryz.ntmps23
  have c1 : w.cell? ⟨g, 4, none⟩ = some vg := H0.out.cell 4
  go_wp2_with fail
  refine (rhas_no H0.out.rg.rl.1 (by have hl := HL.out; (try simp only [List.length_append, List.length_cons, List.length_nil] at hl ⊢); omega) HX.out).mono ?_
  rintro _ w ⟨rfl, rfl⟩
  clear c1
  go_wp2_with fail
  refine (full_yes H0.out (by have hl := HL.out; (try simp only [List.length_append, List.length_cons, List.length_nil] at hl ⊢); omega) HF.out).mono ?_
  rintro _ w2 ⟨rfl, h2⟩
  have H2 : Hid (Rc w0 w2 g m kd c F ⟨va, vb, vg, vh, vo⟩ ⟨A, (l ++ [y]), G, H, N, n, p, O⟩) := h2
  clear h2 H0
  obtain ⟨sb3, sc3, se3⟩ := H2.out.ra.form
  obtain ⟨fl3, hf3⟩ : ∃ q : Nat, q = A.length := ⟨_, rfl⟩
  have sf3 : va = .slice sb3 fl3 sc3 := by rw [hf3]; exact se3
  clear se3
  subst sf3
  have cc3 : w2.cell? ⟨g, 1, none⟩ = some (I c) := H2.out.cell 1
  have ca3 : w2.cell? ⟨g, 2, none⟩ = some (.slice sb3 fl3 sc3) := H2.out.cell 2
  obtain ⟨q3, hq3⟩ : ∃ q : Nat, q = c / 4 := ⟨_, rfl⟩
  have hw3 : IntKind.i64.wrap ((c : Int) / 4) = (q3 : Int) := by have := HC.out; rw [IntKind.wrap_i64]; omega
  have hv3 : (q3 : Int) ≤ 1048576 := by have := HC.out; omega
  obtain ⟨mx3, hx3⟩ : ∃ q : Nat, q = max 1 q3 := ⟨_, rfl⟩
  have hm3 : (if (1 : Int) < (q3 : Int) then (q3 : Int) else 1) = (mx3 : Int) := by split <;> omega
  have hn3 : (if 1 < q3 then (q3 : Int) else 1) = (mx3 : Int) := by split <;> omega
  have hg3 : ¬ ((mx3 : Int) < (fl3 : Int)) := by have := HA.out; omega
  have hd3 : decide (mx3 < fl3) = false := decide_eq_false (by omega)
  have hD3 : decide ((mx3 : Int) < (fl3 : Int)) = false := decide_eq_false (by omega)
  clear hq3 hx3 hf3
  go_wp2_with fail
  go_quiet (fail)
  have H103 : Hid (Rc w0 (w2.drewN nq) g m kd c F ⟨.slice sb3 fl3 sc3, vb, vg, vh, vo⟩ ⟨A, (l ++ [y]), G, H, N, n, p, O⟩) := H2.out.below (Go.Proofs.YtjcbpejplnaakaaGreat.Nm.below_drewN _ nq)
  generalize w2.drewN nq = y3 at *
  clear cc3 ca3 hw3 hv3 hm3 hn3 hg3 hd3 hD3 H2
  go_wp2_with fail
  refine (evB_any (l := l) (x := y) H103.out rfl (by have hl := HL.out; (try simp only [List.length_append, List.length_cons, List.length_nil] at hl ⊢); omega) (by have hl := HL.out; (try simp only [List.length_append, List.length_cons, List.length_nil] at hl ⊢); omega)).mono ?_
  rintro _ w4 ⟨rfl, ⟨p4, q4, r4, t4, u4⟩, h4⟩
  have H4 : Hid (Rc w0 w4 g m kd c F ⟨p4, q4, r4, t4, u4⟩ ⟨A, l, G, H, N, n, p, (O ++ [y])⟩) := h4
  clear h4 H103
  have c5 : w4.cell? ⟨g, 2, none⟩ = some p4 := H4.out.cell 2
  go_wp2_with fail
  refine (ahead_any (x := x) H4.out.ra.rl (by have hl := HL.out; (try simp only [List.length_append, List.length_cons, List.length_nil] at hl ⊢); omega)).mono ?_
  rintro _ w5 ⟨u, rfl, ho5, hb5⟩
  obtain ⟨b5, n5, k5, rfl⟩ := own_any ho5
  clear c5
  have h5 := H4.out.below hb5
  have e5 : w5.cell? ⟨g, 2, none⟩ = some p4 := h5.cell 2
  have f5 : w5.frozen? ⟨g, 2, none⟩ = false := h5.nf 2
  have H5 : Hid (Rc w0 (w5.setCell ⟨g, 2, none⟩ (.slice b5 n5 k5)) g m kd c F ⟨.slice b5 n5 k5, q4, r4, t4, u4⟩ ⟨(x :: A), l, G, H, N, n, p, (O ++ [y])⟩) := H4.out.setA hb5 ho5
  clear h5 hb5 ho5 H4
  go_wp2
  go_end0
  exact ⟨rfl, _, H5.out⟩
end
end Go.Proofs.YtjcbpejplnaakaaGreat.Mr
