import Derived.Test.YtopiakhlajpdaabJMean
import Derived.Test.YtopiakhlajpdaabJLend
import Derived.Test.YtopiakhlajpdaabJHead
import Derived.BigQuiet
namespace Go.Proofs.Ytopiakhlajpdaab.Nm
open Go.RowKit Go.Maps Go.Proofs.Ytopiakhlajpdaab.Sp Go.Proofs.Ytopiakhlajpdaab.Lx Go.Proofs.Ytopiakhlajpdaab.Gr

/-- a policy that was told, in a box -/
structure Ps (W : World) (p : Pl) (bx rb base ac : Nat) (qo vo tto uo oo : Option Addr) (qc vc tc uc oc : Nat) : Prop where
  bx : W.heap[bx]? = some (.cells #[.string p.name, .slice (some ⟨rb, 0, none⟩) p.rows.length ac, .slice qo p.qs.length qc, .slice vo p.vs.length vc, .slice tto p.ts.length tc, .slice uo p.us.length uc, .slice oo p.on.length oc, .int .i64 p.miss] 29 (0, 0))
  r : Rw W rb p.rows
  q : W.ownsRow base 49 2 (.slice qo p.qs.length qc) p.qs.length (qF p.qs)
  v : W.ownsRow base 9 1 (.slice vo p.vs.length vc) p.vs.length (p.vs.map Value.string)
  t : W.ownsRow base 9 1 (.slice tto p.ts.length tc) p.ts.length (p.ts.map Value.string)
  u : W.ownsRow base 3 1 (.slice uo p.us.length uc) p.us.length (nv p.us)
  o : W.ownsRow base 3 1 (.slice oo p.on.length oc) p.on.length (iv p.on)
section
variable {W W' : World} {p : Pl} {bx rb base ac qc vc tc uc oc : Nat} {qo vo tto uo oo : Option Addr}
theorem Ps.below (h : Ps W p bx rb base ac qo vo tto uo oo qc vc tc uc oc) (hb : Below W.heap.size W W') : Ps W' p bx rb base ac qo vo tto uo oo qc vc tc uc oc :=
  ⟨(hb.block _ (blk_lt h.bx)).trans h.bx, h.r.same (hb.block _ h.r.lt), own_below h.q hb, own_below h.v hb, own_below h.t hb, own_below h.u hb, own_below h.o hb⟩
theorem nv_iv (us : List Nat) : nv us = iv (us.map fun n : Nat => (n : Int)) := by simp [nv, iv, List.map_map, Function.comp_def]
theorem Ps.rd (h : Ps W p bx rb base ac qo vo tto uo oo qc vc tc uc oc) : RdG W p.g (some ⟨rb, 0, none⟩) qo vo tto uo oo :=
  ⟨h.r.rz, vals_of h.q, vals_of h.v, vals_of h.t, by have := vals_of h.u; rw [nv_iv] at this; exact this, vals_of h.o⟩
theorem own_not {base n sz rb : Nat} {T : TypeId} {v : Value} {xs : List Value} {l : List Rz} (h : W.ownsRow base T sz v n xs) (hr : Rw W rb l) (hT : T ≠ 40) : ∀ k, v.ownBlock = some k → k ≠ rb := fun k hk e => by
  subst e
  obtain ⟨cs, hc, _⟩ := hr
  rcases h.2 with ⟨e1, _⟩ | ⟨g, cap, cur, e1, _, h3, _⟩
  · rw [e1] at hk; simp [Value.ownBlock] at hk
  · rw [e1] at hk
    have : g = k := by simpa [Value.ownBlock] using hk
    subst this
    rw [h3] at hc
    simp only [Option.some.injEq, Obj.cells.injEq] at hc
    exact hT hc.2.1
theorem Ps.turn (h : Ps W p bx rb base ac qo vo tto uo oo qc vc tc uc oc) {a : Nat} (ha : a < p.rows.length) (b : Int) : (W.setCell ⟨rb, a * 5 + 3, none⟩ (.int .i64 ((rat p.rows a).n + b))).heap[bx]? = some (.cells #[.string p.name, .slice (some ⟨rb, 0, none⟩) p.rows.length ac, .slice qo p.qs.length qc, .slice vo p.vs.length vc, .slice tto p.ts.length tc, .slice uo p.us.length uc, .slice oo p.on.length oc, .int .i64 p.miss] 29 (0, 0)) ∧ RdG (W.setCell ⟨rb, a * 5 + 3, none⟩ (.int .i64 ((rat p.rows a).n + b))) (turn p a b) (some ⟨rb, 0, none⟩) qo vo tto uo oo := by
  have hk : ∀ k, k ≠ rb → (W.setCell ⟨rb, a * 5 + 3, none⟩ (.int .i64 ((rat p.rows a).n + b))).heap[k]? = W.heap[k]? := fun k hk => Below.heap_setCell W _ _ k (fun e => hk e)
  have kp : ∀ {T : TypeId} {sz n : Nat} {v' : Value} {xs : List Value}, T ≠ 40 → W.ownsRow base T sz v' n xs → (W.setCell ⟨rb, a * 5 + 3, none⟩ (.int .i64 ((rat p.rows a).n + b))).ownsRow base T sz v' n xs := fun hT h1 => own_keepB h1 (fun k hk2 => hk k (own_not h1 h.r hT k hk2))
  obtain ⟨cs, hc, _⟩ := h.r
  have hbx : bx ≠ rb := fun e => ne_types hc h.bx (by decide) e.symm
  refine ⟨(hk _ hbx).trans h.bx, (h.r.setN (some_rat ha) ((rat p.rows a).n + b)).rz, vals_of (kp (by decide) h.q), vals_of (kp (by decide) h.v), vals_of (kp (by decide) h.t), ?_, vals_of (kp (by decide) h.o)⟩
  have := vals_of (kp (by decide) h.u)
  rw [nv_iv] at this
  exact this
end
theorem qF_nm (qs : List (ByteArray × Bool)) (n : Nat) (q : ByteArray × Bool) (h : qs[n]? = some q) : (qF qs)[n * 2]? = some (.string q.1) := by
  induction qs generalizing n with
  | nil => simp at h
  | cons z qs ih =>
    have e : qF (z :: qs) = [.string z.1, .bool z.2] ++ qF qs := by simp [qF]
    rw [e]
    cases n with
    | zero =>
      simp at h
      subst h
      rfl
    | succ n =>
      rw [show (n + 1) * 2 = n * 2 + 2 by omega]
      simpa using ih n (by simpa using h)
set_option maxHeartbeats 25600000 in
set_option maxRecDepth 100000 in
theorem toldWalk (ao : Option Addr) (l : List Rz) (cap : Nat) (a b : Int) (w : World) (h : IsRz w ao l) (hn : l.length ≤ 2932031007317) (_hkd : ∀ r ∈ l, r.kids ≤ 9223372036854775807 ∧ r.name.size ≤ 4611686018427387000) :
    Calls Try.prog 5 #[.slice ao l.length cap, .int .i64 a, .int .i64 b] w fun e w' => e = .returned (.bool true) ∧ Below w.heap.size w w' := by
  have HI : Hid (IsRz w ao l) := h
  by_cases hf : 65536 < l.length
  · have HF := show Hid _ from far_yes (ao := ao) (cap := cap) hf hn w
    clear h hn hf
    go_enter Try.func5, Try.ntmps5
    go_wp2_with fail
    refine Calls.mono HF.out ?_
    rintro _ _ ⟨rfl, rfl⟩
    go_wp2_with fail
    refine Calls.mono (head_any w) ?_
    rintro e w1 ⟨rfl, hb⟩
    have HB := show Hid _ from hb
    clear hb
    go_wp2
    go_ret
    exact ⟨rfl, HB.out⟩
  · have HF := show Hid _ from far_no (ao := ao) (cap := cap) hf w
    have HN : Hid (l.length ≤ 65536) := by show _ ≤ _; omega
    have hl2 : (l.length : Int) ≤ 65536 := by omega
    clear h hn hf
    go_enter Try.func5, Try.ntmps5
    go_wp2_with fail
    refine Calls.mono HF.out ?_
    rintro _ _ ⟨rfl, rfl⟩
    go_wp2_with fail
    refine Calls.mono (lendR_any ao l cap w HI.out (by have := HN.out; omega)) ?_
    rintro e w1 ⟨rfl, hR1, hb1⟩
    have HZ1 : Hid (IsRz w1 (some ⟨w.heap.size, 0, none⟩) l ∧ Below w.heap.size w w1) := ⟨RowZ.reads (l' := (List.range 9).map (fun j => mkL (l.length + j)) ++ List.replicate (9 - 9) rz0) hR1, hb1⟩
    clear hR1 hb1
    go_wp2_with fail
    refine Calls.mono (resolve_any (cap := l.length + 9) HZ1.out.1 (by have := HN.out; omega)) ?_
    rintro e w2 hT2
    cases hres : res l with
    | error ci =>
      rw [hres] at hT2
      obtain ⟨hb2, rfl⟩ := hT2
      obtain ⟨c1, c2⟩ := ci
      have hp := res_pos hres
      dsimp only at hp ⊢
      have hc1 : ((c1 : Int) != 0) = true := by simp; omega
      have hb := HZ1.out.2.trans (hb2.mono HZ1.out.2.size)
      have HB3 : Hid (Below w.heap.size w ((w2.alloc (.cells #[.string ⟨#[]⟩, pz, pz, pz, pz, pz, pz, .int .i64 0] 29)).alloc (.cells #[.int .i64 (c1 : Int), .int .i64 (c2 : Int)] 32))) := hb.trans ((((Below.refl _ w2).alloc (Nat.le_refl _) _).alloc (by simp) _).mono hb.size)
      clear hb2 hp hres hb
      go_wp2_with fail
      generalize ((w2.alloc (.cells #[.string ⟨#[]⟩, pz, pz, pz, pz, pz, pz, .int .i64 0] 29)).alloc (.cells #[.int .i64 (c1 : Int), .int .i64 (c2 : Int)] 32)) = w3 at *
      refine Calls.mono (head_any w3) ?_
      rintro e w4 ⟨rfl, hb4⟩
      have HB4 : Hid (Below w.heap.size w w4) := HB3.out.trans (hb4.mono HB3.out.size)
      clear hb4
      go_wp2
      go_ret
      exact ⟨rfl, HB4.out⟩
    | ok p =>
      rw [hres] at hT2
      obtain ⟨hb2, v, rfl, hpl⟩ := hT2
      have HRes : Hid (res l = .ok p) := hres
      have HT : Hid (Told7 l p) := res_told7 (by have := HN.out; omega) hres
      obtain ⟨rb, ac, qv, vv, tv, uv, ov, rfl, hrb, hr, hq, hv, ht, hu, ho⟩ := hpl.ex
      obtain ⟨qo, qc, rfl⟩ := own_form hq
      obtain ⟨vo, vc, rfl⟩ := own_form hv
      obtain ⟨tto, tc, rfl⟩ := own_form ht
      obtain ⟨uo, uc, rfl⟩ := own_form hu
      obtain ⟨oo, oc, rfl⟩ := own_form ho
      have hb3 : Below w2.heap.size w2 ((w2.alloc (.cells #[.string p.name, .slice (some ⟨rb, 0, none⟩) p.rows.length ac, .slice qo p.qs.length qc, .slice vo p.vs.length vc, .slice tto p.ts.length tc, .slice uo p.us.length uc, .slice oo p.on.length oc, .int .i64 p.miss] 29)).alloc (.cells #[.int .i64 0, .int .i64 0] 32)) := ((Below.refl _ w2).alloc (Nat.le_refl _) _).alloc (by simp) _
      have H3 : Hid (Ps ((w2.alloc (.cells #[.string p.name, .slice (some ⟨rb, 0, none⟩) p.rows.length ac, .slice qo p.qs.length qc, .slice vo p.vs.length vc, .slice tto p.ts.length tc, .slice uo p.us.length uc, .slice oo p.on.length oc, .int .i64 p.miss] 29)).alloc (.cells #[.int .i64 0, .int .i64 0] 32)) p w2.heap.size rb w1.heap.size ac qo vo tto uo oo qc vc tc uc oc ∧ Below w.heap.size w ((w2.alloc (.cells #[.string p.name, .slice (some ⟨rb, 0, none⟩) p.rows.length ac, .slice qo p.qs.length qc, .slice vo p.vs.length vc, .slice tto p.ts.length tc, .slice uo p.us.length uc, .slice oo p.on.length oc, .int .i64 p.miss] 29)).alloc (.cells #[.int .i64 0, .int .i64 0] 32)) ∧ w.heap.size ≤ rb) := by
        have hb := HZ1.out.2.trans (hb2.mono HZ1.out.2.size)
        exact ⟨⟨by rw [alloc_old _ _ _ (by simp)]; exact alloc_at _ _ _ rfl, hr.same (hb3.block _ hr.lt), own_below hq hb3, own_below hv hb3, own_below ht hb3, own_below hu hb3, own_below ho hb3⟩, hb.trans (hb3.mono hb.size), Nat.le_trans HZ1.out.2.size hrb⟩
      have HLen : Hid (p.rows.length = l.length) := HT.out.len
      have HOnl : Hid (p.on.length = p.qs.length) := HT.out.onl
      obtain ⟨k0, k1, k2, k3, k4, k5, k6, k7⟩ := pol8 H3.out.1.bx
      have HCk : Hid (Calls Try.prog 20 #[.agg #[.string p.name, .slice (some ⟨rb, 0, none⟩) p.rows.length ac, .slice qo p.qs.length qc, .slice vo p.vs.length vc, .slice tto p.ts.length tc, .slice uo p.us.length uc, .slice oo p.on.length oc, .int .i64 p.miss]] ((w2.alloc (.cells #[.string p.name, .slice (some ⟨rb, 0, none⟩) p.rows.length ac, .slice qo p.qs.length qc, .slice vo p.vs.length vc, .slice tto p.ts.length tc, .slice uo p.us.length uc, .slice oo p.on.length oc, .int .i64 p.miss] 29)).alloc (.cells #[.int .i64 0, .int .i64 0] 32)) fun e w' => e = .returned (.int .i64 0) ∧ Below ((w2.alloc (.cells #[.string p.name, .slice (some ⟨rb, 0, none⟩) p.rows.length ac, .slice qo p.qs.length qc, .slice vo p.vs.length vc, .slice tto p.ts.length tc, .slice uo p.us.length uc, .slice oo p.on.length oc, .int .i64 p.miss] 29)).alloc (.cells #[.int .i64 0, .int .i64 0] 32)).heap.size ((w2.alloc (.cells #[.string p.name, .slice (some ⟨rb, 0, none⟩) p.rows.length ac, .slice qo p.qs.length qc, .slice vo p.vs.length vc, .slice tto p.ts.length tc, .slice uo p.us.length uc, .slice oo p.on.length oc, .int .i64 p.miss] 29)).alloc (.cells #[.int .i64 0, .int .i64 0] 32)) w') := by
        have := checkP_any (ac := ac) (qc := qc) (vc := vc) (tc := tc) (uc := uc) (oc := oc) H3.out.1.rd HT.out.sm (fun e => by cases e)
        have e : pvG p.g (some ⟨rb, 0, none⟩) qo vo tto uo oo ac qc vc tc uc oc = .agg #[.string p.name, .slice (some ⟨rb, 0, none⟩) p.rows.length ac, .slice qo p.qs.length qc, .slice vo p.vs.length vc, .slice tto p.ts.length tc, .slice uo p.us.length uc, .slice oo p.on.length oc, .int .i64 p.miss] := by simp [pvG, Pl.g]
        rw [e] at this
        refine Calls.mono this ?_
        rintro e w' ⟨he, hb⟩
        refine ⟨?_, hb⟩
        have hx : ∃ p', res (p.g.rows.map unn) = .ok p' ∧ p'.g = p.g := ⟨p, by show res (p.rows.map unn) = _; rw [HT.out.back]; exact HRes.out, rfl⟩
        rcases he with ⟨_, _, _, rfl⟩ | ⟨hno, _⟩
        · rfl
        · exact absurd hx hno
      clear hb2 hpl hrb hr hq hv ht hu ho hb3 hres
      go_wp2_with fail
      generalize ((w2.alloc (.cells #[.string p.name, .slice (some ⟨rb, 0, none⟩) p.rows.length ac, .slice qo p.qs.length qc, .slice vo p.vs.length vc, .slice tto p.ts.length tc, .slice uo p.us.length uc, .slice oo p.on.length oc, .int .i64 p.miss] 29)).alloc (.cells #[.int .i64 0, .int .i64 0] 32)) = w3 at *
      generalize w2.heap.size = bx at *
      generalize w1.heap.size = base at *
      refine Calls.mono HCk.out ?_
      rintro e w4 ⟨rfl, hb4⟩
      clear k0 k1 k2 k3 k4 k5 k6 k7
      have H4 : Hid (Ps w4 p bx rb base ac qo vo tto uo oo qc vc tc uc oc ∧ Below w.heap.size w w4) := ⟨H3.out.1.below hb4, H3.out.2.1.trans (hb4.mono H3.out.2.1.size)⟩
      have HRb : Hid (w.heap.size ≤ rb) := H3.out.2.2
      have hnel : ((p.rows.length : Int) != (l.length : Int)) = false := by simp [HLen.out]
      have hneo : ((p.on.length : Int) != (p.qs.length : Int)) = false := by simp [HOnl.out]
      obtain ⟨k0, k1, k2, k3, k4, k5, k6, k7⟩ := pol8 H4.out.1.bx
      clear hb4 HCk H3
      go_wp2_with fail
      clear k0 k1 k2 k3 k4 k5 k6 k7
      go_loopg [9] l.length (fun gq x wr => ∃ i : Nat, i + gq = l.length ∧ x = .int .i64 (i : Int) ∧ Below w4.heap.size w4 wr)
      case atStart => exact ⟨0, by omega, rfl, Below.refl _ _⟩
      case round =>
        obtain ⟨i, hig, rfl, hbr⟩ := hrel
        have HR : Hid (Below w4.heap.size w4 wr) := hbr
        have HPr : Hid (Ps wr p bx rb base ac qo vo tto uo oo qc vc tc uc oc ∧ Below w.heap.size w wr) := ⟨H4.out.1.below hbr, H4.out.2.trans (hbr.mono H4.out.2.size)⟩
        obtain ⟨k0, k1, k2, k3, k4, k5, k6, k7⟩ := pol8 HPr.out.1.bx
        by_cases hlt : i < l.length
        · have hi1 : (i : Int) < (l.length : Int) := by omega
          have hi2 : (i : Int) < (p.rows.length : Int) := by have := HLen.out; omega
          have hi3 : i < p.rows.length := by have := HLen.out; omega
          have HK : Hid (i + gk = l.length ∧ i < l.length) := ⟨hig, hlt⟩
          obtain ⟨ek, en, e0, e1, er⟩ := HT.out.row i hlt
          obtain ⟨c0, c1, c2, c3, c4, _⟩ := HPr.out.1.r.cells (some_rat hi3)
          obtain ⟨tg, tof, rfl, _, d0, d1, _⟩ := (HI.out.below HPr.out.2) i _ (some_rat hlt)
          have HD : Hid (∀ W, Calls Try.prog 14 #[.int .i64 (rat l i).kind] W fun e w' => e = .returned (.int .i64 (decl (rat l i).kind : Nat)) ∧ w' = W) := fun W => declares_any _ W
          have HNn : Hid (∀ W, Calls Try.prog 15 #[.int .i64 (rat l i).kind] W fun e w' => e = .returned (.int .i64 (nmd (rat l i).kind : Nat)) ∧ w' = W) := fun W => names_any _ W
          have hdl := decl_le (rat l i).kind
          have hnl := Go.Proofs.Ytopiakhlajpdaab.Nm.nmd_le (rat l i).kind
          have hd4 : ((decl (rat l i).kind : Nat) : Int) ≤ 4 := by omega
          have hn4 : ((nmd (rat l i).kind : Nat) : Int) ≤ 4 := by omega
          have HEr := show Hid _ from er
          rw [ek] at c0
          rw [en] at c1
          generalize (rat l i).kind = kd at *
          generalize (rat l i).name = nm at *
          generalize (rat p.rows i).stop = st at *
          generalize (rat p.rows i).kids = ks at *
          generalize (rat p.rows i).n = N at *
          have hbA : Below wr.heap.size wr (wr.alloc (.cells #[.int .i64 kd, .string nm, .int .i64 st, .int .i64 N, .int .i64 ks] 40)) := (Below.refl _ wr).alloc (Nat.le_refl _) _
          have HA : Hid (Ps (wr.alloc (.cells #[.int .i64 kd, .string nm, .int .i64 st, .int .i64 N, .int .i64 ks] 40)) p bx rb base ac qo vo tto uo oo qc vc tc uc oc ∧ Below w4.heap.size w4 (wr.alloc (.cells #[.int .i64 kd, .string nm, .int .i64 st, .int .i64 N, .int .i64 ks] 40))) := ⟨HPr.out.1.below hbA, HR.out.trans (hbA.mono HR.out.size)⟩
          have d0' : (wr.alloc (.cells #[.int .i64 kd, .string nm, .int .i64 st, .int .i64 N, .int .i64 ks] 40)).cell? ⟨tg, tof + i * 5, none⟩ = some (.int .i64 kd) := (hbA.cell (p := ⟨tg, tof + i * 5, none⟩) (World.block_lt_of_cell? wr _ d0)).trans d0
          have d1' : (wr.alloc (.cells #[.int .i64 kd, .string nm, .int .i64 st, .int .i64 N, .int .i64 ks] 40)).cell? ⟨tg, tof + i * 5 + 1, none⟩ = some (.string nm) := (hbA.cell (p := ⟨tg, tof + i * 5 + 1, none⟩) (World.block_lt_of_cell? wr _ d1)).trans d1
          have hnew := heap_alloc_new wr (.cells #[.int .i64 kd, .string nm, .int .i64 st, .int .i64 N, .int .i64 ks] 40)
          have x0 : (wr.alloc (.cells #[.int .i64 kd, .string nm, .int .i64 st, .int .i64 N, .int .i64 ks] 40)).cell? ⟨wr.heap.size, 0, none⟩ = some (.int .i64 kd) := by rw [World.cell?, hnew]; rfl
          have x1 : (wr.alloc (.cells #[.int .i64 kd, .string nm, .int .i64 st, .int .i64 N, .int .i64 ks] 40)).cell? ⟨wr.heap.size, 1, none⟩ = some (.string nm) := by rw [World.cell?, hnew]; rfl
          have x3 : (wr.alloc (.cells #[.int .i64 kd, .string nm, .int .i64 st, .int .i64 N, .int .i64 ks] 40)).cell? ⟨wr.heap.size, 3, none⟩ = some (.int .i64 N) := by rw [World.cell?, hnew]; rfl
          have hnn : decide (N < 0) = false := decide_eq_false (by omega)
          clear hig hbr hlt er ek en hbA hnew
          go_wp2_with fail
          clear k0 k1 k2 k3 k4 k5 k6 k7 c0 c1 c2 c3 c4 d0 d1
          generalize wr.alloc (.cells #[.int .i64 kd, .string nm, .int .i64 st, .int .i64 N, .int .i64 ks] 40) = wA at *
          generalize wr.heap.size = xb at *
          obtain ⟨k0, k1, k2, k3, k4, k5, k6, k7⟩ := pol8 HA.out.1.bx
          go_quiet ((first | (go_at_call 15; exact Calls.quiet_of_same (HNn.out _)) | (go_at_call 14; exact Calls.quiet_of_same (HD.out _))))
          clear k0 k1 k2 k3 k4 k5 k6 k7
          have hbB := Go.Proofs.Ytopiakhlajpdaab.Nm.below_drewN wA nq
          have HB : Hid (Ps (wA.drewN nq) p bx rb base ac qo vo tto uo oo qc vc tc uc oc ∧ Below w4.heap.size w4 (wA.drewN nq)) := ⟨HA.out.1.below hbB, HA.out.2.trans (hbB.mono HA.out.2.size)⟩
          replace x0 : (wA.drewN nq).cell? ⟨xb, 0, none⟩ = some (.int .i64 kd) := (hbB.cell (p := ⟨xb, 0, none⟩) (World.block_lt_of_cell? wA _ x0)).trans x0
          replace x1 : (wA.drewN nq).cell? ⟨xb, 1, none⟩ = some (.string nm) := (hbB.cell (p := ⟨xb, 1, none⟩) (World.block_lt_of_cell? wA _ x1)).trans x1
          replace x3 : (wA.drewN nq).cell? ⟨xb, 3, none⟩ = some (.int .i64 N) := (hbB.cell (p := ⟨xb, 3, none⟩) (World.block_lt_of_cell? wA _ x3)).trans x3
          replace d0' : (wA.drewN nq).cell? ⟨tg, tof + i * 5, none⟩ = some (.int .i64 kd) := (hbB.cell (p := ⟨tg, tof + i * 5, none⟩) (World.block_lt_of_cell? wA _ d0')).trans d0'
          replace d1' : (wA.drewN nq).cell? ⟨tg, tof + i * 5 + 1, none⟩ = some (.string nm) := (hbB.cell (p := ⟨tg, tof + i * 5 + 1, none⟩) (World.block_lt_of_cell? wA _ d1')).trans d1'
          clear hbB
          generalize wA.drewN nq = wB at *
          have hK : ((nmd kd : Nat) : Int) + ((decl kd : Nat) : Int) = ((decl kd + nmd kd : Nat) : Int) := by omega
          have HRd : Hid (∀ m, Below w4.heap.size w4 (wB.drewN m)) := fun m => HB.out.2.trans ((Go.Proofs.Ytopiakhlajpdaab.Nm.below_drewN wB m).mono HB.out.2.size)
          rw [hK]
          clear hK HD HNn hdl hnl hd4 hn4
          generalize decl kd + nmd kd = Kn at *
          obtain ⟨k0, k1, k2, k3, k4, k5, k6, k7⟩ := pol8 HB.out.1.bx
          rcases HEr.out with h0 | ⟨n, hN, hnm⟩
          · subst h0
            clear HEr
            go_wp2_with fail
            go_quiet (fail)
            go_wp2_with fail
            go_roundg (l.length - (i + 1))
            case measure => have := HK.out.1; have := HK.out.2; omega
            case rel => exact ⟨i + 1, by have := HK.out.2; omega, by go_num, HRd.out _⟩
          · subst hN
            clear HEr
            have hn64 := nm_lt hnm
            unfold nameOf at hnm
            by_cases k1' : Kn = 1
            · subst k1'
              rw [if_pos rfl] at hnm
              cases hq : p.qs[n]? with
              | none => rw [hq] at hnm; cases hnm
              | some q =>
                rw [hq] at hnm
                have hqn : q.1 = nm := by simpa using hnm
                have hlq := (List.getElem?_eq_some_iff.1 hq).1
                have hl1 : (n : Int) < (p.qs.length : Int) := by omega
                obtain ⟨qg, qof, rfl, _, hqc⟩ := vals_of HB.out.1.q (n * 2) _ (qF_nm p.qs n q hq)
                rw [hqn] at hqc
                clear hq hnm hqn hlq hn64
                go_wp2_with fail
                go_quiet (fail)
                go_wp2_with fail
                go_roundg (l.length - (i + 1))
                case measure => have := HK.out.1; have := HK.out.2; omega
                case rel => exact ⟨i + 1, by have := HK.out.2; omega, by go_num, HRd.out _⟩
            · rw [if_neg k1'] at hnm
              by_cases k2' : Kn = 2
              · subst k2'
                rw [if_pos rfl] at hnm
                have hlq := (List.getElem?_eq_some_iff.1 hnm).1
                have hl1 : (n : Int) < (p.vs.length : Int) := by omega
                obtain ⟨qg, qof, rfl, _, hqc⟩ := vals_of HB.out.1.v n (.string nm) (by rw [List.getElem?_map, hnm]; rfl)
                clear hnm hlq hn64
                go_wp2_with fail
                go_quiet (fail)
                go_wp2_with fail
                go_roundg (l.length - (i + 1))
                case measure => have := HK.out.1; have := HK.out.2; omega
                case rel => exact ⟨i + 1, by have := HK.out.2; omega, by go_num, HRd.out _⟩
              · rw [if_neg k2'] at hnm
                by_cases k3' : Kn = 3
                · subst k3'
                  rw [if_pos rfl] at hnm
                  have hlq := (List.getElem?_eq_some_iff.1 hnm).1
                  have hl1 : (n : Int) < (p.ts.length : Int) := by omega
                  obtain ⟨qg, qof, rfl, _, hqc⟩ := vals_of HB.out.1.t n (.string nm) (by rw [List.getElem?_map, hnm]; rfl)
                  clear hnm hlq hn64
                  go_wp2_with fail
                  go_quiet (fail)
                  go_wp2_with fail
                  go_roundg (l.length - (i + 1))
                  case measure => have := HK.out.1; have := HK.out.2; omega
                  case rel => exact ⟨i + 1, by have := HK.out.2; omega, by go_num, HRd.out _⟩
                · rw [if_neg k3'] at hnm
                  by_cases k4' : Kn = 4
                  · subst k4'
                    rw [if_pos rfl] at hnm
                    cases hu : p.us[n]? with
                    | none => rw [hu] at hnm; cases hnm
                    | some u =>
                      rw [hu] at hnm
                      have hun : (rat l (u - 1)).name = nm := by simpa using hnm
                      have hlq := (List.getElem?_eq_some_iff.1 hu).1
                      have hl1 : (n : Int) < (p.us.length : Int) := by omega
                      obtain ⟨hu1, hu2⟩ := HT.out.up u (List.mem_of_getElem? hu)
                      obtain ⟨t, rfl⟩ : ∃ t, u = t + 1 := ⟨u - 1, by omega⟩
                      rw [Nat.add_sub_cancel] at hun
                      have hrn : (rat p.rows t).name = nm := ((HT.out.row t (by omega)).2.1).trans hun
                      obtain ⟨_, r1, _⟩ := HB.out.1.r.cells (some_rat (show t < p.rows.length by have := HLen.out; omega))
                      rw [hrn] at r1
                      have ht1 : (t : Int) < (p.rows.length : Int) := by have := HLen.out; omega
                      have ht2 : (t : Int) ≤ 65536 := by have := HN.out; omega
                      obtain ⟨qg, qof, hue, _, hqc⟩ := vals_of HB.out.1.u n (.int .i64 ((t + 1 : Nat) : Int)) (by simp [nv, hu])
                      rw [show ((t + 1 : Nat) : Int) = (t : Int) + 1 by omega] at hqc
                      rw [hue] at k5
                      clear hu hnm hun hlq hn64 hu1 hu2 hrn hue
                      go_wp2_with fail
                      go_quiet (fail)
                      clear k0 k1 k2 k3 k4 k5 k6 k7 r1 hqc
                      have hbB := Go.Proofs.Ytopiakhlajpdaab.Nm.below_drewN wB nq
                      have HC : Hid (Ps (wB.drewN nq) p bx rb base ac qo vo tto uo oo qc vc tc uc oc ∧ Below w4.heap.size w4 (wB.drewN nq)) := ⟨HB.out.1.below hbB, HB.out.2.trans (hbB.mono HB.out.2.size)⟩
                      replace x0 : (wB.drewN nq).cell? ⟨xb, 0, none⟩ = some (.int .i64 kd) := (hbB.cell (p := ⟨xb, 0, none⟩) (World.block_lt_of_cell? wB _ x0)).trans x0
                      replace x1 : (wB.drewN nq).cell? ⟨xb, 1, none⟩ = some (.string nm) := (hbB.cell (p := ⟨xb, 1, none⟩) (World.block_lt_of_cell? wB _ x1)).trans x1
                      replace x3 : (wB.drewN nq).cell? ⟨xb, 3, none⟩ = some (.int .i64 (n : Int)) := (hbB.cell (p := ⟨xb, 3, none⟩) (World.block_lt_of_cell? wB _ x3)).trans x3
                      replace d0' : (wB.drewN nq).cell? ⟨tg, tof + i * 5, none⟩ = some (.int .i64 kd) := (hbB.cell (p := ⟨tg, tof + i * 5, none⟩) (World.block_lt_of_cell? wB _ d0')).trans d0'
                      replace d1' : (wB.drewN nq).cell? ⟨tg, tof + i * 5 + 1, none⟩ = some (.string nm) := (hbB.cell (p := ⟨tg, tof + i * 5 + 1, none⟩) (World.block_lt_of_cell? wB _ d1')).trans d1'
                      clear hbB
                      generalize wB.drewN nq = wC at *
                      have HRd : Hid (∀ m, Below w4.heap.size w4 (wC.drewN m)) := fun m => HC.out.2.trans ((Go.Proofs.Ytopiakhlajpdaab.Nm.below_drewN wC m).mono HC.out.2.size)
                      obtain ⟨k0, k1, k2, k3, k4, k5, k6, k7⟩ := pol8 HC.out.1.bx
                      go_wp2_with fail
                      go_quiet (fail)
                      go_wp2_with fail
                      go_roundg (l.length - (i + 1))
                      case measure => have := HK.out.1; have := HK.out.2; omega
                      case rel => exact ⟨i + 1, by have := HK.out.2; omega, by go_num, HRd.out _⟩
                  · rw [if_neg k4'] at hnm
                    cases hnm
        · have hi1 : decide ((i : Int) < (p.rows.length : Int)) = false := decide_eq_false (by have := HLen.out; omega)
          have hi2 : decide (i < p.rows.length) = false := decide_eq_false (by have := HLen.out; omega)
          clear hig hbr hlt
          have HRo1 : Hid (∀ W, Calls Try.prog 21 #[.int .i64 a, .int .i64 (p.rows.length : Int)] W fun r w' => r = .returned (.int .i64 (rnd7 a p.rows.length : Nat)) ∧ W = w') := fun W => Calls.mono (round7 a p.rows.length (by have := HT.out.pos; have := HLen.out; omega) (by have := HN.out; have := HLen.out; omega) W) (fun _ _ h => ⟨h.1, h.2.symm⟩)
          have HRo2 : Hid (∀ W, Calls Try.prog 21 #[.int .i64 b, .int .i64 1000] W fun r w' => r = .returned (.int .i64 (rnd7 b 1000 : Nat)) ∧ W = w') := fun W => Calls.mono (round7 b 1000 (by omega) (by omega) W) (fun _ _ h => ⟨h.1, h.2.symm⟩)
          have hr1 : rnd7 a p.rows.length < p.rows.length := rnd7_lt _ (by have := HT.out.pos; have := HLen.out; omega)
          have hr2 : rnd7 b 1000 < 1000 := rnd7_lt _ (by omega)
          generalize rnd7 a p.rows.length = ra at *
          generalize rnd7 b 1000 = rb2 at *
          have hra : (ra : Int) < (p.rows.length : Int) := by omega
          have hra2 : (ra : Int) ≤ 65536 := by have := HN.out; have := HLen.out; omega
          have hrb2 : (rb2 : Int) ≤ 1000 := by omega
          obtain ⟨c0, c1, c2, c3, c4, fz⟩ := HPr.out.1.r.cells (some_rat hr1)
          have fz3 := fz (ra * 5 + 3)
          have hrow := HT.out.row ra (by have := HLen.out; omega)
          have HRow : Hid (0 ≤ (rat p.rows ra).n ∧ (rat p.rows ra).n ≤ 1073741824) := ⟨hrow.2.2.1, hrow.2.2.2.1⟩
          have HRa : Hid (ra < p.rows.length) := hr1
          clear fz hrow hr2 c1 c2 c4
          generalize hkd0 : (rat p.rows ra).kind = kd0 at *
          have HKd : Hid ((rat p.rows ra).kind = kd0) := hkd0
          clear hkd0
          by_cases h27 : kd0 = 27
          · have hk1 : (kd0 != 27) = false := by rw [h27]; rfl
            clear h27 c3 fz3
            go_wp2_with fail
            refine Calls.mono (HRo1.out _) ?_
            rintro _ _ ⟨rfl, rfl⟩
            go_wp2_with fail
            refine Calls.mono (HRo2.out _) ?_
            rintro _ _ ⟨rfl, rfl⟩
            go_wp2_with fail
            refine Calls.mono (head_any wr) ?_
            rintro e w5 ⟨rfl, hb5⟩
            have HB5 : Hid (Below w.heap.size w w5) := HPr.out.2.trans (hb5.mono HPr.out.2.size)
            clear hb5
            go_wp2
            go_ret
            exact ⟨rfl, HB5.out⟩
          · have hk1 : (kd0 != 27) = true := bne_iff_ne.2 h27
            by_cases hb0 : rb2 = 0
            · have hb1 : decide ((0 : Int) < (rb2 : Int)) = false := decide_eq_false (by omega)
              have hb2' : decide (0 < rb2) = false := decide_eq_false (by omega)
              clear h27 hb0 c3 fz3
              go_wp2_with fail
              refine Calls.mono (HRo1.out _) ?_
              rintro _ _ ⟨rfl, rfl⟩
              go_wp2_with fail
              refine Calls.mono (HRo2.out _) ?_
              rintro _ _ ⟨rfl, rfl⟩
              go_wp2_with fail
              refine Calls.mono (head_any wr) ?_
              rintro e w5 ⟨rfl, hb5⟩
              have HB5 : Hid (Below w.heap.size w w5) := HPr.out.2.trans (hb5.mono HPr.out.2.size)
              clear hb5
              go_wp2
              go_ret
              exact ⟨rfl, HB5.out⟩
            · have hb1 : (0 : Int) < (rb2 : Int) := by omega
              have hn1 : 0 ≤ (rat p.rows ra).n := HRow.out.1
              have hn2 : (rat p.rows ra).n ≤ 1073741824 := HRow.out.2
              obtain ⟨htb, htr⟩ := HPr.out.1.turn hr1 (rb2 : Int)
              have HTn : Hid (¬ ∃ p', res ((turn p ra (rb2 : Int)).rows.map unn) = .ok p' ∧ p'.g = turn p ra (rb2 : Int)) := turned HRes.out HT.out hr1 (by rw [HKd.out]; exact h27) hb1
              have HTb : Hid ((wr.setCell ⟨rb, ra * 5 + 3, none⟩ (.int .i64 ((rat p.rows ra).n + (rb2 : Int)))).heap[bx]? = some (.cells #[.string p.name, .slice (some ⟨rb, 0, none⟩) p.rows.length ac, .slice qo p.qs.length qc, .slice vo p.vs.length vc, .slice tto p.ts.length tc, .slice uo p.us.length uc, .slice oo p.on.length oc, .int .i64 p.miss] 29 (0, 0)) ∧ RdG (wr.setCell ⟨rb, ra * 5 + 3, none⟩ (.int .i64 ((rat p.rows ra).n + (rb2 : Int)))) (turn p ra (rb2 : Int)) (some ⟨rb, 0, none⟩) qo vo tto uo oo ∧ Below w.heap.size w (wr.setCell ⟨rb, ra * 5 + 3, none⟩ (.int .i64 ((rat p.rows ra).n + (rb2 : Int))))) := ⟨htb, htr, below_set HPr.out.2 HRb.out _ _⟩
              have HSm : Hid ((turn p ra (rb2 : Int)).Sm) := ⟨by show (p.rows.set _ _).length ≤ _; rw [List.length_set]; exact HT.out.sm.r, HT.out.sm.q, HT.out.sm.v, HT.out.sm.t, HT.out.sm.u, HT.out.sm.o⟩
              clear htb htr h27 hb0
              generalize (rat p.rows ra).n = N0 at *
              go_wp2_with fail
              refine Calls.mono (HRo1.out _) ?_
              rintro _ _ ⟨rfl, rfl⟩
              go_wp2_with fail
              refine Calls.mono (HRo2.out _) ?_
              rintro _ _ ⟨rfl, rfl⟩
              go_wp2_with fail
              go_region
              all_goals
                have HB6 : Hid ((wr.setCell ⟨rb, ra * 5 + 3, none⟩ (.int .i64 (N0 + (rb2 : Int)))).drew.heap[bx]? = some (.cells #[.string p.name, .slice (some ⟨rb, 0, none⟩) p.rows.length ac, .slice qo p.qs.length qc, .slice vo p.vs.length vc, .slice tto p.ts.length tc, .slice uo p.us.length uc, .slice oo p.on.length oc, .int .i64 p.miss] 29 (0, 0)) ∧ RdG (wr.setCell ⟨rb, ra * 5 + 3, none⟩ (.int .i64 (N0 + (rb2 : Int)))).drew (turn p ra (rb2 : Int)) (some ⟨rb, 0, none⟩) qo vo tto uo oo ∧ Below w.heap.size w (wr.setCell ⟨rb, ra * 5 + 3, none⟩ (.int .i64 (N0 + (rb2 : Int)))).drew) := ⟨HTb.out.1, HTb.out.2.1.below (Below.refl _ _).drew, HTb.out.2.2.drew⟩
                clear HTb k0 k1 k2 k3 k4 k5 k6 k7 c0 c3 fz3
                generalize (wr.setCell ⟨rb, ra * 5 + 3, none⟩ (.int .i64 (N0 + (rb2 : Int)))).drew = w6 at *
                obtain ⟨k0, k1, k2, k3, k4, k5, k6, k7⟩ := pol8 HB6.out.1
                have HCk : Hid (Calls Try.prog 20 #[.agg #[.string p.name, .slice (some ⟨rb, 0, none⟩) p.rows.length ac, .slice qo p.qs.length qc, .slice vo p.vs.length vc, .slice tto p.ts.length tc, .slice uo p.us.length uc, .slice oo p.on.length oc, .int .i64 p.miss]] w6 fun e w' => e = .returned (.int .i64 23) ∧ Below w6.heap.size w6 w') := by
                  have := checkP_any (ac := ac) (qc := qc) (vc := vc) (tc := tc) (uc := uc) (oc := oc) HB6.out.2.1 HSm.out (fun e => by cases e)
                  have e : pvG (turn p ra (rb2 : Int)) (some ⟨rb, 0, none⟩) qo vo tto uo oo ac qc vc tc uc oc = .agg #[.string p.name, .slice (some ⟨rb, 0, none⟩) p.rows.length ac, .slice qo p.qs.length qc, .slice vo p.vs.length vc, .slice tto p.ts.length tc, .slice uo p.us.length uc, .slice oo p.on.length oc, .int .i64 p.miss] := by simp [pvG, Pl.g]
                  rw [e] at this
                  refine Calls.mono this ?_
                  rintro e w' ⟨he, hb⟩
                  refine ⟨?_, hb⟩
                  rcases he with ⟨p', h1, h2, _⟩ | ⟨_, rfl⟩
                  · exact absurd ⟨p', h1, h2⟩ HTn.out
                  · rfl
                go_wp2_with fail
                refine Calls.mono HCk.out ?_
                rintro e w7 ⟨rfl, hb7⟩
                have HB7 : Hid (Below w.heap.size w w7) := HB6.out.2.2.trans (hb7.mono HB6.out.2.2.size)
                clear hb7 k0 k1 k2 k3 k4 k5 k6 k7 HCk
                go_wp2_with fail
                refine Calls.mono (head_any w7) ?_
                rintro e w8 ⟨rfl, hb8⟩
                have HB8 : Hid (Below w.heap.size w w8) := HB7.out.trans (hb8.mono HB7.out.size)
                clear hb8
                go_wp2
                go_ret
                exact ⟨rfl, HB8.out⟩
end Go.Proofs.Ytopiakhlajpdaab.Nm
namespace Go.Proofs.Ytopiakhlajpdaab.namesTold
open Go.RowKit Go.Proofs.Ytopiakhlajpdaab.Gr

theorem walk (ao : Option Addr) (l : List Rz) (cap : Nat) (a b : Int) (w : World) (h : IsRz w ao l) (hn : l.length ≤ 2932031007317) (hkd : ∀ r ∈ l, r.kids ≤ 9223372036854775807 ∧ r.name.size ≤ 4611686018427387000) :
    Calls Try.prog 5 #[.slice ao l.length cap, .int .i64 a, .int .i64 b] w fun e w' => e = .returned (.bool true) ∧ Below w.heap.size w w' := Go.Proofs.Ytopiakhlajpdaab.Nm.toldWalk ao l cap a b w h hn hkd
end Go.Proofs.Ytopiakhlajpdaab.namesTold
