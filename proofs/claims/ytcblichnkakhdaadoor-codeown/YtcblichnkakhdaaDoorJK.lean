import Derived.Test.YtcblichnkakhdaaDoorJS
import Derived.Test.YtcblichnkakhdaaDoorJL
import Derived.Deep.DeepCutAuto
set_option linter.unusedSimpArgs false
namespace Go.Proofs.YtcblichnkakhdaaDoor.Cd
open Go.RowKit Go.Proofs.YtcblichnkakhdaaDoor.Nm Go.Proofs.YtcblichnkakhdaaDoor.Vf

/-- the least program -/
def kP1 : Pg := ⟨[], [], [], [], -1, []⟩
/-- what the twelve bytes tell -/
def kP2 : Pg := ⟨[false], [], [], [-1], 0, [⟨31, 0, 0, 0, 0⟩, ⟨0, 0, 0, 0, 0⟩]⟩
def kB : List Nat := [87, 1, 0, 0, 0, 0, 1, 2, 31, 0, 0, 0]
theorem chk_k1 : chk kP1 = 0 := by kernel_rfl
theorem chk_k2 : chk kP2 = 0 := by kernel_rfl
theorem numB_small {n : Nat} (h : n < 128) : numB n = [n] := by
  rw [numB, if_pos h]
theorem by_k1 : byP kP1 = [87, 0, 0, 0, 0, 0] := by
  rw [byP_eq]
  simp [kP1, numB_small]
theorem kd_31 : Cd.kd4 31 = (1, 4, 0, 0) := by decide
theorem kd_0 : Cd.kd4 0 = (0, 0, 0, 0) := by decide
theorem nm_31 : strB (name 31) = [105, 110, 115, 101, 114, 116] := by rfl
theorem nm_0 : strB (name 0) = [101, 110, 100] := by rfl
theorem by_k2 : byP kP2 = kB := by
  rw [byP_eq]
  simp [kP2, kB, numB_small, insBy, insB, insP, opB, pick4, kd_31, kd_0, insI]
theorem enc_k1 : encB kP1 = [87, 0, 0, 0, 0, 0] := (if_pos chk_k1).trans by_k1
theorem dec_k2 : decR kB = (kP2, 0, 0) := by
  rw [← by_k2]
  exact dec_byP chk_k2
theorem dec_k3 : decR [88] = (pg0, 83, 0) := by
  kernel_rfl
theorem dig_0 : decB 0 = [48] := by
  simp [decB, Lib.itoa, Lib.decDigits]
theorem dig_1 : decB 1 = [49] := by
  simp [decB, Lib.itoa, Lib.decDigits]
def kS : ByteArray := ⟨#[109, 105, 115, 115, 58, 10, 48, 58, 32, 105, 110, 115, 101, 114, 116, 32, 113, 48, 32, 102, 114, 111, 110, 116, 10, 49, 58, 32, 101, 110, 100, 10]⟩
theorem lst_k2 : txt (lstB kP2) = kS := by
  have h : lstB kP2 = [109, 105, 115, 115, 58, 10, 48, 58, 32, 105, 110, 115, 101, 114, 116, 32, 113, 48, 32, 102, 114, 111, 110, 116, 10, 49, 58, 32, 101, 110, 100, 10] := by
    unfold lstB
    rw [if_pos chk_k2]
    simp [kP2, toPr, lisT, evT, onQ, misT, insT, opsT, opT, pick4, dig_0, dig_1, insI, kd_31, kd_0, nm_31, nm_0]
  rw [h]
  rfl
theorem sam_k12 : samB kP1 kP2 = false := by decide
theorem sam_k22 : samB kP2 kP2 = true := (samB_iff _ _).2 rfl
end Go.Proofs.YtcblichnkakhdaaDoor.Cd

set_option linter.unusedSimpArgs false
namespace Go.Proofs.YtcblichnkakhdaaDoor.Cd
open Go.RowKit Go.Proofs.YtcblichnkakhdaaDoor.Nm Go.Proofs.YtcblichnkakhdaaDoor.Vf

/-- a program that was told, as a value -/
theorem own5_form {w : World} {n : Nat} {p : Pg} {g v t o c : Value} (h : Own5 w n p g v t o c) : ∃ u : PV, g = .slice u.qo p.gh.length u.qc ∧ v = .slice u.vo p.vs.length u.vc ∧ t = .slice u.to p.ts.length u.tc ∧ o = .slice u.oo p.on.length u.oc ∧ c = .slice u.co p.cd.length u.cc := by
  obtain ⟨n1, n2, n3, n4, n5, h⟩ := h.ex
  obtain ⟨b1, k1, e1⟩ := own_form (h.ow (en1 n1 g p.gh) (by simp)).2
  obtain ⟨b2, k2, e2⟩ := own_form (h.ow (en2 n2 v p.vs) (by simp)).2
  obtain ⟨b3, k3, e3⟩ := own_form (h.ow (en3 n3 t p.ts) (by simp)).2
  obtain ⟨b4, k4, e4⟩ := own_form (h.ow (en3 n4 o p.on) (by simp)).2
  obtain ⟨b5, k5, e5⟩ := own_form (h.ow (en5 n5 c p.cd) (by simp)).2
  exact ⟨⟨b1, k1, b2, k2, b3, k3, b4, k4, b5, k5⟩, e1, e2, e3, e4, e5⟩
/-- Decode: what it tells can be read -/
theorem dec_use {W : World} {bo : Option Addr} {bc : Nat} {s : List Nat} {p : Pg} {er i : Nat} (hd : decR s = (p, er, i)) (hp : p.gh.length ≤ 1000000000 ∧ p.vs.length ≤ 1000000000 ∧ p.ts.length ≤ 1000000000 ∧ p.on.length ≤ 1000000000 ∧ p.cd.length ≤ 1000000000) (hr : Cd.Rd W bo W.heap.size (u8L s)) (hs : s.length ≤ 1000000000) (hb : byts s) :
    Calls Tryd.prog 5 #[.slice bo s.length bc] W fun e W' => ∃ u : PV, e = .returned (.tuple #[.agg (pvC u p), .agg #[.int .i64 (er : Int), .int .i64 (i : Int)]]) ∧ IsPg W' u p ∧ Below W.heap.size W W' := by
  refine (dec_any (bc := bc) hr hs hb).mono ?_
  rintro e W' ⟨g, v, t, o, c, h1, h2, h3⟩
  rw [hd] at h1 h2
  obtain ⟨u, rfl, rfl, rfl, rfl, rfl⟩ := own5_form h2
  exact ⟨u, h1, own5_rd h2 hp, h3⟩
theorem lit_rd (w : World) (s : List Nat) : Cd.Rd (w.alloc (.cells (u8L s).toArray 5)) (some ⟨w.heap.size, 0, none⟩) (w.alloc (.cells (u8L s).toArray 5)).heap.size (u8L s) := fun k x hx => by
  have hb := blk_lt (heap_alloc_new w (.cells (u8L s).toArray 5))
  refine ⟨w.heap.size, 0, rfl, hb, hb, ?_⟩
  simp only [World.cell?, heap_alloc_new, Nat.zero_add]
  simpa using hx
/-- Decode of bytes that are written out -/
theorem dec_lit (w : World) (s : List Nat) {p : Pg} {er i : Nat} (hd : decR s = (p, er, i)) (hp : p.gh.length ≤ 1000000000 ∧ p.vs.length ≤ 1000000000 ∧ p.ts.length ≤ 1000000000 ∧ p.on.length ≤ 1000000000 ∧ p.cd.length ≤ 1000000000) (hs : s.length ≤ 1000000000) (hb : byts s) :
    Calls Tryd.prog 5 #[.slice (some ⟨w.heap.size, 0, none⟩) s.length s.length] (w.alloc (.cells (u8L s).toArray 5)) fun e W' => ∃ u : PV, e = .returned (.tuple #[.agg (pvC u p), .agg #[.int .i64 (er : Int), .int .i64 (i : Int)]]) ∧ IsPg W' u p ∧ Below w.heap.size w W' := by
  refine (dec_use hd hp (lit_rd w s) hs hb).mono ?_
  rintro e W' ⟨u, h1, h2, h3⟩
  have hb1 : Below w.heap.size w (w.alloc (.cells (u8L s).toArray 5)) := (Below.refl _ w).alloc (Nat.le_refl _) _
  exact ⟨u, h1, h2, hb1.trans (h3.mono hb1.size)⟩
end Go.Proofs.YtcblichnkakhdaaDoor.Cd

set_option linter.unusedSimpArgs false
namespace Go.Proofs.YtcblichnkakhdaaDoor.Cd
open Go.RowKit Go.Proofs.YtcblichnkakhdaaDoor.Nm Go.Proofs.YtcblichnkakhdaaDoor.Vf

theorem cells2 {W : World} {B : Nat} {v0 v1 : Value} {T : TypeId} (h : W.heap[B]? = some (.cells #[v0, v1] T (0, 0))) : W.cell? ⟨B, 0, none⟩ = some v0 ∧ W.cell? ⟨B, 1, none⟩ = some v1 := by
  refine ⟨?_, ?_⟩ <;> simp [World.cell?, h]
def pv0 : PV := ⟨none, 0, none, 0, none, 0, none, 0, none, 0⟩
theorem isPg_k1 (W : World) : IsPg W pv0 kP1 := by
  refine ⟨?_, ?_, ?_, ?_, ?_, by decide, by decide, by decide, by decide, by decide⟩
  all_goals
    intro k x hx
    simp [kP1, Vf.bC, Vf.vC, Vf.iC, Vf.cC] at hx
set_option maxHeartbeats 25600000 in
set_option maxRecDepth 100000 in
/-- known -/
theorem known_any (W : World) (hT : Lib.TabBelow Tryd.prog W.heap.size W "internal/strconv.uint64pow10" .u64 Lib.pow10Tab) (hA : Lib.TabBelow Tryd.prog W.heap.size W "strings.asciiSpace" .u8 Lib.asciiSpaceTab) : Calls Tryd.prog 4 #[] W fun e W' => e = .returned (.bool true) ∧ Below W.heap.size W W' := by
  have HTb : Hid (Lib.TabBelow Tryd.prog W.heap.size W "internal/strconv.uint64pow10" .u64 Lib.pow10Tab ∧ Lib.TabBelow Tryd.prog W.heap.size W "strings.asciiSpace" .u8 Lib.asciiSpaceTab) := ⟨hT, hA⟩
  clear hT hA
  have HE1 : Hid (∀ w, Calls Tryd.prog 8 #[.agg #[.slice none 0 0, .slice none 0 0, .slice none 0 0, .slice none 0 0, .int .i64 (-1), .slice none 0 0]] w fun e w' => ∃ u, e = .returned (.tuple #[u, .int .i64 0]) ∧ w'.ownsRow w.heap.size 5 1 u 6 (u8L [87, 0, 0, 0, 0, 0]) ∧ Below w.heap.size w w') := by
    intro w
    have := enc_any pv0 kP1 w (isPg_k1 w)
    rw [chk_k1, enc_k1] at this
    exact this
  have HD2 : Hid (∀ w, Calls Tryd.prog 5 #[.slice (some ⟨w.heap.size, 0, none⟩) 12 12] (w.alloc (.cells #[.int .u8 87, .int .u8 1, .int .u8 0, .int .u8 0, .int .u8 0, .int .u8 0, .int .u8 1, .int .u8 2, .int .u8 31, .int .u8 0, .int .u8 0, .int .u8 0] 5)) fun e W' => ∃ qo qc vo vc tto tc oo oc co cc, e = .returned (.tuple #[.agg #[.slice qo 1 qc, .slice vo 0 vc, .slice tto 0 tc, .slice oo 1 oc, .int .i64 0, .slice co 2 cc], .agg #[.int .i64 0, .int .i64 0]]) ∧ IsPg W' ⟨qo, qc, vo, vc, tto, tc, oo, oc, co, cc⟩ kP2 ∧ Below w.heap.size w W') := fun w => (dec_lit w kB dec_k2 (by decide) (by decide) (by unfold byts; decide)).mono fun e W' ⟨⟨qo, qc, vo, vc, tto, tc, oo, oc, co, cc⟩, h⟩ => ⟨qo, qc, vo, vc, tto, tc, oo, oc, co, cc, h⟩
  have HD3 : Hid (∀ w b, w.heap.size = b → Calls Tryd.prog 5 #[.slice (some ⟨b, 0, none⟩) 1 1] (w.alloc (.cells #[.int .u8 88] 5)) fun e W' => ∃ qo qc vo vc tto tc oo oc co cc, e = .returned (.tuple #[.agg #[.slice qo 0 qc, .slice vo 0 vc, .slice tto 0 tc, .slice oo 0 oc, .int .i64 0, .slice co 0 cc], .agg #[.int .i64 83, .int .i64 0]]) ∧ Below w.heap.size w W') := fun w b hwb => hwb ▸ (dec_lit w [88] dec_k3 (by decide) (by decide) (by unfold byts; decide)).mono fun e W' ⟨⟨qo, qc, vo, vc, tto, tc, oo, oc, co, cc⟩, h⟩ => ⟨qo, qc, vo, vc, tto, tc, oo, oc, co, cc, h.1, h.2.2⟩
  have HB1 : Hid (Below W.heap.size W (W.alloc (.cells #[.slice none 0 0, .slice none 0 0, .slice none 0 0, .slice none 0 0, .int .i64 (-1), .slice none 0 0] 29)) ∧ (W.alloc (.cells #[.slice none 0 0, .slice none 0 0, .slice none 0 0, .slice none 0 0, .int .i64 (-1), .slice none 0 0] 29)).heap[W.heap.size]? = some (.cells #[.slice none 0 0, .slice none 0 0, .slice none 0 0, .slice none 0 0, .int .i64 (-1), .slice none 0 0] 29 (0, 0))) := ⟨(Below.refl _ W).alloc (Nat.le_refl _) _, heap_alloc_new _ _⟩
  go_enter Tryd.func4, Tryd.ntmps4
  go_wp2_with fail
  generalize (W.alloc (.cells #[.slice none 0 0, .slice none 0 0, .slice none 0 0, .slice none 0 0, .int .i64 (-1), .slice none 0 0] 29)) = w1 at *
  refine (HE1.out _).mono ?_
  rintro e w2 ⟨u, rfl, ho, hb⟩
  obtain ⟨ub, uc, rfl⟩ := own_form ho
  have H2 : Hid (Below W.heap.size W w2 ∧ w2.heap[W.heap.size]? = some (.cells #[.slice none 0 0, .slice none 0 0, .slice none 0 0, .slice none 0 0, .int .i64 (-1), .slice none 0 0] 29 (0, 0)) ∧ w2.ownsRow w1.heap.size 5 1 (.slice ub 6 uc) 6 (u8L [87, 0, 0, 0, 0, 0])) := ⟨HB1.out.1.trans (hb.mono HB1.out.1.size), (hb.block _ (blk_lt HB1.out.2)).trans HB1.out.2, ho⟩
  clear ho hb HE1
  go_wp2_with fail
  refine (HD2.out _).mono ?_
  rintro e w3 ⟨qo, qc, vo, vc, tto, tc, oo, oc, co, cc, rfl, hp, hb⟩
  have H3 : Hid (Below W.heap.size W w3 ∧ w3.heap[W.heap.size]? = some (.cells #[.slice none 0 0, .slice none 0 0, .slice none 0 0, .slice none 0 0, .int .i64 (-1), .slice none 0 0] 29 (0, 0)) ∧ w3.ownsRow w1.heap.size 5 1 (.slice ub 6 uc) 6 (u8L [87, 0, 0, 0, 0, 0]) ∧ IsPg w3 ⟨qo, qc, vo, vc, tto, tc, oo, oc, co, cc⟩ kP2) := ⟨H2.out.1.trans (hb.mono H2.out.1.size), (hb.block _ (blk_lt H2.out.2.1)).trans H2.out.2.1, own_below H2.out.2.2 hb, hp⟩
  clear hp hb HD2 H2
  go_wp2_with fail
  refine (HD3.out _ _ (by simp)).mono ?_
  rintro e w4 ⟨qo3, qc3, vo3, vc3, to3, tc3, oo3, oc3, co3, cc3, rfl, hb⟩
  have H4 : Hid (Below W.heap.size W w4 ∧ w4.heap[W.heap.size]? = some (.cells #[.slice none 0 0, .slice none 0 0, .slice none 0 0, .slice none 0 0, .int .i64 (-1), .slice none 0 0] 29 (0, 0)) ∧ w4.ownsRow w1.heap.size 5 1 (.slice ub 6 uc) 6 (u8L [87, 0, 0, 0, 0, 0]) ∧ IsPg w4 ⟨qo, qc, vo, vc, tto, tc, oo, oc, co, cc⟩ kP2 ∧ w4.heap[w3.heap.size]? = some (.cells #[.slice qo 1 qc, .slice vo 0 vc, .slice tto 0 tc, .slice oo 1 oc, .int .i64 0, .slice co 2 cc] 29 (0, 0)) ∧ w4.heap[w3.heap.size + 1]? = some (.cells #[.int .i64 0, .int .i64 0] 32 (0, 0))) := by
    obtain ⟨hw, hb3⟩ := two_new w3 #[.slice qo 1 qc, .slice vo 0 vc, .slice tto 0 tc, .slice oo 1 oc, .int .i64 0, .slice co 2 cc] #[.int .i64 0, .int .i64 0]
    have hb4 := hb3.trans (hb.mono hb3.size)
    obtain ⟨q1, q2, q3, q4⟩ := H3.out
    exact ⟨q1.trans (hb4.mono q1.size), (hb4.block _ (blk_lt q2)).trans q2, own_below q3 hb4, q4.below hb4, (hb.block _ (blk_lt hw.p)).trans hw.p, (hb.block _ (blk_lt hw.f)).trans hw.f⟩
  clear hb HD3 H3
  have H5 : Hid ((Below W.heap.size W ((w4.alloc (.cells #[.slice qo3 0 qc3, .slice vo3 0 vc3, .slice to3 0 tc3, .slice oo3 0 oc3, .int .i64 0, .slice co3 0 cc3] 29)).alloc (.cells #[.int .i64 83, .int .i64 0] 32)) ∧ ((w4.alloc (.cells #[.slice qo3 0 qc3, .slice vo3 0 vc3, .slice to3 0 tc3, .slice oo3 0 oc3, .int .i64 0, .slice co3 0 cc3] 29)).alloc (.cells #[.int .i64 83, .int .i64 0] 32)).heap[W.heap.size]? = some (.cells #[.slice none 0 0, .slice none 0 0, .slice none 0 0, .slice none 0 0, .int .i64 (-1), .slice none 0 0] 29 (0, 0)) ∧ ((w4.alloc (.cells #[.slice qo3 0 qc3, .slice vo3 0 vc3, .slice to3 0 tc3, .slice oo3 0 oc3, .int .i64 0, .slice co3 0 cc3] 29)).alloc (.cells #[.int .i64 83, .int .i64 0] 32)).ownsRow w1.heap.size 5 1 (.slice ub 6 uc) 6 (u8L [87, 0, 0, 0, 0, 0]) ∧ IsPg ((w4.alloc (.cells #[.slice qo3 0 qc3, .slice vo3 0 vc3, .slice to3 0 tc3, .slice oo3 0 oc3, .int .i64 0, .slice co3 0 cc3] 29)).alloc (.cells #[.int .i64 83, .int .i64 0] 32)) ⟨qo, qc, vo, vc, tto, tc, oo, oc, co, cc⟩ kP2 ∧ ((w4.alloc (.cells #[.slice qo3 0 qc3, .slice vo3 0 vc3, .slice to3 0 tc3, .slice oo3 0 oc3, .int .i64 0, .slice co3 0 cc3] 29)).alloc (.cells #[.int .i64 83, .int .i64 0] 32)).heap[w3.heap.size]? = some (.cells #[.slice qo 1 qc, .slice vo 0 vc, .slice tto 0 tc, .slice oo 1 oc, .int .i64 0, .slice co 2 cc] 29 (0, 0)) ∧ ((w4.alloc (.cells #[.slice qo3 0 qc3, .slice vo3 0 vc3, .slice to3 0 tc3, .slice oo3 0 oc3, .int .i64 0, .slice co3 0 cc3] 29)).alloc (.cells #[.int .i64 83, .int .i64 0] 32)).heap[w3.heap.size + 1]? = some (.cells #[.int .i64 0, .int .i64 0] 32 (0, 0))) ∧ ((w4.alloc (.cells #[.slice qo3 0 qc3, .slice vo3 0 vc3, .slice to3 0 tc3, .slice oo3 0 oc3, .int .i64 0, .slice co3 0 cc3] 29)).alloc (.cells #[.int .i64 83, .int .i64 0] 32)).heap[w4.heap.size]? = some (.cells #[.slice qo3 0 qc3, .slice vo3 0 vc3, .slice to3 0 tc3, .slice oo3 0 oc3, .int .i64 0, .slice co3 0 cc3] 29 (0, 0)) ∧ ((w4.alloc (.cells #[.slice qo3 0 qc3, .slice vo3 0 vc3, .slice to3 0 tc3, .slice oo3 0 oc3, .int .i64 0, .slice co3 0 cc3] 29)).alloc (.cells #[.int .i64 83, .int .i64 0] 32)).heap[w4.heap.size + 1]? = some (.cells #[.int .i64 83, .int .i64 0] 32 (0, 0))) := by
    obtain ⟨hw, hb4⟩ := two_new w4 #[.slice qo3 0 qc3, .slice vo3 0 vc3, .slice to3 0 tc3, .slice oo3 0 oc3, .int .i64 0, .slice co3 0 cc3] #[.int .i64 83, .int .i64 0]
    obtain ⟨q1, q2, q3, q4, q5, q6⟩ := H4.out
    exact ⟨⟨q1.trans (hb4.mono q1.size), (hb4.block _ (blk_lt q2)).trans q2, own_below q3 hb4, q4.below hb4, (hb4.block _ (blk_lt q5)).trans q5, (hb4.block _ (blk_lt q6)).trans q6⟩, hw.p, hw.f⟩
  clear H4
  go_upto_region 5 with fail
  generalize ((w4.alloc (.cells #[.slice qo3 0 qc3, .slice vo3 0 vc3, .slice to3 0 tc3, .slice oo3 0 oc3, .int .i64 0, .slice co3 0 cc3] 29)).alloc (.cells #[.int .i64 83, .int .i64 0] 32)) = w5 at *
  generalize w4.heap.size = b6 at *
  generalize w3.heap.size = b4 at *
  have HC5 : Hid (Calls Tryd.prog 12 #[.agg #[.slice qo 1 qc, .slice vo 0 vc, .slice tto 0 tc, .slice oo 1 oc, .int .i64 0, .slice co 2 cc]] w5 fun e W' => e = .returned (.tuple #[.string kS, .int .i64 0]) ∧ Below w5.heap.size w5 W') := by
    obtain ⟨⟨q1, q2, q3, q4, q5, q6⟩, q7, q8⟩ := H5.out
    have := list_any ⟨qo, qc, vo, vc, tto, tc, oo, oc, co, cc⟩ kP2 w5 q4 (fun w' hw => HTb.out.1 w' (q1.trans (hw.mono q1.size))) (fun w' hw => HTb.out.2 w' (q1.trans (hw.mono q1.size)))
    rw [lst_k2, chk_k2] at this
    exact this
  clear HTb
  obtain ⟨d0, d1, d2, d3, d4, d5⟩ := cells6 H5.out.1.2.2.2.2.1
  go_wp2_with fail
  refine HC5.out.mono ?_
  rintro e w6 ⟨rfl, hb⟩
  have H6 : Hid ((Below W.heap.size W w6 ∧ w6.heap[W.heap.size]? = some (.cells #[.slice none 0 0, .slice none 0 0, .slice none 0 0, .slice none 0 0, .int .i64 (-1), .slice none 0 0] 29 (0, 0)) ∧ w6.ownsRow w1.heap.size 5 1 (.slice ub 6 uc) 6 (u8L [87, 0, 0, 0, 0, 0]) ∧ IsPg w6 ⟨qo, qc, vo, vc, tto, tc, oo, oc, co, cc⟩ kP2 ∧ w6.heap[b4]? = some (.cells #[.slice qo 1 qc, .slice vo 0 vc, .slice tto 0 tc, .slice oo 1 oc, .int .i64 0, .slice co 2 cc] 29 (0, 0)) ∧ w6.heap[b4 + 1]? = some (.cells #[.int .i64 0, .int .i64 0] 32 (0, 0))) ∧ w6.heap[b6]? = some (.cells #[.slice qo3 0 qc3, .slice vo3 0 vc3, .slice to3 0 tc3, .slice oo3 0 oc3, .int .i64 0, .slice co3 0 cc3] 29 (0, 0)) ∧ w6.heap[b6 + 1]? = some (.cells #[.int .i64 83, .int .i64 0] 32 (0, 0))) := by
    obtain ⟨⟨q1, q2, q3, q4, q5, q6⟩, q7, q8⟩ := H5.out
    exact ⟨⟨q1.trans (hb.mono q1.size), (hb.block _ (blk_lt q2)).trans q2, own_below q3 hb, q4.below hb, (hb.block _ (blk_lt q5)).trans q5, (hb.block _ (blk_lt q6)).trans q6⟩, (hb.block _ (blk_lt q7)).trans q7, (hb.block _ (blk_lt q8)).trans q8⟩
  clear hb HC5 H5 d0 d1 d2 d3 d4 d5
  have HS1 : Hid (Calls Tryd.prog 13 #[.agg #[.slice none 0 0, .slice none 0 0, .slice none 0 0, .slice none 0 0, .int .i64 (-1), .slice none 0 0], .agg #[.slice qo 1 qc, .slice vo 0 vc, .slice tto 0 tc, .slice oo 1 oc, .int .i64 0, .slice co 2 cc]] w6 fun e W' => e = .returned (.bool false) ∧ Below w6.heap.size w6 W') := by
    have := same_any pv0 ⟨qo, qc, vo, vc, tto, tc, oo, oc, co, cc⟩ kP1 kP2 w6 (isPg_k1 w6) H6.out.1.2.2.2.1
    rw [sam_k12] at this
    exact this
  have HS2 : Hid (∀ w, Below w6.heap.size w6 w → Calls Tryd.prog 13 #[.agg #[.slice qo 1 qc, .slice vo 0 vc, .slice tto 0 tc, .slice oo 1 oc, .int .i64 0, .slice co 2 cc], .agg #[.slice qo 1 qc, .slice vo 0 vc, .slice tto 0 tc, .slice oo 1 oc, .int .i64 0, .slice co 2 cc]] w fun e W' => e = .returned (.bool true) ∧ Below w.heap.size w W') := fun w hb => by
    have := same_any ⟨qo, qc, vo, vc, tto, tc, oo, oc, co, cc⟩ ⟨qo, qc, vo, vc, tto, tc, oo, oc, co, cc⟩ kP2 kP2 w (H6.out.1.2.2.2.1.below hb) (H6.out.1.2.2.2.1.below hb)
    rw [sam_k22] at this
    exact this
  obtain ⟨c0, c1, c2, c3, c4, c5⟩ := cells6 H6.out.1.2.1
  obtain ⟨d0, d1, d2, d3, d4, d5⟩ := cells6 H6.out.1.2.2.2.2.1
  obtain ⟨f0, f1⟩ := cells2 H6.out.1.2.2.2.2.2
  obtain ⟨g0, g1⟩ := cells2 H6.out.2.2
  have hcv : (convert 22 9 (.slice ub 6 uc)).run Tryd.prog w6 = .ok (.string ⟨#[87, 0, 0, 0, 0, 0]⟩) w6 := conv_own (xs := [87, 0, 0, 0, 0, 0]) H6.out.1.2.2.1 (low_lit (by decide))
  obtain ⟨gn, fn, hon, -, hcn⟩ := Vf.rd_int (l := kP2.on) H6.out.1.2.2.2.1.on (k := 0) (by decide)
  dsimp only at hon
  have hks : kS.toList = [109, 105, 115, 115, 58, 10, 48, 58, 32, 105, 110, 115, 101, 114, 116, 32, 113, 48, 32, 102, 114, 111, 110, 116, 10, 49, 58, 32, 101, 110, 100, 10] := by kernel_rfl
  obtain rfl : oo = some ⟨gn, fn, none⟩ := hon
  have hcn2 : w6.cell? ⟨gn, fn, none⟩ = some (.int .i64 (-1)) := hcn
  clear hcn
  go_wp2_with fail
  refine HS1.out.mono ?_
  rintro e w7 ⟨rfl, hb⟩
  have H7 : Hid (Below w6.heap.size w6 w7 ∧ Below W.heap.size W w7 ∧ w7.heap[b4]? = some (.cells #[.slice qo 1 qc, .slice vo 0 vc, .slice tto 0 tc, .slice (some ⟨gn, fn, none⟩) 1 oc, .int .i64 0, .slice co 2 cc] 29 (0, 0))) := ⟨hb, H6.out.1.1.trans (hb.mono H6.out.1.1.size), (hb.block _ (blk_lt H6.out.1.2.2.2.2.1)).trans H6.out.1.2.2.2.2.1⟩
  clear hb HS1 c0 c1 c2 c3 c4 c5 d0 d1 d2 d3 d4 d5 f0 f1 g0 g1 hcv hcn2
  obtain ⟨d0, d1, d2, d3, d4, d5⟩ := cells6 H7.out.2.2
  go_wp2_with fail
  refine (HS2.out _ H7.out.1).mono ?_
  rintro e w8 ⟨rfl, hb⟩
  have H8 : Hid (Below W.heap.size W w8) := H7.out.2.1.trans (hb.mono H7.out.2.1.size)
  clear hb HS2 d0 d1 d2 d3 d4 d5
  go_wp2_with fail
  go_ret
  exact ⟨rfl, H8.out⟩
end Go.Proofs.YtcblichnkakhdaaDoor.Cd

set_option linter.unusedSimpArgs false
namespace Go.Proofs.YtcblichnkakhdaaDoor.Cd
open Go.RowKit Go.Proofs.YtcblichnkakhdaaDoor.Nm Go.Proofs.YtcblichnkakhdaaDoor.Vf

/-! pure: there and back -/
theorem who_byP {p : Pg} (h : chk p = 0) : whoR (byP p) = .ok p (byP p).length [] := by
  have q := prg_back (pgOk_of h) 0 []
  rw [List.append_nil, Nat.zero_add] at q
  unfold whoR
  rw [q]
  rfl
theorem byP_inj {p q : Pg} (hp : chk p = 0) (hq : chk q = 0) (h : byP p = byP q) : p = q := by
  have h1 := dec_byP hp
  rw [h, dec_byP hq] at h1
  exact (Prod.mk.inj h1).1.symm
theorem byP_front {p q : Pg} (hp : chk p = 0) (hq : chk q = 0) (hk : (byP p).length < (byP q).length) : (byP q).take (byP p).length ≠ byP p := fun h => by
  have h1 := who_front (who_byP hq) hk
  rw [h, who_byP hp] at h1
  cases h1
theorem dec_cut {p : Pg} (hp : chk p = 0) {k : Nat} (hk : k < (byP p).length) : decR ((byP p).take k) = (pg0, 81, k) := by
  have h1 := who_front (who_byP hp) hk
  unfold decR
  rw [h1]
theorem dec_more {p : Pg} (hp : chk p = 0) {r : List Nat} (hr : r ≠ []) : decR (byP p ++ r) = (pg0, 84, (byP p).length) := by
  have h1 := who_tail (who_byP hp) hr
  unfold decR
  rw [h1]
/-! numbers are bytes -/
theorem numB_low8 : ∀ (n : Nat), byts (numB n) := by
  intro n
  induction n using Nat.strongRecOn with
  | _ n ih =>
    by_cases h : n < 128
    · rw [numB_low h]
      intro x hx
      simp only [List.mem_singleton] at hx
      omega
    · rw [numB_high h]
      intro x hx
      rcases List.mem_cons.1 hx with rfl | hx
      · omega
      · exact ih (n / 128) (by omega) x hx
theorem low_flat {α : Type} {l : List α} {f : α → List Nat} (h : ∀ a, Low (f a)) : Low (l.flatMap f) := fun x hx => by
  obtain ⟨a, -, ha⟩ := List.mem_flatMap.1 hx
  exact h a x ha
theorem low_insBy (x : Ins) : Low (insBy x) := by
  rw [insBy_eq]
  have ho : ∀ k v, Low (opB k v) := fun k v => by
    unfold opB
    split
    · exact low_nil
    · split <;> exact numB_low8 _
  exact low_app (numB_low8 _) (low_app (ho _ _) (low_app (ho _ _) (low_app (ho _ _) (ho _ _))))
theorem low_byP (p : Pg) : Low (byP p) := by
  rw [byP_eq]
  refine low_app (low_lit (by decide)) (low_app (low_app (numB_low8 _) (low_app (low_flat fun g => ?_) (low_app (numB_low8 _) (low_app (low_flat fun x => ?_) (low_app (numB_low8 _) (low_flat fun n => numB_low8 _)))))) (low_app (low_flat fun n => numB_low8 _) (low_app (numB_low8 _) (low_app (numB_low8 _) (low_flat low_insBy)))))
  · cases g <;> exact low_lit (by decide)
  · exact low_app (numB_low8 _) (low_app (numB_low8 _) (numB_low8 _))
theorem low_encB (p : Pg) : Low (encB p) := by
  unfold encB
  split
  · exact low_byP p
  · exact low_nil
/-! their length -/
theorem numB_len10 {n : Nat} (h : n < 9223372036854775808) : (numB n).length ≤ 9 := numB_len 8 n (Nat.lt_of_lt_of_le h (by decide))
theorem flat_le {α : Type} {f : α → List Nat} {m : Nat} : ∀ (l : List α), (∀ a ∈ l, (f a).length ≤ m) → (l.flatMap f).length ≤ l.length * m
  | [], _ => by simp
  | a :: l, h => by
    have h1 := h a (by simp)
    have h2 := flat_le l fun b hb => h b (List.mem_cons_of_mem _ hb)
    rw [List.flatMap_cons, List.length_append, List.length_cons, Nat.add_mul]
    omega
theorem op_len {k v : Int} (h : OpOk k v ∧ (k = 0 → v = 0)) : (opB k v).length ≤ 9 := by
  have hr := op_rng h
  unfold opB
  by_cases h0 : k = 0
  · rw [if_pos h0]; simp
  rw [if_neg h0]
  by_cases h5 : k = 5
  · rw [if_pos h5]
    refine numB_len10 (sgN_lt ?_)
    rcases h.1 with h | h | h <;> omega
  · rw [if_neg h5]
    refine numB_len10 ?_
    omega
theorem byP_len {p : Pg} (h : chk p = 0) : (byP p).length ≤ 100000000 := by
  have q := pgOk_of h
  rw [byP_eq]
  have a1 : (p.gh.flatMap (fun g => [if g then 1 else 0])).length ≤ p.gh.length * 1 := flat_le (f := fun g : Bool => [if g then 1 else 0]) p.gh fun a _ => by simp
  have a2 : (p.vs.flatMap varB).length ≤ p.vs.length * 27 := flat_le p.vs fun x hx => by
    have hx := q.vr x hx
    have e1 := numB_len10 (sgN_lt hx.1)
    have e2 := numB_len10 (sgN_lt hx.2.1)
    have e3 := numB_len10 (sgN_lt hx.2.2)
    simp only [varB, List.length_append]
    omega
  have a3 : (p.ts.flatMap fun n => numB n.toNat).length ≤ p.ts.length * 9 := flat_le p.ts fun x hx => numB_len10 (by have := q.tr x hx; omega)
  have a4 : (p.on.flatMap fun n => numB (n + 1).toNat).length ≤ p.on.length * 9 := flat_le p.on fun x hx => numB_len10 (by have := q.or x hx; omega)
  have a5 : (p.cd.flatMap insBy).length ≤ p.cd.length * 45 := flat_le p.cd fun x hx => by
    have hx := q.cr x hx
    have e0 := numB_len10 (n := x.op.toNat) (by have := hx.op; omega)
    have e1 := op_len hx.a
    have e2 := op_len hx.b
    have e3 := op_len hx.c
    have e4 := op_len hx.d
    rw [insBy_eq]
    simp only [List.length_append]
    omega
  have b1 := numB_len10 (n := p.gh.length) (by have := q.q; omega)
  have b2 := numB_len10 (n := p.vs.length) (by have := q.v; omega)
  have b3 := numB_len10 (n := p.ts.length) (by have := q.t; omega)
  have b4 := numB_len10 (n := (p.miss + 1).toNat) (by have := q.ms; omega)
  have b5 := numB_len10 (n := p.cd.length) (by have := q.c; omega)
  have := q.q
  have := q.v
  have := q.t
  have := q.o
  have := q.c
  simp only [List.length_append, List.length_singleton]
  omega
theorem encB_len (p : Pg) : (encB p).length ≤ 100000000 := by
  unfold encB
  by_cases h : chk p = 0
  · rw [if_pos h]; exact byP_len h
  · rw [if_neg h]; simp
/-! bytes as strings -/
theorem txt_inj {a b : List Nat} (ha : Low a) (hb : Low b) (h : txt a = txt b) : a = b := by
  have h1 : (a.map UInt8.ofNat).toArray = (b.map UInt8.ofNat).toArray := congrArg ByteArray.data h
  have h2 : a.map UInt8.ofNat = b.map UInt8.ofNat := by simpa using h1
  have key : ∀ l : List Nat, Low l → (l.map UInt8.ofNat).map UInt8.toNat = l := by
    intro l
    induction l with
    | nil => intro _; rfl
    | cons x l ih =>
      intro hl
      have hx := hl x (by simp)
      simp only [List.map_cons, List.cons.injEq]
      refine ⟨?_, ih fun y hy => hl y (List.mem_cons_of_mem _ hy)⟩
      rw [UInt8.toNat_ofNat']
      omega
  rw [← key a ha, ← key b hb, h2]
theorem low_take {a : List Nat} (h : Low a) (k : Nat) : Low (a.take k) := fun x hx => h x (List.mem_of_mem_take hx)
/-- string(b) of what can be read -/
theorem conv_rd {w : World} {b : Option Addr} {c : Nat} {xs : List Nat} (h : Vf.Rd w b (u8L xs)) (hl : Low xs) : (convert 22 9 (.slice b xs.length c)).run Tryd.prog w = .ok (.string (txt xs)) w := by
  cases hx : xs with
  | nil =>
    rw [run_convert_bytes_string w 22 9 5 b _ c Tryd.underlying22 Tryd.underlying5 Tryd.underlying9]
    cases b with
    | none =>
      simp [Conv.bytesToString]
      rfl
    | some a =>
      simp [Conv.bytesToString, loadCells]
      rfl
  | cons x l =>
    subst hx
    obtain ⟨g, f, rfl, -, -⟩ := h 0 (.int .u8 (x : Int)) rfl
    have key := Lib.run_convert_whole (P := Tryd.prog) w 22 5 9 Tryd.underlying22 Tryd.underlying5 Tryd.underlying9 g f (txt (x :: l)) (fun i hi => by
      have hi2 : i < (x :: l).length := by rw [← txt_size (x :: l)]; exact hi
      obtain ⟨g', f', e, _, hc⟩ := h i (.int .u8 ((x :: l)[i] : Int)) (by simp only [u8L, List.getElem?_map, List.getElem?_eq_getElem hi2]; rfl)
      cases e
      rw [hc, txt_at hl hi hi2]) c
    rw [txt_size] at key
    exact key
theorem rd_take {w : World} {b : Option Addr} {xs : List Value} (h : Vf.Rd w b xs) (k : Nat) : Vf.Rd w b (xs.take k) := fun i x hx => h i x (by
  rw [List.getElem?_take] at hx
  split at hx
  · exact hx
  · cases hx)
end Go.Proofs.YtcblichnkakhdaaDoor.Cd
