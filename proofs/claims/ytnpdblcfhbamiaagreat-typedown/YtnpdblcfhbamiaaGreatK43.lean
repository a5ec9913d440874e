import Derived.Test.YtnpdblcfhbamiaaGreatK42
set_option maxHeartbeats 25600000
set_option maxRecDepth 100000
namespace Go.Proofs.YtnpdblcfhbamiaaGreat.Nm.Ty
open Go.RowKit Go.Maps Go.Proofs.YtnpdblcfhbamiaaGreat.Sp Go.Proofs.YtnpdblcfhbamiaaGreat.Lx Go.Proofs.YtnpdblcfhbamiaaGreat.Gr
/-- Const at work: its boxes -/
structure Nq (w wx : World) (pc cc : Array Value) : Prop where
  p : wx.heap[w.heap.size]? = some (.cells pc 30 (0, 0))
  c : wx.heap[w.heap.size + 1]? = some (.cells cc 25 (0, 0))
  f : wx.heap[w.heap.size + 1 + 1]? = some (.cells #[.int .i64 0, .int .i64 0] 33 (0, 0))
  be : Below w.heap.size w wx
theorem Nq.below {w wx w' : World} {pc cc : Array Value} (h : Nq w wx pc cc) (hb : Below wx.heap.size wx w') : Nq w w' pc cc := ⟨(hb.block _ (blk_lt h.p)).trans h.p, (hb.block _ (blk_lt h.c)).trans h.c, (hb.block _ (blk_lt h.f)).trans h.f, h.be.trans (hb.mono h.be.size)⟩
theorem nq_start (w : World) (pc cc : Array Value) : Nq w (((w.alloc (.cells pc 30)).alloc (.cells cc 25)).alloc (.cells #[.int .i64 0, .int .i64 0] 33)) pc cc := by
  refine ⟨?_, ?_, ?_, (((Below.refl _ w).alloc (Nat.le_refl _) _).alloc (by simp) _).alloc (by simp; omega) _⟩
  · rw [alloc_old _ _ _ (by simp; omega), alloc_old _ _ _ (by simp)]
    exact alloc_at _ _ _ rfl
  · rw [alloc_old _ _ _ (by simp)]
    exact alloc_at _ _ _ (by simp)
  · exact alloc_at _ _ _ (by simp)
/-- what Const tells of a row: the number, the error, the place -/
def conZ (l : List Rz) (V : Nat → Int) (row : Int) : Int × Int × Int := if row < 0 ∨ (l.length : Int) ≤ row then (0, 1, 0) else if (rP l row.toNat).is = 0 ∨ anyC (fun j => rP l (row.toNat + j)) (endp l row.toNat - row.toNat) = true then (0, 42, row) else (V row.toNat, 0, 0)
def ConQ (P : Pg) (size : Int) (cs : Nat → Int) (nc : Nat) (row : Int) (e : Ending) : Prop := (¬ IsOk P ∧ e = .returned (.tuple #[.int .i64 0, .agg #[.int .i64 23, .int .i64 0]])) ∨
  (IsOk P ∧ (ruZ P size cs nc).1 ≠ 0 ∧ e = .returned (.tuple #[.int .i64 0, .agg #[.int .i64 (ruZ P size cs nc).1, .int .i64 (ruZ P size cs nc).2]])) ∨
  (IsOk P ∧ (ruZ P size cs nc).1 = 0 ∧ e = .returned (.tuple #[.int .i64 (conZ P.rows (vB P.rows size cs P.rows.length) row).1, .agg #[.int .i64 (conZ P.rows (vB P.rows size cs P.rows.length) row).2.1, .int .i64 (conZ P.rows (vB P.rows size cs P.rows.length) row).2.2]]))
theorem conQ_ok {P : Pg} {size : Int} {cs : Nat → Int} {nc : Nat} {row a b c : Int} (h1 : IsOk P) (h2 : (ruZ P size cs nc).1 = 0) (h3 : conZ P.rows (vB P.rows size cs P.rows.length) row = (a, b, c)) : ConQ P size cs nc row (.returned (.tuple #[.int .i64 a, .agg #[.int .i64 b, .int .i64 c]])) := Or.inr (Or.inr ⟨h1, h2, by rw [h3]⟩)
theorem tconst_any {P : Pg} {ao qo vo tto uo oo co : Option Addr} {ac qc vc tc uc oc nc cc : Nat} {size row : Int} {cs : Nat → Int} {w : World} (h : RdG w P ao qo vo tto uo oo) (hs : P.Sm) (hnil : ao = none → ac = 0) (hR : IsOk P → Rdy P) (hD : IsOk P → Rdc P) (hc : IsVals w co (fL nc (fun i => .int .i64 (cs i)))) (hcl : nc ≤ 17592186043904) (hsz : in64 size) (hcs : ∀ i, in64 (cs i)) :
    Calls Tryz.prog 14 #[pvG P ao qo vo tto uo oo ac qc vc tc uc oc, .agg #[.int .i64 size, .slice co nc cc], .int .i64 row] w fun e w' => Below w.heap.size w w' ∧ ConQ P size cs nc row e := by
  have H1 : Hid (Nq w (((w.alloc (.cells #[.string P.name, .slice ao P.rows.length ac, .slice qo P.qs.length qc, .slice vo P.vs.length vc, .slice tto P.ts.length tc, .slice uo P.us.length uc, .slice oo P.on.length oc, .int .i64 P.miss] 30)).alloc (.cells #[.int .i64 size, .slice co nc cc] 25)).alloc (.cells #[.int .i64 0, .int .i64 0] 33)) #[.string P.name, .slice ao P.rows.length ac, .slice qo P.qs.length qc, .slice vo P.vs.length vc, .slice tto P.ts.length tc, .slice uo P.us.length uc, .slice oo P.on.length oc, .int .i64 P.miss] #[.int .i64 size, .slice co nc cc]) := nq_start w _ _
  have HC : Hid (IsVals w co (fL nc (fun i => .int .i64 (cs i)))) := hc
  have HSz : Hid (in64 size ∧ (∀ i, in64 (cs i)) ∧ nc ≤ 17592186043904) := ⟨hsz, hcs, hcl⟩
  have HU := show Hid _ from under_any (ac := ac) (qc := qc) (vc := vc) (tc := tc) (uc := uc) (oc := oc) (cc := cc) (size := size) (h.below H1.out.be) hs hnil hR (hc.below H1.out.be) hcl
  have HRd := show Hid _ from hR
  have HDd := show Hid _ from hD
  have HZl : Hid ((ruZ P size cs nc).1 = 0 → nc = P.qs.length) := ruZ_len
  obtain ⟨k0, k1, k2, k3, k4, k5, k6, k7⟩ := pol8 H1.out.p
  obtain ⟨d0, d1⟩ := cells2 H1.out.c
  have hient := is_enter
  have hifn := is_fn
  dsimp only [pvG] at *
  clear h hs hnil hR hc hcl hsz hcs hD
  go_enter Tryz.func14, Tryz.ntmps14
  go_wp2_with fail
  generalize (((w.alloc (.cells #[.string P.name, .slice ao P.rows.length ac, .slice qo P.qs.length qc, .slice vo P.vs.length vc, .slice tto P.ts.length tc, .slice uo P.us.length uc, .slice oo P.on.length oc, .int .i64 P.miss] 30)).alloc (.cells #[.int .i64 size, .slice co nc cc] 25)).alloc (.cells #[.int .i64 0, .int .i64 0] 33)) = w1 at *
  refine Calls.mono HU.out ?_
  rintro e w2 ⟨hb2, hr⟩
  have H2 := show Hid _ from H1.out.below hb2
  clear HU H1 hb2 k0 k1 k2 k3 k4 k5 k6 k7 d0 d1
  rcases hr with ⟨hno, rfl⟩ | ⟨his, po, eo, pc, ec, rfl, hIr, hloc, hcap⟩
  · have HNo : Hid (¬ IsOk P) := hno
    clear hno
    have hbW : Below w2.heap.size w2 ((w2.alloc (.cells #[pz, pz, pz, pz] 72)).alloc (.cells #[.int .i64 23, .int .i64 0] 33)) := ((Below.refl _ w2).alloc (Nat.le_refl _) _).alloc (by simp) _
    have H3 := show Hid _ from H2.out.below hbW
    have HX : Hid (((w2.alloc (.cells #[pz, pz, pz, pz] 72)).alloc (.cells #[.int .i64 23, .int .i64 0] 33)).heap[w2.heap.size + 1]? = some (.cells #[.int .i64 23, .int .i64 0] 33 (0, 0)) ∧ w.heap.size + 1 + 1 < w2.heap.size) := ⟨alloc_at _ _ _ (by simp), blk_lt H2.out.f⟩
    obtain ⟨q0, q1⟩ := cells2 HX.out.1
    clear hbW
    go_wp2_with fail
    generalize ((w2.alloc (.cells #[pz, pz, pz, pz] 72)).alloc (.cells #[.int .i64 23, .int .i64 0] 33)) = w3 at *
    obtain ⟨f0, f1⟩ := cells2 H3.out.f
    have hf : ∀ j, w3.frozen? ⟨w.heap.size + 1 + 1, j, none⟩ = false := fun j => by have := H3.out.f; simp only [World.frozen?, this]; rfl
    have hlt2 := HX.out.2
    generalize w2.heap.size = m2 at *
    have n1 : ¬ m2 + 1 = w.heap.size + 1 + 1 := by omega
    go_region
    all_goals
      go_wp2_with fail
      obtain ⟨c1, c2, c3⟩ := put2M (B := w.heap.size + 1 + 1) (v0 := .int .i64 23) (v1 := .int .i64 0) H3.out.be (by omega) H3.out.f
      obtain ⟨y0, y1⟩ := cells2 c1
      refine bodyPost_ret (v := .tuple #[.int .i64 0, .agg #[.int .i64 23, .int .i64 0]]) (by simp [results, Tryz.results14, go_sem, y0, y1]) rfl ?_
      exact ⟨c2.drew, Or.inl ⟨HNo.out, rfl⟩⟩
  · have HIs : Hid (IsOk P) := his
    have HIr := show Hid _ from hIr
    have HCap : Hid (P.rows.length ≤ pc) := hcap
    have HQ1 : Hid ((ruZ P size cs nc).1 ≠ 0 → ConQ P size cs nc row (.returned (.tuple #[.int .i64 0, .agg #[.int .i64 (ruZ P size cs nc).1, .int .i64 (ruZ P size cs nc).2]]))) := fun h1 => Or.inr (Or.inl ⟨HIs.out, h1, rfl⟩)
    have HQ2 : Hid (∀ a b c, (ruZ P size cs nc).1 = 0 → conZ P.rows (vB P.rows size cs P.rows.length) row = (a, b, c) → ConQ P size cs nc row (.returned (.tuple #[.int .i64 a, .agg #[.int .i64 b, .int .i64 c]]))) := fun a b c h1 h2 => conQ_ok HIs.out h1 h2
    clear his hIr hloc hcap
    generalize ruZ P size cs nc = rz at *
    dsimp only [rgC] at *
    by_cases h0 : rz.1 = 0
    · have h0' : (rz.1 != 0) = false := by simp [h0]
      have HQ3 := show Hid _ from fun a b c => HQ2.out a b c h0
      have HNc : Hid (nc = P.qs.length) := HZl.out h0
      have hbW : Below w2.heap.size w2 ((w2.alloc (.cells #[.slice ao P.rows.length ac, .slice qo P.qs.length qc, .slice po P.rows.length pc, .slice eo P.rows.length ec] 72)).alloc (.cells #[.int .i64 rz.1, .int .i64 rz.2] 33)) := ((Below.refl _ w2).alloc (Nat.le_refl _) _).alloc (by simp) _
      have H3 := show Hid _ from H2.out.below hbW
      have HI3 := show Hid _ from HIr.out.below hbW
      have HX : Hid (((w2.alloc (.cells #[.slice ao P.rows.length ac, .slice qo P.qs.length qc, .slice po P.rows.length pc, .slice eo P.rows.length ec] 72)).alloc (.cells #[.int .i64 rz.1, .int .i64 rz.2] 33)).heap[w2.heap.size]? = some (.cells #[.slice ao P.rows.length ac, .slice qo P.qs.length qc, .slice po P.rows.length pc, .slice eo P.rows.length ec] 72 (0, 0)) ∧ ((w2.alloc (.cells #[.slice ao P.rows.length ac, .slice qo P.qs.length qc, .slice po P.rows.length pc, .slice eo P.rows.length ec] 72)).alloc (.cells #[.int .i64 rz.1, .int .i64 rz.2] 33)).heap[w2.heap.size + 1]? = some (.cells #[.int .i64 rz.1, .int .i64 rz.2] 33 (0, 0)) ∧ w.heap.size + 1 + 1 < w2.heap.size) := ⟨by rw [alloc_old _ _ _ (by simp)]; exact alloc_at _ _ _ rfl, alloc_at _ _ _ (by simp), blk_lt H2.out.f⟩
      obtain ⟨q0, q1⟩ := cells2 HX.out.2.1
      clear hbW h0 HQ1 HQ2 HZl
      go_upto_region 4 with fail
      generalize ((w2.alloc (.cells #[.slice ao P.rows.length ac, .slice qo P.qs.length qc, .slice po P.rows.length pc, .slice eo P.rows.length ec] 72)).alloc (.cells #[.int .i64 rz.1, .int .i64 rz.2] 33)) = w3 at *
      clear q0 q1
      obtain ⟨k0, k1, k2, k3, k4, k5, k6, k7⟩ := pol8 H3.out.p
      obtain ⟨f0, f1⟩ := cells2 H3.out.f
      have hf : ∀ j, w3.frozen? ⟨w.heap.size + 1 + 1, j, none⟩ = false := fun j => by have := H3.out.f; simp only [World.frozen?, this]; rfl
      have HRy := show Hid _ from HRd.out HIs.out
      have HDy := show Hid _ from HDd.out HIs.out
      have hln : (P.rows.length : Int) ≤ 2932031007317 := by have := HRy.out.m; omega
      clear HRd HDd
      by_cases hlo : row < 0
      · have HE := show Hid _ from HQ3.out 0 1 0 (if_pos (Or.inl hlo))
        have hlo' : decide (row < 0) = true := decide_eq_true hlo
        clear HQ3
        go_wp2_with fail
        obtain ⟨c1, c2, c3⟩ := put2M (B := w.heap.size + 1 + 1) (v0 := .int .i64 1) (v1 := .int .i64 0) H3.out.be (by omega) H3.out.f
        obtain ⟨y0, y1⟩ := cells2 c1
        refine bodyPost_ret (v := .tuple #[.int .i64 0, .agg #[.int .i64 1, .int .i64 0]]) (by simp [results, Tryz.results14, go_sem, y0, y1]) rfl ?_
        exact ⟨c2, HE.out⟩
      · by_cases hhi : (P.rows.length : Int) ≤ row
        · have HE := show Hid _ from HQ3.out 0 1 0 (if_pos (Or.inr hhi))
          have hlo' : decide (row < 0) = false := decide_eq_false hlo
          have hhi' : decide (row ≥ (P.rows.length : Int)) = true := decide_eq_true hhi
          clear HQ3
          go_wp2_with fail
          obtain ⟨c1, c2, c3⟩ := put2M (B := w.heap.size + 1 + 1) (v0 := .int .i64 1) (v1 := .int .i64 0) H3.out.be (by omega) H3.out.f
          obtain ⟨y0, y1⟩ := cells2 c1
          refine bodyPost_ret (v := .tuple #[.int .i64 0, .agg #[.int .i64 1, .int .i64 0]]) (by simp [results, Tryz.results14, go_sem, y0, y1]) rfl ?_
          exact ⟨c2, HE.out⟩
        · have HQ4 : Hid (∀ i : Nat, row = (i : Int) → conZ P.rows (vB P.rows size cs P.rows.length) row = if (rP P.rows i).is = 0 ∨ anyC (fun j => rP P.rows (i + j)) (endp P.rows i - i) = true then (0, 42, (i : Int)) else (vB P.rows size cs P.rows.length i, 0, 0)) := fun i e => by
            show _ = _
            unfold conZ
            rw [if_neg (by omega), e, Int.toNat_natCast]
          obtain ⟨i, rfl⟩ : ∃ i : Nat, row = (i : Int) := ⟨row.toNat, by omega⟩
          have HQ5 := show Hid _ from HQ4.out i rfl
          have hi : i < P.rows.length := by omega
          have hi' : (i : Int) < (P.rows.length : Int) := by omega
          have hhi' : decide ((i : Int) ≥ (P.rows.length : Int)) = false := decide_eq_false hhi
          obtain ⟨gp, op, rfl, hgp, cp⟩ := HI3.out.part hi
          obtain ⟨t0, t1, t2, t3⟩ := cells4 HX.out.1
          have HIa := show Hid _ from is_any (rP P.rows i) w3
          clear hlo hhi HQ4
          generalize hxp : rP P.rows i = xp at HIa cp HQ5
          clear hxp
          go_wp2_with fail
          refine Calls.mono HIa.out ?_
          rintro e w4 ⟨rfl, hb4⟩
          have H4 := show Hid _ from H3.out.below hb4
          have HI4 := show Hid _ from HI3.out.below hb4
          have HX4 : Hid (w4.heap[w2.heap.size]? = some (.cells #[.slice ao P.rows.length ac, .slice qo P.qs.length qc, .slice (some ⟨gp, op, none⟩) P.rows.length pc, .slice eo P.rows.length ec] 72 (0, 0))) := (hb4.block _ (blk_lt HX.out.1)).trans HX.out.1
          have HL2 : Hid (w.heap.size + 1 + 1 < w2.heap.size) := HX.out.2.2
          have HHi : Hid (i < P.rows.length) := hi
          clear hb4 HIa k0 k1 k2 k3 k4 k5 k6 k7 f0 f1 hf t0 t1 t2 t3 cp H3 HI3 HX hgp
          obtain ⟨t0, t1, t2, t3⟩ := cells4 HX4.out
          obtain ⟨f0, f1⟩ := cells2 H4.out.f
          have hf : ∀ j, w4.frozen? ⟨w.heap.size + 1 + 1, j, none⟩ = false := fun j => by have := H4.out.f; simp only [World.frozen?, this]; rfl
          by_cases hz : xp.is = 0
          · have HE := show Hid _ from HQ3.out 0 42 i (HQ5.out.trans (if_pos (Or.inl hz)))
            have hz' : (xp.is == 0) = true := by simpa using hz
            clear HQ3 HQ5 hz
            go_wp2_with fail
            obtain ⟨c1, c2, c3⟩ := put2M (B := w.heap.size + 1 + 1) (v0 := .int .i64 42) (v1 := .int .i64 (i : Int)) H4.out.be (by omega) H4.out.f
            obtain ⟨y0, y1⟩ := cells2 c1
            refine bodyPost_ret (v := .tuple #[.int .i64 0, .agg #[.int .i64 42, .int .i64 (i : Int)]]) (by simp [results, Tryz.results14, go_sem, y0, y1]) rfl ?_
            exact ⟨c2, HE.out⟩
          · have hz' : (xp.is == 0) = false := by simpa using hz
            have HHa : Hid (Calls Tryz.prog 31 #[.agg #[.slice ao P.rows.length ac, .slice qo P.qs.length qc, .slice (some ⟨gp, op, none⟩) P.rows.length pc, .slice eo P.rows.length ec], .int .i64 (i : Int)] w4 fun e w' => e = .returned (.bool (anyC (fun j => rP P.rows (i + j)) (endp P.rows i - i))) ∧ Below w4.heap.size w4 w') := has_any i HI4.out HRy.out.m HRy.out.t HHi.out HCap.out
            have HQ6 : Hid (anyC (fun j => rP P.rows (i + j)) (endp P.rows i - i) = true → ConQ P size cs nc (i : Int) (.returned (.tuple #[.int .i64 0, .agg #[.int .i64 42, .int .i64 (i : Int)]]))) := fun e => HQ3.out 0 42 i (HQ5.out.trans (if_pos (Or.inr e)))
            have HQ7 : Hid (anyC (fun j => rP P.rows (i + j)) (endp P.rows i - i) = false → ConQ P size cs nc (i : Int) (.returned (.tuple #[.int .i64 (vB P.rows size cs P.rows.length i), .agg #[.int .i64 0, .int .i64 0]]))) := fun e => HQ3.out _ 0 0 (HQ5.out.trans (if_neg (by rw [e]; rintro (h1 | h1); exact hz h1; cases h1)))
            clear hz HQ3 HQ5
            generalize anyC (fun j => rP P.rows (i + j)) (endp P.rows i - i) = ch at *
            go_wp2_with fail
            refine Calls.mono HHa.out ?_
            rintro e w5 ⟨rfl, hb5⟩
            have H5 := show Hid _ from H4.out.below hb5
            have HI5 := show Hid _ from HI4.out.below hb5
            have HX5 : Hid (w5.heap[w2.heap.size]? = some (.cells #[.slice ao P.rows.length ac, .slice qo P.qs.length qc, .slice (some ⟨gp, op, none⟩) P.rows.length pc, .slice eo P.rows.length ec] 72 (0, 0))) := (hb5.block _ (blk_lt HX4.out)).trans HX4.out
            clear hb5 HHa t0 t1 t2 t3 f0 f1 hf HX4 H4 HI4
            obtain ⟨t0, t1, t2, t3⟩ := cells4 HX5.out
            obtain ⟨f0, f1⟩ := cells2 H5.out.f
            obtain ⟨d0, d1⟩ := cells2 H5.out.c
            have hf : ∀ j, w5.frozen? ⟨w.heap.size + 1 + 1, j, none⟩ = false := fun j => by have := H5.out.f; simp only [World.frozen?, this]; rfl
            cases ch with
            | true =>
              have HE := show Hid _ from HQ6.out rfl
              clear HQ6 HQ7
              go_wp2_with fail
              obtain ⟨c1, c2, c3⟩ := put2M (B := w.heap.size + 1 + 1) (v0 := .int .i64 42) (v1 := .int .i64 (i : Int)) H5.out.be (by omega) H5.out.f
              obtain ⟨y0, y1⟩ := cells2 c1
              refine bodyPost_ret (v := .tuple #[.int .i64 0, .agg #[.int .i64 42, .int .i64 (i : Int)]]) (by simp [results, Tryz.results14, go_sem, y0, y1]) rfl ?_
              exact ⟨c2, HE.out⟩
            | false =>
              have HE : Hid (ConQ P size cs nc (i : Int) (.returned (.tuple #[.int .i64 (vB P.rows size cs P.rows.length i), .agg #[.int .i64 0, .int .i64 0]]))) := HQ7.out rfl
              have HVa : Hid (Calls Tryz.prog 32 #[.agg #[.slice ao P.rows.length ac, .slice qo P.qs.length qc, .slice (some ⟨gp, op, none⟩) P.rows.length pc, .slice eo P.rows.length ec], .agg #[.int .i64 size, .slice co nc cc]] w5 fun e w' => ∃ g, e = .returned (.slice (some ⟨g, 0, none⟩) P.rows.length P.rows.length) ∧ w5.heap.size ≤ g ∧ RowI w' g P.rows.length (vB P.rows size cs P.rows.length) ∧ Below w5.heap.size w5 w') := values_any HI5.out (by have := HRy.out.m; omega) HRy.out.t HRy.out.n (HC.out.below H5.out.be) HSz.out.2.2 (fun i hi hk => by rw [HNc.out]; exact HDy.out.c i hi hk) HDy.out.n HSz.out.1 HSz.out.2.1
              clear HQ6 HQ7
              generalize vB P.rows size cs P.rows.length = V at *
              go_wp2_with fail
              refine Calls.mono HVa.out ?_
              rintro e w6 ⟨g, rfl, hg, hrow, hb6⟩
              have H6 := show Hid _ from H5.out.below hb6
              have cV := hrow.cell HHi.out
              clear hb6 HVa hrow t0 t1 t2 t3 f0 f1 hf d0 d1 HX5 H5 HI5
              obtain ⟨f0, f1⟩ := cells2 H6.out.f
              have hf : ∀ j, w6.frozen? ⟨w.heap.size + 1 + 1, j, none⟩ = false := fun j => by have := H6.out.f; simp only [World.frozen?, this]; rfl
              generalize V i = vi at *
              go_wp2_with fail
              obtain ⟨c1, c2, c3⟩ := put2M (B := w.heap.size + 1 + 1) (v0 := .int .i64 0) (v1 := .int .i64 0) H6.out.be (by omega) H6.out.f
              obtain ⟨y0, y1⟩ := cells2 c1
              refine bodyPost_ret (v := .tuple #[.int .i64 vi, .agg #[.int .i64 0, .int .i64 0]]) (by simp [results, Tryz.results14, go_sem, y0, y1]) rfl ?_
              exact ⟨c2, HE.out⟩
    · have h0' : (rz.1 != 0) = true := by simp [h0]
      have HE := show Hid _ from HQ1.out h0
      clear h0 HQ1 HQ2 HIr
      have hbW : Below w2.heap.size w2 ((w2.alloc (.cells #[.slice ao P.rows.length ac, .slice qo P.qs.length qc, .slice po P.rows.length pc, .slice eo P.rows.length ec] 72)).alloc (.cells #[.int .i64 rz.1, .int .i64 rz.2] 33)) := ((Below.refl _ w2).alloc (Nat.le_refl _) _).alloc (by simp) _
      have H3 := show Hid _ from H2.out.below hbW
      have HX : Hid (((w2.alloc (.cells #[.slice ao P.rows.length ac, .slice qo P.qs.length qc, .slice po P.rows.length pc, .slice eo P.rows.length ec] 72)).alloc (.cells #[.int .i64 rz.1, .int .i64 rz.2] 33)).heap[w2.heap.size + 1]? = some (.cells #[.int .i64 rz.1, .int .i64 rz.2] 33 (0, 0)) ∧ w.heap.size + 1 + 1 < w2.heap.size) := ⟨alloc_at _ _ _ (by simp), blk_lt H2.out.f⟩
      obtain ⟨q0, q1⟩ := cells2 HX.out.1
      clear hbW
      go_wp2_with fail
      generalize ((w2.alloc (.cells #[.slice ao P.rows.length ac, .slice qo P.qs.length qc, .slice po P.rows.length pc, .slice eo P.rows.length ec] 72)).alloc (.cells #[.int .i64 rz.1, .int .i64 rz.2] 33)) = w3 at *
      obtain ⟨f0, f1⟩ := cells2 H3.out.f
      have hf : ∀ j, w3.frozen? ⟨w.heap.size + 1 + 1, j, none⟩ = false := fun j => by have := H3.out.f; simp only [World.frozen?, this]; rfl
      have hlt2 := HX.out.2
      generalize w2.heap.size = m2 at *
      have n1 : ¬ m2 + 1 = w.heap.size + 1 + 1 := by omega
      go_region
      all_goals
        go_wp2_with fail
        obtain ⟨c1, c2, c3⟩ := put2M (B := w.heap.size + 1 + 1) (v0 := .int .i64 rz.1) (v1 := .int .i64 rz.2) H3.out.be (by omega) H3.out.f
        obtain ⟨y0, y1⟩ := cells2 c1
        refine bodyPost_ret (v := .tuple #[.int .i64 0, .agg #[.int .i64 rz.1, .int .i64 rz.2]]) (by simp [results, Tryz.results14, go_sem, y0, y1]) rfl ?_
        exact ⟨c2.drew, HE.out⟩
end Go.Proofs.YtnpdblcfhbamiaaGreat.Nm.Ty
namespace Go.Proofs.YtnpdblcfhbamiaaGreat.Nm.Ty
open Go.RowKit Go.Maps Go.Proofs.YtnpdblcfhbamiaaGreat.Sp Go.Proofs.YtnpdblcfhbamiaaGreat.Lx Go.Proofs.YtnpdblcfhbamiaaGreat.Gr Go.Proofs.YtnpdblcfhbamiaaGreat.Nm
def bpT : ByteArray := ⟨#[112]⟩
def bqT : ByteArray := ⟨#[113]⟩
def bvT : ByteArray := ⟨#[118]⟩
/-- the rows of known's policy -/
def trows : List Rz := [⟨1, bpT, 0, 0, 2⟩, ⟨2, bqT, 0, 0, 0⟩, ⟨4, bvT, 0, 0, 3⟩, ⟨27, ⟨#[]⟩, 0, 0, 0⟩, ⟨27, ⟨#[]⟩, 0, 0, 0⟩, ⟨32, bqT, 0, 0, 0⟩]
def tpl : Pl := ⟨bpT, trows, [(bqT, false)], [bvT], [], [], [-1], -1⟩
theorem res_t : res trows = .ok tpl := by kernel_rfl
theorem unn_t : trows.map unn = trows := by kernel_rfl
theorem tree_t : TreeZ trows := (tree_of (by kernel_rfl)).1
theorem ok_t : IsOk tpl.g := ⟨tpl, (congrArg res unn_t).trans res_t, rfl⟩
theorem six {p : Nat → Prop} (h : p 0 ∧ p 1 ∧ p 2 ∧ p 3 ∧ p 4 ∧ p 5) : ∀ i, i < 6 → p i := fun i hi => by
  obtain ⟨h0, h1, h2, h3, h4, h5⟩ := h
  obtain rfl | rfl | rfl | rfl | rfl | rfl : i = 0 ∨ i = 1 ∨ i = 2 ∨ i = 3 ∨ i = 4 ∨ i = 5 := by omega
  all_goals assumption
theorem kind_t : ∀ i, i < 6 → (rat trows i).kind = 1 ∨ (rat trows i).kind = 2 ∨ ((rat trows i).kind = 4 ∧ i = 2) ∨ (rat trows i).kind = 27 ∨ (rat trows i).kind = 32 := six ⟨by decide, by decide, by decide, by decide, by decide, by decide⟩
theorem n_t : ∀ i, i < 6 → (rat trows i).n = 0 := six ⟨rfl, rfl, rfl, rfl, rfl, rfl⟩
theorem qs_t : Qs trows [(bqT, false)] := ⟨fun i hi h => by have := kind_t i hi; omega, fun i hi h => by have := kind_t i hi; omega⟩
theorem lp_t : ∀ i, i < trows.length → (rat trows i).kind = 13 → i + 1 < trows.length := fun i hi h => by have := kind_t i hi; omega
theorem km_t : km trows 2 = 3 := by kernel_rfl
theorem stz_t : Stz trows := ⟨fun i hi h => by
    have h1 := kind_t i hi
    obtain rfl : i = 2 := by omega
    exact km_t, fun i hi h => by have := kind_t i hi; omega⟩
theorem rdy_t : Rdy tpl.g := ⟨tree_t, qs_t, lp_t, by decide, by decide, by decide⟩
theorem rdc_t : Rdc tpl.g := ⟨stz_t, fun i hi _ => ⟨0, n_t i hi, by decide⟩, fun i hi => by
    have h1 : (rat tpl.g.rows i).n = 0 := n_t i hi
    rw [h1]
    exact ⟨by omega, by omega⟩⟩
theorem sm_t : tpl.g.Sm := ⟨by decide, by decide, by decide, by decide, by decide, by decide⟩
def c4 : Nat → Int := fun _ => 4
theorem flt_t : fltN tpl.g.rows (ghL tpl.g.qs) tpl.g.rows.length = (0, 0) := by kernel_rfl
theorem fit_t : fitE (ghL tpl.g.qs) tpl.g.qs.length 9 c4 1 = 0 := by kernel_rfl
theorem ru_t : ruZ tpl.g 9 c4 1 = (0, 0) := by
  unfold ruZ
  rw [flt_t, if_pos rfl, fit_t]
theorem set_t : setN trows (vB trows 9 c4 6) 6 = (0, 0) := by kernel_rfl
theorem setV_t : setV trows (vB trows 9 c4 6) 6 = [(0, 0, 4)] := by kernel_rfl
theorem con_t : conZ trows (vB trows 9 c4 6) 5 = (4, 0, 0) := by kernel_rfl
theorem in9 : in64 9 := ⟨by omega, by omega⟩
theorem in4 : ∀ i, in64 (c4 i) := fun _ => ⟨by show _ ≤ (4 : Int); omega, by show (4 : Int) ≤ _; omega⟩
def tyL : List Int := [0, 0, 0, 1, 1, 1]
theorem ty_t : ∀ i, i < 6 → (rP trows i).is = tyL.getD i 0 := six ⟨rfl, rfl, rfl, rfl, rfl, rfl⟩
section
variable {ao qo vo tto uo oo : Option Addr} {ac qc vc tc uc oc B : Nat} {W : World}
theorem pv_t : pvG tpl.g ao qo vo tto uo oo ac qc vc tc uc oc = .agg #[.string ⟨#[112]⟩, .slice ao 6 ac, .slice qo 1 qc, .slice vo 1 vc, .slice tto 0 tc, .slice uo 0 uc, .slice oo 1 oc, .int .i64 (-1)] := rfl
theorem caps_t (hq : W.heap[B]? = some (.cells #[.int .i64 4] 3 (0, 0))) : IsVals W (some ⟨B, 0, none⟩) (fL 1 (fun i => .int .i64 (c4 i))) := fun k x hx => by
  have hk : k < 1 := by have := (List.getElem?_eq_some_iff.1 hx).1; simpa [fL] using this
  obtain rfl : k = 0 := by omega
  cases hx
  exact ⟨B, 0, rfl, blk_lt hq, by rw [World.cell?, hq]; rfl⟩
theorem types_t (h : RdG W tpl.g ao qo vo tto uo oo) (hnil : ao = none → ac = 0) : Calls Tryz.prog 6 #[.agg #[.string ⟨#[112]⟩, .slice ao 6 ac, .slice qo 1 qc, .slice vo 1 vc, .slice tto 0 tc, .slice uo 0 uc, .slice oo 1 oc, .int .i64 (-1)]] W fun e w' => Below W.heap.size W w' ∧ ∃ g, e = .returned (.tuple #[.slice (some ⟨g, 0, none⟩) 6 6, .agg #[.int .i64 0, .int .i64 0]]) ∧ W.heap.size ≤ g ∧ IsVals w' (some ⟨g, 0, none⟩) (iv tyL) := by
  have h0 := typesF_any (ac := ac) (qc := qc) (vc := vc) (tc := tc) (uc := uc) (oc := oc) h sm_t hnil (fun _ => rdy_t)
  rw [pv_t] at h0
  refine Calls.mono h0 ?_
  rintro e w' ⟨hb, hq⟩
  refine ⟨hb, ?_⟩
  rw [flt_t] at hq
  rcases hq with ⟨h1, _⟩ | ⟨_, h1, _⟩ | ⟨_, _, g, he, hg, hr⟩
  · exact absurd ok_t h1
  · exact absurd rfl h1
  · refine ⟨g, he, hg, fun k x hx => ?_⟩
    have hk : k < 6 := (List.getElem?_eq_some_iff.1 hx).1
    have hc := hr.cell (j := k) hk
    have h2 : (rP tpl.g.rows k).is = tyL.getD k 0 := ty_t k hk
    rw [h2] at hc
    refine ⟨g, 0, rfl, hr.lt, ?_⟩
    rw [Nat.zero_add, hc, ← hx]
    have hk' : k < tyL.length := hk
    simp [iv, List.getD_eq_getElem?_getD, List.getElem?_eq_getElem hk']
theorem check_t (h : RdG W tpl.g ao qo vo tto uo oo) (hnil : ao = none → ac = 0) (hq : W.heap[B]? = some (.cells #[.int .i64 4] 3 (0, 0))) : Calls Tryz.prog 7 #[.agg #[.string ⟨#[112]⟩, .slice ao 6 ac, .slice qo 1 qc, .slice vo 1 vc, .slice tto 0 tc, .slice uo 0 uc, .slice oo 1 oc, .int .i64 (-1)], .agg #[.int .i64 9, .slice (some ⟨B, 0, none⟩) 1 1]] W fun e w' => Below W.heap.size W w' ∧ ∃ v1 vc1 tv rv, e = .returned (.tuple #[.agg #[.slice v1 1 vc1, tv, rv], .agg #[.int .i64 0, .int .i64 0]]) ∧ IsVals w' v1 [.int .i64 0, .int .i64 0, .int .i64 4] ∧ (∃ a b c, tv = .slice a b c) ∧ ∃ a b c, rv = .slice a b c := by
  have h0 := tcheck_any (ac := ac) (qc := qc) (vc := vc) (tc := tc) (uc := uc) (oc := oc) (cc := 1) h sm_t hnil (fun _ => rdy_t) (fun _ => rdc_t) (caps_t hq) (by decide) in9 in4
  rw [pv_t] at h0
  refine Calls.mono h0 ?_
  rintro e w' ⟨hb, hq⟩
  refine ⟨hb, ?_⟩
  unfold ChkQ at hq
  rw [ru_t] at hq
  rcases hq with ⟨h1, _⟩ | ⟨_, h1, _⟩ | ⟨_, _, hs⟩
  · exact absurd ok_t h1
  · exact absurd rfl h1
  · have hs' : StlQ trows (vB trows 9 c4 6) W e w' := hs
    rcases hs' with ⟨h1, _⟩ | ⟨_, vv, tv, rb, he, _, _, hv, ht⟩
    · have h2 : setN trows (vB trows 9 c4 6) trows.length = (0, 0) := set_t
      rw [h2] at h1
      exact absurd rfl h1
    · have h3 : setV trows (vB trows 9 c4 6) trows.length = [(0, 0, 4)] := setV_t
      rw [h3] at hv
      obtain ⟨v1, vc1, rfl⟩ := own_form hv
      obtain ⟨t1, tc1, rfl⟩ := own_form ht
      exact ⟨v1, vc1, _, _, he, vals_of hv, ⟨_, _, _, rfl⟩, ⟨_, _, _, rfl⟩⟩
theorem const_t (h : RdG W tpl.g ao qo vo tto uo oo) (hnil : ao = none → ac = 0) (hq : W.heap[B]? = some (.cells #[.int .i64 4] 3 (0, 0))) : Calls Tryz.prog 14 #[.agg #[.string ⟨#[112]⟩, .slice ao 6 ac, .slice qo 1 qc, .slice vo 1 vc, .slice tto 0 tc, .slice uo 0 uc, .slice oo 1 oc, .int .i64 (-1)], .agg #[.int .i64 9, .slice (some ⟨B, 0, none⟩) 1 1], .int .i64 5] W fun e w' => Below W.heap.size W w' ∧ e = .returned (.tuple #[.int .i64 4, .agg #[.int .i64 0, .int .i64 0]]) := by
  have h0 := tconst_any (ac := ac) (qc := qc) (vc := vc) (tc := tc) (uc := uc) (oc := oc) (cc := 1) (row := 5) h sm_t hnil (fun _ => rdy_t) (fun _ => rdc_t) (caps_t hq) (by decide) in9 in4
  rw [pv_t] at h0
  refine Calls.mono h0 ?_
  rintro e w' ⟨hb, hq⟩
  refine ⟨hb, ?_⟩
  unfold ConQ at hq
  rw [ru_t] at hq
  rcases hq with ⟨h1, _⟩ | ⟨_, h1, _⟩ | ⟨_, _, he⟩
  · exact absurd ok_t h1
  · exact absurd rfl h1
  · have h2 : conZ tpl.g.rows (vB tpl.g.rows 9 c4 tpl.g.rows.length) 5 = (4, 0, 0) := con_t
    rw [h2] at he
    exact he
theorem fitF_t (h : RdG W tpl.g ao qo vo tto uo oo) (hnil : ao = none → ac = 0) (hq : W.heap[B]? = some (.cells #[.int .i64 4] 3 (0, 0))) : Calls Tryz.prog 15 #[.agg #[.string ⟨#[112]⟩, .slice ao 6 ac, .slice qo 1 qc, .slice vo 1 vc, .slice tto 0 tc, .slice uo 0 uc, .slice oo 1 oc, .int .i64 (-1)], .agg #[.int .i64 9, .slice (some ⟨B, 0, none⟩) 1 1]] W fun e w' => Below W.heap.size W w' ∧ e = .returned (.agg #[.int .i64 0, .int .i64 0]) := by
  have h0 := fit_any (ac := ac) (qc := qc) (vc := vc) (tc := tc) (uc := uc) (oc := oc) (cc := 1) (size := 9) h sm_t hnil (caps_t hq) (by decide)
  rw [pv_t] at h0
  refine Calls.mono h0 ?_
  rintro e w' ⟨hb, hq⟩
  refine ⟨hb, ?_⟩
  rw [fit_t] at hq
  rcases hq with ⟨h1, _⟩ | ⟨_, he⟩
  · exact absurd ok_t h1
  · exact he
end
theorem small_rzT (w : World) : IsRz (w.alloc (.cells #[.int .i64 1, .string bpT, .int .i64 0, .int .i64 0, .int .i64 2, .int .i64 2, .string bqT, .int .i64 0, .int .i64 0, .int .i64 0, .int .i64 4, .string bvT, .int .i64 0, .int .i64 0, .int .i64 3, .int .i64 27, .string ⟨#[]⟩, .int .i64 0, .int .i64 0, .int .i64 0, .int .i64 27, .string ⟨#[]⟩, .int .i64 0, .int .i64 0, .int .i64 0, .int .i64 32, .string bqT, .int .i64 0, .int .i64 0, .int .i64 0] 51)) (some ⟨w.heap.size, 0, none⟩) trows := by
  have hb := heap_alloc_new w (.cells #[.int .i64 1, .string bpT, .int .i64 0, .int .i64 0, .int .i64 2, .int .i64 2, .string bqT, .int .i64 0, .int .i64 0, .int .i64 0, .int .i64 4, .string bvT, .int .i64 0, .int .i64 0, .int .i64 3, .int .i64 27, .string ⟨#[]⟩, .int .i64 0, .int .i64 0, .int .i64 0, .int .i64 27, .string ⟨#[]⟩, .int .i64 0, .int .i64 0, .int .i64 0, .int .i64 32, .string bqT, .int .i64 0, .int .i64 0, .int .i64 0] 51)
  intro i x hx
  have hi : i < 6 := (List.getElem?_eq_some_iff.1 hx).1
  refine ⟨w.heap.size, 0, rfl, by simp, ?_⟩
  obtain rfl | rfl | rfl | rfl | rfl | rfl : i = 0 ∨ i = 1 ∨ i = 2 ∨ i = 3 ∨ i = 4 ∨ i = 5 := by omega
  all_goals
    cases hx
    simp only [World.cell?, hb]
    exact ⟨rfl, rfl, rfl, rfl, rfl⟩
theorem small8_any (w : World) : Calls Tryz.prog 13 #[] w fun e w' => e = .returned (.slice (some ⟨w.heap.size, 0, none⟩) 6 6) ∧ IsRz w' (some ⟨w.heap.size, 0, none⟩) trows ∧ Below w.heap.size w w' := by
  have HR := show Hid _ from small_rzT w
  have HB : Hid (∀ x, Below w.heap.size w (w.alloc x)) := fun x => (Below.refl _ w).alloc (Nat.le_refl _) x
  unfold bpT bqT bvT at HR
  go_enter Tryz.func13, Tryz.ntmps13
  go_wp2
  go_ret
  exact ⟨rfl, HR.out, HB.out _⟩
/-- names.Resolve of known's rows -/
theorem resolve_t {W : World} {b : Nat} (h : IsRz W (some ⟨b, 0, none⟩) trows) : Calls Tryz.prog 5 #[.slice (some ⟨b, 0, none⟩) 6 6] W fun e w' => Below W.heap.size W w' ∧ ∃ ao qo vo tto uo oo ac qc vc tc uc oc, e = .returned (.tuple #[.agg #[.string ⟨#[112]⟩, .slice ao 6 ac, .slice qo 1 qc, .slice vo 1 vc, .slice tto 0 tc, .slice uo 0 uc, .slice oo 1 oc, .int .i64 (-1)], .agg #[.int .i64 0, .int .i64 0]]) ∧ (ao = none → ac = 0) ∧ RdG w' tpl.g ao qo vo tto uo oo := by
  have h0 := resolve_any (cap := 6) h (by decide)
  rw [res_t] at h0
  refine Calls.mono h0 ?_
  rintro e w' ⟨hb, v, rfl, hp⟩
  obtain ⟨rb, qo, vo, tto, uo, oo, ac, qc, vc, tc, uc, oc, hv0, hrw, hrd, hnat, huc⟩ := hp.rd
  refine ⟨hb, some ⟨rb, 0, none⟩, qo, vo, tto, uo, oo, ac, qc, vc, tc, uc, oc, ?_, nofun, ⟨hrd.r, hrd.q, hrd.v, hrd.t, fun k x hx => (by cases hx), hrd.o⟩⟩
  have hv : v = .agg #[.string ⟨#[112]⟩, .slice (some ⟨rb, 0, none⟩) 6 ac, .slice qo 1 qc, .slice vo 1 vc, .slice tto 0 tc, .slice uo 0 uc, .slice oo 1 oc, .int .i64 (-1)] := hv0
  rw [hv]
end Go.Proofs.YtnpdblcfhbamiaaGreat.Nm.Ty
