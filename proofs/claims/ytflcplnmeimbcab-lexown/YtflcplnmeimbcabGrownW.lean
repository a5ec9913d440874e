import Derived.Test.YtflcplnmeimbcabLxGrow2
namespace Go.Proofs.Ytflcplnmeimbcab.Lx
open Go.RowKit Go.Proofs.Ytflcplnmeimbcab.Sp

theorem info25 : (Try.prog.info? 25).map (fun i => (i.zero, i.size, i.bytes)) = some (some (.slice none 0 0), 1, 24) := by kernel_rfl
theorem whole {base ga : Nat} {v : Nat → Value} {n : Nat → Nat} {wr : World} {X : Nat → List Value} (h : Lists base ga v n wr X) {q : Nat} (hq : q < 6) (h1 : ∀ j, j < q → X j = mks j (n j)) (h2 : (X q).take (n q * 4) = mks q (n q)) : ∀ j, j < q + 1 → X j = mks j (n j) := by
  intro j hj
  by_cases e : j = q
  · subst e
    rw [← h2, List.take_of_length_le (by rw [(h.own j hq).1]; exact Nat.le_refl _)]
  · exact h1 j (by omega)

theorem TokRow.form' {w : World} {base n : Nat} {v : Value} {xs : List Value} (h : w.ownsRow base 37 4 v n xs) : ∃ bo bc, v = .slice bo n bc := by
  rcases h.2 with ⟨e, h0⟩ | ⟨g, cap, cur, e, _⟩
  · exact ⟨none, 0, by rw [e, h0]⟩
  · exact ⟨_, _, e⟩
theorem Grow.first {base ga gm cm : Nat} {v : Nat → Value} {n : Nat → Nat} {wr w5 : World} (h : Lists base ga v n wr (fun j => mks j (n j))) (hb : ∀ k, k < wr.heap.size → w5.heap[k]? = wr.heap[k]?) (hz : wr.heap.size ≤ w5.heap.size) (hgm : wr.heap.size ≤ gm)
    (hos : w5.os = wr.os) (htp : w5.tape = wr.tape) (hou : w5.output = wr.output)
    (hm : w5.ownsRow base 25 1 (.slice (some ⟨gm, 0, none⟩) 6 cm) 6 [v 0, v 1, v 2, v 3, v 4, v 5]) : Grow base ga gm v n v (fun _ => 0) w5 := by
  have hB : Below wr.heap.size wr w5 := ⟨hos, htp, hou, hz, hb⟩
  have hlt := h.lt
  have hvl : ∀ i g, i < 6 → (v i).ownBlock = some g → g < wr.heap.size := fun i g hi hg => (World.ownsRow.lt (h.own i hi) g hg).2
  have hgl := (World.ownsRow.lt hm gm rfl).2
  have hgr : wr.grownBy w5 none := ⟨hos, htp, hou, hz, fun k hk _ => hb k hk⟩
  refine ⟨fun i hi => ?_, fun i g hi hg j hj => ?_, fun i hi => ?_, h.apart, h.apart, fun j hj => ?_, fun j hj => ⟨?_, hm.frozenAt j⟩, fun j hj => ⟨h.gne j hj, fun e => ?_⟩, fun j hj e => ?_, by omega, by omega, hgl⟩
  · rcases (h.own i hi).2 with e | ⟨g, cap, cur, e, _, hg, _⟩
    · exact Or.inl e
    · exact Or.inr ⟨g, cap, e, by have := (Array.getElem?_eq_some_iff.1 hg).1; omega⟩
  · rw [hB.cell (p := ⟨g, j, none⟩) (hvl i g hi hg)]
    have hj3 : j < (mks i (n i)).length := by rw [mks_len]; exact hj
    rw [List.getElem?_eq_getElem hj3]
    have := (h.own i hi).cells (g := g) hg j _ (List.getElem?_eq_getElem hj3)
    rw [Lib.addr_add] at this
    simpa using this
  · have h1 : w5.ownsRow base 37 4 (v i) (n i) (mks i (n i)) := (h.own i hi).kept hgr (by
      cases (v i).ownBlock with
      | none => exact Or.inl rfl
      | some k => exact Or.inr (by simp))
    simpa [aps] using h1
  · rw [hB.cell (p := ⟨ga, j, none⟩) hlt]; exact h.all j hj
  · rw [hm.cellAt j (by omega)]
    rcases (show j = 0 ∨ j = 1 ∨ j = 2 ∨ j = 3 ∨ j = 4 ∨ j = 5 by omega) with rfl | rfl | rfl | rfl | rfl | rfl <;> rfl
  · have := hvl j gm hj e; omega
  · have := hvl j gm hj e; omega

set_option maxHeartbeats 6400000 in
set_option maxRecDepth 100000 in
theorem grown_any (base ga ca : Nat) (v : Nat → Value) (n : Nat → Nat) (X : Nat → List Value) (w : World) (h : Lists base ga v n w X) (hb : base ≤ w.heap.size) (hn : ∀ j, n j ≤ 65537) :
    Calls Try.prog 8 #[.slice (some ⟨ga, 0, none⟩) 6 ca] w fun e w' => e = .returned (.bool true) ∧ Below base w w' := by
  have HL : Hid (Lists base ga v n w X) := h
  have HN : Hid (∀ j, n j ≤ 65537) := hn
  clear h hn
  obtain ⟨i0, hi, hz0, hz1, hz2⟩ := info_parts info25
  obtain ⟨j0, hj, hj0, hj1, hj2⟩ := info_parts info37
  go_enter Try.func8, Try.ntmps8
  go_wp2_with fail
  go_loopw [3] (fun i wr => ∃ (q : Nat) (X : Nat → List Value), q ≤ 6 ∧ i = .int .i64 q ∧ Lists base ga v n wr X ∧ (∀ j, j < q → X j = mks j (n j)) ∧ Below base w wr) (fun i _ => 6 - (intOf i).toNat)
  case atStart => exact ⟨0, X, by omega, rfl, HL.out, fun j hj => by omega, Below.refl _ _⟩
  case round =>
    obtain ⟨q, X, hq, rfl, hL, hX, hB⟩ := hrel
    have HL1 : Hid (Lists base ga v n wr X ∧ (∀ j, j < q → X j = mks j (n j)) ∧ Below base w wr) := ⟨hL, hX, hB⟩
    clear hL hX hB
    by_cases hq6 : q < 6
    · have hq6' : (q : Int) < 6 := by omega
      go_wp2_with fail
      go_loopw [4] (fun i wr => ∃ (k : Nat) (X : Nat → List Value), k ≤ n q ∧ i = .int .i64 k ∧ Lists base ga v n wr X ∧ (∀ j, j < q → X j = mks j (n j)) ∧ (X q).take (k * 4) = mks q k ∧ Below base w wr) (fun i _ => n q - (intOf i).toNat)
      case atStart => exact ⟨0, X, by omega, rfl, HL1.out.1, HL1.out.2.1, by simp [mks], HL1.out.2.2⟩
      case round =>
        obtain ⟨k, X, hk, rfl, hL, hX, hT, hB⟩ := hrel
        have HL2 : Hid (Lists base ga v n wr X ∧ (∀ j, j < q → X j = mks j (n j)) ∧ (X q).take (k * 4) = mks q k ∧ Below base w wr) := ⟨hL, hX, hT, hB⟩
        have hnq := HN.out q
        have hcl := hL.all q hq6
        have hlt := hL.lt
        rcases (hL.own q hq6).2 with ⟨hv, h0⟩ | ⟨g, cap, cur, hv, hbg, hg, h3, h4, h5, h6⟩
        · rw [hv] at hcl
          obtain rfl : k = 0 := by omega
          have hd : decide ((0 : Int) < ((n q : Nat) : Int)) = false := by rw [h0]; rfl
          clear hL hX hT hB
          go_wp2_with fail
          go_roundw
          case rel => exact ⟨q + 1, X, by omega, by go_num, HL2.out.1, whole HL2.out.1 hq6 HL2.out.2.1 (by rw [h0]; exact HL2.out.2.2.1), HL2.out.2.2.2⟩
          case measure => simp [intOf]; omega
        · rw [hv] at hcl
          by_cases hkn : k < n q
          · have hc0 := (hL.own q hq6)
            rw [hv] at hc0
            have hz : ∀ j, wr.frozen? ⟨g, j, none⟩ = false := fun j => hc0.frozenAt j
            have hcc : ∀ j, j < n q * 4 → ∃ u, wr.cell? ⟨g, j, none⟩ = some u := fun j hj => ⟨_, (hc0.cellAt j hj).trans (List.getElem?_eq_getElem (by rw [hc0.1]; exact hj))⟩
            obtain ⟨u0, c0⟩ := hcc (k * 4) (by omega)
            obtain ⟨u1, c1⟩ := hcc (k * 4 + 1) (by omega)
            obtain ⟨u2, c2⟩ := hcc (k * 4 + 2) (by omega)
            obtain ⟨u3, c3⟩ := hcc (k * 4 + 3) (by omega)
            have z0 := hz (k * 4)
            have z1 := hz (k * 4 + 1)
            have z2 := hz (k * 4 + 2)
            have z3 := hz (k * 4 + 3)
            have hglt := (Array.getElem?_eq_some_iff.1 hg).1
            have hkn' : (k : Int) < ((n q : Nat) : Int) := by omega
            clear hL hX hT hB hc0 hz hcc hg h5 h6
            go_wp2_with fail
            go_roundw
            case rel =>
              obtain ⟨p1, p2, p3, p4⟩ := HL2.out
              have w1 := (((p1.write hq6 hv (j := k * 4) (.int .i64 (500 + (q : Int)))).write hq6 hv (j := k * 4 + 1) (.int .i64 0)).write hq6 hv (j := k * 4 + 2) (.int .i64 0)).write hq6 hv (j := k * 4 + 3) (.int .i64 (k : Int))
              refine ⟨k + 1, _, by omega, by go_num, w1, fun j hj => ?_, ?_, (((p4.setCell hbg _).setCell hbg _).setCell hbg _).setCell hbg _⟩
              · have : j ≠ q := by omega
                simp only [if_neg this]
                exact p2 j hj
              · simp only [if_true]
                rw [set_four _ _ _ _ _ _ (by have := (p1.own q hq6).1; omega), p3, mks_succ]
                rfl
            case measure => simp [intOf]; omega
          · have hkq : k = n q := by omega
            have hkn' : decide ((k : Int) < ((n q : Nat) : Int)) = false := by simp; omega
            clear hL hX hT hB hg h5 h6
            go_wp2_with fail
            go_roundw
            case rel => exact ⟨q + 1, X, by omega, by go_num, HL2.out.1, whole HL2.out.1 hq6 HL2.out.2.1 (by rw [← hkq]; exact HL2.out.2.2.1), HL2.out.2.2.2⟩
            case measure => simp [intOf]; omega
    · obtain rfl : q = 6 := by omega
      have hd : decide ((6 : Int) < 6) = false := rfl
      obtain ⟨hL, hX, hB⟩ := HL1.out
      have HL3 : Hid (Lists base ga v n wr (fun j => mks j (n j)) ∧ Below base w wr) := ⟨⟨fun j hj => by have := hL.own j hj; rw [hX j hj] at this; exact this, hL.apart, hL.all, hL.gne, hL.lt⟩, hB⟩
      clear hL hX hB HL1 HL
      have hbz : base ≤ wr.heap.size := Nat.le_trans hb HL3.out.2.size
      go_wp2_with (at_builtin; refine append_keep _ rfl _ _ 24 rfl base 25 i0 (.slice none 0 0) 1 24 Try.underlying24 hi hz0 hz1 hz2 rfl (by decide) _ _ _ rfl (World.ownsRow_nil _ _ _ _) ⟨ga, 0, none⟩ 6 ca [v 0, v 1, v 2, v 3, v 4, v 5] rfl rfl ?c1 ?c2 ?c3 ?c4 ?c5 ?c6 ?_)
      case c1 =>
        intro j u hu
        have hj : j < 6 := (List.getElem?_eq_some_iff.1 hu).1
        rw [Lib.addr_add, Nat.zero_add]
        rcases (show j = 0 ∨ j = 1 ∨ j = 2 ∨ j = 3 ∨ j = 4 ∨ j = 5 by omega) with rfl | rfl | rfl | rfl | rfl | rfl <;> (simp at hu; subst hu; exact HL3.out.1.all _ (by omega))
      case c2 =>
        intro u hu
        have hf : ∀ j, j < 6 → (v j).oneCell' = true := fun j hj => by
          rcases (HL3.out.1.own j hj).2 with ⟨e, _⟩ | ⟨_, _, _, e, _⟩ <;> rw [e] <;> rfl
        simp at hu
        rcases hu with rfl | rfl | rfl | rfl | rfl | rfl <;> exact hf _ (by omega)
      case c3 => unfold maxLen; omega
      case c4 => omega
      case c5 => exact hbz
      case c6 => omega
      intro vm w5 hO5 hg5 hk5
      obtain ⟨gm, cm, hvm⟩ := Go.Joins.ownsRow_form hO5 (by omega)
      subst hvm
      have HG : Hid (base ≤ gm ∧ Grow base ga gm v n v (fun _ => 0) w5 ∧ Below base w w5) := by
        rcases hk5 with ⟨g, e, _⟩ | ⟨h1, h2⟩
        · cases e
        · refine ⟨Nat.le_trans hbz (h2 gm rfl), Grow.first HL3.out.1 h1 hg5.size (h2 gm rfl) hg5.os hg5.tape hg5.output hO5, HL3.out.2.trans ⟨hg5.os, hg5.tape, hg5.output, hg5.size, fun k hk => h1 k (by omega)⟩⟩
      clear hO5 hg5 hk5 HL3
      go_wp2_with fail
      go_loopw [6] (fun i wr => ∃ (k : Nat) (u : Nat → Value) (J : Nat → Nat), k ≤ 40 ∧ i = .int .i64 k ∧ (∀ j, j < 6 → J j = k) ∧ Grow base ga gm v n u J wr ∧ Below base w wr) (fun i _ => 40 - (intOf i).toNat)
      case atStart => exact ⟨0, v, fun _ => 0, by omega, rfl, fun _ _ => rfl, HG.out.2.1, HG.out.2.2⟩
      case round =>
        obtain ⟨k, u, J, hk, rfl, hJ, hG, hB⟩ := hrel
        have HG1 : Hid ((∀ j, j < 6 → J j = k) ∧ Grow base ga gm v n u J wr ∧ Below base w wr) := ⟨hJ, hG, hB⟩
        clear hJ hG hB
        by_cases hk40 : k < 40
        · have hk40' : (k : Int) < 40 := by omega
          go_wp2_with fail
          go_loopw [7] (fun i wr => ∃ (q : Nat) (u : Nat → Value) (J : Nat → Nat), q ≤ 6 ∧ i = .int .i64 q ∧ (∀ j, j < 6 → J j = if j < q then k + 1 else k) ∧ Grow base ga gm v n u J wr ∧ Below base w wr) (fun i _ => 6 - (intOf i).toNat)
          case atStart => exact ⟨0, u, J, by omega, rfl, fun j hj => by rw [HG1.out.1 j hj]; simp, HG1.out.2.1, HG1.out.2.2⟩
          case round =>
            obtain ⟨q, u, J, hq, rfl, hJ, hG, hB⟩ := hrel
            have HG2 : Hid ((∀ j, j < 6 → J j = if j < q then k + 1 else k) ∧ Grow base ga gm v n u J wr ∧ Below base w wr) := ⟨hJ, hG, hB⟩
            by_cases hq6 : q < 6
            · have hq6' : (q : Int) < 6 := by omega
              obtain ⟨hm1, hm2⟩ := hG.more q hq6
              have hgl := hG.lt.2
              have hJq : J q = k := by rw [hJ q hq6]; simp
              obtain ⟨bo, bc, hu⟩ := (TokRow.form' (hG.own q hq6))
              have hnq := HN.out q
              have hbw : base ≤ wr.heap.size := Nat.le_trans hb hB.size
              have HO : Hid (wr.ownsRow base 37 4 (u q) (n q + k) (mks q (n q) ++ aps q k)) := by have := hG.own q hq6; rw [hJq] at this; exact this
              clear hJ hG hB
              rw [hJq] at hu
              rw [hu] at hm1
              have HU : Hid (u q = .slice bo (n q + k) bc) := hu
              clear hu hJq
              go_wp2_with (at_builtin; refine append_keep _ rfl _ _ 25 rfl base 37 j0 (.agg #[.int .i64 0, .int .i64 0, .int .i64 0, .int .i64 0]) 4 32 Try.underlying25 hj hj0 hj1 hj2 rfl (by decide) (.slice bo (n q + k) bc) (n q + k) (mks q (n q) ++ aps q k) rfl (by rw [← HU.out]; exact HO.out.alloc _) ⟨wr.heap.size, 0, none⟩ 1 1 (ap q k) rfl rfl ?d1 ?d2 ?d3 ?d4 ?d5 ?d6 ?_)
              case d1 => exact cell_four _ _ _ _ _ _
              case d2 => intro y hy; simp [ap] at hy; rcases hy with rfl | rfl | rfl <;> rfl
              case d3 => unfold maxLen; omega
              case d4 => omega
              case d5 => simp; omega
              case d6 => omega
              intro u' w6 hO6 hg6 hk6
              rw [← HU.out] at hg6 hk6
              have hb6 : w6.heap[gm]? = wr.heap[gm]? := (hg6.block gm (by simp only [World.size_alloc]; omega) (fun e => (HG2.out.2.1.une q hq6).2 e.symm)).trans (Below.heap_alloc _ _ _ hgl)
              have hm6 : w6.cell? ⟨gm, q, none⟩ = some (.slice bo (n q + k) bc) := (World.cell?_of_block (a := ⟨gm, q, none⟩) hb6).trans hm1
              have hf6 : w6.frozen? ⟨gm, q, none⟩ = false := (World.frozen?_of_block (a := ⟨gm, q, none⟩) hb6).trans hm2
              have hz6 := hg6.size
              simp only [World.size_alloc] at hz6
              have hgl6 : gm < w6.heap.size := by omega
              have HG3 : Hid (∃ (u2 : Nat → Value) (J2 : Nat → Nat), (∀ j, j < 6 → J2 j = if j < q + 1 then k + 1 else k) ∧ Grow base ga gm v n u2 J2 (w6.setCell ⟨gm, q, none⟩ u') ∧ Below base w (w6.setCell ⟨gm, q, none⟩ u')) := by
                obtain ⟨p1, p2, p3⟩ := HG2.out
                have hJq : J q = k := by rw [p1 q hq6]; simp
                refine ⟨_, _, ?_, p2.step hq6 (by rw [hJq, List.append_assoc]; exact hO6) hg6 (by simp only [World.size_alloc]; exact hk6), ?_⟩
                · intro j hj
                  by_cases e : j = q
                  · subst e
                    simp [hJq]
                  · simp only [if_neg e]
                    rw [p1 j hj]
                    by_cases e2 : j < q
                    · rw [if_pos e2, if_pos (by omega)]
                    · rw [if_neg e2, if_neg (by omega)]
                · exact ((p3.alloc hbw _).grown hg6 (Nat.le_trans hbw (by simp)) (fun j hj => (World.ownsRow.lt (p2.own q hq6) j hj).1)).setCell HG.out.1 _
              obtain ⟨bo', bc', hu'⟩ := TokRow.form' hO6
              subst hu'
              clear hO6 hg6 hk6 hb6 hm1 hm2
              go_wp2_with fail
              go_roundw
              case rel =>
                obtain ⟨u2, J2, p1, p2, p3⟩ := HG3.out
                exact ⟨q + 1, u2, J2, by omega, by go_num, p1, p2, p3⟩
              case measure => simp [intOf]; omega
            · obtain rfl : q = 6 := by omega
              have hd : decide ((6 : Int) < 6) = false := rfl
              clear hJ hG hB
              go_wp2_with fail
              go_roundw
              case rel =>
                obtain ⟨p1, p2, p3⟩ := HG2.out
                exact ⟨k + 1, u, J, by omega, by go_num, fun j hj => by rw [p1 j hj, if_pos hj], p2, p3⟩
              case measure => simp [intOf]; omega
        · obtain rfl : k = 40 := by omega
          have hd : decide ((40 : Int) < 40) = false := rfl
          go_wp2_with fail
          go_loopw [8] (fun i wr => ∃ (q : Nat), q ≤ 6 ∧ i = .int .i64 q ∧ Grow base ga gm v n u J wr ∧ Below base w wr) (fun i _ => 6 - (intOf i).toNat)
          case atStart => exact ⟨0, by omega, rfl, HG1.out.2.1, HG1.out.2.2⟩
          case round =>
            obtain ⟨q, hq, rfl, hG, hB⟩ := hrel
            have HG4 : Hid (Grow base ga gm v n u J wr ∧ Below base w wr) := ⟨hG, hB⟩
            by_cases hq6 : q < 6
            · have hq6' : (q : Int) < 6 := by omega
              have hal := hG.all q hq6
              have hgl := hG.lt.1
              have hnq := HN.out q
              obtain ⟨vo, vc, hv⟩ : ∃ vo vc, v q = .slice vo (n q) vc := by
                rcases hG.form q hq6 with ⟨e, h0⟩ | ⟨g, cap, e, _⟩
                · exact ⟨none, 0, by rw [e, h0]⟩
                · exact ⟨_, _, e⟩
              have HV : Hid (v q = .slice vo (n q) vc) := hv
              rw [hv] at hal
              clear hG hB hv
              go_wp2_with fail
              go_loopw [10] (fun i wr => ∃ (k : Nat), k ≤ n q + 40 ∧ i = .int .i64 k ∧ Grow base ga gm v n u J wr ∧ Below base w wr) (fun i _ => n q + 40 - (intOf i).toNat)
              case atStart => exact ⟨0, by omega, rfl, HG4.out.1, HG4.out.2⟩
              case round =>
                obtain ⟨k, hk, rfl, hG, hB⟩ := hrel
                have HG5 : Hid (Grow base ga gm v n u J wr ∧ Below base w wr) := ⟨hG, hB⟩
                by_cases hkn : k < n q + 40
                · have hkn' : (k : Int) < ((n q : Nat) : Int) + 40 := by omega
                  have hJq : J q = 40 := HG1.out.1 q hq6
                  have ho := hG.own q hq6
                  rw [hJq] at ho
                  have hbw : base ≤ wr.heap.size := Nat.le_trans hb hB.size
                  have hmo := (hG.more q hq6).1
                  have hgm := hG.lt.2
                  have hgl' := hG.lt.1
                  have hal' := hG.all q hq6
                  rw [HV.out] at hal'
                  rcases ho.2 with ⟨e, h0⟩ | ⟨g, uc, cur, e, hbg, hg, h3, h4, h5, h6⟩
                  · omega
                  rw [e] at hmo ho
                  have hglt := (Array.getElem?_eq_some_iff.1 hg).1
                  have hkl : (k : Int) < ((n q + 40 : Nat) : Int) := by omega
                  by_cases hkq : k < n q
                  · have hkq' : (k : Int) < ((n q : Nat) : Int) := by omega
                    have hcl : ∀ j, j < 4 → wr.cell? ⟨g, k * 4 + j, none⟩ = (mk q k)[j]? := fun j hj => by
                      rw [ho.cellAt (k * 4 + j) (by omega), List.getElem?_append_left (by rw [mks_len]; omega)]
                      exact mks_at q (n q) k hkq j hj
                    obtain ⟨gv, hvo, hgv, hcv⟩ : ∃ gv, vo = some ⟨gv, 0, none⟩ ∧ gv < wr.heap.size ∧ ∀ j, j < 4 → wr.cell? ⟨gv, k * 4 + j, none⟩ = (mk q k)[j]? := by
                      rcases hG.form q hq6 with ⟨_, h0⟩ | ⟨gv, cv, ev, hgv⟩
                      · omega
                      · have e2 := HV.out
                        rw [ev] at e2
                        injection e2 with e3
                        refine ⟨gv, e3.symm, hgv, fun j hj => ?_⟩
                        rw [hG.marks q gv hq6 (by rw [ev]; rfl) (k * 4 + j) (by omega)]
                        exact mks_at q (n q) k hkq j hj
                    subst hvo
                    have hkq3 : ¬ n q ≤ k := by omega
                    have hw5 : IntKind.i64.wrap (500 + (q : Int)) = 500 + (q : Int) := by rw [IntKind.wrap_i64]; omega
                    have c0 : wr.cell? ⟨g, k * 4, none⟩ = some (.int .i64 (500 + (q : Int))) := hcl 0 (by omega)
                    have c1 : wr.cell? ⟨g, k * 4 + 1, none⟩ = some (.int .i64 0) := hcl 1 (by omega)
                    have c2 : wr.cell? ⟨g, k * 4 + 2, none⟩ = some (.int .i64 0) := hcl 2 (by omega)
                    have c3 : wr.cell? ⟨g, k * 4 + 3, none⟩ = some (.int .i64 (k : Int)) := hcl 3 (by omega)
                    have pst : ∀ b j, b < wr.heap.size → (wr.alloc (.cells #[.int .i64 (500 + (q : Int)), .int .i64 0, .int .i64 0, .int .i64 (k : Int)] 37)).cell? ⟨b, j, none⟩ = wr.cell? ⟨b, j, none⟩ := fun b j hb => World.cell?_alloc_past _ _ _ hb
                    have d0 := (pst gv (k * 4) hgv).trans (hcv 0 (by omega))
                    have d1 := (pst gv (k * 4 + 1) hgv).trans (hcv 1 (by omega))
                    have d2 := (pst gv (k * 4 + 2) hgv).trans (hcv 2 (by omega))
                    have d3 := (pst gv (k * 4 + 3) hgv).trans (hcv 3 (by omega))
                    have da := (pst ga q hgl').trans hal'
                    simp only [mk, List.getElem?_cons_zero, List.getElem?_cons_succ] at d0 d1 d2 d3
                    clear hG hB hal ho hcl hcv pst hg h5 h6 hal'
                    go_wp2_with fail
                    go_quiet (fail)
                    go_wp2_with fail
                    go_roundw
                    case rel =>
                      have b1 : Below wr.heap.size wr ((wr.alloc (.cells #[.int .i64 (500 + (q : Int)), .int .i64 0, .int .i64 0, .int .i64 (k : Int)] 37)).drewN nq) := ((Below.refl _ wr).alloc (Nat.le_refl _) _).trans ((below_drewN _ _).mono (by simp))
                      exact ⟨k + 1, by omega, by go_num, HG5.out.1.below b1, HG5.out.2.trans (b1.mono hbw)⟩
                    case measure => simp [intOf]; omega
                  · have hkq' : decide ((k : Int) < ((n q : Nat) : Int)) = false := by simp; omega
                    have hkq2 : ((n q : Nat) : Int) ≤ (k : Int) := by omega
                    have hcl : ∀ j, j < 4 → wr.cell? ⟨g, k * 4 + j, none⟩ = (ap q (k - n q))[j]? := fun j hj => by
                      rw [ho.cellAt (k * 4 + j) (by omega), List.getElem?_append_right (by rw [mks_len]; omega), mks_len, show k * 4 + j - n q * 4 = (k - n q) * 4 + j by omega]
                      exact aps_at q 40 (k - n q) (by omega) j hj
                    have c0 : wr.cell? ⟨g, k * 4, none⟩ = some (.int .i64 (-1 - (q : Int))) := hcl 0 (by omega)
                    have c1 : wr.cell? ⟨g, k * 4 + 1, none⟩ = some (.int .i64 0) := hcl 1 (by omega)
                    have c2 : wr.cell? ⟨g, k * 4 + 2, none⟩ = some (.int .i64 0) := hcl 2 (by omega)
                    have c3 : wr.cell? ⟨g, k * 4 + 3, none⟩ = some (.int .i64 ((k : Int) - ((n q : Nat) : Int))) := by
                      have := hcl 3 (by omega)
                      simp only [ap, List.getElem?_cons_zero, List.getElem?_cons_succ] at this
                      rw [this]
                      congr 2
                      omega
                    clear hG hB hal ho hcl hg h5 h6 hal'
                    go_wp2_with fail
                    go_quiet (fail)
                    go_wp2_with fail
                    go_roundw
                    case rel =>
                      have b1 : Below wr.heap.size wr ((wr.alloc (.cells #[.int .i64 (-1 - (q : Int)), .int .i64 0, .int .i64 0, .int .i64 ((k : Int) - ((n q : Nat) : Int))] 37)).drewN nq) := ((Below.refl _ wr).alloc (Nat.le_refl _) _).trans ((below_drewN _ _).mono (by simp))
                      exact ⟨k + 1, by omega, by go_num, HG5.out.1.below b1, HG5.out.2.trans (b1.mono hbw)⟩
                    case measure => simp [intOf]; omega
                · have hd : decide ((k : Int) < ((n q : Nat) : Int) + 40) = false := by simp; omega
                  clear hG hB hal
                  go_wp2_with fail
                  go_roundw
                  case rel => exact ⟨q + 1, by omega, by go_num, HG5.out.1, HG5.out.2⟩
                  case measure => simp [intOf]; omega
            · obtain rfl : q = 6 := by omega
              have hd : decide ((6 : Int) < 6) = false := rfl
              clear hG hB
              go_wp2
              go_ret
              exact ⟨rfl, HG4.out.2⟩
end Go.Proofs.Ytflcplnmeimbcab.Lx
