import Derived.Test.YtkekmmomdhdegaaIxRange
namespace Go.Proofs.Ytkekmmomdhdegaa.Ii
open Go.RowKit Go.Shelf Go.Proofs.Ytkekmmomdhdegaa.Ix

attribute [local go_sem] Oper.semAt_some
open BigFrame
/-- the last that came is not the index's -/
def Off (a : Ix El) (pre : List (Nat × El)) : Prop := ∃ y ∈ pre, a.get y.1 ≠ some y.2
theorem belowK_b' {w W : World} {n D : Nat} {ob ob' : Obj} (h : Below n w W) (hD : n ≤ D) (_hK : W.heap[D]? = some ob) : Below n w (W.putObj D ob') := h.trans ⟨rfl, rfl, rfl, (grownBy_putObj' W D ob').size, fun k hk => (grownBy_putObj' W D ob').block k (Nat.lt_of_lt_of_le hk (by have := (Array.getElem?_eq_some_iff.1 _hK).1; omega)) (fun e => by cases e; omega)⟩
set_option maxRecDepth 100000 in
set_option maxHeartbeats 6400000 in
theorem like_any {w : World} {g1 g2 : Nat} {o1 o2 : Lo} {a : Ix El} (h1 : IsIx w g1 o1 a) (h2 : IsIx w g2 o2 a) : Calls Try.prog 25 #[.pointer (some ⟨g1, 0, none⟩), .pointer (some ⟨g2, 0, none⟩)] w fun r w' => r = .returned (.bool true) ∧ Below w.heap.size w w' := by
  obtain ⟨z1, b1, n1⟩ := alloc_facts w #[.pointer (some ⟨g1, 0, none⟩)] 24
  generalize ew1 : w.alloc (.cells #[.pointer (some ⟨g1, 0, none⟩)] 24) = w1 at *
  obtain ⟨z2, b2, n2⟩ := alloc_facts w1 #[.pointer (some ⟨g2, 0, none⟩)] 24
  generalize ew2 : w1.alloc (.cells #[.pointer (some ⟨g2, 0, none⟩)] 24) = w2 at *
  obtain ⟨z3, b3, n3⟩ := alloc_facts w2 #[.bool false] 4
  generalize ew3 : w2.alloc (.cells #[.bool false] 4) = w3 at *
  have B3 : Below w.heap.size w w3 := b1.trans ((b2.mono (by omega)).trans (b3.mono (by omega)))
  have m1 : w3.heap[w.heap.size]? = some (.cells #[.pointer (some ⟨g1, 0, none⟩)] 24 (0, 0)) := (b3.block _ (by omega)).trans ((b2.block _ (by omega)).trans n1)
  have m2 : w3.heap[w1.heap.size]? = some (.cells #[.pointer (some ⟨g2, 0, none⟩)] 24 (0, 0)) := (b3.block _ (by omega)).trans n2
  have HW : Hid (w.alloc (.cells #[.pointer (some ⟨g1, 0, none⟩)] 24) = w1 ∧ w1.alloc (.cells #[.pointer (some ⟨g2, 0, none⟩)] 24) = w2 ∧ w2.alloc (.cells #[.bool false] 4) = w3 ∧ w1.heap.size = w.heap.size + 1 ∧ w2.heap.size = w.heap.size + 2 ∧ w3.heap.size = w.heap.size + 3) := ⟨ew1, ew2, ew3, z1, by omega, by omega⟩
  have H1 : Hid (IsIx w3 g1 o1 a) := h1.below B3
  have H2 : Hid (IsIx w3 g2 o2 a) := h2.below B3
  have HB3 : Hid (Below w.heap.size w w3) := B3
  rw [z1] at m2
  have H4 : Hid (w3.heap[w.heap.size + 1 + 1]? = some (.cells #[.bool false] 4 (0, 0))) := by
    show _ = _
    rw [show w.heap.size + 1 + 1 = w2.heap.size by omega]; exact n3
  have HM : Hid (w3.heap[w.heap.size]? = some (.cells #[.pointer (some ⟨g1, 0, none⟩)] 24 (0, 0)) ∧ w3.heap[w.heap.size + 1]? = some (.cells #[.pointer (some ⟨g2, 0, none⟩)] 24 (0, 0))) := ⟨m1, m2⟩
  clear h1 h2 b1 b2 b3 n1 n2 n3 B3 z1 z2 z3 m1 m2 ew1 ew2 ew3
  refine (callsIn_wide (n := 5)).1 ?_
  refine callsIn_of_wp_marks Try.func25 rfl trivial ?_ rfl
  simp only [Try.ntmps25, List.size_toArray, List.length_cons, List.length_nil, Nat.reduceAdd, Nat.reduceSub, Array.replicate_succ, Array.replicate_zero, List.push_toArray, List.append_toArray, List.nil_append, List.cons_append]
  gi_wp2
  rw [HW.out.1, HW.out.2.1, HW.out.2.2.1]
  obtain ⟨c1, _⟩ := box_cell HM.out.1
  obtain ⟨c2, _⟩ := box_cell HM.out.2
  have HL : Hid (∀ j p, (p = g1 ∨ p = g2) → Calls Try.prog 13 #[.pointer (some ⟨p, 0, none⟩)] (w3.drewN j) fun e w' => e = .returned (I a.count) ∧ w' = w3.drewN j) := fun j p hp => by
    rcases hp with rfl | rfl
    · exact len_any (H1.out.1.drewN j)
    · exact len_any (H2.out.1.drewN j)
  have HS : Hid (∀ j p, (p = g1 ∨ p = g2) → Calls Try.prog 10 #[.pointer (some ⟨p, 0, none⟩)] (w3.drewN j) fun e w' => e = .returned (I a.n) ∧ w' = w3.drewN j) := fun j p hp => by
    rcases hp with rfl | rfl
    · exact slots_any (H1.out.1.drewN j) H1.out.2.b rfl
    · exact slots_any (H2.out.1.drewN j) H2.out.2.b rfl
  have f13 : Fence.wide.fn 13 := trivial
  have f10 : Fence.wide.fn 10 := trivial
  gi_big_quiet_th (first
    | (gi_at_call 13; exact CallsIn.quiet_of_same (callsIn_wide.2 (HL.out _ _ (by first | exact Or.inl rfl | exact Or.inr rfl))))
    | (gi_at_call 10; exact CallsIn.quiet_of_same (callsIn_wide.2 (HS.out _ _ (by first | exact Or.inl rfl | exact Or.inr rfl)))))
  have hb4 : Below w3.heap.size w3 (w3.drewN nq) := bel_drewN w3 nq
  have HB4 : Hid (Below w.heap.size w (w3.drewN nq)) := HB3.out.trans (hb4.mono HB3.out.size)
  have H14 : Hid (IsIx (w3.drewN nq) g1 o1 a ∧ IsIx (w3.drewN nq) g2 o2 a) := ⟨H1.out.below hb4, H2.out.below hb4⟩
  have HM4 : Hid ((w3.drewN nq).heap[w.heap.size]? = some (.cells #[.pointer (some ⟨g1, 0, none⟩)] 24 (0, 0)) ∧ (w3.drewN nq).heap[w.heap.size + 1]? = some (.cells #[.pointer (some ⟨g2, 0, none⟩)] 24 (0, 0)) ∧ (w3.drewN nq).heap[w.heap.size + 1 + 1]? = some (.cells #[.bool false] 4 (0, 0)) ∧ (w3.drewN nq).heap.size = w.heap.size + 3) := by
    have hs := HW.out.2.2.2.2.2
    exact ⟨(hb4.block _ (by omega)).trans HM.out.1, (hb4.block _ (by omega)).trans HM.out.2, (hb4.block _ (by omega)).trans H4.out, hs⟩
  generalize w3.drewN nq = w4 at *
  clear hb4 H1 H2 HM H4 HL HS c1 c2 HB3
  obtain ⟨c1, _⟩ := box_cell HM4.out.1
  gi_wp2
  refine ⟨trivial, (callsIn_wide.2 (all_seq H14.out.1)).mono ?_⟩
  rintro r w5 ⟨q, l, rfl, hq, hA, hB5, hS⟩
  simp only [clo]
  have HQ : Hid (Sq w5 q l) := hq
  have HA : Hid (IsAll a l) := hA
  have HB5 : Hid (Below w4.heap.size w4 w5) := hB5
  clear hq hA hB5 hS
  gi_wp2
  refine rangeH rfl (by omega) (gf := 51) (lb := #[.pointer (some ⟨q.A, 0, none⟩)]) rfl trivial (enters_of Try.func51 (by kernel_rfl) rfl)
    (seq_stops Fence.wide 4 trivial rfl (by omega) q l w5 HQ.out) (Kq.refl _) Kq.trans (Kq.put (fun k hk => HQ.out.lt k hk)) (Below.refl _ _) (fun _ => rfl)
    (fun _ W => Below w5.heap.size w5 W) (fun (cc : Code) (pre : List (Nat × El)) (_ : World) => cc = Code.ret ∧ Off a pre)
    (ownFrom_below (Nat.le_refl _) (Nat.le_refl _)) (fun _ _ _ _ _ hs _ _ => hs) (Below.refl _ _) ?HA1 ?done ?stop
  case HA1 =>
    apply Exists.intro
    refine ⟨?assign, ?body⟩
    case assign =>
      intro l' x W K hK
      have HK := show Hid _ from hK
      clear hK
      gi_wp2
      exact HK.out
    case body =>
      rintro l' pre ⟨x1, x2⟩ W hl hr hI hlt
      have hW4 : Below w4.heap.size w4 W := HB5.out.trans (hI.mono HB5.out.size)
      obtain ⟨e1, e2, e3, e4⟩ := HM4.out
      obtain ⟨d1, _⟩ := box_cell ((hW4.block _ (by omega)).trans e1)
      obtain ⟨d2, _⟩ := box_cell ((hW4.block _ (by omega)).trans e2)
      obtain ⟨d3, d4⟩ := box_cell ((hW4.block _ (by omega)).trans e3)
      have HG := show Hid _ from get_any (H14.out.2.below hW4) x1
      have HS1 := show Hid _ from slot_any (H14.out.1.below hW4) x1
      have HS2 := show Hid _ from slot_any (H14.out.2.below hW4) x1
      have HI := show Hid _ from hI
      clear hI hW4 e1 e2 e3 e4 hr hl c1
      by_cases hx : a.get x1 = some x2
      · rw [hx] at HG HS1 HS2
        simp only [Option.map_some, Option.getD_some, Option.isSome_some, if_true] at HG HS1 HS2
        have hx' : ((x2 : Int) != x2) = false := by simp
        clear hx
        generalize a.find x1 = fx at *
        gi_wp2
        refine ⟨trivial, (CallsIn.inRound l' (callsIn_wide.2 HG.out)).mono ?_⟩
        rintro r W1 ⟨rfl, rfl⟩
        gi_wp2
        refine ⟨trivial, (CallsIn.inRound l' (callsIn_wide.2 HS1.out)).mono ?_⟩
        rintro r W1 ⟨rfl, rfl⟩
        gi_wp2
        refine ⟨trivial, (CallsIn.inRound l' (callsIn_wide.2 HS2.out)).mono ?_⟩
        rintro r W1 ⟨rfl, rfl⟩
        gi_wp2
        exact ⟨KeepsFrom.refl _ _, Kq.refl _ _, HI.out⟩
      · have HOff : Hid (Off a (pre ++ [(x1, x2)])) := ⟨(x1, x2), by simp, hx⟩
        cases hg : a.get x1 with
        | none =>
          rw [hg] at HG HS1 HS2
          simp only [Option.map_none, Option.getD_none, Option.isSome_none, Bool.false_eq_true, if_false] at HG HS1 HS2
          clear hx hg
          gi_wp2
          refine ⟨trivial, (CallsIn.inRound l' (callsIn_wide.2 HG.out)).mono ?_⟩
          rintro r W1 ⟨rfl, rfl⟩
          gi_wp2
          refine ⟨trivial, (CallsIn.inRound l' (callsIn_wide.2 HS1.out)).mono ?_⟩
          rintro r W1 ⟨rfl, rfl⟩
          gi_wp2
          refine ⟨trivial, (CallsIn.inRound l' (callsIn_wide.2 HS2.out)).mono ?_⟩
          rintro r W1 ⟨rfl, rfl⟩
          gi_wp2
          exact ⟨(KeepsOthers.setCell _ _ _).from _, rfl, HOff.out⟩
        | some v =>
          rw [hg] at HG HS1 HS2 hx
          simp only [Option.map_some, Option.getD_some, Option.isSome_some, if_true] at HG HS1 HS2
          have hne : x2 ≠ v := fun e => hx (by rw [e])
          have hx' : ((x2 : Int) != v) = true := by simpa using hne
          clear hx hg hne
          generalize a.find x1 = fx at *
          gi_wp2
          refine ⟨trivial, (CallsIn.inRound l' (callsIn_wide.2 HG.out)).mono ?_⟩
          rintro r W1 ⟨rfl, rfl⟩
          gi_wp2
          refine ⟨trivial, (CallsIn.inRound l' (callsIn_wide.2 HS1.out)).mono ?_⟩
          rintro r W1 ⟨rfl, rfl⟩
          gi_wp2
          refine ⟨trivial, (CallsIn.inRound l' (callsIn_wide.2 HS2.out)).mono ?_⟩
          rintro r W1 ⟨rfl, rfl⟩
          gi_wp2
          exact ⟨(KeepsOthers.setCell _ _ _).from _, rfl, HOff.out⟩
  case stop =>
    rintro D cc pre W hD ⟨k, hk, rfl⟩ ⟨rfl, y, hy, hne⟩ hK
    exact absurd ((all_get H14.out.1.2 HA.out).1 (List.mem_of_mem_take hy)) hne
  case done =>
    rintro D xs W hD rfl hI hK
    have hW4 : Below w4.heap.size w4 W := HB5.out.trans (hI.mono HB5.out.size)
    obtain ⟨e1, e2, e3, e4⟩ := HM4.out
    obtain ⟨d3, d4⟩ := box_cell ((hW4.block _ (by omega)).trans e3)
    have HWw : Hid (Below w.heap.size w W) := HB4.out.trans (hW4.mono HB4.out.size)
    have HDs : Hid (W.heap[D]? = some (.deferred (some [])) ∧ W.cell? ⟨w.heap.size + 1 + 1, 0, none⟩ = some (.bool false) ∧ w.heap.size ≤ D) := ⟨hK, d3, by have := HB4.out.size; have := HB5.out.size; omega⟩
    clear hI hW4 e1 e2 e3 e4 hK c1
    gi_wp2
    have hA3 := (KeepsOthers.setCell W ⟨w.heap.size + 1 + 1, 0, none⟩ (.bool true)).same D _ HDs.out.1 rfl
    refine ⟨by simp, .inl ⟨_, _, rfl, run_takeDeferred hA3, ?_⟩⟩
    have hc3 := cell_kept (World.cell?_setCell_same' W ⟨w.heap.size + 1 + 1, 0, none⟩ (.bool true) (by rw [HDs.out.2.1]; rfl)) (grownBy_putObj' _ D (.deferred none)) (fun r e => by cases e; exact ⟨_, hA3, rfl⟩)
    refine ⟨.bool true, ?_, rfl, belowK_b' (HWw.out.setCell (p := ⟨w.heap.size + 1 + 1, 0, none⟩) (by simp; omega) _) HDs.out.2.2 hA3⟩
    simp [results, Try.f25, go_sem, hc3]
end Go.Proofs.Ytkekmmomdhdegaa.Ii
