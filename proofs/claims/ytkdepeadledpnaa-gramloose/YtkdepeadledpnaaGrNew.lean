import Derived.Test.YtkdepeadledpnaaGrTree
namespace Go.Proofs.Ytkdepeadledpnaa.Gr
open Go.RowKit Go.Proofs.Ytkdepeadledpnaa.Sp Go.Proofs.Ytkdepeadledpnaa.Lx Go.Maps

theorem map_of_block {w w' : World} {b n : Nat} {D : DataW Value} (h : w.ownsMap Try.prog 9 R0 b n D) (hb : w'.heap[b]? = w.heap[b]?) : w'.ownsMap Try.prog 9 R0 b n D := by
  obtain ⟨es, clock, h1, h2⟩ := h
  exact ⟨es, clock, hb.trans h1, h2⟩
theorem map_lt {w : World} {b n : Nat} {D : DataW Value} (h : w.ownsMap Try.prog 9 R0 b n D) : b < w.heap.size := by
  obtain ⟨es, clock, h1, h2⟩ := h
  exact (Array.getElem?_eq_some_iff.1 h1).1
/-- the parser's block under way: its maps so far -/
structure Mk (w0 w : World) (g : Nat) (tx tk ce ca m0 m1 m2 m3 m4 m5 : Value) : Prop where
  blk : w.heap[g]? = some (.cells #[tx, tk, ce, ca, .int .i64 0, .int .i64 0, .slice none 0 0, .slice none 0 0, m0, m1, m2, m3, m4, m5] 49 (0, 0))
  bel : Below w0.heap.size w0 w
  le : w0.heap.size ≤ g
theorem Mk.below {w0 w w' : World} {g : Nat} {tx tk ce ca m0 m1 m2 m3 m4 m5 : Value} (h : Mk w0 w g tx tk ce ca m0 m1 m2 m3 m4 m5) (hb : Below w.heap.size w w') : Mk w0 w' g tx tk ce ca m0 m1 m2 m3 m4 m5 := by
  have hg := (Array.getElem?_eq_some_iff.1 h.blk).1
  exact ⟨(hb.block g hg).trans h.blk, h.bel.trans (hb.mono (Nat.le_trans h.le (Nat.le_of_lt hg))), h.le⟩
theorem Mk.cell {w0 w : World} {g : Nat} {tx tk ce ca m0 m1 m2 m3 m4 m5 : Value} (h : Mk w0 w g tx tk ce ca m0 m1 m2 m3 m4 m5) (i : Nat) : w.cell? ⟨g, i, none⟩ = (#[tx, tk, ce, ca, .int .i64 0, .int .i64 0, .slice none 0 0, .slice none 0 0, m0, m1, m2, m3, m4, m5] : Array Value)[i]? := by
  simp [World.cell?, h.blk]
theorem Mk.fro {w0 w : World} {g : Nat} {tx tk ce ca m0 m1 m2 m3 m4 m5 : Value} (h : Mk w0 w g tx tk ce ca m0 m1 m2 m3 m4 m5) (i : Nat) : w.frozen? ⟨g, i, none⟩ = false := by
  simp [World.frozen?, h.blk]
theorem Mk.set3 {w0 w : World} {g : Nat} {tx tk ce ca m0 m1 m2 m3 m4 m5 : Value} (h : Mk w0 w g tx tk ce ca m0 m1 m2 m3 m4 m5) (a b c : Value) : Mk w0 (((w.setCell ⟨g, 8, none⟩ a).setCell ⟨g, 9, none⟩ b).setCell ⟨g, 10, none⟩ c) g tx tk ce ca a b c m3 m4 m5 :=
  ⟨(set_blk (set_blk (set_blk h.blk))).trans rfl, ((h.bel.setCell (p := ⟨g, 8, none⟩) h.le a).setCell (p := ⟨g, 9, none⟩) h.le b).setCell (p := ⟨g, 10, none⟩) h.le c, h.le⟩
theorem Mk.set6 {w0 w : World} {g : Nat} {tx tk ce ca m0 m1 m2 m3 m4 m5 : Value} (h : Mk w0 w g tx tk ce ca m0 m1 m2 m3 m4 m5) (a b c : Value) : Mk w0 (((w.setCell ⟨g, 11, none⟩ a).setCell ⟨g, 12, none⟩ b).setCell ⟨g, 13, none⟩ c) g tx tk ce ca m0 m1 m2 a b c :=
  ⟨(set_blk (set_blk (set_blk h.blk))).trans rfl, ((h.bel.setCell (p := ⟨g, 11, none⟩) h.le a).setCell (p := ⟨g, 12, none⟩) h.le b).setCell (p := ⟨g, 13, none⟩) h.le c, h.le⟩
theorem oth3 (w : World) (g i j l k : Nat) (hk : k ≠ g) (a b c : Value) : (((w.setCell ⟨g, i, none⟩ a).setCell ⟨g, j, none⟩ b).setCell ⟨g, l, none⟩ c).heap[k]? = w.heap[k]? := by
  rw [Below.heap_setCell _ _ _ k hk, Below.heap_setCell _ _ _ k hk, Below.heap_setCell _ _ _ k hk]
theorem siz3 (w : World) (g i j l : Nat) (a b c : Value) : (((w.setCell ⟨g, i, none⟩ a).setCell ⟨g, j, none⟩ b).setCell ⟨g, l, none⟩ c).heap.size = w.heap.size := by simp [World.setCell]

set_option maxHeartbeats 3200000 in
set_option maxRecDepth 100000 in
theorem new_any (w : World) (ta : Option Addr) (tn tcap : Nat) (to : Option Addr) (kn toc : Nat) (ce ca : Nat) :
    Calls Try.prog 13 #[.slice ta tn tcap, .slice to kn toc, .agg #[.int .i64 ce, .int .i64 ca]] w fun e w' =>
      e = .returned (.pointer (some ⟨w.heap.size + 1, 0, none⟩)) ∧ ∃ m0 m1 m2 m3 m4 m5 : Nat,
        Mk w w' (w.heap.size + 1) (.slice ta tn tcap) (.slice to kn toc) (.int .i64 ce) (.int .i64 ca) (.map (some m0)) (.map (some m1)) (.map (some m2)) (.map (some m3)) (.map (some m4)) (.map (some m5)) ∧
        (w'.ownsMap Try.prog 9 R0 m0 5 (mkD (declTab (w.heap.size + 1))) ∧ m0 ≠ w.heap.size + 1) ∧ (w'.ownsMap Try.prog 9 R0 m1 1 (mkD (eventTab (w.heap.size + 1))) ∧ m1 ≠ w.heap.size + 1) ∧
        (w'.ownsMap Try.prog 9 R0 m2 13 (mkD (doingTab (w.heap.size + 1))) ∧ m2 ≠ w.heap.size + 1) ∧ (w'.ownsMap Try.prog 9 R0 m3 3 (mkD (itemTab (w.heap.size + 1))) ∧ m3 ≠ w.heap.size + 1) ∧
        (w'.ownsMap Try.prog 9 R0 m4 14 (mkD (bareTab (w.heap.size + 1))) ∧ m4 ≠ w.heap.size + 1) ∧ (w'.ownsMap Try.prog 9 R0 m5 12 (mkD signTab) ∧ m5 ≠ w.heap.size + 1) := by
  have HK1 : Hid (Mk w ((w.alloc (.cells #[.int .i64 ce, .int .i64 ca] 28)).alloc (.cells #[.slice ta tn tcap, .slice to kn toc, .int .i64 ce, .int .i64 ca, .int .i64 0, .int .i64 0, .slice none 0 0, .slice none 0 0, .map none, .map none, .map none, .map none, .map none, .map none] 49)) (w.heap.size + 1) (.slice ta tn tcap) (.slice to kn toc) (.int .i64 ce) (.int .i64 ca) (.map none) (.map none) (.map none) (.map none) (.map none) (.map none)) := by
    refine ⟨?_, ((Below.refl _ w).alloc (Nat.le_refl _) _).alloc (by simp) _, by omega⟩
    have := heap_alloc_new (w.alloc (.cells #[.int .i64 ce, .int .i64 ca] 28)) (.cells #[.slice ta tn tcap, .slice to kn toc, .int .i64 ce, .int .i64 ca, .int .i64 0, .int .i64 0, .slice none 0 0, .slice none 0 0, .map none, .map none, .map none, .map none, .map none, .map none] 49)
    simpa using this
  go_enter Try.func13, Try.ntmps13
  go_wp2_with fail
  generalize ((w.alloc (.cells #[.int .i64 ce, .int .i64 ca] 28)).alloc (.cells #[.slice ta tn tcap, .slice to kn toc, .int .i64 ce, .int .i64 ca, .int .i64 0, .int .i64 0, .slice none 0 0, .slice none 0 0, .map none, .map none, .map none, .map none, .map none, .map none] 49)) = w1 at *
  obtain ⟨g, hg⟩ : ∃ g, g = w.heap.size + 1 := ⟨_, rfl⟩
  rw [← hg] at HK1 ⊢
  have HG : Hid (g = w.heap.size + 1) := hg
  clear hg
  refine (declRules_any g w1).mono ?_
  rintro e w2 ⟨rfl, ho0, hb0⟩
  obtain ⟨m0, hm0⟩ : ∃ m, m = w1.heap.size := ⟨_, rfl⟩
  rw [← hm0] at ho0 ⊢
  have HN0 : Hid (m0 ≠ g) := by
    have h1 := (Array.getElem?_eq_some_iff.1 HK1.out.blk).1
    show m0 ≠ g
    omega
  have HO1 : Hid (w2.ownsMap Try.prog 9 R0 m0 5 (mkD (declTab g))) := ho0
  have HK2 : Hid (Mk w w2 g (.slice ta tn tcap) (.slice to kn toc) (.int .i64 ce) (.int .i64 ca) (.map none) (.map none) (.map none) (.map none) (.map none) (.map none)) := HK1.out.below hb0
  clear ho0 hb0 hm0 HK1
  go_wp2_with fail
  refine (eventRules_any g w2).mono ?_
  rintro e w3 ⟨rfl, ho1, hb1⟩
  obtain ⟨m1, hm1⟩ : ∃ m, m = w2.heap.size := ⟨_, rfl⟩
  rw [← hm1] at ho1 ⊢
  have HN1 : Hid (m1 ≠ g) := by
    have h1 := (Array.getElem?_eq_some_iff.1 HK2.out.blk).1
    show m1 ≠ g
    omega
  have HO2 : Hid (w3.ownsMap Try.prog 9 R0 m0 5 (mkD (declTab g)) ∧ w3.ownsMap Try.prog 9 R0 m1 1 (mkD (eventTab g))) := ⟨map_of_block HO1.out (hb1.block _ (map_lt HO1.out)), ho1⟩
  have HK3 : Hid (Mk w w3 g (.slice ta tn tcap) (.slice to kn toc) (.int .i64 ce) (.int .i64 ca) (.map none) (.map none) (.map none) (.map none) (.map none) (.map none)) := HK2.out.below hb1
  clear ho1 hb1 hm1 HK2 HO1
  go_wp2_with fail
  refine (doingRules_any g w3).mono ?_
  rintro e w4 ⟨rfl, ho2, hb2⟩
  obtain ⟨m2, hm2⟩ : ∃ m, m = w3.heap.size := ⟨_, rfl⟩
  rw [← hm2] at ho2 ⊢
  have HN2 : Hid (m2 ≠ g) := by
    have h1 := (Array.getElem?_eq_some_iff.1 HK3.out.blk).1
    show m2 ≠ g
    omega
  have HO3 : Hid (w4.ownsMap Try.prog 9 R0 m0 5 (mkD (declTab g)) ∧ w4.ownsMap Try.prog 9 R0 m1 1 (mkD (eventTab g)) ∧ w4.ownsMap Try.prog 9 R0 m2 13 (mkD (doingTab g))) := ⟨map_of_block HO2.out.1 (hb2.block _ (map_lt HO2.out.1)), map_of_block HO2.out.2 (hb2.block _ (map_lt HO2.out.2)), ho2⟩
  have HK4 : Hid (Mk w w4 g (.slice ta tn tcap) (.slice to kn toc) (.int .i64 ce) (.int .i64 ca) (.map none) (.map none) (.map none) (.map none) (.map none) (.map none)) := HK3.out.below hb2
  clear ho2 hb2 hm2 HK3 HO2
  have c8 := HK4.out.cell 8
  have f8 := HK4.out.fro 8
  have c9 := HK4.out.cell 9
  have f9 := HK4.out.fro 9
  have c10 := HK4.out.cell 10
  have f10 := HK4.out.fro 10
  simp only [List.getElem?_toArray, List.getElem?_cons_succ, List.getElem?_cons_zero] at c8 c9 c10
  have HKs2 : Hid (Mk w (((w4.setCell ⟨g, 8, none⟩ (.map (some m0))).setCell ⟨g, 9, none⟩ (.map (some m1))).setCell ⟨g, 10, none⟩ (.map (some m2))) g (.slice ta tn tcap) (.slice to kn toc) (.int .i64 ce) (.int .i64 ca) (.map (some m0)) (.map (some m1)) (.map (some m2)) (.map none) (.map none) (.map none)) := HK4.out.set3 _ _ _
  have HOs2 : Hid ((((w4.setCell ⟨g, 8, none⟩ (.map (some m0))).setCell ⟨g, 9, none⟩ (.map (some m1))).setCell ⟨g, 10, none⟩ (.map (some m2))).ownsMap Try.prog 9 R0 m0 5 (mkD (declTab g)) ∧ (((w4.setCell ⟨g, 8, none⟩ (.map (some m0))).setCell ⟨g, 9, none⟩ (.map (some m1))).setCell ⟨g, 10, none⟩ (.map (some m2))).ownsMap Try.prog 9 R0 m1 1 (mkD (eventTab g)) ∧ (((w4.setCell ⟨g, 8, none⟩ (.map (some m0))).setCell ⟨g, 9, none⟩ (.map (some m1))).setCell ⟨g, 10, none⟩ (.map (some m2))).ownsMap Try.prog 9 R0 m2 13 (mkD (doingTab g))) := ⟨map_of_block HO3.out.1 (oth3 _ g _ _ _ _ HN0.out _ _ _), map_of_block HO3.out.2.1 (oth3 _ g _ _ _ _ HN1.out _ _ _), map_of_block HO3.out.2.2 (oth3 _ g _ _ _ _ HN2.out _ _ _)⟩
  clear HK4 HO3
  go_wp2_with fail
  generalize (((w4.setCell ⟨g, 8, none⟩ (.map (some m0))).setCell ⟨g, 9, none⟩ (.map (some m1))).setCell ⟨g, 10, none⟩ (.map (some m2))) = wS at *
  clear c8 f8 c9 f9 c10 f10
  have HO3 := HOs2
  clear HOs2
  refine (itemRules_any g wS).mono ?_
  rintro e w5 ⟨rfl, ho3, hb3⟩
  obtain ⟨m3, hm3⟩ : ∃ m, m = wS.heap.size := ⟨_, rfl⟩
  rw [← hm3] at ho3 ⊢
  have HN3 : Hid (m3 ≠ g) := by
    have h1 := (Array.getElem?_eq_some_iff.1 HKs2.out.blk).1
    show m3 ≠ g
    omega
  have HO4 : Hid (w5.ownsMap Try.prog 9 R0 m0 5 (mkD (declTab g)) ∧ w5.ownsMap Try.prog 9 R0 m1 1 (mkD (eventTab g)) ∧ w5.ownsMap Try.prog 9 R0 m2 13 (mkD (doingTab g)) ∧ w5.ownsMap Try.prog 9 R0 m3 3 (mkD (itemTab g))) := ⟨map_of_block HO3.out.1 (hb3.block _ (map_lt HO3.out.1)), map_of_block HO3.out.2.1 (hb3.block _ (map_lt HO3.out.2.1)), map_of_block HO3.out.2.2 (hb3.block _ (map_lt HO3.out.2.2)), ho3⟩
  have HK5 : Hid (Mk w w5 g (.slice ta tn tcap) (.slice to kn toc) (.int .i64 ce) (.int .i64 ca) (.map (some m0)) (.map (some m1)) (.map (some m2)) (.map none) (.map none) (.map none)) := HKs2.out.below hb3
  clear ho3 hb3 hm3 HKs2 HO3
  go_wp2_with fail
  refine (bareRules_any g w5).mono ?_
  rintro e w6 ⟨rfl, ho4, hb4⟩
  obtain ⟨m4, hm4⟩ : ∃ m, m = w5.heap.size := ⟨_, rfl⟩
  rw [← hm4] at ho4 ⊢
  have HN4 : Hid (m4 ≠ g) := by
    have h1 := (Array.getElem?_eq_some_iff.1 HK5.out.blk).1
    show m4 ≠ g
    omega
  have HO5 : Hid (w6.ownsMap Try.prog 9 R0 m0 5 (mkD (declTab g)) ∧ w6.ownsMap Try.prog 9 R0 m1 1 (mkD (eventTab g)) ∧ w6.ownsMap Try.prog 9 R0 m2 13 (mkD (doingTab g)) ∧ w6.ownsMap Try.prog 9 R0 m3 3 (mkD (itemTab g)) ∧ w6.ownsMap Try.prog 9 R0 m4 14 (mkD (bareTab g))) := ⟨map_of_block HO4.out.1 (hb4.block _ (map_lt HO4.out.1)), map_of_block HO4.out.2.1 (hb4.block _ (map_lt HO4.out.2.1)), map_of_block HO4.out.2.2.1 (hb4.block _ (map_lt HO4.out.2.2.1)), map_of_block HO4.out.2.2.2 (hb4.block _ (map_lt HO4.out.2.2.2)), ho4⟩
  have HK6 : Hid (Mk w w6 g (.slice ta tn tcap) (.slice to kn toc) (.int .i64 ce) (.int .i64 ca) (.map (some m0)) (.map (some m1)) (.map (some m2)) (.map none) (.map none) (.map none)) := HK5.out.below hb4
  clear ho4 hb4 hm4 HK5 HO4
  go_wp2_with fail
  refine (signKinds_any w6).mono ?_
  rintro e w7 ⟨rfl, ho5, hb5⟩
  obtain ⟨m5, hm5⟩ : ∃ m, m = w6.heap.size := ⟨_, rfl⟩
  rw [← hm5] at ho5 ⊢
  have HN5 : Hid (m5 ≠ g) := by
    have h1 := (Array.getElem?_eq_some_iff.1 HK6.out.blk).1
    show m5 ≠ g
    omega
  have HO6 : Hid (w7.ownsMap Try.prog 9 R0 m0 5 (mkD (declTab g)) ∧ w7.ownsMap Try.prog 9 R0 m1 1 (mkD (eventTab g)) ∧ w7.ownsMap Try.prog 9 R0 m2 13 (mkD (doingTab g)) ∧ w7.ownsMap Try.prog 9 R0 m3 3 (mkD (itemTab g)) ∧ w7.ownsMap Try.prog 9 R0 m4 14 (mkD (bareTab g)) ∧ w7.ownsMap Try.prog 9 R0 m5 12 (mkD signTab)) := ⟨map_of_block HO5.out.1 (hb5.block _ (map_lt HO5.out.1)), map_of_block HO5.out.2.1 (hb5.block _ (map_lt HO5.out.2.1)), map_of_block HO5.out.2.2.1 (hb5.block _ (map_lt HO5.out.2.2.1)), map_of_block HO5.out.2.2.2.1 (hb5.block _ (map_lt HO5.out.2.2.2.1)), map_of_block HO5.out.2.2.2.2 (hb5.block _ (map_lt HO5.out.2.2.2.2)), ho5⟩
  have HK7 : Hid (Mk w w7 g (.slice ta tn tcap) (.slice to kn toc) (.int .i64 ce) (.int .i64 ca) (.map (some m0)) (.map (some m1)) (.map (some m2)) (.map none) (.map none) (.map none)) := HK6.out.below hb5
  clear ho5 hb5 hm5 HK6 HO5
  have c11 := HK7.out.cell 11
  have f11 := HK7.out.fro 11
  have c12 := HK7.out.cell 12
  have f12 := HK7.out.fro 12
  have c13 := HK7.out.cell 13
  have f13 := HK7.out.fro 13
  simp only [List.getElem?_toArray, List.getElem?_cons_succ, List.getElem?_cons_zero] at c11 c12 c13
  have HKs5 : Hid (Mk w (((w7.setCell ⟨g, 11, none⟩ (.map (some m3))).setCell ⟨g, 12, none⟩ (.map (some m4))).setCell ⟨g, 13, none⟩ (.map (some m5))) g (.slice ta tn tcap) (.slice to kn toc) (.int .i64 ce) (.int .i64 ca) (.map (some m0)) (.map (some m1)) (.map (some m2)) (.map (some m3)) (.map (some m4)) (.map (some m5))) := HK7.out.set6 _ _ _
  have HOs5 : Hid ((((w7.setCell ⟨g, 11, none⟩ (.map (some m3))).setCell ⟨g, 12, none⟩ (.map (some m4))).setCell ⟨g, 13, none⟩ (.map (some m5))).ownsMap Try.prog 9 R0 m0 5 (mkD (declTab g)) ∧ (((w7.setCell ⟨g, 11, none⟩ (.map (some m3))).setCell ⟨g, 12, none⟩ (.map (some m4))).setCell ⟨g, 13, none⟩ (.map (some m5))).ownsMap Try.prog 9 R0 m1 1 (mkD (eventTab g)) ∧ (((w7.setCell ⟨g, 11, none⟩ (.map (some m3))).setCell ⟨g, 12, none⟩ (.map (some m4))).setCell ⟨g, 13, none⟩ (.map (some m5))).ownsMap Try.prog 9 R0 m2 13 (mkD (doingTab g)) ∧ (((w7.setCell ⟨g, 11, none⟩ (.map (some m3))).setCell ⟨g, 12, none⟩ (.map (some m4))).setCell ⟨g, 13, none⟩ (.map (some m5))).ownsMap Try.prog 9 R0 m3 3 (mkD (itemTab g)) ∧ (((w7.setCell ⟨g, 11, none⟩ (.map (some m3))).setCell ⟨g, 12, none⟩ (.map (some m4))).setCell ⟨g, 13, none⟩ (.map (some m5))).ownsMap Try.prog 9 R0 m4 14 (mkD (bareTab g)) ∧ (((w7.setCell ⟨g, 11, none⟩ (.map (some m3))).setCell ⟨g, 12, none⟩ (.map (some m4))).setCell ⟨g, 13, none⟩ (.map (some m5))).ownsMap Try.prog 9 R0 m5 12 (mkD signTab)) := ⟨map_of_block HO6.out.1 (oth3 _ g _ _ _ _ HN0.out _ _ _), map_of_block HO6.out.2.1 (oth3 _ g _ _ _ _ HN1.out _ _ _), map_of_block HO6.out.2.2.1 (oth3 _ g _ _ _ _ HN2.out _ _ _), map_of_block HO6.out.2.2.2.1 (oth3 _ g _ _ _ _ HN3.out _ _ _), map_of_block HO6.out.2.2.2.2.1 (oth3 _ g _ _ _ _ HN4.out _ _ _), map_of_block HO6.out.2.2.2.2.2 (oth3 _ g _ _ _ _ HN5.out _ _ _)⟩
  clear HK7 HO6
  go_wp2_with fail
  go_ret
  obtain ⟨e0, e1, e2, e3, e4, e5⟩ := HOs5.out
  have hg := HG.out
  subst hg
  exact ⟨rfl, m0, m1, m2, m3, m4, m5, HKs5.out, ⟨e0, HN0.out⟩, ⟨e1, HN1.out⟩, ⟨e2, HN2.out⟩, ⟨e3, HN3.out⟩, ⟨e4, HN4.out⟩, ⟨e5, HN5.out⟩⟩
end Go.Proofs.Ytkdepeadledpnaa.Gr
