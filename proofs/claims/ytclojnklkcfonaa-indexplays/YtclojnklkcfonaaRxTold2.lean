import Derived.Test.YtclojnklkcfonaaRxTold
namespace Go.Proofs.Ytclojnklkcfonaa.Rx
open Go.RowKit Go.Proofs.Ytclojnklkcfonaa.Ix Go.Proofs.Ytclojnklkcfonaa.Ii

set_option maxHeartbeats 3200000 in
set_option maxRecDepth 100000 in
theorem told_get {n0 : Nat} {w W : World} {g : Nat} {q : Ro} {a : Ix Int} (h : Jn n0 w W g q a) (n : Int) (key : Nat): Calls Try.prog 15 #[.pointer (some ⟨g, 0, none⟩), .pointer (some ⟨q.r, 0, none⟩), .agg #[I 2, I n, U key]] W fun r W' => r = .returned (.bool true) ∧ Jn n0 w W' g q a := by
  obtain ⟨_, b1, n1⟩ := alloc_facts W #[I 2, I n, U key] 38
  have c0 : (W.alloc (.cells #[I 2, I n, U key] 38)).cell? ⟨W.heap.size, 0, none⟩ = some (I 2) := by simp only [World.cell?, n1]; rfl
  have c2 : (W.alloc (.cells #[I 2, I n, U key] 38)).cell? ⟨W.heap.size, 2, none⟩ = some (U key) := by simp only [World.cell?, n1]; rfl
  have HJ : Hid (Jg n0 w (W.alloc (.cells #[I 2, I n, U key] 38)) g q a a) := Jg.below h b1
  have HOk : Hid (Ok a ∧ W.heap.size ∉ q.foot) := ⟨Jg.ok h, fun hm => by obtain ⟨_, _, hR, _⟩ := h; have := hR.lt _ hm; omega⟩
  obtain ⟨o, ho, _⟩ := HJ.out.turn
  have HG := show Hid _ from get_any ho key
  have HR := show Hid _ from rget_any HJ.out.rturn.1 HOk.out.1 key
  clear n1 b1 h ho
  cases hg : a.get key with
  | none =>
    rw [hg] at HG HR
    simp only [Option.map_none, Option.getD_none, Option.isSome_none] at HG HR
    clear hg
    go_enter Try.func15, Try.ntmps15
    go_wp2_with fail
    refine Calls.mono HG.out ?_
    rintro e w2 ⟨rfl, rfl⟩
    go_wp2_with fail
    refine Calls.mono HR.out ?_
    rintro e w2 ⟨rfl, rfl⟩
    go_wp2
    go_ret
    exact ⟨rfl, HJ.out⟩
  | some v =>
    rw [hg] at HG HR
    simp only [Option.map_some, Option.getD_some, Option.isSome_some] at HG HR
    clear hg
    go_enter Try.func15, Try.ntmps15
    go_wp2_with fail
    refine Calls.mono HG.out ?_
    rintro e w2 ⟨rfl, rfl⟩
    go_wp2_with fail
    refine Calls.mono HR.out ?_
    rintro e w2 ⟨rfl, rfl⟩
    go_wp2
    go_ret
    exact ⟨rfl, HJ.out⟩
set_option maxHeartbeats 3200000 in
set_option maxRecDepth 100000 in
theorem told_slot {n0 : Nat} {w W : World} {g : Nat} {q : Ro} {a : Ix Int} (h : Jn n0 w W g q a) (n : Int) (key : Nat): Calls Try.prog 15 #[.pointer (some ⟨g, 0, none⟩), .pointer (some ⟨q.r, 0, none⟩), .agg #[I 4, I n, U key]] W fun r W' => r = .returned (.bool true) ∧ Jn n0 w W' g q a := by
  obtain ⟨_, b1, n1⟩ := alloc_facts W #[I 4, I n, U key] 38
  have c0 : (W.alloc (.cells #[I 4, I n, U key] 38)).cell? ⟨W.heap.size, 0, none⟩ = some (I 4) := by simp only [World.cell?, n1]; rfl
  have c2 : (W.alloc (.cells #[I 4, I n, U key] 38)).cell? ⟨W.heap.size, 2, none⟩ = some (U key) := by simp only [World.cell?, n1]; rfl
  have HJ : Hid (Jg n0 w (W.alloc (.cells #[I 4, I n, U key] 38)) g q a a) := Jg.below h b1
  have HOk : Hid (Ok a ∧ W.heap.size ∉ q.foot) := ⟨Jg.ok h, fun hm => by obtain ⟨_, _, hR, _⟩ := h; have := hR.lt _ hm; omega⟩
  obtain ⟨o, ho, _⟩ := HJ.out.turn
  have HG := show Hid _ from slot_any ho key
  have HR := show Hid _ from rslot_any HJ.out.rturn.1 HOk.out.1 key
  have hb22 := HOk.out.1.b
  have HH : Hid (∀ j, Calls Try.prog 11 #[.pointer (some ⟨g, 0, none⟩), U key] ((W.alloc (.cells #[I 4, I n, U key] 38)).drewN j) fun e w' => e = .returned (I (hm a.b key : Nat)) ∧ w' = (W.alloc (.cells #[I 4, I n, U key] 38)).drewN j) := fun j => home_any (ho.1.drewN j) hb22 key
  have HRH : Hid (∀ j, Calls Try.prog 12 #[.pointer (some ⟨q.r, 0, none⟩), U key] ((W.alloc (.cells #[I 4, I n, U key] 38)).drewN j) fun e w' => e = .returned (I (hm a.b key : Nat)) ∧ w' = (W.alloc (.cells #[I 4, I n, U key] 38)).drewN j) := fun j => rhome_any (HJ.out.rturn.1.below (bel_drewN (W.alloc (.cells #[I 4, I n, U key] 38)) j)) hb22 key
  clear n1 b1 h ho hb22
  generalize hm a.b key = hk at *
  generalize ((if (a.get key).isSome then a.find key else 0 : Nat)) = sl at *
  generalize (a.get key).isSome = bs at *
  go_enter Try.func15, Try.ntmps15
  go_wp2_with fail
  refine Calls.mono HG.out ?_
  rintro e w2 ⟨rfl, rfl⟩
  go_wp2_with fail
  refine Calls.mono HR.out ?_
  rintro e w2 ⟨rfl, rfl⟩
  go_wp2_with fail
  go_quiet (first
      | (go_at_call 11; exact Calls.quiet_of_same (HH.out _))
      | (go_at_call 12; exact Calls.quiet_of_same (HRH.out _)))
  go_wp2
  go_ret
  exact ⟨rfl, HJ.out.below (bel_drewN _ _)⟩
set_option maxHeartbeats 3200000 in
set_option maxRecDepth 100000 in
theorem told_all {n0 : Nat} {w W : World} {g : Nat} {q : Ro} {a : Ix Int} (h : Jn n0 w W g q a) (n : Int) (key : Nat) : Calls Try.prog 15 #[.pointer (some ⟨g, 0, none⟩), .pointer (some ⟨q.r, 0, none⟩), .agg #[I 5, I n, U key]] W fun r W' => r = .returned (.bool true) ∧ Jn n0 w W' g q a := by
  obtain ⟨_, b1, n1⟩ := alloc_facts W #[I 5, I n, U key] 38
  have c0 : (W.alloc (.cells #[I 5, I n, U key] 38)).cell? ⟨W.heap.size, 0, none⟩ = some (I 5) := by simp only [World.cell?, n1]; rfl
  have HJ : Hid (Jg n0 w (W.alloc (.cells #[I 5, I n, U key] 38)) g q a a) := Jg.below h b1
  obtain ⟨o, ho, _⟩ := HJ.out.turn
  have HS := show Hid _ from same_any ho HJ.out.rturn.1
  clear n1 b1 h ho
  go_enter Try.func15, Try.ntmps15
  go_wp2_with fail
  refine Calls.mono HS.out ?_
  rintro e w2 ⟨rfl, hb⟩
  have HF : Hid (Jg n0 w w2 g q a a) := HJ.out.below hb
  clear hb
  go_wp2
  go_ret
  exact ⟨rfl, HF.out⟩
set_option maxHeartbeats 3200000 in
set_option maxRecDepth 100000 in
theorem told_rest {n0 : Nat} {w W : World} {g : Nat} {q : Ro} {a : Ix Int} (h : Jn n0 w W g q a) (n : Int) (key : Nat) {k : Int} (h1 : k ≠ 1) (h2 : k ≠ 2) (h3 : k ≠ 3) (h4 : k ≠ 4) (h5 : k ≠ 5) : Calls Try.prog 15 #[.pointer (some ⟨g, 0, none⟩), .pointer (some ⟨q.r, 0, none⟩), .agg #[I k, I n, U key]] W fun r W' => r = .returned (.bool true) ∧ Jn n0 w W' g q a := by
  obtain ⟨_, b1, n1⟩ := alloc_facts W #[I k, I n, U key] 38
  have c0 : (W.alloc (.cells #[I k, I n, U key] 38)).cell? ⟨W.heap.size, 0, none⟩ = some (I k) := by simp only [World.cell?, n1]; rfl
  have HJ : Hid (Jg n0 w (W.alloc (.cells #[I k, I n, U key] 38)) g q a a) := Jg.below h b1
  have k1 : (k == 1) = false := by simp [h1]
  have k2 : (k == 2) = false := by simp [h2]
  have k3 : (k == 3) = false := by simp [h3]
  have k4 : (k == 4) = false := by simp [h4]
  have k5 : (k == 5) = false := by simp [h5]
  clear n1 b1 h h1 h2 h3 h4 h5
  go_enter Try.func15, Try.ntmps15
  go_wp2
  go_ret
  exact ⟨rfl, HJ.out⟩
set_option maxHeartbeats 3200000 in
set_option maxRecDepth 100000 in
theorem told_drop {n0 : Nat} {w W : World} {g : Nat} {q : Ro} {a : Ix Int} (h : Jn n0 w W g q a) (n : Int) (key : Nat) : Calls Try.prog 15 #[.pointer (some ⟨g, 0, none⟩), .pointer (some ⟨q.r, 0, none⟩), .agg #[I 3, I n, U key]] W fun r W' => r = .returned (.bool true) ∧ Jn n0 w W' g q (a.drop key) := by
  obtain ⟨_, b1, n1⟩ := alloc_facts W #[I 3, I n, U key] 38
  have c0 : (W.alloc (.cells #[I 3, I n, U key] 38)).cell? ⟨W.heap.size, 0, none⟩ = some (I 3) := by simp only [World.cell?, n1]; rfl
  have c2 : (W.alloc (.cells #[I 3, I n, U key] 38)).cell? ⟨W.heap.size, 2, none⟩ = some (U key) := by simp only [World.cell?, n1]; rfl
  have HJ : Hid (Jg n0 w (W.alloc (.cells #[I 3, I n, U key] 38)) g q a a) := Jg.below h b1
  have HOk : Hid (Ok a ∧ W.heap.size ∉ q.foot ∧ (W.alloc (.cells #[I 3, I n, U key] 38)).heap[W.heap.size]? = some (.cells #[I 3, I n, U key] 38 (0, 0))) := ⟨Jg.ok h, fun hm => by obtain ⟨_, _, hR, _⟩ := h; have := hR.lt _ hm; omega, n1⟩
  obtain ⟨o, ho, hno, hgo⟩ := Jg.turnB h b1
  have HD := show Hid _ from drop_any ho key
  have HGo := show Hid _ from hgo
  have HD2 : Hid (∀ W2 : World, Hid (Jg n0 w W2 g q (a.drop key) a) → Calls Try.prog 36 #[.pointer (some ⟨q.r, 0, none⟩), U key] W2 fun e w' => e = .returned (.tuple #[((a.get key).map ev).getD zv, .bool (a.get key).isSome]) ∧ Hid (Jg n0 w w' g q (a.drop key) (a.drop key))) := fun W2 hJ => by
    obtain ⟨hR, hn⟩ := hJ.out.rturn
    refine (rdrop_any hR HOk.out.1 key).mono ?_
    rintro r W' ⟨rfl, k1, k2⟩
    exact ⟨rfl, hn _ _ k1 k2⟩
  have HL : Hid (∀ W3 j, Hid (Jg n0 w W3 g q (a.drop key) (a.drop key)) → Calls Try.prog 13 #[.pointer (some ⟨g, 0, none⟩)] (W3.drewN j) fun r W' => r = .returned (I (a.drop key).count) ∧ W' = W3.drewN j) := fun W3 j hJ => by
    obtain ⟨o, ho, _⟩ := hJ.out.turn
    exact len_any (ho.1.drewN j)
  have HC : Hid (∀ W3, Hid (Jg n0 w W3 g q (a.drop key) (a.drop key)) → W3.cell? ⟨q.r, 5, none⟩ = some (I (a.drop key).count)) := fun W3 hJ => hJ.out.rturn.1.cellsR.2.2.2.2.2.1
  have HX : Hid (∀ W' : World, Goes (W.alloc (.cells #[I 3, I n, U key] 38)) g o (a.drop key) W' → W'.cell? ⟨W.heap.size, 2, none⟩ = some (U key)) := fun W' hG => by
    obtain ⟨o', _, k2, _⟩ := hG
    have hk := k2.block _ (Array.getElem?_eq_some_iff.1 HOk.out.2.2).1 (fun hm => by have := hno _ hm; omega)
    rw [HOk.out.2.2] at hk
    simp [World.cell?, hk]
  clear n1 b1 ho hgo hno h
  obtain ⟨x, hx⟩ : ∃ x : Int, ((a.get key).map ev).getD zv = I x := by cases a.get key <;> exact ⟨_, rfl⟩
  rw [hx] at HD HD2
  clear hx
  generalize (a.get key).isSome = bs at *
  generalize a.drop key = ad at *
  go_enter Try.func15, Try.ntmps15
  go_wp2_with fail
  refine Calls.mono HD.out ?_
  rintro e w2 ⟨rfl, hG⟩
  have HJ2 : Hid (Jg n0 w w2 g q ad a) := HGo.out _ _ hG
  have d2 := HX.out _ hG
  have HR2 := show Hid _ from HD2.out _ HJ2
  clear hG
  go_wp2_with fail
  refine Calls.mono HR2.out ?_
  rintro e w3 ⟨rfl, hJ3⟩
  have d5 := HC.out _ hJ3
  go_wp2_with fail
  go_quiet ((go_at_call 13; exact Calls.quiet_of_same (HL.out _ _ hJ3)))
  go_wp2
  go_ret
  exact ⟨rfl, hJ3.out.below (bel_drewN _ _)⟩
end Go.Proofs.Ytclojnklkcfonaa.Rx
