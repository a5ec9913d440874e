import Derived.Test.YtaklllceomfdfaaGreatMdHead
namespace Go.Proofs.YtaklllceomfdfaaGreat.Md
open Go.RowKit Go.Maps Go.Proofs.YtaklllceomfdfaaGreat.Nm

/-- is there a cache of a kind and a size? -/
def okS (k n : Int) : Prop := (0 ≤ k ∧ k < 6) ∧ lst k ≤ n ∧ n ≤ 1048576
instance (k n : Int) : Decidable (okS k n) := by unfold okS; infer_instance
theorem okS.pos {k n : Int} (h : okS k n) : 1 ≤ n ∧ n ≤ 1048576 := by
  obtain ⟨_, h1, h2⟩ := h
  unfold lst at h1
  split at h1
  · omega
  · split at h1 <;> omega
/-- the queues' capacities -/
def capL (k n : Int) : List Int := if k = 3 then [n, max 1 (n / 2), n] else if k = 4 then [n, n - n / 10, n - n / 10] else if k = 5 then [n, n, n, n] else [n]
def iC (l : List Int) : List Value := l.map (fun x => I x)
/-- ints that can be read -/
def IRd (w : World) (v : Value) (l : List Int) : Prop := ∃ b c, v = .slice b l.length c ∧ ∀ (j : Nat) (x : Int), l[j]? = some x → ∃ g, b = some ⟨g, 0, none⟩ ∧ g < w.heap.size ∧ w.cell? ⟨g, j, none⟩ = some (I x)
theorem IRd.below {w w' : World} {v : Value} {l : List Int} (h : IRd w v l) (hb : Below w.heap.size w w') : IRd w' v l := by
  obtain ⟨b, c, rfl, h2⟩ := h
  refine ⟨b, c, rfl, fun j x hx => ?_⟩
  obtain ⟨g, h3, h4, h5⟩ := h2 j x hx
  exact ⟨g, h3, Nat.lt_of_lt_of_le h4 hb.size, (cell_blk (hb.block g h4) j).trans h5⟩
theorem IRd.lit (w : World) (l : List Int) (T : TypeId) : IRd (w.alloc (.cells (iC l).toArray T)) (.slice (some ⟨w.heap.size, 0, none⟩) l.length l.length) l := by
  refine ⟨_, _, rfl, fun j x hx => ⟨w.heap.size, rfl, by simp, ?_⟩⟩
  unfold World.cell?
  rw [heap_alloc_new]
  simp [iC, hx]
theorem IRd.nil (w : World) : IRd w (.slice none 0 0) [] := ⟨none, 0, rfl, fun j x hx => by simp at hx⟩
set_option maxHeartbeats 800000 in
set_option maxRecDepth 100000 in
theorem sameI_eq {w : World} {u v : Value} {l : List Int} (hu : IRd w u l) (hv : IRd w v l) (hl : l.length ≤ 1000000000) : Calls Tryz.prog 10 #[u, v] w fun e w' => e = .returned (.bool true) ∧ Below w.heap.size w w' := by
  have H : Hid (IRd w u l ∧ IRd w v l ∧ l.length ≤ 1000000000) := ⟨hu, hv, hl⟩
  obtain ⟨b, c, rfl, _⟩ := hu
  obtain ⟨b2, c2, rfl, _⟩ := hv
  clear hl
  have hll : ((l.length : Int) != (l.length : Int)) = false := by simp
  go_enter Tryz.func10, Tryz.ntmps10
  go_wp2_with fail
  go_loopg [5] l.length (fun gq x wr => ∃ j : Nat, j ≤ l.length ∧ gq = l.length - j ∧ x = I j ∧ Below w.heap.size w wr)
  case atStart => exact ⟨0, Nat.zero_le _, rfl, rfl, Below.refl _ _⟩
  case round =>
    obtain ⟨j, hj, hgk, rfl, hb⟩ := hrel
    by_cases hlt : j < l.length
    · have hlt' : (j : Int) < (l.length : Int) := by omega
      have hlm : (l.length : Int) ≤ 1000000000 := by have := H.out.2.2; omega
      have hx : l[j]? = some l[j] := List.getElem?_eq_getElem hlt
      obtain ⟨b', c', e1, h1⟩ := H.out.1.below hb
      obtain ⟨b2', c2', e2, h2⟩ := H.out.2.1.below hb
      cases e1
      cases e2
      obtain ⟨g1, rfl, _, i1⟩ := h1 j _ hx
      obtain ⟨g2, rfl, _, i2⟩ := h2 j _ hx
      have hne : (l[j] != l[j]) = false := by simp
      generalize l[j] = y at *
      have HB : Hid (Below w.heap.size w wr ∧ j < l.length ∧ gk = l.length - j) := ⟨hb, hlt, hgk⟩
      clear h1 h2 hb hlt hgk hx
      go_wp2_with fail
      go_quiet (fail)
      go_wp2_with fail
      go_roundg (l.length - (j + 1))
      case measure => have h1 := HB.out.2.1; have := HB.out.2.2; omega
      case rel => exact ⟨j + 1, HB.out.2.1, rfl, by go_num, HB.out.1.trans ((Go.Proofs.YtaklllceomfdfaaGreat.Nm.below_drewN wr _).mono HB.out.1.size)⟩
    · obtain rfl : j = l.length := by omega
      have HB : Hid (Below w.heap.size w wr) := hb
      clear hb hlt hgk hj
      go_wp2
      go_ret
      exact ⟨rfl, HB.out⟩
set_option maxRecDepth 100000 in
theorem outMost_any (w : World) (n : Int) (h : 1 ≤ n) (h2 : n ≤ 1048576) : Calls Tryz.prog 19 #[I n] w fun e w' => e = .returned (I (max 1 (n / 2))) ∧ w' = w := by
  go_enter Tryz.func19, Tryz.ntmps19
  go_wp2
  · go_ret
    rename_i h3
    exact ⟨by rw [Int.max_eq_right (by omega)]; rfl, rfl⟩
  · go_ret
    rename_i h3
    exact ⟨by rw [Int.max_eq_left (by omega)]; rfl, rfl⟩
set_option maxRecDepth 100000 in
theorem mainMost_any (w : World) (n : Int) (h : 1 ≤ n) (h2 : n ≤ 1048576) : Calls Tryz.prog 20 #[I n] w fun e w' => e = .returned (I (n - n / 10)) ∧ w' = w := by
  go_enter Tryz.func20, Tryz.ntmps20
  go_wp2
  go_ret
  exact ⟨rfl, rfl⟩
set_option maxHeartbeats 800000 in
set_option maxRecDepth 100000 in
theorem queueCaps_any (w : World) (k n : Int) (h : 1 ≤ n) (h2 : n ≤ 1048576) : Calls Tryz.prog 14 #[I k, I n] w fun e w' => ∃ b, e = .returned (.slice (some ⟨b, 0, none⟩) (capL k n).length (capL k n).length) ∧ w'.heap[b]? = some (.cells (iC (capL k n)).toArray 3 (0, 0)) ∧ w.heap.size ≤ b ∧ Below w.heap.size w w' := by
  have HN : Hid (1 ≤ n ∧ n ≤ 1048576) := ⟨h, h2⟩
  by_cases h3 : k = 3
  · subst h3
    clear h h2
    go_enter Tryz.func14, Tryz.ntmps14
    go_wp2_with (go_at_call 19; refine (outMost_any _ n HN.out.1 HN.out.2).mono ?_; rintro _ w ⟨rfl, rfl⟩)
    go_ret
    exact ⟨w.heap.size, rfl, heap_alloc_new w _, Nat.le_refl _, (Below.refl _ w).alloc (Nat.le_refl _) _⟩
  · by_cases h4 : k = 4
    · subst h4
      clear h h2
      go_enter Tryz.func14, Tryz.ntmps14
      go_wp2_with (go_at_call 20; refine (mainMost_any _ n HN.out.1 HN.out.2).mono ?_; rintro _ w ⟨rfl, rfl⟩)
      go_ret
      exact ⟨w.heap.size, rfl, heap_alloc_new w _, Nat.le_refl _, (Below.refl _ w).alloc (Nat.le_refl _) _⟩
    · by_cases h5 : k = 5
      · subst h5
        clear h h2
        go_enter Tryz.func14, Tryz.ntmps14
        go_wp2
        go_ret
        exact ⟨w.heap.size, rfl, heap_alloc_new w _, Nat.le_refl _, (Below.refl _ w).alloc (Nat.le_refl _) _⟩
      · have e : capL k n = [n] := by unfold capL; rw [if_neg h3, if_neg h4, if_neg h5]
        rw [e]
        clear h h2
        go_enter Tryz.func14, Tryz.ntmps14
        go_wp2
        go_ret
        exact ⟨w.heap.size, rfl, heap_alloc_new w _, Nat.le_refl _, (Below.refl _ w).alloc (Nat.le_refl _) _⟩
theorem IRd.blk {w : World} {b c : Nat} {l : List Int} {T : TypeId} (h : w.heap[b]? = some (.cells (iC l).toArray T (0, 0))) : IRd w (.slice (some ⟨b, 0, none⟩) l.length c) l :=
  ⟨_, _, rfl, fun j x hx => ⟨b, rfl, blk_lt h, by simp [World.cell?, h, iC, hx]⟩⟩
theorem bel_set {B g i : Nat} {w w2 : World} {v : Value} (h : Below B w w2) (hg : B ≤ g) : Below B w (w2.setCell ⟨g, i, none⟩ v) :=
  ⟨h.os, h.tape, h.output, by simpa [World.setCell] using h.size, fun k hk => (set_other (by omega)).trans (h.block k hk)⟩
theorem alloc_blk (w : World) (o : Obj) : (w.alloc o).heap[w.heap.size]? = some o := heap_alloc_new w o
set_option maxHeartbeats 800000 in
set_option maxRecDepth 100000 in
theorem caps_no (w : World) (k n : Int) (h : ¬ okS k n) : Calls Tryz.prog 8 #[I k, I n] w fun e w' => e = .returned (.tuple #[.agg #[I 0, .slice none 0 0], I 1]) ∧ Below w.heap.size w w' := by
  have H : Hid (∀ u : World, Calls Tryz.prog 13 #[I k, I n] u fun e w' => e = .returned (.bool false) ∧ w' = u) := fun u => by
    have := isSize_any u k n
    rw [decide_eq_false (show ¬ ((0 ≤ k ∧ k < 6) ∧ lst k ≤ n ∧ n ≤ 1048576) from h)] at this
    exact this
  clear h
  go_enter Tryz.func8, Tryz.ntmps8
  go_wp2_with (go_at_call 13; refine (H.out _).mono ?_; rintro _ w2 ⟨rfl, hw2⟩; cases hw2)
  refine bodyPost_ret (v := .tuple #[.agg #[I 0, .slice none 0 0], I 1]) (by simp [results, Tryz.results8, go_sem]) rfl ?_
  exact ⟨rfl, (Below.refl _ w).alloc (Nat.le_refl _) _⟩
set_option maxHeartbeats 800000 in
set_option maxRecDepth 100000 in
theorem caps_yes (w : World) (k n : Int) (h : okS k n) : Calls Tryz.prog 8 #[I k, I n] w fun e w' => ∃ v, e = .returned (.tuple #[.agg #[I n, v], I 0]) ∧ IRd w' v (capL k n) ∧ Below w.heap.size w w' := by
  have H : Hid (∀ u : World, Calls Tryz.prog 13 #[I k, I n] u fun e w' => e = .returned (.bool true) ∧ w' = u) := fun u => by
    have := isSize_any u k n
    rw [decide_eq_true (show ((0 ≤ k ∧ k < 6) ∧ lst k ≤ n ∧ n ≤ 1048576) from h)] at this
    exact this
  have HN : Hid (1 ≤ n ∧ n ≤ 1048576) := h.pos
  clear h
  go_enter Tryz.func8, Tryz.ntmps8
  go_wp2_with (go_at_call 13; refine (H.out _).mono ?_; rintro _ w2 ⟨rfl, hw2⟩; cases hw2)
  refine (queueCaps_any _ k n HN.out.1 HN.out.2).mono ?_
  rintro _ w2 ⟨b, rfl, q1, q2, q3⟩
  have hbx : w2.heap[w.heap.size]? = some (.cells #[I 0, .slice none 0 0] 29 (0, 0)) := (q3.block w.heap.size (by simp)).trans (alloc_blk w _)
  have i0 : w2.cell? ⟨w.heap.size, 0, none⟩ = some (I 0) := by simp [World.cell?, hbx]
  have i1 : w2.cell? ⟨w.heap.size, 1, none⟩ = some (.slice none 0 0) := by simp [World.cell?, hbx]
  have fz : ∀ j, w2.frozen? ⟨w.heap.size, j, none⟩ = false := fun j => by simp [World.frozen?, hbx]
  have H2 : Hid (w2.heap[b]? = some (.cells (iC (capL k n)).toArray 3 (0, 0)) ∧ w.heap.size < b ∧ Below w.heap.size w w2) := by
    have hb2 : w.heap.size + 1 ≤ b := by simpa using q2
    exact ⟨q1, by omega, ((Below.refl _ w).alloc (Nat.le_refl _) _).trans (q3.mono (by simp))⟩
  clear q1 q2 q3 hbx
  go_wp2_with fail
  refine bodyPost_ret (v := .tuple #[.agg #[I n, .slice (some ⟨b, 0, none⟩) (capL k n).length (capL k n).length], I 0]) (by simp [results, Tryz.results8, go_sem, i0, i1]) rfl ?_
  obtain ⟨q1, q2, q3⟩ := H2.out
  refine ⟨_, rfl, IRd.blk (T := 3) ?_, bel_set (bel_set q3 (Nat.le_refl _)) (Nat.le_refl _)⟩
  rw [set_other (by omega), set_other (by omega)]
  exact q1
set_option maxRecDepth 100000 in
theorem least_any (w : World) (k : Int) : Calls Tryz.prog 21 #[I k] w fun e w' => e = .returned (I (lst k)) ∧ w' = w := by
  by_cases h0 : k = 3
  · subst h0
    go_enter Tryz.func21, Tryz.ntmps21
    go_wp2
    go_ret
    exact ⟨rfl, rfl⟩
  · by_cases h1 : k = 4
    · subst h1
      go_enter Tryz.func21, Tryz.ntmps21
      go_wp2
      go_ret
      exact ⟨rfl, rfl⟩
    · have e : lst k = 1 := by unfold lst; rw [if_neg h0, if_neg h1]
      rw [e]
      go_enter Tryz.func21, Tryz.ntmps21
      go_wp2
      go_ret
      exact ⟨rfl, rfl⟩
/-- what is told of a kind and a size -/
def eS (k n : Int) : Int := if okS k n then 0 else 1
set_option maxHeartbeats 800000 in
set_option maxRecDepth 100000 in
theorem rnew_any (w : World) (k n : Int) : Calls Tryz.prog 15 #[I k, I n] w fun e w' => ∃ v, e = .returned (.tuple #[v, I (eS k n)]) ∧ Below w.heap.size w w' := by
  have hmm : ∀ u : World, (Instr.makeMap 54 none).run Tryz.prog u = .ok (.map (some u.heap.size)) (u.alloc (.map #[] 0)) := fun u => by kernel_rfl
  have H : Hid (∀ u : World, Calls Tryz.prog 21 #[I k] u fun e w' => e = .returned (I (lst k)) ∧ w' = u) := fun u => least_any u k
  have hno : ¬ okS k n → eS k n = 1 := fun h => if_neg h
  have hyes : okS k n → eS k n = 0 := fun h => if_pos h
  unfold okS at hno hyes
  generalize eS k n = es at *
  generalize lst k = b at *
  by_cases h0 : 0 ≤ k
  · by_cases h1 : k < 6
    · by_cases h2 : b ≤ n
      · by_cases h3 : n ≤ 1048576
        · obtain rfl := hyes ⟨⟨h0, h1⟩, h2, h3⟩
          clear hno hyes
          go_enter Tryz.func15, Tryz.ntmps15
          go_wp2_with (go_at_call 21; refine (H.out _).mono ?_; rintro _ w ⟨rfl, rfl⟩)
          go_ret2
          exact ⟨_, rfl, ((Below.refl _ w).alloc (Nat.le_refl _) _).alloc (by simp) _⟩
        · obtain rfl := hno (fun h => h3 h.2.2)
          clear hno hyes
          go_enter Tryz.func15, Tryz.ntmps15
          go_wp2_with (go_at_call 21; refine (H.out _).mono ?_; rintro _ w ⟨rfl, rfl⟩)
          go_ret2
          exact ⟨_, rfl, Below.refl _ _⟩
      · obtain rfl := hno (fun h => h2 h.2.1)
        clear hno hyes
        go_enter Tryz.func15, Tryz.ntmps15
        go_wp2_with (go_at_call 21; refine (H.out _).mono ?_; rintro _ w ⟨rfl, rfl⟩)
        go_ret2
        exact ⟨_, rfl, Below.refl _ _⟩
    · obtain rfl := hno (fun h => h1 h.1.2)
      clear hno hyes
      have h5 : 5 < k := by omega
      go_enter Tryz.func15, Tryz.ntmps15
      go_wp2
      go_ret2
      first | exact ⟨_, rfl, Below.refl _ _⟩ | exact ⟨_, Below.refl _ _⟩ | exact ⟨rfl, Below.refl _ _⟩ | exact ⟨⟨_, rfl⟩, Below.refl _ _⟩
  · obtain rfl := hno (fun h => h0 h.1.1)
    clear hno hyes
    go_enter Tryz.func15, Tryz.ntmps15
    go_wp2
    go_ret2
    first | exact ⟨_, rfl, Below.refl _ _⟩ | exact ⟨_, Below.refl _ _⟩ | exact ⟨rfl, Below.refl _ _⟩ | exact ⟨⟨_, rfl⟩, Below.refl _ _⟩
theorem alloc_ird {w w1 : World} (hb : Below w.heap.size w w1) (l : List Int) (T : TypeId) : IRd (w1.alloc (.cells (iC l).toArray T)) (.slice (some ⟨w1.heap.size, 0, none⟩) l.length l.length) l ∧ Below w.heap.size w (w1.alloc (.cells (iC l).toArray T)) := ⟨IRd.lit w1 l T, hb.alloc hb.size _⟩
set_option maxHeartbeats 1600000 in
set_option maxRecDepth 100000 in
theorem rcaps_no (w : World) (k n : Int) (h : ¬ okS k n) : Calls Tryz.prog 9 #[I k, I n] w fun e w' => e = .returned (.tuple #[I 0, .slice none 0 0, I 1]) ∧ Below w.heap.size w w' := by
  have H : Hid (∀ u : World, Calls Tryz.prog 15 #[I k, I n] u fun e w' => ∃ v, e = .returned (.tuple #[v, I 1]) ∧ Below u.heap.size u w') := fun u => by
    have := rnew_any u k n
    rw [show eS k n = 1 from if_neg h] at this
    exact this
  clear h
  go_enter Tryz.func9, Tryz.ntmps9
  go_wp2_with (go_at_call 15; refine (H.out _).mono ?_; rintro _ w1 ⟨v1, rfl, q1⟩)
  go_ret3
  exact ⟨rfl, q1⟩
set_option maxHeartbeats 1600000 in
set_option maxRecDepth 100000 in
theorem rcaps_yes (w : World) (k n : Int) (h : okS k n) : Calls Tryz.prog 9 #[I k, I n] w fun e w' => ∃ v, e = .returned (.tuple #[I n, v, I 0]) ∧ IRd w' v (capL k n) ∧ Below w.heap.size w w' := by
  have H : Hid (∀ u : World, Calls Tryz.prog 15 #[I k, I n] u fun e w' => ∃ v, e = .returned (.tuple #[v, I 0]) ∧ Below u.heap.size u w') := fun u => by
    have := rnew_any u k n
    rw [show eS k n = 0 from if_pos h] at this
    exact this
  obtain ⟨p1, p2⟩ := h.pos
  clear h
  by_cases h3 : k = 3
  · subst h3
    go_enter Tryz.func9, Tryz.ntmps9
    go_wp2_with (go_at_call 15; refine (H.out _).mono ?_; rintro _ w1 ⟨v1, rfl, q1⟩)
    all_goals go_ret3
    · rename_i h4
      have e : capL 3 n = [n, n / 2, n] := by unfold capL; rw [if_pos rfl, Int.max_eq_right (by omega)]
      rw [e]
      exact ⟨_, rfl, alloc_ird q1 [n, n / 2, n] 3⟩
    · rename_i h4
      have e : capL 3 n = [n, 1, n] := by unfold capL; rw [if_pos rfl, Int.max_eq_left (by omega)]
      rw [e]
      exact ⟨_, rfl, alloc_ird q1 [n, 1, n] 3⟩
  · by_cases h4 : k = 4
    · subst h4
      go_enter Tryz.func9, Tryz.ntmps9
      go_wp2_with (go_at_call 15; refine (H.out _).mono ?_; rintro _ w1 ⟨v1, rfl, q1⟩)
      go_ret3
      exact ⟨_, rfl, alloc_ird q1 [n, n - n / 10, n - n / 10] 3⟩
    · by_cases h5 : k = 5
      · subst h5
        go_enter Tryz.func9, Tryz.ntmps9
        go_wp2_with (go_at_call 15; refine (H.out _).mono ?_; rintro _ w1 ⟨v1, rfl, q1⟩)
        go_ret3
        exact ⟨_, rfl, alloc_ird q1 [n, n, n, n] 3⟩
      · have e : capL k n = [n] := by unfold capL; rw [if_neg h3, if_neg h4, if_neg h5]
        rw [e]
        go_enter Tryz.func9, Tryz.ntmps9
        go_wp2_with (go_at_call 15; refine (H.out _).mono ?_; rintro _ w1 ⟨v1, rfl, q1⟩)
        go_ret3
        exact ⟨_, rfl, alloc_ird q1 [n] 3⟩
end Go.Proofs.YtaklllceomfdfaaGreat.Md
