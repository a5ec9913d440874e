import Derived.Test.YtoeioppmlnognaaArRange
namespace Go.Proofs.Ytoeioppmlnognaa.Ar
open Go.RowKit Go.Shelf

theorem setup {n l g b11 r1 r2 c17 c18 : Nat} {o17 o18 : Option Addr} {q1 q2 : Sqv} {d1 d2 : List (Nat × Int)} {a : As} {n0 : Nat} {w1 w5 w6 w7 w8 w9 w10 w11 w12 : World}
    (HA : Arx [b11] n0 w1 w5 g a ∧ a.size = n ∧ a.nl = l) (H11 : ∀ u, Below w5.heap.size w5 u → u.cell? ⟨b11, 0, none⟩ = some (.pointer (some ⟨g, 0, none⟩)))
    (HF7 : Sq w6 q1 d1 ∧ (∀ k ∈ q1.S, w5.heap.size ≤ k ∧ ∃ cs T f, w6.heap[k]? = some (.cells cs T f)) ∧ Below w5.heap.size w5 w6)
    (HN7 : w7.heap.size = w6.heap.size + 1 ∧ Below w6.heap.size w6 w7 ∧ w7.heap[w6.heap.size]? = some (.cells #[clo q1] 57 (0, 0)))
    (HF9 : Sq w8 q2 d2 ∧ (∀ k ∈ q2.S, w7.heap.size ≤ k ∧ ∃ cs T f, w8.heap[k]? = some (.cells cs T f)) ∧ Below w7.heap.size w7 w8)
    (HN9 : w9.heap.size = w8.heap.size + 1 ∧ Below w8.heap.size w8 w9 ∧ w9.heap[w8.heap.size]? = some (.cells #[clo q2] 57 (0, 0)))
    (HF11 : (r1 = w10.heap.size ∨ (w9.heap.size ≤ r1 ∧ ∃ cs T f, w10.heap[r1]? = some (.cells cs T f))) ∧ (∀ (j : Nat) (x : Nat × Int), d1[j]? = some x → o17 = some ⟨r1, 0, none⟩ ∧ w10.cell? ⟨r1, 2 * j, none⟩ = some (I (x.1 : Nat)) ∧ w10.cell? ⟨r1, 2 * j + 1, none⟩ = some (I x.2)) ∧ Below w9.heap.size w9 w10)
    (HN11 : w11.heap.size = w10.heap.size + 1 ∧ Below w10.heap.size w10 w11 ∧ w11.heap[w10.heap.size]? = some (.cells #[.slice o17 (2 * d1.length) c17] 31 (0, 0)))
    (HF13 : (r2 = w12.heap.size ∨ (w11.heap.size ≤ r2 ∧ ∃ cs T f, w12.heap[r2]? = some (.cells cs T f))) ∧ (∀ (j : Nat) (x : Nat × Int), d2[j]? = some x → o18 = some ⟨r2, 0, none⟩ ∧ w12.cell? ⟨r2, 2 * j, none⟩ = some (I (x.1 : Nat)) ∧ w12.cell? ⟨r2, 2 * j + 1, none⟩ = some (I x.2)) ∧ Below w11.heap.size w11 w12) :
    Cx.Live ⟨g, n, l, b11, w6.heap.size, w8.heap.size, w10.heap.size, w12.heap.size, w12.heap.size + 1, r1, r2, q1, q2, d1, d2, o17, o18, c17, c18⟩ n0 w1 [] 0 ((w12.alloc (.cells #[.slice o18 (2 * d2.length) c18] 31)).alloc (.cells #[I 0] 3)) := by
  obtain ⟨z13, b13, n13⟩ := alloc_facts w12 #[.slice o18 (2 * d2.length) c18] 31
  obtain ⟨z14, b14, n14⟩ := alloc_facts (w12.alloc (.cells #[.slice o18 (2 * d2.length) c18] 31)) #[I 0] 3
  obtain ⟨hA, hn, hl⟩ := HA
  obtain ⟨s1, S1, b6⟩ := HF7
  obtain ⟨z7, b7, n7⟩ := HN7
  obtain ⟨s2, S2, b8⟩ := HF9
  obtain ⟨z9, b9, n9⟩ := HN9
  obtain ⟨R1, W1, b10⟩ := HF11
  obtain ⟨z11, b11', n11⟩ := HN11
  obtain ⟨R2, W2, b12⟩ := HF13
  generalize hw13 : w12.alloc (.cells #[.slice o18 (2 * d2.length) c18] 31) = w13 at *
  generalize hw14 : w13.alloc (.cells #[I 0] 3) = w14 at *
  have y6 := b6.size
  have y8 := b8.size
  have y10 := b10.size
  have y12 := b12.size
  have B12 : Below w12.heap.size w12 w14 := b13.trans (b14.mono (by omega))
  have B11 : Below w11.heap.size w11 w14 := b12.trans (B12.mono (by omega))
  have B10 : Below w10.heap.size w10 w14 := b11'.trans (B11.mono (by omega))
  have B9 : Below w9.heap.size w9 w14 := b10.trans (B10.mono (by omega))
  have B8 : Below w8.heap.size w8 w14 := b9.trans (B9.mono (by omega))
  have B7 : Below w7.heap.size w7 w14 := b8.trans (B8.mono (by omega))
  have B6 : Below w6.heap.size w6 w14 := b7.trans (B7.mono (by omega))
  have B5 : Below w5.heap.size w5 w14 := b6.trans (B6.mono (by omega))
  have p15 := (B7.block w6.heap.size (by omega)).trans n7
  have p16 := (B9.block w8.heap.size (by omega)).trans n9
  have p17 := (B11.block w10.heap.size (by omega)).trans n11
  have p18 := (b14.block w12.heap.size (by omega)).trans n13
  rw [z13] at n14
  have h11 : b11 < w5.heap.size := hA.lt b11 (by simp)
  have hS1 : ∀ k ∈ q1.S, k < w6.heap.size := s1.lt
  have hS2 : ∀ k ∈ q2.S, k < w8.heap.size := s2.lt
  have hr1 : w5.heap.size ≤ r1 ∧ r1 ≤ w10.heap.size ∧ ∃ cs T f, w14.heap[r1]? = some (.cells cs T f) := by
    rcases R1 with rfl | ⟨h1, cs, T, f, h2⟩
    · exact ⟨by omega, Nat.le_refl _, _, _, _, p17⟩
    · have := (Array.getElem?_eq_some_iff.1 h2).1
      exact ⟨by omega, by omega, _, _, _, (B10.block r1 this).trans h2⟩
  have hr2 : w5.heap.size ≤ r2 ∧ r2 ≤ w12.heap.size ∧ ∃ cs T f, w14.heap[r2]? = some (.cells cs T f) := by
    rcases R2 with rfl | ⟨h1, cs, T, f, h2⟩
    · exact ⟨by omega, Nat.le_refl _, _, _, _, p18⟩
    · have := (Array.getElem?_eq_some_iff.1 h2).1
      exact ⟨by omega, by omega, _, _, _, (B12.block r2 this).trans h2⟩
  refine ⟨⟨H11 _ B5, (box_cell p15).1, (box_cell p16).1, (box_cell p17).1, (box_cell p18).1, s1.below B6, s2.below B8, fun j x hx => ?_, fun j x hx => ?_⟩, ⟨a, ?_, hn, hl⟩, fun D hD => (by cases hD), fun hm => ?_, ?_, (box_cell n14).1, (box_cell n14).2⟩
  · obtain ⟨k1, k2, k3⟩ := W1 j x hx
    exact ⟨k1, (World.cell?_of_block (a := ⟨r1, 2 * j, none⟩) (B10.block r1 (World.block_lt_of_cell? w10 _ k2))).trans k2, (World.cell?_of_block (a := ⟨r1, 2 * j + 1, none⟩) (B10.block r1 (World.block_lt_of_cell? w10 _ k2))).trans k3⟩
  · obtain ⟨k1, k2, k3⟩ := W2 j x hx
    exact ⟨k1, (World.cell?_of_block (a := ⟨r2, 2 * j, none⟩) (B12.block r2 (World.block_lt_of_cell? w12 _ k2))).trans k2, (World.cell?_of_block (a := ⟨r2, 2 * j + 1, none⟩) (B12.block r2 (World.block_lt_of_cell? w12 _ k2))).trans k3⟩
  · refine (hA.more B5 (S := [w12.heap.size + 1, w6.heap.size, w8.heap.size, w10.heap.size, w12.heap.size, r1, r2] ++ (q1.S ++ q2.S)) (fun k hk => ?_)).mono (fun k hk => ?_)
    · simp only [List.mem_append, List.mem_cons, List.not_mem_nil, or_false] at hk
      rcases hk with (rfl | rfl | rfl | rfl | rfl | rfl | rfl) | hk | hk
      · exact ⟨by omega, _, _, _, n14⟩
      · exact ⟨by omega, _, _, _, p15⟩
      · exact ⟨by omega, _, _, _, p16⟩
      · exact ⟨by omega, _, _, _, p17⟩
      · exact ⟨by omega, _, _, _, p18⟩
      · exact ⟨hr1.1, hr1.2.2⟩
      · exact ⟨hr2.1, hr2.2.2⟩
      · obtain ⟨h1, cs, T, f, h2⟩ := S1 k hk
        exact ⟨h1, _, _, _, (B6.block k (hS1 k hk)).trans h2⟩
      · obtain ⟨h1, cs, T, f, h2⟩ := S2 k hk
        exact ⟨by omega, _, _, _, (B8.block k (hS2 k hk)).trans h2⟩
    · simp only [Cx.K, Cx.K', List.mem_append, List.mem_cons, List.not_mem_nil, or_false] at hk ⊢
      rcases hk with h | (h | h | h | h | h | h | h) | h | h <;> simp [h]
  · simp only [Cx.K', List.mem_append, List.mem_cons, List.not_mem_nil, or_false] at hm
    rcases hm with (h | h | h | h | h | h | h) | h | h
    · omega
    · omega
    · omega
    · omega
    · omega
    · have := hr1.2.1; omega
    · have := hr2.2.1; omega
    · have := hS1 _ h; omega
    · have := hS2 _ h; omega
  · have h1 := hA.base
    have h2 := hA.be.size
    show n0 ≤ w12.heap.size + 1
    omega
end Go.Proofs.Ytoeioppmlnognaa.Ar
