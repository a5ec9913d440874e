import Derived.Test.YtcblichnkakhdaaDoorNmOwn
namespace Go.Proofs.YtcblichnkakhdaaDoor.Cd
open Go.RowKit Go.Proofs.YtcblichnkakhdaaDoor.Nm

theorem info_parts {P : Program} {T : TypeId} {z : Value} {s b : Nat} (h : (P.info? T).map (fun i => (i.zero, i.size, i.bytes)) = some (some z, s, b)) : ∃ i, P.info? T = some i ∧ i.zero = some z ∧ i.size = s ∧ i.bytes = b := by
  cases hi : P.info? T with
  | none => rw [hi] at h; cases h
  | some i =>
    rw [hi] at h
    simp only [Option.map_some, Option.some.injEq, Prod.mk.injEq] at h
    exact ⟨i, rfl, h.1, h.2.1, h.2.2⟩
theorem infoB : (Tryd.prog.info? 5).map (fun i => (i.zero, i.size, i.bytes)) = some (some (.int .u8 0), 1, 1) := by kernel_rfl
theorem blk_lt {u : World} {k : Nat} {x : Obj} (hk : u.heap[k]? = some x) : k < u.heap.size := (Array.getElem?_eq_some_iff.1 hk).1
theorem fzb {u : World} {B : Nat} {cs : Array Value} {T : TypeId} (h : u.heap[B]? = some (.cells cs T (0, 0))) (j : Nat) : u.frozen? ⟨B, j, none⟩ = false := by simp [World.frozen?, h]
theorem cell_one (w : World) (T : TypeId) (a : Value) : ∀ j u, [a][j]? = some u → (w.alloc (.cells #[a] T)).cell? ((⟨w.heap.size, 0, none⟩ : Addr).add j) = some u := by
  intro j u h
  exact Lib.cells_of_row (heap_alloc_new w (.cells #[a] T)) 1 j u (by simpa using h)
/-- of the first n blocks only those of F have turned -/
structure Fb (F : List Nat) (n : Nat) (w w' : World) : Prop where
  os : w'.os = w.os
  tape : w'.tape = w.tape
  output : w'.output = w.output
  size : w.heap.size ≤ w'.heap.size
  block : ∀ k, k < n → k ∉ F → w'.heap[k]? = w.heap[k]?
theorem Fb.refl (F : List Nat) (n : Nat) (w : World) : Fb F n w w := ⟨rfl, rfl, rfl, Nat.le_refl _, fun _ _ _ => rfl⟩
theorem Fb.trans {F : List Nat} {n : Nat} {a b c : World} (h : Fb F n a b) (k : Fb F n b c) : Fb F n a c := ⟨k.os.trans h.os, k.tape.trans h.tape, k.output.trans h.output, Nat.le_trans h.size k.size, fun x hx hn => (k.block x hx hn).trans (h.block x hx hn)⟩
theorem Fb.of_below {F : List Nat} {n : Nat} {w w' : World} (h : Below n w w') : Fb F n w w' := ⟨h.os, h.tape, h.output, h.size, fun k hk _ => h.block k hk⟩
theorem own_keepB {w w' : World} {base : Nat} {e : TypeId} {size : Nat} {v : Value} {n : Nat} {xs : List Value} (h : w.ownsRow base e size v n xs) (hb : ∀ k, v.ownBlock = some k → w'.heap[k]? = w.heap[k]?) : w'.ownsRow base e size v n xs := by
  refine ⟨h.1, ?_⟩
  rcases h.2 with h2 | ⟨g, cap, cur, rfl, h3, h4, h5⟩
  · exact Or.inl h2
  · exact Or.inr ⟨g, cap, cur, rfl, h3, (hb g rfl).trans h4, h5⟩
/-- block k is the one that the writer at b appends into -/
def Own (w : World) (b k : Nat) : Prop := ∃ v, w.cell? ⟨b, 0, none⟩ = some v ∧ v.ownBlock = some k
/-- of the blocks that were only the writer's have turned -/
structure Fo (b : Nat) (w w' : World) : Prop where
  os : w'.os = w.os
  tape : w'.tape = w.tape
  output : w'.output = w.output
  size : w.heap.size ≤ w'.heap.size
  block : ∀ k, k < w.heap.size → k ≠ b → ¬ Own w b k → w'.heap[k]? = w.heap[k]?
  own : ∀ k, Own w' b k → Own w b k ∨ w.heap.size ≤ k
theorem Fo.refl (b : Nat) (w : World) : Fo b w w := ⟨rfl, rfl, rfl, Nat.le_refl _, fun _ _ _ _ => rfl, fun _ h => Or.inl h⟩
theorem Fo.trans {b : Nat} {w1 w2 w3 : World} (h : Fo b w1 w2) (k : Fo b w2 w3) : Fo b w1 w3 :=
  ⟨k.os.trans h.os, k.tape.trans h.tape, k.output.trans h.output, Nat.le_trans h.size k.size, fun x hx hb hn => (k.block x (Nat.lt_of_lt_of_le hx h.size) hb (fun e => by rcases h.own x e with e | e; exact hn e; omega)).trans (h.block x hx hb hn), fun x e => by
    rcases k.own x e with e | e
    · exact h.own x e
    · exact Or.inr (Nat.le_trans h.size e)⟩
/-- bytes as cells -/
def u8L (xs : List Nat) : List Value := xs.map fun n : Nat => .int .u8 (n : Int)
/-- a writer: its bytes, owned; its table -/
structure Wr (W : World) (b base : Nat) (fs : List Value) (xs : List Nat) : Prop where
  ex : ∃ v, W.heap[b]? = some (.cells (v :: fs).toArray 66 (0, 0)) ∧ W.ownsRow base 5 1 v xs.length (u8L xs)
  lt : b < base
  sz : base ≤ W.heap.size
set_option maxHeartbeats 6400000 in
set_option maxRecDepth 100000 in
/-- put: a byte more -/
theorem put_any {W : World} {b base x : Nat} {fs : List Value} {xs : List Nat} (h : Wr W b base fs xs) (hl : xs.length ≤ 1000000000000) :
    Calls Tryd.prog 49 #[.pointer (some ⟨b, 0, none⟩), .int .u8 (x : Int)] W fun e W' => e = .returned (.tuple #[]) ∧ Wr W' b base fs (xs ++ [x]) ∧ Fo b W W' := by
  obtain ⟨v, hb, ho⟩ := h.ex
  obtain ⟨bo, bc, rfl⟩ := own_form ho
  have HLt : Hid (b < base ∧ base ≤ W.heap.size ∧ xs.length ≤ 1000000000000) := ⟨h.lt, h.sz, hl⟩
  have c0 : W.cell? ⟨b, 0, none⟩ = some (.slice bo xs.length bc) := by simp only [World.cell?, hb]; rfl
  have hb1 : Below W.heap.size W (W.alloc (.cells #[.int .u8 (x : Int)] 5)) := (Below.refl _ W).alloc (Nat.le_refl _) _
  have HB : Hid ((W.alloc (.cells #[.int .u8 (x : Int)] 5)).heap[b]? = some (.cells (.slice bo xs.length bc :: fs).toArray 66 (0, 0))) := (hb1.block _ (blk_lt hb)).trans hb
  have HO : Hid ((W.alloc (.cells #[.int .u8 (x : Int)] 5)).ownsRow base 5 1 (.slice bo xs.length bc) xs.length (u8L xs)) := own_below ho hb1
  have HF1 : Hid (Below base W (W.alloc (.cells #[.int .u8 (x : Int)] 5))) := hb1.mono h.sz
  obtain ⟨j0, hj, hj0, hj1, hj2⟩ := info_parts infoB
  clear h hl hb ho hb1
  go_enter Tryd.func49, Tryd.ntmps49
  go_wp2_with (at_builtin; refine append_gone _ rfl _ _ 22 rfl base 5 j0 (.int .u8 0) 1 1 Tryd.underlying22 hj hj0 hj1 hj2 rfl (by decide) (.slice bo xs.length bc) _ (u8L xs) rfl HO.out ⟨W.heap.size, 0, none⟩ 1 1 [.int .u8 (x : Int)] rfl rfl (cell_one W _ _) (by intro u hu; simp only [List.mem_cons, List.not_mem_nil, or_false] at hu; subst hu; rfl) (by have := HLt.out; unfold maxLen; omega) (by have := HLt.out; omega) (Nat.le_trans HLt.out.2.1 HF1.out.size) (by decide) ?_)
  intro v' w4 ho hG
  have hlow : ∀ k, k < base → w4.heap[k]? = (W.alloc (.cells #[.int .u8 (x : Int)] 5)).heap[k]? := fun k hk => hG.1.block k (by have := HLt.out; have := HF1.out.size; omega) fun e => by have := (World.ownsRow.lt HO.out k e.symm).1; omega
  have hb4 : w4.heap[b]? = some (.cells (.slice bo xs.length bc :: fs).toArray 66 (0, 0)) := (hlow b HLt.out.1).trans HB.out
  have f4 := fzb hb4 0
  have HW : Hid (Wr (w4.setCell ⟨b, 0, none⟩ v') b base fs (xs ++ [x])) := by
    refine ⟨⟨v', ?_, ?_⟩, HLt.out.1, ?_⟩
    · rw [heap_setCell_same w4 b 0 _ _ v' hb4]
      simp
    · have e : u8L (xs ++ [x]) = u8L xs ++ [.int .u8 (x : Int)] := by simp [u8L]
      rw [e, List.length_append]
      exact own_keepB ho (fun k hk => Below.heap_setCell w4 _ _ k (fun e => by have := (World.ownsRow.lt ho k hk).1; have := HLt.out; have e' : k = b := e; omega))
    · have := HLt.out.2.1
      have := HF1.out.size
      have := hG.1.size
      simp [World.setCell]
      omega
  have HFb : Hid (Fo b W (w4.setCell ⟨b, 0, none⟩ v')) := by
    have hset : (w4.setCell ⟨b, 0, none⟩ v').cell? ⟨b, 0, none⟩ = some v' := by
      simp only [World.cell?, heap_setCell_same w4 b 0 _ _ v' hb4]
      simp
    refine ⟨hG.1.os, hG.1.tape, hG.1.output, ?_, fun k hk hn ho' => ?_, fun k hk => ?_⟩
    · have := hG.1.size
      have := HF1.out.size
      simp [World.setCell]
      omega
    · have h1 : (w4.setCell ⟨b, 0, none⟩ v').heap[k]? = w4.heap[k]? := Below.heap_setCell w4 _ _ k (fun e => hn e)
      have h2 : w4.heap[k]? = (W.alloc (.cells #[.int .u8 (x : Int)] 5)).heap[k]? := hG.1.block k (by have := HF1.out.size; omega) (fun e => ho' ⟨_, c0, e.symm⟩)
      exact (h1.trans h2).trans (Below.heap_alloc W _ k hk)
    · obtain ⟨u, hu, e⟩ := hk
      rw [hset] at hu
      cases hu
      rcases hG.own with e1 | e1
      · exact Or.inl ⟨_, c0, by rw [← e1]; exact e⟩
      · exact Or.inr (Nat.le_trans HF1.out.size (e1 k e))
  obtain ⟨bo4, bc4, rfl⟩ := own_form ho
  have c4 : w4.cell? ⟨b, 0, none⟩ = some (.slice bo xs.length bc) := by simp only [World.cell?, hb4]; rfl
  clear ho hG hlow hb4 c0
  go_wp2_with fail
  go_end0
  exact ⟨rfl, HW.out, HFb.out⟩
end Go.Proofs.YtcblichnkakhdaaDoor.Cd
