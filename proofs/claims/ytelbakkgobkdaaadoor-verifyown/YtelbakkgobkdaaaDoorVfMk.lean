import Derived.Test.YtelbakkgobkdaaaDoorVfSml
import Derived.Test.YtelbakkgobkdaaaDoorVfFuel2
namespace Go.Proofs.YtelbakkgobkdaaaDoor.Vf
open Go.RowKit Go.Proofs.YtelbakkgobkdaaaDoor.Nm
theorem cC_len (l : List Ins) : (cC l).length = l.length * 5 := by
  induction l with
  | nil => rfl
  | cons x l ih =>
    have e : cC (x :: l) = [.int .i64 x.op, .int .i64 x.a, .int .i64 x.b, .int .i64 x.c, .int .i64 x.d] ++ cC l := rfl
    rw [e, List.length_append, ih, List.length_cons]
    simp
    omega
theorem cC_app (l m : List Ins) : cC (l ++ m) = cC l ++ cC m := by unfold cC; rw [List.flatMap_append]
theorem cC_one (l : List Ins) : ∀ u ∈ cC l, u.oneCell' = true := fun u hu => by
  unfold cC at hu
  obtain ⟨x, -, hx⟩ := List.mem_flatMap.1 hu
  simp only [List.mem_cons, List.not_mem_nil, or_false] at hx
  rcases hx with rfl | rfl | rfl | rfl | rfl <;> rfl
theorem cells_new (w : World) (T : TypeId) (xs : List Value) : ∀ j u, xs[j]? = some u → (w.alloc (.cells xs.toArray T)).cell? ((⟨w.heap.size, 0, none⟩ : Addr).add j) = some u := by
  intro j u h
  exact Lib.cells_of_row (heap_alloc_new w (.cells xs.toArray T)) xs.length j u (by simpa using h)
theorem infoIn : (Tryd.prog.info? 54).map (fun i => (i.zero, i.size, i.bytes)) = some (some (.agg #[.int .i64 0, .int .i64 0, .int .i64 0, .int .i64 0, .int .i64 0]), 5, 40) := by kernel_rfl
/-- a program whose code is in the making: its box, its code owned; all else is as in W0 -/
structure Mk (W0 W : World) (pb : Nat) (q vv tt oo mm v : Value) (l : List Ins) : Prop where
  os : W.os = W0.os
  tape : W.tape = W0.tape
  output : W.output = W0.output
  size : W0.heap.size ≤ W.heap.size
  ke : ∀ k, k < W0.heap.size → k ≠ pb → W.heap[k]? = W0.heap[k]?
  lt : pb < W0.heap.size
  box : W.heap[pb]? = some (.cells #[q, vv, tt, oo, mm, v] 27 (0, 0))
  own : W.ownsRow W0.heap.size 54 5 v l.length (cC l)
theorem Mk.low {W0 W : World} {pb : Nat} {q vv tt oo mm v : Value} {l : List Ins} (h : Mk W0 W pb q vv tt oo mm v l) : ∀ k, v.ownBlock = some k → W0.heap.size ≤ k := fun k hk => (World.ownsRow.lt h.own k hk).1
theorem set5 {W : World} {pb : Nat} {q vv tt oo mm v : Value} (v' : Value) (h : W.heap[pb]? = some (.cells #[q, vv, tt, oo, mm, v] 27 (0, 0))) : (W.setCell ⟨pb, 5, none⟩ v').heap[pb]? = some (.cells #[q, vv, tt, oo, mm, v'] 27 (0, 0)) := by
  rw [heap_setCell_same W pb 5 _ _ _ h]
  rfl
/-- instructions are put behind the code -/
theorem Mk.app {W0 W w' : World} {pb : Nat} {q vv tt oo mm v v' : Value} {l : List Ins} (h : Mk W0 W pb q vv tt oo mm v l) (news : List Ins) (ho : w'.ownsRow W0.heap.size 54 5 v' (l.length + news.length) (cC l ++ cC news)) (hG : Gone (W.alloc (.cells (cC news).toArray 54)) v w' v') : Mk W0 (w'.setCell ⟨pb, 5, none⟩ v') pb q vv tt oo mm v' (l ++ news) := by
  have hb : Below W.heap.size W (W.alloc (.cells (cC news).toArray 54)) := (Below.refl _ W).alloc (Nat.le_refl _) _
  have hsz := hb.size
  have hk : ∀ k, k < W0.heap.size → w'.heap[k]? = W.heap[k]? := fun k hk => by
    have hs := h.size
    refine (hG.1.block k (by omega) (fun e => ?_)).trans (hb.block k (by omega))
    have := h.low k e.symm
    omega
  have hbx := (hk pb h.lt).trans h.box
  refine ⟨hG.1.os.trans (hb.os.trans h.os), hG.1.tape.trans (hb.tape.trans h.tape), hG.1.output.trans (hb.output.trans h.output), ?_, fun k hk0 hn => ?_, h.lt, set5 v' hbx, ?_⟩
  · have h1 := h.size
    have h2 := hG.1.size
    have h3 : (w'.setCell ⟨pb, 5, none⟩ v').heap.size = w'.heap.size := by simp [World.setCell]
    omega
  · have h0 : (w'.setCell ⟨pb, 5, none⟩ v').heap[k]? = w'.heap[k]? := heap_setCell_other w' ⟨pb, 5, none⟩ k v' hn
    exact h0.trans ((hk k hk0).trans (h.ke k hk0 hn))
  · rw [List.length_append, cC_app]
    exact ownsRow_setCell_below ho (a := ⟨pb, 5, none⟩) h.lt v'
theorem Mk.mid {W0 W w' : World} {pb : Nat} {q vv tt oo mm v v' : Value} {l : List Ins} (h : Mk W0 W pb q vv tt oo mm v l) {o : Obj} (hG : Gone (W.alloc o) v w' v') : w'.heap[pb]? = some (.cells #[q, vv, tt, oo, mm, v] 27 (0, 0)) := by
  have hb : Below W.heap.size W (W.alloc o) := (Below.refl _ W).alloc (Nat.le_refl _) _
  have hs := h.size
  have hl := h.lt
  have hsz := hb.size
  refine (hG.1.block pb (by omega) (fun e => ?_)).trans ((hb.block pb (by omega)).trans h.box)
  have := h.low pb e.symm
  omega
theorem Mk.owns {W0 W : World} {pb : Nat} {q vv tt oo mm v : Value} {l : List Ins} (h : Mk W0 W pb q vv tt oo mm v l) {n : Nat} (hn : l.length = n) (o : Obj) : (W.alloc o).ownsRow W0.heap.size 54 5 v n (cC l) := by
  have := own_below h.own ((Below.refl _ W).alloc (Nat.le_refl _) o)
  rwa [hn] at this
theorem Mk.new {W0 : World} {pb : Nat} {q vv tt oo mm : Value} (hb : W0.heap[pb]? = some (.cells #[q, vv, tt, oo, mm, .slice none 0 0] 27 (0, 0))) : Mk W0 W0 pb q vv tt oo mm (.slice none 0 0) [] :=
  ⟨rfl, rfl, rfl, Nat.le_refl _, fun _ _ _ => rfl, blk_lt hb, hb, rfl, Or.inl ⟨rfl, rfl⟩⟩
theorem Mk.form {W0 W : World} {pb : Nat} {q vv tt oo mm v : Value} {l : List Ins} (h : Mk W0 W pb q vv tt oo mm v l) {n : Nat} (hn : l.length = n) : ∃ bo bc, v = .slice bo n bc := by
  have := own_form h.own
  rwa [hn] at this
theorem Mk.bel {n : Nat} {w W0 W : World} {pb : Nat} {q vv tt oo mm v : Value} {l : List Ins} (h : Mk W0 W pb q vv tt oo mm v l) (hb : Below n w W0) (hn : n ≤ pb) : Below n w W where
  os := h.os.trans hb.os
  tape := h.tape.trans hb.tape
  output := h.output.trans hb.output
  size := Nat.le_trans hb.size h.size
  block := fun k hk => by
    have hl := h.lt
    exact (h.ke k (by omega) (by omega)).trans (hb.block k hk)
theorem Mk.rd {W0 W : World} {pb : Nat} {q vv tt oo mm v : Value} {l : List Ins} (h : Mk W0 W pb q vv tt oo mm v l) {g : Nat} {xs : List Value} (hr : Rd W0 (some ⟨g, 0, none⟩) xs) (hg : g < W0.heap.size) (hn : g ≠ pb) : Rd W (some ⟨g, 0, none⟩) xs := fun k x hx => by
  obtain ⟨g', f', e, hl, hc⟩ := hr k x hx
  cases e
  have hs := h.size
  exact ⟨g, 0, rfl, by omega, (World.cell?_of_block (a := ⟨g, 0 + k, none⟩) (h.ke g hg hn)).trans hc⟩
theorem Mk.drew {W0 W : World} {pb : Nat} {q vv tt oo mm v : Value} {l : List Ins} (h : Mk W0 W pb q vv tt oo mm v l) : Mk W0 W.drew pb q vv tt oo mm v l :=
  ⟨h.os, h.tape, h.output, h.size, h.ke, h.lt, h.box, own_below h.own (Below.refl _ W).drew⟩
theorem Mk.old {W0 W w' : World} {pb : Nat} {q vv tt oo mm v v' : Value} {l : List Ins} (h : Mk W0 W pb q vv tt oo mm v l) {o : Obj} (hG : Gone (W.alloc o) v w' v') {k : Nat} (hk : k < W0.heap.size) : w'.heap[k]? = W.heap[k]? := by
  have hb : Below W.heap.size W (W.alloc o) := (Below.refl _ W).alloc (Nat.le_refl _) _
  have hs := h.size
  have hsz := hb.size
  refine (hG.1.block k (by omega) (fun e => ?_)).trans (hb.block k (by omega))
  have := h.low k e.symm
  omega
/-- the program is made -/
theorem Mk.is {W0 W : World} {pb : Nat} {q vv tt oo mm v : Value} {l : List Ins} (h : Mk W0 W pb q vv tt oo mm v l) : ∃ co cc, v = .slice co l.length cc ∧ Rd W co (cC l) := by
  obtain ⟨co, cc, rfl⟩ := own_form h.own
  refine ⟨co, cc, rfl, fun k x hx => ?_⟩
  have hl := cC_len l
  have hk : k < (cC l).length := (List.getElem?_eq_some_iff.1 hx).1
  obtain ⟨g, cap, cur, hv, -, hg, h4, h5, h6, h7⟩ := own_block h.own (by omega)
  cases hv
  refine ⟨g, 0, rfl, blk_lt hg, ?_⟩
  rw [Nat.zero_add]
  refine cell_of hg ?_
  rw [← h7, List.getElem?_take] at hx
  split at hx
  · exact hx
  · cases hx
end Go.Proofs.YtelbakkgobkdaaaDoor.Vf
