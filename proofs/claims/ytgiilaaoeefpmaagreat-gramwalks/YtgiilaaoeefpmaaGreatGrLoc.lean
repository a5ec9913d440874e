import Derived.Test.YtgiilaaoeefpmaaGreatGrOwn
import Derived.Test.YtgiilaaoeefpmaaGreatGrHeld
namespace Go.Proofs.YtgiilaaoeefpmaaGreat.Gr
open Go.RowKit Go.Proofs.YtgiilaaoeefpmaaGreat.Sp Go.Proofs.YtgiilaaoeefpmaaGreat.Lx

theorem own_of_block {w w' : World} {base : Nat} {e : TypeId} {size : Nat} {v : Value} {n : Nat} {xs : List Value} (h : w.ownsRow base e size v n xs) (hb : ∀ k, v.ownBlock = some k → w'.heap[k]? = w.heap[k]?) : w'.ownsRow base e size v n xs := by
  rcases h with ⟨h0, h1 | ⟨g, cap, cur, rfl, h2, h3, h4⟩⟩
  · exact ⟨h0, Or.inl h1⟩
  · exact ⟨h0, Or.inr ⟨g, cap, cur, rfl, h2, (hb g rfl).trans h3, h4⟩⟩
theorem own_base {w : World} {base base' : Nat} {e : TypeId} {size : Nat} {v : Value} {n : Nat} {xs : List Value} (h : w.ownsRow base e size v n xs) (hb : base' ≤ base) : w.ownsRow base' e size v n xs := by
  rcases h with ⟨h0, h1 | ⟨g, cap, cur, rfl, h2, h3, h4⟩⟩
  · exact ⟨h0, Or.inl h1⟩
  · exact ⟨h0, Or.inr ⟨g, cap, cur, rfl, Nat.le_trans hb h2, h3, h4⟩⟩

section
variable {E : Env} {w w' : World} {rv pv v v' : Value} {s : PS}
theorem Par.grown (ok : E.Ok) (h : Par w E rv pv s) (hg : w.grownBy w' v.ownBlock) (hv : ∀ k, v.ownBlock = some k → E.w0.heap.size ≤ k ∧ rv.ownBlock ≠ some k ∧ pv.ownBlock ≠ some k) : Par w' E rv pv s := by
  have hgl := ok.gl
  refine ⟨⟨hg.os.trans h.fix.os, hg.tape.trans h.fix.tape, hg.output.trans h.fix.output, Nat.le_trans h.fix.size hg.size, fun k h1 h2 => ?_⟩, ?_, own_grown h.rows hg fun k e1 e2 => (hv k e2).2.1 e1, own_grown h.places hg fun k e1 e2 => (hv k e2).2.2 e1, h.apart, h.nx, h.lev, h.cr, h.cp⟩
  · rw [hg.block k (Nat.lt_of_lt_of_le h1 h.fix.size) (fun e => by have := (hv k e.symm).1; omega)]
    exact h.fix.block k h1 h2
  · rw [hg.block _ h.gw (fun e => by have := (hv _ e.symm).1; omega)]
    exact h.blk
theorem Mv.grown {w1 : World} {rv1 pv1 : Value} (m : Mv E w rv pv w1 rv1 pv1) (hg : w1.grownBy w' v.ownBlock) (hv : ∀ k, v.ownBlock = some k → w.heap.size ≤ k) : Mv E w rv pv w' rv1 pv1 :=
  ⟨hg.os.trans m.os, hg.tape.trans m.tape, hg.output.trans m.output, Nat.le_trans m.size hg.size, fun k h1 h2 h3 h4 => (hg.block k (Nat.lt_of_lt_of_le h1 m.size) (fun e => by have := hv k e.symm; omega)).trans (m.block k h1 h2 h3 h4), m.rown, m.pown⟩
end

/-- rows and places of a rule's own, beside the parser's -/
structure Loc (B : Nat) (w : World) (rv pv lr lp : Value) (L : List Rw) (M : List Nat) : Prop where
  r : w.ownsRow B 46 5 lr L.length (L.flatMap rc)
  p : w.ownsRow B 3 1 lp M.length (M.map nc)
  a1 : ∀ k, lr.ownBlock = some k → rv.ownBlock ≠ some k ∧ pv.ownBlock ≠ some k ∧ lp.ownBlock ≠ some k
  a2 : ∀ k, lp.ownBlock = some k → rv.ownBlock ≠ some k ∧ pv.ownBlock ≠ some k
theorem Loc.nil (B : Nat) (w : World) (rv pv : Value) : Loc B w rv pv (.slice none 0 0) (.slice none 0 0) [] [] :=
  ⟨World.ownsRow_nil _ _ _ _, World.ownsRow_nil _ _ _ _, (fun k h => by cases h), (fun k h => by cases h)⟩
section
variable {E : Env} {B : Nat} {w w' : World} {rv pv rv' pv' lr lp v : Value} {s : PS} {L : List Rw} {M : List Nat}
theorem Loc.mv (h : Loc B w rv pv lr lp L M) (m : Mv E w rv pv w' rv' pv') (hB : E.g < B) : Loc B w' rv' pv' lr lp L M := by
  have hr : ∀ k, lr.ownBlock = some k → w'.heap[k]? = w.heap[k]? := fun k hk => by
    have h1 := World.ownsRow.lt h.r k hk
    have h2 := h.a1 k hk
    exact m.block k h1.2 (by omega) (fun e => h2.1 e.symm) (fun e => h2.2.1 e.symm)
  have hp : ∀ k, lp.ownBlock = some k → w'.heap[k]? = w.heap[k]? := fun k hk => by
    have h1 := World.ownsRow.lt h.p k hk
    have h2 := h.a2 k hk
    exact m.block k h1.2 (by omega) (fun e => h2.1 e.symm) (fun e => h2.2 e.symm)
  have q1 : ∀ k, k < w.heap.size → rv.ownBlock ≠ some k → rv'.ownBlock ≠ some k := fun k hk hn => by
    rcases m.rown with e | e
    · rw [e]; exact hn
    · intro e2; have := e k e2; omega
  have q2 : ∀ k, k < w.heap.size → pv.ownBlock ≠ some k → pv'.ownBlock ≠ some k := fun k hk hn => by
    rcases m.pown with e | e
    · rw [e]; exact hn
    · intro e2; have := e k e2; omega
  refine ⟨own_of_block h.r hr, own_of_block h.p hp, fun k hk => ?_, fun k hk => ?_⟩
  · have h1 := World.ownsRow.lt h.r k hk
    have h2 := h.a1 k hk
    exact ⟨q1 k h1.2 h2.1, q2 k h1.2 h2.2.1, h2.2.2⟩
  · have h1 := World.ownsRow.lt h.p k hk
    have h2 := h.a2 k hk
    exact ⟨q1 k h1.2 h2.1, q2 k h1.2 h2.2⟩
theorem Loc.vr (h : Loc B w rv pv lr lp L M) (hB : E.w0.heap.size ≤ B) : ∀ k, lr.ownBlock = some k → E.w0.heap.size ≤ k ∧ rv.ownBlock ≠ some k ∧ pv.ownBlock ≠ some k := fun k hk =>
  ⟨Nat.le_trans hB (World.ownsRow.lt h.r k hk).1, (h.a1 k hk).1, (h.a1 k hk).2.1⟩
theorem Loc.vp (h : Loc B w rv pv lr lp L M) (hB : E.w0.heap.size ≤ B) : ∀ k, lp.ownBlock = some k → E.w0.heap.size ≤ k ∧ rv.ownBlock ≠ some k ∧ pv.ownBlock ≠ some k := fun k hk =>
  ⟨Nat.le_trans hB (World.ownsRow.lt h.p k hk).1, (h.a2 k hk).1, (h.a2 k hk).2⟩
theorem Loc.pushR (h : Loc B w rv pv lr lp L M) (P : Par w E rv pv s) {x : Rw} (ho : w'.ownsRow B 46 5 v (L.length + 1) (L.flatMap rc ++ rc x)) (hg : Gone w lr w' v) : Loc B w' rv pv v lp (L ++ [x]) M := by
  refine ⟨?_, own_grown h.p hg.1 fun k e1 e2 => (h.a1 k e2).2.2 e1, fun k hk => ?_, h.a2⟩
  · rw [List.length_append, List.flatMap_append]
    simpa using ho
  · rcases hg.2 with ⟨g, e1, e2⟩ | ⟨_, e2⟩
    · rw [e2] at hk
      exact h.a1 k (e1.trans hk)
    · have h1 := e2 k hk
      refine ⟨fun e => ?_, fun e => ?_, fun e => ?_⟩
      · have := (World.ownsRow.lt P.rows k e).2; omega
      · have := (World.ownsRow.lt P.places k e).2; omega
      · have := (World.ownsRow.lt h.p k e).2; omega
theorem Loc.pushP (h : Loc B w rv pv lr lp L M) (P : Par w E rv pv s) {x : Nat} (ho : w'.ownsRow B 3 1 v (M.length + 1) (M.map nc ++ [nc x])) (hg : Gone w lp w' v) : Loc B w' rv pv lr v L (M ++ [x]) := by
  refine ⟨own_grown h.r hg.1 fun k e1 e2 => (h.a1 k e1).2.2 e2, ?_, fun k hk => ?_, fun k hk => ?_⟩
  · rw [List.length_append, List.map_append]
    simpa using ho
  · refine ⟨(h.a1 k hk).1, (h.a1 k hk).2.1, fun e => ?_⟩
    rcases hg.2 with ⟨g, e1, e2⟩ | ⟨_, e2⟩
    · exact (h.a1 k hk).2.2 (e1.trans (e2.symm.trans e))
    · have h1 := e2 k e
      have := (World.ownsRow.lt h.r k hk).2
      omega
  · rcases hg.2 with ⟨g, e1, e2⟩ | ⟨_, e2⟩
    · rw [e2] at hk
      exact h.a2 k (e1.trans hk)
    · have h1 := e2 k hk
      refine ⟨fun e => ?_, fun e => ?_⟩
      · have := (World.ownsRow.lt P.rows k e).2; omega
      · have := (World.ownsRow.lt P.places k e).2; omega
theorem Loc.turnR (h : Loc B w rv pv lr lp L M) (ho : w'.ownsRow B 46 5 lr L.length (L.reverse.flatMap rc)) (hg : w.grownBy w' lr.ownBlock) : Loc B w' rv pv lr lp L.reverse M :=
  ⟨by rw [List.length_reverse]; exact ho, own_grown h.p hg fun k e1 e2 => (h.a1 k e2).2.2 e1, h.a1, h.a2⟩
theorem Loc.turnP (h : Loc B w rv pv lr lp L M) (ho : w'.ownsRow B 3 1 lp M.length (M.reverse.map nc)) (hg : w.grownBy w' lp.ownBlock) : Loc B w' rv pv lr lp L M.reverse :=
  ⟨own_grown h.r hg fun k e1 e2 => (h.a1 k e1).2.2 e2, by rw [List.length_reverse]; exact ho, h.a1, h.a2⟩
theorem Loc.below (h : Loc B w rv pv lr lp L M) (hb : Below w.heap.size w w') : Loc B w' rv pv lr lp L M :=
  ⟨own_below h.r hb, own_below h.p hb, h.a1, h.a2⟩
end

/-- where a loop over a rule's signs is -/
structure Hel (E : Env) (part : PS → O Unit) (rule most : Nat) (s0 : PS) (w0 : World) (rv0 pv0 : Value) (r2 : R (List (Nat × Nat))) (q : Nat) (wr : World) (rv pv lr lp : Value) (acc : List (Nat × Nat)) (s : PS) : Prop where
  par : Par wr E rv pv s
  mv : Mv E w0 rv0 pv0 wr rv pv
  loc : Loc w0.heap.size wr rv pv lr lp (acc.map fun p => row2 p.1) (acc.map fun p => p.2)
  run : signs E part rule most q acc s = some r2
  same : s.places.length = s.rows.length
  cnt : s.rows.length + acc.length ≤ s.next
  pre : ∃ mr mp, s.rows = s0.rows ++ mr ∧ s.places = s0.places ++ mp ∧ 0 < mr.length
  base : E.w0.heap.size ≤ w0.heap.size
end Go.Proofs.YtgiilaaoeefpmaaGreat.Gr
