import Derived.Test.YtgiilaaoeefpmaaGreatGrTok
import Derived.Test.YtgiilaaoeefpmaaGreatGrKind
import Derived.Test.YtgiilaaoeefpmaaGreatTrOwn
namespace Go.Proofs.YtgiilaaoeefpmaaGreat.Gr
open Go.RowKit Go.Proofs.YtgiilaaoeefpmaaGreat.Sp Go.Proofs.YtgiilaaoeefpmaaGreat.Lx

/-- of the blocks that were, the parser's and those of its rows and places alone have turned -/
structure Mv (E : Env) (w : World) (rv pv : Value) (w' : World) (rv' pv' : Value) : Prop where
  os : w'.os = w.os
  tape : w'.tape = w.tape
  output : w'.output = w.output
  size : w.heap.size ≤ w'.heap.size
  block : ∀ k, k < w.heap.size → k ≠ E.g → some k ≠ rv.ownBlock → some k ≠ pv.ownBlock → w'.heap[k]? = w.heap[k]?
  rown : rv'.ownBlock = rv.ownBlock ∨ ∀ k, rv'.ownBlock = some k → w.heap.size ≤ k
  pown : pv'.ownBlock = pv.ownBlock ∨ ∀ k, pv'.ownBlock = some k → w.heap.size ≤ k
theorem Mv.of1 {E : Env} {w w' : World} (rv pv : Value) (h : Mv1 E w w') : Mv E w rv pv w' rv pv :=
  ⟨h.os, h.tape, h.output, h.size, fun k h1 h2 _ _ => h.block k h1 h2, Or.inl rfl, Or.inl rfl⟩
theorem Mv.trans {E : Env} {a b c : World} {r0 p0 r1 p1 r2 p2 : Value} (h : Mv E a r0 p0 b r1 p1) (k : Mv E b r1 p1 c r2 p2) : Mv E a r0 p0 c r2 p2 := by
  refine ⟨k.os.trans h.os, k.tape.trans h.tape, k.output.trans h.output, Nat.le_trans h.size k.size, fun i hi h1 h2 h3 => ?_, ?_, ?_⟩
  · refine (k.block i (Nat.lt_of_lt_of_le hi h.size) h1 ?_ ?_).trans (h.block i hi h1 h2 h3)
    · rcases h.rown with e | e
      · rw [e]; exact h2
      · intro e2; have := e i e2.symm; omega
    · rcases h.pown with e | e
      · rw [e]; exact h3
      · intro e2; have := e i e2.symm; omega
  · rcases k.rown with e | e
    · rw [e]; exact h.rown
    · exact Or.inr fun j hj => Nat.le_trans h.size (e j hj)
  · rcases k.pown with e | e
    · rw [e]; exact h.pown
    · exact Or.inr fun j hj => Nat.le_trans h.size (e j hj)

/-- what a rule leaves -/
def Post {α : Type} (E : Env) (w : World) (rv pv : Value) (val : α → Value) (r : R α) (e : Ending) (w' : World) : Prop :=
  match r with
  | .ok a s' => e = .returned (val a) ∧ ∃ rv' pv', Par w' E rv' pv' s' ∧ Mv E w rv pv w' rv' pv'
  | .die er i => e = thrown er i ∧ E.Fix w'

def row0 (k : Nat) : Rw := ⟨k, ⟨#[]⟩, 0, 0, least k⟩
def lay (E : Env) (k : Nat) (s : PS) : R Nat :=
  if E.bad s then .die E.ce E.ca else .ok s.rows.length { s with rows := s.rows ++ [row0 k], places := s.places ++ [(E.tok s).at_] }
def begin (E : Env) (k : Nat) (s : PS) : R Nat := (lay E k s).bind fun a s => .ok a s.skip

section
variable {E : Env} {w : World} {rv pv : Value} {s : PS}
/-- the parser's block, behind an append to its rows or places -/
theorem Par.gblk (ok : E.Ok) (h : Par w E rv pv s) {w' : World} {v v' : Value} (hv : v = rv ∨ v = pv) (hg : Gone w v w' v') : w'.heap[E.g]? = some (.cells (E.cells rv pv s) 81 (0, 0)) := by
  rw [hg.1.block _ h.gw ?_]
  · exact h.blk
  · intro e
    have hl := ok.gl
    rcases hv with rfl | rfl
    · have := (World.ownsRow.lt h.rows _ e.symm).1; omega
    · have := (World.ownsRow.lt h.places _ e.symm).1; omega
theorem Par.gfix (h : Par w E rv pv s) {w' : World} {v v' : Value} (hv : v = rv ∨ v = pv) (hg : Gone w v w' v') : E.Fix w' := by
  have hf := h.fix
  refine ⟨hg.1.os.trans hf.os, hg.1.tape.trans hf.tape, hg.1.output.trans hf.output, Nat.le_trans hf.size hg.1.size, fun k h1 h2 => ?_⟩
  rw [hg.1.block _ (Nat.lt_of_lt_of_le h1 hf.size) ?_]
  · exact hf.block k h1 h2
  · intro e
    rcases hv with rfl | rfl
    · have := (World.ownsRow.lt h.rows _ e.symm).1; omega
    · have := (World.ownsRow.lt h.places _ e.symm).1; omega

/-- rows that were appended to, stored in the parser -/
theorem Par.putRows (ok : E.Ok) (h : Par w E rv pv s) {w' : World} {v' : Value} {l : List Rw} (hg : Gone w rv w' v') (ho : w'.ownsRow E.w0.heap.size 46 5 v' l.length (l.flatMap rc)) (hc : l.length ≤ s.next + 1) :
    Par (w'.setCell ⟨E.g, 6, none⟩ v') E v' pv { s with rows := l } ∧ Mv E w rv pv (w'.setCell ⟨E.g, 6, none⟩ v') v' pv := by
  have hb := h.gblk ok (Or.inl rfl) hg
  have hf := h.gfix (Or.inl rfl) hg
  have m := Mv1.set E w' 6 v'
  have hp : w'.ownsRow E.w0.heap.size 3 1 pv s.places.length (s.places.map nc) := by
    rcases hg.2 with ⟨g, h1, h2⟩ | ⟨h1, h2⟩
    · refine World.ownsRow.kept h.places hg.1 ?_
      rcases h.apart with e | e
      · rw [e] at h1; cases h1
      · exact Or.inr fun e2 => e e2.symm
    · exact own_below h.places ⟨hg.1.os, hg.1.tape, hg.1.output, hg.1.size, h1⟩
  refine ⟨⟨m.fix hf, (set_blk hb).trans rfl, own_mv1 ho m ok.gl, own_mv1 hp m ok.gl, ?_, h.nx, h.lev, hc, h.cp⟩, ?_⟩
  · rcases hg.2 with ⟨g, h1, h2⟩ | ⟨h1, h2⟩
    · rw [h2, ← h1]; exact h.apart
    · cases hv : v'.ownBlock with
      | none => exact Or.inl rfl
      | some k =>
        refine Or.inr fun e => ?_
        have a1 := h2 k hv
        have a2 := (World.ownsRow.lt h.places _ e.symm).2
        omega
  · exact ⟨m.os.trans hg.1.os, m.tape.trans hg.1.tape, m.output.trans hg.1.output, Nat.le_trans hg.1.size m.size, fun k h1 h2 h3 _ => (m.block k (Nat.lt_of_lt_of_le h1 hg.1.size) h2).trans (hg.1.block k h1 h3), hg.own, Or.inl rfl⟩
theorem Par.putPlaces (ok : E.Ok) (h : Par w E rv pv s) {w' : World} {v' : Value} {l : List Nat} (hg : Gone w pv w' v') (ho : w'.ownsRow E.w0.heap.size 3 1 v' l.length (l.map nc)) (hc : l.length ≤ s.next + 1) :
    Par (w'.setCell ⟨E.g, 7, none⟩ v') E rv v' { s with places := l } ∧ Mv E w rv pv (w'.setCell ⟨E.g, 7, none⟩ v') rv v' := by
  have hb := h.gblk ok (Or.inr rfl) hg
  have hf := h.gfix (Or.inr rfl) hg
  have m := Mv1.set E w' 7 v'
  have hr : w'.ownsRow E.w0.heap.size 46 5 rv s.rows.length (s.rows.flatMap rc) := by
    rcases hg.2 with ⟨g, h1, h2⟩ | ⟨h1, h2⟩
    · refine World.ownsRow.kept h.rows hg.1 ?_
      exact h.apart
    · exact own_below h.rows ⟨hg.1.os, hg.1.tape, hg.1.output, hg.1.size, h1⟩
  refine ⟨⟨m.fix hf, (set_blk hb).trans rfl, own_mv1 hr m ok.gl, own_mv1 ho m ok.gl, ?_, h.nx, h.lev, h.cr, hc⟩, ?_⟩
  · rcases hg.2 with ⟨g, h1, h2⟩ | ⟨h1, h2⟩
    · rw [h2, ← h1]; exact h.apart
    · cases hv : rv.ownBlock with
      | none => exact Or.inl rfl
      | some k =>
        refine Or.inr fun e => ?_
        have a1 := h2 k e.symm
        have a2 := (World.ownsRow.lt h.rows _ hv).2
        omega
  · exact ⟨m.os.trans hg.1.os, m.tape.trans hg.1.tape, m.output.trans hg.1.output, Nat.le_trans hg.1.size m.size, fun k h1 h2 _ h3 => (m.block k (Nat.lt_of_lt_of_le h1 hg.1.size) h2).trans (hg.1.block k h1 h3), Or.inl rfl, hg.own⟩
end
end Go.Proofs.YtgiilaaoeefpmaaGreat.Gr
