import Derived.Test.YtenhjebiokegkaaTrPast
import Derived.WalkSmall
namespace Go.Proofs.Ytenhjebiokegkaa.Gr
open Go.RowKit Go.Proofs.Ytenhjebiokegkaa.Sp Go.Proofs.Ytenhjebiokegkaa.Lx

theorem info84 : (Try.prog.info? 84).map (fun i => (i.zero, i.size, i.bytes)) = some (some (.agg #[.int .i64 0, .int .i64 0, .int .i64 0, .int .i64 0, .int .i64 0]), 5, 40) := by kernel_rfl
theorem tc_set (a b : Ab) (t : List Ab) (j : Nat) (u : Value) (h : ac b = (ac a).set j u) : (tc (a :: t)).set (t.length * 5 + j) u = tc (b :: t) := by
  rw [tc_cons, tc_cons, List.set_append_right _ _ (by rw [tc_len]; omega), tc_len, h]
  congr 2
  omega
/-- of the blocks that were, the row's alone has turned -/
structure Went (w : World) (v : Value) (w' : World) (v' : Value) : Prop where
  by_ : w.grownBy w' v.ownBlock
  own : v'.ownBlock = v.ownBlock ∨ ∀ k, v'.ownBlock = some k → w.heap.size ≤ k
theorem Went.refl (w : World) (v : Value) : Went w v w v := ⟨⟨rfl, rfl, rfl, Nat.le_refl _, fun _ _ _ => rfl⟩, Or.inl rfl⟩
theorem Went.trans {a b c : World} {x y z : Value} (h : Went a x b y) (k : Went b y c z) : Went a x c z := by
  refine ⟨⟨k.by_.os.trans h.by_.os, k.by_.tape.trans h.by_.tape, k.by_.output.trans h.by_.output, Nat.le_trans h.by_.size k.by_.size, fun i hi hx => ?_⟩, ?_⟩
  · refine (k.by_.block i (Nat.lt_of_lt_of_le hi h.by_.size) ?_).trans (h.by_.block i hi hx)
    rcases h.own with e | e
    · rw [e]; exact hx
    · intro e2; have := e i e2.symm; omega
  · rcases k.own with e | e
    · rw [e]; exact h.own
    · exact Or.inr fun j hj => Nat.le_trans h.by_.size (e j hj)
theorem Went.below {a b c : World} {x y : Value} (h : Went a x b y) (k : Below b.heap.size b c) : Went a x c y :=
  h.trans ⟨⟨k.os, k.tape, k.output, k.size, fun i hi _ => k.block i hi⟩, Or.inl rfl⟩
theorem Went.gone {a b : World} {x y : Value} (h : Gone a x b y) : Went a x b y := ⟨h.1, h.own⟩
/-- what lies below the row's base is as it was -/
theorem Went.low {a b : World} {x y : Value} (h : Went a x b y) {base : Nat} (hx : ∀ k, x.ownBlock = some k → base ≤ k) (hb : base ≤ a.heap.size) : Below base a b := by
  refine ⟨h.by_.os, h.by_.tape, h.by_.output, h.by_.size, fun i hi => h.by_.block i (Nat.lt_of_lt_of_le hi hb) fun e => ?_⟩
  have := hx i e.symm; omega
theorem own_bump {w : World} {base g cap : Nat} {a : Ab} {t : List Ab} (k : Int) (h : OwnT w base (.slice (some ⟨g, 0, none⟩) (t.length + 1) cap) (a :: t)) :
    OwnT ((w.setCell ⟨g, t.length * 5 + 2, none⟩ (.int .i64 (a.seen + 1 : Nat))).setCell ⟨g, t.length * 5 + 3, none⟩ (.int .i64 k)) base (.slice (some ⟨g, 0, none⟩) (t.length + 1) cap) (bump k (a :: t)) ∧
    Went w (.slice (some ⟨g, 0, none⟩) (t.length + 1) cap) ((w.setCell ⟨g, t.length * 5 + 2, none⟩ (.int .i64 (a.seen + 1 : Nat))).setCell ⟨g, t.length * 5 + 3, none⟩ (.int .i64 k)) (.slice (some ⟨g, 0, none⟩) (t.length + 1) cap) := by
  obtain ⟨h1, g1⟩ := World.ownsRow.stored h (t.length * 5 + 2) (.int .i64 (a.seen + 1 : Nat))
  obtain ⟨h2, g2⟩ := World.ownsRow.stored h1 (t.length * 5 + 3) (.int .i64 k)
  rw [tc_set a ⟨a.kind, a.kids, a.seen + 1, a.kid, a.levels⟩ t 2 _ rfl, tc_set ⟨a.kind, a.kids, a.seen + 1, a.kid, a.levels⟩ ⟨a.kind, a.kids, a.seen + 1, k, a.levels⟩ t 3 (.int .i64 k) rfl] at h2
  exact ⟨h2, (Went.mk g1 (Or.inl rfl)).trans (Went.mk g2 (Or.inl rfl))⟩
theorem own_pop {w : World} {base g cap : Nat} {a : Ab} {t : List Ab} (h : OwnT w base (.slice (some ⟨g, 0, none⟩) (t.length + 1) cap) (a :: t)) : OwnT w base (.slice (some ⟨g, 0, none⟩) t.length cap) t := by
  refine ownsRow_pop (last := ac a) (tc_len t) ?_
  rw [← tc_cons]
  exact h
theorem own_push {w' : World} {base : Nat} {v' : Value} {t : List Ab} {a : Ab} (h : w'.ownsRow base 84 5 v' (t.length + 1) (tc t ++ ac a)) : OwnT w' base v' (a :: t) := by
  rw [← tc_cons] at h
  exact h
abbrev agr (r : Rz) : Value := .agg #[.int .i64 r.kind, .string r.name, .int .i64 r.stop, .int .i64 r.n, .int .i64 r.kids]
end Go.Proofs.Ytenhjebiokegkaa.Gr
