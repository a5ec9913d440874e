import Derived.Test.YtgiilaaoeefpmaaGreatGrRev
namespace Go.Proofs.YtgiilaaoeefpmaaGreat.Gr
open Go.RowKit Go.Proofs.YtgiilaaoeefpmaaGreat.Sp Go.Proofs.YtgiilaaoeefpmaaGreat.Lx

def put5 (w : World) (g o : Nat) (r : Rw) : World :=
  ((((w.setCell ⟨g, o, none⟩ (.int .i64 r.kind)).setCell ⟨g, o + 1, none⟩ (.string r.name)).setCell ⟨g, o + 2, none⟩ (.int .i64 r.stop)).setCell ⟨g, o + 3, none⟩ (.int .i64 r.n)).setCell ⟨g, o + 4, none⟩ (.int .i64 r.kids)
theorem set_row {w : World} {g i : Nat} {L : List Value} {T : TypeId} {f : Nat × Nat} {v : Value} (h : w.heap[g]? = some (.cells L.toArray T f)) : (w.setCell ⟨g, i, none⟩ v).heap[g]? = some (.cells (L.set i v).toArray T f) := by
  rw [set_blk h]; simp
theorem put5_row {w : World} {g i : Nat} {l : List Rw} {R : List Value} {T : TypeId} {f : Nat × Nat} (r : Rw) (hi : i < l.length) (h : w.heap[g]? = some (.cells (l.flatMap rc ++ R).toArray T f)) :
    (put5 w g (i * 5) r).heap[g]? = some (.cells ((l.set i r).flatMap rc ++ R).toArray T f) := by
  have e := set_row (v := .int .i64 r.kids) (i := i * 5 + 4) (set_row (v := .int .i64 r.n) (i := i * 5 + 3) (set_row (v := .int .i64 r.stop) (i := i * 5 + 2) (set_row (v := .string r.name) (i := i * 5 + 1) (set_row (v := .int .i64 r.kind) (i := i * 5) h))))
  unfold put5
  rw [e]
  have hl := flat_len l
  rw [List.set_append_left _ _ (by omega), List.set_append_left _ _ (by simp only [List.length_set]; omega), List.set_append_left _ _ (by simp only [List.length_set]; omega), List.set_append_left _ _ (by simp only [List.length_set]; omega), List.set_append_left _ _ (by simp only [List.length_set]; omega), flat_put l i r hi]
theorem set_only (w : World) (g i : Nat) (v : Value) : w.grownBy (w.setCell ⟨g, i, none⟩ v) (some g) :=
  ⟨rfl, rfl, rfl, by simp [World.setCell], fun k _ hk => Below.heap_setCell w _ v k (fun e => hk (by rw [e]))⟩
theorem put5_only (w : World) (g o : Nat) (r : Rw) : w.grownBy (put5 w g o r) (some g) :=
  ((((set_only w g o _).trans (set_only _ g _ _)).trans (set_only _ g _ _)).trans (set_only _ g _ _)).trans (set_only _ g _ _)
theorem row_at {w : World} {g i j : Nat} {l : List Rw} {R : List Value} {T : TypeId} {f : Nat × Nat} {r : Rw} (h : w.heap[g]? = some (.cells (l.flatMap rc ++ R).toArray T f)) (hr : l[i]? = some r) (hj : j < 5) : w.cell? ⟨g, i * 5 + j, none⟩ = (rc r)[j]? := by
  have hi : i < l.length := (List.getElem?_eq_some_iff.1 hr).1
  have hl := flat_len l
  rw [← flat_at l i j r hr hj]
  simp only [World.cell?, h]
  simp only [Option.isSome_none, Bool.false_eq_true, if_false, List.getElem?_toArray]
  rw [List.getElem?_append_left (by omega)]

theorem heap_drew (w : World) : w.drew.heap = w.heap := rfl
theorem grown_drew {w w' : World} {o : Option Nat} (h : w.grownBy w' o) : w.grownBy w'.drew o := ⟨h.os, h.tape, h.output, h.size, h.block⟩
theorem swap_rows {w wr : World} {h k j : Nat} {l l' : List Rw} {R : List Value} {T : TypeId} {a b : Rw} (hb : wr.heap[h]? = some (.cells (l.flatMap rc ++ R).toArray T (0, 0))) (hg : w.grownBy wr (some h)) (hk : k < l.length) (hj : j < l.length) (hs : (l.set k b).set j a = l') :
    (put5 (put5 wr h (k * 5) b) h (j * 5) a).drew.heap[h]? = some (.cells (l'.flatMap rc ++ R).toArray T (0, 0)) ∧ w.grownBy (put5 (put5 wr h (k * 5) b) h (j * 5) a).drew (some h) := by
  have e1 := put5_row (w := wr) b hk hb
  have e2 := put5_row a (show j < (l.set k b).length by rw [List.length_set]; exact hj) e1
  have e3 := (hg.trans (put5_only wr h (k * 5) b)).trans (put5_only _ h (j * 5) a)
  rw [hs] at e2
  generalize put5 (put5 wr h (k * 5) b) h (j * 5) a = W at *
  exact ⟨by rw [heap_drew]; exact e2, grown_drew e3⟩

theorem revrow_none (ao : Option Addr) (vc : Nat) (w : World) : Calls Tryz.prog 140 #[.slice ao 0 vc] w fun e w' => e = .returned (.tuple #[]) ∧ w' = w := by
  go_enter Tryz.func140, Tryz.ntmps140
  go_wp2_with fail
  refine wp_loop_rounds 1 ?_
  rw [rounds_succ]
  go_wp2
  go_end0
  exact ⟨rfl, rfl⟩
theorem revint_none (ao : Option Addr) (vc : Nat) (w : World) : Calls Tryz.prog 141 #[.slice ao 0 vc] w fun e w' => e = .returned (.tuple #[]) ∧ w' = w := by
  go_enter Tryz.func141, Tryz.ntmps141
  go_wp2_with fail
  refine wp_loop_rounds 1 ?_
  rw [rounds_succ]
  go_wp2
  go_end0
  exact ⟨rfl, rfl⟩

end Go.Proofs.YtgiilaaoeefpmaaGreat.Gr
