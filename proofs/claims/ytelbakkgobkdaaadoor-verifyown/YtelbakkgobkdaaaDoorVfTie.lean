import Derived.Test.YtelbakkgobkdaaaDoorVfFit
import Derived.Test.YtelbakkgobkdaaaDoorTie
import Derived.Lib.LaidTab
import Derived.Deep.Strs
import Derived.MakeChecks
namespace Go.Proofs.YtelbakkgobkdaaaDoor.Vf
open Go.RowKit Go.Proofs.YtelbakkgobkdaaaDoor.Nm

/-- the table as the row lists it -/
theorem eff_list : (Rows.laid_winnow_verify_effects : DataW Unit) = .agg ((List.range 42).map fun op => .agg [.lit (.int .i64 ((ef op).1 : Int)), .lit (.int .i64 ((ef op).2.1 : Int)), .lit (.int .i64 ((ef op).2.2 : Int))]) := by kernel_rfl
theorem eff_struct : ∃ f0 f1 f2 : Field, Tryd.prog.underlying 156 = some (.struct #[f0, f1, f2]) ∧ f0.offset = 0 ∧ f1.offset = 1 ∧ f2.offset = 2 ∧ f0.type = 3 ∧ f1.type = 154 ∧ f2.type = 154 :=
  ⟨_, _, _, Tryd.underlying156, rfl, rfl, rfl, rfl, rfl, rfl⟩
theorem cellsEffs : Tryd.prog.cellsOf 157 = 126 := by kernel_rfl
theorem cellsEff : Tryd.prog.cellsOf 156 = 3 := by kernel_rfl
theorem cellsKind : Tryd.prog.cellsOf 154 = 1 := by kernel_rfl
theorem cellsInt : Tryd.prog.cellsOf 3 = 1 := by kernel_rfl
theorem eff_at {H : Type} {enc : TypeId × Value → H} {w : World} {base : Nat} {sp : Nat → Bool} {held : Bool} {fuel : Nat} {cs : List Value} {a b c : Int} {p : List MemPlace}
    (h : DataW.trod enc Tryd.prog w base sp held fuel 156 cs = some (.agg [.lit (.int .i64 a), .lit (.int .i64 b), .lit (.int .i64 c)], p)) : cs = [.int .i64 a, .int .i64 b, .int .i64 c] := by
  obtain ⟨f0, f1, f2, hu, o0, o1, o2, t0, t1, t2⟩ := eff_struct
  obtain ⟨y0, y1, y2, n, he, hl, g0, g1, g2⟩ := Go.Deep.trod_struct3 hu h
  rw [cellsEff] at hl
  rw [o0, t0, cellsInt] at g0
  rw [o1, t1, cellsKind] at g1
  rw [o2, t2, cellsKind] at g2
  obtain ⟨x0, e0, r0, -⟩ := DataW.trod_int Tryd.underlying3 g0
  obtain ⟨x1, e1, r1, -⟩ := DataW.trod_int Tryd.underlying154 g1
  obtain ⟨x2, e2, r2, -⟩ := DataW.trod_int Tryd.underlying154 g2
  match cs, hl with
  | [c0, c1, c2], _ =>
    simp only [List.drop_zero, List.take_succ_cons, List.take_zero, List.drop_succ_cons, List.cons.injEq, and_true] at e0 e1 e2
    subst e0 e1 e2
    subst r0 r1 r2
    have h9 : (x0 = a ∧ x1 = b ∧ x2 = c) ∧ p = [] := by simpa using he.symm
    obtain ⟨⟨rfl, rfl, rfl⟩, -⟩ := h9
    rfl
theorem eff_cells {H : Type} {enc : TypeId × Value → H} {w : World} {base : Nat} {sp : Nat → Bool} {held : Bool} {fuel : Nat} {cs : List Value} {p : List MemPlace}
    (h : DataW.trod enc Tryd.prog w base sp held fuel 157 cs = some (.agg ((List.range 42).map fun op => .agg [.lit (.int .i64 ((ef op).1 : Int)), .lit (.int .i64 ((ef op).2.1 : Int)), .lit (.int .i64 ((ef op).2.2 : Int))]), p)) :
    ∀ op, op < 42 → cs[op * 3]? = some (.int .i64 ((ef op).1 : Int)) ∧ cs[op * 3 + 1]? = some (.int .i64 ((ef op).2.1 : Int)) ∧ cs[op * 3 + 2]? = some (.int .i64 ((ef op).2.2 : Int)) := by
  intro op ho
  cases fuel with
  | zero => simp [DataW.trod] at h
  | succ fuel =>
    simp only [DataW.trod, Tryd.underlying157, cellsEff, cellsEffs] at h
    split at h
    · obtain ⟨xs, hm, hx⟩ := Option.map_eq_some_iff.1 h
      obtain ⟨b, hb, hf⟩ := Lib.mapM_at hm op op (by simp [ho])
      have hxs : xs.map (·.1) = (List.range 42).map fun op => (DataW.agg [.lit (.int .i64 ((ef op).1 : Int)), .lit (.int .i64 ((ef op).2.1 : Int)), .lit (.int .i64 ((ef op).2.2 : Int))] : DataW H) := by
        have := congrArg Prod.fst hx
        exact DataW.agg.inj this
      have h2 : (xs.map (·.1))[op]? = some b.1 := by simp [hb]
      rw [hxs, List.getElem?_map, List.getElem?_range ho] at h2
      have h3 := (Option.some.inj h2).symm
      obtain ⟨b1, b2⟩ := b
      dsimp only at h3
      subst h3
      have h4 := eff_at hf
      have h5 : ∀ i, i < 3 → cs[op * 3 + i]? = [Value.int .i64 ((ef op).1 : Int), .int .i64 ((ef op).2.1 : Int), .int .i64 ((ef op).2.2 : Int)][i]? := fun i hi => by
        rw [← h4, List.getElem?_take, if_pos hi, List.getElem?_drop]
      exact ⟨h5 0 (by omega), h5 1 (by omega), h5 2 (by omega)⟩
    · cases h
/-- the row's condition gives the table -/
theorem ef_of {W : World} (h : laidMetH Tryd.prog [("winnow/verify.effects", Rows.laid_winnow_verify_effects)] W) : Ef W := by
  rw [MakeChecks.laidMetH_plain _ _ _ (by kernel_rfl)] at h
  obtain ⟨ps, ⟨g', t', cs, fuel, p, q, hg', ht', hvar, hd, -, -⟩, -⟩ := h
  obtain rfl : g' = 0 := Option.some.inj (hg'.symm.trans (show Tryd.prog.globalNamed "winnow/verify.effects" = some 0 by kernel_rfl))
  obtain rfl : t' = 157 := Option.some.inj (ht'.symm.trans (show (Tryd.prog.globals[0]?).map (·.type) = some 157 by kernel_rfl))
  rw [eff_list] at hd
  have hc := eff_cells hd
  have cell : ∀ i v, cs.toList[i]? = some v → W.cell? ⟨0, i, none⟩ = some v := fun i v hv => by
    rw [World.var?_cell hg' hvar i]
    simpa using hv
  refine ⟨?_, fun op ho => ⟨cell _ _ (hc op ho).1, cell _ _ (hc op ho).2.1, cell _ _ (hc op ho).2.2⟩⟩
  have h0 := cell _ _ (hc 0 (by omega)).1
  by_cases hz : 0 < W.heap.size
  · exact hz
  · have : W.heap[0]? = none := Array.getElem?_eq_none (by omega)
    simp [World.cell?, this] at h0
end Go.Proofs.YtelbakkgobkdaaaDoor.Vf
