import Derived.Test.YtelbakkgobkdaaaDoorVfChk
namespace Go.Proofs.YtelbakkgobkdaaaDoor.Vf
open Go.RowKit Go.Proofs.YtelbakkgobkdaaaDoor.Nm

theorem drN (w : World) (n : Nat) : Below w.heap.size w (w.drewN n) := Go.Proofs.YtelbakkgobkdaaaDoor.Nm.below_drewN w n
/-- a standing's cells -/
def sdC : Option Sd → List Value
  | none => [.int .i64 0, .int .u64 0, .int .u64 0, .int .u64 0, .int .u64 0, .bool false, .int .i64 0, .int .i64 0]
  | some s => [.int .i64 (s.ty.length : Int), .int .u64 (wd s.ty 0 : Int), .int .u64 (wd s.ty 1 : Int), .int .u64 (wd s.ty 2 : Int), .int .u64 (wd s.ty 3 : Int), .bool true, .int .i64 (s.hand : Int), .int .i64 s.turn]
def gotC (n : Nat) (g : Nat → Option Sd) : List Value := (List.range n).flatMap fun k => sdC (g k)
theorem sdC_len (s : Option Sd) : (sdC s).length = 8 := by cases s <;> rfl
theorem flat8 {α : Type} (f : α → List Value) (hf : ∀ x, (f x).length = 8) : ∀ (l : List α) (k i : Nat) (h : k < l.length), i < 8 → (l.flatMap f)[k * 8 + i]? = (f l[k])[i]?
  | [], _, _, h, _ => absurd h (by simp)
  | x :: l, 0, i, _, hi => by
    rw [List.flatMap_cons, List.getElem?_append_left (by rw [hf]; omega)]
    simp
  | x :: l, k + 1, i, h, hi => by
    rw [List.flatMap_cons, List.getElem?_append_right (by rw [hf]; omega), hf, show (k + 1) * 8 + i - 8 = k * 8 + i by omega, flat8 f hf l k i (by simpa using h) hi]
    rfl
theorem gotC_at {n k i : Nat} {g : Nat → Option Sd} (h : k < n) (hi : i < 8) : (gotC n g)[k * 8 + i]? = (sdC (g k))[i]? := by
  unfold gotC
  rw [flat8 _ (fun x => sdC_len _) _ _ _ (by simpa using h) hi]
  simp
theorem gotC_len (n : Nat) (g : Nat → Option Sd) : (gotC n g).length = n * 8 := by
  induction n with
  | zero => rfl
  | succ n ih =>
    unfold gotC at *
    rw [List.range_succ, List.flatMap_append, List.length_append, ih, List.flatMap_singleton, sdC_len]
    omega
/-- the walker -/
structure Wk (W : World) (wb gb : Nat) (v : PV) (p : Pg) (eo : Option Addr) (ec gc : Nat) (g : Nat → Option Sd) : Prop where
  hw : W.heap[wb]? = some (.cells #[.slice v.qo p.gh.length v.qc, .slice v.vo p.vs.length v.vc, .slice v.to p.ts.length v.tc, .slice v.oo p.on.length v.oc, .int .i64 p.miss, .slice v.co p.cd.length v.cc, .slice eo (p.on.length + 1) ec, .slice (some ⟨gb, 0, none⟩) p.cd.length gc] 87 (0, 0))
  pg : IsPg W v p
  ev : Rd W eo (iC (evs p))
  gt : W.heap[gb]? = some (.cells (gotC p.cd.length g).toArray 71 (0, 0))
theorem Wk.below {W W' : World} {wb gb : Nat} {v : PV} {p : Pg} {eo : Option Addr} {ec gc : Nat} {g : Nat → Option Sd} (h : Wk W wb gb v p eo ec gc g) (hb : Below W.heap.size W W') : Wk W' wb gb v p eo ec gc g :=
  ⟨(hb.block _ (blk_lt h.hw)).trans h.hw, h.pg.below hb, h.ev.below hb, (hb.block _ (blk_lt h.gt)).trans h.gt⟩
theorem cells8 {W : World} {B : Nat} {v0 v1 v2 v3 v4 v5 v6 v7 : Value} {T : TypeId} (h : W.heap[B]? = some (.cells #[v0, v1, v2, v3, v4, v5, v6, v7] T (0, 0))) : W.cell? ⟨B, 0, none⟩ = some v0 ∧ W.cell? ⟨B, 1, none⟩ = some v1 ∧ W.cell? ⟨B, 2, none⟩ = some v2 ∧ W.cell? ⟨B, 3, none⟩ = some v3 ∧ W.cell? ⟨B, 4, none⟩ = some v4 ∧ W.cell? ⟨B, 5, none⟩ = some v5 ∧ W.cell? ⟨B, 6, none⟩ = some v6 ∧ W.cell? ⟨B, 7, none⟩ = some v7 :=
  ⟨cell_of (cs := [v0, v1, v2, v3, v4, v5, v6, v7]) h rfl, cell_of (cs := [v0, v1, v2, v3, v4, v5, v6, v7]) h rfl, cell_of (cs := [v0, v1, v2, v3, v4, v5, v6, v7]) h rfl, cell_of (cs := [v0, v1, v2, v3, v4, v5, v6, v7]) h rfl, cell_of (cs := [v0, v1, v2, v3, v4, v5, v6, v7]) h rfl, cell_of (cs := [v0, v1, v2, v3, v4, v5, v6, v7]) h rfl, cell_of (cs := [v0, v1, v2, v3, v4, v5, v6, v7]) h rfl, cell_of (cs := [v0, v1, v2, v3, v4, v5, v6, v7]) h rfl⟩
/-- a place's standing is read -/
theorem Wk.isS {W : World} {wb gb : Nat} {v : PV} {p : Pg} {eo : Option Addr} {ec gc : Nat} {g : Nat → Option Sd} (h : Wk W wb gb v p eo ec gc g) {k : Nat} (hk : k < p.cd.length) {s : Sd} (hs : g k = some s) :
    W.cell? ⟨gb, k * 8, none⟩ = some (.int .i64 (s.ty.length : Int)) ∧ W.cell? ⟨gb, k * 8 + 1, none⟩ = some (.int .u64 (wd s.ty 0 : Int)) ∧ W.cell? ⟨gb, k * 8 + 2, none⟩ = some (.int .u64 (wd s.ty 1 : Int)) ∧ W.cell? ⟨gb, k * 8 + 3, none⟩ = some (.int .u64 (wd s.ty 2 : Int)) ∧ W.cell? ⟨gb, k * 8 + 4, none⟩ = some (.int .u64 (wd s.ty 3 : Int)) ∧ W.cell? ⟨gb, k * 8 + 5, none⟩ = some (.bool true) ∧ W.cell? ⟨gb, k * 8 + 6, none⟩ = some (.int .i64 (s.hand : Int)) ∧ W.cell? ⟨gb, k * 8 + 7, none⟩ = some (.int .i64 s.turn) := by
  have e : ∀ i, i < 8 → (gotC p.cd.length g)[k * 8 + i]? = (sdC (some s))[i]? := fun i hi => by rw [gotC_at hk hi, hs]
  exact ⟨cell_of h.gt (e 0 (by omega)), cell_of h.gt (e 1 (by omega)), cell_of h.gt (e 2 (by omega)), cell_of h.gt (e 3 (by omega)), cell_of h.gt (e 4 (by omega)), cell_of h.gt (e 5 (by omega)), cell_of h.gt (e 6 (by omega)), cell_of h.gt (e 7 (by omega))⟩
theorem Wk.isN {W : World} {wb gb : Nat} {v : PV} {p : Pg} {eo : Option Addr} {ec gc : Nat} {g : Nat → Option Sd} (h : Wk W wb gb v p eo ec gc g) {k : Nat} (hk : k < p.cd.length) (hs : g k = none) :
    W.cell? ⟨gb, k * 8, none⟩ = some (.int .i64 0) ∧ W.cell? ⟨gb, k * 8 + 1, none⟩ = some (.int .u64 0) ∧ W.cell? ⟨gb, k * 8 + 2, none⟩ = some (.int .u64 0) ∧ W.cell? ⟨gb, k * 8 + 3, none⟩ = some (.int .u64 0) ∧ W.cell? ⟨gb, k * 8 + 4, none⟩ = some (.int .u64 0) ∧ W.cell? ⟨gb, k * 8 + 5, none⟩ = some (.bool false) ∧ W.cell? ⟨gb, k * 8 + 6, none⟩ = some (.int .i64 0) ∧ W.cell? ⟨gb, k * 8 + 7, none⟩ = some (.int .i64 0) := by
  have e : ∀ i, i < 8 → (gotC p.cd.length g)[k * 8 + i]? = (sdC none)[i]? := fun i hi => by rw [gotC_at hk hi, hs]
  exact ⟨cell_of h.gt (e 0 (by omega)), cell_of h.gt (e 1 (by omega)), cell_of h.gt (e 2 (by omega)), cell_of h.gt (e 3 (by omega)), cell_of h.gt (e 4 (by omega)), cell_of h.gt (e 5 (by omega)), cell_of h.gt (e 6 (by omega)), cell_of h.gt (e 7 (by omega))⟩
theorem at_eq {p : Pg} {k : Nat} (h : k < p.cd.length) : p.at k = p.cd[k] := by unfold Pg.at; simp [h]
set_option maxHeartbeats 3200000 in
set_option maxRecDepth 100000 in
/-- isTurn -/
theorem turn_any {w : World} {wb gb : Nat} {v : PV} {p : Pg} {eo : Option Addr} {ec gc : Nat} {g : Nat → Option Sd} (h : Wk w wb gb v p eo ec gc g) (n : Nat) :
    Calls Tryd.prog 90 #[.pointer (some ⟨wb, 0, none⟩), .int .i64 (n : Int)] w fun e w' => e = .returned (.bool (isTurn p (n : Int))) ∧ w' = w := by
  obtain ⟨qo, qc, vo, vc, to, tc, oo, oc, co, cc⟩ := v
  obtain ⟨c0, c1, c2, c3, c4, c5, c6, c7⟩ := cells8 h.hw
  have n3 : (p.cd.length : Int) ≤ 1000000000000000 := by have := h.pg.lcd; omega
  dsimp only at c5
  by_cases hlt : n < p.cd.length
  · have hlt' : (n : Int) < (p.cd.length : Int) := by omega
    obtain ⟨g1, f1, hvo, hg, d0, d1, d2, d3, d4⟩ := rd_ins h.pg.cd hlt
    obtain rfl : co = some ⟨g1, f1, none⟩ := hvo
    have hr : isTurn p (n : Int) = (p.cd[n].op == 25) := by
      unfold isTurn
      rw [decide_eq_true hlt', Int.toNat_natCast, at_eq hlt, Bool.true_and]
      rfl
    rw [hr]
    generalize p.cd[n].op = y0 at *
    clear hr hlt c0 c1 c2 c3 c4 c6 c7 hg h d1 d2 d3 d4
    go_enter Tryd.func90, Tryd.ntmps90
    go_wp2_with fail
    go_ret
    exact ⟨rfl, rfl⟩
  · have hlt' : ¬ (n : Int) < (p.cd.length : Int) := by omega
    have hr : isTurn p (n : Int) = false := by
      unfold isTurn
      rw [decide_eq_false hlt', Bool.false_and]
    rw [hr]
    clear hr hlt c0 c1 c2 c3 c4 c6 c7 h
    go_enter Tryd.func90, Tryd.ntmps90
    go_wp2_with fail
    go_ret
    exact ⟨rfl, rfl⟩
set_option maxHeartbeats 3200000 in
set_option maxRecDepth 100000 in
/-- mayGoTo -/
theorem goTo_any {w : World} {wb gb : Nat} {v : PV} {p : Pg} {eo : Option Addr} {ec gc : Nat} {g : Nat → Option Sd} (h : Wk w wb gb v p eo ec gc g) (i n : Nat) :
    Calls Tryd.prog 89 #[.pointer (some ⟨wb, 0, none⟩), .int .i64 (i : Int), .int .i64 (n : Int)] w fun e w' => e = .returned (.bool (goTo p i (n : Int))) ∧ w' = w := by
  have HT : Hid (Calls Tryd.prog 90 #[.pointer (some ⟨wb, 0, none⟩), .int .i64 (n : Int)] w fun e w' => e = .returned (.bool (isTurn p (n : Int))) ∧ w' = w) := turn_any h n
  unfold goTo
  generalize isTurn p (n : Int) = t at *
  by_cases hlt : i < n
  · have hlt' : (i : Int) < (n : Int) := by omega
    rw [decide_eq_true hlt', Bool.true_and]
    clear hlt h
    go_enter Tryd.func89, Tryd.ntmps89
    go_wp2_with fail
    refine Calls.mono HT.out ?_
    rintro e w1 ⟨rfl, rfl⟩
    go_wp2_with fail
    go_ret
    exact ⟨rfl, rfl⟩
  · have hlt' : ¬ (i : Int) < (n : Int) := by omega
    rw [decide_eq_false hlt', Bool.false_and]
    clear hlt h
    go_enter Tryd.func89, Tryd.ntmps89
    go_wp2_with fail
    go_ret
    exact ⟨rfl, rfl⟩
end Go.Proofs.YtelbakkgobkdaaaDoor.Vf
