import Derived.Test.YtcblichnkakhdaaDoorVfPure
import Derived.Test.YtcblichnkakhdaaDoorNmOwn
namespace Go.Proofs.YtcblichnkakhdaaDoor.Vf
open Go.RowKit Go.Proofs.YtcblichnkakhdaaDoor.Nm

/-- a list that can be read -/
def Rd (W : World) (o : Option Addr) (xs : List Value) : Prop := ∀ (k : Nat) (x : Value), xs[k]? = some x → ∃ g f, o = some ⟨g, f, none⟩ ∧ g < W.heap.size ∧ W.cell? ⟨g, f + k, none⟩ = some x
theorem Rd.below {W W' : World} {o : Option Addr} {ys : List Value} (h : Rd W o ys) (hb : Below W.heap.size W W') : Rd W' o ys := fun k x hx => by
  obtain ⟨g, f, e, h2, h3⟩ := h k x hx
  exact ⟨g, f, e, Nat.lt_of_lt_of_le h2 hb.size, (hb.cell (p := ⟨g, f + k, none⟩) h2).trans h3⟩
def vC (vs : List (Int × Int × Int)) : List Value := vs.flatMap fun x => [.int .i64 x.1, .int .i64 x.2.1, .int .i64 x.2.2]
def iC (l : List Int) : List Value := l.map fun n : Int => .int .i64 n
def bC (l : List Bool) : List Value := l.map fun g : Bool => .bool g
def cC (l : List Ins) : List Value := l.flatMap fun x => [.int .i64 x.op, .int .i64 x.a, .int .i64 x.b, .int .i64 x.c, .int .i64 x.d]
/-- where a program's lists lie -/
structure PV where
  qo : Option Addr
  qc : Nat
  vo : Option Addr
  vc : Nat
  to : Option Addr
  tc : Nat
  oo : Option Addr
  oc : Nat
  co : Option Addr
  cc : Nat
abbrev pvC (v : PV) (p : Pg) : Array Value := #[.slice v.qo p.gh.length v.qc, .slice v.vo p.vs.length v.vc, .slice v.to p.ts.length v.tc, .slice v.oo p.on.length v.oc, .int .i64 p.miss, .slice v.co p.cd.length v.cc]
structure IsPg (W : World) (v : PV) (p : Pg) : Prop where
  gh : Rd W v.qo (bC p.gh)
  vs : Rd W v.vo (vC p.vs)
  ts : Rd W v.to (iC p.ts)
  on : Rd W v.oo (iC p.on)
  cd : Rd W v.co (cC p.cd)
  lgh : p.gh.length ≤ 1000000000000000
  lvs : p.vs.length ≤ 1000000000000000
  lts : p.ts.length ≤ 1000000000000000
  lon : p.on.length ≤ 1000000000000000
  lcd : p.cd.length ≤ 1000000000000000
theorem IsPg.below {W W' : World} {v : PV} {p : Pg} (h : IsPg W v p) (hb : Below W.heap.size W W') : IsPg W' v p :=
  ⟨h.gh.below hb, h.vs.below hb, h.ts.below hb, h.on.below hb, h.cd.below hb, h.lgh, h.lvs, h.lts, h.lon, h.lcd⟩
theorem rd_int {W : World} {o : Option Addr} {l : List Int} (h : Rd W o (iC l)) {k : Nat} (hk : k < l.length) : ∃ g f, o = some ⟨g, f, none⟩ ∧ g < W.heap.size ∧ W.cell? ⟨g, f + k, none⟩ = some (.int .i64 l[k]) :=
  h k _ (by simp [iC, hk])
theorem rd_bool {W : World} {o : Option Addr} {l : List Bool} (h : Rd W o (bC l)) {k : Nat} (hk : k < l.length) : ∃ g f, o = some ⟨g, f, none⟩ ∧ g < W.heap.size ∧ W.cell? ⟨g, f + k, none⟩ = some (.bool l[k]) :=
  h k _ (by simp [bC, hk])
theorem vC_at {l : List (Int × Int × Int)} {k : Nat} (h : k < l.length) : (vC l)[k * 3]? = some (.int .i64 l[k].1) ∧ (vC l)[k * 3 + 1]? = some (.int .i64 l[k].2.1) ∧ (vC l)[k * 3 + 2]? = some (.int .i64 l[k].2.2) := by
  induction l generalizing k with
  | nil => simp at h
  | cons x l ih =>
    cases k with
    | zero => exact ⟨rfl, rfl, rfl⟩
    | succ k =>
      have e : vC (x :: l) = [.int .i64 x.1, .int .i64 x.2.1, .int .i64 x.2.2] ++ vC l := rfl
      have h1 := ih (k := k) (by simpa using h)
      have hs : ∀ i, ([.int .i64 x.1, .int .i64 x.2.1, .int .i64 x.2.2] ++ vC l)[k * 3 + 3 + i]? = (vC l)[k * 3 + i]? := fun i => by
        rw [List.getElem?_append_right (by simp; omega)]
        have : k * 3 + 3 + i - [Value.int .i64 x.1, .int .i64 x.2.1, .int .i64 x.2.2].length = k * 3 + i := by simp; omega
        rw [this]
      rw [e, show (k + 1) * 3 = k * 3 + 3 by omega]
      exact ⟨(hs 0).trans h1.1, (hs 1).trans h1.2.1, (hs 2).trans h1.2.2⟩
theorem cC_at {l : List Ins} {k : Nat} (h : k < l.length) : (cC l)[k * 5]? = some (.int .i64 l[k].op) ∧ (cC l)[k * 5 + 1]? = some (.int .i64 l[k].a) ∧ (cC l)[k * 5 + 2]? = some (.int .i64 l[k].b) ∧ (cC l)[k * 5 + 3]? = some (.int .i64 l[k].c) ∧ (cC l)[k * 5 + 4]? = some (.int .i64 l[k].d) := by
  induction l generalizing k with
  | nil => simp at h
  | cons x l ih =>
    cases k with
    | zero => exact ⟨rfl, rfl, rfl, rfl, rfl⟩
    | succ k =>
      have e : cC (x :: l) = [.int .i64 x.op, .int .i64 x.a, .int .i64 x.b, .int .i64 x.c, .int .i64 x.d] ++ cC l := rfl
      have h1 := ih (k := k) (by simpa using h)
      have hs : ∀ i, ([.int .i64 x.op, .int .i64 x.a, .int .i64 x.b, .int .i64 x.c, .int .i64 x.d] ++ cC l)[k * 5 + 5 + i]? = (cC l)[k * 5 + i]? := fun i => by
        rw [List.getElem?_append_right (by simp; omega)]
        have : k * 5 + 5 + i - [Value.int .i64 x.op, .int .i64 x.a, .int .i64 x.b, .int .i64 x.c, .int .i64 x.d].length = k * 5 + i := by simp; omega
        rw [this]
      rw [e, show (k + 1) * 5 = k * 5 + 5 by omega]
      exact ⟨(hs 0).trans h1.1, (hs 1).trans h1.2.1, (hs 2).trans h1.2.2.1, (hs 3).trans h1.2.2.2.1, (hs 4).trans h1.2.2.2.2⟩
theorem rd_var {W : World} {o : Option Addr} {l : List (Int × Int × Int)} (h : Rd W o (vC l)) {k : Nat} (hk : k < l.length) : ∃ g f, o = some ⟨g, f, none⟩ ∧ g < W.heap.size ∧ W.cell? ⟨g, f + k * 3, none⟩ = some (.int .i64 l[k].1) ∧ W.cell? ⟨g, f + k * 3 + 1, none⟩ = some (.int .i64 l[k].2.1) ∧ W.cell? ⟨g, f + k * 3 + 2, none⟩ = some (.int .i64 l[k].2.2) := by
  obtain ⟨e0, e1, e2⟩ := vC_at hk
  obtain ⟨g, f, rfl, hg, d0⟩ := h _ _ e0
  obtain ⟨g', f', e', _, d1⟩ := h _ _ e1
  cases e'
  obtain ⟨g', f', e', _, d2⟩ := h _ _ e2
  cases e'
  exact ⟨g, f, rfl, hg, d0, d1, d2⟩
theorem rd_ins {W : World} {o : Option Addr} {l : List Ins} (h : Rd W o (cC l)) {k : Nat} (hk : k < l.length) : ∃ g f, o = some ⟨g, f, none⟩ ∧ g < W.heap.size ∧ W.cell? ⟨g, f + k * 5, none⟩ = some (.int .i64 l[k].op) ∧ W.cell? ⟨g, f + k * 5 + 1, none⟩ = some (.int .i64 l[k].a) ∧ W.cell? ⟨g, f + k * 5 + 2, none⟩ = some (.int .i64 l[k].b) ∧ W.cell? ⟨g, f + k * 5 + 3, none⟩ = some (.int .i64 l[k].c) ∧ W.cell? ⟨g, f + k * 5 + 4, none⟩ = some (.int .i64 l[k].d) := by
  obtain ⟨e0, e1, e2, e3, e4⟩ := cC_at hk
  obtain ⟨g, f, rfl, hg, d0⟩ := h _ _ e0
  obtain ⟨g', f', e', _, d1⟩ := h _ _ e1
  cases e'
  obtain ⟨g', f', e', _, d2⟩ := h _ _ e2
  cases e'
  obtain ⟨g', f', e', _, d3⟩ := h _ _ e3
  cases e'
  obtain ⟨g', f', e', _, d4⟩ := h _ _ e4
  cases e'
  exact ⟨g, f, rfl, hg, d0, d1, d2, d3, d4⟩
theorem cell_of {W : World} {B i : Nat} {cs : List Value} {T : TypeId} {v : Value} (h : W.heap[B]? = some (.cells cs.toArray T (0, 0))) (hi : cs[i]? = some v) : W.cell? ⟨B, i, none⟩ = some v := by
  simp only [World.cell?, h]
  simpa using hi
theorem cells6 {W : World} {B : Nat} {v0 v1 v2 v3 v4 v5 : Value} {T : TypeId} (h : W.heap[B]? = some (.cells #[v0, v1, v2, v3, v4, v5] T (0, 0))) : W.cell? ⟨B, 0, none⟩ = some v0 ∧ W.cell? ⟨B, 1, none⟩ = some v1 ∧ W.cell? ⟨B, 2, none⟩ = some v2 ∧ W.cell? ⟨B, 3, none⟩ = some v3 ∧ W.cell? ⟨B, 4, none⟩ = some v4 ∧ W.cell? ⟨B, 5, none⟩ = some v5 :=
  ⟨cell_of (cs := [v0, v1, v2, v3, v4, v5]) h rfl, cell_of (cs := [v0, v1, v2, v3, v4, v5]) h rfl, cell_of (cs := [v0, v1, v2, v3, v4, v5]) h rfl, cell_of (cs := [v0, v1, v2, v3, v4, v5]) h rfl, cell_of (cs := [v0, v1, v2, v3, v4, v5]) h rfl, cell_of (cs := [v0, v1, v2, v3, v4, v5]) h rfl⟩
theorem blk_lt {W : World} {b : Nat} {o : Obj} (h : W.heap[b]? = some o) : b < W.heap.size := (Array.getElem?_eq_some_iff.1 h).1
theorem all_take {α : Type} {f : α → Bool} {l : List α} {j : Nat} (h : j < l.length) (ha : (l.take j).all f = true) (hf : f l[j] = true) : (l.take (j + 1)).all f = true := by
  rw [List.take_add_one, List.getElem?_eq_getElem h, List.all_append, ha]
  simpa using hf
theorem all_not {α : Type} {f : α → Bool} {l : List α} {j : Nat} (h : j < l.length) (hf : f l[j] = false) : l.all f = false := by
  rw [Bool.eq_false_iff]
  intro e
  rw [List.all_eq_true] at e
  have := e l[j] (List.getElem_mem h)
  rw [hf] at this
  cases this
end Go.Proofs.YtcblichnkakhdaaDoor.Vf
