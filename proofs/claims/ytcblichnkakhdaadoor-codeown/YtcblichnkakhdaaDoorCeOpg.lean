import Derived.Test.YtcblichnkakhdaaDoorVfOpn
import Derived.Lib.SmallJoins
import Derived.Deep.SlicePairs
import Derived.SizedLaws
namespace Go.Proofs.YtcblichnkakhdaaDoor.Vf
open Go.ChangeShapes Go.WideShapes Go.ChangeAt Go.RowKit Go.Deep Go.Proofs.YtcblichnkakhdaaDoor.Nm

theorem flatN {α : Type} (sz : Nat) (f : α → List Value) (hf : ∀ x, (f x).length = sz) : ∀ (l : List α) (k i : Nat) (h : k < l.length), i < sz → (l.flatMap f)[k * sz + i]? = (f l[k])[i]?
  | [], _, _, h, _ => absurd h (by simp)
  | x :: l, 0, i, _, hi => by
    rw [List.flatMap_cons, List.getElem?_append_left (by rw [hf]; omega)]
    simp
  | x :: l, k + 1, i, h, hi => by
    rw [List.flatMap_cons, List.getElem?_append_right (by rw [hf, Nat.add_mul]; omega), hf, show (k + 1) * sz + i - sz = k * sz + i by rw [Nat.add_mul]; omega, flatN sz f hf l k i (by simpa using h) hi]
    rfl
theorem flat_len {α : Type} (sz : Nat) (f : α → List Value) (hf : ∀ x, (f x).length = sz) (l : List α) : (l.flatMap f).length = l.length * sz := by
  induction l with
  | nil => simp
  | cons x l ih => rw [List.flatMap_cons, List.length_append, hf, ih, List.length_cons, Nat.add_mul]; omega
section
variable {H : Type} {enc : TypeId × Value → H} {W : World}
/-- a slice in a cell -/
theorem slice_shape {t e : TypeId} {n : Nat} {a : Value} {y : DataW H × List MemPlace} (ht : Tryd.prog.underlying t = some (.slice e)) (h : DataW.trod enc Tryd.prog W 0 (fun _ => true) true n t [a] = some y) :
    ∃ ao len cap, a = .slice ao len cap ∧ DataW.Trod enc Tryd.prog W 0 (fun _ => true) true t (.slice ao len cap) y.1 y.2 := by
  rcases open_slice ht h with ⟨hcs, _⟩ | ⟨x, l, c, m, k, D, Pl, hcs, _⟩
  · cases hcs
    exact ⟨none, 0, 0, rfl, n, by simpa [Value.cells] using h⟩
  · cases hcs
    exact ⟨some x, l, c, rfl, n, by simpa [Value.cells] using h⟩
theorem slice_len {t e : TypeId} {a : Option Addr} {len cap : Nat} {d : DataW H} {p : List MemPlace} (ht : Tryd.prog.underlying t = some (.slice e)) (h : DataW.Trod enc Tryd.prog W 0 (fun _ => true) true t (.slice a len cap) d p) : len = 0 ∨ ∃ el sp, d = .slice el sp ∧ el.length = len := by
  obtain ⟨fuel, hf⟩ := h
  rcases open_slice ht hf with ⟨hcs, _⟩ | ⟨x, l, c, m, n, D, Pl, hcs, _, _, _, _, hx, _⟩
  · simp [Value.cells] at hcs
    exact Or.inl hcs.2.1
  · simp [Value.cells] at hcs
    obtain ⟨rfl, rfl, rfl⟩ := hcs
    cases hx
    exact Or.inr ⟨_, _, rfl, by simp⟩
/-- a slice of elements of several cells, each read as C says -/
theorem open_rowsV {α : Type} [Inhabited α] {t e : TypeId} {sz : Nat} (C : α → List Value) (hC : ∀ x, (C x).length = sz) (hs : 0 < sz) (ht : Tryd.prog.underlying t = some (.slice e)) (hce : Tryd.prog.cellsOf e = sz)
    (hone : ∀ (n : Nat) (cs : List Value) (y : DataW H × List MemPlace), DataW.trod enc Tryd.prog W 0 (fun _ => true) true n e cs = some y → ∃ x, cs = C x)
    {a : Option Addr} {len cap : Nat} {d : DataW H} {p : List MemPlace} (h : DataW.Trod enc Tryd.prog W 0 (fun _ => true) true t (.slice a len cap) d p) :
    ∃ l : List α, len = l.length ∧ Rd W a (l.flatMap C) ∧ l.length ≤ maxLen := by
  obtain ⟨fuel, hf⟩ := h
  rcases open_slice ht hf with ⟨hcs, _⟩ | ⟨x, l, c, m, n, D, Pl, hcs, _, hl, hm, hmm, hx, hcell⟩
  · simp [Value.cells] at hcs
    obtain ⟨rfl, rfl, rfl⟩ := hcs
    exact ⟨[], rfl, fun k x hx => by simp at hx, Nat.zero_le _⟩
  · simp [Value.cells] at hcs
    obtain ⟨rfl, rfl, rfl⟩ := hcs
    simp only [if_true] at hmm
    subst hmm
    have each : ∀ i, i < len → ∃ r : α, W.cells? 0 (x.add (i * sz)) sz = some (C r) := by
      intro i hi
      obtain ⟨cs', h1, h2⟩ := hcell i (by omega)
      obtain ⟨r, rfl⟩ := hone _ _ _ h2
      rw [hce] at h1
      exact ⟨r, h1⟩
    obtain ⟨q, hq⟩ := choose_lt each
    refine ⟨(List.range len).map q, by simp, fun k v hv => ?_, by simp; omega⟩
    have hk : k < (((List.range len).map q).flatMap C).length := (List.getElem?_eq_some_iff.1 hv).1
    rw [flat_len sz C hC, List.length_map, List.length_range] at hk
    have hki : k / sz < len := Nat.div_lt_of_lt_mul (by rwa [Nat.mul_comm] at hk)
    have hkr : k % sz < sz := Nat.mod_lt _ hs
    have hpos : 0 < len := Nat.lt_of_le_of_lt (Nat.zero_le _) hki
    have hke : k / sz * sz + k % sz = k := by rw [Nat.mul_comm]; exact Nat.div_add_mod k sz
    rw [← hke, flatN sz C hC _ (k / sz) (k % sz) (by simpa using hki) hkr] at hv
    simp only [List.getElem_map, List.getElem_range] at hv
    obtain ⟨_, hlen, hc⟩ := World.cells?_some (hq _ hki)
    obtain ⟨b, off, spot⟩ := x
    have hspot : spot = none := by
      obtain ⟨_, _, gc⟩ := World.cells?_some (hq 0 hpos)
      have g0 := gc 0 (by omega)
      have hz : (C (q 0))[0]? = some ((C (q 0))[0]'(by rw [hC]; exact hs)) := List.getElem?_eq_getElem _
      rw [hz] at g0
      simp [Addr.add] at g0
      simpa [Addr.add] using World.cell?_spot g0
    subst hspot
    have e0 := hc (k % sz) hkr
    rw [add_add, Lib.addr_add, hv] at e0
    refine ⟨b, off, rfl, World.block_lt_of_cell? W _ e0, ?_⟩
    rw [hke] at e0
    exact e0
theorem cellsInt : Tryd.prog.cellsOf 3 = 1 := by kernel_rfl
theorem cellsPg : Tryd.prog.cellsOf 29 = 6 := by kernel_rfl
theorem cellsBs : Tryd.prog.cellsOf 24 = 1 := by kernel_rfl
theorem cellsVs : Tryd.prog.cellsOf 25 = 1 := by kernel_rfl
theorem cellsIs : Tryd.prog.cellsOf 26 = 1 := by kernel_rfl
theorem cellsCs : Tryd.prog.cellsOf 27 = 1 := by kernel_rfl
theorem cellsBo : Tryd.prog.cellsOf 4 = 1 := by kernel_rfl
theorem cellsVa : Tryd.prog.cellsOf 60 = 3 := by kernel_rfl
theorem cellsIn : Tryd.prog.cellsOf 64 = 5 := by kernel_rfl
theorem six {α : Type} {l : List α} (h : l.length = 6) : ∃ a b c d e f, l = [a, b, c, d, e, f] := by
  match l, h with
  | [a, b, c, d, e, f], _ => exact ⟨a, b, c, d, e, f, rfl⟩
theorem five {α : Type} {l : List α} (h : l.length = 5) : ∃ a b c d e, l = [a, b, c, d, e] := by
  match l, h with
  | [a, b, c, d, e], _ => exact ⟨a, b, c, d, e, rfl⟩
theorem three {α : Type} {l : List α} (h : l.length = 3) : ∃ a b c, l = [a, b, c] := by
  match l, h with
  | [a, b, c], _ => exact ⟨a, b, c, rfl⟩
theorem one_bool (n : Nat) (cs : List Value) (y : DataW H × List MemPlace) (h : DataW.trod enc Tryd.prog W 0 (fun _ => true) true n 4 cs = some y) : ∃ b : Bool, cs = [.bool b] := by
  obtain ⟨b, e, _⟩ := DataW.trod_bool Tryd.underlying4 h
  exact ⟨b, e⟩
theorem one_var (n : Nat) (cs : List Value) (y : DataW H × List MemPlace) (h : DataW.trod enc Tryd.prog W 0 (fun _ => true) true n 60 cs = some y) : ∃ x : Int × Int × Int, cs = [.int .i64 x.1, .int .i64 x.2.1, .int .i64 x.2.2] := by
  obtain ⟨xs, k, hk, hxy, hl, hxl, hf⟩ := DataW.trod_struct Tryd.underlying60 h
  rw [cellsVa] at hl
  obtain ⟨v0, v1, v2, rfl⟩ := three hl
  have hxl3 : xs.length = 3 := hxl
  obtain ⟨y0, y1, y2, rfl⟩ := three hxl3
  have g0 := hf 0 _ rfl
  have g1 := hf 1 _ rfl
  have g2 := hf 2 _ rfl
  simp [cellsInt] at g0 g1 g2
  obtain ⟨a0, e0, -, -⟩ := DataW.trod_int Tryd.underlying3 g0
  obtain ⟨a1, e1, -, -⟩ := DataW.trod_int Tryd.underlying3 g1
  obtain ⟨a2, e2, -, -⟩ := DataW.trod_int Tryd.underlying3 g2
  simp only [List.cons.injEq, and_true] at e0 e1 e2
  subst e0 e1 e2
  exact ⟨(a0, a1, a2), rfl⟩
theorem one_ins (n : Nat) (cs : List Value) (y : DataW H × List MemPlace) (h : DataW.trod enc Tryd.prog W 0 (fun _ => true) true n 64 cs = some y) : ∃ x : Ins, cs = [.int .i64 x.op, .int .i64 x.a, .int .i64 x.b, .int .i64 x.c, .int .i64 x.d] := by
  obtain ⟨xs, k, hk, hxy, hl, hxl, hf⟩ := DataW.trod_struct Tryd.underlying64 h
  rw [cellsIn] at hl
  obtain ⟨v0, v1, v2, v3, v4, rfl⟩ := five hl
  have hxl5 : xs.length = 5 := hxl
  obtain ⟨y0, y1, y2, y3, y4, rfl⟩ := five hxl5
  have g0 := hf 0 _ rfl
  have g1 := hf 1 _ rfl
  have g2 := hf 2 _ rfl
  have g3 := hf 3 _ rfl
  have g4 := hf 4 _ rfl
  simp [cellsInt] at g0 g1 g2 g3 g4
  obtain ⟨a0, e0, -, -⟩ := DataW.trod_int Tryd.underlying3 g0
  obtain ⟨a1, e1, -, -⟩ := DataW.trod_int Tryd.underlying3 g1
  obtain ⟨a2, e2, -, -⟩ := DataW.trod_int Tryd.underlying3 g2
  obtain ⟨a3, e3, -, -⟩ := DataW.trod_int Tryd.underlying3 g3
  obtain ⟨a4, e4, -, -⟩ := DataW.trod_int Tryd.underlying3 g4
  simp only [List.cons.injEq, and_true] at e0 e1 e2 e3 e4
  subst e0 e1 e2 e3 e4
  exact ⟨⟨a0, a1, a2, a3, a4⟩, rfl⟩
set_option maxRecDepth 100000 in
/-- a program that is handed in -/
theorem open_progL {base : Nat} {v : Value} {d : DataW H} {pl : List MemPlace} (hv : Value.okWide Tryd.prog W .any base 29 v) (h : DataW.Trod enc Tryd.prog W 0 (fun _ => true) true 29 v d pl) :
    ∃ (w : PV) (p : Pg) (d0 d1 d2 d3 d4 d5 : DataW H), v = .agg (pvC w p) ∧ (Rd W w.qo (bC p.gh) ∧ Rd W w.vo (vC p.vs) ∧ Rd W w.to (iC p.ts) ∧ Rd W w.oo (iC p.on) ∧ Rd W w.co (cC p.cd)) ∧ d = .agg [d0, d1, d2, d3, d4, d5] ∧
      (p.gh.length = 0 ∨ ∃ el sp, d0 = .slice el sp ∧ el.length = p.gh.length) ∧ (p.vs.length = 0 ∨ ∃ el sp, d1 = .slice el sp ∧ el.length = p.vs.length) ∧ (p.ts.length = 0 ∨ ∃ el sp, d2 = .slice el sp ∧ el.length = p.ts.length) ∧ (p.on.length = 0 ∨ ∃ el sp, d3 = .slice el sp ∧ el.length = p.on.length) ∧ (p.cd.length = 0 ∨ ∃ el sp, d5 = .slice el sp ∧ el.length = p.cd.length) := by
  obtain ⟨cs, rfl, hcs⟩ := okWide_struct Tryd.underlying29 hv
  obtain ⟨fuel, hf⟩ := h
  obtain ⟨xs, n, _, hxy, hl, hxl, hfs⟩ := DataW.trod_struct Tryd.underlying29 hf
  have hc : (Value.agg cs).cells = cs := rfl
  rw [hc] at hl hfs
  rw [cellsPg] at hl
  have hxl6 : xs.length = 6 := hxl
  obtain ⟨y0, y1, y2, y3, y4, y5, rfl⟩ := six hxl6
  obtain ⟨a0, a1, a2, a3, a4, a5, hcl⟩ := six hl
  rw [hcl] at hfs
  have g0 := hfs 0 _ rfl
  have g1 := hfs 1 _ rfl
  have g2 := hfs 2 _ rfl
  have g3 := hfs 3 _ rfl
  have g4 := hfs 4 _ rfl
  have g5 := hfs 5 _ rfl
  simp [cellsBs, cellsVs, cellsIs, cellsCs, cellsInt] at g0 g1 g2 g3 g4 g5
  obtain ⟨qo, n0, qc, rfl, t0⟩ := slice_shape Tryd.underlying24 g0
  obtain ⟨vo, n1, vc, rfl, t1⟩ := slice_shape Tryd.underlying25 g1
  obtain ⟨tto, n2, tc, rfl, t2⟩ := slice_shape Tryd.underlying26 g2
  obtain ⟨oo, n3, oc, rfl, t3⟩ := slice_shape Tryd.underlying26 g3
  obtain ⟨ms, e4, -, -⟩ := DataW.trod_int Tryd.underlying3 g4
  obtain ⟨co, n5, cc, rfl, t5⟩ := slice_shape Tryd.underlying27 g5
  have q0 := slice_len Tryd.underlying24 t0
  have q1 := slice_len Tryd.underlying25 t1
  have q2 := slice_len Tryd.underlying26 t2
  have q3 := slice_len Tryd.underlying26 t3
  have q5 := slice_len Tryd.underlying27 t5
  haveI : Inhabited Ins := ⟨Ins.zero⟩
  obtain ⟨l0, rfl, r0, -⟩ := open_rowsV (fun b : Bool => [.bool b]) (fun _ => rfl) (by decide) Tryd.underlying24 cellsBo one_bool t0
  obtain ⟨l1, rfl, r1, -⟩ := open_rowsV (fun x : Int × Int × Int => [.int .i64 x.1, .int .i64 x.2.1, .int .i64 x.2.2]) (fun _ => rfl) (by decide) Tryd.underlying25 cellsVa one_var t1
  obtain ⟨l2, rfl, r2, -, -⟩ := open_intsV t2
  obtain ⟨l3, rfl, r3, -, -⟩ := open_intsV t3
  obtain ⟨l5, rfl, r5, -⟩ := open_rowsV (fun x : Ins => [.int .i64 x.op, .int .i64 x.a, .int .i64 x.b, .int .i64 x.c, .int .i64 x.d]) (fun _ => rfl) (by decide) Tryd.underlying27 cellsIn one_ins t5
  simp only [List.cons.injEq, and_true] at e4
  subst e4
  simp only [Prod.mk.injEq, List.map_cons, List.map_nil] at hxy
  refine ⟨⟨qo, qc, vo, vc, tto, tc, oo, oc, co, cc⟩, ⟨l0, l1, l2, l3, ms, l5⟩, y0.1, y1.1, y2.1, y3.1, y4.1, y5.1, ?_, ⟨?_, r1, r2, r3, r5⟩, hxy.1, q0, q1, q2, q3, q5⟩
  · have ha : cs = #[.slice qo l0.length qc, .slice vo l1.length vc, .slice tto l2.length tc, .slice oo l3.length oc, .int .i64 ms, .slice co l5.length cc] := by
      apply Array.toList_inj.1
      exact hcl
    rw [ha]
  · have e : bC l0 = l0.flatMap fun b : Bool => [.bool b] := List.map_eq_flatMap
    show Rd W qo (bC l0)
    rw [e]
    exact r0
theorem bytesBo : Tryd.prog.bytesOf 4 = 1 := by kernel_rfl
theorem bytesVa : Tryd.prog.bytesOf 60 = 24 := by kernel_rfl
theorem bytesIt : Tryd.prog.bytesOf 3 = 8 := by kernel_rfl
theorem bytesIn : Tryd.prog.bytesOf 64 = 40 := by kernel_rfl
theorem bytesU8 : Tryd.prog.bytesOf 5 = 1 := by kernel_rfl
theorem len_reach {ts : List TypeId} {ds : List (DataW H)} (hs : (DataW.weightsEach Tryd.prog ts ds).all (· ≤ reachBytes) = true) {j : Nat} {t e : TypeId} {d : DataW H} {n : Nat} (ht : ts[j]? = some t) (hd : ds[j]? = some d) (hu : Tryd.prog.underlying t = some (.slice e)) (h : n = 0 ∨ ∃ el sp, d = .slice el sp ∧ el.length = n) : n * Tryd.prog.bytesOf e ≤ 140737488351232 := by
  rcases h with rfl | ⟨el, sp, rfl, rfl⟩
  · simp
  · have := sized_slice hs ht hd hu
    simp only [reachBytes] at this
    exact Nat.le_trans (Nat.mul_le_mul_right _ (Nat.le_add_right _ _)) this
set_option maxRecDepth 100000 in
/-- what the form's own reach tells of a program -/
theorem prog_is {ts : List TypeId} {ds : List (DataW H)} (hsz : (DataW.weightsEach Tryd.prog ts ds).all (· ≤ reachBytes) = true) {j : Nat} {w : PV} {p : Pg} {d0 d1 d2 d3 d4 d5 : DataW H} (ht : ts[j]? = some 29) (hd : ds[j]? = some (.agg [d0, d1, d2, d3, d4, d5])) (hr : Rd W w.qo (bC p.gh) ∧ Rd W w.vo (vC p.vs) ∧ Rd W w.to (iC p.ts) ∧ Rd W w.oo (iC p.on) ∧ Rd W w.co (cC p.cd))
    (h0 : p.gh.length = 0 ∨ ∃ el sp, d0 = .slice el sp ∧ el.length = p.gh.length) (h1 : p.vs.length = 0 ∨ ∃ el sp, d1 = .slice el sp ∧ el.length = p.vs.length) (h2 : p.ts.length = 0 ∨ ∃ el sp, d2 = .slice el sp ∧ el.length = p.ts.length) (h3 : p.on.length = 0 ∨ ∃ el sp, d3 = .slice el sp ∧ el.length = p.on.length) (h5 : p.cd.length = 0 ∨ ∃ el sp, d5 = .slice el sp ∧ el.length = p.cd.length) :
    IsPg W w p ∧ p.gh.length ≤ 140737488351232 ∧ p.vs.length * 24 ≤ 140737488351232 ∧ p.ts.length * 8 ≤ 140737488351232 ∧ p.on.length * 8 ≤ 140737488351232 ∧ p.cd.length * 40 ≤ 140737488351232 := by
  have hs : (DataW.weightsEach Tryd.prog [24, 25, 26, 26, 3, 27] [d0, d1, d2, d3, d4, d5]).all (· ≤ reachBytes) = true := by
    refine List.all_eq_true.2 fun x hx => ?_
    refine List.all_eq_true.1 hsz x (DataW.weights_mem_each ht hd x ?_)
    simpa [DataW.weights, Tryd.underlying29] using hx
  have b0 := len_reach hs (j := 0) rfl rfl Tryd.underlying24 h0
  have b1 := len_reach hs (j := 1) rfl rfl Tryd.underlying25 h1
  have b2 := len_reach hs (j := 2) rfl rfl Tryd.underlying26 h2
  have b3 := len_reach hs (j := 3) rfl rfl Tryd.underlying26 h3
  have b5 := len_reach hs (j := 5) rfl rfl Tryd.underlying27 h5
  rw [bytesBo] at b0
  rw [bytesVa] at b1
  rw [bytesIt] at b2 b3
  rw [bytesIn] at b5
  obtain ⟨r0, r1, r2, r3, r5⟩ := hr
  exact ⟨⟨r0, r1, r2, r3, r5, by omega, by omega, by omega, by omega, by omega⟩, by omega, b1, b2, b3, b5⟩
/-- bytes that are handed in -/
theorem open_bytesV {a : Option Addr} {len cap : Nat} {d : DataW H} {p : List MemPlace} (h : DataW.Trod enc Tryd.prog W 0 (fun _ => true) true 22 (.slice a len cap) d p) :
    ∃ l : List Nat, len = l.length ∧ Rd W a (l.map fun x : Nat => Value.int .u8 (x : Int)) ∧ ∀ n ∈ l, n < 256 := by
  obtain ⟨fuel, hf⟩ := h
  rcases open_ints Tryd.underlying22 Tryd.underlying5 (by kernel_rfl) hf with ⟨hcs, hx⟩ | ⟨x, l, c, zs, hcs, _, hl, hm, hz, hx, hcell, hwz⟩
  · simp [Value.cells] at hcs
    obtain ⟨rfl, rfl, rfl⟩ := hcs
    exact ⟨[], rfl, fun k x hx => by simp at hx, fun n hn => by cases hn⟩
  · simp [Value.cells] at hcs
    obtain ⟨rfl, rfl, rfl⟩ := hcs
    simp at hz
    have hzb : ∀ n ∈ zs, 0 ≤ n ∧ n ≤ 255 := fun n hn => bounds_u8 (hwz n hn)
    refine ⟨(zs.take len).map Int.toNat, by simp; omega, fun i v hv => ?_, fun n hn => ?_⟩
    · rw [List.map_map] at hv
      have hi : i < ((zs.take len).map ((fun x : Nat => Value.int .u8 (x : Int)) ∘ Int.toNat)).length := (List.getElem?_eq_some_iff.1 hv).1
      have hi2 : i < len ∧ i < zs.length := by simp at hi; omega
      obtain ⟨b, off, spot⟩ := x
      have h0 := hcell 0 (by omega)
      have hspot : spot = none := by simpa [Addr.add] using World.cell?_spot h0
      subst hspot
      have hc := hcell i (by omega)
      rw [Lib.addr_add] at hc
      refine ⟨b, off, rfl, World.block_lt_of_cell? W _ hc, hc.trans ?_⟩
      rw [← hv]
      have hb := hzb zs[i] (List.getElem_mem hi2.2)
      simp [hi2.1, hi2.2, List.getD_eq_getElem?_getD]
      omega
    · obtain ⟨z, hz1, rfl⟩ := List.mem_map.1 hn
      have := hzb z (List.mem_of_mem_take hz1)
      omega
end
end Go.Proofs.YtcblichnkakhdaaDoor.Vf
