import Derived.Test.YtnpdblcfhbamiaaGreatK44
import Derived.Deep.SlicePairs
import Derived.Deep.Slices
import Derived.ChangeSame
set_option maxRecDepth 100000
namespace Go.Proofs.YtnpdblcfhbamiaaGreat.Nm
open Go.ChangeShapes Go.WideShapes Go.ChangeAt Go.RowKit Go.Proofs.YtnpdblcfhbamiaaGreat.Sp Go.Proofs.YtnpdblcfhbamiaaGreat.Lx Go.Proofs.YtnpdblcfhbamiaaGreat.Gr
section
variable {H : Type} {enc : TypeId × Value → H} {W : World}
theorem ints_valsJ {ao : Option Addr} {len : Nat} {z : Nat → Int} (h : IsInts W ao len z) : IsVals W ao (iv ((List.range len).map z)) := fun k x hx => by
  have hk : k < len := by
    have := (List.getElem?_eq_some_iff.1 hx).1
    simpa [iv] using this
  have e : x = .int .i64 (z k) := by
    rw [show (iv ((List.range len).map z))[k]? = some (.int .i64 (z k)) by simp [iv, hk]] at hx
    cases hx
    rfl
  subst e
  exact h k hk
theorem nil_capI {a : Option Addr} {len cap : Nat} {d : DataW H} {p : List MemPlace} (h : DataW.Trod enc Tryz.prog W 0 (fun _ => true) true 23 (.slice a len cap) d p) : a = none → cap = 0 := by
  obtain ⟨fuel, hf⟩ := h
  rcases open_ints Tryz.underlying23 Tryz.underlying3 (by kernel_rfl) hf with ⟨hcs, hx⟩ | ⟨x, l, c, zs, hcs, _⟩
  · simp [Value.cells] at hcs
    obtain ⟨rfl, rfl, rfl⟩ := hcs
    exact fun _ => rfl
  · simp [Value.cells] at hcs
    obtain ⟨rfl, rfl, rfl⟩ := hcs
    intro e
    cases e
theorem cap_leI {a : Option Addr} {len cap : Nat} {d : DataW H} {p : List MemPlace} (h : DataW.Trod enc Tryz.prog W 0 (fun _ => true) true 23 (.slice a len cap) d p) : len ≤ cap ∧ cap ≤ maxLen := by
  obtain ⟨fuel, hf⟩ := h
  rcases open_ints Tryz.underlying23 Tryz.underlying3 (by kernel_rfl) hf with ⟨hcs, hx⟩ | ⟨x, l, c, zs, hcs, _, hl, hm, _⟩
  · simp [Value.cells] at hcs
    obtain ⟨rfl, rfl, rfl⟩ := hcs
    exact ⟨Nat.le_refl _, Nat.zero_le _⟩
  · simp [Value.cells] at hcs
    obtain ⟨rfl, rfl, rfl⟩ := hcs
    exact ⟨hl, hm⟩
theorem nums_reachJ {ts : List TypeId} {ds : List (DataW H)} (hsz : (DataW.weightsEach Tryz.prog ts ds).all (· ≤ reachBytes) = true) {j len : Nat} {d : DataW H} (ht : ts[j]? = some 23) (hd : ds[j]? = some d) (h : len = 0 ∨ ∃ el sp, d = .slice el sp ∧ el.length = len) : len ≤ 17592186043904 := by
  rcases h with rfl | ⟨el, sp, rfl, rfl⟩
  · omega
  · have := sized_slice hsz ht hd Tryz.underlying23
    rw [bytes3] at this
    simp only [reachBytes] at this
    omega
end
end Go.Proofs.YtnpdblcfhbamiaaGreat.Nm
namespace Go.Proofs.YtnpdblcfhbamiaaGreat.Nm.Ty
open Go.ChangeShapes Go.WideShapes Go.ChangeAt Go.RowKit Go.Deep Go.Proofs.YtnpdblcfhbamiaaGreat.Sp Go.Proofs.YtnpdblcfhbamiaaGreat.Lx Go.Proofs.YtnpdblcfhbamiaaGreat.Gr Go.Proofs.YtnpdblcfhbamiaaGreat.Nm
theorem cellsC2 : Tryz.prog.cellsOf 25 = 2 := by kernel_rfl
theorem cellsI2 : Tryz.prog.cellsOf 23 = 1 := by kernel_rfl
theorem cellsN2 : Tryz.prog.cellsOf 3 = 1 := by kernel_rfl
theorem two2 {α : Type} {l : List α} (h : l.length = 2) : ∃ a b, l = [a, b] := by
  match l, h with
  | [a, b], _ => exact ⟨a, b, rfl⟩
section
variable {H : Type} {enc : TypeId × Value → H} {W : World}
/-- numbers that are handed in, each of which is one -/
theorem open_numsW {a : Option Addr} {len cap : Nat} {d : DataW H} {p : List MemPlace} (h : DataW.Trod enc Tryz.prog W 0 (fun _ => true) true 23 (.slice a len cap) d p) :
    ∃ l : List Int, l.length = len ∧ IsVals W a (iv l) ∧ (∀ n ∈ l, in64 n) ∧ (a = none → cap = 0) ∧ (len = 0 ∨ ∃ el sp, d = .slice el sp ∧ el.length = len) := by
  obtain ⟨fuel, hf⟩ := h
  rcases open_ints Tryz.underlying23 Tryz.underlying3 (by kernel_rfl) hf with ⟨hcs, hx⟩ | ⟨x, l, c, zs, hcs, _, hl, hm, hz, hx, hcell, hwz⟩
  · simp [Value.cells] at hcs
    obtain ⟨rfl, rfl, rfl⟩ := hcs
    exact ⟨[], rfl, fun k x hx => (by cases hx), fun n hn => (by cases hn), fun _ => rfl, Or.inl rfl⟩
  · simp [Value.cells] at hcs
    obtain ⟨rfl, rfl, rfl⟩ := hcs
    simp at hz hx
    obtain ⟨rfl, rfl⟩ := hx
    refine ⟨zs.take len, by simp; omega, fun k y hy => ?_, fun n hn => wf_in (hwz n (List.mem_of_mem_take hn)), fun e => (by cases e), Or.inr ⟨_, _, rfl, by simp [lits]; omega⟩⟩
    have hk : k < len := by
      have := (List.getElem?_eq_some_iff.1 hy).1
      simp [iv] at this
      omega
    obtain ⟨b, off, spot⟩ := x
    have h0 := hcell 0 (by omega)
    have hspot : spot = none := by simpa [Addr.add] using World.cell?_spot h0
    subst hspot
    have hc := hcell k (by omega)
    rw [Lib.addr_add] at hc
    refine ⟨b, off, rfl, World.block_lt_of_cell? W _ hc, ?_⟩
    rw [hc]
    have hk2 : k < zs.length := by omega
    simp [iv, hk, List.getElem?_eq_getElem hk2] at hy
    rw [← hy]
    simp [List.getD_eq_getElem?_getD, List.getElem?_eq_getElem hk2]
/-- capacities, handed in -/
theorem open_caps {base : Nat} {v : Value} {d : DataW H} {p : List MemPlace} (hv : Value.okWide Tryz.prog W .any base 25 v) (h : DataW.Trod enc Tryz.prog W 0 (fun _ => true) true 25 v d p) :
    ∃ (size : Int) (qo : Option Addr) (qc : Nat) (ql : List Int) (d0 d1 : DataW H), v = .agg #[.int .i64 size, .slice qo ql.length qc] ∧ in64 size ∧ IsVals W qo (iv ql) ∧ (∀ n ∈ ql, in64 n) ∧ (qo = none → qc = 0) ∧ d = .agg [d0, d1] ∧ (ql.length = 0 ∨ ∃ el sp, d1 = .slice el sp ∧ el.length = ql.length) := by
  obtain ⟨cs, rfl, hcs⟩ := okWide_struct Tryz.underlying25 hv
  obtain ⟨fuel, hf⟩ := h
  obtain ⟨xs, n, _, hxy, hl, hxl, hfs⟩ := DataW.trod_struct Tryz.underlying25 hf
  have hc : (Value.agg cs).cells = cs := rfl
  rw [hc] at hl hfs
  rw [cellsC2] at hl
  have hxl2 : xs.length = 2 := hxl
  obtain ⟨y0, y1, rfl⟩ := two2 hxl2
  obtain ⟨a0, a1, hcl⟩ := two2 hl
  rw [hcl] at hfs
  have g0 := hfs 0 _ rfl
  have g1 := hfs 1 _ rfl
  simp [cellsI2, cellsN2] at g0 g1
  obtain ⟨z, e0, _, hw⟩ := DataW.trod_int Tryz.underlying3 g0
  simp only [List.cons.injEq, and_true] at e0
  subst e0
  rcases open_slice Tryz.underlying23 g1 with ⟨hcs1, _⟩ | ⟨x, l, c, m, k, D, Pl, hcs1, _⟩
  · simp only [List.cons.injEq, and_true] at hcs1
    subst hcs1
    obtain ⟨ql, hlen, h1, h2, h3, h4⟩ := open_numsW (W := W) (enc := enc) (d := y1.1) (p := y1.2) ⟨n, g1⟩
    obtain rfl := List.eq_nil_of_length_eq_zero hlen
    refine ⟨z, none, 0, [], y0.1, y1.1, ?_, wf_in hw, h1, h2, h3, ?_, Or.inl rfl⟩
    · congr 1
      exact Array.toList_inj.1 hcl
    · simpa using congrArg Prod.fst hxy
  · simp only [List.cons.injEq, and_true] at hcs1
    subst hcs1
    obtain ⟨ql, hlen, h1, h2, h3, h4⟩ := open_numsW (W := W) (enc := enc) (d := y1.1) (p := y1.2) ⟨n, g1⟩
    subst hlen
    refine ⟨z, _, _, ql, y0.1, y1.1, ?_, wf_in hw, h1, h2, h3, ?_, h4⟩
    · congr 1
      exact Array.toList_inj.1 hcl
    · simpa using congrArg Prod.fst hxy
theorem caps_reach {ts : List TypeId} {ds : List (DataW H)} (hsz : (DataW.weightsEach Tryz.prog ts ds).all (· ≤ reachBytes) = true) {j len : Nat} {d0 d1 : DataW H} (ht : ts[j]? = some 25) (hd : ds[j]? = some (.agg [d0, d1])) (h : len = 0 ∨ ∃ el sp, d1 = .slice el sp ∧ el.length = len) : len ≤ 17592186043904 := by
  have hs : (DataW.weightsEach Tryz.prog [3, 23] [d0, d1]).all (· ≤ reachBytes) = true := by
    refine List.all_eq_true.2 fun x hx => ?_
    refine List.all_eq_true.1 hsz x (DataW.weights_mem_each ht hd x ?_)
    simpa [DataW.weights, Tryz.underlying25] using hx
  exact nums_reachJ hs (j := 1) rfl rfl h
end
end Go.Proofs.YtnpdblcfhbamiaaGreat.Nm.Ty
namespace Go.Proofs.YtnpdblcfhbamiaaGreat.Gr
open Go.ChangeShapes Go.WideShapes Go.ChangeAt Go.RowKit Go.Deep Go.Proofs.YtnpdblcfhbamiaaGreat.Sp Go.Proofs.YtnpdblcfhbamiaaGreat.Lx
theorem bytes51 : Tryz.prog.bytesOf 51 = 48 := by kernel_rfl
theorem cells51 : Tryz.prog.cellsOf 51 = 5 := by kernel_rfl
theorem cells3 : Tryz.prog.cellsOf 3 = 1 := by kernel_rfl
theorem cells9 : Tryz.prog.cellsOf 9 = 1 := by kernel_rfl
instance : Inhabited Rz := ⟨rz0⟩
/-- a row's datum -/
def dz {H : Type} (r : Rz) : DataW H := .agg [.lit (.int .i64 r.kind), .lit (.string r.name.data.toList), .lit (.int .i64 r.stop), .lit (.int .i64 r.n), .lit (.int .i64 r.kids)]
theorem wf_le {n : Int} (h : (Lit.int .i64 n).wf = true) : n ≤ 9223372036854775807 := by
  simp [Lit.wf] at h
  omega
theorem five {α : Type} {l : List α} (h : l.length = 5) : ∃ a b c d e, l = [a, b, c, d, e] := by
  match l, h with
  | [a, b, c, d, e], _ => exact ⟨a, b, c, d, e, rfl⟩
theorem open_one {H : Type} {enc : TypeId × Value → H} {W : World} {base n : Nat} {sp : Nat → Bool} {hd : Bool} {cs : List Value} {d : DataW H} {pl : List MemPlace} (h : DataW.trod enc Tryz.prog W base sp hd n 51 cs = some (d, pl)) :
    ∃ r : Rz, cs = [.int .i64 r.kind, .string r.name, .int .i64 r.stop, .int .i64 r.n, .int .i64 r.kids] ∧ d = dz r ∧ r.kids ≤ 9223372036854775807 := by
  obtain ⟨xs, k, hk, hxy, hl, hxl, hf⟩ := DataW.trod_struct Tryz.underlying51 h
  rw [cells51] at hl
  have hxl5 : xs.length = 5 := hxl
  obtain ⟨y0, y1, y2, y3, y4, rfl⟩ := five hxl5
  obtain ⟨v0, v1, v2, v3, v4, rfl⟩ := five hl
  have g0 := hf 0 _ rfl
  have g1 := hf 1 _ rfl
  have g2 := hf 2 _ rfl
  have g3 := hf 3 _ rfl
  have g4 := hf 4 _ rfl
  simp [cells3, cells9] at g0 g1 g2 g3 g4
  obtain ⟨a0, e0, f0, _⟩ := DataW.trod_int Tryz.underlying3 g0
  obtain ⟨a1, e1, f1, _⟩ := DataW.trod_string Tryz.underlying9 g1
  obtain ⟨a2, e2, f2, _⟩ := DataW.trod_int Tryz.underlying3 g2
  obtain ⟨a3, e3, f3, _⟩ := DataW.trod_int Tryz.underlying3 g3
  obtain ⟨a4, e4, f4, w4⟩ := DataW.trod_int Tryz.underlying3 g4
  simp only [List.cons.injEq, and_true] at e0 e1 e2 e3 e4
  subst e0 e1 e2 e3 e4 f0 f1 f2 f3 f4
  simp only [Prod.mk.injEq] at hxy
  exact ⟨⟨a0, a1, a2, a3, a4⟩, rfl, by simpa [dz] using hxy.1, wf_le w4⟩
theorem open_rowsZ {H : Type} {enc : TypeId × Value → H} {W : World} {a : Option Addr} {len cap : Nat} {d : DataW H} {p : List MemPlace} (h : DataW.Trod enc Tryz.prog W 0 (fun _ => true) true 22 (.slice a len cap) d p) :
    ∃ l : List Rz, l.length = len ∧ len ≤ cap ∧ IsRz W a l ∧ (∀ r ∈ l, r.kids ≤ 9223372036854775807) ∧ (l = [] ∨ ∃ sp, d = .slice (l.map dz) sp) := by
  obtain ⟨fuel, hf⟩ := h
  rcases open_slice Tryz.underlying22 hf with ⟨hcs, _⟩ | ⟨x, l, c, m, n, D, Pl, hcs, _, hl, hm, hmm, hx, hcell⟩
  · simp [Value.cells] at hcs
    obtain ⟨rfl, rfl, rfl⟩ := hcs
    exact ⟨[], rfl, Nat.le_refl _, fun i x hx => (by simp at hx), fun r hr => (by cases hr), Or.inl rfl⟩
  · simp [Value.cells] at hcs
    obtain ⟨rfl, rfl, rfl⟩ := hcs
    simp only [if_true] at hmm
    subst hmm
    simp only [Prod.mk.injEq] at hx
    have each : ∀ i, i < len → ∃ r : Rz, W.cells? 0 (x.add (i * 5)) 5 = some [.int .i64 r.kind, .string r.name, .int .i64 r.stop, .int .i64 r.n, .int .i64 r.kids] ∧ D i = dz r ∧ r.kids ≤ 9223372036854775807 := by
      intro i hi
      obtain ⟨cs', h1, h2⟩ := hcell i (by omega)
      obtain ⟨r, rfl, h4, h5⟩ := open_one h2
      rw [cells51] at h1
      exact ⟨r, h1, h4, h5⟩
    obtain ⟨q, hq⟩ := choose_lt each
    refine ⟨(List.range len).map q, by simp, hl, fun i r hr => ?_, fun r hr => ?_, Or.inr ⟨(List.range (m - len)).map fun j => D (len + j), ?_⟩⟩
    · have hi : i < len := by
        have := (List.getElem?_eq_some_iff.1 hr).1
        simpa using this
      have hri : q i = r := by simpa [hi] using hr
      obtain ⟨h1, _, _⟩ := hq i hi
      rw [hri] at h1
      obtain ⟨_, hlen, hc⟩ := World.cells?_some h1
      have e0 := hc 0 (by omega)
      have e1 := hc 1 (by omega)
      have e2 := hc 2 (by omega)
      have e3 := hc 3 (by omega)
      have e4 := hc 4 (by omega)
      rw [add_add] at e0 e1 e2 e3 e4
      simp at e0 e1 e2 e3 e4
      obtain ⟨b, off, spot⟩ := x
      have hspot : spot = none := by
        obtain ⟨g1, _, _⟩ := hq 0 (by omega)
        obtain ⟨_, _, gc⟩ := World.cells?_some g1
        have g0 := gc 0 (by omega)
        simp [Addr.add] at g0
        simpa [Addr.add] using World.cell?_spot g0
      subst hspot
      rw [Lib.addr_add] at e0 e1 e2 e3 e4
      refine ⟨b, off, rfl, World.block_lt_of_cell? W _ e0, e0, ?_, ?_, ?_, ?_⟩
      · rw [Nat.add_assoc]; exact e1
      · rw [Nat.add_assoc]; exact e2
      · rw [Nat.add_assoc]; exact e3
      · rw [Nat.add_assoc]; exact e4
    · obtain ⟨i, hi, rfl⟩ := List.mem_map.1 hr
      exact (hq i (List.mem_range.1 hi)).2.2
    · rw [hx.1]
      congr 1
      rw [List.map_map]
      exact List.map_congr_left fun i hi => (hq i (List.mem_range.1 hi)).2.1
theorem weights_all {H : Type} {P : Program} {e : TypeId} {d : DataW H} {l : List (DataW H)} (h : d ∈ l) : ∀ n ∈ d.weights P e, n ∈ DataW.weightsAll P e l := by
  induction l with
  | nil => cases h
  | cons x r ih =>
    intro n hn
    simp only [DataW.weightsAll, List.mem_append]
    rcases List.mem_cons.1 h with rfl | h1
    · exact Or.inl hn
    · exact Or.inr (ih h1 n hn)
theorem rows_reach {H : Type} {ts : List TypeId} {ds : List (DataW H)} (hsz : (DataW.weightsEach Tryz.prog ts ds).all (· ≤ reachBytes) = true) {j : Nat} {l : List Rz} {d : DataW H} (ht : ts[j]? = some 22) (hd : ds[j]? = some d) (h : l = [] ∨ ∃ sp, d = .slice (l.map dz) sp) :
    l.length ≤ 2932031007317 ∧ ∀ r ∈ l, r.name.size ≤ 140737488351232 := by
  rcases h with rfl | ⟨sp, rfl⟩
  · exact ⟨by simp, fun x hx => by cases hx⟩
  · refine ⟨?_, fun x hx => ?_⟩
    · have := sized_slice hsz ht hd Tryz.underlying22
      rw [bytes51] at this
      simp only [reachBytes, List.length_map] at this
      omega
    · have h1 : (dz x : DataW H) ∈ l.map dz := List.mem_map.2 ⟨x, hx, rfl⟩
      have h2 := weights_all (P := Tryz.prog) (e := 51) h1 x.name.data.toList.length (by simp [dz, DataW.weights, Tryz.underlying51, DataW.weightsEach])
      have h3 := List.all_eq_true.1 hsz _ (DataW.weights_mem_each ht hd x.name.data.toList.length (by
        simp only [DataW.weights, Tryz.underlying22]
        exact List.mem_cons_of_mem _ (List.mem_append_left _ h2)))
      have h4 := of_decide_eq_true h3
      simpa [reachBytes] using h4
end Go.Proofs.YtnpdblcfhbamiaaGreat.Gr
