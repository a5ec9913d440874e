import Derived.Test.YtjhlfdlamjpdeaaJNmD
import Derived.Test.YtjhlfdlamjpdeaaNmRows
import Derived.Maps.AppendAt
import Derived.Laws.MakeOwn
import Derived.Test.YtjhlfdlamjpdeaaLxBase
import Derived.ProofKit
import Derived.OpenShut
import Derived.ShutString
import Derived.ChangeOld
import Derived.Below
import Derived.JoinedCond
import Derived.SizedLaws
import Derived.SliceStrings
import Derived.ChangeMaps5
import Derived.Test.YtjhlfdlamjpdeaaNmEq
import Derived.Test.YtjhlfdlamjpdeaaCsPure
import Derived.Test.YtjhlfdlamjpdeaaNmSmall
namespace Go.Proofs.Ytjhlfdlamjpdeaa.Nm
open Go.RowKit Go.Maps Go.Proofs.Ytjhlfdlamjpdeaa.Sp Go.Proofs.Ytjhlfdlamjpdeaa.Lx Go.Proofs.Ytjhlfdlamjpdeaa.Gr

/-- append to an owned row, of a slice that may be nil -/
theorem run_app {P : Program} (w : World) (base : Nat) (t ty e : TypeId) (i : TypeInfo) (z : Value) (size bytes : Nat) (ht : P.underlying t = some (.slice e)) (hi : P.info? e = some i) (hz : i.zero = some z)
    (hsize : i.size = size) (hby : i.bytes = bytes) (hzs : z.cells.size = size) (hsz : 0 < size)
    (v : Value) (n : Nat) (xs : List Value) (hown : w.ownsRow base e size v n xs)
    (ao : Option Addr) (m c : Nat) (news : List Value) (hl : news.length = m * size) (hnone : ao = none → m = 0 ∧ c = 0) (hnews : ∀ ad, ao = some ad → ∀ j u, news[j]? = some u → w.cell? (ad.add j) = some u) (h1 : ∀ u ∈ news, u.oneCell' = true)
    (h63 : n + m ≤ maxLen) (hbytes : (n + m) * bytes ≤ 140737488355328) (hbase : base ≤ w.heap.size) :
    ∃ v' w', (Builtin.append_ #[t, t] ty #[v, .slice ao m c]).run P w = .ok v' w' ∧ w'.ownsRow base e size v' (n + m) (xs ++ news) ∧ w.grownBy w' v.ownBlock ∧ (v'.ownBlock = v.ownBlock ∨ v'.ownBlock = some w.heap.size) := by
  cases ao with
  | some ad =>
    obtain ⟨v', w', hr, h2, h3, _, h5⟩ := run_append_own_at (P := P) w base t ty e i z size bytes ht hi hz hsize hby hzs hsz v n xs hown ad m c news hl (hnews ad rfl) h1 h63 hbytes hbase
    exact ⟨v', w', hr, h2, h3, h5⟩
  | none =>
    obtain ⟨rfl, rfl⟩ := hnone rfl
    have he : news = [] := List.eq_nil_of_length_eq_zero (by simpa using hl)
    subst he
    exact ⟨v, w, run_append_owned_none (P := P) w base t ty e i size ht hi v n xs hown, by simpa using hown, World.grownBy.refl _ _, Or.inl rfl⟩
theorem wpl_app {P : Program} (w : World) {ops : Array Oper} {rest : List Oper} {o : Oper} {a : Act} {Q : Exit → Act → World → Prop} (hgd : o.guard = none) (s x : Operand) (t : TypeId)
    (ho : o.op = .call { callee := .builtin .append, args := #[s, x], argTypes := #[t, t] })
    (base : Nat) (e : TypeId) (i : TypeInfo) (z : Value) (size bytes : Nat) (ht : P.underlying t = some (.slice e)) (hi : P.info? e = some i) (hz : i.zero = some z)
    (hsize : i.size = size) (hby : i.bytes = bytes) (hzs : z.cells.size = size) (hsz : 0 < size)
    (v : Value) (n : Nat) (xs : List Value) (hs : a.eval s = v) (hown : w.ownsRow base e size v n xs)
    (ao : Option Addr) (m c : Nat) (news : List Value) (hx : a.eval x = .slice ao m c) (hl : news.length = m * size) (hnone : ao = none → m = 0 ∧ c = 0) (hnews : ∀ ad, ao = some ad → ∀ j u, news[j]? = some u → w.cell? (ad.add j) = some u) (h1 : ∀ u ∈ news, u.oneCell' = true)
    (h63 : n + m ≤ maxLen) (hbytes : (n + m) * bytes ≤ 140737488355328) (hbase : base ≤ w.heap.size)
    (h : ∀ v' w', w'.ownsRow base e size v' (n + m) (xs ++ news) → w.grownBy w' v.ownBlock → (v'.ownBlock = v.ownBlock ∨ v'.ownBlock = some w.heap.size) → wpList P ops Q rest (a.put o.dst v') w') : wpList P ops Q (o :: rest) a w := by
  refine wpList_plain hgd fun K hK => ?_
  obtain ⟨v', w', hr, h2, h3, h4⟩ := run_app (P := P) w base t o.type e i z size bytes ht hi hz hsize hby hzs hsz v n xs hown ao m c news hl hnone hnews h1 h63 hbytes hbase
  unfold Oper.wp execOp
  simp only [ho, resolve, invoke, builtin, Sem.run_bind, Sem.run_pure, Result.andThen_ok, List.map_toArray, List.map_cons, List.map_nil, hs, hx, hr]
  exact hK _ _ (h v' w' h2 h3 h4)
/-- the same, as one step of a region that draws -/
theorem step_app {P : Program} (w : World) {ops : Array Oper} {o : Oper} {a : Act} {K : Act → World → Prop} {Q : Exit → Act → World → Prop} {E : Prop} (hgd : o.guard = none) (s x : Operand) (t : TypeId)
    (ho : o.op = .call { callee := .builtin .append, args := #[s, x], argTypes := #[t, t] })
    (base : Nat) (e : TypeId) (i : TypeInfo) (z : Value) (size bytes : Nat) (ht : P.underlying t = some (.slice e)) (hi : P.info? e = some i) (hz : i.zero = some z)
    (hsize : i.size = size) (hby : i.bytes = bytes) (hzs : z.cells.size = size) (hsz : 0 < size)
    (v : Value) (n : Nat) (xs : List Value) (hs : a.eval s = v) (hown : w.ownsRow base e size v n xs)
    (ao : Option Addr) (m c : Nat) (news : List Value) (hx : a.eval x = .slice ao m c) (hl : news.length = m * size) (hnone : ao = none → m = 0 ∧ c = 0) (hnews : ∀ ad, ao = some ad → ∀ j u, news[j]? = some u → w.cell? (ad.add j) = some u) (h1 : ∀ u ∈ news, u.oneCell' = true)
    (h63 : n + m ≤ maxLen) (hbytes : (n + m) * bytes ≤ 140737488355328) (hbase : base ≤ w.heap.size)
    (h : ∀ v' w', w'.ownsRow base e size v' (n + m) (xs ++ news) → w.grownBy w' v.ownBlock → (v'.ownBlock = v.ownBlock ∨ v'.ownBlock = some w.heap.size) → K (a.put o.dst v') w') : if Region.wanted o (yielded ops a.tmps) = true then Oper.wp P o a w K Q else E := by
  have hw : Region.wanted o (yielded ops a.tmps) = true := by simp [Region.wanted, hgd]
  rw [if_pos hw]
  obtain ⟨v', w', hr, h2, h3, h4⟩ := run_app (P := P) w base t o.type e i z size bytes ht hi hz hsize hby hzs hsz v n xs hown ao m c news hl hnone hnews h1 h63 hbytes hbase
  unfold Oper.wp execOp
  simp only [ho, resolve, invoke, builtin, Sem.run_bind, Sem.run_pure, Result.andThen_ok, List.map_toArray, List.map_cons, List.map_nil, hs, hx, hr]
  exact h v' w' h2 h3 h4
/-- make of an empty row with room for three more -/
theorem mk_capJ {t e : TypeId} {i : TypeInfo} {z : Value} {size bytes : Nat} (ht : Try.prog.underlying t = some (.slice e)) (hi : Try.prog.info? e = some i) (hz : i.zero = some z) (hsize : i.size = size) (hby : i.bytes = bytes) (n : Nat) (hn : bytes * (n + 3) ≤ 140737488355352) (hn2 : n ≤ 140737488355328) :
    ∃ M : Array Value, (∀ u : World, (Instr.makeSlice t (.int .i64 0) (.int .i64 ((n : Int) + 3))).run Try.prog u = .ok (.slice (some ⟨u.heap.size, 0, none⟩) 0 (n + 3)) (u.alloc (.cells M e))) ∧ M.size = (n + 3) * size := by
  refine ⟨_, fun u => ?_, size_madeCells z.cells ((n + 3) * size)⟩
  have h := run_make (P := Try.prog) u t e i z ht hi hz .i64 .i64 0 ((n : Int) + 3) (Int.le_refl _) (by omega) (by
    rw [hby]
    have : (bytes : Int) * ((n : Int) + 3) = ((bytes * (n + 3) : Nat) : Int) := by simp
    rw [this]
    omega) (by omega)
  have e1 : ((n : Int) + 3).toNat = n + 3 := by omega
  rw [e1, hsize] at h
  exact h
theorem own_madeJ {u : World} {M : Array Value} {e : TypeId} {n size base : Nat} (hM : M.size = (n + 3) * size) (hb : base ≤ u.heap.size) (hn : n ≤ 140737488355328) : (u.alloc (.cells M e)).ownsRow base e size (.slice (some ⟨u.heap.size, 0, none⟩) 0 (n + 3)) 0 [] :=
  own_mk (cur := M.toList) (by simp) hb (by rw [Array.toArray_toList]; exact heap_alloc_new u _) (Nat.zero_le _) (by unfold maxLen; omega) (by simpa using hM) (by simp)
theorem vals_src {w : World} {ao : Option Addr} {xs : List Value} (h : IsVals w ao xs) : ∀ ad, ao = some ad → ∀ j u, xs[j]? = some u → w.cell? (ad.add j) = some u := fun ad e j u hu => by
  obtain ⟨g, o, e2, _, hc⟩ := h j u hu
  rw [e] at e2
  cases e2
  rw [Lib.addr_add]
  exact hc
theorem vals_nil {w : World} {ao : Option Addr} {xs : List Value} {m sz : Nat} (h : IsVals w ao xs) (hl : xs.length = m * sz) (hs : 0 < sz) : ao = none → m = 0 := fun e => by
  cases m with
  | zero => rfl
  | succ m =>
    have h0 : 0 < xs.length := by rw [hl, Nat.succ_mul]; omega
    obtain ⟨g, o, e2, _⟩ := h 0 _ (List.getElem?_eq_getElem h0)
    rw [e] at e2
    cases e2
theorem iv_one (l : List Int) : ∀ u ∈ iv l, u.oneCell' = true := fun u hu => by
  obtain ⟨n, _, rfl⟩ := List.mem_map.1 hu
  rfl
theorem own_some {w : World} {base : Nat} {e : TypeId} {size : Nat} {v : Value} {n : Nat} {xs : List Value} (h : w.ownsRow base e size v n xs) (hn : 0 < n) : ∃ g cap, v = .slice (some ⟨g, 0, none⟩) n cap ∧ n ≤ cap ∧ cap ≤ maxLen := by
  obtain ⟨g, cap, cur, e1, _, _, h4, h5, _⟩ := own_block h hn
  exact ⟨g, cap, e1, h4, h5⟩
theorem mk_cap {t e : TypeId} {i : TypeInfo} {z : Value} {size bytes : Nat} (ht : Try.prog.underlying t = some (.slice e)) (hi : Try.prog.info? e = some i) (hz : i.zero = some z) (hsize : i.size = size) (hby : i.bytes = bytes) (hb : bytes ≤ 1000) (n : Nat) (hn : n ≤ 1000) :
    ∃ M : Array Value, (∀ u : World, (Instr.makeSlice t (.int .i64 0) (.int .i64 ((n : Int) + 3))).run Try.prog u = .ok (.slice (some ⟨u.heap.size, 0, none⟩) 0 (n + 3)) (u.alloc (.cells M e))) ∧ M.size = (n + 3) * size := mk_capJ ht hi hz hsize hby n (Nat.le_trans (Nat.mul_le_mul hb (show n + 3 ≤ 1003 by omega)) (by decide)) (by omega)
theorem own_made {u : World} {M : Array Value} {e : TypeId} {n size base : Nat} (hM : M.size = (n + 3) * size) (hb : base ≤ u.heap.size) (hn : n ≤ 1000) : (u.alloc (.cells M e)).ownsRow base e size (.slice (some ⟨u.heap.size, 0, none⟩) 0 (n + 3)) 0 [] := own_madeJ hM hb (by omega)
end Go.Proofs.Ytjhlfdlamjpdeaa.Nm

namespace Go.Proofs.Ytjhlfdlamjpdeaa.Lx
open Go.ChangeShapes Go.WideShapes Go.ChangeAt Go.RowKit Go.Proofs.Ytjhlfdlamjpdeaa.Sp

theorem own : ownKnob Try.prog.godebug = none := by kernel_rfl
theorem laidOut : laidOutB Try.prog = true := by kernel_rfl
theorem bytes5 : Try.prog.bytesOf 5 = 1 := by kernel_rfl

theorem open_bytes {H : Type} {enc : TypeId × Value → H} {W : World} {a : Option Addr} {len cap : Nat} {d : DataW H} {p : List MemPlace} (h : DataW.Trod enc Try.prog W 0 (fun _ => true) true 111 (.slice a len cap) d p) :
    ∃ s : ByteArray, s.size = len ∧ len ≤ cap ∧ IsBytes W a s ∧ (len = 0 ∨ ∃ el sp, d = .slice el sp ∧ el.length = len) := by
  obtain ⟨fuel, hf⟩ := h
  rcases open_ints Try.underlying111 Try.underlying5 (by kernel_rfl) hf with ⟨hcs, hx⟩ | ⟨x, l, c, zs, hcs, _, hl, hm, hz, hx, hcell, hwz⟩
  · simp [Value.cells] at hcs
    obtain ⟨rfl, rfl, rfl⟩ := hcs
    exact ⟨ByteArray.empty, rfl, Nat.le_refl _, fun i hi => absurd hi (Nat.not_lt_zero _), Or.inl rfl⟩
  · simp [Value.cells] at hcs
    obtain ⟨rfl, rfl, rfl⟩ := hcs
    simp at hz hx
    obtain ⟨rfl, rfl⟩ := hx
    have hsz : (strOfNums (zs.take len)).size = len := by rw [strOfNums_size]; simp; omega
    refine ⟨strOfNums (zs.take len), hsz, hl, fun i hi => ?_, Or.inr ⟨_, _, rfl, by simp [lits]; omega⟩⟩
    obtain ⟨b, off, spot⟩ := x
    have h0 := hcell 0 (by omega)
    have hspot : spot = none := by simpa [Addr.add] using World.cell?_spot h0
    subst hspot
    have hB : Lib.Bytes W b off (strOfNums (zs.take len)) := Lib.bytes_of_nums (n := len) (by simp; omega) (fun x hx => by
      have hx := bounds_u8 (hwz x (List.mem_of_mem_take hx))
      omega) (fun j hj => by
        have := hcell j (by omega)
        rw [Lib.addr_add] at this
        rw [this]
        simp [List.getD, List.getElem?_take_of_lt hj])
    have hc := hB i hi
    refine ⟨b, off, rfl, World.block_lt_of_cell? W _ hc, ?_⟩
    rw [hc, nb_get _ i hi]
theorem bytes_reach {H : Type} {ts : List TypeId} {ds : List (DataW H)} (hsz : (DataW.weightsEach Try.prog ts ds).all (· ≤ reachBytes) = true) {j len : Nat} {d : DataW H} (ht : ts[j]? = some 111) (hd : ds[j]? = some d) (h : len = 0 ∨ ∃ el sp, d = .slice el sp ∧ el.length = len) : len ≤ 140737488351232 := by
  rcases h with rfl | ⟨el, sp, rfl, rfl⟩
  · omega
  · have := sized_slice hsz ht hd Try.underlying111
    rw [bytes5] at this
    simp only [reachBytes] at this
    omega
end Go.Proofs.Ytjhlfdlamjpdeaa.Lx

namespace Go.Proofs.Ytjhlfdlamjpdeaa.Lx
open Go.RowKit Go.Proofs.Ytjhlfdlamjpdeaa.Sp

/-- a slice of strings; of numbers -/
def IsStrs (w : World) (ao : Option Addr) (ss : List ByteArray) : Prop := ∀ i x, ss[i]? = some x → ∃ g o, ao = some ⟨g, o, none⟩ ∧ g < w.heap.size ∧ w.cell? ⟨g, o + i, none⟩ = some (.string x)
theorem IsStrs.below {w w' : World} {ao : Option Addr} {ss : List ByteArray} (h : IsStrs w ao ss) (hb : Below w.heap.size w w') : IsStrs w' ao ss := by
  intro i x hx
  obtain ⟨g, o, e, hg, hc⟩ := h i x hx
  exact ⟨g, o, e, Nat.lt_of_lt_of_le hg hb.size, (hb.cell (p := ⟨g, o + i, none⟩) hg).trans hc⟩
def IsInts (w : World) (ao : Option Addr) (n : Nat) (z : Nat → Int) : Prop := ∀ i, i < n → ∃ g o, ao = some ⟨g, o, none⟩ ∧ g < w.heap.size ∧ w.cell? ⟨g, o + i, none⟩ = some (.int .i64 (z i))
theorem IsInts.below {w w' : World} {ao : Option Addr} {n : Nat} {z : Nat → Int} (h : IsInts w ao n z) (hb : Below w.heap.size w w') : IsInts w' ao n z := by
  intro i hi
  obtain ⟨g, o, e, hg, hc⟩ := h i hi
  exact ⟨g, o, e, Nat.lt_of_lt_of_le hg hb.size, (hb.cell (p := ⟨g, o + i, none⟩) hg).trans hc⟩
end Go.Proofs.Ytjhlfdlamjpdeaa.Lx

namespace Go.Proofs.Ytjhlfdlamjpdeaa.Lx
open Go.ChangeShapes Go.WideShapes Go.ChangeAt Go.RowKit Go.Proofs.Ytjhlfdlamjpdeaa.Sp

theorem bytes9 : Try.prog.bytesOf 9 = 16 := by kernel_rfl
theorem bytes3 : Try.prog.bytesOf 3 = 8 := by kernel_rfl

theorem weights_all {H : Type} {P : Program} {e : TypeId} {d : DataW H} {l : List (DataW H)} (h : d ∈ l) : ∀ n ∈ d.weights P e, n ∈ DataW.weightsAll P e l := by
  induction l with
  | nil => cases h
  | cons x r ih =>
    intro n hn
    simp only [DataW.weightsAll, List.mem_append]
    rcases List.mem_cons.1 h with rfl | h1
    · exact Or.inl hn
    · exact Or.inr (ih h1 n hn)

theorem open_texts {H : Type} {enc : TypeId × Value → H} {W : World} {a : Option Addr} {len cap : Nat} {d : DataW H} {p : List MemPlace} (h : DataW.Trod enc Try.prog W 0 (fun _ => true) true 38 (.slice a len cap) d p) :
    ∃ ss : List ByteArray, ss.length = len ∧ len ≤ cap ∧ IsStrs W a ss ∧ (ss = [] ∨ ∃ sp, d = .slice (strs ss) sp) := by
  obtain ⟨fuel, hf⟩ := h
  rcases open_strings Try.underlying38 Try.underlying9 (by kernel_rfl) hf with ⟨hcs, hx⟩ | ⟨x, l, c, zs, hcs, _, hl, hm, hz, hx, hcell, hwz⟩
  · simp [Value.cells] at hcs
    obtain ⟨rfl, rfl, rfl⟩ := hcs
    exact ⟨[], rfl, Nat.le_refl _, fun i x hx => by simp at hx, Or.inl rfl⟩
  · simp [Value.cells] at hcs
    obtain ⟨rfl, rfl, rfl⟩ := hcs
    simp at hz hx
    obtain ⟨rfl, rfl⟩ := hx
    refine ⟨zs.take len, by simp; omega, hl, fun i y hy => ?_, Or.inr ⟨_, rfl⟩⟩
    have hil : i < len := by
      have := (List.getElem?_eq_some_iff.1 hy).1
      simp at this; omega
    have hc := hcell i (by omega)
    obtain ⟨b, off, spot⟩ := x
    have h0 := hcell 0 (by omega)
    have hspot : spot = none := by simpa [Addr.add] using World.cell?_spot h0
    subst hspot
    rw [Lib.addr_add] at hc
    refine ⟨b, off, rfl, World.block_lt_of_cell? W _ hc, ?_⟩
    rw [hc]
    rw [List.getElem?_take_of_lt hil] at hy
    simp [List.getD, hy]
theorem texts_reach {H : Type} {ts : List TypeId} {ds : List (DataW H)} (hsz : (DataW.weightsEach Try.prog ts ds).all (· ≤ reachBytes) = true) {j : Nat} {ss : List ByteArray} {d : DataW H} (ht : ts[j]? = some 38) (hd : ds[j]? = some d) (h : ss = [] ∨ ∃ sp, d = .slice (strs ss) sp) :
    ss.length ≤ 140737488351232 ∧ ∀ x ∈ ss, x.size ≤ 140737488351232 := by
  rcases h with rfl | ⟨sp, rfl⟩
  · exact ⟨by simp, fun x hx => by cases hx⟩
  · refine ⟨?_, fun x hx => ?_⟩
    · have := sized_slice hsz ht hd Try.underlying38
      rw [bytes9] at this
      simp only [reachBytes, strs, List.length_map] at this
      omega
    · have h1 : (DataW.lit (.string x.data.toList) : DataW H) ∈ strs ss := by
        unfold strs
        exact List.mem_map.2 ⟨x, hx, rfl⟩
      have h2 := weights_all (P := Try.prog) (e := 9) h1 x.data.toList.length (by simp [DataW.weights])
      have h3 := List.all_eq_true.1 hsz _ (DataW.weights_mem_each ht hd x.data.toList.length (by
        simp only [DataW.weights, Try.underlying38]
        exact List.mem_cons_of_mem _ (List.mem_append_left _ h2)))
      have h4 := of_decide_eq_true h3
      simpa [reachBytes] using h4
theorem text_reach {H : Type} {ts : List TypeId} {ds : List (DataW H)} (hsz : (DataW.weightsEach Try.prog ts ds).all (· ≤ reachBytes) = true) {j : Nat} {s : ByteArray} (ht : ts[j]? = some 9) (hd : ds[j]? = some (.lit (.string s.data.toList))) : s.size ≤ 140737488351232 := by
  have := sized_string hsz ht hd
  simpa [reachBytes] using this

theorem open_nums {H : Type} {enc : TypeId × Value → H} {W : World} {a : Option Addr} {len cap : Nat} {d : DataW H} {p : List MemPlace} (h : DataW.Trod enc Try.prog W 0 (fun _ => true) true 25 (.slice a len cap) d p) :
    ∃ z : Nat → Int, IsInts W a len z ∧ (len = 0 ∨ ∃ el sp, d = .slice el sp ∧ el.length = len) := by
  obtain ⟨fuel, hf⟩ := h
  rcases open_ints Try.underlying25 Try.underlying3 (by kernel_rfl) hf with ⟨hcs, hx⟩ | ⟨x, l, c, zs, hcs, _, hl, hm, hz, hx, hcell, hwz⟩
  · simp [Value.cells] at hcs
    obtain ⟨rfl, rfl, rfl⟩ := hcs
    exact ⟨fun _ => 0, fun i hi => absurd hi (Nat.not_lt_zero _), Or.inl rfl⟩
  · simp [Value.cells] at hcs
    obtain ⟨rfl, rfl, rfl⟩ := hcs
    simp at hz hx
    obtain ⟨rfl, rfl⟩ := hx
    refine ⟨fun i => zs.getD i 0, fun i hi => ?_, Or.inr ⟨_, _, rfl, by simp [lits]; omega⟩⟩
    obtain ⟨b, off, spot⟩ := x
    have h0 := hcell 0 (by omega)
    have hspot : spot = none := by simpa [Addr.add] using World.cell?_spot h0
    subst hspot
    have hc := hcell i (by omega)
    rw [Lib.addr_add] at hc
    exact ⟨b, off, rfl, World.block_lt_of_cell? W _ hc, hc⟩
theorem nums_reach {H : Type} {ts : List TypeId} {ds : List (DataW H)} (hsz : (DataW.weightsEach Try.prog ts ds).all (· ≤ reachBytes) = true) {j len : Nat} {d : DataW H} (ht : ts[j]? = some 25) (hd : ds[j]? = some d) (h : len = 0 ∨ ∃ el sp, d = .slice el sp ∧ el.length = len) : len ≤ 140737488351232 := by
  rcases h with rfl | ⟨el, sp, rfl, rfl⟩
  · omega
  · have := sized_slice hsz ht hd Try.underlying25
    rw [bytes3] at this
    simp only [reachBytes] at this
    omega
end Go.Proofs.Ytjhlfdlamjpdeaa.Lx

namespace Go.Proofs.Ytjhlfdlamjpdeaa.Nm
open Go.ChangeShapes Go.WideShapes Go.ChangeAt Go.RowKit Go.Proofs.Ytjhlfdlamjpdeaa.Sp Go.Proofs.Ytjhlfdlamjpdeaa.Lx Go.Proofs.Ytjhlfdlamjpdeaa.Gr

section
variable {H : Type} {enc : TypeId × Value → H} {W : World}
theorem ints_valsJ {ao : Option Addr} {len : Nat} {z : Nat → Int} (h : IsInts W ao len z) : IsVals W ao (iv ((List.range len).map z)) := fun k x hx => by
  have hk : k < len := by
    have := (List.getElem?_eq_some_iff.1 hx).1
    simpa [iv] using this
  have e : x = .int .i64 (z k) := by
    rw [show (iv ((List.range len).map z))[k]? = some (.int .i64 (z k)) by simp [iv, hk]] at hx
    cases hx
    rfl
  subst e
  exact h k hk
theorem nil_capI {a : Option Addr} {len cap : Nat} {d : DataW H} {p : List MemPlace} (h : DataW.Trod enc Try.prog W 0 (fun _ => true) true 25 (.slice a len cap) d p) : a = none → cap = 0 := by
  obtain ⟨fuel, hf⟩ := h
  rcases open_ints Try.underlying25 Try.underlying3 (by kernel_rfl) hf with ⟨hcs, hx⟩ | ⟨x, l, c, zs, hcs, _⟩
  · simp [Value.cells] at hcs
    obtain ⟨rfl, rfl, rfl⟩ := hcs
    exact fun _ => rfl
  · simp [Value.cells] at hcs
    obtain ⟨rfl, rfl, rfl⟩ := hcs
    intro e
    cases e
theorem cap_leI {a : Option Addr} {len cap : Nat} {d : DataW H} {p : List MemPlace} (h : DataW.Trod enc Try.prog W 0 (fun _ => true) true 25 (.slice a len cap) d p) : len ≤ cap ∧ cap ≤ maxLen := by
  obtain ⟨fuel, hf⟩ := h
  rcases open_ints Try.underlying25 Try.underlying3 (by kernel_rfl) hf with ⟨hcs, hx⟩ | ⟨x, l, c, zs, hcs, _, hl, hm, _⟩
  · simp [Value.cells] at hcs
    obtain ⟨rfl, rfl, rfl⟩ := hcs
    exact ⟨Nat.le_refl _, Nat.zero_le _⟩
  · simp [Value.cells] at hcs
    obtain ⟨rfl, rfl, rfl⟩ := hcs
    exact ⟨hl, hm⟩
theorem nums_reachJ {ts : List TypeId} {ds : List (DataW H)} (hsz : (DataW.weightsEach Try.prog ts ds).all (· ≤ reachBytes) = true) {j len : Nat} {d : DataW H} (ht : ts[j]? = some 25) (hd : ds[j]? = some d) (h : len = 0 ∨ ∃ el sp, d = .slice el sp ∧ el.length = len) : len ≤ 17592186043904 := by
  rcases h with rfl | ⟨el, sp, rfl, rfl⟩
  · omega
  · have := sized_slice hsz ht hd Try.underlying25
    rw [bytes3] at this
    simp only [reachBytes] at this
    omega
end
end Go.Proofs.Ytjhlfdlamjpdeaa.Nm

namespace Go.Proofs.Ytjhlfdlamjpdeaa.Nm

/-- turned round -/
def rotL (l : List Int) (t : Nat) : List Int := l.drop t ++ l.take t
theorem rotL_len (l : List Int) (t : Nat) (ht : t ≤ l.length) : (rotL l t).length = l.length := by simp [rotL]; omega
theorem rotL_at {l : List Int} {t i : Nat} (ht : t < l.length) (hi : i < l.length) : (rotL l t)[i]? = l[(i + t) % l.length]? := by
  unfold rotL
  by_cases h : i + t < l.length
  · rw [List.getElem?_append_left (by simp; omega), List.getElem?_drop, Nat.mod_eq_of_lt h, Nat.add_comm]
  · have e : (i + t) % l.length = i + t - l.length := by
      rw [Nat.mod_eq_sub_mod (by omega), Nat.mod_eq_of_lt (by omega)]
    rw [List.getElem?_append_right (by simp; omega), List.length_drop, e, List.getElem?_take, if_pos (by omega)]
    congr 1
    omega
theorem rotL_sum (l : List Int) (t : Nat) : sumL (rotL l t) = sumL l := by
  unfold rotL sumL
  rw [tsum_app, Nat.add_comm, ← tsum_app, List.take_append_drop]
theorem rotL_tim (l : List Int) (t : Nat) : timL (rotL l t) = timL l := by
  unfold rotL timL
  rw [tprod_app, Nat.mul_comm, ← tprod_app, List.take_append_drop]
theorem sum_cut (l : List Int) (c : Nat) : sumL [(sumL (l.take c) : Nat), (sumL (l.drop c) : Nat)] = sumL l := by
  have h := sumL_app (l.take c) (l.drop c)
  rw [List.take_append_drop] at h
  rw [h]
  show capS (tsum [(sumL (l.take c) : Int), (sumL (l.drop c) : Int)]) = _
  simp [tsum]
theorem tim_cut (l : List Int) (c : Nat) : timL [(timL (l.take c) : Nat), (timL (l.drop c) : Nat)] = timL l := by
  have h := timL_app (l.take c) (l.drop c)
  rw [List.take_append_drop] at h
  rw [h]
  show capS (tprod [(timL (l.take c) : Int), (timL (l.drop c) : Int)]) = _
  simp [tprod]
theorem tsum_mem {l : List Int} {x : Int} (h : x ∈ l) : x.toNat ≤ tsum l := by
  induction l with
  | nil => cases h
  | cons y l ih =>
    simp only [tsum]
    rcases List.mem_cons.1 h with rfl | h
    · omega
    · have := ih h; omega
theorem tprod_pos {l : List Int} (hp : ∀ x ∈ l, 0 < x) : 0 < tprod l := by
  induction l with
  | nil => decide
  | cons y l ih =>
    simp only [tprod]
    exact Nat.mul_pos (by have := hp y (by simp); omega) (ih (fun x hx => hp x (by simp [hx])))
theorem tprod_mem {l : List Int} (hp : ∀ x ∈ l, 0 < x) {x : Int} (h : x ∈ l) : x.toNat ≤ tprod l := by
  induction l with
  | nil => cases h
  | cons y l ih =>
    simp only [tprod]
    have h1 := tprod_pos (l := l) (fun x hx => hp x (by simp [hx]))
    rcases List.mem_cons.1 h with rfl | h
    · exact Nat.le_mul_of_pos_right _ h1
    · have h2 := ih (fun x hx => hp x (by simp [hx])) h
      have h3 : 0 < y.toNat := by have := hp y (by simp); omega
      exact Nat.le_trans h2 (Nat.le_mul_of_pos_left _ h3)
theorem sum_ge {l : List Int} {x : Int} (h : x ∈ l) : x ≤ (sumL l : Int) ∨ sumL l = 4611686018427387904 := by
  have := tsum_mem h
  unfold sumL capS
  omega
theorem tim_ge {l : List Int} (hp : ∀ x ∈ l, 0 < x) {x : Int} (h : x ∈ l) : x ≤ (timL l : Int) ∨ timL l = 4611686018427387904 := by
  have := tprod_mem hp h
  unfold timL capS
  omega
/-- a number from 0 to n - 1 -/
def wtn10 (a : Int) (n : Nat) : Nat := if a.tmod n < 0 then (a.tmod n + n).toNat else (a.tmod n).toNat
theorem wtn10_lt (a : Int) {n : Nat} (hn : 0 < n) : wtn10 a n < n := by
  have h1 := Int.tmod_lt_of_pos a (show (0 : Int) < n by omega)
  have h2 := Int.lt_tmod_of_pos a (show (0 : Int) < n by omega)
  unfold wtn10
  split <;> omega
end Go.Proofs.Ytjhlfdlamjpdeaa.Nm

namespace Go.Proofs.Ytjhlfdlamjpdeaa.Nm
open Go.RowKit Go.Maps Go.Proofs.Ytjhlfdlamjpdeaa.Sp Go.Proofs.Ytjhlfdlamjpdeaa.Lx Go.Proofs.Ytjhlfdlamjpdeaa.Gr

set_option maxHeartbeats 1600000 in
theorem within_any (a : Int) (n : Nat) (hn : 0 < n) (hn2 : n ≤ 17592186043904) (w : World) : Calls Try.prog 14 #[.int .i64 a, .int .i64 (n : Int)] w fun r w' => r = .returned (.int .i64 (wtn10 a n : Nat)) ∧ w' = w := by
  have h1 := Int.tmod_lt_of_pos a (show (0 : Int) < n by omega)
  have h2 := Int.lt_tmod_of_pos a (show (0 : Int) < n by omega)
  have hw : IntKind.i64.wrap (a.tmod n) = a.tmod n := by
    rw [IntKind.wrap_i64]
    generalize a.tmod n = z at *
    omega
  have h3 : ((n : Int) == 0) = false := by simp; omega
  have h4 : (n : Int) ≤ 17592186043904 := by omega
  by_cases h0 : a.tmod n < 0
  · have HR : Hid (wtn10 a n = (a.tmod n + n).toNat) := by show _ = _; unfold wtn10; rw [if_pos h0]
    go_enter Try.func14, Try.ntmps14
    go_wp2
    go_ret
    exact ⟨by rw [HR.out, Int.toNat_of_nonneg (by omega)]; rfl, rfl⟩
  · have h5 : decide (a.tmod n < 0) = false := by simp; omega
    have HR : Hid (wtn10 a n = (a.tmod n).toNat) := by show _ = _; unfold wtn10; rw [if_neg h0]
    go_enter Try.func14, Try.ntmps14
    go_wp2
    go_ret
    exact ⟨by rw [HR.out, Int.toNat_of_nonneg (by omega)]; rfl, rfl⟩
end Go.Proofs.Ytjhlfdlamjpdeaa.Nm
