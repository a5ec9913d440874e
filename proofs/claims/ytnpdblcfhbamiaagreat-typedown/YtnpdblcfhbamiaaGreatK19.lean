import Derived.Test.YtnpdblcfhbamiaaGreatK18
import Derived.Maps.AppendAt
import Derived.Laws.MakeOwn
import Derived.OrdersHeld
import Derived.Deep.RegionHeld
import Derived.Great.BuildSlice
namespace Go.Proofs.YtnpdblcfhbamiaaGreat.Nm
open Go.RowKit Go.Maps Go.Proofs.YtnpdblcfhbamiaaGreat.Sp Go.Proofs.YtnpdblcfhbamiaaGreat.Lx Go.Proofs.YtnpdblcfhbamiaaGreat.Gr
/-- append to an owned row, of a slice that may be nil -/
theorem run_app {P : Program} (w : World) (base : Nat) (t ty e : TypeId) (i : TypeInfo) (z : Value) (size bytes : Nat) (ht : P.underlying t = some (.slice e)) (hi : P.info? e = some i) (hz : i.zero = some z)
    (hsize : i.size = size) (hby : i.bytes = bytes) (hzs : z.cells.size = size) (hsz : 0 < size)
    (v : Value) (n : Nat) (xs : List Value) (hown : w.ownsRow base e size v n xs)
    (ao : Option Addr) (m c : Nat) (news : List Value) (hl : news.length = m * size) (hnone : ao = none → m = 0 ∧ c = 0) (hnews : ∀ ad, ao = some ad → ∀ j u, news[j]? = some u → w.cell? (ad.add j) = some u) (h1 : ∀ u ∈ news, u.oneCell' = true)
    (h63 : n + m ≤ maxLen) (hbytes : (n + m) * bytes ≤ 140737488355328) (hbase : base ≤ w.heap.size) :
    ∃ v' w', (Builtin.append_ #[t, t] ty #[v, .slice ao m c]).run P w = .ok v' w' ∧ w'.ownsRow base e size v' (n + m) (xs ++ news) ∧ w.grownBy w' v.ownBlock ∧ (v'.ownBlock = v.ownBlock ∨ v'.ownBlock = some w.heap.size) := by
  cases ao with
  | some ad =>
    obtain ⟨v', w', hr, h2, h3, _, h5⟩ := run_append_own_at (P := P) w base t ty e i z size bytes ht hi hz hsize hby hzs hsz v n xs hown ad m c news hl (hnews ad rfl) h1 h63 hbytes hbase
    exact ⟨v', w', hr, h2, h3, h5⟩
  | none =>
    obtain ⟨rfl, rfl⟩ := hnone rfl
    have he : news = [] := List.eq_nil_of_length_eq_zero (by simpa using hl)
    subst he
    exact ⟨v, w, run_append_owned_none (P := P) w base t ty e i size ht hi v n xs hown, by simpa using hown, World.grownBy.refl _ _, Or.inl rfl⟩
theorem wpl_app {P : Program} (w : World) {ops : Array Oper} {rest : List Oper} {o : Oper} {a : Act} {Q : Exit → Act → World → Prop} (hgd : o.guard = none) (s x : Operand) (t : TypeId)
    (ho : o.op = .call { callee := .builtin .append, args := #[s, x], argTypes := #[t, t] })
    (base : Nat) (e : TypeId) (i : TypeInfo) (z : Value) (size bytes : Nat) (ht : P.underlying t = some (.slice e)) (hi : P.info? e = some i) (hz : i.zero = some z)
    (hsize : i.size = size) (hby : i.bytes = bytes) (hzs : z.cells.size = size) (hsz : 0 < size)
    (v : Value) (n : Nat) (xs : List Value) (hs : a.eval s = v) (hown : w.ownsRow base e size v n xs)
    (ao : Option Addr) (m c : Nat) (news : List Value) (hx : a.eval x = .slice ao m c) (hl : news.length = m * size) (hnone : ao = none → m = 0 ∧ c = 0) (hnews : ∀ ad, ao = some ad → ∀ j u, news[j]? = some u → w.cell? (ad.add j) = some u) (h1 : ∀ u ∈ news, u.oneCell' = true)
    (h63 : n + m ≤ maxLen) (hbytes : (n + m) * bytes ≤ 140737488355328) (hbase : base ≤ w.heap.size)
    (h : ∀ v' w', w'.ownsRow base e size v' (n + m) (xs ++ news) → w.grownBy w' v.ownBlock → (v'.ownBlock = v.ownBlock ∨ v'.ownBlock = some w.heap.size) → wpList P ops Q rest (a.put o.dst v') w') : wpList P ops Q (o :: rest) a w := by
  refine wpList_plain hgd fun K hK => ?_
  obtain ⟨v', w', hr, h2, h3, h4⟩ := run_app (P := P) w base t o.type e i z size bytes ht hi hz hsize hby hzs hsz v n xs hown ao m c news hl hnone hnews h1 h63 hbytes hbase
  unfold Oper.wp execOp
  simp only [ho, resolve, invoke, builtin, Sem.run_bind, Sem.run_pure, Result.andThen_ok, List.map_toArray, List.map_cons, List.map_nil, hs, hx, hr]
  exact hK _ _ (h v' w' h2 h3 h4)
/-- the same, as one step of a region that draws -/
theorem step_app {P : Program} (w : World) {ops : Array Oper} {o : Oper} {a : Act} {K : Act → World → Prop} {Q : Exit → Act → World → Prop} {E : Prop} (hgd : o.guard = none) (s x : Operand) (t : TypeId)
    (ho : o.op = .call { callee := .builtin .append, args := #[s, x], argTypes := #[t, t] })
    (base : Nat) (e : TypeId) (i : TypeInfo) (z : Value) (size bytes : Nat) (ht : P.underlying t = some (.slice e)) (hi : P.info? e = some i) (hz : i.zero = some z)
    (hsize : i.size = size) (hby : i.bytes = bytes) (hzs : z.cells.size = size) (hsz : 0 < size)
    (v : Value) (n : Nat) (xs : List Value) (hs : a.eval s = v) (hown : w.ownsRow base e size v n xs)
    (ao : Option Addr) (m c : Nat) (news : List Value) (hx : a.eval x = .slice ao m c) (hl : news.length = m * size) (hnone : ao = none → m = 0 ∧ c = 0) (hnews : ∀ ad, ao = some ad → ∀ j u, news[j]? = some u → w.cell? (ad.add j) = some u) (h1 : ∀ u ∈ news, u.oneCell' = true)
    (h63 : n + m ≤ maxLen) (hbytes : (n + m) * bytes ≤ 140737488355328) (hbase : base ≤ w.heap.size)
    (h : ∀ v' w', w'.ownsRow base e size v' (n + m) (xs ++ news) → w.grownBy w' v.ownBlock → (v'.ownBlock = v.ownBlock ∨ v'.ownBlock = some w.heap.size) → K (a.put o.dst v') w') : if Region.wanted o (yielded ops a.tmps) = true then Oper.wp P o a w K Q else E := by
  have hw : Region.wanted o (yielded ops a.tmps) = true := by simp [Region.wanted, hgd]
  rw [if_pos hw]
  obtain ⟨v', w', hr, h2, h3, h4⟩ := run_app (P := P) w base t o.type e i z size bytes ht hi hz hsize hby hzs hsz v n xs hown ao m c news hl hnone hnews h1 h63 hbytes hbase
  unfold Oper.wp execOp
  simp only [ho, resolve, invoke, builtin, Sem.run_bind, Sem.run_pure, Result.andThen_ok, List.map_toArray, List.map_cons, List.map_nil, hs, hx, hr]
  exact h v' w' h2 h3 h4
/-- make of an empty row with room for three more -/
theorem mk_capJ {t e : TypeId} {i : TypeInfo} {z : Value} {size bytes : Nat} (ht : Tryz.prog.underlying t = some (.slice e)) (hi : Tryz.prog.info? e = some i) (hz : i.zero = some z) (hsize : i.size = size) (hby : i.bytes = bytes) (n : Nat) (hn : bytes * (n + 3) ≤ 140737488355352) (hn2 : n ≤ 140737488355328) :
    ∃ M : Array Value, (∀ u : World, (Instr.makeSlice t (.int .i64 0) (.int .i64 ((n : Int) + 3))).run Tryz.prog u = .ok (.slice (some ⟨u.heap.size, 0, none⟩) 0 (n + 3)) (u.alloc (.cells M e))) ∧ M.size = (n + 3) * size := by
  refine ⟨_, fun u => ?_, size_madeCells z.cells ((n + 3) * size)⟩
  have h := run_make (P := Tryz.prog) u t e i z ht hi hz .i64 .i64 0 ((n : Int) + 3) (Int.le_refl _) (by omega) (by
    rw [hby]
    have : (bytes : Int) * ((n : Int) + 3) = ((bytes * (n + 3) : Nat) : Int) := by simp
    rw [this]
    omega) (by omega)
  have e1 : ((n : Int) + 3).toNat = n + 3 := by omega
  rw [e1, hsize] at h
  exact h
theorem own_madeJ {u : World} {M : Array Value} {e : TypeId} {n size base : Nat} (hM : M.size = (n + 3) * size) (hb : base ≤ u.heap.size) (hn : n ≤ 140737488355328) : (u.alloc (.cells M e)).ownsRow base e size (.slice (some ⟨u.heap.size, 0, none⟩) 0 (n + 3)) 0 [] :=
  own_mk (cur := M.toList) (by simp) hb (by rw [Array.toArray_toList]; exact heap_alloc_new u _) (Nat.zero_le _) (by unfold maxLen; omega) (by simpa using hM) (by simp)
theorem vals_src {w : World} {ao : Option Addr} {xs : List Value} (h : IsVals w ao xs) : ∀ ad, ao = some ad → ∀ j u, xs[j]? = some u → w.cell? (ad.add j) = some u := fun ad e j u hu => by
  obtain ⟨g, o, e2, _, hc⟩ := h j u hu
  rw [e] at e2
  cases e2
  rw [Lib.addr_add]
  exact hc
theorem vals_nil {w : World} {ao : Option Addr} {xs : List Value} {m sz : Nat} (h : IsVals w ao xs) (hl : xs.length = m * sz) (hs : 0 < sz) : ao = none → m = 0 := fun e => by
  cases m with
  | zero => rfl
  | succ m =>
    have h0 : 0 < xs.length := by rw [hl, Nat.succ_mul]; omega
    obtain ⟨g, o, e2, _⟩ := h 0 _ (List.getElem?_eq_getElem h0)
    rw [e] at e2
    cases e2
theorem iv_one (l : List Int) : ∀ u ∈ iv l, u.oneCell' = true := fun u hu => by
  obtain ⟨n, _, rfl⟩ := List.mem_map.1 hu
  rfl
theorem own_some {w : World} {base : Nat} {e : TypeId} {size : Nat} {v : Value} {n : Nat} {xs : List Value} (h : w.ownsRow base e size v n xs) (hn : 0 < n) : ∃ g cap, v = .slice (some ⟨g, 0, none⟩) n cap ∧ n ≤ cap ∧ cap ≤ maxLen := by
  obtain ⟨g, cap, cur, e1, _, _, h4, h5, _⟩ := own_block h hn
  exact ⟨g, cap, e1, h4, h5⟩
theorem mk_cap {t e : TypeId} {i : TypeInfo} {z : Value} {size bytes : Nat} (ht : Tryz.prog.underlying t = some (.slice e)) (hi : Tryz.prog.info? e = some i) (hz : i.zero = some z) (hsize : i.size = size) (hby : i.bytes = bytes) (hb : bytes ≤ 1000) (n : Nat) (hn : n ≤ 1000) :
    ∃ M : Array Value, (∀ u : World, (Instr.makeSlice t (.int .i64 0) (.int .i64 ((n : Int) + 3))).run Tryz.prog u = .ok (.slice (some ⟨u.heap.size, 0, none⟩) 0 (n + 3)) (u.alloc (.cells M e))) ∧ M.size = (n + 3) * size := mk_capJ ht hi hz hsize hby n (Nat.le_trans (Nat.mul_le_mul hb (show n + 3 ≤ 1003 by omega)) (by decide)) (by omega)
theorem own_made {u : World} {M : Array Value} {e : TypeId} {n size base : Nat} (hM : M.size = (n + 3) * size) (hb : base ≤ u.heap.size) (hn : n ≤ 1000) : (u.alloc (.cells M e)).ownsRow base e size (.slice (some ⟨u.heap.size, 0, none⟩) 0 (n + 3)) 0 [] := own_madeJ hM hb (by omega)
end Go.Proofs.YtnpdblcfhbamiaaGreat.Nm
set_option linter.unusedSimpArgs false
namespace Go.Proofs.YtnpdblcfhbamiaaGreat.Nm.Ty
open Go.RowKit Go.Maps Go.Proofs.YtnpdblcfhbamiaaGreat.Nm
/-- a list in a block of its own -/
structure Ent where
  base : Nat
  T : TypeId
  sz : Nat
  v : Value
  n : Nat
  xs : List Value
/-- lists by their number, in blocks of their own, apart -/
structure Ap (w : World) (pb : Nat) (E : Nat → Option Ent) : Prop where
  ow : ∀ j x, E j = some x → pb < x.base ∧ w.ownsRow x.base x.T x.sz x.v x.n x.xs
  ap : ∀ i j x y, i ≠ j → E i = some x → E j = some y → ∀ k, x.v.ownBlock = some k → y.v.ownBlock ≠ some k
/-- a place of a function is turned -/
def up {α : Type} (f : Nat → α) (j : Nat) (v : α) : Nat → α := fun i => if i = j then v else f i
theorem up_same {α : Type} (f : Nat → α) (j : Nat) (v : α) : up f j v j = v := if_pos rfl
theorem up_ne {α : Type} {f : Nat → α} {i j : Nat} {v : α} (h : i ≠ j) : up f j v i = f i := if_neg h
theorem up_up {α : Type} (f : Nat → α) (j : Nat) (a b : α) : up (up f j a) j b = up f j b := by
  funext i
  by_cases h : i = j
  · subst h; rw [up_same, up_same]
  · rw [up_ne h, up_ne h, up_ne h]
theorem own_kb {w w' : World} {base : Nat} {e : TypeId} {size : Nat} {v : Value} {n : Nat} {xs : List Value} (h : w.ownsRow base e size v n xs) (hb : ∀ k, v.ownBlock = some k → w'.heap[k]? = w.heap[k]?) : w'.ownsRow base e size v n xs := by
  refine ⟨h.1, ?_⟩
  rcases h.2 with h2 | ⟨g, cap, cur, rfl, h3, h4, h5⟩
  · exact Or.inl h2
  · exact Or.inr ⟨g, cap, cur, rfl, h3, (hb g rfl).trans h4, h5⟩
section
variable {w w' : World} {pb : Nat} {E E' : Nat → Option Ent}
theorem Ap.turn {j : Nat} {y : Ent} (h : Ap w pb E) (hy : pb < y.base ∧ w'.ownsRow y.base y.T y.sz y.v y.n y.xs) (hk : ∀ i x, i ≠ j → E i = some x → ∀ k, x.v.ownBlock = some k → w'.heap[k]? = w.heap[k]? ∧ y.v.ownBlock ≠ some k) : Ap w' pb (up E j (some y)) := by
  refine ⟨fun i x hx => ?_, fun i i2 x x2 hne hx hx2 k hb hb2 => ?_⟩
  · by_cases hi : i = j
    · subst hi
      rw [up_same] at hx
      cases hx
      exact hy
    · rw [up_ne hi] at hx
      exact ⟨(h.ow i x hx).1, own_kb (h.ow i x hx).2 fun k e => (hk i x hi hx k e).1⟩
  · by_cases hi : i = j
    · subst hi
      rw [up_same] at hx
      cases hx
      rw [up_ne (Ne.symm hne)] at hx2
      exact (hk i2 x2 (Ne.symm hne) hx2 k hb2).2 hb
    · rw [up_ne hi] at hx
      by_cases hi2 : i2 = j
      · subst hi2
        rw [up_same] at hx2
        cases hx2
        exact (hk i x hi hx k hb).2 hb2
      · rw [up_ne hi2] at hx2
        exact h.ap i i2 x x2 hne hx hx2 k hb hb2
theorem Ap.build (h : Ap w pb E) (hp : pb < w.heap.size) (j : Nat) (T : TypeId) (sz : Nat) : Ap (w.alloc (.cells #[] T)) pb (up E j (some ⟨w.heap.size, T, sz, .slice (some ⟨w.heap.size, 0, none⟩) 0 0, 0, []⟩)) :=
  h.turn ⟨hp, World.ownsRow_made w #[] 0 (Nat.le_refl _) (Nat.zero_le _) (by simp)⟩ fun i x hi hx k hk => by
    have h1 := (World.ownsRow.lt (h.ow i x hx).2 k hk).2
    refine ⟨Below.heap_alloc w _ k h1, fun e => ?_⟩
    have e2 : w.heap.size = k := Option.some.inj e
    omega
theorem Ap.app {j n' : Nat} {x : Ent} {v' : Value} {xs' : List Value} (h : Ap w pb E) (hx : E j = some x) (hg : w.grownBy w' x.v.ownBlock) (ho : w'.ownsRow x.base x.T x.sz v' n' xs') (hb : v'.ownBlock = x.v.ownBlock ∨ v'.ownBlock = some w.heap.size) : Ap w' pb (up E j (some ⟨x.base, x.T, x.sz, v', n', xs'⟩)) :=
  h.turn ⟨(h.ow j x hx).1, ho⟩ fun i y hi hy k hk => by
    have h1 := (World.ownsRow.lt (h.ow i y hy).2 k hk).2
    have h2 : some k ≠ x.v.ownBlock := fun e => h.ap i j y x hi hy hx k hk e.symm
    refine ⟨hg.block k h1 h2, fun e => ?_⟩
    have e' : v'.ownBlock = some k := e
    rcases hb with hb | hb
    · exact h2 (e'.symm.trans hb)
    · rw [e'] at hb
      have := Option.some.inj hb
      omega
theorem Ap.keep (h : Ap w pb E) (hk : ∀ j x, E j = some x → ∀ k, x.v.ownBlock = some k → w'.heap[k]? = w.heap[k]?) : Ap w' pb E :=
  ⟨fun j x hx => ⟨(h.ow j x hx).1, own_kb (h.ow j x hx).2 (hk j x hx)⟩, h.ap⟩
theorem Ap.below (h : Ap w pb E) (hb : Below w.heap.size w w') : Ap w' pb E :=
  h.keep fun j x hx k hk => hb.block k (World.ownsRow.lt (h.ow j x hx).2 k hk).2
theorem Ap.blk {j g n c : Nat} {x : Ent} (h : Ap w pb E) (hx : E j = some x) (hv : x.v = .slice (some ⟨g, 0, none⟩) n c) : pb < g ∧ g < w.heap.size := by
  have h1 := World.ownsRow.lt (h.ow j x hx).2 g (by rw [hv]; rfl)
  have := (h.ow j x hx).1
  omega
/-- a cell of a list is written -/
theorem Ap.setC {j g n c : Nat} {b sz : Nat} {T : TypeId} {xs : List Value} (h : Ap w pb E) (hx : E j = some ⟨b, T, sz, .slice (some ⟨g, 0, none⟩) n c, n, xs⟩) (k : Nat) (u : Value) : Ap (w.setCell ⟨g, k, none⟩ u) pb (up E j (some ⟨b, T, sz, .slice (some ⟨g, 0, none⟩) n c, n, xs.set k u⟩)) :=
  h.turn ⟨(h.ow j _ hx).1, ((h.ow j _ hx).2.stored k u).1⟩ fun i y hi hy q hq => by
    have h2 : q ≠ g := fun e => h.ap i j y _ hi hy hx q hq (by rw [e]; rfl)
    exact ⟨heap_setCell_other w ⟨g, k, none⟩ q u h2, fun e => h2 (Option.some.inj e).symm⟩
/-- a new list -/
theorem Ap.add {T : TypeId} {sz n b : Nat} {v : Value} {xs : List Value} (h : Ap w pb E) (hb : Below w.heap.size w w') (hp : pb < b) (hbb : w.heap.size ≤ b) (ho : w'.ownsRow b T sz v n xs) (j : Nat) : Ap w' pb (up E j (some ⟨b, T, sz, v, n, xs⟩)) :=
  h.turn ⟨hp, ho⟩ fun i y hi hy q hq => by
    have h1 := (World.ownsRow.lt (h.ow i y hy).2 q hq).2
    exact ⟨hb.block q h1, fun e => by have := (World.ownsRow.lt ho q e).1; omega⟩
/-- a list's base is no greater than the memory -/
theorem Ap.base {j : Nat} {x : Ent} (h : Ap w pb E) (hx : E j = some x) (hp : pb < w.heap.size) : ∃ b, b ≤ w.heap.size ∧ Ap w pb (up E j (some ⟨b, x.T, x.sz, x.v, x.n, x.xs⟩)) := by
  have ho := (h.ow j x hx).2
  have hr : ∀ b, pb < b → w.ownsRow b x.T x.sz x.v x.n x.xs → Ap w pb (up E j (some ⟨b, x.T, x.sz, x.v, x.n, x.xs⟩)) := fun b hb ho' => h.turn ⟨hb, ho'⟩ fun i y hi hy k hk => ⟨rfl, h.ap i j y x hi hy hx k hk⟩
  rcases ho.2 with ⟨e1, e2⟩ | ⟨g, cap, cur, e1, e3, e4, -⟩
  · exact ⟨w.heap.size, Nat.le_refl _, hr _ hp ⟨ho.1, Or.inl ⟨e1, e2⟩⟩⟩
  · exact ⟨x.base, by have := (Array.getElem?_eq_some_iff.1 e4).1; omega, hr _ (h.ow j x hx).1 ho⟩
/-- a list is struck -/
theorem Ap.drop (h : Ap w pb E) (hE : ∀ j x, E' j = some x → E j = some x) : Ap w pb E' :=
  ⟨fun j x hx => h.ow j x (hE j x hx), fun i j x y hij hx hy => h.ap i j x y hij (hE i x hx) (hE j y hy)⟩
end
/-- a box as a list of one -/
theorem own_box (w : World) (cs : Array Value) (T : TypeId) (n : Nat) (hn : cs.size = n) : (w.alloc (.cells cs T)).ownsRow w.heap.size T n (.slice (some ⟨w.heap.size, 0, none⟩) 1 1) 1 cs.toList :=
  World.ownsRow_lit w cs 1 (Nat.le_refl _) (by unfold maxLen; omega) (by omega)
section
variable {P : Program} {ops : Array Oper} {Q : Exit → Act → World → Prop} {md : Region.Mode} {S : World → Prop}
theorem ready_ne {l : Array Bool} (i : Nat) (hi : i < ops.size) (h : (!l.getD i true && ((ops[i]?).map (·.after.all fun e => !Region.binds md e || l.getD e.on false)).getD false) = true) : Region.ready md ops l ≠ [] := fun e => by
  have h2 : i ∈ Region.ready md ops l := List.mem_filter.2 ⟨List.mem_range.2 hi, h⟩
  rw [e] at h2
  cases h2
theorem ready_on {l : Array Bool} {i : Nat} (h : i ∈ Region.ready md ops l) : l.getD i true = false ∧ ∀ e ∈ ((ops[i]?).map (·.after.toList)).getD [], Region.binds md e = true → l.getD e.on false = true := by
  obtain ⟨h1, o, ho, h2⟩ := mem_ready.1 h
  refine ⟨h1, fun e he hb => h2 e ?_ hb⟩
  rw [ho] at he
  exact Array.mem_toList_iff.1 he
/-- A REGION BY WHAT HAS COME UP: two rows of marks; what is told holds whatever came up; the last state goes on. -/
theorem held_bc (L : (Nat → Bool) → (Nat → Bool) → Array Bool) (cnt : (Nat → Bool) → (Nat → Bool) → Nat) (I : (Nat → Bool) → (Nat → Bool) → Act → World → Prop) (f0 : Nat)
    (hend : ∀ b c a w, cnt b c = 0 → I b c a w → wpAnyH P md ops Q S f0 (L b c) a w)
    (hne : ∀ b c, cnt b c ≠ 0 → Region.ready md ops (L b c) ≠ [])
    (hstep : ∀ b c a w i, cnt b c ≠ 0 → I b c a w → i ∈ Region.ready md ops (L b c) → ∃ b' c', L b' c' = (L b c).setIfInBounds i true ∧ cnt b' c' + 1 = cnt b c ∧ wpOp P ops Q i (fun a' w' => S w' ∧ I b' c' a' w') a w) :
    ∀ n b c a w, cnt b c = n → I b c a w → wpAnyH P md ops Q S (n + f0) (L b c) a w := by
  intro n
  induction n with
  | zero =>
    intro b c a w hc hI
    rw [Nat.zero_add]
    exact hend b c a w hc hI
  | succ n ih =>
    intro b c a w hc hI
    rw [show n + 1 + f0 = (n + f0) + 1 by omega]
    refine wpAnyH_all rfl (hne b c (by omega)) fun i hi => ?_
    obtain ⟨b', c', h1, h2, h3⟩ := hstep b c a w i (by omega) hI hi
    rw [← h1]
    exact wpOp_mono (fun a' w' h => ⟨h.1, ih b' c' a' w' (by omega) h.2⟩) h3
theorem held_go {b c : Nat → Bool} {n fuel : Nat} {listed : Array Bool} {a : Act} {w : World} (L : (Nat → Bool) → (Nat → Bool) → Array Bool) (cnt : (Nat → Bool) → (Nat → Bool) → Nat) (I : (Nat → Bool) → (Nat → Bool) → Act → World → Prop) (f0 : Nat)
    (hl : listed = L b c) (hc : cnt b c = n) (hf : fuel = n + f0) (hI : I b c a w)
    (hend : ∀ b c a w, cnt b c = 0 → I b c a w → wpAnyH P md ops Q S f0 (L b c) a w)
    (hne : ∀ b c, cnt b c ≠ 0 → Region.ready md ops (L b c) ≠ [])
    (hstep : ∀ b c a w i, cnt b c ≠ 0 → I b c a w → i ∈ Region.ready md ops (L b c) → ∃ b' c', L b' c' = (L b c).setIfInBounds i true ∧ cnt b' c' + 1 = cnt b c ∧ wpOp P ops Q i (fun a' w' => S w' ∧ I b' c' a' w') a w) : wpAnyH P md ops Q S fuel listed a w := by
  subst hl
  subst hf
  exact held_bc L cnt I f0 hend hne hstep n b c a w hc hI
/-- the same, what is told being said of the act at the start -/
theorem held_from {b c : Nat → Bool} {n fuel : Nat} {listed : Array Bool} {a0 : Act} {w : World} (L : (Nat → Bool) → (Nat → Bool) → Array Bool) (cnt : (Nat → Bool) → (Nat → Bool) → Nat) (I : Act → (Nat → Bool) → (Nat → Bool) → Act → World → Prop) (f0 : Nat)
    (hl : listed = L b c) (hc : cnt b c = n) (hf : fuel = n + f0) (hI : I a0 b c a0 w)
    (hend : ∀ b c a w, cnt b c = 0 → I a0 b c a w → wpAnyH P md ops Q S f0 (L b c) a w)
    (hne : ∀ b c, cnt b c ≠ 0 → Region.ready md ops (L b c) ≠ [])
    (hstep : ∀ b c a w i, cnt b c ≠ 0 → I a0 b c a w → i ∈ Region.ready md ops (L b c) → ∃ b' c', L b' c' = (L b c).setIfInBounds i true ∧ cnt b' c' + 1 = cnt b c ∧ wpOp P ops Q i (fun a' w' => S w' ∧ I a0 b' c' a' w') a w) : wpAnyH P md ops Q S fuel listed a0 w :=
  held_go L cnt (I a0) f0 hl hc hf hI hend hne hstep
/-- steps of a region that draws: a slice of none, a struct, a struct's store -/
theorem step_bs0 (w : World) {o : Oper} {a : Act} {K : Act → World → Prop} {F : Prop} (hgd : o.guard = none) (t : TypeId) (ho : o.op = .buildSlice t 0 #[])
    {e : TypeId} {i : TypeInfo} (ht : P.underlying t = some (.slice e)) (hi : P.info? e = some i)
    (h : K (a.put o.dst (.slice (some ⟨w.heap.size, 0, none⟩) 0 0)) (w.alloc (.cells #[] e))) : if Region.wanted o (yielded ops a.tmps) = true then Oper.wp P o a w K Q else F := by
  have hw : Region.wanted o (yielded ops a.tmps) = true := by simp [Region.wanted, hgd]
  rw [if_pos hw]
  have hr : (Instr.buildSlice t 0 #[]).run P w = .ok (.slice (some ⟨w.heap.size, 0, none⟩) 0 0) (w.alloc (.cells #[] e)) := by
    simp [Instr.buildSlice, run_underlying ht, sizeOf, typeInfo, hi, Instr.fill, newRow, newObj]
    rw [show Array.range 0 = #[] from Array.eq_empty_of_size_eq_zero (by simp), Array.map_empty]
    rfl
  unfold Oper.wp execOp
  simp only [ho, Sem.run_bind, Sem.run_pure, Result.andThen_ok, List.map_toArray, List.map_nil, Array.map_empty, hr]
  exact h
theorem step_build (w : World) {o : Oper} {a : Act} {K : Act → World → Prop} {F : Prop} (hgd : o.guard = none) (t : TypeId) (parts : Array (Nat × Operand)) (ho : o.op = .build t parts) (cells : Array Value) (hf : P.built t (parts.map fun (i, x) => (i, a.eval x)).toList = some cells)
    (h : K (a.put o.dst (.agg cells)) w) : if Region.wanted o (yielded ops a.tmps) = true then Oper.wp P o a w K Q else F := by
  have hw : Region.wanted o (yielded ops a.tmps) = true := by simp [Region.wanted, hgd]
  rw [if_pos hw]
  unfold Oper.wp execOp
  simp only [ho, Sem.run_bind, run_build w t _ _ hf, Result.andThen_ok]
  exact h
theorem step_store {w : World} {o : Oper} {a : Act} {K : Act → World → Prop} {F : Prop} (hgd : o.guard = none) (ty : TypeId) (x y : Operand) (ho : o.op = .store ty x y)
    (g : Nat) (cells : Array Value) (hx : a.eval x = .pointer (some ⟨g, 0, none⟩)) (hy : a.eval y = .agg cells)
    (t : TypeId) (old : Array Value) (hg : w.heap[g]? = some (.cells old t (0, 0))) (hi : (P.info? ty).map (·.size) = some cells.size)
    (hold : old.size = cells.size) (h1 : cells.all (·.oneCell') = true)
    (h : K (a.put o.dst undef) (w.setRow g cells)) : if Region.wanted o (yielded ops a.tmps) = true then Oper.wp P o a w K Q else F := by
  have hw : Region.wanted o (yielded ops a.tmps) = true := by simp [Region.wanted, hgd]
  rw [if_pos hw]
  exact wp_store_row ty x y ho g cells hx hy t old hg hi hold h1 h
end
/-- a list of one is its block -/
theorem box_heap {w : World} {base g sz : Nat} {T : TypeId} {xs : List Value} (h : w.ownsRow base T sz (.slice (some ⟨g, 0, none⟩) 1 1) 1 xs) : w.heap[g]? = some (.cells xs.toArray T (0, 0)) := by
  rcases h.2 with ⟨e, _⟩ | ⟨g', cap, cur, e, _, hg, _, _, hs, ht⟩
  · cases e
  · cases e
    rw [List.take_of_length_le (by simp [hs])] at ht
    rw [hg, ← ht]
/-- what has come up, by two rows of four marks -/
def lT8 (b c : Nat → Bool) : Array Bool := #[b 0, true, true, c 0, b 1, true, true, c 1, b 2, true, true, c 2, c 3, b 3, false]
def cn8 (b c : Nat → Bool) : Nat := (cond (b 0) 0 1 + cond (c 0) 0 1) + (cond (b 1) 0 1 + cond (c 1) 0 1) + (cond (b 2) 0 1 + cond (c 2) 0 1) + (cond (b 3) 0 1 + cond (c 3) 0 1)
theorem cn8_b {b c : Nat → Bool} {j : Nat} (hj : j < 4) (h : b j = false) : cn8 (up b j true) c + 1 = cn8 b c := by
  unfold cn8
  match j, hj with
  | 0, _ => rw [up_same, up_ne (by omega), up_ne (by omega), up_ne (by omega), h]; simp only [cond_true, cond_false]; omega
  | 1, _ => rw [up_same, up_ne (by omega), up_ne (by omega), up_ne (by omega), h]; simp only [cond_true, cond_false]; omega
  | 2, _ => rw [up_same, up_ne (by omega), up_ne (by omega), up_ne (by omega), h]; simp only [cond_true, cond_false]; omega
  | 3, _ => rw [up_same, up_ne (by omega), up_ne (by omega), up_ne (by omega), h]; simp only [cond_true, cond_false]; omega
theorem cn8_c {b c : Nat → Bool} {j : Nat} (hj : j < 4) (h : c j = false) : cn8 b (up c j true) + 1 = cn8 b c := by
  unfold cn8
  match j, hj with
  | 0, _ => rw [up_same, up_ne (by omega), up_ne (by omega), up_ne (by omega), h]; simp only [cond_true, cond_false]; omega
  | 1, _ => rw [up_same, up_ne (by omega), up_ne (by omega), up_ne (by omega), h]; simp only [cond_true, cond_false]; omega
  | 2, _ => rw [up_same, up_ne (by omega), up_ne (by omega), up_ne (by omega), h]; simp only [cond_true, cond_false]; omega
  | 3, _ => rw [up_same, up_ne (by omega), up_ne (by omega), up_ne (by omega), h]; simp only [cond_true, cond_false]; omega
theorem cn8_0 {b c : Nat → Bool} (h : cn8 b c = 0) : (b 0 = true ∧ b 1 = true ∧ b 2 = true ∧ b 3 = true) ∧ c 0 = true ∧ c 1 = true ∧ c 2 = true ∧ c 3 = true := by
  unfold cn8 at h
  cases h0 : b 0 <;> cases h1 : c 0 <;> rw [h0, h1] at h <;> simp only [cond_true, cond_false] at h <;> first | omega | skip
  cases h2 : b 1 <;> cases h3 : c 1 <;> rw [h2, h3] at h <;> simp only [cond_true, cond_false] at h <;> first | omega | skip
  cases h4 : b 2 <;> cases h5 : c 2 <;> rw [h4, h5] at h <;> simp only [cond_true, cond_false] at h <;> first | omega | skip
  cases h6 : b 3 <;> cases h7 : c 3 <;> rw [h6, h7] at h <;> simp only [cond_true, cond_false] at h <;> first | omega | skip
  exact ⟨⟨rfl, rfl, rfl, rfl⟩, rfl, rfl, rfl, rfl⟩
end Go.Proofs.YtnpdblcfhbamiaaGreat.Nm.Ty
