import Derived.Test.YtcblichnkakhdaaDoorJT
set_option linter.unusedSimpArgs false
namespace Go.Proofs.YtcblichnkakhdaaDoor.Cd
open Go.RowKit Go.Proofs.YtcblichnkakhdaaDoor.Nm Go.Proofs.YtcblichnkakhdaaDoor.Vf

/-- the first k of a list are turned -/
def pr {α : Type} (f : Nat → α) (l : List α) : Nat → List α
  | 0 => l
  | k + 1 => (pr f l k).set k (f k)
theorem pr_len {α : Type} (f : Nat → α) (l : List α) (k : Nat) : (pr f l k).length = l.length := by
  induction k with
  | zero => rfl
  | succ k ih => rw [pr, List.length_set, ih]
theorem pr_at {α : Type} {f : Nat → α} {l : List α} {i : Nat} (hl : i < l.length) : ∀ k, i < k → (pr f l k)[i]? = some (f i) := by
  intro k
  induction k with
  | zero => intro h; omega
  | succ k ih =>
    intro h
    rw [pr]
    by_cases e : k = i
    · subst e
      rw [List.getElem?_set_self (by rw [pr_len]; exact hl)]
    · rw [List.getElem?_set_ne e]
      exact ih (by omega)
theorem iC_set (l : List Int) (k : Nat) (x : Int) : (iC l).set k (.int .i64 x) = iC (l.set k x) := by
  unfold iC
  rw [List.map_set]
theorem vC_set (l : List (Int × Int × Int)) (k : Nat) (x : Int × Int × Int) : (((vC l).set (k * 3) (.int .i64 x.1)).set (k * 3 + 1) (.int .i64 x.2.1)).set (k * 3 + 2) (.int .i64 x.2.2) = vC (l.set k x) := by
  induction l generalizing k with
  | nil => rfl
  | cons y l ih =>
    have e : vC (y :: l) = .int .i64 y.1 :: .int .i64 y.2.1 :: .int .i64 y.2.2 :: vC l := rfl
    rw [e]
    cases k with
    | zero => rfl
    | succ k =>
      have e2 : vC ((y :: l).set (k + 1) x) = .int .i64 y.1 :: .int .i64 y.2.1 :: .int .i64 y.2.2 :: vC (l.set k x) := rfl
      rw [e2, ← ih k, show (k + 1) * 3 = k * 3 + 1 + 1 + 1 by omega]
      rfl
theorem cC_set (l : List Ins) (k : Nat) (x : Ins) : (((((Vf.cC l).set (k * 5) (.int .i64 x.op)).set (k * 5 + 1) (.int .i64 x.a)).set (k * 5 + 2) (.int .i64 x.b)).set (k * 5 + 3) (.int .i64 x.c)).set (k * 5 + 4) (.int .i64 x.d) = Vf.cC (l.set k x) := by
  induction l generalizing k with
  | nil => rfl
  | cons y l ih =>
    have e : Vf.cC (y :: l) = .int .i64 y.op :: .int .i64 y.a :: .int .i64 y.b :: .int .i64 y.c :: .int .i64 y.d :: Vf.cC l := rfl
    rw [e]
    cases k with
    | zero => rfl
    | succ k =>
      have e2 : Vf.cC ((y :: l).set (k + 1) x) = .int .i64 y.op :: .int .i64 y.a :: .int .i64 y.b :: .int .i64 y.c :: .int .i64 y.d :: Vf.cC (l.set k x) := rfl
      rw [e2, ← ih k, show (k + 1) * 5 = k * 5 + 1 + 1 + 1 + 1 + 1 by omega]
      rfl
section
variable {w w' : World} {pb : Nat} {E E' : Nat → Option Ent}
theorem Ap.keep (h : Ap w pb E) (hk : ∀ j x, E j = some x → ∀ k, x.v.ownBlock = some k → w'.heap[k]? = w.heap[k]?) : Ap w' pb E :=
  ⟨fun j x hx => ⟨(h.ow j x hx).1, own_keepB (h.ow j x hx).2 (hk j x hx)⟩, h.ap⟩
theorem Ap.below (h : Ap w pb E) (hb : Below w.heap.size w w') : Ap w' pb E :=
  h.keep fun j x hx k hk => hb.block k (World.ownsRow.lt (h.ow j x hx).2 k hk).2
theorem Ap.blk {j g n c : Nat} {x : Ent} (h : Ap w pb E) (hx : E j = some x) (hv : x.v = .slice (some ⟨g, 0, none⟩) n c) : pb < g ∧ g < w.heap.size := by
  have h1 := World.ownsRow.lt (h.ow j x hx).2 g (by rw [hv]; rfl)
  have := (h.ow j x hx).1
  omega
/-- a cell of a list is written -/
theorem Ap.setC {j g n c : Nat} {b sz : Nat} {T : TypeId} {xs : List Value} (h : Ap w pb E) (hx : E j = some ⟨b, T, sz, .slice (some ⟨g, 0, none⟩) n c, n, xs⟩) (k : Nat) (u : Value) : Ap (w.setCell ⟨g, k, none⟩ u) pb (up E j (some ⟨b, T, sz, .slice (some ⟨g, 0, none⟩) n c, n, xs.set k u⟩)) :=
  h.turn ⟨(h.ow j _ hx).1, ((h.ow j _ hx).2.stored k u).1⟩ fun i y hi hy q hq => by
    have h2 : q ≠ g := fun e => h.ap i j y _ hi hy hx q hq (by rw [e]; rfl)
    exact ⟨heap_setCell_other w ⟨g, k, none⟩ q u h2, fun e => h2 (Option.some.inj e).symm⟩
theorem bel_set {g n : Nat} (h : n < g) (k : Nat) (u : Value) {w0 : World} (hb : Below (n + 1) w0 w) : Below (n + 1) w0 (w.setCell ⟨g, k, none⟩ u) := hb.setCell (p := ⟨g, k, none⟩) (by show n + 1 ≤ g; omega) u
theorem up_up {α : Type} (f : Nat → α) (j : Nat) (a b : α) : up (up f j a) j b = up f j b := by
  funext i
  by_cases h : i = j
  · subst h; rw [up_same, up_same]
  · rw [up_ne h, up_ne h, up_ne h]
theorem up_self {α : Type} {f : Nat → α} {j : Nat} {a : α} (h : f j = a) : up f j a = f := by
  funext i
  by_cases e : i = j
  · subst e; rw [up_same, h]
  · rw [up_ne e]
/-- a new list -/
theorem Ap.add {T : TypeId} {sz n : Nat} {v : Value} {xs : List Value} (h : Ap w pb E) (hb : Below w.heap.size w w') (hp : pb < w.heap.size) (ho : w'.ownsRow w.heap.size T sz v n xs) (j : Nat) : Ap w' pb (up E j (some ⟨w.heap.size, T, sz, v, n, xs⟩)) :=
  h.turn ⟨hp, ho⟩ fun i y hi hy q hq => by
    have h1 := (World.ownsRow.lt (h.ow i y hy).2 q hq).2
    exact ⟨hb.block q h1, fun e => by have := (World.ownsRow.lt ho q e).1; omega⟩
/-- an append that is kept -/
theorem Ap.gone {j n' : Nat} {x : Ent} {v' : Value} {xs' : List Value} (h : Ap w pb E) (hx : E j = some x) (hG : Gone w x.v w' v') (ho : w'.ownsRow x.base x.T x.sz v' n' xs') : Ap w' pb (up E j (some ⟨x.base, x.T, x.sz, v', n', xs'⟩)) :=
  h.turn ⟨(h.ow j x hx).1, ho⟩ fun i y hi hy k hk => by
    have h1 := (World.ownsRow.lt (h.ow i y hy).2 k hk).2
    have h2 : some k ≠ x.v.ownBlock := fun e => h.ap i j y x hi hy hx k hk e.symm
    refine ⟨hG.1.block k h1 h2, fun e => ?_⟩
    have e' : v'.ownBlock = some k := e
    rcases hG.own with hb | hb
    · exact h2 (e'.symm.trans hb)
    · have := hb k e'
      omega
/-- an append that leaves the list -/
theorem Ap.more {j : Nat} {x : Ent} {v' : Value} (h : Ap w pb E) (hx : E j = some x) (hG : Gone w x.v w' v') (ho : w'.ownsRow x.base x.T x.sz x.v x.n x.xs) : Ap w' pb E := by
  have h1 := h.turn (j := j) (y := x) (w' := w') ⟨(h.ow j x hx).1, ho⟩ fun i y hi hy k hk => by
    have h1 := (World.ownsRow.lt (h.ow i y hy).2 k hk).2
    have h2 : some k ≠ x.v.ownBlock := fun e => h.ap i j y x hi hy hx k hk e.symm
    exact ⟨hG.1.block k h1 h2, fun e => h2 e.symm⟩
  rw [up_self hx] at h1
  exact h1
/-- no other list lies in block g -/
def NeE (E : Nat → Option Ent) (j g : Nat) : Prop := ∀ i x, E i = some x → i ≠ j → x.v.ownBlock ≠ some g
theorem Ap.neE {j g : Nat} {x : Ent} {v' : Value} (h : Ap w pb E) (hx : E j = some x) (hG : Gone w x.v w' v') (hg : v'.ownBlock = some g) : NeE E j g := fun i y hy hi e => by
  have h1 := (World.ownsRow.lt (h.ow i y hy).2 g e).2
  rcases hG.own with hb | hb
  · exact h.ap i j y x hi hy hx g e (hb ▸ hg)
  · have := hb g hg
    omega
/-- a cell behind a list is written -/
theorem Ap.past {j g k : Nat} {x : Ent} (h : Ap w pb E) (hx : E j = some x) (hN : NeE E j g) (hk : x.xs.length ≤ k) (u : Value) : Ap (w.setCell ⟨g, k, none⟩ u) pb E := by
  refine ⟨fun i y hy => ⟨(h.ow i y hy).1, ?_⟩, h.ap⟩
  have ho := (h.ow i y hy).2
  by_cases hi : i = j
  · subst hi
    rw [hx] at hy
    cases hy
    rcases ho.2 with ⟨e1, e2⟩ | ⟨g', cap, cur, e1, _⟩
    · exact own_keepB ho fun q hq => by rw [e1] at hq; cases hq
    · by_cases e : g' = g
      · subst e
        obtain ⟨b, T, sz, v, n, xs⟩ := x
        dsimp only at e1 hk ho ⊢
        subst e1
        have h9 := (ho.stored k u).1
        rw [List.set_eq_of_length_le hk] at h9
        exact h9
      · exact own_keepB ho fun q hq => by
          rw [e1] at hq
          have e2 : g' = q := Option.some.inj hq
          exact heap_setCell_other w ⟨g, k, none⟩ q u (by show q ≠ g; omega)
  · exact own_keepB ho fun q hq => heap_setCell_other w ⟨g, k, none⟩ q u (fun e => hN i y hy hi (by rw [hq]; exact congrArg some e))
end
/-- an append behind a list leaves the list as it was -/
theorem run_append_both {P : Program} (w : World) (base : Nat) (t ty e : TypeId) (i : TypeInfo) (z : Value) (size bytes : Nat) (ht : P.underlying t = some (.slice e)) (hi : P.info? e = some i) (hz : i.zero = some z)
    (hsize : i.size = size) (hby : i.bytes = bytes) (hzs : z.cells.size = size) (hsz : 0 < size)
    (v : Value) (n : Nat) (xs : List Value) (hown : w.ownsRow base e size v n xs)
    (a : Addr) (m c : Nat) (news : List Value) (hl : news.length = m * size) (hnews : ∀ j u, news[j]? = some u → w.cell? (a.add j) = some u) (h1 : ∀ u ∈ news, u.oneCell' = true)
    (h63 : n + m ≤ maxLen) (hbytes : (n + m) * bytes ≤ 140737488355328) (hbase : base ≤ w.heap.size) (hm : 0 < m) :
    ∃ v' w', (Builtin.append_ #[t, t] ty #[v, .slice (some a) m c]).run P w = .ok v' w' ∧ w'.ownsRow base e size v' (n + m) (xs ++ news) ∧ w'.ownsRow base e size v n xs ∧ Gone w v w' v' := by
  obtain ⟨v', w', hr, h2, h3, h4⟩ := run_append_keep (P := P) w base t ty e i z size bytes ht hi hz hsize hby hzs hsz v n xs hown a m c news hl hnews h1 h63 hbytes hbase hm
  refine ⟨v', w', hr, h2, ?_, h3, h4⟩
  have hxl := hown.1
  rcases hown.2 with ⟨rfl, rfl⟩ | ⟨g, cap, cur, rfl, hbg, hg, hnc, hcm, hcs, htake⟩
  · exact ⟨hxl, Or.inl ⟨rfl, rfl⟩⟩
  · by_cases hroom : n + m ≤ cap
    · have hfit : n * i.size + news.length ≤ cur.size := by rw [hsize, hl, hcs, ← Nat.add_mul]; exact Nat.mul_le_mul_right _ hroom
      have hr2 := run_append_room (P := P) w t ty e i ht hi g n cap cur hg a m c news (by rw [hsize]; exact hl) hnews h1 hroom hfit
      rw [hr2] at hr
      have hv := (Result.ok.inj hr).1
      rcases h2.2 with ⟨e1, _⟩ | ⟨g', cap', cur', e1, q1, q2, q3, q4, q5, q6⟩
      · rw [← hv] at e1
        cases e1
      · rw [← hv] at e1
        cases e1
        refine ⟨hxl, Or.inr ⟨g, cap, cur', rfl, q1, q2, hnc, q4, q5, ?_⟩⟩
        have h5 : (cur'.toList.take ((n + m) * size)).take (n * size) = (xs ++ news).take (n * size) := by rw [q6]
        rw [List.take_take, Nat.min_eq_left (Nat.mul_le_mul_right _ (by omega)), ← hxl, List.take_left] at h5
        rw [hxl] at h5
        exact h5
    · have hb : w'.heap[g]? = w.heap[g]? := by
        rcases h4 with ⟨g', e1, e2⟩ | ⟨h5, _⟩
        · exfalso
          have holds : ∀ j u, xs[j]? = some u → w.cell? ((⟨g, 0, none⟩ : Addr).add j) = some u := hown.cells (g := g) rfl
          have hr2 := run_append_grow (P := P) w t ty e i z ht hi hz ⟨g, 0, none⟩ n cap xs (by rw [hsize]; exact hown.1) holds a m c news (by rw [hsize]; exact hl) hnews (by omega) (by unfold maxLen at h63; omega) (by rw [hby]; exact growslice_fits (by unfold maxLen at h63; omega) hbytes)
          rw [hr2] at hr
          have hv := (Result.ok.inj hr).1
          rw [← hv] at e2
          simp only [Value.ownBlock, Option.some.injEq] at e1 e2
          have := Cd.blk_lt hg
          have : (w.drew).heap.size = w.heap.size := rfl
          omega
        · exact h5 g (Cd.blk_lt hg)
      exact ⟨hxl, Or.inr ⟨g, cap, cur, rfl, hbg, hb.trans hg, hnc, hcm, hcs, htake⟩⟩
/-- an element is put behind a list, the list stays: as a law for the walk -/
theorem app_more {P : Program} (w : World) {ops : Array Oper} {rest : List Oper} {o : Oper} {a : Act} {Q : Exit → Act → World → Prop} (hgd : o.guard = none) (s x : Operand) (t : TypeId)
    (ho : o.op = .call { callee := .builtin .append, args := #[s, x], argTypes := #[t, t] })
    {e : TypeId} {z : Value} {size bytes : Nat} (ht : P.underlying t = some (.slice e)) (hinfo : (P.info? e).map (fun i => (i.zero, i.size, i.bytes)) = some (some z, size, bytes)) (hzs : z.cells.size = size) (hsz : 0 < size)
    {base : Nat} {v : Value} {n : Nat} {xs : List Value} (hs : a.eval s = v) (hown : w.ownsRow base e size v n xs) (hbase : base ≤ w.heap.size)
    {ad : Addr} {m c : Nat} {news : List Value} (hx : a.eval x = .slice (some ad) m c) (hl : news.length = m * size) (hnews : ∀ j u, news[j]? = some u → w.cell? (ad.add j) = some u) (h1 : ∀ u ∈ news, u.oneCell' = true)
    (h63 : n + m ≤ maxLen) (hbytes : (n + m) * bytes ≤ 140737488355328) (hm : 0 < m)
    (h : ∀ g' c' w', w'.ownsRow base e size (.slice (some ⟨g', 0, none⟩) (n + m) c') (n + m) (xs ++ news) → w'.ownsRow base e size v n xs → Gone w v w' (.slice (some ⟨g', 0, none⟩) (n + m) c') → wpList P ops Q rest (a.put o.dst (.slice (some ⟨g', 0, none⟩) (n + m) c')) w') : wpList P ops Q (o :: rest) a w := by
  refine wpList_plain hgd fun K hK => ?_
  obtain ⟨i, hi, hz0, hz1, hz2⟩ := info_parts hinfo
  obtain ⟨v', w', hr, h2, h3, h4⟩ := run_append_both (P := P) w base t o.type e i z size bytes ht hi hz0 hz1 hz2 hzs hsz v n xs hown ad m c news hl hnews h1 h63 hbytes hbase hm
  obtain ⟨g', cap, cur, rfl, -⟩ := own_block h2 (by omega)
  unfold Oper.wp execOp
  simp only [ho, resolve, invoke, builtin, Sem.run_bind, Sem.run_pure, Result.andThen_ok, List.map_toArray, List.map_cons, List.map_nil, hs, hx, hr]
  exact hK _ _ (h g' cap w' h2 h3 h4)
/-- program number i lies among the lists -/
def Is5 (E : Nat → Option Ent) (i : Nat) (p : Pg) (u : PV) : Prop := (∃ n, E (5 * i) = some (en1 n (.slice u.qo p.gh.length u.qc) p.gh)) ∧ (∃ n, E (5 * i + 1) = some (en2 n (.slice u.vo p.vs.length u.vc) p.vs)) ∧ (∃ n, E (5 * i + 2) = some (en3 n (.slice u.to p.ts.length u.tc) p.ts)) ∧ (∃ n, E (5 * i + 3) = some (en3 n (.slice u.oo p.on.length u.oc) p.on)) ∧ ∃ n, E (5 * i + 4) = some (en5 n (.slice u.co p.cd.length u.cc) p.cd)
theorem Is5.is {w : World} {pb i : Nat} {E : Nat → Option Ent} {p : Pg} {u : PV} (h : Is5 E i p u) (hA : Ap w pb E) (hl : p.gh.length ≤ 1000000000000000 ∧ p.vs.length ≤ 1000000000000000 ∧ p.ts.length ≤ 1000000000000000 ∧ p.on.length ≤ 1000000000000000 ∧ p.cd.length ≤ 1000000000000000) : IsPg w u p := by
  obtain ⟨⟨n1, h1⟩, ⟨n2, h2⟩, ⟨n3, h3⟩, ⟨n4, h4⟩, n5, h5⟩ := h
  exact ⟨own_rdV (hA.ow _ _ h1).2, own_rdV (hA.ow _ _ h2).2, own_rdV (hA.ow _ _ h3).2, own_rdV (hA.ow _ _ h4).2, own_rdV (hA.ow _ _ h5).2, hl.1, hl.2.1, hl.2.2.1, hl.2.2.2.1, hl.2.2.2.2⟩
theorem Is5.far {i : Nat} {E E' : Nat → Option Ent} {p : Pg} {u : PV} (h : Is5 E i p u) (hE : ∀ j, j / 5 = i → E' j = E j) : Is5 E' i p u := by
  obtain ⟨⟨n1, h1⟩, ⟨n2, h2⟩, ⟨n3, h3⟩, ⟨n4, h4⟩, n5, h5⟩ := h
  exact ⟨⟨n1, (hE _ (by omega)).trans h1⟩, ⟨n2, (hE _ (by omega)).trans h2⟩, ⟨n3, (hE _ (by omega)).trans h3⟩, ⟨n4, (hE _ (by omega)).trans h4⟩, n5, (hE _ (by omega)).trans h5⟩
/-- a program that was told is put to the lists -/
theorem Ap.five {w w' : World} {pb i : Nat} {E : Nat → Option Ent} {p : Pg} {u : PV} (h : Ap w pb E) (hb : Below w.heap.size w w') (hp : pb ≤ w.heap.size) (ho : Own5 w' w.heap.size p (.slice u.qo p.gh.length u.qc) (.slice u.vo p.vs.length u.vc) (.slice u.to p.ts.length u.tc) (.slice u.oo p.on.length u.oc) (.slice u.co p.cd.length u.cc)) :
    ∃ E', Ap w' pb E' ∧ Is5 E' i p u ∧ ∀ j, j / 5 ≠ i → E' j = E j := by
  obtain ⟨n1, n2, n3, n4, n5, hO⟩ := ho.ex
  have hst : ∀ (E : Nat → Option Ent) (j : Nat) (y : Ent), Ap w' pb E → (w.heap.size < y.base ∧ w'.ownsRow y.base y.T y.sz y.v y.n y.xs) → (∀ i x, i ≠ j → E i = some x → ∀ k, x.v.ownBlock = some k → y.v.ownBlock ≠ some k) → Ap w' pb (up E j (some y)) := fun E j y hE hy hn =>
    hE.turn ⟨by omega, hy.2⟩ fun i x hi hx k hk => ⟨rfl, hn i x hi hx k hk⟩
  have hold : ∀ j x, E j = some x → ∀ y : Ent, w.heap.size < y.base ∧ w'.ownsRow y.base y.T y.sz y.v y.n y.xs → ∀ k, x.v.ownBlock = some k → y.v.ownBlock ≠ some k := fun j x hx y hy k hk e => by
    have h1 := (World.ownsRow.lt (h.ow j x hx).2 k hk).2
    have h2 := (World.ownsRow.lt hy.2 k e).1
    omega
  have o1 := hO.ow (en1 n1 (.slice u.qo p.gh.length u.qc) p.gh) (by simp)
  have o2 := hO.ow (en2 n2 (.slice u.vo p.vs.length u.vc) p.vs) (by simp)
  have o3 := hO.ow (en3 n3 (.slice u.to p.ts.length u.tc) p.ts) (by simp)
  have o4 := hO.ow (en3 n4 (.slice u.oo p.on.length u.oc) p.on) (by simp)
  have o5 := hO.ow (en5 n5 (.slice u.co p.cd.length u.cc) p.cd) (by simp)
  have ha := hO.ap
  simp only [List.pairwise_cons, List.mem_cons, List.not_mem_nil, or_false, forall_eq_or_imp, forall_eq, List.Pairwise.nil, and_true] at ha
  obtain ⟨⟨a12, a13, a14, a15⟩, ⟨a23, a24, a25⟩, ⟨a34, a35⟩, a45, -⟩ := ha
  have h0 := h.below hb
  refine ⟨up (up (up (up (up E (5 * i) (some (en1 n1 (.slice u.qo p.gh.length u.qc) p.gh))) (5 * i + 1) (some (en2 n2 (.slice u.vo p.vs.length u.vc) p.vs))) (5 * i + 2) (some (en3 n3 (.slice u.to p.ts.length u.tc) p.ts))) (5 * i + 3) (some (en3 n4 (.slice u.oo p.on.length u.oc) p.on))) (5 * i + 4) (some (en5 n5 (.slice u.co p.cd.length u.cc) p.cd)), ?_, ?_, ?_⟩
  · have s1 := hst E (5 * i) _ h0 o1 (fun q x hi hx => hold q x hx _ o1)
    have s2 := hst _ (5 * i + 1) _ s1 o2 (fun q x hi hx => by
      by_cases e1 : q = 5 * i
      · subst e1; rw [up_same] at hx; cases hx; exact a12
      rw [up_ne e1] at hx
      exact hold q x hx _ o2)
    have s3 := hst _ (5 * i + 2) _ s2 o3 (fun q x hi hx => by
      by_cases e2 : q = 5 * i + 1
      · subst e2; rw [up_same] at hx; cases hx; exact a23
      rw [up_ne e2] at hx
      by_cases e1 : q = 5 * i
      · subst e1; rw [up_same] at hx; cases hx; exact a13
      rw [up_ne e1] at hx
      exact hold q x hx _ o3)
    have s4 := hst _ (5 * i + 3) _ s3 o4 (fun q x hi hx => by
      by_cases e3 : q = 5 * i + 2
      · subst e3; rw [up_same] at hx; cases hx; exact a34
      rw [up_ne e3] at hx
      by_cases e2 : q = 5 * i + 1
      · subst e2; rw [up_same] at hx; cases hx; exact a24
      rw [up_ne e2] at hx
      by_cases e1 : q = 5 * i
      · subst e1; rw [up_same] at hx; cases hx; exact a14
      rw [up_ne e1] at hx
      exact hold q x hx _ o4)
    exact hst _ (5 * i + 4) _ s4 o5 (fun q x hi hx => by
      by_cases e4 : q = 5 * i + 3
      · subst e4; rw [up_same] at hx; cases hx; exact a45
      rw [up_ne e4] at hx
      by_cases e3 : q = 5 * i + 2
      · subst e3; rw [up_same] at hx; cases hx; exact a35
      rw [up_ne e3] at hx
      by_cases e2 : q = 5 * i + 1
      · subst e2; rw [up_same] at hx; cases hx; exact a25
      rw [up_ne e2] at hx
      by_cases e1 : q = 5 * i
      · subst e1; rw [up_same] at hx; cases hx; exact a15
      rw [up_ne e1] at hx
      exact hold q x hx _ o5)
  · refine ⟨⟨n1, ?_⟩, ⟨n2, ?_⟩, ⟨n3, ?_⟩, ⟨n4, ?_⟩, n5, ?_⟩
    · rw [up_ne (by omega), up_ne (by omega), up_ne (by omega), up_ne (by omega), up_same]
    · rw [up_ne (by omega), up_ne (by omega), up_ne (by omega), up_same]
    · rw [up_ne (by omega), up_ne (by omega), up_same]
    · rw [up_ne (by omega), up_same]
    · rw [up_same]
  · intro j hj
    rw [up_ne (by omega), up_ne (by omega), up_ne (by omega), up_ne (by omega), up_ne (by omega)]
end Go.Proofs.YtcblichnkakhdaaDoor.Cd

set_option linter.unusedSimpArgs false
namespace Go.Proofs.YtcblichnkakhdaaDoor.Cd
open Go.RowKit Go.Proofs.YtcblichnkakhdaaDoor.Nm Go.Proofs.YtcblichnkakhdaaDoor.Vf

def mI (m k : Nat) : Ins := ⟨500 + (m : Int), (k : Int), 0, 0, 0⟩
def mO (m k : Nat) : Int := 100 * (m : Int) + (k : Int)
def mT (m k : Nat) : Int := -(100 * (m : Int)) - (k : Int)
def mV (m k : Nat) : Int × Int × Int := ((m : Int), (k : Int), 0)
/-- a program with marks -/
def spl (m : Nat) (p : Pg) : Pg := { p with vs := pr (mV m) p.vs p.vs.length, ts := pr (mT m) p.ts p.ts.length, on := pr (mO m) p.on p.on.length, cd := pr (mI m) p.cd p.cd.length }
section
variable {w w' : World} {pb : Nat} {E : Nat → Option Ent}
theorem Ap.set1 {j g n c b k : Nat} {T : TypeId} {l : List Int} {x : Int} (h : Ap w pb (up E j (some ⟨b, T, 1, .slice (some ⟨g, 0, none⟩) n c, n, iC l⟩))) : Ap (w.setCell ⟨g, k, none⟩ (.int .i64 x)) pb (up E j (some ⟨b, T, 1, .slice (some ⟨g, 0, none⟩) n c, n, iC (l.set k x)⟩)) := by
  have h1 := h.setC (up_same _ _ _) k (.int .i64 x)
  rw [up_up, iC_set] at h1
  exact h1
theorem Ap.set3 {j g n c b k : Nat} {T : TypeId} {l : List (Int × Int × Int)} (x : Int × Int × Int) (h : Ap w pb (up E j (some ⟨b, T, 3, .slice (some ⟨g, 0, none⟩) n c, n, vC l⟩))) : Ap (((w.setCell ⟨g, k * 3, none⟩ (.int .i64 x.1)).setCell ⟨g, k * 3 + 1, none⟩ (.int .i64 x.2.1)).setCell ⟨g, k * 3 + 2, none⟩ (.int .i64 x.2.2)) pb (up E j (some ⟨b, T, 3, .slice (some ⟨g, 0, none⟩) n c, n, vC (l.set k x)⟩)) := by
  have h1 := h.setC (up_same _ _ _) (k * 3) (.int .i64 x.1)
  have h2 := h1.setC (up_same _ _ _) (k * 3 + 1) (.int .i64 x.2.1)
  have h3 := h2.setC (up_same _ _ _) (k * 3 + 2) (.int .i64 x.2.2)
  rw [up_up, up_up, up_up, vC_set] at h3
  exact h3
theorem Ap.set5 {j g n c b k : Nat} {T : TypeId} {l : List Ins} (x : Ins) (h : Ap w pb (up E j (some ⟨b, T, 5, .slice (some ⟨g, 0, none⟩) n c, n, Vf.cC l⟩))) : Ap (((((w.setCell ⟨g, k * 5, none⟩ (.int .i64 x.op)).setCell ⟨g, k * 5 + 1, none⟩ (.int .i64 x.a)).setCell ⟨g, k * 5 + 2, none⟩ (.int .i64 x.b)).setCell ⟨g, k * 5 + 3, none⟩ (.int .i64 x.c)).setCell ⟨g, k * 5 + 4, none⟩ (.int .i64 x.d)) pb (up E j (some ⟨b, T, 5, .slice (some ⟨g, 0, none⟩) n c, n, Vf.cC (l.set k x)⟩)) := by
  have h1 := h.setC (up_same _ _ _) (k * 5) (.int .i64 x.op)
  have h2 := h1.setC (up_same _ _ _) (k * 5 + 1) (.int .i64 x.a)
  have h3 := h2.setC (up_same _ _ _) (k * 5 + 2) (.int .i64 x.b)
  have h4 := h3.setC (up_same _ _ _) (k * 5 + 3) (.int .i64 x.c)
  have h5 := h4.setC (up_same _ _ _) (k * 5 + 4) (.int .i64 x.d)
  rw [up_up, up_up, up_up, up_up, up_up, cC_set] at h5
  exact h5
/-- what an append behind a list tells, the list as it was -/
theorem Ap.moreS {j g c n : Nat} {x : Ent} (h : Ap w pb E) (hx : E j = some x) (hG : Gone w x.v w' (.slice (some ⟨g, 0, none⟩) n c)) (ho : w'.ownsRow x.base x.T x.sz x.v x.n x.xs) (hp : pb < w.heap.size) :
    Ap w' pb E ∧ NeE E j g ∧ Below (pb + 1) w w' ∧ pb < g ∧ (x.v.ownBlock = some g ∨ w.heap.size ≤ g) ∧ ∀ q, q < w.heap.size → x.v.ownBlock ≠ some q → w'.heap[q]? = w.heap[q]? := by
  have hb := (h.ow j x hx).1
  have hl := World.ownsRow.lt (h.ow j x hx).2
  have hor : x.v.ownBlock = some g ∨ w.heap.size ≤ g := by
    rcases hG.own with e | e
    · exact Or.inl (e.symm.trans rfl)
    · exact Or.inr (e g rfl)
  refine ⟨h.more hx hG ho, h.neE hx hG rfl, ⟨hG.1.os, hG.1.tape, hG.1.output, hG.1.size, fun k hk => hG.1.block k (by omega) (fun e => by have := (hl k e.symm).1; omega)⟩, ?_, hor, fun q hq hn => hG.1.block q hq (fun e => hn e.symm)⟩
  rcases hor with e | e
  · have := (hl g e).1
    omega
  · omega
/-- a list's base is no greater than the memory -/
theorem Ap.base {j : Nat} {x : Ent} (h : Ap w pb E) (hx : E j = some x) (hp : pb < w.heap.size) : ∃ b, b ≤ w.heap.size ∧ Ap w pb (up E j (some ⟨b, x.T, x.sz, x.v, x.n, x.xs⟩)) := by
  have ho := (h.ow j x hx).2
  have hr : ∀ b, pb < b → w.ownsRow b x.T x.sz x.v x.n x.xs → Ap w pb (up E j (some ⟨b, x.T, x.sz, x.v, x.n, x.xs⟩)) := fun b hb ho' => h.turn ⟨hb, ho'⟩ fun i y hi hy k hk => ⟨rfl, h.ap i j y x hi hy hx k hk⟩
  rcases ho.2 with ⟨e1, e2⟩ | ⟨g, cap, cur, e1, e3, e4, -⟩
  · exact ⟨w.heap.size, Nat.le_refl _, hr _ hp ⟨ho.1, Or.inl ⟨e1, e2⟩⟩⟩
  · exact ⟨x.base, by have := Cd.blk_lt e4; omega, hr _ (h.ow j x hx).1 ho⟩
/-- a spoil at work: the lists, the world since W, the box -/
structure Sq (W w : World) (pb : Nat) (cs : Array Value) (E : Nat → Option Ent) : Prop where
  ap : Ap w pb E
  bel : Below (pb + 1) W w
  box : w.heap[W.heap.size]? = some (.cells cs 29 (0, 0))
end

set_option maxHeartbeats 12800000 in
set_option maxRecDepth 2000000 in
/-- spoil -/
theorem spoil_any {W : World} {pb i m : Nat} {E : Nat → Option Ent} {p : Pg} {u : PV} (hA : Ap W pb E) (hI : Is5 E i p u) (hp : pb < W.heap.size) (hm : m ≤ 100) (hl : p.vs.length ≤ 1000000 ∧ p.ts.length ≤ 1000000 ∧ p.on.length ≤ 1000000 ∧ p.cd.length ≤ 1000000) :
    Calls Tryd.prog 9 #[.agg (pvC u p), .int .i64 (m : Int)] W fun e W' => e = .returned (.tuple #[]) ∧ ∃ E', Ap W' pb E' ∧ Is5 E' i (spl m p) u ∧ (∀ j, j / 5 ≠ i → E' j = E j) ∧ Below (pb + 1) W W' := by
  obtain ⟨qo, qc, vo, vc, tto, tc, oo, oc, co, cc⟩ := u
  obtain ⟨⟨n1, h1⟩, ⟨n2, h2⟩, ⟨n3, h3⟩, ⟨n4, h4⟩, n5, h5⟩ := hI
  obtain ⟨b2, l2, hA⟩ := hA.base h2 hp
  obtain ⟨b3, l3, hA⟩ := hA.base (j := 5 * i + 2) ((up_ne (by omega)).trans h3) hp
  obtain ⟨b4, l4, hA⟩ := hA.base (j := 5 * i + 3) ((up_ne (by omega)).trans ((up_ne (by omega)).trans h4)) hp
  obtain ⟨b5, l5, hA⟩ := hA.base (j := 5 * i + 4) ((up_ne (by omega)).trans ((up_ne (by omega)).trans ((up_ne (by omega)).trans h5))) hp
  obtain ⟨E0, hE0⟩ : ∃ E0, E0 = up (up (up (up E (5 * i + 1) (some (en2 b2 (.slice vo p.vs.length vc) p.vs))) (5 * i + 2) (some (en3 b3 (.slice tto p.ts.length tc) p.ts))) (5 * i + 3) (some (en3 b4 (.slice oo p.on.length oc) p.on))) (5 * i + 4) (some (en5 b5 (.slice co p.cd.length cc) p.cd)) := ⟨_, rfl⟩
  have hA : Ap W pb E0 := by rw [hE0]; exact hA
  have HE0 : Hid (∀ j, j / 5 ≠ i → E0 j = E j) := fun j hj => by rw [hE0, up_ne (by omega), up_ne (by omega), up_ne (by omega), up_ne (by omega)]
  have h1 : E0 (5 * i) = some (en1 n1 (.slice qo p.gh.length qc) p.gh) := by rw [hE0, up_ne (by omega), up_ne (by omega), up_ne (by omega), up_ne (by omega)]; exact h1
  have h2 : E0 (5 * i + 1) = some (en2 b2 (.slice vo p.vs.length vc) p.vs) := by rw [hE0, up_ne (by omega), up_ne (by omega), up_ne (by omega), up_same]
  have h3 : E0 (5 * i + 2) = some (en3 b3 (.slice tto p.ts.length tc) p.ts) := by rw [hE0, up_ne (by omega), up_ne (by omega), up_same]
  have h4 : E0 (5 * i + 3) = some (en3 b4 (.slice oo p.on.length oc) p.on) := by rw [hE0, up_ne (by omega), up_same]
  have h5 : E0 (5 * i + 4) = some (en5 b5 (.slice co p.cd.length cc) p.cd) := by rw [hE0, up_same]
  have HBs : Hid (b2 ≤ W.heap.size ∧ b3 ≤ W.heap.size ∧ b4 ≤ W.heap.size ∧ b5 ≤ W.heap.size) := ⟨l2, l3, l4, l5⟩
  clear hE0 l2 l3 l4 l5
  have hlt : ∀ j x, E0 j = some x → ∀ g, x.v.ownBlock = some g → pb < g ∧ g < W.heap.size := fun j x hx g hg => by
    have q1 := World.ownsRow.lt (hA.ow j x hx).2 g hg
    have q2 := (hA.ow j x hx).1
    omega
  have HLt := show Hid _ from hlt
  have HE : Hid (E0 (5 * i) = some (en1 n1 (.slice qo p.gh.length qc) p.gh) ∧ E0 (5 * i + 1) = some (en2 b2 (.slice vo p.vs.length vc) p.vs) ∧ E0 (5 * i + 2) = some (en3 b3 (.slice tto p.ts.length tc) p.ts) ∧ E0 (5 * i + 3) = some (en3 b4 (.slice oo p.on.length oc) p.on) ∧ E0 (5 * i + 4) = some (en5 b5 (.slice co p.cd.length cc) p.cd)) := ⟨h1, h2, h3, h4, h5⟩
  have HL : Hid (p.vs.length ≤ 1000000 ∧ p.ts.length ≤ 1000000 ∧ p.on.length ≤ 1000000 ∧ p.cd.length ≤ 1000000 ∧ m ≤ 100 ∧ pb < W.heap.size) := ⟨hl.1, hl.2.1, hl.2.2.1, hl.2.2.2, hm, hp⟩
  have hm' : (m : Int) ≤ 100 := by omega
  have hl1 : (p.vs.length : Int) ≤ 1000000 := by omega
  have hl2 : (p.ts.length : Int) ≤ 1000000 := by omega
  have hl3 : (p.on.length : Int) ≤ 1000000 := by omega
  have hl4 : (p.cd.length : Int) ≤ 1000000 := by omega
  have H0 : Hid (Sq W (W.alloc (.cells #[.slice qo p.gh.length qc, .slice vo p.vs.length vc, .slice tto p.ts.length tc, .slice oo p.on.length oc, .int .i64 p.miss, .slice co p.cd.length cc] 29)) pb #[.slice qo p.gh.length qc, .slice vo p.vs.length vc, .slice tto p.ts.length tc, .slice oo p.on.length oc, .int .i64 p.miss, .slice co p.cd.length cc] E0) := ⟨hA.below ((Below.refl _ W).alloc (Nat.le_refl _) _), ((Below.refl _ W).alloc (Nat.le_refl _) _).mono (by omega), heap_alloc_new _ _⟩
  clear h1 h2 h3 h4 h5 hlt hl hm hp hA
  show Calls _ _ #[.agg #[.slice qo p.gh.length qc, .slice vo p.vs.length vc, .slice tto p.ts.length tc, .slice oo p.on.length oc, .int .i64 p.miss, .slice co p.cd.length cc], .int .i64 (m : Int)] _ _
  go_enter Tryd.func9, Tryd.ntmps9
  go_wp2_with fail
  generalize W.alloc (.cells #[.slice qo p.gh.length qc, .slice vo p.vs.length vc, .slice tto p.ts.length tc, .slice oo p.on.length oc, .int .i64 p.miss, .slice co p.cd.length cc] 29) = w0 at *
  go_loopg [4] (p.cd.length) (fun gq s wr => ∃ k : Nat, k ≤ p.cd.length ∧ gq = p.cd.length - k ∧ s = .int .i64 (k : Int) ∧ Sq W wr pb #[.slice qo p.gh.length qc, .slice vo p.vs.length vc, .slice tto p.ts.length tc, .slice oo p.on.length oc, .int .i64 p.miss, .slice co p.cd.length cc] (up E0 (5 * i + 4) (some ⟨b5, 64, 5, .slice co p.cd.length cc, p.cd.length, Vf.cC (pr (mI m) p.cd k)⟩)))
  case atStart =>
    refine ⟨0, Nat.zero_le _, rfl, rfl, ?_⟩
    have e0 : E0 (5 * i + 4) = some ⟨b5, 64, 5, .slice co p.cd.length cc, p.cd.length, Vf.cC (pr (mI m) p.cd 0)⟩ := HE.out.2.2.2.2
    rw [up_self e0]
    exact H0.out
  case round =>
    rename_i J0 K0 hJ0 hH0
    obtain ⟨k, hk, hgk, rfl, hS⟩ := hrel
    have HG : Hid (gk = p.cd.length - k ∧ k ≤ p.cd.length) := ⟨hgk, hk⟩
    have HS : Hid _ := hS
    obtain ⟨c0, c1, c2, c3, c4, c5⟩ := cells6 hS.box
    have hk3 : (k : Int) ≤ 1000000 := by omega
    clear hgk hS
    by_cases hkm : k < p.cd.length
    case pos =>
      have HKm : Hid (k < p.cd.length) := hkm
      have hk1 : (k : Int) < (p.cd.length : Int) := by omega
      have hx := up_same E0 (5 * i + 4) (some ⟨b5, 64, 5, .slice co p.cd.length cc, p.cd.length, Vf.cC (pr (mI m) p.cd k)⟩)
      have hOw := (HS.out.ap.ow _ _ hx).2
      obtain ⟨g, cap, cur, ev, -⟩ := own_block hOw (by show 0 < p.cd.length; omega)
      injection ev with ev1 _ ev2
      subst ev1
      subst ev2
      have hgl := HLt.out _ _ HE.out.2.2.2.2 g rfl
      have hOl := hOw.1
      have hat : ∀ j, j < 5 → ∃ y, wr.cell? ⟨g, k * 5 + j, none⟩ = some y := fun j hj => by
        have hj2 : k * 5 + j < p.cd.length * 5 := by omega
        rw [hOw.cellAt (k * 5 + j) hj2]
        exact ⟨_, List.getElem?_eq_getElem (by rw [hOl]; exact hj2)⟩
      have hf := hOw.frozenAt
      obtain ⟨y0, d0⟩ := hat 0 (by omega)
      obtain ⟨y1, d1⟩ := hat 1 (by omega)
      obtain ⟨y2, d2⟩ := hat 2 (by omega)
      obtain ⟨y3, d3⟩ := hat 3 (by omega)
      obtain ⟨y4, d4⟩ := hat 4 (by omega)
      rw [Nat.add_zero] at d0
      have HN : Hid (Sq W (((((wr.setCell ⟨g, k * 5, none⟩ (.int .i64 (500 + (m : Int)))).setCell ⟨g, k * 5 + 1, none⟩ (.int .i64 (k : Int))).setCell ⟨g, k * 5 + 2, none⟩ (.int .i64 0)).setCell ⟨g, k * 5 + 3, none⟩ (.int .i64 0)).setCell ⟨g, k * 5 + 4, none⟩ (.int .i64 0)) pb #[.slice qo p.gh.length qc, .slice vo p.vs.length vc, .slice tto p.ts.length tc, .slice oo p.on.length oc, .int .i64 p.miss, .slice (some ⟨g, 0, none⟩) p.cd.length cc] (up E0 (5 * i + 4) (some ⟨b5, 64, 5, .slice (some ⟨g, 0, none⟩) p.cd.length cc, p.cd.length, Vf.cC (pr (mI m) p.cd (k + 1))⟩))) := ⟨HS.out.ap.set5 (mI m k), (bel_set hgl.1 (k * 5 + 4) _ (bel_set hgl.1 (k * 5 + 3) _ (bel_set hgl.1 (k * 5 + 2) _ (bel_set hgl.1 (k * 5 + 1) _ (bel_set hgl.1 (k * 5) _ HS.out.bel))))), (heap_setCell_other _ ⟨g, k * 5 + 4, none⟩ _ _ (by show W.heap.size ≠ g; omega)).trans ((heap_setCell_other _ ⟨g, k * 5 + 3, none⟩ _ _ (by show W.heap.size ≠ g; omega)).trans ((heap_setCell_other _ ⟨g, k * 5 + 2, none⟩ _ _ (by show W.heap.size ≠ g; omega)).trans ((heap_setCell_other _ ⟨g, k * 5 + 1, none⟩ _ _ (by show W.heap.size ≠ g; omega)).trans ((heap_setCell_other _ ⟨g, k * 5, none⟩ _ _ (by show W.heap.size ≠ g; omega)).trans HS.out.box))))⟩
      clear hat hOw hOl hx hgl hkm
      go_wp2_with fail
      go_roundg (p.cd.length - (k + 1))
      case measure => have := HG.out; have := HKm.out; omega
      case rel => exact ⟨k + 1, HKm.out, rfl, by go_num, HN.out⟩
    case neg =>
      have hk1 : ¬ (k : Int) < (p.cd.length : Int) := by omega
      obtain rfl : k = p.cd.length := by have := HG.out; omega
      clear hkm HG
      go_wp2_with fail
      clear c0 c1 c2 c3 c4 c5 hk1 hk3 hH0 hJ0
      obtain ⟨E1, hE1⟩ : ∃ E1, E1 = up E0 (5 * i + 4) (some ⟨b5, 64, 5, .slice co p.cd.length cc, p.cd.length, Vf.cC (pr (mI m) p.cd p.cd.length)⟩) := ⟨_, rfl⟩
      have HF1 : Hid (E1 (5 * i + 4) = some ⟨b5, 64, 5, .slice co p.cd.length cc, p.cd.length, Vf.cC (pr (mI m) p.cd p.cd.length)⟩ ∧ ∀ j, j ≠ 5 * i + 4 → E1 j = E0 j) := ⟨by rw [hE1, up_same], fun j hj => by rw [hE1, up_ne hj]⟩
      have H1 : Hid (Sq W wr pb #[.slice qo p.gh.length qc, .slice vo p.vs.length vc, .slice tto p.ts.length tc, .slice oo p.on.length oc, .int .i64 p.miss, .slice co p.cd.length cc] E1) := by rw [hE1]; exact HS.out
      clear hE1 HS
      clear H0
      generalize wr = w1 at *
      go_loopg [5] (p.on.length) (fun gq s wr => ∃ k : Nat, k ≤ p.on.length ∧ gq = p.on.length - k ∧ s = .int .i64 (k : Int) ∧ Sq W wr pb #[.slice qo p.gh.length qc, .slice vo p.vs.length vc, .slice tto p.ts.length tc, .slice oo p.on.length oc, .int .i64 p.miss, .slice co p.cd.length cc] (up E1 (5 * i + 3) (some ⟨b4, 3, 1, .slice oo p.on.length oc, p.on.length, iC (pr (mO m) p.on k)⟩)))
      case atStart =>
        refine ⟨0, Nat.zero_le _, rfl, rfl, ?_⟩
        have e0 : E1 (5 * i + 3) = some ⟨b4, 3, 1, .slice oo p.on.length oc, p.on.length, iC (pr (mO m) p.on 0)⟩ := (HF1.out.2 (5 * i + 3) (by omega)).trans HE.out.2.2.2.1
        rw [up_self e0]
        exact H1.out
      case round =>
        rename_i J1 K1 hJ1 hH1
        obtain ⟨k, hk, hgk, rfl, hS⟩ := hrel
        have HG : Hid (gk = p.on.length - k ∧ k ≤ p.on.length) := ⟨hgk, hk⟩
        have HS : Hid _ := hS
        obtain ⟨c0, c1, c2, c3, c4, c5⟩ := cells6 hS.box
        have hk3 : (k : Int) ≤ 1000000 := by omega
        clear hgk hS
        by_cases hkm : k < p.on.length
        case pos =>
          have HKm : Hid (k < p.on.length) := hkm
          have hk1 : (k : Int) < (p.on.length : Int) := by omega
          have hx := up_same E1 (5 * i + 3) (some ⟨b4, 3, 1, .slice oo p.on.length oc, p.on.length, iC (pr (mO m) p.on k)⟩)
          have hOw := (HS.out.ap.ow _ _ hx).2
          obtain ⟨g, cap, cur, ev, -⟩ := own_block hOw (by show 0 < p.on.length; omega)
          injection ev with ev1 _ ev2
          subst ev1
          subst ev2
          have hgl := HLt.out _ _ HE.out.2.2.2.1 g rfl
          have hOl := hOw.1
          have hat : ∀ j, j < 1 → ∃ y, wr.cell? ⟨g, k * 1 + j, none⟩ = some y := fun j hj => by
            have hj2 : k * 1 + j < p.on.length * 1 := by omega
            rw [hOw.cellAt (k * 1 + j) hj2]
            exact ⟨_, List.getElem?_eq_getElem (by rw [hOl]; exact hj2)⟩
          have hf := hOw.frozenAt
          obtain ⟨y0, d0⟩ := hat 0 (by omega)
          rw [Nat.mul_one, Nat.add_zero] at d0
          have HN : Hid (Sq W (wr.setCell ⟨g, k, none⟩ (.int .i64 (100 * (m : Int) + (k : Int)))) pb #[.slice qo p.gh.length qc, .slice vo p.vs.length vc, .slice tto p.ts.length tc, .slice (some ⟨g, 0, none⟩) p.on.length oc, .int .i64 p.miss, .slice co p.cd.length cc] (up E1 (5 * i + 3) (some ⟨b4, 3, 1, .slice (some ⟨g, 0, none⟩) p.on.length oc, p.on.length, iC (pr (mO m) p.on (k + 1))⟩))) := ⟨HS.out.ap.set1, (bel_set hgl.1 (k) _ HS.out.bel), (heap_setCell_other _ ⟨g, k, none⟩ _ _ (by show W.heap.size ≠ g; omega)).trans HS.out.box⟩
          clear hat hOw hOl hx hgl hkm
          go_wp2_with fail
          go_roundg (p.on.length - (k + 1))
          case measure => have := HG.out; have := HKm.out; omega
          case rel => exact ⟨k + 1, HKm.out, rfl, by go_num, HN.out⟩
        case neg =>
          have hk1 : ¬ (k : Int) < (p.on.length : Int) := by omega
          obtain rfl : k = p.on.length := by have := HG.out; omega
          clear hkm HG
          go_wp2_with fail
          clear c0 c1 c2 c3 c4 c5 hk1 hk3 hH1 hJ1
          obtain ⟨E2, hE2⟩ : ∃ E2, E2 = up E1 (5 * i + 3) (some ⟨b4, 3, 1, .slice oo p.on.length oc, p.on.length, iC (pr (mO m) p.on p.on.length)⟩) := ⟨_, rfl⟩
          have HF2 : Hid ((E2 (5 * i + 4) = some ⟨b5, 64, 5, .slice co p.cd.length cc, p.cd.length, Vf.cC (pr (mI m) p.cd p.cd.length)⟩ ∧ E2 (5 * i + 3) = some ⟨b4, 3, 1, .slice oo p.on.length oc, p.on.length, iC (pr (mO m) p.on p.on.length)⟩) ∧ ∀ j, j ≠ 5 * i + 4 → j ≠ 5 * i + 3 → E2 j = E0 j) := ⟨⟨by rw [hE2, up_ne (by omega)]; exact HF1.out.1, by rw [hE2, up_same]⟩, fun j a0 a1 => by rw [hE2, up_ne (by omega)]; exact HF1.out.2 j a0⟩
          have H2 : Hid (Sq W wr pb #[.slice qo p.gh.length qc, .slice vo p.vs.length vc, .slice tto p.ts.length tc, .slice oo p.on.length oc, .int .i64 p.miss, .slice co p.cd.length cc] E2) := by rw [hE2]; exact HS.out
          clear hE2 HS
          clear H1 HF1
          generalize wr = w2 at *
          go_loopg [6] (p.ts.length) (fun gq s wr => ∃ k : Nat, k ≤ p.ts.length ∧ gq = p.ts.length - k ∧ s = .int .i64 (k : Int) ∧ Sq W wr pb #[.slice qo p.gh.length qc, .slice vo p.vs.length vc, .slice tto p.ts.length tc, .slice oo p.on.length oc, .int .i64 p.miss, .slice co p.cd.length cc] (up E2 (5 * i + 2) (some ⟨b3, 3, 1, .slice tto p.ts.length tc, p.ts.length, iC (pr (mT m) p.ts k)⟩)))
          case atStart =>
            refine ⟨0, Nat.zero_le _, rfl, rfl, ?_⟩
            have e0 : E2 (5 * i + 2) = some ⟨b3, 3, 1, .slice tto p.ts.length tc, p.ts.length, iC (pr (mT m) p.ts 0)⟩ := (HF2.out.2 (5 * i + 2) (by omega) (by omega)).trans HE.out.2.2.1
            rw [up_self e0]
            exact H2.out
          case round =>
            rename_i J2 K2 hJ2 hH2
            obtain ⟨k, hk, hgk, rfl, hS⟩ := hrel
            have HG : Hid (gk = p.ts.length - k ∧ k ≤ p.ts.length) := ⟨hgk, hk⟩
            have HS : Hid _ := hS
            obtain ⟨c0, c1, c2, c3, c4, c5⟩ := cells6 hS.box
            have hk3 : (k : Int) ≤ 1000000 := by omega
            clear hgk hS
            by_cases hkm : k < p.ts.length
            case pos =>
              have HKm : Hid (k < p.ts.length) := hkm
              have hk1 : (k : Int) < (p.ts.length : Int) := by omega
              have hx := up_same E2 (5 * i + 2) (some ⟨b3, 3, 1, .slice tto p.ts.length tc, p.ts.length, iC (pr (mT m) p.ts k)⟩)
              have hOw := (HS.out.ap.ow _ _ hx).2
              obtain ⟨g, cap, cur, ev, -⟩ := own_block hOw (by show 0 < p.ts.length; omega)
              injection ev with ev1 _ ev2
              subst ev1
              subst ev2
              have hgl := HLt.out _ _ HE.out.2.2.1 g rfl
              have hOl := hOw.1
              have hat : ∀ j, j < 1 → ∃ y, wr.cell? ⟨g, k * 1 + j, none⟩ = some y := fun j hj => by
                have hj2 : k * 1 + j < p.ts.length * 1 := by omega
                rw [hOw.cellAt (k * 1 + j) hj2]
                exact ⟨_, List.getElem?_eq_getElem (by rw [hOl]; exact hj2)⟩
              have hf := hOw.frozenAt
              obtain ⟨y0, d0⟩ := hat 0 (by omega)
              rw [Nat.mul_one, Nat.add_zero] at d0
              have HN : Hid (Sq W (wr.setCell ⟨g, k, none⟩ (.int .i64 (-(100 * (m : Int)) - (k : Int)))) pb #[.slice qo p.gh.length qc, .slice vo p.vs.length vc, .slice (some ⟨g, 0, none⟩) p.ts.length tc, .slice oo p.on.length oc, .int .i64 p.miss, .slice co p.cd.length cc] (up E2 (5 * i + 2) (some ⟨b3, 3, 1, .slice (some ⟨g, 0, none⟩) p.ts.length tc, p.ts.length, iC (pr (mT m) p.ts (k + 1))⟩))) := ⟨HS.out.ap.set1, (bel_set hgl.1 (k) _ HS.out.bel), (heap_setCell_other _ ⟨g, k, none⟩ _ _ (by show W.heap.size ≠ g; omega)).trans HS.out.box⟩
              clear hat hOw hOl hx hgl hkm
              go_wp2_with fail
              go_roundg (p.ts.length - (k + 1))
              case measure => have := HG.out; have := HKm.out; omega
              case rel => exact ⟨k + 1, HKm.out, rfl, by go_num, HN.out⟩
            case neg =>
              have hk1 : ¬ (k : Int) < (p.ts.length : Int) := by omega
              obtain rfl : k = p.ts.length := by have := HG.out; omega
              clear hkm HG
              go_wp2_with fail
              clear c0 c1 c2 c3 c4 c5 hk1 hk3 hH2 hJ2
              obtain ⟨E3, hE3⟩ : ∃ E3, E3 = up E2 (5 * i + 2) (some ⟨b3, 3, 1, .slice tto p.ts.length tc, p.ts.length, iC (pr (mT m) p.ts p.ts.length)⟩) := ⟨_, rfl⟩
              have HF3 : Hid ((E3 (5 * i + 4) = some ⟨b5, 64, 5, .slice co p.cd.length cc, p.cd.length, Vf.cC (pr (mI m) p.cd p.cd.length)⟩ ∧ E3 (5 * i + 3) = some ⟨b4, 3, 1, .slice oo p.on.length oc, p.on.length, iC (pr (mO m) p.on p.on.length)⟩ ∧ E3 (5 * i + 2) = some ⟨b3, 3, 1, .slice tto p.ts.length tc, p.ts.length, iC (pr (mT m) p.ts p.ts.length)⟩) ∧ ∀ j, j ≠ 5 * i + 4 → j ≠ 5 * i + 3 → j ≠ 5 * i + 2 → E3 j = E0 j) := ⟨⟨by rw [hE3, up_ne (by omega)]; exact HF2.out.1.1, by rw [hE3, up_ne (by omega)]; exact HF2.out.1.2, by rw [hE3, up_same]⟩, fun j a0 a1 a2 => by rw [hE3, up_ne (by omega)]; exact HF2.out.2 j a0 a1⟩
              have H3 : Hid (Sq W wr pb #[.slice qo p.gh.length qc, .slice vo p.vs.length vc, .slice tto p.ts.length tc, .slice oo p.on.length oc, .int .i64 p.miss, .slice co p.cd.length cc] E3) := by rw [hE3]; exact HS.out
              clear hE3 HS
              clear H2 HF2
              generalize wr = w3 at *
              go_loopg [7] (p.vs.length) (fun gq s wr => ∃ k : Nat, k ≤ p.vs.length ∧ gq = p.vs.length - k ∧ s = .int .i64 (k : Int) ∧ Sq W wr pb #[.slice qo p.gh.length qc, .slice vo p.vs.length vc, .slice tto p.ts.length tc, .slice oo p.on.length oc, .int .i64 p.miss, .slice co p.cd.length cc] (up E3 (5 * i + 1) (some ⟨b2, 60, 3, .slice vo p.vs.length vc, p.vs.length, vC (pr (mV m) p.vs k)⟩)))
              case atStart =>
                refine ⟨0, Nat.zero_le _, rfl, rfl, ?_⟩
                have e0 : E3 (5 * i + 1) = some ⟨b2, 60, 3, .slice vo p.vs.length vc, p.vs.length, vC (pr (mV m) p.vs 0)⟩ := (HF3.out.2 (5 * i + 1) (by omega) (by omega) (by omega)).trans HE.out.2.1
                rw [up_self e0]
                exact H3.out
              case round =>
                rename_i J3 K3 hJ3 hH3
                obtain ⟨k, hk, hgk, rfl, hS⟩ := hrel
                have HG : Hid (gk = p.vs.length - k ∧ k ≤ p.vs.length) := ⟨hgk, hk⟩
                have HS : Hid _ := hS
                obtain ⟨c0, c1, c2, c3, c4, c5⟩ := cells6 hS.box
                have hk3 : (k : Int) ≤ 1000000 := by omega
                clear hgk hS
                by_cases hkm : k < p.vs.length
                case pos =>
                  have HKm : Hid (k < p.vs.length) := hkm
                  have hk1 : (k : Int) < (p.vs.length : Int) := by omega
                  have hx := up_same E3 (5 * i + 1) (some ⟨b2, 60, 3, .slice vo p.vs.length vc, p.vs.length, vC (pr (mV m) p.vs k)⟩)
                  have hOw := (HS.out.ap.ow _ _ hx).2
                  obtain ⟨g, cap, cur, ev, -⟩ := own_block hOw (by show 0 < p.vs.length; omega)
                  injection ev with ev1 _ ev2
                  subst ev1
                  subst ev2
                  have hgl := HLt.out _ _ HE.out.2.1 g rfl
                  have hOl := hOw.1
                  have hat : ∀ j, j < 3 → ∃ y, wr.cell? ⟨g, k * 3 + j, none⟩ = some y := fun j hj => by
                    have hj2 : k * 3 + j < p.vs.length * 3 := by omega
                    rw [hOw.cellAt (k * 3 + j) hj2]
                    exact ⟨_, List.getElem?_eq_getElem (by rw [hOl]; exact hj2)⟩
                  have hf := hOw.frozenAt
                  obtain ⟨y0, d0⟩ := hat 0 (by omega)
                  obtain ⟨y1, d1⟩ := hat 1 (by omega)
                  obtain ⟨y2, d2⟩ := hat 2 (by omega)
                  rw [Nat.add_zero] at d0
                  have HN : Hid (Sq W (((wr.setCell ⟨g, k * 3, none⟩ (.int .i64 (m : Int))).setCell ⟨g, k * 3 + 1, none⟩ (.int .i64 (k : Int))).setCell ⟨g, k * 3 + 2, none⟩ (.int .i64 0)) pb #[.slice qo p.gh.length qc, .slice (some ⟨g, 0, none⟩) p.vs.length vc, .slice tto p.ts.length tc, .slice oo p.on.length oc, .int .i64 p.miss, .slice co p.cd.length cc] (up E3 (5 * i + 1) (some ⟨b2, 60, 3, .slice (some ⟨g, 0, none⟩) p.vs.length vc, p.vs.length, vC (pr (mV m) p.vs (k + 1))⟩))) := ⟨HS.out.ap.set3 (mV m k), (bel_set hgl.1 (k * 3 + 2) _ (bel_set hgl.1 (k * 3 + 1) _ (bel_set hgl.1 (k * 3) _ HS.out.bel))), (heap_setCell_other _ ⟨g, k * 3 + 2, none⟩ _ _ (by show W.heap.size ≠ g; omega)).trans ((heap_setCell_other _ ⟨g, k * 3 + 1, none⟩ _ _ (by show W.heap.size ≠ g; omega)).trans ((heap_setCell_other _ ⟨g, k * 3, none⟩ _ _ (by show W.heap.size ≠ g; omega)).trans HS.out.box))⟩
                  clear hat hOw hOl hx hgl hkm
                  go_wp2_with fail
                  go_roundg (p.vs.length - (k + 1))
                  case measure => have := HG.out; have := HKm.out; omega
                  case rel => exact ⟨k + 1, HKm.out, rfl, by go_num, HN.out⟩
                case neg =>
                  have hk1 : ¬ (k : Int) < (p.vs.length : Int) := by omega
                  obtain rfl : k = p.vs.length := by have := HG.out; omega
                  clear hkm HG
                  go_upto_region 17 with fail
                  clear c0 c1 c2 c3 c4 c5 hk1 hk3 hH3 hJ3
                  obtain ⟨E4, hE4⟩ : ∃ E4, E4 = up E3 (5 * i + 1) (some ⟨b2, 60, 3, .slice vo p.vs.length vc, p.vs.length, vC (pr (mV m) p.vs p.vs.length)⟩) := ⟨_, rfl⟩
                  have HF4 : Hid ((E4 (5 * i + 4) = some ⟨b5, 64, 5, .slice co p.cd.length cc, p.cd.length, Vf.cC (pr (mI m) p.cd p.cd.length)⟩ ∧ E4 (5 * i + 3) = some ⟨b4, 3, 1, .slice oo p.on.length oc, p.on.length, iC (pr (mO m) p.on p.on.length)⟩ ∧ E4 (5 * i + 2) = some ⟨b3, 3, 1, .slice tto p.ts.length tc, p.ts.length, iC (pr (mT m) p.ts p.ts.length)⟩ ∧ E4 (5 * i + 1) = some ⟨b2, 60, 3, .slice vo p.vs.length vc, p.vs.length, vC (pr (mV m) p.vs p.vs.length)⟩) ∧ ∀ j, j ≠ 5 * i + 4 → j ≠ 5 * i + 3 → j ≠ 5 * i + 2 → j ≠ 5 * i + 1 → E4 j = E0 j) := ⟨⟨by rw [hE4, up_ne (by omega)]; exact HF3.out.1.1, by rw [hE4, up_ne (by omega)]; exact HF3.out.1.2.1, by rw [hE4, up_ne (by omega)]; exact HF3.out.1.2.2, by rw [hE4, up_same]⟩, fun j a0 a1 a2 a3 => by rw [hE4, up_ne (by omega)]; exact HF3.out.2 j a0 a1 a2⟩
                  have H4 : Hid (Sq W wr pb #[.slice qo p.gh.length qc, .slice vo p.vs.length vc, .slice tto p.ts.length tc, .slice oo p.on.length oc, .int .i64 p.miss, .slice co p.cd.length cc] E4) := by rw [hE4]; exact HS.out
                  clear hE4 HS
                  clear H3 HF3
                  generalize wr = w4 at *
                  have HXX : Hid (E4 (5 * i + 4) = some ⟨b5, 64, 5, .slice co p.cd.length cc, p.cd.length, Vf.cC (pr (mI m) p.cd p.cd.length)⟩ ∧ E4 (5 * i + 3) = some ⟨b4, 3, 1, .slice oo p.on.length oc, p.on.length, iC (pr (mO m) p.on p.on.length)⟩ ∧ E4 (5 * i + 2) = some ⟨b3, 3, 1, .slice tto p.ts.length tc, p.ts.length, iC (pr (mT m) p.ts p.ts.length)⟩) := ⟨HF4.out.1.1, HF4.out.1.2.1, HF4.out.1.2.2.1⟩
                  have HLo : Hid (∀ g, ((Value.slice co p.cd.length cc).ownBlock = some g ∨ (Value.slice oo p.on.length oc).ownBlock = some g ∨ (Value.slice tto p.ts.length tc).ownBlock = some g) → g < W.heap.size) := fun g hg => by
                    rcases hg with hg | hg | hg
                    · exact (HLt.out _ _ HE.out.2.2.2.2 g hg).2
                    · exact (HLt.out _ _ HE.out.2.2.2.1 g hg).2
                    · exact (HLt.out _ _ HE.out.2.2.1 g hg).2
                  have hbA : Below w4.heap.size w4 (w4.alloc (.cells #[.int .i64 (900 + (m : Int)), .int .i64 0, .int .i64 0, .int .i64 0, .int .i64 0] 64)) := (Below.refl _ _).alloc (Nat.le_refl _) _
                  have HY : Hid (Sq W (w4.alloc (.cells #[.int .i64 (900 + (m : Int)), .int .i64 0, .int .i64 0, .int .i64 0, .int .i64 0] 64)) pb #[.slice qo p.gh.length qc, .slice vo p.vs.length vc, .slice tto p.ts.length tc, .slice oo p.on.length oc, .int .i64 p.miss, .slice co p.cd.length cc] E4 ∧ b5 ≤ (w4.alloc (.cells #[.int .i64 (900 + (m : Int)), .int .i64 0, .int .i64 0, .int .i64 0, .int .i64 0] 64)).heap.size ∧ W.heap.size < w4.heap.size) := ⟨⟨H4.out.ap.below hbA, H4.out.bel.trans (hbA.mono (by have := Cd.blk_lt H4.out.box; have := HL.out; omega)), (hbA.block _ (Cd.blk_lt H4.out.box)).trans H4.out.box⟩, by have := HBs.out; have := Cd.blk_lt H4.out.box; have := hbA.size; omega, Cd.blk_lt H4.out.box⟩
                  obtain ⟨c0, c1, c2, c3, c4, c5⟩ := cells6 H4.out.box
                  clear hbA
                  go_wp2_with (at_builtin; refine app_more _ rfl _ _ 27 rfl Tryd.underlying27 infoIr rfl (by decide) rfl (HY.out.1.ap.ow _ _ HXX.out.1).2 HY.out.2.1 (news := [.int .i64 (900 + (m : Int)), .int .i64 0, .int .i64 0, .int .i64 0, .int .i64 0]) rfl (by rfl) (cells_new5 _ _ _ _ _ _ _) (by simp [Value.oneCell']) (by have := HL.out; unfold maxLen; show p.cd.length + 1 ≤ _; omega) (by have := HL.out; show (p.cd.length + 1) * _ ≤ _; omega) (by decide) ?_)
                  intro g0 a0 w5 hm1 hm2 hG
                  obtain ⟨s1, s2, s3, s4, s5, s6⟩ := HY.out.1.ap.moreS HXX.out.1 hG hm2 (by have := Cd.blk_lt HY.out.1.box; have := HL.out; omega)
                  have hWb : ∀ q, (Value.slice co p.cd.length cc).ownBlock = some q → q < W.heap.size := fun q hq => HLo.out q (Or.inl hq)
                  have hsW : W.heap.size < (w4.alloc (.cells #[.int .i64 (900 + (m : Int)), .int .i64 0, .int .i64 0, .int .i64 0, .int .i64 0] 64)).heap.size := Cd.blk_lt HY.out.1.box
                  have H5 : Hid (Sq W w5 pb #[.slice qo p.gh.length qc, .slice vo p.vs.length vc, .slice tto p.ts.length tc, .slice oo p.on.length oc, .int .i64 p.miss, .slice co p.cd.length cc] E4) := ⟨s1, HY.out.1.bel.trans s3, (s6 _ hsW (fun e => by have := hWb _ e; omega)).trans HY.out.1.box⟩
                  obtain ⟨Z0, hZ0⟩ : ∃ Z, Z = Vf.cC (pr (mI m) p.cd p.cd.length) ++ [.int .i64 (900 + (m : Int)), .int .i64 0, .int .i64 0, .int .i64 0, .int .i64 0] := ⟨_, rfl⟩
                  rw [← hZ0] at hm1
                  have HZ0 : Hid (Z0.length = (p.cd.length + 1) * 5) := hm1.1
                  clear hZ0
                  have HM0' : Hid (w5.ownsRow b5 64 5 (.slice (some ⟨g0, 0, none⟩) (p.cd.length + 1) a0) (p.cd.length + 1) Z0 ∧ NeE E4 (5 * i + 4) g0 ∧ pb < g0 ∧ ((Value.slice co p.cd.length cc).ownBlock = some g0 ∨ W.heap.size < g0)) := ⟨hm1, s2, s4, by rcases s5 with e | e; exact Or.inl e; right; omega⟩
                  have HM0 := HM0'
                  clear HM0'
                  clear hm1 hm2 hG s1 s2 s3 s4 s5 s6 hWb hsW HY H4 c0 c1 c2 c3 c4 c5
                  go_upto_region 18 with fail
                  have hbA : Below w5.heap.size w5 (w5.alloc (.cells #[.int .i64 (900 + (m : Int))] 3)) := (Below.refl _ _).alloc (Nat.le_refl _) _
                  have HY : Hid (Sq W (w5.alloc (.cells #[.int .i64 (900 + (m : Int))] 3)) pb #[.slice qo p.gh.length qc, .slice vo p.vs.length vc, .slice tto p.ts.length tc, .slice oo p.on.length oc, .int .i64 p.miss, .slice co p.cd.length cc] E4 ∧ b4 ≤ (w5.alloc (.cells #[.int .i64 (900 + (m : Int))] 3)).heap.size ∧ W.heap.size < w5.heap.size ∧ (w5.alloc (.cells #[.int .i64 (900 + (m : Int))] 3)).ownsRow b5 64 5 (.slice (some ⟨g0, 0, none⟩) (p.cd.length + 1) a0) (p.cd.length + 1) (Z0)) := ⟨⟨H5.out.ap.below hbA, H5.out.bel.trans (hbA.mono (by have := Cd.blk_lt H5.out.box; have := HL.out; omega)), (hbA.block _ (Cd.blk_lt H5.out.box)).trans H5.out.box⟩, by have := HBs.out; have := Cd.blk_lt H5.out.box; have := hbA.size; omega, Cd.blk_lt H5.out.box, own_below HM0.out.1 hbA⟩
                  obtain ⟨c0, c1, c2, c3, c4, c5⟩ := cells6 H5.out.box
                  clear hbA
                  go_wp2_with (at_builtin; refine app_more _ rfl _ _ 26 rfl Tryd.underlying26 infoIn rfl (by decide) rfl (HY.out.1.ap.ow _ _ HXX.out.2.1).2 HY.out.2.1 (news := [.int .i64 (900 + (m : Int))]) rfl (by rfl) (Nm.cell_one _ _ _) (by simp [Value.oneCell']) (by have := HL.out; unfold maxLen; show p.on.length + 1 ≤ _; omega) (by have := HL.out; show (p.on.length + 1) * _ ≤ _; omega) (by decide) ?_)
                  intro g1 a1 w6 hm1 hm2 hG
                  obtain ⟨s1, s2, s3, s4, s5, s6⟩ := HY.out.1.ap.moreS HXX.out.2.1 hG hm2 (by have := Cd.blk_lt HY.out.1.box; have := HL.out; omega)
                  have hWb : ∀ q, (Value.slice oo p.on.length oc).ownBlock = some q → q < W.heap.size := fun q hq => HLo.out q (Or.inr (Or.inl hq))
                  have hsW : W.heap.size < (w5.alloc (.cells #[.int .i64 (900 + (m : Int))] 3)).heap.size := Cd.blk_lt HY.out.1.box
                  have H6 : Hid (Sq W w6 pb #[.slice qo p.gh.length qc, .slice vo p.vs.length vc, .slice tto p.ts.length tc, .slice oo p.on.length oc, .int .i64 p.miss, .slice co p.cd.length cc] E4) := ⟨s1, HY.out.1.bel.trans s3, (s6 _ hsW (fun e => by have := hWb _ e; omega)).trans HY.out.1.box⟩
                  obtain ⟨Z1, hZ1⟩ : ∃ Z, Z = iC (pr (mO m) p.on p.on.length) ++ [.int .i64 (900 + (m : Int))] := ⟨_, rfl⟩
                  rw [← hZ1] at hm1
                  have HZ1 : Hid (Z1.length = (p.on.length + 1) * 1) := hm1.1
                  clear hZ1
                  have HM1' : Hid (w6.ownsRow b4 3 1 (.slice (some ⟨g1, 0, none⟩) (p.on.length + 1) a1) (p.on.length + 1) Z1 ∧ NeE E4 (5 * i + 3) g1 ∧ pb < g1 ∧ ((Value.slice oo p.on.length oc).ownBlock = some g1 ∨ W.heap.size < g1)) := ⟨hm1, s2, s4, by rcases s5 with e | e; exact Or.inl e; right; omega⟩
                  have hd0 : (Value.slice oo p.on.length oc).ownBlock ≠ some g0 := HM0.out.2.1 _ _ HXX.out.2.1 (by omega)
                  have hgl0 : g0 < (w5.alloc (.cells #[.int .i64 (900 + (m : Int))] 3)).heap.size := (World.ownsRow.lt (HY.out.2.2.2) g0 rfl).2
                  have HD01 : Hid (g0 ≠ g1) := by
                    rcases s5 with e | e
                    · exact fun e2 => hd0 (by rw [e2]; exact e)
                    · show g0 ≠ g1; omega
                  have HM0' : Hid (w6.ownsRow b5 64 5 (.slice (some ⟨g0, 0, none⟩) (p.cd.length + 1) a0) (p.cd.length + 1) Z0 ∧ NeE E4 (5 * i + 4) g0 ∧ pb < g0 ∧ ((Value.slice co p.cd.length cc).ownBlock = some g0 ∨ W.heap.size < g0)) := ⟨own_keepB (HY.out.2.2.2) (fun k hk => by
                    have e : g0 = k := Option.some.inj hk
                    rw [← e]
                    exact s6 _ hgl0 hd0), HM0.out.2⟩
                  clear HM0 hd0 hgl0
                  have HM0 := HM0'
                  clear HM0'
                  have HM1 := HM1'
                  clear HM1'
                  clear hm1 hm2 hG s1 s2 s3 s4 s5 s6 hWb hsW HY H5 c0 c1 c2 c3 c4 c5
                  go_upto_region 19 with fail
                  have hbA : Below w6.heap.size w6 (w6.alloc (.cells #[.int .i64 (900 + (m : Int))] 3)) := (Below.refl _ _).alloc (Nat.le_refl _) _
                  have HY : Hid (Sq W (w6.alloc (.cells #[.int .i64 (900 + (m : Int))] 3)) pb #[.slice qo p.gh.length qc, .slice vo p.vs.length vc, .slice tto p.ts.length tc, .slice oo p.on.length oc, .int .i64 p.miss, .slice co p.cd.length cc] E4 ∧ b3 ≤ (w6.alloc (.cells #[.int .i64 (900 + (m : Int))] 3)).heap.size ∧ W.heap.size < w6.heap.size ∧ (w6.alloc (.cells #[.int .i64 (900 + (m : Int))] 3)).ownsRow b5 64 5 (.slice (some ⟨g0, 0, none⟩) (p.cd.length + 1) a0) (p.cd.length + 1) (Z0) ∧ (w6.alloc (.cells #[.int .i64 (900 + (m : Int))] 3)).ownsRow b4 3 1 (.slice (some ⟨g1, 0, none⟩) (p.on.length + 1) a1) (p.on.length + 1) (Z1)) := ⟨⟨H6.out.ap.below hbA, H6.out.bel.trans (hbA.mono (by have := Cd.blk_lt H6.out.box; have := HL.out; omega)), (hbA.block _ (Cd.blk_lt H6.out.box)).trans H6.out.box⟩, by have := HBs.out; have := Cd.blk_lt H6.out.box; have := hbA.size; omega, Cd.blk_lt H6.out.box, own_below HM0.out.1 hbA, own_below HM1.out.1 hbA⟩
                  obtain ⟨c0, c1, c2, c3, c4, c5⟩ := cells6 H6.out.box
                  clear hbA
                  go_wp2_with (at_builtin; refine app_more _ rfl _ _ 26 rfl Tryd.underlying26 infoIn rfl (by decide) rfl (HY.out.1.ap.ow _ _ HXX.out.2.2).2 HY.out.2.1 (news := [.int .i64 (900 + (m : Int))]) rfl (by rfl) (Nm.cell_one _ _ _) (by simp [Value.oneCell']) (by have := HL.out; unfold maxLen; show p.ts.length + 1 ≤ _; omega) (by have := HL.out; show (p.ts.length + 1) * _ ≤ _; omega) (by decide) ?_)
                  intro g2 a2 w7 hm1 hm2 hG
                  obtain ⟨s1, s2, s3, s4, s5, s6⟩ := HY.out.1.ap.moreS HXX.out.2.2 hG hm2 (by have := Cd.blk_lt HY.out.1.box; have := HL.out; omega)
                  have hWb : ∀ q, (Value.slice tto p.ts.length tc).ownBlock = some q → q < W.heap.size := fun q hq => HLo.out q (Or.inr (Or.inr hq))
                  have hsW : W.heap.size < (w6.alloc (.cells #[.int .i64 (900 + (m : Int))] 3)).heap.size := Cd.blk_lt HY.out.1.box
                  have H7 : Hid (Sq W w7 pb #[.slice qo p.gh.length qc, .slice vo p.vs.length vc, .slice tto p.ts.length tc, .slice oo p.on.length oc, .int .i64 p.miss, .slice co p.cd.length cc] E4) := ⟨s1, HY.out.1.bel.trans s3, (s6 _ hsW (fun e => by have := hWb _ e; omega)).trans HY.out.1.box⟩
                  obtain ⟨Z2, hZ2⟩ : ∃ Z, Z = iC (pr (mT m) p.ts p.ts.length) ++ [.int .i64 (900 + (m : Int))] := ⟨_, rfl⟩
                  rw [← hZ2] at hm1
                  have HZ2 : Hid (Z2.length = (p.ts.length + 1) * 1) := hm1.1
                  clear hZ2
                  have HM2' : Hid (w7.ownsRow b3 3 1 (.slice (some ⟨g2, 0, none⟩) (p.ts.length + 1) a2) (p.ts.length + 1) Z2 ∧ NeE E4 (5 * i + 2) g2 ∧ pb < g2 ∧ ((Value.slice tto p.ts.length tc).ownBlock = some g2 ∨ W.heap.size < g2)) := ⟨hm1, s2, s4, by rcases s5 with e | e; exact Or.inl e; right; omega⟩
                  have hd0 : (Value.slice tto p.ts.length tc).ownBlock ≠ some g0 := HM0.out.2.1 _ _ HXX.out.2.2 (by omega)
                  have hgl0 : g0 < (w6.alloc (.cells #[.int .i64 (900 + (m : Int))] 3)).heap.size := (World.ownsRow.lt (HY.out.2.2.2.1) g0 rfl).2
                  have HD02 : Hid (g0 ≠ g2) := by
                    rcases s5 with e | e
                    · exact fun e2 => hd0 (by rw [e2]; exact e)
                    · show g0 ≠ g2; omega
                  have HM0' : Hid (w7.ownsRow b5 64 5 (.slice (some ⟨g0, 0, none⟩) (p.cd.length + 1) a0) (p.cd.length + 1) Z0 ∧ NeE E4 (5 * i + 4) g0 ∧ pb < g0 ∧ ((Value.slice co p.cd.length cc).ownBlock = some g0 ∨ W.heap.size < g0)) := ⟨own_keepB (HY.out.2.2.2.1) (fun k hk => by
                    have e : g0 = k := Option.some.inj hk
                    rw [← e]
                    exact s6 _ hgl0 hd0), HM0.out.2⟩
                  clear HM0 hd0 hgl0
                  have HM0 := HM0'
                  clear HM0'
                  have hd1 : (Value.slice tto p.ts.length tc).ownBlock ≠ some g1 := HM1.out.2.1 _ _ HXX.out.2.2 (by omega)
                  have hgl1 : g1 < (w6.alloc (.cells #[.int .i64 (900 + (m : Int))] 3)).heap.size := (World.ownsRow.lt (HY.out.2.2.2.2) g1 rfl).2
                  have HD12 : Hid (g1 ≠ g2) := by
                    rcases s5 with e | e
                    · exact fun e2 => hd1 (by rw [e2]; exact e)
                    · show g1 ≠ g2; omega
                  have HM1' : Hid (w7.ownsRow b4 3 1 (.slice (some ⟨g1, 0, none⟩) (p.on.length + 1) a1) (p.on.length + 1) Z1 ∧ NeE E4 (5 * i + 3) g1 ∧ pb < g1 ∧ ((Value.slice oo p.on.length oc).ownBlock = some g1 ∨ W.heap.size < g1)) := ⟨own_keepB (HY.out.2.2.2.2) (fun k hk => by
                    have e : g1 = k := Option.some.inj hk
                    rw [← e]
                    exact s6 _ hgl1 hd1), HM1.out.2⟩
                  clear HM1 hd1 hgl1
                  have HM1 := HM1'
                  clear HM1'
                  have HM2 := HM2'
                  clear HM2'
                  clear hm1 hm2 hG s1 s2 s3 s4 s5 s6 hWb hsW HY H6 c0 c1 c2 c3 c4 c5
                  have o0 := HM0.out.1
                  have z0 := HZ0.out
                  obtain ⟨y0, d0⟩ : ∃ y, w7.cell? ⟨g0, p.cd.length * 5 + 1, none⟩ = some y := by
                    rw [o0.cellAt _ (by omega)]
                    exact ⟨_, List.getElem?_eq_getElem (by omega)⟩
                  have f0 := o0.frozenAt (p.cd.length * 5 + 1)
                  have o1 : (w7.setCell ⟨g0, p.cd.length * 5 + 1, none⟩ (.int .i64 (m : Int))).ownsRow b4 3 1 (.slice (some ⟨g1, 0, none⟩) (p.on.length + 1) a1) (p.on.length + 1) Z1 := own_keepB HM1.out.1 (fun k hk => by
                    have e : g1 = k := Option.some.inj hk
                    exact heap_setCell_other w7 ⟨g0, p.cd.length * 5 + 1, none⟩ k _ (by rw [← e]; exact fun e2 => HD01.out e2.symm))
                  have z1 := HZ1.out
                  obtain ⟨y1, d1⟩ : ∃ y, (w7.setCell ⟨g0, p.cd.length * 5 + 1, none⟩ (.int .i64 (m : Int))).cell? ⟨g1, p.on.length, none⟩ = some y := by
                    rw [o1.cellAt _ (by omega)]
                    exact ⟨_, List.getElem?_eq_getElem (by omega)⟩
                  have f1 := o1.frozenAt p.on.length
                  have o2 : ((w7.setCell ⟨g0, p.cd.length * 5 + 1, none⟩ (.int .i64 (m : Int))).setCell ⟨g1, p.on.length, none⟩ (.int .i64 (m : Int))).ownsRow b3 3 1 (.slice (some ⟨g2, 0, none⟩) (p.ts.length + 1) a2) (p.ts.length + 1) Z2 := own_keepB HM2.out.1 (fun k hk => by
                    have e : g2 = k := Option.some.inj hk
                    rw [heap_setCell_other _ ⟨g1, p.on.length, none⟩ k _ (by rw [← e]; exact fun e2 => HD12.out e2.symm)]
                    exact heap_setCell_other w7 ⟨g0, p.cd.length * 5 + 1, none⟩ k _ (by rw [← e]; exact fun e2 => HD02.out e2.symm))
                  have z2 := HZ2.out
                  obtain ⟨y2, d2⟩ : ∃ y, ((w7.setCell ⟨g0, p.cd.length * 5 + 1, none⟩ (.int .i64 (m : Int))).setCell ⟨g1, p.on.length, none⟩ (.int .i64 (m : Int))).cell? ⟨g2, p.ts.length, none⟩ = some y := by
                    rw [o2.cellAt _ (by omega)]
                    exact ⟨_, List.getElem?_eq_getElem (by omega)⟩
                  have f2 := o2.frozenAt p.ts.length
                  have A1 := H7.out.ap.past HXX.out.1 HM0.out.2.1 (k := p.cd.length * 5 + 1) (by rw [(H7.out.ap.ow _ _ HXX.out.1).2.1]; exact Nat.le_succ _) (.int .i64 (m : Int))
                  have A2 := A1.past HXX.out.2.1 HM1.out.2.1 (k := p.on.length) (by rw [(H7.out.ap.ow _ _ HXX.out.2.1).2.1, Nat.mul_one]; exact Nat.le_refl _) (.int .i64 (m : Int))
                  have A3 := show Hid _ from A2.past HXX.out.2.2 HM2.out.2.1 (k := p.ts.length) (by rw [(H7.out.ap.ow _ _ HXX.out.2.2).2.1, Nat.mul_one]; exact Nat.le_refl _) (.int .i64 (m : Int))
                  have HBl := show Hid _ from bel_set HM2.out.2.2.1 p.ts.length (.int .i64 (m : Int)) (bel_set HM1.out.2.2.1 p.on.length (.int .i64 (m : Int)) (bel_set HM0.out.2.2.1 (p.cd.length * 5 + 1) (.int .i64 (m : Int)) H7.out.bel))
                  clear o0 o1 o2 z0 z1 z2 A1 A2
                  go_wp2_with fail
                  go_end0
                  refine ⟨rfl, E4, A3.out, ⟨⟨n1, ?_⟩, ⟨b2, ?_⟩, ⟨b3, ?_⟩, ⟨b4, ?_⟩, b5, ?_⟩, fun j hj => (HF4.out.2 j (by omega) (by omega) (by omega) (by omega)).trans (HE0.out j hj), HBl.out⟩
                  · exact (HF4.out.2 (5 * i) (by omega) (by omega) (by omega) (by omega)).trans HE.out.1
                  · rw [HF4.out.1.2.2.2]; simp only [en2, spl, pr_len]
                  · rw [HXX.out.2.2]; simp only [en3, spl, pr_len]
                  · rw [HXX.out.2.1]; simp only [en3, spl, pr_len]
                  · rw [HXX.out.1]; simp only [en5, spl, pr_len]
end Go.Proofs.YtcblichnkakhdaaDoor.Cd

set_option linter.unusedSimpArgs false
namespace Go.Proofs.YtcblichnkakhdaaDoor.Cd
open Go.RowKit Go.Proofs.YtcblichnkakhdaaDoor.Nm Go.Proofs.YtcblichnkakhdaaDoor.Vf

/-- a program has the marks of m -/
structure Mk (m : Nat) (q : Pg) : Prop where
  cd : ∀ k (h : k < q.cd.length), q.cd[k] = mI m k
  on : ∀ k (h : k < q.on.length), q.on[k] = mO m k
  ts : ∀ k (h : k < q.ts.length), q.ts[k] = mT m k
  vs : ∀ k (h : k < q.vs.length), q.vs[k] = mV m k
theorem pr_get {α : Type} {f : Nat → α} {l : List α} {k : Nat} (h : k < (pr f l l.length).length) : (pr f l l.length)[k] = f k := by
  have h2 : k < l.length := by rw [pr_len] at h; exact h
  have h1 := pr_at (f := f) h2 l.length h2
  rw [List.getElem?_eq_getElem h] at h1
  exact Option.some.inj h1
theorem mk_spl (m : Nat) (p : Pg) : Mk m (spl m p) := ⟨fun _ h => pr_get h, fun _ h => pr_get h, fun _ h => pr_get h, fun _ h => pr_get h⟩
set_option maxHeartbeats 12800000 in
set_option maxRecDepth 2000000 in
/-- spoilt -/
theorem spoilt_any {W : World} {m : Nat} {q : Pg} {u : PV} (hP : IsPg W u q) (hM : Mk m q) (hm : m ≤ 100) (hl : q.vs.length ≤ 1000000 ∧ q.ts.length ≤ 1000000 ∧ q.on.length ≤ 1000000 ∧ q.cd.length ≤ 1000000) :
    Calls Tryd.prog 10 #[.agg (pvC u q), .int .i64 (m : Int)] W fun e W' => e = .returned (.bool true) ∧ Below W.heap.size W W' := by
  obtain ⟨qo, qc, vo, vc, tto, tc, oo, oc, co, cc⟩ := u
  have hm' : (m : Int) ≤ 100 := by omega
  have hl1 : (q.vs.length : Int) ≤ 1000000 := by omega
  have hl2 : (q.ts.length : Int) ≤ 1000000 := by omega
  have hl3 : (q.on.length : Int) ≤ 1000000 := by omega
  have hl4 : (q.cd.length : Int) ≤ 1000000 := by omega
  have hb0 : Below W.heap.size W (W.alloc (.cells #[.slice qo q.gh.length qc, .slice vo q.vs.length vc, .slice tto q.ts.length tc, .slice oo q.on.length oc, .int .i64 q.miss, .slice co q.cd.length cc] 29)) := (Below.refl _ W).alloc (Nat.le_refl _) _
  have H0 : Hid (IsPg (W.alloc (.cells #[.slice qo q.gh.length qc, .slice vo q.vs.length vc, .slice tto q.ts.length tc, .slice oo q.on.length oc, .int .i64 q.miss, .slice co q.cd.length cc] 29)) ⟨qo, qc, vo, vc, tto, tc, oo, oc, co, cc⟩ q ∧ Below W.heap.size W (W.alloc (.cells #[.slice qo q.gh.length qc, .slice vo q.vs.length vc, .slice tto q.ts.length tc, .slice oo q.on.length oc, .int .i64 q.miss, .slice co q.cd.length cc] 29)) ∧ (W.alloc (.cells #[.slice qo q.gh.length qc, .slice vo q.vs.length vc, .slice tto q.ts.length tc, .slice oo q.on.length oc, .int .i64 q.miss, .slice co q.cd.length cc] 29)).heap[W.heap.size]? = some (.cells #[.slice qo q.gh.length qc, .slice vo q.vs.length vc, .slice tto q.ts.length tc, .slice oo q.on.length oc, .int .i64 q.miss, .slice co q.cd.length cc] 29 (0, 0))) := ⟨hP.below hb0, hb0, heap_alloc_new _ _⟩
  have HM : Hid (Mk m q) := hM
  clear hP hM hm hl hb0
  show Calls _ _ #[.agg #[.slice qo q.gh.length qc, .slice vo q.vs.length vc, .slice tto q.ts.length tc, .slice oo q.on.length oc, .int .i64 q.miss, .slice co q.cd.length cc], .int .i64 (m : Int)] _ _
  go_enter Tryd.func10, Tryd.ntmps10
  go_wp2_with fail
  generalize W.alloc (.cells #[.slice qo q.gh.length qc, .slice vo q.vs.length vc, .slice tto q.ts.length tc, .slice oo q.on.length oc, .int .i64 q.miss, .slice co q.cd.length cc] 29) = w0 at *
  obtain ⟨c0, c1, c2, c3, c4, c5⟩ := cells6 H0.out.2.2
  go_loopg [5] (q.cd.length) (fun gq s wr => ∃ k : Nat, k ≤ q.cd.length ∧ gq = q.cd.length - k ∧ s = .int .i64 (k : Int) ∧ w0 = wr)
  case atStart => exact ⟨0, Nat.zero_le _, rfl, rfl, rfl⟩
  case round =>
    rename_i J0 K0 hJ0 hH0
    obtain ⟨k, hk, hgk, rfl, rfl⟩ := hrel
    have HG : Hid (gk = q.cd.length - k ∧ k ≤ q.cd.length) := ⟨hgk, hk⟩
    have hk3 : (k : Int) ≤ 1000000 := by omega
    clear hgk
    by_cases hkm : k < q.cd.length
    case pos =>
      have HKm : Hid (k < q.cd.length) := hkm
      have hk1 : (k : Int) < (q.cd.length : Int) := by omega
      obtain ⟨g, f, rfl, hg, d0, d1, d2, d3, d4⟩ := rd_ins H0.out.1.cd hkm
      rw [HM.out.cd k hkm] at d0
      dsimp only [mI] at d0
      rw [HM.out.cd k hkm] at d1
      dsimp only [mI] at d1
      rw [HM.out.cd k hkm] at d2
      dsimp only [mI] at d2
      rw [HM.out.cd k hkm] at d3
      dsimp only [mI] at d3
      rw [HM.out.cd k hkm] at d4
      dsimp only [mI] at d4
      clear hg hkm
      go_wp2_with fail
      go_roundg (q.cd.length - (k + 1))
      case measure => have := HG.out; have := HKm.out; omega
      case rel => exact ⟨k + 1, HKm.out, rfl, by go_num, rfl⟩
    case neg =>
      have hk1 : ¬ (k : Int) < (q.cd.length : Int) := by omega
      obtain rfl : k = q.cd.length := by have := HG.out; omega
      clear hkm HG hk
      go_wp2_with fail
      clear hk1 hk3 hH0 hJ0
      go_loopg [6] (q.on.length) (fun gq s wr => ∃ k : Nat, k ≤ q.on.length ∧ gq = q.on.length - k ∧ s = .int .i64 (k : Int) ∧ w0 = wr)
      case atStart => exact ⟨0, Nat.zero_le _, rfl, rfl, rfl⟩
      case round =>
        rename_i J1 K1 hJ1 hH1
        obtain ⟨k, hk, hgk, rfl, rfl⟩ := hrel
        have HG : Hid (gk = q.on.length - k ∧ k ≤ q.on.length) := ⟨hgk, hk⟩
        have hk3 : (k : Int) ≤ 1000000 := by omega
        clear hgk
        by_cases hkm : k < q.on.length
        case pos =>
          have HKm : Hid (k < q.on.length) := hkm
          have hk1 : (k : Int) < (q.on.length : Int) := by omega
          obtain ⟨g, f, rfl, hg, d0⟩ := rd_int H0.out.1.on hkm
          rw [HM.out.on k hkm] at d0
          unfold mO at d0
          clear hg hkm
          go_wp2_with fail
          go_roundg (q.on.length - (k + 1))
          case measure => have := HG.out; have := HKm.out; omega
          case rel => exact ⟨k + 1, HKm.out, rfl, by go_num, rfl⟩
        case neg =>
          have hk1 : ¬ (k : Int) < (q.on.length : Int) := by omega
          obtain rfl : k = q.on.length := by have := HG.out; omega
          clear hkm HG hk
          go_wp2_with fail
          clear hk1 hk3 hH1 hJ1
          go_loopg [7] (q.ts.length) (fun gq s wr => ∃ k : Nat, k ≤ q.ts.length ∧ gq = q.ts.length - k ∧ s = .int .i64 (k : Int) ∧ w0 = wr)
          case atStart => exact ⟨0, Nat.zero_le _, rfl, rfl, rfl⟩
          case round =>
            rename_i J2 K2 hJ2 hH2
            obtain ⟨k, hk, hgk, rfl, rfl⟩ := hrel
            have HG : Hid (gk = q.ts.length - k ∧ k ≤ q.ts.length) := ⟨hgk, hk⟩
            have hk3 : (k : Int) ≤ 1000000 := by omega
            clear hgk
            by_cases hkm : k < q.ts.length
            case pos =>
              have HKm : Hid (k < q.ts.length) := hkm
              have hk1 : (k : Int) < (q.ts.length : Int) := by omega
              obtain ⟨g, f, rfl, hg, d0⟩ := rd_int H0.out.1.ts hkm
              rw [HM.out.ts k hkm] at d0
              unfold mT at d0
              clear hg hkm
              go_wp2_with fail
              go_roundg (q.ts.length - (k + 1))
              case measure => have := HG.out; have := HKm.out; omega
              case rel => exact ⟨k + 1, HKm.out, rfl, by go_num, rfl⟩
            case neg =>
              have hk1 : ¬ (k : Int) < (q.ts.length : Int) := by omega
              obtain rfl : k = q.ts.length := by have := HG.out; omega
              clear hkm HG hk
              go_wp2_with fail
              clear hk1 hk3 hH2 hJ2
              go_loopg [8] (q.vs.length) (fun gq s wr => ∃ k : Nat, k ≤ q.vs.length ∧ gq = q.vs.length - k ∧ s = .int .i64 (k : Int) ∧ w0 = wr)
              case atStart => exact ⟨0, Nat.zero_le _, rfl, rfl, rfl⟩
              case round =>
                rename_i J3 K3 hJ3 hH3
                obtain ⟨k, hk, hgk, rfl, rfl⟩ := hrel
                have HG : Hid (gk = q.vs.length - k ∧ k ≤ q.vs.length) := ⟨hgk, hk⟩
                have hk3 : (k : Int) ≤ 1000000 := by omega
                clear hgk
                by_cases hkm : k < q.vs.length
                case pos =>
                  have HKm : Hid (k < q.vs.length) := hkm
                  have hk1 : (k : Int) < (q.vs.length : Int) := by omega
                  obtain ⟨g, f, rfl, hg, d0, d1, d2⟩ := rd_var H0.out.1.vs hkm
                  rw [HM.out.vs k hkm] at d0
                  dsimp only [mV] at d0
                  rw [HM.out.vs k hkm] at d1
                  dsimp only [mV] at d1
                  rw [HM.out.vs k hkm] at d2
                  dsimp only [mV] at d2
                  clear hg hkm
                  go_wp2_with fail
                  go_roundg (q.vs.length - (k + 1))
                  case measure => have := HG.out; have := HKm.out; omega
                  case rel => exact ⟨k + 1, HKm.out, rfl, by go_num, rfl⟩
                case neg =>
                  have hk1 : ¬ (k : Int) < (q.vs.length : Int) := by omega
                  obtain rfl : k = q.vs.length := by have := HG.out; omega
                  clear hkm HG hk
                  go_wp2_with fail
                  clear hk1 hk3 hH3 hJ3
                  go_ret
                  exact ⟨rfl, H0.out.2.1⟩
end Go.Proofs.YtcblichnkakhdaaDoor.Cd
