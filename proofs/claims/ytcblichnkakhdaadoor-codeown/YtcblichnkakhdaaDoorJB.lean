import Derived.Test.YtcblichnkakhdaaDoorJA
set_option linter.unusedSimpArgs false
namespace Go.Proofs.YtcblichnkakhdaaDoor.Cd
open Go.RowKit Go.Proofs.YtcblichnkakhdaaDoor.Nm Go.Proofs.YtcblichnkakhdaaDoor.Vf

/-- programs as cells, one behind the other -/
def fl6 (p : Pg) (ul : List PV) : List Value := ul.flatMap fun u => (pvC u p).toList
theorem fl6_len (p : Pg) (ul : List PV) : (fl6 p ul).length = ul.length * 6 := by
  unfold fl6
  induction ul with
  | nil => rfl
  | cons u ul ih =>
    rw [List.flatMap_cons, List.length_append, ih, List.length_cons]
    simp [pvC]
    omega
theorem fl6_at {p : Pg} {ul : List PV} {k : Nat} {u : PV} (h : ul[k]? = some u) (j : Nat) (hj : j < 6) : (fl6 p ul)[k * 6 + j]? = (pvC u p).toList[j]? := by
  induction ul generalizing k with
  | nil => cases h
  | cons y ul ih =>
    have e : fl6 p (y :: ul) = (pvC y p).toList ++ fl6 p ul := rfl
    have e6 : (pvC y p).toList.length = 6 := rfl
    rw [e]
    cases k with
    | zero =>
      cases h
      rw [Nat.zero_mul, Nat.zero_add, List.getElem?_append_left (by rw [e6]; exact hj)]
    | succ k =>
      rw [List.getElem?_append_right (by rw [e6]; omega), e6, show (k + 1) * 6 + j - 6 = k * 6 + j by omega]
      exact ih h
/-- a box of a program, as a list of one -/
def bxE (n b : Nat) (cs : Array Value) : Ent := ⟨n, 29, 6, .slice (some ⟨b, 0, none⟩) 1 1, 1, cs.toList⟩
theorem Ap.box {w : World} {pb j n b : Nat} {E : Nat → Option Ent} {v0 v1 v2 v3 v4 v5 : Value} (h : Ap w pb E) (hx : E j = some (bxE n b #[v0, v1, v2, v3, v4, v5])) : w.cell? ⟨b, 0, none⟩ = some v0 ∧ w.cell? ⟨b, 1, none⟩ = some v1 ∧ w.cell? ⟨b, 2, none⟩ = some v2 ∧ w.cell? ⟨b, 3, none⟩ = some v3 ∧ w.cell? ⟨b, 4, none⟩ = some v4 ∧ w.cell? ⟨b, 5, none⟩ = some v5 := by
  have ho := (h.ow j _ hx).2
  exact ⟨ho.cellAt 0 (by show 0 < 1 * 6; omega), ho.cellAt 1 (by show 1 < 1 * 6; omega), ho.cellAt 2 (by show 2 < 1 * 6; omega), ho.cellAt 3 (by show 3 < 1 * 6; omega), ho.cellAt 4 (by show 4 < 1 * 6; omega), ho.cellAt 5 (by show 5 < 1 * 6; omega)⟩
theorem Ap.newbox {w : World} {pb : Nat} {E : Nat → Option Ent} (h : Ap w pb E) (hp : pb < w.heap.size) (j : Nat) (v0 v1 v2 v3 v4 v5 : Value) : Ap (w.alloc (.cells #[v0, v1, v2, v3, v4, v5] 29)) pb (up E j (some (bxE w.heap.size w.heap.size #[v0, v1, v2, v3, v4, v5]))) :=
  h.add ((Below.refl _ w).alloc (Nat.le_refl _) _) hp (World.ownsRow_lit w #[v0, v1, v2, v3, v4, v5] 1 (Nat.le_refl _) (by unfold maxLen; omega) rfl) j
/-- the law at work -/
structure P1 (w3 w : World) (pb : Nat) (E : Nat → Option Ent) (p : Pg) (X : (Nat → Option Ent) → Prop) (ul : List PV) (cl bl : List Value) (ao lo go : Option Addr) (na ac nl lc ng gc : Nat) (pf : Nat → Pg) (bc : Nat → List Nat) : Prop where
  ap : Ap w pb E
  bel : Below w3.heap.size w3 w
  pe : pb + 1 = w3.heap.size
  fx : X E
  cx : ∀ E E' : Nat → Option Ent, (∀ j, (j < 15 ∨ (210 ≤ j ∧ j ≤ 212)) → E' j = E j) → X E → X E'
  prg : ∀ j u, ul[j]? = some u → Is5 E (3 + j) (pf j) u
  byt : ∀ j v, cl[j]? = some v → ∃ n, E (100 + j) = some ⟨n, 5, 1, v, (bc j).length, u8L (bc j)⟩
  all : ∃ n, E 200 = some ⟨n, 29, 6, .slice ao na ac, na, fl6 p (ul.take na)⟩
  lst : ∃ n, E 201 = some ⟨n, 22, 1, .slice lo nl lc, nl, bl.take nl⟩
  grw : ∃ n, E 202 = some ⟨n, 22, 1, .slice go ng gc, ng, cl.take ng⟩
  ln : ul.length ≤ 6 ∧ cl.length ≤ 6 ∧ na ≤ ul.length ∧ nl ≤ bl.length
section
variable {w3 w w' : World} {pb : Nat} {E E' : Nat → Option Ent} {p : Pg} {X : (Nat → Option Ent) → Prop} {ul : List PV} {cl bl : List Value} {ao lo go : Option Addr} {na ac nl lc ng gc : Nat} {pf : Nat → Pg} {bc : Nat → List Nat}
theorem P1.sz (h : P1 w3 w pb E p X ul cl bl ao lo go na ac nl lc ng gc pf bc) : pb < w.heap.size := by have := h.bel.size; have := h.pe; omega
theorem P1.below (h : P1 w3 w pb E p X ul cl bl ao lo go na ac nl lc ng gc pf bc) (hb : Below w.heap.size w w') : P1 w3 w' pb E p X ul cl bl ao lo go na ac nl lc ng gc pf bc :=
  { h with ap := h.ap.below hb, bel := h.bel.trans (hb.mono h.bel.size) }
/-- another row of lists, of which those that are told of are the same -/
theorem P1.same (h : P1 w3 w pb E p X ul cl bl ao lo go na ac nl lc ng gc pf bc) (hA : Ap w' pb E') (hb : Below w3.heap.size w3 w') (hE : ∀ j, j ≠ 220 → E' j = E j) : P1 w3 w' pb E' p X ul cl bl ao lo go na ac nl lc ng gc pf bc where
  ap := hA
  bel := hb
  pe := h.pe
  fx := h.cx _ _ (fun j hj => hE j (by omega)) h.fx
  cx := h.cx
  prg := fun j u hj => (h.prg j u hj).far fun q hq => hE q (by have := h.ln; have := (List.getElem?_eq_some_iff.1 hj).1; omega)
  byt := fun j v hj => by
    obtain ⟨n, hn⟩ := h.byt j v hj
    have := (List.getElem?_eq_some_iff.1 hj).1
    exact ⟨n, (hE _ (by have := h.ln; omega)).trans hn⟩
  all := by obtain ⟨n, hn⟩ := h.all; exact ⟨n, (hE _ (by omega)).trans hn⟩
  lst := by obtain ⟨n, hn⟩ := h.lst; exact ⟨n, (hE _ (by omega)).trans hn⟩
  grw := by obtain ⟨n, hn⟩ := h.grw; exact ⟨n, (hE _ (by omega)).trans hn⟩
  ln := h.ln
/-- a program more -/
theorem P1.prog {u : PV} (h : P1 w3 w pb E p X ul cl bl ao lo go na ac nl lc ng gc pf bc) (hl : ul.length < 6) (hp : pf ul.length = p) (hb : Below w.heap.size w w') (ho : Own5 w' w.heap.size p (.slice u.qo p.gh.length u.qc) (.slice u.vo p.vs.length u.vc) (.slice u.to p.ts.length u.tc) (.slice u.oo p.on.length u.oc) (.slice u.co p.cd.length u.cc)) :
    ∃ E', P1 w3 w' pb E' p X (ul ++ [u]) cl bl ao lo go na ac nl lc ng gc pf bc ∧ ∀ j, j = 220 → E' j = E j := by
  obtain ⟨E', h1, h2, h3⟩ := h.ap.five (i := 3 + ul.length) hb (Nat.le_of_lt h.sz) ho
  refine ⟨E', { h with ap := h1, bel := h.bel.trans (hb.mono h.bel.size), fx := h.cx _ _ (fun j hj => h3 j (by omega)) h.fx, prg := fun j v hj => ?_, byt := fun j v hj => ?_, all := ?_, lst := ?_, grw := ?_, ln := ?_ }, fun j hj => h3 j (by omega)⟩
  · by_cases hk : j < ul.length
    · rw [List.getElem?_append_left hk] at hj
      exact (h.prg j v hj).far fun q hq => h3 q (by omega)
    · have hk2 : j = ul.length := by
        have := (List.getElem?_eq_some_iff.1 hj).1
        rw [List.length_append, List.length_singleton] at this
        omega
      subst hk2
      rw [List.getElem?_append_right (Nat.le_refl _), Nat.sub_self] at hj
      cases hj
      rw [hp]
      exact h2
  · obtain ⟨n, hn⟩ := h.byt j v hj
    have := (List.getElem?_eq_some_iff.1 hj).1
    exact ⟨n, (h3 _ (by have := h.ln; omega)).trans hn⟩
  · obtain ⟨n, hn⟩ := h.all
    refine ⟨n, (h3 _ (by omega)).trans ?_⟩
    rw [List.take_append_of_le_length h.ln.2.2.1]
    exact hn
  · obtain ⟨n, hn⟩ := h.lst; exact ⟨n, (h3 _ (by omega)).trans hn⟩
  · obtain ⟨n, hn⟩ := h.grw; exact ⟨n, (h3 _ (by omega)).trans hn⟩
  · have := h.ln
    rw [List.length_append, List.length_singleton]
    omega
/-- bytes more -/
theorem P1.bytes {v : Value} {s : List Nat} (h : P1 w3 w pb E p X ul cl cl ao lo none na ac nl lc 0 0 pf bc) (hl : cl.length < 6) (hs : bc cl.length = s) (hb : Below w.heap.size w w') (ho : w'.ownsRow w.heap.size 5 1 v s.length (u8L s)) :
    ∃ E', P1 w3 w' pb E' p X ul (cl ++ [v]) (cl ++ [v]) ao lo none na ac nl lc 0 0 pf bc := by
  have hA := h.ap.add hb h.sz ho (100 + cl.length)
  have hE : ∀ j, j ≠ 100 + cl.length → up E (100 + cl.length) (some ⟨w.heap.size, 5, 1, v, s.length, u8L s⟩) j = E j := fun j hj => up_ne hj
  refine ⟨_, { h with ap := hA, bel := h.bel.trans (hb.mono h.bel.size), fx := h.cx _ _ (fun j hj => hE j (by omega)) h.fx, prg := fun j v hj => ?_, byt := fun j v hj => ?_, all := ?_, lst := ?_, grw := ?_, ln := ?_ }⟩
  · exact (h.prg j v hj).far fun q hq => hE q (by have := h.ln; have := (List.getElem?_eq_some_iff.1 hj).1; omega)
  · by_cases hk : j < cl.length
    · rw [List.getElem?_append_left hk] at hj
      obtain ⟨n, hn⟩ := h.byt j v hj
      exact ⟨n, (hE _ (by omega)).trans hn⟩
    · have hk2 : j = cl.length := by
        have := (List.getElem?_eq_some_iff.1 hj).1
        rw [List.length_append, List.length_singleton] at this
        omega
      subst hk2
      rw [List.getElem?_append_right (Nat.le_refl _), Nat.sub_self] at hj
      cases hj
      rw [hs]
      exact ⟨_, up_same _ _ _⟩
  · obtain ⟨n, hn⟩ := h.all; exact ⟨n, (hE _ (by omega)).trans hn⟩
  · obtain ⟨n, hn⟩ := h.lst
    refine ⟨n, (hE _ (by omega)).trans ?_⟩
    rw [List.take_append_of_le_length h.ln.2.2.2]
    exact hn
  · obtain ⟨n, hn⟩ := h.grw; exact ⟨n, (hE _ (by omega)).trans hn⟩
  · have := h.ln
    rw [List.length_append, List.length_singleton]
    omega
/-- a list is turned at one of the three numbers of lists of lists -/
theorem P1.rows (h : P1 w3 w pb E p X ul cl bl ao lo go na ac nl lc ng gc pf bc) {ao' lo' go' : Option Addr} {na' ac' nl' lc' ng' gc' : Nat} {j : Nat} {y : Ent} (hj : j = 200 ∨ j = 201 ∨ j = 202) (hA : Ap w' pb (up E j (some y))) (hb : Below w3.heap.size w3 w')
    (h0 : ∃ n, up E j (some y) 200 = some ⟨n, 29, 6, .slice ao' na' ac', na', fl6 p (ul.take na')⟩) (h1 : ∃ n, up E j (some y) 201 = some ⟨n, 22, 1, .slice lo' nl' lc', nl', bl.take nl'⟩) (h2 : ∃ n, up E j (some y) 202 = some ⟨n, 22, 1, .slice go' ng' gc', ng', cl.take ng'⟩) (hl : na' ≤ ul.length ∧ nl' ≤ bl.length) :
    P1 w3 w' pb (up E j (some y)) p X ul cl bl ao' lo' go' na' ac' nl' lc' ng' gc' pf bc where
  ap := hA
  bel := hb
  pe := h.pe
  fx := h.cx _ _ (fun q hq => up_ne (by omega)) h.fx
  cx := h.cx
  prg := fun q u hq => (h.prg q u hq).far fun r hr => up_ne (by have := h.ln; have := (List.getElem?_eq_some_iff.1 hq).1; omega)
  byt := fun q v hq => by
    obtain ⟨n, hn⟩ := h.byt q v hq
    have := (List.getElem?_eq_some_iff.1 hq).1
    exact ⟨n, (up_ne (by have := h.ln; omega)).trans hn⟩
  all := h0
  lst := h1
  grw := h2
  ln := ⟨h.ln.1, h.ln.2.1, hl.1, hl.2⟩
/-- a program is spoilt -/
theorem P1.spoil {k : Nat} {q' : Pg} {u : PV} (h : P1 w3 w pb E p X ul cl bl ao lo go na ac nl lc ng gc pf bc) (hk : ul[k]? = some u) (hA : Ap w' pb E') (hI : Is5 E' (3 + k) q' u) (hE : ∀ j, j / 5 ≠ 3 + k → E' j = E j) (hb : Below (pb + 1) w w') : P1 w3 w' pb E' p X ul cl bl ao lo go na ac nl lc ng gc (up pf k q') bc where
  ap := hA
  bel := h.bel.trans (by rw [← h.pe]; exact hb)
  pe := h.pe
  fx := h.cx _ _ (fun j hj => hE j (by have := h.ln; have := (List.getElem?_eq_some_iff.1 hk).1; omega)) h.fx
  cx := h.cx
  prg := fun j v hj => by
    by_cases e : j = k
    · subst e
      rw [up_same]
      rw [hk] at hj
      cases hj
      exact hI
    · rw [up_ne e]
      exact (h.prg j v hj).far fun q hq => hE q (by omega)
  byt := fun j v hj => by
    obtain ⟨n, hn⟩ := h.byt j v hj
    exact ⟨n, (hE _ (by have := h.ln; have := (List.getElem?_eq_some_iff.1 hk).1; omega)).trans hn⟩
  all := by obtain ⟨n, hn⟩ := h.all; exact ⟨n, (hE _ (by have := h.ln; have := (List.getElem?_eq_some_iff.1 hk).1; omega)).trans hn⟩
  lst := by obtain ⟨n, hn⟩ := h.lst; exact ⟨n, (hE _ (by have := h.ln; have := (List.getElem?_eq_some_iff.1 hk).1; omega)).trans hn⟩
  grw := by obtain ⟨n, hn⟩ := h.grw; exact ⟨n, (hE _ (by have := h.ln; have := (List.getElem?_eq_some_iff.1 hk).1; omega)).trans hn⟩
  ln := h.ln
/-- a list of bytes is turned -/
theorem P1.byte {k n : Nat} {v' : Value} {B : List Nat} (h : P1 w3 w pb E p X ul cl bl ao lo go na ac nl lc 0 gc pf bc) (hk : k < cl.length) (hA : Ap w' pb (up E (100 + k) (some ⟨n, 5, 1, v', B.length, u8L B⟩))) (hb : Below w3.heap.size w3 w') : P1 w3 w' pb (up E (100 + k) (some ⟨n, 5, 1, v', B.length, u8L B⟩)) p X ul (cl.set k v') bl ao lo go na ac nl lc 0 gc pf (up bc k B) where
  ap := hA
  bel := hb
  pe := h.pe
  fx := h.cx _ _ (fun q hq => up_ne (by have := h.ln; omega)) h.fx
  cx := h.cx
  prg := fun q u hq => (h.prg q u hq).far fun r hr => up_ne (by have := h.ln; have := (List.getElem?_eq_some_iff.1 hq).1; omega)
  byt := fun q v hq => by
    by_cases e : q = k
    · subst e
      rw [List.getElem?_set_self hk] at hq
      cases hq
      exact ⟨n, by rw [up_same, up_same]⟩
    · rw [List.getElem?_set_ne (Ne.symm e)] at hq
      rw [up_ne e]
      obtain ⟨m, hm⟩ := h.byt q v hq
      exact ⟨m, (up_ne (by omega)).trans hm⟩
  all := by obtain ⟨m, hm⟩ := h.all; exact ⟨m, (up_ne (by have := h.ln; omega)).trans hm⟩
  lst := by obtain ⟨m, hm⟩ := h.lst; exact ⟨m, (up_ne (by have := h.ln; omega)).trans hm⟩
  grw := by
    obtain ⟨m, hm⟩ := h.grw
    exact ⟨m, (up_ne (by have := h.ln; omega)).trans (by rw [hm]; rfl)⟩
  ln := ⟨h.ln.1, by rw [List.length_set]; exact h.ln.2.1, h.ln.2.2⟩
end
end Go.Proofs.YtcblichnkakhdaaDoor.Cd

set_option linter.unusedSimpArgs false
namespace Go.Proofs.YtcblichnkakhdaaDoor.Cd
open Go.RowKit Go.Proofs.YtcblichnkakhdaaDoor.Nm Go.Proofs.YtcblichnkakhdaaDoor.Vf

theorem pvC_spl (u : PV) (m : Nat) (p : Pg) : pvC u (spl m p) = pvC u p := by
  unfold pvC spl
  simp only [pr_len]
theorem u8_set (l : List Nat) (k x : Nat) : (u8L l).set k (.int .u8 (x : Int)) = u8L (l.set k x) := by
  unfold u8L
  rw [List.map_set]
section
variable {w3 w w' : World} {pb : Nat} {E E' : Nat → Option Ent} {p : Pg} {X : (Nat → Option Ent) → Prop} {ul : List PV} {cl bl : List Value} {ao lo go : Option Addr} {na ac nl lc ng gc : Nat} {pf : Nat → Pg} {bc : Nat → List Nat}
/-- a list of lists that has elements lies in a block -/
theorem own_at {base n c : Nat} {T : TypeId} {sz : Nat} {o : Option Addr} {xs : List Value} (h : w.ownsRow base T sz (.slice o n c) n xs) (hn : 0 < n) : ∃ g, o = some ⟨g, 0, none⟩ := by
  obtain ⟨g, cap, cur, e, -⟩ := own_block h hn
  injection e with e1 _ _
  exact ⟨g, e1⟩
/-- the cells of a program among all -/
theorem P1.cellsA {g k : Nat} {u : PV} (h : P1 w3 w pb E p X ul cl bl (some ⟨g, 0, none⟩) lo go na ac nl lc ng gc pf bc) (hk : ul[k]? = some u) (hn : k < na) (j : Nat) (hj : j < 6) : w.cell? ⟨g, k * 6 + j, none⟩ = (pvC u p).toList[j]? := by
  obtain ⟨n, hx⟩ := h.all
  rw [(h.ap.ow _ _ hx).2.cellAt (k * 6 + j) (by show k * 6 + j < na * 6; omega)]
  exact fl6_at (by rw [List.getElem?_take, if_pos hn]; exact hk) j hj
theorem P1.cellL {g k : Nat} (h : P1 w3 w pb E p X ul cl bl ao (some ⟨g, 0, none⟩) go na ac nl lc ng gc pf bc) (hn : k < nl) : w.cell? ⟨g, k, none⟩ = bl[k]? := by
  obtain ⟨n, hx⟩ := h.lst
  rw [(h.ap.ow _ _ hx).2.cellAt k (by show k < nl * 1; omega)]
  show (bl.take nl)[k]? = _
  rw [List.getElem?_take, if_pos hn]
theorem P1.cellG {g k : Nat} (h : P1 w3 w pb E p X ul cl bl ao lo (some ⟨g, 0, none⟩) na ac nl lc ng gc pf bc) (hn : k < ng) : w.cell? ⟨g, k, none⟩ = cl[k]? ∧ w.frozen? ⟨g, k, none⟩ = false := by
  obtain ⟨n, hx⟩ := h.grw
  refine ⟨?_, (h.ap.ow _ _ hx).2.frozenAt k⟩
  rw [(h.ap.ow _ _ hx).2.cellAt k (by show k < ng * 1; omega)]
  show (cl.take ng)[k]? = _
  rw [List.getElem?_take, if_pos hn]
theorem P1.bcc {bc' : Nat → List Nat} (h : P1 w3 w pb E p X ul cl bl ao lo go na ac nl lc ng gc pf bc) (hbc : ∀ j, j < 6 → bc' j = bc j) : P1 w3 w pb E p X ul cl bl ao lo go na ac nl lc ng gc pf bc' :=
  ⟨h.ap, h.bel, h.pe, h.fx, h.cx, h.prg, fun j v hj => by
    obtain ⟨n, hn⟩ := h.byt j v hj
    have := (List.getElem?_eq_some_iff.1 hj).1
    exact ⟨n, by rw [hbc j (by have := h.ln; omega)]; exact hn⟩, h.all, h.lst, h.grw, h.ln⟩
/-- a byte is written over -/
theorem P1.byteW {g c k q x : Nat} (h : P1 w3 w pb E p X ul cl bl ao lo go na ac nl lc 0 gc pf bc) (hk : cl[k]? = some (.slice (some ⟨g, 0, none⟩) (bc k).length c)) : ∃ E', P1 w3 (w.setCell ⟨g, q, none⟩ (.int .u8 (x : Int))) pb E' p X ul cl bl ao lo go na ac nl lc 0 gc pf (up bc k ((bc k).set q x)) := by
  obtain ⟨n, hn⟩ := h.byt k _ hk
  have hlt := (List.getElem?_eq_some_iff.1 hk).1
  have h1 := h.ap.setC hn q (.int .u8 (x : Int))
  rw [u8_set] at h1
  have hg := h.ap.blk hn rfl
  have hbl : Below w3.heap.size w3 (w.setCell ⟨g, q, none⟩ (.int .u8 (x : Int))) := h.bel.setCell (p := ⟨g, q, none⟩) (by show w3.heap.size ≤ g; have := h.pe; omega) _
  have h2 := h.byte (B := (bc k).set q x) hlt (n := n) (v' := .slice (some ⟨g, 0, none⟩) (bc k).length c) (by rw [List.length_set]; exact h1) hbl
  have e : cl.set k (.slice (some ⟨g, 0, none⟩) (bc k).length c) = cl := by
    apply List.ext_getElem?
    intro i
    by_cases e : k = i
    · subst e
      rw [List.getElem?_set_self hlt, hk]
    · rw [List.getElem?_set_ne e]
  rw [e] at h2
  exact ⟨_, h2⟩
/-- the bytes of a list -/
theorem P1.bytR {g c k m : Nat} (h : P1 w3 w pb E p X ul cl bl ao lo go na ac nl lc ng gc pf bc) (hk : cl[k]? = some (.slice (some ⟨g, 0, none⟩) m c)) (hm : m = (bc k).length) : (∀ q, q < m → w.cell? ⟨g, q, none⟩ = (u8L (bc k))[q]?) ∧ ∀ q, w.frozen? ⟨g, q, none⟩ = false := by
  subst hm
  obtain ⟨n, hn⟩ := h.byt k _ hk
  exact ⟨fun q hq => (h.ap.ow _ _ hn).2.cellAt q (by show q < (bc k).length * 1; omega), fun q => (h.ap.ow _ _ hn).2.frozenAt q⟩
theorem P1.bytF {k : Nat} {v : Value} (h : P1 w3 w pb E p X ul cl bl ao lo go na ac nl lc ng gc pf bc) (hk : cl[k]? = some v) : ∃ o c, v = .slice o (bc k).length c := by
  obtain ⟨n, hn⟩ := h.byt k _ hk
  exact own_form (h.ap.ow _ _ hn).2
theorem P1.bytS {k m : Nat} {o : Option Addr} {c : Nat} (h : P1 w3 w pb E p X ul cl bl ao lo go na ac nl lc ng gc pf bc) (hk : cl[k]? = some (.slice o m c)) (hm : m = (bc k).length) (h0 : 0 < m) : ∃ g, o = some ⟨g, 0, none⟩ := by
  subst hm
  obtain ⟨n, hn⟩ := h.byt k _ hk
  exact own_at (h.ap.ow _ _ hn).2 h0
/-- all lists are put to a new list of lists -/
theorem P1.appG (h : P1 w3 w pb E p X ul cl bl ao lo none na ac nl lc 0 0 pf bc) :
    ∃ b, b ≤ w.heap.size ∧ w.ownsRow b 22 1 (.slice none 0 0) 0 [] ∧ ∀ w' v', w'.ownsRow b 22 1 v' cl.length cl → w.grownBy w' (Value.slice none 0 0).ownBlock → (v'.ownBlock = (Value.slice none 0 0).ownBlock ∨ v'.ownBlock = some w.heap.size) →
      ∃ E' go' gc', v' = .slice go' cl.length gc' ∧ P1 w3 w' pb E' p X ul cl bl ao lo go' na ac nl lc cl.length gc' pf bc := by
  obtain ⟨n, hn⟩ := h.grw
  obtain ⟨b, hb, hA⟩ := h.ap.base hn h.sz
  refine ⟨b, hb, World.ownsRow_nil _ _ _ _, fun w' v' ho hg hv => ?_⟩
  obtain ⟨go', gc', rfl⟩ := own_form ho
  have hA2 := hA.app (up_same _ _ _) hg ho hv
  rw [up_up] at hA2
  have hbl : Below w3.heap.size w3 w' := h.bel.trans ⟨hg.os, hg.tape, hg.output, hg.size, fun q hq => hg.block q (by have := h.bel.size; omega) (fun e => by cases e)⟩
  refine ⟨_, go', gc', rfl, h.rows (Or.inr (Or.inr rfl)) hA2 hbl ?_ ?_ ⟨_, by rw [up_same, List.take_of_length_le (Nat.le_refl _)]⟩ ⟨h.ln.2.2.1, h.ln.2.2.2⟩⟩
  · obtain ⟨m, hm⟩ := h.all; exact ⟨m, (up_ne (by omega)).trans hm⟩
  · obtain ⟨m, hm⟩ := h.lst; exact ⟨m, (up_ne (by omega)).trans hm⟩
/-- a list grows, and its new slice is written to the list of lists -/
theorem P1.grow {gg k : Nat} {v : Value} (h : P1 w3 w pb E p X ul cl bl ao lo (some ⟨gg, 0, none⟩) na ac nl lc ng gc pf bc) (hk : cl[k]? = some v) (hkn : k < ng) :
    ∃ b, b ≤ w.heap.size ∧ w.ownsRow b 5 1 v (bc k).length (u8L (bc k)) ∧ ∀ w' v' x, w'.ownsRow b 5 1 v' ((bc k).length + 1) (u8L (bc k) ++ [.int .u8 ((x : Nat) : Int)]) → w.grownBy w' v.ownBlock → (v'.ownBlock = v.ownBlock ∨ v'.ownBlock = some w.heap.size) →
      w'.cell? ⟨gg, k, none⟩ = some v ∧ w'.frozen? ⟨gg, k, none⟩ = false ∧ ∃ E', P1 w3 (w'.setCell ⟨gg, k, none⟩ v') pb E' p X ul (cl.set k v') bl ao lo (some ⟨gg, 0, none⟩) na ac nl lc ng gc pf (up bc k (bc k ++ [x])) := by
  have hlt := (List.getElem?_eq_some_iff.1 hk).1
  obtain ⟨n, hn⟩ := h.byt k _ hk
  obtain ⟨b, hb, hA⟩ := h.ap.base hn h.sz
  refine ⟨b, hb, (hA.ow _ _ (up_same _ _ _)).2, fun w' v' x ho hg hv => ?_⟩
  have hA2 := hA.app (up_same _ _ _) hg ho hv
  rw [up_up] at hA2
  obtain ⟨m, hm⟩ := h.grw
  have h202 : up E (100 + k) (some ⟨b, 5, 1, v', (bc k).length + 1, u8L (bc k) ++ [.int .u8 (x : Int)]⟩) 202 = some ⟨m, 22, 1, .slice (some ⟨gg, 0, none⟩) ng gc, ng, cl.take ng⟩ := (up_ne (by have := h.ln; omega)).trans hm
  have hr := (hA2.ow _ _ h202).2
  have hlow : ∀ q, v.ownBlock = some q → pb < q := fun q hq => by
    have h1 := World.ownsRow.lt (h.ap.ow _ _ hn).2 q hq
    have h2 := (h.ap.ow _ _ hn).1
    exact Nat.lt_of_lt_of_le h2 h1.1
  have hbl : Below w3.heap.size w3 w' := h.bel.trans ⟨hg.os, hg.tape, hg.output, hg.size, fun q hq => hg.block q (by have := h.bel.size; omega) (fun e => by have := hlow q e.symm; have := h.pe; omega)⟩
  refine ⟨?_, hr.frozenAt k, ?_⟩
  · rw [hr.cellAt k (by show k < ng * 1; omega), List.getElem?_take, if_pos hkn]
    exact hk
  · have hA3 := hA2.setC h202 k v'
    have hgg := hA2.blk h202 rfl
    have hE : ∀ j, j ≠ 202 → j ≠ 100 + k → up (up E (100 + k) (some ⟨b, 5, 1, v', (bc k).length + 1, u8L (bc k) ++ [.int .u8 (x : Int)]⟩)) 202 (some ⟨m, 22, 1, .slice (some ⟨gg, 0, none⟩) ng gc, ng, (cl.take ng).set k v'⟩) j = E j := fun j h1 h2 => (up_ne h1).trans (up_ne h2)
    refine ⟨_, hA3, hbl.setCell (p := ⟨gg, k, none⟩) (by show w3.heap.size ≤ gg; have := h.pe; omega) _, h.pe, h.cx _ _ (fun j hj => hE j (by omega) (by have := h.ln; omega)) h.fx, h.cx, fun j u hj => (h.prg j u hj).far fun q hq => hE q (by have := h.ln; have := (List.getElem?_eq_some_iff.1 hj).1; omega) (by have := h.ln; have := (List.getElem?_eq_some_iff.1 hj).1; omega), fun j u hj => ?_, ?_, ?_, ?_, ⟨h.ln.1, by rw [List.length_set]; exact h.ln.2.1, h.ln.2.2⟩⟩
    · by_cases e : j = k
      · subst e
        rw [List.getElem?_set_self hlt] at hj
        cases hj
        refine ⟨b, ?_⟩
        rw [up_same, up_ne (by have := h.ln; omega), up_same]
        simp [u8L]
      · rw [List.getElem?_set_ne (Ne.symm e)] at hj
        rw [up_ne e]
        obtain ⟨q, hq⟩ := h.byt j u hj
        have := (List.getElem?_eq_some_iff.1 hj).1
        exact ⟨q, (hE _ (by have := h.ln; omega) (by omega)).trans hq⟩
    · obtain ⟨q, hq⟩ := h.all; exact ⟨q, (hE _ (by omega) (by have := h.ln; omega)).trans hq⟩
    · obtain ⟨q, hq⟩ := h.lst; exact ⟨q, (hE _ (by omega) (by have := h.ln; omega)).trans hq⟩
    · exact ⟨m, by rw [up_same, List.take_set]⟩
end
end Go.Proofs.YtcblichnkakhdaaDoor.Cd
