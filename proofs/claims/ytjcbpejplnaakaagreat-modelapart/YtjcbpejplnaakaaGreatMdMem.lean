import Derived.Test.YtjcbpejplnaakaaGreatNmOwn
import Derived.Test.YtjcbpejplnaakaaGreatMdPure
import Derived.Maps.OwnSet
namespace Go.Proofs.YtjcbpejplnaakaaGreat.Md
open Go.RowKit Go.Maps Go.Proofs.YtjcbpejplnaakaaGreat.Nm

abbrev I (n : Int) : Value := .int .i64 n
abbrev U (k : Nat) : Value := .int .u64 (k : Int)
/-- an element, as it is -/
def R0 (v : Value) : Option (DataW Value × List MemPlace) := some (.held v, [])
abbrev Lk (k : Nat) : Lit := .int .u64 (k : Int)
theorem lawB : Keyed Tryz.prog 33 := int_keyed Tryz.underlying33
theorem keyB {k : Nat} (h : k < 18446744073709551616) : keyOf Tryz.prog 33 (U k) = some (Lk k) := keyOf_int_mk Tryz.underlying33 (by simp [Lit.wf, IntKind.min, IntKind.max, IntKind.bits, IntKind.signed]; omega)
theorem zeroB (w : World) : (zeroValue 3).run Tryz.prog w = .ok (I 0) w := by kernel_rfl
theorem Lk_ne {k k' : Nat} (h : k' ≠ k) : Lk k' ≠ Lk k := fun e => h (by injection e with _ e; omega)
/-- a map in memory -/
def IsBk (w : World) (b : Nat) (m : Nat → Option Int) (n : Nat) : Prop := ∃ D : DataW Value, w.ownsMap Tryz.prog 33 R0 b n D ∧ Tidy D ∧ Maps.size D = n ∧ ∀ k, k < 18446744073709551616 → Maps.has D (Lk k) = (m k).isSome ∧ ∀ v, m k = some v → D.atKey (Lk k) (.held (I 0)) = .held (I v)
def upd (m : Nat → Option Int) (k : Nat) (x : Option Int) : Nat → Option Int := fun j => if j = k then x else m j
theorem upd_same (m : Nat → Option Int) (k : Nat) (x : Option Int) : upd m k x k = x := by simp [upd]
theorem upd_ne {m : Nat → Option Int} {k j : Nat} {x : Option Int} (h : j ≠ k) : upd m k x j = m j := by simp [upd, h]
section
variable {w w' : World} {b n k : Nat} {m : Nat → Option Int}
theorem IsBk.blk (h : IsBk w b m n) : ∃ es c, w.heap[b]? = some (.map es c) := by
  obtain ⟨D, ⟨es, c, hb, _⟩, _⟩ := h
  exact ⟨es, c, hb⟩
theorem IsBk.lt (h : IsBk w b m n) : b < w.heap.size := by
  obtain ⟨es, c, hb⟩ := h.blk
  exact (Array.getElem?_eq_some_iff.1 hb).1
theorem IsBk.ne_cells (h : IsBk w b m n) {g : Nat} {cs : Array Value} {T : TypeId} {f : Nat × Nat} (hg : w.heap[g]? = some (.cells cs T f)) : g ≠ b := by
  rintro rfl
  obtain ⟨es, c, hb⟩ := h.blk
  rw [hb] at hg
  cases hg
theorem IsBk.same (h : IsBk w b m n) (hb : w'.heap[b]? = w.heap[b]?) : IsBk w' b m n := by
  obtain ⟨D, ⟨es, c, h1, h2⟩, h3⟩ := h
  exact ⟨D, ⟨es, c, hb.trans h1, h2⟩, h3⟩
theorem IsBk.made (w : World) : IsBk (w.alloc (.map #[] 0)) w.heap.size (fun _ => none) 0 :=
  ⟨.map [], World.ownsMap_made w _ _ _, tidy_empty, rfl, fun k _ => ⟨rfl, fun v hv => by cases hv⟩⟩
theorem IsBk.at_ (D : DataW Value) (hD : Maps.has D (Lk k) = (m k).isSome ∧ ∀ v, m k = some v → D.atKey (Lk k) (.held (I 0)) = .held (I v)) : D.atKey (Lk k) (.held (I 0)) = .held (I ((m k).getD 0)) := by
  cases hm : m k with
  | none =>
    rw [atKey_of_not_has (by rw [hD.1, hm]; rfl)]
    rfl
  | some v => exact hD.2 v hm
theorem IsBk.look (h : IsBk w b m n) (hk : k < 18446744073709551616) : (Instr.lookup 57 (.map (some b)) (U k) false).run Tryz.prog w = .ok (I ((m k).getD 0)) w := by
  obtain ⟨D, h1, _, _, h2⟩ := h
  obtain ⟨v, ps, e1, e2⟩ := h1.lookup lawB Tryz.underlying57 (zeroB w) (zd := .held (I 0)) (zp := []) rfl (keyB hk)
  rw [IsBk.at_ D (h2 k hk)] at e2
  cases e2
  exact e1
theorem IsBk.lookOk (h : IsBk w b m n) (hk : k < 18446744073709551616) : (Instr.lookup 57 (.map (some b)) (U k) true).run Tryz.prog w = .ok (.tuple #[I ((m k).getD 0), .bool (m k).isSome]) w := by
  obtain ⟨D, h1, _, _, h2⟩ := h
  obtain ⟨v, ps, e1, e2⟩ := h1.look_ok lawB Tryz.underlying57 (zeroB w) (zd := .held (I 0)) (zp := []) rfl (keyB hk)
  rw [IsBk.at_ D (h2 k hk)] at e2
  rw [(h2 k hk).1] at e1
  cases e2
  exact e1
theorem IsBk.len (h : IsBk w b m n) (ty : TypeId) : (Builtin.len_ #[57] ty #[.map (some b)]).run Tryz.prog w = .ok (I n) w := by
  obtain ⟨D, h1, _, hs, h2⟩ := h
  rw [h1.len Tryz.underlying57 ty, hs]
theorem IsBk.put (h : IsBk w b m n) (hk : k < 18446744073709551616) (hn : n < maxLen) (v : Int) : ∃ w', (Instr.mapUpdate 57 (.map (some b)) (U k) (I v)).run Tryz.prog w = .ok () w' ∧ IsBk w' b (upd m k (some v)) (if (m k).isSome then n else n + 1) ∧ w.grownBy w' (some b) := by
  obtain ⟨D, h1, ht, hs, h2⟩ := h
  obtain ⟨w', e1, e2, e3⟩ := h1.update lawB Tryz.underlying57 hn (keyB hk) (val := I v) (d := .held (I v)) (ps := []) rfl
  have hkl : WideAt.IsKeyLit (Lk k) := by trivial
  have hsz : Maps.size (D.put (Lk k) (.held (I v))) = if (m k).isSome then n else n + 1 := by rw [size_put ht, (h2 k hk).1, hs]
  refine ⟨w', e1, ⟨_, ?_, ht.put hkl _, hsz, fun j hj => ?_⟩, e3⟩
  · obtain ⟨es, c, q1, q2, q3, q4⟩ := e2
    refine ⟨es, c, q1, q2, ?_, q4⟩
    rw [← hsz, q4]
    simp [Maps.size, length_sorted]
  · by_cases e : j = k
    · subst e
      rw [upd_same]
      exact ⟨has_put_same ht.isMap hkl _, fun x hx => by cases hx; exact atKey_put_same ht.isMap hkl _ _⟩
    · rw [upd_ne e]
      exact ⟨(has_put_other (Lk_ne e) _).trans (h2 j hj).1, fun x hx => (atKey_put_other (Lk_ne e) _ _).trans ((h2 j hj).2 x hx)⟩
theorem IsBk.drop (h : IsBk w b m n) (hk : k < 18446744073709551616) (ty : TypeId) : ∃ w', (Builtin.delete_ #[57, 33] ty #[.map (some b), U k]).run Tryz.prog w = .ok (.tuple #[]) w' ∧ IsBk w' b (upd m k none) (if (m k).isSome then n - 1 else n) ∧ w.grownBy w' (some b) := by
  obtain ⟨D, h1, ht, hs, h2⟩ := h
  obtain ⟨w', e1, e2, e3⟩ := h1.drop lawB Tryz.underlying57 (keyB hk) ty
  have hsz : Maps.size (D.del (Lk k)) = if (m k).isSome then n - 1 else n := by
    have := size_del (k := Lk k) ht
    rw [(h2 k hk).1, hs] at this
    cases hm : (m k).isSome with
    | true => rw [hm] at this; simp at this ⊢; omega
    | false => rw [hm] at this; simpa using this
  refine ⟨w', e1, ⟨_, ?_, ht.del _, hsz, fun j hj => ?_⟩, e3.grown⟩
  · obtain ⟨es, c, q1, q2, q3, q4⟩ := e2
    refine ⟨es, c, q1, q2, ?_, q4⟩
    rw [← hsz, q4]
    simp [Maps.size, length_sorted]
  · by_cases e : j = k
    · subst e
      rw [upd_same]
      exact ⟨has_del_same, fun x hx => by cases hx⟩
    · rw [upd_ne e]
      exact ⟨(has_del_other (Lk_ne e)).trans (h2 j hj).1, fun x hx => (atKey_del_other (Lk_ne e) _).trans ((h2 j hj).2 x hx)⟩
end
/-- of the blocks that were, only those of F have turned -/
structure Fr (F : List Nat) (w w' : World) : Prop where
  os : w'.os = w.os
  tape : w'.tape = w.tape
  output : w'.output = w.output
  size : w.heap.size ≤ w'.heap.size
  block : ∀ k, k < w.heap.size → k ∉ F → w'.heap[k]? = w.heap[k]?
theorem Fr.refl (F : List Nat) (w : World) : Fr F w w := ⟨rfl, rfl, rfl, Nat.le_refl _, fun _ _ _ => rfl⟩
theorem Fr.trans {F F' : List Nat} {a b c : World} (h : Fr F a b) (k : Fr F' b c) (hF : ∀ x ∈ F', x ∈ F ∨ a.heap.size ≤ x) : Fr F a c :=
  ⟨k.os.trans h.os, k.tape.trans h.tape, k.output.trans h.output, Nat.le_trans h.size k.size, fun i hi hn => (k.block i (Nat.lt_of_lt_of_le hi h.size) (fun hm => (hF i hm).elim hn (fun h => by omega))).trans (h.block i hi hn)⟩
theorem Fr.of_below {F : List Nat} {w w' : World} (h : Below w.heap.size w w') : Fr F w w' := ⟨h.os, h.tape, h.output, h.size, fun k hk _ => h.block k hk⟩
theorem Fr.set {F : List Nat} (w : World) {g : Nat} (i : Nat) (v : Value) (hg : g ∈ F) : Fr F w (w.setCell ⟨g, i, none⟩ v) :=
  ⟨rfl, rfl, rfl, by simp [World.setCell], fun k _ hk => Below.heap_setCell w _ v k (by rintro rfl; exact hk hg)⟩
theorem Fr.mono {F F' : List Nat} {w w' : World} (h : Fr F w w') (hs : ∀ x ∈ F, x ∈ F') : Fr F' w w' := ⟨h.os, h.tape, h.output, h.size, fun k hk hn => h.block k hk (fun hm => hn (hs k hm))⟩


theorem set_blk {w : World} {b i : Nat} {cs : Array Value} {T : TypeId} {f : Nat × Nat} {v : Value} (h : w.heap[b]? = some (.cells cs T f)) : (w.setCell ⟨b, i, none⟩ v).heap[b]? = some (.cells (cs.setIfInBounds i v) T f) := by
  simp [World.setCell, Array.getElem?_modify, h]
theorem set_other {w : World} {b i k : Nat} {v : Value} (h : k ≠ b) : (w.setCell ⟨b, i, none⟩ v).heap[k]? = w.heap[k]? := Below.heap_setCell w _ v k h
theorem set_get {cs : Array Value} {i j : Nat} {v u : Value} (h : cs[j]? = some u) : (cs.setIfInBounds i v)[j]? = some (if i = j then v else u) := by
  have hj := (Array.getElem?_eq_some_iff.1 h).1
  rw [Array.getElem?_setIfInBounds]
  split
  · rename_i e
    subst e
    simp [hj]
  · rw [h]
theorem cell_blk {w w' : World} {g : Nat} (h : w'.heap[g]? = w.heap[g]?) (j : Nat) : w'.cell? ⟨g, j, none⟩ = w.cell? ⟨g, j, none⟩ := by simp [World.cell?, h]
theorem blk_lt {w : World} {b : Nat} {o : Obj} (h : w.heap[b]? = some o) : b < w.heap.size := (Array.getElem?_eq_some_iff.1 h).1

/-- a list of one key that was told, in a block of its own -/
def Ob (w : World) (b c x : Nat) : Prop := ∃ cur : Array Value, w.heap[b]? = some (.cells cur 33 (0, 0)) ∧ cur.size = c ∧ cur[0]? = some (U x) ∧ 1 ≤ c ∧ c ≤ maxLen
theorem Ob.same {w w' : World} {b c x : Nat} (h : Ob w b c x) (hb : w'.heap[b]? = w.heap[b]?) : Ob w' b c x := by
  obtain ⟨cur, h1, h2⟩ := h
  exact ⟨cur, hb.trans h1, h2⟩
theorem Ob.cell {w : World} {b c x : Nat} (h : Ob w b c x) : w.cell? ⟨b, 0, none⟩ = some (U x) := by
  obtain ⟨cur, h1, _, h3, _⟩ := h
  simp [World.cell?, h1, h3]
theorem ob_mk {w : World} {b cap x : Nat} {cur : List Value} (h : w.heap[b]? = some (.cells cur.toArray 33 (0, 0))) (h5 : 0 + 1 ≤ cap) (h6 : cap ≤ maxLen) (h7 : cur.length = cap * 1) (h3 : cur.take ((0 + 1) * 1) = [] ++ [U x]) : Ob w b cap x := by
  refine ⟨cur.toArray, h, by simp [h7], ?_, by omega, h6⟩
  have := congrArg (fun z : List Value => z[0]?) h3
  simp only [List.getElem?_take_of_lt (show 0 < (0 + 1) * 1 by omega)] at this
  simpa using this
theorem Ob.own {w : World} {b c x base : Nat} (h : Ob w b c x) (hb : base ≤ b) : w.ownsRow base 33 1 (.slice (some ⟨b, 0, none⟩) 1 c) 1 [U x] := by
  obtain ⟨⟨l⟩, h1, h2, h3, h4, h5⟩ := h
  refine ⟨rfl, Or.inr ⟨b, c, ⟨l⟩, rfl, hb, h1, h4, h5, by rw [h2, Nat.mul_one], ?_⟩⟩
  cases l with
  | nil => simp at h3
  | cons a l =>
    simp at h3
    simp [h3]

/-- where a row lies: its nodes, their room, its map -/
structure Lo where
  nb : Nat
  cap : Nat
  mb : Nat
/-- a row in memory, at place o of block g -/
structure Mem (w : World) (g o : Nat) (L : Lo) (c : Rs) (m : Nat → Option Int) (k : Nat) : Prop where
  row : ∃ cs T, w.heap[g]? = some (.cells cs T (0, 0)) ∧ cs[o]? = some (.slice (some ⟨L.nb, 0, none⟩) c.n L.cap) ∧ cs[o + 1]? = some (.map (some L.mb)) ∧ cs[o + 2]? = some (I c.freed)
  nds : ∃ cs, w.heap[L.nb]? = some (.cells cs 118 (0, 0)) ∧ cs.size = L.cap * 3 ∧ ∀ j, j < c.n → cs[j * 3]? = some (U (c.key j)) ∧ cs[j * 3 + 1]? = some (I (c.ah j)) ∧ cs[j * 3 + 2]? = some (I (c.be j))
  book : IsBk w L.mb m k
  ne : g ≠ L.nb
  cap : c.n ≤ L.cap
  capm : L.cap ≤ maxLen
def foot (g : Nat) (L : Lo) : List Nat := [g, L.nb, L.mb]
/-- a row at work: since w0 only blocks of F have turned, and of g only the row's own cells -/
structure Mf (w0 w : World) (g o : Nat) (F : List Nat) (L : Lo) (c : Rs) (m : Nat → Option Int) (k : Nat) : Prop where
  mem : Mem w g o L c m k
  fr : Fr F w0 w
  rest : ∀ j, (j < o ∨ o + 3 ≤ j) → w.cell? ⟨g, j, none⟩ = w0.cell? ⟨g, j, none⟩
  inF : ∀ x ∈ foot g L, x ∈ F ∨ w0.heap.size ≤ x

section
variable {w w' w0 : World} {g o : Nat} {F G : List Nat} {L : Lo} {c : Rs} {m : Nat → Option Int} {k : Nat}
theorem Mem.gm (h : Mem w g o L c m k) : g ≠ L.mb := by
  obtain ⟨cs, T, h1, _⟩ := h.row
  exact h.book.ne_cells h1
theorem Mem.nm (h : Mem w g o L c m k) : L.nb ≠ L.mb := by
  obtain ⟨cs, h1, _⟩ := h.nds
  exact h.book.ne_cells h1
theorem Mem.lt (h : Mem w g o L c m k) : ∀ x ∈ foot g L, x < w.heap.size := by
  intro x hx
  obtain ⟨cs, T, h1, _⟩ := h.row
  obtain ⟨cs2, h2, _⟩ := h.nds
  simp only [foot, List.mem_cons, List.not_mem_nil, or_false] at hx
  rcases hx with rfl | rfl | rfl
  · exact blk_lt h1
  · exact blk_lt h2
  · exact h.book.lt
theorem Mem.same (h : Mem w g o L c m k) (hb : ∀ x ∈ foot g L, w'.heap[x]? = w.heap[x]?) : Mem w' g o L c m k := by
  obtain ⟨cs, T, h1, h2⟩ := h.row
  obtain ⟨cs2, h3, h4⟩ := h.nds
  exact ⟨⟨cs, T, (hb g (by simp [foot])).trans h1, h2⟩, ⟨cs2, (hb L.nb (by simp [foot])).trans h3, h4⟩, h.book.same (hb L.mb (by simp [foot])), h.ne, h.cap, h.capm⟩
theorem Mem.kept (h : Mem w g o L c m k) (hf : Fr G w w') (hd : ∀ x ∈ foot g L, x ∉ G) : Mem w' g o L c m k := h.same fun x hx => hf.block x (h.lt x hx) (hd x hx)
theorem Mem.below (h : Mem w g o L c m k) (hb : Below w.heap.size w w') : Mem w' g o L c m k := h.same fun x hx => hb.block x (h.lt x hx)
theorem Mem.cellsR (h : Mem w g o L c m k) : w.cell? ⟨g, o, none⟩ = some (.slice (some ⟨L.nb, 0, none⟩) c.n L.cap) ∧ w.cell? ⟨g, o + 1, none⟩ = some (.map (some L.mb)) ∧ w.cell? ⟨g, o + 2, none⟩ = some (I c.freed) ∧ ∀ j, w.frozen? ⟨g, j, none⟩ = false := by
  obtain ⟨cs, T, h1, h2, h3, h4⟩ := h.row
  exact ⟨by simp [World.cell?, h1, h2], by simp [World.cell?, h1, h3], by simp [World.cell?, h1, h4], fun j => by simp [World.frozen?, h1]⟩
theorem Mem.cellsN (h : Mem w g o L c m k) {x : Nat} (hx : x < c.n) : w.cell? ⟨L.nb, x * 3, none⟩ = some (U (c.key x)) ∧ w.cell? ⟨L.nb, x * 3 + 1, none⟩ = some (I (c.ah x)) ∧ w.cell? ⟨L.nb, x * 3 + 2, none⟩ = some (I (c.be x)) ∧ ∀ j, w.frozen? ⟨L.nb, j, none⟩ = false := by
  obtain ⟨cs, h1, _, h2⟩ := h.nds
  obtain ⟨k1, k2, k3⟩ := h2 x hx
  exact ⟨by simp [World.cell?, h1, k1], by simp [World.cell?, h1, k2], by simp [World.cell?, h1, k3], fun j => by simp [World.frozen?, h1]⟩
/-- a node's cell is written -/
theorem Mem.putN (h : Mem w g o L c m k) {x f : Nat} (v : Value) (c' : Rs) (hn : c'.n = c.n) (hfr : c'.freed = c.freed)
    (h4 : ∀ y, y < c.n → U (c'.key y) = (if x * 3 + f = y * 3 then v else U (c.key y)) ∧ I (c'.ah y) = (if x * 3 + f = y * 3 + 1 then v else I (c.ah y)) ∧ I (c'.be y) = (if x * 3 + f = y * 3 + 2 then v else I (c.be y))) : Mem (w.setCell ⟨L.nb, x * 3 + f, none⟩ v) g o L c' m k := by
  obtain ⟨cs, T, h1, h2⟩ := h.row
  obtain ⟨cs2, h3, h5, h6⟩ := h.nds
  refine ⟨⟨cs, T, by rw [set_other h.ne]; exact h1, by rw [hn, hfr]; exact h2⟩, ⟨_, set_blk h3, by simpa using h5, fun j hj => ?_⟩, h.book.same (set_other h.nm.symm), h.ne, by rw [hn]; exact h.cap, h.capm⟩
  rw [hn] at hj
  obtain ⟨q1, q2, q3⟩ := h6 j hj
  obtain ⟨p1, p2, p3⟩ := h4 j hj
  rw [set_get q1, set_get q2, set_get q3, p1, p2, p3]
  exact ⟨rfl, rfl, rfl⟩
/-- a cell of the row itself -/
theorem Mem.putR (h : Mem w g o L c m k) {i : Nat} (v : Value) (c' : Rs) (L' : Lo) (hk : c'.key = c.key) (ha : c'.ah = c.ah) (hb : c'.be = c.be) (hn : c'.n = c.n) (hL : L' = L)
    (h1 : (.slice (some ⟨L.nb, 0, none⟩) c.n L.cap : Value) = (if i = 0 then v else .slice (some ⟨L.nb, 0, none⟩) c.n L.cap)) (h2 : (.map (some L.mb) : Value) = if i = 1 then v else .map (some L.mb)) (h3 : I c'.freed = if i = 2 then v else I c.freed) : Mem (w.setCell ⟨g, o + i, none⟩ v) g o L' c' m k := by
  subst hL
  obtain ⟨cs, T, q1, q2, q3, q4⟩ := h.row
  obtain ⟨cs2, p3, p5, p6⟩ := h.nds
  refine ⟨⟨_, T, set_blk q1, ?_, ?_, ?_⟩, ⟨cs2, by rw [set_other h.ne.symm]; exact p3, p5, by rw [hk, ha, hb, hn]; exact p6⟩, h.book.same (set_other h.gm.symm), h.ne, by rw [hn]; exact h.cap, h.capm⟩
  · rw [set_get q2, hn, h1]
    have : (o + i = o) = (i = 0) := by simp
    simp only [this]
    split <;> rfl
  · rw [set_get q3, h2]
    have : (o + i = o + 1) = (i = 1) := by simp
    simp only [this]
    split <;> rfl
  · rw [set_get q4, h3]
    have : (o + i = o + 2) = (i = 2) := by simp
    simp only [this]
theorem Mf.base (h : Mem w g o L c m k) : Mf w w g o (foot g L) L c m k := ⟨h, Fr.refl _ _, fun _ _ => rfl, fun _ hx => Or.inl hx⟩
theorem Mf.below (h : Mf w0 w g o F L c m k) (hb : Below w.heap.size w w') : Mf w0 w' g o F L c m k :=
  ⟨h.mem.below hb, h.fr.trans (F' := []) (Fr.of_below hb) (by simp), fun j hj => (cell_blk (hb.block g (h.mem.lt g (by simp [foot]))) j).trans (h.rest j hj), h.inF⟩
theorem Mf.drewN (h : Mf w0 w g o F L c m k) (n : Nat) : Mf w0 (w.drewN n) g o F L c m k := h.below (Go.Proofs.YtjcbpejplnaakaaGreat.Nm.below_drewN w n)
theorem Mf.drew (h : Mf w0 w g o F L c m k) : Mf w0 w.drew g o F L c m k := h.below (Below.refl _ w).drew
theorem Mf.setFr (h : Mf w0 w g o F L c m k) {b : Nat} (hb : b ∈ foot g L) (i : Nat) (v : Value) : Fr F w0 (w.setCell ⟨b, i, none⟩ v) := by
  refine ⟨h.fr.os, h.fr.tape, h.fr.output, by simpa [World.setCell] using h.fr.size, fun x hx hF => ?_⟩
  rw [set_other ?_]
  · exact h.fr.block x hx hF
  · rintro rfl
    rcases h.inF x hb with e | e
    · exact hF e
    · omega
theorem Mf.putN (h : Mf w0 w g o F L c m k) {x f : Nat} (v : Value) (c' : Rs) (hn : c'.n = c.n) (hfr : c'.freed = c.freed)
    (h4 : ∀ y, y < c.n → U (c'.key y) = (if x * 3 + f = y * 3 then v else U (c.key y)) ∧ I (c'.ah y) = (if x * 3 + f = y * 3 + 1 then v else I (c.ah y)) ∧ I (c'.be y) = (if x * 3 + f = y * 3 + 2 then v else I (c.be y))) : Mf w0 (w.setCell ⟨L.nb, x * 3 + f, none⟩ v) g o F L c' m k :=
  ⟨h.mem.putN v c' hn hfr h4, h.setFr (by simp [foot]) _ _, fun j hj => (cell_blk (set_other h.mem.ne) j).trans (h.rest j hj), h.inF⟩
theorem ite_up {x y v : Nat} {f : Nat → Nat} {p : Prop} [Decidable p] (h : p ↔ y = x) : I (up f x v y) = if p then I v else I (f y) := by
  unfold up
  by_cases e : y = x
  · rw [if_pos e, if_pos (h.2 e)]
  · rw [if_neg e, if_neg (fun q => e (h.1 q))]
theorem ite_upU {x y v : Nat} {f : Nat → Nat} {p : Prop} [Decidable p] (h : p ↔ y = x) : U (up f x v y) = if p then U v else U (f y) := by
  unfold up
  by_cases e : y = x
  · rw [if_pos e, if_pos (h.2 e)]
  · rw [if_neg e, if_neg (fun q => e (h.1 q))]
theorem Mf.putKey (h : Mf w0 w g o F L c m k) (x v : Nat) : Mf w0 (w.setCell ⟨L.nb, x * 3, none⟩ (U v)) g o F L { c with key := up c.key x v } m k :=
  h.putN (f := 0) _ _ rfl rfl fun y _ => ⟨ite_upU (by omega), by rw [if_neg (by omega)], by rw [if_neg (by omega)]⟩
theorem Mf.putAh (h : Mf w0 w g o F L c m k) (x v : Nat) : Mf w0 (w.setCell ⟨L.nb, x * 3 + 1, none⟩ (I v)) g o F L { c with ah := up c.ah x v } m k :=
  h.putN (f := 1) _ _ rfl rfl fun y _ => ⟨by rw [if_neg (by omega)], ite_up (by omega), by rw [if_neg (by omega)]⟩
theorem Mf.putBe (h : Mf w0 w g o F L c m k) (x v : Nat) : Mf w0 (w.setCell ⟨L.nb, x * 3 + 2, none⟩ (I v)) g o F L { c with be := up c.be x v } m k :=
  h.putN (f := 2) _ _ rfl rfl fun y _ => ⟨by rw [if_neg (by omega)], by rw [if_neg (by omega)], ite_up (by omega)⟩
theorem set_cell_ne {w : World} {g i j : Nat} {v : Value} (h : j ≠ i) : (w.setCell ⟨g, i, none⟩ v).cell? ⟨g, j, none⟩ = w.cell? ⟨g, j, none⟩ := by
  cases hb : w.heap[g]? with
  | none => simp [World.cell?, World.setCell, Array.getElem?_modify, hb]
  | some o =>
    cases o with
    | cells cs T f =>
      have := set_blk (i := i) (v := v) hb
      simp [World.cell?, this, hb, Ne.symm h]
    | _ => simp [World.cell?, World.setCell, Array.getElem?_modify, hb]
theorem Mf.putFreed (h : Mf w0 w g o F L c m k) (v : Nat) : Mf w0 (w.setCell ⟨g, o + 2, none⟩ (I v)) g o F L { c with freed := v } m k :=
  ⟨h.mem.putR (i := 2) _ _ _ rfl rfl rfl rfl rfl (by simp) (by simp) (by simp), h.setFr (by simp [foot]) _ _, fun j hj => (set_cell_ne (by omega)).trans (h.rest j hj), h.inF⟩
end
end Go.Proofs.YtjcbpejplnaakaaGreat.Md
