import Derived.Test.YtenhjebiokegkaaLxBase
import Derived.Maps.OwnSet
import Derived.DeepKeys4
namespace Go.Proofs.Ytenhjebiokegkaa.Nm
open Go.RowKit Go.Maps Go.Proofs.Ytenhjebiokegkaa.Sp Go.Proofs.Ytenhjebiokegkaa.Lx

/-- an element, as it is -/
def R0 (v : Value) : Option (DataW Value × List MemPlace) := some (.held v, [])
/-- a kind of map: its types, its keys, an element's zero -/
structure Mp (κ : Type) where
  k : TypeId
  e : TypeId
  t : TypeId
  kv : κ → Value
  kl : κ → Lit
  ok : κ → Prop
  z : Value
structure Mp.Law {κ : Type} (M : Mp κ) : Prop where
  K : Keyed Try.prog M.k
  ht : Try.prog.underlying M.t = some (.map M.k M.e)
  key : ∀ x, M.ok x → keyOf Try.prog M.k (M.kv x) = some (M.kl x)
  vin : ∀ x y, M.kv x = M.kv y → x = y
  zero : ∀ w, (zeroValue M.e).run Try.prog w = .ok M.z w
theorem Mp.Law.lit {κ : Type} {M : Mp κ} (L : M.Law) {x : κ} (h : M.ok x) : WideAt.IsKeyLit (M.kl x) := L.K.key (L.key x h)
theorem Mp.Law.inj {κ : Type} {M : Mp κ} (L : M.Law) {x y : κ} (hx : M.ok x) (hy : M.ok y) (e : M.kl x = M.kl y) : x = y := L.vin x y (L.K.inj (L.key x hx) (by rw [e]; exact L.key y hy))
/-- a map in memory -/
def IsMp {κ : Type} (M : Mp κ) (w : World) (b : Nat) (m : κ → Option Value) (n : Nat) : Prop := ∃ D : DataW Value, w.ownsMap Try.prog M.k R0 b n D ∧ Tidy D ∧ Maps.size D = n ∧ ∀ x, M.ok x → Maps.has D (M.kl x) = (m x).isSome ∧ ∀ v, m x = some v → D.atKey (M.kl x) (.held M.z) = .held v
open Classical in
noncomputable def upd {κ : Type} (m : κ → Option Value) (k : κ) (x : Option Value) : κ → Option Value := fun j => if j = k then x else m j
theorem upd_same {κ : Type} (m : κ → Option Value) (k : κ) (x : Option Value) : upd m k x k = x := by simp [upd]
theorem upd_ne {κ : Type} {m : κ → Option Value} {k j : κ} {x : Option Value} (h : j ≠ k) : upd m k x j = m j := by simp [upd, h]
section
variable {κ : Type} {M : Mp κ} {w w' : World} {b n : Nat} {k : κ} {m : κ → Option Value}
theorem IsMp.blk (h : IsMp M w b m n) : ∃ es c, w.heap[b]? = some (.map es c) := by
  obtain ⟨D, ⟨es, c, hb, _⟩, _⟩ := h
  exact ⟨es, c, hb⟩
theorem IsMp.lt (h : IsMp M w b m n) : b < w.heap.size := by
  obtain ⟨es, c, hb⟩ := h.blk
  exact (Array.getElem?_eq_some_iff.1 hb).1
theorem IsMp.ne_cells (h : IsMp M w b m n) {g : Nat} {cs : Array Value} {T : TypeId} {f : Nat × Nat} (hg : w.heap[g]? = some (.cells cs T f)) : g ≠ b := by
  rintro rfl
  obtain ⟨es, c, hb⟩ := h.blk
  rw [hb] at hg
  cases hg
theorem IsMp.same (h : IsMp M w b m n) (hb : w'.heap[b]? = w.heap[b]?) : IsMp M w' b m n := by
  obtain ⟨D, ⟨es, c, h1, h2⟩, h3⟩ := h
  exact ⟨D, ⟨es, c, hb.trans h1, h2⟩, h3⟩
theorem IsMp.made (M : Mp κ) (w : World) : IsMp M (w.alloc (.map #[] 0)) w.heap.size (fun _ => none) 0 :=
  ⟨.map [], World.ownsMap_made w _ _ _, tidy_empty, rfl, fun k _ => ⟨rfl, fun v hv => by cases hv⟩⟩
theorem IsMp.at_ (D : DataW Value) (hD : Maps.has D (M.kl k) = (m k).isSome ∧ ∀ v, m k = some v → D.atKey (M.kl k) (.held M.z) = .held v) : D.atKey (M.kl k) (.held M.z) = .held ((m k).getD M.z) := by
  cases hm : m k with
  | none =>
    rw [atKey_of_not_has (by rw [hD.1, hm]; rfl)]
    rfl
  | some v => exact hD.2 v hm
theorem IsMp.look (L : M.Law) (h : IsMp M w b m n) (hk : M.ok k) : (Instr.lookup M.t (.map (some b)) (M.kv k) false).run Try.prog w = .ok ((m k).getD M.z) w := by
  obtain ⟨D, h1, _, _, h2⟩ := h
  obtain ⟨v, ps, e1, e2⟩ := h1.lookup L.K L.ht (L.zero w) (zd := .held M.z) (zp := []) rfl (L.key k hk)
  rw [IsMp.at_ D (h2 k hk)] at e2
  cases e2
  exact e1
theorem IsMp.lookOk (L : M.Law) (h : IsMp M w b m n) (hk : M.ok k) : (Instr.lookup M.t (.map (some b)) (M.kv k) true).run Try.prog w = .ok (.tuple #[(m k).getD M.z, .bool (m k).isSome]) w := by
  obtain ⟨D, h1, _, _, h2⟩ := h
  obtain ⟨v, ps, e1, e2⟩ := h1.look_ok L.K L.ht (L.zero w) (zd := .held M.z) (zp := []) rfl (L.key k hk)
  rw [IsMp.at_ D (h2 k hk)] at e2
  rw [(h2 k hk).1] at e1
  cases e2
  exact e1
theorem IsMp.len (L : M.Law) (h : IsMp M w b m n) (ty : TypeId) : (Builtin.len_ #[M.t] ty #[.map (some b)]).run Try.prog w = .ok (.int .i64 n) w := by
  obtain ⟨D, h1, _, hs, h2⟩ := h
  rw [h1.len L.ht ty, hs]
theorem IsMp.put (L : M.Law) (h : IsMp M w b m n) (hk : M.ok k) (hn : n < maxLen) (v : Value) : ∃ w', (Instr.mapUpdate M.t (.map (some b)) (M.kv k) v).run Try.prog w = .ok () w' ∧ IsMp M w' b (upd m k (some v)) (if (m k).isSome then n else n + 1) ∧ w.grownBy w' (some b) := by
  obtain ⟨D, h1, ht, hs, h2⟩ := h
  obtain ⟨w', e1, e2, e3⟩ := h1.update L.K L.ht hn (L.key k hk) (val := v) (d := .held v) (ps := []) rfl
  have hsz : Maps.size (D.put (M.kl k) (.held v)) = if (m k).isSome then n else n + 1 := by rw [size_put ht, (h2 k hk).1, hs]
  refine ⟨w', e1, ⟨_, ?_, ht.put (L.lit hk) _, hsz, fun j hj => ?_⟩, e3⟩
  · obtain ⟨es, c, q1, q2, q3, q4⟩ := e2
    refine ⟨es, c, q1, q2, ?_, q4⟩
    rw [← hsz, q4]
    simp [Maps.size, length_sorted]
  · by_cases e : j = k
    · subst e
      rw [upd_same]
      exact ⟨has_put_same ht.isMap (L.lit hj) _, fun x hx => by cases hx; exact atKey_put_same ht.isMap (L.lit hj) _ _⟩
    · rw [upd_ne e]
      have hne : M.kl j ≠ M.kl k := fun e2 => e (L.inj hj hk e2)
      exact ⟨(has_put_other hne _).trans (h2 j hj).1, fun x hx => (atKey_put_other hne _ _).trans ((h2 j hj).2 x hx)⟩
end
/-- what is known: names to their meanings -/
def kmap : Mp ByteArray := ⟨9, 73, 51, fun s => .string s, fun s => .string s.data.toList, fun s => s.size ≤ maxLen, .agg #[.int .i64 0, .int .i64 0, .int .i64 0]⟩
/-- how many there are of a kind -/
def cmap : Mp Nat := ⟨3, 3, 68, fun k => .int .i64 (k : Int), fun k => .int .i64 (k : Int), fun k => k ≤ 4, .int .i64 0⟩
theorem cmap_law : cmap.Law :=
  ⟨int_keyed Try.underlying3, Try.underlying68, fun x hx => keyOf_int_mk Try.underlying3 (by have hx' : x ≤ 4 := hx; simp [Lit.wf, IntKind.min, IntKind.max, IntKind.bits, IntKind.signed]; omega), fun x y e => by
    have e' : Value.int .i64 (x : Int) = Value.int .i64 (y : Int) := e
    injection e' with _ e'
    omega, fun w => by kernel_rfl⟩
theorem kmap_law : kmap.Law :=
  ⟨string_keyed Try.underlying9, Try.underlying51, fun x hx => WideMaps.keyOf_string_mk Try.underlying9 hx, fun x y e => by
    have e' : Value.string x = Value.string y := e
    injection e', fun w => by kernel_rfl⟩
/-- whose event a row is: things to rows -/
noncomputable def bmap : Mp (Nat × Nat) := ⟨71, 3, 52, fun x => .agg #[.int .i64 (x.1 : Int), .int .i64 (x.2 : Int)], fun x => (keyOf Try.prog 71 (.agg #[.int .i64 (x.1 : Int), .int .i64 (x.2 : Int)])).getD .nil, fun x => x.1 ≤ 5 ∧ x.2 ≤ 16, .int .i64 0⟩
theorem laidOutN : laidOutB Try.prog = true := by kernel_rfl
theorem thing_row : (71 : TypeId) < Try.prog.types.size := of_decide_eq_true (by kernel_rfl)
theorem thing_wide : (match Try.prog.underlying 71 with | some (.array _ _) | some (.struct _) => true | _ => false) = true := by rw [Try.underlying71]
set_option maxRecDepth 100000 in
theorem thing_law : WideMaps.KeyLaw Try.prog 71 := deep_law_laid laidOutN (m := 2) (by omega) thing_row (by kernel_rfl) thing_wide
set_option maxRecDepth 100000 in
theorem thing_key {x : Nat × Nat} (h : x.1 ≤ 5 ∧ x.2 ≤ 16) : ∃ l, keyOf Try.prog 71 (.agg #[.int .i64 (x.1 : Int), .int .i64 (x.2 : Int)]) = some l := by
  have hkt : Try.prog.keyType 71 = true := by kernel_rfl
  have hce : Try.prog.cellsOf 71 = 2 := by kernel_rfl
  have hci : Try.prog.cellsOf 3 = 1 := by kernel_rfl
  have hfo : (Value.agg #[.int .i64 (x.1 : Int), .int .i64 (x.2 : Int)]).formed Try.prog 71 = true := by simp [Value.formed, Try.underlying71, hce]
  obtain ⟨n, hn⟩ : ∃ n, Try.prog.types.size = n + 1 := ⟨Try.prog.types.size - 1, by have h0 : 0 < Try.prog.types.size := Nat.lt_of_le_of_lt (Nat.zero_le _) thing_row; omega⟩
  have hw1 : (Lit.int .i64 (x.1 : Int)).wf = true := by simp [Lit.wf, IntKind.min, IntKind.max, IntKind.bits, IntKind.signed]; omega
  have hw2 : (Lit.int .i64 (x.2 : Int)).wf = true := by simp [Lit.wf, IntKind.min, IntKind.max, IntKind.bits, IntKind.signed]; omega
  unfold keyOf
  rw [Try.underlying71]
  simp only [hkt, hfo, Bool.and_self, if_true, hn]
  simp [Program.keyLits, Try.underlying71, Try.underlying3, hce, hci, Value.cells, hw1, hw2]
set_option maxRecDepth 100000 in
theorem bmap_law : bmap.Law :=
  ⟨Keyed.of_law thing_law, Try.underlying52, fun x hx => by
    obtain ⟨l, hl⟩ := thing_key (x := x) hx
    show keyOf Try.prog 71 (.agg #[.int .i64 (x.1 : Int), .int .i64 (x.2 : Int)]) = some ((keyOf Try.prog 71 (.agg #[.int .i64 (x.1 : Int), .int .i64 (x.2 : Int)])).getD .nil)
    rw [hl]
    rfl, fun x y e => by
    have e' : Value.agg #[.int .i64 (x.1 : Int), .int .i64 (x.2 : Int)] = Value.agg #[.int .i64 (y.1 : Int), .int .i64 (y.2 : Int)] := e
    obtain ⟨x1, x2⟩ := x
    obtain ⟨y1, y2⟩ := y
    simp at e'
    obtain ⟨e1, e2⟩ := e'
    rw [show x1 = y1 by omega, show x2 = y2 by omega], fun w => by kernel_rfl⟩
end Go.Proofs.Ytenhjebiokegkaa.Nm
