import Derived.Maps.OwnSet
import Derived.DeepKeys4
import Derived.Test.YtjoflihimpipcabGreatK08
set_option maxHeartbeats 3200000
set_option maxRecDepth 100000
namespace Go.Proofs.YtjoflihimpipcabGreat.Nm
open Go.RowKit Go.Proofs.YtjoflihimpipcabGreat.Sp Go.Proofs.YtjoflihimpipcabGreat.Lx
/-- of what kind a thing is that a row declares (1 queue, 2 var, 3 tag, 4 rule; 0 none) -/
def decl (k : Int) : Nat := if k = 2 ∨ k = 3 then 1 else if k = 4 then 2 else if k = 5 then 3 else if k = 7 then 4 else 0
/-- of what kind the thing is that a row names -/
def nmd (k : Int) : Nat :=
  if k = 8 ∨ k = 9 ∨ k = 16 ∨ k = 17 ∨ k = 21 ∨ k = 19 ∨ k = 20 ∨ k = 24 ∨ k = 26 ∨ k = 31 ∨ k = 32 ∨ k = 35 ∨ k = 36 ∨ k = 37 then 1
  else if k = 14 ∨ k = 28 then 2 else if k = 15 ∨ k = 38 then 3 else if k = 22 then 4 else 0
def mst (k : Nat) : Nat := if k = 1 then 16 else if k = 2 then 16 else if k = 3 then 4 else if k = 4 then 64 else 0
theorem nmd_le (k : Int) : nmd k ≤ 4 := by
  unfold nmd
  repeat' split
  all_goals omega
theorem decl_le (k : Int) : decl k ≤ 4 := by
  unfold decl
  repeat' split
  all_goals omega
theorem declared_any (k : Int) (w : World) : Calls Tryz.prog 43 #[.int .i64 k] w fun e w' => e = .returned (.int .i64 (decl k : Nat)) ∧ w' = w := by
  have HD : Hid (decl k = if k = 2 ∨ k = 3 then 1 else if k = 4 then 2 else if k = 5 then 3 else if k = 7 then 4 else 0) := rfl
  generalize decl k = z at *
  go_enter Tryz.func43, Tryz.ntmps43
  go_wp2
  all_goals
    go_ret
    refine ⟨?_, rfl⟩
    rw [HD.out]
    simp_all
theorem named_any (k : Int) (w : World) : Calls Tryz.prog 48 #[.int .i64 k] w fun e w' => e = .returned (.int .i64 (nmd k : Nat)) ∧ w' = w := by
  have HD : Hid (nmd k = if k = 8 ∨ k = 9 ∨ k = 16 ∨ k = 17 ∨ k = 21 ∨ k = 19 ∨ k = 20 ∨ k = 24 ∨ k = 26 ∨ k = 31 ∨ k = 32 ∨ k = 35 ∨ k = 36 ∨ k = 37 then 1 else if k = 14 ∨ k = 28 then 2 else if k = 15 ∨ k = 38 then 3 else if k = 22 then 4 else 0) := rfl
  generalize nmd k = z at *
  go_enter Tryz.func48, Tryz.ntmps48
  go_wp2
  all_goals
    go_ret
    refine ⟨?_, rfl⟩
    rw [HD.out]
    simp_all
/-- sums up to MaxSum -/
def pls (a b : Nat) : Nat := min a (4611686018427387904 - b) + b
theorem plus_any (a b : Nat) (ha : a ≤ 4611686018427387904) (hb : b ≤ 4611686018427387904) (w : World) : Calls Tryz.prog 53 #[.int .i64 a, .int .i64 b] w fun e w' => e = .returned (.int .i64 (pls a b : Nat)) ∧ w' = w := by
  have h1 : (a : Int) ≤ 4611686018427387904 := by omega
  have h2 : (b : Int) ≤ 4611686018427387904 := by omega
  have HP : Hid ((pls a b : Int) = min (a : Int) (4611686018427387904 - (b : Int)) + b) := by
    show _ = _
    unfold pls
    omega
  go_enter Tryz.func53, Tryz.ntmps53
  go_wp2
  all_goals
    go_ret
    refine ⟨?_, rfl⟩
    rw [HP.out]
    first | rfl | simp
theorem pls_le (a b : Nat) (hb : b ≤ 4611686018427387904) : pls a b ≤ 4611686018427387904 := by unfold pls; omega
end Go.Proofs.YtjoflihimpipcabGreat.Nm
namespace Go.Proofs.YtjoflihimpipcabGreat.Nm
open Go.RowKit Go.Maps Go.Proofs.YtjoflihimpipcabGreat.Sp Go.Proofs.YtjoflihimpipcabGreat.Lx
/-- an element, as it is -/
def R0 (v : Value) : Option (DataW Value × List MemPlace) := some (.held v, [])
/-- a kind of map: its types, its keys, an element's zero -/
structure Mp (κ : Type) where
  k : TypeId
  e : TypeId
  t : TypeId
  kv : κ → Value
  kl : κ → Lit
  ok : κ → Prop
  z : Value
structure Mp.Law {κ : Type} (M : Mp κ) : Prop where
  K : Keyed Tryz.prog M.k
  ht : Tryz.prog.underlying M.t = some (.map M.k M.e)
  key : ∀ x, M.ok x → keyOf Tryz.prog M.k (M.kv x) = some (M.kl x)
  vin : ∀ x y, M.kv x = M.kv y → x = y
  zero : ∀ w, (zeroValue M.e).run Tryz.prog w = .ok M.z w
theorem Mp.Law.lit {κ : Type} {M : Mp κ} (L : M.Law) {x : κ} (h : M.ok x) : WideAt.IsKeyLit (M.kl x) := L.K.key (L.key x h)
theorem Mp.Law.inj {κ : Type} {M : Mp κ} (L : M.Law) {x y : κ} (hx : M.ok x) (hy : M.ok y) (e : M.kl x = M.kl y) : x = y := L.vin x y (L.K.inj (L.key x hx) (by rw [e]; exact L.key y hy))
/-- a map in memory -/
def IsMp {κ : Type} (M : Mp κ) (w : World) (b : Nat) (m : κ → Option Value) (n : Nat) : Prop := ∃ D : DataW Value, w.ownsMap Tryz.prog M.k R0 b n D ∧ Tidy D ∧ Maps.size D = n ∧ ∀ x, M.ok x → Maps.has D (M.kl x) = (m x).isSome ∧ ∀ v, m x = some v → D.atKey (M.kl x) (.held M.z) = .held v
open Classical in
noncomputable def upd {κ : Type} (m : κ → Option Value) (k : κ) (x : Option Value) : κ → Option Value := fun j => if j = k then x else m j
theorem upd_same {κ : Type} (m : κ → Option Value) (k : κ) (x : Option Value) : upd m k x k = x := by simp [upd]
theorem upd_ne {κ : Type} {m : κ → Option Value} {k j : κ} {x : Option Value} (h : j ≠ k) : upd m k x j = m j := by simp [upd, h]
section
variable {κ : Type} {M : Mp κ} {w w' : World} {b n : Nat} {k : κ} {m : κ → Option Value}
theorem IsMp.blk (h : IsMp M w b m n) : ∃ es c, w.heap[b]? = some (.map es c) := by
  obtain ⟨D, ⟨es, c, hb, _⟩, _⟩ := h
  exact ⟨es, c, hb⟩
theorem IsMp.lt (h : IsMp M w b m n) : b < w.heap.size := by
  obtain ⟨es, c, hb⟩ := h.blk
  exact (Array.getElem?_eq_some_iff.1 hb).1
theorem IsMp.ne_cells (h : IsMp M w b m n) {g : Nat} {cs : Array Value} {T : TypeId} {f : Nat × Nat} (hg : w.heap[g]? = some (.cells cs T f)) : g ≠ b := by
  rintro rfl
  obtain ⟨es, c, hb⟩ := h.blk
  rw [hb] at hg
  cases hg
theorem IsMp.same (h : IsMp M w b m n) (hb : w'.heap[b]? = w.heap[b]?) : IsMp M w' b m n := by
  obtain ⟨D, ⟨es, c, h1, h2⟩, h3⟩ := h
  exact ⟨D, ⟨es, c, hb.trans h1, h2⟩, h3⟩
theorem IsMp.made (M : Mp κ) (w : World) : IsMp M (w.alloc (.map #[] 0)) w.heap.size (fun _ => none) 0 :=
  ⟨.map [], World.ownsMap_made w _ _ _, tidy_empty, rfl, fun k _ => ⟨rfl, fun v hv => by cases hv⟩⟩
theorem IsMp.at_ (D : DataW Value) (hD : Maps.has D (M.kl k) = (m k).isSome ∧ ∀ v, m k = some v → D.atKey (M.kl k) (.held M.z) = .held v) : D.atKey (M.kl k) (.held M.z) = .held ((m k).getD M.z) := by
  cases hm : m k with
  | none =>
    rw [atKey_of_not_has (by rw [hD.1, hm]; rfl)]
    rfl
  | some v => exact hD.2 v hm
theorem IsMp.look (L : M.Law) (h : IsMp M w b m n) (hk : M.ok k) : (Instr.lookup M.t (.map (some b)) (M.kv k) false).run Tryz.prog w = .ok ((m k).getD M.z) w := by
  obtain ⟨D, h1, _, _, h2⟩ := h
  obtain ⟨v, ps, e1, e2⟩ := h1.lookup L.K L.ht (L.zero w) (zd := .held M.z) (zp := []) rfl (L.key k hk)
  rw [IsMp.at_ D (h2 k hk)] at e2
  cases e2
  exact e1
theorem IsMp.lookOk (L : M.Law) (h : IsMp M w b m n) (hk : M.ok k) : (Instr.lookup M.t (.map (some b)) (M.kv k) true).run Tryz.prog w = .ok (.tuple #[(m k).getD M.z, .bool (m k).isSome]) w := by
  obtain ⟨D, h1, _, _, h2⟩ := h
  obtain ⟨v, ps, e1, e2⟩ := h1.look_ok L.K L.ht (L.zero w) (zd := .held M.z) (zp := []) rfl (L.key k hk)
  rw [IsMp.at_ D (h2 k hk)] at e2
  rw [(h2 k hk).1] at e1
  cases e2
  exact e1
theorem IsMp.len (L : M.Law) (h : IsMp M w b m n) (ty : TypeId) : (Builtin.len_ #[M.t] ty #[.map (some b)]).run Tryz.prog w = .ok (.int .i64 n) w := by
  obtain ⟨D, h1, _, hs, h2⟩ := h
  rw [h1.len L.ht ty, hs]
theorem IsMp.put (L : M.Law) (h : IsMp M w b m n) (hk : M.ok k) (hn : n < maxLen) (v : Value) : ∃ w', (Instr.mapUpdate M.t (.map (some b)) (M.kv k) v).run Tryz.prog w = .ok () w' ∧ IsMp M w' b (upd m k (some v)) (if (m k).isSome then n else n + 1) ∧ w.grownBy w' (some b) := by
  obtain ⟨D, h1, ht, hs, h2⟩ := h
  obtain ⟨w', e1, e2, e3⟩ := h1.update L.K L.ht hn (L.key k hk) (val := v) (d := .held v) (ps := []) rfl
  have hsz : Maps.size (D.put (M.kl k) (.held v)) = if (m k).isSome then n else n + 1 := by rw [size_put ht, (h2 k hk).1, hs]
  refine ⟨w', e1, ⟨_, ?_, ht.put (L.lit hk) _, hsz, fun j hj => ?_⟩, e3⟩
  · obtain ⟨es, c, q1, q2, q3, q4⟩ := e2
    refine ⟨es, c, q1, q2, ?_, q4⟩
    rw [← hsz, q4]
    simp [Maps.size, length_sorted]
  · by_cases e : j = k
    · subst e
      rw [upd_same]
      exact ⟨has_put_same ht.isMap (L.lit hj) _, fun x hx => by cases hx; exact atKey_put_same ht.isMap (L.lit hj) _ _⟩
    · rw [upd_ne e]
      have hne : M.kl j ≠ M.kl k := fun e2 => e (L.inj hj hk e2)
      exact ⟨(has_put_other hne _).trans (h2 j hj).1, fun x hx => (atKey_put_other hne _ _).trans ((h2 j hj).2 x hx)⟩
end
/-- what is known: names to their meanings -/
def kmap : Mp ByteArray := ⟨9, 100, 65, fun s => .string s, fun s => .string s.data.toList, fun s => s.size ≤ maxLen, .agg #[.int .i64 0, .int .i64 0, .int .i64 0]⟩
/-- how many there are of a kind -/
def cmap : Mp Nat := ⟨3, 3, 95, fun k => .int .i64 (k : Int), fun k => .int .i64 (k : Int), fun k => k ≤ 4, .int .i64 0⟩
theorem cmap_law : cmap.Law :=
  ⟨int_keyed Tryz.underlying3, Tryz.underlying95, fun x hx => keyOf_int_mk Tryz.underlying3 (by have hx' : x ≤ 4 := hx; simp [Lit.wf, IntKind.min, IntKind.max, IntKind.bits, IntKind.signed]; omega), fun x y e => by
    have e' : Value.int .i64 (x : Int) = Value.int .i64 (y : Int) := e
    injection e' with _ e'
    omega, fun w => by kernel_rfl⟩
theorem kmap_law : kmap.Law :=
  ⟨string_keyed Tryz.underlying9, Tryz.underlying65, fun x hx => WideMaps.keyOf_string_mk Tryz.underlying9 hx, fun x y e => by
    have e' : Value.string x = Value.string y := e
    injection e', fun w => by kernel_rfl⟩
/-- whose event a row is: things to rows -/
noncomputable def bmap : Mp (Nat × Nat) := ⟨98, 3, 66, fun x => .agg #[.int .i64 (x.1 : Int), .int .i64 (x.2 : Int)], fun x => (keyOf Tryz.prog 98 (.agg #[.int .i64 (x.1 : Int), .int .i64 (x.2 : Int)])).getD .nil, fun x => x.1 ≤ 5 ∧ x.2 ≤ 16, .int .i64 0⟩
theorem laidOutN : laidOutB Tryz.prog = true := by kernel_rfl
theorem thing_row : (98 : TypeId) < Tryz.prog.types.size := of_decide_eq_true (by kernel_rfl)
theorem thing_wide : (match Tryz.prog.underlying 98 with | some (.array _ _) | some (.struct _) => true | _ => false) = true := by rw [Tryz.underlying98]
theorem thing_law : WideMaps.KeyLaw Tryz.prog 98 := deep_law_laid laidOutN (m := 2) (by omega) thing_row (by kernel_rfl) thing_wide
theorem thing_key {x : Nat × Nat} (h : x.1 ≤ 5 ∧ x.2 ≤ 16) : ∃ l, keyOf Tryz.prog 98 (.agg #[.int .i64 (x.1 : Int), .int .i64 (x.2 : Int)]) = some l := by
  have hkt : Tryz.prog.keyType 98 = true := by kernel_rfl
  have hce : Tryz.prog.cellsOf 98 = 2 := by kernel_rfl
  have hci : Tryz.prog.cellsOf 3 = 1 := by kernel_rfl
  have hfo : (Value.agg #[.int .i64 (x.1 : Int), .int .i64 (x.2 : Int)]).formed Tryz.prog 98 = true := by simp [Value.formed, Tryz.underlying98, hce]
  obtain ⟨n, hn⟩ : ∃ n, Tryz.prog.types.size = n + 1 := ⟨Tryz.prog.types.size - 1, by have h0 : 0 < Tryz.prog.types.size := Nat.lt_of_le_of_lt (Nat.zero_le _) thing_row; omega⟩
  have hw1 : (Lit.int .i64 (x.1 : Int)).wf = true := by simp [Lit.wf, IntKind.min, IntKind.max, IntKind.bits, IntKind.signed]; omega
  have hw2 : (Lit.int .i64 (x.2 : Int)).wf = true := by simp [Lit.wf, IntKind.min, IntKind.max, IntKind.bits, IntKind.signed]; omega
  unfold keyOf
  rw [Tryz.underlying98]
  simp only [hkt, hfo, Bool.and_self, if_true, hn]
  simp [Program.keyLits, Tryz.underlying98, Tryz.underlying3, hce, hci, Value.cells, hw1, hw2]
theorem bmap_law : bmap.Law :=
  ⟨Keyed.of_law thing_law, Tryz.underlying66, fun x hx => by
    obtain ⟨l, hl⟩ := thing_key (x := x) hx
    show keyOf Tryz.prog 98 (.agg #[.int .i64 (x.1 : Int), .int .i64 (x.2 : Int)]) = some ((keyOf Tryz.prog 98 (.agg #[.int .i64 (x.1 : Int), .int .i64 (x.2 : Int)])).getD .nil)
    rw [hl]
    rfl, fun x y e => by
    have e' : Value.agg #[.int .i64 (x.1 : Int), .int .i64 (x.2 : Int)] = Value.agg #[.int .i64 (y.1 : Int), .int .i64 (y.2 : Int)] := e
    obtain ⟨x1, x2⟩ := x
    obtain ⟨y1, y2⟩ := y
    simp at e'
    obtain ⟨e1, e2⟩ := e'
    rw [show x1 = y1 by omega, show x2 = y2 by omega], fun w => by kernel_rfl⟩
end Go.Proofs.YtjoflihimpipcabGreat.Nm
namespace Go.Proofs.YtjoflihimpipcabGreat.Nm
open Go.RowKit Go.Maps Go.Proofs.YtjoflihimpipcabGreat.Sp Go.Proofs.YtjoflihimpipcabGreat.Lx Go.Proofs.YtjoflihimpipcabGreat.Gr
/-- only blocks of F have turned -/
structure Fr (F : List Nat) (w w' : World) : Prop where
  os : w'.os = w.os
  tape : w'.tape = w.tape
  output : w'.output = w.output
  size : w.heap.size ≤ w'.heap.size
  block : ∀ k, k < w.heap.size → k ∉ F → w'.heap[k]? = w.heap[k]?
theorem Fr.refl (F : List Nat) (w : World) : Fr F w w := ⟨rfl, rfl, rfl, Nat.le_refl _, fun _ _ _ => rfl⟩
theorem Fr.of_below {F : List Nat} {w w' : World} (h : Below w.heap.size w w') : Fr F w w' := ⟨h.os, h.tape, h.output, h.size, fun k hk _ => h.block k hk⟩
theorem Fr.trans {F F' : List Nat} {a b c : World} (h : Fr F a b) (k : Fr F' b c) (hF : ∀ x ∈ F', x ∈ F ∨ a.heap.size ≤ x) : Fr F a c :=
  ⟨k.os.trans h.os, k.tape.trans h.tape, k.output.trans h.output, Nat.le_trans h.size k.size, fun x hx hn => (k.block x (Nat.lt_of_lt_of_le hx h.size) (fun hm => (hF x hm).elim hn (fun h => by omega))).trans (h.block x hx hn)⟩
theorem Fr.grown {w w' : World} {b : Nat} (h : w.grownBy w' (some b)) : Fr [b] w w' := ⟨h.os, h.tape, h.output, h.size, fun k hk hn => h.block k hk (fun e => hn (by cases e; simp))⟩
theorem Fr.set {F : List Nat} (w : World) {g : Nat} (i : Nat) (v : Value) (hg : g ∈ F) : Fr F w (w.setCell ⟨g, i, none⟩ v) :=
  ⟨rfl, rfl, rfl, by simp [World.setCell], fun k _ hn => Below.heap_setCell w _ v k (fun e => hn (by rw [e]; exact hg))⟩
abbrev rv (x : Rz) : Value := .agg #[.int .i64 x.kind, .string x.name, .int .i64 x.stop, .int .i64 x.n, .int .i64 x.kids]
/-- rows in a block of their own -/
def Rw (w : World) (rb : Nat) (l : List Rz) : Prop := ∃ cs, w.heap[rb]? = some (.cells cs 59 (0, 0)) ∧ ∀ (i : Nat) (x : Rz), l[i]? = some x →
  cs[i * 5]? = some (.int .i64 x.kind) ∧ cs[i * 5 + 1]? = some (.string x.name) ∧ cs[i * 5 + 2]? = some (.int .i64 x.stop) ∧ cs[i * 5 + 3]? = some (.int .i64 x.n) ∧ cs[i * 5 + 4]? = some (.int .i64 x.kids)
section
variable {w w' : World} {rb i : Nat} {l : List Rz} {x : Rz}
theorem Rw.lt (h : Rw w rb l) : rb < w.heap.size := by
  obtain ⟨cs, h1, _⟩ := h
  exact (Array.getElem?_eq_some_iff.1 h1).1
theorem Rw.same (h : Rw w rb l) (hb : w'.heap[rb]? = w.heap[rb]?) : Rw w' rb l := by
  obtain ⟨cs, h1, h2⟩ := h
  exact ⟨cs, hb.trans h1, h2⟩
theorem Rw.cells (h : Rw w rb l) (hx : l[i]? = some x) : w.cell? ⟨rb, i * 5, none⟩ = some (.int .i64 x.kind) ∧ w.cell? ⟨rb, i * 5 + 1, none⟩ = some (.string x.name) ∧ w.cell? ⟨rb, i * 5 + 2, none⟩ = some (.int .i64 x.stop) ∧ w.cell? ⟨rb, i * 5 + 3, none⟩ = some (.int .i64 x.n) ∧ w.cell? ⟨rb, i * 5 + 4, none⟩ = some (.int .i64 x.kids) ∧ ∀ j, w.frozen? ⟨rb, j, none⟩ = false := by
  obtain ⟨cs, h1, h2⟩ := h
  obtain ⟨a0, a1, a2, a3, a4⟩ := h2 i x hx
  exact ⟨by simp [World.cell?, h1, a0], by simp [World.cell?, h1, a1], by simp [World.cell?, h1, a2], by simp [World.cell?, h1, a3], by simp [World.cell?, h1, a4], fun j => by simp [World.frozen?, h1]⟩
theorem Rw.rz (h : Rw w rb l) : IsRz w (some ⟨rb, 0, none⟩) l := fun i x hx => by
  obtain ⟨a0, a1, a2, a3, a4, _⟩ := h.cells hx
  exact ⟨rb, 0, rfl, h.lt, by rw [Nat.zero_add]; exact a0, by rw [Nat.zero_add]; exact a1, by rw [Nat.zero_add]; exact a2, by rw [Nat.zero_add]; exact a3, by rw [Nat.zero_add]; exact a4⟩
/-- a row's number is written -/
theorem Rw.setN (h : Rw w rb l) (hx : l[i]? = some x) (n : Int) : Rw (w.setCell ⟨rb, i * 5 + 3, none⟩ (.int .i64 n)) rb (l.set i { x with n := n }) := by
  obtain ⟨cs, h1, h2⟩ := h
  refine ⟨cs.setIfInBounds (i * 5 + 3) (.int .i64 n), heap_setCell_same w rb (i * 5 + 3) cs 59 _ h1, fun j y hy => ?_⟩
  rw [List.getElem?_set] at hy
  have hin := (List.getElem?_eq_some_iff.1 hx).1
  by_cases e : i = j
  · subst e
    rw [if_pos rfl, if_pos hin] at hy
    cases hy
    obtain ⟨a0, a1, a2, a3, a4⟩ := h2 i x hx
    have hs := (Array.getElem?_eq_some_iff.1 a3).1
    simp only [Array.getElem?_setIfInBounds]
    refine ⟨by rw [if_neg (by omega)]; exact a0, by rw [if_neg (by omega)]; exact a1, by rw [if_neg (by omega)]; exact a2, by simp [hs], by rw [if_neg (by omega)]; exact a4⟩
  · rw [if_neg e] at hy
    obtain ⟨a0, a1, a2, a3, a4⟩ := h2 j y hy
    simp only [Array.getElem?_setIfInBounds]
    exact ⟨by rw [if_neg (by omega)]; exact a0, by rw [if_neg (by omega)]; exact a1, by rw [if_neg (by omega)]; exact a2, by rw [if_neg (by omega)]; exact a3, by rw [if_neg (by omega)]; exact a4⟩
end
theorem box_cell {W : World} {b : Nat} {v : Value} {T : TypeId} (h : W.heap[b]? = some (.cells #[v] T (0, 0))) : W.cell? ⟨b, 0, none⟩ = some v ∧ W.frozen? ⟨b, 0, none⟩ = false := ⟨by simp [World.cell?, h], by simp [World.frozen?, h]⟩
/-- whose event a row is -/
def evt (x : Rz) : Nat × Int := if x.kind = 8 ∨ x.kind = 9 then (1, x.n) else if x.kind = 10 then (5, 0) else (0, 0)
theorem event_any (x : Rz) (w : World) : Calls Tryz.prog 50 #[rv x] w fun e w' => e = .returned (.agg #[.int .i64 ((evt x).1 : Nat), .int .i64 (evt x).2]) ∧ Below w.heap.size w w' := by
  have HE : Hid (evt x = if x.kind = 8 ∨ x.kind = 9 then (1, x.n) else if x.kind = 10 then (5, 0) else (0, 0)) := rfl
  generalize evt x = z at *
  obtain ⟨kd, nm, st, n, ks⟩ := x
  dsimp only at *
  have h0 : ((w.alloc (.cells #[.int .i64 kd, .string nm, .int .i64 st, .int .i64 n, .int .i64 ks] 59)).alloc (.cells #[.int .i64 0, .int .i64 0] 98)).heap[w.heap.size]? = some (.cells #[.int .i64 kd, .string nm, .int .i64 st, .int .i64 n, .int .i64 ks] 59 (0, 0)) := (Below.heap_alloc _ _ _ (by simp)).trans (heap_alloc_new w _)
  have HQ : Hid (∀ A B : Value, Below w.heap.size w ((w.alloc (.cells #[.int .i64 kd, .string nm, .int .i64 st, .int .i64 n, .int .i64 ks] 59)).alloc (.cells #[A, B] 98)) ∧ ((w.alloc (.cells #[.int .i64 kd, .string nm, .int .i64 st, .int .i64 n, .int .i64 ks] 59)).alloc (.cells #[A, B] 98)).cell? ⟨w.heap.size + 1, 0, none⟩ = some A ∧ ((w.alloc (.cells #[.int .i64 kd, .string nm, .int .i64 st, .int .i64 n, .int .i64 ks] 59)).alloc (.cells #[A, B] 98)).cell? ⟨w.heap.size + 1, 1, none⟩ = some B) := fun A B => by
    have := heap_alloc_new (w.alloc (.cells #[.int .i64 kd, .string nm, .int .i64 st, .int .i64 n, .int .i64 ks] 59)) (.cells #[A, B] 98)
    rw [World.size_alloc] at this
    exact ⟨((Below.refl _ w).alloc (Nat.le_refl _) _).alloc (by simp) _, by rw [World.cell?, this]; rfl, by rw [World.cell?, this]; rfl⟩
  have c0 : ((w.alloc (.cells #[.int .i64 kd, .string nm, .int .i64 st, .int .i64 n, .int .i64 ks] 59)).alloc (.cells #[.int .i64 0, .int .i64 0] 98)).cell? ⟨w.heap.size, 0, none⟩ = some (.int .i64 kd) := by simp only [World.cell?, h0]; rfl
  have c3 : ((w.alloc (.cells #[.int .i64 kd, .string nm, .int .i64 st, .int .i64 n, .int .i64 ks] 59)).alloc (.cells #[.int .i64 0, .int .i64 0] 98)).cell? ⟨w.heap.size, 3, none⟩ = some (.int .i64 n) := by simp only [World.cell?, h0]; rfl
  clear h0
  go_enter Tryz.func50, Tryz.ntmps50
  go_wp2_with fail
  · obtain ⟨b1, q0, q1⟩ := HQ.out (.int .i64 1) (.int .i64 n)
    exact bodyPost_ret (v := .agg #[.int .i64 1, .int .i64 n]) (by simp [results, Tryz.results50, go_sem, q0, q1]) rfl ⟨by rw [HE.out]; simp_all, b1⟩
  · obtain ⟨b1, q0, q1⟩ := HQ.out (.int .i64 1) (.int .i64 n)
    exact bodyPost_ret (v := .agg #[.int .i64 1, .int .i64 n]) (by simp [results, Tryz.results50, go_sem, q0, q1]) rfl ⟨by rw [HE.out]; simp_all, b1⟩
  · obtain ⟨b1, q0, q1⟩ := HQ.out (.int .i64 5) (.int .i64 0)
    exact bodyPost_ret (v := .agg #[.int .i64 5, .int .i64 0]) (by simp [results, Tryz.results50, go_sem, q0, q1]) rfl ⟨by rw [HE.out]; simp_all, b1⟩
  · obtain ⟨b1, q0, q1⟩ := HQ.out (.int .i64 0) (.int .i64 0)
    exact bodyPost_ret (v := .agg #[.int .i64 0, .int .i64 0]) (by simp [results, Tryz.results50, go_sem, q0, q1]) rfl ⟨by rw [HE.out]; simp_all, b1⟩
def evn (x : Rz) : Nat × Nat := ((evt x).1, (evt x).2.toNat)
/-- whose event a row is, and whether it is the first -/
theorem happening_any {W : World} {rb r1 r2 mb cap at_ n : Nat} {l : List Rz} {x : Rz} {f : Nat × Nat → Option Value} (hr : Rw W rb l) (h1 : W.heap[r1]? = some (.cells #[.slice (some ⟨rb, 0, none⟩) l.length cap] 22 (0, 0))) (h2 : W.heap[r2]? = some (.cells #[.map (some mb)] 66 (0, 0)))
    (hm : IsMp bmap W mb f n) (hx : l[at_]? = some x) (hl : l.length ≤ 2932031007317) (hn : n ≤ 9000000000000) (hok : (evt x).1 = 1 → 0 ≤ x.n ∧ x.n ≤ 16) :
    Calls Tryz.prog 49 #[.int .i64 at_, .pointer (some ⟨r1, 0, none⟩), .pointer (some ⟨r2, 0, none⟩)] W fun e w' =>
      ((evt x).1 = 0 ∧ e = .returned (.int .i64 0) ∧ Below W.heap.size W w') ∨ ((evt x).1 ≠ 0 ∧ (f (evn x)).isSome = true ∧ e = .returned (.int .i64 31) ∧ Below W.heap.size W w') ∨
      ((evt x).1 ≠ 0 ∧ f (evn x) = none ∧ e = .returned (.int .i64 0) ∧ Fr [mb] W w' ∧ IsMp bmap w' mb (upd f (evn x) (some (.int .i64 ((at_ : Int) + 1)))) (n + 1)) := by
  have hat : at_ < l.length := (List.getElem?_eq_some_iff.1 hx).1
  have h3 : (at_ : Int) < (l.length : Int) := by omega
  have h4 : (at_ : Int) ≤ 2932031007317 := by omega
  obtain ⟨c0, c1, c2, c3, c4, _⟩ := hr.cells hx
  obtain ⟨d1, _⟩ := box_cell h1
  have HE := show Hid _ from event_any x W
  have HM : Hid (IsMp bmap W mb f n ∧ W.heap[r2]? = some (.cells #[.map (some mb)] 66 (0, 0)) ∧ n ≤ 9000000000000) := ⟨hm, h2, hn⟩
  have HO : Hid ((evt x).2 = ((evn x).2 : Int) ∧ bmap.ok (evn x)) := by
    have h5 : (evt x).1 = 1 ∧ (evt x).2 = x.n ∨ (evt x).1 = 5 ∧ (evt x).2 = 0 ∨ (evt x).1 = 0 ∧ (evt x).2 = 0 := by
      unfold evt
      split
      · exact Or.inl ⟨rfl, rfl⟩
      · split
        · exact Or.inr (Or.inl ⟨rfl, rfl⟩)
        · exact Or.inr (Or.inr ⟨rfl, rfl⟩)
    show (evt x).2 = ((evt x).2.toNat : Int) ∧ ((evt x).1 ≤ 5 ∧ (evt x).2.toNat ≤ 16)
    rcases h5 with ⟨e1, e2⟩ | ⟨e1, e2⟩ | ⟨e1, e2⟩
    · have := hok e1
      rw [e1, e2]
      omega
    · rw [e1, e2]
      omega
    · rw [e1, e2]
      omega
  have HK : Hid ((evn x).1 = (evt x).1) := rfl
  rw [HO.out.1, ← HK.out] at HE
  rw [← HK.out]
  generalize hz : evn x = z at *
  obtain ⟨kz, nz⟩ := z
  dsimp only at *
  clear hr h1 h2 hm hx hl hn hok hat HK hz
  go_enter Tryz.func49, Tryz.ntmps49
  go_wp2_with fail
  refine Calls.mono HE.out ?_
  rintro e w1 ⟨rfl, hb⟩
  have hb2 : Below W.heap.size W (w1.alloc (.cells #[.int .i64 (kz : Int), .int .i64 (nz : Int)] 98)) := hb.alloc hb.size _
  have hn2 : (w1.alloc (.cells #[.int .i64 (kz : Int), .int .i64 (nz : Int)] 98)).heap[w1.heap.size]? = some (.cells #[.int .i64 (kz : Int), .int .i64 (nz : Int)] 98 (0, 0)) := heap_alloc_new w1 _
  have e0 : (w1.alloc (.cells #[.int .i64 (kz : Int), .int .i64 (nz : Int)] 98)).cell? ⟨w1.heap.size, 0, none⟩ = some (.int .i64 (kz : Int)) := by rw [World.cell?, hn2]; rfl
  have e1 : (w1.alloc (.cells #[.int .i64 (kz : Int), .int .i64 (nz : Int)] 98)).cell? ⟨w1.heap.size, 1, none⟩ = some (.int .i64 (nz : Int)) := by rw [World.cell?, hn2]; rfl
  have hbx : (w1.alloc (.cells #[.int .i64 (kz : Int), .int .i64 (nz : Int)] 98)).heap[r2]? = some (.cells #[.map (some mb)] 66 (0, 0)) := (hb2.block r2 (Array.getElem?_eq_some_iff.1 HM.out.2.1).1).trans HM.out.2.1
  obtain ⟨d2, _⟩ := box_cell hbx
  have hm2 : IsMp bmap (w1.alloc (.cells #[.int .i64 (kz : Int), .int .i64 (nz : Int)] 98)) mb f n := HM.out.1.same (hb2.block mb HM.out.1.lt)
  have hlk := hm2.lookOk bmap_law (k := (kz, nz)) HO.out.2
  have hlk' : (Instr.lookup 66 (.map (some mb)) (.agg #[.int .i64 (kz : Int), .int .i64 (nz : Int)]) true).run Tryz.prog (w1.alloc (.cells #[.int .i64 (kz : Int), .int .i64 (nz : Int)] 98)) = .ok (.tuple #[(f (kz, nz)).getD (.int .i64 0), .bool (f (kz, nz)).isSome]) (w1.alloc (.cells #[.int .i64 (kz : Int), .int .i64 (nz : Int)] 98)) := hlk
  have HB2 : Hid (Below W.heap.size W (w1.alloc (.cells #[.int .i64 (kz : Int), .int .i64 (nz : Int)] 98))) := hb2
  have HM2 : Hid (IsMp bmap (w1.alloc (.cells #[.int .i64 (kz : Int), .int .i64 (nz : Int)] 98)) mb f n) := hm2
  clear hb hb2 hn2 hbx hm2 hlk HE
  by_cases hk0 : kz = 0
  · have hk0' : ((kz : Int) == 0) = true := by simp [hk0]
    have HZ : Hid (kz = 0) := hk0
    clear hk0
    go_wp2
    go_ret
    exact Or.inl ⟨HZ.out, rfl, HB2.out⟩
  · have hk0' : ((kz : Int) == 0) = false := by simp; omega
    have HZ : Hid (kz ≠ 0) := hk0
    clear hk0
    cases hf : f (kz, nz) with
    | some v =>
      have HF : Hid ((f (kz, nz)).isSome = true) := by show _ = _; rw [hf]; rfl
      rw [hf] at hlk'
      simp only [Option.getD_some, Option.isSome_some] at hlk'
      go_wp2
      go_ret
      exact Or.inr (Or.inl ⟨HZ.out, HF.out, rfl, HB2.out⟩)
    | none =>
      rw [hf] at hlk'
      simp only [Option.getD_none, Option.isSome_none] at hlk'
      have HF : Hid (f (kz, nz) = none) := hf
      obtain ⟨w3, hup, hm3, hg3⟩ := HM2.out.put bmap_law (k := (kz, nz)) HO.out.2 (by have := HM.out.2.2; unfold maxLen; omega) (.int .i64 ((at_ : Int) + 1))
      have hup' : (Instr.mapUpdate 66 (.map (some mb)) (.agg #[.int .i64 (kz : Int), .int .i64 (nz : Int)]) (.int .i64 ((at_ : Int) + 1))).run Tryz.prog (w1.alloc (.cells #[.int .i64 (kz : Int), .int .i64 (nz : Int)] 98)) = .ok () w3 := hup
      rw [hf] at hm3
      have H3 : Hid (Fr [mb] W w3 ∧ IsMp bmap w3 mb (upd f (kz, nz) (some (.int .i64 ((at_ : Int) + 1)))) (n + 1)) := ⟨(Fr.of_below HB2.out).trans (Fr.grown hg3) (fun _ hx => Or.inl hx), hm3⟩
      clear hup hm3 hg3 hf
      go_wp2
      go_ret
      exact Or.inr (Or.inr ⟨HZ.out, HF.out, rfl, H3.out.1, H3.out.2⟩)
end Go.Proofs.YtjoflihimpipcabGreat.Nm
