import Derived.Test.YtgiilaaoeefpmaaGreatGrMap
import Derived.Laws.CopyOwn
import Derived.Lib.AppendZerosOnto
import Derived.Lib.Overlaps
import Derived.Laws.Externs
namespace Go.Proofs.YtgiilaaoeefpmaaGreat.Gr
open Go.RowKit Go.Proofs.YtgiilaaoeefpmaaGreat.Sp Go.Proofs.YtgiilaaoeefpmaaGreat.Lx

/-- copy of elements of several cells, into a row that is known -/
theorem run_copy_rows {P : Program} (w : World) (dT sT ty elem : TypeId) (i : TypeInfo) (hq : P.info? elem = some i) (g o dLen dCap : Nat) (a : Addr) (sLen sCap k : Nat) (hk : Nat.min sLen dLen = k) (cur : List Value) (t : TypeId) (cs : List Value)
    (hu : P.underlying dT = some (.slice elem))
    (hg : w.heap[g]? = some (.cells cur.toArray t (0, 0))) (hn : cs.length = k * i.size)
    (hsrc : ∀ j v, cs[j]? = some v → w.cell? (a.add j) = some v) (hfit : o + cs.length ≤ cur.length) (h1 : ∀ v ∈ cs, v.oneCell' = true) :
    (Builtin.copy_ #[dT, sT] ty #[.slice (some ⟨g, o, none⟩) dLen dCap, .slice (some a) sLen sCap]).run P w = .ok (goInt k) (w.setRow g (splice cur o cs).toArray) := by
  have hl := run_loadCells_list (P := P) w a cs hsrc
  have hst := run_storeCells_at P g o t cs 0 cur.toArray w hg (by simpa using hfit) h1
  simp only [Nat.add_zero] at hst
  simp [Builtin.copy_, run_underlying hu, Builtin.lenOf, Builtin.firstCells, sizeOf, typeInfo, hq, hk, ← hn, hl, hst, splice]

theorem wpList_copy_eq {P : Program} (w : World) {ops : Array Oper} {rest : List Oper} {o : Oper} {a : Act} {Q : Exit → Act → World → Prop} (hgd : o.guard = none) (d s : Operand) (t t' : TypeId)
    (ho : o.op = .call { callee := .builtin .copy, args := #[d, s], argTypes := #[t, t'] }) (v u : Value) (hd : a.eval d = v) (hs : a.eval s = u) {v' : Value} {w' : World}
    (hr : (Builtin.copy_ #[t, t'] o.type #[v, u]).run P w = .ok v' w') (h : wpList P ops Q rest (a.put o.dst v') w') : wpList P ops Q (o :: rest) a w := by
  refine wpList_plain hgd fun K hK => ?_
  unfold Oper.wp execOp
  simp only [ho, resolve, invoke, builtin, Sem.run_bind, Sem.run_pure, Result.andThen_ok, List.map_toArray, List.map_cons, List.map_nil, hd, hs, hr]
  exact hK _ _ h
theorem step_copy_eq {P : Program} {ops : Array Oper} {o : Oper} {a : Act} {w : World} {K : Act → World → Prop} {Q : Exit → Act → World → Prop} {E : Prop}
    (hg : o.guard = none) (d x : Operand) (dT sT : TypeId) (hop : o.op = Op.call { callee := Callee.builtin Builtin.copy, args := #[d, x], argTypes := #[dT, sT] })
    (v u : Value) (hd : a.eval d = v) (hx : a.eval x = u) {v' : Value} {w' : World} (hr : (Builtin.copy_ #[dT, sT] o.type #[v, u]).run P w = .ok v' w') (hK : K (a.put o.dst v') w') :
    if Region.wanted o (yielded ops a.tmps) = true then Oper.wp P o a w K Q else E := by
  have hw : Region.wanted o (yielded ops a.tmps) = true := by simp [Region.wanted, hg]
  rw [if_pos hw]
  unfold Oper.wp
  simp [execOp, hop, resolve, invoke, builtin, hd, hx, hr, Result.andThen]
  exact hK

theorem ins_shift (L xs ys : List Value) (A B : Nat) (hA : A ≤ xs.length) (hB : ys.length = B) (hx : L.take xs.length = xs) (hl : xs.length + B ≤ L.length) :
    (splice (splice L (A + B) (xs.drop A)) A ys).take (xs.length + B) = xs.take A ++ ys ++ xs.drop A := by
  have e1 : L.take A = xs.take A := by rw [← hx, List.take_take, Nat.min_eq_left hA]
  have hdl : (xs.drop A).length = xs.length - A := List.length_drop
  have hLA : (L.take (A + B)).length = A + B := by rw [List.length_take]; omega
  have e2 : (splice L (A + B) (xs.drop A)).take A = xs.take A := by
    unfold splice
    rw [List.take_append_of_le_length (by omega), List.take_take, Nat.min_eq_left (by omega), e1]
  have e3 : (splice L (A + B) (xs.drop A)).drop (A + B) = xs.drop A ++ L.drop (A + B + (xs.drop A).length) := by
    unfold splice
    rw [List.drop_append_of_le_length (by omega), List.drop_eq_nil_of_le (by omega), List.nil_append]
  rw [splice, hB, e2, e3]
  rw [show xs.take A ++ (ys ++ (xs.drop A ++ L.drop (A + B + (xs.drop A).length))) = (xs.take A ++ ys ++ xs.drop A) ++ L.drop (A + B + (xs.drop A).length) by simp]
  rw [List.take_append_of_le_length (by simp; omega)]
  exact List.take_of_length_le (by simp; omega)
theorem ins_new (Z xs ys : List Value) (A B : Nat) (hA : A ≤ xs.length) (hB : ys.length = B) (hx : Z.take A = xs.take A) :
    (splice (splice Z A ys) (A + B) (xs.drop A)).take (xs.length + B) = xs.take A ++ ys ++ xs.drop A := by
  have hdl : (xs.drop A).length = xs.length - A := List.length_drop
  have e1 : (splice Z A ys).take (A + B) = xs.take A ++ ys := by
    unfold splice
    rw [← List.append_assoc, hx, List.take_append_of_le_length (by simp; omega)]
    exact List.take_of_length_le (by simp; omega)
  rw [splice, e1, ← List.append_assoc, List.take_append_of_le_length (by simp; omega)]
  exact List.take_of_length_le (by simp; omega)
theorem row_cells {w : World} {g : Nat} {cur : List Value} {t : TypeId} {f : Nat × Nat} (hg : w.heap[g]? = some (.cells cur.toArray t f)) (o : Nat) (cs : List Value) (hc : ∀ j v, cs[j]? = some v → cur[o + j]? = some v) :
    ∀ j v, cs[j]? = some v → w.cell? ((⟨g, o, none⟩ : Addr).add j) = some v := by
  intro j v hj
  rw [Lib.addr_add]
  simp [World.cell?, hg, hc j v hj]
theorem arr3 (l : List Value) (a b : Array Value) : l.toArray ++ a ++ b = (l ++ (a ++ b).toList).toArray := by
  apply Array.ext'
  simp
theorem grown_row (w : World) (g : Nat) (cs : Array Value) : w.grownBy (w.setRow g cs) (some g) :=
  ⟨rfl, rfl, rfl, by simp [World.setRow], fun k _ hk => setRow_other w g k cs (fun e => hk (by rw [e]))⟩

theorem sizrow (w : World) : (Go.sizeOf 46).run Tryz.prog w = .ok 5 w := by
  obtain ⟨i0, hi, hz0, hz1, hz2⟩ := info_parts info46
  simp [Go.sizeOf, typeInfo, hi, hz1]
section
variable (n cap i m vc g h : Nat) (xs ys cur cur2 : List Value) (w : World) (hi : i < n) (hm : 0 < m) (hnc : n ≤ cap) (hsm : n + m ≤ 1000000)
  (hg : w.heap[g]? = some (.cells cur.toArray 46 (0, 0))) (hcs : cur.length = cap * 5) (hxl : xs.length = n * 5) (hx : cur.take (n * 5) = xs)
  (hh : w.heap[h]? = some (.cells cur2.toArray 46 (0, 0))) (hyl : ys.length = m * 5) (hy : cur2.take (m * 5) = ys) (h1x : ∀ v ∈ xs, v.oneCell' = true) (h1y : ∀ v ∈ ys, v.oneCell' = true)
include hi hm hnc hsm hg hcs hxl hx hh hyl hy h1x h1y

set_option maxHeartbeats 4000000 in
set_option maxRecDepth 100000 in
omit hnc in
theorem insrow_room (hroom : n + m ≤ cap) (hcap : cap ≤ maxLen) (hne : h ≠ g) :
    Calls Tryz.prog 142 #[.slice (some ⟨g, 0, none⟩) n cap, .int .i64 i, .slice (some ⟨h, 0, none⟩) m vc] w fun e w' => e = .returned (.slice (some ⟨g, 0, none⟩) (n + m) cap) ∧
      ∃ cur' : List Value, w'.heap[g]? = some (.cells cur'.toArray 46 (0, 0)) ∧ cur'.length = cap * 5 ∧ cur'.take ((n + m) * 5) = xs.take (i * 5) ++ ys ++ xs.drop (i * 5) ∧ w.grownBy w' (some g) := by
  obtain ⟨i0, hi0, hz0, hzs, hzb⟩ := info_parts info46
  have hc63 : cap ≤ 9223372036854775807 := hcap
  have hz1 : ¬ ((m : Int) = 0) := by omega
  have hz2 : ¬ ((i : Int) = (n : Int)) := by omega
  have hdl : (xs.drop (i * 5)).length = (n - i) * 5 := by rw [List.length_drop, hxl] <;> omega
  have hov : ∀ lb cb, (callFunc 145 #[.slice (some ⟨h, 0, none⟩) m vc, .slice (some ⟨g, (i + m) * 5, none⟩) lb cb]).run Tryz.prog w = .ok (.value (.bool false)) w := fun lb cb => by
    rw [run_callFunc_extern Tryz.func145 (by kernel_rfl) (by kernel_rfl) (by kernel_rfl) (e := Extern.SlicesOverlaps.overlaps #[22, 22] #[4]) (by kernel_rfl),
      Lib.run_overlaps_apart w 22 4 46 Tryz.underlying22 5 sizrow ⟨h, 0, none⟩ ⟨g, (i + m) * 5, none⟩ m vc lb cb hne 46 46 cur2.length cur.length (by simp [World.shape?, hh]) (by simp [World.shape?, hg]) (by rw [hcs]; omega) (by simp [World.frozen?, hh]) (by simp [World.frozen?, hh])]
    rfl
  have hw1 : IntKind.i64.wrap ((i : Int) + (m : Int)) = (i : Int) + (m : Int) := by rw [IntKind.wrap_i64]; omega
  have hb1 : (0 : Int) ≤ (i : Int) + (m : Int) := by omega
  have hin : i ≤ n := by omega
  have htn : ((i : Int) + (m : Int)).toNat = i + m := by omega
  have hb2 : ¬ (cap = i + m) := by omega
  have hb3 : (i : Int) ≤ (n : Int) + (m : Int) := by omega
  have hb4 : ¬ (cap = i) := by omega
  obtain ⟨W1, hW1⟩ : ∃ W1, W1 = w.drew.setRow g (splice cur ((i + m) * 5) (xs.drop (i * 5))).toArray := ⟨_, rfl⟩
  have hcp1 : ∀ ty dc sc, (Builtin.copy_ #[22, 22] ty #[.slice (some ⟨g, (i + m) * 5, none⟩) (n + m - (i + m)) dc, .slice (some ⟨g, i * 5, none⟩) (n + m - i) sc]).run Tryz.prog w.drew = .ok (goInt ((n - i : Nat) : Int)) W1 := fun ty dc sc => by
    rw [hW1]
    refine run_copy_rows w.drew _ _ ty 46 i0 hi0 g ((i + m) * 5) _ dc ⟨g, i * 5, none⟩ _ sc (n - i) (by simp only [Nat.min_def]; split <;> omega) cur 46 _ Tryz.underlying22 hg (by rw [hdl, hzs] <;> omega) ?_ (by rw [hdl, hcs]; omega) (fun v hv => h1x v (List.mem_of_mem_drop hv))
    refine row_cells hg _ _ fun j v hj => ?_
    rw [List.getElem?_drop, ← hx] at hj
    have hlt : i * 5 + j < n * 5 := by
      rcases Nat.lt_or_ge (i * 5 + j) (n * 5) with hq | hq
      · exact hq
      · rw [List.getElem?_eq_none (by rw [List.length_take]; omega)] at hj; cases hj
    rwa [List.getElem?_take_of_lt hlt] at hj
  have hg1 : W1.heap[g]? = some (.cells (splice cur ((i + m) * 5) (xs.drop (i * 5))).toArray 46 (0, 0)) := by rw [hW1]; exact setRow_heap w.drew g _ _ _ _ hg
  have hh1 : W1.heap[h]? = some (.cells cur2.toArray 46 (0, 0)) := by rw [hW1, setRow_other _ _ _ _ hne]; exact hh
  have hl1 : (splice cur ((i + m) * 5) (xs.drop (i * 5))).length = cap * 5 := by rw [length_splice _ _ _ (by rw [hdl, hcs]; omega), hcs]
  have hG1 : w.grownBy W1 (some g) := by
    rw [hW1]
    have := grown_row w.drew g (splice cur ((i + m) * 5) (xs.drop (i * 5))).toArray
    exact ⟨this.os, this.tape, this.output, this.size, this.block⟩
  obtain ⟨W2, hW2⟩ : ∃ W2, W2 = W1.setRow g (splice (splice cur ((i + m) * 5) (xs.drop (i * 5))) (i * 5) ys).toArray := ⟨_, rfl⟩
  have hcp2 : ∀ ty dc, (Builtin.copy_ #[22, 22] ty #[.slice (some ⟨g, i * 5, none⟩) (n + m - i) dc, .slice (some ⟨h, 0, none⟩) m vc]).run Tryz.prog W1 = .ok (goInt ((m : Nat) : Int)) W2 := fun ty dc => by
    rw [hW2]
    refine run_copy_rows W1 _ _ ty 46 i0 hi0 g (i * 5) _ dc ⟨h, 0, none⟩ _ vc m (by simp only [Nat.min_def]; split <;> omega) _ 46 _ Tryz.underlying22 hg1 (by rw [hyl, hzs] <;> omega) ?_ (by rw [hl1, hyl]; omega) h1y
    refine row_cells hh1 _ _ fun j v hj => ?_
    rw [Nat.zero_add]
    rw [← hy] at hj
    rw [List.getElem?_take] at hj
    split at hj
    · exact hj
    · cases hj
  have HF : Hid (∃ cur' : List Value, W2.heap[g]? = some (.cells cur'.toArray 46 (0, 0)) ∧ cur'.length = cap * 5 ∧ cur'.take ((n + m) * 5) = xs.take (i * 5) ++ ys ++ xs.drop (i * 5) ∧ w.grownBy W2 (some g)) := by
    refine ⟨splice (splice cur ((i + m) * 5) (xs.drop (i * 5))) (i * 5) ys, by rw [hW2]; exact setRow_heap W1 g _ _ _ _ hg1, ?_, ?_, ?_⟩
    · rw [length_splice _ _ _ (by rw [hl1, hyl]; omega), hl1]
    · have := ins_shift cur xs ys (i * 5) (m * 5) (by rw [hxl]; omega) hyl (by rw [hxl]; exact hx) (by rw [hxl, hcs]; omega)
      rw [hxl] at this
      rw [show (i + m) * 5 = i * 5 + m * 5 by omega, show (n + m) * 5 = n * 5 + m * 5 by omega]
      exact this
    · rw [hW2]
      exact hG1.trans (grown_row W1 g _)
  clear hW1 hW2 hg1 hh1 hl1 hG1 hg hh hx hy hcs hxl hyl h1x h1y hdl hi0 hz0 hzs hzb hcap
  go_enter Tryz.func142, Tryz.ntmps142
  go_wp2_with (simp only [hov])
  go_region_law (refine step_copy_eq rfl (.tmp 73) (.tmp 76) 22 22 rfl _ _ (by simp [Act.eval, Act.put]) (by simp [Act.eval, Act.put]) (hcp1 _ _ _) ?_)
  go_wp2_with (guard_target =~ wpList _ _ _ (Oper.mk _ (Op.call _) _ _ _ _ :: _) _ _; refine wpList_copy_eq _ rfl _ _ 22 22 rfl _ _ rfl rfl (hcp2 _ _) ?_)
  go_ret
  exact ⟨rfl, HF.out⟩

set_option maxHeartbeats 4000000 in
set_option maxRecDepth 100000 in
theorem insrow_grow (hroom : cap < n + m) :
    Calls Tryz.prog 142 #[.slice (some ⟨g, 0, none⟩) n cap, .int .i64 i, .slice (some ⟨h, 0, none⟩) m vc] w fun e w' => ∃ G, e = .returned (.slice (some ⟨w.heap.size, 0, none⟩) (n + m) G) ∧ n + m ≤ G ∧ G ≤ maxLen ∧
      ∃ cur' : List Value, w'.heap[w.heap.size]? = some (.cells cur'.toArray 46 (0, 0)) ∧ cur'.length = G * 5 ∧ cur'.take ((n + m) * 5) = xs.take (i * 5) ++ ys ++ xs.drop (i * 5) ∧ Below w.heap.size w w' := by
  obtain ⟨i0, hi0, hz0, hzs, hzb⟩ := info_parts info46
  have hz1 : ¬ ((m : Int) = 0) := by omega
  have hz2 : ¬ ((i : Int) = (n : Int)) := by omega
  have hz3 : (cap : Int) < (n : Int) + (m : Int) := by omega
  have hdl : (xs.drop (i * 5)).length = (n - i) * 5 := by rw [List.length_drop, hxl] <;> omega
  have htl : (xs.take (i * 5)).length = i * 5 := by rw [List.length_take, hxl]; omega
  have hgw : g < w.heap.size := (Array.getElem?_eq_some_iff.1 hg).1
  have hhw : h < w.heap.size := (Array.getElem?_eq_some_iff.1 hh).1
  have hkk : (n : Int) + (m : Int) - (i : Int) = ((n + m - i : Nat) : Int) := by omega
  have hik : i + (n + m - i) = n + m := by omega
  have hold : (Builtin.firstCells i0.size i (.slice (some ⟨g, 0, none⟩) i cap)).run Tryz.prog w.drew = .ok (xs.take (i * 5)).toArray w.drew := by
    rw [hzs]
    exact run_firstCells_some w.drew 5 i ⟨g, 0, none⟩ i cap (xs.take (i * 5)) (by rw [htl] <;> omega) (row_cells (w := w.drew) hg _ _ fun j v hj => by
      rw [Nat.zero_add]
      rw [List.getElem?_take] at hj
      split at hj
      · rw [← hx, List.getElem?_take] at hj
        split at hj
        · exact hj
        · cases hj
      · cases hj)
  obtain ⟨G, hG⟩ : ∃ G, G = grownCap w (n + m) cap 46 := ⟨_, rfl⟩
  obtain ⟨Z, hZ⟩ : ∃ Z : List Value, Z = xs.take (i * 5) ++ (Builtin.zeroCells (.agg #[.int .i64 0, .string ⟨#[]⟩, .int .i64 0, .int .i64 0, .int .i64 0] : Value).cells (n + m - i) ++ Builtin.zeroCells (.agg #[.int .i64 0, .string ⟨#[]⟩, .int .i64 0, .int .i64 0, .int .i64 0] : Value).cells (G - (n + m))).toList := ⟨_, rfl⟩
  obtain ⟨W1, hW1⟩ : ∃ W1, W1 = w.drew.alloc (.cells Z.toArray 46) := ⟨_, rfl⟩
  have hrz : ∀ ty, (Builtin.append_ #[22, 3] ty #[.slice (some ⟨g, 0, none⟩) i cap, .int .i64 ((n : Int) + (m : Int) - (i : Int))]).run Tryz.prog w = .ok (.slice (some ⟨w.heap.size, 0, none⟩) (n + m) G) W1 := fun ty => by
    have hq := Lib.run_append_grow_zeros w 22 3 ty 46 i0 _ .i64 .i64 Tryz.underlying22 Tryz.underlying3 hi0 hz0 (some ⟨g, 0, none⟩) i cap (xs.take (i * 5)) hold (n + m - i) (by omega) (by omega) (by omega) (by omega) (by rw [hzb]; omega) (by rw [hzb, hik]; exact growslice_fits hroom (by omega))
    rw [hik] at hq
    rw [hkk, hq, hW1, hZ, hG, arr3]
  have hGn : n + m ≤ G ∧ G ≤ maxLen := by
    rw [hG]
    exact ⟨grownCap_ge _ _ _ _, grownCap_le_maxLen _ _ _ _ (by unfold maxLen; omega)⟩
  have hZl : Z.length = G * 5 := by
    rw [hZ, List.length_append, htl]
    simp [Builtin.zeroCells, Value.cells]
    omega
  have hgN : W1.heap[w.heap.size]? = some (.cells Z.toArray 46 (0, 0)) := by rw [hW1]; exact heap_alloc_new w.drew _
  have hB1 : Below w.heap.size w W1 := by rw [hW1]; exact ((Below.refl _ w).drew).alloc (Nat.le_refl _) _
  have hh1 : W1.heap[h]? = some (.cells cur2.toArray 46 (0, 0)) := (hB1.block h hhw).trans hh
  obtain ⟨W2, hW2⟩ : ∃ W2, W2 = W1.setRow w.heap.size (splice Z (i * 5) ys).toArray := ⟨_, rfl⟩
  have hcp1 : ∀ ty dc, (Builtin.copy_ #[22, 22] ty #[.slice (some ⟨w.heap.size, i * 5, none⟩) (n + m - i) dc, .slice (some ⟨h, 0, none⟩) m vc]).run Tryz.prog W1 = .ok (goInt ((m : Nat) : Int)) W2 := fun ty dc => by
    rw [hW2]
    refine run_copy_rows W1 _ _ ty 46 i0 hi0 w.heap.size (i * 5) _ dc ⟨h, 0, none⟩ _ vc m (by simp only [Nat.min_def]; split <;> omega) _ 46 _ Tryz.underlying22 hgN (by rw [hyl, hzs] <;> omega) ?_ (by rw [hZl, hyl]; omega) h1y
    refine row_cells hh1 _ _ fun j v hj => ?_
    rw [Nat.zero_add]
    rw [← hy] at hj
    rw [List.getElem?_take] at hj
    split at hj
    · exact hj
    · cases hj
  have hg2 : W2.heap[w.heap.size]? = some (.cells (splice Z (i * 5) ys).toArray 46 (0, 0)) := by rw [hW2]; exact setRow_heap W1 _ _ _ _ _ hgN
  have hl2 : (splice Z (i * 5) ys).length = G * 5 := by rw [length_splice _ _ _ (by rw [hZl, hyl]; omega), hZl]
  have hB2 : Below w.heap.size w W2 := by rw [hW2]; exact below_setRow hB1 (Nat.le_refl _) _
  have hgg : W2.heap[g]? = some (.cells cur.toArray 46 (0, 0)) := (hB2.block g hgw).trans hg
  obtain ⟨W3, hW3⟩ : ∃ W3, W3 = W2.drew.setRow w.heap.size (splice (splice Z (i * 5) ys) ((i + m) * 5) (xs.drop (i * 5))).toArray := ⟨_, rfl⟩
  have hcp2 : ∀ ty dc sc, (Builtin.copy_ #[22, 22] ty #[.slice (some ⟨w.heap.size, (i + m) * 5, none⟩) (n + m - (i + m)) dc, .slice (some ⟨g, i * 5, none⟩) (n - i) sc]).run Tryz.prog W2.drew = .ok (goInt ((n - i : Nat) : Int)) W3 := fun ty dc sc => by
    rw [hW3]
    refine run_copy_rows W2.drew _ _ ty 46 i0 hi0 w.heap.size ((i + m) * 5) _ dc ⟨g, i * 5, none⟩ _ sc (n - i) (by simp only [Nat.min_def]; split <;> omega) _ 46 _ Tryz.underlying22 hg2 (by rw [hdl, hzs] <;> omega) ?_ (by rw [hdl, hl2]; omega) (fun v hv => h1x v (List.mem_of_mem_drop hv))
    refine row_cells (w := W2.drew) hgg _ _ fun j v hj => ?_
    rw [List.getElem?_drop, ← hx] at hj
    have hlt : i * 5 + j < n * 5 := by
      rcases Nat.lt_or_ge (i * 5 + j) (n * 5) with hq | hq
      · exact hq
      · rw [List.getElem?_eq_none (by rw [List.length_take]; omega)] at hj; cases hj
    rwa [List.getElem?_take_of_lt hlt] at hj
  have HF : Hid (n + m ≤ G ∧ G ≤ maxLen ∧ ∃ cur' : List Value, W3.heap[w.heap.size]? = some (.cells cur'.toArray 46 (0, 0)) ∧ cur'.length = G * 5 ∧ cur'.take ((n + m) * 5) = xs.take (i * 5) ++ ys ++ xs.drop (i * 5) ∧ Below w.heap.size w W3) := by
    refine ⟨hGn.1, hGn.2, splice (splice Z (i * 5) ys) ((i + m) * 5) (xs.drop (i * 5)), by rw [hW3]; exact setRow_heap W2.drew _ _ _ _ _ hg2, ?_, ?_, ?_⟩
    · rw [length_splice _ _ _ (by rw [hl2, hdl]; omega), hl2]
    · have := ins_new Z xs ys (i * 5) (m * 5) (by rw [hxl]; omega) hyl (by rw [hZ, List.take_append_of_le_length (by rw [htl]; omega)]; exact List.take_of_length_le (by rw [htl]; omega))
      rw [hxl] at this
      rw [show (i + m) * 5 = i * 5 + m * 5 by omega, show (n + m) * 5 = n * 5 + m * 5 by omega]
      exact this
    · rw [hW3]
      exact below_setRow hB2.drew (Nat.le_refl _) _
  have hb1 : (0 : Int) ≤ (i : Int) + (m : Int) := by omega
  have hw1 : IntKind.i64.wrap ((i : Int) + (m : Int)) = (i : Int) + (m : Int) := by rw [IntKind.wrap_i64]; omega
  have hin : i ≤ n := by omega
  have htn : ((i : Int) + (m : Int)).toNat = i + m := by omega
  have hb2 : ¬ (G = i + m) := by omega
  have hb4 : ¬ (G = i) := by omega
  have hb5 : ¬ (cap = i) := by omega
  have hb6 : (i : Int) ≤ (n : Int) + (m : Int) := by omega
  clear hW1 hW2 hW3 hg2 hh1 hl2 hB1 hB2 hgg hgN hZl hGn hZ hG hold hg hh hx hy hcs hxl hyl h1x h1y hdl htl hi0 hz0 hzs hzb hkk hik hgw hhw
  go_enter Tryz.func142, Tryz.ntmps142
  go_wp2_with (first
    | (at_builtin; refine Lib.wpList_append_run _ rfl _ _ 22 3 rfl _ _ rfl rfl _ _ (hrz _) ?_)
    | (guard_target =~ wpList _ _ _ (Oper.mk _ (Op.call _) _ _ _ _ :: _) _ _; refine wpList_copy_eq _ rfl _ _ 22 22 rfl _ _ rfl rfl (hcp1 _ _) ?_))
  go_region_law (refine step_copy_eq rfl (.tmp 50) (.tmp 53) 22 22 rfl _ _ (by simp [Act.eval, Act.put]) (by simp [Act.eval, Act.put]) (hcp2 _ _ _) ?_)
  go_wp2_with fail
  go_ret
  exact ⟨G, rfl, HF.out⟩
end
end Go.Proofs.YtgiilaaoeefpmaaGreat.Gr
