import Derived.Test.YtcicifcnffacpaaDoorJK
import Derived.Laws.CopyOwn
import Derived.Laws.Externs
import Derived.Test.YtcicifcnffacpaaDoorJT
set_option linter.unusedSimpArgs false
namespace Go.Proofs.YtcicifcnffacpaaDoor.Cd
open Go.RowKit Go.Proofs.YtcicifcnffacpaaDoor.Nm Go.Proofs.YtcicifcnffacpaaDoor.Vf

/-- a row that is made -/
theorem mk_row {ts e : TypeId} {z : Value} {sz by_ : Nat} (hu : Tryd.prog.underlying ts = some (.slice e)) (hinfo : (Tryd.prog.info? e).map (fun i => (i.zero, i.size, i.bytes)) = some (some z, sz, by_)) (n : Nat) (hn : n ≤ 1000000) (hb : by_ ≤ 100) :
    ∀ u : World, (Instr.makeSlice ts (.int .i64 (n : Int)) (.int .i64 (n : Int))).run Tryd.prog u = .ok (.slice (some ⟨u.heap.size, 0, none⟩) n n) (u.alloc (.cells (madeCells z.cells (n * sz)) e)) := fun u => by
  obtain ⟨i0, hi, hz0, hz1, hz2⟩ := info_parts hinfo
  have hm : (by_ : Int) * (n : Int) ≤ 100 * 1000000 := Int.mul_le_mul (by omega) (by omega) (by omega) (by omega)
  have h := run_make (P := Tryd.prog) u ts e i0 z hu hi hz0 .i64 .i64 (n : Int) (n : Int) (by omega) (Int.le_refl _) (by rw [hz2]; omega) (by omega)
  rw [hz1] at h
  rw [h]
  simp only [Int.toNat_natCast]
/-- copy of elements of several cells, into a row that is known -/
theorem run_copy_rows {P : Program} (w : World) (dT sT ty elem : TypeId) (i : TypeInfo) (hq : P.info? elem = some i) (g o dLen dCap : Nat) (a : Addr) (sLen sCap k : Nat) (hk : Nat.min sLen dLen = k) (cur : List Value) (t : TypeId) (cs : List Value)
    (hu : P.underlying dT = some (.slice elem))
    (hg : w.heap[g]? = some (.cells cur.toArray t (0, 0))) (hn : cs.length = k * i.size)
    (hsrc : ∀ j v, cs[j]? = some v → w.cell? (a.add j) = some v) (hfit : o + cs.length ≤ cur.length) (h1 : ∀ v ∈ cs, v.oneCell' = true) :
    (Builtin.copy_ #[dT, sT] ty #[.slice (some ⟨g, o, none⟩) dLen dCap, .slice (some a) sLen sCap]).run P w = .ok (goInt k) (w.setRow g (splice cur o cs).toArray) := by
  have hl := run_loadCells_list (P := P) w a cs hsrc
  have hst := run_storeCells_at P g o t cs 0 cur.toArray w hg (by simpa using hfit) h1
  simp only [Nat.add_zero] at hst
  simp [Builtin.copy_, run_underlying hu, Builtin.lenOf, Builtin.firstCells, sizeOf, typeInfo, hq, hk, ← hn, hl, hst, splice]
theorem run_copy_zero {P : Program} (w : World) (dT sT ty elem : TypeId) (i : TypeInfo) (hq : P.info? elem = some i) (d a : Option Addr) (dLen dCap sLen sCap : Nat) (hu : P.underlying dT = some (.slice elem)) (hn : Nat.min sLen dLen = 0) :
    (Builtin.copy_ #[dT, sT] ty #[.slice d dLen dCap, .slice a sLen sCap]).run P w = .ok (goInt 0) w := by
  have hl : ∀ (x : Addr), (loadCells x 0).run P w = .ok #[] w := fun x => by simpa using run_loadCells_list (P := P) w x [] (by simp)
  cases d <;> cases a <;> simp [Builtin.copy_, run_underlying hu, Builtin.lenOf, Builtin.firstCells, sizeOf, typeInfo, hq, hn, storeCells, hl]
/-- cells in a block of their own -/
def Bk (W : World) (g : Nat) (e : TypeId) (xs : List Value) : Prop := W.heap[g]? = some (.cells xs.toArray e (0, 0))
theorem Bk.rd {W : World} {g : Nat} {e : TypeId} {xs ys : List Value} (h : Bk W g e (xs ++ ys)) : Vf.Rd W (some ⟨g, 0, none⟩) xs := fun j x hx => by
  refine ⟨g, 0, rfl, blk_lt h, ?_⟩
  have hj : j < xs.length := (List.getElem?_eq_some_iff.1 hx).1
  rw [Nat.zero_add]
  have h9 : W.heap[g]? = _ := h
  simp only [World.cell?, h9]
  rw [List.getElem?_toArray, List.getElem?_append_left hj, hx]
  rfl
theorem Bk.cell {W : World} {g : Nat} {e : TypeId} {xs : List Value} (h : Bk W g e xs) {j : Nat} {v : Value} (hj : xs[j]? = some v) : W.cell? ⟨g, j, none⟩ = some v := by
  have h9 : W.heap[g]? = _ := h
  simp only [World.cell?, h9]
  rw [List.getElem?_toArray, hj]
  rfl
theorem Bk.below {W W' : World} {g : Nat} {e : TypeId} {xs : List Value} (h : Bk W g e xs) (hb : Below W.heap.size W W') : Bk W' g e xs := (hb.block _ (blk_lt h)).trans h
theorem Bk.setIn {W : World} {g : Nat} {e : TypeId} {ys : List Value} (h : Bk W g e ys) (j : Nat) (v : Value) : Bk (W.setCell ⟨g, j, none⟩ v) g e (ys.set j v) := by
  show (W.setCell ⟨g, j, none⟩ v).heap[g]? = _
  rw [heap_setCell_same W g j _ _ v h]
  simp
theorem made_drop (z : Array Value) (sz n k : Nat) (hz : z.size = sz) : (madeCells z ((n + k) * sz)).toList.drop (n * sz) = (madeCells z (k * sz)).toList := by
  subst hz
  apply List.ext_getElem?
  intro j
  rw [List.getElem?_drop, Array.getElem?_toList, Array.getElem?_toList]
  simp only [madeCells, Array.getElem?_map, Array.getElem?_range]
  have hadd : (n + k) * z.size = n * z.size + k * z.size := Nat.add_mul _ _ _
  by_cases hj : j < k * z.size
  · rw [if_pos (by omega), if_pos hj]
    simp [Nat.add_comm]
  · rw [if_neg (by omega), if_neg hj]
/-- a list is copied into a row that was made: the room behind it is zero -/
theorem copiedM {ts e : TypeId} {z : Value} {sz by_ : Nat} (hu : Tryd.prog.underlying ts = some (.slice e)) (hinfo : (Tryd.prog.info? e).map (fun i => (i.zero, i.size, i.bytes)) = some (some z, sz, by_)) (hsz : 0 < sz) (hzc : z.cells.size = sz) (n k cap : Nat) (ao : Option Addr) (xs : List Value) (hx : xs.length = n * sz) (h1 : ∀ v ∈ xs, v.oneCell' = true) (w : World) (h : Vf.Rd w ao xs) :
    ∃ W2, (Builtin.copy_ #[ts, ts] 3 #[.slice (some ⟨w.heap.size, 0, none⟩) (n + k) (n + k), .slice ao n cap]).run Tryd.prog (w.alloc (.cells (madeCells z.cells ((n + k) * sz)) e)) = .ok (goInt n) W2 ∧ Bk W2 w.heap.size e (xs ++ (madeCells z.cells (k * sz)).toList) ∧ Below w.heap.size w W2 := by
  obtain ⟨i0, hi, hz0, hz1, hz2⟩ := info_parts hinfo
  have hB : Below w.heap.size w (w.alloc (.cells (madeCells z.cells ((n + k) * sz)) e)) := (Below.refl _ w).alloc (Nat.le_refl _) _
  have hM : (madeCells z.cells ((n + k) * sz)).toList.length = (n + k) * sz := by rw [Array.length_toList, size_madeCells]
  have hadd : (n + k) * sz = n * sz + k * sz := Nat.add_mul _ _ _
  by_cases h0 : n = 0
  · subst h0
    have hx0 : xs = [] := List.eq_nil_of_length_eq_zero (by rw [hx, Nat.zero_mul])
    subst hx0
    refine ⟨_, run_copy_zero _ ts ts 3 e i0 hi _ ao _ _ _ cap hu (by simp), ?_, hB⟩
    show (w.alloc _).heap[w.heap.size]? = _
    rw [heap_alloc_new, Nat.zero_add]
    simp
  · have hpos : 0 < xs.length := by rw [hx]; exact Nat.mul_pos (by omega) hsz
    obtain ⟨g, f, rfl, -, -⟩ := h 0 xs[0] (List.getElem?_eq_getElem hpos)
    have hsrc : ∀ j v, xs[j]? = some v → (w.alloc (.cells (madeCells z.cells ((n + k) * sz)) e)).cell? ((⟨g, f, none⟩ : Addr).add j) = some v := fun j v hv => by
      obtain ⟨g', f', e', hl, hc⟩ := h j v hv
      cases e'
      rw [Lib.addr_add]
      exact (hB.cell (p := ⟨g, f + j, none⟩) hl).trans hc
    have hnew : (w.alloc (.cells (madeCells z.cells ((n + k) * sz)) e)).heap[w.heap.size]? = some (.cells (madeCells z.cells ((n + k) * sz)).toList.toArray e (0, 0)) := by rw [heap_alloc_new]
    have hr := run_copy_rows (P := Tryd.prog) _ ts ts 3 e i0 hi w.heap.size 0 (n + k) (n + k) ⟨g, f, none⟩ n cap n (by simp) _ e xs hu hnew (by rw [hz1]; exact hx) hsrc (by rw [hM]; omega) h1
    refine ⟨_, hr, ?_, Cd.below_setRow hB (Nat.le_refl _)⟩
    show (World.setRow _ _ _).heap[w.heap.size]? = _
    rw [setRow_heap _ w.heap.size _ _ e (0, 0) hnew, ← made_drop z.cells sz n k hzc, ← hx]
    simp [splice]
/-- the room behind bytes that are lent: k marks -/
def mkB (k : Nat) : List Value := (List.range 5).map fun i => .int .u8 (if i < k then 201 else 0)
theorem mkB_set (k : Nat) (h : k < 5) : (mkB k).set k (.int .u8 201) = mkB (k + 1) := by
  match k, h with
  | 0, _ => rfl
  | 1, _ => rfl
  | 2, _ => rfl
  | 3, _ => rfl
  | 4, _ => rfl
theorem mkB_zero : (madeCells (Value.int .u8 0).cells (5 * 1)).toList = mkB 0 := by
  unfold mkB
  simp [madeCells, Value.cells]
  intro a _
  rw [Nat.mod_one]
  rfl
theorem mkB_len (k : Nat) : (mkB k).length = 5 := by unfold mkB; simp
theorem u8_len0 (l : List Nat) : (u8L l).length = l.length := by simp [u8L]
set_option maxHeartbeats 3200000 in
set_option maxRecDepth 100000 in
/-- bytes lent -/
theorem lendB_any (w : World) (ao : Option Addr) (l : List Nat) (cap : Nat) (h : Vf.Rd w ao (u8L l)) (hn : l.length ≤ 524288) :
    Calls Tryd.prog 18 #[.slice ao l.length cap] w fun e w' => e = .returned (.slice (some ⟨w.heap.size, 0, none⟩) l.length (l.length + 5)) ∧ Bk w' w.heap.size 5 (u8L l ++ mkB 5) ∧ Below w.heap.size w w' := by
  have hmk : ∀ u : World, (Instr.makeSlice 32 (.int .i64 ((l.length : Int) + 5)) (.int .i64 ((l.length : Int) + 5))).run Tryd.prog u = .ok (.slice (some ⟨u.heap.size, 0, none⟩) (l.length + 5) (l.length + 5)) (u.alloc (.cells (madeCells (Value.int .u8 0).cells ((l.length + 5) * 1)) 5)) := fun u => by
    have := mk_row Tryd.underlying32 infoB (l.length + 5) (by omega) (by omega) u
    rw [show ((l.length + 5 : Nat) : Int) = (l.length : Int) + 5 by omega] at this
    exact this
  obtain ⟨W2, hcp, hR, hB⟩ := copiedM Tryd.underlying32 infoB (by decide) rfl l.length 5 cap ao (u8L l) (by rw [u8_len0, Nat.mul_one]) (fun u hu => by
    obtain ⟨x, -, rfl⟩ := List.mem_map.1 hu
    rfl) w h
  have H0 : Hid (Bk W2 w.heap.size 5 (u8L l ++ mkB 0) ∧ Below w.heap.size w W2) := ⟨by rw [← mkB_zero]; exact hR, hB⟩
  have hln : (l.length : Int) ≤ 524288 := by omega
  have HIl : Hid ((u8L l).length = l.length) := u8_len0 l
  generalize madeCells (Value.int .u8 0).cells ((l.length + 5) * 1) = M at hmk hcp
  clear h hn hR hB
  go_enter Tryd.func18, Tryd.ntmps18
  go_wp2_with fail
  go_loopg [4] 5 (fun gq i wr => ∃ k : Nat, k ≤ 5 ∧ gq = 5 - k ∧ i = .int .i64 ((l.length : Int) + k) ∧ Bk wr w.heap.size 5 (u8L l ++ mkB k) ∧ Below w.heap.size w wr)
  case atStart => exact ⟨0, by omega, rfl, by go_num, H0.out.1, H0.out.2⟩
  case round =>
    obtain ⟨k, hk, hgk, rfl, hR, hB⟩ := hrel
    have HG : Hid (gk = 5 - k) := hgk
    have HR : Hid (Bk wr w.heap.size 5 (u8L l ++ mkB k) ∧ Below w.heap.size w wr) := ⟨hR, hB⟩
    have hk3 : (k : Int) ≤ 5 := by omega
    clear hgk hB
    by_cases hlt : k < 5
    · have hlt' : (l.length : Int) + (k : Int) < (l.length : Int) + 5 := by omega
      obtain ⟨v0, hv0⟩ : ∃ v, (u8L l ++ mkB k)[l.length + k]? = some v := ⟨_, List.getElem?_eq_getElem (by rw [List.length_append, HIl.out, mkB_len]; omega)⟩
      have c0 := hR.cell hv0
      have hf := fzb hR (l.length + k)
      have hcast : ((l.length + k : Nat) : Int) = (l.length : Int) + (k : Int) := by omega
      have HS : Hid (Bk (wr.setCell ⟨w.heap.size, l.length + k, none⟩ (.int .u8 201)) w.heap.size 5 (u8L l ++ mkB (k + 1))) := by
        have h9 := hR.setIn (l.length + k) (.int .u8 201)
        rw [List.set_append_right _ _ (by rw [HIl.out]; omega), HIl.out, show l.length + k - l.length = k by omega, mkB_set _ hlt] at h9
        exact h9
      have htn : ((l.length : Int) + (k : Int)).toNat = l.length + k := by omega
      clear hR hlt hv0
      rw [← hcast] at hlt' ⊢
      go_wp2_with fail
      go_roundg (5 - (k + 1))
      case measure => have h1 := HG.out; omega
      case rel => exact ⟨k + 1, by omega, rfl, by go_num, HS.out, HR.out.2.setCell (p := ⟨w.heap.size, l.length + k, none⟩) (Nat.le_refl _) _⟩
    · have hlt' : ¬ ((l.length : Int) + (k : Int) < (l.length : Int) + 5) := by omega
      obtain rfl : k = 5 := by omega
      clear hR hlt
      go_wp2_with fail
      go_ret
      exact ⟨rfl, HR.out⟩
set_option maxHeartbeats 3200000 in
set_option maxRecDepth 100000 in
/-- are they as they were lent? -/
theorem keptB_any (w : World) (g cap : Nat) (ao : Option Addr) (l : List Nat) (hg : Bk w g 5 (u8L l ++ mkB 5)) (h : Vf.Rd w ao (u8L l)) (hl : Low l) (hn : l.length ≤ 524288) :
    Calls Tryd.prog 22 #[.slice (some ⟨g, 0, none⟩) l.length (l.length + 5), .slice ao l.length cap] w fun e w' => e = .returned (.bool true) ∧ w = w' := by
  have HB : Hid (Bk w g 5 (u8L l ++ mkB 5)) := hg
  have hc1 : (convert 32 9 (.slice (some ⟨g, 0, none⟩) l.length (l.length + 5))).run Tryd.prog w = .ok (.string (txt l)) w := conv_rd hg.rd hl
  have hc2 : (convert 32 9 (.slice ao l.length cap)).run Tryd.prog w = .ok (.string (txt l)) w := conv_rd h hl
  have hln : (l.length : Int) ≤ 524288 := by omega
  clear hg h hl hn
  go_enter Tryd.func22, Tryd.ntmps22
  go_wp2_with fail
  go_loopg [6] 5 (fun gq i wr => ∃ k : Nat, k ≤ 5 ∧ gq = 5 - k ∧ i = .int .i64 ((l.length : Int) + k) ∧ w = wr)
  case atStart => exact ⟨0, by omega, rfl, by go_num, rfl⟩
  case round =>
    obtain ⟨k, hk, hgk, rfl, rfl⟩ := hrel
    have HG : Hid (gk = 5 - k ∧ k ≤ 5) := ⟨hgk, hk⟩
    have hk3 : (k : Int) ≤ 5 := by omega
    clear hgk hk
    by_cases hlt : k < 5
    · have hlt' : (l.length : Int) + (k : Int) < (l.length : Int) + 5 := by omega
      have HLt : Hid (k < 5) := hlt
      have c0 : w.cell? ⟨g, l.length + k, none⟩ = some (.int .u8 201) := HB.out.cell (by
        rw [List.getElem?_append_right (by rw [u8_len0]; omega), u8_len0, show l.length + k - l.length = k by omega]
        match k, hlt with
        | 0, _ => rfl
        | 1, _ => rfl
        | 2, _ => rfl
        | 3, _ => rfl
        | 4, _ => rfl)
      have hcast : ((l.length + k : Nat) : Int) = (l.length : Int) + (k : Int) := by omega
      have htn : ((l.length : Int) + (k : Int)).toNat = l.length + k := by omega
      clear hlt
      rw [← hcast] at hlt' ⊢
      go_wp2_with fail
      go_roundg (5 - (k + 1))
      case measure => have h1 := HG.out.1; have := HLt.out; omega
      case rel => exact ⟨k + 1, HLt.out, rfl, by go_num, rfl⟩
    · have hlt' : ¬ ((l.length : Int) + (k : Int) < (l.length : Int) + 5) := by omega
      clear hlt
      go_wp2_with fail
      go_ret
      exact ⟨rfl, rfl⟩
end Go.Proofs.YtcicifcnffacpaaDoor.Cd

set_option linter.unusedSimpArgs false
namespace Go.Proofs.YtcicifcnffacpaaDoor.Cd
open Go.RowKit Go.Proofs.YtcicifcnffacpaaDoor.Nm Go.Proofs.YtcicifcnffacpaaDoor.Vf

/-- the room behind instructions that are lent: k marks -/
def mkN (k : Nat) : List Value := (List.range 3).flatMap fun i => [.int .i64 (if i < k then -9 else 0), .int .i64 0, .int .i64 0, .int .i64 0, .int .i64 0]
theorem mkN_len (k : Nat) : (mkN k).length = 15 := by unfold mkN; simp [List.range_succ]
theorem mkN_set (k : Nat) (h : k < 3) : (((((mkN k).set (k * 5) (.int .i64 (-9))).set (k * 5 + 1) (.int .i64 0)).set (k * 5 + 2) (.int .i64 0)).set (k * 5 + 3) (.int .i64 0)).set (k * 5 + 4) (.int .i64 0) = mkN (k + 1) := by
  match k, h with
  | 0, _ => rfl
  | 1, _ => rfl
  | 2, _ => rfl
theorem mkN_at (k : Nat) (h : k < 3) : (mkN 3)[k * 5]? = some (.int .i64 (-9)) ∧ (mkN 3)[k * 5 + 1]? = some (.int .i64 0) ∧ (mkN 3)[k * 5 + 2]? = some (.int .i64 0) ∧ (mkN 3)[k * 5 + 3]? = some (.int .i64 0) ∧ (mkN 3)[k * 5 + 4]? = some (.int .i64 0) := by
  match k, h with
  | 0, _ => exact ⟨rfl, rfl, rfl, rfl, rfl⟩
  | 1, _ => exact ⟨rfl, rfl, rfl, rfl, rfl⟩
  | 2, _ => exact ⟨rfl, rfl, rfl, rfl, rfl⟩
theorem mkN_zero : (madeCells (Value.agg #[.int .i64 0, .int .i64 0, .int .i64 0, .int .i64 0, .int .i64 0]).cells (3 * 5)).toList = mkN 0 := by simp [madeCells, Value.cells, mkN, List.range_succ, Array.range_succ]
theorem size_setC (W : World) (a : Addr) (v : Value) : (W.setCell a v).heap.size = W.heap.size := by simp [World.setCell]
theorem bel_st {w W W' : World} (h : Below w.heap.size w W) (h2 : Below W.heap.size W W') : Below w.heap.size w W' := h.trans (h2.mono h.size)
theorem own5_ip {w : World} {n : Nat} {p : Pg} {u : PV} (h : Own5 w n p (.slice u.qo p.gh.length u.qc) (.slice u.vo p.vs.length u.vc) (.slice u.to p.ts.length u.tc) (.slice u.oo p.on.length u.oc) (.slice u.co p.cd.length u.cc)) (hl : p.gh.length ≤ 1000000000000000 ∧ p.vs.length ≤ 1000000000000000 ∧ p.ts.length ≤ 1000000000000000 ∧ p.on.length ≤ 1000000000000000 ∧ p.cd.length ≤ 1000000000000000) : IsPg w u p := by
  obtain ⟨n1, n2, n3, n4, n5, h⟩ := h.ex
  exact ⟨own_rdV (h.ow (en1 n1 (.slice u.qo p.gh.length u.qc) p.gh) (by simp)).2, own_rdV (h.ow (en2 n2 (.slice u.vo p.vs.length u.vc) p.vs) (by simp)).2, own_rdV (h.ow (en3 n3 (.slice u.to p.ts.length u.tc) p.ts) (by simp)).2, own_rdV (h.ow (en3 n4 (.slice u.oo p.on.length u.oc) p.on) (by simp)).2, own_rdV (h.ow (en5 n5 (.slice u.co p.cd.length u.cc) p.cd) (by simp)).2, hl.1, hl.2.1, hl.2.2.1, hl.2.2.2.1, hl.2.2.2.2⟩
/-- a box of six cells is written over -/
theorem set6 {W : World} {rb : Nat} {a0 a1 a2 a3 a4 a5 : Value} {T : TypeId} (h : W.heap[rb]? = some (.cells #[a0, a1, a2, a3, a4, a5] T (0, 0))) (v0 v1 v2 v3 v4 v5 : Value) :
    ((((((W.setCell ⟨rb, 0, none⟩ (v0)).setCell ⟨rb, 1, none⟩ (v1)).setCell ⟨rb, 2, none⟩ (v2)).setCell ⟨rb, 3, none⟩ (v3)).setCell ⟨rb, 4, none⟩ (v4)).setCell ⟨rb, 5, none⟩ (v5)).heap[rb]? = some (.cells #[v0, v1, v2, v3, v4, v5] T (0, 0)) ∧ (∀ k, k ≠ rb → ((((((W.setCell ⟨rb, 0, none⟩ (v0)).setCell ⟨rb, 1, none⟩ (v1)).setCell ⟨rb, 2, none⟩ (v2)).setCell ⟨rb, 3, none⟩ (v3)).setCell ⟨rb, 4, none⟩ (v4)).setCell ⟨rb, 5, none⟩ (v5)).heap[k]? = W.heap[k]?) ∧ ((((((W.setCell ⟨rb, 0, none⟩ (v0)).setCell ⟨rb, 1, none⟩ (v1)).setCell ⟨rb, 2, none⟩ (v2)).setCell ⟨rb, 3, none⟩ (v3)).setCell ⟨rb, 4, none⟩ (v4)).setCell ⟨rb, 5, none⟩ (v5)).heap.size = W.heap.size ∧ ∀ (n : Nat) (w : World), Below n w W → n ≤ rb → Below n w ((((((W.setCell ⟨rb, 0, none⟩ (v0)).setCell ⟨rb, 1, none⟩ (v1)).setCell ⟨rb, 2, none⟩ (v2)).setCell ⟨rb, 3, none⟩ (v3)).setCell ⟨rb, 4, none⟩ (v4)).setCell ⟨rb, 5, none⟩ (v5)) := by
  have h0 := heap_setCell_same W rb 0 _ _ v0 h
  have h1 := heap_setCell_same _ rb 1 _ _ v1 h0
  have h2 := heap_setCell_same _ rb 2 _ _ v2 h1
  have h3 := heap_setCell_same _ rb 3 _ _ v3 h2
  have h4 := heap_setCell_same _ rb 4 _ _ v4 h3
  have h5 := heap_setCell_same _ rb 5 _ _ v5 h4
  refine ⟨h5, fun k hk => ?_, by simp only [size_setC], fun n w hb hn => ?_⟩
  · rw [heap_setCell_other _ ⟨rb, 5, none⟩ k v5 hk, heap_setCell_other _ ⟨rb, 4, none⟩ k v4 hk, heap_setCell_other _ ⟨rb, 3, none⟩ k v3 hk, heap_setCell_other _ ⟨rb, 2, none⟩ k v2 hk, heap_setCell_other _ ⟨rb, 1, none⟩ k v1 hk, heap_setCell_other _ ⟨rb, 0, none⟩ k v0 hk]
  · exact (((((hb.setCell (p := ⟨rb, 0, none⟩) hn _).setCell (p := ⟨rb, 1, none⟩) hn _).setCell (p := ⟨rb, 2, none⟩) hn _).setCell (p := ⟨rb, 3, none⟩) hn _).setCell (p := ⟨rb, 4, none⟩) hn _).setCell (p := ⟨rb, 5, none⟩) hn _
theorem bk_frozen {W : World} {g : Nat} {e : TypeId} {xs : List Value} (h : Bk W g e xs) (j : Nat) : W.frozen? ⟨g, j, none⟩ = false := by
  have h9 : W.heap[g]? = _ := h
  simp only [World.frozen?, h9]
  rfl
theorem bk_mark {W : World} {g n k : Nat} {e : TypeId} {xs : List Value} (h : Bk W g e (xs ++ mkN k)) (hk : k < 3) (hx : xs.length = n * 5) :
    Bk (((((W.setCell ⟨g, (n + k) * 5, none⟩ (.int .i64 (-9))).setCell ⟨g, (n + k) * 5 + 1, none⟩ (.int .i64 0)).setCell ⟨g, (n + k) * 5 + 2, none⟩ (.int .i64 0)).setCell ⟨g, (n + k) * 5 + 3, none⟩ (.int .i64 0)).setCell ⟨g, (n + k) * 5 + 4, none⟩ (.int .i64 0)) g e (xs ++ mkN (k + 1)) := by
  have h5 := ((((h.setIn ((n + k) * 5) (.int .i64 (-9))).setIn ((n + k) * 5 + 1) (.int .i64 0)).setIn ((n + k) * 5 + 2) (.int .i64 0)).setIn ((n + k) * 5 + 3) (.int .i64 0)).setIn ((n + k) * 5 + 4) (.int .i64 0)
  rw [List.set_append_right _ _ (by omega), List.set_append_right _ _ (by omega), List.set_append_right _ _ (by omega), List.set_append_right _ _ (by omega), List.set_append_right _ _ (by omega), hx, show (n + k) * 5 - n * 5 = k * 5 by omega, show (n + k) * 5 + 1 - n * 5 = k * 5 + 1 by omega, show (n + k) * 5 + 2 - n * 5 = k * 5 + 2 by omega, show (n + k) * 5 + 3 - n * 5 = k * 5 + 3 by omega, show (n + k) * 5 + 4 - n * 5 = k * 5 + 4 by omega, mkN_set k hk] at h5
  exact h5
set_option maxHeartbeats 6400000 in
set_option maxRecDepth 100000 in
/-- a program lent -/
theorem lendP_any (v : PV) (p : Pg) (w : World) (hP : IsPg w v p) (hW : Wgh p) (hn : p.cd.length ≤ 524288) :
    Calls Tryd.prog 10 #[.agg (pvC v p)] w fun e w' => ∃ (u : PV) (g : Nat), e = .returned (.agg (pvC u p)) ∧ u.co = some ⟨g, 0, none⟩ ∧ u.cc = p.cd.length + 3 ∧ IsPg w' u p ∧ Bk w' g 53 (Vf.cC p.cd ++ mkN 3) ∧ Below w.heap.size w w' := by
  have HP : Hid (∀ W, Below w.heap.size w W → IsPg W v p) := fun W hb => hP.below hb
  have HW : Hid (Wgh p ∧ p.cd.length ≤ 524288) := ⟨hW, hn⟩
  have HTw : Hid (∀ W, Below w.heap.size w W → Calls Tryd.prog 25 #[.agg (pvC v p)] W fun e W' => ∃ u : PV, e = .returned (.agg (pvC u p)) ∧ Own5 W' W.heap.size p (.slice u.qo p.gh.length u.qc) (.slice u.vo p.vs.length u.vc) (.slice u.to p.ts.length u.tc) (.slice u.oo p.on.length u.oc) (.slice u.co p.cd.length u.cc) ∧ Below W.heap.size W W') := fun W hb => rtwin_any v p W (hP.below hb) hW
  have hln : (p.cd.length : Int) ≤ 524288 := by omega
  clear hP hW hn
  obtain ⟨qo, qc, vo, vc, tto, tc, oo, oc, co, cc⟩ := v
  show Calls _ _ #[.agg #[.slice qo p.gh.length qc, .slice vo p.vs.length vc, .slice tto p.ts.length tc, .slice oo p.on.length oc, .int .i64 p.miss, .slice co p.cd.length cc]] _ _
  have H0 := show Hid _ from two_prg w #[.slice qo p.gh.length qc, .slice vo p.vs.length vc, .slice tto p.ts.length tc, .slice oo p.on.length oc, .int .i64 p.miss, .slice co p.cd.length cc] #[.slice none 0 0, .slice none 0 0, .slice none 0 0, .slice none 0 0, .int .i64 0, .slice none 0 0]
  go_enter Tryd.func10, Tryd.ntmps10
  go_upto_region 1 with fail
  generalize ((w.alloc (.cells #[.slice qo p.gh.length qc, .slice vo p.vs.length vc, .slice tto p.ts.length tc, .slice oo p.on.length oc, .int .i64 p.miss, .slice co p.cd.length cc] 27)).alloc (.cells #[.slice none 0 0, .slice none 0 0, .slice none 0 0, .slice none 0 0, .int .i64 0, .slice none 0 0] 27)) = w1 at *
  obtain ⟨c0, c1, c2, c3, c4, c5⟩ := cells6 H0.out.2.1
  have HT := show Hid _ from HTw.out w1 H0.out.1
  clear HTw
  go_wp2_with fail
  refine Calls.mono HT.out ?_
  rintro e w2 ⟨⟨qo2, qc2, vo2, vc2, to2, tc2, oo2, oc2, co2, cc2⟩, rfl, ho, hb⟩
  have hq := heap_alloc_new w2 (.cells #[.slice qo2 p.gh.length qc2, .slice vo2 p.vs.length vc2, .slice to2 p.ts.length tc2, .slice oo2 p.on.length oc2, .int .i64 p.miss, .slice co2 p.cd.length cc2] 27)
  have hb3 : Below w2.heap.size w2 (w2.alloc (.cells #[.slice qo2 p.gh.length qc2, .slice vo2 p.vs.length vc2, .slice to2 p.ts.length tc2, .slice oo2 p.on.length oc2, .int .i64 p.miss, .slice co2 p.cd.length cc2] 27)) := (Below.refl _ _).alloc (Nat.le_refl _) _
  have hb2 := bel_st hb hb3
  have H3 : Hid (Below w.heap.size w (w2.alloc (.cells #[.slice qo2 p.gh.length qc2, .slice vo2 p.vs.length vc2, .slice to2 p.ts.length tc2, .slice oo2 p.on.length oc2, .int .i64 p.miss, .slice co2 p.cd.length cc2] 27)) ∧ (w2.alloc (.cells #[.slice qo2 p.gh.length qc2, .slice vo2 p.vs.length vc2, .slice to2 p.ts.length tc2, .slice oo2 p.on.length oc2, .int .i64 p.miss, .slice co2 p.cd.length cc2] 27)).heap[w.heap.size]? = some (.cells #[.slice qo p.gh.length qc, .slice vo p.vs.length vc, .slice tto p.ts.length tc, .slice oo p.on.length oc, .int .i64 p.miss, .slice co p.cd.length cc] 27 (0, 0)) ∧ (w2.alloc (.cells #[.slice qo2 p.gh.length qc2, .slice vo2 p.vs.length vc2, .slice to2 p.ts.length tc2, .slice oo2 p.on.length oc2, .int .i64 p.miss, .slice co2 p.cd.length cc2] 27)).heap[w.heap.size + 1]? = some (.cells #[.slice none 0 0, .slice none 0 0, .slice none 0 0, .slice none 0 0, .int .i64 0, .slice none 0 0] 27 (0, 0)) ∧ (w2.alloc (.cells #[.slice qo2 p.gh.length qc2, .slice vo2 p.vs.length vc2, .slice to2 p.ts.length tc2, .slice oo2 p.on.length oc2, .int .i64 p.miss, .slice co2 p.cd.length cc2] 27)).heap[w2.heap.size]? = some (.cells #[.slice qo2 p.gh.length qc2, .slice vo2 p.vs.length vc2, .slice to2 p.ts.length tc2, .slice oo2 p.on.length oc2, .int .i64 p.miss, .slice co2 p.cd.length cc2] 27 (0, 0)) ∧ w.heap.size + 1 < w2.heap.size) :=
    ⟨bel_st H0.out.1 hb2, (hb2.block _ (blk_lt H0.out.2.1)).trans H0.out.2.1, (hb2.block _ (blk_lt H0.out.2.2)).trans H0.out.2.2, hq, Nat.lt_of_lt_of_le (blk_lt H0.out.2.2) hb.size⟩
  have HOw : Hid (Own5 w2 w1.heap.size p (.slice qo2 p.gh.length qc2) (.slice vo2 p.vs.length vc2) (.slice to2 p.ts.length tc2) (.slice oo2 p.on.length oc2) (.slice co2 p.cd.length cc2) ∧ w.heap.size + 1 < w1.heap.size ∧ (∀ k, k < w2.heap.size → (w2.alloc (.cells #[.slice qo2 p.gh.length qc2, .slice vo2 p.vs.length vc2, .slice to2 p.ts.length tc2, .slice oo2 p.on.length oc2, .int .i64 p.miss, .slice co2 p.cd.length cc2] 27)).heap[k]? = w2.heap[k]?) ∧ w2.heap.size < (w2.alloc (.cells #[.slice qo2 p.gh.length qc2, .slice vo2 p.vs.length vc2, .slice to2 p.ts.length tc2, .slice oo2 p.on.length oc2, .int .i64 p.miss, .slice co2 p.cd.length cc2] 27)).heap.size) := ⟨ho, blk_lt H0.out.2.2, fun k hk => hb3.block k hk, blk_lt hq⟩
  clear c0 c1 c2 c3 c4 c5 HT ho hb hq hb3 hb2 H0
  go_upto_region 2 with fail
  generalize (w2.alloc (.cells #[.slice qo2 p.gh.length qc2, .slice vo2 p.vs.length vc2, .slice to2 p.ts.length tc2, .slice oo2 p.on.length oc2, .int .i64 p.miss, .slice co2 p.cd.length cc2] 27)) = w3 at *
  generalize hqb : w2.heap.size = qb at *
  have HQb := show Hid _ from hqb
  clear hqb
  have hmk : ∀ u : World, (Instr.makeSlice 25 (.int .i64 ((p.cd.length : Int) + 3)) (.int .i64 ((p.cd.length : Int) + 3))).run Tryd.prog u = .ok (.slice (some ⟨u.heap.size, 0, none⟩) (p.cd.length + 3) (p.cd.length + 3)) (u.alloc (.cells (madeCells (Value.agg #[.int .i64 0, .int .i64 0, .int .i64 0, .int .i64 0, .int .i64 0]).cells ((p.cd.length + 3) * 5)) 53)) := fun u => by
    have := mk_row Tryd.underlying25 infoIr (p.cd.length + 3) (by have := HW.out.2; omega) (by omega) u
    rw [show ((p.cd.length + 3 : Nat) : Int) = (p.cd.length : Int) + 3 by omega] at this
    exact this
  obtain ⟨W4, hcp, hR, hB⟩ := copiedM Tryd.underlying25 infoIr (by decide) rfl p.cd.length 3 cc co (Vf.cC p.cd) (len_cC _) (one_cC _) w3 (HP.out _ H3.out.1).cd
  rw [mkN_zero] at hR
  have H4 : Hid (Bk W4 w3.heap.size 53 (Vf.cC p.cd ++ mkN 0) ∧ Below w3.heap.size w3 W4) := ⟨hR, hB⟩
  generalize madeCells (Value.agg #[.int .i64 0, .int .i64 0, .int .i64 0, .int .i64 0, .int .i64 0]).cells ((p.cd.length + 3) * 5) = M at hmk hcp
  obtain ⟨c0, c1, c2, c3, c4, c5⟩ := cells6 H3.out.2.1
  obtain ⟨d0, d1, d2, d3, d4, d5⟩ := cells6 ((H4.out.2.block _ (blk_lt H3.out.2.1)).trans H3.out.2.1)
  clear hR hB
  have HIl : Hid ((Vf.cC p.cd).length = p.cd.length * 5) := len_cC _
  have hlt3 : w.heap.size < w3.heap.size := blk_lt H3.out.2.1
  go_wp2_with fail
  clear hmk hcp c0 c1 c2 c3 c4 c5 d0 d1 d2 d3 d4 d5
  go_loopg [5] 3 (fun gq i wr => ∃ k : Nat, k ≤ 3 ∧ gq = 3 - k ∧ i = .int .i64 ((p.cd.length : Int) + k) ∧ Bk wr w3.heap.size 53 (Vf.cC p.cd ++ mkN k) ∧ Below w3.heap.size w3 wr)
  case atStart => exact ⟨0, by omega, rfl, by go_num, H4.out.1, H4.out.2⟩
  case round =>
    obtain ⟨k, hk, hgk, rfl, hR, hB⟩ := hrel
    have HG : Hid (gk = 3 - k) := hgk
    have HR : Hid (Bk wr w3.heap.size 53 (Vf.cC p.cd ++ mkN k) ∧ Below w3.heap.size w3 wr) := ⟨hR, hB⟩
    have hk3 : (k : Int) ≤ 3 := by omega
    clear hgk hB
    by_cases hlt : k < 3
    · have hlt' : (p.cd.length : Int) + (k : Int) < (p.cd.length : Int) + 3 := by omega
      have hat : ∀ j, j < 5 → ∃ v, wr.cell? ⟨w3.heap.size, (p.cd.length + k) * 5 + j, none⟩ = some v := fun j hj => by
        obtain ⟨v, hv⟩ : ∃ v, (Vf.cC p.cd ++ mkN k)[(p.cd.length + k) * 5 + j]? = some v := ⟨_, List.getElem?_eq_getElem (by rw [List.length_append, HIl.out, mkN_len]; omega)⟩
        exact ⟨v, hR.cell hv⟩
      obtain ⟨v0, c0⟩ := hat 0 (by omega)
      obtain ⟨v1, c1⟩ := hat 1 (by omega)
      obtain ⟨v2, c2⟩ := hat 2 (by omega)
      obtain ⟨v3, c3⟩ := hat 3 (by omega)
      obtain ⟨v4, c4⟩ := hat 4 (by omega)
      rw [Nat.add_zero] at c0
      have hf := bk_frozen hR
      have HS := show Hid _ from bk_mark hR hlt HIl.out
      have hcast : ((p.cd.length + k : Nat) : Int) = (p.cd.length : Int) + (k : Int) := by omega
      have htn : ((p.cd.length : Int) + (k : Int)).toNat = p.cd.length + k := by omega
      clear hR hlt hat
      rw [← hcast] at hlt' ⊢
      go_wp2_with fail
      go_roundg (3 - (k + 1))
      case measure => have h1 := HG.out; omega
      case rel =>
        refine ⟨k + 1, by omega, rfl, by go_num, HS.out, ?_⟩
        exact ((((HR.out.2.setCell (p := ⟨w3.heap.size, (p.cd.length + k) * 5, none⟩) (Nat.le_refl _) _).setCell (p := ⟨w3.heap.size, (p.cd.length + k) * 5 + 1, none⟩) (Nat.le_refl _) _).setCell (p := ⟨w3.heap.size, (p.cd.length + k) * 5 + 2, none⟩) (Nat.le_refl _) _).setCell (p := ⟨w3.heap.size, (p.cd.length + k) * 5 + 3, none⟩) (Nat.le_refl _) _).setCell (p := ⟨w3.heap.size, (p.cd.length + k) * 5 + 4, none⟩) (Nat.le_refl _) _
    · have hlt' : ¬ ((p.cd.length : Int) + (k : Int) < (p.cd.length : Int) + 3) := by omega
      obtain rfl : k = 3 := by omega
      clear hR hlt
      have hpB := (HR.out.2.block _ (blk_lt H3.out.2.1)).trans H3.out.2.1
      have hrB := (HR.out.2.block _ (blk_lt H3.out.2.2.1)).trans H3.out.2.2.1
      have hqB := (HR.out.2.block _ (blk_lt H3.out.2.2.2.1)).trans H3.out.2.2.2.1
      obtain ⟨c0, c1, c2, c3, c4, c5⟩ := cells6 hpB
      obtain ⟨d0, d1, d2, d3, d4, d5⟩ := cells6 hqB
      have fq := fzb hqB
      have HQ : Hid (wr.heap[w.heap.size + 1]? = some (.cells #[.slice none 0 0, .slice none 0 0, .slice none 0 0, .slice none 0 0, .int .i64 0, .slice none 0 0] 27 (0, 0)) ∧ wr.heap[qb]? = some (.cells #[.slice qo2 p.gh.length qc2, .slice vo2 p.vs.length vc2, .slice to2 p.ts.length tc2, .slice oo2 p.on.length oc2, .int .i64 p.miss, .slice co2 p.cd.length cc2] 27 (0, 0))) := ⟨hrB, hqB⟩
      clear hpB hrB hqB
      go_upto_region 9 with fail
      have H5 : Hid ((wr.setCell ⟨qb, 5, none⟩ (.slice (some ⟨w3.heap.size, 0, none⟩) p.cd.length (p.cd.length + 3))).heap[w.heap.size + 1]? = some (.cells #[.slice none 0 0, .slice none 0 0, .slice none 0 0, .slice none 0 0, .int .i64 0, .slice none 0 0] 27 (0, 0)) ∧ (wr.setCell ⟨qb, 5, none⟩ (.slice (some ⟨w3.heap.size, 0, none⟩) p.cd.length (p.cd.length + 3))).heap[qb]? = some (.cells #[.slice qo2 p.gh.length qc2, .slice vo2 p.vs.length vc2, .slice to2 p.ts.length tc2, .slice oo2 p.on.length oc2, .int .i64 p.miss, .slice (some ⟨w3.heap.size, 0, none⟩) p.cd.length (p.cd.length + 3)] 27 (0, 0)) ∧ Bk (wr.setCell ⟨qb, 5, none⟩ (.slice (some ⟨w3.heap.size, 0, none⟩) p.cd.length (p.cd.length + 3))) w3.heap.size 53 (Vf.cC p.cd ++ mkN 3) ∧ (∀ k, k < qb → (wr.setCell ⟨qb, 5, none⟩ (.slice (some ⟨w3.heap.size, 0, none⟩) p.cd.length (p.cd.length + 3))).heap[k]? = w2.heap[k]?) ∧ Below w.heap.size w (wr.setCell ⟨qb, 5, none⟩ (.slice (some ⟨w3.heap.size, 0, none⟩) p.cd.length (p.cd.length + 3)))) := by
        obtain ⟨q1, q2⟩ := HQ.out
        have hne := H3.out.2.2.2.2
        have hlt := HOw.out.2.2.2
        refine ⟨(heap_setCell_other wr ⟨qb, 5, none⟩ _ _ (by show w.heap.size + 1 ≠ qb; omega)).trans q1, heap_setCell_same wr qb 5 _ _ _ q2, (heap_setCell_other wr ⟨qb, 5, none⟩ _ _ (by show w3.heap.size ≠ qb; omega)).trans HR.out.1, fun k hk => ?_, ?_⟩
        · exact (heap_setCell_other wr ⟨qb, 5, none⟩ k _ (by show k ≠ qb; omega)).trans ((HR.out.2.block k (by omega)).trans (HOw.out.2.2.1 k hk))
        · exact (bel_st H3.out.1 HR.out.2).setCell (p := ⟨qb, 5, none⟩) (by show w.heap.size ≤ qb; omega) _
      clear c0 c1 c2 c3 c4 c5 d0 d1 d2 d3 d4 d5 fq HQ HR
      generalize wr.setCell ⟨qb, 5, none⟩ (.slice (some ⟨w3.heap.size, 0, none⟩) p.cd.length (p.cd.length + 3)) = w5 at *
      obtain ⟨d0, d1, d2, d3, d4, d5⟩ := cells6 H5.out.2.1
      obtain ⟨e0, e1, e2, e3, e4, e5⟩ := cells6 H5.out.1
      have fr := fzb H5.out.1
      obtain ⟨z, zo, zs, zb⟩ := set6 H5.out.1 (.slice qo2 p.gh.length qc2) (.slice vo2 p.vs.length vc2) (.slice to2 p.ts.length tc2) (.slice oo2 p.on.length oc2) (.int .i64 p.miss) (.slice (some ⟨w3.heap.size, 0, none⟩) p.cd.length (p.cd.length + 3))
      have HZ := show Hid _ from zb
      have HZo := show Hid _ from zo
      obtain ⟨z0, z1, z2, z3, z4, z5⟩ := cells6 z
      clear zo zs zb
      go_wp2_with fail
      refine bodyPost_ret (v := .agg #[.slice qo2 p.gh.length qc2, .slice vo2 p.vs.length vc2, .slice to2 p.ts.length tc2, .slice oo2 p.on.length oc2, .int .i64 p.miss, .slice (some ⟨w3.heap.size, 0, none⟩) p.cd.length (p.cd.length + 3)]) (by simp [results, Tryd.results10, go_sem, z0, z1, z2, z3, z4, z5]) rfl ?_
      refine ⟨⟨qo2, qc2, vo2, vc2, to2, tc2, oo2, oc2, some ⟨w3.heap.size, 0, none⟩, p.cd.length + 3⟩, rfl, w3.heap.size, rfl, rfl, ?_, ?_, HZ.out _ _ H5.out.2.2.2.2 (by omega)⟩
      · have hk : ∀ k, w1.heap.size < k → k < w2.heap.size → (((((((w5.setCell ⟨w.heap.size + 1, 0, none⟩ (.slice qo2 p.gh.length qc2)).setCell ⟨w.heap.size + 1, 1, none⟩ (.slice vo2 p.vs.length vc2)).setCell ⟨w.heap.size + 1, 2, none⟩ (.slice to2 p.ts.length tc2)).setCell ⟨w.heap.size + 1, 3, none⟩ (.slice oo2 p.on.length oc2)).setCell ⟨w.heap.size + 1, 4, none⟩ (.int .i64 p.miss)).setCell ⟨w.heap.size + 1, 5, none⟩ (.slice (some ⟨w3.heap.size, 0, none⟩) p.cd.length (p.cd.length + 3)))).heap[k]? = w2.heap[k]? := fun k h1 h2 => (HZo.out k (by have := HOw.out.2.1; omega)).trans (H5.out.2.2.2.1 k (by have := HQb.out; omega))
        obtain ⟨n1, n2, n3, n4, n5, h⟩ := HOw.out.1.ex
        have h8 := own5_ip (u := ⟨qo2, qc2, vo2, vc2, to2, tc2, oo2, oc2, co2, cc2⟩) ⟨n1, n2, n3, n4, n5, h.keep hk⟩ (by have := HW.out.1; unfold Wgh at this; omega)
        have h7 : Bk _ w3.heap.size 53 (Vf.cC p.cd ++ mkN 3) := (HZo.out w3.heap.size (by have := blk_lt H3.out.2.2.1; omega)).trans H5.out.2.2.1
        exact ⟨h8.gh, h8.vs, h8.ts, h8.on, h7.rd, h8.lgh, h8.lvs, h8.lts, h8.lon, h8.lcd⟩
      · exact (HZo.out w3.heap.size (by have := blk_lt H3.out.2.2.1; omega)).trans H5.out.2.2.1
set_option maxHeartbeats 6400000 in
set_option maxRecDepth 100000 in
/-- is it as it was lent? -/
theorem keptP_any (u v : PV) (p : Pg) (w : World) (g : Nat) (hu : IsPg w u p) (hv : IsPg w v p) (hco : u.co = some ⟨g, 0, none⟩) (hcc : u.cc = p.cd.length + 3) (hg : Bk w g 53 (Vf.cC p.cd ++ mkN 3)) (hn : p.cd.length ≤ 524288) :
    Calls Tryd.prog 17 #[.agg (pvC u p), .agg (pvC v p)] w fun e w' => e = .returned (.bool true) ∧ Below w.heap.size w w' := by
  have HS : Hid (∀ W, Below w.heap.size w W → Calls Tryd.prog 21 #[.agg (pvC u p), .agg (pvC v p)] W fun e w' => e = .returned (.bool true) ∧ Below W.heap.size W w') := fun W hb => by
    have h := rsame_any u v p p W (hu.below hb) (hv.below hb)
    rw [(samB_iff p p).2 rfl] at h
    exact h
  have hln : (p.cd.length : Int) ≤ 524288 := by omega
  have HIl : Hid ((Vf.cC p.cd).length = p.cd.length * 5) := len_cC _
  have HB : Hid (Bk w g 53 (Vf.cC p.cd ++ mkN 3)) := hg
  obtain ⟨qo, qc, vo, vc, tto, tc, oo, oc, co, cc⟩ := v
  obtain ⟨qo2, qc2, vo2, vc2, to2, tc2, oo2, oc2, co2, cc2⟩ := u
  dsimp only at hco hcc
  subst hco
  subst hcc
  clear hu hv hg hn
  show Calls _ _ #[.agg #[.slice qo2 p.gh.length qc2, .slice vo2 p.vs.length vc2, .slice to2 p.ts.length tc2, .slice oo2 p.on.length oc2, .int .i64 p.miss, .slice (some ⟨g, 0, none⟩) p.cd.length (p.cd.length + 3)], .agg #[.slice qo p.gh.length qc, .slice vo p.vs.length vc, .slice tto p.ts.length tc, .slice oo p.on.length oc, .int .i64 p.miss, .slice co p.cd.length cc]] _ _
  have H0 := show Hid _ from two_prg w #[.slice qo2 p.gh.length qc2, .slice vo2 p.vs.length vc2, .slice to2 p.ts.length tc2, .slice oo2 p.on.length oc2, .int .i64 p.miss, .slice (some ⟨g, 0, none⟩) p.cd.length (p.cd.length + 3)] #[.slice qo p.gh.length qc, .slice vo p.vs.length vc, .slice tto p.ts.length tc, .slice oo p.on.length oc, .int .i64 p.miss, .slice co p.cd.length cc]
  go_enter Tryd.func17, Tryd.ntmps17
  go_upto_region 1 with fail
  generalize ((w.alloc (.cells #[.slice qo2 p.gh.length qc2, .slice vo2 p.vs.length vc2, .slice to2 p.ts.length tc2, .slice oo2 p.on.length oc2, .int .i64 p.miss, .slice (some ⟨g, 0, none⟩) p.cd.length (p.cd.length + 3)] 27)).alloc (.cells #[.slice qo p.gh.length qc, .slice vo p.vs.length vc, .slice tto p.ts.length tc, .slice oo p.on.length oc, .int .i64 p.miss, .slice co p.cd.length cc] 27)) = w1 at *
  have HC : Hid (∀ k, k < 3 → ∀ j, j < 5 → ∃ x, w1.cell? ⟨g, (p.cd.length + k) * 5 + j, none⟩ = some x ∧ (mkN 3)[k * 5 + j]? = some x) := fun k hk j hj => by
    have h9 : Bk w1 g 53 (Vf.cC p.cd ++ mkN 3) := HB.out.below H0.out.1
    have hl : k * 5 + j < (mkN 3).length := by rw [mkN_len]; omega
    refine ⟨_, h9.cell ?_, List.getElem?_eq_getElem hl⟩
    rw [List.getElem?_append_right (by rw [HIl.out]; omega), HIl.out, show (p.cd.length + k) * 5 + j - p.cd.length * 5 = k * 5 + j by omega, List.getElem?_eq_getElem hl]
  obtain ⟨c0, c1, c2, c3, c4, c5⟩ := cells6 H0.out.2.1
  obtain ⟨d0, d1, d2, d3, d4, d5⟩ := cells6 H0.out.2.2
  have hla : (p.cd.length : Int) ≤ (p.cd.length : Int) + 3 := by omega
  go_wp2_with fail
  clear c0 c1 c2 c3 c4 c5 d0 d1 d2 d3 d4 d5
  go_loopg [6] 3 (fun gq i wr => ∃ k : Nat, k ≤ 3 ∧ gq = 3 - k ∧ i = .int .i64 ((p.cd.length : Int) + k) ∧ w1 = wr)
  case atStart => exact ⟨0, by omega, rfl, by go_num, rfl⟩
  case round =>
    obtain ⟨k, hk, hgk, rfl, rfl⟩ := hrel
    have HG : Hid (gk = 3 - k ∧ k ≤ 3) := ⟨hgk, hk⟩
    have hk3 : (k : Int) ≤ 3 := by omega
    clear hgk hk
    by_cases hlt : k < 3
    · have hlt' : (p.cd.length : Int) + (k : Int) < (p.cd.length : Int) + 3 := by omega
      have HLt : Hid (k < 3) := hlt
      obtain ⟨a0, a1, a2, a3, a4⟩ := mkN_at k hlt
      have c0 : w1.cell? ⟨g, (p.cd.length + k) * 5, none⟩ = some (.int .i64 (-9)) := by
        obtain ⟨x, h1, h2⟩ := HC.out k hlt 0 (by omega)
        rw [Nat.add_zero] at h1 h2
        rw [h1, ← a0, h2]
      have c1 : w1.cell? ⟨g, (p.cd.length + k) * 5 + 1, none⟩ = some (.int .i64 0) := by
        obtain ⟨x, h1, h2⟩ := HC.out k hlt 1 (by omega)
        rw [h1, ← a1, h2]
      have c2 : w1.cell? ⟨g, (p.cd.length + k) * 5 + 2, none⟩ = some (.int .i64 0) := by
        obtain ⟨x, h1, h2⟩ := HC.out k hlt 2 (by omega)
        rw [h1, ← a2, h2]
      have c3 : w1.cell? ⟨g, (p.cd.length + k) * 5 + 3, none⟩ = some (.int .i64 0) := by
        obtain ⟨x, h1, h2⟩ := HC.out k hlt 3 (by omega)
        rw [h1, ← a3, h2]
      have c4 : w1.cell? ⟨g, (p.cd.length + k) * 5 + 4, none⟩ = some (.int .i64 0) := by
        obtain ⟨x, h1, h2⟩ := HC.out k hlt 4 (by omega)
        rw [h1, ← a4, h2]
      have hcast : ((p.cd.length + k : Nat) : Int) = (p.cd.length : Int) + (k : Int) := by omega
      have htn : ((p.cd.length : Int) + (k : Int)).toNat = p.cd.length + k := by omega
      clear hlt a0 a1 a2 a3 a4
      rw [← hcast] at hlt' ⊢
      go_wp2_with fail
      go_roundg (3 - (k + 1))
      case measure => have h1 := HG.out.1; have := HLt.out; omega
      case rel => exact ⟨k + 1, HLt.out, rfl, by go_num, rfl⟩
    · have hlt' : ¬ ((p.cd.length : Int) + (k : Int) < (p.cd.length : Int) + 3) := by omega
      clear hlt
      obtain ⟨c0, c1, c2, c3, c4, c5⟩ := cells6 H0.out.2.1
      obtain ⟨d0, d1, d2, d3, d4, d5⟩ := cells6 H0.out.2.2
      have HSw := show Hid _ from HS.out w1 H0.out.1
      clear HS
      go_wp2_with fail
      refine Calls.mono HSw.out ?_
      rintro e w2 ⟨rfl, hb⟩
      go_wp2_with fail
      go_ret
      exact ⟨rfl, bel_st H0.out.1 hb⟩
end Go.Proofs.YtcicifcnffacpaaDoor.Cd
