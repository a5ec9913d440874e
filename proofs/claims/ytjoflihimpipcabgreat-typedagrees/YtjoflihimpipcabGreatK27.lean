import Derived.Maps.AppendAt
import Derived.Laws.MakeOwn
import Derived.Test.YtjoflihimpipcabGreatK22
set_option maxHeartbeats 12800000
set_option maxRecDepth 100000
namespace Go.Proofs.YtjoflihimpipcabGreat.Nm.Ty
open Go.RowKit Go.Maps Go.Proofs.YtjoflihimpipcabGreat.Sp Go.Proofs.YtjoflihimpipcabGreat.Lx Go.Proofs.YtjoflihimpipcabGreat.Gr
/-- what settle says at a row -/
def setE (l : List Rz) (v : Nat → Int) (i : Nat) : Nat :=
  if (rat l i).kind = 4 then (if v (kidp l i 0) < v (kidp l i 1) ∨ v (kidp l i 2) < v (kidp l i 0) then 43 else 0)
  else if (rat l i).kind = 5 then (if v (i + 1) < 1 ∨ 255 < v (i + 1) then 43 else 0)
  else if (rat l i).kind = 6 then (if v (i + 1) = 0 then 44 else 0)
  else if (rat l i).kind = 13 then (if v (i + 1) < 0 ∨ 4194304 < v (i + 1) then 43 else 0)
  else 0
def setV (l : List Rz) (v : Nat → Int) : Nat → List (Int × Int × Int)
  | 0 => []
  | n + 1 => if (rat l n).kind = 4 then setV l v n ++ [(v (kidp l n 0), v (kidp l n 1), v (kidp l n 2))] else setV l v n
def setT (l : List Rz) (v : Nat → Int) : Nat → List Int
  | 0 => []
  | n + 1 => if (rat l n).kind = 5 then setT l v n ++ [v (n + 1)] else setT l v n
def setR (l : List Rz) (v : Nat → Int) : Nat → Nat → Int
  | 0 => fun _ => 0
  | n + 1 => if (rat l n).kind = 13 then setF (setR l v n) n (v (n + 1)) else setR l v n
/-- the first fault -/
def setN (l : List Rz) (v : Nat → Int) : Nat → Nat × Nat
  | 0 => (0, 0)
  | n + 1 => if (setN l v n).1 ≠ 0 then setN l v n else if setE l v n ≠ 0 then (setE l v n, n) else (0, 0)
theorem setV_le (l : List Rz) (v : Nat → Int) : ∀ n, (setV l v n).length ≤ n
  | 0 => Nat.le_refl _
  | n + 1 => by
    have := setV_le l v n
    unfold setV
    split
    · simp; omega
    · omega
theorem setT_le (l : List Rz) (v : Nat → Int) : ∀ n, (setT l v n).length ≤ n
  | 0 => Nat.le_refl _
  | n + 1 => by
    have := setT_le l v n
    unfold setT
    split
    · simp; omega
    · omega
theorem setN_stays {l : List Rz} {v : Nat → Int} {n : Nat} (h : (setN l v n).1 ≠ 0) : ∀ m, n ≤ m → setN l v m = setN l v n := by
  intro m hm
  induction m with
  | zero => obtain rfl : n = 0 := by omega
            rfl
  | succ m ih =>
    rcases Nat.lt_or_ge m n with h1 | h1
    · obtain rfl : n = m + 1 := by omega
      rfl
    · rw [← ih h1] at h ⊢
      exact if_pos h
theorem setN_next {l : List Rz} {v : Nat → Int} {n : Nat} (h : (setN l v n).1 = 0) (h1 : setE l v n ≠ 0) : setN l v (n + 1) = (setE l v n, n) := by
  show (if (setN l v n).1 ≠ 0 then setN l v n else if setE l v n ≠ 0 then (setE l v n, n) else (0, 0)) = _
  rw [if_neg (by rw [h]; exact fun e => e rfl), if_pos h1]
theorem setN_pass {l : List Rz} {v : Nat → Int} {n : Nat} (h : (setN l v n).1 = 0) (h1 : setE l v n = 0) : (setN l v (n + 1)).1 = 0 := by
  show (if (setN l v n).1 ≠ 0 then setN l v n else if setE l v n ≠ 0 then (setE l v n, n) else (0, 0)).1 = _
  rw [if_neg (by rw [h]; exact fun e => e rfl), if_neg (by rw [h1]; exact fun e => e rfl)]
end Go.Proofs.YtjoflihimpipcabGreat.Nm.Ty
namespace Go.Proofs.YtjoflihimpipcabGreat.Nm
open Go.RowKit Go.Maps Go.Proofs.YtjoflihimpipcabGreat.Sp Go.Proofs.YtjoflihimpipcabGreat.Lx Go.Proofs.YtjoflihimpipcabGreat.Gr
/-- append to an owned row, of a slice that may be nil -/
theorem run_app {P : Program} (w : World) (base : Nat) (t ty e : TypeId) (i : TypeInfo) (z : Value) (size bytes : Nat) (ht : P.underlying t = some (.slice e)) (hi : P.info? e = some i) (hz : i.zero = some z)
    (hsize : i.size = size) (hby : i.bytes = bytes) (hzs : z.cells.size = size) (hsz : 0 < size)
    (v : Value) (n : Nat) (xs : List Value) (hown : w.ownsRow base e size v n xs)
    (ao : Option Addr) (m c : Nat) (news : List Value) (hl : news.length = m * size) (hnone : ao = none → m = 0 ∧ c = 0) (hnews : ∀ ad, ao = some ad → ∀ j u, news[j]? = some u → w.cell? (ad.add j) = some u) (h1 : ∀ u ∈ news, u.oneCell' = true)
    (h63 : n + m ≤ maxLen) (hbytes : (n + m) * bytes ≤ 140737488355328) (hbase : base ≤ w.heap.size) :
    ∃ v' w', (Builtin.append_ #[t, t] ty #[v, .slice ao m c]).run P w = .ok v' w' ∧ w'.ownsRow base e size v' (n + m) (xs ++ news) ∧ w.grownBy w' v.ownBlock ∧ (v'.ownBlock = v.ownBlock ∨ v'.ownBlock = some w.heap.size) := by
  cases ao with
  | some ad =>
    obtain ⟨v', w', hr, h2, h3, _, h5⟩ := run_append_own_at (P := P) w base t ty e i z size bytes ht hi hz hsize hby hzs hsz v n xs hown ad m c news hl (hnews ad rfl) h1 h63 hbytes hbase
    exact ⟨v', w', hr, h2, h3, h5⟩
  | none =>
    obtain ⟨rfl, rfl⟩ := hnone rfl
    have he : news = [] := List.eq_nil_of_length_eq_zero (by simpa using hl)
    subst he
    exact ⟨v, w, run_append_owned_none (P := P) w base t ty e i size ht hi v n xs hown, by simpa using hown, World.grownBy.refl _ _, Or.inl rfl⟩
theorem wpl_app {P : Program} (w : World) {ops : Array Oper} {rest : List Oper} {o : Oper} {a : Act} {Q : Exit → Act → World → Prop} (hgd : o.guard = none) (s x : Operand) (t : TypeId)
    (ho : o.op = .call { callee := .builtin .append, args := #[s, x], argTypes := #[t, t] })
    (base : Nat) (e : TypeId) (i : TypeInfo) (z : Value) (size bytes : Nat) (ht : P.underlying t = some (.slice e)) (hi : P.info? e = some i) (hz : i.zero = some z)
    (hsize : i.size = size) (hby : i.bytes = bytes) (hzs : z.cells.size = size) (hsz : 0 < size)
    (v : Value) (n : Nat) (xs : List Value) (hs : a.eval s = v) (hown : w.ownsRow base e size v n xs)
    (ao : Option Addr) (m c : Nat) (news : List Value) (hx : a.eval x = .slice ao m c) (hl : news.length = m * size) (hnone : ao = none → m = 0 ∧ c = 0) (hnews : ∀ ad, ao = some ad → ∀ j u, news[j]? = some u → w.cell? (ad.add j) = some u) (h1 : ∀ u ∈ news, u.oneCell' = true)
    (h63 : n + m ≤ maxLen) (hbytes : (n + m) * bytes ≤ 140737488355328) (hbase : base ≤ w.heap.size)
    (h : ∀ v' w', w'.ownsRow base e size v' (n + m) (xs ++ news) → w.grownBy w' v.ownBlock → (v'.ownBlock = v.ownBlock ∨ v'.ownBlock = some w.heap.size) → wpList P ops Q rest (a.put o.dst v') w') : wpList P ops Q (o :: rest) a w := by
  refine wpList_plain hgd fun K hK => ?_
  obtain ⟨v', w', hr, h2, h3, h4⟩ := run_app (P := P) w base t o.type e i z size bytes ht hi hz hsize hby hzs hsz v n xs hown ao m c news hl hnone hnews h1 h63 hbytes hbase
  unfold Oper.wp execOp
  simp only [ho, resolve, invoke, builtin, Sem.run_bind, Sem.run_pure, Result.andThen_ok, List.map_toArray, List.map_cons, List.map_nil, hs, hx, hr]
  exact hK _ _ (h v' w' h2 h3 h4)
/-- the same, as one step of a region that draws -/
theorem step_app {P : Program} (w : World) {ops : Array Oper} {o : Oper} {a : Act} {K : Act → World → Prop} {Q : Exit → Act → World → Prop} {E : Prop} (hgd : o.guard = none) (s x : Operand) (t : TypeId)
    (ho : o.op = .call { callee := .builtin .append, args := #[s, x], argTypes := #[t, t] })
    (base : Nat) (e : TypeId) (i : TypeInfo) (z : Value) (size bytes : Nat) (ht : P.underlying t = some (.slice e)) (hi : P.info? e = some i) (hz : i.zero = some z)
    (hsize : i.size = size) (hby : i.bytes = bytes) (hzs : z.cells.size = size) (hsz : 0 < size)
    (v : Value) (n : Nat) (xs : List Value) (hs : a.eval s = v) (hown : w.ownsRow base e size v n xs)
    (ao : Option Addr) (m c : Nat) (news : List Value) (hx : a.eval x = .slice ao m c) (hl : news.length = m * size) (hnone : ao = none → m = 0 ∧ c = 0) (hnews : ∀ ad, ao = some ad → ∀ j u, news[j]? = some u → w.cell? (ad.add j) = some u) (h1 : ∀ u ∈ news, u.oneCell' = true)
    (h63 : n + m ≤ maxLen) (hbytes : (n + m) * bytes ≤ 140737488355328) (hbase : base ≤ w.heap.size)
    (h : ∀ v' w', w'.ownsRow base e size v' (n + m) (xs ++ news) → w.grownBy w' v.ownBlock → (v'.ownBlock = v.ownBlock ∨ v'.ownBlock = some w.heap.size) → K (a.put o.dst v') w') : if Region.wanted o (yielded ops a.tmps) = true then Oper.wp P o a w K Q else E := by
  have hw : Region.wanted o (yielded ops a.tmps) = true := by simp [Region.wanted, hgd]
  rw [if_pos hw]
  obtain ⟨v', w', hr, h2, h3, h4⟩ := run_app (P := P) w base t o.type e i z size bytes ht hi hz hsize hby hzs hsz v n xs hown ao m c news hl hnone hnews h1 h63 hbytes hbase
  unfold Oper.wp execOp
  simp only [ho, resolve, invoke, builtin, Sem.run_bind, Sem.run_pure, Result.andThen_ok, List.map_toArray, List.map_cons, List.map_nil, hs, hx, hr]
  exact h v' w' h2 h3 h4
/-- make of an empty row with room for three more -/
theorem mk_capJ {t e : TypeId} {i : TypeInfo} {z : Value} {size bytes : Nat} (ht : Tryz.prog.underlying t = some (.slice e)) (hi : Tryz.prog.info? e = some i) (hz : i.zero = some z) (hsize : i.size = size) (hby : i.bytes = bytes) (n : Nat) (hn : bytes * (n + 3) ≤ 140737488355352) (hn2 : n ≤ 140737488355328) :
    ∃ M : Array Value, (∀ u : World, (Instr.makeSlice t (.int .i64 0) (.int .i64 ((n : Int) + 3))).run Tryz.prog u = .ok (.slice (some ⟨u.heap.size, 0, none⟩) 0 (n + 3)) (u.alloc (.cells M e))) ∧ M.size = (n + 3) * size := by
  refine ⟨_, fun u => ?_, size_madeCells z.cells ((n + 3) * size)⟩
  have h := run_make (P := Tryz.prog) u t e i z ht hi hz .i64 .i64 0 ((n : Int) + 3) (Int.le_refl _) (by omega) (by
    rw [hby]
    have : (bytes : Int) * ((n : Int) + 3) = ((bytes * (n + 3) : Nat) : Int) := by simp
    rw [this]
    omega) (by omega)
  have e1 : ((n : Int) + 3).toNat = n + 3 := by omega
  rw [e1, hsize] at h
  exact h
theorem own_madeJ {u : World} {M : Array Value} {e : TypeId} {n size base : Nat} (hM : M.size = (n + 3) * size) (hb : base ≤ u.heap.size) (hn : n ≤ 140737488355328) : (u.alloc (.cells M e)).ownsRow base e size (.slice (some ⟨u.heap.size, 0, none⟩) 0 (n + 3)) 0 [] :=
  own_mk (cur := M.toList) (by simp) hb (by rw [Array.toArray_toList]; exact heap_alloc_new u _) (Nat.zero_le _) (by unfold maxLen; omega) (by simpa using hM) (by simp)
theorem vals_src {w : World} {ao : Option Addr} {xs : List Value} (h : IsVals w ao xs) : ∀ ad, ao = some ad → ∀ j u, xs[j]? = some u → w.cell? (ad.add j) = some u := fun ad e j u hu => by
  obtain ⟨g, o, e2, _, hc⟩ := h j u hu
  rw [e] at e2
  cases e2
  rw [Lib.addr_add]
  exact hc
theorem vals_nil {w : World} {ao : Option Addr} {xs : List Value} {m sz : Nat} (h : IsVals w ao xs) (hl : xs.length = m * sz) (hs : 0 < sz) : ao = none → m = 0 := fun e => by
  cases m with
  | zero => rfl
  | succ m =>
    have h0 : 0 < xs.length := by rw [hl, Nat.succ_mul]; omega
    obtain ⟨g, o, e2, _⟩ := h 0 _ (List.getElem?_eq_getElem h0)
    rw [e] at e2
    cases e2
theorem iv_one (l : List Int) : ∀ u ∈ iv l, u.oneCell' = true := fun u hu => by
  obtain ⟨n, _, rfl⟩ := List.mem_map.1 hu
  rfl
theorem own_some {w : World} {base : Nat} {e : TypeId} {size : Nat} {v : Value} {n : Nat} {xs : List Value} (h : w.ownsRow base e size v n xs) (hn : 0 < n) : ∃ g cap, v = .slice (some ⟨g, 0, none⟩) n cap ∧ n ≤ cap ∧ cap ≤ maxLen := by
  obtain ⟨g, cap, cur, e1, _, _, h4, h5, _⟩ := own_block h hn
  exact ⟨g, cap, e1, h4, h5⟩
theorem mk_cap {t e : TypeId} {i : TypeInfo} {z : Value} {size bytes : Nat} (ht : Tryz.prog.underlying t = some (.slice e)) (hi : Tryz.prog.info? e = some i) (hz : i.zero = some z) (hsize : i.size = size) (hby : i.bytes = bytes) (hb : bytes ≤ 1000) (n : Nat) (hn : n ≤ 1000) :
    ∃ M : Array Value, (∀ u : World, (Instr.makeSlice t (.int .i64 0) (.int .i64 ((n : Int) + 3))).run Tryz.prog u = .ok (.slice (some ⟨u.heap.size, 0, none⟩) 0 (n + 3)) (u.alloc (.cells M e))) ∧ M.size = (n + 3) * size := mk_capJ ht hi hz hsize hby n (Nat.le_trans (Nat.mul_le_mul hb (show n + 3 ≤ 1003 by omega)) (by decide)) (by omega)
theorem own_made {u : World} {M : Array Value} {e : TypeId} {n size base : Nat} (hM : M.size = (n + 3) * size) (hb : base ≤ u.heap.size) (hn : n ≤ 1000) : (u.alloc (.cells M e)).ownsRow base e size (.slice (some ⟨u.heap.size, 0, none⟩) 0 (n + 3)) 0 [] := own_madeJ hM hb (by omega)
end Go.Proofs.YtjoflihimpipcabGreat.Nm
namespace Go.Proofs.YtjoflihimpipcabGreat.Nm.Ty
open Go.RowKit Go.Maps Go.Proofs.YtjoflihimpipcabGreat.Sp Go.Proofs.YtjoflihimpipcabGreat.Lx Go.Proofs.YtjoflihimpipcabGreat.Gr Go.Proofs.YtjoflihimpipcabGreat.Nm
def vC (vs : List (Int × Int × Int)) : List Value := vs.flatMap fun x => [.int .i64 x.1, .int .i64 x.2.1, .int .i64 x.2.2]
def tC (ts : List Int) : List Value := ts.map fun x => .int .i64 x
theorem vC_add (vs : List (Int × Int × Int)) (a b c : Int) : vC (vs ++ [(a, b, c)]) = vC vs ++ [.int .i64 a, .int .i64 b, .int .i64 c] := by simp [vC]
theorem tC_add (ts : List Int) (a : Int) : tC (ts ++ [a]) = tC ts ++ [.int .i64 a] := by simp [tC]
theorem own_ne {w : World} {b1 b2 : Nat} {T1 T2 : TypeId} {s1 s2 n1 n2 : Nat} {v1 v2 : Value} {xs1 xs2 : List Value} (h1 : w.ownsRow b1 T1 s1 v1 n1 xs1) (h2 : w.ownsRow b2 T2 s2 v2 n2 xs2) (hT : T1 ≠ T2) : ∀ k, v1.ownBlock = some k → v2.ownBlock ≠ some k := by
  intro k e1 e2
  rcases h1.2 with ⟨rfl, _⟩ | ⟨g, cap, cur, rfl, _, hg, _⟩
  · cases e1
  · rcases h2.2 with ⟨rfl, _⟩ | ⟨g', cap', cur', rfl, _, hg', _⟩
    · cases e2
    · cases e1
      cases e2
      rw [hg] at hg'
      cases hg'
      exact hT rfl
theorem cells3 {wq : World} {B : Nat} {v0 v1 v2 : Value} {T : TypeId} (h : wq.heap[B]? = some (.cells #[v0, v1, v2] T (0, 0))) : wq.cell? ⟨B, 0, none⟩ = some v0 ∧ wq.cell? ⟨B, 1, none⟩ = some v1 ∧ wq.cell? ⟨B, 2, none⟩ = some v2 := by
  refine ⟨?_, ?_, ?_⟩
  all_goals
    simp only [World.cell?, h]
    rfl
theorem infoV : (Tryz.prog.info? 55).map (fun i => (i.zero, i.size, i.bytes)) = some (some (.agg #[.int .i64 0, .int .i64 0, .int .i64 0]), 3, 24) := by kernel_rfl
/-- what typed tells, in the making: its box, the lists -/
structure Sd (W : World) (n tb rb : Nat) (vv tv : Value) (vs : List (Int × Int × Int)) (ts : List Int) (rf : Nat → Int) : Prop where
  b : W.heap[tb]? = some (.cells #[vv, tv, .slice (some ⟨rb, 0, none⟩) n n] 40 (0, 0))
  r : RowI W rb n rf
  v : W.ownsRow (tb + 1) 55 3 vv vs.length (vC vs)
  t : W.ownsRow (tb + 1) 3 1 tv ts.length (tC ts)
  lt : rb < tb
theorem Sd.below {W W' : World} {n tb rb : Nat} {vv tv : Value} {vs : List (Int × Int × Int)} {ts : List Int} {rf : Nat → Int} (h : Sd W n tb rb vv tv vs ts rf) (hb : Below W.heap.size W W') : Sd W' n tb rb vv tv vs ts rf :=
  ⟨(hb.block _ (blk_lt h.b)).trans h.b, h.r.below hb h.r.lt, own_below h.v hb, own_below h.t hb, h.lt⟩
theorem Sd.lts {W : World} {n tb rb : Nat} {vv tv : Value} {vs : List (Int × Int × Int)} {ts : List Int} {rf : Nat → Int} (h : Sd W n tb rb vv tv vs ts rf) : tb + 1 ≤ W.heap.size := blk_lt h.b
theorem set_onlyY (w : World) (g i : Nat) (v : Value) : w.grownBy (w.setCell ⟨g, i, none⟩ v) (some g) :=
  ⟨rfl, rfl, rfl, by simp, fun k _ hn => Below.heap_setCell w _ _ k (fun e => hn (by rw [e]))⟩
theorem own_set {w : World} {base : Nat} {T : TypeId} {sz n g i : Nat} {v x : Value} {xs : List Value} (h : w.ownsRow base T sz v n xs) (hg : g < base) : (w.setCell ⟨g, i, none⟩ x).ownsRow base T sz v n xs :=
  own_grown h (set_onlyY w g i x) fun k hk e => by cases e; have := (World.ownsRow.lt h _ hk).1; omega
/-- a var more -/
theorem Sd.pushV {W W2 : World} {n tb rb : Nat} {vv tv v' : Value} {vs : List (Int × Int × Int)} {ts : List Int} {rf : Nat → Int} {a b c : Int} (h : Sd W n tb rb vv tv vs ts rf) (hg : W.grownBy W2 vv.ownBlock) (ho : W2.ownsRow (tb + 1) 55 3 v' (vs.length + 1) (vC vs ++ [.int .i64 a, .int .i64 b, .int .i64 c])) :
    Sd (W2.setCell ⟨tb, 0, none⟩ v') n tb rb v' tv (vs ++ [(a, b, c)]) ts rf := by
  have hlow : ∀ k, k < tb + 1 → W2.heap[k]? = W.heap[k]? := fun k hk => hg.block k (by have := h.lts; omega) fun e => by have := (World.ownsRow.lt h.v k e.symm).1; omega
  refine ⟨?_, ?_, ?_, ?_, h.lt⟩
  · exact set_at ((hlow tb (by omega)).trans h.b) v' rfl
  · have hr : RowI W2 rb n rf := h.r.of_block (hlow rb (by have := h.lt; omega))
    exact hr.of_block (Below.heap_setCell W2 _ _ _ (by have := h.lt; simp; omega))
  · rw [List.length_append, vC_add]
    exact own_set ho (by omega)
  · exact own_set (own_grown h.t hg (fun k e => own_ne h.t h.v (by decide) k e)) (by omega)
/-- a tag more -/
theorem Sd.pushT {W W2 : World} {n tb rb : Nat} {vv tv v' : Value} {vs : List (Int × Int × Int)} {ts : List Int} {rf : Nat → Int} {a : Int} (h : Sd W n tb rb vv tv vs ts rf) (hg : W.grownBy W2 tv.ownBlock) (ho : W2.ownsRow (tb + 1) 3 1 v' (ts.length + 1) (tC ts ++ [.int .i64 a])) :
    Sd (W2.setCell ⟨tb, 1, none⟩ v') n tb rb vv v' vs (ts ++ [a]) rf := by
  have hlow : ∀ k, k < tb + 1 → W2.heap[k]? = W.heap[k]? := fun k hk => hg.block k (by have := h.lts; omega) fun e => by have := (World.ownsRow.lt h.t k e.symm).1; omega
  refine ⟨?_, ?_, ?_, ?_, h.lt⟩
  · exact set_at ((hlow tb (by omega)).trans h.b) v' rfl
  · have hr : RowI W2 rb n rf := h.r.of_block (hlow rb (by have := h.lt; omega))
    exact hr.of_block (Below.heap_setCell W2 _ _ _ (by have := h.lt; simp; omega))
  · exact own_set (own_grown h.v hg (fun k e => own_ne h.v h.t (by decide) k e)) (by omega)
  · rw [List.length_append, tC_add]
    exact own_set ho (by omega)
/-- rounds -/
theorem Sd.round {W : World} {n tb rb : Nat} {vv tv : Value} {vs : List (Int × Int × Int)} {ts : List Int} {rf : Nat → Int} (h : Sd W n tb rb vv tv vs ts rf) (i : Nat) (x : Int) :
    Sd (W.setCell ⟨rb, i, none⟩ (.int .i64 x)) n tb rb vv tv vs ts (setF rf i x) :=
  ⟨(Below.heap_setCell W _ _ _ (by have := h.lt; simp; omega)).trans h.b, h.r.set i x, own_set h.v (by have := h.lt; omega), own_set h.t (by have := h.lt; omega), h.lt⟩
/-- what settle leaves -/
def SetQ (l : List Rz) (v : Nat → Int) (i tb rb : Nat) (vs : List (Int × Int × Int)) (ts : List Int) (rf : Nat → Int) (w0 w : World) : Ending → World → Prop := fun e w' => e = .returned (.int .i64 (setE l v i : Int)) ∧ Below w0.heap.size w w' ∧ (setE l v i = 0 → ∃ vv' tv', Sd w' l.length tb rb vv' tv' (if (rat l i).kind = 4 then vs ++ [(v (kidp l i 0), v (kidp l i 1), v (kidp l i 2))] else vs) (if (rat l i).kind = 5 then ts ++ [v (i + 1)] else ts) (if (rat l i).kind = 13 then setF rf i (v (i + 1)) else rf))
theorem setQ_of {l : List Rz} {v : Nat → Int} {i tb rb : Nat} {vs vs' : List (Int × Int × Int)} {ts ts' : List Int} {rf rf' : Nat → Int} {w0 w w' : World} {vv' tv' : Value} {m : Nat} (hE : setE l v i = m) (hB : Below w0.heap.size w w') (hS : m = 0 → Sd w' l.length tb rb vv' tv' vs' ts' rf')
    (h1 : vs' = if (rat l i).kind = 4 then vs ++ [(v (kidp l i 0), v (kidp l i 1), v (kidp l i 2))] else vs) (h2 : ts' = if (rat l i).kind = 5 then ts ++ [v (i + 1)] else ts) (h3 : rf' = if (rat l i).kind = 13 then setF rf i (v (i + 1)) else rf) : SetQ l v i tb rb vs ts rf w0 w (.returned (.int .i64 (m : Int))) w' := by
  subst hE
  subst h1
  subst h2
  subst h3
  exact ⟨rfl, hB, fun h => ⟨_, _, hS h⟩⟩
theorem settle_oth {l : List Rz} {qv : List Value} {nq : Nat} {ao qo po eo vo : Option Addr} {ac qc pc ec vcap i tb rb : Nat} {w0 w : World} {v : Nat → Int} {vv tv : Value} {vs : List (Int × Int × Int)} {ts : List Int} {rf : Nat → Int} (h : IsRg w0 l qv ao qo po eo) (hB : Below w0.heap.size w0 w) (hn : l.length ≤ 2932031007317) (hi : i < l.length) (_hv : IsVals w0 vo (fL l.length (fun j => .int .i64 (v j)))) (hS : Sd w l.length tb rb vv tv vs ts rf) (hr : w0.heap.size ≤ rb) (h4 : (rat l i).kind ≠ 4) (h5 : (rat l i).kind ≠ 5) (h6 : (rat l i).kind ≠ 6) (h13 : (rat l i).kind ≠ 13) :
    Calls Tryz.prog 54 #[.agg (rgC l nq ao qo po eo ac qc pc ec), .pointer (some ⟨tb, 0, none⟩), .slice vo l.length vcap, .int .i64 (i : Int)] w (SetQ l v i tb rb vs ts rf w0 w) := by
  have hb1 : Below w.heap.size w (w.alloc (.cells (rgC l nq ao qo po eo ac qc pc ec) 77)) := (Below.refl _ w).alloc (Nat.le_refl _) _
  have HX := show Hid _ from heap_alloc_new w (.cells (rgC l nq ao qo po eo ac qc pc ec) 77)
  have hB1 := hB.trans (hb1.mono hB.size)
  have HS1 : Hid (Sd (w.alloc (.cells (rgC l nq ao qo po eo ac qc pc ec) 77)) l.length tb rb vv tv vs ts rf) := hS.below hb1
  have HB1 : Hid (Below w0.heap.size w (w.alloc (.cells (rgC l nq ao qo po eo ac qc pc ec) 77))) := hb1.mono hB.size
  have HRb : Hid (w0.heap.size ≤ rb) := hr
  obtain ⟨ga, oa, rfl, hga, c0, c1, c2, c3, c4⟩ := row_cells (h.below hB1).r hi
  obtain ⟨b0, b1, b2, b3⟩ := cells4 HX.out
  have hln : (l.length : Int) ≤ 2932031007317 := by omega
  have hi1 : (i : Int) < (l.length : Int) := by omega
  have HQ : Hid (SetQ l v i tb rb vs ts rf w0 w (.returned (.int .i64 ((0 : Nat) : Int))) (w.alloc (.cells (rgC l nq (some ⟨ga, oa, none⟩) qo po eo ac qc pc ec) 77))) := setQ_of (m := 0) (by unfold setE; rw [if_neg h4, if_neg h5, if_neg h6, if_neg h13]) HB1.out (fun _ => HS1.out) (if_neg h4).symm (if_neg h5).symm (if_neg h13).symm
  generalize (rat l i).kind = kd at *
  have e4 : (kd == 4) = false := by simpa using h4
  have e5 : (kd == 5) = false := by simpa using h5
  have e6 : (kd == 6) = false := by simpa using h6
  have e13 : (kd == 13) = false := by simpa using h13
  dsimp only [rgC] at *
  clear h hB hn _hv hS hr hb1 hB1 h4 h5 h6 h13
  go_enter Tryz.func54, Tryz.ntmps54
  go_wp2_with fail
  go_ret
  exact HQ.out
theorem settle_req {l : List Rz} {qv : List Value} {nq : Nat} {ao qo po eo vo : Option Addr} {ac qc pc ec vcap i tb rb : Nat} {w0 w : World} {v : Nat → Int} {vv tv : Value} {vs : List (Int × Int × Int)} {ts : List Int} {rf : Nat → Int} (h : IsRg w0 l qv ao qo po eo) (hB : Below w0.heap.size w0 w) (hn : l.length ≤ 2932031007317) (hi : i < l.length) (hv : IsVals w0 vo (fL l.length (fun j => .int .i64 (v j)))) (hS : Sd w l.length tb rb vv tv vs ts rf) (hr : w0.heap.size ≤ rb) (hk : (rat l i).kind = 6) (hi5 : i + 1 < l.length) :
    Calls Tryz.prog 54 #[.agg (rgC l nq ao qo po eo ac qc pc ec), .pointer (some ⟨tb, 0, none⟩), .slice vo l.length vcap, .int .i64 (i : Int)] w (SetQ l v i tb rb vs ts rf w0 w) := by
  have hb1 : Below w.heap.size w (w.alloc (.cells (rgC l nq ao qo po eo ac qc pc ec) 77)) := (Below.refl _ w).alloc (Nat.le_refl _) _
  have HX := show Hid _ from heap_alloc_new w (.cells (rgC l nq ao qo po eo ac qc pc ec) 77)
  have hB1 := hB.trans (hb1.mono hB.size)
  have HS1 : Hid (Sd (w.alloc (.cells (rgC l nq ao qo po eo ac qc pc ec) 77)) l.length tb rb vv tv vs ts rf) := hS.below hb1
  have HB1 : Hid (Below w0.heap.size w (w.alloc (.cells (rgC l nq ao qo po eo ac qc pc ec) 77))) := hb1.mono hB.size
  have HRb : Hid (w0.heap.size ≤ rb) := hr
  obtain ⟨ga, oa, rfl, hga, c0, c1, c2, c3, c4⟩ := row_cells (h.below hB1).r hi
  obtain ⟨b0, b1, b2, b3⟩ := cells4 HX.out
  have hln : (l.length : Int) ≤ 2932031007317 := by omega
  have hi1 : (i : Int) < (l.length : Int) := by omega
  have HQ : Hid (∀ m : Nat, (if v (i + 1) = 0 then 44 else 0) = m → SetQ l v i tb rb vs ts rf w0 w (.returned (.int .i64 (m : Int))) (w.alloc (.cells (rgC l nq (some ⟨ga, oa, none⟩) qo po eo ac qc pc ec) 77))) := fun m e => setQ_of (by unfold setE; rw [if_neg (by omega), if_neg (by omega), if_pos hk]; exact e) HB1.out (fun _ => HS1.out) (if_neg (by omega)).symm (if_neg (by omega)).symm (if_neg (by omega)).symm
  have hi2 : (i : Int) + 1 < (l.length : Int) := by omega
  obtain ⟨gv, ov, rfl, hgv, cv⟩ := (IsVals.below hv hB1) (i + 1) _ (fL_at hi5)
  have HK : Hid ((rat l i).kind = 6) := hk
  rw [hk] at c0
  dsimp only [rgC] at *
  clear h hB hn hv hS hr hb1 hB1 hk hi5
  generalize v (i + 1) = y at *
  go_enter Tryz.func54, Tryz.ntmps54
  by_cases hy : y = 0
  · have HE := show Hid _ from HQ.out 44 (if_pos hy)
    have hy' : (y == 0) = true := by simpa using hy
    clear HQ hy
    go_wp2_with fail
    go_ret
    exact HE.out
  · have HE := show Hid _ from HQ.out 0 (if_neg hy)
    have hy' : (y == 0) = false := by simpa using hy
    clear HQ hy
    go_wp2_with fail
    go_ret
    exact HE.out
theorem settle_loop {l : List Rz} {qv : List Value} {nq : Nat} {ao qo po eo vo : Option Addr} {ac qc pc ec vcap i tb rb : Nat} {w0 w : World} {v : Nat → Int} {vv tv : Value} {vs : List (Int × Int × Int)} {ts : List Int} {rf : Nat → Int} (h : IsRg w0 l qv ao qo po eo) (hB : Below w0.heap.size w0 w) (hn : l.length ≤ 2932031007317) (hi : i < l.length) (hv : IsVals w0 vo (fL l.length (fun j => .int .i64 (v j)))) (hS : Sd w l.length tb rb vv tv vs ts rf) (hr : w0.heap.size ≤ rb) (hk : (rat l i).kind = 13) (hi5 : i + 1 < l.length) :
    Calls Tryz.prog 54 #[.agg (rgC l nq ao qo po eo ac qc pc ec), .pointer (some ⟨tb, 0, none⟩), .slice vo l.length vcap, .int .i64 (i : Int)] w (SetQ l v i tb rb vs ts rf w0 w) := by
  have hb1 : Below w.heap.size w (w.alloc (.cells (rgC l nq ao qo po eo ac qc pc ec) 77)) := (Below.refl _ w).alloc (Nat.le_refl _) _
  have HX := show Hid _ from heap_alloc_new w (.cells (rgC l nq ao qo po eo ac qc pc ec) 77)
  have hB1 := hB.trans (hb1.mono hB.size)
  have HS1 : Hid (Sd (w.alloc (.cells (rgC l nq ao qo po eo ac qc pc ec) 77)) l.length tb rb vv tv vs ts rf) := hS.below hb1
  have HB1 : Hid (Below w0.heap.size w (w.alloc (.cells (rgC l nq ao qo po eo ac qc pc ec) 77))) := hb1.mono hB.size
  have HRb : Hid (w0.heap.size ≤ rb) := hr
  obtain ⟨ga, oa, rfl, hga, c0, c1, c2, c3, c4⟩ := row_cells (h.below hB1).r hi
  obtain ⟨b0, b1, b2, b3⟩ := cells4 HX.out
  have hln : (l.length : Int) ≤ 2932031007317 := by omega
  have hi1 : (i : Int) < (l.length : Int) := by omega
  have HQ : Hid (∀ m : Nat, (if v (i + 1) < 0 ∨ 4194304 < v (i + 1) then 43 else 0) = m → setE l v i = m) := fun m e => by show setE l v i = m; unfold setE; rw [if_neg (by omega), if_neg (by omega), if_neg (by omega), if_pos hk]; exact e
  have HQ2 : Hid (∀ W' : World, setE l v i = 0 → Below w0.heap.size w W' → Sd W' l.length tb rb vv tv vs ts (setF rf i (v (i + 1))) → SetQ l v i tb rb vs ts rf w0 w (.returned (.int .i64 (0 : Int))) W') := fun W' e hb hs => setQ_of e hb (fun _ => hs) (if_neg (by omega)).symm (if_neg (by omega)).symm (if_pos hk).symm
  have HQ3 : Hid (∀ W' : World, setE l v i = 43 → Below w0.heap.size w W' → SetQ l v i tb rb vs ts rf w0 w (.returned (.int .i64 (43 : Int))) W') := fun W' e hb => setQ_of (vv' := vv) (tv' := tv) e hb (fun e => by cases e) rfl rfl rfl
  obtain ⟨k0, k1, k2⟩ := cells3 HS1.out.b
  have cr := HS1.out.r.cell hi
  have fr := HS1.out.r.frozen i
  generalize rf i = ri at *
  have hi2 : (i : Int) + 1 < (l.length : Int) := by omega
  obtain ⟨gv, ov, rfl, hgv, cv⟩ := (IsVals.below hv hB1) (i + 1) _ (fL_at hi5)
  have HK : Hid ((rat l i).kind = 13) := hk
  rw [hk] at c0
  dsimp only [rgC] at *
  clear h hB hn hv hS hr hb1 hB1 hk hi5
  generalize v (i + 1) = y at *
  go_enter Tryz.func54, Tryz.ntmps54
  by_cases hy : y < 0
  · have HE := HQ.out 43 (if_pos (Or.inl hy))
    have HE2 := show Hid _ from HQ3.out _ HE HB1.out
    have hy' : decide (y < 0) = true := decide_eq_true hy
    clear HQ HQ2 HQ3 HE
    go_wp2_with fail
    go_ret
    exact HE2.out
  · by_cases hz : 4194304 < y
    · have HE := HQ.out 43 (if_pos (Or.inr hz))
      have HE2 := show Hid _ from HQ3.out _ HE HB1.out
      have hy' : decide (y < 0) = false := decide_eq_false hy
      have hz' : decide (y > 4194304) = true := decide_eq_true hz
      clear HQ HQ2 HQ3 HE
      go_wp2_with fail
      go_ret
      exact HE2.out
    · have HE := HQ.out 0 (if_neg (by omega))
      have HE2 := show Hid _ from fun W' => HQ2.out W' HE
      have hy' : decide (y < 0) = false := decide_eq_false hy
      have hz' : decide (y > 4194304) = false := decide_eq_false hz
      clear HQ HQ2 HQ3 HE
      go_wp2_with fail
      go_ret
      exact HE2.out _ (HB1.out.trans ((Below.refl _ _).setCell (p := ⟨rb, i, none⟩) HRb.out _)) (HS1.out.round i y)
end Go.Proofs.YtjoflihimpipcabGreat.Nm.Ty
