import Derived.Test.YtenhjebiokegkaaNmRes0
import Derived.Test.YtenhjebiokegkaaLxConv
import Derived.Test.YtenhjebiokegkaaJMany
import Derived.Test.YtenhjebiokegkaaJNmD
import Derived.Test.YtenhjebiokegkaaNmRows
import Derived.Maps.AppendAt
import Derived.Laws.MakeOwn
import Derived.Test.YtenhjebiokegkaaLxBase
import Derived.ProofKit
import Derived.OpenShut
import Derived.ShutString
import Derived.ChangeOld
import Derived.Below
import Derived.JoinedCond
import Derived.SizedLaws
import Derived.SliceStrings
import Derived.ChangeMaps5
namespace Go.Proofs.Ytenhjebiokegkaa.Nm
open Go.RowKit Go.Maps Go.Proofs.Ytenhjebiokegkaa.Sp Go.Proofs.Ytenhjebiokegkaa.Lx Go.Proofs.Ytenhjebiokegkaa.Gr

abbrev nbrC (c : UInt8) (n : Nat) : Obj := .cells #[.int .u8 (c.toNat : Int), .int .u8 (48 + (n : Int) / 100), .int .u8 (48 + (n : Int) / 10 % 10), .int .u8 (48 + (n : Int) % 10)] 5 (0, 0)
theorem nbr_row (c : UInt8) (n : Nat) (hn : n < 1000) (w : World) : IsBytes (w.alloc (nbrC c n)) (some ⟨w.heap.size, 0, none⟩) (nbr c n) := by
  have hb := heap_alloc_new w (nbrC c n)
  intro i hi
  have hi : i < 4 := hi
  refine ⟨w.heap.size, 0, rfl, by simp, ?_⟩
  obtain rfl | rfl | rfl | rfl : i = 0 ∨ i = 1 ∨ i = 2 ∨ i = 3 := by omega
  all_goals
    simp only [World.cell?, hb]
  · rfl
  · show some (Value.int .u8 (48 + (n : Int) / 100)) = some (Value.int .u8 (((UInt8.ofNat (48 + n / 100)).toNat : Nat) : Int))
    rw [UInt8.toNat_ofNat']
    congr 2
    omega
  · show some (Value.int .u8 (48 + (n : Int) / 10 % 10)) = some (Value.int .u8 (((UInt8.ofNat (48 + n / 10 % 10)).toNat : Nat) : Int))
    rw [UInt8.toNat_ofNat']
    congr 2
    omega
  · show some (Value.int .u8 (48 + (n : Int) % 10)) = some (Value.int .u8 (((UInt8.ofNat (48 + n % 10)).toNat : Nat) : Int))
    rw [UInt8.toNat_ofNat']
    congr 2
    omega
set_option maxHeartbeats 1600000 in
set_option maxRecDepth 100000 in
theorem numbered_any (c : UInt8) (n : Nat) (hn : n < 1000) (w : World) : Calls Try.prog 10 #[.int .u8 (c.toNat : Int), .int .i64 (n : Int)] w fun e w' => e = .returned (.string (nbr c n)) ∧ Below w.heap.size w w' := by
  have hc : (convert 48 9 (.slice (some ⟨w.heap.size, 0, none⟩) 4 4)).run Try.prog (w.alloc (nbrC c n)) = .ok (.string (nbr c n)) (w.alloc (nbrC c n)) := conv_any Try.underlying48 _ (nbr c n) 4 _ (nbr_row c n hn w)
  have HB : Hid (∀ x, Below w.heap.size w (w.alloc x)) := fun x => (Below.refl _ w).alloc (Nat.le_refl _) x
  go_enter Try.func10, Try.ntmps10
  go_wp2_with fail
  go_ret
  exact ⟨rfl, HB.out _⟩
end Go.Proofs.Ytenhjebiokegkaa.Nm

namespace Go.Proofs.Ytenhjebiokegkaa.Nm
open Go.RowKit Go.Maps Go.Proofs.Ytenhjebiokegkaa.Sp Go.Proofs.Ytenhjebiokegkaa.Lx Go.Proofs.Ytenhjebiokegkaa.Gr

/-- round -/
def rnd7 (a : Int) (n : Nat) : Nat := if a.tmod n < 0 then (a.tmod n + n).toNat else (a.tmod n).toNat
theorem rnd7_lt (a : Int) {n : Nat} (hn : 0 < n) : rnd7 a n < n := by
  have h1 := Int.tmod_lt_of_pos a (show (0 : Int) < n by omega)
  have h2 := Int.lt_tmod_of_pos a (show (0 : Int) < n by omega)
  unfold rnd7
  split <;> omega
set_option maxHeartbeats 1600000 in
theorem round7 (a : Int) (n : Nat) (hn : 0 < n) (hn2 : n ≤ 2932031007317) (w : World) : Calls Try.prog 8 #[.int .i64 a, .int .i64 (n : Int)] w fun r w' => r = .returned (.int .i64 (rnd7 a n : Nat)) ∧ w' = w := by
  have h1 := Int.tmod_lt_of_pos a (show (0 : Int) < n by omega)
  have h2 := Int.lt_tmod_of_pos a (show (0 : Int) < n by omega)
  have hw : IntKind.i64.wrap (a.tmod n) = a.tmod n := by
    rw [IntKind.wrap_i64]
    generalize a.tmod n = z at *
    omega
  have h3 : ((n : Int) == 0) = false := by simp; omega
  have h4 : (n : Int) ≤ 2932031007317 := by omega
  by_cases h0 : a.tmod n < 0
  · have HR : Hid (rnd7 a n = (a.tmod n + n).toNat) := by show _ = _; unfold rnd7; rw [if_pos h0]
    go_enter Try.func8, Try.ntmps8
    go_wp2
    go_ret
    exact ⟨by rw [HR.out, Int.toNat_of_nonneg (by omega)]; rfl, rfl⟩
  · have h5 : decide (a.tmod n < 0) = false := by simp; omega
    have HR : Hid (rnd7 a n = (a.tmod n).toNat) := by show _ = _; unfold rnd7; rw [if_neg h0]
    go_enter Try.func8, Try.ntmps8
    go_wp2
    go_ret
    exact ⟨by rw [HR.out, Int.toNat_of_nonneg (by omega)]; rfl, rfl⟩
end Go.Proofs.Ytenhjebiokegkaa.Nm

namespace Go.Proofs.Ytenhjebiokegkaa.Nm
open Go.RowKit Go.Maps Go.Proofs.Ytenhjebiokegkaa.Sp Go.Proofs.Ytenhjebiokegkaa.Lx Go.Proofs.Ytenhjebiokegkaa.Gr

/-- append to an owned row, of a slice that may be nil -/
theorem run_app {P : Program} (w : World) (base : Nat) (t ty e : TypeId) (i : TypeInfo) (z : Value) (size bytes : Nat) (ht : P.underlying t = some (.slice e)) (hi : P.info? e = some i) (hz : i.zero = some z)
    (hsize : i.size = size) (hby : i.bytes = bytes) (hzs : z.cells.size = size) (hsz : 0 < size)
    (v : Value) (n : Nat) (xs : List Value) (hown : w.ownsRow base e size v n xs)
    (ao : Option Addr) (m c : Nat) (news : List Value) (hl : news.length = m * size) (hnone : ao = none → m = 0 ∧ c = 0) (hnews : ∀ ad, ao = some ad → ∀ j u, news[j]? = some u → w.cell? (ad.add j) = some u) (h1 : ∀ u ∈ news, u.oneCell' = true)
    (h63 : n + m ≤ maxLen) (hbytes : (n + m) * bytes ≤ 140737488355328) (hbase : base ≤ w.heap.size) :
    ∃ v' w', (Builtin.append_ #[t, t] ty #[v, .slice ao m c]).run P w = .ok v' w' ∧ w'.ownsRow base e size v' (n + m) (xs ++ news) ∧ w.grownBy w' v.ownBlock ∧ (v'.ownBlock = v.ownBlock ∨ v'.ownBlock = some w.heap.size) := by
  cases ao with
  | some ad =>
    obtain ⟨v', w', hr, h2, h3, _, h5⟩ := run_append_own_at (P := P) w base t ty e i z size bytes ht hi hz hsize hby hzs hsz v n xs hown ad m c news hl (hnews ad rfl) h1 h63 hbytes hbase
    exact ⟨v', w', hr, h2, h3, h5⟩
  | none =>
    obtain ⟨rfl, rfl⟩ := hnone rfl
    have he : news = [] := List.eq_nil_of_length_eq_zero (by simpa using hl)
    subst he
    exact ⟨v, w, run_append_owned_none (P := P) w base t ty e i size ht hi v n xs hown, by simpa using hown, World.grownBy.refl _ _, Or.inl rfl⟩
theorem wpl_app {P : Program} (w : World) {ops : Array Oper} {rest : List Oper} {o : Oper} {a : Act} {Q : Exit → Act → World → Prop} (hgd : o.guard = none) (s x : Operand) (t : TypeId)
    (ho : o.op = .call { callee := .builtin .append, args := #[s, x], argTypes := #[t, t] })
    (base : Nat) (e : TypeId) (i : TypeInfo) (z : Value) (size bytes : Nat) (ht : P.underlying t = some (.slice e)) (hi : P.info? e = some i) (hz : i.zero = some z)
    (hsize : i.size = size) (hby : i.bytes = bytes) (hzs : z.cells.size = size) (hsz : 0 < size)
    (v : Value) (n : Nat) (xs : List Value) (hs : a.eval s = v) (hown : w.ownsRow base e size v n xs)
    (ao : Option Addr) (m c : Nat) (news : List Value) (hx : a.eval x = .slice ao m c) (hl : news.length = m * size) (hnone : ao = none → m = 0 ∧ c = 0) (hnews : ∀ ad, ao = some ad → ∀ j u, news[j]? = some u → w.cell? (ad.add j) = some u) (h1 : ∀ u ∈ news, u.oneCell' = true)
    (h63 : n + m ≤ maxLen) (hbytes : (n + m) * bytes ≤ 140737488355328) (hbase : base ≤ w.heap.size)
    (h : ∀ v' w', w'.ownsRow base e size v' (n + m) (xs ++ news) → w.grownBy w' v.ownBlock → (v'.ownBlock = v.ownBlock ∨ v'.ownBlock = some w.heap.size) → wpList P ops Q rest (a.put o.dst v') w') : wpList P ops Q (o :: rest) a w := by
  refine wpList_plain hgd fun K hK => ?_
  obtain ⟨v', w', hr, h2, h3, h4⟩ := run_app (P := P) w base t o.type e i z size bytes ht hi hz hsize hby hzs hsz v n xs hown ao m c news hl hnone hnews h1 h63 hbytes hbase
  unfold Oper.wp execOp
  simp only [ho, resolve, invoke, builtin, Sem.run_bind, Sem.run_pure, Result.andThen_ok, List.map_toArray, List.map_cons, List.map_nil, hs, hx, hr]
  exact hK _ _ (h v' w' h2 h3 h4)
/-- the same, as one step of a region that draws -/
theorem step_app {P : Program} (w : World) {ops : Array Oper} {o : Oper} {a : Act} {K : Act → World → Prop} {Q : Exit → Act → World → Prop} {E : Prop} (hgd : o.guard = none) (s x : Operand) (t : TypeId)
    (ho : o.op = .call { callee := .builtin .append, args := #[s, x], argTypes := #[t, t] })
    (base : Nat) (e : TypeId) (i : TypeInfo) (z : Value) (size bytes : Nat) (ht : P.underlying t = some (.slice e)) (hi : P.info? e = some i) (hz : i.zero = some z)
    (hsize : i.size = size) (hby : i.bytes = bytes) (hzs : z.cells.size = size) (hsz : 0 < size)
    (v : Value) (n : Nat) (xs : List Value) (hs : a.eval s = v) (hown : w.ownsRow base e size v n xs)
    (ao : Option Addr) (m c : Nat) (news : List Value) (hx : a.eval x = .slice ao m c) (hl : news.length = m * size) (hnone : ao = none → m = 0 ∧ c = 0) (hnews : ∀ ad, ao = some ad → ∀ j u, news[j]? = some u → w.cell? (ad.add j) = some u) (h1 : ∀ u ∈ news, u.oneCell' = true)
    (h63 : n + m ≤ maxLen) (hbytes : (n + m) * bytes ≤ 140737488355328) (hbase : base ≤ w.heap.size)
    (h : ∀ v' w', w'.ownsRow base e size v' (n + m) (xs ++ news) → w.grownBy w' v.ownBlock → (v'.ownBlock = v.ownBlock ∨ v'.ownBlock = some w.heap.size) → K (a.put o.dst v') w') : if Region.wanted o (yielded ops a.tmps) = true then Oper.wp P o a w K Q else E := by
  have hw : Region.wanted o (yielded ops a.tmps) = true := by simp [Region.wanted, hgd]
  rw [if_pos hw]
  obtain ⟨v', w', hr, h2, h3, h4⟩ := run_app (P := P) w base t o.type e i z size bytes ht hi hz hsize hby hzs hsz v n xs hown ao m c news hl hnone hnews h1 h63 hbytes hbase
  unfold Oper.wp execOp
  simp only [ho, resolve, invoke, builtin, Sem.run_bind, Sem.run_pure, Result.andThen_ok, List.map_toArray, List.map_cons, List.map_nil, hs, hx, hr]
  exact h v' w' h2 h3 h4
/-- make of an empty row with room for three more -/
theorem mk_capJ {t e : TypeId} {i : TypeInfo} {z : Value} {size bytes : Nat} (ht : Try.prog.underlying t = some (.slice e)) (hi : Try.prog.info? e = some i) (hz : i.zero = some z) (hsize : i.size = size) (hby : i.bytes = bytes) (n : Nat) (hn : bytes * (n + 3) ≤ 140737488355352) (hn2 : n ≤ 140737488355328) :
    ∃ M : Array Value, (∀ u : World, (Instr.makeSlice t (.int .i64 0) (.int .i64 ((n : Int) + 3))).run Try.prog u = .ok (.slice (some ⟨u.heap.size, 0, none⟩) 0 (n + 3)) (u.alloc (.cells M e))) ∧ M.size = (n + 3) * size := by
  refine ⟨_, fun u => ?_, size_madeCells z.cells ((n + 3) * size)⟩
  have h := run_make (P := Try.prog) u t e i z ht hi hz .i64 .i64 0 ((n : Int) + 3) (Int.le_refl _) (by omega) (by
    rw [hby]
    have : (bytes : Int) * ((n : Int) + 3) = ((bytes * (n + 3) : Nat) : Int) := by simp
    rw [this]
    omega) (by omega)
  have e1 : ((n : Int) + 3).toNat = n + 3 := by omega
  rw [e1, hsize] at h
  exact h
theorem own_madeJ {u : World} {M : Array Value} {e : TypeId} {n size base : Nat} (hM : M.size = (n + 3) * size) (hb : base ≤ u.heap.size) (hn : n ≤ 140737488355328) : (u.alloc (.cells M e)).ownsRow base e size (.slice (some ⟨u.heap.size, 0, none⟩) 0 (n + 3)) 0 [] :=
  own_mk (cur := M.toList) (by simp) hb (by rw [Array.toArray_toList]; exact heap_alloc_new u _) (Nat.zero_le _) (by unfold maxLen; omega) (by simpa using hM) (by simp)
theorem vals_src {w : World} {ao : Option Addr} {xs : List Value} (h : IsVals w ao xs) : ∀ ad, ao = some ad → ∀ j u, xs[j]? = some u → w.cell? (ad.add j) = some u := fun ad e j u hu => by
  obtain ⟨g, o, e2, _, hc⟩ := h j u hu
  rw [e] at e2
  cases e2
  rw [Lib.addr_add]
  exact hc
theorem vals_nil {w : World} {ao : Option Addr} {xs : List Value} {m sz : Nat} (h : IsVals w ao xs) (hl : xs.length = m * sz) (hs : 0 < sz) : ao = none → m = 0 := fun e => by
  cases m with
  | zero => rfl
  | succ m =>
    have h0 : 0 < xs.length := by rw [hl, Nat.succ_mul]; omega
    obtain ⟨g, o, e2, _⟩ := h 0 _ (List.getElem?_eq_getElem h0)
    rw [e] at e2
    cases e2
theorem iv_one (l : List Int) : ∀ u ∈ iv l, u.oneCell' = true := fun u hu => by
  obtain ⟨n, _, rfl⟩ := List.mem_map.1 hu
  rfl
theorem own_some {w : World} {base : Nat} {e : TypeId} {size : Nat} {v : Value} {n : Nat} {xs : List Value} (h : w.ownsRow base e size v n xs) (hn : 0 < n) : ∃ g cap, v = .slice (some ⟨g, 0, none⟩) n cap ∧ n ≤ cap ∧ cap ≤ maxLen := by
  obtain ⟨g, cap, cur, e1, _, _, h4, h5, _⟩ := own_block h hn
  exact ⟨g, cap, e1, h4, h5⟩
theorem mk_cap {t e : TypeId} {i : TypeInfo} {z : Value} {size bytes : Nat} (ht : Try.prog.underlying t = some (.slice e)) (hi : Try.prog.info? e = some i) (hz : i.zero = some z) (hsize : i.size = size) (hby : i.bytes = bytes) (hb : bytes ≤ 1000) (n : Nat) (hn : n ≤ 1000) :
    ∃ M : Array Value, (∀ u : World, (Instr.makeSlice t (.int .i64 0) (.int .i64 ((n : Int) + 3))).run Try.prog u = .ok (.slice (some ⟨u.heap.size, 0, none⟩) 0 (n + 3)) (u.alloc (.cells M e))) ∧ M.size = (n + 3) * size := mk_capJ ht hi hz hsize hby n (Nat.le_trans (Nat.mul_le_mul hb (show n + 3 ≤ 1003 by omega)) (by decide)) (by omega)
theorem own_made {u : World} {M : Array Value} {e : TypeId} {n size base : Nat} (hM : M.size = (n + 3) * size) (hb : base ≤ u.heap.size) (hn : n ≤ 1000) : (u.alloc (.cells M e)).ownsRow base e size (.slice (some ⟨u.heap.size, 0, none⟩) 0 (n + 3)) 0 [] := own_madeJ hM hb (by omega)
end Go.Proofs.Ytenhjebiokegkaa.Nm

namespace Go.Proofs.Ytenhjebiokegkaa.Nm
open Go.RowKit Go.Maps Go.Proofs.Ytenhjebiokegkaa.Sp Go.Proofs.Ytenhjebiokegkaa.Lx Go.Proofs.Ytenhjebiokegkaa.Gr

set_option maxHeartbeats 1600000 in
set_option maxRecDepth 100000 in
/-- row -/
theorem rowF_any (k : Int) (nm : ByteArray) (m : Int) (w : World) : Calls Try.prog 9 #[.int .i64 k, .string nm, .int .i64 m] w fun e w' => e = .returned (.agg #[.int .i64 k, .string nm, .int .i64 0, .int .i64 0, .int .i64 m]) ∧ Below w.heap.size w w' := by
  have HB : Hid (Below w.heap.size w (w.alloc (.cells #[.int .i64 k, .string nm, .int .i64 0, .int .i64 0, .int .i64 m] 27))) := (Below.refl _ w).alloc (Nat.le_refl _) _
  have hn := heap_alloc_new w (.cells #[.int .i64 k, .string nm, .int .i64 0, .int .i64 0, .int .i64 m] 27)
  have y0 : (w.alloc (.cells #[.int .i64 k, .string nm, .int .i64 0, .int .i64 0, .int .i64 m] 27)).cell? ⟨w.heap.size, 0, none⟩ = some (.int .i64 k) := by simp only [World.cell?, hn]; rfl
  have y1 : (w.alloc (.cells #[.int .i64 k, .string nm, .int .i64 0, .int .i64 0, .int .i64 m] 27)).cell? ⟨w.heap.size, 1, none⟩ = some (.string nm) := by simp only [World.cell?, hn]; rfl
  have y2 : (w.alloc (.cells #[.int .i64 k, .string nm, .int .i64 0, .int .i64 0, .int .i64 m] 27)).cell? ⟨w.heap.size, 2, none⟩ = some (.int .i64 0) := by simp only [World.cell?, hn]; rfl
  have y3 : (w.alloc (.cells #[.int .i64 k, .string nm, .int .i64 0, .int .i64 0, .int .i64 m] 27)).cell? ⟨w.heap.size, 3, none⟩ = some (.int .i64 0) := by simp only [World.cell?, hn]; rfl
  have y4 : (w.alloc (.cells #[.int .i64 k, .string nm, .int .i64 0, .int .i64 0, .int .i64 m] 27)).cell? ⟨w.heap.size, 4, none⟩ = some (.int .i64 m) := by simp only [World.cell?, hn]; rfl
  clear hn
  go_enter Try.func9, Try.ntmps9
  go_wp2_with fail
  exact bodyPost_ret (v := .agg #[.int .i64 k, .string nm, .int .i64 0, .int .i64 0, .int .i64 m]) (by simp [results, Try.results9, go_sem, y0, y1, y2, y3, y4]) rfl ⟨rfl, HB.out⟩
/-- where the first one too many stands -/
def nxA (a0 lim len k : Nat) : Nat := if a0 ≠ 0 then a0 else if lim < k then len else 0
theorem nxA_zero (a0 lim len : Nat) : nxA a0 lim len 0 = a0 := by unfold nxA; split <;> simp_all
theorem nxA_ne {a0 lim len k : Nat} (h : k ≠ lim) : nxA a0 lim len (k + 1) = nxA a0 lim len k := by
  unfold nxA
  split
  · rfl
  · by_cases h1 : lim < k
    · rw [if_pos h1, if_pos (by omega)]
    · rw [if_neg h1, if_neg (by omega)]
theorem nxA_old {a0 lim len k : Nat} (h : a0 ≠ 0) : nxA a0 lim len k = a0 := by unfold nxA; rw [if_pos h]
theorem nxA_new {lim len : Nat} : nxA 0 lim len lim = 0 ∧ nxA 0 lim len (lim + 1) = len := by
  unfold nxA
  simp
theorem over_nx (r t v q : Nat) : over r t v q = (if nxA (nxA (nxA (nxA 0 64 (1 + 64 * 2) r) 4 (1 + r * 2 + 4 * 2) t) 16 (1 + r * 2 + t * 2 + 16 * 4) v) 16 (1 + r * 2 + t * 2 + v * 4 + 16 * 1) q = 0 then none else some (nxA (nxA (nxA (nxA 0 64 (1 + 64 * 2) r) 4 (1 + r * 2 + 4 * 2) t) 16 (1 + r * 2 + t * 2 + 16 * 4) v) 16 (1 + r * 2 + t * 2 + v * 4 + 16 * 1) q)) := by
  unfold over
  by_cases h1 : 64 < r
  · have e : nxA 0 64 (1 + 64 * 2) r = 129 := by unfold nxA; simp [h1]
    rw [if_pos h1, e, nxA_old (a0 := 129) (by decide), nxA_old (a0 := 129) (by decide), nxA_old (a0 := 129) (by decide)]
    rfl
  · have e : nxA 0 64 (1 + 64 * 2) r = 0 := by unfold nxA; simp [h1]
    rw [if_neg h1, e]
    by_cases h2 : 4 < t
    · have e : nxA 0 4 (1 + r * 2 + 4 * 2) t = 1 + r * 2 + 4 * 2 := by unfold nxA; simp [h2]
      rw [if_pos h2, e, nxA_old (a0 := 1 + r * 2 + 4 * 2) (by omega), nxA_old (a0 := 1 + r * 2 + 4 * 2) (by omega), if_neg (by omega)]
      exact congrArg some (by omega)
    · have e : nxA 0 4 (1 + r * 2 + 4 * 2) t = 0 := by unfold nxA; simp [h2]
      rw [if_neg h2, e]
      by_cases h3 : 16 < v
      · have e : nxA 0 16 (1 + r * 2 + t * 2 + 16 * 4) v = 1 + r * 2 + t * 2 + 16 * 4 := by unfold nxA; simp [h3]
        rw [if_pos h3, e, nxA_old (a0 := 1 + r * 2 + t * 2 + 16 * 4) (by omega), if_neg (by omega)]
        exact congrArg some (by omega)
      · have e : nxA 0 16 (1 + r * 2 + t * 2 + 16 * 4) v = 0 := by unfold nxA; simp [h3]
        rw [if_neg h3, e]
        by_cases h4 : 16 < q
        · have e : nxA 0 16 (1 + r * 2 + t * 2 + v * 4 + 16 * 1) q = 1 + r * 2 + t * 2 + v * 4 + 16 * 1 := by unfold nxA; simp [h4]
          rw [if_pos h4, e, if_neg (by omega)]
          exact congrArg some (by omega)
        · have e : nxA 0 16 (1 + r * 2 + t * 2 + v * 4 + 16 * 1) q = 0 := by unfold nxA; simp [h4]
          rw [if_neg h4, e]
          rfl
theorem cells_new (w : World) (T : TypeId) (xs : List Value) : ∀ j u, xs[j]? = some u → (w.alloc (.cells xs.toArray T)).cell? ((⟨w.heap.size, 0, none⟩ : Addr).add j) = some u := by
  intro j u h
  rw [Lib.addr_add]
  simp only [World.cell?, heap_alloc_new w (.cells xs.toArray T), Nat.zero_add]
  simpa using h
theorem rz_of_ownM {w : World} {base n c : Nat} {bo : Option Addr} {l : List Rz} (h : w.ownsRow base 27 5 (.slice bo n c) n (l.flatMap rz5)) (hl : l.length = n) : IsRz w bo l := by
  subst hl
  cases l with
  | nil => exact fun i x hx => by simp at hx
  | cons x l =>
    obtain ⟨g, cap, cur, e, _⟩ := own_block h (by simp)
    cases e
    exact (rw_of_own h).rz
set_option maxHeartbeats 51200000 in
set_option maxRecDepth 100000 in
theorem manyWalk (aq av at_ ar : Int) (w : World) : Calls Try.prog 4 #[.int .i64 aq, .int .i64 av, .int .i64 at_, .int .i64 ar] w fun e w' => e = .returned (.bool true) ∧ Below w.heap.size w w' := by
  have HQ := show Hid _ from round7 aq 20 (by decide) (by decide) w
  have HV := show Hid _ from round7 av 20 (by decide) (by decide) w
  have HT := show Hid _ from round7 at_ 7 (by decide) (by decide) w
  have HR := show Hid _ from round7 ar 68 (by decide) (by decide) w
  have hq := rnd7_lt aq (n := 20) (by decide)
  have hv := rnd7_lt av (n := 20) (by decide)
  have ht := rnd7_lt at_ (n := 7) (by decide)
  have hr := rnd7_lt ar (n := 68) (by decide)
  generalize rnd7 aq 20 = q at *
  generalize rnd7 av 20 = v at *
  generalize rnd7 at_ 7 = t at *
  generalize rnd7 ar 68 = r at *
  have HSz : Hid (q < 20 ∧ v < 20 ∧ t < 7 ∧ r < 68) := ⟨hq, hv, ht, hr⟩
  have hq2 : (q : Int) ≤ 20 := by omega
  have hv2 : (v : Int) ≤ 20 := by omega
  have ht2 : (t : Int) ≤ 7 := by omega
  have hr2 : (r : Int) ≤ 68 := by omega
  obtain ⟨i0, hi, hz0, hz1, hz2⟩ := info_parts infoRw
  clear hq hv ht hr
  go_enter Try.func4, Try.ntmps4
  go_wp2_with fail
  refine Calls.mono HQ.out ?_
  rintro e w1 ⟨rfl, hw1⟩
  rw [hw1]
  clear hw1 w1 HQ
  go_wp2_with fail
  refine Calls.mono HV.out ?_
  rintro e w1 ⟨rfl, hw1⟩
  rw [hw1]
  clear hw1 w1 HV
  go_wp2_with fail
  refine Calls.mono HT.out ?_
  rintro e w1 ⟨rfl, hw1⟩
  rw [hw1]
  clear hw1 w1 HT
  go_wp2_with fail
  refine Calls.mono HR.out ?_
  rintro e w1 ⟨rfl, hw1⟩
  rw [hw1]
  clear hw1 w1 HR
  have HP := show Hid _ from rowF_any 1 ⟨#[112]⟩ ((q : Int) + (v : Int) + (t : Int) + (r : Int)) w
  go_wp2_with fail
  refine Calls.mono HP.out ?_
  rintro e w1 ⟨rfl, hb1⟩
  have HO0 : Hid ((w1.alloc (.cells #[.int .i64 1, .string ⟨#[112]⟩, .int .i64 0, .int .i64 0, .int .i64 ((q : Int) + (v : Int) + (t : Int) + (r : Int))] 27)).ownsRow w.heap.size 27 5 (.slice (some ⟨w1.heap.size, 0, none⟩) 1 1) 1 ([(⟨1, bp7, 0, 0, (q : Int) + (v : Int) + (t : Int) + (r : Int)⟩ : Rz)].flatMap rz5) ∧ Below w.heap.size w (w1.alloc (.cells #[.int .i64 1, .string ⟨#[112]⟩, .int .i64 0, .int .i64 0, .int .i64 ((q : Int) + (v : Int) + (t : Int) + (r : Int))] 27))) := ⟨own_mk (cur := [.int .i64 1, .string ⟨#[112]⟩, .int .i64 0, .int .i64 0, .int .i64 ((q : Int) + (v : Int) + (t : Int) + (r : Int))]) rfl hb1.size (heap_alloc_new w1 _) (Nat.le_refl _) (by unfold maxLen; decide) rfl rfl, hb1.alloc hb1.size _⟩
  clear hb1 HP
  go_wp2_with fail
  generalize w1.alloc (.cells #[.int .i64 1, .string ⟨#[112]⟩, .int .i64 0, .int .i64 0, .int .i64 ((q : Int) + (v : Int) + (t : Int) + (r : Int))] 27) = w2 at *
  obtain ⟨Lp, hLp⟩ : ∃ Lp : List Rz, Lp = [⟨1, bp7, 0, 0, (q : Int) + (v : Int) + (t : Int) + (r : Int)⟩] := ⟨_, rfl⟩
  have HL0 : Hid (Lp = [⟨1, bp7, 0, 0, (q : Int) + (v : Int) + (t : Int) + (r : Int)⟩]) := hLp
  rw [← hLp] at HO0
  clear hLp
  obtain ⟨a00, ha00⟩ : ∃ a00 : Nat, a00 = 0 := ⟨0, rfl⟩
  have Ha00 : Hid (a00 = 0) := ha00
  clear ha00
  go_loopg [9, 10, 11] r (fun gq x y z wr => ∃ k : Nat, k + gq = r ∧ z = .int .i64 (k : Int) ∧ y = .int .i64 (nxA a00 64 (1 + 64 * 2) k : Nat) ∧ wr.ownsRow w.heap.size 27 5 x (1 + k * 2) ((Lp ++ (List.range k).flatMap ckR).flatMap rz5) ∧ Below w.heap.size w wr)
  case atStart => exact ⟨0, by omega, rfl, by rw [nxA_zero, Ha00.out]; rfl, by simpa using HO0.out.1, HO0.out.2⟩
  case round =>
    obtain ⟨k, hkg, rfl, rfl, hown, hbw⟩ := hrel
    obtain ⟨so, sc, rfl⟩ := own_form hown
    obtain ⟨ln, hln⟩ : ∃ ln, 1 + k * 2 = ln := ⟨_, rfl⟩
    rw [hln] at hown ⊢
    have HG : Hid (k + gk = r ∧ wr.ownsRow w.heap.size 27 5 (.slice so ln sc) ln ((Lp ++ (List.range k).flatMap ckR).flatMap rz5) ∧ Below w.heap.size w wr ∧ 1 + k * 2 = ln) := ⟨hkg, hown, hbw, hln⟩
    have hlnI : (ln : Int) ≤ 100000 := by have := HSz.out; omega
    by_cases hlt : k < r
    · have hk' : (k : Int) < (r : Int) := by omega
      have hk2 : (k : Int) ≤ 100 := by have := HSz.out; omega
      have HLt : Hid (k < r) := hlt
      clear hkg hown hbw hlt
      by_cases hkl : k = 64
      · by_cases ha0 : a00 = 0
        · have HA1 : Hid (nxA a00 64 (1 + 64 * 2) (k + 1) = ln) := by
            show _ = _
            rw [hkl, ha0, nxA_new.2, ← hln, hkl]
          have hak : nxA a00 64 (1 + 64 * 2) k = 0 := by rw [hkl, ha0]; exact nxA_new.1
          have hq1 : ((k : Int) == 64) = true := by simp; omega
          rw [hak]
          clear hak hkl ha0 hln
          have HNb : Hid (Calls Try.prog 10 #[.int .u8 114, .int .i64 (k : Int)] wr fun e w' => e = .returned (.string (nbr 114 k)) ∧ Below wr.heap.size wr w') := numbered_any 114 k (by have := HLt.out; have := HSz.out; omega) wr
          have HCk : Hid ((ckR k).flatMap rz5 = [.int .i64 7, .string (nbr 114 k), .int .i64 0, .int .i64 0, .int .i64 1, .int .i64 11, .string ⟨#[]⟩, .int .i64 0, .int .i64 0, .int .i64 0]) := rfl
          generalize nbr 114 k = nm at *
          go_wp2_with fail
          refine Calls.mono HNb.out ?_
          rintro e wa ⟨rfl, hba⟩
          have HBa : Hid (Below wr.heap.size wr wa) := hba
          clear HNb hba
          have HRw := show Hid _ from rowF_any 7 nm 1 wa
          go_wp2_with fail
          refine Calls.mono HRw.out ?_
          rintro e wb ⟨rfl, hbb⟩
          have HBb : Hid (Below wr.heap.size wr wb) := HBa.out.trans (hbb.mono HBa.out.size)
          clear HRw hbb HBa wa
          obtain ⟨wa, hwa⟩ : ∃ wa, wa = wb := ⟨_, rfl⟩
          rw [← hwa] at HBb ⊢
          have HBa := show Hid _ from HBb.out
          clear hwa HBb wb
          have HRw := show Hid _ from rowF_any 11 ⟨#[]⟩ 0 wa
          go_wp2_with fail
          refine Calls.mono HRw.out ?_
          rintro e wb ⟨rfl, hbb⟩
          have HBb : Hid (Below wr.heap.size wr wb) := HBa.out.trans (hbb.mono HBa.out.size)
          clear HRw hbb HBa wa
          obtain ⟨wa, hwa⟩ : ∃ wa, wa = wb := ⟨_, rfl⟩
          rw [← hwa] at HBb ⊢
          have HBa := show Hid _ from HBb.out
          clear hwa HBb wb
          have hbU : Below wr.heap.size wr (wa.alloc (.cells #[.int .i64 7, .string nm, .int .i64 0, .int .i64 0, .int .i64 1, .int .i64 11, .string ⟨#[]⟩, .int .i64 0, .int .i64 0, .int .i64 0] 27)) := HBa.out.alloc HBa.out.size _
          have HOw : Hid ((wa.alloc (.cells #[.int .i64 7, .string nm, .int .i64 0, .int .i64 0, .int .i64 1, .int .i64 11, .string ⟨#[]⟩, .int .i64 0, .int .i64 0, .int .i64 0] 27)).ownsRow w.heap.size 27 5 (.slice so ln sc) ln ((Lp ++ (List.range k).flatMap ckR).flatMap rz5) ∧ Below w.heap.size w (wa.alloc (.cells #[.int .i64 7, .string nm, .int .i64 0, .int .i64 0, .int .i64 1, .int .i64 11, .string ⟨#[]⟩, .int .i64 0, .int .i64 0, .int .i64 0] 27)) ∧ ln ≤ 100000) := ⟨own_below HG.out.2.1 hbU, HG.out.2.2.1.trans (hbU.mono HG.out.2.2.1.size), by have := HG.out.2.2.2; have := HLt.out; have := HSz.out; omega⟩
          clear hbU
          go_wp2_with (at_builtin; refine wpl_app _ rfl _ _ 29 rfl w.heap.size 27 i0 (.agg #[.int .i64 0, .string ⟨#[]⟩, .int .i64 0, .int .i64 0, .int .i64 0]) 5 48 Try.underlying29 hi hz0 hz1 hz2 rfl (by decide) (.slice so ln sc) ln ((Lp ++ (List.range k).flatMap ckR).flatMap rz5) rfl HOw.out.1 (some ⟨wa.heap.size, 0, none⟩) 2 2 [.int .i64 7, .string nm, .int .i64 0, .int .i64 0, .int .i64 1, .int .i64 11, .string ⟨#[]⟩, .int .i64 0, .int .i64 0, .int .i64 0] rfl rfl (fun e => by cases e) (fun ad e => by cases e; exact cells_new wa _ _) (by intro u hu; simp only [List.mem_cons, List.not_mem_nil, or_false] at hu; rcases hu with rfl | rfl | rfl | rfl | rfl | rfl | rfl | rfl | rfl | rfl <;> rfl) ?c3 ?c4 HOw.out.2.1.size ?_)
          case c3 => have := HOw.out.2.2; unfold maxLen; omega
          case c4 => have := HOw.out.2.2; omega
          intro v2 w4 ho2 hg2 _
          have H4 : Hid (w4.ownsRow w.heap.size 27 5 v2 (1 + (k + 1) * 2) ((Lp ++ (List.range (k + 1)).flatMap ckR).flatMap rz5) ∧ Below w.heap.size w w4) := ⟨by
            have e1 : (Lp ++ (List.range (k + 1)).flatMap ckR).flatMap rz5 = (Lp ++ (List.range k).flatMap ckR).flatMap rz5 ++ [.int .i64 7, .string nm, .int .i64 0, .int .i64 0, .int .i64 1, .int .i64 11, .string ⟨#[]⟩, .int .i64 0, .int .i64 0, .int .i64 0] := by
              rw [← HCk.out, List.range_succ]
              simp [List.flatMap_append]
            rw [e1, show 1 + (k + 1) * 2 = ln + 2 by have := HG.out.2.2.2; omega, List.flatMap_append, List.append_assoc]
            exact ho2, HOw.out.2.1.grown hg2 HOw.out.2.1.size (fun q e => (World.ownsRow.lt HOw.out.1 q e).1)⟩
          obtain ⟨bo, bc, rfl⟩ := own_form ho2
          clear ho2 hg2 HOw
          go_wp2_with fail
          go_roundg (r - (k + 1))
          case measure => have := HG.out.1; have := HLt.out; omega
          case rel => exact ⟨k + 1, by have := HLt.out; omega, by go_num, by rw [HA1.out], H4.out.1, H4.out.2⟩
        · have HA1 : Hid (nxA a00 64 (1 + 64 * 2) (k + 1) = a00) := nxA_old ha0
          have hak : nxA a00 64 (1 + 64 * 2) k = a00 := nxA_old ha0
          have hq1 : ((k : Int) == 64) = true := by simp; omega
          have hq2 : ((a00 : Int) == 0) = false := by simp; omega
          rw [hak]
          clear hak hkl ha0 hln
          have HNb : Hid (Calls Try.prog 10 #[.int .u8 114, .int .i64 (k : Int)] wr fun e w' => e = .returned (.string (nbr 114 k)) ∧ Below wr.heap.size wr w') := numbered_any 114 k (by have := HLt.out; have := HSz.out; omega) wr
          have HCk : Hid ((ckR k).flatMap rz5 = [.int .i64 7, .string (nbr 114 k), .int .i64 0, .int .i64 0, .int .i64 1, .int .i64 11, .string ⟨#[]⟩, .int .i64 0, .int .i64 0, .int .i64 0]) := rfl
          generalize nbr 114 k = nm at *
          go_wp2_with fail
          refine Calls.mono HNb.out ?_
          rintro e wa ⟨rfl, hba⟩
          have HBa : Hid (Below wr.heap.size wr wa) := hba
          clear HNb hba
          have HRw := show Hid _ from rowF_any 7 nm 1 wa
          go_wp2_with fail
          refine Calls.mono HRw.out ?_
          rintro e wb ⟨rfl, hbb⟩
          have HBb : Hid (Below wr.heap.size wr wb) := HBa.out.trans (hbb.mono HBa.out.size)
          clear HRw hbb HBa wa
          obtain ⟨wa, hwa⟩ : ∃ wa, wa = wb := ⟨_, rfl⟩
          rw [← hwa] at HBb ⊢
          have HBa := show Hid _ from HBb.out
          clear hwa HBb wb
          have HRw := show Hid _ from rowF_any 11 ⟨#[]⟩ 0 wa
          go_wp2_with fail
          refine Calls.mono HRw.out ?_
          rintro e wb ⟨rfl, hbb⟩
          have HBb : Hid (Below wr.heap.size wr wb) := HBa.out.trans (hbb.mono HBa.out.size)
          clear HRw hbb HBa wa
          obtain ⟨wa, hwa⟩ : ∃ wa, wa = wb := ⟨_, rfl⟩
          rw [← hwa] at HBb ⊢
          have HBa := show Hid _ from HBb.out
          clear hwa HBb wb
          have hbU : Below wr.heap.size wr (wa.alloc (.cells #[.int .i64 7, .string nm, .int .i64 0, .int .i64 0, .int .i64 1, .int .i64 11, .string ⟨#[]⟩, .int .i64 0, .int .i64 0, .int .i64 0] 27)) := HBa.out.alloc HBa.out.size _
          have HOw : Hid ((wa.alloc (.cells #[.int .i64 7, .string nm, .int .i64 0, .int .i64 0, .int .i64 1, .int .i64 11, .string ⟨#[]⟩, .int .i64 0, .int .i64 0, .int .i64 0] 27)).ownsRow w.heap.size 27 5 (.slice so ln sc) ln ((Lp ++ (List.range k).flatMap ckR).flatMap rz5) ∧ Below w.heap.size w (wa.alloc (.cells #[.int .i64 7, .string nm, .int .i64 0, .int .i64 0, .int .i64 1, .int .i64 11, .string ⟨#[]⟩, .int .i64 0, .int .i64 0, .int .i64 0] 27)) ∧ ln ≤ 100000) := ⟨own_below HG.out.2.1 hbU, HG.out.2.2.1.trans (hbU.mono HG.out.2.2.1.size), by have := HG.out.2.2.2; have := HLt.out; have := HSz.out; omega⟩
          clear hbU
          go_wp2_with (at_builtin; refine wpl_app _ rfl _ _ 29 rfl w.heap.size 27 i0 (.agg #[.int .i64 0, .string ⟨#[]⟩, .int .i64 0, .int .i64 0, .int .i64 0]) 5 48 Try.underlying29 hi hz0 hz1 hz2 rfl (by decide) (.slice so ln sc) ln ((Lp ++ (List.range k).flatMap ckR).flatMap rz5) rfl HOw.out.1 (some ⟨wa.heap.size, 0, none⟩) 2 2 [.int .i64 7, .string nm, .int .i64 0, .int .i64 0, .int .i64 1, .int .i64 11, .string ⟨#[]⟩, .int .i64 0, .int .i64 0, .int .i64 0] rfl rfl (fun e => by cases e) (fun ad e => by cases e; exact cells_new wa _ _) (by intro u hu; simp only [List.mem_cons, List.not_mem_nil, or_false] at hu; rcases hu with rfl | rfl | rfl | rfl | rfl | rfl | rfl | rfl | rfl | rfl <;> rfl) ?c3 ?c4 HOw.out.2.1.size ?_)
          case c3 => have := HOw.out.2.2; unfold maxLen; omega
          case c4 => have := HOw.out.2.2; omega
          intro v2 w4 ho2 hg2 _
          have H4 : Hid (w4.ownsRow w.heap.size 27 5 v2 (1 + (k + 1) * 2) ((Lp ++ (List.range (k + 1)).flatMap ckR).flatMap rz5) ∧ Below w.heap.size w w4) := ⟨by
            have e1 : (Lp ++ (List.range (k + 1)).flatMap ckR).flatMap rz5 = (Lp ++ (List.range k).flatMap ckR).flatMap rz5 ++ [.int .i64 7, .string nm, .int .i64 0, .int .i64 0, .int .i64 1, .int .i64 11, .string ⟨#[]⟩, .int .i64 0, .int .i64 0, .int .i64 0] := by
              rw [← HCk.out, List.range_succ]
              simp [List.flatMap_append]
            rw [e1, show 1 + (k + 1) * 2 = ln + 2 by have := HG.out.2.2.2; omega, List.flatMap_append, List.append_assoc]
            exact ho2, HOw.out.2.1.grown hg2 HOw.out.2.1.size (fun q e => (World.ownsRow.lt HOw.out.1 q e).1)⟩
          obtain ⟨bo, bc, rfl⟩ := own_form ho2
          clear ho2 hg2 HOw
          go_wp2_with fail
          go_roundg (r - (k + 1))
          case measure => have := HG.out.1; have := HLt.out; omega
          case rel => exact ⟨k + 1, by have := HLt.out; omega, by go_num, by rw [HA1.out], H4.out.1, H4.out.2⟩
      · have HA1 : Hid (nxA a00 64 (1 + 64 * 2) (k + 1) = nxA a00 64 (1 + 64 * 2) k) := nxA_ne hkl
        have hq1 : ((k : Int) == 64) = false := by simp; omega
        obtain ⟨ak, hak⟩ : ∃ ak, nxA a00 64 (1 + 64 * 2) k = ak := ⟨_, rfl⟩
        rw [hak] at HA1 ⊢
        clear hak hkl hln
        have HNb : Hid (Calls Try.prog 10 #[.int .u8 114, .int .i64 (k : Int)] wr fun e w' => e = .returned (.string (nbr 114 k)) ∧ Below wr.heap.size wr w') := numbered_any 114 k (by have := HLt.out; have := HSz.out; omega) wr
        have HCk : Hid ((ckR k).flatMap rz5 = [.int .i64 7, .string (nbr 114 k), .int .i64 0, .int .i64 0, .int .i64 1, .int .i64 11, .string ⟨#[]⟩, .int .i64 0, .int .i64 0, .int .i64 0]) := rfl
        generalize nbr 114 k = nm at *
        go_wp2_with fail
        refine Calls.mono HNb.out ?_
        rintro e wa ⟨rfl, hba⟩
        have HBa : Hid (Below wr.heap.size wr wa) := hba
        clear HNb hba
        have HRw := show Hid _ from rowF_any 7 nm 1 wa
        go_wp2_with fail
        refine Calls.mono HRw.out ?_
        rintro e wb ⟨rfl, hbb⟩
        have HBb : Hid (Below wr.heap.size wr wb) := HBa.out.trans (hbb.mono HBa.out.size)
        clear HRw hbb HBa wa
        obtain ⟨wa, hwa⟩ : ∃ wa, wa = wb := ⟨_, rfl⟩
        rw [← hwa] at HBb ⊢
        have HBa := show Hid _ from HBb.out
        clear hwa HBb wb
        have HRw := show Hid _ from rowF_any 11 ⟨#[]⟩ 0 wa
        go_wp2_with fail
        refine Calls.mono HRw.out ?_
        rintro e wb ⟨rfl, hbb⟩
        have HBb : Hid (Below wr.heap.size wr wb) := HBa.out.trans (hbb.mono HBa.out.size)
        clear HRw hbb HBa wa
        obtain ⟨wa, hwa⟩ : ∃ wa, wa = wb := ⟨_, rfl⟩
        rw [← hwa] at HBb ⊢
        have HBa := show Hid _ from HBb.out
        clear hwa HBb wb
        have hbU : Below wr.heap.size wr (wa.alloc (.cells #[.int .i64 7, .string nm, .int .i64 0, .int .i64 0, .int .i64 1, .int .i64 11, .string ⟨#[]⟩, .int .i64 0, .int .i64 0, .int .i64 0] 27)) := HBa.out.alloc HBa.out.size _
        have HOw : Hid ((wa.alloc (.cells #[.int .i64 7, .string nm, .int .i64 0, .int .i64 0, .int .i64 1, .int .i64 11, .string ⟨#[]⟩, .int .i64 0, .int .i64 0, .int .i64 0] 27)).ownsRow w.heap.size 27 5 (.slice so ln sc) ln ((Lp ++ (List.range k).flatMap ckR).flatMap rz5) ∧ Below w.heap.size w (wa.alloc (.cells #[.int .i64 7, .string nm, .int .i64 0, .int .i64 0, .int .i64 1, .int .i64 11, .string ⟨#[]⟩, .int .i64 0, .int .i64 0, .int .i64 0] 27)) ∧ ln ≤ 100000) := ⟨own_below HG.out.2.1 hbU, HG.out.2.2.1.trans (hbU.mono HG.out.2.2.1.size), by have := HG.out.2.2.2; have := HLt.out; have := HSz.out; omega⟩
        clear hbU
        go_wp2_with (at_builtin; refine wpl_app _ rfl _ _ 29 rfl w.heap.size 27 i0 (.agg #[.int .i64 0, .string ⟨#[]⟩, .int .i64 0, .int .i64 0, .int .i64 0]) 5 48 Try.underlying29 hi hz0 hz1 hz2 rfl (by decide) (.slice so ln sc) ln ((Lp ++ (List.range k).flatMap ckR).flatMap rz5) rfl HOw.out.1 (some ⟨wa.heap.size, 0, none⟩) 2 2 [.int .i64 7, .string nm, .int .i64 0, .int .i64 0, .int .i64 1, .int .i64 11, .string ⟨#[]⟩, .int .i64 0, .int .i64 0, .int .i64 0] rfl rfl (fun e => by cases e) (fun ad e => by cases e; exact cells_new wa _ _) (by intro u hu; simp only [List.mem_cons, List.not_mem_nil, or_false] at hu; rcases hu with rfl | rfl | rfl | rfl | rfl | rfl | rfl | rfl | rfl | rfl <;> rfl) ?c3 ?c4 HOw.out.2.1.size ?_)
        case c3 => have := HOw.out.2.2; unfold maxLen; omega
        case c4 => have := HOw.out.2.2; omega
        intro v2 w4 ho2 hg2 _
        have H4 : Hid (w4.ownsRow w.heap.size 27 5 v2 (1 + (k + 1) * 2) ((Lp ++ (List.range (k + 1)).flatMap ckR).flatMap rz5) ∧ Below w.heap.size w w4) := ⟨by
          have e1 : (Lp ++ (List.range (k + 1)).flatMap ckR).flatMap rz5 = (Lp ++ (List.range k).flatMap ckR).flatMap rz5 ++ [.int .i64 7, .string nm, .int .i64 0, .int .i64 0, .int .i64 1, .int .i64 11, .string ⟨#[]⟩, .int .i64 0, .int .i64 0, .int .i64 0] := by
            rw [← HCk.out, List.range_succ]
            simp [List.flatMap_append]
          rw [e1, show 1 + (k + 1) * 2 = ln + 2 by have := HG.out.2.2.2; omega, List.flatMap_append, List.append_assoc]
          exact ho2, HOw.out.2.1.grown hg2 HOw.out.2.1.size (fun q e => (World.ownsRow.lt HOw.out.1 q e).1)⟩
        obtain ⟨bo, bc, rfl⟩ := own_form ho2
        clear ho2 hg2 HOw
        go_wp2_with fail
        go_roundg (r - (k + 1))
        case measure => have := HG.out.1; have := HLt.out; omega
        case rel => exact ⟨k + 1, by have := HLt.out; omega, by go_num, by rw [HA1.out], H4.out.1, H4.out.2⟩
    · have hk' : decide (k < r) = false := decide_eq_false hlt
      have hk3 : decide ((k : Int) < (r : Int)) = false := decide_eq_false (by omega)
      have hke : r = k := by omega
      subst hke
      clear hkg hlt
      obtain ⟨a1, ha1⟩ : ∃ a1, nxA a00 64 (1 + 64 * 2) r = a1 := ⟨_, rfl⟩
      obtain ⟨L1, hL1⟩ : ∃ L1, Lp ++ (List.range r).flatMap ckR = L1 := ⟨_, rfl⟩
      obtain ⟨n1, hn1⟩ : ∃ n1, 1 + r * 2 = n1 := ⟨_, rfl⟩
      have Ha1 : Hid (nxA a00 64 (1 + 64 * 2) r = a1 ∧ Lp ++ (List.range r).flatMap ckR = L1 ∧ 1 + r * 2 = n1) := ⟨ha1, hL1, hn1⟩
      rw [hL1] at hown
      rw [ha1]
      have HO1 : Hid (wr.ownsRow w.heap.size 27 5 (.slice so n1 sc) n1 (L1.flatMap rz5) ∧ Below w.heap.size w wr) := ⟨by rw [← hn1, hln]; exact hown, hbw⟩
      rw [← hln, hn1]
      clear hown hbw HG hln hlnI ha1 hL1 hn1
      go_wp2_with fail
      go_loopg [9, 10, 12] t (fun gq x y z wr => ∃ k : Nat, k + gq = t ∧ z = .int .i64 (k : Int) ∧ y = .int .i64 (nxA a1 4 (n1 + 4 * 2) k : Nat) ∧ wr.ownsRow w.heap.size 27 5 x (n1 + k * 2) ((L1 ++ (List.range k).flatMap ckT).flatMap rz5) ∧ Below w.heap.size w wr)
      case atStart => exact ⟨0, by omega, rfl, by rw [nxA_zero], by simpa using HO1.out.1, HO1.out.2⟩
      case round =>
        obtain ⟨k, hkg, rfl, rfl, hown, hbw⟩ := hrel
        obtain ⟨so, sc, rfl⟩ := own_form hown
        obtain ⟨ln, hln⟩ : ∃ ln, n1 + k * 2 = ln := ⟨_, rfl⟩
        rw [hln] at hown ⊢
        have HG : Hid (k + gk = t ∧ wr.ownsRow w.heap.size 27 5 (.slice so ln sc) ln ((L1 ++ (List.range k).flatMap ckT).flatMap rz5) ∧ Below w.heap.size w wr ∧ n1 + k * 2 = ln) := ⟨hkg, hown, hbw, hln⟩
        have hlnI : (ln : Int) ≤ 100000 := by have := HSz.out; have := Ha1.out.2.2; omega
        by_cases hlt : k < t
        · have hk' : (k : Int) < (t : Int) := by omega
          have hk2 : (k : Int) ≤ 100 := by have := HSz.out; omega
          have HLt : Hid (k < t) := hlt
          clear hkg hown hbw hlt
          by_cases hkl : k = 4
          · by_cases ha0 : a1 = 0
            · have HA1 : Hid (nxA a1 4 (n1 + 4 * 2) (k + 1) = ln) := by
                show _ = _
                rw [hkl, ha0, nxA_new.2, ← hln, hkl]
              have hak : nxA a1 4 (n1 + 4 * 2) k = 0 := by rw [hkl, ha0]; exact nxA_new.1
              have hq1 : ((k : Int) == 4) = true := by simp; omega
              rw [hak]
              clear hak hkl ha0 hln
              have HNb : Hid (Calls Try.prog 10 #[.int .u8 116, .int .i64 (k : Int)] wr fun e w' => e = .returned (.string (nbr 116 k)) ∧ Below wr.heap.size wr w') := numbered_any 116 k (by have := HLt.out; have := HSz.out; omega) wr
              have HCk : Hid ((ckT k).flatMap rz5 = [.int .i64 5, .string (nbr 116 k), .int .i64 0, .int .i64 0, .int .i64 1, .int .i64 29, .string ⟨#[]⟩, .int .i64 0, .int .i64 0, .int .i64 0]) := rfl
              generalize nbr 116 k = nm at *
              go_wp2_with fail
              refine Calls.mono HNb.out ?_
              rintro e wa ⟨rfl, hba⟩
              have HBa : Hid (Below wr.heap.size wr wa) := hba
              clear HNb hba
              have HRw := show Hid _ from rowF_any 5 nm 1 wa
              go_wp2_with fail
              refine Calls.mono HRw.out ?_
              rintro e wb ⟨rfl, hbb⟩
              have HBb : Hid (Below wr.heap.size wr wb) := HBa.out.trans (hbb.mono HBa.out.size)
              clear HRw hbb HBa wa
              obtain ⟨wa, hwa⟩ : ∃ wa, wa = wb := ⟨_, rfl⟩
              rw [← hwa] at HBb ⊢
              have HBa := show Hid _ from HBb.out
              clear hwa HBb wb
              have HRw := show Hid _ from rowF_any 29 ⟨#[]⟩ 0 wa
              go_wp2_with fail
              refine Calls.mono HRw.out ?_
              rintro e wb ⟨rfl, hbb⟩
              have HBb : Hid (Below wr.heap.size wr wb) := HBa.out.trans (hbb.mono HBa.out.size)
              clear HRw hbb HBa wa
              obtain ⟨wa, hwa⟩ : ∃ wa, wa = wb := ⟨_, rfl⟩
              rw [← hwa] at HBb ⊢
              have HBa := show Hid _ from HBb.out
              clear hwa HBb wb
              have hbU : Below wr.heap.size wr (wa.alloc (.cells #[.int .i64 5, .string nm, .int .i64 0, .int .i64 0, .int .i64 1, .int .i64 29, .string ⟨#[]⟩, .int .i64 0, .int .i64 0, .int .i64 0] 27)) := HBa.out.alloc HBa.out.size _
              have HOw : Hid ((wa.alloc (.cells #[.int .i64 5, .string nm, .int .i64 0, .int .i64 0, .int .i64 1, .int .i64 29, .string ⟨#[]⟩, .int .i64 0, .int .i64 0, .int .i64 0] 27)).ownsRow w.heap.size 27 5 (.slice so ln sc) ln ((L1 ++ (List.range k).flatMap ckT).flatMap rz5) ∧ Below w.heap.size w (wa.alloc (.cells #[.int .i64 5, .string nm, .int .i64 0, .int .i64 0, .int .i64 1, .int .i64 29, .string ⟨#[]⟩, .int .i64 0, .int .i64 0, .int .i64 0] 27)) ∧ ln ≤ 100000) := ⟨own_below HG.out.2.1 hbU, HG.out.2.2.1.trans (hbU.mono HG.out.2.2.1.size), by have := HG.out.2.2.2; have := HLt.out; have := HSz.out; omega⟩
              clear hbU
              go_wp2_with (at_builtin; refine wpl_app _ rfl _ _ 29 rfl w.heap.size 27 i0 (.agg #[.int .i64 0, .string ⟨#[]⟩, .int .i64 0, .int .i64 0, .int .i64 0]) 5 48 Try.underlying29 hi hz0 hz1 hz2 rfl (by decide) (.slice so ln sc) ln ((L1 ++ (List.range k).flatMap ckT).flatMap rz5) rfl HOw.out.1 (some ⟨wa.heap.size, 0, none⟩) 2 2 [.int .i64 5, .string nm, .int .i64 0, .int .i64 0, .int .i64 1, .int .i64 29, .string ⟨#[]⟩, .int .i64 0, .int .i64 0, .int .i64 0] rfl rfl (fun e => by cases e) (fun ad e => by cases e; exact cells_new wa _ _) (by intro u hu; simp only [List.mem_cons, List.not_mem_nil, or_false] at hu; rcases hu with rfl | rfl | rfl | rfl | rfl | rfl | rfl | rfl | rfl | rfl <;> rfl) ?c3 ?c4 HOw.out.2.1.size ?_)
              case c3 => have := HOw.out.2.2; unfold maxLen; omega
              case c4 => have := HOw.out.2.2; omega
              intro v2 w4 ho2 hg2 _
              have H4 : Hid (w4.ownsRow w.heap.size 27 5 v2 (n1 + (k + 1) * 2) ((L1 ++ (List.range (k + 1)).flatMap ckT).flatMap rz5) ∧ Below w.heap.size w w4) := ⟨by
                have e1 : (L1 ++ (List.range (k + 1)).flatMap ckT).flatMap rz5 = (L1 ++ (List.range k).flatMap ckT).flatMap rz5 ++ [.int .i64 5, .string nm, .int .i64 0, .int .i64 0, .int .i64 1, .int .i64 29, .string ⟨#[]⟩, .int .i64 0, .int .i64 0, .int .i64 0] := by
                  rw [← HCk.out, List.range_succ]
                  simp [List.flatMap_append]
                rw [e1, show n1 + (k + 1) * 2 = ln + 2 by have := HG.out.2.2.2; omega, List.flatMap_append, List.append_assoc]
                exact ho2, HOw.out.2.1.grown hg2 HOw.out.2.1.size (fun q e => (World.ownsRow.lt HOw.out.1 q e).1)⟩
              obtain ⟨bo, bc, rfl⟩ := own_form ho2
              clear ho2 hg2 HOw
              go_wp2_with fail
              go_roundg (t - (k + 1))
              case measure => have := HG.out.1; have := HLt.out; omega
              case rel => exact ⟨k + 1, by have := HLt.out; omega, by go_num, by rw [HA1.out], H4.out.1, H4.out.2⟩
            · have HA1 : Hid (nxA a1 4 (n1 + 4 * 2) (k + 1) = a1) := nxA_old ha0
              have hak : nxA a1 4 (n1 + 4 * 2) k = a1 := nxA_old ha0
              have hq1 : ((k : Int) == 4) = true := by simp; omega
              have hq2 : ((a1 : Int) == 0) = false := by simp; omega
              rw [hak]
              clear hak hkl ha0 hln
              have HNb : Hid (Calls Try.prog 10 #[.int .u8 116, .int .i64 (k : Int)] wr fun e w' => e = .returned (.string (nbr 116 k)) ∧ Below wr.heap.size wr w') := numbered_any 116 k (by have := HLt.out; have := HSz.out; omega) wr
              have HCk : Hid ((ckT k).flatMap rz5 = [.int .i64 5, .string (nbr 116 k), .int .i64 0, .int .i64 0, .int .i64 1, .int .i64 29, .string ⟨#[]⟩, .int .i64 0, .int .i64 0, .int .i64 0]) := rfl
              generalize nbr 116 k = nm at *
              go_wp2_with fail
              refine Calls.mono HNb.out ?_
              rintro e wa ⟨rfl, hba⟩
              have HBa : Hid (Below wr.heap.size wr wa) := hba
              clear HNb hba
              have HRw := show Hid _ from rowF_any 5 nm 1 wa
              go_wp2_with fail
              refine Calls.mono HRw.out ?_
              rintro e wb ⟨rfl, hbb⟩
              have HBb : Hid (Below wr.heap.size wr wb) := HBa.out.trans (hbb.mono HBa.out.size)
              clear HRw hbb HBa wa
              obtain ⟨wa, hwa⟩ : ∃ wa, wa = wb := ⟨_, rfl⟩
              rw [← hwa] at HBb ⊢
              have HBa := show Hid _ from HBb.out
              clear hwa HBb wb
              have HRw := show Hid _ from rowF_any 29 ⟨#[]⟩ 0 wa
              go_wp2_with fail
              refine Calls.mono HRw.out ?_
              rintro e wb ⟨rfl, hbb⟩
              have HBb : Hid (Below wr.heap.size wr wb) := HBa.out.trans (hbb.mono HBa.out.size)
              clear HRw hbb HBa wa
              obtain ⟨wa, hwa⟩ : ∃ wa, wa = wb := ⟨_, rfl⟩
              rw [← hwa] at HBb ⊢
              have HBa := show Hid _ from HBb.out
              clear hwa HBb wb
              have hbU : Below wr.heap.size wr (wa.alloc (.cells #[.int .i64 5, .string nm, .int .i64 0, .int .i64 0, .int .i64 1, .int .i64 29, .string ⟨#[]⟩, .int .i64 0, .int .i64 0, .int .i64 0] 27)) := HBa.out.alloc HBa.out.size _
              have HOw : Hid ((wa.alloc (.cells #[.int .i64 5, .string nm, .int .i64 0, .int .i64 0, .int .i64 1, .int .i64 29, .string ⟨#[]⟩, .int .i64 0, .int .i64 0, .int .i64 0] 27)).ownsRow w.heap.size 27 5 (.slice so ln sc) ln ((L1 ++ (List.range k).flatMap ckT).flatMap rz5) ∧ Below w.heap.size w (wa.alloc (.cells #[.int .i64 5, .string nm, .int .i64 0, .int .i64 0, .int .i64 1, .int .i64 29, .string ⟨#[]⟩, .int .i64 0, .int .i64 0, .int .i64 0] 27)) ∧ ln ≤ 100000) := ⟨own_below HG.out.2.1 hbU, HG.out.2.2.1.trans (hbU.mono HG.out.2.2.1.size), by have := HG.out.2.2.2; have := HLt.out; have := HSz.out; omega⟩
              clear hbU
              go_wp2_with (at_builtin; refine wpl_app _ rfl _ _ 29 rfl w.heap.size 27 i0 (.agg #[.int .i64 0, .string ⟨#[]⟩, .int .i64 0, .int .i64 0, .int .i64 0]) 5 48 Try.underlying29 hi hz0 hz1 hz2 rfl (by decide) (.slice so ln sc) ln ((L1 ++ (List.range k).flatMap ckT).flatMap rz5) rfl HOw.out.1 (some ⟨wa.heap.size, 0, none⟩) 2 2 [.int .i64 5, .string nm, .int .i64 0, .int .i64 0, .int .i64 1, .int .i64 29, .string ⟨#[]⟩, .int .i64 0, .int .i64 0, .int .i64 0] rfl rfl (fun e => by cases e) (fun ad e => by cases e; exact cells_new wa _ _) (by intro u hu; simp only [List.mem_cons, List.not_mem_nil, or_false] at hu; rcases hu with rfl | rfl | rfl | rfl | rfl | rfl | rfl | rfl | rfl | rfl <;> rfl) ?c3 ?c4 HOw.out.2.1.size ?_)
              case c3 => have := HOw.out.2.2; unfold maxLen; omega
              case c4 => have := HOw.out.2.2; omega
              intro v2 w4 ho2 hg2 _
              have H4 : Hid (w4.ownsRow w.heap.size 27 5 v2 (n1 + (k + 1) * 2) ((L1 ++ (List.range (k + 1)).flatMap ckT).flatMap rz5) ∧ Below w.heap.size w w4) := ⟨by
                have e1 : (L1 ++ (List.range (k + 1)).flatMap ckT).flatMap rz5 = (L1 ++ (List.range k).flatMap ckT).flatMap rz5 ++ [.int .i64 5, .string nm, .int .i64 0, .int .i64 0, .int .i64 1, .int .i64 29, .string ⟨#[]⟩, .int .i64 0, .int .i64 0, .int .i64 0] := by
                  rw [← HCk.out, List.range_succ]
                  simp [List.flatMap_append]
                rw [e1, show n1 + (k + 1) * 2 = ln + 2 by have := HG.out.2.2.2; omega, List.flatMap_append, List.append_assoc]
                exact ho2, HOw.out.2.1.grown hg2 HOw.out.2.1.size (fun q e => (World.ownsRow.lt HOw.out.1 q e).1)⟩
              obtain ⟨bo, bc, rfl⟩ := own_form ho2
              clear ho2 hg2 HOw
              go_wp2_with fail
              go_roundg (t - (k + 1))
              case measure => have := HG.out.1; have := HLt.out; omega
              case rel => exact ⟨k + 1, by have := HLt.out; omega, by go_num, by rw [HA1.out], H4.out.1, H4.out.2⟩
          · have HA1 : Hid (nxA a1 4 (n1 + 4 * 2) (k + 1) = nxA a1 4 (n1 + 4 * 2) k) := nxA_ne hkl
            have hq1 : ((k : Int) == 4) = false := by simp; omega
            obtain ⟨ak, hak⟩ : ∃ ak, nxA a1 4 (n1 + 4 * 2) k = ak := ⟨_, rfl⟩
            rw [hak] at HA1 ⊢
            clear hak hkl hln
            have HNb : Hid (Calls Try.prog 10 #[.int .u8 116, .int .i64 (k : Int)] wr fun e w' => e = .returned (.string (nbr 116 k)) ∧ Below wr.heap.size wr w') := numbered_any 116 k (by have := HLt.out; have := HSz.out; omega) wr
            have HCk : Hid ((ckT k).flatMap rz5 = [.int .i64 5, .string (nbr 116 k), .int .i64 0, .int .i64 0, .int .i64 1, .int .i64 29, .string ⟨#[]⟩, .int .i64 0, .int .i64 0, .int .i64 0]) := rfl
            generalize nbr 116 k = nm at *
            go_wp2_with fail
            refine Calls.mono HNb.out ?_
            rintro e wa ⟨rfl, hba⟩
            have HBa : Hid (Below wr.heap.size wr wa) := hba
            clear HNb hba
            have HRw := show Hid _ from rowF_any 5 nm 1 wa
            go_wp2_with fail
            refine Calls.mono HRw.out ?_
            rintro e wb ⟨rfl, hbb⟩
            have HBb : Hid (Below wr.heap.size wr wb) := HBa.out.trans (hbb.mono HBa.out.size)
            clear HRw hbb HBa wa
            obtain ⟨wa, hwa⟩ : ∃ wa, wa = wb := ⟨_, rfl⟩
            rw [← hwa] at HBb ⊢
            have HBa := show Hid _ from HBb.out
            clear hwa HBb wb
            have HRw := show Hid _ from rowF_any 29 ⟨#[]⟩ 0 wa
            go_wp2_with fail
            refine Calls.mono HRw.out ?_
            rintro e wb ⟨rfl, hbb⟩
            have HBb : Hid (Below wr.heap.size wr wb) := HBa.out.trans (hbb.mono HBa.out.size)
            clear HRw hbb HBa wa
            obtain ⟨wa, hwa⟩ : ∃ wa, wa = wb := ⟨_, rfl⟩
            rw [← hwa] at HBb ⊢
            have HBa := show Hid _ from HBb.out
            clear hwa HBb wb
            have hbU : Below wr.heap.size wr (wa.alloc (.cells #[.int .i64 5, .string nm, .int .i64 0, .int .i64 0, .int .i64 1, .int .i64 29, .string ⟨#[]⟩, .int .i64 0, .int .i64 0, .int .i64 0] 27)) := HBa.out.alloc HBa.out.size _
            have HOw : Hid ((wa.alloc (.cells #[.int .i64 5, .string nm, .int .i64 0, .int .i64 0, .int .i64 1, .int .i64 29, .string ⟨#[]⟩, .int .i64 0, .int .i64 0, .int .i64 0] 27)).ownsRow w.heap.size 27 5 (.slice so ln sc) ln ((L1 ++ (List.range k).flatMap ckT).flatMap rz5) ∧ Below w.heap.size w (wa.alloc (.cells #[.int .i64 5, .string nm, .int .i64 0, .int .i64 0, .int .i64 1, .int .i64 29, .string ⟨#[]⟩, .int .i64 0, .int .i64 0, .int .i64 0] 27)) ∧ ln ≤ 100000) := ⟨own_below HG.out.2.1 hbU, HG.out.2.2.1.trans (hbU.mono HG.out.2.2.1.size), by have := HG.out.2.2.2; have := HLt.out; have := HSz.out; omega⟩
            clear hbU
            go_wp2_with (at_builtin; refine wpl_app _ rfl _ _ 29 rfl w.heap.size 27 i0 (.agg #[.int .i64 0, .string ⟨#[]⟩, .int .i64 0, .int .i64 0, .int .i64 0]) 5 48 Try.underlying29 hi hz0 hz1 hz2 rfl (by decide) (.slice so ln sc) ln ((L1 ++ (List.range k).flatMap ckT).flatMap rz5) rfl HOw.out.1 (some ⟨wa.heap.size, 0, none⟩) 2 2 [.int .i64 5, .string nm, .int .i64 0, .int .i64 0, .int .i64 1, .int .i64 29, .string ⟨#[]⟩, .int .i64 0, .int .i64 0, .int .i64 0] rfl rfl (fun e => by cases e) (fun ad e => by cases e; exact cells_new wa _ _) (by intro u hu; simp only [List.mem_cons, List.not_mem_nil, or_false] at hu; rcases hu with rfl | rfl | rfl | rfl | rfl | rfl | rfl | rfl | rfl | rfl <;> rfl) ?c3 ?c4 HOw.out.2.1.size ?_)
            case c3 => have := HOw.out.2.2; unfold maxLen; omega
            case c4 => have := HOw.out.2.2; omega
            intro v2 w4 ho2 hg2 _
            have H4 : Hid (w4.ownsRow w.heap.size 27 5 v2 (n1 + (k + 1) * 2) ((L1 ++ (List.range (k + 1)).flatMap ckT).flatMap rz5) ∧ Below w.heap.size w w4) := ⟨by
              have e1 : (L1 ++ (List.range (k + 1)).flatMap ckT).flatMap rz5 = (L1 ++ (List.range k).flatMap ckT).flatMap rz5 ++ [.int .i64 5, .string nm, .int .i64 0, .int .i64 0, .int .i64 1, .int .i64 29, .string ⟨#[]⟩, .int .i64 0, .int .i64 0, .int .i64 0] := by
                rw [← HCk.out, List.range_succ]
                simp [List.flatMap_append]
              rw [e1, show n1 + (k + 1) * 2 = ln + 2 by have := HG.out.2.2.2; omega, List.flatMap_append, List.append_assoc]
              exact ho2, HOw.out.2.1.grown hg2 HOw.out.2.1.size (fun q e => (World.ownsRow.lt HOw.out.1 q e).1)⟩
            obtain ⟨bo, bc, rfl⟩ := own_form ho2
            clear ho2 hg2 HOw
            go_wp2_with fail
            go_roundg (t - (k + 1))
            case measure => have := HG.out.1; have := HLt.out; omega
            case rel => exact ⟨k + 1, by have := HLt.out; omega, by go_num, by rw [HA1.out], H4.out.1, H4.out.2⟩
        · have hk' : decide (k < t) = false := decide_eq_false hlt
          have hk3 : decide ((k : Int) < (t : Int)) = false := decide_eq_false (by omega)
          have hke : t = k := by omega
          subst hke
          clear hkg hlt
          obtain ⟨a2, ha2⟩ : ∃ a2, nxA a1 4 (n1 + 4 * 2) t = a2 := ⟨_, rfl⟩
          obtain ⟨L2, hL2⟩ : ∃ L2, L1 ++ (List.range t).flatMap ckT = L2 := ⟨_, rfl⟩
          obtain ⟨n2, hn2⟩ : ∃ n2, n1 + t * 2 = n2 := ⟨_, rfl⟩
          have Ha2 : Hid (nxA a1 4 (n1 + 4 * 2) t = a2 ∧ L1 ++ (List.range t).flatMap ckT = L2 ∧ n1 + t * 2 = n2) := ⟨ha2, hL2, hn2⟩
          rw [hL2] at hown
          rw [ha2]
          have HO2 : Hid (wr.ownsRow w.heap.size 27 5 (.slice so n2 sc) n2 (L2.flatMap rz5) ∧ Below w.heap.size w wr) := ⟨by rw [← hn2, hln]; exact hown, hbw⟩
          rw [← hln, hn2]
          clear hown hbw HG hln hlnI ha2 hL2 hn2
          go_wp2_with fail
          go_loopg [9, 10, 13] v (fun gq x y z wr => ∃ k : Nat, k + gq = v ∧ z = .int .i64 (k : Int) ∧ y = .int .i64 (nxA a2 16 (n2 + 16 * 4) k : Nat) ∧ wr.ownsRow w.heap.size 27 5 x (n2 + k * 4) ((L2 ++ (List.range k).flatMap ckV).flatMap rz5) ∧ Below w.heap.size w wr)
          case atStart => exact ⟨0, by omega, rfl, by rw [nxA_zero], by simpa using HO2.out.1, HO2.out.2⟩
          case round =>
            obtain ⟨k, hkg, rfl, rfl, hown, hbw⟩ := hrel
            obtain ⟨so, sc, rfl⟩ := own_form hown
            obtain ⟨ln, hln⟩ : ∃ ln, n2 + k * 4 = ln := ⟨_, rfl⟩
            rw [hln] at hown ⊢
            have HG : Hid (k + gk = v ∧ wr.ownsRow w.heap.size 27 5 (.slice so ln sc) ln ((L2 ++ (List.range k).flatMap ckV).flatMap rz5) ∧ Below w.heap.size w wr ∧ n2 + k * 4 = ln) := ⟨hkg, hown, hbw, hln⟩
            have hlnI : (ln : Int) ≤ 100000 := by have := HSz.out; have := Ha1.out.2.2; have := Ha2.out.2.2; omega
            by_cases hlt : k < v
            · have hk' : (k : Int) < (v : Int) := by omega
              have hk2 : (k : Int) ≤ 100 := by have := HSz.out; omega
              have HLt : Hid (k < v) := hlt
              clear hkg hown hbw hlt
              by_cases hkl : k = 16
              · by_cases ha0 : a2 = 0
                · have HA1 : Hid (nxA a2 16 (n2 + 16 * 4) (k + 1) = ln) := by
                    show _ = _
                    rw [hkl, ha0, nxA_new.2, ← hln, hkl]
                  have hak : nxA a2 16 (n2 + 16 * 4) k = 0 := by rw [hkl, ha0]; exact nxA_new.1
                  have hq1 : ((k : Int) == 16) = true := by simp; omega
                  rw [hak]
                  clear hak hkl ha0 hln
                  have HNb : Hid (Calls Try.prog 10 #[.int .u8 118, .int .i64 (k : Int)] wr fun e w' => e = .returned (.string (nbr 118 k)) ∧ Below wr.heap.size wr w') := numbered_any 118 k (by have := HLt.out; have := HSz.out; omega) wr
                  have HCk : Hid ((ckV k).flatMap rz5 = [.int .i64 4, .string (nbr 118 k), .int .i64 0, .int .i64 0, .int .i64 3, .int .i64 29, .string ⟨#[]⟩, .int .i64 0, .int .i64 0, .int .i64 0, .int .i64 29, .string ⟨#[]⟩, .int .i64 0, .int .i64 0, .int .i64 0, .int .i64 29, .string ⟨#[]⟩, .int .i64 0, .int .i64 0, .int .i64 0]) := rfl
                  generalize nbr 118 k = nm at *
                  go_wp2_with fail
                  refine Calls.mono HNb.out ?_
                  rintro e wa ⟨rfl, hba⟩
                  have HBa : Hid (Below wr.heap.size wr wa) := hba
                  clear HNb hba
                  have HRw := show Hid _ from rowF_any 4 nm 3 wa
                  go_wp2_with fail
                  refine Calls.mono HRw.out ?_
                  rintro e wb ⟨rfl, hbb⟩
                  have HBb : Hid (Below wr.heap.size wr wb) := HBa.out.trans (hbb.mono HBa.out.size)
                  clear HRw hbb HBa wa
                  obtain ⟨wa, hwa⟩ : ∃ wa, wa = wb := ⟨_, rfl⟩
                  rw [← hwa] at HBb ⊢
                  have HBa := show Hid _ from HBb.out
                  clear hwa HBb wb
                  have HRw := show Hid _ from rowF_any 29 ⟨#[]⟩ 0 wa
                  go_wp2_with fail
                  refine Calls.mono HRw.out ?_
                  rintro e wb ⟨rfl, hbb⟩
                  have HBb : Hid (Below wr.heap.size wr wb) := HBa.out.trans (hbb.mono HBa.out.size)
                  clear HRw hbb HBa wa
                  obtain ⟨wa, hwa⟩ : ∃ wa, wa = wb := ⟨_, rfl⟩
                  rw [← hwa] at HBb ⊢
                  have HBa := show Hid _ from HBb.out
                  clear hwa HBb wb
                  have HRw := show Hid _ from rowF_any 29 ⟨#[]⟩ 0 wa
                  go_wp2_with fail
                  refine Calls.mono HRw.out ?_
                  rintro e wb ⟨rfl, hbb⟩
                  have HBb : Hid (Below wr.heap.size wr wb) := HBa.out.trans (hbb.mono HBa.out.size)
                  clear HRw hbb HBa wa
                  obtain ⟨wa, hwa⟩ : ∃ wa, wa = wb := ⟨_, rfl⟩
                  rw [← hwa] at HBb ⊢
                  have HBa := show Hid _ from HBb.out
                  clear hwa HBb wb
                  have HRw := show Hid _ from rowF_any 29 ⟨#[]⟩ 0 wa
                  go_wp2_with fail
                  refine Calls.mono HRw.out ?_
                  rintro e wb ⟨rfl, hbb⟩
                  have HBb : Hid (Below wr.heap.size wr wb) := HBa.out.trans (hbb.mono HBa.out.size)
                  clear HRw hbb HBa wa
                  obtain ⟨wa, hwa⟩ : ∃ wa, wa = wb := ⟨_, rfl⟩
                  rw [← hwa] at HBb ⊢
                  have HBa := show Hid _ from HBb.out
                  clear hwa HBb wb
                  have hbU : Below wr.heap.size wr (wa.alloc (.cells #[.int .i64 4, .string nm, .int .i64 0, .int .i64 0, .int .i64 3, .int .i64 29, .string ⟨#[]⟩, .int .i64 0, .int .i64 0, .int .i64 0, .int .i64 29, .string ⟨#[]⟩, .int .i64 0, .int .i64 0, .int .i64 0, .int .i64 29, .string ⟨#[]⟩, .int .i64 0, .int .i64 0, .int .i64 0] 27)) := HBa.out.alloc HBa.out.size _
                  have HOw : Hid ((wa.alloc (.cells #[.int .i64 4, .string nm, .int .i64 0, .int .i64 0, .int .i64 3, .int .i64 29, .string ⟨#[]⟩, .int .i64 0, .int .i64 0, .int .i64 0, .int .i64 29, .string ⟨#[]⟩, .int .i64 0, .int .i64 0, .int .i64 0, .int .i64 29, .string ⟨#[]⟩, .int .i64 0, .int .i64 0, .int .i64 0] 27)).ownsRow w.heap.size 27 5 (.slice so ln sc) ln ((L2 ++ (List.range k).flatMap ckV).flatMap rz5) ∧ Below w.heap.size w (wa.alloc (.cells #[.int .i64 4, .string nm, .int .i64 0, .int .i64 0, .int .i64 3, .int .i64 29, .string ⟨#[]⟩, .int .i64 0, .int .i64 0, .int .i64 0, .int .i64 29, .string ⟨#[]⟩, .int .i64 0, .int .i64 0, .int .i64 0, .int .i64 29, .string ⟨#[]⟩, .int .i64 0, .int .i64 0, .int .i64 0] 27)) ∧ ln ≤ 100000) := ⟨own_below HG.out.2.1 hbU, HG.out.2.2.1.trans (hbU.mono HG.out.2.2.1.size), by have := HG.out.2.2.2; have := HLt.out; have := HSz.out; omega⟩
                  clear hbU
                  go_wp2_with (at_builtin; refine wpl_app _ rfl _ _ 29 rfl w.heap.size 27 i0 (.agg #[.int .i64 0, .string ⟨#[]⟩, .int .i64 0, .int .i64 0, .int .i64 0]) 5 48 Try.underlying29 hi hz0 hz1 hz2 rfl (by decide) (.slice so ln sc) ln ((L2 ++ (List.range k).flatMap ckV).flatMap rz5) rfl HOw.out.1 (some ⟨wa.heap.size, 0, none⟩) 4 4 [.int .i64 4, .string nm, .int .i64 0, .int .i64 0, .int .i64 3, .int .i64 29, .string ⟨#[]⟩, .int .i64 0, .int .i64 0, .int .i64 0, .int .i64 29, .string ⟨#[]⟩, .int .i64 0, .int .i64 0, .int .i64 0, .int .i64 29, .string ⟨#[]⟩, .int .i64 0, .int .i64 0, .int .i64 0] rfl rfl (fun e => by cases e) (fun ad e => by cases e; exact cells_new wa _ _) (by intro u hu; simp only [List.mem_cons, List.not_mem_nil, or_false] at hu; rcases hu with rfl | rfl | rfl | rfl | rfl | rfl | rfl | rfl | rfl | rfl | rfl | rfl | rfl | rfl | rfl | rfl | rfl | rfl | rfl | rfl <;> rfl) ?c3 ?c4 HOw.out.2.1.size ?_)
                  case c3 => have := HOw.out.2.2; unfold maxLen; omega
                  case c4 => have := HOw.out.2.2; omega
                  intro v2 w4 ho2 hg2 _
                  have H4 : Hid (w4.ownsRow w.heap.size 27 5 v2 (n2 + (k + 1) * 4) ((L2 ++ (List.range (k + 1)).flatMap ckV).flatMap rz5) ∧ Below w.heap.size w w4) := ⟨by
                    have e1 : (L2 ++ (List.range (k + 1)).flatMap ckV).flatMap rz5 = (L2 ++ (List.range k).flatMap ckV).flatMap rz5 ++ [.int .i64 4, .string nm, .int .i64 0, .int .i64 0, .int .i64 3, .int .i64 29, .string ⟨#[]⟩, .int .i64 0, .int .i64 0, .int .i64 0, .int .i64 29, .string ⟨#[]⟩, .int .i64 0, .int .i64 0, .int .i64 0, .int .i64 29, .string ⟨#[]⟩, .int .i64 0, .int .i64 0, .int .i64 0] := by
                      rw [← HCk.out, List.range_succ]
                      simp [List.flatMap_append]
                    rw [e1, show n2 + (k + 1) * 4 = ln + 4 by have := HG.out.2.2.2; omega, List.flatMap_append, List.append_assoc]
                    exact ho2, HOw.out.2.1.grown hg2 HOw.out.2.1.size (fun q e => (World.ownsRow.lt HOw.out.1 q e).1)⟩
                  obtain ⟨bo, bc, rfl⟩ := own_form ho2
                  clear ho2 hg2 HOw
                  go_wp2_with fail
                  go_roundg (v - (k + 1))
                  case measure => have := HG.out.1; have := HLt.out; omega
                  case rel => exact ⟨k + 1, by have := HLt.out; omega, by go_num, by rw [HA1.out], H4.out.1, H4.out.2⟩
                · have HA1 : Hid (nxA a2 16 (n2 + 16 * 4) (k + 1) = a2) := nxA_old ha0
                  have hak : nxA a2 16 (n2 + 16 * 4) k = a2 := nxA_old ha0
                  have hq1 : ((k : Int) == 16) = true := by simp; omega
                  have hq2 : ((a2 : Int) == 0) = false := by simp; omega
                  rw [hak]
                  clear hak hkl ha0 hln
                  have HNb : Hid (Calls Try.prog 10 #[.int .u8 118, .int .i64 (k : Int)] wr fun e w' => e = .returned (.string (nbr 118 k)) ∧ Below wr.heap.size wr w') := numbered_any 118 k (by have := HLt.out; have := HSz.out; omega) wr
                  have HCk : Hid ((ckV k).flatMap rz5 = [.int .i64 4, .string (nbr 118 k), .int .i64 0, .int .i64 0, .int .i64 3, .int .i64 29, .string ⟨#[]⟩, .int .i64 0, .int .i64 0, .int .i64 0, .int .i64 29, .string ⟨#[]⟩, .int .i64 0, .int .i64 0, .int .i64 0, .int .i64 29, .string ⟨#[]⟩, .int .i64 0, .int .i64 0, .int .i64 0]) := rfl
                  generalize nbr 118 k = nm at *
                  go_wp2_with fail
                  refine Calls.mono HNb.out ?_
                  rintro e wa ⟨rfl, hba⟩
                  have HBa : Hid (Below wr.heap.size wr wa) := hba
                  clear HNb hba
                  have HRw := show Hid _ from rowF_any 4 nm 3 wa
                  go_wp2_with fail
                  refine Calls.mono HRw.out ?_
                  rintro e wb ⟨rfl, hbb⟩
                  have HBb : Hid (Below wr.heap.size wr wb) := HBa.out.trans (hbb.mono HBa.out.size)
                  clear HRw hbb HBa wa
                  obtain ⟨wa, hwa⟩ : ∃ wa, wa = wb := ⟨_, rfl⟩
                  rw [← hwa] at HBb ⊢
                  have HBa := show Hid _ from HBb.out
                  clear hwa HBb wb
                  have HRw := show Hid _ from rowF_any 29 ⟨#[]⟩ 0 wa
                  go_wp2_with fail
                  refine Calls.mono HRw.out ?_
                  rintro e wb ⟨rfl, hbb⟩
                  have HBb : Hid (Below wr.heap.size wr wb) := HBa.out.trans (hbb.mono HBa.out.size)
                  clear HRw hbb HBa wa
                  obtain ⟨wa, hwa⟩ : ∃ wa, wa = wb := ⟨_, rfl⟩
                  rw [← hwa] at HBb ⊢
                  have HBa := show Hid _ from HBb.out
                  clear hwa HBb wb
                  have HRw := show Hid _ from rowF_any 29 ⟨#[]⟩ 0 wa
                  go_wp2_with fail
                  refine Calls.mono HRw.out ?_
                  rintro e wb ⟨rfl, hbb⟩
                  have HBb : Hid (Below wr.heap.size wr wb) := HBa.out.trans (hbb.mono HBa.out.size)
                  clear HRw hbb HBa wa
                  obtain ⟨wa, hwa⟩ : ∃ wa, wa = wb := ⟨_, rfl⟩
                  rw [← hwa] at HBb ⊢
                  have HBa := show Hid _ from HBb.out
                  clear hwa HBb wb
                  have HRw := show Hid _ from rowF_any 29 ⟨#[]⟩ 0 wa
                  go_wp2_with fail
                  refine Calls.mono HRw.out ?_
                  rintro e wb ⟨rfl, hbb⟩
                  have HBb : Hid (Below wr.heap.size wr wb) := HBa.out.trans (hbb.mono HBa.out.size)
                  clear HRw hbb HBa wa
                  obtain ⟨wa, hwa⟩ : ∃ wa, wa = wb := ⟨_, rfl⟩
                  rw [← hwa] at HBb ⊢
                  have HBa := show Hid _ from HBb.out
                  clear hwa HBb wb
                  have hbU : Below wr.heap.size wr (wa.alloc (.cells #[.int .i64 4, .string nm, .int .i64 0, .int .i64 0, .int .i64 3, .int .i64 29, .string ⟨#[]⟩, .int .i64 0, .int .i64 0, .int .i64 0, .int .i64 29, .string ⟨#[]⟩, .int .i64 0, .int .i64 0, .int .i64 0, .int .i64 29, .string ⟨#[]⟩, .int .i64 0, .int .i64 0, .int .i64 0] 27)) := HBa.out.alloc HBa.out.size _
                  have HOw : Hid ((wa.alloc (.cells #[.int .i64 4, .string nm, .int .i64 0, .int .i64 0, .int .i64 3, .int .i64 29, .string ⟨#[]⟩, .int .i64 0, .int .i64 0, .int .i64 0, .int .i64 29, .string ⟨#[]⟩, .int .i64 0, .int .i64 0, .int .i64 0, .int .i64 29, .string ⟨#[]⟩, .int .i64 0, .int .i64 0, .int .i64 0] 27)).ownsRow w.heap.size 27 5 (.slice so ln sc) ln ((L2 ++ (List.range k).flatMap ckV).flatMap rz5) ∧ Below w.heap.size w (wa.alloc (.cells #[.int .i64 4, .string nm, .int .i64 0, .int .i64 0, .int .i64 3, .int .i64 29, .string ⟨#[]⟩, .int .i64 0, .int .i64 0, .int .i64 0, .int .i64 29, .string ⟨#[]⟩, .int .i64 0, .int .i64 0, .int .i64 0, .int .i64 29, .string ⟨#[]⟩, .int .i64 0, .int .i64 0, .int .i64 0] 27)) ∧ ln ≤ 100000) := ⟨own_below HG.out.2.1 hbU, HG.out.2.2.1.trans (hbU.mono HG.out.2.2.1.size), by have := HG.out.2.2.2; have := HLt.out; have := HSz.out; omega⟩
                  clear hbU
                  go_wp2_with (at_builtin; refine wpl_app _ rfl _ _ 29 rfl w.heap.size 27 i0 (.agg #[.int .i64 0, .string ⟨#[]⟩, .int .i64 0, .int .i64 0, .int .i64 0]) 5 48 Try.underlying29 hi hz0 hz1 hz2 rfl (by decide) (.slice so ln sc) ln ((L2 ++ (List.range k).flatMap ckV).flatMap rz5) rfl HOw.out.1 (some ⟨wa.heap.size, 0, none⟩) 4 4 [.int .i64 4, .string nm, .int .i64 0, .int .i64 0, .int .i64 3, .int .i64 29, .string ⟨#[]⟩, .int .i64 0, .int .i64 0, .int .i64 0, .int .i64 29, .string ⟨#[]⟩, .int .i64 0, .int .i64 0, .int .i64 0, .int .i64 29, .string ⟨#[]⟩, .int .i64 0, .int .i64 0, .int .i64 0] rfl rfl (fun e => by cases e) (fun ad e => by cases e; exact cells_new wa _ _) (by intro u hu; simp only [List.mem_cons, List.not_mem_nil, or_false] at hu; rcases hu with rfl | rfl | rfl | rfl | rfl | rfl | rfl | rfl | rfl | rfl | rfl | rfl | rfl | rfl | rfl | rfl | rfl | rfl | rfl | rfl <;> rfl) ?c3 ?c4 HOw.out.2.1.size ?_)
                  case c3 => have := HOw.out.2.2; unfold maxLen; omega
                  case c4 => have := HOw.out.2.2; omega
                  intro v2 w4 ho2 hg2 _
                  have H4 : Hid (w4.ownsRow w.heap.size 27 5 v2 (n2 + (k + 1) * 4) ((L2 ++ (List.range (k + 1)).flatMap ckV).flatMap rz5) ∧ Below w.heap.size w w4) := ⟨by
                    have e1 : (L2 ++ (List.range (k + 1)).flatMap ckV).flatMap rz5 = (L2 ++ (List.range k).flatMap ckV).flatMap rz5 ++ [.int .i64 4, .string nm, .int .i64 0, .int .i64 0, .int .i64 3, .int .i64 29, .string ⟨#[]⟩, .int .i64 0, .int .i64 0, .int .i64 0, .int .i64 29, .string ⟨#[]⟩, .int .i64 0, .int .i64 0, .int .i64 0, .int .i64 29, .string ⟨#[]⟩, .int .i64 0, .int .i64 0, .int .i64 0] := by
                      rw [← HCk.out, List.range_succ]
                      simp [List.flatMap_append]
                    rw [e1, show n2 + (k + 1) * 4 = ln + 4 by have := HG.out.2.2.2; omega, List.flatMap_append, List.append_assoc]
                    exact ho2, HOw.out.2.1.grown hg2 HOw.out.2.1.size (fun q e => (World.ownsRow.lt HOw.out.1 q e).1)⟩
                  obtain ⟨bo, bc, rfl⟩ := own_form ho2
                  clear ho2 hg2 HOw
                  go_wp2_with fail
                  go_roundg (v - (k + 1))
                  case measure => have := HG.out.1; have := HLt.out; omega
                  case rel => exact ⟨k + 1, by have := HLt.out; omega, by go_num, by rw [HA1.out], H4.out.1, H4.out.2⟩
              · have HA1 : Hid (nxA a2 16 (n2 + 16 * 4) (k + 1) = nxA a2 16 (n2 + 16 * 4) k) := nxA_ne hkl
                have hq1 : ((k : Int) == 16) = false := by simp; omega
                obtain ⟨ak, hak⟩ : ∃ ak, nxA a2 16 (n2 + 16 * 4) k = ak := ⟨_, rfl⟩
                rw [hak] at HA1 ⊢
                clear hak hkl hln
                have HNb : Hid (Calls Try.prog 10 #[.int .u8 118, .int .i64 (k : Int)] wr fun e w' => e = .returned (.string (nbr 118 k)) ∧ Below wr.heap.size wr w') := numbered_any 118 k (by have := HLt.out; have := HSz.out; omega) wr
                have HCk : Hid ((ckV k).flatMap rz5 = [.int .i64 4, .string (nbr 118 k), .int .i64 0, .int .i64 0, .int .i64 3, .int .i64 29, .string ⟨#[]⟩, .int .i64 0, .int .i64 0, .int .i64 0, .int .i64 29, .string ⟨#[]⟩, .int .i64 0, .int .i64 0, .int .i64 0, .int .i64 29, .string ⟨#[]⟩, .int .i64 0, .int .i64 0, .int .i64 0]) := rfl
                generalize nbr 118 k = nm at *
                go_wp2_with fail
                refine Calls.mono HNb.out ?_
                rintro e wa ⟨rfl, hba⟩
                have HBa : Hid (Below wr.heap.size wr wa) := hba
                clear HNb hba
                have HRw := show Hid _ from rowF_any 4 nm 3 wa
                go_wp2_with fail
                refine Calls.mono HRw.out ?_
                rintro e wb ⟨rfl, hbb⟩
                have HBb : Hid (Below wr.heap.size wr wb) := HBa.out.trans (hbb.mono HBa.out.size)
                clear HRw hbb HBa wa
                obtain ⟨wa, hwa⟩ : ∃ wa, wa = wb := ⟨_, rfl⟩
                rw [← hwa] at HBb ⊢
                have HBa := show Hid _ from HBb.out
                clear hwa HBb wb
                have HRw := show Hid _ from rowF_any 29 ⟨#[]⟩ 0 wa
                go_wp2_with fail
                refine Calls.mono HRw.out ?_
                rintro e wb ⟨rfl, hbb⟩
                have HBb : Hid (Below wr.heap.size wr wb) := HBa.out.trans (hbb.mono HBa.out.size)
                clear HRw hbb HBa wa
                obtain ⟨wa, hwa⟩ : ∃ wa, wa = wb := ⟨_, rfl⟩
                rw [← hwa] at HBb ⊢
                have HBa := show Hid _ from HBb.out
                clear hwa HBb wb
                have HRw := show Hid _ from rowF_any 29 ⟨#[]⟩ 0 wa
                go_wp2_with fail
                refine Calls.mono HRw.out ?_
                rintro e wb ⟨rfl, hbb⟩
                have HBb : Hid (Below wr.heap.size wr wb) := HBa.out.trans (hbb.mono HBa.out.size)
                clear HRw hbb HBa wa
                obtain ⟨wa, hwa⟩ : ∃ wa, wa = wb := ⟨_, rfl⟩
                rw [← hwa] at HBb ⊢
                have HBa := show Hid _ from HBb.out
                clear hwa HBb wb
                have HRw := show Hid _ from rowF_any 29 ⟨#[]⟩ 0 wa
                go_wp2_with fail
                refine Calls.mono HRw.out ?_
                rintro e wb ⟨rfl, hbb⟩
                have HBb : Hid (Below wr.heap.size wr wb) := HBa.out.trans (hbb.mono HBa.out.size)
                clear HRw hbb HBa wa
                obtain ⟨wa, hwa⟩ : ∃ wa, wa = wb := ⟨_, rfl⟩
                rw [← hwa] at HBb ⊢
                have HBa := show Hid _ from HBb.out
                clear hwa HBb wb
                have hbU : Below wr.heap.size wr (wa.alloc (.cells #[.int .i64 4, .string nm, .int .i64 0, .int .i64 0, .int .i64 3, .int .i64 29, .string ⟨#[]⟩, .int .i64 0, .int .i64 0, .int .i64 0, .int .i64 29, .string ⟨#[]⟩, .int .i64 0, .int .i64 0, .int .i64 0, .int .i64 29, .string ⟨#[]⟩, .int .i64 0, .int .i64 0, .int .i64 0] 27)) := HBa.out.alloc HBa.out.size _
                have HOw : Hid ((wa.alloc (.cells #[.int .i64 4, .string nm, .int .i64 0, .int .i64 0, .int .i64 3, .int .i64 29, .string ⟨#[]⟩, .int .i64 0, .int .i64 0, .int .i64 0, .int .i64 29, .string ⟨#[]⟩, .int .i64 0, .int .i64 0, .int .i64 0, .int .i64 29, .string ⟨#[]⟩, .int .i64 0, .int .i64 0, .int .i64 0] 27)).ownsRow w.heap.size 27 5 (.slice so ln sc) ln ((L2 ++ (List.range k).flatMap ckV).flatMap rz5) ∧ Below w.heap.size w (wa.alloc (.cells #[.int .i64 4, .string nm, .int .i64 0, .int .i64 0, .int .i64 3, .int .i64 29, .string ⟨#[]⟩, .int .i64 0, .int .i64 0, .int .i64 0, .int .i64 29, .string ⟨#[]⟩, .int .i64 0, .int .i64 0, .int .i64 0, .int .i64 29, .string ⟨#[]⟩, .int .i64 0, .int .i64 0, .int .i64 0] 27)) ∧ ln ≤ 100000) := ⟨own_below HG.out.2.1 hbU, HG.out.2.2.1.trans (hbU.mono HG.out.2.2.1.size), by have := HG.out.2.2.2; have := HLt.out; have := HSz.out; omega⟩
                clear hbU
                go_wp2_with (at_builtin; refine wpl_app _ rfl _ _ 29 rfl w.heap.size 27 i0 (.agg #[.int .i64 0, .string ⟨#[]⟩, .int .i64 0, .int .i64 0, .int .i64 0]) 5 48 Try.underlying29 hi hz0 hz1 hz2 rfl (by decide) (.slice so ln sc) ln ((L2 ++ (List.range k).flatMap ckV).flatMap rz5) rfl HOw.out.1 (some ⟨wa.heap.size, 0, none⟩) 4 4 [.int .i64 4, .string nm, .int .i64 0, .int .i64 0, .int .i64 3, .int .i64 29, .string ⟨#[]⟩, .int .i64 0, .int .i64 0, .int .i64 0, .int .i64 29, .string ⟨#[]⟩, .int .i64 0, .int .i64 0, .int .i64 0, .int .i64 29, .string ⟨#[]⟩, .int .i64 0, .int .i64 0, .int .i64 0] rfl rfl (fun e => by cases e) (fun ad e => by cases e; exact cells_new wa _ _) (by intro u hu; simp only [List.mem_cons, List.not_mem_nil, or_false] at hu; rcases hu with rfl | rfl | rfl | rfl | rfl | rfl | rfl | rfl | rfl | rfl | rfl | rfl | rfl | rfl | rfl | rfl | rfl | rfl | rfl | rfl <;> rfl) ?c3 ?c4 HOw.out.2.1.size ?_)
                case c3 => have := HOw.out.2.2; unfold maxLen; omega
                case c4 => have := HOw.out.2.2; omega
                intro v2 w4 ho2 hg2 _
                have H4 : Hid (w4.ownsRow w.heap.size 27 5 v2 (n2 + (k + 1) * 4) ((L2 ++ (List.range (k + 1)).flatMap ckV).flatMap rz5) ∧ Below w.heap.size w w4) := ⟨by
                  have e1 : (L2 ++ (List.range (k + 1)).flatMap ckV).flatMap rz5 = (L2 ++ (List.range k).flatMap ckV).flatMap rz5 ++ [.int .i64 4, .string nm, .int .i64 0, .int .i64 0, .int .i64 3, .int .i64 29, .string ⟨#[]⟩, .int .i64 0, .int .i64 0, .int .i64 0, .int .i64 29, .string ⟨#[]⟩, .int .i64 0, .int .i64 0, .int .i64 0, .int .i64 29, .string ⟨#[]⟩, .int .i64 0, .int .i64 0, .int .i64 0] := by
                    rw [← HCk.out, List.range_succ]
                    simp [List.flatMap_append]
                  rw [e1, show n2 + (k + 1) * 4 = ln + 4 by have := HG.out.2.2.2; omega, List.flatMap_append, List.append_assoc]
                  exact ho2, HOw.out.2.1.grown hg2 HOw.out.2.1.size (fun q e => (World.ownsRow.lt HOw.out.1 q e).1)⟩
                obtain ⟨bo, bc, rfl⟩ := own_form ho2
                clear ho2 hg2 HOw
                go_wp2_with fail
                go_roundg (v - (k + 1))
                case measure => have := HG.out.1; have := HLt.out; omega
                case rel => exact ⟨k + 1, by have := HLt.out; omega, by go_num, by rw [HA1.out], H4.out.1, H4.out.2⟩
            · have hk' : decide (k < v) = false := decide_eq_false hlt
              have hk3 : decide ((k : Int) < (v : Int)) = false := decide_eq_false (by omega)
              have hke : v = k := by omega
              subst hke
              clear hkg hlt
              obtain ⟨a3, ha3⟩ : ∃ a3, nxA a2 16 (n2 + 16 * 4) v = a3 := ⟨_, rfl⟩
              obtain ⟨L3, hL3⟩ : ∃ L3, L2 ++ (List.range v).flatMap ckV = L3 := ⟨_, rfl⟩
              obtain ⟨n3, hn3⟩ : ∃ n3, n2 + v * 4 = n3 := ⟨_, rfl⟩
              have Ha3 : Hid (nxA a2 16 (n2 + 16 * 4) v = a3 ∧ L2 ++ (List.range v).flatMap ckV = L3 ∧ n2 + v * 4 = n3) := ⟨ha3, hL3, hn3⟩
              rw [hL3] at hown
              rw [ha3]
              have HO3 : Hid (wr.ownsRow w.heap.size 27 5 (.slice so n3 sc) n3 (L3.flatMap rz5) ∧ Below w.heap.size w wr) := ⟨by rw [← hn3, hln]; exact hown, hbw⟩
              rw [← hln, hn3]
              clear hown hbw HG hln hlnI ha3 hL3 hn3
              go_wp2_with fail
              go_loopg [9, 10, 14] q (fun gq x y z wr => ∃ k : Nat, k + gq = q ∧ z = .int .i64 (k : Int) ∧ y = .int .i64 (nxA a3 16 (n3 + 16 * 1) k : Nat) ∧ wr.ownsRow w.heap.size 27 5 x (n3 + k * 1) ((L3 ++ (List.range k).flatMap ckQ).flatMap rz5) ∧ Below w.heap.size w wr)
              case atStart => exact ⟨0, by omega, rfl, by rw [nxA_zero], by simpa using HO3.out.1, HO3.out.2⟩
              case round =>
                obtain ⟨k, hkg, rfl, rfl, hown, hbw⟩ := hrel
                obtain ⟨so, sc, rfl⟩ := own_form hown
                obtain ⟨ln, hln⟩ : ∃ ln, n3 + k * 1 = ln := ⟨_, rfl⟩
                rw [hln] at hown ⊢
                have HG : Hid (k + gk = q ∧ wr.ownsRow w.heap.size 27 5 (.slice so ln sc) ln ((L3 ++ (List.range k).flatMap ckQ).flatMap rz5) ∧ Below w.heap.size w wr ∧ n3 + k * 1 = ln) := ⟨hkg, hown, hbw, hln⟩
                have hlnI : (ln : Int) ≤ 100000 := by have := HSz.out; have := Ha1.out.2.2; have := Ha2.out.2.2; have := Ha3.out.2.2; omega
                by_cases hlt : k < q
                · have hk' : (k : Int) < (q : Int) := by omega
                  have hk2 : (k : Int) ≤ 100 := by have := HSz.out; omega
                  have HLt : Hid (k < q) := hlt
                  clear hkg hown hbw hlt
                  by_cases hkl : k = 16
                  · by_cases ha0 : a3 = 0
                    · have HA1 : Hid (nxA a3 16 (n3 + 16 * 1) (k + 1) = ln) := by
                        show _ = _
                        rw [hkl, ha0, nxA_new.2, ← hln, hkl]
                      have hak : nxA a3 16 (n3 + 16 * 1) k = 0 := by rw [hkl, ha0]; exact nxA_new.1
                      have hq1 : ((k : Int) == 16) = true := by simp; omega
                      rw [hak]
                      clear hak hkl ha0 hln
                      have HNb : Hid (Calls Try.prog 10 #[.int .u8 113, .int .i64 (k : Int)] wr fun e w' => e = .returned (.string (nbr 113 k)) ∧ Below wr.heap.size wr w') := numbered_any 113 k (by have := HLt.out; have := HSz.out; omega) wr
                      have HCk : Hid ((ckQ k).flatMap rz5 = [.int .i64 2, .string (nbr 113 k), .int .i64 0, .int .i64 0, .int .i64 0]) := rfl
                      generalize nbr 113 k = nm at *
                      go_wp2_with fail
                      refine Calls.mono HNb.out ?_
                      rintro e wa ⟨rfl, hba⟩
                      have HBa : Hid (Below wr.heap.size wr wa) := hba
                      clear HNb hba
                      have HRw := show Hid _ from rowF_any 2 nm 0 wa
                      go_wp2_with fail
                      refine Calls.mono HRw.out ?_
                      rintro e wb ⟨rfl, hbb⟩
                      have HBb : Hid (Below wr.heap.size wr wb) := HBa.out.trans (hbb.mono HBa.out.size)
                      clear HRw hbb HBa wa
                      obtain ⟨wa, hwa⟩ : ∃ wa, wa = wb := ⟨_, rfl⟩
                      rw [← hwa] at HBb ⊢
                      have HBa := show Hid _ from HBb.out
                      clear hwa HBb wb
                      have hbU : Below wr.heap.size wr (wa.alloc (.cells #[.int .i64 2, .string nm, .int .i64 0, .int .i64 0, .int .i64 0] 27)) := HBa.out.alloc HBa.out.size _
                      have HOw : Hid ((wa.alloc (.cells #[.int .i64 2, .string nm, .int .i64 0, .int .i64 0, .int .i64 0] 27)).ownsRow w.heap.size 27 5 (.slice so ln sc) ln ((L3 ++ (List.range k).flatMap ckQ).flatMap rz5) ∧ Below w.heap.size w (wa.alloc (.cells #[.int .i64 2, .string nm, .int .i64 0, .int .i64 0, .int .i64 0] 27)) ∧ ln ≤ 100000) := ⟨own_below HG.out.2.1 hbU, HG.out.2.2.1.trans (hbU.mono HG.out.2.2.1.size), by have := HG.out.2.2.2; have := HLt.out; have := HSz.out; omega⟩
                      clear hbU
                      go_wp2_with (at_builtin; refine wpl_app _ rfl _ _ 29 rfl w.heap.size 27 i0 (.agg #[.int .i64 0, .string ⟨#[]⟩, .int .i64 0, .int .i64 0, .int .i64 0]) 5 48 Try.underlying29 hi hz0 hz1 hz2 rfl (by decide) (.slice so ln sc) ln ((L3 ++ (List.range k).flatMap ckQ).flatMap rz5) rfl HOw.out.1 (some ⟨wa.heap.size, 0, none⟩) 1 1 [.int .i64 2, .string nm, .int .i64 0, .int .i64 0, .int .i64 0] rfl rfl (fun e => by cases e) (fun ad e => by cases e; exact cells_new wa _ _) (by intro u hu; simp only [List.mem_cons, List.not_mem_nil, or_false] at hu; rcases hu with rfl | rfl | rfl | rfl | rfl <;> rfl) ?c3 ?c4 HOw.out.2.1.size ?_)
                      case c3 => have := HOw.out.2.2; unfold maxLen; omega
                      case c4 => have := HOw.out.2.2; omega
                      intro v2 w4 ho2 hg2 _
                      have H4 : Hid (w4.ownsRow w.heap.size 27 5 v2 (n3 + (k + 1) * 1) ((L3 ++ (List.range (k + 1)).flatMap ckQ).flatMap rz5) ∧ Below w.heap.size w w4) := ⟨by
                        have e1 : (L3 ++ (List.range (k + 1)).flatMap ckQ).flatMap rz5 = (L3 ++ (List.range k).flatMap ckQ).flatMap rz5 ++ [.int .i64 2, .string nm, .int .i64 0, .int .i64 0, .int .i64 0] := by
                          rw [← HCk.out, List.range_succ]
                          simp [List.flatMap_append]
                        rw [e1, show n3 + (k + 1) * 1 = ln + 1 by have := HG.out.2.2.2; omega, List.flatMap_append, List.append_assoc]
                        exact ho2, HOw.out.2.1.grown hg2 HOw.out.2.1.size (fun q e => (World.ownsRow.lt HOw.out.1 q e).1)⟩
                      obtain ⟨bo, bc, rfl⟩ := own_form ho2
                      clear ho2 hg2 HOw
                      go_wp2_with fail
                      go_roundg (q - (k + 1))
                      case measure => have := HG.out.1; have := HLt.out; omega
                      case rel => exact ⟨k + 1, by have := HLt.out; omega, by go_num, by rw [HA1.out], H4.out.1, H4.out.2⟩
                    · have HA1 : Hid (nxA a3 16 (n3 + 16 * 1) (k + 1) = a3) := nxA_old ha0
                      have hak : nxA a3 16 (n3 + 16 * 1) k = a3 := nxA_old ha0
                      have hq1 : ((k : Int) == 16) = true := by simp; omega
                      have hq2 : ((a3 : Int) == 0) = false := by simp; omega
                      rw [hak]
                      clear hak hkl ha0 hln
                      have HNb : Hid (Calls Try.prog 10 #[.int .u8 113, .int .i64 (k : Int)] wr fun e w' => e = .returned (.string (nbr 113 k)) ∧ Below wr.heap.size wr w') := numbered_any 113 k (by have := HLt.out; have := HSz.out; omega) wr
                      have HCk : Hid ((ckQ k).flatMap rz5 = [.int .i64 2, .string (nbr 113 k), .int .i64 0, .int .i64 0, .int .i64 0]) := rfl
                      generalize nbr 113 k = nm at *
                      go_wp2_with fail
                      refine Calls.mono HNb.out ?_
                      rintro e wa ⟨rfl, hba⟩
                      have HBa : Hid (Below wr.heap.size wr wa) := hba
                      clear HNb hba
                      have HRw := show Hid _ from rowF_any 2 nm 0 wa
                      go_wp2_with fail
                      refine Calls.mono HRw.out ?_
                      rintro e wb ⟨rfl, hbb⟩
                      have HBb : Hid (Below wr.heap.size wr wb) := HBa.out.trans (hbb.mono HBa.out.size)
                      clear HRw hbb HBa wa
                      obtain ⟨wa, hwa⟩ : ∃ wa, wa = wb := ⟨_, rfl⟩
                      rw [← hwa] at HBb ⊢
                      have HBa := show Hid _ from HBb.out
                      clear hwa HBb wb
                      have hbU : Below wr.heap.size wr (wa.alloc (.cells #[.int .i64 2, .string nm, .int .i64 0, .int .i64 0, .int .i64 0] 27)) := HBa.out.alloc HBa.out.size _
                      have HOw : Hid ((wa.alloc (.cells #[.int .i64 2, .string nm, .int .i64 0, .int .i64 0, .int .i64 0] 27)).ownsRow w.heap.size 27 5 (.slice so ln sc) ln ((L3 ++ (List.range k).flatMap ckQ).flatMap rz5) ∧ Below w.heap.size w (wa.alloc (.cells #[.int .i64 2, .string nm, .int .i64 0, .int .i64 0, .int .i64 0] 27)) ∧ ln ≤ 100000) := ⟨own_below HG.out.2.1 hbU, HG.out.2.2.1.trans (hbU.mono HG.out.2.2.1.size), by have := HG.out.2.2.2; have := HLt.out; have := HSz.out; omega⟩
                      clear hbU
                      go_wp2_with (at_builtin; refine wpl_app _ rfl _ _ 29 rfl w.heap.size 27 i0 (.agg #[.int .i64 0, .string ⟨#[]⟩, .int .i64 0, .int .i64 0, .int .i64 0]) 5 48 Try.underlying29 hi hz0 hz1 hz2 rfl (by decide) (.slice so ln sc) ln ((L3 ++ (List.range k).flatMap ckQ).flatMap rz5) rfl HOw.out.1 (some ⟨wa.heap.size, 0, none⟩) 1 1 [.int .i64 2, .string nm, .int .i64 0, .int .i64 0, .int .i64 0] rfl rfl (fun e => by cases e) (fun ad e => by cases e; exact cells_new wa _ _) (by intro u hu; simp only [List.mem_cons, List.not_mem_nil, or_false] at hu; rcases hu with rfl | rfl | rfl | rfl | rfl <;> rfl) ?c3 ?c4 HOw.out.2.1.size ?_)
                      case c3 => have := HOw.out.2.2; unfold maxLen; omega
                      case c4 => have := HOw.out.2.2; omega
                      intro v2 w4 ho2 hg2 _
                      have H4 : Hid (w4.ownsRow w.heap.size 27 5 v2 (n3 + (k + 1) * 1) ((L3 ++ (List.range (k + 1)).flatMap ckQ).flatMap rz5) ∧ Below w.heap.size w w4) := ⟨by
                        have e1 : (L3 ++ (List.range (k + 1)).flatMap ckQ).flatMap rz5 = (L3 ++ (List.range k).flatMap ckQ).flatMap rz5 ++ [.int .i64 2, .string nm, .int .i64 0, .int .i64 0, .int .i64 0] := by
                          rw [← HCk.out, List.range_succ]
                          simp [List.flatMap_append]
                        rw [e1, show n3 + (k + 1) * 1 = ln + 1 by have := HG.out.2.2.2; omega, List.flatMap_append, List.append_assoc]
                        exact ho2, HOw.out.2.1.grown hg2 HOw.out.2.1.size (fun q e => (World.ownsRow.lt HOw.out.1 q e).1)⟩
                      obtain ⟨bo, bc, rfl⟩ := own_form ho2
                      clear ho2 hg2 HOw
                      go_wp2_with fail
                      go_roundg (q - (k + 1))
                      case measure => have := HG.out.1; have := HLt.out; omega
                      case rel => exact ⟨k + 1, by have := HLt.out; omega, by go_num, by rw [HA1.out], H4.out.1, H4.out.2⟩
                  · have HA1 : Hid (nxA a3 16 (n3 + 16 * 1) (k + 1) = nxA a3 16 (n3 + 16 * 1) k) := nxA_ne hkl
                    have hq1 : ((k : Int) == 16) = false := by simp; omega
                    obtain ⟨ak, hak⟩ : ∃ ak, nxA a3 16 (n3 + 16 * 1) k = ak := ⟨_, rfl⟩
                    rw [hak] at HA1 ⊢
                    clear hak hkl hln
                    have HNb : Hid (Calls Try.prog 10 #[.int .u8 113, .int .i64 (k : Int)] wr fun e w' => e = .returned (.string (nbr 113 k)) ∧ Below wr.heap.size wr w') := numbered_any 113 k (by have := HLt.out; have := HSz.out; omega) wr
                    have HCk : Hid ((ckQ k).flatMap rz5 = [.int .i64 2, .string (nbr 113 k), .int .i64 0, .int .i64 0, .int .i64 0]) := rfl
                    generalize nbr 113 k = nm at *
                    go_wp2_with fail
                    refine Calls.mono HNb.out ?_
                    rintro e wa ⟨rfl, hba⟩
                    have HBa : Hid (Below wr.heap.size wr wa) := hba
                    clear HNb hba
                    have HRw := show Hid _ from rowF_any 2 nm 0 wa
                    go_wp2_with fail
                    refine Calls.mono HRw.out ?_
                    rintro e wb ⟨rfl, hbb⟩
                    have HBb : Hid (Below wr.heap.size wr wb) := HBa.out.trans (hbb.mono HBa.out.size)
                    clear HRw hbb HBa wa
                    obtain ⟨wa, hwa⟩ : ∃ wa, wa = wb := ⟨_, rfl⟩
                    rw [← hwa] at HBb ⊢
                    have HBa := show Hid _ from HBb.out
                    clear hwa HBb wb
                    have hbU : Below wr.heap.size wr (wa.alloc (.cells #[.int .i64 2, .string nm, .int .i64 0, .int .i64 0, .int .i64 0] 27)) := HBa.out.alloc HBa.out.size _
                    have HOw : Hid ((wa.alloc (.cells #[.int .i64 2, .string nm, .int .i64 0, .int .i64 0, .int .i64 0] 27)).ownsRow w.heap.size 27 5 (.slice so ln sc) ln ((L3 ++ (List.range k).flatMap ckQ).flatMap rz5) ∧ Below w.heap.size w (wa.alloc (.cells #[.int .i64 2, .string nm, .int .i64 0, .int .i64 0, .int .i64 0] 27)) ∧ ln ≤ 100000) := ⟨own_below HG.out.2.1 hbU, HG.out.2.2.1.trans (hbU.mono HG.out.2.2.1.size), by have := HG.out.2.2.2; have := HLt.out; have := HSz.out; omega⟩
                    clear hbU
                    go_wp2_with (at_builtin; refine wpl_app _ rfl _ _ 29 rfl w.heap.size 27 i0 (.agg #[.int .i64 0, .string ⟨#[]⟩, .int .i64 0, .int .i64 0, .int .i64 0]) 5 48 Try.underlying29 hi hz0 hz1 hz2 rfl (by decide) (.slice so ln sc) ln ((L3 ++ (List.range k).flatMap ckQ).flatMap rz5) rfl HOw.out.1 (some ⟨wa.heap.size, 0, none⟩) 1 1 [.int .i64 2, .string nm, .int .i64 0, .int .i64 0, .int .i64 0] rfl rfl (fun e => by cases e) (fun ad e => by cases e; exact cells_new wa _ _) (by intro u hu; simp only [List.mem_cons, List.not_mem_nil, or_false] at hu; rcases hu with rfl | rfl | rfl | rfl | rfl <;> rfl) ?c3 ?c4 HOw.out.2.1.size ?_)
                    case c3 => have := HOw.out.2.2; unfold maxLen; omega
                    case c4 => have := HOw.out.2.2; omega
                    intro v2 w4 ho2 hg2 _
                    have H4 : Hid (w4.ownsRow w.heap.size 27 5 v2 (n3 + (k + 1) * 1) ((L3 ++ (List.range (k + 1)).flatMap ckQ).flatMap rz5) ∧ Below w.heap.size w w4) := ⟨by
                      have e1 : (L3 ++ (List.range (k + 1)).flatMap ckQ).flatMap rz5 = (L3 ++ (List.range k).flatMap ckQ).flatMap rz5 ++ [.int .i64 2, .string nm, .int .i64 0, .int .i64 0, .int .i64 0] := by
                        rw [← HCk.out, List.range_succ]
                        simp [List.flatMap_append]
                      rw [e1, show n3 + (k + 1) * 1 = ln + 1 by have := HG.out.2.2.2; omega, List.flatMap_append, List.append_assoc]
                      exact ho2, HOw.out.2.1.grown hg2 HOw.out.2.1.size (fun q e => (World.ownsRow.lt HOw.out.1 q e).1)⟩
                    obtain ⟨bo, bc, rfl⟩ := own_form ho2
                    clear ho2 hg2 HOw
                    go_wp2_with fail
                    go_roundg (q - (k + 1))
                    case measure => have := HG.out.1; have := HLt.out; omega
                    case rel => exact ⟨k + 1, by have := HLt.out; omega, by go_num, by rw [HA1.out], H4.out.1, H4.out.2⟩
                · have hk' : decide (k < q) = false := decide_eq_false hlt
                  have hk3 : decide ((k : Int) < (q : Int)) = false := decide_eq_false (by omega)
                  have hke : q = k := by omega
                  subst hke
                  clear hkg hlt
                  obtain ⟨a4, ha4⟩ : ∃ a4, nxA a3 16 (n3 + 16 * 1) q = a4 := ⟨_, rfl⟩
                  obtain ⟨L4, hL4⟩ : ∃ L4, L3 ++ (List.range q).flatMap ckQ = L4 := ⟨_, rfl⟩
                  obtain ⟨n4, hn4⟩ : ∃ n4, n3 + q * 1 = n4 := ⟨_, rfl⟩
                  have Ha4 : Hid (nxA a3 16 (n3 + 16 * 1) q = a4 ∧ L3 ++ (List.range q).flatMap ckQ = L4 ∧ n3 + q * 1 = n4) := ⟨ha4, hL4, hn4⟩
                  rw [hL4] at hown
                  rw [ha4]
                  have HO4 : Hid (wr.ownsRow w.heap.size 27 5 (.slice so n4 sc) n4 (L4.flatMap rz5) ∧ Below w.heap.size w wr) := ⟨by rw [← hn4, hln]; exact hown, hbw⟩
                  rw [← hln, hn4]
                  clear hown hbw HG hln hlnI ha4 hL4 hn4
                  have hKK : (q : Int) + (v : Int) + (t : Int) + (r : Int) = ((r + (t + (v + q)) : Nat) : Int) := by omega
                  have hL4 : L4 = manyR r t v q := by
                    rw [← Ha4.out.2.1, ← Ha3.out.2.1, ← Ha2.out.2.1, ← Ha1.out.2.1, HL0.out, hKK]
                    unfold manyR
                    rw [cks_flat]
                    simp only [List.cons_append, List.nil_append, List.append_assoc]
                  have hov : over r t v q = if a4 = 0 then none else some a4 := by
                    have := Ha4.out.1
                    rw [← Ha3.out.1, ← Ha2.out.1, ← Ha1.out.1, Ha00.out, ← Ha3.out.2.2, ← Ha2.out.2.2, ← Ha1.out.2.2] at this
                    rw [over_nx, this]
                  have hn4 : L4.length = n4 := by
                    rw [hL4, many_len]
                    have h1 := Ha1.out.2.2
                    have h2 := Ha2.out.2.2
                    have h3 := Ha3.out.2.2
                    have h4 := Ha4.out.2.2
                    omega
                  have HRs : Hid (Calls Try.prog 11 #[.slice so n4 sc] wr (Told wr (res (manyR r t v q)))) := by
                    have := resolve_any (cap := sc) (rz_of_ownM HO4.out.1 hn4) (by rw [hn4]; have := Ha1.out.2.2; have := Ha2.out.2.2; have := Ha3.out.2.2; have := Ha4.out.2.2; have := HSz.out; omega)
                    rw [hn4, hL4] at this
                    exact this
                  have HB4 : Hid (Below w.heap.size w wr) := HO4.out.2
                  have hn4I : (n4 : Int) ≤ 100000 := by have := Ha1.out.2.2; have := Ha2.out.2.2; have := Ha3.out.2.2; have := Ha4.out.2.2; have := HSz.out; omega
                  have HOv := show Hid _ from hov
                  clear hov hL4 hn4 hKK HL0 Ha1 Ha2 Ha3 Ha4 HO4 Ha00
                  by_cases ha4 : a4 = 0
                  · obtain ⟨p, hres, hu, ht, hv, hq, ho, -⟩ := res_many (r := r) (t := t) (v := v) (q := q) (by have := HSz.out; omega) (by have := HSz.out; omega) (by have := HSz.out; omega) (by have := HSz.out; omega) (by rw [HOv.out, if_pos ha4])
                    rw [hres] at HRs
                    subst ha4
                    clear hres HOv
                    go_wp2_with fail
                    refine Calls.mono HRs.out ?_
                    rintro e w5 ⟨hb5, pvv, rfl, hpl0⟩
                    obtain ⟨rb, qo, vo, tto, uo, oo, ac, qc, vc, tc, uc, oc, hv0, -, -, -, -⟩ := hpl0.rd
                    have hvv : pvv = .agg #[.string p.name, .slice (some ⟨rb, 0, none⟩) p.rows.length ac, .slice qo q qc, .slice vo v vc, .slice tto t tc, .slice uo r uc, .slice oo q oc, .int .i64 p.miss] := by
                      rw [hv0]
                      unfold pv
                      rw [hq, hv, ht, hu, ho]
                    subst hvv
                    have HB5 : Hid (Below w.heap.size w w5) := HB4.out.trans (hb5.mono HB4.out.size)
                    have hx1 : ((w5.alloc (.cells #[.string p.name, .slice (some ⟨rb, 0, none⟩) p.rows.length ac, .slice qo q qc, .slice vo v vc, .slice tto t tc, .slice uo r uc, .slice oo q oc, .int .i64 p.miss] 35)).alloc (.cells #[.int .i64 0, .int .i64 0] 37)).heap[w5.heap.size]? = some (.cells #[.string p.name, .slice (some ⟨rb, 0, none⟩) p.rows.length ac, .slice qo q qc, .slice vo v vc, .slice tto t tc, .slice uo r uc, .slice oo q oc, .int .i64 p.miss] 35 (0, 0)) := by rw [alloc_old _ _ _ (by simp)]; exact alloc_at _ _ _ rfl
                    have hx2 : ((w5.alloc (.cells #[.string p.name, .slice (some ⟨rb, 0, none⟩) p.rows.length ac, .slice qo q qc, .slice vo v vc, .slice tto t tc, .slice uo r uc, .slice oo q oc, .int .i64 p.miss] 35)).alloc (.cells #[.int .i64 0, .int .i64 0] 37)).heap[w5.heap.size + 1]? = some (.cells #[.int .i64 0, .int .i64 0] 37 (0, 0)) := alloc_at _ _ _ (by simp)
                    have HB6 : Hid (Below w.heap.size w ((w5.alloc (.cells #[.string p.name, .slice (some ⟨rb, 0, none⟩) p.rows.length ac, .slice qo q qc, .slice vo v vc, .slice tto t tc, .slice uo r uc, .slice oo q oc, .int .i64 p.miss] 35)).alloc (.cells #[.int .i64 0, .int .i64 0] 37))) := (HB5.out.alloc HB5.out.size _).alloc (by have := HB5.out.size; simp; omega) _
                    have f0 : ((w5.alloc (.cells #[.string p.name, .slice (some ⟨rb, 0, none⟩) p.rows.length ac, .slice qo q qc, .slice vo v vc, .slice tto t tc, .slice uo r uc, .slice oo q oc, .int .i64 p.miss] 35)).alloc (.cells #[.int .i64 0, .int .i64 0] 37)).cell? ⟨w5.heap.size + 1, 0, none⟩ = some (.int .i64 0) := by rw [World.cell?, hx2]; rfl
                    have f1 : ((w5.alloc (.cells #[.string p.name, .slice (some ⟨rb, 0, none⟩) p.rows.length ac, .slice qo q qc, .slice vo v vc, .slice tto t tc, .slice uo r uc, .slice oo q oc, .int .i64 p.miss] 35)).alloc (.cells #[.int .i64 0, .int .i64 0] 37)).cell? ⟨w5.heap.size + 1, 1, none⟩ = some (.int .i64 0) := by rw [World.cell?, hx2]; rfl
                    obtain ⟨k0, k1, k2, k3, k4, k5, k6, k7⟩ := pol8 hx1
                    have HH := show Hid _ from head_any ((w5.alloc (.cells #[.string p.name, .slice (some ⟨rb, 0, none⟩) p.rows.length ac, .slice qo q qc, .slice vo v vc, .slice tto t tc, .slice uo r uc, .slice oo q oc, .int .i64 p.miss] 35)).alloc (.cells #[.int .i64 0, .int .i64 0] 37))
                    have e1 : ((q : Int) == (q : Int)) = true := by simp
                    have e2 : ((v : Int) == (v : Int)) = true := by simp
                    have e3 : ((t : Int) == (t : Int)) = true := by simp
                    have e4 : ((r : Int) == (r : Int)) = true := by simp
                    clear hb5 hx1 hx2 hpl0 hv0 hu ht hv hq ho HRs
                    go_wp2_with fail
                    refine Calls.mono HH.out ?_
                    rintro e w7 ⟨rfl, hb7⟩
                    have HB7 := show Hid _ from hb7
                    clear hb7
                    go_wp2
                    go_ret
                    exact ⟨rfl, HB6.out.trans (HB7.out.mono HB6.out.size)⟩
                  · have hres := res_over (r := r) (t := t) (v := v) (q := q) (by have := HSz.out; omega) (by have := HSz.out; omega) (by have := HSz.out; omega) (by have := HSz.out; omega) (k := a4) (by rw [HOv.out, if_neg ha4])
                    rw [hres] at HRs
                    have hp1 : decide ((0 : Int) < (a4 : Int)) = true := decide_eq_true (by omega)
                    have hp2 : 0 < a4 := by omega
                    have e1 : ((a4 : Int) == (a4 : Int)) = true := by simp
                    clear hres HOv ha4
                    go_wp2_with fail
                    refine Calls.mono HRs.out ?_
                    rintro e w5 ⟨hb5, rfl⟩
                    have HB5 : Hid (Below w.heap.size w w5) := HB4.out.trans (hb5.mono HB4.out.size)
                    have hx1 : ((w5.alloc (.cells #[.string ⟨#[]⟩, pz, pz, pz, pz, pz, pz, .int .i64 0] 35)).alloc (.cells #[.int .i64 3, .int .i64 (a4 : Int)] 37)).heap[w5.heap.size]? = some (.cells #[.string ⟨#[]⟩, pz, pz, pz, pz, pz, pz, .int .i64 0] 35 (0, 0)) := by rw [alloc_old _ _ _ (by simp)]; exact alloc_at _ _ _ rfl
                    have hx2 : ((w5.alloc (.cells #[.string ⟨#[]⟩, pz, pz, pz, pz, pz, pz, .int .i64 0] 35)).alloc (.cells #[.int .i64 3, .int .i64 (a4 : Int)] 37)).heap[w5.heap.size + 1]? = some (.cells #[.int .i64 3, .int .i64 (a4 : Int)] 37 (0, 0)) := alloc_at _ _ _ (by simp)
                    have HB6 : Hid (Below w.heap.size w ((w5.alloc (.cells #[.string ⟨#[]⟩, pz, pz, pz, pz, pz, pz, .int .i64 0] 35)).alloc (.cells #[.int .i64 3, .int .i64 (a4 : Int)] 37))) := (HB5.out.alloc HB5.out.size _).alloc (by have := HB5.out.size; simp; omega) _
                    have f0 : ((w5.alloc (.cells #[.string ⟨#[]⟩, pz, pz, pz, pz, pz, pz, .int .i64 0] 35)).alloc (.cells #[.int .i64 3, .int .i64 (a4 : Int)] 37)).cell? ⟨w5.heap.size + 1, 0, none⟩ = some (.int .i64 3) := by rw [World.cell?, hx2]; rfl
                    have f1 : ((w5.alloc (.cells #[.string ⟨#[]⟩, pz, pz, pz, pz, pz, pz, .int .i64 0] 35)).alloc (.cells #[.int .i64 3, .int .i64 (a4 : Int)] 37)).cell? ⟨w5.heap.size + 1, 1, none⟩ = some (.int .i64 (a4 : Int)) := by rw [World.cell?, hx2]; rfl
                    obtain ⟨k0, k1, k2, k3, k4, k5, k6, k7⟩ := pol8 hx1
                    have HH := show Hid _ from head_any ((w5.alloc (.cells #[.string ⟨#[]⟩, pz, pz, pz, pz, pz, pz, .int .i64 0] 35)).alloc (.cells #[.int .i64 3, .int .i64 (a4 : Int)] 37))
                    clear hb5 hx1 hx2 HRs
                    go_wp2_with fail
                    refine Calls.mono HH.out ?_
                    rintro e w7 ⟨rfl, hb7⟩
                    have HB7 := show Hid _ from hb7
                    clear hb7
                    go_wp2
                    go_ret
                    exact ⟨rfl, HB6.out.trans (HB7.out.mono HB6.out.size)⟩
end Go.Proofs.Ytenhjebiokegkaa.Nm

namespace Go.Proofs.Ytenhjebiokegkaa.namesMany
open Go.RowKit Go.Proofs.Ytenhjebiokegkaa.Sp Go.Proofs.Ytenhjebiokegkaa.Lx Go.Proofs.Ytenhjebiokegkaa.Gr
theorem walk (a b c d : Int) (w : World) : Calls Try.prog 4 #[.int .i64 a, .int .i64 b, .int .i64 c, .int .i64 d] w fun e w' => e = .returned (.bool true) ∧ Below w.heap.size w w' := Nm.manyWalk a b c d w
end Go.Proofs.Ytenhjebiokegkaa.namesMany

namespace Go.Proofs.Ytenhjebiokegkaa.Lx
open Go.ChangeShapes Go.WideShapes Go.ChangeAt Go.RowKit Go.Proofs.Ytenhjebiokegkaa.Sp

theorem own : ownKnob Try.prog.godebug = none := by kernel_rfl
theorem laidOut : laidOutB Try.prog = true := by kernel_rfl
theorem bytes5 : Try.prog.bytesOf 5 = 1 := by kernel_rfl

theorem open_bytes {H : Type} {enc : TypeId × Value → H} {W : World} {a : Option Addr} {len cap : Nat} {d : DataW H} {p : List MemPlace} (h : DataW.Trod enc Try.prog W 0 (fun _ => true) true 48 (.slice a len cap) d p) :
    ∃ s : ByteArray, s.size = len ∧ len ≤ cap ∧ IsBytes W a s ∧ (len = 0 ∨ ∃ el sp, d = .slice el sp ∧ el.length = len) := by
  obtain ⟨fuel, hf⟩ := h
  rcases open_ints Try.underlying48 Try.underlying5 (by kernel_rfl) hf with ⟨hcs, hx⟩ | ⟨x, l, c, zs, hcs, _, hl, hm, hz, hx, hcell, hwz⟩
  · simp [Value.cells] at hcs
    obtain ⟨rfl, rfl, rfl⟩ := hcs
    exact ⟨ByteArray.empty, rfl, Nat.le_refl _, fun i hi => absurd hi (Nat.not_lt_zero _), Or.inl rfl⟩
  · simp [Value.cells] at hcs
    obtain ⟨rfl, rfl, rfl⟩ := hcs
    simp at hz hx
    obtain ⟨rfl, rfl⟩ := hx
    have hsz : (strOfNums (zs.take len)).size = len := by rw [strOfNums_size]; simp; omega
    refine ⟨strOfNums (zs.take len), hsz, hl, fun i hi => ?_, Or.inr ⟨_, _, rfl, by simp [lits]; omega⟩⟩
    obtain ⟨b, off, spot⟩ := x
    have h0 := hcell 0 (by omega)
    have hspot : spot = none := by simpa [Addr.add] using World.cell?_spot h0
    subst hspot
    have hB : Lib.Bytes W b off (strOfNums (zs.take len)) := Lib.bytes_of_nums (n := len) (by simp; omega) (fun x hx => by
      have hx := bounds_u8 (hwz x (List.mem_of_mem_take hx))
      omega) (fun j hj => by
        have := hcell j (by omega)
        rw [Lib.addr_add] at this
        rw [this]
        simp [List.getD, List.getElem?_take_of_lt hj])
    have hc := hB i hi
    refine ⟨b, off, rfl, World.block_lt_of_cell? W _ hc, ?_⟩
    rw [hc, nb_get _ i hi]
theorem bytes_reach {H : Type} {ts : List TypeId} {ds : List (DataW H)} (hsz : (DataW.weightsEach Try.prog ts ds).all (· ≤ reachBytes) = true) {j len : Nat} {d : DataW H} (ht : ts[j]? = some 48) (hd : ds[j]? = some d) (h : len = 0 ∨ ∃ el sp, d = .slice el sp ∧ el.length = len) : len ≤ 140737488351232 := by
  rcases h with rfl | ⟨el, sp, rfl, rfl⟩
  · omega
  · have := sized_slice hsz ht hd Try.underlying48
    rw [bytes5] at this
    simp only [reachBytes] at this
    omega
end Go.Proofs.Ytenhjebiokegkaa.Lx

namespace Go.Proofs.Ytenhjebiokegkaa.namesMany
open Go.ChangeShapes Go.WideShapes Go.ChangeAt Go.RowKit
open Go.Proofs.Ytenhjebiokegkaa.Sp Go.Proofs.Ytenhjebiokegkaa.Lx Go.Proofs.Ytenhjebiokegkaa.Gr

set_option maxRecDepth 100000 in
theorem contractF (H : Type) (enc : TypeId × Value → H) (W : World) (base : Nat) (args : Array Value) (ds gs : List (DataW H)) (before : List MemPlace)
    (hval : ∀ (j : Nat) t v, Try.f4.params[j]? = some t → args[j]? = some v → Value.okWide Try.prog W .any base t v)
    (hW : DataW.Whole enc Try.prog Try.f4.params.toList Rows.namesManySpec.vars false W args.toList ds gs before)
    (hsz : (DataW.weightsEach Try.prog (Try.f4.params.toList ++ Rows.namesManySpec.plain.varTypes Try.prog) (ds ++ gs)).all (· ≤ reachBytes) = true) :
    Calls Try.prog 4 args W fun e W' => ∃ v, e = .returned v ∧ Rows.namesManySpec.post enc Try.prog Try.f4 false true false false W args v W' := by
  have hW' := hW
  obtain ⟨p, q, hA0, hV, rfl, hfz, hnd⟩ := hW
  have hA : DataW.TrodAll enc Try.prog W 0 (fun _ => true) true Try.f4.params.toList args.toList ds p := hA0
  rw [Try.params4] at hA hval hsz
  obtain ⟨v0, vs0, d0, ds0, p0, q0, hargs, rfl, rfl, h0, r0⟩ := trodAll_cons hA
  obtain ⟨v1, vs1, d1, ds1, p1, q1, rfl, rfl, rfl, h1, r1⟩ := trodAll_cons r0
  obtain ⟨v2, vs2, d2, ds2, p2, q2, rfl, rfl, rfl, h2, r2⟩ := trodAll_cons r1
  obtain ⟨v3, vs3, d3, ds3, p3, q3, rfl, rfl, rfl, h3, r3⟩ := trodAll_cons r2
  obtain ⟨rfl, rfl, rfl⟩ := trodAll_nil r3
  obtain rfl : args = #[v0, v1, v2, v3] := by cases args; simp_all
  obtain ⟨rfl, rfl⟩ := trodVars_none hV
  obtain ⟨a0, rfl, rfl, rfl, w0⟩ := open_int Try.underlying3 (hval 0 3 v0 rfl rfl) h0
  obtain ⟨a1, rfl, rfl, rfl, w1⟩ := open_int Try.underlying3 (hval 1 3 v1 rfl rfl) h1
  obtain ⟨a2, rfl, rfl, rfl, w2⟩ := open_int Try.underlying3 (hval 2 3 v2 rfl rfl) h2
  obtain ⟨a3, rfl, rfl, rfl, w3⟩ := open_int Try.underlying3 (hval 3 3 v3 rfl rfl) h3
  refine (walk a0 a1 a2 a3 W ).mono fun e W2 ⟨he, bel⟩ => ?_
  subst he
  exact ⟨_, rfl, _, _, _, [], _, [], hW', trodAll_mk1 (shut_bool Try.underlying4 _), (trodAll_cons_mk (shut_int Try.underlying3 w0) (trodAll_cons_mk (shut_int Try.underlying3 w1) (trodAll_cons_mk (shut_int Try.underlying3 w2) (trodAll_cons_mk (shut_int Try.underlying3 w3) trodAll_mk0)))), rfl, bel.frame _, fun h => by cases h⟩

set_option maxRecDepth 100000 in
theorem liftedF (os : Os) (started : os.Started) (H : Type) (enc : TypeId × Value → H) :
    ReturnsInHanded {} Try.checked os 4 .any (Rows.namesManySpec.pre6 enc Try.prog Try.f4 Rows.namesManyRow.domain false) (Rows.namesManySpec.post enc Try.prog Try.f4 false true false false) := by
  refine returnsInHanded_of_change_sized (C := Try.checked) own started (by kernel_rfl) Try.func4
    (ChangeSpec.witness6 (enc := enc) (C := Try.checked) false ⟨#[], #[.int .i64 0, .int .i64 0, .int .i64 0, .int .i64 0], []⟩ 8 (by kernel_rfl) (by kernel_rfl) (by kernel_rfl) (by kernel_rfl)) ?_
  intro W base args ds gs before hval hW _ hsz _
  exact contractF H enc W base args ds gs before hval hW hsz

theorem provedF : Rows.NamesManySaid :=
  OpenClaim.holds_of_wide 4 Try.f4 rfl rfl rfl rfl rfl rfl rfl ⟨rfl, rfl, rfl, rfl, rfl⟩ rfl rfl rfl rfl rfl (by kernel_rfl) Try.func4 (by kernel_rfl)
    (of_decide_eq_true (by kernel_rfl)) (by unfold Func.isWrapper; first | (rw [if_pos (by decide +kernel)]; kernel_rfl) | (rw [if_neg (by decide +kernel)]; exact ⟨rfl, rfl⟩))
    (fun os started H enc _ => liftedF os started H enc)
end Go.Proofs.Ytenhjebiokegkaa.namesMany
