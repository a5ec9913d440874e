import Derived.Test.YtenhjebiokegkaaNmRes0
import Derived.Test.YtenhjebiokegkaaLxConv
import Derived.Test.YtenhjebiokegkaaJLg
import Derived.Test.YtenhjebiokegkaaJNmD
import Derived.Test.YtenhjebiokegkaaNmRows
import Derived.Maps.AppendAt
import Derived.Laws.MakeOwn
import Derived.Test.YtenhjebiokegkaaLxBase
import Derived.ProofKit
import Derived.OpenShut
import Derived.ShutString
import Derived.ChangeOld
import Derived.Below
import Derived.JoinedCond
import Derived.SizedLaws
import Derived.SliceStrings
import Derived.ChangeMaps5
namespace Go.Proofs.Ytenhjebiokegkaa.Nm
open Go.RowKit Go.Maps Go.Proofs.Ytenhjebiokegkaa.Sp Go.Proofs.Ytenhjebiokegkaa.Lx Go.Proofs.Ytenhjebiokegkaa.Gr

abbrev nbrC (c : UInt8) (n : Nat) : Obj := .cells #[.int .u8 (c.toNat : Int), .int .u8 (48 + (n : Int) / 100), .int .u8 (48 + (n : Int) / 10 % 10), .int .u8 (48 + (n : Int) % 10)] 5 (0, 0)
theorem nbr_row (c : UInt8) (n : Nat) (hn : n < 1000) (w : World) : IsBytes (w.alloc (nbrC c n)) (some ⟨w.heap.size, 0, none⟩) (nbr c n) := by
  have hb := heap_alloc_new w (nbrC c n)
  intro i hi
  have hi : i < 4 := hi
  refine ⟨w.heap.size, 0, rfl, by simp, ?_⟩
  obtain rfl | rfl | rfl | rfl : i = 0 ∨ i = 1 ∨ i = 2 ∨ i = 3 := by omega
  all_goals
    simp only [World.cell?, hb]
  · rfl
  · show some (Value.int .u8 (48 + (n : Int) / 100)) = some (Value.int .u8 (((UInt8.ofNat (48 + n / 100)).toNat : Nat) : Int))
    rw [UInt8.toNat_ofNat']
    congr 2
    omega
  · show some (Value.int .u8 (48 + (n : Int) / 10 % 10)) = some (Value.int .u8 (((UInt8.ofNat (48 + n / 10 % 10)).toNat : Nat) : Int))
    rw [UInt8.toNat_ofNat']
    congr 2
    omega
  · show some (Value.int .u8 (48 + (n : Int) % 10)) = some (Value.int .u8 (((UInt8.ofNat (48 + n % 10)).toNat : Nat) : Int))
    rw [UInt8.toNat_ofNat']
    congr 2
    omega
set_option maxHeartbeats 1600000 in
set_option maxRecDepth 100000 in
theorem numbered_any (c : UInt8) (n : Nat) (hn : n < 1000) (w : World) : Calls Try.prog 10 #[.int .u8 (c.toNat : Int), .int .i64 (n : Int)] w fun e w' => e = .returned (.string (nbr c n)) ∧ Below w.heap.size w w' := by
  have hc : (convert 48 9 (.slice (some ⟨w.heap.size, 0, none⟩) 4 4)).run Try.prog (w.alloc (nbrC c n)) = .ok (.string (nbr c n)) (w.alloc (nbrC c n)) := conv_any Try.underlying48 _ (nbr c n) 4 _ (nbr_row c n hn w)
  have HB : Hid (∀ x, Below w.heap.size w (w.alloc x)) := fun x => (Below.refl _ w).alloc (Nat.le_refl _) x
  go_enter Try.func10, Try.ntmps10
  go_wp2_with fail
  go_ret
  exact ⟨rfl, HB.out _⟩
end Go.Proofs.Ytenhjebiokegkaa.Nm

namespace Go.Proofs.Ytenhjebiokegkaa.Nm
open Go.RowKit Go.Maps Go.Proofs.Ytenhjebiokegkaa.Sp Go.Proofs.Ytenhjebiokegkaa.Lx Go.Proofs.Ytenhjebiokegkaa.Gr

/-- round -/
def rnd7 (a : Int) (n : Nat) : Nat := if a.tmod n < 0 then (a.tmod n + n).toNat else (a.tmod n).toNat
theorem rnd7_lt (a : Int) {n : Nat} (hn : 0 < n) : rnd7 a n < n := by
  have h1 := Int.tmod_lt_of_pos a (show (0 : Int) < n by omega)
  have h2 := Int.lt_tmod_of_pos a (show (0 : Int) < n by omega)
  unfold rnd7
  split <;> omega
set_option maxHeartbeats 1600000 in
theorem round7 (a : Int) (n : Nat) (hn : 0 < n) (hn2 : n ≤ 2932031007317) (w : World) : Calls Try.prog 8 #[.int .i64 a, .int .i64 (n : Int)] w fun r w' => r = .returned (.int .i64 (rnd7 a n : Nat)) ∧ w' = w := by
  have h1 := Int.tmod_lt_of_pos a (show (0 : Int) < n by omega)
  have h2 := Int.lt_tmod_of_pos a (show (0 : Int) < n by omega)
  have hw : IntKind.i64.wrap (a.tmod n) = a.tmod n := by
    rw [IntKind.wrap_i64]
    generalize a.tmod n = z at *
    omega
  have h3 : ((n : Int) == 0) = false := by simp; omega
  have h4 : (n : Int) ≤ 2932031007317 := by omega
  by_cases h0 : a.tmod n < 0
  · have HR : Hid (rnd7 a n = (a.tmod n + n).toNat) := by show _ = _; unfold rnd7; rw [if_pos h0]
    go_enter Try.func8, Try.ntmps8
    go_wp2
    go_ret
    exact ⟨by rw [HR.out, Int.toNat_of_nonneg (by omega)]; rfl, rfl⟩
  · have h5 : decide (a.tmod n < 0) = false := by simp; omega
    have HR : Hid (rnd7 a n = (a.tmod n).toNat) := by show _ = _; unfold rnd7; rw [if_neg h0]
    go_enter Try.func8, Try.ntmps8
    go_wp2
    go_ret
    exact ⟨by rw [HR.out, Int.toNat_of_nonneg (by omega)]; rfl, rfl⟩
end Go.Proofs.Ytenhjebiokegkaa.Nm

namespace Go.Proofs.Ytenhjebiokegkaa.Nm
open Go.RowKit Go.Maps Go.Proofs.Ytenhjebiokegkaa.Sp Go.Proofs.Ytenhjebiokegkaa.Lx Go.Proofs.Ytenhjebiokegkaa.Gr

/-- append to an owned row, of a slice that may be nil -/
theorem run_app {P : Program} (w : World) (base : Nat) (t ty e : TypeId) (i : TypeInfo) (z : Value) (size bytes : Nat) (ht : P.underlying t = some (.slice e)) (hi : P.info? e = some i) (hz : i.zero = some z)
    (hsize : i.size = size) (hby : i.bytes = bytes) (hzs : z.cells.size = size) (hsz : 0 < size)
    (v : Value) (n : Nat) (xs : List Value) (hown : w.ownsRow base e size v n xs)
    (ao : Option Addr) (m c : Nat) (news : List Value) (hl : news.length = m * size) (hnone : ao = none → m = 0 ∧ c = 0) (hnews : ∀ ad, ao = some ad → ∀ j u, news[j]? = some u → w.cell? (ad.add j) = some u) (h1 : ∀ u ∈ news, u.oneCell' = true)
    (h63 : n + m ≤ maxLen) (hbytes : (n + m) * bytes ≤ 140737488355328) (hbase : base ≤ w.heap.size) :
    ∃ v' w', (Builtin.append_ #[t, t] ty #[v, .slice ao m c]).run P w = .ok v' w' ∧ w'.ownsRow base e size v' (n + m) (xs ++ news) ∧ w.grownBy w' v.ownBlock ∧ (v'.ownBlock = v.ownBlock ∨ v'.ownBlock = some w.heap.size) := by
  cases ao with
  | some ad =>
    obtain ⟨v', w', hr, h2, h3, _, h5⟩ := run_append_own_at (P := P) w base t ty e i z size bytes ht hi hz hsize hby hzs hsz v n xs hown ad m c news hl (hnews ad rfl) h1 h63 hbytes hbase
    exact ⟨v', w', hr, h2, h3, h5⟩
  | none =>
    obtain ⟨rfl, rfl⟩ := hnone rfl
    have he : news = [] := List.eq_nil_of_length_eq_zero (by simpa using hl)
    subst he
    exact ⟨v, w, run_append_owned_none (P := P) w base t ty e i size ht hi v n xs hown, by simpa using hown, World.grownBy.refl _ _, Or.inl rfl⟩
theorem wpl_app {P : Program} (w : World) {ops : Array Oper} {rest : List Oper} {o : Oper} {a : Act} {Q : Exit → Act → World → Prop} (hgd : o.guard = none) (s x : Operand) (t : TypeId)
    (ho : o.op = .call { callee := .builtin .append, args := #[s, x], argTypes := #[t, t] })
    (base : Nat) (e : TypeId) (i : TypeInfo) (z : Value) (size bytes : Nat) (ht : P.underlying t = some (.slice e)) (hi : P.info? e = some i) (hz : i.zero = some z)
    (hsize : i.size = size) (hby : i.bytes = bytes) (hzs : z.cells.size = size) (hsz : 0 < size)
    (v : Value) (n : Nat) (xs : List Value) (hs : a.eval s = v) (hown : w.ownsRow base e size v n xs)
    (ao : Option Addr) (m c : Nat) (news : List Value) (hx : a.eval x = .slice ao m c) (hl : news.length = m * size) (hnone : ao = none → m = 0 ∧ c = 0) (hnews : ∀ ad, ao = some ad → ∀ j u, news[j]? = some u → w.cell? (ad.add j) = some u) (h1 : ∀ u ∈ news, u.oneCell' = true)
    (h63 : n + m ≤ maxLen) (hbytes : (n + m) * bytes ≤ 140737488355328) (hbase : base ≤ w.heap.size)
    (h : ∀ v' w', w'.ownsRow base e size v' (n + m) (xs ++ news) → w.grownBy w' v.ownBlock → (v'.ownBlock = v.ownBlock ∨ v'.ownBlock = some w.heap.size) → wpList P ops Q rest (a.put o.dst v') w') : wpList P ops Q (o :: rest) a w := by
  refine wpList_plain hgd fun K hK => ?_
  obtain ⟨v', w', hr, h2, h3, h4⟩ := run_app (P := P) w base t o.type e i z size bytes ht hi hz hsize hby hzs hsz v n xs hown ao m c news hl hnone hnews h1 h63 hbytes hbase
  unfold Oper.wp execOp
  simp only [ho, resolve, invoke, builtin, Sem.run_bind, Sem.run_pure, Result.andThen_ok, List.map_toArray, List.map_cons, List.map_nil, hs, hx, hr]
  exact hK _ _ (h v' w' h2 h3 h4)
/-- the same, as one step of a region that draws -/
theorem step_app {P : Program} (w : World) {ops : Array Oper} {o : Oper} {a : Act} {K : Act → World → Prop} {Q : Exit → Act → World → Prop} {E : Prop} (hgd : o.guard = none) (s x : Operand) (t : TypeId)
    (ho : o.op = .call { callee := .builtin .append, args := #[s, x], argTypes := #[t, t] })
    (base : Nat) (e : TypeId) (i : TypeInfo) (z : Value) (size bytes : Nat) (ht : P.underlying t = some (.slice e)) (hi : P.info? e = some i) (hz : i.zero = some z)
    (hsize : i.size = size) (hby : i.bytes = bytes) (hzs : z.cells.size = size) (hsz : 0 < size)
    (v : Value) (n : Nat) (xs : List Value) (hs : a.eval s = v) (hown : w.ownsRow base e size v n xs)
    (ao : Option Addr) (m c : Nat) (news : List Value) (hx : a.eval x = .slice ao m c) (hl : news.length = m * size) (hnone : ao = none → m = 0 ∧ c = 0) (hnews : ∀ ad, ao = some ad → ∀ j u, news[j]? = some u → w.cell? (ad.add j) = some u) (h1 : ∀ u ∈ news, u.oneCell' = true)
    (h63 : n + m ≤ maxLen) (hbytes : (n + m) * bytes ≤ 140737488355328) (hbase : base ≤ w.heap.size)
    (h : ∀ v' w', w'.ownsRow base e size v' (n + m) (xs ++ news) → w.grownBy w' v.ownBlock → (v'.ownBlock = v.ownBlock ∨ v'.ownBlock = some w.heap.size) → K (a.put o.dst v') w') : if Region.wanted o (yielded ops a.tmps) = true then Oper.wp P o a w K Q else E := by
  have hw : Region.wanted o (yielded ops a.tmps) = true := by simp [Region.wanted, hgd]
  rw [if_pos hw]
  obtain ⟨v', w', hr, h2, h3, h4⟩ := run_app (P := P) w base t o.type e i z size bytes ht hi hz hsize hby hzs hsz v n xs hown ao m c news hl hnone hnews h1 h63 hbytes hbase
  unfold Oper.wp execOp
  simp only [ho, resolve, invoke, builtin, Sem.run_bind, Sem.run_pure, Result.andThen_ok, List.map_toArray, List.map_cons, List.map_nil, hs, hx, hr]
  exact h v' w' h2 h3 h4
/-- make of an empty row with room for three more -/
theorem mk_capJ {t e : TypeId} {i : TypeInfo} {z : Value} {size bytes : Nat} (ht : Try.prog.underlying t = some (.slice e)) (hi : Try.prog.info? e = some i) (hz : i.zero = some z) (hsize : i.size = size) (hby : i.bytes = bytes) (n : Nat) (hn : bytes * (n + 3) ≤ 140737488355352) (hn2 : n ≤ 140737488355328) :
    ∃ M : Array Value, (∀ u : World, (Instr.makeSlice t (.int .i64 0) (.int .i64 ((n : Int) + 3))).run Try.prog u = .ok (.slice (some ⟨u.heap.size, 0, none⟩) 0 (n + 3)) (u.alloc (.cells M e))) ∧ M.size = (n + 3) * size := by
  refine ⟨_, fun u => ?_, size_madeCells z.cells ((n + 3) * size)⟩
  have h := run_make (P := Try.prog) u t e i z ht hi hz .i64 .i64 0 ((n : Int) + 3) (Int.le_refl _) (by omega) (by
    rw [hby]
    have : (bytes : Int) * ((n : Int) + 3) = ((bytes * (n + 3) : Nat) : Int) := by simp
    rw [this]
    omega) (by omega)
  have e1 : ((n : Int) + 3).toNat = n + 3 := by omega
  rw [e1, hsize] at h
  exact h
theorem own_madeJ {u : World} {M : Array Value} {e : TypeId} {n size base : Nat} (hM : M.size = (n + 3) * size) (hb : base ≤ u.heap.size) (hn : n ≤ 140737488355328) : (u.alloc (.cells M e)).ownsRow base e size (.slice (some ⟨u.heap.size, 0, none⟩) 0 (n + 3)) 0 [] :=
  own_mk (cur := M.toList) (by simp) hb (by rw [Array.toArray_toList]; exact heap_alloc_new u _) (Nat.zero_le _) (by unfold maxLen; omega) (by simpa using hM) (by simp)
theorem vals_src {w : World} {ao : Option Addr} {xs : List Value} (h : IsVals w ao xs) : ∀ ad, ao = some ad → ∀ j u, xs[j]? = some u → w.cell? (ad.add j) = some u := fun ad e j u hu => by
  obtain ⟨g, o, e2, _, hc⟩ := h j u hu
  rw [e] at e2
  cases e2
  rw [Lib.addr_add]
  exact hc
theorem vals_nil {w : World} {ao : Option Addr} {xs : List Value} {m sz : Nat} (h : IsVals w ao xs) (hl : xs.length = m * sz) (hs : 0 < sz) : ao = none → m = 0 := fun e => by
  cases m with
  | zero => rfl
  | succ m =>
    have h0 : 0 < xs.length := by rw [hl, Nat.succ_mul]; omega
    obtain ⟨g, o, e2, _⟩ := h 0 _ (List.getElem?_eq_getElem h0)
    rw [e] at e2
    cases e2
theorem iv_one (l : List Int) : ∀ u ∈ iv l, u.oneCell' = true := fun u hu => by
  obtain ⟨n, _, rfl⟩ := List.mem_map.1 hu
  rfl
theorem own_some {w : World} {base : Nat} {e : TypeId} {size : Nat} {v : Value} {n : Nat} {xs : List Value} (h : w.ownsRow base e size v n xs) (hn : 0 < n) : ∃ g cap, v = .slice (some ⟨g, 0, none⟩) n cap ∧ n ≤ cap ∧ cap ≤ maxLen := by
  obtain ⟨g, cap, cur, e1, _, _, h4, h5, _⟩ := own_block h hn
  exact ⟨g, cap, e1, h4, h5⟩
theorem mk_cap {t e : TypeId} {i : TypeInfo} {z : Value} {size bytes : Nat} (ht : Try.prog.underlying t = some (.slice e)) (hi : Try.prog.info? e = some i) (hz : i.zero = some z) (hsize : i.size = size) (hby : i.bytes = bytes) (hb : bytes ≤ 1000) (n : Nat) (hn : n ≤ 1000) :
    ∃ M : Array Value, (∀ u : World, (Instr.makeSlice t (.int .i64 0) (.int .i64 ((n : Int) + 3))).run Try.prog u = .ok (.slice (some ⟨u.heap.size, 0, none⟩) 0 (n + 3)) (u.alloc (.cells M e))) ∧ M.size = (n + 3) * size := mk_capJ ht hi hz hsize hby n (Nat.le_trans (Nat.mul_le_mul hb (show n + 3 ≤ 1003 by omega)) (by decide)) (by omega)
theorem own_made {u : World} {M : Array Value} {e : TypeId} {n size base : Nat} (hM : M.size = (n + 3) * size) (hb : base ≤ u.heap.size) (hn : n ≤ 1000) : (u.alloc (.cells M e)).ownsRow base e size (.slice (some ⟨u.heap.size, 0, none⟩) 0 (n + 3)) 0 [] := own_madeJ hM hb (by omega)
end Go.Proofs.Ytenhjebiokegkaa.Nm

namespace Go.Proofs.Ytenhjebiokegkaa.Nm
open Go.RowKit Go.Maps Go.Proofs.Ytenhjebiokegkaa.Sp Go.Proofs.Ytenhjebiokegkaa.Lx Go.Proofs.Ytenhjebiokegkaa.Gr

set_option maxHeartbeats 1600000 in
set_option maxRecDepth 100000 in
/-- row -/
theorem rowF_any (k : Int) (nm : ByteArray) (m : Int) (w : World) : Calls Try.prog 9 #[.int .i64 k, .string nm, .int .i64 m] w fun e w' => e = .returned (.agg #[.int .i64 k, .string nm, .int .i64 0, .int .i64 0, .int .i64 m]) ∧ Below w.heap.size w w' := by
  have HB : Hid (Below w.heap.size w (w.alloc (.cells #[.int .i64 k, .string nm, .int .i64 0, .int .i64 0, .int .i64 m] 27))) := (Below.refl _ w).alloc (Nat.le_refl _) _
  have hn := heap_alloc_new w (.cells #[.int .i64 k, .string nm, .int .i64 0, .int .i64 0, .int .i64 m] 27)
  have y0 : (w.alloc (.cells #[.int .i64 k, .string nm, .int .i64 0, .int .i64 0, .int .i64 m] 27)).cell? ⟨w.heap.size, 0, none⟩ = some (.int .i64 k) := by simp only [World.cell?, hn]; rfl
  have y1 : (w.alloc (.cells #[.int .i64 k, .string nm, .int .i64 0, .int .i64 0, .int .i64 m] 27)).cell? ⟨w.heap.size, 1, none⟩ = some (.string nm) := by simp only [World.cell?, hn]; rfl
  have y2 : (w.alloc (.cells #[.int .i64 k, .string nm, .int .i64 0, .int .i64 0, .int .i64 m] 27)).cell? ⟨w.heap.size, 2, none⟩ = some (.int .i64 0) := by simp only [World.cell?, hn]; rfl
  have y3 : (w.alloc (.cells #[.int .i64 k, .string nm, .int .i64 0, .int .i64 0, .int .i64 m] 27)).cell? ⟨w.heap.size, 3, none⟩ = some (.int .i64 0) := by simp only [World.cell?, hn]; rfl
  have y4 : (w.alloc (.cells #[.int .i64 k, .string nm, .int .i64 0, .int .i64 0, .int .i64 m] 27)).cell? ⟨w.heap.size, 4, none⟩ = some (.int .i64 m) := by simp only [World.cell?, hn]; rfl
  clear hn
  go_enter Try.func9, Try.ntmps9
  go_wp2_with fail
  exact bodyPost_ret (v := .agg #[.int .i64 k, .string nm, .int .i64 0, .int .i64 0, .int .i64 m]) (by simp [results, Try.results9, go_sem, y0, y1, y2, y3, y4]) rfl ⟨rfl, HB.out⟩
theorem cells_new (w : World) (T : TypeId) (xs : List Value) : ∀ j u, xs[j]? = some u → (w.alloc (.cells xs.toArray T)).cell? ((⟨w.heap.size, 0, none⟩ : Addr).add j) = some u := by
  intro j u h
  rw [Lib.addr_add]
  simp only [World.cell?, heap_alloc_new w (.cells xs.toArray T), Nat.zero_add]
  simpa using h
theorem rz_of_ownM {w : World} {base n c : Nat} {bo : Option Addr} {l : List Rz} (h : w.ownsRow base 27 5 (.slice bo n c) n (l.flatMap rz5)) (hl : l.length = n) : IsRz w bo l := by
  subst hl
  cases l with
  | nil => exact fun i x hx => by simp at hx
  | cons x l =>
    obtain ⟨g, cap, cur, e, _⟩ := own_block h (by simp)
    cases e
    exact (rw_of_own h).rz
theorem ldN_le (c j : Nat) : ldN c j ≤ 1125899906842624 := by
  cases j with
  | zero => show 2 ≤ _; omega
  | succ j => exact Nat.min_le_right _ _
theorem rep_succ (k : Nat) (x : Rz) : List.replicate (k + 1) x = List.replicate k x ++ [x] := List.replicate_succ'
set_option maxHeartbeats 51200000 in
set_option maxRecDepth 100000 in
theorem largeWalk (ar ac : Int) (w : World) : Calls Try.prog 5 #[.int .i64 ar, .int .i64 ac] w fun e w' => e = .returned (.bool true) ∧ Below w.heap.size w w' := by
  have HR := show Hid _ from round7 ar 64 (by decide) (by decide) w
  have HC := show Hid _ from round7 ac 5 (by decide) (by decide) w
  have hr := rnd7_lt ar (n := 64) (by decide)
  have hc := rnd7_lt ac (n := 5) (by decide)
  generalize rnd7 ar 64 = r0 at *
  generalize rnd7 ac 5 = c at *
  obtain ⟨r, hrr⟩ : ∃ r, r = 1 + r0 := ⟨_, rfl⟩
  have HSz : Hid (1 ≤ r ∧ r ≤ 64 ∧ c ≤ 4) := ⟨by omega, by omega, by omega⟩
  have hr1 : (r0 : Int) ≤ 64 := by omega
  have hr2 : (1 : Int) + (r0 : Int) = (r : Int) := by omega
  have hr3 : (r : Int) ≤ 64 := by omega
  have hc2 : (c : Int) ≤ 4 := by omega
  have HNr : Hid (∀ W : World, Calls Try.prog 10 #[.int .u8 114, .int .i64 ((r : Int) - 1)] W fun e w' => e = .returned (.string (nbr 114 (r - 1))) ∧ Below W.heap.size W w') := fun W => by
    have h := numbered_any 114 (r - 1) (by omega) W
    rw [show ((r - 1 : Nat) : Int) = (r : Int) - 1 by omega] at h
    exact h
  have HN0 : Hid (∀ W : World, Calls Try.prog 10 #[.int .u8 114, .int .i64 0] W fun e w' => e = .returned (.string (nbr 114 0)) ∧ Below W.heap.size W w') := fun W => numbered_any 114 0 (by decide) W
  obtain ⟨i0, hi, hz0, hz1, hz2⟩ := info_parts infoRw
  clear hr hc hrr
  go_enter Try.func5, Try.ntmps5
  go_wp2_with fail
  refine Calls.mono HR.out ?_
  rintro e w1 ⟨rfl, hw1⟩
  rw [hw1]
  clear hw1 w1 HR
  go_wp2_with fail
  refine Calls.mono HC.out ?_
  rintro e w1 ⟨rfl, hw1⟩
  rw [hw1]
  clear hw1 w1 HC
  obtain ⟨wa, hwa⟩ : ∃ wa, wa = w := ⟨_, rfl⟩
  have HBa : Hid (Below w.heap.size w wa) := by rw [hwa]; exact Below.refl _ _
  rw [← hwa]
  clear hwa
  obtain ⟨nm0, hnm0⟩ : ∃ nm0, nbr 114 0 = nm0 := ⟨_, rfl⟩
  have Hnm0 : Hid (nbr 114 0 = nm0) := hnm0
  rw [hnm0] at HN0
  clear hnm0
  have HRw := show Hid _ from rowF_any 1 ⟨#[112]⟩ ((r : Int) + 1) wa
  go_wp2_with fail
  refine Calls.mono HRw.out ?_
  rintro e wb ⟨rfl, hbb⟩
  have HBb : Hid (Below w.heap.size w wb) := HBa.out.trans (hbb.mono HBa.out.size)
  clear HRw hbb HBa wa
  obtain ⟨wa, hwa⟩ : ∃ wa, wa = wb := ⟨_, rfl⟩
  rw [← hwa] at HBb ⊢
  have HBa := show Hid _ from HBb.out
  clear hwa HBb wb
  have HNb := show Hid _ from HN0.out wa
  go_wp2_with fail
  refine Calls.mono HNb.out ?_
  rintro e wb ⟨rfl, hbb⟩
  have HBb : Hid (Below w.heap.size w wb) := HBa.out.trans (hbb.mono HBa.out.size)
  clear HNb hbb HBa wa
  obtain ⟨wa, hwa⟩ : ∃ wa, wa = wb := ⟨_, rfl⟩
  rw [← hwa] at HBb ⊢
  have HBa := show Hid _ from HBb.out
  clear hwa HBb wb
  have HRw := show Hid _ from rowF_any 7 nm0 1 wa
  go_wp2_with fail
  refine Calls.mono HRw.out ?_
  rintro e wb ⟨rfl, hbb⟩
  have HBb : Hid (Below w.heap.size w wb) := HBa.out.trans (hbb.mono HBa.out.size)
  clear HRw hbb HBa wa
  obtain ⟨wa, hwa⟩ : ∃ wa, wa = wb := ⟨_, rfl⟩
  rw [← hwa] at HBb ⊢
  have HBa := show Hid _ from HBb.out
  clear hwa HBb wb
  have HRw := show Hid _ from rowF_any 11 ⟨#[]⟩ 1 wa
  go_wp2_with fail
  refine Calls.mono HRw.out ?_
  rintro e wb ⟨rfl, hbb⟩
  have HBb : Hid (Below w.heap.size w wb) := HBa.out.trans (hbb.mono HBa.out.size)
  clear HRw hbb HBa wa
  obtain ⟨wa, hwa⟩ : ∃ wa, wa = wb := ⟨_, rfl⟩
  rw [← hwa] at HBb ⊢
  have HBa := show Hid _ from HBb.out
  clear hwa HBb wb
  have HRw := show Hid _ from rowF_any 23 ⟨#[]⟩ 0 wa
  go_wp2_with fail
  refine Calls.mono HRw.out ?_
  rintro e wb ⟨rfl, hbb⟩
  have HBb : Hid (Below w.heap.size w wb) := HBa.out.trans (hbb.mono HBa.out.size)
  clear HRw hbb HBa wa
  obtain ⟨wa, hwa⟩ : ∃ wa, wa = wb := ⟨_, rfl⟩
  rw [← hwa] at HBb ⊢
  have HBa := show Hid _ from HBb.out
  clear hwa HBb wb
  have HO0 : Hid ((wa.alloc (.cells #[.int .i64 1, .string ⟨#[112]⟩, .int .i64 0, .int .i64 0, .int .i64 ((r : Int) + 1), .int .i64 7, .string nm0, .int .i64 0, .int .i64 0, .int .i64 1, .int .i64 11, .string ⟨#[]⟩, .int .i64 0, .int .i64 0, .int .i64 1, .int .i64 23, .string ⟨#[]⟩, .int .i64 0, .int .i64 0, .int .i64 0] 27)).ownsRow w.heap.size 27 5 (.slice (some ⟨wa.heap.size, 0, none⟩) 4 4) 4 ([(⟨1, bp7, 0, 0, (r : Int) + 1⟩ : Rz), rw1 7 nm0 1, rw1 11 ⟨#[]⟩ 1, rw1 23 ⟨#[]⟩ 0].flatMap rz5) ∧ Below w.heap.size w (wa.alloc (.cells #[.int .i64 1, .string ⟨#[112]⟩, .int .i64 0, .int .i64 0, .int .i64 ((r : Int) + 1), .int .i64 7, .string nm0, .int .i64 0, .int .i64 0, .int .i64 1, .int .i64 11, .string ⟨#[]⟩, .int .i64 0, .int .i64 0, .int .i64 1, .int .i64 23, .string ⟨#[]⟩, .int .i64 0, .int .i64 0, .int .i64 0] 27))) := ⟨own_mk (cur := [.int .i64 1, .string ⟨#[112]⟩, .int .i64 0, .int .i64 0, .int .i64 ((r : Int) + 1), .int .i64 7, .string nm0, .int .i64 0, .int .i64 0, .int .i64 1, .int .i64 11, .string ⟨#[]⟩, .int .i64 0, .int .i64 0, .int .i64 1, .int .i64 23, .string ⟨#[]⟩, .int .i64 0, .int .i64 0, .int .i64 0]) rfl HBa.out.size (heap_alloc_new wa _) (Nat.le_refl _) (by unfold maxLen; decide) rfl rfl, HBa.out.alloc HBa.out.size _⟩
  clear HBa
  go_wp2_with fail
  generalize wa.alloc (.cells #[.int .i64 1, .string ⟨#[112]⟩, .int .i64 0, .int .i64 0, .int .i64 ((r : Int) + 1), .int .i64 7, .string nm0, .int .i64 0, .int .i64 0, .int .i64 1, .int .i64 11, .string ⟨#[]⟩, .int .i64 0, .int .i64 0, .int .i64 1, .int .i64 23, .string ⟨#[]⟩, .int .i64 0, .int .i64 0, .int .i64 0] 27) = w2 at *
  obtain ⟨Lp, hLp⟩ : ∃ Lp : List Rz, Lp = [⟨1, bp7, 0, 0, (r : Int) + 1⟩, rw1 7 nm0 1, rw1 11 ⟨#[]⟩ 1, rw1 23 ⟨#[]⟩ 0] := ⟨_, rfl⟩
  have HL0 : Hid (Lp = lgH r) := by
    show _ = _
    rw [hLp, ← Hnm0.out]
    rfl
  rw [← hLp] at HO0
  clear hLp Hnm0
  go_loopg [5, 6, 7] (r - 1) (fun gq x y z wr => ∃ j : Nat, j + gq = r - 1 ∧ z = .int .i64 ((j + 1 : Nat) : Int) ∧ y = .int .i64 (ldN c j : Nat) ∧ wr.ownsRow w.heap.size 27 5 x (4 + j * (2 + c)) ((Lp ++ (List.range j).flatMap (ckL c)).flatMap rz5) ∧ Below w.heap.size w wr)
  case atStart => exact ⟨0, by omega, rfl, rfl, by simpa using HO0.out.1, HO0.out.2⟩
  case round =>
    obtain ⟨j, hjg, rfl, rfl, hown, hbw⟩ := hrel
    obtain ⟨so, sc, rfl⟩ := own_form hown
    obtain ⟨ln, hln⟩ : ∃ ln, 4 + j * (2 + c) = ln := ⟨_, rfl⟩
    rw [hln] at hown ⊢
    have hlnL : ln ≤ 1000 := by
      have h1 := Nat.mul_le_mul (show j ≤ 63 by have := HSz.out; omega) (show 2 + c ≤ 6 by have := HSz.out; omega)
      omega
    have HG : Hid (wr.ownsRow w.heap.size 27 5 (.slice so ln sc) ln ((Lp ++ (List.range j).flatMap (ckL c)).flatMap rz5) ∧ Below w.heap.size w wr ∧ ln ≤ 100000) := ⟨hown, hbw, by omega⟩
    have Hln : Hid (4 + j * (2 + c) = ln ∧ ln ≤ 1000) := ⟨hln, hlnL⟩
    have hlnI : (ln : Int) ≤ 100000 := by omega
    have HJ : Hid (j + gk = r - 1) := hjg
    obtain ⟨ld, hld⟩ : ∃ ld, ldN c j = ld := ⟨_, rfl⟩
    have HLd : Hid (ldN c j = ld) := hld
    have hldI : (ld : Int) ≤ 1125899906842624 := by have := ldN_le c j; omega
    rw [hld]
    obtain ⟨i, hij⟩ : ∃ i, i = j + 1 := ⟨_, rfl⟩
    rw [← hij]
    have HI : Hid (i = j + 1) := hij
    by_cases hlt : i < r
    · have hk' : (i : Int) < (r : Int) := by omega
      have hk2 : (i : Int) ≤ 100 := by omega
      have HLt : Hid (i < r) := hlt
      have HNi : Hid (∀ W : World, Calls Try.prog 10 #[.int .u8 114, .int .i64 (i : Int)] W fun e w' => e = .returned (.string (nbr 114 i)) ∧ Below W.heap.size W w') := fun W => numbered_any 114 i (by omega) W
      have HNj : Hid (∀ W : World, Calls Try.prog 10 #[.int .u8 114, .int .i64 ((i : Int) - 1)] W fun e w' => e = .returned (.string (nbr 114 j)) ∧ Below W.heap.size W w') := fun W => by
        have h := numbered_any 114 j (by omega) W
        rw [show (j : Int) = (i : Int) - 1 by omega] at h
        exact h
      have HCk : Hid (∀ k, Lp ++ (List.range j).flatMap (ckL c) ++ ([rw1 7 (nbr 114 i) 1, rw1 11 ⟨#[]⟩ c] ++ List.replicate k (rw1 22 (nbr 114 j) 0)) = Lp ++ (List.range j).flatMap (ckL c) ++ (rw1 7 (nbr 114 (j + 1)) 1 :: rw1 11 ⟨#[]⟩ c :: List.replicate k (rw1 22 (nbr 114 j) 0))) := fun k => by rw [hij]; rfl
      obtain ⟨L1, hL1⟩ : ∃ L1, Lp ++ (List.range j).flatMap (ckL c) = L1 := ⟨_, rfl⟩
      have HL1 : Hid (Lp ++ (List.range j).flatMap (ckL c) = L1) := hL1
      rw [hL1] at HG
      clear hjg hown hbw hlt hln hlnL hld hij hL1
      obtain ⟨nm, hnm⟩ : ∃ nm, nbr 114 i = nm := ⟨_, rfl⟩
      have Hnm : Hid (nbr 114 i = nm) := hnm
      rw [hnm] at HNi
      clear hnm
      obtain ⟨wa, hwa⟩ : ∃ wa, wa = wr := ⟨_, rfl⟩
      have HBa : Hid (Below wr.heap.size wr wa) := by rw [hwa]; exact Below.refl _ _
      rw [← hwa]
      clear hwa
      have HNb := show Hid _ from HNi.out wa
      go_wp2_with fail
      refine Calls.mono HNb.out ?_
      rintro e wb ⟨rfl, hbb⟩
      have HBb : Hid (Below wr.heap.size wr wb) := HBa.out.trans (hbb.mono HBa.out.size)
      clear HNb hbb HBa wa
      obtain ⟨wa, hwa⟩ : ∃ wa, wa = wb := ⟨_, rfl⟩
      rw [← hwa] at HBb ⊢
      have HBa := show Hid _ from HBb.out
      clear hwa HBb wb
      have HRw := show Hid _ from rowF_any 7 nm 1 wa
      go_wp2_with fail
      refine Calls.mono HRw.out ?_
      rintro e wb ⟨rfl, hbb⟩
      have HBb : Hid (Below wr.heap.size wr wb) := HBa.out.trans (hbb.mono HBa.out.size)
      clear HRw hbb HBa wa
      obtain ⟨wa, hwa⟩ : ∃ wa, wa = wb := ⟨_, rfl⟩
      rw [← hwa] at HBb ⊢
      have HBa := show Hid _ from HBb.out
      clear hwa HBb wb
      have HRw := show Hid _ from rowF_any 11 ⟨#[]⟩ (c : Int) wa
      go_wp2_with fail
      refine Calls.mono HRw.out ?_
      rintro e wb ⟨rfl, hbb⟩
      have HBb : Hid (Below wr.heap.size wr wb) := HBa.out.trans (hbb.mono HBa.out.size)
      clear HRw hbb HBa wa
      obtain ⟨wa, hwa⟩ : ∃ wa, wa = wb := ⟨_, rfl⟩
      rw [← hwa] at HBb ⊢
      have HBa := show Hid _ from HBb.out
      clear hwa HBb wb
      have hbU : Below wr.heap.size wr (wa.alloc (.cells #[.int .i64 7, .string nm, .int .i64 0, .int .i64 0, .int .i64 1, .int .i64 11, .string ⟨#[]⟩, .int .i64 0, .int .i64 0, .int .i64 (c : Int)] 27)) := HBa.out.alloc HBa.out.size _
      have HOw : Hid ((wa.alloc (.cells #[.int .i64 7, .string nm, .int .i64 0, .int .i64 0, .int .i64 1, .int .i64 11, .string ⟨#[]⟩, .int .i64 0, .int .i64 0, .int .i64 (c : Int)] 27)).ownsRow w.heap.size 27 5 (.slice so ln sc) ln ((L1).flatMap rz5) ∧ Below w.heap.size w (wa.alloc (.cells #[.int .i64 7, .string nm, .int .i64 0, .int .i64 0, .int .i64 1, .int .i64 11, .string ⟨#[]⟩, .int .i64 0, .int .i64 0, .int .i64 (c : Int)] 27)) ∧ ln ≤ 100000) := ⟨own_below HG.out.1 hbU, HG.out.2.1.trans (hbU.mono HG.out.2.1.size), HG.out.2.2⟩
      clear hbU
      go_wp2_with (at_builtin; refine wpl_app _ rfl _ _ 29 rfl w.heap.size 27 i0 (.agg #[.int .i64 0, .string ⟨#[]⟩, .int .i64 0, .int .i64 0, .int .i64 0]) 5 48 Try.underlying29 hi hz0 hz1 hz2 rfl (by decide) (.slice so ln sc) ln ((L1).flatMap rz5) rfl HOw.out.1 (some ⟨wa.heap.size, 0, none⟩) 2 2 [.int .i64 7, .string nm, .int .i64 0, .int .i64 0, .int .i64 1, .int .i64 11, .string ⟨#[]⟩, .int .i64 0, .int .i64 0, .int .i64 (c : Int)] rfl rfl (fun e => by cases e) (fun ad e => by cases e; exact cells_new wa _ _) (by intro u hu; simp only [List.mem_cons, List.not_mem_nil, or_false] at hu; rcases hu with rfl | rfl | rfl | rfl | rfl | rfl | rfl | rfl | rfl | rfl <;> rfl) ?c3 ?c4 HOw.out.2.1.size ?_)
      case c3 => have := HOw.out.2.2; unfold maxLen; omega
      case c4 => have := HOw.out.2.2; omega
      intro v2 w4 ho2 hg2 _
      have H4 : Hid (w4.ownsRow w.heap.size 27 5 v2 (ln + 2) ((L1 ++ [rw1 7 nm 1, rw1 11 ⟨#[]⟩ c]).flatMap rz5) ∧ Below w.heap.size w w4) := ⟨by
        have e1 : (L1 ++ [rw1 7 nm 1, rw1 11 ⟨#[]⟩ c]).flatMap rz5 = (L1).flatMap rz5 ++ [.int .i64 7, .string nm, .int .i64 0, .int .i64 0, .int .i64 1, .int .i64 11, .string ⟨#[]⟩, .int .i64 0, .int .i64 0, .int .i64 (c : Int)] := by
          rw [List.flatMap_append]; rfl
        rw [e1, show ln + 2 = ln + 2 by rfl]
        exact ho2, HOw.out.2.1.grown hg2 HOw.out.2.1.size (fun q e => (World.ownsRow.lt HOw.out.1 q e).1)⟩
      obtain ⟨bo, bc, rfl⟩ := own_form ho2
      clear ho2 hg2 HOw
      go_wp2_with fail
      obtain ⟨nj, hnj⟩ : ∃ nj, nbr 114 j = nj := ⟨_, rfl⟩
      have Hnj : Hid (nbr 114 j = nj) := hnj
      rw [hnj] at HNj
      clear hnj HG
      obtain ⟨gj, hgj⟩ : ∃ gj, gj = gk := ⟨_, rfl⟩
      have HJ2 : Hid (j + gj = r - 1 ∧ gj = gk) := ⟨by rw [hgj]; exact HJ.out, hgj⟩
      clear HJ hgj
      obtain ⟨wo, hwo⟩ : ∃ wo, wo = wr := ⟨_, rfl⟩
      clear hwo
      go_loopg [5, 8, 9] c (fun gq x y z wr => ∃ k : Nat, k + gq = c ∧ z = .int .i64 (k : Int) ∧ y = .int .i64 ((1 + k * (1 + ld) : Nat) : Int) ∧ wr.ownsRow w.heap.size 27 5 x (ln + 2 + k) ((L1 ++ [rw1 7 nm 1, rw1 11 ⟨#[]⟩ c] ++ List.replicate k (rw1 22 nj 0)).flatMap rz5) ∧ Below w.heap.size w wr)
      case atStart => exact ⟨0, by omega, rfl, by simp, by simpa using H4.out.1, H4.out.2⟩
      case round =>
        obtain ⟨k, hkg, rfl, rfl, hown, hbw⟩ := hrel
        obtain ⟨s1, s2, rfl⟩ := own_form hown
        obtain ⟨lk1, hlk⟩ : ∃ lk1, ln + 2 + k = lk1 := ⟨_, rfl⟩
        rw [hlk] at hown ⊢
        have hk4 : k ≤ 4 := by have := HSz.out; omega
        have hlkI : (lk1 : Int) ≤ 100000 := by have := Hln.out; omega
        obtain ⟨nk, hnk⟩ : ∃ nk, 1 + k * (1 + ld) = nk := ⟨_, rfl⟩
        have hnkL : nk ≤ 4503599627370501 := by
          have h1 := Nat.mul_le_mul hk4 (show 1 + ld ≤ 1125899906842625 by omega)
          omega
        have hnkI : (nk : Int) ≤ 4503599627370501 := by omega
        rw [hnk]
        have HN : Hid (1 + k * (1 + ld) = nk ∧ ln + 2 + k = lk1) := ⟨hnk, hlk⟩
        obtain ⟨L2, hL2⟩ : ∃ L2, L1 ++ [rw1 7 nm 1, rw1 11 ⟨#[]⟩ c] ++ List.replicate k (rw1 22 nj 0) = L2 := ⟨_, rfl⟩
        have HL2 : Hid (L1 ++ [rw1 7 nm 1, rw1 11 ⟨#[]⟩ c] ++ List.replicate k (rw1 22 nj 0) = L2) := hL2
        rw [hL2] at hown
        have HG : Hid (wr.ownsRow w.heap.size 27 5 (.slice s1 lk1 s2) lk1 (L2.flatMap rz5) ∧ Below w.heap.size w wr ∧ lk1 ≤ 100000) := ⟨hown, hbw, by omega⟩
        clear hown hbw hL2 hnk hlk hnkL
        by_cases hlt : k < c
        · have hk' : (k : Int) < (c : Int) := by omega
          have hk5 : (k : Int) ≤ 4 := by omega
          have HKt : Hid (k < c ∧ k + gk = c) := ⟨hlt, hkg⟩
          clear hkg hlt hk4
          obtain ⟨wa, hwa⟩ : ∃ wa, wa = wr := ⟨_, rfl⟩
          have HBa : Hid (Below wr.heap.size wr wa) := by rw [hwa]; exact Below.refl _ _
          rw [← hwa]
          clear hwa H4
          have HNb := show Hid _ from HNj.out wa
          go_wp2_with fail
          refine Calls.mono HNb.out ?_
          rintro e wb ⟨rfl, hbb⟩
          have HBb : Hid (Below wr.heap.size wr wb) := HBa.out.trans (hbb.mono HBa.out.size)
          clear HNb hbb HBa wa
          obtain ⟨wa, hwa⟩ : ∃ wa, wa = wb := ⟨_, rfl⟩
          rw [← hwa] at HBb ⊢
          have HBa := show Hid _ from HBb.out
          clear hwa HBb wb
          have HRw := show Hid _ from rowF_any 22 nj 0 wa
          go_wp2_with fail
          refine Calls.mono HRw.out ?_
          rintro e wb ⟨rfl, hbb⟩
          have HBb : Hid (Below wr.heap.size wr wb) := HBa.out.trans (hbb.mono HBa.out.size)
          clear HRw hbb HBa wa
          obtain ⟨wa, hwa⟩ : ∃ wa, wa = wb := ⟨_, rfl⟩
          rw [← hwa] at HBb ⊢
          have HBa := show Hid _ from HBb.out
          clear hwa HBb wb
          have hbU : Below wr.heap.size wr (wa.alloc (.cells #[.int .i64 22, .string nj, .int .i64 0, .int .i64 0, .int .i64 0] 27)) := HBa.out.alloc HBa.out.size _
          have HOw : Hid ((wa.alloc (.cells #[.int .i64 22, .string nj, .int .i64 0, .int .i64 0, .int .i64 0] 27)).ownsRow w.heap.size 27 5 (.slice s1 lk1 s2) lk1 ((L2).flatMap rz5) ∧ Below w.heap.size w (wa.alloc (.cells #[.int .i64 22, .string nj, .int .i64 0, .int .i64 0, .int .i64 0] 27)) ∧ lk1 ≤ 100000) := ⟨own_below HG.out.1 hbU, HG.out.2.1.trans (hbU.mono HG.out.2.1.size), HG.out.2.2⟩
          clear hbU
          go_wp2_with (at_builtin; refine wpl_app _ rfl _ _ 29 rfl w.heap.size 27 i0 (.agg #[.int .i64 0, .string ⟨#[]⟩, .int .i64 0, .int .i64 0, .int .i64 0]) 5 48 Try.underlying29 hi hz0 hz1 hz2 rfl (by decide) (.slice s1 lk1 s2) lk1 ((L2).flatMap rz5) rfl HOw.out.1 (some ⟨wa.heap.size, 0, none⟩) 1 1 [.int .i64 22, .string nj, .int .i64 0, .int .i64 0, .int .i64 0] rfl rfl (fun e => by cases e) (fun ad e => by cases e; exact cells_new wa _ _) (by intro u hu; simp only [List.mem_cons, List.not_mem_nil, or_false] at hu; rcases hu with rfl | rfl | rfl | rfl | rfl <;> rfl) ?c3 ?c4 HOw.out.2.1.size ?_)
          case c3 => have := HOw.out.2.2; unfold maxLen; omega
          case c4 => have := HOw.out.2.2; omega
          intro v2 w4 ho2 hg2 _
          have H4 : Hid (w4.ownsRow w.heap.size 27 5 v2 (lk1 + 1) ((L2 ++ [rw1 22 nj 0]).flatMap rz5) ∧ Below w.heap.size w w4) := ⟨by
            have e1 : (L2 ++ [rw1 22 nj 0]).flatMap rz5 = (L2).flatMap rz5 ++ [.int .i64 22, .string nj, .int .i64 0, .int .i64 0, .int .i64 0] := by
              rw [List.flatMap_append]; rfl
            rw [e1, show lk1 + 1 = lk1 + 1 by rfl]
            exact ho2, HOw.out.2.1.grown hg2 HOw.out.2.1.size (fun q e => (World.ownsRow.lt HOw.out.1 q e).1)⟩
          obtain ⟨bo, bc, rfl⟩ := own_form ho2
          clear ho2 hg2 HOw
          go_wp2_with fail
          go_roundg (c - (k + 1))
          case measure => have := HKt.out; omega
          case rel => exact ⟨k + 1, by have := HKt.out; omega, by go_num, by
            have h1 := HN.out.1
            have h2 : 1 + (k + 1) * (1 + ld) = nk + 1 + ld := by rw [Nat.succ_mul]; omega
            rw [h2]
            go_num, by
            have h1 := HN.out.2
            rw [show ln + 2 + (k + 1) = lk1 + 1 by omega, rep_succ, ← List.append_assoc, HL2.out]
            exact H4.out.1, H4.out.2⟩
        · have hk' : decide (k < c) = false := decide_eq_false hlt
          have hk3 : decide ((k : Int) < (c : Int)) = false := decide_eq_false (by omega)
          have hkc : k = c := by omega
          have hnx : ldN c (j + 1) = min nk 1125899906842624 := by
            show min (1 + c * (1 + ldN c j)) _ = _
            rw [HLd.out, ← HN.out.1, hkc]
          have HG5 : Hid (wr.ownsRow w.heap.size 27 5 (.slice s1 lk1 s2) (4 + (j + 1) * (2 + c)) ((Lp ++ (List.range (j + 1)).flatMap (ckL c)).flatMap rz5) ∧ Below w.heap.size w wr ∧ 4 + (j + 1) * (2 + c) = lk1) := by
            have e1 : 4 + (j + 1) * (2 + c) = lk1 := by
              have h1 := HN.out.2
              have h2 := Hln.out.1
              rw [Nat.succ_mul]
              omega
            have e2 : Lp ++ (List.range (j + 1)).flatMap (ckL c) = L2 := by
              have h := HCk.out c
              rw [Hnm.out, Hnj.out, HL1.out] at h
              rw [← HL2.out, hkc, List.append_assoc, h, List.range_succ, List.flatMap_append, ← List.append_assoc, HL1.out, ← Hnj.out]
              simp [ckL]
            exact ⟨by rw [e1, e2]; exact HG.out.1, HG.out.2.1, e1⟩
          clear hkg hlt H4 hk4
          by_cases hbg : 1125899906842624 < nk
          · have hb1 : decide ((1125899906842624 : Int) < (nk : Int)) = true := decide_eq_true (by omega)
            have hb2 : (1125899906842624 : Int) < (nk : Int) := by omega
            have HE : Hid (ldN c (j + 1) = 1125899906842624) := by show _ = _; omega
            clear hbg hnx
            go_wp2_with fail
            go_roundg (r - 1 - (j + 1))
            case measure => have := HJ2.out; have := HLt.out; have := HI.out; omega
            case rel => exact ⟨j + 1, by have := HLt.out; have := HI.out; omega, by have := HI.out; go_num, by rw [HE.out]; rfl, HG5.out.1, HG5.out.2.1⟩
          · have hb1 : decide ((1125899906842624 : Int) < (nk : Int)) = false := decide_eq_false (by omega)
            have hb2 : ¬ (1125899906842624 : Int) < (nk : Int) := by omega
            have HE : Hid (ldN c (j + 1) = nk) := by show _ = _; omega
            clear hbg hnx
            go_wp2_with fail
            go_roundg (r - 1 - (j + 1))
            case measure => have := HJ2.out; have := HLt.out; have := HI.out; omega
            case rel => exact ⟨j + 1, by have := HLt.out; have := HI.out; omega, by have := HI.out; go_num, by rw [HE.out], HG5.out.1, HG5.out.2.1⟩
    · have hk' : decide (i < r) = false := decide_eq_false hlt
      have hk3 : decide ((i : Int) < (r : Int)) = false := decide_eq_false (by omega)
      have hjr : j = r - 1 := by have := HSz.out; omega
      obtain ⟨L1, hL1⟩ : ∃ L1, Lp ++ (List.range j).flatMap (ckL c) = L1 := ⟨_, rfl⟩
      have HL1 : Hid (Lp ++ (List.range (r - 1)).flatMap (ckL c) = L1) := by rw [hjr] at hL1; exact hL1
      have Hln2 : Hid (4 + (r - 1) * (2 + c) = ln ∧ ln ≤ 1000) := by rw [hjr] at hln; exact ⟨hln, hlnL⟩
      have HLd2 : Hid (ldN c (r - 1) = ld) := by rw [hjr] at hld; exact hld
      rw [hL1] at HG
      clear hjg hown hbw hlt hln hlnL hld hij hL1 hjr Hln HLd HJ HI
      obtain ⟨nm, hnm⟩ : ∃ nm, nbr 114 (r - 1) = nm := ⟨_, rfl⟩
      have Hnm : Hid (nbr 114 (r - 1) = nm) := hnm
      rw [hnm] at HNr
      clear hnm
      obtain ⟨wa, hwa⟩ : ∃ wa, wa = wr := ⟨_, rfl⟩
      have HBa : Hid (Below wr.heap.size wr wa) := by rw [hwa]; exact Below.refl _ _
      rw [← hwa]
      clear hwa
      have HRw := show Hid _ from rowF_any 10 ⟨#[]⟩ 1 wa
      go_wp2_with fail
      refine Calls.mono HRw.out ?_
      rintro e wb ⟨rfl, hbb⟩
      have HBb : Hid (Below wr.heap.size wr wb) := HBa.out.trans (hbb.mono HBa.out.size)
      clear HRw hbb HBa wa
      obtain ⟨wa, hwa⟩ : ∃ wa, wa = wb := ⟨_, rfl⟩
      rw [← hwa] at HBb ⊢
      have HBa := show Hid _ from HBb.out
      clear hwa HBb wb
      have HRw := show Hid _ from rowF_any 11 ⟨#[]⟩ 1 wa
      go_wp2_with fail
      refine Calls.mono HRw.out ?_
      rintro e wb ⟨rfl, hbb⟩
      have HBb : Hid (Below wr.heap.size wr wb) := HBa.out.trans (hbb.mono HBa.out.size)
      clear HRw hbb HBa wa
      obtain ⟨wa, hwa⟩ : ∃ wa, wa = wb := ⟨_, rfl⟩
      rw [← hwa] at HBb ⊢
      have HBa := show Hid _ from HBb.out
      clear hwa HBb wb
      have HNb := show Hid _ from HNr.out wa
      go_wp2_with fail
      refine Calls.mono HNb.out ?_
      rintro e wb ⟨rfl, hbb⟩
      have HBb : Hid (Below wr.heap.size wr wb) := HBa.out.trans (hbb.mono HBa.out.size)
      clear HNb hbb HBa wa
      obtain ⟨wa, hwa⟩ : ∃ wa, wa = wb := ⟨_, rfl⟩
      rw [← hwa] at HBb ⊢
      have HBa := show Hid _ from HBb.out
      clear hwa HBb wb
      have HRw := show Hid _ from rowF_any 22 nm 0 wa
      go_wp2_with fail
      refine Calls.mono HRw.out ?_
      rintro e wb ⟨rfl, hbb⟩
      have HBb : Hid (Below wr.heap.size wr wb) := HBa.out.trans (hbb.mono HBa.out.size)
      clear HRw hbb HBa wa
      obtain ⟨wa, hwa⟩ : ∃ wa, wa = wb := ⟨_, rfl⟩
      rw [← hwa] at HBb ⊢
      have HBa := show Hid _ from HBb.out
      clear hwa HBb wb
      have hbU : Below wr.heap.size wr (wa.alloc (.cells #[.int .i64 10, .string ⟨#[]⟩, .int .i64 0, .int .i64 0, .int .i64 1, .int .i64 11, .string ⟨#[]⟩, .int .i64 0, .int .i64 0, .int .i64 1, .int .i64 22, .string nm, .int .i64 0, .int .i64 0, .int .i64 0] 27)) := HBa.out.alloc HBa.out.size _
      have HOw : Hid ((wa.alloc (.cells #[.int .i64 10, .string ⟨#[]⟩, .int .i64 0, .int .i64 0, .int .i64 1, .int .i64 11, .string ⟨#[]⟩, .int .i64 0, .int .i64 0, .int .i64 1, .int .i64 22, .string nm, .int .i64 0, .int .i64 0, .int .i64 0] 27)).ownsRow w.heap.size 27 5 (.slice so ln sc) ln ((L1).flatMap rz5) ∧ Below w.heap.size w (wa.alloc (.cells #[.int .i64 10, .string ⟨#[]⟩, .int .i64 0, .int .i64 0, .int .i64 1, .int .i64 11, .string ⟨#[]⟩, .int .i64 0, .int .i64 0, .int .i64 1, .int .i64 22, .string nm, .int .i64 0, .int .i64 0, .int .i64 0] 27)) ∧ ln ≤ 100000) := ⟨own_below HG.out.1 hbU, HG.out.2.1.trans (hbU.mono HG.out.2.1.size), HG.out.2.2⟩
      clear hbU
      go_wp2_with (at_builtin; refine wpl_app _ rfl _ _ 29 rfl w.heap.size 27 i0 (.agg #[.int .i64 0, .string ⟨#[]⟩, .int .i64 0, .int .i64 0, .int .i64 0]) 5 48 Try.underlying29 hi hz0 hz1 hz2 rfl (by decide) (.slice so ln sc) ln ((L1).flatMap rz5) rfl HOw.out.1 (some ⟨wa.heap.size, 0, none⟩) 3 3 [.int .i64 10, .string ⟨#[]⟩, .int .i64 0, .int .i64 0, .int .i64 1, .int .i64 11, .string ⟨#[]⟩, .int .i64 0, .int .i64 0, .int .i64 1, .int .i64 22, .string nm, .int .i64 0, .int .i64 0, .int .i64 0] rfl rfl (fun e => by cases e) (fun ad e => by cases e; exact cells_new wa _ _) (by intro u hu; simp only [List.mem_cons, List.not_mem_nil, or_false] at hu; rcases hu with rfl | rfl | rfl | rfl | rfl | rfl | rfl | rfl | rfl | rfl | rfl | rfl | rfl | rfl | rfl <;> rfl) ?c3 ?c4 HOw.out.2.1.size ?_)
      case c3 => have := HOw.out.2.2; unfold maxLen; omega
      case c4 => have := HOw.out.2.2; omega
      intro v2 w4 ho2 hg2 _
      have H4 : Hid (w4.ownsRow w.heap.size 27 5 v2 (ln + 3) ((L1 ++ [rw1 10 ⟨#[]⟩ 1, rw1 11 ⟨#[]⟩ 1, rw1 22 nm 0]).flatMap rz5) ∧ Below w.heap.size w w4) := ⟨by
        have e1 : (L1 ++ [rw1 10 ⟨#[]⟩ 1, rw1 11 ⟨#[]⟩ 1, rw1 22 nm 0]).flatMap rz5 = (L1).flatMap rz5 ++ [.int .i64 10, .string ⟨#[]⟩, .int .i64 0, .int .i64 0, .int .i64 1, .int .i64 11, .string ⟨#[]⟩, .int .i64 0, .int .i64 0, .int .i64 1, .int .i64 22, .string nm, .int .i64 0, .int .i64 0, .int .i64 0] := by
          rw [List.flatMap_append]; rfl
        rw [e1, show ln + 3 = ln + 3 by rfl]
        exact ho2, HOw.out.2.1.grown hg2 HOw.out.2.1.size (fun q e => (World.ownsRow.lt HOw.out.1 q e).1)⟩
      obtain ⟨bo, bc, rfl⟩ := own_form ho2
      clear ho2 hg2 HOw
      obtain ⟨n4, hn4⟩ : ∃ n4, ln + 3 = n4 := ⟨_, rfl⟩
      have hL4 : L1 ++ [rw1 10 ⟨#[]⟩ 1, rw1 11 ⟨#[]⟩ 1, rw1 22 nm 0] = lgR r c := by
        rw [← HL1.out, HL0.out, ← Hnm.out]
        rfl
      rw [hL4, hn4] at H4
      have hlen : (lgR r c).length = n4 := by rw [lg_len, ← hn4, ← Hln2.out.1]
      have e3 : (lgR r c).length - 3 = ln := by omega
      have hn4I : (n4 : Int) ≤ 100000 := by have := Hln2.out; omega
      have HRs : Hid (Calls Try.prog 11 #[.slice bo n4 bc] w4 (Told w4 (res (lgR r c)))) := by
        have := resolve_any (cap := bc) (rz_of_ownM H4.out.1 hlen) (by rw [hlen]; omega)
        rw [hlen] at this
        exact this
      have HB4 : Hid (Below w.heap.size w w4) := H4.out.2
      have hlr := res_large HSz.out.1 HSz.out.2.1 HSz.out.2.2
      rw [HLd2.out, e3] at hlr
      have hn3 : (n4 : Int) - 3 = (ln : Int) := by omega
      rw [hn4]
      clear hL4 HL1 HL0 Hnm HG H4 e3
      by_cases hbg : 16384 < ld + 2
      · rw [if_pos hbg] at hlr
        rw [hlr] at HRs
        have hp1 : decide ((16384 : Int) < (ld : Int) + 2) = true := decide_eq_true (by omega)
        have hp2 : (16384 : Int) < (ld : Int) + 2 := by omega
        have e1 : ((ln : Int) == (ln : Int)) = true := by simp
        clear hlr hbg hlen hn4
        go_wp2_with fail
        refine Calls.mono HRs.out ?_
        rintro e w5 ⟨hb5, rfl⟩
        have HB5 : Hid (Below w.heap.size w w5) := HB4.out.trans (hb5.mono HB4.out.size)
        have hx1 : ((w5.alloc (.cells #[.string ⟨#[]⟩, pz, pz, pz, pz, pz, pz, .int .i64 0] 35)).alloc (.cells #[.int .i64 34, .int .i64 (ln : Int)] 37)).heap[w5.heap.size]? = some (.cells #[.string ⟨#[]⟩, pz, pz, pz, pz, pz, pz, .int .i64 0] 35 (0, 0)) := by rw [alloc_old _ _ _ (by simp)]; exact alloc_at _ _ _ rfl
        have hx2 : ((w5.alloc (.cells #[.string ⟨#[]⟩, pz, pz, pz, pz, pz, pz, .int .i64 0] 35)).alloc (.cells #[.int .i64 34, .int .i64 (ln : Int)] 37)).heap[w5.heap.size + 1]? = some (.cells #[.int .i64 34, .int .i64 (ln : Int)] 37 (0, 0)) := alloc_at _ _ _ (by simp)
        have HB6 : Hid (Below w.heap.size w ((w5.alloc (.cells #[.string ⟨#[]⟩, pz, pz, pz, pz, pz, pz, .int .i64 0] 35)).alloc (.cells #[.int .i64 34, .int .i64 (ln : Int)] 37))) := (HB5.out.alloc HB5.out.size _).alloc (by have := HB5.out.size; simp; omega) _
        have f0 : ((w5.alloc (.cells #[.string ⟨#[]⟩, pz, pz, pz, pz, pz, pz, .int .i64 0] 35)).alloc (.cells #[.int .i64 34, .int .i64 (ln : Int)] 37)).cell? ⟨w5.heap.size + 1, 0, none⟩ = some (.int .i64 34) := by rw [World.cell?, hx2]; rfl
        have f1 : ((w5.alloc (.cells #[.string ⟨#[]⟩, pz, pz, pz, pz, pz, pz, .int .i64 0] 35)).alloc (.cells #[.int .i64 34, .int .i64 (ln : Int)] 37)).cell? ⟨w5.heap.size + 1, 1, none⟩ = some (.int .i64 (ln : Int)) := by rw [World.cell?, hx2]; rfl
        obtain ⟨k0, k1, k2, k3, k4, k5, k6, k7⟩ := pol8 hx1
        have HH := show Hid _ from head_any ((w5.alloc (.cells #[.string ⟨#[]⟩, pz, pz, pz, pz, pz, pz, .int .i64 0] 35)).alloc (.cells #[.int .i64 34, .int .i64 (ln : Int)] 37))
        clear hb5 hx1 hx2 HRs
        go_wp2_with fail
        refine Calls.mono HH.out ?_
        rintro e w7 ⟨rfl, hb7⟩
        have HB7 := show Hid _ from hb7
        clear hb7
        go_wp2
        go_ret
        exact ⟨rfl, HB6.out.trans (HB7.out.mono HB6.out.size)⟩
      · rw [if_neg hbg] at hlr
        obtain ⟨p, hres, hmi, hla, v1, v2, v3, v4, v5, q4, q6⟩ := hlr
        rw [hres] at HRs
        have q5 : p.rows.length = (lgR r c).length := like_len q6
        have q1 : p.Sm := ⟨by rw [q5, hlen]; omega, by rw [v1]; decide, by rw [v2]; decide, by rw [v3]; decide, by have := HSz.out; omega, by rw [v4]; decide⟩
        have q2 : p.us.length ≤ 64 := by have := HSz.out; omega
        have q3 : TreeZ p.rows := like_tree q6 (base_of (chk_ok (lg_right HSz.out.1 HSz.out.2.1 HSz.out.2.2)).2).tree
        obtain ⟨ms, hms⟩ : ∃ ms, (lgR r c).length - 2 = ms := ⟨_, rfl⟩
        rw [hms] at hmi hla
        have hml : ms < p.rows.length := by rw [q5]; omega
        obtain ⟨z, hz⟩ : ∃ z, ld + 2 = z := ⟨_, rfl⟩
        rw [hz] at hla
        have hp1 : decide ((16384 : Int) < (ld : Int) + 2) = false := decide_eq_false (by omega)
        have hp2 : ¬ (16384 : Int) < (ld : Int) + 2 := by omega
        have e1 : ((z : Int) == (ld : Int) + 2) = true := by simp; omega
        have e2 : (z : Int) = (ld : Int) + 2 := by omega
        clear hbg hlen hn4 hres hms v1 v2 v3 v4 v5 q6
        go_wp2_with fail
        refine Calls.mono HRs.out ?_
        rintro e w5 ⟨hb5, pvv, rfl, hpl0⟩
        obtain ⟨rb, qo, vo, tto, uo, oo, pc, qc, vc, tc, uc, oc, hv0, hrw, hrd, hnt, huc⟩ := hpl0.rd
        have hvv : pvv = .agg #[.string p.name, .slice (some ⟨rb, 0, none⟩) p.rows.length pc, .slice qo p.qs.length qc, .slice vo p.vs.length vc, .slice tto p.ts.length tc, .slice uo p.us.length uc, .slice oo p.on.length oc, .int .i64 (ms : Int)] := by
          rw [hv0]
          unfold pv
          rw [hmi]
        subst hvv
        have HB5 : Hid (Below w.heap.size w w5) := HB4.out.trans (hb5.mono HB4.out.size)
        have hb6 : Below w5.heap.size w5 ((w5.alloc (.cells #[.string p.name, .slice (some ⟨rb, 0, none⟩) p.rows.length pc, .slice qo p.qs.length qc, .slice vo p.vs.length vc, .slice tto p.ts.length tc, .slice uo p.us.length uc, .slice oo p.on.length oc, .int .i64 (ms : Int)] 35)).alloc (.cells #[.int .i64 0, .int .i64 0] 37)) := ((Below.refl _ w5).alloc (Nat.le_refl _) _).alloc (by simp) _
        have hx1 : ((w5.alloc (.cells #[.string p.name, .slice (some ⟨rb, 0, none⟩) p.rows.length pc, .slice qo p.qs.length qc, .slice vo p.vs.length vc, .slice tto p.ts.length tc, .slice uo p.us.length uc, .slice oo p.on.length oc, .int .i64 (ms : Int)] 35)).alloc (.cells #[.int .i64 0, .int .i64 0] 37)).heap[w5.heap.size]? = some (.cells #[.string p.name, .slice (some ⟨rb, 0, none⟩) p.rows.length pc, .slice qo p.qs.length qc, .slice vo p.vs.length vc, .slice tto p.ts.length tc, .slice uo p.us.length uc, .slice oo p.on.length oc, .int .i64 (ms : Int)] 35 (0, 0)) := by rw [alloc_old _ _ _ (by simp)]; exact alloc_at _ _ _ rfl
        have hx2 : ((w5.alloc (.cells #[.string p.name, .slice (some ⟨rb, 0, none⟩) p.rows.length pc, .slice qo p.qs.length qc, .slice vo p.vs.length vc, .slice tto p.ts.length tc, .slice uo p.us.length uc, .slice oo p.on.length oc, .int .i64 (ms : Int)] 35)).alloc (.cells #[.int .i64 0, .int .i64 0] 37)).heap[w5.heap.size + 1]? = some (.cells #[.int .i64 0, .int .i64 0] 37 (0, 0)) := alloc_at _ _ _ (by simp)
        have HB6 : Hid (Below w.heap.size w ((w5.alloc (.cells #[.string p.name, .slice (some ⟨rb, 0, none⟩) p.rows.length pc, .slice qo p.qs.length qc, .slice vo p.vs.length vc, .slice tto p.ts.length tc, .slice uo p.us.length uc, .slice oo p.on.length oc, .int .i64 (ms : Int)] 35)).alloc (.cells #[.int .i64 0, .int .i64 0] 37))) := (HB5.out.alloc HB5.out.size _).alloc (by have := HB5.out.size; simp; omega) _
        have f0 : ((w5.alloc (.cells #[.string p.name, .slice (some ⟨rb, 0, none⟩) p.rows.length pc, .slice qo p.qs.length qc, .slice vo p.vs.length vc, .slice tto p.ts.length tc, .slice uo p.us.length uc, .slice oo p.on.length oc, .int .i64 (ms : Int)] 35)).alloc (.cells #[.int .i64 0, .int .i64 0] 37)).cell? ⟨w5.heap.size + 1, 0, none⟩ = some (.int .i64 0) := by rw [World.cell?, hx2]; rfl
        have f1 : ((w5.alloc (.cells #[.string p.name, .slice (some ⟨rb, 0, none⟩) p.rows.length pc, .slice qo p.qs.length qc, .slice vo p.vs.length vc, .slice tto p.ts.length tc, .slice uo p.us.length uc, .slice oo p.on.length oc, .int .i64 (ms : Int)] 35)).alloc (.cells #[.int .i64 0, .int .i64 0] 37)).cell? ⟨w5.heap.size + 1, 1, none⟩ = some (.int .i64 0) := by rw [World.cell?, hx2]; rfl
        obtain ⟨k0, k1, k2, k3, k4, k5, k6, k7⟩ := pol8 hx1
        have HLa : Hid (Calls Try.prog 12 #[.agg #[.string p.name, .slice (some ⟨rb, 0, none⟩) p.rows.length pc, .slice qo p.qs.length qc, .slice vo p.vs.length vc, .slice tto p.ts.length tc, .slice uo p.us.length uc, .slice oo p.on.length oc, .int .i64 (ms : Int)], .int .i64 (ms : Int)] ((w5.alloc (.cells #[.string p.name, .slice (some ⟨rb, 0, none⟩) p.rows.length pc, .slice qo p.qs.length qc, .slice vo p.vs.length vc, .slice tto p.ts.length tc, .slice uo p.us.length uc, .slice oo p.on.length oc, .int .i64 (ms : Int)] 35)).alloc (.cells #[.int .i64 0, .int .i64 0] 37)) fun e w' => e = .returned (.int .i64 (z : Nat)) ∧ Below ((w5.alloc (.cells #[.string p.name, .slice (some ⟨rb, 0, none⟩) p.rows.length pc, .slice qo p.qs.length qc, .slice vo p.vs.length vc, .slice tto p.ts.length tc, .slice uo p.us.length uc, .slice oo p.on.length oc, .int .i64 (ms : Int)] 35)).alloc (.cells #[.int .i64 0, .int .i64 0] 37)).heap.size ((w5.alloc (.cells #[.string p.name, .slice (some ⟨rb, 0, none⟩) p.rows.length pc, .slice qo p.qs.length qc, .slice vo p.vs.length vc, .slice tto p.ts.length tc, .slice uo p.us.length uc, .slice oo p.on.length oc, .int .i64 (ms : Int)] 35)).alloc (.cells #[.int .i64 0, .int .i64 0] 37)) w') := by
          have := laid_told (ac := pc) (qc := qc) (vc := vc) (tc := tc) (oc := oc) (row := ms) (hrd.below hb6) (hnt.below hb6) huc q1 q2 q3 q4 hml
          unfold pv at this
          rw [hla, hmi] at this
          exact this
        clear hb5 hx1 hx2 hpl0 hv0 hrw hrd hnt huc q1 q2 q3 q4 q5 hml hla hmi hb6 HRs
        go_wp2_with fail
        refine Calls.mono HLa.out ?_
        rintro e w6 ⟨rfl, hb7⟩
        have HB7 : Hid (Below w.heap.size w w6) := HB6.out.trans (hb7.mono HB6.out.size)
        have HH := show Hid _ from head_any w6
        clear hb7
        go_wp2_with fail
        refine Calls.mono HH.out ?_
        rintro e w7 ⟨rfl, hb8⟩
        have HB8 : Hid (Below w.heap.size w w7) := HB7.out.trans (hb8.mono HB7.out.size)
        clear hb8
        go_wp2
        go_ret
        exact ⟨rfl, HB8.out⟩
end Go.Proofs.Ytenhjebiokegkaa.Nm

namespace Go.Proofs.Ytenhjebiokegkaa.namesLarge
open Go.RowKit Go.Proofs.Ytenhjebiokegkaa.Sp Go.Proofs.Ytenhjebiokegkaa.Lx Go.Proofs.Ytenhjebiokegkaa.Gr
theorem walk (a b : Int) (w : World) : Calls Try.prog 5 #[.int .i64 a, .int .i64 b] w fun e w' => e = .returned (.bool true) ∧ Below w.heap.size w w' := Nm.largeWalk a b w
end Go.Proofs.Ytenhjebiokegkaa.namesLarge

namespace Go.Proofs.Ytenhjebiokegkaa.Lx
open Go.ChangeShapes Go.WideShapes Go.ChangeAt Go.RowKit Go.Proofs.Ytenhjebiokegkaa.Sp

theorem own : ownKnob Try.prog.godebug = none := by kernel_rfl
theorem laidOut : laidOutB Try.prog = true := by kernel_rfl
theorem bytes5 : Try.prog.bytesOf 5 = 1 := by kernel_rfl

theorem open_bytes {H : Type} {enc : TypeId × Value → H} {W : World} {a : Option Addr} {len cap : Nat} {d : DataW H} {p : List MemPlace} (h : DataW.Trod enc Try.prog W 0 (fun _ => true) true 48 (.slice a len cap) d p) :
    ∃ s : ByteArray, s.size = len ∧ len ≤ cap ∧ IsBytes W a s ∧ (len = 0 ∨ ∃ el sp, d = .slice el sp ∧ el.length = len) := by
  obtain ⟨fuel, hf⟩ := h
  rcases open_ints Try.underlying48 Try.underlying5 (by kernel_rfl) hf with ⟨hcs, hx⟩ | ⟨x, l, c, zs, hcs, _, hl, hm, hz, hx, hcell, hwz⟩
  · simp [Value.cells] at hcs
    obtain ⟨rfl, rfl, rfl⟩ := hcs
    exact ⟨ByteArray.empty, rfl, Nat.le_refl _, fun i hi => absurd hi (Nat.not_lt_zero _), Or.inl rfl⟩
  · simp [Value.cells] at hcs
    obtain ⟨rfl, rfl, rfl⟩ := hcs
    simp at hz hx
    obtain ⟨rfl, rfl⟩ := hx
    have hsz : (strOfNums (zs.take len)).size = len := by rw [strOfNums_size]; simp; omega
    refine ⟨strOfNums (zs.take len), hsz, hl, fun i hi => ?_, Or.inr ⟨_, _, rfl, by simp [lits]; omega⟩⟩
    obtain ⟨b, off, spot⟩ := x
    have h0 := hcell 0 (by omega)
    have hspot : spot = none := by simpa [Addr.add] using World.cell?_spot h0
    subst hspot
    have hB : Lib.Bytes W b off (strOfNums (zs.take len)) := Lib.bytes_of_nums (n := len) (by simp; omega) (fun x hx => by
      have hx := bounds_u8 (hwz x (List.mem_of_mem_take hx))
      omega) (fun j hj => by
        have := hcell j (by omega)
        rw [Lib.addr_add] at this
        rw [this]
        simp [List.getD, List.getElem?_take_of_lt hj])
    have hc := hB i hi
    refine ⟨b, off, rfl, World.block_lt_of_cell? W _ hc, ?_⟩
    rw [hc, nb_get _ i hi]
theorem bytes_reach {H : Type} {ts : List TypeId} {ds : List (DataW H)} (hsz : (DataW.weightsEach Try.prog ts ds).all (· ≤ reachBytes) = true) {j len : Nat} {d : DataW H} (ht : ts[j]? = some 48) (hd : ds[j]? = some d) (h : len = 0 ∨ ∃ el sp, d = .slice el sp ∧ el.length = len) : len ≤ 140737488351232 := by
  rcases h with rfl | ⟨el, sp, rfl, rfl⟩
  · omega
  · have := sized_slice hsz ht hd Try.underlying48
    rw [bytes5] at this
    simp only [reachBytes] at this
    omega
end Go.Proofs.Ytenhjebiokegkaa.Lx

namespace Go.Proofs.Ytenhjebiokegkaa.namesLarge
open Go.ChangeShapes Go.WideShapes Go.ChangeAt Go.RowKit
open Go.Proofs.Ytenhjebiokegkaa.Sp Go.Proofs.Ytenhjebiokegkaa.Lx Go.Proofs.Ytenhjebiokegkaa.Gr

set_option maxRecDepth 100000 in
theorem contractF (H : Type) (enc : TypeId × Value → H) (W : World) (base : Nat) (args : Array Value) (ds gs : List (DataW H)) (before : List MemPlace)
    (hval : ∀ (j : Nat) t v, Try.f5.params[j]? = some t → args[j]? = some v → Value.okWide Try.prog W .any base t v)
    (hW : DataW.Whole enc Try.prog Try.f5.params.toList Rows.namesLargeSpec.vars false W args.toList ds gs before)
    (hsz : (DataW.weightsEach Try.prog (Try.f5.params.toList ++ Rows.namesLargeSpec.plain.varTypes Try.prog) (ds ++ gs)).all (· ≤ reachBytes) = true) :
    Calls Try.prog 5 args W fun e W' => ∃ v, e = .returned v ∧ Rows.namesLargeSpec.post enc Try.prog Try.f5 false true false false W args v W' := by
  have hW' := hW
  obtain ⟨p, q, hA0, hV, rfl, hfz, hnd⟩ := hW
  have hA : DataW.TrodAll enc Try.prog W 0 (fun _ => true) true Try.f5.params.toList args.toList ds p := hA0
  rw [Try.params5] at hA hval hsz
  obtain ⟨v0, vs0, d0, ds0, p0, q0, hargs, rfl, rfl, h0, r0⟩ := trodAll_cons hA
  obtain ⟨v1, vs1, d1, ds1, p1, q1, rfl, rfl, rfl, h1, r1⟩ := trodAll_cons r0
  obtain ⟨rfl, rfl, rfl⟩ := trodAll_nil r1
  obtain rfl : args = #[v0, v1] := by cases args; simp_all
  obtain ⟨rfl, rfl⟩ := trodVars_none hV
  obtain ⟨a0, rfl, rfl, rfl, w0⟩ := open_int Try.underlying3 (hval 0 3 v0 rfl rfl) h0
  obtain ⟨a1, rfl, rfl, rfl, w1⟩ := open_int Try.underlying3 (hval 1 3 v1 rfl rfl) h1
  refine (walk a0 a1 W ).mono fun e W2 ⟨he, bel⟩ => ?_
  subst he
  exact ⟨_, rfl, _, _, _, [], _, [], hW', trodAll_mk1 (shut_bool Try.underlying4 _), (trodAll_cons_mk (shut_int Try.underlying3 w0) (trodAll_cons_mk (shut_int Try.underlying3 w1) trodAll_mk0)), rfl, bel.frame _, fun h => by cases h⟩

set_option maxRecDepth 100000 in
theorem liftedF (os : Os) (started : os.Started) (H : Type) (enc : TypeId × Value → H) :
    ReturnsInHanded {} Try.checked os 5 .any (Rows.namesLargeSpec.pre6 enc Try.prog Try.f5 Rows.namesLargeRow.domain false) (Rows.namesLargeSpec.post enc Try.prog Try.f5 false true false false) := by
  refine returnsInHanded_of_change_sized (C := Try.checked) own started (by kernel_rfl) Try.func5
    (ChangeSpec.witness6 (enc := enc) (C := Try.checked) false ⟨#[], #[.int .i64 0, .int .i64 0], []⟩ 8 (by kernel_rfl) (by kernel_rfl) (by kernel_rfl) (by kernel_rfl)) ?_
  intro W base args ds gs before hval hW _ hsz _
  exact contractF H enc W base args ds gs before hval hW hsz

theorem provedF : Rows.NamesLargeSaid :=
  OpenClaim.holds_of_wide 5 Try.f5 rfl rfl rfl rfl rfl rfl rfl ⟨rfl, rfl, rfl, rfl, rfl⟩ rfl rfl rfl rfl rfl (by kernel_rfl) Try.func5 (by kernel_rfl)
    (of_decide_eq_true (by kernel_rfl)) (by unfold Func.isWrapper; first | (rw [if_pos (by decide +kernel)]; kernel_rfl) | (rw [if_neg (by decide +kernel)]; exact ⟨rfl, rfl⟩))
    (fun os started H enc _ => liftedF os started H enc)
end Go.Proofs.Ytenhjebiokegkaa.namesLarge
