import Derived.Test.YtjhlfdlamjpdeaaJNmD
import Derived.Test.YtjhlfdlamjpdeaaNmRows
import Derived.Maps.AppendAt
import Derived.Laws.MakeOwn
import Derived.Test.YtjhlfdlamjpdeaaLxBase
import Derived.ProofKit
import Derived.OpenShut
import Derived.ShutString
import Derived.ChangeOld
import Derived.Below
import Derived.JoinedCond
import Derived.SizedLaws
import Derived.SliceStrings
import Derived.ChangeMaps5
import Derived.Test.YtjhlfdlamjpdeaaNmEq
namespace Go.Proofs.Ytjhlfdlamjpdeaa.Nm
open Go.RowKit Go.Maps Go.Proofs.Ytjhlfdlamjpdeaa.Sp Go.Proofs.Ytjhlfdlamjpdeaa.Lx Go.Proofs.Ytjhlfdlamjpdeaa.Gr

/-- append to an owned row, of a slice that may be nil -/
theorem run_app {P : Program} (w : World) (base : Nat) (t ty e : TypeId) (i : TypeInfo) (z : Value) (size bytes : Nat) (ht : P.underlying t = some (.slice e)) (hi : P.info? e = some i) (hz : i.zero = some z)
    (hsize : i.size = size) (hby : i.bytes = bytes) (hzs : z.cells.size = size) (hsz : 0 < size)
    (v : Value) (n : Nat) (xs : List Value) (hown : w.ownsRow base e size v n xs)
    (ao : Option Addr) (m c : Nat) (news : List Value) (hl : news.length = m * size) (hnone : ao = none → m = 0 ∧ c = 0) (hnews : ∀ ad, ao = some ad → ∀ j u, news[j]? = some u → w.cell? (ad.add j) = some u) (h1 : ∀ u ∈ news, u.oneCell' = true)
    (h63 : n + m ≤ maxLen) (hbytes : (n + m) * bytes ≤ 140737488355328) (hbase : base ≤ w.heap.size) :
    ∃ v' w', (Builtin.append_ #[t, t] ty #[v, .slice ao m c]).run P w = .ok v' w' ∧ w'.ownsRow base e size v' (n + m) (xs ++ news) ∧ w.grownBy w' v.ownBlock ∧ (v'.ownBlock = v.ownBlock ∨ v'.ownBlock = some w.heap.size) := by
  cases ao with
  | some ad =>
    obtain ⟨v', w', hr, h2, h3, _, h5⟩ := run_append_own_at (P := P) w base t ty e i z size bytes ht hi hz hsize hby hzs hsz v n xs hown ad m c news hl (hnews ad rfl) h1 h63 hbytes hbase
    exact ⟨v', w', hr, h2, h3, h5⟩
  | none =>
    obtain ⟨rfl, rfl⟩ := hnone rfl
    have he : news = [] := List.eq_nil_of_length_eq_zero (by simpa using hl)
    subst he
    exact ⟨v, w, run_append_owned_none (P := P) w base t ty e i size ht hi v n xs hown, by simpa using hown, World.grownBy.refl _ _, Or.inl rfl⟩
theorem wpl_app {P : Program} (w : World) {ops : Array Oper} {rest : List Oper} {o : Oper} {a : Act} {Q : Exit → Act → World → Prop} (hgd : o.guard = none) (s x : Operand) (t : TypeId)
    (ho : o.op = .call { callee := .builtin .append, args := #[s, x], argTypes := #[t, t] })
    (base : Nat) (e : TypeId) (i : TypeInfo) (z : Value) (size bytes : Nat) (ht : P.underlying t = some (.slice e)) (hi : P.info? e = some i) (hz : i.zero = some z)
    (hsize : i.size = size) (hby : i.bytes = bytes) (hzs : z.cells.size = size) (hsz : 0 < size)
    (v : Value) (n : Nat) (xs : List Value) (hs : a.eval s = v) (hown : w.ownsRow base e size v n xs)
    (ao : Option Addr) (m c : Nat) (news : List Value) (hx : a.eval x = .slice ao m c) (hl : news.length = m * size) (hnone : ao = none → m = 0 ∧ c = 0) (hnews : ∀ ad, ao = some ad → ∀ j u, news[j]? = some u → w.cell? (ad.add j) = some u) (h1 : ∀ u ∈ news, u.oneCell' = true)
    (h63 : n + m ≤ maxLen) (hbytes : (n + m) * bytes ≤ 140737488355328) (hbase : base ≤ w.heap.size)
    (h : ∀ v' w', w'.ownsRow base e size v' (n + m) (xs ++ news) → w.grownBy w' v.ownBlock → (v'.ownBlock = v.ownBlock ∨ v'.ownBlock = some w.heap.size) → wpList P ops Q rest (a.put o.dst v') w') : wpList P ops Q (o :: rest) a w := by
  refine wpList_plain hgd fun K hK => ?_
  obtain ⟨v', w', hr, h2, h3, h4⟩ := run_app (P := P) w base t o.type e i z size bytes ht hi hz hsize hby hzs hsz v n xs hown ao m c news hl hnone hnews h1 h63 hbytes hbase
  unfold Oper.wp execOp
  simp only [ho, resolve, invoke, builtin, Sem.run_bind, Sem.run_pure, Result.andThen_ok, List.map_toArray, List.map_cons, List.map_nil, hs, hx, hr]
  exact hK _ _ (h v' w' h2 h3 h4)
/-- the same, as one step of a region that draws -/
theorem step_app {P : Program} (w : World) {ops : Array Oper} {o : Oper} {a : Act} {K : Act → World → Prop} {Q : Exit → Act → World → Prop} {E : Prop} (hgd : o.guard = none) (s x : Operand) (t : TypeId)
    (ho : o.op = .call { callee := .builtin .append, args := #[s, x], argTypes := #[t, t] })
    (base : Nat) (e : TypeId) (i : TypeInfo) (z : Value) (size bytes : Nat) (ht : P.underlying t = some (.slice e)) (hi : P.info? e = some i) (hz : i.zero = some z)
    (hsize : i.size = size) (hby : i.bytes = bytes) (hzs : z.cells.size = size) (hsz : 0 < size)
    (v : Value) (n : Nat) (xs : List Value) (hs : a.eval s = v) (hown : w.ownsRow base e size v n xs)
    (ao : Option Addr) (m c : Nat) (news : List Value) (hx : a.eval x = .slice ao m c) (hl : news.length = m * size) (hnone : ao = none → m = 0 ∧ c = 0) (hnews : ∀ ad, ao = some ad → ∀ j u, news[j]? = some u → w.cell? (ad.add j) = some u) (h1 : ∀ u ∈ news, u.oneCell' = true)
    (h63 : n + m ≤ maxLen) (hbytes : (n + m) * bytes ≤ 140737488355328) (hbase : base ≤ w.heap.size)
    (h : ∀ v' w', w'.ownsRow base e size v' (n + m) (xs ++ news) → w.grownBy w' v.ownBlock → (v'.ownBlock = v.ownBlock ∨ v'.ownBlock = some w.heap.size) → K (a.put o.dst v') w') : if Region.wanted o (yielded ops a.tmps) = true then Oper.wp P o a w K Q else E := by
  have hw : Region.wanted o (yielded ops a.tmps) = true := by simp [Region.wanted, hgd]
  rw [if_pos hw]
  obtain ⟨v', w', hr, h2, h3, h4⟩ := run_app (P := P) w base t o.type e i z size bytes ht hi hz hsize hby hzs hsz v n xs hown ao m c news hl hnone hnews h1 h63 hbytes hbase
  unfold Oper.wp execOp
  simp only [ho, resolve, invoke, builtin, Sem.run_bind, Sem.run_pure, Result.andThen_ok, List.map_toArray, List.map_cons, List.map_nil, hs, hx, hr]
  exact h v' w' h2 h3 h4
/-- make of an empty row with room for three more -/
theorem mk_capJ {t e : TypeId} {i : TypeInfo} {z : Value} {size bytes : Nat} (ht : Try.prog.underlying t = some (.slice e)) (hi : Try.prog.info? e = some i) (hz : i.zero = some z) (hsize : i.size = size) (hby : i.bytes = bytes) (n : Nat) (hn : bytes * (n + 3) ≤ 140737488355352) (hn2 : n ≤ 140737488355328) :
    ∃ M : Array Value, (∀ u : World, (Instr.makeSlice t (.int .i64 0) (.int .i64 ((n : Int) + 3))).run Try.prog u = .ok (.slice (some ⟨u.heap.size, 0, none⟩) 0 (n + 3)) (u.alloc (.cells M e))) ∧ M.size = (n + 3) * size := by
  refine ⟨_, fun u => ?_, size_madeCells z.cells ((n + 3) * size)⟩
  have h := run_make (P := Try.prog) u t e i z ht hi hz .i64 .i64 0 ((n : Int) + 3) (Int.le_refl _) (by omega) (by
    rw [hby]
    have : (bytes : Int) * ((n : Int) + 3) = ((bytes * (n + 3) : Nat) : Int) := by simp
    rw [this]
    omega) (by omega)
  have e1 : ((n : Int) + 3).toNat = n + 3 := by omega
  rw [e1, hsize] at h
  exact h
theorem own_madeJ {u : World} {M : Array Value} {e : TypeId} {n size base : Nat} (hM : M.size = (n + 3) * size) (hb : base ≤ u.heap.size) (hn : n ≤ 140737488355328) : (u.alloc (.cells M e)).ownsRow base e size (.slice (some ⟨u.heap.size, 0, none⟩) 0 (n + 3)) 0 [] :=
  own_mk (cur := M.toList) (by simp) hb (by rw [Array.toArray_toList]; exact heap_alloc_new u _) (Nat.zero_le _) (by unfold maxLen; omega) (by simpa using hM) (by simp)
theorem vals_src {w : World} {ao : Option Addr} {xs : List Value} (h : IsVals w ao xs) : ∀ ad, ao = some ad → ∀ j u, xs[j]? = some u → w.cell? (ad.add j) = some u := fun ad e j u hu => by
  obtain ⟨g, o, e2, _, hc⟩ := h j u hu
  rw [e] at e2
  cases e2
  rw [Lib.addr_add]
  exact hc
theorem vals_nil {w : World} {ao : Option Addr} {xs : List Value} {m sz : Nat} (h : IsVals w ao xs) (hl : xs.length = m * sz) (hs : 0 < sz) : ao = none → m = 0 := fun e => by
  cases m with
  | zero => rfl
  | succ m =>
    have h0 : 0 < xs.length := by rw [hl, Nat.succ_mul]; omega
    obtain ⟨g, o, e2, _⟩ := h 0 _ (List.getElem?_eq_getElem h0)
    rw [e] at e2
    cases e2
theorem iv_one (l : List Int) : ∀ u ∈ iv l, u.oneCell' = true := fun u hu => by
  obtain ⟨n, _, rfl⟩ := List.mem_map.1 hu
  rfl
theorem own_some {w : World} {base : Nat} {e : TypeId} {size : Nat} {v : Value} {n : Nat} {xs : List Value} (h : w.ownsRow base e size v n xs) (hn : 0 < n) : ∃ g cap, v = .slice (some ⟨g, 0, none⟩) n cap ∧ n ≤ cap ∧ cap ≤ maxLen := by
  obtain ⟨g, cap, cur, e1, _, _, h4, h5, _⟩ := own_block h hn
  exact ⟨g, cap, e1, h4, h5⟩
theorem mk_cap {t e : TypeId} {i : TypeInfo} {z : Value} {size bytes : Nat} (ht : Try.prog.underlying t = some (.slice e)) (hi : Try.prog.info? e = some i) (hz : i.zero = some z) (hsize : i.size = size) (hby : i.bytes = bytes) (hb : bytes ≤ 1000) (n : Nat) (hn : n ≤ 1000) :
    ∃ M : Array Value, (∀ u : World, (Instr.makeSlice t (.int .i64 0) (.int .i64 ((n : Int) + 3))).run Try.prog u = .ok (.slice (some ⟨u.heap.size, 0, none⟩) 0 (n + 3)) (u.alloc (.cells M e))) ∧ M.size = (n + 3) * size := mk_capJ ht hi hz hsize hby n (Nat.le_trans (Nat.mul_le_mul hb (show n + 3 ≤ 1003 by omega)) (by decide)) (by omega)
theorem own_made {u : World} {M : Array Value} {e : TypeId} {n size base : Nat} (hM : M.size = (n + 3) * size) (hb : base ≤ u.heap.size) (hn : n ≤ 1000) : (u.alloc (.cells M e)).ownsRow base e size (.slice (some ⟨u.heap.size, 0, none⟩) 0 (n + 3)) 0 [] := own_madeJ hM hb (by omega)
end Go.Proofs.Ytjhlfdlamjpdeaa.Nm

namespace Go.Proofs.Ytjhlfdlamjpdeaa.Nm
open Go.RowKit Go.Maps Go.Proofs.Ytjhlfdlamjpdeaa.Sp Go.Proofs.Ytjhlfdlamjpdeaa.Lx Go.Proofs.Ytjhlfdlamjpdeaa.Gr

set_option maxHeartbeats 6400000 in
set_option maxRecDepth 1759218604390400 in
/-- numbers lent -/
theorem lendJ_any {w : World} {ao : Option Addr} {l : List Int} {c : Nat} (h : IsVals w ao (iv l)) (hn : l.length ≤ 17592186043904) (hnil : ao = none → c = 0) :
    Calls Try.prog 8 #[.slice ao l.length c] w fun e w' => ∃ g cap, e = .returned (.slice (some ⟨g, 0, none⟩) l.length cap) ∧ w'.ownsRow w.heap.size 3 1 (.slice (some ⟨g, 0, none⟩) (l.length + 1) cap) (l.length + 1) (iv l ++ [.int .i64 (-77)]) ∧ Below w.heap.size w w' := by
  obtain ⟨i0, hi, hz0, hz1, hz2⟩ := info_parts infoI
  obtain ⟨M, hmk, hM⟩ := mk_capJ Try.underlying25 hi hz0 hz1 hz2 l.length (by omega) (by omega)
  have hb1 : Below w.heap.size w (w.alloc (.cells M 3)) := (Below.refl _ w).alloc (Nat.le_refl _) _
  have HO : Hid ((w.alloc (.cells M 3)).ownsRow w.heap.size 3 1 (.slice (some ⟨w.heap.size, 0, none⟩) 0 (l.length + 3)) 0 []) := own_madeJ hM (Nat.le_refl _) (by omega)
  have HB1 := show Hid _ from hb1
  have HV := show Hid _ from h.below hb1
  have HN : Hid (l.length ≤ 17592186043904 ∧ (ao = none → l.length = 0 ∧ c = 0) ∧ (iv l).length = l.length * 1) := ⟨hn, fun e => ⟨vals_nil (m := l.length) (sz := 1) h (by simp) (by decide) e, hnil e⟩, by simp⟩
  have hln : (l.length : Int) ≤ 17592186043904 := by omega
  clear h hn hnil hb1 hM
  go_enter Try.func8, Try.ntmps8
  go_wp2_with (at_builtin; refine wpl_app _ rfl _ _ 25 rfl w.heap.size 3 i0 (.int .i64 0) 1 8 Try.underlying25 hi hz0 hz1 hz2 rfl (by decide) (.slice (some ⟨w.heap.size, 0, none⟩) 0 (l.length + 3)) 0 [] rfl HO.out ao l.length c (iv l) rfl HN.out.2.2 HN.out.2.1 (vals_src HV.out) (iv_one l) ?c3 ?c4 HB1.out.size ?_)
  case c3 => have := HN.out.1; unfold maxLen; omega
  case c4 => have := HN.out.1; omega
  intro v1 w2 ho1 hg1 _
  have hb2 : Below w.heap.size w w2 := HB1.out.grown hg1 HB1.out.size (fun q e => by cases e; exact Nat.le_refl _)
  have hb3 : Below w2.heap.size w2 (w2.alloc (.cells #[.int .i64 (-77)] 3)) := (Below.refl _ w2).alloc (Nat.le_refl _) _
  have HO2 : Hid ((w2.alloc (.cells #[.int .i64 (-77)] 3)).ownsRow w.heap.size 3 1 v1 l.length (iv l) ∧ Below w.heap.size w (w2.alloc (.cells #[.int .i64 (-77)] 3))) := ⟨own_below ho1 hb3, hb2.trans (hb3.mono hb2.size)⟩
  clear ho1 hg1 hb2 hb3 HO HV
  go_wp2_with (at_builtin; refine wpl_app _ rfl _ _ 25 rfl w.heap.size 3 i0 (.int .i64 0) 1 8 Try.underlying25 hi hz0 hz1 hz2 rfl (by decide) v1 l.length (iv l) rfl HO2.out.1 (some ⟨w2.heap.size, 0, none⟩) 1 1 [.int .i64 (-77)] rfl rfl (fun e => by cases e) (fun ad e => by cases e; exact cell_one w2 _ _) (by intro u hu; simp only [List.mem_cons, List.not_mem_nil, or_false] at hu; subst hu; rfl) ?c3 ?c4 HO2.out.2.size ?_)
  case c3 => have := HN.out.1; unfold maxLen; omega
  case c4 => have := HN.out.1; omega
  intro v2 w4 ho2 hg2 _
  have H4 : Hid (w4.ownsRow w.heap.size 3 1 v2 (l.length + 1) (iv l ++ [.int .i64 (-77)]) ∧ Below w.heap.size w w4) := ⟨ho2, HO2.out.2.grown hg2 HO2.out.2.size (fun q e => (World.ownsRow.lt HO2.out.1 q e).1)⟩
  obtain ⟨g, cap, rfl, hcap, hcm⟩ := own_some ho2 (Nat.succ_pos _)
  have hc1 : (l.length : Int) ≤ (cap : Int) := by omega
  have hc2 : (l.length : Int) + 1 ≤ (cap : Int) := by omega
  have hc3 : l.length ≤ cap := by omega
  have hc4 : (cap : Int) ≤ 9223372036854775807 := by unfold maxLen at hcm; omega
  clear ho2 hg2 HO2 hcm
  go_wp2_with fail
  go_ret
  exact ⟨g, cap, rfl, H4.out.1, H4.out.2⟩
theorem lendI_any {w : World} {ao : Option Addr} {l : List Int} {c : Nat} (h : IsVals w ao (iv l)) (hn : l.length ≤ 1000) (hnil : ao = none → c = 0) :
    Calls Try.prog 8 #[.slice ao l.length c] w fun e w' => ∃ g cap, e = .returned (.slice (some ⟨g, 0, none⟩) l.length cap) ∧ w'.ownsRow w.heap.size 3 1 (.slice (some ⟨g, 0, none⟩) (l.length + 1) cap) (l.length + 1) (iv l ++ [.int .i64 (-77)]) ∧ Below w.heap.size w w' := lendJ_any h (by omega) hnil
end Go.Proofs.Ytjhlfdlamjpdeaa.Nm

namespace Go.Proofs.Ytjhlfdlamjpdeaa.Nm
open Go.RowKit Go.Maps Go.Proofs.Ytjhlfdlamjpdeaa.Sp Go.Proofs.Ytjhlfdlamjpdeaa.Lx Go.Proofs.Ytjhlfdlamjpdeaa.Gr

set_option maxHeartbeats 6400000 in
set_option maxRecDepth 100000 in
/-- the reference: two lists of numbers -/
theorem rSameIntsJ {w : World} {ao bo : Option Addr} {l m : List Int} {ca cb : Nat} (ha : IsVals w ao (iv l)) (hb : IsVals w bo (iv m)) (hn : l.length ≤ 17592186043904) :
    Calls Try.prog 19 #[.slice ao l.length ca, .slice bo m.length cb] w fun e w' => (∃ b, e = .returned (.bool b) ∧ (b = true ↔ l = m)) ∧ Below w.heap.size w w' := by
  by_cases hlen : l.length = m.length
  · have HA := show Hid _ from ha
    have HB := show Hid _ from hb
    have HLn := show Hid _ from hlen
    have hn2 : (l.length : Int) ≤ 17592186043904 := by omega
    have hne : ((l.length : Int) != (l.length : Int)) = false := by simp
    rw [← hlen]
    clear ha hb hlen
    go_enter Try.func19, Try.ntmps19
    go_wp2_with fail
    go_loopg [5] l.length (fun gq x wr => ∃ k : Nat, k + gq = l.length ∧ x = .int .i64 (k : Int) ∧ l.take k = m.take k ∧ Below w.heap.size w wr)
    case atStart => exact ⟨0, by omega, rfl, rfl, Below.refl _ _⟩
    case round =>
      obtain ⟨k, hkg, rfl, htk, hbw⟩ := hrel
      have HG : Hid (k + gk = l.length ∧ Below w.heap.size w wr ∧ l.take k = m.take k) := ⟨hkg, hbw, htk⟩
      by_cases hlt : k < l.length
      · have hk' : (k : Int) < (l.length : Int) := by omega
        have hk2 : (k : Int) ≤ 17592186043904 := by omega
        have hlm : k < m.length := by have := HLn.out; omega
        have hx : (iv l)[k]? = some (.int .i64 l[k]) := by rw [List.getElem?_map, List.getElem?_eq_getElem hlt]; rfl
        have hy : (iv m)[k]? = some (.int .i64 m[k]) := by rw [List.getElem?_map, List.getElem?_eq_getElem hlm]; rfl
        obtain ⟨g, o, rfl, _, d0⟩ := (IsVals.below HA.out hbw) k _ hx
        obtain ⟨g', o', rfl, _, e0⟩ := (IsVals.below HB.out hbw) k _ hy
        have HSame : Hid (l[k] = m[k] → l.take (k + 1) = m.take (k + 1)) := fun e => by rw [List.take_add_one, List.take_add_one, HG.out.2.2, List.getElem?_eq_getElem hlt, List.getElem?_eq_getElem hlm, e]
        have HDiff : Hid (l[k] ≠ m[k] → l ≠ m) := fun e h => e (by subst h; rfl)
        clear hx hy
        generalize l[k] = x at *
        generalize m[k] = y at *
        have HLt : Hid (k < l.length) := hlt
        clear hkg hlt hbw htk hlm
        by_cases hxy : x = y
        · subst hxy
          have HS : Hid (l.take (k + 1) = m.take (k + 1)) := HSame.out rfl
          clear HSame HDiff
          have hq : (x != x) = false := by simp
          go_wp2_with fail
          go_quiet (fail)
          go_wp2_with fail
          go_roundg (l.length - (k + 1))
          case measure => have := HG.out.1; have := HLt.out; omega
          case rel => exact ⟨k + 1, by have := HLt.out; omega, by go_num, HS.out, HG.out.2.1.trans ((below_drewN _ _).mono HG.out.2.1.size)⟩
        · have HD : Hid (l ≠ m) := HDiff.out hxy
          clear HSame HDiff
          have hq : (x != y) = true := by simp [hxy]
          go_wp2_with fail
          go_quiet (fail)
          go_wp2
          go_ret
          exact ⟨⟨false, rfl, by simp [HD.out]⟩, HG.out.2.1.trans ((below_drewN _ _).mono HG.out.2.1.size)⟩
      · have hk' : decide (k < l.length) = false := decide_eq_false hlt
        have HE : Hid (l = m) := by
          have hke : k = l.length := by omega
          rw [hke, List.take_length, HLn.out, List.take_length] at htk
          exact htk
        clear hkg hlt hbw htk
        go_wp2
        go_ret
        exact ⟨⟨true, rfl, by simp [HE.out]⟩, HG.out.2.1⟩
  · have hne : ((l.length : Int) != (m.length : Int)) = true := by simp; omega
    have HD : Hid (l ≠ m) := fun e => hlen (by rw [e])
    clear ha hb hlen hn
    go_enter Try.func19, Try.ntmps19
    go_wp2
    go_ret
    exact ⟨⟨false, rfl, by simp [HD.out]⟩, Below.refl _ _⟩
theorem rSameInts {w : World} {ao bo : Option Addr} {l m : List Int} {ca cb : Nat} (ha : IsVals w ao (iv l)) (hb : IsVals w bo (iv m)) (hn : l.length ≤ 2932031007317) :
    Calls Try.prog 19 #[.slice ao l.length ca, .slice bo m.length cb] w fun e w' => (∃ b, e = .returned (.bool b) ∧ (b = true ↔ l = m)) ∧ Below w.heap.size w w' := rSameIntsJ ha hb (by omega)
end Go.Proofs.Ytjhlfdlamjpdeaa.Nm

namespace Go.Proofs.Ytjhlfdlamjpdeaa.Nm
open Go.RowKit Go.Maps Go.Proofs.Ytjhlfdlamjpdeaa.Sp Go.Proofs.Ytjhlfdlamjpdeaa.Lx Go.Proofs.Ytjhlfdlamjpdeaa.Gr

theorem vals_front {w : World} {ao : Option Addr} {xs ys : List Value} (h : IsVals w ao (xs ++ ys)) : IsVals w ao xs := fun k x hx => h k x (by rw [List.getElem?_append_left (List.getElem?_eq_some_iff.1 hx).1]; exact hx)
/-- the block of an owned row, as it is -/
theorem own_cells {w : World} {base g n cap sz : Nat} {T : TypeId} {xs : List Value} (h : w.ownsRow base T sz (.slice (some ⟨g, 0, none⟩) n cap) n xs) : ∃ cur : Array Value, w.heap[g]? = some (.cells cur T (0, 0)) ∧ cur.size = cap * sz ∧ n ≤ cap ∧ cap ≤ maxLen := by
  rcases h.2 with ⟨e, _⟩ | ⟨g', c', cur, e, _, h3, h4, h5, h6, _⟩
  · cases e
  · cases e
    exact ⟨cur, h3, h6, h4, h5⟩
theorem cell_in {w : World} {g j : Nat} {T : TypeId} {cur : Array Value} (h : w.heap[g]? = some (.cells cur T (0, 0))) (hj : j < cur.size) : w.cell? ⟨g, j, none⟩ = some cur[j] := by
  rw [World.cell?, h]
  simp [hj]
theorem set_in {w : World} {g j : Nat} {T : TypeId} {cur : Array Value} (h : w.heap[g]? = some (.cells cur T (0, 0))) (v : Value) : (w.setCell ⟨g, j, none⟩ v).heap[g]? = some (.cells (cur.setIfInBounds j v) T (0, 0)) := heap_setCell_same w g j cur T v h
theorem fr_set {w wr : World} {g : Nat} (h : Fr [g] w wr) (j : Nat) (v : Value) : Fr [g] w (wr.setCell ⟨g, j, none⟩ v) := h.trans (Fr.set (F := [g]) wr j v (by simp)) (fun x hx => Or.inl hx)
set_option maxHeartbeats 6400000 in
set_option maxRecDepth 1759218604390400 in
/-- numbers that were lent are as they were; they are written over -/
theorem keptJ_any {w : World} {base g cap c : Nat} {l : List Int} {lo : Option Addr} (h1 : w.ownsRow base 3 1 (.slice (some ⟨g, 0, none⟩) (l.length + 1) cap) (l.length + 1) (iv l ++ [.int .i64 (-77)])) (h2 : IsVals w lo (iv l)) (hn : l.length ≤ 17592186043904) :
    Calls Try.prog 11 #[.slice (some ⟨g, 0, none⟩) l.length cap, .slice lo l.length c] w fun e w' => e = .returned (.bool true) ∧ Fr [g] w w' := by
  have hv := vals_of h1
  have HS := show Hid _ from rSameIntsJ (ca := cap) (cb := c) (vals_front hv) h2 (by omega)
  obtain ⟨g', o', e', _, hmk⟩ := hv l.length (.int .i64 (-77)) (by rw [List.getElem?_append_right (by simp)]; simp)
  cases e'
  obtain ⟨cur, hcur, hsz, hcap, hcm⟩ := own_cells h1
  have HC : Hid (w.heap[g]? = some (.cells cur 3 (0, 0)) ∧ cur.size = cap ∧ l.length + 1 ≤ cap) := ⟨hcur, by omega, hcap⟩
  have HM : Hid (∀ W, Below w.heap.size w W → W.cell? ⟨g, l.length, none⟩ = some (.int .i64 (-77))) := fun W hW => by
    have := (hW.cell (p := ⟨g, 0 + l.length, none⟩) (blk_lt hcur)).trans hmk
    rw [Nat.zero_add] at this
    exact this
  have hln : (l.length : Int) ≤ 17592186043904 := by omega
  have hc1 : (l.length : Int) + 1 ≤ (cap : Int) := by omega
  have hc2 : (l.length : Int) ≤ (cap : Int) := by omega
  have hc3 : l.length + 1 ≤ cap := hcap
  have hc4 : (cap : Int) ≤ 9223372036854775807 := by unfold maxLen at hcm; omega
  clear h1 h2 hn hv hmk hcur hsz hcap hcm
  go_enter Try.func11, Try.ntmps11
  go_wp2_with fail
  refine Calls.mono HS.out ?_
  rintro e w1 ⟨⟨b, rfl, hbt⟩, hb1⟩
  obtain rfl : b = true := by simpa using hbt
  have hm1 := HM.out w1 hb1
  have H1 : Hid (w1.heap[g]? = some (.cells cur 3 (0, 0)) ∧ Fr [g] w w1) := ⟨(hb1.block _ (blk_lt HC.out.1)).trans HC.out.1, Fr.of_below hb1⟩
  clear hbt hb1 HM HS
  go_wp2_with fail
  clear hm1
  go_loopg [6] l.length (fun gq x wr => ∃ (k : Nat) (cu : Array Value), k + gq = l.length ∧ x = .int .i64 (k : Int) ∧ wr.heap[g]? = some (.cells cu 3 (0, 0)) ∧ cu.size = cap ∧ Fr [g] w wr)
  case atStart => exact ⟨0, cur, by omega, rfl, H1.out.1, HC.out.2.1, H1.out.2⟩
  case round =>
    obtain ⟨k, cu, hkg, rfl, hcu, hsz, hFr⟩ := hrel
    have HG : Hid (k + gk = l.length ∧ wr.heap[g]? = some (.cells cu 3 (0, 0)) ∧ cu.size = cap ∧ Fr [g] w wr) := ⟨hkg, hcu, hsz, hFr⟩
    by_cases hlt : k < l.length
    · have hk' : (k : Int) < (l.length : Int) := by omega
      have hce := cell_in hcu (j := k) (by omega)
      have hfz : wr.frozen? ⟨g, k, none⟩ = false := by simp [World.frozen?, hcu]
      have HS2 : Hid ((wr.setCell ⟨g, k, none⟩ (.int .i64 (-78))).heap[g]? = some (.cells (cu.setIfInBounds k (.int .i64 (-78))) 3 (0, 0)) ∧ Fr [g] w (wr.setCell ⟨g, k, none⟩ (.int .i64 (-78)))) := ⟨set_in hcu _, fr_set hFr _ _⟩
      have HLt : Hid (k < l.length) := hlt
      generalize cu[k]'(by omega) = old at hce
      clear hkg hcu hsz hFr hlt
      go_wp2_with fail
      go_roundg (l.length - (k + 1))
      case measure => have := HG.out.1; have := HLt.out; omega
      case rel => exact ⟨k + 1, _, by have := HLt.out; omega, by go_num, HS2.out.1, by simpa using HG.out.2.2.1, HS2.out.2⟩
    · have hk' : decide (k < l.length) = false := decide_eq_false hlt
      have hk2 : decide ((k : Int) < (l.length : Int)) = false := decide_eq_false (by omega)
      clear hkg hcu hsz hFr hlt
      go_wp2_with fail
      go_ret
      exact ⟨rfl, HG.out.2.2.2⟩
theorem keptI_any {w : World} {base g cap c : Nat} {l : List Int} {lo : Option Addr} (h1 : w.ownsRow base 3 1 (.slice (some ⟨g, 0, none⟩) (l.length + 1) cap) (l.length + 1) (iv l ++ [.int .i64 (-77)])) (h2 : IsVals w lo (iv l)) (hn : l.length ≤ 1000) :
    Calls Try.prog 11 #[.slice (some ⟨g, 0, none⟩) l.length cap, .slice lo l.length c] w fun e w' => e = .returned (.bool true) ∧ Fr [g] w w' := keptJ_any h1 h2 (by omega)
end Go.Proofs.Ytjhlfdlamjpdeaa.Nm

namespace Go.Proofs.Ytjhlfdlamjpdeaa.Lx
open Go.ChangeShapes Go.WideShapes Go.ChangeAt Go.RowKit Go.Proofs.Ytjhlfdlamjpdeaa.Sp

theorem own : ownKnob Try.prog.godebug = none := by kernel_rfl
theorem laidOut : laidOutB Try.prog = true := by kernel_rfl
theorem bytes5 : Try.prog.bytesOf 5 = 1 := by kernel_rfl

theorem open_bytes {H : Type} {enc : TypeId × Value → H} {W : World} {a : Option Addr} {len cap : Nat} {d : DataW H} {p : List MemPlace} (h : DataW.Trod enc Try.prog W 0 (fun _ => true) true 111 (.slice a len cap) d p) :
    ∃ s : ByteArray, s.size = len ∧ len ≤ cap ∧ IsBytes W a s ∧ (len = 0 ∨ ∃ el sp, d = .slice el sp ∧ el.length = len) := by
  obtain ⟨fuel, hf⟩ := h
  rcases open_ints Try.underlying111 Try.underlying5 (by kernel_rfl) hf with ⟨hcs, hx⟩ | ⟨x, l, c, zs, hcs, _, hl, hm, hz, hx, hcell, hwz⟩
  · simp [Value.cells] at hcs
    obtain ⟨rfl, rfl, rfl⟩ := hcs
    exact ⟨ByteArray.empty, rfl, Nat.le_refl _, fun i hi => absurd hi (Nat.not_lt_zero _), Or.inl rfl⟩
  · simp [Value.cells] at hcs
    obtain ⟨rfl, rfl, rfl⟩ := hcs
    simp at hz hx
    obtain ⟨rfl, rfl⟩ := hx
    have hsz : (strOfNums (zs.take len)).size = len := by rw [strOfNums_size]; simp; omega
    refine ⟨strOfNums (zs.take len), hsz, hl, fun i hi => ?_, Or.inr ⟨_, _, rfl, by simp [lits]; omega⟩⟩
    obtain ⟨b, off, spot⟩ := x
    have h0 := hcell 0 (by omega)
    have hspot : spot = none := by simpa [Addr.add] using World.cell?_spot h0
    subst hspot
    have hB : Lib.Bytes W b off (strOfNums (zs.take len)) := Lib.bytes_of_nums (n := len) (by simp; omega) (fun x hx => by
      have hx := bounds_u8 (hwz x (List.mem_of_mem_take hx))
      omega) (fun j hj => by
        have := hcell j (by omega)
        rw [Lib.addr_add] at this
        rw [this]
        simp [List.getD, List.getElem?_take_of_lt hj])
    have hc := hB i hi
    refine ⟨b, off, rfl, World.block_lt_of_cell? W _ hc, ?_⟩
    rw [hc, nb_get _ i hi]
theorem bytes_reach {H : Type} {ts : List TypeId} {ds : List (DataW H)} (hsz : (DataW.weightsEach Try.prog ts ds).all (· ≤ reachBytes) = true) {j len : Nat} {d : DataW H} (ht : ts[j]? = some 111) (hd : ds[j]? = some d) (h : len = 0 ∨ ∃ el sp, d = .slice el sp ∧ el.length = len) : len ≤ 140737488351232 := by
  rcases h with rfl | ⟨el, sp, rfl, rfl⟩
  · omega
  · have := sized_slice hsz ht hd Try.underlying111
    rw [bytes5] at this
    simp only [reachBytes] at this
    omega
end Go.Proofs.Ytjhlfdlamjpdeaa.Lx

namespace Go.Proofs.Ytjhlfdlamjpdeaa.Lx
open Go.RowKit Go.Proofs.Ytjhlfdlamjpdeaa.Sp

/-- a slice of strings; of numbers -/
def IsStrs (w : World) (ao : Option Addr) (ss : List ByteArray) : Prop := ∀ i x, ss[i]? = some x → ∃ g o, ao = some ⟨g, o, none⟩ ∧ g < w.heap.size ∧ w.cell? ⟨g, o + i, none⟩ = some (.string x)
theorem IsStrs.below {w w' : World} {ao : Option Addr} {ss : List ByteArray} (h : IsStrs w ao ss) (hb : Below w.heap.size w w') : IsStrs w' ao ss := by
  intro i x hx
  obtain ⟨g, o, e, hg, hc⟩ := h i x hx
  exact ⟨g, o, e, Nat.lt_of_lt_of_le hg hb.size, (hb.cell (p := ⟨g, o + i, none⟩) hg).trans hc⟩
def IsInts (w : World) (ao : Option Addr) (n : Nat) (z : Nat → Int) : Prop := ∀ i, i < n → ∃ g o, ao = some ⟨g, o, none⟩ ∧ g < w.heap.size ∧ w.cell? ⟨g, o + i, none⟩ = some (.int .i64 (z i))
theorem IsInts.below {w w' : World} {ao : Option Addr} {n : Nat} {z : Nat → Int} (h : IsInts w ao n z) (hb : Below w.heap.size w w') : IsInts w' ao n z := by
  intro i hi
  obtain ⟨g, o, e, hg, hc⟩ := h i hi
  exact ⟨g, o, e, Nat.lt_of_lt_of_le hg hb.size, (hb.cell (p := ⟨g, o + i, none⟩) hg).trans hc⟩
end Go.Proofs.Ytjhlfdlamjpdeaa.Lx

namespace Go.Proofs.Ytjhlfdlamjpdeaa.Lx
open Go.ChangeShapes Go.WideShapes Go.ChangeAt Go.RowKit Go.Proofs.Ytjhlfdlamjpdeaa.Sp

theorem bytes9 : Try.prog.bytesOf 9 = 16 := by kernel_rfl
theorem bytes3 : Try.prog.bytesOf 3 = 8 := by kernel_rfl

theorem weights_all {H : Type} {P : Program} {e : TypeId} {d : DataW H} {l : List (DataW H)} (h : d ∈ l) : ∀ n ∈ d.weights P e, n ∈ DataW.weightsAll P e l := by
  induction l with
  | nil => cases h
  | cons x r ih =>
    intro n hn
    simp only [DataW.weightsAll, List.mem_append]
    rcases List.mem_cons.1 h with rfl | h1
    · exact Or.inl hn
    · exact Or.inr (ih h1 n hn)

theorem open_texts {H : Type} {enc : TypeId × Value → H} {W : World} {a : Option Addr} {len cap : Nat} {d : DataW H} {p : List MemPlace} (h : DataW.Trod enc Try.prog W 0 (fun _ => true) true 38 (.slice a len cap) d p) :
    ∃ ss : List ByteArray, ss.length = len ∧ len ≤ cap ∧ IsStrs W a ss ∧ (ss = [] ∨ ∃ sp, d = .slice (strs ss) sp) := by
  obtain ⟨fuel, hf⟩ := h
  rcases open_strings Try.underlying38 Try.underlying9 (by kernel_rfl) hf with ⟨hcs, hx⟩ | ⟨x, l, c, zs, hcs, _, hl, hm, hz, hx, hcell, hwz⟩
  · simp [Value.cells] at hcs
    obtain ⟨rfl, rfl, rfl⟩ := hcs
    exact ⟨[], rfl, Nat.le_refl _, fun i x hx => by simp at hx, Or.inl rfl⟩
  · simp [Value.cells] at hcs
    obtain ⟨rfl, rfl, rfl⟩ := hcs
    simp at hz hx
    obtain ⟨rfl, rfl⟩ := hx
    refine ⟨zs.take len, by simp; omega, hl, fun i y hy => ?_, Or.inr ⟨_, rfl⟩⟩
    have hil : i < len := by
      have := (List.getElem?_eq_some_iff.1 hy).1
      simp at this; omega
    have hc := hcell i (by omega)
    obtain ⟨b, off, spot⟩ := x
    have h0 := hcell 0 (by omega)
    have hspot : spot = none := by simpa [Addr.add] using World.cell?_spot h0
    subst hspot
    rw [Lib.addr_add] at hc
    refine ⟨b, off, rfl, World.block_lt_of_cell? W _ hc, ?_⟩
    rw [hc]
    rw [List.getElem?_take_of_lt hil] at hy
    simp [List.getD, hy]
theorem texts_reach {H : Type} {ts : List TypeId} {ds : List (DataW H)} (hsz : (DataW.weightsEach Try.prog ts ds).all (· ≤ reachBytes) = true) {j : Nat} {ss : List ByteArray} {d : DataW H} (ht : ts[j]? = some 38) (hd : ds[j]? = some d) (h : ss = [] ∨ ∃ sp, d = .slice (strs ss) sp) :
    ss.length ≤ 140737488351232 ∧ ∀ x ∈ ss, x.size ≤ 140737488351232 := by
  rcases h with rfl | ⟨sp, rfl⟩
  · exact ⟨by simp, fun x hx => by cases hx⟩
  · refine ⟨?_, fun x hx => ?_⟩
    · have := sized_slice hsz ht hd Try.underlying38
      rw [bytes9] at this
      simp only [reachBytes, strs, List.length_map] at this
      omega
    · have h1 : (DataW.lit (.string x.data.toList) : DataW H) ∈ strs ss := by
        unfold strs
        exact List.mem_map.2 ⟨x, hx, rfl⟩
      have h2 := weights_all (P := Try.prog) (e := 9) h1 x.data.toList.length (by simp [DataW.weights])
      have h3 := List.all_eq_true.1 hsz _ (DataW.weights_mem_each ht hd x.data.toList.length (by
        simp only [DataW.weights, Try.underlying38]
        exact List.mem_cons_of_mem _ (List.mem_append_left _ h2)))
      have h4 := of_decide_eq_true h3
      simpa [reachBytes] using h4
theorem text_reach {H : Type} {ts : List TypeId} {ds : List (DataW H)} (hsz : (DataW.weightsEach Try.prog ts ds).all (· ≤ reachBytes) = true) {j : Nat} {s : ByteArray} (ht : ts[j]? = some 9) (hd : ds[j]? = some (.lit (.string s.data.toList))) : s.size ≤ 140737488351232 := by
  have := sized_string hsz ht hd
  simpa [reachBytes] using this

theorem open_nums {H : Type} {enc : TypeId × Value → H} {W : World} {a : Option Addr} {len cap : Nat} {d : DataW H} {p : List MemPlace} (h : DataW.Trod enc Try.prog W 0 (fun _ => true) true 25 (.slice a len cap) d p) :
    ∃ z : Nat → Int, IsInts W a len z ∧ (len = 0 ∨ ∃ el sp, d = .slice el sp ∧ el.length = len) := by
  obtain ⟨fuel, hf⟩ := h
  rcases open_ints Try.underlying25 Try.underlying3 (by kernel_rfl) hf with ⟨hcs, hx⟩ | ⟨x, l, c, zs, hcs, _, hl, hm, hz, hx, hcell, hwz⟩
  · simp [Value.cells] at hcs
    obtain ⟨rfl, rfl, rfl⟩ := hcs
    exact ⟨fun _ => 0, fun i hi => absurd hi (Nat.not_lt_zero _), Or.inl rfl⟩
  · simp [Value.cells] at hcs
    obtain ⟨rfl, rfl, rfl⟩ := hcs
    simp at hz hx
    obtain ⟨rfl, rfl⟩ := hx
    refine ⟨fun i => zs.getD i 0, fun i hi => ?_, Or.inr ⟨_, _, rfl, by simp [lits]; omega⟩⟩
    obtain ⟨b, off, spot⟩ := x
    have h0 := hcell 0 (by omega)
    have hspot : spot = none := by simpa [Addr.add] using World.cell?_spot h0
    subst hspot
    have hc := hcell i (by omega)
    rw [Lib.addr_add] at hc
    exact ⟨b, off, rfl, World.block_lt_of_cell? W _ hc, hc⟩
theorem nums_reach {H : Type} {ts : List TypeId} {ds : List (DataW H)} (hsz : (DataW.weightsEach Try.prog ts ds).all (· ≤ reachBytes) = true) {j len : Nat} {d : DataW H} (ht : ts[j]? = some 25) (hd : ds[j]? = some d) (h : len = 0 ∨ ∃ el sp, d = .slice el sp ∧ el.length = len) : len ≤ 140737488351232 := by
  rcases h with rfl | ⟨el, sp, rfl, rfl⟩
  · omega
  · have := sized_slice hsz ht hd Try.underlying25
    rw [bytes3] at this
    simp only [reachBytes] at this
    omega
end Go.Proofs.Ytjhlfdlamjpdeaa.Lx

namespace Go.Proofs.Ytjhlfdlamjpdeaa.Nm
open Go.ChangeShapes Go.WideShapes Go.ChangeAt Go.RowKit Go.Proofs.Ytjhlfdlamjpdeaa.Sp Go.Proofs.Ytjhlfdlamjpdeaa.Lx Go.Proofs.Ytjhlfdlamjpdeaa.Gr

section
variable {H : Type} {enc : TypeId × Value → H} {W : World}
theorem ints_valsJ {ao : Option Addr} {len : Nat} {z : Nat → Int} (h : IsInts W ao len z) : IsVals W ao (iv ((List.range len).map z)) := fun k x hx => by
  have hk : k < len := by
    have := (List.getElem?_eq_some_iff.1 hx).1
    simpa [iv] using this
  have e : x = .int .i64 (z k) := by
    rw [show (iv ((List.range len).map z))[k]? = some (.int .i64 (z k)) by simp [iv, hk]] at hx
    cases hx
    rfl
  subst e
  exact h k hk
theorem nil_capI {a : Option Addr} {len cap : Nat} {d : DataW H} {p : List MemPlace} (h : DataW.Trod enc Try.prog W 0 (fun _ => true) true 25 (.slice a len cap) d p) : a = none → cap = 0 := by
  obtain ⟨fuel, hf⟩ := h
  rcases open_ints Try.underlying25 Try.underlying3 (by kernel_rfl) hf with ⟨hcs, hx⟩ | ⟨x, l, c, zs, hcs, _⟩
  · simp [Value.cells] at hcs
    obtain ⟨rfl, rfl, rfl⟩ := hcs
    exact fun _ => rfl
  · simp [Value.cells] at hcs
    obtain ⟨rfl, rfl, rfl⟩ := hcs
    intro e
    cases e
theorem nums_reachJ {ts : List TypeId} {ds : List (DataW H)} (hsz : (DataW.weightsEach Try.prog ts ds).all (· ≤ reachBytes) = true) {j len : Nat} {d : DataW H} (ht : ts[j]? = some 25) (hd : ds[j]? = some d) (h : len = 0 ∨ ∃ el sp, d = .slice el sp ∧ el.length = len) : len ≤ 17592186043904 := by
  rcases h with rfl | ⟨el, sp, rfl, rfl⟩
  · omega
  · have := sized_slice hsz ht hd Try.underlying25
    rw [bytes3] at this
    simp only [reachBytes] at this
    omega
end
end Go.Proofs.Ytjhlfdlamjpdeaa.Nm
