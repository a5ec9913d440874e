import Derived.Test.YtenhjebiokegkaaNmRes0
import Derived.Test.YtenhjebiokegkaaNmRes2
namespace Go.Proofs.Ytenhjebiokegkaa.Nm
open Go.RowKit Go.Maps Go.Proofs.Ytenhjebiokegkaa.Sp Go.Proofs.Ytenhjebiokegkaa.Lx Go.Proofs.Ytenhjebiokegkaa.Gr

/-- cells that can be read -/
def IsVals (w : World) (ao : Option Addr) (xs : List Value) : Prop := ∀ (k : Nat) (x : Value), xs[k]? = some x → ∃ g o, ao = some ⟨g, o, none⟩ ∧ g < w.heap.size ∧ w.cell? ⟨g, o + k, none⟩ = some x
theorem IsVals.below {w w' : World} {ao : Option Addr} {xs : List Value} (h : IsVals w ao xs) (hb : Below w.heap.size w w') : IsVals w' ao xs := fun k x hx => by
  obtain ⟨g, o, e, hg, hc⟩ := h k x hx
  exact ⟨g, o, e, Nat.lt_of_lt_of_le hg hb.size, (hb.cell (p := ⟨g, o + k, none⟩) hg).trans hc⟩
theorem vals_of {w : World} {base n c sz m : Nat} {T : TypeId} {ao : Option Addr} {xs : List Value} (h : w.ownsRow base T sz (.slice ao n c) m xs) : IsVals w ao xs := by
  intro k x hx
  have hc := h
  rcases h.2 with ⟨_, hz⟩ | ⟨g, cap, cur, e, h3, h4, _⟩
  · have h1 := h.1
    rw [hz, Nat.zero_mul] at h1
    have := (List.getElem?_eq_some_iff.1 hx).1
    omega
  · cases e
    refine ⟨g, 0, rfl, blk_lt h4, ?_⟩
    have := hc.cells (g := g) rfl k x hx
    rw [Lib.addr_add] at this
    exact this
set_option maxHeartbeats 3200000 in
set_option maxRecDepth 100000 in
/-- two lists of the same rows -/
theorem eqRows {w : World} {ao bo : Option Addr} {l : List Rz} {ca cb : Nat} (ha : IsRz w ao l) (hb : IsRz w bo l) (hn : l.length ≤ 2932031007317) :
    Calls Try.prog 43 #[.slice ao l.length ca, .slice bo l.length cb] w fun e w' => e = .returned (.bool true) ∧ Below w.heap.size w w' := by
  have HA := show Hid _ from ha
  have HB := show Hid _ from hb
  have hn2 : (l.length : Int) ≤ 2932031007317 := by omega
  have hne : ((l.length : Int) != (l.length : Int)) = false := by simp
  clear ha hb
  go_enter Try.func43, Try.ntmps43
  go_wp2_with fail
  go_loopg [13] l.length (fun gq x wr => ∃ k : Nat, k + gq = l.length ∧ x = .int .i64 (k : Int) ∧ Below w.heap.size w wr)
  case atStart => exact ⟨0, by omega, rfl, Below.refl _ _⟩
  case round =>
    obtain ⟨k, hkg, rfl, hbw⟩ := hrel
    have HG : Hid (k + gk = l.length ∧ Below w.heap.size w wr) := ⟨hkg, hbw⟩
    by_cases hlt : k < l.length
    · have hk' : (k : Int) < (l.length : Int) := by omega
      have hk2 : (k : Int) ≤ 2932031007317 := by omega
      obtain ⟨g, o, rfl, hg, d0, d1, d2, d3, d4⟩ := (IsRz.below HA.out hbw) k _ (some_rat hlt)
      obtain ⟨g', o', rfl, hg', e0, e1, e2, e3, e4⟩ := (IsRz.below HB.out hbw) k _ (some_rat hlt)
      generalize rat l k = x at *
      obtain ⟨kd, nm, st, n, ks⟩ := x
      dsimp only at *
      clear hg hg'
      have HLt : Hid (k < l.length) := hlt
      clear hkg hlt hbw
      go_wp2_with fail
      go_quiet (fail)
      go_wp2_with fail
      go_roundg (l.length - (k + 1))
      case measure => have := HG.out.1; have := HLt.out; omega
      case rel => exact ⟨k + 1, by have := HLt.out; omega, by go_num, HG.out.2.trans ((below_drewN _ _).mono HG.out.2.size)⟩
    · have hk' : decide (k < l.length) = false := decide_eq_false hlt
      clear hkg hlt hbw
      go_wp2
      go_ret
      exact ⟨rfl, HG.out.2⟩
set_option maxHeartbeats 3200000 in
set_option maxRecDepth 100000 in
/-- two lists of the same texts -/
theorem eqStrs {w : World} {ao bo : Option Addr} {l : List ByteArray} {ca cb : Nat} (ha : IsVals w ao (l.map Value.string)) (hb : IsVals w bo (l.map Value.string)) (hn : l.length ≤ 2932031007317) :
    Calls Try.prog 45 #[.slice ao l.length ca, .slice bo l.length cb] w fun e w' => e = .returned (.bool true) ∧ Below w.heap.size w w' := by
  have HA := show Hid _ from ha
  have HB := show Hid _ from hb
  have hn2 : (l.length : Int) ≤ 2932031007317 := by omega
  have hne : ((l.length : Int) != (l.length : Int)) = false := by simp
  clear ha hb
  go_enter Try.func45, Try.ntmps45
  go_wp2_with fail
  go_loopg [13] l.length (fun gq x wr => ∃ k : Nat, k + gq = l.length ∧ x = .int .i64 (k : Int) ∧ Below w.heap.size w wr)
  case atStart => exact ⟨0, by omega, rfl, Below.refl _ _⟩
  case round =>
    obtain ⟨k, hkg, rfl, hbw⟩ := hrel
    have HG : Hid (k + gk = l.length ∧ Below w.heap.size w wr) := ⟨hkg, hbw⟩
    by_cases hlt : k < l.length
    · have hk' : (k : Int) < (l.length : Int) := by omega
      have hk2 : (k : Int) ≤ 2932031007317 := by omega
      have hx : (l.map Value.string)[k]? = some (.string l[k]) := by rw [List.getElem?_map, List.getElem?_eq_getElem hlt]; rfl
      obtain ⟨g, o, rfl, hg, d0⟩ := (IsVals.below HA.out hbw) k _ hx
      obtain ⟨g', o', rfl, hg', e0⟩ := (IsVals.below HB.out hbw) k _ hx
      clear hx
      generalize l[k] = x at *
      clear hg hg'
      have HLt : Hid (k < l.length) := hlt
      clear hkg hlt hbw
      go_wp2_with fail
      go_quiet (fail)
      go_wp2_with fail
      go_roundg (l.length - (k + 1))
      case measure => have := HG.out.1; have := HLt.out; omega
      case rel => exact ⟨k + 1, by have := HLt.out; omega, by go_num, HG.out.2.trans ((below_drewN _ _).mono HG.out.2.size)⟩
    · have hk' : decide (k < l.length) = false := decide_eq_false hlt
      clear hkg hlt hbw
      go_wp2
      go_ret
      exact ⟨rfl, HG.out.2⟩
set_option maxHeartbeats 3200000 in
set_option maxRecDepth 100000 in
/-- two lists of the same numbers -/
theorem eqInts {w : World} {ao bo : Option Addr} {l : List Int} {ca cb : Nat} (ha : IsVals w ao (iv l)) (hb : IsVals w bo (iv l)) (hn : l.length ≤ 2932031007317) :
    Calls Try.prog 46 #[.slice ao l.length ca, .slice bo l.length cb] w fun e w' => e = .returned (.bool true) ∧ Below w.heap.size w w' := by
  have HA := show Hid _ from ha
  have HB := show Hid _ from hb
  have hn2 : (l.length : Int) ≤ 2932031007317 := by omega
  have hne : ((l.length : Int) != (l.length : Int)) = false := by simp
  clear ha hb
  go_enter Try.func46, Try.ntmps46
  go_wp2_with fail
  go_loopg [13] l.length (fun gq x wr => ∃ k : Nat, k + gq = l.length ∧ x = .int .i64 (k : Int) ∧ Below w.heap.size w wr)
  case atStart => exact ⟨0, by omega, rfl, Below.refl _ _⟩
  case round =>
    obtain ⟨k, hkg, rfl, hbw⟩ := hrel
    have HG : Hid (k + gk = l.length ∧ Below w.heap.size w wr) := ⟨hkg, hbw⟩
    by_cases hlt : k < l.length
    · have hk' : (k : Int) < (l.length : Int) := by omega
      have hk2 : (k : Int) ≤ 2932031007317 := by omega
      have hx : (iv l)[k]? = some (.int .i64 l[k]) := by rw [List.getElem?_map, List.getElem?_eq_getElem hlt]; rfl
      obtain ⟨g, o, rfl, hg, d0⟩ := (IsVals.below HA.out hbw) k _ hx
      obtain ⟨g', o', rfl, hg', e0⟩ := (IsVals.below HB.out hbw) k _ hx
      clear hx
      generalize l[k] = x at *
      have hxx : (x != x) = false := by simp
      clear hg hg'
      have HLt : Hid (k < l.length) := hlt
      clear hkg hlt hbw
      go_wp2_with fail
      go_quiet (fail)
      go_wp2_with fail
      go_roundg (l.length - (k + 1))
      case measure => have := HG.out.1; have := HLt.out; omega
      case rel => exact ⟨k + 1, by have := HLt.out; omega, by go_num, HG.out.2.trans ((below_drewN _ _).mono HG.out.2.size)⟩
    · have hk' : decide (k < l.length) = false := decide_eq_false hlt
      clear hkg hlt hbw
      go_wp2
      go_ret
      exact ⟨rfl, HG.out.2⟩
theorem qF_at (l : List (ByteArray × Bool)) (k : Nat) (hk : k < l.length) : (qF l)[k * 2]? = some (.string l[k].1) ∧ (qF l)[k * 2 + 1]? = some (.bool l[k].2) := by
  induction l generalizing k with
  | nil => simp at hk
  | cons x l ih =>
    cases k with
    | zero => exact ⟨rfl, rfl⟩
    | succ k =>
      have := ih k (by simpa using hk)
      have e : qF (x :: l) = .string x.1 :: .bool x.2 :: qF l := rfl
      rw [e, show (k + 1) * 2 = k * 2 + 1 + 1 by omega]
      exact ⟨by simpa using this.1, by simpa using this.2⟩
set_option maxHeartbeats 3200000 in
set_option maxRecDepth 100000 in
/-- two lists of the same queues -/
theorem eqQs {w : World} {ao bo : Option Addr} {l : List (ByteArray × Bool)} {ca cb : Nat} (ha : IsVals w ao (qF l)) (hb : IsVals w bo (qF l)) (hn : l.length ≤ 2932031007317) :
    Calls Try.prog 44 #[.slice ao l.length ca, .slice bo l.length cb] w fun e w' => e = .returned (.bool true) ∧ Below w.heap.size w w' := by
  have HA := show Hid _ from ha
  have HB := show Hid _ from hb
  have hn2 : (l.length : Int) ≤ 2932031007317 := by omega
  have hne : ((l.length : Int) != (l.length : Int)) = false := by simp
  clear ha hb
  go_enter Try.func44, Try.ntmps44
  go_wp2_with fail
  go_loopg [13] l.length (fun gq x wr => ∃ k : Nat, k + gq = l.length ∧ x = .int .i64 (k : Int) ∧ Below w.heap.size w wr)
  case atStart => exact ⟨0, by omega, rfl, Below.refl _ _⟩
  case round =>
    obtain ⟨k, hkg, rfl, hbw⟩ := hrel
    have HG : Hid (k + gk = l.length ∧ Below w.heap.size w wr) := ⟨hkg, hbw⟩
    by_cases hlt : k < l.length
    · have hk' : (k : Int) < (l.length : Int) := by omega
      have hk2 : (k : Int) ≤ 2932031007317 := by omega
      obtain ⟨hx, hy⟩ := qF_at l k hlt
      obtain ⟨g, o, rfl, hg, d0⟩ := (IsVals.below HA.out hbw) _ _ hx
      obtain ⟨g', o', rfl, hg', e0⟩ := (IsVals.below HB.out hbw) _ _ hx
      obtain ⟨g2, o2, he2, _, d1⟩ := (IsVals.below HA.out hbw) _ _ hy
      cases he2
      obtain ⟨g3, o3, he3, _, e1⟩ := (IsVals.below HB.out hbw) _ _ hy
      cases he3
      rw [← Nat.add_assoc] at d1 e1
      clear hx hy
      generalize l[k] = x at *
      obtain ⟨x1, x2⟩ := x
      dsimp only at *
      clear hg hg'
      have HLt : Hid (k < l.length) := hlt
      clear hkg hlt hbw
      go_wp2_with fail
      go_quiet (fail)
      go_wp2_with fail
      go_roundg (l.length - (k + 1))
      case measure => have := HG.out.1; have := HLt.out; omega
      case rel => exact ⟨k + 1, by have := HLt.out; omega, by go_num, HG.out.2.trans ((below_drewN _ _).mono HG.out.2.size)⟩
    · have hk' : decide (k < l.length) = false := decide_eq_false hlt
      clear hkg hlt hbw
      go_wp2
      go_ret
      exact ⟨rfl, HG.out.2⟩
end Go.Proofs.Ytenhjebiokegkaa.Nm

namespace Go.Proofs.Ytenhjebiokegkaa.Nm
open Go.RowKit Go.Maps Go.Proofs.Ytenhjebiokegkaa.Sp Go.Proofs.Ytenhjebiokegkaa.Lx Go.Proofs.Ytenhjebiokegkaa.Gr

/-- a row without what its name means -/
def unn (x : Rz) : Rz := if x.kind = 27 then x else { x with n := 0 }
def unK (l : List Rz) : Nat → List Rz
  | 0 => l
  | k + 1 => if (rat (unK l k) k).kind = 27 then unK l k else (unK l k).set k { rat (unK l k) k with n := 0 }
theorem unK_len (l : List Rz) (k : Nat) : (unK l k).length = l.length := by
  induction k with
  | zero => rfl
  | succ k ih =>
    simp only [unK]
    split
    · exact ih
    · rw [List.length_set]; exact ih
theorem unK_at (l : List Rz) (k i : Nat) : (unK l k)[i]? = if i < k then (l[i]?).map unn else l[i]? := by
  induction k generalizing i with
  | zero => simp [unK]
  | succ k ih =>
    have hk := ih k
    rw [if_neg (Nat.lt_irrefl k)] at hk
    have hr : k < l.length → rat (unK l k) k = rat l k := fun hl => by
      have h1 := some_rat (l := unK l k) (i := k) (by rw [unK_len]; exact hl)
      rw [hk, some_rat hl] at h1
      exact (Option.some.inj h1).symm
    simp only [unK]
    by_cases hl : k < l.length
    · rw [hr hl]
      by_cases hi : i = k
      · subst hi
        rw [if_pos (Nat.lt_succ_self _), some_rat hl]
        split
        · rename_i h27
          rw [hk, some_rat hl]
          show some (rat l i) = some (unn (rat l i))
          unfold unn
          rw [if_pos h27]
        · rename_i h27
          rw [List.getElem?_set, if_pos rfl, if_pos (by rw [unK_len]; exact hl)]
          simp only [Option.map_some, unn, if_neg h27]
      · have h1 : (i < k + 1) = (i < k) := by apply propext; omega
        split
        · rw [ih i]; simp only [h1]
        · rw [List.getElem?_set, if_neg (fun e => hi e.symm), ih i]; simp only [h1]
    · have hset : ∀ x : Rz, (unK l k).set k x = unK l k := fun x => List.set_eq_of_length_le (by rw [unK_len]; omega)
      rw [hset, ite_self, ih i]
      by_cases hi : i < k
      · rw [if_pos hi, if_pos (by omega)]
      · rw [if_neg hi, List.getElem?_eq_none (by omega)]
        split <;> rfl
theorem unK_all (l : List Rz) : unK l l.length = l.map unn := by
  refine List.ext_getElem? fun i => ?_
  rw [unK_at, List.getElem?_map]
  split
  · rfl
  · rw [List.getElem?_eq_none (by omega)]; rfl
set_option maxHeartbeats 3200000 in
set_option maxRecDepth 100000 in
/-- rows without what names mean in them -/
theorem unnamed_any {w : World} {a : Addr} {l : List Rz} {cap : Nat} (h : IsRz w (some a) l) (hl : l.length ≤ 2932031007317) :
    Calls Try.prog 27 #[.slice (some a) l.length cap] w fun e w' => ∃ rb rc, e = .returned (.slice (some ⟨rb, 0, none⟩) l.length rc) ∧ Rw w' rb (l.map unn) ∧ Below w.heap.size w w' := by
  have HC := show Hid _ from clone_rows w a cap l h hl
  have hl2 : (l.length : Int) ≤ 2932031007317 := by omega
  have HM : Hid (unK l l.length = l.map unn) := unK_all l
  clear h hl
  go_enter Try.func27, Try.ntmps27
  go_wp2_with fail
  refine Calls.mono HC.out ?_
  rintro e w1 ⟨rb, rc, rfl, hrw, hrb, hb1⟩
  have H0 : Hid (Rw w1 rb (unK l 0) ∧ w.heap.size ≤ rb ∧ Below w.heap.size w w1) := ⟨hrw, hrb, hb1⟩
  clear hrw hrb hb1 HC
  go_wp2_with fail
  go_loopg [9] l.length (fun gq x wr => ∃ k : Nat, k + gq = l.length ∧ x = .int .i64 (k : Int) ∧ Rw wr rb (unK l k) ∧ Below w.heap.size w wr)
  case atStart => exact ⟨0, by omega, rfl, H0.out.1, H0.out.2.2⟩
  case round =>
    obtain ⟨k, hkg, rfl, hR, hbw⟩ := hrel
    have HG : Hid (k + gk = l.length ∧ Rw wr rb (unK l k) ∧ Below w.heap.size w wr) := ⟨hkg, hR, hbw⟩
    by_cases hlt : k < l.length
    · have hk' : (k : Int) < (l.length : Int) := by omega
      have hk2 : (k : Int) ≤ 2932031007317 := by omega
      have hx := some_rat (l := unK l k) (i := k) (by rw [unK_len]; exact hlt)
      obtain ⟨d0, d1, d2, d3, d4, fz⟩ := hR.cells hx
      have fz3 := fz (k * 5 + 3)
      have HU : Hid (unK l (k + 1) = if (rat (unK l k) k).kind = 27 then unK l k else (unK l k).set k { rat (unK l k) k with n := 0 }) := rfl
      have HS : Hid (Rw (wr.setCell ⟨rb, k * 5 + 3, none⟩ (.int .i64 0)) rb ((unK l k).set k { rat (unK l k) k with n := 0 }) ∧ Below w.heap.size w (wr.setCell ⟨rb, k * 5 + 3, none⟩ (.int .i64 0))) := ⟨hR.setN hx 0, below_set hbw H0.out.2.1 _ _⟩
      have HLt : Hid (k < l.length) := hlt
      clear hkg hlt hbw hR hx fz
      generalize rat (unK l k) k = x at *
      obtain ⟨kd, nm, st, n, ks⟩ := x
      dsimp only at *
      by_cases h27 : kd = 27
      · have h27' : (kd != 27) = false := by simp [h27]
        rw [if_pos h27] at HU
        clear h27
        go_wp2_with fail
        go_roundg (l.length - (k + 1))
        case measure => have := HG.out.1; have := HLt.out; omega
        case rel => exact ⟨k + 1, by have := HLt.out; omega, by go_num, by rw [HU.out]; exact HG.out.2.1, HG.out.2.2⟩
      · have h27' : (kd != 27) = true := by simp [h27]
        rw [if_neg h27] at HU
        clear h27
        go_wp2_with fail
        go_roundg (l.length - (k + 1))
        case measure => have := HG.out.1; have := HLt.out; omega
        case rel => exact ⟨k + 1, by have := HLt.out; omega, by go_num, by rw [HU.out]; exact HS.out.1, HS.out.2⟩
    · have hk' : decide (k < l.length) = false := decide_eq_false hlt
      have hke : k = l.length := by omega
      have HE : Hid (Rw wr rb (l.map unn)) := by rw [hke, HM.out] at hR; exact hR
      clear hkg hlt hbw hR hke
      go_wp2
      go_ret
      exact ⟨rb, rc, rfl, HE.out, HG.out.2.2⟩
/-- a policy's value that can be read -/
structure Rd (w : World) (p : Pl) (ao qo vo tto uo oo : Option Addr) : Prop where
  r : IsRz w ao p.rows
  q : IsVals w qo (qF p.qs)
  v : IsVals w vo (p.vs.map Value.string)
  t : IsVals w tto (p.ts.map Value.string)
  u : IsVals w uo (iv (p.us.map fun n : Nat => (n : Int)))
  o : IsVals w oo (iv p.on)
theorem Rd.below {w w' : World} {p : Pl} {ao qo vo tto uo oo : Option Addr} (h : Rd w p ao qo vo tto uo oo) (hb : Below w.heap.size w w') : Rd w' p ao qo vo tto uo oo := ⟨h.r.below hb, h.q.below hb, h.v.below hb, h.t.below hb, h.u.below hb, h.o.below hb⟩
/-- no list is too long -/
structure Pl.Sm (p : Pl) : Prop where
  r : p.rows.length ≤ 2932031007317
  q : p.qs.length ≤ 1000
  v : p.vs.length ≤ 1000
  t : p.ts.length ≤ 1000
  u : p.us.length ≤ 1000
  o : p.on.length ≤ 1000
abbrev pv (p : Pl) (ao qo vo tto uo oo : Option Addr) (ac qc vc tc uc oc : Nat) : Value := .agg #[.string p.name, .slice ao p.rows.length ac, .slice qo p.qs.length qc, .slice vo p.vs.length vc, .slice tto p.ts.length tc, .slice uo p.us.length uc, .slice oo p.on.length oc, .int .i64 p.miss]
/-- what is told can be read -/
theorem IsPl.rd {w : World} {base : Nat} {v : Value} {p : Pl} (h : IsPl w base v p) : ∃ rb qo vo tto uo oo ac qc vc tc uc oc, v = pv p (some ⟨rb, 0, none⟩) qo vo tto uo oo ac qc vc tc uc oc ∧ Rw w rb p.rows ∧ Rd w p (some ⟨rb, 0, none⟩) qo vo tto uo oo ∧ IsNats w uo p.us ∧ p.us.length ≤ uc := by
  obtain ⟨rb, cap, qv, vv, tv, uv, ov, rfl, _, hr, hq, hv, ht, hu, ho⟩ := h.ex
  obtain ⟨qo, qc, rfl⟩ := own_form hq
  obtain ⟨vo, vc, rfl⟩ := own_form hv
  obtain ⟨tto, tc, rfl⟩ := own_form ht
  obtain ⟨uo, uc, rfl⟩ := own_form hu
  obtain ⟨oo, oc, rfl⟩ := own_form ho
  refine ⟨rb, qo, vo, tto, uo, oo, cap, qc, vc, tc, uc, oc, rfl, hr, ⟨hr.rz, vals_of hq, vals_of hv, vals_of ht, ?_, vals_of ho⟩, nats_of hu⟩
  have := vals_of hu
  simpa [iv, nv, List.map_map, Function.comp_def] using this
set_option maxHeartbeats 6400000 in
set_option maxRecDepth 100000 in
/-- two policies that are the same -/
theorem same_told {w : World} {p : Pl} {ao qo vo tto uo oo ao2 qo2 vo2 tto2 uo2 oo2 : Option Addr} {ac qc vc tc uc oc ac2 qc2 vc2 tc2 uc2 oc2 : Nat} (h1 : Rd w p ao qo vo tto uo oo) (h2 : Rd w p ao2 qo2 vo2 tto2 uo2 oo2) (hs : p.Sm) :
    Calls Try.prog 28 #[pv p ao qo vo tto uo oo ac qc vc tc uc oc, pv p ao2 qo2 vo2 tto2 uo2 oo2 ac2 qc2 vc2 tc2 uc2 oc2] w fun e w' => e = .returned (.bool true) ∧ Below w.heap.size w w' := by
  obtain ⟨nm, rows, qs, vs, ts, us, on, miss⟩ := p
  dsimp only [pv]
  have hb0 : Below w.heap.size w ((w.alloc (.cells #[.string nm, .slice ao rows.length ac, .slice qo qs.length qc, .slice vo vs.length vc, .slice tto ts.length tc, .slice uo us.length uc, .slice oo on.length oc, .int .i64 miss] 35)).alloc (.cells #[.string nm, .slice ao2 rows.length ac2, .slice qo2 qs.length qc2, .slice vo2 vs.length vc2, .slice tto2 ts.length tc2, .slice uo2 us.length uc2, .slice oo2 on.length oc2, .int .i64 miss] 35)) := ((Below.refl _ w).alloc (Nat.le_refl _) _).alloc (by simp) _
  have HB0 : Hid (Below w.heap.size w ((w.alloc (.cells #[.string nm, .slice ao rows.length ac, .slice qo qs.length qc, .slice vo vs.length vc, .slice tto ts.length tc, .slice uo us.length uc, .slice oo on.length oc, .int .i64 miss] 35)).alloc (.cells #[.string nm, .slice ao2 rows.length ac2, .slice qo2 qs.length qc2, .slice vo2 vs.length vc2, .slice tto2 ts.length tc2, .slice uo2 us.length uc2, .slice oo2 on.length oc2, .int .i64 miss] 35)) ∧ ((w.alloc (.cells #[.string nm, .slice ao rows.length ac, .slice qo qs.length qc, .slice vo vs.length vc, .slice tto ts.length tc, .slice uo us.length uc, .slice oo on.length oc, .int .i64 miss] 35)).alloc (.cells #[.string nm, .slice ao2 rows.length ac2, .slice qo2 qs.length qc2, .slice vo2 vs.length vc2, .slice tto2 ts.length tc2, .slice uo2 us.length uc2, .slice oo2 on.length oc2, .int .i64 miss] 35)).heap[w.heap.size]? = some (.cells #[.string nm, .slice ao rows.length ac, .slice qo qs.length qc, .slice vo vs.length vc, .slice tto ts.length tc, .slice uo us.length uc, .slice oo on.length oc, .int .i64 miss] 35 (0, 0)) ∧ ((w.alloc (.cells #[.string nm, .slice ao rows.length ac, .slice qo qs.length qc, .slice vo vs.length vc, .slice tto ts.length tc, .slice uo us.length uc, .slice oo on.length oc, .int .i64 miss] 35)).alloc (.cells #[.string nm, .slice ao2 rows.length ac2, .slice qo2 qs.length qc2, .slice vo2 vs.length vc2, .slice tto2 ts.length tc2, .slice uo2 us.length uc2, .slice oo2 on.length oc2, .int .i64 miss] 35)).heap[w.heap.size + 1]? = some (.cells #[.string nm, .slice ao2 rows.length ac2, .slice qo2 qs.length qc2, .slice vo2 vs.length vc2, .slice tto2 ts.length tc2, .slice uo2 us.length uc2, .slice oo2 on.length oc2, .int .i64 miss] 35 (0, 0))) := ⟨hb0, by rw [alloc_old _ _ _ (by simp)]; exact alloc_at _ _ _ rfl, alloc_at _ _ _ (by simp)⟩
  have HS := show Hid _ from hs
  have H1 := show Hid _ from h1
  have H2 := show Hid _ from h2
  have hnm : (nm.toList == nm.toList) = true := by simp
  have hmi : (miss == miss) = true := by simp
  clear h1 h2 hs hb0
  go_enter Try.func28, Try.ntmps28
  obtain ⟨k0, k1, k2, k3, k4, k5, k6, k7⟩ := pol8 HB0.out.2.1
  obtain ⟨m0, m1, m2, m3, m4, m5, m6, m7⟩ := pol8 HB0.out.2.2
  go_wp2_with fail
  have HC := show Hid _ from eqRows (ca := ac) (cb := ac2) (Rd.below H1.out HB0.out.1).r (Rd.below H2.out HB0.out.1).r HS.out.r
  clear k0 k1 k2 k3 k4 k5 k6 k7 m0 m1 m2 m3 m4 m5 m6 m7
  refine Calls.mono HC.out ?_
  rintro e w1 ⟨rfl, hb1⟩
  have HB1 : Hid (Below w.heap.size w w1 ∧ w1.heap[w.heap.size]? = some (.cells #[.string nm, .slice ao rows.length ac, .slice qo qs.length qc, .slice vo vs.length vc, .slice tto ts.length tc, .slice uo us.length uc, .slice oo on.length oc, .int .i64 miss] 35 (0, 0)) ∧ w1.heap[w.heap.size + 1]? = some (.cells #[.string nm, .slice ao2 rows.length ac2, .slice qo2 qs.length qc2, .slice vo2 vs.length vc2, .slice tto2 ts.length tc2, .slice uo2 us.length uc2, .slice oo2 on.length oc2, .int .i64 miss] 35 (0, 0))) := ⟨HB0.out.1.trans (hb1.mono HB0.out.1.size), (hb1.block _ (blk_lt HB0.out.2.1)).trans HB0.out.2.1, (hb1.block _ (blk_lt HB0.out.2.2)).trans HB0.out.2.2⟩
  clear HC hb1
  obtain ⟨k0, k1, k2, k3, k4, k5, k6, k7⟩ := pol8 HB1.out.2.1
  obtain ⟨m0, m1, m2, m3, m4, m5, m6, m7⟩ := pol8 HB1.out.2.2
  go_wp2_with fail
  have HC := show Hid _ from eqQs (ca := qc) (cb := qc2) (Rd.below H1.out HB1.out.1).q (Rd.below H2.out HB1.out.1).q (Nat.le_trans HS.out.q (by decide))
  clear k0 k1 k2 k3 k4 k5 k6 k7 m0 m1 m2 m3 m4 m5 m6 m7
  refine Calls.mono HC.out ?_
  rintro e w2 ⟨rfl, hb2⟩
  have HB2 : Hid (Below w.heap.size w w2 ∧ w2.heap[w.heap.size]? = some (.cells #[.string nm, .slice ao rows.length ac, .slice qo qs.length qc, .slice vo vs.length vc, .slice tto ts.length tc, .slice uo us.length uc, .slice oo on.length oc, .int .i64 miss] 35 (0, 0)) ∧ w2.heap[w.heap.size + 1]? = some (.cells #[.string nm, .slice ao2 rows.length ac2, .slice qo2 qs.length qc2, .slice vo2 vs.length vc2, .slice tto2 ts.length tc2, .slice uo2 us.length uc2, .slice oo2 on.length oc2, .int .i64 miss] 35 (0, 0))) := ⟨HB1.out.1.trans (hb2.mono HB1.out.1.size), (hb2.block _ (blk_lt HB1.out.2.1)).trans HB1.out.2.1, (hb2.block _ (blk_lt HB1.out.2.2)).trans HB1.out.2.2⟩
  clear HC hb2
  obtain ⟨k0, k1, k2, k3, k4, k5, k6, k7⟩ := pol8 HB2.out.2.1
  obtain ⟨m0, m1, m2, m3, m4, m5, m6, m7⟩ := pol8 HB2.out.2.2
  go_wp2_with fail
  have HC := show Hid _ from eqStrs (ca := vc) (cb := vc2) (Rd.below H1.out HB2.out.1).v (Rd.below H2.out HB2.out.1).v (Nat.le_trans HS.out.v (by decide))
  clear k0 k1 k2 k3 k4 k5 k6 k7 m0 m1 m2 m3 m4 m5 m6 m7
  refine Calls.mono HC.out ?_
  rintro e w3 ⟨rfl, hb3⟩
  have HB3 : Hid (Below w.heap.size w w3 ∧ w3.heap[w.heap.size]? = some (.cells #[.string nm, .slice ao rows.length ac, .slice qo qs.length qc, .slice vo vs.length vc, .slice tto ts.length tc, .slice uo us.length uc, .slice oo on.length oc, .int .i64 miss] 35 (0, 0)) ∧ w3.heap[w.heap.size + 1]? = some (.cells #[.string nm, .slice ao2 rows.length ac2, .slice qo2 qs.length qc2, .slice vo2 vs.length vc2, .slice tto2 ts.length tc2, .slice uo2 us.length uc2, .slice oo2 on.length oc2, .int .i64 miss] 35 (0, 0))) := ⟨HB2.out.1.trans (hb3.mono HB2.out.1.size), (hb3.block _ (blk_lt HB2.out.2.1)).trans HB2.out.2.1, (hb3.block _ (blk_lt HB2.out.2.2)).trans HB2.out.2.2⟩
  clear HC hb3
  obtain ⟨k0, k1, k2, k3, k4, k5, k6, k7⟩ := pol8 HB3.out.2.1
  obtain ⟨m0, m1, m2, m3, m4, m5, m6, m7⟩ := pol8 HB3.out.2.2
  go_wp2_with fail
  have HC := show Hid _ from eqStrs (ca := tc) (cb := tc2) (Rd.below H1.out HB3.out.1).t (Rd.below H2.out HB3.out.1).t (Nat.le_trans HS.out.t (by decide))
  clear k0 k1 k2 k3 k4 k5 k6 k7 m0 m1 m2 m3 m4 m5 m6 m7
  refine Calls.mono HC.out ?_
  rintro e w4 ⟨rfl, hb4⟩
  have HB4 : Hid (Below w.heap.size w w4 ∧ w4.heap[w.heap.size]? = some (.cells #[.string nm, .slice ao rows.length ac, .slice qo qs.length qc, .slice vo vs.length vc, .slice tto ts.length tc, .slice uo us.length uc, .slice oo on.length oc, .int .i64 miss] 35 (0, 0)) ∧ w4.heap[w.heap.size + 1]? = some (.cells #[.string nm, .slice ao2 rows.length ac2, .slice qo2 qs.length qc2, .slice vo2 vs.length vc2, .slice tto2 ts.length tc2, .slice uo2 us.length uc2, .slice oo2 on.length oc2, .int .i64 miss] 35 (0, 0))) := ⟨HB3.out.1.trans (hb4.mono HB3.out.1.size), (hb4.block _ (blk_lt HB3.out.2.1)).trans HB3.out.2.1, (hb4.block _ (blk_lt HB3.out.2.2)).trans HB3.out.2.2⟩
  clear HC hb4
  obtain ⟨k0, k1, k2, k3, k4, k5, k6, k7⟩ := pol8 HB4.out.2.1
  obtain ⟨m0, m1, m2, m3, m4, m5, m6, m7⟩ := pol8 HB4.out.2.2
  go_wp2_with fail
  have HC := show Hid _ from eqInts (ca := uc) (cb := uc2) (Rd.below H1.out HB4.out.1).u (Rd.below H2.out HB4.out.1).u (by rw [List.length_map]; exact Nat.le_trans HS.out.u (by decide))
  rw [List.length_map] at HC
  clear k0 k1 k2 k3 k4 k5 k6 k7 m0 m1 m2 m3 m4 m5 m6 m7
  refine Calls.mono HC.out ?_
  rintro e w5 ⟨rfl, hb5⟩
  have HB5 : Hid (Below w.heap.size w w5 ∧ w5.heap[w.heap.size]? = some (.cells #[.string nm, .slice ao rows.length ac, .slice qo qs.length qc, .slice vo vs.length vc, .slice tto ts.length tc, .slice uo us.length uc, .slice oo on.length oc, .int .i64 miss] 35 (0, 0)) ∧ w5.heap[w.heap.size + 1]? = some (.cells #[.string nm, .slice ao2 rows.length ac2, .slice qo2 qs.length qc2, .slice vo2 vs.length vc2, .slice tto2 ts.length tc2, .slice uo2 us.length uc2, .slice oo2 on.length oc2, .int .i64 miss] 35 (0, 0))) := ⟨HB4.out.1.trans (hb5.mono HB4.out.1.size), (hb5.block _ (blk_lt HB4.out.2.1)).trans HB4.out.2.1, (hb5.block _ (blk_lt HB4.out.2.2)).trans HB4.out.2.2⟩
  clear HC hb5
  obtain ⟨k0, k1, k2, k3, k4, k5, k6, k7⟩ := pol8 HB5.out.2.1
  obtain ⟨m0, m1, m2, m3, m4, m5, m6, m7⟩ := pol8 HB5.out.2.2
  go_wp2_with fail
  have HC := show Hid _ from eqInts (ca := oc) (cb := oc2) (Rd.below H1.out HB5.out.1).o (Rd.below H2.out HB5.out.1).o (Nat.le_trans HS.out.o (by decide))
  clear k0 k1 k2 k3 k4 k5 k6 k7 m0 m1 m2 m3 m4 m5 m6 m7
  refine Calls.mono HC.out ?_
  rintro e w6 ⟨rfl, hb6⟩
  have HB6 : Hid (Below w.heap.size w w6 ∧ w6.heap[w.heap.size]? = some (.cells #[.string nm, .slice ao rows.length ac, .slice qo qs.length qc, .slice vo vs.length vc, .slice tto ts.length tc, .slice uo us.length uc, .slice oo on.length oc, .int .i64 miss] 35 (0, 0)) ∧ w6.heap[w.heap.size + 1]? = some (.cells #[.string nm, .slice ao2 rows.length ac2, .slice qo2 qs.length qc2, .slice vo2 vs.length vc2, .slice tto2 ts.length tc2, .slice uo2 us.length uc2, .slice oo2 on.length oc2, .int .i64 miss] 35 (0, 0))) := ⟨HB5.out.1.trans (hb6.mono HB5.out.1.size), (hb6.block _ (blk_lt HB5.out.2.1)).trans HB5.out.2.1, (hb6.block _ (blk_lt HB5.out.2.2)).trans HB5.out.2.2⟩
  clear HC hb6
  obtain ⟨k0, k1, k2, k3, k4, k5, k6, k7⟩ := pol8 HB6.out.2.1
  obtain ⟨m0, m1, m2, m3, m4, m5, m6, m7⟩ := pol8 HB6.out.2.2
  go_wp2
  go_ret
  exact ⟨rfl, HB6.out.1⟩
set_option maxHeartbeats 6400000 in
set_option maxRecDepth 100000 in
/-- Check of a policy whose rows resolve to it -/
theorem check_told {w : World} {p : Pl} {a : Addr} {qo vo tto uo oo : Option Addr} {ac qc vc tc uc oc : Nat} (h : Rd w p (some a) qo vo tto uo oo) (hs : p.Sm) (hr : res (p.rows.map unn) = .ok p) :
    Calls Try.prog 17 #[pv p (some a) qo vo tto uo oo ac qc vc tc uc oc] w fun e w' => e = .returned (.int .i64 0) ∧ Below w.heap.size w w' := by
  have hb0 : Below w.heap.size w (w.alloc (.cells #[.string p.name, .slice (some a) p.rows.length ac, .slice qo p.qs.length qc, .slice vo p.vs.length vc, .slice tto p.ts.length tc, .slice uo p.us.length uc, .slice oo p.on.length oc, .int .i64 p.miss] 35)) := (Below.refl _ w).alloc (Nat.le_refl _) _
  have HB0 : Hid (Below w.heap.size w (w.alloc (.cells #[.string p.name, .slice (some a) p.rows.length ac, .slice qo p.qs.length qc, .slice vo p.vs.length vc, .slice tto p.ts.length tc, .slice uo p.us.length uc, .slice oo p.on.length oc, .int .i64 p.miss] 35)) ∧ (w.alloc (.cells #[.string p.name, .slice (some a) p.rows.length ac, .slice qo p.qs.length qc, .slice vo p.vs.length vc, .slice tto p.ts.length tc, .slice uo p.us.length uc, .slice oo p.on.length oc, .int .i64 p.miss] 35)).heap[w.heap.size]? = some (.cells #[.string p.name, .slice (some a) p.rows.length ac, .slice qo p.qs.length qc, .slice vo p.vs.length vc, .slice tto p.ts.length tc, .slice uo p.us.length uc, .slice oo p.on.length oc, .int .i64 p.miss] 35 (0, 0))) := ⟨hb0, heap_alloc_new w _⟩
  have HU := show Hid _ from unnamed_any (cap := ac) (h.r.below hb0) hs.r
  have H := show Hid _ from h
  have HS := show Hid _ from hs
  have HR := show Hid _ from hr
  obtain ⟨k0, k1, k2, k3, k4, k5, k6, k7⟩ := pol8 HB0.out.2
  clear h hs hr hb0
  unfold pv
  go_enter Try.func17, Try.ntmps17
  go_wp2_with fail
  refine Calls.mono HU.out ?_
  rintro e w1 ⟨rb, rc, rfl, hrw, hb1⟩
  have HB1 : Hid (Below w.heap.size w w1 ∧ w1.heap[w.heap.size]? = some (.cells #[.string p.name, .slice (some a) p.rows.length ac, .slice qo p.qs.length qc, .slice vo p.vs.length vc, .slice tto p.ts.length tc, .slice uo p.us.length uc, .slice oo p.on.length oc, .int .i64 p.miss] 35 (0, 0))) := ⟨HB0.out.1.trans (hb1.mono HB0.out.1.size), (hb1.block _ (blk_lt HB0.out.2)).trans HB0.out.2⟩
  have HRs := show Hid _ from resolve_any (cap := rc) hrw.rz (by rw [List.length_map]; exact HS.out.r)
  rw [HR.out, List.length_map] at HRs
  clear hrw hb1 HU k0 k1 k2 k3 k4 k5 k6 k7
  go_wp2_with fail
  refine Calls.mono HRs.out ?_
  rintro e w2 ⟨hb2, v, rfl, hpl⟩
  obtain ⟨rb2, qo2, vo2, tto2, uo2, oo2, ac2, qc2, vc2, tc2, uc2, oc2, rfl, _, hrd, _, _⟩ := hpl.rd
  have hb3 : Below w2.heap.size w2 ((w2.alloc (.cells #[.string p.name, .slice (some ⟨rb2, 0, none⟩) p.rows.length ac2, .slice qo2 p.qs.length qc2, .slice vo2 p.vs.length vc2, .slice tto2 p.ts.length tc2, .slice uo2 p.us.length uc2, .slice oo2 p.on.length oc2, .int .i64 p.miss] 35)).alloc (.cells #[.int .i64 0, .int .i64 0] 37)) := ((Below.refl _ w2).alloc (Nat.le_refl _) _).alloc (by simp) _
  have HB3 : Hid (Below w.heap.size w ((w2.alloc (.cells #[.string p.name, .slice (some ⟨rb2, 0, none⟩) p.rows.length ac2, .slice qo2 p.qs.length qc2, .slice vo2 p.vs.length vc2, .slice tto2 p.ts.length tc2, .slice uo2 p.us.length uc2, .slice oo2 p.on.length oc2, .int .i64 p.miss] 35)).alloc (.cells #[.int .i64 0, .int .i64 0] 37)) ∧ Rd ((w2.alloc (.cells #[.string p.name, .slice (some ⟨rb2, 0, none⟩) p.rows.length ac2, .slice qo2 p.qs.length qc2, .slice vo2 p.vs.length vc2, .slice tto2 p.ts.length tc2, .slice uo2 p.us.length uc2, .slice oo2 p.on.length oc2, .int .i64 p.miss] 35)).alloc (.cells #[.int .i64 0, .int .i64 0] 37)) p (some ⟨rb2, 0, none⟩) qo2 vo2 tto2 uo2 oo2) := ⟨HB1.out.1.trans ((hb2.trans (hb3.mono hb2.size)).mono HB1.out.1.size), hrd.below hb3⟩
  have hx1 : ((w2.alloc (.cells #[.string p.name, .slice (some ⟨rb2, 0, none⟩) p.rows.length ac2, .slice qo2 p.qs.length qc2, .slice vo2 p.vs.length vc2, .slice tto2 p.ts.length tc2, .slice uo2 p.us.length uc2, .slice oo2 p.on.length oc2, .int .i64 p.miss] 35)).alloc (.cells #[.int .i64 0, .int .i64 0] 37)).heap[w.heap.size]? = some (.cells #[.string p.name, .slice (some a) p.rows.length ac, .slice qo p.qs.length qc, .slice vo p.vs.length vc, .slice tto p.ts.length tc, .slice uo p.us.length uc, .slice oo p.on.length oc, .int .i64 p.miss] 35 (0, 0)) := ((hb2.trans (hb3.mono hb2.size)).block _ (blk_lt HB1.out.2)).trans HB1.out.2
  have hx2 : ((w2.alloc (.cells #[.string p.name, .slice (some ⟨rb2, 0, none⟩) p.rows.length ac2, .slice qo2 p.qs.length qc2, .slice vo2 p.vs.length vc2, .slice tto2 p.ts.length tc2, .slice uo2 p.us.length uc2, .slice oo2 p.on.length oc2, .int .i64 p.miss] 35)).alloc (.cells #[.int .i64 0, .int .i64 0] 37)).heap[w2.heap.size]? = some (.cells #[.string p.name, .slice (some ⟨rb2, 0, none⟩) p.rows.length ac2, .slice qo2 p.qs.length qc2, .slice vo2 p.vs.length vc2, .slice tto2 p.ts.length tc2, .slice uo2 p.us.length uc2, .slice oo2 p.on.length oc2, .int .i64 p.miss] 35 (0, 0)) := by rw [alloc_old _ _ _ (by simp)]; exact alloc_at _ _ _ rfl
  have hx3 : ((w2.alloc (.cells #[.string p.name, .slice (some ⟨rb2, 0, none⟩) p.rows.length ac2, .slice qo2 p.qs.length qc2, .slice vo2 p.vs.length vc2, .slice tto2 p.ts.length tc2, .slice uo2 p.us.length uc2, .slice oo2 p.on.length oc2, .int .i64 p.miss] 35)).alloc (.cells #[.int .i64 0, .int .i64 0] 37)).heap[w2.heap.size + 1]? = some (.cells #[.int .i64 0, .int .i64 0] 37 (0, 0)) := alloc_at _ _ _ (by simp)
  obtain ⟨k0, k1, k2, k3, k4, k5, k6, k7⟩ := pol8 hx1
  obtain ⟨m0, m1, m2, m3, m4, m5, m6, m7⟩ := pol8 hx2
  have f0 : ((w2.alloc (.cells #[.string p.name, .slice (some ⟨rb2, 0, none⟩) p.rows.length ac2, .slice qo2 p.qs.length qc2, .slice vo2 p.vs.length vc2, .slice tto2 p.ts.length tc2, .slice uo2 p.us.length uc2, .slice oo2 p.on.length oc2, .int .i64 p.miss] 35)).alloc (.cells #[.int .i64 0, .int .i64 0] 37)).cell? ⟨w2.heap.size + 1, 0, none⟩ = some (.int .i64 0) := by rw [World.cell?, hx3]; rfl
  have HSm := show Hid _ from same_told (ac := ac2) (qc := qc2) (vc := vc2) (tc := tc2) (uc := uc2) (oc := oc2) (ac2 := ac) (qc2 := qc) (vc2 := vc) (tc2 := tc) (uc2 := uc) (oc2 := oc) HB3.out.2 (Rd.below H.out HB3.out.1) HS.out
  clear hb2 hb3 hpl hrd hx1 hx2 hx3 HRs
  unfold pv at HSm
  unfold pv
  go_wp2_with fail
  refine Calls.mono HSm.out ?_
  rintro e w5 ⟨rfl, hb5⟩
  have HB5 : Hid (Below w.heap.size w w5) := HB3.out.1.trans (hb5.mono HB3.out.1.size)
  clear hb5 HSm k0 k1 k2 k3 k4 k5 k6 k7 m0 m1 m2 m3 m4 m5 m6 m7
  go_wp2
  go_ret
  exact ⟨rfl, HB5.out⟩
end Go.Proofs.Ytenhjebiokegkaa.Nm

namespace Go.Proofs.Ytenhjebiokegkaa.Nm
open Go.RowKit Go.Maps Go.Proofs.Ytenhjebiokegkaa.Sp Go.Proofs.Ytenhjebiokegkaa.Lx Go.Proofs.Ytenhjebiokegkaa.Gr

theorem bytes_of {x y : ByteArray} (h : x.toList = y.toList) : x = y := by
  rw [ByteArray.toList_eq, ByteArray.toList_eq] at h
  cases x
  cases y
  simpa using h
theorem neq_queue {x y : ByteArray × Bool} (h : x ≠ y) (u : World) : (binOp BinOp.neq 46 (.agg #[.string x.1, .bool x.2]) (.agg #[.string y.1, .bool y.2])).run Try.prog u = .ok (.bool true) u := by
  go_simp
  intro e1 e2
  exact h (Prod.ext (bytes_of e1) e2)
theorem neq_row {x y : Rz} (h : x ≠ y) (u : World) : (binOp BinOp.neq 27 (rv x) (rv y)).run Try.prog u = .ok (.bool true) u := by
  unfold rv
  go_simp
  intro e1 e2 e3 e4 e5
  refine h ?_
  cases x
  cases y
  have := bytes_of e2
  simp_all
set_option maxHeartbeats 6400000 in
set_option maxRecDepth 100000 in
/-- two lists of numbers -/
theorem eqIntsG {w : World} {ao bo : Option Addr} {l m : List Int} {ca cb : Nat} (ha : IsVals w ao (iv l)) (hb : IsVals w bo (iv m)) (hn : l.length ≤ 2932031007317) :
    Calls Try.prog 46 #[.slice ao l.length ca, .slice bo m.length cb] w fun e w' => (∃ b, e = .returned (.bool b) ∧ (b = true ↔ l = m)) ∧ Below w.heap.size w w' := by
  by_cases hlen : l.length = m.length
  · have HA := show Hid _ from ha
    have HB := show Hid _ from hb
    have HLn := show Hid _ from hlen
    have hn2 : (l.length : Int) ≤ 2932031007317 := by omega
    have hne : ((l.length : Int) != (l.length : Int)) = false := by simp
    rw [← hlen]
    clear ha hb hlen
    go_enter Try.func46, Try.ntmps46
    go_wp2_with fail
    go_loopg [13] l.length (fun gq x wr => ∃ k : Nat, k + gq = l.length ∧ x = .int .i64 (k : Int) ∧ l.take k = m.take k ∧ Below w.heap.size w wr)
    case atStart => exact ⟨0, by omega, rfl, rfl, Below.refl _ _⟩
    case round =>
      obtain ⟨k, hkg, rfl, htk, hbw⟩ := hrel
      have HG : Hid (k + gk = l.length ∧ Below w.heap.size w wr ∧ l.take k = m.take k) := ⟨hkg, hbw, htk⟩
      by_cases hlt : k < l.length
      · have hk' : (k : Int) < (l.length : Int) := by omega
        have hk2 : (k : Int) ≤ 2932031007317 := by omega
        have hlm : k < m.length := by have := HLn.out; omega
        have hx : (iv l)[k]? = some (.int .i64 l[k]) := by rw [List.getElem?_map, List.getElem?_eq_getElem hlt]; rfl
        have hy : (iv m)[k]? = some (.int .i64 m[k]) := by rw [List.getElem?_map, List.getElem?_eq_getElem hlm]; rfl
        obtain ⟨g, o, rfl, _, d0⟩ := (IsVals.below HA.out hbw) k _ hx
        obtain ⟨g', o', rfl, _, e0⟩ := (IsVals.below HB.out hbw) k _ hy
        have HSame : Hid (l[k] = m[k] → l.take (k + 1) = m.take (k + 1)) := fun e => by rw [List.take_add_one, List.take_add_one, HG.out.2.2, List.getElem?_eq_getElem hlt, List.getElem?_eq_getElem hlm, e]
        have HDiff : Hid (l[k] ≠ m[k] → l ≠ m) := fun e h => e (by subst h; rfl)
        clear hx hy
        generalize l[k] = x at *
        generalize m[k] = y at *
        have HLt : Hid (k < l.length) := hlt
        clear hkg hlt hbw htk hlm
        by_cases hxy : x = y
        · subst hxy
          have HS : Hid (l.take (k + 1) = m.take (k + 1)) := HSame.out rfl
          clear HSame HDiff
          have hq : (x != x) = false := by simp
          go_wp2_with fail
          go_quiet (fail)
          go_wp2_with fail
          go_roundg (l.length - (k + 1))
          case measure => have := HG.out.1; have := HLt.out; omega
          case rel => exact ⟨k + 1, by have := HLt.out; omega, by go_num, HS.out, HG.out.2.1.trans ((below_drewN _ _).mono HG.out.2.1.size)⟩
        · have HD : Hid (l ≠ m) := HDiff.out hxy
          clear HSame HDiff
          have hq : (x != y) = true := by simp [hxy]
          go_wp2_with fail
          go_quiet (fail)
          go_wp2
          go_ret
          exact ⟨⟨false, rfl, by simp [HD.out]⟩, HG.out.2.1.trans ((below_drewN _ _).mono HG.out.2.1.size)⟩
      · have hk' : decide (k < l.length) = false := decide_eq_false hlt
        have HE : Hid (l = m) := by
          have hke : k = l.length := by omega
          rw [hke, List.take_length, HLn.out, List.take_length] at htk
          exact htk
        clear hkg hlt hbw htk
        go_wp2
        go_ret
        exact ⟨⟨true, rfl, by simp [HE.out]⟩, HG.out.2.1⟩
  · have hne : ((l.length : Int) != (m.length : Int)) = true := by simp; omega
    have HD : Hid (l ≠ m) := fun e => hlen (by rw [e])
    clear ha hb hlen hn
    go_enter Try.func46, Try.ntmps46
    go_wp2
    go_ret
    exact ⟨⟨false, rfl, by simp [HD.out]⟩, Below.refl _ _⟩
set_option maxHeartbeats 6400000 in
set_option maxRecDepth 100000 in
/-- two lists of texts -/
theorem eqStrsG {w : World} {ao bo : Option Addr} {l m : List ByteArray} {ca cb : Nat} (ha : IsVals w ao (l.map Value.string)) (hb : IsVals w bo (m.map Value.string)) (hn : l.length ≤ 2932031007317) :
    Calls Try.prog 45 #[.slice ao l.length ca, .slice bo m.length cb] w fun e w' => (∃ b, e = .returned (.bool b) ∧ (b = true ↔ l = m)) ∧ Below w.heap.size w w' := by
  by_cases hlen : l.length = m.length
  · have HA := show Hid _ from ha
    have HB := show Hid _ from hb
    have HLn := show Hid _ from hlen
    have hn2 : (l.length : Int) ≤ 2932031007317 := by omega
    have hne : ((l.length : Int) != (l.length : Int)) = false := by simp
    rw [← hlen]
    clear ha hb hlen
    go_enter Try.func45, Try.ntmps45
    go_wp2_with fail
    go_loopg [13] l.length (fun gq x wr => ∃ k : Nat, k + gq = l.length ∧ x = .int .i64 (k : Int) ∧ l.take k = m.take k ∧ Below w.heap.size w wr)
    case atStart => exact ⟨0, by omega, rfl, rfl, Below.refl _ _⟩
    case round =>
      obtain ⟨k, hkg, rfl, htk, hbw⟩ := hrel
      have HG : Hid (k + gk = l.length ∧ Below w.heap.size w wr ∧ l.take k = m.take k) := ⟨hkg, hbw, htk⟩
      by_cases hlt : k < l.length
      · have hk' : (k : Int) < (l.length : Int) := by omega
        have hk2 : (k : Int) ≤ 2932031007317 := by omega
        have hlm : k < m.length := by have := HLn.out; omega
        have hx : (l.map Value.string)[k]? = some (.string l[k]) := by rw [List.getElem?_map, List.getElem?_eq_getElem hlt]; rfl
        have hy : (m.map Value.string)[k]? = some (.string m[k]) := by rw [List.getElem?_map, List.getElem?_eq_getElem hlm]; rfl
        obtain ⟨g, o, rfl, _, d0⟩ := (IsVals.below HA.out hbw) k _ hx
        obtain ⟨g', o', rfl, _, e0⟩ := (IsVals.below HB.out hbw) k _ hy
        have HSame : Hid (l[k] = m[k] → l.take (k + 1) = m.take (k + 1)) := fun e => by rw [List.take_add_one, List.take_add_one, HG.out.2.2, List.getElem?_eq_getElem hlt, List.getElem?_eq_getElem hlm, e]
        have HDiff : Hid (l[k] ≠ m[k] → l ≠ m) := fun e h => e (by subst h; rfl)
        clear hx hy
        generalize l[k] = x at *
        generalize m[k] = y at *
        have HLt : Hid (k < l.length) := hlt
        clear hkg hlt hbw htk hlm
        by_cases hxy : x = y
        · subst hxy
          have HS : Hid (l.take (k + 1) = m.take (k + 1)) := HSame.out rfl
          clear HSame HDiff
          have hq : (x.toList != x.toList) = false := by simp
          go_wp2_with fail
          go_quiet (fail)
          go_wp2_with fail
          go_roundg (l.length - (k + 1))
          case measure => have := HG.out.1; have := HLt.out; omega
          case rel => exact ⟨k + 1, by have := HLt.out; omega, by go_num, HS.out, HG.out.2.1.trans ((below_drewN _ _).mono HG.out.2.1.size)⟩
        · have HD : Hid (l ≠ m) := HDiff.out hxy
          clear HSame HDiff
          have hq0 : ¬ x.toList = y.toList := fun e => hxy (bytes_of e)
          have hq1 : (x.toList == y.toList) = false := by simpa using hq0
          have hq : (x.toList != y.toList) = true := by simpa using hq0
          go_wp2_with fail
          go_quiet (fail)
          go_wp2
          go_ret
          exact ⟨⟨false, rfl, by simp [HD.out]⟩, HG.out.2.1.trans ((below_drewN _ _).mono HG.out.2.1.size)⟩
      · have hk' : decide (k < l.length) = false := decide_eq_false hlt
        have HE : Hid (l = m) := by
          have hke : k = l.length := by omega
          rw [hke, List.take_length, HLn.out, List.take_length] at htk
          exact htk
        clear hkg hlt hbw htk
        go_wp2
        go_ret
        exact ⟨⟨true, rfl, by simp [HE.out]⟩, HG.out.2.1⟩
  · have hne : ((l.length : Int) != (m.length : Int)) = true := by simp; omega
    have HD : Hid (l ≠ m) := fun e => hlen (by rw [e])
    clear ha hb hlen hn
    go_enter Try.func45, Try.ntmps45
    go_wp2
    go_ret
    exact ⟨⟨false, rfl, by simp [HD.out]⟩, Below.refl _ _⟩
set_option maxHeartbeats 6400000 in
set_option maxRecDepth 100000 in
/-- two lists of queues -/
theorem eqQsG {w : World} {ao bo : Option Addr} {l m : List (ByteArray × Bool)} {ca cb : Nat} (ha : IsVals w ao (qF l)) (hb : IsVals w bo (qF m)) (hn : l.length ≤ 2932031007317) :
    Calls Try.prog 44 #[.slice ao l.length ca, .slice bo m.length cb] w fun e w' => (∃ b, e = .returned (.bool b) ∧ (b = true ↔ l = m)) ∧ Below w.heap.size w w' := by
  by_cases hlen : l.length = m.length
  · have HA := show Hid _ from ha
    have HB := show Hid _ from hb
    have HLn := show Hid _ from hlen
    have hn2 : (l.length : Int) ≤ 2932031007317 := by omega
    have hne : ((l.length : Int) != (l.length : Int)) = false := by simp
    rw [← hlen]
    clear ha hb hlen
    go_enter Try.func44, Try.ntmps44
    go_wp2_with fail
    go_loopg [13] l.length (fun gq x wr => ∃ k : Nat, k + gq = l.length ∧ x = .int .i64 (k : Int) ∧ l.take k = m.take k ∧ Below w.heap.size w wr)
    case atStart => exact ⟨0, by omega, rfl, rfl, Below.refl _ _⟩
    case round =>
      obtain ⟨k, hkg, rfl, htk, hbw⟩ := hrel
      have HG : Hid (k + gk = l.length ∧ Below w.heap.size w wr ∧ l.take k = m.take k) := ⟨hkg, hbw, htk⟩
      by_cases hlt : k < l.length
      · have hk' : (k : Int) < (l.length : Int) := by omega
        have hk2 : (k : Int) ≤ 2932031007317 := by omega
        have hlm : k < m.length := by have := HLn.out; omega
        obtain ⟨hx, hx2⟩ := qF_at l k hlt
        obtain ⟨hy, hy2⟩ := qF_at m k hlm
        obtain ⟨g, o, rfl, _, d0⟩ := (IsVals.below HA.out hbw) _ _ hx
        obtain ⟨g', o', rfl, _, e0⟩ := (IsVals.below HB.out hbw) _ _ hy
        obtain ⟨g2, o2, he2, _, d1⟩ := (IsVals.below HA.out hbw) _ _ hx2
        cases he2
        obtain ⟨g3, o3, he3, _, e1⟩ := (IsVals.below HB.out hbw) _ _ hy2
        cases he3
        rw [← Nat.add_assoc] at d1 e1
        have HSame : Hid (l[k] = m[k] → l.take (k + 1) = m.take (k + 1)) := fun e => by rw [List.take_add_one, List.take_add_one, HG.out.2.2, List.getElem?_eq_getElem hlt, List.getElem?_eq_getElem hlm, e]
        have HDiff : Hid (l[k] ≠ m[k] → l ≠ m) := fun e h => e (by subst h; rfl)
        clear hx hy hx2 hy2
        generalize l[k] = x at *
        generalize m[k] = y at *
        have HLt : Hid (k < l.length) := hlt
        clear hkg hlt hbw htk hlm
        by_cases hxy : x = y
        · subst hxy
          have HS : Hid (l.take (k + 1) = m.take (k + 1)) := HSame.out rfl
          clear HSame HDiff
          obtain ⟨x1, x2⟩ := x
          dsimp only at *
          go_wp2_with fail
          go_quiet (fail)
          go_wp2_with fail
          go_roundg (l.length - (k + 1))
          case measure => have := HG.out.1; have := HLt.out; omega
          case rel => exact ⟨k + 1, by have := HLt.out; omega, by go_num, HS.out, HG.out.2.1.trans ((below_drewN _ _).mono HG.out.2.1.size)⟩
        · have HD : Hid (l ≠ m) := HDiff.out hxy
          clear HSame HDiff
          have hq : ∀ u : World, (binOp BinOp.neq 46 (.agg #[.string x.1, .bool x.2]) (.agg #[.string y.1, .bool y.2])).run Try.prog u = .ok (.bool true) u := fun u => neq_queue hxy u
          obtain ⟨x1, x2⟩ := x
          obtain ⟨y1, y2⟩ := y
          dsimp only at *
          go_wp2_with fail
          go_quiet (fail)
          go_wp2
          go_ret
          exact ⟨⟨false, rfl, by simp [HD.out]⟩, HG.out.2.1.trans ((below_drewN _ _).mono HG.out.2.1.size)⟩
      · have hk' : decide (k < l.length) = false := decide_eq_false hlt
        have HE : Hid (l = m) := by
          have hke : k = l.length := by omega
          rw [hke, List.take_length, HLn.out, List.take_length] at htk
          exact htk
        clear hkg hlt hbw htk
        go_wp2
        go_ret
        exact ⟨⟨true, rfl, by simp [HE.out]⟩, HG.out.2.1⟩
  · have hne : ((l.length : Int) != (m.length : Int)) = true := by simp; omega
    have HD : Hid (l ≠ m) := fun e => hlen (by rw [e])
    clear ha hb hlen hn
    go_enter Try.func44, Try.ntmps44
    go_wp2
    go_ret
    exact ⟨⟨false, rfl, by simp [HD.out]⟩, Below.refl _ _⟩
set_option maxHeartbeats 6400000 in
set_option maxRecDepth 100000 in
/-- two lists of rows -/
theorem eqRowsG {w : World} {ao bo : Option Addr} {l m : List Rz} {ca cb : Nat} (ha : IsRz w ao l) (hb : IsRz w bo m) (hn : l.length ≤ 2932031007317) :
    Calls Try.prog 43 #[.slice ao l.length ca, .slice bo m.length cb] w fun e w' => (∃ b, e = .returned (.bool b) ∧ (b = true ↔ l = m)) ∧ Below w.heap.size w w' := by
  by_cases hlen : l.length = m.length
  · have HA := show Hid _ from ha
    have HB := show Hid _ from hb
    have HLn := show Hid _ from hlen
    have hn2 : (l.length : Int) ≤ 2932031007317 := by omega
    have hne : ((l.length : Int) != (l.length : Int)) = false := by simp
    rw [← hlen]
    clear ha hb hlen
    go_enter Try.func43, Try.ntmps43
    go_wp2_with fail
    go_loopg [13] l.length (fun gq x wr => ∃ k : Nat, k + gq = l.length ∧ x = .int .i64 (k : Int) ∧ l.take k = m.take k ∧ Below w.heap.size w wr)
    case atStart => exact ⟨0, by omega, rfl, rfl, Below.refl _ _⟩
    case round =>
      obtain ⟨k, hkg, rfl, htk, hbw⟩ := hrel
      have HG : Hid (k + gk = l.length ∧ Below w.heap.size w wr ∧ l.take k = m.take k) := ⟨hkg, hbw, htk⟩
      by_cases hlt : k < l.length
      · have hk' : (k : Int) < (l.length : Int) := by omega
        have hk2 : (k : Int) ≤ 2932031007317 := by omega
        have hlm : k < m.length := by have := HLn.out; omega
        have hx := List.getElem?_eq_getElem hlt
        have hy := List.getElem?_eq_getElem hlm
        obtain ⟨g, o, rfl, _, d0, d1, d2, d3, d4⟩ := (IsRz.below HA.out hbw) k _ hx
        obtain ⟨g', o', rfl, _, e0, e1, e2, e3, e4⟩ := (IsRz.below HB.out hbw) k _ hy
        have HSame : Hid (l[k] = m[k] → l.take (k + 1) = m.take (k + 1)) := fun e => by rw [List.take_add_one, List.take_add_one, HG.out.2.2, List.getElem?_eq_getElem hlt, List.getElem?_eq_getElem hlm, e]
        have HDiff : Hid (l[k] ≠ m[k] → l ≠ m) := fun e h => e (by subst h; rfl)
        clear hx hy
        generalize l[k] = x at *
        generalize m[k] = y at *
        have HLt : Hid (k < l.length) := hlt
        clear hkg hlt hbw htk hlm
        by_cases hxy : x = y
        · subst hxy
          have HS : Hid (l.take (k + 1) = m.take (k + 1)) := HSame.out rfl
          clear HSame HDiff
          obtain ⟨kd, nm, st, n, ks⟩ := x
          dsimp only at *
          go_wp2_with fail
          go_quiet (fail)
          go_wp2_with fail
          go_roundg (l.length - (k + 1))
          case measure => have := HG.out.1; have := HLt.out; omega
          case rel => exact ⟨k + 1, by have := HLt.out; omega, by go_num, HS.out, HG.out.2.1.trans ((below_drewN _ _).mono HG.out.2.1.size)⟩
        · have HD : Hid (l ≠ m) := HDiff.out hxy
          clear HSame HDiff
          have hq : ∀ u : World, (binOp BinOp.neq 27 (rv x) (rv y)).run Try.prog u = .ok (.bool true) u := fun u => neq_row hxy u
          obtain ⟨kd, nm, st, n, ks⟩ := x
          obtain ⟨kd', nm', st', n', ks'⟩ := y
          dsimp only at *
          go_wp2_with fail
          go_quiet (fail)
          go_wp2
          go_ret
          exact ⟨⟨false, rfl, by simp [HD.out]⟩, HG.out.2.1.trans ((below_drewN _ _).mono HG.out.2.1.size)⟩
      · have hk' : decide (k < l.length) = false := decide_eq_false hlt
        have HE : Hid (l = m) := by
          have hke : k = l.length := by omega
          rw [hke, List.take_length, HLn.out, List.take_length] at htk
          exact htk
        clear hkg hlt hbw htk
        go_wp2
        go_ret
        exact ⟨⟨true, rfl, by simp [HE.out]⟩, HG.out.2.1⟩
  · have hne : ((l.length : Int) != (m.length : Int)) = true := by simp; omega
    have HD : Hid (l ≠ m) := fun e => hlen (by rw [e])
    clear ha hb hlen hn
    go_enter Try.func43, Try.ntmps43
    go_wp2
    go_ret
    exact ⟨⟨false, rfl, by simp [HD.out]⟩, Below.refl _ _⟩
end Go.Proofs.Ytenhjebiokegkaa.Nm

namespace Go.Proofs.Ytenhjebiokegkaa.Nm
open Go.RowKit Go.Maps Go.Proofs.Ytenhjebiokegkaa.Sp Go.Proofs.Ytenhjebiokegkaa.Lx Go.Proofs.Ytenhjebiokegkaa.Gr

set_option maxHeartbeats 3200000 in
set_option maxRecDepth 100000 in
/-- Laid of a policy -/
theorem laid_told {w : World} {p : Pl} {ao qo vo tto uo oo : Option Addr} {ac qc vc tc uc oc row : Nat} (h : Rd w p ao qo vo tto uo oo) (hn : IsNats w uo p.us) (huc : p.us.length ≤ uc) (hs : p.Sm) (hu : p.us.length ≤ 64) (hT : TreeZ p.rows) (hul : ∀ u ∈ p.us, u < p.rows.length) (hrow : row < p.rows.length) :
    Calls Try.prog 12 #[pv p ao qo vo tto uo oo ac qc vc tc uc oc, .int .i64 (row : Int)] w fun e w' => e = .returned (.int .i64 (laidAt p.rows (sumsOf p.rows p.us) row : Nat)) ∧ Below w.heap.size w w' := by
  have hb0 : Below w.heap.size w (w.alloc (.cells #[.string p.name, .slice ao p.rows.length ac, .slice qo p.qs.length qc, .slice vo p.vs.length vc, .slice tto p.ts.length tc, .slice uo p.us.length uc, .slice oo p.on.length oc, .int .i64 p.miss] 35)) := (Below.refl _ w).alloc (Nat.le_refl _) _
  have HB0 := show Hid _ from hb0
  have HY := show Hid _ from laying_any (c0 := .string p.name) (c2 := .slice qo p.qs.length qc) (c3 := .slice vo p.vs.length vc) (c4 := .slice tto p.ts.length tc) (c6 := .slice oo p.on.length oc) (c7 := .int .i64 p.miss) (cap := ac) (uc := uc) (h.r.below hb0) (hn.below hb0) hT hs.r hu hul huc
  obtain ⟨k0, k1, k2, k3, k4, k5, k6, k7⟩ := pol8 (heap_alloc_new w (.cells #[.string p.name, .slice ao p.rows.length ac, .slice qo p.qs.length qc, .slice vo p.vs.length vc, .slice tto p.ts.length tc, .slice uo p.us.length uc, .slice oo p.on.length oc, .int .i64 p.miss] 35))
  have HI : Hid (IsRz (w.alloc (.cells #[.string p.name, .slice ao p.rows.length ac, .slice qo p.qs.length qc, .slice vo p.vs.length vc, .slice tto p.ts.length tc, .slice uo p.us.length uc, .slice oo p.on.length oc, .int .i64 p.miss] 35)) ao p.rows) := h.r.below hb0
  have HS : Hid (TreeZ p.rows ∧ p.rows.length ≤ 2932031007317 ∧ p.us.length ≤ 64 ∧ row < p.rows.length) := ⟨hT, hs.r, hu, hrow⟩
  clear h hn huc hs hu hT hul hb0 hrow
  unfold pv
  go_enter Try.func12, Try.ntmps12
  go_wp2_with fail
  generalize w.alloc (.cells #[.string p.name, .slice ao p.rows.length ac, .slice qo p.qs.length qc, .slice vo p.vs.length vc, .slice tto p.ts.length tc, .slice uo p.us.length uc, .slice oo p.on.length oc, .int .i64 p.miss] 35) = w0 at *
  refine Calls.mono HY.out ?_
  rintro e w2 ⟨rfl, sv, hY⟩
  obtain ⟨so, sc, _, h1, h2, h3⟩ := hY.read (sumsN_le p.rows p.us _)
  have HL := show Hid _ from laid_any h3 (HI.out.below hY.be) h2 h1 HS.out.1 HS.out.2.1 (by unfold sumsOf; rw [sumsN_len]; have := HS.out.2.2.1; omega) HS.out.2.2.2
  have HB2 : Hid (Below w.heap.size w w2) := HB0.out.trans (hY.be.mono HB0.out.size)
  clear hY h1 h2 h3 HY k0 k1 k2 k3 k4 k5 k6 k7
  unfold ptr0
  go_wp2_with fail
  refine Calls.mono HL.out ?_
  rintro e w3 ⟨rfl, rfl⟩
  go_wp2
  go_ret
  exact ⟨rfl, HB2.out⟩
def bp : ByteArray := ⟨#[112]⟩
def bq : ByteArray := ⟨#[113]⟩
/-- the rows of head's policy -/
def hrows : List Rz := [⟨1, bp, 0, 0, 2⟩, ⟨2, bq, 0, 0, 0⟩, ⟨10, ⟨#[]⟩, 0, 0, 1⟩, ⟨11, ⟨#[]⟩, 0, 0, 1⟩, ⟨16, bq, 0, 0, 0⟩]
def hpl : Pl := ⟨bp, hrows, [(bq, false)], [], [], [], [-1], 3⟩
theorem res_head : res hrows = .ok hpl := by kernel_rfl
theorem unn_head : hrows.map unn = hrows := by kernel_rfl
theorem laid_head : laidAt hrows (sumsOf hrows []) 3 = 2 := by kernel_rfl
theorem tree_head : TreeZ hrows := (tree_of (by kernel_rfl)).1
theorem small_rz (w : World) : IsRz (w.alloc (.cells #[.int .i64 1, .string bp, .int .i64 0, .int .i64 0, .int .i64 2, .int .i64 2, .string bq, .int .i64 0, .int .i64 0, .int .i64 0, .int .i64 10, .string ⟨#[]⟩, .int .i64 0, .int .i64 0, .int .i64 1, .int .i64 11, .string ⟨#[]⟩, .int .i64 0, .int .i64 0, .int .i64 1, .int .i64 16, .string bq, .int .i64 0, .int .i64 0, .int .i64 0] 27)) (some ⟨w.heap.size, 0, none⟩) hrows := by
  have hb := heap_alloc_new w (.cells #[.int .i64 1, .string bp, .int .i64 0, .int .i64 0, .int .i64 2, .int .i64 2, .string bq, .int .i64 0, .int .i64 0, .int .i64 0, .int .i64 10, .string ⟨#[]⟩, .int .i64 0, .int .i64 0, .int .i64 1, .int .i64 11, .string ⟨#[]⟩, .int .i64 0, .int .i64 0, .int .i64 1, .int .i64 16, .string bq, .int .i64 0, .int .i64 0, .int .i64 0] 27)
  intro i x hx
  have hi : i < 5 := (List.getElem?_eq_some_iff.1 hx).1
  refine ⟨w.heap.size, 0, rfl, by simp, ?_⟩
  obtain rfl | rfl | rfl | rfl | rfl : i = 0 ∨ i = 1 ∨ i = 2 ∨ i = 3 ∨ i = 4 := by omega
  all_goals
    cases hx
    simp only [World.cell?, hb]
    exact ⟨rfl, rfl, rfl, rfl, rfl⟩
set_option maxHeartbeats 1600000 in
set_option maxRecDepth 100000 in
theorem small_any (w : World) : Calls Try.prog 16 #[] w fun e w' => e = .returned (.slice (some ⟨w.heap.size, 0, none⟩) 5 5) ∧ IsRz w' (some ⟨w.heap.size, 0, none⟩) hrows ∧ Below w.heap.size w w' := by
  have HR := show Hid _ from small_rz w
  have HB : Hid (∀ x, Below w.heap.size w (w.alloc x)) := fun x => (Below.refl _ w).alloc (Nat.le_refl _) x
  unfold bp bq at HR
  go_enter Try.func16, Try.ntmps16
  go_wp2
  go_ret
  exact ⟨rfl, HR.out, HB.out _⟩
end Go.Proofs.Ytenhjebiokegkaa.Nm
namespace Go.Proofs.Ytenhjebiokegkaa.Nm
open Go.RowKit Go.Maps Go.Proofs.Ytenhjebiokegkaa.Sp Go.Proofs.Ytenhjebiokegkaa.Lx Go.Proofs.Ytenhjebiokegkaa.Gr

theorem sm_head : hpl.Sm := ⟨by decide, by decide, by decide, by decide, by decide, by decide⟩
set_option maxHeartbeats 6400000 in
set_option maxRecDepth 100000 in
/-- what is told of head's policy -/
theorem head_any (w : World) : Calls Try.prog 7 #[] w fun e w' => e = .returned (.bool true) ∧ Below w.heap.size w w' := by
  have HSm := show Hid _ from small_any w
  go_enter Try.func7, Try.ntmps7
  go_wp2_with fail
  refine Calls.mono HSm.out ?_
  rintro e w1 ⟨rfl, hR, hb1⟩
  have HRs : Hid (Calls Try.prog 11 #[.slice (some ⟨w.heap.size, 0, none⟩) 5 5] w1 (Told w1 (.ok hpl))) := by
    have := resolve_any (cap := 5) hR (by decide)
    rw [res_head] at this
    exact this
  have HB1 : Hid (Below w.heap.size w w1) := hb1
  clear hR hb1 HSm
  go_wp2_with fail
  refine Calls.mono HRs.out ?_
  rintro e w2 ⟨hb2, v, rfl, hpl0⟩
  obtain ⟨rb, qo, vo, tto, uo, oo, ac, qc, vc, tc, uc, oc, hv0, hrw, hrd, hnat, huc⟩ := hpl0.rd
  have hv : v = .agg #[.string ⟨#[112]⟩, .slice (some ⟨rb, 0, none⟩) 5 ac, .slice qo 1 qc, .slice vo 0 vc, .slice tto 0 tc, .slice uo 0 uc, .slice oo 1 oc, .int .i64 3] := hv0
  clear hv0
  subst hv
  have HCk : Hid (∀ wq, Below w2.heap.size w2 wq → Calls Try.prog 17 #[.agg #[.string ⟨#[112]⟩, .slice (some ⟨rb, 0, none⟩) 5 ac, .slice qo 1 qc, .slice vo 0 vc, .slice tto 0 tc, .slice uo 0 uc, .slice oo 1 oc, .int .i64 3]] wq fun e w' => e = .returned (.int .i64 0) ∧ Below wq.heap.size wq w') := fun wq hb => check_told (p := hpl) (hrd.below hb) sm_head ((congrArg res unn_head).trans res_head)
  have HLd : Hid (∀ wq, Below w2.heap.size w2 wq → Calls Try.prog 12 #[.agg #[.string ⟨#[112]⟩, .slice (some ⟨rb, 0, none⟩) 5 ac, .slice qo 1 qc, .slice vo 0 vc, .slice tto 0 tc, .slice uo 0 uc, .slice oo 1 oc, .int .i64 3], .int .i64 3] wq fun e w' => e = .returned (.int .i64 2) ∧ Below wq.heap.size wq w') := fun wq hb => by
    refine Calls.mono (laid_told (p := hpl) (row := 3) (ac := ac) (qc := qc) (vc := vc) (tc := tc) (uc := uc) (oc := oc) (hrd.below hb) (hnat.below hb) huc sm_head (by decide) tree_head (fun u hu => by cases hu) (by decide)) ?_
    rintro e w' ⟨he, hb'⟩
    refine ⟨?_, hb'⟩
    rw [he]
    have : laidAt hpl.rows (sumsOf hpl.rows hpl.us) 3 = 2 := laid_head
    rw [this]
    rfl
  obtain ⟨g, o, rfl, hg, q0⟩ := hrd.q 0 _ rfl
  obtain ⟨g', o', rfl, hg', o0⟩ := hrd.o 0 _ rfl
  rw [Nat.add_zero] at q0 o0
  have HB2 : Hid (Below w.heap.size w w2) := HB1.out.trans (hb2.mono HB1.out.size)
  have hb3 : Below w2.heap.size w2 ((w2.alloc (.cells #[.string ⟨#[112]⟩, .slice (some ⟨rb, 0, none⟩) 5 ac, .slice (some ⟨g, o, none⟩) 1 qc, .slice vo 0 vc, .slice tto 0 tc, .slice uo 0 uc, .slice (some ⟨g', o', none⟩) 1 oc, .int .i64 3] 35)).alloc (.cells #[.int .i64 0, .int .i64 0] 37)) := ((Below.refl _ w2).alloc (Nat.le_refl _) _).alloc (by simp) _
  have hx1 : ((w2.alloc (.cells #[.string ⟨#[112]⟩, .slice (some ⟨rb, 0, none⟩) 5 ac, .slice (some ⟨g, o, none⟩) 1 qc, .slice vo 0 vc, .slice tto 0 tc, .slice uo 0 uc, .slice (some ⟨g', o', none⟩) 1 oc, .int .i64 3] 35)).alloc (.cells #[.int .i64 0, .int .i64 0] 37)).heap[w2.heap.size]? = some (.cells #[.string ⟨#[112]⟩, .slice (some ⟨rb, 0, none⟩) 5 ac, .slice (some ⟨g, o, none⟩) 1 qc, .slice vo 0 vc, .slice tto 0 tc, .slice uo 0 uc, .slice (some ⟨g', o', none⟩) 1 oc, .int .i64 3] 35 (0, 0)) := by rw [alloc_old _ _ _ (by simp)]; exact alloc_at _ _ _ rfl
  have hx2 : ((w2.alloc (.cells #[.string ⟨#[112]⟩, .slice (some ⟨rb, 0, none⟩) 5 ac, .slice (some ⟨g, o, none⟩) 1 qc, .slice vo 0 vc, .slice tto 0 tc, .slice uo 0 uc, .slice (some ⟨g', o', none⟩) 1 oc, .int .i64 3] 35)).alloc (.cells #[.int .i64 0, .int .i64 0] 37)).heap[w2.heap.size + 1]? = some (.cells #[.int .i64 0, .int .i64 0] 37 (0, 0)) := alloc_at _ _ _ (by simp)
  have q1 : ((w2.alloc (.cells #[.string ⟨#[112]⟩, .slice (some ⟨rb, 0, none⟩) 5 ac, .slice (some ⟨g, o, none⟩) 1 qc, .slice vo 0 vc, .slice tto 0 tc, .slice uo 0 uc, .slice (some ⟨g', o', none⟩) 1 oc, .int .i64 3] 35)).alloc (.cells #[.int .i64 0, .int .i64 0] 37)).cell? ⟨g, o, none⟩ = some (.string ⟨#[113]⟩) := (hb3.cell (p := ⟨g, o, none⟩) hg).trans q0
  have o1 : ((w2.alloc (.cells #[.string ⟨#[112]⟩, .slice (some ⟨rb, 0, none⟩) 5 ac, .slice (some ⟨g, o, none⟩) 1 qc, .slice vo 0 vc, .slice tto 0 tc, .slice uo 0 uc, .slice (some ⟨g', o', none⟩) 1 oc, .int .i64 3] 35)).alloc (.cells #[.int .i64 0, .int .i64 0] 37)).cell? ⟨g', o', none⟩ = some (.int .i64 (-1)) := (hb3.cell (p := ⟨g', o', none⟩) hg').trans o0
  have f0 : ((w2.alloc (.cells #[.string ⟨#[112]⟩, .slice (some ⟨rb, 0, none⟩) 5 ac, .slice (some ⟨g, o, none⟩) 1 qc, .slice vo 0 vc, .slice tto 0 tc, .slice uo 0 uc, .slice (some ⟨g', o', none⟩) 1 oc, .int .i64 3] 35)).alloc (.cells #[.int .i64 0, .int .i64 0] 37)).cell? ⟨w2.heap.size + 1, 0, none⟩ = some (.int .i64 0) := by rw [World.cell?, hx2]; rfl
  have f1 : ((w2.alloc (.cells #[.string ⟨#[112]⟩, .slice (some ⟨rb, 0, none⟩) 5 ac, .slice (some ⟨g, o, none⟩) 1 qc, .slice vo 0 vc, .slice tto 0 tc, .slice uo 0 uc, .slice (some ⟨g', o', none⟩) 1 oc, .int .i64 3] 35)).alloc (.cells #[.int .i64 0, .int .i64 0] 37)).cell? ⟨w2.heap.size + 1, 1, none⟩ = some (.int .i64 0) := by rw [World.cell?, hx2]; rfl
  obtain ⟨k0, k1, k2, k3, k4, k5, k6, k7⟩ := pol8 hx1
  have HC3 := show Hid _ from HCk.out _ hb3
  have HX := show Hid _ from hx1
  have HB3 := show Hid _ from hb3
  clear hb2 hb3 hx1 hx2 hpl0 hrw hrd hnat huc q0 o0 hg hg' HRs HCk
  go_wp2_with fail
  refine Calls.mono HC3.out ?_
  rintro e w4 ⟨rfl, hb4⟩
  clear k0 k1 k2 k3 k4 k5 k6 k7 q1 o1 f0 f1
  obtain ⟨k0, k1, k2, k3, k4, k5, k6, k7⟩ := pol8 ((hb4.block _ (blk_lt HX.out)).trans HX.out)
  have HB4 : Hid (Below w2.heap.size w2 w4) := HB3.out.trans (hb4.mono HB3.out.size)
  have HL4 := show Hid _ from HLd.out _ HB4.out
  clear hb4 HX HC3 HLd
  go_wp2_with fail
  refine Calls.mono HL4.out ?_
  rintro e w5 ⟨rfl, hb5⟩
  have HB5 : Hid (Below w.heap.size w w5) := HB2.out.trans ((HB4.out.trans (hb5.mono HB4.out.size)).mono HB2.out.size)
  clear hb5 HL4 k0 k1 k2 k3 k4 k5 k6 k7
  go_wp2
  go_ret
  exact ⟨rfl, HB5.out⟩
end Go.Proofs.Ytenhjebiokegkaa.Nm
