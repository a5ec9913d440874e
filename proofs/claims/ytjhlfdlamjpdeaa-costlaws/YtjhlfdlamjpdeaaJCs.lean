import Derived.Test.YtjhlfdlamjpdeaaCsPure
import Derived.Test.YtjhlfdlamjpdeaaNmEq
import Derived.Deep.LoopGhost
import Derived.Test.YtjhlfdlamjpdeaaPureTree2
import Derived.Test.YtjhlfdlamjpdeaaNmRows
import Derived.Test.YtjhlfdlamjpdeaaNmLay
import Derived.Test.YtjhlfdlamjpdeaaLxTail
import Derived.Test.YtjhlfdlamjpdeaaNmMake
import Derived.Test.YtjhlfdlamjpdeaaLxWhile
namespace Go.Proofs.Ytjhlfdlamjpdeaa.Nm
open Go.RowKit Go.Maps Go.Proofs.Ytjhlfdlamjpdeaa.Sp Go.Proofs.Ytjhlfdlamjpdeaa.Lx Go.Proofs.Ytjhlfdlamjpdeaa.Gr

theorem iv_at {l : List Int} {k : Nat} (h : k < l.length) : (iv l)[k]? = some (.int .i64 l[k]) := by rw [List.getElem?_map, List.getElem?_eq_getElem h]; rfl
set_option maxHeartbeats 6400000 in
set_option maxRecDepth 100000 in
/-- Sum -/
theorem sum_any {w : World} {ao : Option Addr} {l : List Int} {c : Nat} (h : IsVals w ao (iv l)) (hn : l.length ≤ 17592186043904) :
    Calls Try.prog 9 #[.slice ao l.length c] w fun e w' => e = .returned (.int .i64 (sumL l : Nat)) ∧ w' = w := by
  have H := show Hid _ from h
  have hn2 : (l.length : Int) ≤ 17592186043904 := by omega
  have HE : Hid (sumL (l.take l.length) = sumL l) := by show _ = _; rw [List.take_length]
  clear h hn
  go_enter Try.func9, Try.ntmps9
  go_wp2_with fail
  go_loopg [3, 8] l.length (fun gq x y wr => ∃ k : Nat, k + gq = l.length ∧ x = .int .i64 (sumL (l.take k) : Nat) ∧ y = .int .i64 (k : Int) ∧ wr = w)
  case atStart => exact ⟨0, by omega, rfl, rfl, rfl⟩
  case round =>
    obtain ⟨k, hkg, rfl, rfl, hw⟩ := hrel
    have HG : Hid (k + gk = l.length) := hkg
    subst hw
    by_cases hlt : k < l.length
    · have hk' : (k : Int) < (l.length : Int) := by omega
      have hk2 : (k : Int) ≤ 17592186043904 := by omega
      obtain ⟨g, o, rfl, _, d0⟩ := H.out k _ (iv_at hlt)
      have HS : Hid (sumL (l.take (k + 1)) = capS (sumL (l.take k) + l[k].toNat)) := sumL_step (List.getElem?_eq_getElem hlt)
      have hsl := sumL_le (l.take k)
      have HLt : Hid (k < l.length) := hlt
      generalize l[k] = x at *
      generalize hs : sumL (l.take k) = s at *
      clear hs
      have HP := show Hid _ from sum_prog s x hsl
      have hw1 : IntKind.i64.wrap (4611686018427387904 - min (max x 0) 4611686018427387904) = 4611686018427387904 - min (max x 0) 4611686018427387904 := by rw [IntKind.wrap_i64]; omega
      have hw2 : IntKind.i64.wrap (min (s : Int) (4611686018427387904 - min (max x 0) 4611686018427387904) + min (max x 0) 4611686018427387904) = ((capS (s + x.toNat) : Nat) : Int) := by
        rw [HP.out, IntKind.wrap_i64]
        have := capS_le (s + x.toNat)
        omega
      clear hkg hlt hsl
      go_wp2_with fail
      go_roundg (l.length - (k + 1))
      case measure => have := HG.out; have := HLt.out; omega
      case rel => exact ⟨k + 1, by have := HLt.out; omega, by rw [HS.out], by go_num, rfl⟩
    · have hk' : decide (k < l.length) = false := decide_eq_false hlt
      have hk2 : decide ((k : Int) < (l.length : Int)) = false := decide_eq_false (by omega)
      have hke : k = l.length := by omega
      have HR : Hid (sumL (l.take k) = sumL l) := by show _ = _; rw [hke]; exact HE.out
      clear hkg hlt hke
      go_wp2
      go_ret
      exact ⟨by rw [HR.out]; rfl, rfl⟩
end Go.Proofs.Ytjhlfdlamjpdeaa.Nm

namespace Go.Proofs.Ytjhlfdlamjpdeaa.Nm
open Go.RowKit Go.Maps Go.Proofs.Ytjhlfdlamjpdeaa.Sp Go.Proofs.Ytjhlfdlamjpdeaa.Lx Go.Proofs.Ytjhlfdlamjpdeaa.Gr

theorem quo_of {x : Int} (hx : 0 < x) : ∃ q : Nat, IntKind.i64.wrap (Int.tdiv 4611686018427387904 x) = (q : Int) ∧ q = 4611686018427387904 / x.toNat ∧ (q : Int) ≤ 4611686018427387904 := by
  obtain ⟨m, rfl⟩ := Int.eq_ofNat_of_zero_le (Int.le_of_lt hx)
  have h1 : Int.tdiv 4611686018427387904 (m : Int) = ((4611686018427387904 / m : Nat) : Int) := rfl
  have h2 : 4611686018427387904 / m ≤ 4611686018427387904 := Nat.div_le_self _ _
  refine ⟨4611686018427387904 / m, ?_, by simp, ?_⟩
  · rw [h1, IntKind.wrap_i64]
    generalize 4611686018427387904 / m = q at *
    omega
  · generalize 4611686018427387904 / m = q at *
    omega
theorem mul_toNat {s : Nat} {x : Int} (hx : 0 < x) : (s : Int) * x = ((s * x.toNat : Nat) : Int) := by
  obtain ⟨m, rfl⟩ := Int.eq_ofNat_of_zero_le (Int.le_of_lt hx)
  simp
set_option maxHeartbeats 6400000 in
set_option maxRecDepth 100000 in
/-- Times -/
theorem times_any {w : World} {ao : Option Addr} {l : List Int} {c : Nat} (h : IsVals w ao (iv l)) (hn : l.length ≤ 17592186043904) :
    Calls Try.prog 10 #[.slice ao l.length c] w fun e w' => e = .returned (.int .i64 (timL l : Nat)) ∧ w' = w := by
  have H := show Hid _ from h
  have hn2 : (l.length : Int) ≤ 17592186043904 := by omega
  have HE : Hid (timL (l.take l.length) = timL l) := by show _ = _; rw [List.take_length]
  clear h hn
  go_enter Try.func10, Try.ntmps10
  go_wp2_with fail
  go_loopg [3, 8] l.length (fun gq x y wr => ∃ k : Nat, k + gq = l.length ∧ x = .int .i64 (timL (l.take k) : Nat) ∧ y = .int .i64 (k : Int) ∧ wr = w)
  case atStart => exact ⟨0, by omega, rfl, rfl, rfl⟩
  case round =>
    obtain ⟨k, hkg, rfl, rfl, hw⟩ := hrel
    have HG : Hid (k + gk = l.length) := hkg
    subst hw
    by_cases hlt : k < l.length
    · have hk' : (k : Int) < (l.length : Int) := by omega
      have hk2 : (k : Int) ≤ 17592186043904 := by omega
      obtain ⟨g, o, rfl, _, d0⟩ := H.out k _ (iv_at hlt)
      have HS : Hid (timL (l.take (k + 1)) = capS (timL (l.take k) * l[k].toNat)) := timL_step (List.getElem?_eq_getElem hlt)
      have HZ : Hid (l[k] ≤ 0 → timL l = 0) := fun e => tprod_zero (List.getElem?_eq_getElem hlt) e
      have hsl := timL_le (l.take k)
      have HLt : Hid (k < l.length) := hlt
      generalize l[k] = x at *
      generalize hs : timL (l.take k) = s at *
      clear hs
      by_cases hx : x ≤ 0
      · have hx1 : decide (x ≤ 0) = true := decide_eq_true hx
        have HR : Hid (timL l = 0) := HZ.out hx
        clear hkg hlt hsl HZ hx
        go_wp2
        go_ret
        exact ⟨by rw [HR.out]; rfl, rfl⟩
      · have hx1 : decide (x ≤ 0) = false := decide_eq_false hx
        have hx2 : (x == 0) = false := by simp; omega
        have hx3 : ¬ x = 0 := by omega
        obtain ⟨q, hq, hq2, hq3⟩ := quo_of (x := x) (by omega)
        have hm := mul_toNat (s := s) (x := x) (by omega)
        by_cases hgt : q < s
        · have hg1 : decide ((q : Int) < (s : Int)) = true := decide_eq_true (by omega)
          have hg2 : (q : Int) < (s : Int) := by omega
          have HC : Hid (capS (s * x.toNat) = 4611686018427387904) := tim_over (by rw [← hq2]; exact hgt) (by omega)
          clear hkg hlt hsl HZ hx hq2 hm hgt
          go_wp2_with fail
          go_roundg (l.length - (k + 1))
          case measure => have := HG.out; have := HLt.out; omega
          case rel => exact ⟨k + 1, by have := HLt.out; omega, by rw [HS.out, HC.out]; rfl, by go_num, rfl⟩
        · have hg1 : decide ((q : Int) < (s : Int)) = false := decide_eq_false (by omega)
          have hg2 : decide (q < s) = false := decide_eq_false hgt
          obtain ⟨hc1, hc2⟩ := tim_in (p := s) (m := x.toNat) (by rw [← hq2]; exact hgt) (by omega)
          have hw2 : IntKind.i64.wrap ((s : Int) * x) = ((capS (s * x.toNat) : Nat) : Int) := by
            rw [hm, hc1, IntKind.wrap_i64]
            generalize s * x.toNat = z at *
            omega
          clear hkg hlt hsl HZ hx hq2 hm hgt hc1 hc2
          go_wp2_with fail
          go_roundg (l.length - (k + 1))
          case measure => have := HG.out; have := HLt.out; omega
          case rel => exact ⟨k + 1, by have := HLt.out; omega, by rw [HS.out], by go_num, rfl⟩
    · have hk' : decide (k < l.length) = false := decide_eq_false hlt
      have hk2 : decide ((k : Int) < (l.length : Int)) = false := decide_eq_false (by omega)
      have hke : k = l.length := by omega
      have HR : Hid (timL (l.take k) = timL l) := by show _ = _; rw [hke]; exact HE.out
      clear hkg hlt hke
      go_wp2
      go_ret
      exact ⟨by rw [HR.out]; rfl, rfl⟩
end Go.Proofs.Ytjhlfdlamjpdeaa.Nm

namespace Go.Proofs.Ytjhlfdlamjpdeaa.Nm
open Go.Proofs.Ytjhlfdlamjpdeaa.Gr

/-- numbers as they lie in memory -/
abbrev zi (ks : List Nat) : List Int := ks.map (fun n : Nat => (n : Int))
/-- the greatest -/
def mxL : List Nat → Nat
  | [] => 0
  | n :: l => max n (mxL l)
/-- the bound of a row, by those of its kids -/
def overN (l : List Rz) (rd : List Int) (rs : List Nat) (i : Nat) (ks : List Nat) : Nat :=
  if (rat l i).kind = 12 then sumL [1, (ks.getD 0 0 : Nat), (mxL (ks.drop 1) : Nat)]
  else if (rat l i).kind = 13 then sumL [1, (timL [rd.getD i 0, (sumL (zi (ks.drop 1)) : Nat)] : Nat)]
  else if (rat l i).kind = 22 then sumL [1, (rs.getD (rat l i).n.toNat 0 : Nat)]
  else if (rat l i).kind = 24 then 0
  else sumL [1, (sumL (zi ks) : Nat)]
theorem overN_le (l : List Rz) (rd : List Int) (rs : List Nat) (i : Nat) (ks : List Nat) : overN l rd rs i ks ≤ 4611686018427387904 := by
  unfold overN
  repeat' split
  all_goals first | exact sumL_le _ | exact Nat.zero_le _
def bndF (l : List Rz) (rd : List Int) (rs : List Nat) : Nat → Nat → Nat
  | 0, _ => 0
  | f + 1, i => overN l rd rs i ((List.range (km l i)).map fun k => bndF l rd rs f (kidp l i k))
/-- the bound of a row -/
def bnd (l : List Rz) (rd : List Int) (rs : List Nat) (i : Nat) : Nat := bndF l rd rs (endp l i - i) i
theorem bndF_le (l : List Rz) (rd : List Int) (rs : List Nat) (f i : Nat) : bndF l rd rs f i ≤ 4611686018427387904 := by
  cases f with
  | zero => exact Nat.zero_le _
  | succ f => exact overN_le _ _ _ _ _
theorem bnd_le (l : List Rz) (rd : List Int) (rs : List Nat) (i : Nat) : bnd l rd rs i ≤ 4611686018427387904 := bndF_le _ _ _ _ _
/-- kids end where their row does, at the latest -/
theorem kidMono {l : List Rz} (h : Whole l) {i : Nat} (hi : i < l.length) : ∀ d k, k + d ≤ km l i → kidp l i k ≤ kidp l i (k + d) := by
  intro d
  induction d with
  | zero => intro k _; exact Nat.le_refl _
  | succ d ih =>
    intro k hk
    have h1 := ih k (by omega)
    obtain ⟨h2, h3, _⟩ := kid_at h hi (k := k + d) (by omega)
    have h4 := (end_kid h h2).2.1
    rw [show k + (d + 1) = k + d + 1 by omega, h3]
    omega
theorem kidIn {l : List Rz} (h : Whole l) {i k : Nat} (hi : i < l.length) (hk : k < km l i) : i < kidp l i k ∧ kidp l i k < l.length ∧ endp l (kidp l i k) ≤ endp l i ∧ kidp l i (k + 1) = endp l (kidp l i k) := by
  obtain ⟨h1, h2, h3⟩ := kid_at h hi hk
  refine ⟨h3, h1, ?_, h2⟩
  rw [(end_kid h hi).1, ← h2]
  have := kidMono h hi (km l i - (k + 1)) (k + 1) (by omega)
  rwa [show k + 1 + (km l i - (k + 1)) = km l i by omega] at this
theorem bndF_fuel {l : List Rz} (rd : List Int) (rs : List Nat) (h : Whole l) : ∀ (f g i : Nat), i < l.length → endp l i - i ≤ f → endp l i - i ≤ g → bndF l rd rs f i = bndF l rd rs g i := by
  intro f
  induction f with
  | zero => intro g i hi hf; have := (end_kid h hi).2.1; omega
  | succ f ih =>
    intro g i hi hf hg
    cases g with
    | zero => have := (end_kid h hi).2.1; omega
    | succ g =>
      simp only [bndF]
      congr 1
      apply List.map_congr_left
      intro k hk
      have hk := List.mem_range.1 hk
      obtain ⟨h1, h2, h3, _⟩ := kidIn h hi hk
      have := (end_kid h h2).2.1
      exact ih g _ h2 (by omega) (by omega)
/-- the bounds of a row's kids -/
def bks (l : List Rz) (rd : List Int) (rs : List Nat) (i : Nat) : Nat → List Nat := fun m => (List.range m).map fun k => bnd l rd rs (kidp l i k)
theorem bks_len (l : List Rz) (rd : List Int) (rs : List Nat) (i m : Nat) : (bks l rd rs i m).length = m := by simp [bks]
theorem bks_succ (l : List Rz) (rd : List Int) (rs : List Nat) (i m : Nat) : bks l rd rs i (m + 1) = bks l rd rs i m ++ [bnd l rd rs (kidp l i m)] := by simp [bks, List.range_succ]
theorem bks_le (l : List Rz) (rd : List Int) (rs : List Nat) (i m : Nat) : ∀ x ∈ bks l rd rs i m, x ≤ 4611686018427387904 := fun x hx => by
  obtain ⟨k, _, rfl⟩ := List.mem_map.1 hx
  exact bnd_le _ _ _ _
theorem bnd_eq {l : List Rz} (rd : List Int) (rs : List Nat) (h : Whole l) {i : Nat} (hi : i < l.length) : bnd l rd rs i = overN l rd rs i (bks l rd rs i (km l i)) := by
  have h1 := (end_kid h hi).2.1
  unfold bnd
  obtain ⟨f, hf⟩ : ∃ f, endp l i - i = f + 1 := ⟨endp l i - i - 1, by omega⟩
  rw [hf]
  simp only [bndF]
  congr 1
  unfold bks
  apply List.map_congr_left
  intro k hk
  have hk := List.mem_range.1 hk
  obtain ⟨h2, h3, h4, _⟩ := kidIn h hi hk
  have := (end_kid h h3).2.1
  exact bndF_fuel rd rs h _ _ _ h3 (by omega) (by omega)
/-- only the rules that are called count -/
theorem bnd_rs {l : List Rz} (rd : List Int) {rs rs' : List Nat} (h : Whole l) : ∀ (f i : Nat), i < l.length → endp l i - i ≤ f → (∀ j, i ≤ j → j < endp l i → (rat l j).kind = 22 → rs.getD (rat l j).n.toNat 0 = rs'.getD (rat l j).n.toNat 0) → bnd l rd rs i = bnd l rd rs' i := by
  intro f
  induction f with
  | zero => intro i hi hf; have := (end_kid h hi).2.1; omega
  | succ f ih =>
    intro i hi hf hc
    rw [bnd_eq rd rs h hi, bnd_eq rd rs' h hi]
    have e : bks l rd rs i (km l i) = bks l rd rs' i (km l i) := by
      unfold bks
      apply List.map_congr_left
      intro k hk
      have hk := List.mem_range.1 hk
      obtain ⟨h2, h3, h4, _⟩ := kidIn h hi hk
      have := (end_kid h h3).2.1
      exact ih _ h3 (by omega) (fun j hj1 hj2 hj3 => hc j (by omega) (by omega) hj3)
    rw [e]
    unfold overN
    by_cases h22 : (rat l i).kind = 22
    · rw [hc i (Nat.le_refl _) (end_kid h hi).2.1 h22]
    · rw [if_neg h22, if_neg h22]
/-- the bounds of the rules' blocks, so many of them -/
def rsN (l : List Rz) (rd : List Int) (us : List Nat) : Nat → List Nat
  | 0 => []
  | k + 1 => rsN l rd us k ++ [bnd l rd (rsN l rd us k) (us.getD k 0)]
theorem rsN_len (l : List Rz) (rd : List Int) (us : List Nat) (k : Nat) : (rsN l rd us k).length = k := by
  induction k with
  | zero => rfl
  | succ k ih => simp [rsN, ih]
theorem rsN_le (l : List Rz) (rd : List Int) (us : List Nat) (k : Nat) : ∀ x ∈ rsN l rd us k, x ≤ 4611686018427387904 := by
  induction k with
  | zero => intro x hx; cases hx
  | succ k ih =>
    intro x hx
    rcases List.mem_append.1 hx with h | h
    · exact ih x h
    · simp only [List.mem_cons, List.not_mem_nil, or_false] at h
      rw [h]
      exact bnd_le _ _ _ _
theorem rsN_pre (l : List Rz) (rd : List Int) (us : List Nat) (k j i : Nat) (hi : i < k) : (rsN l rd us (k + j)).getD i 0 = (rsN l rd us k).getD i 0 := by
  induction j with
  | zero => rfl
  | succ j ih =>
    rw [← ih]
    show (rsN l rd us (k + j) ++ _).getD i 0 = _
    simp only [List.getD_eq_getElem?_getD]
    rw [List.getElem?_append_left (by rw [rsN_len]; omega)]
/-- the bounds of all rules' blocks -/
def rsAll (l : List Rz) (rd : List Int) (us : List Nat) : List Nat := rsN l rd us us.length
/-- a rule's is the bound of its block -/
theorem rs_rule {l : List Rz} {us : List Nat} (rd : List Int) (h : Whole l) (hul : ∀ u ∈ us, u < l.length) (hc : ∀ k (hk : k < us.length) j, us[k] ≤ j → j < endp l us[k] → (rat l j).kind = 22 → 0 ≤ (rat l j).n ∧ (rat l j).n < (k : Int)) {n : Nat} (hn : n < us.length) : (rsAll l rd us).getD n 0 = bnd l rd (rsAll l rd us) us[n] := by
  have e : us.length = (n + 1) + (us.length - (n + 1)) := by omega
  have e2 : us.length = n + (us.length - n) := by omega
  have hg : us.getD n 0 = us[n] := by simp [List.getD_eq_getElem?_getD, List.getElem?_eq_getElem hn]
  unfold rsAll
  have h1 : (rsN l rd us us.length).getD n 0 = bnd l rd (rsN l rd us n) us[n] := by
    rw [e, rsN_pre l rd us (n + 1) _ n (by omega)]
    show (rsN l rd us n ++ [_]).getD n 0 = _
    rw [List.getD_eq_getElem?_getD, List.getElem?_append_right (by rw [rsN_len]; omega), rsN_len, hg]
    simp
  rw [h1]
  refine bnd_rs rd h _ _ (hul _ (List.getElem_mem hn)) (Nat.le_refl _) (fun j hj1 hj2 hj3 => ?_)
  obtain ⟨h2, h3⟩ := hc n hn j hj1 hj2 hj3
  rw [e2, rsN_pre l rd us n _ _ (by omega)]
theorem mxL_le {ks : List Nat} {m : Nat} (h : ∀ x ∈ ks, x ≤ m) : mxL ks ≤ m := by
  induction ks with
  | nil => exact Nat.zero_le _
  | cons x ks ih =>
    have h1 := h x (by simp)
    have h2 := ih (fun y hy => h y (by simp [hy]))
    simp only [mxL]
    omega
theorem mxL_app (a b : List Nat) : mxL (a ++ b) = max (mxL a) (mxL b) := by
  induction a with
  | nil => simp [mxL]
  | cons x a ih => simp only [List.cons_append, mxL, ih]; omega
end Go.Proofs.Ytjhlfdlamjpdeaa.Nm

namespace Go.Proofs.Ytjhlfdlamjpdeaa.Nm
open Go.RowKit Go.Maps Go.Proofs.Ytjhlfdlamjpdeaa.Sp Go.Proofs.Ytjhlfdlamjpdeaa.Lx Go.Proofs.Ytjhlfdlamjpdeaa.Gr

theorem zi_at {ks : List Nat} {k : Nat} (h : k < ks.length) : (iv (zi ks))[k]? = some (.int .i64 (ks[k] : Nat)) := by simp [iv, zi, h]
theorem zi_len (ks : List Nat) : (zi ks).length = ks.length := by simp [zi]
theorem mxL_step {ks : List Nat} {k : Nat} (h : k < ks.length) : mxL (ks.take (k + 1)) = max (mxL (ks.take k)) ks[k] := by
  rw [take_step (List.getElem?_eq_getElem h), mxL_app]
  simp [mxL]
theorem mxL_take_le {ks : List Nat} {m : Nat} (h : ∀ x ∈ ks, x ≤ m) (k : Nat) : mxL (ks.take k) ≤ m := mxL_le fun x hx => h x (List.mem_of_mem_take hx)
set_option maxHeartbeats 6400000 in
set_option maxRecDepth 100000 in
/-- slices.Max -/
theorem max_any {w : World} {ao : Option Addr} {ks : List Nat} {c : Nat} (h : IsVals w ao (iv (zi ks))) (hn : ks.length ≤ 17592186043904) (h0 : 0 < ks.length) (hle : ∀ x ∈ ks, x ≤ 4611686018427387904) :
    Calls Try.prog 59 #[.slice ao ks.length c] w fun e w' => e = .returned (.int .i64 (mxL ks : Nat)) ∧ w' = w := by
  have H := show Hid _ from h
  have HM := show Hid _ from hle
  have hn2 : (ks.length : Int) ≤ 17592186043904 := by omega
  have h1 : decide ((ks.length : Int) < 1) = false := decide_eq_false (by omega)
  have h2 : (0 : Int) < (ks.length : Int) := by omega
  have HE : Hid (mxL (ks.take ks.length) = mxL ks) := by show _ = _; rw [List.take_length]
  obtain ⟨g, o, rfl, _, d0⟩ := h 0 _ (zi_at h0)
  have HF : Hid (mxL (ks.take 1) = ks[0]) := by show _ = _; rw [mxL_step h0]; simp [mxL]
  have HM0 : Hid (ks[0] ≤ 4611686018427387904 ∧ 0 < ks.length) := ⟨hle _ (List.getElem_mem h0), h0⟩
  rw [Nat.add_zero] at d0
  generalize ks[0] = k0 at *
  clear h hn hle h0
  go_enter Try.func59, Try.ntmps59
  go_wp2_with fail
  clear d0 h1
  go_loopg [3, 4] (ks.length - 1) (fun gq x y wr => ∃ k : Nat, 0 < k ∧ k + gq = ks.length ∧ x = .int .i64 (mxL (ks.take k) : Nat) ∧ y = .int .i64 (k : Int) ∧ wr = w)
  case atStart => exact ⟨1, by omega, by have := HM0.out.2; omega, by rw [HF.out], rfl, rfl⟩
  case round =>
    obtain ⟨k, hkp, hkg, rfl, rfl, hw⟩ := hrel
    have HG : Hid (k + gk = ks.length ∧ 0 < k) := ⟨hkg, hkp⟩
    subst hw
    by_cases hlt : k < ks.length
    · have hk' : (k : Int) < (ks.length : Int) := by omega
      have hk2 : (k : Int) ≤ 17592186043904 := by omega
      obtain ⟨g', o', e', _, d1⟩ := H.out k _ (zi_at hlt)
      cases e'
      have HS : Hid (mxL (ks.take (k + 1)) = max (mxL (ks.take k)) ks[k]) := mxL_step hlt
      have HLt : Hid (k < ks.length) := hlt
      generalize ks[k] = x at *
      generalize hs : mxL (ks.take k) = s at *
      have hmx : max (s : Int) (x : Int) = ((max s x : Nat) : Int) := by omega
      clear hs hkg hlt hkp
      go_wp2_with fail
      go_roundg (ks.length - (k + 1))
      case measure => have := HG.out; have := HLt.out; omega
      case rel => exact ⟨k + 1, by omega, by have := HLt.out; omega, by rw [HS.out], by go_num, rfl⟩
    · have hk' : decide (k < ks.length) = false := decide_eq_false hlt
      have hk2 : decide ((k : Int) < (ks.length : Int)) = false := decide_eq_false (by omega)
      have hke : k = ks.length := by omega
      have HR : Hid (mxL (ks.take k) = mxL ks) := by show _ = _; rw [hke]; exact HE.out
      clear hkg hlt hke hkp
      go_wp2
      go_ret
      exact ⟨by rw [HR.out]; rfl, rfl⟩
end Go.Proofs.Ytjhlfdlamjpdeaa.Nm

namespace Go.Proofs.Ytjhlfdlamjpdeaa.Nm
open Go.Proofs.Ytjhlfdlamjpdeaa.Gr

/-- costs -/
structure Co where
  on : List Nat
  miss : Nat
/-- one row is looked at: is it an event? -/
def evSt (l : List Rz) (rd : List Int) (rs : List Nat) (a : Nat) (c : Co) : Except Nat Co :=
  if (rat l a).kind = 8 ∨ (rat l a).kind = 9 ∨ (rat l a).kind = 10 then
    if 72057594037927936 < bnd l rd rs (a + 1) then .error a
    else if (rat l a).kind = 10 then .ok ⟨c.on, bnd l rd rs (a + 1)⟩
    else .ok ⟨c.on.set (rat l a).n.toNat (bnd l rd rs (a + 1)), c.miss⟩
  else .ok c
def evNx (l : List Rz) (rd : List Int) (rs : List Nat) (a : Nat) : Except Nat Co → Except Nat Co
  | .error e => .error e
  | .ok c => evSt l rd rs a c
def evN (l : List Rz) (rd : List Int) (rs : List Nat) (q : Nat) : Nat → Except Nat Co
  | 0 => .ok ⟨List.replicate q 0, 0⟩
  | k + 1 => evNx l rd rs k (evN l rd rs q k)
theorem evSt_len {l : List Rz} {rd : List Int} {rs : List Nat} {a : Nat} {c c' : Co} (h : evSt l rd rs a c = .ok c') : c'.on.length = c.on.length := by
  unfold evSt at h
  split at h
  · split at h
    · cases h
    · split at h
      · cases h; rfl
      · cases h; simp
  · cases h; rfl
theorem evN_len {l : List Rz} {rd : List Int} {rs : List Nat} {q k : Nat} {c : Co} (h : evN l rd rs q k = .ok c) : c.on.length = q := by
  induction k generalizing c with
  | zero => cases h; simp
  | succ k ih =>
    simp only [evN] at h
    cases hk : evN l rd rs q k with
    | error e => rw [hk] at h; cases h
    | ok c0 =>
      rw [hk] at h
      rw [evSt_len h, ih hk]
/-- an error stays -/
theorem evN_err {l : List Rz} {rd : List Int} {rs : List Nat} {q k e : Nat} (h : evN l rd rs q k = .error e) (j : Nat) : evN l rd rs q (k + j) = .error e := by
  induction j with
  | zero => exact h
  | succ j ih =>
    show evNx l rd rs (k + j) (evN l rd rs q (k + j)) = _
    rw [ih]
    rfl
end Go.Proofs.Ytjhlfdlamjpdeaa.Nm

namespace Go.Proofs.Ytjhlfdlamjpdeaa.Nm
open Go.RowKit Go.Maps Go.Proofs.Ytjhlfdlamjpdeaa.Sp Go.Proofs.Ytjhlfdlamjpdeaa.Lx Go.Proofs.Ytjhlfdlamjpdeaa.Gr

/-- what cost reads -/
structure Rg (w : World) (b : Nat) (ao uo eo : Option Addr) (ac uc ec : Nat) (l : List Rz) (us : List Nat) (rd : List Int) : Prop where
  box : w.heap[b]? = some (.cells #[.slice ao l.length ac, .slice uo us.length uc, .slice eo rd.length ec] 55 (0, 0))
  r : IsRz w ao l
  u : IsNats w uo us
  d : IsVals w eo (iv rd)
theorem blk_in {u : World} {k : Nat} {x : Obj} (hk : u.heap[k]? = some x) : k < u.heap.size := (Array.getElem?_eq_some_iff.1 hk).1
theorem Rg.below {w w' : World} {b : Nat} {ao uo eo : Option Addr} {ac uc ec : Nat} {l : List Rz} {us : List Nat} {rd : List Int} (h : Rg w b ao uo eo ac uc ec l us rd) (hb : Below w.heap.size w w') : Rg w' b ao uo eo ac uc ec l us rd := ⟨(hb.block _ (blk_in h.box)).trans h.box, h.r.below hb, h.u.below hb, h.d.below hb⟩
/-- what is known of the rows -/
structure Pc (l : List Rz) (us : List Nat) (rd : List Int) : Prop where
  tree : TreeZ l
  len : l.length ≤ 65536
  rl : rd.length = l.length
  iff : ∀ i, i < l.length → (rat l i).kind = 12 → 2 ≤ km l i
  loop : ∀ i, i < l.length → (rat l i).kind = 13 → 2 ≤ km l i
  ev : ∀ i, i < l.length → (rat l i).kind = 8 ∨ (rat l i).kind = 9 ∨ (rat l i).kind = 10 → 1 ≤ km l i
  um : us.length ≤ 64
  ul : ∀ u ∈ us, u < l.length
  ahead : ∀ k (hk : k < us.length) j, us[k] ≤ j → j < endp l us[k] → (rat l j).kind = 22 → 0 ≤ (rat l j).n ∧ (rat l j).n < (k : Int)
  there : ∀ j, j < l.length → (rat l j).kind = 22 → 0 ≤ (rat l j).n ∧ (rat l j).n < (us.length : Int)
theorem dN (w : World) (n : Nat) : Below w.heap.size w (w.drewN n) := Go.Proofs.Ytjhlfdlamjpdeaa.Lx.below_drewN w n
/-- numbers in a new row -/
theorem vals_new (w : World) (xs : List Value) (T : TypeId) : IsVals (w.alloc (.cells xs.toArray T)) (some ⟨w.heap.size, 0, none⟩) xs := fun k x hx => by
  refine ⟨w.heap.size, 0, rfl, by simp, ?_⟩
  simp only [World.cell?, heap_alloc_new w (.cells xs.toArray T), Nat.zero_add]
  simpa using hx
theorem vals_drop1 {w : World} {g o : Nat} {ks : List Nat} (h : IsVals w (some ⟨g, o, none⟩) (iv (zi ks))) : IsVals w (some ⟨g, o + 1, none⟩) (iv (zi (ks.drop 1))) := fun k x hx => by
  have : (iv (zi ks))[k + 1]? = some x := by
    rw [← hx]
    simp [iv, zi]
  obtain ⟨g', o', e, h1, h2⟩ := h (k + 1) x this
  cases e
  exact ⟨_, _, rfl, h1, by rw [show o + 1 + k = o + (k + 1) by omega]; exact h2⟩
theorem read3 {wq : World} {B : Nat} {v0 v1 v2 : Value} {T : TypeId} (h : wq.heap[B]? = some (.cells #[v0, v1, v2] T (0, 0))) : wq.cell? ⟨B, 0, none⟩ = some v0 ∧ wq.cell? ⟨B, 1, none⟩ = some v1 ∧ wq.cell? ⟨B, 2, none⟩ = some v2 := by
  refine ⟨?_, ?_, ?_⟩
  all_goals
    simp only [World.cell?, h]
    rfl
theorem row5 {wq : World} {B : Nat} {v0 v1 v2 v3 v4 : Value} {T : TypeId} (h : wq.heap[B]? = some (.cells #[v0, v1, v2, v3, v4] T (0, 0))) : wq.cell? ⟨B, 0, none⟩ = some v0 ∧ wq.cell? ⟨B, 3, none⟩ = some v3 := by
  refine ⟨?_, ?_⟩
  all_goals
    simp only [World.cell?, h]
    rfl
theorem sum3 (W : World) (x y : Nat) : Calls Try.prog 9 #[.slice (some ⟨W.heap.size, 0, none⟩) 3 3] (W.alloc (.cells #[.int .i64 1, .int .i64 (x : Int), .int .i64 (y : Int)] 3)) fun e w' => e = .returned (.int .i64 (sumL [1, (x : Int), (y : Int)] : Nat)) ∧ w' = W.alloc (.cells #[.int .i64 1, .int .i64 (x : Int), .int .i64 (y : Int)] 3) := sum_any (l := [1, (x : Int), (y : Int)]) (c := 3) (vals_new W _ _) (show 3 ≤ 17592186043904 by decide)
theorem sum2 (W : World) (x : Nat) : Calls Try.prog 9 #[.slice (some ⟨W.heap.size, 0, none⟩) 2 2] (W.alloc (.cells #[.int .i64 1, .int .i64 (x : Int)] 3)) fun e w' => e = .returned (.int .i64 (sumL [1, (x : Int)] : Nat)) ∧ w' = W.alloc (.cells #[.int .i64 1, .int .i64 (x : Int)] 3) := sum_any (l := [1, (x : Int)]) (c := 2) (vals_new W _ _) (show 2 ≤ 17592186043904 by decide)
theorem times2 (W : World) (x : Int) (y : Nat) : Calls Try.prog 10 #[.slice (some ⟨W.heap.size, 0, none⟩) 2 2] (W.alloc (.cells #[.int .i64 x, .int .i64 (y : Int)] 3)) fun e w' => e = .returned (.int .i64 (timL [x, (y : Int)] : Nat)) ∧ w' = W.alloc (.cells #[.int .i64 x, .int .i64 (y : Int)] 3) := times_any (l := [x, (y : Int)]) (c := 2) (vals_new W _ _) (show 2 ≤ 17592186043904 by decide)
theorem sumK {w : World} {ao : Option Addr} {ks : List Nat} {c : Nat} (h : IsVals w ao (iv (zi ks))) (hn : ks.length ≤ 65536) : Calls Try.prog 9 #[.slice ao ks.length c] w fun e w' => e = .returned (.int .i64 (sumL (zi ks) : Nat)) ∧ w' = w := by
  have := sum_any (c := c) h (by rw [zi_len]; omega)
  rw [zi_len] at this
  exact this
set_option maxHeartbeats 12800000 in
set_option maxRecDepth 100000 in
/-- the bound of a row, by those of its kids -/
theorem over_any {w : World} {b : Nat} {ao uo eo ko : Option Addr} {ac uc ec kc : Nat} {l : List Rz} {us rs ks : List Nat} {rd : List Int} {i : Nat} (hS : Pc l us rd) (h : Rg w b ao uo eo ac uc ec l us rd) (hi : i < l.length) (hk : IsVals w ko (iv (zi ks))) (hkm : ks.length = km l i) (hkc : ks.length ≤ kc) (hkc2 : kc ≤ 65536) (hle : ∀ x ∈ ks, x ≤ 4611686018427387904)
    (HC : (rat l i).kind = 22 → ∃ n u : Nat, (rat l i).n = (n : Int) ∧ us[n]? = some u ∧ ∀ W, Below w.heap.size w W → Calls Try.prog 31 #[.pointer (some ⟨b, 0, none⟩), .int .i64 (u : Int)] W fun e W' => e = .returned (.tuple #[.int .i64 (rs.getD n 0 : Nat), .int .i64 (endp l u : Nat)]) ∧ Below W.heap.size W W') :
    Calls Try.prog 44 #[.pointer (some ⟨b, 0, none⟩), .int .i64 (i : Int), .slice ko ks.length kc] w fun e w' => e = .returned (.int .i64 (overN l rd rs i ks : Nat)) ∧ Below w.heap.size w w' := by
  obtain ⟨g, o, rfl, hg, c0, c1, c2, c3, c4⟩ := h.r i _ (some_rat hi)
  obtain ⟨b0, b1, b2⟩ := read3 h.box
  have hi1 : (i : Int) < (l.length : Int) := by omega
  have hi2 : (i : Int) ≤ 65536 := by have := hS.len; omega
  have hl2 : (l.length : Int) ≤ 65536 := by have := hS.len; omega
  have hb1 : ∀ x, Below w.heap.size w (w.alloc x) := fun x => (Below.refl _ w).alloc (Nat.le_refl _) x
  have HB1 := show Hid _ from hb1
  have HR := show Hid _ from h
  have HK := show Hid _ from hk
  have HM : Hid (ks.length = km l i ∧ ks.length ≤ kc ∧ kc ≤ 65536) := ⟨hkm, hkc, hkc2⟩
  have HLe := show Hid _ from hle
  have HCc := show Hid _ from HC
  have HIf : Hid ((rat l i).kind = 12 → 2 ≤ ks.length) := fun e => by rw [hkm]; exact hS.iff i hi e
  have HLp : Hid ((rat l i).kind = 13 → 2 ≤ ks.length) := fun e => by rw [hkm]; exact hS.loop i hi e
  have HD := show Hid _ from hS.rl
  have HO : Hid (overN l rd rs i ks = if (rat l i).kind = 12 then sumL [1, (ks.getD 0 0 : Nat), (mxL (ks.drop 1) : Nat)]
  else if (rat l i).kind = 13 then sumL [1, (timL [rd.getD i 0, (sumL (zi (ks.drop 1)) : Nat)] : Nat)]
  else if (rat l i).kind = 22 then sumL [1, (rs.getD (rat l i).n.toNat 0 : Nat)]
  else if (rat l i).kind = 24 then 0
  else sumL [1, (sumL (zi ks) : Nat)]) := rfl
  generalize overN l rd rs i ks = res at *
  have HI := show Hid _ from hi
  clear h hk hkm hkc hkc2 hle HC hi hb1
  generalize rat l i = x at *
  obtain ⟨kd, nm, st, n, kk⟩ := x
  dsimp only at *
  have hkc4 : (kc : Int) ≤ 65536 := by have := HM.out.2.2; omega
  have hkc5 : (ks.length : Int) ≤ (kc : Int) := by have := HM.out.2.1; omega
  have hkc6 : (ks.length : Int) ≤ 65536 := by omega
  have hnew := heap_alloc_new w (.cells #[.int .i64 kd, .string nm, .int .i64 st, .int .i64 n, .int .i64 kk] 35)
  have HX : Hid (Below w.heap.size w (w.alloc (.cells #[.int .i64 kd, .string nm, .int .i64 st, .int .i64 n, .int .i64 kk] 35))) := HB1.out _
  obtain ⟨x0, x3⟩ := row5 hnew
  have HNw := show Hid _ from hnew
  clear hnew HB1
  by_cases h12 : kd = 12
  · subst h12
    have HO1 : Hid (res = sumL [1, (ks.getD 0 0 : Nat), (mxL (ks.drop 1) : Nat)]) := HO.out
    have h2k := HIf.out rfl
    clear HIf HLp HCc HO
    obtain ⟨kg, kof, rfl, hkg, d0⟩ := HK.out 0 _ (zi_at (by omega))
    rw [Nat.add_zero] at d0
    have hks1 : (0 : Int) < (ks.length : Int) := by omega
    have hks2 : (1 : Int) ≤ (ks.length : Int) := by omega
    have hks3 : 0 < ks.length := by omega
    have hks4 : 1 ≤ ks.length := by omega
    have hkc9 : ¬ kc = 1 := by have := HM.out.2.1; omega
    have HK0 : Hid (ks.getD 0 0 = ks[0] ∧ ks[0] ≤ 4611686018427387904) := ⟨by simp [List.getD_eq_getElem?_getD, List.getElem?_eq_getElem (show 0 < ks.length by omega)], HLe.out _ (List.getElem_mem _)⟩
    rw [HK0.out.1] at HO1
    have HK0' := HK0.out.2
    clear HK0
    generalize ks[0] = k0 at *
    have HV : Hid (IsVals w (some ⟨kg, kof + 1, none⟩) (iv (zi (ks.drop 1)))) := vals_drop1 HK.out
    have HMx : Hid (∀ W, Below w.heap.size w W → Calls Try.prog 59 #[.slice (some ⟨kg, kof + 1, none⟩) (ks.length - 1) (kc - 1)] W fun e w' => e = .returned (.int .i64 (mxL (ks.drop 1) : Nat)) ∧ w' = W) := fun W hW => by
      have := max_any (c := kc - 1) (HV.out.below hW) (by rw [List.length_drop]; have := HM.out; omega) (by rw [List.length_drop]; omega) (fun x hx => HLe.out x (List.mem_of_mem_drop hx))
      rw [List.length_drop] at this
      exact this
    generalize mxL (ks.drop 1) = mx at *
    clear HV h2k
    go_enter Try.func44, Try.ntmps44
    go_wp2_with fail
    generalize w.alloc (.cells #[.int .i64 12, .string nm, .int .i64 st, .int .i64 n, .int .i64 kk] 35) = W0 at *
    have hd0 : ∀ j, (W0.drewN j).cell? ⟨kg, kof, none⟩ = some (.int .i64 (k0 : Int)) := fun j => (HX.out.cell (p := ⟨kg, kof, none⟩) hkg).trans d0
    have HMj : Hid (∀ j, Calls Try.prog 59 #[.slice (some ⟨kg, kof + 1, none⟩) (ks.length - 1) (kc - 1)] (W0.drewN j) fun e w' => e = .returned (.int .i64 (mx : Nat)) ∧ w' = W0.drewN j) := fun j => HMx.out _ (HX.out.trans ((dN W0 j).mono HX.out.size))
    clear d0 x0 x3 c0 c1 c2 c3 c4 b0 b1 b2 HMx
    refine wp_region_quiet_tail (C := fun w' => ∃ j, w' = W0.drewN j) 6 (by kernel_rfl) (by kernel_rfl) ⟨1, rfl⟩ ?_
    simp only [List.take_succ_cons, List.take_zero, List.drop_succ_cons, List.drop_zero]
    iterate 6 quiet_step ((go_at_call 59; exact Calls.quiet_of_same (HMj.out _)))
    refine wpQuiet_nil ?_
    rintro _ ⟨j, rfl⟩
    have HXj : Hid (Below w.heap.size w (W0.drewN j)) := HX.out.trans ((dN W0 j).mono HX.out.size)
    clear hd0 HMj
    generalize W0.drewN j = W1 at *
    have HS3 := show Hid _ from sum3 W1 k0 mx
    go_wp2_with fail
    refine Calls.mono HS3.out ?_
    rintro e w2 ⟨rfl, rfl⟩
    go_wp2
    go_ret
    exact ⟨by rw [HO1.out]; rfl, HXj.out.alloc HXj.out.size _⟩
  · by_cases h13 : kd = 13
    · subst h13
      have HO1 : Hid (res = sumL [1, (timL [rd.getD i 0, (sumL (zi (ks.drop 1)) : Nat)] : Nat)]) := HO.out
      have h2k := HLp.out rfl
      clear HIf HLp HCc HO h12
      obtain ⟨kg, kof, rfl, hkg, d0⟩ := HK.out 0 _ (zi_at (by omega))
      have hid : i < rd.length := by have := HD.out; have := HI.out; omega
      obtain ⟨eg, eof, rfl, heg, e0⟩ := HR.out.d i _ (iv_at hid)
      have HK0 : Hid (rd.getD i 0 = rd[i]) := by show _ = _; simp [List.getD_eq_getElem?_getD, List.getElem?_eq_getElem hid]
      rw [HK0.out] at HO1
      have hrd1 : (i : Int) < (rd.length : Int) := by omega
      generalize rd[i] = ri at *
      have hks1 : (0 : Int) < (ks.length : Int) := by omega
      have hks2 : (1 : Int) ≤ (ks.length : Int) := by omega
      have hks3 : 0 < ks.length := by omega
      have hks4 : 1 ≤ ks.length := by omega
      have hkc9 : ¬ kc = 1 := by have := HM.out.2.1; omega
      have HV : Hid (IsVals w (some ⟨kg, kof + 1, none⟩) (iv (zi (ks.drop 1)))) := vals_drop1 HK.out
      have HSk : Hid (∀ W, Below w.heap.size w W → Calls Try.prog 9 #[.slice (some ⟨kg, kof + 1, none⟩) (ks.length - 1) (kc - 1)] W fun e w' => e = .returned (.int .i64 (sumL (zi (ks.drop 1)) : Nat)) ∧ w' = W) := fun W hW => by
        have := sumK (c := kc - 1) (HV.out.below hW) (by rw [List.length_drop]; have := HM.out; omega)
        rw [List.length_drop] at this
        exact this
      generalize sumL (zi (ks.drop 1)) = sk at *
      clear HV h2k HK0 d0 hid
      go_enter Try.func44, Try.ntmps44
      go_wp2_with fail
      generalize w.alloc (.cells #[.int .i64 13, .string nm, .int .i64 st, .int .i64 n, .int .i64 kk] 35) = W0 at *
      have hd0 : ∀ j, (W0.drewN j).cell? ⟨eg, eof + i, none⟩ = some (.int .i64 ri) := fun j => (HX.out.cell (p := ⟨eg, eof + i, none⟩) heg).trans e0
      have hd1 : ∀ j, (W0.drewN j).cell? ⟨b, 2, none⟩ = some (.slice (some ⟨eg, eof, none⟩) rd.length ec) := fun j => (HX.out.cell (p := ⟨b, 2, none⟩) (blk_in HR.out.box)).trans b2
      have HMj : Hid (∀ j, Calls Try.prog 9 #[.slice (some ⟨kg, kof + 1, none⟩) (ks.length - 1) (kc - 1)] (W0.drewN j) fun e w' => e = .returned (.int .i64 (sk : Nat)) ∧ w' = W0.drewN j) := fun j => HSk.out _ (HX.out.trans ((dN W0 j).mono HX.out.size))
      clear e0 x0 x3 c0 c1 c2 c3 c4 b0 b1 b2 HSk
      refine wp_region_quiet_tail (C := fun w' => ∃ j, w' = W0.drewN j) 10 (by kernel_rfl) (by kernel_rfl) ⟨1, rfl⟩ ?_
      simp only [List.take_succ_cons, List.take_zero, List.drop_succ_cons, List.drop_zero]
      iterate 10 quiet_step ((go_at_call 9; exact Calls.quiet_of_same (HMj.out _)))
      refine wpQuiet_nil ?_
      rintro _ ⟨j, rfl⟩
      have HXj : Hid (Below w.heap.size w (W0.drewN j)) := HX.out.trans ((dN W0 j).mono HX.out.size)
      clear hd0 hd1 HMj
      generalize W0.drewN j = W1 at *
      have HT2 := show Hid _ from times2 W1 ri sk
      generalize timL [ri, (sk : Int)] = tk at *
      have HXk : Hid (Below w.heap.size w (W1.alloc (.cells #[.int .i64 ri, .int .i64 (sk : Int)] 3))) := HXj.out.alloc HXj.out.size _
      go_wp2_with fail
      refine Calls.mono HT2.out ?_
      rintro e w2 ⟨rfl, rfl⟩
      clear HT2
      generalize W1.alloc (.cells #[.int .i64 ri, .int .i64 (sk : Int)] 3) = W2 at *
      have HS3 := show Hid _ from sum2 W2 tk
      go_wp2_with fail
      refine Calls.mono HS3.out ?_
      rintro e w2 ⟨rfl, rfl⟩
      go_wp2
      go_ret
      exact ⟨by rw [HO1.out]; rfl, HXk.out.alloc HXk.out.size _⟩
    · by_cases h22 : kd = 22
      · subst h22
        obtain ⟨m, u, hm, hu, HCu⟩ := HCc.out rfl
        have HO1 : Hid (res = sumL [1, (rs.getD m 0 : Nat)]) := by
          have := HO.out
          rw [if_neg (by decide), if_neg (by decide), if_pos rfl] at this
          rw [hm] at this
          exact this
        clear HIf HLp HCc HO h12 h13
        subst hm
        obtain ⟨ug, uof, rfl, hug, u0⟩ := HR.out.u m u hu
        have hmu : m < us.length := (List.getElem?_eq_some_iff.1 hu).1
        have hm1 : (m : Int) < (us.length : Int) := by omega
        have hm2 : (us.length : Int) ≤ 64 := by have := hS.um; omega
        have HCw := show Hid _ from HCu
        generalize rs.getD m 0 = rm at *
        generalize endp l u = eu at *
        clear HCu hu
        go_enter Try.func44, Try.ntmps44
        go_wp2_with fail
        generalize w.alloc (.cells #[.int .i64 22, .string nm, .int .i64 st, .int .i64 (m : Int), .int .i64 kk] 35) = W0 at *
        have hne : Nonempty (Kin W0) := Kin.there _
        have hd0 : ∀ y : Kin W0, y.u.cell? ⟨ug, uof + m, none⟩ = some (.int .i64 (u : Int)) := fun y => y.cell (a := ⟨ug, uof + m, none⟩) (Nat.lt_of_lt_of_le hug HX.out.size) ((HX.out.cell (p := ⟨ug, uof + m, none⟩) hug).trans u0)
        have hd1 : ∀ y : Kin W0, y.u.cell? ⟨b, 1, none⟩ = some (.slice (some ⟨ug, uof, none⟩) us.length uc) := fun y => y.cell (a := ⟨b, 1, none⟩) (Nat.lt_of_lt_of_le (blk_in HR.out.box) HX.out.size) ((HX.out.cell (p := ⟨b, 1, none⟩) (blk_in HR.out.box)).trans b1)
        have hd2 : ∀ y : Kin W0, y.u.cell? ⟨w.heap.size, 3, none⟩ = some (.int .i64 (m : Int)) := fun y => y.cell (a := ⟨w.heap.size, 3, none⟩) (blk_in HNw.out) x3
        have HWy : Hid (∀ y : Kin W0, Calls Try.prog 31 #[.pointer (some ⟨b, 0, none⟩), .int .i64 (u : Int)] y.u fun e w' => e = .returned (.tuple #[.int .i64 (rm : Nat), .int .i64 (eu : Nat)]) ∧ Below y.u.heap.size y.u w') := fun y => HCw.out y.u (HX.out.trans (y.ok.mono HX.out.size))
        clear u0 x0 x3 c0 c1 c2 c3 c4 b0 b1 b2 HCw
        refine wp_region_kin (by kernel_rfl) (by kernel_rfl) ?_
        iterate 10 quiet_step (exact kin_of (HWy.out _))
        iterate 5 quiet_step (fail)
        refine wpQuiet_nil ?_
        rintro _ ⟨y, rfl⟩
        have HXk : Hid (Below w.heap.size w y.u) := HX.out.trans (y.ok.mono HX.out.size)
        clear hd0 hd1 hd2 HWy
        generalize y.u = w2 at *
        have HS3 := show Hid _ from sum2 w2 rm
        clear hne
        go_wp2_with fail
        refine Calls.mono HS3.out ?_
        rintro e w3 ⟨rfl, rfl⟩
        go_wp2
        go_ret
        exact ⟨by rw [HO1.out]; rfl, HXk.out.alloc HXk.out.size _⟩
      · by_cases h24 : kd = 24
        · subst h24
          have HO1 : Hid (res = 0) := HO.out
          clear HIf HLp HCc HO h12 h13 h22
          go_enter Try.func44, Try.ntmps44
          go_wp2
          go_ret
          exact ⟨by rw [HO1.out]; rfl, HX.out⟩
        · have HO1 : Hid (res = sumL [1, (sumL (zi ks) : Nat)]) := by
            have := HO.out
            rw [if_neg h12, if_neg h13, if_neg h22, if_neg h24] at this
            exact this
          have q12 : (kd == 12) = false := by simp [h12]
          have q13 : (kd == 13) = false := by simp [h13]
          have q22 : (kd == 22) = false := by simp [h22]
          have q24 : (kd == 24) = false := by simp [h24]
          have HV : Hid (IsVals w ko (iv (zi ks))) := HK.out
          have HSk : Hid (∀ W, Below w.heap.size w W → Calls Try.prog 9 #[.slice ko ks.length kc] W fun e w' => e = .returned (.int .i64 (sumL (zi ks) : Nat)) ∧ w' = W) := fun W hW => sumK (HV.out.below hW) (by have := HM.out; omega)
          generalize sumL (zi ks) = sk at *
          have HS1 := show Hid _ from HSk.out _ HX.out
          have HS3 := show Hid _ from sum2 (w.alloc (.cells #[.int .i64 kd, .string nm, .int .i64 st, .int .i64 n, .int .i64 kk] 35)) sk
          clear HIf HLp HCc HO h12 h13 h22 h24 HV HSk
          go_enter Try.func44, Try.ntmps44
          go_wp2_with fail
          generalize w.alloc (.cells #[.int .i64 kd, .string nm, .int .i64 st, .int .i64 n, .int .i64 kk] 35) = W0 at *
          refine Calls.mono HS1.out ?_
          rintro e w2 ⟨rfl, rfl⟩
          go_wp2_with fail
          refine Calls.mono HS3.out ?_
          rintro e w3 ⟨rfl, rfl⟩
          go_wp2
          go_ret
          exact ⟨by rw [HO1.out]; rfl, HX.out.alloc HX.out.size _⟩
end Go.Proofs.Ytjhlfdlamjpdeaa.Nm

namespace Go.Proofs.Ytjhlfdlamjpdeaa.Nm
open Go.RowKit Go.Maps Go.Proofs.Ytjhlfdlamjpdeaa.Sp Go.Proofs.Ytjhlfdlamjpdeaa.Lx Go.Proofs.Ytjhlfdlamjpdeaa.Gr

/-- a row of numbers, in a block of its own -/
def RowN (w : World) (g : Nat) (l : List Nat) : Prop := w.heap[g]? = some (.cells (iv (zi l)).toArray 3 (0, 0))
theorem RowN.lt {w : World} {g : Nat} {l : List Nat} (h : RowN w g l) : g < w.heap.size := blk_in h
theorem RowN.vals {w : World} {g : Nat} {l : List Nat} (h : RowN w g l) : IsVals w (some ⟨g, 0, none⟩) (iv (zi l)) := fun k x hx => ⟨g, 0, rfl, h.lt, by
  unfold RowN at h
  simp only [World.cell?, h, Nat.zero_add]
  simpa using hx⟩
theorem RowN.below {w w' : World} {g b : Nat} {l : List Nat} (h : RowN w g l) (hb : Below b w w') (hg : g < b) : RowN w' g l := (hb.block g hg).trans h
theorem RowN.frozen {w : World} {g : Nat} {l : List Nat} (h : RowN w g l) (j : Nat) : w.frozen? ⟨g, j, none⟩ = false := by
  unfold RowN at h
  simp [World.frozen?, h]
theorem RowN.cell {w : World} {g k : Nat} {l : List Nat} (h : RowN w g l) (hk : k < l.length) : w.cell? ⟨g, k, none⟩ = some (.int .i64 (l[k] : Nat)) := by
  obtain ⟨g', o, e, _, h1⟩ := h.vals k _ (zi_at hk)
  cases e
  rw [Nat.zero_add] at h1
  exact h1
theorem RowN.set {w : World} {g : Nat} {l : List Nat} (h : RowN w g l) (k n : Nat) : RowN (w.setCell ⟨g, k, none⟩ (.int .i64 (n : Int))) g (l.set k n) := by
  unfold RowN at h ⊢
  rw [heap_setCell_same w g k _ _ _ h]
  simp [iv, zi, List.map_set]
theorem zeros_eq (n : Nat) : (iv (zi (List.replicate n 0))).toArray = Array.replicate n (Value.int .i64 0) := by simp [iv, zi]
theorem mk_nats (n : Nat) (hn : n ≤ 65536) : ∀ u : World, (Instr.makeSlice 25 (.int .i64 (n : Int)) (.int .i64 (n : Int))).run Try.prog u = .ok (.slice (some ⟨u.heap.size, 0, none⟩) n n) (u.alloc (.cells (Array.replicate n (.int .i64 0)) 3)) := fun u => by
  obtain ⟨i0, hi, hz0, hz1, hz2⟩ := info_parts infoI
  have h := run_make (P := Try.prog) u 25 3 i0 (.int .i64 0) Try.underlying25 hi hz0 .i64 .i64 (n : Int) (n : Int) (by omega) (Int.le_refl _) (by rw [hz2]; omega) (by omega)
  rw [hz1] at h
  have e : madeCells (Value.int .i64 0).cells (n * 1) = Array.replicate n (.int .i64 0) := by
    rw [Nat.mul_one]
    apply Array.ext
    · simp [madeCells]
    · intro k h1 h2
      simp [madeCells, Value.cells, Nat.mod_one]
  rw [h]
  simp only [Int.toNat_natCast, e]
/-- the kids' bounds, so far -/
def fillK (l : List Rz) (rd : List Int) (rs : List Nat) (i k : Nat) : List Nat := bks l rd rs i k ++ List.replicate (km l i - k) 0
theorem fillK_zero (l : List Rz) (rd : List Int) (rs : List Nat) (i : Nat) : fillK l rd rs i 0 = List.replicate (km l i) 0 := by simp [fillK, bks]
theorem fillK_end (l : List Rz) (rd : List Int) (rs : List Nat) (i : Nat) : fillK l rd rs i (km l i) = bks l rd rs i (km l i) := by simp [fillK]
theorem fillK_len {l : List Rz} {rd : List Int} {rs : List Nat} {i k : Nat} (h : k ≤ km l i) : (fillK l rd rs i k).length = km l i := by
  simp [fillK, bks_len]
  omega
theorem fillK_set {l : List Rz} {rd : List Int} {rs : List Nat} {i k : Nat} (h : k < km l i) : (fillK l rd rs i k).set k (bnd l rd rs (kidp l i k)) = fillK l rd rs i (k + 1) := by
  unfold fillK
  rw [List.set_append, if_neg (by rw [bks_len]; exact Nat.lt_irrefl _), bks_len, bks_succ, List.append_assoc]
  congr 1
  obtain ⟨d, hd⟩ : ∃ d, km l i - k = d + 1 := ⟨km l i - k - 1, by omega⟩
  rw [hd, show km l i - (k + 1) = d by omega, List.replicate_succ]
  simp
set_option maxHeartbeats 12800000 in
set_option maxRecDepth 100000 in
/-- bound's walk, given what it does at kids and rules -/
theorem bound_step {w : World} {b : Nat} {ao uo eo : Option Addr} {ac uc ec : Nat} {l : List Rz} {us : List Nat} {rd : List Int} {i : Nat} {rs : List Nat} (hS : Pc l us rd) (h : Rg w b ao uo eo ac uc ec l us rd) (hi : i < l.length)
    (HK : ∀ k, k < km l i → ∀ W, Rg W b ao uo eo ac uc ec l us rd → Calls Try.prog 31 #[.pointer (some ⟨b, 0, none⟩), .int .i64 (kidp l i k : Nat)] W fun e W' => e = .returned (.tuple #[.int .i64 (bnd l rd rs (kidp l i k) : Nat), .int .i64 (endp l (kidp l i k) : Nat)]) ∧ Below W.heap.size W W')
    (HC : (rat l i).kind = 22 → ∃ n u : Nat, (rat l i).n = (n : Int) ∧ us[n]? = some u ∧ ∀ W, Rg W b ao uo eo ac uc ec l us rd → Calls Try.prog 31 #[.pointer (some ⟨b, 0, none⟩), .int .i64 (u : Int)] W fun e W' => e = .returned (.tuple #[.int .i64 (rs.getD n 0 : Nat), .int .i64 (endp l u : Nat)]) ∧ Below W.heap.size W W') :
    Calls Try.prog 31 #[.pointer (some ⟨b, 0, none⟩), .int .i64 (i : Int)] w fun e w' => e = .returned (.tuple #[.int .i64 (bnd l rd rs i : Nat), .int .i64 (endp l i : Nat)]) ∧ Below w.heap.size w w' := by
  obtain ⟨g, o, rfl, hg, _, c4⟩ := kids_at h.r hS.tree hi
  obtain ⟨b0, _, _⟩ := read3 h.box
  have hi1 : (i : Int) < (l.length : Int) := by omega
  have hi2 : (i : Int) ≤ 65536 := by have := hS.len; omega
  have hl2 : (l.length : Int) ≤ 65536 := by have := hS.len; omega
  have hkm : km l i ≤ 65536 := Nat.le_trans (km_le hS.tree.whole hi) hS.len
  have hmk := mk_nats (km l i) hkm
  have HR := show Hid _ from h
  have HKd := show Hid _ from HK
  have HCc := show Hid _ from HC
  have HI : Hid (i < l.length) := hi
  have HN : Hid (RowN (w.alloc (.cells (Array.replicate (km l i) (.int .i64 0)) 3)) w.heap.size (fillK l rd rs i 0) ∧ Below w.heap.size w (w.alloc (.cells (Array.replicate (km l i) (.int .i64 0)) 3))) := ⟨by unfold RowN; rw [fillK_zero, zeros_eq]; exact heap_alloc_new w _, (Below.refl _ w).alloc (Nat.le_refl _) _⟩
  have hk2 : (km l i : Int) ≤ 65536 := by omega
  have HZ : Hid (kidp l i 0 = i + 1) := kid_zero l i
  have HE : Hid (bnd l rd rs i = overN l rd rs i (bks l rd rs i (km l i)) ∧ endp l i = kidp l i (km l i)) := ⟨bnd_eq rd rs hS.tree.whole hi, (end_kid hS.tree.whole hi).1⟩
  have HP : Hid (∀ k, k ≤ km l i → kidp l i k ≤ 65536) := fun k hk => Nat.le_trans (kid_le hS.tree.whole hi hk) hS.len
  have HSt : Hid (∀ k, k < km l i → kidp l i (k + 1) = endp l (kidp l i k)) := fun k hk => (kidIn hS.tree.whole hi hk).2.2.2
  clear h HK HC hi hkm
  go_enter Try.func31, Try.ntmps31
  go_wp2_with fail
  generalize w.alloc (.cells (Array.replicate (km l i) (.int .i64 0)) 3) = w1 at *
  clear hmk b0 c4
  go_loopg [5, 21] (km l i) (fun gq x y wr => ∃ k : Nat, k + gq = km l i ∧ x = .int .i64 (kidp l i k : Nat) ∧ y = .int .i64 (k : Int) ∧ RowN wr w.heap.size (fillK l rd rs i k) ∧ Below w.heap.size w wr)
  case atStart => exact ⟨0, by omega, by rw [HZ.out]; rfl, rfl, HN.out.1, HN.out.2⟩
  case round =>
    obtain ⟨k, hkg, rfl, rfl, hrw, hbw⟩ := hrel
    have HG : Hid (k + gk = km l i ∧ RowN wr w.heap.size (fillK l rd rs i k) ∧ Below w.heap.size w wr) := ⟨hkg, hrw, hbw⟩
    by_cases hlt : k < km l i
    · have hk' : (k : Int) < (km l i : Int) := by omega
      have hk3 : (k : Int) ≤ 65536 := by omega
      have HCk := show Hid _ from HKd.out k hlt wr (Rg.below HR.out hbw)
      have HSe : Hid ((fillK l rd rs i k).set k (bnd l rd rs (kidp l i k)) = fillK l rd rs i (k + 1)) := fillK_set hlt
      have HSk : Hid (kidp l i (k + 1) = endp l (kidp l i k)) := HSt.out k hlt
      have HLt : Hid (k < km l i) := hlt
      generalize bnd l rd rs (kidp l i k) = bk at *
      generalize endp l (kidp l i k) = ek at *
      generalize kidp l i k = kp at *
      clear hkg hrw hbw hlt
      go_wp2_with fail
      refine Calls.mono HCk.out ?_
      rintro e w2 ⟨rfl, hb2⟩
      have hr2 := HG.out.2.1.below hb2 HG.out.2.1.lt
      have hfz := hr2.frozen k
      have hce := hr2.cell (k := k) (by rw [fillK_len (Nat.le_of_lt HLt.out)]; exact HLt.out)
      have HS2 : Hid (RowN (w2.setCell ⟨w.heap.size, k, none⟩ (.int .i64 (bk : Int))) w.heap.size (fillK l rd rs i (k + 1)) ∧ Below w.heap.size w (w2.setCell ⟨w.heap.size, k, none⟩ (.int .i64 (bk : Int)))) := ⟨by rw [← HSe.out]; exact hr2.set k bk, (HG.out.2.2.trans (hb2.mono HG.out.2.2.size)).setCell (p := ⟨w.heap.size, k, none⟩) (Nat.le_refl _) _⟩
      generalize (fillK l rd rs i k)[k]'(by rw [fillK_len (Nat.le_of_lt HLt.out)]; exact HLt.out) = old at hce
      clear hb2 hr2 HCk
      go_wp2_with fail
      go_roundg (km l i - (k + 1))
      case measure => have := HG.out.1; have := HLt.out; omega
      case rel => exact ⟨k + 1, by have := HLt.out; omega, by rw [HSk.out], by go_num, HS2.out.1, HS2.out.2⟩
    · have hk' : decide (k < km l i) = false := decide_eq_false hlt
      have hk3 : decide ((k : Int) < (km l i : Int)) = false := decide_eq_false (by omega)
      have hke : k = km l i := by omega
      subst hke
      have hrw' := hrw
      rw [fillK_end] at hrw'
      have HO := show Hid _ from over_any (rs := rs) (ks := bks l rd rs i (km l i)) (kc := km l i) hS (Rg.below HR.out hbw) HI.out hrw'.vals (bks_len _ _ _ _ _) (by rw [bks_len]; exact Nat.le_refl _) (by omega) (bks_le _ _ _ _ _) (fun e => by
        obtain ⟨n, u, h1, h2, h3⟩ := HCc.out e
        exact ⟨n, u, h1, h2, fun W hW => h3 W (Rg.below (Rg.below HR.out hbw) hW)⟩)
      rw [bks_len, ← HE.out.1] at HO
      have HEn : Hid (kidp l i (km l i) = endp l i) := HE.out.2.symm
      clear hkg hrw hbw hlt hrw'
      go_wp2_with fail
      refine Calls.mono HO.out ?_
      rintro e w2 ⟨rfl, hb2⟩
      have HB2 : Hid (Below w.heap.size w w2) := HG.out.2.2.trans (hb2.mono HG.out.2.2.size)
      clear hb2 HO
      go_wp2
      go_ret2
      exact ⟨by rw [HEn.out]; rfl, HB2.out⟩
end Go.Proofs.Ytjhlfdlamjpdeaa.Nm

namespace Go.Proofs.Ytjhlfdlamjpdeaa.Nm
open Go.RowKit Go.Maps Go.Proofs.Ytjhlfdlamjpdeaa.Sp Go.Proofs.Ytjhlfdlamjpdeaa.Lx Go.Proofs.Ytjhlfdlamjpdeaa.Gr

/-- bound tells the bound of a row, and where it ends -/
theorem bound_rec {b : Nat} {ao uo eo : Option Addr} {ac uc ec : Nat} {l : List Rz} {us : List Nat} {rd : List Int} (hS : Pc l us rd) (m : Nat) : ∀ (f i : Nat), i < l.length → endp l i - i ≤ f → (∀ j, i ≤ j → j < endp l i → (rat l j).kind = 22 → (rat l j).n < (m : Int)) → ∀ w, Rg w b ao uo eo ac uc ec l us rd →
    Calls Try.prog 31 #[.pointer (some ⟨b, 0, none⟩), .int .i64 (i : Int)] w fun e w' => e = .returned (.tuple #[.int .i64 (bnd l rd (rsAll l rd us) i : Nat), .int .i64 (endp l i : Nat)]) ∧ Below w.heap.size w w' := by
  induction m using Nat.strongRecOn with
  | _ m IHm =>
    intro f
    induction f with
    | zero => intro i hi hf; have := (end_kid hS.tree.whole hi).2.1; omega
    | succ f ih =>
      intro i hi hf hc w h
      refine bound_step hS h hi (fun k hk W hW => ?_) (fun e => ?_)
      · obtain ⟨h1, h2, h3, _⟩ := kidIn hS.tree.whole hi hk
        have := (end_kid hS.tree.whole h2).2.1
        exact ih _ h2 (by omega) (fun j hj1 hj2 hj3 => hc j (by omega) (by omega) hj3) W hW
      · obtain ⟨h1, h2⟩ := hS.there i hi e
        obtain ⟨n, hn⟩ := Int.eq_ofNat_of_zero_le h1
        have hnu : n < us.length := by omega
        have hnm : n < m := by have := hc i (Nat.le_refl _) (end_kid hS.tree.whole hi).2.1 e; omega
        refine ⟨n, us[n], hn, List.getElem?_eq_getElem hnu, fun W hW => ?_⟩
        rw [rs_rule rd hS.tree.whole hS.ul hS.ahead hnu]
        exact IHm n hnm _ us[n] (hS.ul _ (List.getElem_mem hnu)) (Nat.le_refl _) (fun j hj1 hj2 hj3 => (hS.ahead n hnu j hj1 hj2 hj3).2) W hW
theorem bound_any {b : Nat} {ao uo eo : Option Addr} {ac uc ec : Nat} {l : List Rz} {us : List Nat} {rd : List Int} (hS : Pc l us rd) {i : Nat} (hi : i < l.length) {w : World} (h : Rg w b ao uo eo ac uc ec l us rd) :
    Calls Try.prog 31 #[.pointer (some ⟨b, 0, none⟩), .int .i64 (i : Int)] w fun e w' => e = .returned (.tuple #[.int .i64 (bnd l rd (rsAll l rd us) i : Nat), .int .i64 (endp l i : Nat)]) ∧ Below w.heap.size w w' :=
  bound_rec hS us.length _ i hi (Nat.le_refl _) (fun j _ hj2 hj3 => (hS.there j (Nat.lt_of_lt_of_le hj2 (end_kid hS.tree.whole hi).2.2) hj3).2) w h
end Go.Proofs.Ytjhlfdlamjpdeaa.Nm

namespace Go.Proofs.Ytjhlfdlamjpdeaa.Nm
open Go.RowKit Go.Maps Go.Proofs.Ytjhlfdlamjpdeaa.Sp Go.Proofs.Ytjhlfdlamjpdeaa.Lx Go.Proofs.Ytjhlfdlamjpdeaa.Gr

/-- what events tells -/
def evR (l : List Rz) (rd : List Int) (us : List Nat) (q : Nat) : Except (Nat × Nat) Co := match evN l rd (rsAll l rd us) q l.length with
  | .error a => .error (61, a)
  | .ok c => .ok c
/-- costs that are told -/
def CTold (w : World) (r : Except (Nat × Nat) Co) (e : Ending) (w' : World) : Prop := Below w.heap.size w w' ∧ match r with
  | .error ci => e = .returned (.tuple #[.agg #[.slice none 0 0, .int .i64 0], .agg #[.int .i64 (ci.1 : Int), .int .i64 (ci.2 : Int)]])
  | .ok c => ∃ ob, e = .returned (.tuple #[.agg #[.slice (some ⟨ob, 0, none⟩) c.on.length c.on.length, .int .i64 (c.miss : Int)], .agg #[.int .i64 0, .int .i64 0]]) ∧ w.heap.size ≤ ob ∧ RowN w' ob c.on
/-- events at work -/
structure EvW (w wr : World) (B q : Nat) (c : Co) : Prop where
  b0 : wr.heap[B]? = some (.cells #[.slice none 0 0, .int .i64 0] 42 (0, 0))
  b1 : wr.heap[B + 1]? = some (.cells #[.int .i64 0, .int .i64 0] 44 (0, 0))
  on : RowN wr (B + 1 + 1) c.on
  bx : wr.heap[B + 1 + 1 + 1]? = some (.cells #[.slice (some ⟨B + 1 + 1, 0, none⟩) q q, .int .i64 (c.miss : Int)] 42 (0, 0))
  be : Below B w wr
theorem EvW.below {w wr w' : World} {B q : Nat} {c : Co} (h : EvW w wr B q c) (hb : Below wr.heap.size wr w') (hB : B ≤ wr.heap.size) : EvW w w' B q c :=
  ⟨(hb.block _ (blk_in h.b0)).trans h.b0, (hb.block _ (blk_in h.b1)).trans h.b1, h.on.below hb h.on.lt, (hb.block _ (blk_in h.bx)).trans h.bx, h.be.trans (hb.mono hB)⟩
theorem EvW.le {w wr : World} {B q : Nat} {c : Co} (h : EvW w wr B q c) : B + 1 + 1 + 1 < wr.heap.size := blk_in h.bx
theorem EvW.setMiss {w wr : World} {B q : Nat} {c : Co} (h : EvW w wr B q c) (n : Nat) : EvW w (wr.setCell ⟨B + 1 + 1 + 1, 1, none⟩ (.int .i64 (n : Int))) B q ⟨c.on, n⟩ :=
  ⟨(Below.heap_setCell wr _ _ B (by show B ≠ B + 1 + 1 + 1; omega)).trans h.b0, (Below.heap_setCell wr _ _ (B + 1) (by show B + 1 ≠ B + 1 + 1 + 1; omega)).trans h.b1, (Below.heap_setCell wr _ _ (B + 1 + 1) (by show B + 1 + 1 ≠ B + 1 + 1 + 1; omega)).trans h.on, by rw [heap_setCell_same wr (B + 1 + 1 + 1) 1 _ _ _ h.bx]; rfl, h.be.setCell (p := ⟨B + 1 + 1 + 1, 1, none⟩) (by show B ≤ B + 1 + 1 + 1; omega) _⟩
theorem EvW.setOn {w wr : World} {B q : Nat} {c : Co} (h : EvW w wr B q c) (k n : Nat) : EvW w (wr.setCell ⟨B + 1 + 1, k, none⟩ (.int .i64 (n : Int))) B q ⟨c.on.set k n, c.miss⟩ :=
  ⟨(Below.heap_setCell wr _ _ B (by show B ≠ B + 1 + 1; omega)).trans h.b0, (Below.heap_setCell wr _ _ (B + 1) (by show B + 1 ≠ B + 1 + 1; omega)).trans h.b1, h.on.set k n, (Below.heap_setCell wr _ _ (B + 1 + 1 + 1) (by show B + 1 + 1 + 1 ≠ B + 1 + 1; omega)).trans h.bx, h.be.setCell (p := ⟨B + 1 + 1, k, none⟩) (by show B ≤ B + 1 + 1; omega) _⟩
theorem read2 {wq : World} {B : Nat} {v0 v1 : Value} {T : TypeId} (h : wq.heap[B]? = some (.cells #[v0, v1] T (0, 0))) : wq.cell? ⟨B, 0, none⟩ = some v0 ∧ wq.cell? ⟨B, 1, none⟩ = some v1 ∧ ∀ j, wq.frozen? ⟨B, j, none⟩ = false := by
  refine ⟨?_, ?_, fun j => ?_⟩
  · simp only [World.cell?, h]
    rfl
  · simp only [World.cell?, h]
    rfl
  · simp [World.frozen?, h]
theorem wrote4 {w u : World} {n B : Nat} {a0 a1 c0 c1 : Value} {T0 T1 : TypeId} (h0 : u.heap[B]? = some (.cells #[a0, a1] T0 (0, 0))) (h1 : u.heap[B + 1]? = some (.cells #[c0, c1] T1 (0, 0))) (hn : n ≤ B) (hb : Below n w u) (v0 v1 v2 v3 : Value) :
    ((((u.setCell ⟨B, 0, none⟩ v0).setCell ⟨B, 1, none⟩ v1).setCell ⟨B + 1, 0, none⟩ v2).setCell ⟨B + 1, 1, none⟩ v3).heap[B]? = some (.cells #[v0, v1] T0 (0, 0)) ∧
    ((((u.setCell ⟨B, 0, none⟩ v0).setCell ⟨B, 1, none⟩ v1).setCell ⟨B + 1, 0, none⟩ v2).setCell ⟨B + 1, 1, none⟩ v3).heap[B + 1]? = some (.cells #[v2, v3] T1 (0, 0)) ∧
    Below n w ((((u.setCell ⟨B, 0, none⟩ v0).setCell ⟨B, 1, none⟩ v1).setCell ⟨B + 1, 0, none⟩ v2).setCell ⟨B + 1, 1, none⟩ v3) ∧
    ∀ k, k ≠ B → k ≠ B + 1 → ((((u.setCell ⟨B, 0, none⟩ v0).setCell ⟨B, 1, none⟩ v1).setCell ⟨B + 1, 0, none⟩ v2).setCell ⟨B + 1, 1, none⟩ v3).heap[k]? = u.heap[k]? := by
  have e1 : (u.setCell ⟨B, 0, none⟩ v0).heap[B]? = some (.cells #[v0, a1] T0 (0, 0)) := by rw [heap_setCell_same u B 0 _ _ _ h0]; rfl
  have e2 : ((u.setCell ⟨B, 0, none⟩ v0).setCell ⟨B, 1, none⟩ v1).heap[B]? = some (.cells #[v0, v1] T0 (0, 0)) := by rw [heap_setCell_same _ B 1 _ _ _ e1]; rfl
  have e3 : ((u.setCell ⟨B, 0, none⟩ v0).setCell ⟨B, 1, none⟩ v1).heap[B + 1]? = some (.cells #[c0, c1] T1 (0, 0)) := (Below.heap_setCell _ _ _ _ (by show B + 1 ≠ B; omega)).trans ((Below.heap_setCell _ _ _ _ (by show B + 1 ≠ B; omega)).trans h1)
  have e4 : ∀ k, k ≠ B → ((u.setCell ⟨B, 0, none⟩ v0).setCell ⟨B, 1, none⟩ v1).heap[k]? = u.heap[k]? := fun k hk => (Below.heap_setCell _ _ _ _ hk).trans (Below.heap_setCell _ _ _ _ hk)
  have e5 : Below n w ((u.setCell ⟨B, 0, none⟩ v0).setCell ⟨B, 1, none⟩ v1) := (hb.setCell (p := ⟨B, 0, none⟩) hn _).setCell (p := ⟨B, 1, none⟩) hn _
  generalize (u.setCell ⟨B, 0, none⟩ v0).setCell ⟨B, 1, none⟩ v1 = u2 at *
  have f1 : (u2.setCell ⟨B + 1, 0, none⟩ v2).heap[B + 1]? = some (.cells #[v2, c1] T1 (0, 0)) := by rw [heap_setCell_same u2 (B + 1) 0 _ _ _ e3]; rfl
  have f2 : ((u2.setCell ⟨B + 1, 0, none⟩ v2).setCell ⟨B + 1, 1, none⟩ v3).heap[B + 1]? = some (.cells #[v2, v3] T1 (0, 0)) := by rw [heap_setCell_same _ (B + 1) 1 _ _ _ f1]; rfl
  have f4 : ∀ k, k ≠ B + 1 → ((u2.setCell ⟨B + 1, 0, none⟩ v2).setCell ⟨B + 1, 1, none⟩ v3).heap[k]? = u2.heap[k]? := fun k hk => (Below.heap_setCell _ _ _ _ hk).trans (Below.heap_setCell _ _ _ _ hk)
  exact ⟨(f4 B (by omega)).trans e2, f2, (e5.setCell (p := ⟨B + 1, 0, none⟩) (Nat.le_succ_of_le hn) _).setCell (p := ⟨B + 1, 1, none⟩) (Nat.le_succ_of_le hn) _, fun k h2 h3 => (f4 k h3).trans (e4 k h2)⟩
theorem evw_start (w : World) (q : Nat) : EvW w ((((w.alloc (.cells #[.slice none 0 0, .int .i64 0] 42)).alloc (.cells #[.int .i64 0, .int .i64 0] 44)).alloc (.cells (Array.replicate q (.int .i64 0)) 3)).alloc (.cells #[.slice (some ⟨w.heap.size + 1 + 1, 0, none⟩) q q, .int .i64 0] 42)) w.heap.size q ⟨List.replicate q 0, 0⟩ := by
  refine ⟨?_, ?_, ?_, ?_, ?_⟩
  · rw [alloc_old _ _ _ (by simp; omega), alloc_old _ _ _ (by simp; omega), alloc_old _ _ _ (by simp)]
    exact alloc_at _ _ _ rfl
  · rw [alloc_old _ _ _ (by simp), alloc_old _ _ _ (by simp)]
    exact alloc_at _ _ _ (by simp)
  · unfold RowN
    rw [zeros_eq, alloc_old _ _ _ (by simp)]
    exact alloc_at _ _ _ (by simp)
  · exact alloc_at _ _ _ (by simp)
  · exact ((((Below.refl _ w).alloc (Nat.le_refl _) _).alloc (by simp) _).alloc (by simp; omega) _).alloc (by simp; omega) _
set_option maxHeartbeats 12800000 in
set_option maxRecDepth 100000 in
/-- events -/
theorem events_any {w : World} {b : Nat} {ao uo eo : Option Addr} {ac uc ec q : Nat} {l : List Rz} {us : List Nat} {rd : List Int} (hS : Pc l us rd) (h : Rg w b ao uo eo ac uc ec l us rd) (hq : q ≤ 16)
    (hev : ∀ i, i < l.length → (rat l i).kind = 8 ∨ (rat l i).kind = 9 → ∃ n : Nat, (rat l i).n = (n : Int) ∧ n < q) :
    Calls Try.prog 26 #[.pointer (some ⟨b, 0, none⟩), .int .i64 (q : Int)] w (CTold w (evR l rd us q)) := by
  have hmk := mk_nats q (by omega)
  have hq2 : (q : Int) ≤ 16 := by omega
  have HS0 := show Hid _ from evw_start w q
  have HR := show Hid _ from h
  have HSt := show Hid _ from hS
  have HEv := show Hid _ from hev
  have hl2 : (l.length : Int) ≤ 65536 := by have := hS.len; omega
  obtain ⟨b0, _, _⟩ := read3 ((HS0.out.be.block _ (blk_in h.box)).trans h.box)
  have HBd : Hid (∀ i, i < l.length → ∀ W, Rg W b ao uo eo ac uc ec l us rd → Calls Try.prog 31 #[.pointer (some ⟨b, 0, none⟩), .int .i64 (i : Int)] W fun e w' => e = .returned (.tuple #[.int .i64 (bnd l rd (rsAll l rd us) i : Nat), .int .i64 (endp l i : Nat)]) ∧ Below W.heap.size W w') := fun i hi W hW => bound_any hS hi hW
  have HE : Hid (evR l rd us q = match evN l rd (rsAll l rd us) q l.length with
  | .error a => .error (61, a)
  | .ok c => .ok c) := rfl
  generalize evR l rd us q = res at *
  generalize rsAll l rd us = rs at *
  clear h hS hev hq
  go_enter Try.func26, Try.ntmps26
  go_wp2_with fail
  clear hmk b0
  have HB : Hid (∀ wr c, EvW w wr w.heap.size q c → Below w.heap.size w wr ∧ w.heap.size ≤ wr.heap.size) := fun wr c h => ⟨h.be, h.be.size⟩
  generalize ((((w.alloc (.cells #[.slice none 0 0, .int .i64 0] 42)).alloc (.cells #[.int .i64 0, .int .i64 0] 44)).alloc (.cells (Array.replicate q (.int .i64 0)) 3)).alloc (.cells #[.slice (some ⟨w.heap.size + 1 + 1, 0, none⟩) q q, .int .i64 0] 42)) = w1 at *
  go_loopg [19] l.length (fun gq y wr => ∃ (k : Nat) (c : Co), k + gq = l.length ∧ y = .int .i64 (k : Int) ∧ evN l rd rs q k = .ok c ∧ EvW w wr w.heap.size q c)
  case atStart => exact ⟨0, _, by omega, rfl, rfl, HS0.out⟩
  case round =>
    obtain ⟨k, c, hkg, rfl, hev, hw⟩ := hrel
    have HG : Hid (k + gk = l.length ∧ evN l rd rs q k = .ok c ∧ EvW w wr w.heap.size q c) := ⟨hkg, hev, hw⟩
    by_cases hlt : k < l.length
    · have hk' : (k : Int) < (l.length : Int) := by omega
      have hk2 : (k : Int) ≤ 65536 := by omega
      have hRg := Rg.below HR.out hw.be
      obtain ⟨g, o, rfl, hg, c0, c1, c2, c3, c4⟩ := hRg.r k _ (some_rat hlt)
      have HLt : Hid (k < l.length) := hlt
      have HNx : Hid (evN l rd rs q (k + 1) = evSt l rd rs k c) := by
        show evNx l rd rs k (evN l rd rs q k) = _
        rw [hev]
        rfl
      have HSx : Hid (evSt l rd rs k c = if (rat l k).kind = 8 ∨ (rat l k).kind = 9 ∨ (rat l k).kind = 10 then
    if 72057594037927936 < bnd l rd rs (k + 1) then .error k
    else if (rat l k).kind = 10 then .ok ⟨c.on, bnd l rd rs (k + 1)⟩
    else .ok ⟨c.on.set (rat l k).n.toNat (bnd l rd rs (k + 1)), c.miss⟩
  else .ok c) := rfl
      have HKd : Hid ((rat l k).kind = 8 ∨ (rat l k).kind = 9 ∨ (rat l k).kind = 10 → k + 1 < l.length) := fun e => by
        have h1 := HSt.out.ev k hlt e
        have h2 := (kidIn HSt.out.tree.whole hlt (k := 0) (by omega)).2.1
        rwa [kid_zero] at h2
      have HEk := show Hid _ from HEv.out k hlt
      generalize rat l k = x at *
      obtain ⟨kd, nm, st, n, kk⟩ := x
      dsimp only at *
      have hbx : Below wr.heap.size wr (wr.alloc (.cells #[.int .i64 kd, .string nm, .int .i64 st, .int .i64 n, .int .i64 kk] 35)) := (Below.refl _ wr).alloc (Nat.le_refl _) _
      have HW2 : Hid (EvW w (wr.alloc (.cells #[.int .i64 kd, .string nm, .int .i64 st, .int .i64 n, .int .i64 kk] 35)) w.heap.size q c) := hw.below hbx (HB.out wr c hw).2
      have hnew := heap_alloc_new wr (.cells #[.int .i64 kd, .string nm, .int .i64 st, .int .i64 n, .int .i64 kk] 35)
      have HNw : Hid ((wr.alloc (.cells #[.int .i64 kd, .string nm, .int .i64 st, .int .i64 n, .int .i64 kk] 35)).heap[wr.heap.size]? = some (.cells #[.int .i64 kd, .string nm, .int .i64 st, .int .i64 n, .int .i64 kk] 35 (0, 0))) := hnew
      have HRx : Hid (Rg (wr.alloc (.cells #[.int .i64 kd, .string nm, .int .i64 st, .int .i64 n, .int .i64 kk] 35)) b (some ⟨g, o, none⟩) uo eo ac uc ec l us rd) := hRg.below hbx
      obtain ⟨x0, x3⟩ := row5 hnew
      by_cases hE : kd = 8 ∨ kd = 9 ∨ kd = 10
      · have HC := show Hid _ from HBd.out (k + 1) (HKd.out hE) _ HRx.out
        have HS2 : Hid (evN l rd rs q (k + 1) = if 72057594037927936 < bnd l rd rs (k + 1) then .error k
    else if kd = 10 then .ok ⟨c.on, bnd l rd rs (k + 1)⟩
    else .ok ⟨c.on.set n.toNat (bnd l rd rs (k + 1)), c.miss⟩) := by
          show _ = _
          rw [HNx.out, HSx.out, if_pos hE]
        have hbl := bnd_le l rd rs (k + 1)
        generalize bnd l rd rs (k + 1) = bk at *
        generalize endp l (k + 1) = ek at *
        have hwr : IntKind.i64.wrap ((k : Int) + 1) = ((k + 1 : Nat) : Int) := by rw [IntKind.wrap_i64]; omega
        have hbl2 : (bk : Int) ≤ 4611686018427387904 := by omega
        clear hkg hlt hbl hev hw hRg hbx hnew HSx HKd HNx
        by_cases hov : 72057594037927936 < bk
        · have HOv : Hid (evN l rd rs q (k + 1) = .error k) := by
            show _ = _
            rw [HS2.out, if_pos hov]
          have hov1 : decide ((72057594037927936 : Int) < (bk : Int)) = true := decide_eq_true (by omega)
          have hov2 : (72057594037927936 : Int) < (bk : Int) := by omega
          have HFin : Hid (res = .error (61, k)) := by
            show _ = _
            have e1 := evN_err HOv.out (l.length - (k + 1))
            rw [show k + 1 + (l.length - (k + 1)) = l.length by have := HLt.out; omega] at e1
            rw [HE.out, e1]
          clear hov HOv HS2 HEk
          rcases hE with rfl | rfl | rfl
          all_goals
            go_wp2_with fail
            generalize wr.alloc (.cells #[.int .i64 _, .string nm, .int .i64 st, .int .i64 n, .int .i64 kk] 35) = W2 at *
            refine Calls.mono HC.out ?_
            rintro e w3 ⟨rfl, hb3⟩
            have h3 := HW2.out.below hb3 (HB.out W2 c HW2.out).2
            obtain ⟨r0, r1, r2⟩ := read2 h3.b0
            obtain ⟨s0, s1, s2⟩ := read2 h3.b1
            have z0 := r2 0
            have z1 := r2 1
            have z2 := s2 0
            have z3 := s2 1
            obtain ⟨p1, p2, p3, _⟩ := wrote4 h3.b0 h3.b1 (Nat.le_refl _) h3.be (.slice none 0 0) (.int .i64 0) (.int .i64 61) (.int .i64 (k : Int))
            have HP : Hid (_ ∧ _ ∧ Below w.heap.size w _) := ⟨p1, p2, p3⟩
            clear hb3 h3 r2 s2 p1 p2 p3 HC x0 x3 c0 c1 c2 c3 c4
            go_wp2_with fail
            clear r0 r1 s0 s1 z0 z1 z2 z3
            obtain ⟨y0, y1, _⟩ := read2 HP.out.1
            obtain ⟨y2, y3, _⟩ := read2 HP.out.2.1
            have HX : Hid (Below w.heap.size w _) := HP.out.2.2
            clear HP
            generalize ((((w3.setCell ⟨w.heap.size, 0, none⟩ (.slice none 0 0)).setCell ⟨w.heap.size, 1, none⟩ (.int .i64 0)).setCell ⟨w.heap.size + 1, 0, none⟩ (.int .i64 61)).setCell ⟨w.heap.size + 1, 1, none⟩ (.int .i64 (k : Int))) = w4 at *
            exact bodyPost_ret (v := .tuple #[.agg #[.slice none 0 0, .int .i64 0], .agg #[.int .i64 61, .int .i64 (k : Int)]]) (by simp [results, Try.results26, go_sem, y0, y1, y2, y3]) rfl (by rw [HFin.out]; exact ⟨HX.out, rfl⟩)
        · have hov1 : decide ((72057594037927936 : Int) < (bk : Int)) = false := decide_eq_false (by omega)
          have hov3 : decide (72057594037927936 < bk) = false := decide_eq_false hov
          by_cases h10 : kd = 10
          · subst h10
            have HS3 : Hid (evN l rd rs q (k + 1) = .ok ⟨c.on, bk⟩) := by
              show _ = _
              rw [HS2.out, if_neg hov, if_pos rfl]
            clear hov HS2 HEk hE
            go_wp2_with fail
            generalize wr.alloc (.cells #[.int .i64 _, .string nm, .int .i64 st, .int .i64 n, .int .i64 kk] 35) = W2 at *
            refine Calls.mono HC.out ?_
            rintro e w3 ⟨rfl, hb3⟩
            have h3 := HW2.out.below hb3 (HB.out W2 c HW2.out).2
            obtain ⟨r0, r1, r2⟩ := read2 h3.bx
            obtain ⟨x0', _⟩ := row5 ((hb3.block _ (blk_in HNw.out)).trans HNw.out)
            have z1 := r2 1
            have HP := show Hid _ from h3.setMiss bk
            clear hb3 h3 r2 HC x0 x3 c0 c1 c2 c3 c4
            go_wp2_with fail
            go_roundg (l.length - (k + 1))
            case measure => have := HG.out.1; have := HLt.out; omega
            case rel => exact ⟨k + 1, _, by have := HLt.out; omega, by go_num, HS3.out, HP.out⟩
          · have hE2 : kd = 8 ∨ kd = 9 := by
              rcases hE with h | h | h
              · exact Or.inl h
              · exact Or.inr h
              · exact absurd h h10
            obtain ⟨m, hm, hmq⟩ := HEk.out hE2
            subst hm
            have HS3 : Hid (evN l rd rs q (k + 1) = .ok ⟨c.on.set m bk, c.miss⟩) := by
              show _ = _
              rw [HS2.out, if_neg hov, if_neg h10]
              rfl
            have hmq2 : (m : Int) < (q : Int) := by omega
            have HMq : Hid (m < c.on.length) := by
              show _ < _
              rw [evN_len HG.out.2.1]
              exact hmq
            clear hov HS2 HEk hE hmq h10
            rcases hE2 with rfl | rfl
            all_goals
              go_wp2_with fail
              generalize wr.alloc (.cells #[.int .i64 _, .string nm, .int .i64 st, .int .i64 (m : Int), .int .i64 kk] 35) = W2 at *
              refine Calls.mono HC.out ?_
              rintro e w3 ⟨rfl, hb3⟩
              have h3 := HW2.out.below hb3 (HB.out W2 c HW2.out).2
              obtain ⟨r0, r1, r2⟩ := read2 h3.bx
              obtain ⟨x0', x3'⟩ := row5 ((hb3.block _ (blk_in HNw.out)).trans HNw.out)
              have z1 := h3.on.frozen m
              have ce := h3.on.cell HMq.out
              have HP := show Hid _ from h3.setOn m bk
              generalize c.on[m]'HMq.out = old at ce
              clear hb3 h3 r2 HC x0 x3 c0 c1 c2 c3 c4
              go_wp2_with fail
              go_roundg (l.length - (k + 1))
              case measure => have := HG.out.1; have := HLt.out; omega
              case rel => exact ⟨k + 1, _, by have := HLt.out; omega, by go_num, HS3.out, HP.out⟩
      · have HS3 : Hid (evN l rd rs q (k + 1) = .ok c) := by
          show _ = _
          rw [HNx.out, HSx.out, if_neg hE]
        have q8 : (kd != 8) = true := by simp; omega
        have q9 : (kd != 9) = true := by simp; omega
        have q10 : (kd != 10) = true := by simp; omega
        clear hkg hlt hev hw hRg hbx hnew HSx HKd HNx HEk hE
        go_wp2_with fail
        go_roundg (l.length - (k + 1))
        case measure => have := HG.out.1; have := HLt.out; omega
        case rel => exact ⟨k + 1, _, by have := HLt.out; omega, by go_num, HS3.out, HW2.out⟩
    · have hk' : decide (k < l.length) = false := decide_eq_false hlt
      have hk3 : decide ((k : Int) < (l.length : Int)) = false := decide_eq_false (by omega)
      have hke : k = l.length := by omega
      have HFin : Hid (res = .ok c ∧ c.on.length = q) := by
        refine ⟨?_, evN_len hev⟩
        rw [HE.out, ← hke, hev]
      obtain ⟨r0, r1, r2⟩ := read2 hw.b0
      obtain ⟨s0, s1, s2⟩ := read2 hw.b1
      obtain ⟨t0, t1, _⟩ := read2 hw.bx
      have z0 := r2 0
      have z1 := r2 1
      have z2 := s2 0
      have z3 := s2 1
      obtain ⟨p1, p2, p3, p4⟩ := wrote4 hw.b0 hw.b1 (Nat.le_refl _) hw.be (.slice (some ⟨w.heap.size + 1 + 1, 0, none⟩) q q) (.int .i64 (c.miss : Int)) (.int .i64 0) (.int .i64 0)
      have HP : Hid (_ ∧ _ ∧ Below w.heap.size w _ ∧ RowN _ (w.heap.size + 1 + 1) c.on) := ⟨p1, p2, p3, (p4 _ (by omega) (by omega)).trans hw.on⟩
      clear hkg hlt hev hw hke r2 s2 p1 p2 p3 p4
      go_wp2_with fail
      clear r0 r1 s0 s1 t0 t1 z0 z1 z2 z3
      obtain ⟨y0, y1, _⟩ := read2 HP.out.1
      obtain ⟨y2, y3, _⟩ := read2 HP.out.2.1
      have HX : Hid (Below w.heap.size w _ ∧ RowN _ (w.heap.size + 1 + 1) c.on) := HP.out.2.2
      clear HP
      generalize ((((wr.setCell ⟨w.heap.size, 0, none⟩ (.slice (some ⟨w.heap.size + 1 + 1, 0, none⟩) q q)).setCell ⟨w.heap.size, 1, none⟩ (.int .i64 (c.miss : Int))).setCell ⟨w.heap.size + 1, 0, none⟩ (.int .i64 0)).setCell ⟨w.heap.size + 1, 1, none⟩ (.int .i64 0)) = w4 at *
      refine bodyPost_ret (v := .tuple #[.agg #[.slice (some ⟨w.heap.size + 1 + 1, 0, none⟩) q q, .int .i64 (c.miss : Int)], .agg #[.int .i64 0, .int .i64 0]]) (by simp [results, Try.results26, go_sem, y0, y1, y2, y3]) rfl ?_
      rw [HFin.out.1]
      exact ⟨HX.out.1, _, by rw [HFin.out.2], by omega, HX.out.2⟩
end Go.Proofs.Ytjhlfdlamjpdeaa.Nm

namespace Go.Proofs.Ytjhlfdlamjpdeaa.Nm
open Go.RowKit Go.Maps Go.Proofs.Ytjhlfdlamjpdeaa.Sp Go.Proofs.Ytjhlfdlamjpdeaa.Lx Go.Proofs.Ytjhlfdlamjpdeaa.Gr

/-- no number of rounds -/
def badN (n : Int) : Bool := decide (n < 0) || decide (4194304 < n)
theorem enters_bad (args : Array Value) (w : World) : (callFunc 25 args).run Try.prog w = .ok (.enter 25 args) w := enters_of Try.func25 (by kernel_rfl) rfl args w
set_option maxHeartbeats 1600000 in
theorem bad_any (n : Int) (w : World) : Calls Try.prog 25 #[.int .i64 n] w fun e w' => e = .returned (.bool (badN n)) ∧ w' = w := by
  have HB : Hid (badN n = (decide (n < 0) || decide (4194304 < n))) := rfl
  generalize badN n = z at *
  by_cases h0 : n < 0
  · have h1 : decide (n < 0) = true := decide_eq_true h0
    go_enter Try.func25, Try.ntmps25
    go_wp2
    go_ret
    exact ⟨by rw [HB.out]; simp [h0], rfl⟩
  · have h1 : decide (n < 0) = false := decide_eq_false h0
    go_enter Try.func25, Try.ntmps25
    go_wp2
    go_ret
    exact ⟨by rw [HB.out, h1]; rfl, rfl⟩
theorem any_take {l : List Int} {k : Nat} (h : k < l.length) : (l.take (k + 1)).any badN = ((l.take k).any badN || badN l[k]) := by
  rw [take_step (List.getElem?_eq_getElem h), List.any_append]
  simp
theorem any_of {l : List Int} {k : Nat} (h : k < l.length) (hb : badN l[k] = true) : l.any badN = true := List.any_eq_true.2 ⟨_, List.getElem_mem h, hb⟩
set_option maxHeartbeats 6400000 in
set_option maxRecDepth 100000 in
/-- where the first one is -/
theorem index_any {w : World} {ao : Option Addr} {l : List Int} {c : Nat} (h : IsVals w ao (iv l)) (hn : l.length ≤ 17592186043904) :
    Calls Try.prog 30 #[.slice ao l.length c, .func (.func 25) #[] #[]] w fun e w' => (∃ z : Int, e = .returned (.int .i64 z) ∧ (l.any badN = true ↔ 0 ≤ z)) ∧ w' = w := by
  have H := show Hid _ from h
  have hn2 : (l.length : Int) ≤ 17592186043904 := by omega
  have hen : ∀ (args : Array Value) (w : World), (callFunc 25 args).run Try.prog w = .ok (.enter 25 args) w := enters_bad
  have HE : Hid (l.take l.length = l) := List.take_length
  clear h hn
  go_enter Try.func30, Try.ntmps30
  go_wp2_with fail
  go_loopg [8] l.length (fun gq y wr => ∃ k : Nat, k + gq = l.length ∧ y = .int .i64 (k : Int) ∧ (l.take k).any badN = false ∧ wr = w)
  case atStart => exact ⟨0, by omega, rfl, by simp, rfl⟩
  case round =>
    obtain ⟨k, hkg, rfl, hnb, hw⟩ := hrel
    have HG : Hid (k + gk = l.length ∧ (l.take k).any badN = false) := ⟨hkg, hnb⟩
    subst hw
    by_cases hlt : k < l.length
    · have hk' : (k : Int) < (l.length : Int) := by omega
      have hk2 : (k : Int) ≤ 17592186043904 := by omega
      obtain ⟨g, o, rfl, _, d0⟩ := H.out k _ (iv_at hlt)
      have HS : Hid ((l.take (k + 1)).any badN = ((l.take k).any badN || badN l[k])) := any_take hlt
      have HY : Hid (badN l[k] = true → l.any badN = true) := any_of hlt
      have HLt : Hid (k < l.length) := hlt
      generalize l[k] = x at *
      have HC := show Hid _ from bad_any x wr
      clear hkg hlt hnb
      cases hb : badN x with
      | true =>
        rw [hb] at HC
        have HT : Hid (l.any badN = true) := HY.out hb
        clear hb HS HY
        go_wp2_with fail
        refine Calls.mono HC.out ?_
        rintro e w2 ⟨rfl, rfl⟩
        go_wp2
        go_ret
        exact ⟨⟨_, rfl, by rw [HT.out]; simp⟩, rfl⟩
      | false =>
        rw [hb] at HC HS
        have HT : Hid ((l.take (k + 1)).any badN = false) := by
          show _ = _
          rw [HS.out, HG.out.2]
          rfl
        clear hb HS HY
        go_wp2_with fail
        refine Calls.mono HC.out ?_
        rintro e w2 ⟨rfl, rfl⟩
        go_wp2_with fail
        go_roundg (l.length - (k + 1))
        case measure => have := HG.out.1; have := HLt.out; omega
        case rel => exact ⟨k + 1, by have := HLt.out; omega, by go_num, HT.out, rfl⟩
    · have hk' : decide (k < l.length) = false := decide_eq_false hlt
      have hk2 : decide ((k : Int) < (l.length : Int)) = false := decide_eq_false (by omega)
      have hke : k = l.length := by omega
      have HR : Hid (l.any badN = false) := by
        show _ = _
        rw [hke, HE.out] at hnb
        exact hnb
      clear hkg hlt hke hnb
      go_wp2
      go_ret
      exact ⟨⟨-1, rfl, by rw [HR.out]; simp⟩, rfl⟩
set_option maxHeartbeats 1600000 in
theorem contains_any {w : World} {ao : Option Addr} {l : List Int} {c : Nat} (h : IsVals w ao (iv l)) (hn : l.length ≤ 17592186043904) :
    Calls Try.prog 24 #[.slice ao l.length c, .func (.func 25) #[] #[]] w fun e w' => e = .returned (.bool (l.any badN)) ∧ w' = w := by
  have HI := show Hid _ from index_any (c := c) h hn
  clear h hn
  go_enter Try.func24, Try.ntmps24
  go_wp2_with fail
  refine Calls.mono HI.out ?_
  rintro e w2 ⟨⟨z, rfl, hz⟩, rfl⟩
  have HZ := show Hid _ from hz
  clear hz HI
  go_wp2
  go_ret
  refine ⟨?_, rfl⟩
  have e1 : l.any badN = decide (0 ≤ z) := by
    rw [Bool.eq_iff_iff, HZ.out]
    simp
  rw [e1]
  rfl
end Go.Proofs.Ytjhlfdlamjpdeaa.Nm
