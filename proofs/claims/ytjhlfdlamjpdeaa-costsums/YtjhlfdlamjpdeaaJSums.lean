import Derived.Test.YtjhlfdlamjpdeaaJCs
import Derived.Test.YtjhlfdlamjpdeaaJB
import Derived.Test.YtjhlfdlamjpdeaaJLends
namespace Go.Proofs.Ytjhlfdlamjpdeaa.Nm
open Go.RowKit Go.Maps Go.Proofs.Ytjhlfdlamjpdeaa.Sp Go.Proofs.Ytjhlfdlamjpdeaa.Lx Go.Proofs.Ytjhlfdlamjpdeaa.Gr

set_option maxHeartbeats 3200000 in
theorem rcplus (a b : Nat) (_ : a ≤ 4611686018427387904) (hb : b ≤ 4611686018427387904) (w : World) : Calls Try.prog 20 #[.int .i64 (a : Int), .int .i64 (b : Int)] w fun e w' => e = .returned (.int .i64 (capS (a + b) : Nat)) ∧ w' = w := by
  have hw : IntKind.i64.wrap (4611686018427387904 - (b : Int)) = 4611686018427387904 - (b : Int) := by rw [IntKind.wrap_i64]; omega
  have HC : Hid (capS (a + b) = min (a + b) 4611686018427387904) := rfl
  generalize capS (a + b) = z at *
  by_cases h : (4611686018427387904 - (b : Int)) < (a : Int)
  · have h1 : decide ((4611686018427387904 - (b : Int)) < (a : Int)) = true := decide_eq_true h
    have HZ : Hid (z = 4611686018427387904) := by show _ = _; have := HC.out; omega
    go_enter Try.func20, Try.ntmps20
    go_wp2
    go_ret
    exact ⟨by rw [HZ.out]; rfl, rfl⟩
  · have h1 : decide ((4611686018427387904 - (b : Int)) < (a : Int)) = false := decide_eq_false h
    have hw2 : IntKind.i64.wrap ((a : Int) + (b : Int)) = (z : Int) := by rw [IntKind.wrap_i64]; have := HC.out; omega
    go_enter Try.func20, Try.ntmps20
    go_wp2
    go_ret
    exact ⟨rfl, rfl⟩
set_option maxHeartbeats 3200000 in
theorem rcby (a b : Nat) (ha : a ≤ 4611686018427387904) (_ : b ≤ 4611686018427387904) (w : World) : Calls Try.prog 22 #[.int .i64 (a : Int), .int .i64 (b : Int)] w fun e w' => e = .returned (.int .i64 (capS (a * b) : Nat)) ∧ w' = w := by
  by_cases h0 : a = 0
  · subst h0
    have HZ : Hid (capS (0 * b) = 0) := by show _ = _; simp [capS]
    have hw2 : IntKind.i64.wrap ((0 : Int) * (b : Int)) = 0 := by rw [IntKind.wrap_i64]; omega
    go_enter Try.func22, Try.ntmps22
    go_wp2
    go_ret
    exact ⟨by rw [HZ.out]; rfl, rfl⟩
  · obtain ⟨q, hq, hq2, hq3⟩ := quo_of (x := (a : Int)) (by omega)
    rw [Int.toNat_natCast] at hq2
    have h1 : ¬ (a : Int) = 0 := by omega
    have h2 : ((a : Int) == 0) = false := by simp; omega
    have h3 : (0 : Int) < (a : Int) := by omega
    have h4 : 0 < a := by omega
    have h5 : (a == 0) = false := by simp; omega
    obtain ⟨ai, e1, e2⟩ : ∃ ai : Int, (a : Int) = ai ∧ a = ai.toNat := ⟨_, rfl, by simp⟩
    have HM : Hid (capS (a * b) = capS (b * a)) := by show _ = _; rw [Nat.mul_comm]
    by_cases hgt : q < b
    · have hg1 : decide ((q : Int) < (b : Int)) = true := decide_eq_true (by omega)
      have hg2 : (q : Int) < (b : Int) := by omega
      have HZ : Hid (capS (a * b) = 4611686018427387904) := by show _ = _; rw [HM.out]; exact tim_over (by rw [← hq2]; exact hgt) h4
      generalize capS (a * b) = z at *
      rw [e1] at h1 h2 h3 hq ⊢
      have h6 : decide ((0 : Int) < ai) = true := decide_eq_true h3
      clear hq2 hgt HM e1 e2 h4 h5 ha h0
      go_enter Try.func22, Try.ntmps22
      go_wp2
      go_ret
      exact ⟨by rw [HZ.out]; rfl, rfl⟩
    · have hg1 : decide ((q : Int) < (b : Int)) = false := decide_eq_false (by omega)
      have hg2 : decide (q < b) = false := decide_eq_false hgt
      obtain ⟨hc1, hc2⟩ := tim_in (p := b) (m := a) (by rw [← hq2]; exact hgt) h4
      have hw2 : IntKind.i64.wrap ((a : Int) * (b : Int)) = ((capS (a * b) : Nat) : Int) := by
        rw [HM.out, hc1, IntKind.wrap_i64, ← Int.natCast_mul, Nat.mul_comm a b]
        generalize b * a = zz at *
        omega
      generalize capS (a * b) = z at *
      rw [e1] at h1 h2 h3 hq hw2 ⊢
      have h6 : decide ((0 : Int) < ai) = true := decide_eq_true h3
      clear hq2 hgt HM e1 e2 h4 h5 ha h0 hc1 hc2
      go_enter Try.func22, Try.ntmps22
      go_wp2
      go_ret
      exact ⟨rfl, rfl⟩
set_option maxHeartbeats 3200000 in
theorem rcpart (n : Int) (w : World) : Calls Try.prog 21 #[.int .i64 n] w fun e w' => e = .returned (.int .i64 (capS n.toNat : Nat)) ∧ w' = w := by
  have HC : Hid (capS n.toNat = min n.toNat 4611686018427387904) := rfl
  generalize capS n.toNat = z at *
  by_cases h : n < 0
  · have h1 : decide (n < 0) = true := decide_eq_true h
    have HZ : Hid (z = 0) := by show _ = _; have := HC.out; omega
    go_enter Try.func21, Try.ntmps21
    go_wp2
    go_ret
    exact ⟨by rw [HZ.out]; rfl, rfl⟩
  · have h1 : decide (n < 0) = false := decide_eq_false h
    by_cases h2 : 4611686018427387904 < n
    · have h3 : decide (4611686018427387904 < n) = true := decide_eq_true h2
      have HZ : Hid (z = 4611686018427387904) := by show _ = _; have := HC.out; omega
      go_enter Try.func21, Try.ntmps21
      go_wp2
      go_ret
      exact ⟨by rw [HZ.out]; rfl, rfl⟩
    · have h3 : decide (4611686018427387904 < n) = false := decide_eq_false h2
      have HZ : Hid ((z : Int) = n) := by show _ = _; have := HC.out; omega
      go_enter Try.func21, Try.ntmps21
      go_wp2
      go_ret
      exact ⟨by rw [HZ.out]; rfl, rfl⟩
set_option maxHeartbeats 6400000 in
set_option maxRecDepth 100000 in
/-- the reference's Sum -/
theorem rcSum {w : World} {ao : Option Addr} {l : List Int} {c : Nat} (h : IsVals w ao (iv l)) (hn : l.length ≤ 17592186043904) :
    Calls Try.prog 12 #[.slice ao l.length c] w fun e w' => e = .returned (.int .i64 (sumL l : Nat)) ∧ w' = w := by
  have H := show Hid _ from h
  have hn2 : (l.length : Int) ≤ 17592186043904 := by omega
  have HE : Hid (sumL (l.take l.length) = sumL l) := by show _ = _; rw [List.take_length]
  clear h hn
  go_enter Try.func12, Try.ntmps12
  go_wp2_with fail
  go_loopg [3, 4] l.length (fun gq x y wr => ∃ k : Nat, k + gq = l.length ∧ x = .int .i64 (sumL (l.take k) : Nat) ∧ y = .int .i64 (k : Int) ∧ wr = w)
  case atStart => exact ⟨0, by omega, rfl, rfl, rfl⟩
  case round =>
    obtain ⟨k, hkg, rfl, rfl, hw⟩ := hrel
    have HG : Hid (k + gk = l.length) := hkg
    subst hw
    by_cases hlt : k < l.length
    · have hk' : (k : Int) < (l.length : Int) := by omega
      have hk2 : (k : Int) ≤ 17592186043904 := by omega
      obtain ⟨g, o, rfl, _, d0⟩ := H.out k _ (iv_at hlt)
      have HS : Hid (sumL (l.take (k + 1)) = capS (sumL (l.take k) + capS l[k].toNat)) := by
        show _ = _
        rw [sumL_step (List.getElem?_eq_getElem hlt)]
        unfold sumL capS; omega
      have hsl := sumL_le (l.take k)
      have HLt : Hid (k < l.length) := hlt
      generalize l[k] = x at *
      generalize hs : sumL (l.take k) = s at *
      have HP1 := show Hid _ from rcpart x wr
      have HP2 := show Hid _ from rcplus s (capS x.toNat) hsl (capS_le _) wr
      generalize capS (s + capS x.toNat) = z at *
      generalize capS x.toNat = y at *
      clear hs hkg hlt hsl
      go_wp2_with fail
      refine Calls.mono HP1.out ?_
      rintro e w2 ⟨rfl, rfl⟩
      go_wp2_with fail
      refine Calls.mono HP2.out ?_
      rintro e w3 ⟨rfl, rfl⟩
      go_wp2_with fail
      go_roundg (l.length - (k + 1))
      case measure => have := HG.out; have := HLt.out; omega
      case rel => exact ⟨k + 1, by have := HLt.out; omega, by rw [HS.out], by go_num, rfl⟩
    · have hk' : decide (k < l.length) = false := decide_eq_false hlt
      have hk2 : decide ((k : Int) < (l.length : Int)) = false := decide_eq_false (by omega)
      have hke : k = l.length := by omega
      have HR : Hid (sumL (l.take k) = sumL l) := by show _ = _; rw [hke]; exact HE.out
      clear hkg hlt hke
      go_wp2
      go_ret
      exact ⟨by rw [HR.out]; rfl, rfl⟩
set_option maxHeartbeats 6400000 in
set_option maxRecDepth 100000 in
/-- the reference's Times -/
theorem rcTimes {w : World} {ao : Option Addr} {l : List Int} {c : Nat} (h : IsVals w ao (iv l)) (hn : l.length ≤ 17592186043904) :
    Calls Try.prog 13 #[.slice ao l.length c] w fun e w' => e = .returned (.int .i64 (timL l : Nat)) ∧ w' = w := by
  have H := show Hid _ from h
  have hn2 : (l.length : Int) ≤ 17592186043904 := by omega
  have HE : Hid (timL (l.take l.length) = timL l) := by show _ = _; rw [List.take_length]
  clear h hn
  go_enter Try.func13, Try.ntmps13
  go_wp2_with fail
  go_loopg [3, 4] l.length (fun gq x y wr => ∃ k : Nat, k + gq = l.length ∧ x = .int .i64 (timL (l.take k) : Nat) ∧ y = .int .i64 (k : Int) ∧ wr = w)
  case atStart => exact ⟨0, by omega, rfl, rfl, rfl⟩
  case round =>
    obtain ⟨k, hkg, rfl, rfl, hw⟩ := hrel
    have HG : Hid (k + gk = l.length) := hkg
    subst hw
    by_cases hlt : k < l.length
    · have hk' : (k : Int) < (l.length : Int) := by omega
      have hk2 : (k : Int) ≤ 17592186043904 := by omega
      obtain ⟨g, o, rfl, _, d0⟩ := H.out k _ (iv_at hlt)
      have HS : Hid (timL (l.take (k + 1)) = capS (timL (l.take k) * capS l[k].toNat)) := by
        show _ = _
        rw [timL_step (List.getElem?_eq_getElem hlt)]
        unfold timL; rw [← capS_mul (capS _) (_), capS_idem]
      have hsl := timL_le (l.take k)
      have HLt : Hid (k < l.length) := hlt
      generalize l[k] = x at *
      generalize hs : timL (l.take k) = s at *
      have HP1 := show Hid _ from rcpart x wr
      have HP2 := show Hid _ from rcby s (capS x.toNat) hsl (capS_le _) wr
      generalize capS (s * capS x.toNat) = z at *
      generalize capS x.toNat = y at *
      clear hs hkg hlt hsl
      go_wp2_with fail
      refine Calls.mono HP1.out ?_
      rintro e w2 ⟨rfl, rfl⟩
      go_wp2_with fail
      refine Calls.mono HP2.out ?_
      rintro e w3 ⟨rfl, rfl⟩
      go_wp2_with fail
      go_roundg (l.length - (k + 1))
      case measure => have := HG.out; have := HLt.out; omega
      case rel => exact ⟨k + 1, by have := HLt.out; omega, by rw [HS.out], by go_num, rfl⟩
    · have hk' : decide (k < l.length) = false := decide_eq_false hlt
      have hk2 : decide ((k : Int) < (l.length : Int)) = false := decide_eq_false (by omega)
      have hke : k = l.length := by omega
      have HR : Hid (timL (l.take k) = timL l) := by show _ = _; rw [hke]; exact HE.out
      clear hkg hlt hke
      go_wp2
      go_ret
      exact ⟨by rw [HR.out]; rfl, rfl⟩
end Go.Proofs.Ytjhlfdlamjpdeaa.Nm

namespace Go.Proofs.Ytjhlfdlamjpdeaa.Nm
open Go.RowKit Go.Maps Go.Proofs.Ytjhlfdlamjpdeaa.Sp Go.Proofs.Ytjhlfdlamjpdeaa.Lx Go.Proofs.Ytjhlfdlamjpdeaa.Gr

/-- a row that was lent, written over: what was is as it was -/
theorem fr_below {w u w' : World} {g : Nat} (hb : Below w.heap.size w u) (hg : w.heap.size ≤ g) (h : Fr [g] u w') : Below w.heap.size w w' :=
  ⟨h.os.trans hb.os, h.tape.trans hb.tape, h.output.trans hb.output, Nat.le_trans hb.size h.size, fun k hk => (h.block k (Nat.lt_of_lt_of_le hk hb.size) (by simp; omega)).trans (hb.block k hk)⟩
set_option maxHeartbeats 6400000 in
set_option maxRecDepth 100000 in
theorem sumsWalk (ao : Option Addr) (l : List Int) (c : Nat) (w : World) (h : IsVals w ao (iv l)) (hn : l.length ≤ 17592186043904) (hnil : ao = none → c = 0) :
    Calls Try.prog 4 #[.slice ao l.length c] w fun e w' => e = .returned (.bool true) ∧ Below w.heap.size w w' := by
  have HL := show Hid _ from lendJ_any h hn hnil
  have H : Hid (IsVals w ao (iv l) ∧ l.length ≤ 17592186043904) := ⟨h, hn⟩
  have hn2 : (l.length : Int) ≤ 17592186043904 := by omega
  clear h hn hnil
  go_enter Try.func4, Try.ntmps4
  go_wp2_with fail
  refine Calls.mono HL.out ?_
  rintro e w1 ⟨g, cap, rfl, hown, hb1⟩
  have HO : Hid (w1.ownsRow w.heap.size 3 1 (.slice (some ⟨g, 0, none⟩) (l.length + 1) cap) (l.length + 1) (iv l ++ [.int .i64 (-77)]) ∧ Below w.heap.size w w1) := ⟨hown, hb1⟩
  have HG : Hid (w.heap.size ≤ g) := (World.ownsRow.lt hown g rfl).1
  have HS := show Hid _ from sum_any (c := cap) (vals_front (vals_of hown)) H.out.2
  have HT := show Hid _ from times_any (c := cap) (vals_front (vals_of hown)) H.out.2
  have HK := show Hid _ from keptJ_any (c := c) hown (H.out.1.below hb1) H.out.2
  clear hown hb1 HL
  go_wp2_with fail
  refine Calls.mono HS.out ?_
  rintro e w2 ⟨rfl, hw2⟩
  subst hw2
  go_wp2_with fail
  refine Calls.mono HT.out ?_
  rintro e w3 ⟨rfl, hw3⟩
  subst hw3
  go_wp2_with fail
  refine Calls.mono HK.out ?_
  rintro e w4 ⟨rfl, hf4⟩
  have hb4 := fr_below HO.out.2 HG.out hf4
  have HB4 : Hid (Below w.heap.size w w4) := hb4
  have HR1 := show Hid _ from rcSum (c := c) (H.out.1.below hb4) H.out.2
  have HR2 := show Hid _ from rcTimes (c := c) (H.out.1.below hb4) H.out.2
  have HZ1 : Hid (Calls Try.prog 9 #[.slice none 0 0] w4 fun e w' => e = .returned (.int .i64 0) ∧ w' = w4) := sum_any (l := []) (c := 0) (vals_empty w4 none) (by decide)
  have HZ2 : Hid (Calls Try.prog 10 #[.slice none 0 0] w4 fun e w' => e = .returned (.int .i64 1) ∧ w' = w4) := times_any (l := []) (c := 0) (vals_empty w4 none) (by decide)
  have HH := show Hid _ from head10 w4
  generalize sumL l = sl at *
  generalize timL l = tl at *
  have q1 : ((sl : Int) == (sl : Int)) = true := by simp
  have q2 : ((tl : Int) == (tl : Int)) = true := by simp
  clear hf4 hb4 HS HT HK
  go_wp2_with fail
  refine Calls.mono HR1.out ?_
  rintro e w5 ⟨rfl, hw5⟩
  subst hw5
  go_wp2_with fail
  refine Calls.mono HR2.out ?_
  rintro e w6 ⟨rfl, hw6⟩
  subst hw6
  go_wp2_with fail
  refine Calls.mono HZ1.out ?_
  rintro e w7 ⟨rfl, hw7⟩
  subst hw7
  go_wp2_with fail
  refine Calls.mono HZ2.out ?_
  rintro e w8 ⟨rfl, hw8⟩
  subst hw8
  go_wp2_with fail
  refine Calls.mono HH.out ?_
  rintro e w9 ⟨rfl, hb9⟩
  have HB9 := show Hid _ from hb9
  clear hb9
  go_wp2
  go_ret
  exact ⟨rfl, HB4.out.trans (HB9.out.mono HB4.out.size)⟩
end Go.Proofs.Ytjhlfdlamjpdeaa.Nm
namespace Go.Proofs.Ytjhlfdlamjpdeaa.costSums
open Go.RowKit Go.Proofs.Ytjhlfdlamjpdeaa.Sp Go.Proofs.Ytjhlfdlamjpdeaa.Lx Go.Proofs.Ytjhlfdlamjpdeaa.Gr
theorem walk (a : Option Addr) (len cap : Nat) (z : Nat → Int) (W : World) (h : IsInts W a len z) (hr : len ≤ 17592186043904) (hnil : a = none → cap = 0) :
    Calls Try.prog 4 #[.slice a len cap] W fun e w' => e = .returned (.bool true) ∧ Below W.heap.size W w' := by
  have := Nm.sumsWalk a ((List.range len).map z) cap W (Nm.ints_valsJ h) (by simpa using hr) hnil
  simpa using this
end Go.Proofs.Ytjhlfdlamjpdeaa.costSums

namespace Go.Proofs.Ytjhlfdlamjpdeaa.costSums
open Go.ChangeShapes Go.WideShapes Go.ChangeAt Go.RowKit
open Go.Proofs.Ytjhlfdlamjpdeaa.Sp Go.Proofs.Ytjhlfdlamjpdeaa.Lx Go.Proofs.Ytjhlfdlamjpdeaa.Gr

set_option maxRecDepth 100000 in
theorem contractF (H : Type) (enc : TypeId × Value → H) (W : World) (base : Nat) (args : Array Value) (ds gs : List (DataW H)) (before : List MemPlace)
    (hval : ∀ (j : Nat) t v, Try.f4.params[j]? = some t → args[j]? = some v → Value.okWide Try.prog W .any base t v)
    (hW : DataW.Whole enc Try.prog Try.f4.params.toList Rows.costSumsSpec.vars false W args.toList ds gs before)
    (hsz : (DataW.weightsEach Try.prog (Try.f4.params.toList ++ Rows.costSumsSpec.plain.varTypes Try.prog) (ds ++ gs)).all (· ≤ reachBytes) = true) :
    Calls Try.prog 4 args W fun e W' => ∃ v, e = .returned v ∧ Rows.costSumsSpec.post enc Try.prog Try.f4 false true false false W args v W' := by
  have hW' := hW
  obtain ⟨p, q, hA0, hV, rfl, hfz, hnd⟩ := hW
  have hA : DataW.TrodAll enc Try.prog W 0 (fun _ => true) true Try.f4.params.toList args.toList ds p := hA0
  rw [Try.params4] at hA hval hsz
  obtain ⟨v0, vs0, d0, ds0, p0, q0, hargs, rfl, rfl, h0, r0⟩ := trodAll_cons hA
  obtain ⟨rfl, rfl, rfl⟩ := trodAll_nil r0
  obtain rfl : args = #[v0] := by cases args; simp_all
  obtain ⟨rfl, rfl⟩ := trodVars_none hV
  obtain ⟨a0, len0, cap0, rfl⟩ := okWide_slice Try.underlying25 (hval 0 25 v0 rfl rfl)
  have lt0 : ∀ x ∈ p0, x.block < W.heap.size := by obtain ⟨m, hm⟩ := h0; exact DataW.trod_lt m _ _ _ hm
  obtain ⟨z0, ib0, dd0⟩ := open_nums h0
  refine (walk a0 len0 cap0 z0 W ib0 (Nm.nums_reachJ hsz (j := 0) rfl rfl dd0) (Nm.nil_capI h0)).mono fun e W2 ⟨he, bel⟩ => ?_
  subst he
  exact ⟨_, rfl, _, _, _, [], _, [], hW', trodAll_mk1 (shut_bool Try.underlying4 _), (trodAll_cons_mk (Below.trod laidOut (by kernel_rfl) (of_decide_eq_true (by kernel_rfl)) h0 bel lt0) trodAll_mk0), rfl, bel.frame _, fun h => by cases h⟩

set_option maxRecDepth 100000 in
theorem liftedF (os : Os) (started : os.Started) (H : Type) (enc : TypeId × Value → H) :
    ReturnsInHanded {} Try.checked os 4 .any (Rows.costSumsSpec.pre6 enc Try.prog Try.f4 Rows.costSumsRow.domain false) (Rows.costSumsSpec.post enc Try.prog Try.f4 false true false false) := by
  refine returnsInHanded_of_change_sized (C := Try.checked) own started (by kernel_rfl) Try.func4
    (ChangeSpec.witness6 (enc := enc) (C := Try.checked) false ⟨#[], #[.slice none 0 0], []⟩ 8 (by kernel_rfl) (by kernel_rfl) (by kernel_rfl) (by kernel_rfl)) ?_
  intro W base args ds gs before hval hW _ hsz _
  exact contractF H enc W base args ds gs before hval hW hsz

theorem provedF : Rows.CostSumsSaid :=
  OpenClaim.holds_of_wide 4 Try.f4 rfl rfl rfl rfl rfl rfl rfl ⟨rfl, rfl, rfl, rfl, rfl⟩ rfl rfl rfl rfl rfl (by kernel_rfl) Try.func4 (by kernel_rfl)
    (of_decide_eq_true (by kernel_rfl)) (by unfold Func.isWrapper; first | (rw [if_pos (by decide +kernel)]; kernel_rfl) | (rw [if_neg (by decide +kernel)]; exact ⟨rfl, rfl⟩))
    (fun os started H enc _ => liftedF os started H enc)
end Go.Proofs.Ytjhlfdlamjpdeaa.costSums
