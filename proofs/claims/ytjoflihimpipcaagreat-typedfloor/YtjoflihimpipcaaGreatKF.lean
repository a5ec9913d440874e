import Derived.Test.YtjoflihimpipcaaGreatK35
set_option maxHeartbeats 6400000
set_option maxRecDepth 100000
namespace Go.Proofs.YtjoflihimpipcaaGreat.Nm.Ty
open Go.RowKit Go.Maps Go.Proofs.YtjoflihimpipcaaGreat.Sp Go.Proofs.YtjoflihimpipcaaGreat.Lx Go.Proofs.YtjoflihimpipcaaGreat.Gr Go.Proofs.YtjoflihimpipcaaGreat.Nm
theorem clamp_same {n : Int} (h1 : -1073741824 ≤ n) (h2 : n ≤ 1073741824) : clampZ n = n := by unfold clampZ; omega
/-- quotient and rest, as Go has them -/
theorem tdiv_facts {a b : Int} (ha : -1073741824 ≤ a ∧ a ≤ 1073741824) (hb : b ≠ 0) : (a.tmod b).natAbs < b.natAbs ∧ (0 ≤ a → 0 ≤ a.tmod b) ∧ (a ≤ 0 → a.tmod b ≤ 0) ∧ (a.tdiv b).natAbs ≤ 1073741824 ∧ (2 ≤ b.natAbs → (a.tdiv b).natAbs ≤ 536870912) := by
  have hb1 : 0 < b.natAbs := by omega
  have h1 : (a.tmod b).natAbs < b.natAbs := by rw [Int.natAbs_tmod]; exact Nat.mod_lt _ hb1
  have h4 : (a.tdiv b).natAbs = a.natAbs / b.natAbs := Int.natAbs_tdiv a b
  refine ⟨h1, fun h => Int.tmod_nonneg b h, fun h => ?_, ?_, fun h => ?_⟩
  · have h2 := Int.tmod_nonneg b (show 0 ≤ -a by omega)
    rw [Int.neg_tmod] at h2
    omega
  · rw [h4]
    have := Nat.div_le_self a.natAbs b.natAbs
    omega
  · rw [h4]
    have h5 : a.natAbs / b.natAbs ≤ a.natAbs / 2 := Nat.div_le_div_left h (by omega)
    omega
theorem div_floor {a b : Int} (ha : -1073741824 ≤ a ∧ a ≤ 1073741824) (hb : b ≠ 0) : (0 < b → 0 ≤ a - divZ a b * b ∧ a - divZ a b * b < b) ∧ (b < 0 → a - divZ a b * b ≤ 0 ∧ b < a - divZ a b * b) := by
  obtain ⟨h1, h2, h3, h4, h5⟩ := tdiv_facts ha hb
  have hm := tmod_sub a b
  have hq : divZ a b = a.tdiv b - if a.tmod b ≠ 0 ∧ ¬ ((a.tmod b < 0) ↔ (b < 0)) then 1 else 0 := by
    unfold divZ
    rw [if_neg hb]
    split
    · rename_i hb1
      subst hb1
      have hr : a.tmod (-1) = 0 := by omega
      have hq : a - a.tdiv (-1) * (-1) = 0 := by rw [hm, hr]
      rw [clamp_same ha.1 ha.2, hr, if_neg (fun e => e.1 rfl)]
      omega
    · split
      · rename_i hb1 hc
        have : 2 ≤ b.natAbs := by omega
        have := h5 this
        exact clamp_same (by omega) (by omega)
      · exact clamp_same (by omega) (by omega)
  rw [hq]
  split
  · rename_i hc
    have e : a - (a.tdiv b - 1) * b = a.tmod b + b := by rw [Int.sub_mul, Int.one_mul]; omega
    rw [e]
    refine ⟨fun h => ?_, fun h => ?_⟩ <;> omega
  · rename_i hc
    rw [Int.sub_zero, hm]
    refine ⟨fun h => ?_, fun h => ?_⟩ <;> omega
theorem div_zero (a : Int) : divZ a 0 = 0 := if_pos rfl
theorem floorWalk (a b : Int) (w : World) (_ha : in64 a) (_hb : in64 b) :
    Calls Tryz.prog 8 #[.int .i64 a, .int .i64 b] w fun e w' => e = .returned (.bool true) ∧ Below w.heap.size w w' := by
  have HK := show Hid _ from known_any w
  have HC := show Hid _ from clamp_any
  obtain ⟨hx1, hx2⟩ := clamp_in a
  obtain ⟨hy1, hy2⟩ := clamp_in b
  have HCx : Hid (∀ W : World, Calls Tryz.prog 19 #[.int .i64 (clampZ a)] W fun e w' => e = .returned (.int .i64 (clampZ a)) ∧ w' = W) := fun W => by have := clamp_any (clampZ a) W; rw [clamp_same hx1 hx2] at this; exact this
  have HD : Hid (∀ W : World, Calls Tryz.prog 21 #[.int .i64 (clampZ a), .int .i64 (clampZ b)] W fun e w' => e = .returned (.int .i64 (divZ (clampZ a) (clampZ b))) ∧ w' = W) := fun W => div_any ⟨by omega, by omega⟩ W
  have HF := show Hid _ from div_floor (b := clampZ b) ⟨hx1, hx2⟩
  have HCa := show Hid _ from HC.out a
  have HCb := show Hid _ from HC.out b
  have HZ := show Hid _ from div_zero (clampZ a)
  clear _ha _hb HC
  generalize clampZ a = x at *
  generalize clampZ b = y at *
  have l1 : decide (x < -1073741824) = false := decide_eq_false (by omega)
  have l2 : decide (x > 1073741824) = false := decide_eq_false (by omega)
  have l3 : decide (y < -1073741824) = false := decide_eq_false (by omega)
  have l4 : decide (y > 1073741824) = false := decide_eq_false (by omega)
  go_enter Tryz.func8, Tryz.ntmps8
  go_wp2_with fail
  refine Calls.mono HK.out ?_
  rintro e w1 ⟨rfl, hb1⟩
  have HB1 : Hid (Below w.heap.size w w1) := hb1
  clear hb1 HK
  go_wp2_with fail
  refine Calls.mono (HCa.out w1) ?_
  rintro e _ ⟨rfl, rfl⟩
  go_wp2_with fail
  refine Calls.mono (HCb.out _) ?_
  rintro e _ ⟨rfl, rfl⟩
  clear HCa HCb
  go_wp2_with fail
  refine Calls.mono (HCx.out _) ?_
  rintro e _ ⟨rfl, rfl⟩
  go_wp2_with fail
  refine Calls.mono (HD.out _) ?_
  rintro e _ ⟨rfl, rfl⟩
  clear HCx HD l1 l2 l3 l4
  by_cases hy : y = 0
  · subst hy
    rw [HZ.out]
    clear HZ HF
    go_wp2
    go_ret
    exact ⟨rfl, HB1.out⟩
  · have hf := HF.out hy
    have hy' : (y == 0) = false := by simpa using hy
    clear HF HZ
    generalize divZ x y = q at *
    have hr : ∃ r, r = x - q * y := ⟨_, rfl⟩
    obtain ⟨r, hr⟩ := hr
    rw [← hr] at hf
    have hm : q * y = x - r := by omega
    have w1' : IntKind.i64.wrap (q * y) = x - r := by rw [IntKind.wrap_i64, hm]; omega
    have w2' : IntKind.i64.wrap (x - (x - r)) = r := by rw [IntKind.wrap_i64]; omega
    have HHf := show Hid _ from hf
    clear hf hr hm
    by_cases hp : 0 < y
    · have d1 : decide (y > 0) = true := decide_eq_true hp
      have d2 : decide (r ≥ 0) = true := decide_eq_true (HHf.out.1 hp).1
      have d3 : decide (r < y) = true := decide_eq_true (HHf.out.1 hp).2
      clear hp hy
      go_wp2
      go_ret
      exact ⟨rfl, HB1.out⟩
    · have hn : y < 0 := by omega
      have d1 : decide (y > 0) = false := decide_eq_false hp
      have d2 : decide (y < 0) = true := decide_eq_true hn
      have d3 : decide (r ≤ 0) = true := decide_eq_true (HHf.out.2 hn).1
      have d4 : decide (r > y) = true := decide_eq_true (HHf.out.2 hn).2
      clear hp hy hn
      go_wp2
      go_ret
      exact ⟨rfl, HB1.out⟩
end Go.Proofs.YtjoflihimpipcaaGreat.Nm.Ty
namespace Go.Proofs.YtjoflihimpipcaaGreat.typedFloor
open Go.RowKit Go.Proofs.YtjoflihimpipcaaGreat.Sp Go.Proofs.YtjoflihimpipcaaGreat.Lx Go.Proofs.YtjoflihimpipcaaGreat.Gr Go.Proofs.YtjoflihimpipcaaGreat.Nm.Ty
theorem walk (a b : Int) (w : World) (ha : in64 a) (hb : in64 b) :
    Calls Tryz.prog 8 #[.int .i64 a, .int .i64 b] w fun e w' => e = .returned (.bool true) ∧ Below w.heap.size w w' := floorWalk a b w ha hb
end Go.Proofs.YtjoflihimpipcaaGreat.typedFloor
namespace Go.Proofs.YtjoflihimpipcaaGreat.typedFloor
open Go.ChangeShapes Go.WideShapes Go.ChangeAt Go.RowKit
open Go.Proofs.YtjoflihimpipcaaGreat.Sp Go.Proofs.YtjoflihimpipcaaGreat.Lx Go.Proofs.YtjoflihimpipcaaGreat.Gr
theorem contractF (H : Type) (enc : TypeId × Value → H) (W : World) (base : Nat) (args : Array Value) (ds gs : List (DataW H)) (before : List MemPlace)
    (hval : ∀ (j : Nat) t v, Tryz.f8.params[j]? = some t → args[j]? = some v → Value.okWide Tryz.prog W .any base t v)
    (hW : DataW.Whole enc Tryz.prog Tryz.f8.params.toList Rows.typedFloorSpec.vars false W args.toList ds gs before)
    (hsz : (DataW.weightsEach Tryz.prog (Tryz.f8.params.toList ++ Rows.typedFloorSpec.plain.varTypes Tryz.prog) (ds ++ gs)).all (· ≤ reachBytes) = true) :
    Calls Tryz.prog 8 args W fun e W' => ∃ v, e = .returned v ∧ Rows.typedFloorSpec.post enc Tryz.prog Tryz.f8 false true false false W args v W' := by
  have hW' := hW
  obtain ⟨p, q, hA0, hV, rfl, hfz, hnd⟩ := hW
  have hA : DataW.TrodAll enc Tryz.prog W 0 (fun _ => true) true Tryz.f8.params.toList args.toList ds p := hA0
  rw [Tryz.params8] at hA hval hsz
  obtain ⟨v0, vs0, d0, ds0, p0, q0, hargs, rfl, rfl, h0, r0⟩ := trodAll_cons hA
  obtain ⟨v1, vs1, d1, ds1, p1, q1, rfl, rfl, rfl, h1, r1⟩ := trodAll_cons r0
  obtain ⟨rfl, rfl, rfl⟩ := trodAll_nil r1
  obtain rfl : args = #[v0, v1] := by cases args; simp_all
  obtain ⟨rfl, rfl⟩ := trodVars_none hV
  obtain ⟨a0, rfl, rfl, rfl, w0⟩ := open_int Tryz.underlying3 (hval 0 3 v0 rfl rfl) h0
  obtain ⟨a1, rfl, rfl, rfl, w1⟩ := open_int Tryz.underlying3 (hval 1 3 v1 rfl rfl) h1
  refine (walk a0 a1 W (Nm.Ty.wf_in w0) (Nm.Ty.wf_in w1)).mono fun e W2 ⟨he, bel⟩ => ?_
  subst he
  exact ⟨_, rfl, _, _, _, [], _, [], hW', trodAll_mk1 (shut_bool Tryz.underlying4 _), (trodAll_cons_mk (shut_int Tryz.underlying3 w0) (trodAll_cons_mk (shut_int Tryz.underlying3 w1) trodAll_mk0)), rfl, bel.frame _, fun h => by cases h⟩
theorem liftedF (os : Os) (started : os.Started) (H : Type) (enc : TypeId × Value → H) :
    ReturnsInHanded {} Tryz.checked os 8 .any (Rows.typedFloorSpec.pre6 enc Tryz.prog Tryz.f8 Rows.typedFloorRow.domain false) (Rows.typedFloorSpec.post enc Tryz.prog Tryz.f8 false true false false) := by
  refine returnsInHanded_of_change_sized (C := Tryz.checked) own started (by kernel_rfl) Tryz.func8
    (ChangeSpec.witness6 (enc := enc) (C := Tryz.checked) false ⟨#[], #[.int .i64 0, .int .i64 0], []⟩ 8 (by kernel_rfl) (by kernel_rfl) (by kernel_rfl) (by kernel_rfl)) ?_
  intro W base args ds gs before hval hW _ hsz _
  exact contractF H enc W base args ds gs before hval hW hsz
theorem provedF : Rows.TypedFloorSaid :=
  OpenClaim.holds_of_wide 8 Tryz.f8 rfl rfl rfl rfl rfl rfl rfl ⟨rfl, rfl, rfl, rfl, rfl⟩ rfl rfl rfl rfl rfl (by kernel_rfl) Tryz.func8 (by kernel_rfl)
    (of_decide_eq_true (by kernel_rfl)) (by unfold Func.isWrapper; first | (rw [if_pos (by decide +kernel)]; kernel_rfl) | (rw [if_neg (by decide +kernel)]; exact ⟨rfl, rfl⟩))
    (fun os started H enc _ => liftedF os started H enc)
end Go.Proofs.YtjoflihimpipcaaGreat.typedFloor
