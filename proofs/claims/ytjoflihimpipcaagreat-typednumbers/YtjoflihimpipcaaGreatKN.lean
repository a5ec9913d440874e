import Derived.Test.YtjoflihimpipcaaGreatK35
set_option maxHeartbeats 6400000
set_option maxRecDepth 100000
namespace Go.Proofs.YtjoflihimpipcaaGreat.Nm.Ty
open Go.RowKit Go.Maps Go.Proofs.YtjoflihimpipcaaGreat.Sp Go.Proofs.YtjoflihimpipcaaGreat.Lx Go.Proofs.YtjoflihimpipcaaGreat.Gr Go.Proofs.YtjoflihimpipcaaGreat.Nm
theorem numbersWalk (a b : Int) (w : World) (ha : in64 a) (hb : in64 b) :
    Calls Tryz.prog 5 #[.int .i64 a, .int .i64 b] w fun e w' => e = .returned (.bool true) ∧ Below w.heap.size w w' := by
  have HK := show Hid _ from known_any w
  have HC := show Hid _ from clamp_any
  have HR := show Hid _ from rclamp_any
  have HD : Hid (∀ W : World, Calls Tryz.prog 21 #[.int .i64 a, .int .i64 b] W fun e w' => e = .returned (.int .i64 (divZ a b)) ∧ w' = W) := fun W => div_any ha W
  have HE : Hid (∀ W : World, Calls Tryz.prog 21 #[.int .i64 b, .int .i64 a] W fun e w' => e = .returned (.int .i64 (divZ b a)) ∧ w' = W) := fun W => div_any hb W
  have HDr : Hid (∀ W : World, Calls Tryz.prog 22 #[.int .i64 a, .int .i64 b] W fun e w' => e = .returned (.int .i64 (divZ a b)) ∧ w' = W) := fun W => rdiv_any ha W
  have HEr : Hid (∀ W : World, Calls Tryz.prog 22 #[.int .i64 b, .int .i64 a] W fun e w' => e = .returned (.int .i64 (divZ b a)) ∧ w' = W) := fun W => rdiv_any hb W
  clear ha hb
  go_enter Tryz.func5, Tryz.ntmps5
  go_wp2_with fail
  refine Calls.mono HK.out ?_
  rintro e w1 ⟨rfl, hb1⟩
  have HB1 : Hid (Below w.heap.size w w1) := hb1
  clear hb1 HK
  go_wp2_with fail
  refine Calls.mono (HC.out a w1) ?_
  rintro e _ ⟨rfl, rfl⟩
  go_wp2_with fail
  refine Calls.mono (HR.out a _) ?_
  rintro e _ ⟨rfl, rfl⟩
  go_wp2_with fail
  refine Calls.mono (HC.out b _) ?_
  rintro e _ ⟨rfl, rfl⟩
  go_wp2_with fail
  refine Calls.mono (HR.out b _) ?_
  rintro e _ ⟨rfl, rfl⟩
  go_wp2_with fail
  refine Calls.mono (HD.out _) ?_
  rintro e _ ⟨rfl, rfl⟩
  go_wp2_with fail
  refine Calls.mono (HDr.out _) ?_
  rintro e _ ⟨rfl, rfl⟩
  go_wp2_with fail
  refine Calls.mono (HE.out _) ?_
  rintro e _ ⟨rfl, rfl⟩
  go_wp2_with fail
  refine Calls.mono (HEr.out _) ?_
  rintro e _ ⟨rfl, rfl⟩
  go_wp2
  go_ret
  exact ⟨rfl, HB1.out⟩
end Go.Proofs.YtjoflihimpipcaaGreat.Nm.Ty
namespace Go.Proofs.YtjoflihimpipcaaGreat.typedNumbers
open Go.RowKit Go.Proofs.YtjoflihimpipcaaGreat.Sp Go.Proofs.YtjoflihimpipcaaGreat.Lx Go.Proofs.YtjoflihimpipcaaGreat.Gr Go.Proofs.YtjoflihimpipcaaGreat.Nm.Ty
theorem walk (a b : Int) (w : World) (ha : in64 a) (hb : in64 b) :
    Calls Tryz.prog 5 #[.int .i64 a, .int .i64 b] w fun e w' => e = .returned (.bool true) ∧ Below w.heap.size w w' := numbersWalk a b w ha hb
end Go.Proofs.YtjoflihimpipcaaGreat.typedNumbers
namespace Go.Proofs.YtjoflihimpipcaaGreat.typedNumbers
open Go.ChangeShapes Go.WideShapes Go.ChangeAt Go.RowKit
open Go.Proofs.YtjoflihimpipcaaGreat.Sp Go.Proofs.YtjoflihimpipcaaGreat.Lx Go.Proofs.YtjoflihimpipcaaGreat.Gr
theorem contractF (H : Type) (enc : TypeId × Value → H) (W : World) (base : Nat) (args : Array Value) (ds gs : List (DataW H)) (before : List MemPlace)
    (hval : ∀ (j : Nat) t v, Tryz.f5.params[j]? = some t → args[j]? = some v → Value.okWide Tryz.prog W .any base t v)
    (hW : DataW.Whole enc Tryz.prog Tryz.f5.params.toList Rows.typedNumbersSpec.vars false W args.toList ds gs before)
    (hsz : (DataW.weightsEach Tryz.prog (Tryz.f5.params.toList ++ Rows.typedNumbersSpec.plain.varTypes Tryz.prog) (ds ++ gs)).all (· ≤ reachBytes) = true) :
    Calls Tryz.prog 5 args W fun e W' => ∃ v, e = .returned v ∧ Rows.typedNumbersSpec.post enc Tryz.prog Tryz.f5 false true false false W args v W' := by
  have hW' := hW
  obtain ⟨p, q, hA0, hV, rfl, hfz, hnd⟩ := hW
  have hA : DataW.TrodAll enc Tryz.prog W 0 (fun _ => true) true Tryz.f5.params.toList args.toList ds p := hA0
  rw [Tryz.params5] at hA hval hsz
  obtain ⟨v0, vs0, d0, ds0, p0, q0, hargs, rfl, rfl, h0, r0⟩ := trodAll_cons hA
  obtain ⟨v1, vs1, d1, ds1, p1, q1, rfl, rfl, rfl, h1, r1⟩ := trodAll_cons r0
  obtain ⟨rfl, rfl, rfl⟩ := trodAll_nil r1
  obtain rfl : args = #[v0, v1] := by cases args; simp_all
  obtain ⟨rfl, rfl⟩ := trodVars_none hV
  obtain ⟨a0, rfl, rfl, rfl, w0⟩ := open_int Tryz.underlying3 (hval 0 3 v0 rfl rfl) h0
  obtain ⟨a1, rfl, rfl, rfl, w1⟩ := open_int Tryz.underlying3 (hval 1 3 v1 rfl rfl) h1
  refine (walk a0 a1 W (Nm.Ty.wf_in w0) (Nm.Ty.wf_in w1)).mono fun e W2 ⟨he, bel⟩ => ?_
  subst he
  exact ⟨_, rfl, _, _, _, [], _, [], hW', trodAll_mk1 (shut_bool Tryz.underlying4 _), (trodAll_cons_mk (shut_int Tryz.underlying3 w0) (trodAll_cons_mk (shut_int Tryz.underlying3 w1) trodAll_mk0)), rfl, bel.frame _, fun h => by cases h⟩
theorem liftedF (os : Os) (started : os.Started) (H : Type) (enc : TypeId × Value → H) :
    ReturnsInHanded {} Tryz.checked os 5 .any (Rows.typedNumbersSpec.pre6 enc Tryz.prog Tryz.f5 Rows.typedNumbersRow.domain false) (Rows.typedNumbersSpec.post enc Tryz.prog Tryz.f5 false true false false) := by
  refine returnsInHanded_of_change_sized (C := Tryz.checked) own started (by kernel_rfl) Tryz.func5
    (ChangeSpec.witness6 (enc := enc) (C := Tryz.checked) false ⟨#[], #[.int .i64 0, .int .i64 0], []⟩ 8 (by kernel_rfl) (by kernel_rfl) (by kernel_rfl) (by kernel_rfl)) ?_
  intro W base args ds gs before hval hW _ hsz _
  exact contractF H enc W base args ds gs before hval hW hsz
theorem provedF : Rows.TypedNumbersSaid :=
  OpenClaim.holds_of_wide 5 Tryz.f5 rfl rfl rfl rfl rfl rfl rfl ⟨rfl, rfl, rfl, rfl, rfl⟩ rfl rfl rfl rfl rfl (by kernel_rfl) Tryz.func5 (by kernel_rfl)
    (of_decide_eq_true (by kernel_rfl)) (by unfold Func.isWrapper; first | (rw [if_pos (by decide +kernel)]; kernel_rfl) | (rw [if_neg (by decide +kernel)]; exact ⟨rfl, rfl⟩))
    (fun os started H enc _ => liftedF os started H enc)
end Go.Proofs.YtjoflihimpipcaaGreat.typedNumbers
