import Derived.Test.YtjopmpnccoaajaaCdRow
import Derived.Great.BuildSlice
namespace Go.Proofs.Ytjopmpnccoaajaa.Cd
open Go.RowKit

theorem info_parts {P : Program} {T : TypeId} {z : Value} {s b : Nat} (h : (P.info? T).map (fun i => (i.zero, i.size, i.bytes)) = some (some z, s, b)) : ∃ i, P.info? T = some i ∧ i.zero = some z ∧ i.size = s ∧ i.bytes = b := by
  cases hi : P.info? T with
  | none => rw [hi] at h; cases h
  | some i =>
    rw [hi] at h
    simp only [Option.map_some, Option.some.injEq, Prod.mk.injEq] at h
    exact ⟨i, rfl, h.1, h.2.1, h.2.2⟩
theorem infoCr : (Try.prog.info? 27).map (fun i => (i.zero, i.size, i.bytes)) = some (some (.agg #[.string ⟨#[]⟩, .int .i64 0, .int .i64 0, .int .i64 0, .int .i64 0]), 5, 48) := by kernel_rfl
theorem crow0 (w : World) (nm : ByteArray) : Calls Try.prog 5 #[.string nm, .slice none 0 0] w fun e w' => (∃ a b c d : Int, e = .returned (.agg #[.string nm, .int .i64 a, .int .i64 b, .int .i64 c, .int .i64 d])) ∧ Below w.heap.size w w' :=
  Calls.mono (crow (n := 0) (l := fun _ => 0) (by omega) (fun k h => absurd h (by omega))) fun _ _ h => ⟨⟨_, _, _, _, h.1⟩, h.2⟩
theorem crow1 (w : World) (nm : ByteArray) (x0 : Int) : Calls Try.prog 5 #[.string nm, .slice (some ⟨w.heap.size, 0, none⟩) 1 1] (w.alloc (.cells #[.int .i64 x0] 3)) fun e w' => (∃ a b c d : Int, e = .returned (.agg #[.string nm, .int .i64 a, .int .i64 b, .int .i64 c, .int .i64 d])) ∧ Below w.heap.size w w' :=
  Calls.mono (crow (n := 1) (l := fun k => ([x0] : List Int).getD k 0) (by omega) (fun k h => ⟨_, _, rfl, by simp, by
    have e := heap_alloc_new w (.cells #[.int .i64 x0] 3)
    simp only [World.cell?, e]
    have : k = 0 := by omega
    rcases this with rfl <;> rfl⟩)) fun _ _ h => ⟨⟨_, _, _, _, h.1⟩, ((Below.refl _ w).alloc (Nat.le_refl _) _).trans (h.2.mono (by simp))⟩
theorem crow2 (w : World) (nm : ByteArray) (x0 x1 : Int) : Calls Try.prog 5 #[.string nm, .slice (some ⟨w.heap.size, 0, none⟩) 2 2] (w.alloc (.cells #[.int .i64 x0, .int .i64 x1] 3)) fun e w' => (∃ a b c d : Int, e = .returned (.agg #[.string nm, .int .i64 a, .int .i64 b, .int .i64 c, .int .i64 d])) ∧ Below w.heap.size w w' :=
  Calls.mono (crow (n := 2) (l := fun k => ([x0, x1] : List Int).getD k 0) (by omega) (fun k h => ⟨_, _, rfl, by simp, by
    have e := heap_alloc_new w (.cells #[.int .i64 x0, .int .i64 x1] 3)
    simp only [World.cell?, e]
    have : k = 0 ∨ k = 1 := by omega
    rcases this with rfl | rfl <;> rfl⟩)) fun _ _ h => ⟨⟨_, _, _, _, h.1⟩, ((Below.refl _ w).alloc (Nat.le_refl _) _).trans (h.2.mono (by simp))⟩
theorem crow3 (w : World) (nm : ByteArray) (x0 x1 x2 : Int) : Calls Try.prog 5 #[.string nm, .slice (some ⟨w.heap.size, 0, none⟩) 3 3] (w.alloc (.cells #[.int .i64 x0, .int .i64 x1, .int .i64 x2] 3)) fun e w' => (∃ a b c d : Int, e = .returned (.agg #[.string nm, .int .i64 a, .int .i64 b, .int .i64 c, .int .i64 d])) ∧ Below w.heap.size w w' :=
  Calls.mono (crow (n := 3) (l := fun k => ([x0, x1, x2] : List Int).getD k 0) (by omega) (fun k h => ⟨_, _, rfl, by simp, by
    have e := heap_alloc_new w (.cells #[.int .i64 x0, .int .i64 x1, .int .i64 x2] 3)
    simp only [World.cell?, e]
    have : k = 0 ∨ k = 1 ∨ k = 2 := by omega
    rcases this with rfl | rfl | rfl <;> rfl⟩)) fun _ _ h => ⟨⟨_, _, _, _, h.1⟩, ((Below.refl _ w).alloc (Nat.le_refl _) _).trans (h.2.mono (by simp))⟩
theorem crow4 (w : World) (nm : ByteArray) (x0 x1 x2 x3 : Int) : Calls Try.prog 5 #[.string nm, .slice (some ⟨w.heap.size, 0, none⟩) 4 4] (w.alloc (.cells #[.int .i64 x0, .int .i64 x1, .int .i64 x2, .int .i64 x3] 3)) fun e w' => (∃ a b c d : Int, e = .returned (.agg #[.string nm, .int .i64 a, .int .i64 b, .int .i64 c, .int .i64 d])) ∧ Below w.heap.size w w' :=
  Calls.mono (crow (n := 4) (l := fun k => ([x0, x1, x2, x3] : List Int).getD k 0) (by omega) (fun k h => ⟨_, _, rfl, by simp, by
    have e := heap_alloc_new w (.cells #[.int .i64 x0, .int .i64 x1, .int .i64 x2, .int .i64 x3] 3)
    simp only [World.cell?, e]
    have : k = 0 ∨ k = 1 ∨ k = 2 ∨ k = 3 := by omega
    rcases this with rfl | rfl | rfl | rfl <;> rfl⟩)) fun _ _ h => ⟨⟨_, _, _, _, h.1⟩, ((Below.refl _ w).alloc (Nat.le_refl _) _).trans (h.2.mono (by simp))⟩
set_option maxHeartbeats 12800000 in
set_option maxRecDepth 100000 in
/-- the table has 42 rows -/
theorem ctab (w : World) : Calls Try.prog 4 #[] w fun e w' => (∃ g, e = .returned (.slice (some ⟨g, 0, none⟩) 42 42)) ∧ Below w.heap.size w w' := by
  have H0 : Hid (Below w.heap.size w w) := Below.refl _ w
  go_enter Try.func4, Try.ntmps4
  go_wp2_with fail
  refine Calls.mono (crow0 _ _) ?_
  rintro e w1 ⟨⟨a0, b0, c0, d0, rfl⟩, hb⟩
  have H1 : Hid (Below w.heap.size w w1) := H0.out.trans (hb.mono H0.out.size)
  clear hb H0
  go_wp2_with fail
  refine Calls.mono (crow1 _ _ _) ?_
  rintro e w2 ⟨⟨a1, b1, c1, d1, rfl⟩, hb⟩
  have H2 : Hid (Below w.heap.size w w2) := H1.out.trans (hb.mono H1.out.size)
  clear hb H1
  go_wp2_with fail
  refine Calls.mono (crow1 _ _ _) ?_
  rintro e w3 ⟨⟨a2, b2, c2, d2, rfl⟩, hb⟩
  have H3 : Hid (Below w.heap.size w w3) := H2.out.trans (hb.mono H2.out.size)
  clear hb H2
  go_wp2_with fail
  refine Calls.mono (crow1 _ _ _) ?_
  rintro e w4 ⟨⟨a3, b3, c3, d3, rfl⟩, hb⟩
  have H4 : Hid (Below w.heap.size w w4) := H3.out.trans (hb.mono H3.out.size)
  clear hb H3
  go_wp2_with fail
  refine Calls.mono (crow1 _ _ _) ?_
  rintro e w5 ⟨⟨a4, b4, c4, d4, rfl⟩, hb⟩
  have H5 : Hid (Below w.heap.size w w5) := H4.out.trans (hb.mono H4.out.size)
  clear hb H4
  go_wp2_with fail
  refine Calls.mono (crow1 _ _ _) ?_
  rintro e w6 ⟨⟨a5, b5, c5, d5, rfl⟩, hb⟩
  have H6 : Hid (Below w.heap.size w w6) := H5.out.trans (hb.mono H5.out.size)
  clear hb H5
  go_wp2_with fail
  refine Calls.mono (crow0 _ _) ?_
  rintro e w7 ⟨⟨a6, b6, c6, d6, rfl⟩, hb⟩
  have H7 : Hid (Below w.heap.size w w7) := H6.out.trans (hb.mono H6.out.size)
  clear hb H6
  go_wp2_with fail
  refine Calls.mono (crow0 _ _) ?_
  rintro e w8 ⟨⟨a7, b7, c7, d7, rfl⟩, hb⟩
  have H8 : Hid (Below w.heap.size w w8) := H7.out.trans (hb.mono H7.out.size)
  clear hb H7
  go_wp2_with fail
  refine Calls.mono (crow1 _ _ _) ?_
  rintro e w9 ⟨⟨a8, b8, c8, d8, rfl⟩, hb⟩
  have H9 : Hid (Below w.heap.size w w9) := H8.out.trans (hb.mono H8.out.size)
  clear hb H8
  go_wp2_with fail
  refine Calls.mono (crow1 _ _ _) ?_
  rintro e w10 ⟨⟨a9, b9, c9, d9, rfl⟩, hb⟩
  have H10 : Hid (Below w.heap.size w w10) := H9.out.trans (hb.mono H9.out.size)
  clear hb H9
  go_wp2_with fail
  refine Calls.mono (crow3 _ _ _ _ _) ?_
  rintro e w11 ⟨⟨a10, b10, c10, d10, rfl⟩, hb⟩
  have H11 : Hid (Below w.heap.size w w11) := H10.out.trans (hb.mono H10.out.size)
  clear hb H10
  go_wp2_with fail
  refine Calls.mono (crow0 _ _) ?_
  rintro e w12 ⟨⟨a11, b11, c11, d11, rfl⟩, hb⟩
  have H12 : Hid (Below w.heap.size w w12) := H11.out.trans (hb.mono H11.out.size)
  clear hb H11
  go_wp2_with fail
  refine Calls.mono (crow0 _ _) ?_
  rintro e w13 ⟨⟨a12, b12, c12, d12, rfl⟩, hb⟩
  have H13 : Hid (Below w.heap.size w w13) := H12.out.trans (hb.mono H12.out.size)
  clear hb H12
  go_wp2_with fail
  refine Calls.mono (crow0 _ _) ?_
  rintro e w14 ⟨⟨a13, b13, c13, d13, rfl⟩, hb⟩
  have H14 : Hid (Below w.heap.size w w14) := H13.out.trans (hb.mono H13.out.size)
  clear hb H13
  go_wp2_with fail
  refine Calls.mono (crow0 _ _) ?_
  rintro e w15 ⟨⟨a14, b14, c14, d14, rfl⟩, hb⟩
  have H15 : Hid (Below w.heap.size w w15) := H14.out.trans (hb.mono H14.out.size)
  clear hb H14
  go_wp2_with fail
  refine Calls.mono (crow0 _ _) ?_
  rintro e w16 ⟨⟨a15, b15, c15, d15, rfl⟩, hb⟩
  have H16 : Hid (Below w.heap.size w w16) := H15.out.trans (hb.mono H15.out.size)
  clear hb H15
  go_wp2_with fail
  refine Calls.mono (crow0 _ _) ?_
  rintro e w17 ⟨⟨a16, b16, c16, d16, rfl⟩, hb⟩
  have H17 : Hid (Below w.heap.size w w17) := H16.out.trans (hb.mono H16.out.size)
  clear hb H16
  go_wp2_with fail
  refine Calls.mono (crow0 _ _) ?_
  rintro e w18 ⟨⟨a17, b17, c17, d17, rfl⟩, hb⟩
  have H18 : Hid (Below w.heap.size w w18) := H17.out.trans (hb.mono H17.out.size)
  clear hb H17
  go_wp2_with fail
  refine Calls.mono (crow0 _ _) ?_
  rintro e w19 ⟨⟨a18, b18, c18, d18, rfl⟩, hb⟩
  have H19 : Hid (Below w.heap.size w w19) := H18.out.trans (hb.mono H18.out.size)
  clear hb H18
  go_wp2_with fail
  refine Calls.mono (crow0 _ _) ?_
  rintro e w20 ⟨⟨a19, b19, c19, d19, rfl⟩, hb⟩
  have H20 : Hid (Below w.heap.size w w20) := H19.out.trans (hb.mono H19.out.size)
  clear hb H19
  go_wp2_with fail
  refine Calls.mono (crow0 _ _) ?_
  rintro e w21 ⟨⟨a20, b20, c20, d20, rfl⟩, hb⟩
  have H21 : Hid (Below w.heap.size w w21) := H20.out.trans (hb.mono H20.out.size)
  clear hb H20
  go_wp2_with fail
  refine Calls.mono (crow0 _ _) ?_
  rintro e w22 ⟨⟨a21, b21, c21, d21, rfl⟩, hb⟩
  have H22 : Hid (Below w.heap.size w w22) := H21.out.trans (hb.mono H21.out.size)
  clear hb H21
  go_wp2_with fail
  refine Calls.mono (crow1 _ _ _) ?_
  rintro e w23 ⟨⟨a22, b22, c22, d22, rfl⟩, hb⟩
  have H23 : Hid (Below w.heap.size w w23) := H22.out.trans (hb.mono H22.out.size)
  clear hb H22
  go_wp2_with fail
  refine Calls.mono (crow1 _ _ _) ?_
  rintro e w24 ⟨⟨a23, b23, c23, d23, rfl⟩, hb⟩
  have H24 : Hid (Below w.heap.size w w24) := H23.out.trans (hb.mono H23.out.size)
  clear hb H23
  go_wp2_with fail
  refine Calls.mono (crow1 _ _ _) ?_
  rintro e w25 ⟨⟨a24, b24, c24, d24, rfl⟩, hb⟩
  have H25 : Hid (Below w.heap.size w w25) := H24.out.trans (hb.mono H24.out.size)
  clear hb H24
  go_wp2_with fail
  refine Calls.mono (crow1 _ _ _) ?_
  rintro e w26 ⟨⟨a25, b25, c25, d25, rfl⟩, hb⟩
  have H26 : Hid (Below w.heap.size w w26) := H25.out.trans (hb.mono H25.out.size)
  clear hb H25
  go_wp2_with fail
  refine Calls.mono (crow1 _ _ _) ?_
  rintro e w27 ⟨⟨a26, b26, c26, d26, rfl⟩, hb⟩
  have H27 : Hid (Below w.heap.size w w27) := H26.out.trans (hb.mono H26.out.size)
  clear hb H26
  go_wp2_with fail
  refine Calls.mono (crow1 _ _ _) ?_
  rintro e w28 ⟨⟨a27, b27, c27, d27, rfl⟩, hb⟩
  have H28 : Hid (Below w.heap.size w w28) := H27.out.trans (hb.mono H27.out.size)
  clear hb H27
  go_wp2_with fail
  refine Calls.mono (crow1 _ _ _) ?_
  rintro e w29 ⟨⟨a28, b28, c28, d28, rfl⟩, hb⟩
  have H29 : Hid (Below w.heap.size w w29) := H28.out.trans (hb.mono H28.out.size)
  clear hb H28
  go_wp2_with fail
  refine Calls.mono (crow1 _ _ _) ?_
  rintro e w30 ⟨⟨a29, b29, c29, d29, rfl⟩, hb⟩
  have H30 : Hid (Below w.heap.size w w30) := H29.out.trans (hb.mono H29.out.size)
  clear hb H29
  go_wp2_with fail
  refine Calls.mono (crow3 _ _ _ _ _) ?_
  rintro e w31 ⟨⟨a30, b30, c30, d30, rfl⟩, hb⟩
  have H31 : Hid (Below w.heap.size w w31) := H30.out.trans (hb.mono H30.out.size)
  clear hb H30
  go_wp2_with fail
  refine Calls.mono (crow2 _ _ _ _) ?_
  rintro e w32 ⟨⟨a31, b31, c31, d31, rfl⟩, hb⟩
  have H32 : Hid (Below w.heap.size w w32) := H31.out.trans (hb.mono H31.out.size)
  clear hb H31
  go_wp2_with fail
  refine Calls.mono (crow2 _ _ _ _) ?_
  rintro e w33 ⟨⟨a32, b32, c32, d32, rfl⟩, hb⟩
  have H33 : Hid (Below w.heap.size w w33) := H32.out.trans (hb.mono H32.out.size)
  clear hb H32
  go_wp2_with fail
  refine Calls.mono (crow0 _ _) ?_
  rintro e w34 ⟨⟨a33, b33, c33, d33, rfl⟩, hb⟩
  have H34 : Hid (Below w.heap.size w w34) := H33.out.trans (hb.mono H33.out.size)
  clear hb H33
  go_wp2_with fail
  refine Calls.mono (crow2 _ _ _ _) ?_
  rintro e w35 ⟨⟨a34, b34, c34, d34, rfl⟩, hb⟩
  have H35 : Hid (Below w.heap.size w w35) := H34.out.trans (hb.mono H34.out.size)
  clear hb H34
  go_wp2_with fail
  refine Calls.mono (crow2 _ _ _ _) ?_
  rintro e w36 ⟨⟨a35, b35, c35, d35, rfl⟩, hb⟩
  have H36 : Hid (Below w.heap.size w w36) := H35.out.trans (hb.mono H35.out.size)
  clear hb H35
  go_wp2_with fail
  refine Calls.mono (crow0 _ _) ?_
  rintro e w37 ⟨⟨a36, b36, c36, d36, rfl⟩, hb⟩
  have H37 : Hid (Below w.heap.size w w37) := H36.out.trans (hb.mono H36.out.size)
  clear hb H36
  go_wp2_with fail
  refine Calls.mono (crow0 _ _) ?_
  rintro e w38 ⟨⟨a37, b37, c37, d37, rfl⟩, hb⟩
  have H38 : Hid (Below w.heap.size w w38) := H37.out.trans (hb.mono H37.out.size)
  clear hb H37
  go_wp2_with fail
  refine Calls.mono (crow4 _ _ _ _ _ _) ?_
  rintro e w39 ⟨⟨a38, b38, c38, d38, rfl⟩, hb⟩
  have H39 : Hid (Below w.heap.size w w39) := H38.out.trans (hb.mono H38.out.size)
  clear hb H38
  go_wp2_with fail
  refine Calls.mono (crow4 _ _ _ _ _ _) ?_
  rintro e w40 ⟨⟨a39, b39, c39, d39, rfl⟩, hb⟩
  have H40 : Hid (Below w.heap.size w w40) := H39.out.trans (hb.mono H39.out.size)
  clear hb H39
  go_wp2_with fail
  refine Calls.mono (crow2 _ _ _ _) ?_
  rintro e w41 ⟨⟨a40, b40, c40, d40, rfl⟩, hb⟩
  have H41 : Hid (Below w.heap.size w w41) := H40.out.trans (hb.mono H40.out.size)
  clear hb H40
  go_wp2_with fail
  refine Calls.mono (crow2 _ _ _ _) ?_
  rintro e w42 ⟨⟨a41, b41, c41, d41, rfl⟩, hb⟩
  have H42 : Hid (Below w.heap.size w w42) := H41.out.trans (hb.mono H41.out.size)
  clear hb H41
  obtain ⟨j0, hj, hj0, hj1, hj2⟩ := info_parts infoCr
  go_wp2_with fail
  refine wp_buildSlice 22 27 42 _ rfl #[.string ⟨#[101, 110, 100]⟩, .int .i64 a0, .int .i64 b0, .int .i64 c0, .int .i64 d0, .string ⟨#[110, 117, 109]⟩, .int .i64 a1, .int .i64 b1, .int .i64 c1, .int .i64 d1, .string ⟨#[98, 111, 111, 108]⟩, .int .i64 a2, .int .i64 b2, .int .i64 c2, .int .i64 d2, .string ⟨#[118, 97, 114]⟩, .int .i64 a3, .int .i64 b3, .int .i64 c3, .int .i64 d3, .string ⟨#[108, 101, 110]⟩, .int .i64 a4, .int .i64 b4, .int .i64 c4, .int .i64 d4, .string ⟨#[99, 97, 112]⟩, .int .i64 a5, .int .i64 b5, .int .i64 c5, .int .i64 d5, .string ⟨#[115, 105, 122, 101]⟩, .int .i64 a6, .int .i64 b6, .int .i64 c6, .int .i64 d6, .string ⟨#[116, 111, 116, 97, 108]⟩, .int .i64 a7, .int .i64 b7, .int .i64 c7, .int .i64 d7, .string ⟨#[97, 116]⟩, .int .i64 a8, .int .i64 b8, .int .i64 c8, .int .i64 d8, .string ⟨#[116, 97, 103, 120]⟩, .int .i64 a9, .int .i64 b9, .int .i64 c9, .int .i64 d9, .string ⟨#[116, 97, 103, 101, 110, 100]⟩, .int .i64 a10, .int .i64 b10, .int .i64 c10, .int .i64 d10, .string ⟨#[109, 105, 110]⟩, .int .i64 a11, .int .i64 b11, .int .i64 c11, .int .i64 d11, .string ⟨#[109, 97, 120]⟩, .int .i64 a12, .int .i64 b12, .int .i64 c12, .int .i64 d12, .string ⟨#[110, 101, 103]⟩, .int .i64 a13, .int .i64 b13, .int .i64 c13, .int .i64 d13, .string ⟨#[110, 111, 116]⟩, .int .i64 a14, .int .i64 b14, .int .i64 c14, .int .i64 d14, .string ⟨#[109, 117, 108]⟩, .int .i64 a15, .int .i64 b15, .int .i64 c15, .int .i64 d15, .string ⟨#[100, 105, 118]⟩, .int .i64 a16, .int .i64 b16, .int .i64 c16, .int .i64 d16, .string ⟨#[97, 100, 100]⟩, .int .i64 a17, .int .i64 b17, .int .i64 c17, .int .i64 d17, .string ⟨#[115, 117, 98]⟩, .int .i64 a18, .int .i64 b18, .int .i64 c18, .int .i64 d18, .string ⟨#[101, 113]⟩, .int .i64 a19, .int .i64 b19, .int .i64 c19, .int .i64 d19, .string ⟨#[108, 116]⟩, .int .i64 a20, .int .i64 b20, .int .i64 c20, .int .i64 d20, .string ⟨#[108, 101]⟩, .int .i64 a21, .int .i64 b21, .int .i64 c21, .int .i64 d21, .string ⟨#[106, 117, 109, 112]⟩, .int .i64 a22, .int .i64 b22, .int .i64 c22, .int .i64 d22, .string ⟨#[101, 108, 115, 101]⟩, .int .i64 a23, .int .i64 b23, .int .i64 c23, .int .i64 d23, .string ⟨#[108, 111, 111, 112]⟩, .int .i64 a24, .int .i64 b24, .int .i64 c24, .int .i64 d24, .string ⟨#[116, 117, 114, 110]⟩, .int .i64 a25, .int .i64 b25, .int .i64 c25, .int .i64 d25, .string ⟨#[113, 117, 105, 116]⟩, .int .i64 a26, .int .i64 b26, .int .i64 c26, .int .i64 d26, .string ⟨#[97, 103, 97, 105, 110]⟩, .int .i64 a27, .int .i64 b27, .int .i64 c27, .int .i64 d27, .string ⟨#[115, 101, 116]⟩, .int .i64 a28, .int .i64 b28, .int .i64 c28, .int .i64 d28, .string ⟨#[109, 97, 114, 107, 120]⟩, .int .i64 a29, .int .i64 b29, .int .i64 c29, .int .i64 d29, .string ⟨#[109, 97, 114, 107, 101, 110, 100]⟩, .int .i64 a30, .int .i64 b30, .int .i64 c30, .int .i64 d30, .string ⟨#[105, 110, 115, 101, 114, 116]⟩, .int .i64 a31, .int .i64 b31, .int .i64 c31, .int .i64 d31, .string ⟨#[109, 111, 118, 101]⟩, .int .i64 a32, .int .i64 b32, .int .i64 c32, .int .i64 d32, .string ⟨#[102, 111, 114, 103, 101, 116]⟩, .int .i64 a33, .int .i64 b33, .int .i64 c33, .int .i64 d33, .string ⟨#[116, 97, 107, 101]⟩, .int .i64 a34, .int .i64 b34, .int .i64 c34, .int .i64 d34, .string ⟨#[103, 105, 118, 101]⟩, .int .i64 a35, .int .i64 b35, .int .i64 c35, .int .i64 d35, .string ⟨#[116, 101, 108, 108]⟩, .int .i64 a36, .int .i64 b36, .int .i64 c36, .int .i64 d36, .string ⟨#[108, 111, 111, 115, 101]⟩, .int .i64 a37, .int .i64 b37, .int .i64 c37, .int .i64 d37, .string ⟨#[115, 104, 105, 102, 116]⟩, .int .i64 a38, .int .i64 b38, .int .i64 c38, .int .i64 d38, .string ⟨#[115, 112, 105, 108, 108]⟩, .int .i64 a39, .int .i64 b39, .int .i64 c39, .int .i64 d39, .string ⟨#[101, 118, 105, 99, 116]⟩, .int .i64 a40, .int .i64 b40, .int .i64 c40, .int .i64 d40, .string ⟨#[100, 114, 111, 112]⟩, .int .i64 a41, .int .i64 b41, .int .i64 c41, .int .i64 d41] j0 (.agg #[.string ⟨#[]⟩, .int .i64 0, .int .i64 0, .int .i64 0, .int .i64 0]) Try.underlying22 hj hj0 (by rw [hj1]; decide) (by rw [hj1]; decide) (by rw [hj1]; kernel_rfl) ?_
  go_wp2
  go_ret
  exact ⟨⟨_, rfl⟩, H42.out.alloc H42.out.size _⟩
end Go.Proofs.Ytjopmpnccoaajaa.Cd
