import Derived.Test.YtenhjebiokegkaaNmRows
namespace Go.Proofs.Ytenhjebiokegkaa.Nm
open Go.RowKit Go.Maps Go.Proofs.Ytenhjebiokegkaa.Sp Go.Proofs.Ytenhjebiokegkaa.Lx Go.Proofs.Ytenhjebiokegkaa.Gr

/-- a name's meaning: kind, number, from where on -/
abbrev mv (k n from_ : Nat) : Value := .agg #[.int .i64 (k : Int), .int .i64 (n : Int), .int .i64 (from_ : Int)]
set_option maxHeartbeats 6400000 in
set_option maxRecDepth 100000 in
/-- what a row's name means there -/
theorem naming_any {W : World} {rb r1 r2 mb cap at_ n : Nat} {l : List Rz} {x : Rz} {f : ByteArray → Option Value} (hr : Rw W rb l) (h1 : W.heap[r1]? = some (.cells #[.slice (some ⟨rb, 0, none⟩) l.length cap] 29 (0, 0))) (h2 : W.heap[r2]? = some (.cells #[.map (some mb)] 51 (0, 0)))
    (hm : IsMp kmap W mb f n) (hx : l[at_]? = some x) (hl : l.length ≤ 2932031007317) (hs : x.name.size ≤ maxLen) (hf : ∀ v, f x.name = some v → ∃ k m p, v = mv k m p ∧ k ≤ 4 ∧ m ≤ 64) :
    Calls Try.prog 36 #[.int .i64 at_, .pointer (some ⟨r1, 0, none⟩), .pointer (some ⟨r2, 0, none⟩)] W fun e w' =>
      (nmd x.kind = 0 ∧ e = .returned (.int .i64 0) ∧ Below W.heap.size W w') ∨
      (nmd x.kind ≠ 0 ∧ (f x.name = none ∨ ∃ k m p, f x.name = some (mv k m p) ∧ at_ < p) ∧ e = .returned (.int .i64 32) ∧ Below W.heap.size W w') ∨
      (∃ k m p, nmd x.kind ≠ 0 ∧ f x.name = some (mv k m p) ∧ p ≤ at_ ∧ ((k ≠ nmd x.kind ∧ e = .returned (.int .i64 33) ∧ Below W.heap.size W w') ∨
        (k = nmd x.kind ∧ e = .returned (.int .i64 0) ∧ Fr [rb] W w' ∧ Rw w' rb (l.set at_ { x with n := (m : Int) })))) := by
  have hat : at_ < l.length := (List.getElem?_eq_some_iff.1 hx).1
  have h3 : (at_ : Int) < (l.length : Int) := by omega
  have h4 : (at_ : Int) ≤ 2932031007317 := by omega
  obtain ⟨c0, c1, c2, c3, c4, fz⟩ := hr.cells hx
  have fz3 := fz (at_ * 5 + 3)
  obtain ⟨d1, _⟩ := box_cell h1
  obtain ⟨d2, _⟩ := box_cell h2
  have HN := show Hid _ from named_any x.kind W
  have hle := nmd_le x.kind
  have hlk := hm.lookOk kmap_law (k := x.name) hs
  have hlk' : (Instr.lookup 51 (.map (some mb)) (.string x.name) true).run Try.prog W = .ok (.tuple #[(f x.name).getD (mv 0 0 0), .bool (f x.name).isSome]) W := hlk
  have hbM : Below W.heap.size W (W.alloc (.cells #[.int .i64 0, .int .i64 0, .int .i64 0] 73)) := (Below.refl _ W).alloc (Nat.le_refl _) _
  have hmD : (Instr.lookup 51 (.map (some mb)) (.string x.name) true).run Try.prog W.drew = .ok (.tuple #[(f x.name).getD (mv 0 0 0), .bool (f x.name).isSome]) W.drew := (hm.same (w' := W.drew) rfl).lookOk kmap_law (k := x.name) hs
  have hmA : (Instr.lookup 51 (.map (some mb)) (.string x.name) true).run Try.prog (W.alloc (.cells #[.int .i64 0, .int .i64 0, .int .i64 0] 73)).drew = .ok (.tuple #[(f x.name).getD (mv 0 0 0), .bool (f x.name).isSome]) (W.alloc (.cells #[.int .i64 0, .int .i64 0, .int .i64 0] 73)).drew := (hm.same (w' := (W.alloc (.cells #[.int .i64 0, .int .i64 0, .int .i64 0] 73)).drew) (hbM.block mb hm.lt)).lookOk kmap_law (k := x.name) hs
  have ca : ∀ {b i : Nat} {v : Value}, W.cell? ⟨b, i, none⟩ = some v → (W.alloc (.cells #[.int .i64 0, .int .i64 0, .int .i64 0] 73)).cell? ⟨b, i, none⟩ = some v := fun {b i v} hv => (World.cell?_of_block (a := ⟨b, i, none⟩) (hbM.block b (World.block_lt_of_cell? W _ hv))).trans hv
  have ca1 := ca d1
  have ca2 := ca d2
  have ca3 := ca c1
  have HR : Hid (Rw W rb l ∧ l[at_]? = some x) := ⟨hr, hx⟩
  clear hlk hm h1 h2 hl hs hat fz hbM ca
  generalize hnk : nmd x.kind = z at *
  have hz4 : (z : Int) ≤ 4 := by omega
  clear hle
  by_cases hz0 : z = 0
  · have hz0' : ((z : Int) == 0) = true := by simp [hz0]
    have HZ : Hid (z = 0) := hz0
    clear hz0
    go_enter Try.func36, Try.ntmps36
    go_wp2_with fail
    refine Calls.mono HN.out ?_
    rintro e w1 ⟨rfl, rfl⟩
    go_wp2
    go_ret
    exact Or.inl ⟨HZ.out, rfl, Below.refl _ _⟩
  · have hz0' : ((z : Int) == 0) = false := by simp; omega
    have HZ : Hid (z ≠ 0) := hz0
    clear hz0
    cases hfx : f x.name with
    | none =>
      rw [hfx] at hlk' hmD hmA
      simp only [Option.getD_none, Option.isSome_none] at hlk' hmD hmA
      have HF : Hid (f x.name = none) := hfx
      clear hfx hf
      go_enter Try.func36, Try.ntmps36
      go_wp2_with fail
      refine Calls.mono HN.out ?_
      rintro e w1 ⟨rfl, rfl⟩
      go_wp2_with fail
      go_region
      all_goals
        have HB : Hid (Below w1.heap.size w1 (w1.alloc (.cells #[.int .i64 0, .int .i64 0, .int .i64 0] 73)).drew) := ((Below.refl _ w1).alloc (Nat.le_refl _) _).drew
        go_wp2
        go_ret
        exact Or.inr (Or.inl ⟨HZ.out, Or.inl (by first | trivial | exact HF.out), rfl, HB.out⟩)
    | some v =>
      obtain ⟨k, m, p, rfl, hk4, hm64⟩ := hf v hfx
      rw [hfx] at hlk' hmD hmA
      simp only [Option.getD_some, Option.isSome_some] at hlk' hmD hmA
      have HF : Hid (f x.name = some (mv k m p)) := hfx
      have hk4' : (k : Int) ≤ 4 := by omega
      have hm64' : (m : Int) ≤ 64 := by omega
      have hbV : Below W.heap.size W (W.alloc (.cells #[.int .i64 (k : Int), .int .i64 (m : Int), .int .i64 (p : Int)] 73)) := (Below.refl _ W).alloc (Nat.le_refl _) _
      have hnV : (W.alloc (.cells #[.int .i64 (k : Int), .int .i64 (m : Int), .int .i64 (p : Int)] 73)).heap[W.heap.size]? = some (.cells #[.int .i64 (k : Int), .int .i64 (m : Int), .int .i64 (p : Int)] 73 (0, 0)) := heap_alloc_new W _
      have e0 : (W.alloc (.cells #[.int .i64 (k : Int), .int .i64 (m : Int), .int .i64 (p : Int)] 73)).cell? ⟨W.heap.size, 0, none⟩ = some (.int .i64 (k : Int)) := by rw [World.cell?, hnV]; rfl
      have e1 : (W.alloc (.cells #[.int .i64 (k : Int), .int .i64 (m : Int), .int .i64 (p : Int)] 73)).cell? ⟨W.heap.size, 1, none⟩ = some (.int .i64 (m : Int)) := by rw [World.cell?, hnV]; rfl
      have e2 : (W.alloc (.cells #[.int .i64 (k : Int), .int .i64 (m : Int), .int .i64 (p : Int)] 73)).cell? ⟨W.heap.size, 2, none⟩ = some (.int .i64 (p : Int)) := by rw [World.cell?, hnV]; rfl
      have cb : ∀ {b i : Nat} {v : Value}, W.cell? ⟨b, i, none⟩ = some v → (W.alloc (.cells #[.int .i64 (k : Int), .int .i64 (m : Int), .int .i64 (p : Int)] 73)).cell? ⟨b, i, none⟩ = some v := fun {b i v} hv => (World.cell?_of_block (a := ⟨b, i, none⟩) (hbV.block b (World.block_lt_of_cell? W _ hv))).trans hv
      have cb1 := cb d1
      have cb3 := cb c3
      have fb3 : (W.alloc (.cells #[.int .i64 (k : Int), .int .i64 (m : Int), .int .i64 (p : Int)] 73)).frozen? ⟨rb, at_ * 5 + 3, none⟩ = false := by rw [World.frozen?, hbV.block rb hr.lt]; exact fz3
      have HV : Hid (Below W.heap.size W (W.alloc (.cells #[.int .i64 (k : Int), .int .i64 (m : Int), .int .i64 (p : Int)] 73)).drew) := hbV.drew
      clear hfx hf hbV hnV cb hk4 hm64
      by_cases hp : at_ < p
      · have hp1 : (at_ : Int) < (p : Int) := by omega
        have HP : Hid (at_ < p) := hp
        go_enter Try.func36, Try.ntmps36
        go_wp2_with fail
        refine Calls.mono HN.out ?_
        rintro e w1 ⟨rfl, rfl⟩
        go_wp2_with fail
        go_region
        all_goals
          go_wp2
          go_ret
          exact Or.inr (Or.inl ⟨HZ.out, Or.inr ⟨k, m, p, by first | rfl | exact HF.out, HP.out⟩, rfl, HV.out⟩)
      · have hp1 : decide ((at_ : Int) < (p : Int)) = false := decide_eq_false (by omega)
        have hp2 : decide (at_ < p) = false := decide_eq_false hp
        have HP : Hid (p ≤ at_) := by show _ ≤ _; omega
        clear hp
        by_cases hkz : k = z
        · have hkz' : ((k : Int) != (z : Int)) = false := by simp [hkz]
          have HK : Hid (k = z) := hkz
          clear hkz
          go_enter Try.func36, Try.ntmps36
          go_wp2_with fail
          refine Calls.mono HN.out ?_
          rintro e w1 ⟨rfl, rfl⟩
          go_wp2_with fail
          go_region
          all_goals
            have HX : Hid (Fr [rb] w1 ((w1.alloc (.cells #[.int .i64 (k : Int), .int .i64 (m : Int), .int .i64 (p : Int)] 73)).drew.setCell ⟨rb, at_ * 5 + 3, none⟩ (.int .i64 (m : Int))) ∧ Rw ((w1.alloc (.cells #[.int .i64 (k : Int), .int .i64 (m : Int), .int .i64 (p : Int)] 73)).drew.setCell ⟨rb, at_ * 5 + 3, none⟩ (.int .i64 (m : Int))) rb (l.set at_ { x with n := (m : Int) })) := ⟨(Fr.of_below HV.out).trans (Fr.set (F := [rb]) _ _ _ (by simp)) (fun _ hx => Or.inl hx), (HR.out.1.same (HV.out.block rb HR.out.1.lt)).setN HR.out.2 (m : Int)⟩
            go_wp2
            go_ret
            exact Or.inr (Or.inr ⟨k, m, p, HZ.out, by first | rfl | exact HF.out, HP.out, Or.inr ⟨HK.out, rfl, HX.out.1, HX.out.2⟩⟩)
        · have hkz' : ((k : Int) != (z : Int)) = true := by simp; omega
          have HK : Hid (k ≠ z) := hkz
          clear hkz
          go_enter Try.func36, Try.ntmps36
          go_wp2_with fail
          refine Calls.mono HN.out ?_
          rintro e w1 ⟨rfl, rfl⟩
          go_wp2_with fail
          go_region
          all_goals
            go_wp2
            go_ret
            exact Or.inr (Or.inr ⟨k, m, p, HZ.out, by first | rfl | exact HF.out, HP.out, Or.inl ⟨HK.out, rfl, HV.out⟩⟩)
end Go.Proofs.Ytenhjebiokegkaa.Nm
