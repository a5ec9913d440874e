import Derived.Test.YtenhjebiokegkaaNmRows
namespace Go.Proofs.Ytenhjebiokegkaa.Nm
open Go.RowKit Go.Maps Go.Proofs.Ytenhjebiokegkaa.Sp Go.Proofs.Ytenhjebiokegkaa.Lx Go.Proofs.Ytenhjebiokegkaa.Gr

def evn (x : Rz) : Nat × Nat := ((evt x).1, (evt x).2.toNat)
set_option maxHeartbeats 3200000 in
set_option maxRecDepth 100000 in
/-- whose event a row is, and whether it is the first -/
theorem happening_any {W : World} {rb r1 r2 mb cap at_ n : Nat} {l : List Rz} {x : Rz} {f : Nat × Nat → Option Value} (hr : Rw W rb l) (h1 : W.heap[r1]? = some (.cells #[.slice (some ⟨rb, 0, none⟩) l.length cap] 29 (0, 0))) (h2 : W.heap[r2]? = some (.cells #[.map (some mb)] 52 (0, 0)))
    (hm : IsMp bmap W mb f n) (hx : l[at_]? = some x) (hl : l.length ≤ 2932031007317) (hn : n ≤ 9000000000000) (hok : (evt x).1 = 1 → 0 ≤ x.n ∧ x.n ≤ 16) :
    Calls Try.prog 38 #[.int .i64 at_, .pointer (some ⟨r1, 0, none⟩), .pointer (some ⟨r2, 0, none⟩)] W fun e w' =>
      ((evt x).1 = 0 ∧ e = .returned (.int .i64 0) ∧ Below W.heap.size W w') ∨ ((evt x).1 ≠ 0 ∧ (f (evn x)).isSome = true ∧ e = .returned (.int .i64 31) ∧ Below W.heap.size W w') ∨
      ((evt x).1 ≠ 0 ∧ f (evn x) = none ∧ e = .returned (.int .i64 0) ∧ Fr [mb] W w' ∧ IsMp bmap w' mb (upd f (evn x) (some (.int .i64 ((at_ : Int) + 1)))) (n + 1)) := by
  have hat : at_ < l.length := (List.getElem?_eq_some_iff.1 hx).1
  have h3 : (at_ : Int) < (l.length : Int) := by omega
  have h4 : (at_ : Int) ≤ 2932031007317 := by omega
  obtain ⟨c0, c1, c2, c3, c4, _⟩ := hr.cells hx
  obtain ⟨d1, _⟩ := box_cell h1
  have HE := show Hid _ from event_any x W
  have HM : Hid (IsMp bmap W mb f n ∧ W.heap[r2]? = some (.cells #[.map (some mb)] 52 (0, 0)) ∧ n ≤ 9000000000000) := ⟨hm, h2, hn⟩
  have HO : Hid ((evt x).2 = ((evn x).2 : Int) ∧ bmap.ok (evn x)) := by
    have h5 : (evt x).1 = 1 ∧ (evt x).2 = x.n ∨ (evt x).1 = 5 ∧ (evt x).2 = 0 ∨ (evt x).1 = 0 ∧ (evt x).2 = 0 := by
      unfold evt
      split
      · exact Or.inl ⟨rfl, rfl⟩
      · split
        · exact Or.inr (Or.inl ⟨rfl, rfl⟩)
        · exact Or.inr (Or.inr ⟨rfl, rfl⟩)
    show (evt x).2 = ((evt x).2.toNat : Int) ∧ ((evt x).1 ≤ 5 ∧ (evt x).2.toNat ≤ 16)
    rcases h5 with ⟨e1, e2⟩ | ⟨e1, e2⟩ | ⟨e1, e2⟩
    · have := hok e1
      rw [e1, e2]
      omega
    · rw [e1, e2]
      omega
    · rw [e1, e2]
      omega
  have HK : Hid ((evn x).1 = (evt x).1) := rfl
  rw [HO.out.1, ← HK.out] at HE
  rw [← HK.out]
  generalize hz : evn x = z at *
  obtain ⟨kz, nz⟩ := z
  dsimp only at *
  clear hr h1 h2 hm hx hl hn hok hat HK hz
  go_enter Try.func38, Try.ntmps38
  go_wp2_with fail
  refine Calls.mono HE.out ?_
  rintro e w1 ⟨rfl, hb⟩
  have hb2 : Below W.heap.size W (w1.alloc (.cells #[.int .i64 (kz : Int), .int .i64 (nz : Int)] 71)) := hb.alloc hb.size _
  have hn2 : (w1.alloc (.cells #[.int .i64 (kz : Int), .int .i64 (nz : Int)] 71)).heap[w1.heap.size]? = some (.cells #[.int .i64 (kz : Int), .int .i64 (nz : Int)] 71 (0, 0)) := heap_alloc_new w1 _
  have e0 : (w1.alloc (.cells #[.int .i64 (kz : Int), .int .i64 (nz : Int)] 71)).cell? ⟨w1.heap.size, 0, none⟩ = some (.int .i64 (kz : Int)) := by rw [World.cell?, hn2]; rfl
  have e1 : (w1.alloc (.cells #[.int .i64 (kz : Int), .int .i64 (nz : Int)] 71)).cell? ⟨w1.heap.size, 1, none⟩ = some (.int .i64 (nz : Int)) := by rw [World.cell?, hn2]; rfl
  have hbx : (w1.alloc (.cells #[.int .i64 (kz : Int), .int .i64 (nz : Int)] 71)).heap[r2]? = some (.cells #[.map (some mb)] 52 (0, 0)) := (hb2.block r2 (Array.getElem?_eq_some_iff.1 HM.out.2.1).1).trans HM.out.2.1
  obtain ⟨d2, _⟩ := box_cell hbx
  have hm2 : IsMp bmap (w1.alloc (.cells #[.int .i64 (kz : Int), .int .i64 (nz : Int)] 71)) mb f n := HM.out.1.same (hb2.block mb HM.out.1.lt)
  have hlk := hm2.lookOk bmap_law (k := (kz, nz)) HO.out.2
  have hlk' : (Instr.lookup 52 (.map (some mb)) (.agg #[.int .i64 (kz : Int), .int .i64 (nz : Int)]) true).run Try.prog (w1.alloc (.cells #[.int .i64 (kz : Int), .int .i64 (nz : Int)] 71)) = .ok (.tuple #[(f (kz, nz)).getD (.int .i64 0), .bool (f (kz, nz)).isSome]) (w1.alloc (.cells #[.int .i64 (kz : Int), .int .i64 (nz : Int)] 71)) := hlk
  have HB2 : Hid (Below W.heap.size W (w1.alloc (.cells #[.int .i64 (kz : Int), .int .i64 (nz : Int)] 71))) := hb2
  have HM2 : Hid (IsMp bmap (w1.alloc (.cells #[.int .i64 (kz : Int), .int .i64 (nz : Int)] 71)) mb f n) := hm2
  clear hb hb2 hn2 hbx hm2 hlk HE
  by_cases hk0 : kz = 0
  · have hk0' : ((kz : Int) == 0) = true := by simp [hk0]
    have HZ : Hid (kz = 0) := hk0
    clear hk0
    go_wp2
    go_ret
    exact Or.inl ⟨HZ.out, rfl, HB2.out⟩
  · have hk0' : ((kz : Int) == 0) = false := by simp; omega
    have HZ : Hid (kz ≠ 0) := hk0
    clear hk0
    cases hf : f (kz, nz) with
    | some v =>
      have HF : Hid ((f (kz, nz)).isSome = true) := by show _ = _; rw [hf]; rfl
      rw [hf] at hlk'
      simp only [Option.getD_some, Option.isSome_some] at hlk'
      go_wp2
      go_ret
      exact Or.inr (Or.inl ⟨HZ.out, HF.out, rfl, HB2.out⟩)
    | none =>
      rw [hf] at hlk'
      simp only [Option.getD_none, Option.isSome_none] at hlk'
      have HF : Hid (f (kz, nz) = none) := hf
      obtain ⟨w3, hup, hm3, hg3⟩ := HM2.out.put bmap_law (k := (kz, nz)) HO.out.2 (by have := HM.out.2.2; unfold maxLen; omega) (.int .i64 ((at_ : Int) + 1))
      have hup' : (Instr.mapUpdate 52 (.map (some mb)) (.agg #[.int .i64 (kz : Int), .int .i64 (nz : Int)]) (.int .i64 ((at_ : Int) + 1))).run Try.prog (w1.alloc (.cells #[.int .i64 (kz : Int), .int .i64 (nz : Int)] 71)) = .ok () w3 := hup
      rw [hf] at hm3
      have H3 : Hid (Fr [mb] W w3 ∧ IsMp bmap w3 mb (upd f (kz, nz) (some (.int .i64 ((at_ : Int) + 1)))) (n + 1)) := ⟨(Fr.of_below HB2.out).trans (Fr.grown hg3) (fun _ hx => Or.inl hx), hm3⟩
      clear hup hm3 hg3 hf
      go_wp2
      go_ret
      exact Or.inr (Or.inr ⟨HZ.out, HF.out, rfl, H3.out.1, H3.out.2⟩)
end Go.Proofs.Ytenhjebiokegkaa.Nm
