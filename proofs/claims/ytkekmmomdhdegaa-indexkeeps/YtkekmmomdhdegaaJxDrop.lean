import Derived.Test.YtkekmmomdhdegaaJxVac
namespace Go.Proofs.Ytkekmmomdhdegaa.Ij
open Go.RowKit Go.Proofs.Ytkekmmomdhdegaa.Ix

set_option maxHeartbeats 1600000 in
set_option maxRecDepth 100000 in
theorem drop_any {w : World} {g : Nat} {o : Lo} {a : Ix El} (h : IsIx w g o a) (k : Nat) : Calls Try.prog 19 #[.pointer (some ⟨g, 0, none⟩), U k] w fun e w' => e = .returned (.tuple #[((a.get k).map ev).getD zv, .bool (a.get k).isSome]) ∧ Goes w g o (a.drop k) w' := by
  have HF := show Hid _ from find_any h k
  have H0 : Hid (IsIx w g o a) := h
  cases hg : a.get k with
  | none =>
    obtain ⟨hm, hk⟩ := h
    have he := hk.at_none.1 hg
    rw [atv_none he] at HF
    rw [hk.drop_none hg]
    clear hm hk he hg
    simp only [Option.map_none, Option.getD_none, Option.isSome_none]
    go_enter Try.func19, Try.ntmps19
    go_wp2_with fail
    refine Calls.mono HF.out ?_
    rintro e w1 ⟨rfl, rfl⟩
    go_wp2
    go_ret2
    exact ⟨rfl, H0.out.goes (Below.refl _ _)⟩
  | some v =>
    have HV := show Hid _ from vacate_any h hg
    obtain ⟨hm, hk⟩ := h
    have he := hk.at_some hg
    obtain ⟨p, hp, c1, c2, _⟩ := hm.taken he
    rw [atv_some he hp] at HF
    obtain ⟨d1, d2, d3, _⟩ := hk.drop_there hg
    have hc8 : (a.count : Int) ≤ 4194304 := by
      have := hk.cnt
      have := hk.most
      have := Nat.pow_le_pow_right (n := 2) (by omega) hk.b
      omega
    have HD : Hid (Ok (a.drop k)) := d1
    obtain ⟨b1, b2, _⟩ := a.drop_b k
    have HB : Hid ((a.drop k).b = a.b ∧ (a.drop k).most = a.most ∧ (a.drop k).count = a.count - 1) := ⟨b1, b2, d2⟩
    clear hm hk hp he hg d1 d2 b1 b2
    simp only [Option.map_some, Option.getD_some, Option.isSome_some]
    generalize a.drop k = a' at *
    go_enter Try.func19, Try.ntmps19
    go_wp2_with fail
    refine Calls.mono HF.out ?_
    rintro e w1 ⟨rfl, rfl⟩
    go_wp2_with fail
    refine Calls.mono HV.out ?_
    rintro e w2 ⟨rfl, hM, hFr⟩
    obtain ⟨_, _, a2, _, a5⟩ := hM.cellsX
    have hM5 := hM.putC (a.count - 1)
    rw [show ((a.count - 1 : Nat) : Int) = (a.count : Int) - 1 by omega] at hM5
    have HM5 : Hid (Mem (w2.setCell ⟨g, 2, none⟩ (I ((a.count : Int) - 1))) g o a.b a.most (a.count - 1) a'.t) := hM5
    have HFr : Hid (Fr (o.foot g) w1 w2) := hFr
    clear hM hM5 hFr c1 c2
    go_wp2
    go_ret2
    refine ⟨rfl, o, ⟨?_, HD.out⟩, HFr.out.trans (Fr.set _ _ _ (Lo.mem_foot.2 (Or.inl rfl))) (fun _ h => Or.inl h), fun _ h => Or.inl h⟩
    rw [HB.out.1, HB.out.2.1, HB.out.2.2]
    exact HM5.out
end Go.Proofs.Ytkekmmomdhdegaa.Ij
