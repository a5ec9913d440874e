import Derived.Test.YtkekmmomdhdegaaIxMemo
namespace Go.Proofs.Ytkekmmomdhdegaa.Ii
open Go.RowKit Go.Proofs.Ytkekmmomdhdegaa.Ix

set_option maxHeartbeats 1600000 in
set_option maxRecDepth 100000 in
theorem get_any {w : World} {g : Nat} {o : Lo} {a : Ix El} (h : IsIx w g o a) (k : Nat) : Calls Try.prog 30 #[.pointer (some ⟨g, 0, none⟩), U k] w fun e w' => e = .returned (.tuple #[((a.get k).map ev).getD zv, .bool (a.get k).isSome]) ∧ w' = w := by
  have HF := show Hid _ from find_any h k
  obtain ⟨hm, hk⟩ := h
  unfold Ix.get
  cases he : a.t (a.find k) with
  | none =>
    rw [atv_none he] at HF
    clear hm hk
    simp only [Option.map_none, Option.getD_none, Option.isSome_none]
    go_enter Try.func30, Try.ntmps30
    go_wp2_with fail
    refine Calls.mono HF.out ?_
    rintro e w1 ⟨rfl, rfl⟩
    go_wp2
    go_ret2
    exact ⟨rfl, rfl⟩
  | some e =>
    obtain ⟨p, hp, c1, c2, _⟩ := hm.taken he
    rw [atv_some he hp] at HF
    clear hm hk hp he
    simp only [Option.map_some, Option.getD_some, Option.isSome_some]
    go_enter Try.func30, Try.ntmps30
    go_wp2_with fail
    refine Calls.mono HF.out ?_
    rintro e w1 ⟨rfl, rfl⟩
    go_wp2
    go_ret2
    exact ⟨rfl, rfl⟩
set_option maxHeartbeats 1600000 in
set_option maxRecDepth 100000 in
theorem slot_any {w : World} {g : Nat} {o : Lo} {a : Ix El} (h : IsIx w g o a) (k : Nat) : Calls Try.prog 31 #[.pointer (some ⟨g, 0, none⟩), U k] w fun e w' => e = .returned (.tuple #[I (if (a.get k).isSome then a.find k else 0 : Nat), .bool (a.get k).isSome]) ∧ w' = w := by
  have HF := show Hid _ from find_any h k
  obtain ⟨hm, hk⟩ := h
  unfold Ix.get
  cases he : a.t (a.find k) with
  | none =>
    rw [atv_none he] at HF
    clear hm hk
    simp only [Option.map_none, Option.isSome_none, Bool.false_eq_true, if_false]
    go_enter Try.func31, Try.ntmps31
    go_wp2_with fail
    refine Calls.mono HF.out ?_
    rintro e w1 ⟨rfl, rfl⟩
    go_wp2
    go_ret2
    exact ⟨rfl, rfl⟩
  | some e =>
    obtain ⟨p, hp, c1, c2, _⟩ := hm.taken he
    rw [atv_some he hp] at HF
    clear hm hk hp he
    simp only [Option.map_some, Option.isSome_some, if_true]
    go_enter Try.func31, Try.ntmps31
    go_wp2_with fail
    refine Calls.mono HF.out ?_
    rintro e w1 ⟨rfl, rfl⟩
    go_wp2
    go_ret2
    exact ⟨rfl, rfl⟩
section
variable {w : World} {g : Nat} {o : Lo} {b most count : Nat} {t : Tb El}
/-- only the value is written -/
theorem Mem.putV (h : Mem w g o b most count t) {x p : Nat} (hp : o.ps (x / 32) = some p) {e : Nat × El} (he : t x = some e) (v : El) : Mem (w.setCell ⟨p, x % 32 * 3 + 1, none⟩ (ev v)) g o b most count (up t x (some (e.1, v))) := by
  obtain ⟨_, cs, h1, h2, h3⟩ := h.pp _ _ hp
  obtain ⟨k', v', b', s1, s2, s3, s4⟩ := h3 (x % 32) (by omega)
  rw [show x / 32 * 32 + x % 32 = x by omega, he] at s4
  refine h.putS hp h1 (set_blk h1) (Fr.set _ _ _ (by simp)) (by simp) (fun j hj => ?_) _ ⟨k', v, b', ?_, ?_, ?_, ?_⟩
  · rw [Array.getElem?_setIfInBounds_ne (by omega)]
  · rw [set_get s1, if_neg (by omega)]
  · rw [set_get s2, if_pos rfl]
  · rw [set_get s3, if_neg (by omega)]
  · cases b' with
    | false => cases s4
    | true => cases s4; rfl
/-- all of it -/
theorem Mem.put3 (h : Mem w g o b most count t) {x p : Nat} (hp : o.ps (x / 32) = some p) (k : Nat) (v : El) (c : Bool) : Mem (((w.setCell ⟨p, x % 32 * 3, none⟩ (U k)).setCell ⟨p, x % 32 * 3 + 1, none⟩ (ev v)).setCell ⟨p, x % 32 * 3 + 2, none⟩ (.bool c)) g o b most count (up t x (if c then some (k, v) else none)) ∧ Fr [p] w (((w.setCell ⟨p, x % 32 * 3, none⟩ (U k)).setCell ⟨p, x % 32 * 3 + 1, none⟩ (ev v)).setCell ⟨p, x % 32 * 3 + 2, none⟩ (.bool c)) := by
  obtain ⟨_, cs, h1, h2, h3⟩ := h.pp _ _ hp
  obtain ⟨k', v', b', s1, s2, s3, s4⟩ := h3 (x % 32) (by omega)
  have hf : Fr [p] w (((w.setCell ⟨p, x % 32 * 3, none⟩ (U k)).setCell ⟨p, x % 32 * 3 + 1, none⟩ (ev v)).setCell ⟨p, x % 32 * 3 + 2, none⟩ (.bool c)) :=
    ((Fr.set _ _ _ (by simp)).trans (Fr.set _ _ _ (by simp)) (fun _ h => Or.inl h)).trans (Fr.set _ _ _ (by simp)) (fun _ h => Or.inl h)
  refine ⟨h.putS hp h1 (set_blk (set_blk (set_blk h1))) hf (by simp) (fun j hj => ?_) _ ⟨k, v, c, ?_, ?_, ?_, rfl⟩, hf⟩
  · rw [Array.getElem?_setIfInBounds_ne (by omega), Array.getElem?_setIfInBounds_ne (by omega), Array.getElem?_setIfInBounds_ne (by omega)]
  · rw [set_get (set_get (set_get s1)), if_neg (by omega), if_neg (by omega), if_pos rfl]
  · rw [set_get (set_get (set_get s2)), if_neg (by omega), if_pos rfl]
  · rw [set_get (set_get (set_get s3)), if_pos rfl]
end
set_option maxHeartbeats 1600000 in
set_option maxRecDepth 100000 in
theorem put_there_any {w : World} {g : Nat} {o : Lo} {a : Ix El} (h : IsIx w g o a) {k : Nat} {v0 : El} (hg : a.get k = some v0) (v : El) : Calls Try.prog 28 #[.pointer (some ⟨g, 0, none⟩), U k, ev v] w fun e w' => e = .returned (I ((a.put k v).1 : Nat)) ∧ Goes w g o (a.put k v).2 w' := by
  have HF := show Hid _ from find_any h k
  obtain ⟨hm, hk⟩ := h
  obtain ⟨e1, e2, _⟩ := hk.put_there (v := v) hg
  have he := hk.at_some hg
  obtain ⟨p, hp, c1, c2, _, fr⟩ := hm.taken he
  rw [atv_some he hp] at HF
  have hM2 := hm.putV hp he v
  have hpl := (hm.pp _ _ hp).1
  have HG : Hid (Goes w g o (a.put k v).2 (w.setCell ⟨p, a.find k % 32 * 3 + 1, none⟩ (ev v))) := by
    rw [e1] at e2 ⊢
    exact ⟨o, ⟨hM2, e2⟩, Fr.set _ _ _ (Lo.mem_foot.2 (Or.inr (Or.inr ⟨_, hpl, hp⟩))), fun k hk => Or.inl hk⟩
  have E1 : Hid ((a.put k v).1 = 0) := by rw [e1]; rfl
  generalize a.put k v = r at *
  clear hm hk hp he hM2 e1 e2
  go_enter Try.func28, Try.ntmps28
  go_wp2_with fail
  refine Calls.mono HF.out ?_
  rintro e w1 ⟨rfl, rfl⟩
  go_wp2
  go_ret
  exact ⟨by rw [E1.out]; rfl, HG.out⟩
set_option maxHeartbeats 1600000 in
set_option maxRecDepth 100000 in
theorem put_full_any {w : World} {g : Nat} {o : Lo} {a : Ix El} (h : IsIx w g o a) {k : Nat} (hg : a.get k = none) (hc : a.count = a.most) (v : El) : Calls Try.prog 28 #[.pointer (some ⟨g, 0, none⟩), U k, ev v] w fun e w' => e = .returned (I ((a.put k v).1 : Nat)) ∧ Goes w g o (a.put k v).2 w' := by
  have HF := show Hid _ from find_any h k
  have H0 : Hid (IsIx w g o a) := h
  obtain ⟨hm, hk⟩ := h
  rw [hk.put_full hg hc]
  have he := hk.at_none.1 hg
  rw [atv_none he] at HF
  obtain ⟨_, a1, a2, _⟩ := hm.cellsX
  rw [hc] at a2
  clear hm hk he hg hc
  generalize a.most = m at *
  go_enter Try.func28, Try.ntmps28
  go_wp2_with fail
  refine Calls.mono HF.out ?_
  rintro e w1 ⟨rfl, rfl⟩
  go_wp2_with fail
  go_quiet (fail)
  have HB := show Hid _ from bel_drewN w1 nq
  generalize w1.drewN nq = w2 at *
  go_wp2
  go_ret
  exact ⟨rfl, H0.out.goes HB.out⟩
set_option maxHeartbeats 1600000 in
set_option maxRecDepth 100000 in
theorem put_new_any {w : World} {g : Nat} {o : Lo} {a : Ix El} (h : IsIx w g o a) {k : Nat} (hk64 : k < 18446744073709551616) (hg : a.get k = none) (hc : a.count ≠ a.most) (v : El) : Calls Try.prog 28 #[.pointer (some ⟨g, 0, none⟩), U k, ev v] w fun e w' => e = .returned (I ((a.put k v).1 : Nat)) ∧ Goes w g o (a.put k v).2 w' := by
  have HF := show Hid _ from find_any h k
  have H0 : Hid (IsIx w g o a) := h
  obtain ⟨hm, hk⟩ := h
  obtain ⟨e1, e2, _⟩ := hk.put_new (v := v) hk64 hg hc
  have he := hk.at_none.1 hg
  rw [atv_none he] at HF
  obtain ⟨_, a1, a2, _⟩ := hm.cellsX
  have hcc : ((a.count : Int) == (a.most : Int)) = false := by simp; omega
  have hc8 : (a.count : Int) ≤ 4194304 := by
    have := hk.cnt
    have := hk.most
    have := Nat.pow_le_pow_right (n := 2) (by omega) hk.b
    omega
  clear hm hk he hg hc
  have HMo : Hid (∀ u, Below w.heap.size w u → Calls Try.prog 54 #[.pointer (some ⟨g, 0, none⟩), I (a.find k : Nat)] u fun e w' => ∃ p, e = .returned (.pointer (some ⟨p, a.find k % 32 * 3, none⟩)) ∧ Memo u g o a.b a.most a.count a.t (a.find k) p w') := fun u hu => memory_any (H0.out.1.below hu) H0.out.2.b (H0.out.2.find_lt k)
  go_enter Try.func28, Try.ntmps28
  go_wp2_with fail
  refine Calls.mono HF.out ?_
  rintro e w1 ⟨rfl, rfl⟩
  go_wp2_with fail
  go_quiet (fail)
  have HB := show Hid _ from bel_drewN w1 nq
  generalize w1.drewN nq = w2 at *
  go_wp2_with fail
  refine Calls.mono (HMo.out _ HB.out) ?_
  rintro e w3 ⟨p, rfl, o', hp, hM, hFr, hft⟩
  obtain ⟨k', v', b', s1, s2, s3, s4, fr⟩ := hM.slot hp
  have hM4 := hM.put3 hp k v true
  rw [if_pos rfl] at hM4
  have HP : Hid (o'.ps (a.find k / 32) = some p ∧ a.find k / 32 < o'.np) := ⟨hp, (hM.pp _ _ hp).1⟩
  have HFr : Hid (Fr (o.foot g) w2 w3) := hFr
  have HFt : Hid (∀ k ∈ o'.foot g, k ∈ o.foot g ∨ w2.heap.size ≤ k) := hft
  clear hM hp s4 hFr hft
  go_upto_region 8 with fail
  generalize ((w3.setCell ⟨p, a.find k % 32 * 3, none⟩ (U k)).setCell ⟨p, a.find k % 32 * 3 + 1, none⟩ (ev v)).setCell ⟨p, a.find k % 32 * 3 + 2, none⟩ (.bool true) = w4 at *
  obtain ⟨hM4, hF4⟩ := hM4
  obtain ⟨_, _, c2, _, c5⟩ := hM4.cellsX
  have hM5 := hM4.putC (a.count + 1)
  rw [show ((a.count + 1 : Nat) : Int) = (a.count : Int) + 1 by omega] at hM5
  have HM5 : Hid (Mem (w4.setCell ⟨g, 2, none⟩ (I ((a.count : Int) + 1))) g o' a.b a.most (a.count + 1) (up a.t (a.find k) (some (k, v)))) := hM5
  have HF4 := show Hid _ from hF4
  have HE1 := show Hid _ from e1
  have HE2 := show Hid _ from e2
  clear hM4 hM5 hF4 s1 s2 s3 fr e1 e2
  go_wp2
  go_ret
  refine ⟨by rw [HE1.out]; rfl, o', ⟨?_, HE2.out⟩, ?_, fun z hz => ?_⟩
  · rw [HE1.out]; exact HM5.out
  · have f1 : Fr (o.foot g) w1 w3 := (Fr.of_below HB.out).trans HFr.out (fun _ h => Or.inl h)
    have f2 : Fr (o.foot g) w1 w4 := f1.trans HF4.out (fun z hz => by
      rw [List.mem_singleton] at hz
      subst hz
      rcases HFt.out z (Lo.mem_foot.2 (Or.inr (Or.inr ⟨_, HP.out.2, HP.out.1⟩))) with h | h
      · exact Or.inl h
      · exact Or.inr (Nat.le_trans HB.out.size h))
    exact f2.trans (Fr.set _ _ _ (Lo.mem_foot.2 (Or.inl rfl))) (fun _ h => Or.inl h)
  · rcases HFt.out z hz with h | h
    · exact Or.inl h
    · exact Or.inr (Nat.le_trans HB.out.size h)
theorem put_any {w : World} {g : Nat} {o : Lo} {a : Ix El} (h : IsIx w g o a) {k : Nat} (hk64 : k < 18446744073709551616) (v : El) : Calls Try.prog 28 #[.pointer (some ⟨g, 0, none⟩), U k, ev v] w fun e w' => e = .returned (I ((a.put k v).1 : Nat)) ∧ Goes w g o (a.put k v).2 w' := by
  cases hg : a.get k with
  | some v0 => exact put_there_any h hg v
  | none =>
    by_cases hc : a.count = a.most
    · exact put_full_any h hg hc v
    · exact put_new_any h hk64 hg hc v
end Go.Proofs.Ytkekmmomdhdegaa.Ii
