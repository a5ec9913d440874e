import Derived.Test.YtjcbpejplnaakaaGreatMdPart
namespace Go.Proofs.YtjcbpejplnaakaaGreat.Md
open Go.RowKit Go.Maps Go.Proofs.YtjcbpejplnaakaaGreat.Nm

section
variable {w w' w0 : World} {g o : Nat} {F : List Nat} {L : Lo} {c : Rs} {m : Nat → Option Int} {k n : Nat} {ns fr ks : List Nat}
set_option maxHeartbeats 800000 in
set_option maxRecDepth 100000 in
theorem Rw.push (h : Rw w0 w g o F ks) (hk : k ∉ ks) (hk2 : k < 18446744073709551616) (hl : ks.length ≤ 1000000000) : Calls Tryz.prog 65 #[.pointer (some ⟨g, o, none⟩), U k, .agg #[]] w fun e w' => e = .returned (.tuple #[]) ∧ Rw w0 w' g o F (k :: ks) := by
  obtain ⟨L, c, m, ns, fr, h1, h2, h3, rfl, h5⟩ := h
  rw [List.length_map] at hl
  have H : Hid (Mf w0 (w.alloc (.cells #[] 69)) g o F L c m ns.length ∧ Inv c ns fr []) := ⟨h1.below ((Below.refl _ w).alloc (Nat.le_refl _) _), h2⟩
  have HP : Hid (Mp m c ns ∧ k ∉ ns.map c.key ∧ (∀ x ∈ ns.map c.key, x < 18446744073709551616) ∧ ns.length ≤ 1000000000 ∧ k < 18446744073709551616) := ⟨h3, hk, h5, hl, hk2⟩
  clear h1 h2 h3 hk hk2 hl h5
  go_enter Tryz.func65, Tryz.ntmps65
  go_wp2_with (go_at_call 69; refine (fresh_any H.out.1 H.out.2 HP.out.2.2.2.1).mono ?_; rintro _ w1 ⟨x, L', c', fr', rfl, h1, h2, h3⟩)
  have H1 : Hid (Mf w0 w1 g o F L' c' m ns.length ∧ Inv c' ns fr' [x] ∧ ns.map c'.key = ns.map c.key) := ⟨h1, h2, h3⟩
  clear h1 h2 h3 H
  obtain ⟨a0, _, _, _⟩ := H1.out.1.mem.cellsR
  have hx := H1.out.2.1.lt x (by simp)
  have hx' : (x : Int) < (c'.n : Int) := by omega
  obtain ⟨s0, _, _, sf⟩ := H1.out.1.mem.cellsN hx
  obtain ⟨cs, hcs, _⟩ := (H1.out.1.putKey x k).drew.mem.nds
  have hp : (partAt ⟨L'.nb, x * 3, none⟩ 1 8).run Tryz.prog (w1.setCell ⟨L'.nb, x * 3, none⟩ (U k)).drew = .ok ⟨L'.nb, x * 3 + 1, none⟩ (w1.setCell ⟨L'.nb, x * 3, none⟩ (U k)).drew := part_ok (shape_blk hcs)
  clear hcs
  go_region
  have H2 : Hid (Mf w0 (w1.setCell ⟨L'.nb, x * 3, none⟩ (U k)).drew g o F L' (c'.named x k) m ns.length ∧ Inv (c'.named x k) ns fr' [x]) := ⟨(H1.out.1.putKey x k).drew, H1.out.2.1.named k⟩
  have HK : Hid (ns.map (c'.named x k).key = ns.map c.key) := by
    rw [← H1.out.2.2]
    refine List.map_congr_left fun i hi => up_ne ?_
    rintro rfl
    exact (List.nodup_append.1 (List.nodup_cons.1 H1.out.2.1.nd).2).2.2 i hi i (by simp) rfl
  generalize (w1.setCell ⟨L'.nb, x * 3, none⟩ (U k)).drew = w2 at *
  clear H1 hp s0 sf a0 hx hx'
  obtain ⟨_, a1, _, _⟩ := H2.out.1.mem.cellsR
  obtain ⟨w3, hu, hbk, hgr⟩ := H2.out.1.mem.book.put HP.out.2.2.2.2 (by have := HP.out.2.2.2.1; unfold maxLen; omega) (x : Int)
  have hnone : m k = none := HP.out.1.none.2 HP.out.2.1
  rw [hnone] at hbk
  have hbk' : IsBk w3 L'.mb (upd m k (some (x : Int))) (ns.length + 1) := hbk
  have H3 : Hid (Mf w0 w3 g o F L' (c'.named x k) (upd m k (some (x : Int))) (ns.length + 1)) := H2.out.1.putBk hbk' hgr
  clear hbk hbk' hgr
  go_wp2_with (go_at_call 70; refine (link_any H3.out (x := x) (H2.out.2.lt x (by simp)) H2.out.2.pos H2.out.2.be0).mono ?_; rintro _ w4 ⟨rfl, h4⟩)
  have H4 : Hid (Mf w0 w4 g o F L' ((c'.named x k).link x) (upd m k (some (x : Int))) (ns.length + 1)) := h4
  clear h4 H3 hu a1
  go_wp2
  go_end0
  have hkx : (c'.named x k).key x = k := up_same _ _ _
  refine ⟨rfl, L', _, _, x :: ns, fr', H4.out, H2.out.2.link (by rw [hkx, HK.out]; exact HP.out.2.1), fun kk y => ?_, ?_, fun y hy => ?_⟩
  · show _ ↔ ∃ n ∈ x :: ns, (c'.named x k).key n = kk ∧ y = (n : Int)
    have hns : ∀ i ∈ ns, (c'.named x k).key i = c.key i := fun i hi => by
      have := HK.out
      exact List.map_inj_left.1 this i hi
    by_cases e : kk = k
    · subst e
      rw [upd_same]
      constructor
      · intro e
        cases e
        exact ⟨x, by simp, hkx, rfl⟩
      · rintro ⟨i, hi, h1, rfl⟩
        rcases List.mem_cons.1 hi with e | e
        · rw [e]
        · rw [hns i e] at h1
          exact absurd (List.mem_map.2 ⟨i, e, h1⟩) HP.out.2.1
    · rw [upd_ne e, HP.out.1 kk y]
      constructor
      · rintro ⟨i, hi, h1, h2⟩
        exact ⟨i, List.mem_cons_of_mem _ hi, (hns i hi).trans h1, h2⟩
      · rintro ⟨i, hi, h1, h2⟩
        rcases List.mem_cons.1 hi with e2 | e2
        · rw [e2, hkx] at h1
          exact absurd h1.symm e
        · exact ⟨i, e2, (hns i e2).symm.trans h1, h2⟩
  · show _ = (c'.named x k).key x :: ns.map (c'.named x k).key
    rw [hkx, HK.out]
  · rcases List.mem_cons.1 hy with e | e
    · rw [e]; exact HP.out.2.2.2.2
    · exact HP.out.2.2.1 y e
set_option maxHeartbeats 800000 in
set_option maxRecDepth 100000 in
theorem drop_any {p s : List Nat} (h : Mf w0 w g o F L c m k) (hi : Inv c (p ++ n :: s) fr []) {x : Nat} (hx : x < 18446744073709551616) (hm : m x = some (n : Int)) : Calls Tryz.prog 68 #[.pointer (some ⟨g, o, none⟩), U x] w fun e w' => e = .returned (.bool true) ∧ Mf w0 w' g o F L ((c.unlink n).free n) (upd m x none) (k - 1) := by
  obtain ⟨_, a1, _, _⟩ := h.mem.cellsR
  have hl := h.mem.book.lookOk hx
  rw [hm] at hl
  have hl' : (Instr.lookup 57 (.map (some L.mb)) (U x) true).run Tryz.prog w = .ok (.tuple #[I (n : Int), .bool true]) w := hl
  obtain ⟨w1, hde, hbk, hgr⟩ := h.mem.book.drop hx 0
  have hdel : ∀ ty, (Builtin.delete_ #[57, 33] ty #[.map (some L.mb), U x]).run Tryz.prog w = .ok (.tuple #[]) w1 := fun ty => hde
  rw [hm] at hbk
  have hbk' : IsBk w1 L.mb (upd m x none) (k - 1) := hbk
  have H : Hid (Mf w0 w1 g o F L c (upd m x none) (k - 1) ∧ Inv c (p ++ n :: s) fr []) := ⟨h.putBk hbk' hgr, hi⟩
  clear h hi hl hde hbk hbk' hgr
  go_enter Tryz.func68, Tryz.ntmps68
  go_wp2_with (go_at_call 71; refine (unlink_any H.out.1 H.out.2.nx H.out.2.ahx H.out.2.bex).mono ?_; rintro _ w2 ⟨rfl, h2⟩)
  have H2 : Hid (Mf w0 w2 g o F L (c.unlink n) (upd m x none) (k - 1) ∧ n < c.n) := ⟨h2, H.out.2.nx⟩
  clear h2 H hl' hdel a1
  obtain ⟨a0, _, a2, _⟩ := H2.out.1.mem.cellsR
  have hn : n < (c.unlink n).n := H2.out.2
  have hn' : (n : Int) < ((c.unlink n).n : Int) := by omega
  obtain ⟨s0, s1, s2, sf⟩ := H2.out.1.mem.cellsN hn
  go_region
  have H3 : Hid (Mf w0 (((w2.setCell ⟨L.nb, n * 3, none⟩ (U 0)).setCell ⟨L.nb, n * 3 + 1, none⟩ (I (c.unlink n).freed)).setCell ⟨L.nb, n * 3 + 2, none⟩ (I 0)).drew g o F L { c.unlink n with key := up c.key n 0, ah := up (c.unlink n).ah n (c.unlink n).freed, be := up (c.unlink n).be n 0 } (upd m x none) (k - 1)) := (((H2.out.1.putKey n 0).putAh n (c.unlink n).freed).putBe n 0).drew
  generalize (((w2.setCell ⟨L.nb, n * 3, none⟩ (Value.int IntKind.u64 0)).setCell ⟨L.nb, n * 3 + 1, none⟩ (Value.int IntKind.i64 ((c.unlink n).freed : Int))).setCell ⟨L.nb, n * 3 + 2, none⟩ (Value.int IntKind.i64 0)).drew = w3 at *
  clear a0 a2 s0 s1 s2 sf
  obtain ⟨_, _, a2, af⟩ := H3.out.mem.cellsR
  go_wp2
  go_ret
  exact ⟨rfl, H3.out.putFreed n⟩
set_option maxHeartbeats 800000 in
set_option maxRecDepth 100000 in
theorem Rw.pop {l : List Nat} (h : Rw w0 w g o F (l ++ [k])) : Calls Tryz.prog 64 #[.pointer (some ⟨g, o, none⟩)] w fun e w' => e = .returned (U k) ∧ Rw w0 w' g o F l := by
  obtain ⟨L, c, m, ns, fr, h1, h2, h3, h4, h5⟩ := h
  obtain ⟨p, q, rfl, rfl, h7⟩ := List.map_eq_append_iff.1 h4.symm
  obtain ⟨n, q2, rfl, rfl, h8⟩ := List.map_eq_cons_iff.1 h7
  rw [List.map_eq_nil_iff] at h8
  subst h8
  clear h7
  have hlast : c.ah 0 = n := by
    rw [h2.seg.last]
    simp
  have hnn := h2.nx
  have hkk : c.key n < 18446744073709551616 := h5 _ (by simp)
  have hmm : m (c.key n) = some (n : Int) := (h3 _ _).2 ⟨n, by simp, rfl, rfl⟩
  have H : Hid (Mf w0 w g o F L c m (p ++ [n]).length ∧ Inv c (p ++ [n]) fr [] ∧ c.ah 0 = n) := ⟨h1, h2, hlast⟩
  have HP : Hid (Mp m c (p ++ [n]) ∧ ∀ x ∈ p.map c.key, x < 18446744073709551616) := ⟨h3, fun x hx => h5 x (by simp only [List.mem_append]; exact Or.inl hx)⟩
  have HKK : Hid (c.key n < 18446744073709551616 ∧ m (c.key n) = some (n : Int)) := ⟨hkk, hmm⟩
  clear h1 h2 h3 h4 h5 hkk hmm hlast
  have hs0 : ∀ d, (w.drewN d).cell? ⟨L.nb, n * 3, none⟩ = some (U (c.key n)) := fun d => ((H.out.1.drewN d).mem.cellsN hnn).1
  go_enter Tryz.func64, Tryz.ntmps64
  go_wp2_with (go_at_call 67; refine (last_any H.out.1.mem H.out.2.1.pos H.out.2.1.ah0).mono ?_; rw [H.out.2.2]; rintro _ w1 ⟨rfl, d, rfl⟩; replace hs0 := hs0 d)
  refine (drop_any (H.out.1.drewN _) H.out.2.1 HKK.out.1 HKK.out.2).mono ?_
  rintro _ w2 ⟨rfl, h2⟩
  have H2 : Hid (Mf w0 w2 g o F L ((c.unlink n).free n) (upd m (c.key n) none) ((p ++ [n]).length - 1)) := h2
  clear h2
  go_wp2
  go_ret
  have hu := H.out.2.1.unlink
  rw [List.nil_append, List.append_nil] at hu
  have hf := hu.free
  have hnp : n ∉ p := by
    have := (List.nodup_append.1 (List.nodup_cons.1 H.out.2.1.nd).2).1
    have := (List.nodup_append.1 this).2.2
    exact fun e => this n e n (by simp) rfl
  have hkey : ∀ i ∈ p, ((c.unlink n).free n).key i = c.key i := fun i hi => up_ne (by rintro rfl; exact hnp hi)
  have hkd := H.out.2.1.kd
  rw [List.map_append, List.nodup_append] at hkd
  refine ⟨rfl, L, _, upd m (c.key n) none, p, n :: fr, ?_, hf, fun kk y => ?_, ?_, HP.out.2⟩
  · have := H2.out
    simp only [List.length_append, List.length_cons, List.length_nil, Nat.add_sub_cancel] at this
    exact this
  · by_cases e : kk = c.key n
    · subst e
      rw [upd_same]
      constructor
      · intro e; cases e
      · rintro ⟨i, hi, h1, _⟩
        rw [hkey i hi] at h1
        exact absurd h1 (hkd.2.2 _ (List.mem_map_of_mem hi) _ (by simp))
    · rw [upd_ne e, HP.out.1 kk y]
      constructor
      · rintro ⟨i, hi, h1, h2⟩
        rcases List.mem_append.1 hi with e2 | e2
        · exact ⟨i, e2, (hkey i e2).trans h1, h2⟩
        · rw [List.mem_singleton.1 e2] at h1
          exact absurd h1.symm e
      · rintro ⟨i, hi, h1, h2⟩
        exact ⟨i, List.mem_append_left _ hi, (hkey i hi).symm.trans h1, h2⟩
  · exact (List.map_congr_left hkey).symm
end
end Go.Proofs.YtjcbpejplnaakaaGreat.Md
