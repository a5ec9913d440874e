import Derived.Test.YtkekmmomdhdegaaJxLiesW
import Derived.Test.YtkekmmomdhdegaaIxOpen
import Derived.Test.YtkekmmomdhdegaaIxKnown
namespace Go.Proofs.Ytkekmmomdhdegaa.Ij
open Go.RowKit Go.Proofs.Ytkekmmomdhdegaa.Ix Go.Maps

theorem Goes.keep {W W' : World} {g : Nat} {o : Lo} {a' : Ix El} (hG : Goes W g o a' W') {k : Nat} (hk : k < W.heap.size) (hn : k ∉ o.foot g) : W'.heap[k]? = W.heap[k]? := by
  obtain ⟨o', _, k2, _⟩ := hG
  exact k2.block k hk hn
theorem Goes.past {W W' W'' : World} {g : Nat} {o : Lo} {a' : Ix El} (hG : Goes W g o a' W') (hb : Below W'.heap.size W' W'') : Goes W g o a' W'' := by
  obtain ⟨o', k1, k2, k3⟩ := hG
  exact ⟨o', k1.below hb, k2.trans (Fr.of_below (F := []) hb) (fun _ hx => (by cases hx)), k3⟩
theorem new_get (b most k : Nat) : (Ix.new (α := El) b most).get k = none := rfl
theorem step_cells {W : World} {i : Nat} {k n : Int} {key : Nat} (h : W.heap[i]? = some (.cells #[I k, I n, U key] 38 (0, 0))) : W.cell? ⟨i, 0, none⟩ = some (I k) ∧ W.cell? ⟨i, 1, none⟩ = some (I n) ∧ W.cell? ⟨i, 2, none⟩ = some (U key) := ⟨by simp [World.cell?, h], by simp [World.cell?, h], by simp [World.cell?, h]⟩
set_option maxHeartbeats 25600000 in
set_option maxRecDepth 100000 in
theorem keeps_ok (m : Nat) (ao : Option Addr) (s : List St) (cap : Nat) (W : World) (hm : m ≤ 4096) (hs : IsSt W ao s) (hlen : s.length ≤ 11728124029610) :
    Calls Try.prog 5 #[I m, .slice ao s.length cap] W fun e w' => e = .returned (.bool true) ∧ Below W.heap.size W w' := by
  have HS : Hid (IsSt W ao s) := hs
  have hm0 : ¬ (m : Int) < 0 := by omega
  have hm1 : (m : Int) ≤ 4096 := by omega
  have HNew := show Hid _ from fun v => new_ok m (by omega) v
  have hls : (s.length : Int) ≤ 11728124029610 := by omega
  have hmk : ∀ u : World, (Instr.makeMap 47 none).run Try.prog u = .ok (.map (some u.heap.size)) (u.alloc (.map #[] 0)) := fun u => by kernel_rfl
  clear hs hlen hm
  go_enter Try.func5, Try.ntmps5
  go_wp2_with fail
  refine (Go.Proofs.Ytkekmmomdhdegaa.Ii.known_any W).mono ?_
  rintro r w1 ⟨rfl, hb⟩
  have HB : Hid (Below W.heap.size W w1) := hb
  clear hb
  go_wp2_with fail
  refine (HNew.out w1).mono ?_
  rintro r w2 ⟨g, rfl, hBo⟩
  have HK0 : Hid (∃ o, Kp w1.heap.size w1 (w2.alloc (.map #[] 0)) g w2.heap.size o (Ix.new (dbl m) m) (fun _ => none)) := by
    obtain ⟨o, hM⟩ := hBo.mine
    exact ⟨o, hM.below ((Below.refl _ w2).alloc (Nat.le_refl _) _), IsBk.made w2, fun k v hg => (by rw [new_get] at hg; cases hg), fun _ _ => rfl, hM.2.1.size⟩
  clear hBo HNew
  go_wp2_with fail
  generalize w2.alloc (.map #[] 0) = w3 at *
  go_loopg [8] (min s.length 3000) (fun r vi wr => ∃ (i : Nat) (o : Lo) (a : Ix El) (f : Nat → Option Int), i + r = min s.length 3000 ∧ vi = I i ∧ Kp w1.heap.size w1 wr g w2.heap.size o a f ∧ a.most = m)
  case atStart =>
    obtain ⟨o, h⟩ := HK0.out
    exact ⟨0, o, _, _, by omega, rfl, h, rfl⟩
  case round =>
    obtain ⟨i, o, a, f, hir, rfl, hKp, hmo⟩ := hrel
    have HIr : Hid (i + gk = min s.length 3000) := hir
    have HKp : Hid (Kp w1.heap.size w1 wr g w2.heap.size o a f ∧ a.most = m) := ⟨hKp, hmo⟩
    have HBe : Hid (Below W.heap.size W wr) := HB.out.trans (hKp.mine.2.1.mono HB.out.size)
    have hac : (a.count : Int) ≤ 4194304 := by
      have h1 := hKp.mine.1.2.cnt
      have h2 := hKp.mine.1.2.most
      have h3 := Nat.pow_le_pow_right (n := 2) (by omega) hKp.mine.1.2.b
      omega
    clear hir HK0 hKp hmo
    by_cases h1 : i < s.length
    · have h1' : (i : Int) < (s.length : Int) := by omega
      by_cases h2 : i < 3000
      · have h2' : (i : Int) < 3000 := by omega
        obtain ⟨st, hst⟩ : ∃ st, s[i]? = some st := ⟨_, List.getElem?_eq_getElem h1⟩
        obtain ⟨b, off, e0, _, c0, c1, c2⟩ := (HS.out.below HBe.out (Nat.le_refl _)) i st hst
        obtain ⟨k, n, key, lt⟩ := st
        dsimp only at c0 c1 c2
        have hb1 : Below wr.heap.size wr (wr.alloc (.cells #[I k, I n, U key] 38)) := (Below.refl _ wr).alloc (Nat.le_refl _) _
        have hn1 : (wr.alloc (.cells #[I k, I n, U key] 38)).heap[wr.heap.size]? = some (.cells #[I k, I n, U key] 38 (0, 0)) := heap_alloc_new wr _
        obtain ⟨d0, d1, d2⟩ := step_cells hn1
        have hK1 := HKp.out.1.below hb1
        have hlk := hK1.bk.lookOk lt
        have HK1 : Hid (Kp w1.heap.size w1 (wr.alloc (.cells #[I k, I n, U key] 38)) g w2.heap.size o a f) := hK1
        have HN1 : Hid ((wr.alloc (.cells #[I k, I n, U key] 38)).heap[wr.heap.size]? = some (.cells #[I k, I n, U key] 38 (0, 0)) ∧ wr.heap.size ∉ o.foot g ∧ wr.heap.size < (wr.alloc (.cells #[I k, I n, U key] 38)).heap.size) := ⟨hn1, fun hm => by have := HKp.out.1.mine.1.1.foot_lt _ hm; omega, by simp⟩
        subst e0
        clear hst hb1 hn1 hK1 h1 h2
        by_cases k1 : k = 1
        · subst k1
          --PUT
          have hb2 : Below (wr.alloc (.cells #[I 1, I n, U key] 38)).heap.size (wr.alloc (.cells #[I 1, I n, U key] 38)) ((wr.alloc (.cells #[I 1, I n, U key] 38)).alloc (.cells #[I n, I i] 3)) := (Below.refl _ _).alloc (Nat.le_refl _) _
          have hn2 : ((wr.alloc (.cells #[I 1, I n, U key] 38)).alloc (.cells #[I n, I i] 3)).heap[wr.heap.size + 1]? = some (.cells #[I n, I i] 3 (0, 0)) := by
            have := heap_alloc_new (wr.alloc (.cells #[I 1, I n, U key] 38)) (.cells #[I n, I i] 3)
            rw [World.size_alloc] at this
            exact this
          have hK2 := HK1.out.below hb2
          have HK2 : Hid (Kp w1.heap.size w1 ((wr.alloc (.cells #[I 1, I n, U key] 38)).alloc (.cells #[I n, I i] 3)) g w2.heap.size o a f ∧ ((wr.alloc (.cells #[I 1, I n, U key] 38)).alloc (.cells #[I n, I i] 3)).cell? ⟨wr.heap.size + 1, 0, none⟩ = some (I n) ∧ wr.heap.size + 1 ∉ o.foot g ∧ ((wr.alloc (.cells #[I 1, I n, U key] 38)).alloc (.cells #[I n, I i] 3)).heap[wr.heap.size]? = some (.cells #[I 1, I n, U key] 38 (0, 0)) ∧ wr.heap.size < ((wr.alloc (.cells #[I 1, I n, U key] 38)).alloc (.cells #[I n, I i] 3)).heap.size) := ⟨hK2, by rw [World.cell?, hn2]; rfl, fun hm => by have := HKp.out.1.mine.1.1.foot_lt _ hm; omega, (hb2.block _ HN1.out.2.2).trans HN1.out.1, by simp; omega⟩
          have HPu := show Hid _ from put_any hK2.mine.1 lt (some ⟨wr.heap.size + 1, 0, none⟩, 2, 2)
          simp only [ev] at HPu
          have hcode := hK2.code lt (some ⟨wr.heap.size + 1, 0, none⟩, 2, 2)
          have HCode := show Hid _ from hcode
          clear hb2 hn2 hK2
          rcases hcode with ⟨q1, q2, q3⟩ | ⟨q1, q2, q3, q4⟩
          · rw [q1] at hlk
            rw [q3] at HPu
            have HM : Hid (a.count = m) := q2.trans HKp.out.2
            have hcm : ((a.count : Int) == (m : Int)) = true := by simp [HM.out]
            clear q1 q2 q3 HCode
            generalize (f key).getD 0 = fz at *
            go_wp2_with fail
            refine Calls.mono HPu.out ?_
            rintro r w5 ⟨rfl, hG⟩
            obtain ⟨oz, hz⟩ := HK2.out.1.stays hG
            have HKz : Hid (Kp w1.heap.size w1 w5 g w2.heap.size oz a f ∧ a.most = m) := ⟨hz, HKp.out.2⟩
            have hln := hz.bk.len
            clear hz hG HPu
            go_wp2_with fail
            have hln := HKz.out.1.bk.len
            have HLe := show Hid _ from len_any HKz.out.1.mine.1.1
            go_wp2_with fail
            refine Calls.mono HLe.out ?_
            rintro r wy ⟨rfl, rfl⟩
            have hcc : ((a.count : Int) != (a.count : Int)) = false := by simp
            clear HLe
            go_wp2_with fail
            go_roundg (min s.length 3000 - (i + 1))
            case measure => have := HIr.out; omega
            case rel => exact ⟨i + 1, _, _, _, by have := HIr.out; omega, by go_num, HKz.out.1, HKz.out.2⟩
          · rw [q2] at HPu
            have hcm : (f key).isSome = true ∨ (((f key).isSome = false) ∧ ((a.count : Int) == (m : Int)) = false) := by
              cases hs : (f key).isSome with
              | true => exact Or.inl rfl
              | false =>
                rw [hs] at q1
                refine Or.inr ⟨rfl, ?_⟩
                have := HKp.out.2
                have := q1.resolve_left (by simp)
                simp
                omega
            have HQ : Hid ((a.put key (some ⟨wr.heap.size + 1, 0, none⟩, 2, 2)).2.count = (if (f key).isSome then a.count else a.count + 1) ∧ (∀ k' x, (a.put key (some ⟨wr.heap.size + 1, 0, none⟩, 2, 2)).2.get k' = some x ↔ (k' = key ∧ x = (some ⟨wr.heap.size + 1, 0, none⟩, 2, 2)) ∨ (k' ≠ key ∧ a.get k' = some x)) ∧ (a.put key (some ⟨wr.heap.size + 1, 0, none⟩, 2, 2)).2.most = a.most) := ⟨q3, q4, (Ix.put_b a key _).2.1⟩
            generalize (a.put key (some ⟨wr.heap.size + 1, 0, none⟩, 2, 2)).2 = ap at *
            clear q1 q2 q3 q4 HCode
            generalize hgd : (f key).getD 0 = fz at *
            clear hgd
            rcases hcm with hth | ⟨hth, hcm⟩
            all_goals
              rw [hth] at hlk
              have HTh := show Hid _ from hth
              clear hth
              go_wp2_with fail
              refine Calls.mono HPu.out ?_
              rintro r w5 ⟨rfl, hG⟩
              obtain ⟨hbk, hnext⟩ := HK2.out.1.put HQ.out.2.1 HQ.out.1 HK2.out.2.1 HK2.out.2.2.1 hG
              have hln := hbk.len
              have hst5 := (hG.keep HK2.out.2.2.2.2 HN1.out.2.1).trans HK2.out.2.2.2.1
              obtain ⟨f0, f1, f2⟩ := step_cells hst5
              obtain ⟨w6, hup, hbk6, hgr⟩ := hbk.put lt (by unfold maxLen; omega) n
              obtain ⟨oz, hz⟩ := hnext w6 hgr hbk6
              have HKz : Hid (Kp w1.heap.size w1 w6 g w2.heap.size oz ap (upd f key (some n)) ∧ ap.most = m) := ⟨hz, HQ.out.2.2.trans HKp.out.2⟩
              clear hbk hnext hG hst5 hbk6 hgr hz HPu
              go_wp2_with fail
              have hln := HKz.out.1.bk.len
              have HLe := show Hid _ from len_any HKz.out.1.mine.1.1
              go_wp2_with fail
              refine Calls.mono HLe.out ?_
              rintro r wy ⟨rfl, rfl⟩
              have hcc : ((ap.count : Int) != (ap.count : Int)) = false := by simp
              clear HLe
              go_wp2_with fail
              go_roundg (min s.length 3000 - (i + 1))
              case measure => have := HIr.out; omega
              case rel => exact ⟨i + 1, _, _, _, by have := HIr.out; omega, by go_num, HKz.out.1, HKz.out.2⟩
        · have k1' : (k == 1) = false := by simp [k1]
          by_cases k3 : k = 3
          · subst k3
            have HDr := show Hid _ from drop_any HK1.out.mine.1 key
            have HMst : Hid ((a.drop key).most = m) := (Ix.drop_b a key).2.1.trans HKp.out.2
            cases hg : a.get key with
            | none =>
              rw [HK1.out.none_ key hg] at hlk
              rw [hg] at HDr
              simp only [Option.map_none, Option.getD_none, Option.isSome_none] at hlk HDr
              clear hg
              go_wp2_with fail
              refine Calls.mono HDr.out ?_
              rintro r w5 ⟨rfl, hG⟩
              have HG := show Hid _ from hG
              clear hG HDr
              go_wp2_with fail
              go_quiet (fail)
              have hG6 := Goes.past HG.out (bel_drewN w5 nq)
              generalize w5.drewN nq = w6 at *
              obtain ⟨hbk, _, hnext⟩ := HK1.out.drop hG6
              have hst6 := (hG6.keep HN1.out.2.2 HN1.out.2.1).trans HN1.out.1
              obtain ⟨f0, f1, f2⟩ := step_cells hst6
              have hdl := fun ty => hbk.drop lt ty
              have hdl0 := hdl 0
              obtain ⟨w7, hde, hbk7, hgr⟩ := hdl0
              have hdel : ∀ ty, (Builtin.delete_ #[47, 22] ty #[.map (some w2.heap.size), U key]).run Try.prog w6 = .ok (.tuple #[]) w7 := fun ty => hde
              obtain ⟨oz, hz⟩ := hnext w7 hgr hbk7
              have HKz : Hid (Kp w1.heap.size w1 w7 g w2.heap.size oz (a.drop key) (upd f key none) ∧ (a.drop key).most = m) := ⟨hz, HMst.out⟩
              generalize a.drop key = ad at *
              clear hbk hnext hG6 hst6 hdl hde hbk7 hgr hz HG
              go_wp2_with fail
              have hln := HKz.out.1.bk.len
              have HLe := show Hid _ from len_any HKz.out.1.mine.1.1
              go_wp2_with fail
              refine Calls.mono HLe.out ?_
              rintro r wy ⟨rfl, rfl⟩
              have hcc : ((ad.count : Int) != (ad.count : Int)) = false := by simp
              clear HLe
              go_wp2_with fail
              go_roundg (min s.length 3000 - (i + 1))
              case measure => have := HIr.out; omega
              case rel => exact ⟨i + 1, _, _, _, by have := HIr.out; omega, by go_num, HKz.out.1, HKz.out.2⟩
            | some v =>
              obtain ⟨z, hfz, vb, rfl, _, _⟩ := HK1.out.some_ key v hg
              rw [hfz] at hlk
              rw [hg] at HDr
              simp only [Option.map_some, Option.getD_some, Option.isSome_some, ev] at hlk HDr
              have HFz : Hid (f key = some z ∧ a.get key = some (some ⟨vb, 0, none⟩, 2, 2)) := ⟨hfz, hg⟩
              clear hg hfz
              go_wp2_with fail
              refine Calls.mono HDr.out ?_
              rintro r w5 ⟨rfl, hG⟩
              have HG := show Hid _ from hG
              obtain ⟨hbk, hval, _⟩ := HK1.out.drop hG
              obtain ⟨z', e1, vb', e2, hvc, _⟩ := hval _ HFz.out.2
              obtain rfl : z' = z := by rw [HFz.out.1] at e1; exact (Option.some.inj e1).symm
              obtain rfl : vb' = vb := by injection e2 with e2; injection e2 with e2; injection e2 with e2; exact e2.symm
              have hlk5 : ∀ j, (Instr.lookup 47 (.map (some w2.heap.size)) (U key) false).run Try.prog (w5.drewN j) = .ok (I z') (w5.drewN j) := fun j => by
                have := (hbk.same (w' := w5.drewN j) ((bel_drewN w5 j).block _ hbk.lt)).look lt
                rw [HFz.out.1] at this
                exact this
              have hst5 := (hG.keep HN1.out.2.2 HN1.out.2.1).trans HN1.out.1
              obtain ⟨f0, f1, f2⟩ := step_cells hst5
              have hzz : (z' != z') = false := by simp
              clear hG hbk hval e1 e2 HDr hst5
              go_wp2_with fail
              go_quiet (fail)
              have hG6 := Goes.past HG.out (bel_drewN w5 nq)
              clear f0 f1 f2 hvc hlk5
              generalize w5.drewN nq = w6 at *
              obtain ⟨hbk, _, hnext⟩ := HK1.out.drop hG6
              have hst6 := (hG6.keep HN1.out.2.2 HN1.out.2.1).trans HN1.out.1
              obtain ⟨f0, f1, f2⟩ := step_cells hst6
              have hdl := fun ty => hbk.drop lt ty
              have hdl0 := hdl 0
              obtain ⟨w7, hde, hbk7, hgr⟩ := hdl0
              have hdel : ∀ ty, (Builtin.delete_ #[47, 22] ty #[.map (some w2.heap.size), U key]).run Try.prog w6 = .ok (.tuple #[]) w7 := fun ty => hde
              obtain ⟨oz, hz⟩ := hnext w7 hgr hbk7
              have HKz : Hid (Kp w1.heap.size w1 w7 g w2.heap.size oz (a.drop key) (upd f key none) ∧ (a.drop key).most = m) := ⟨hz, HMst.out⟩
              generalize a.drop key = ad at *
              clear hbk hnext hG6 hst6 hdl hde hbk7 hgr hz HG
              go_wp2_with fail
              have hln := HKz.out.1.bk.len
              have HLe := show Hid _ from len_any HKz.out.1.mine.1.1
              go_wp2_with fail
              refine Calls.mono HLe.out ?_
              rintro r wy ⟨rfl, rfl⟩
              have hcc : ((ad.count : Int) != (ad.count : Int)) = false := by simp
              clear HLe
              go_wp2_with fail
              go_roundg (min s.length 3000 - (i + 1))
              case measure => have := HIr.out; omega
              case rel => exact ⟨i + 1, _, _, _, by have := HIr.out; omega, by go_num, HKz.out.1, HKz.out.2⟩
          · have k3' : (k == 3) = false := by simp [k3]
            by_cases k2 : k = 2
            · subst k2
              have HGt := show Hid _ from get_any HK1.out.mine.1 key
              cases hg : a.get key with
              | none =>
                rw [HK1.out.none_ key hg] at hlk
                rw [hg] at HGt
                simp only [Option.map_none, Option.getD_none, Option.isSome_none] at hlk HGt
                clear hg
                go_wp2_with fail
                refine Calls.mono HGt.out ?_
                rintro r w5 ⟨rfl, rfl⟩
                clear HGt
                go_wp2_with fail
                go_quiet (fail)
                have hz := HK1.out.below (bel_drewN _ nq)
                have HKz := show Hid _ from And.intro hz HKp.out.2
                clear hz
                generalize ((wr.alloc (.cells #[I 2, I n, U key] 38)).drewN nq) = w6 at *
                go_wp2_with fail
                have hln := HKz.out.1.bk.len
                have HLe := show Hid _ from len_any HKz.out.1.mine.1.1
                go_wp2_with fail
                refine Calls.mono HLe.out ?_
                rintro r wy ⟨rfl, rfl⟩
                have hcc : ((a.count : Int) != (a.count : Int)) = false := by simp
                clear HLe
                go_wp2_with fail
                go_roundg (min s.length 3000 - (i + 1))
                case measure => have := HIr.out; omega
                case rel => exact ⟨i + 1, _, _, _, by have := HIr.out; omega, by go_num, HKz.out.1, HKz.out.2⟩
              | some v =>
                obtain ⟨z, hfz, vb, rfl, hvc, _⟩ := HK1.out.some_ key v hg
                rw [hfz] at hlk
                rw [hg] at HGt
                simp only [Option.map_some, Option.getD_some, Option.isSome_some, ev] at hlk HGt
                have hlk5 : ∀ j, (Instr.lookup 47 (.map (some w2.heap.size)) (U key) false).run Try.prog ((wr.alloc (.cells #[I 2, I n, U key] 38)).drewN j) = .ok (I z) ((wr.alloc (.cells #[I 2, I n, U key] 38)).drewN j) := fun j => by
                  have := (HK1.out.bk.same (w' := (wr.alloc (.cells #[I 2, I n, U key] 38)).drewN j) ((bel_drewN _ j).block _ HK1.out.bk.lt)).look lt
                  rw [hfz] at this
                  exact this
                have hzz : (z != z) = false := by simp
                clear hg hfz
                go_wp2_with fail
                refine Calls.mono HGt.out ?_
                rintro r w5 ⟨rfl, rfl⟩
                clear HGt
                go_wp2_with fail
                go_quiet (fail)
                have hz := HK1.out.below (bel_drewN _ nq)
                clear hlk5 hvc
                have HKz := show Hid _ from And.intro hz HKp.out.2
                clear hz
                generalize ((wr.alloc (.cells #[I 2, I n, U key] 38)).drewN nq) = w6 at *
                go_wp2_with fail
                have hln := HKz.out.1.bk.len
                have HLe := show Hid _ from len_any HKz.out.1.mine.1.1
                go_wp2_with fail
                refine Calls.mono HLe.out ?_
                rintro r wy ⟨rfl, rfl⟩
                have hcc : ((a.count : Int) != (a.count : Int)) = false := by simp
                clear HLe
                go_wp2_with fail
                go_roundg (min s.length 3000 - (i + 1))
                case measure => have := HIr.out; omega
                case rel => exact ⟨i + 1, _, _, _, by have := HIr.out; omega, by go_num, HKz.out.1, HKz.out.2⟩
            · have k2' : (k == 2) = false := by simp [k2]
              have HKz : Hid (Kp w1.heap.size w1 (wr.alloc (.cells #[I k, I n, U key] 38)) g w2.heap.size o a f ∧ a.most = m) := ⟨HK1.out, HKp.out.2⟩
              clear k1 k2 k3
              generalize (f key).getD 0 = fz at *
              generalize (f key).isSome = fs at *
              have hln := HKz.out.1.bk.len
              go_wp2_with fail
              have hln := HKz.out.1.bk.len
              have HLe := show Hid _ from len_any HKz.out.1.mine.1.1
              go_wp2_with fail
              refine Calls.mono HLe.out ?_
              rintro r wy ⟨rfl, rfl⟩
              have hcc : ((a.count : Int) != (a.count : Int)) = false := by simp
              clear HLe
              go_wp2_with fail
              go_roundg (min s.length 3000 - (i + 1))
              case measure => have := HIr.out; omega
              case rel => exact ⟨i + 1, _, _, _, by have := HIr.out; omega, by go_num, HKz.out.1, HKz.out.2⟩
      · have h2' : decide ((i : Int) < 3000) = false := by simp; omega
        have HLi := show Hid _ from lies_any HKp.out.1
        go_wp2_with fail
        refine Calls.mono HLi.out ?_
        rintro r wy ⟨rfl, hby⟩
        have HBy : Hid (Below W.heap.size W wy) := HBe.out.trans (hby.mono HBe.out.size)
        clear hby HLi
        go_wp2
        go_ret
        exact ⟨rfl, HBy.out⟩
    · have h1' : decide ((i : Int) < (s.length : Int)) = false := by simp; omega
      have HLi := show Hid _ from lies_any HKp.out.1
      go_wp2_with fail
      refine Calls.mono HLi.out ?_
      rintro r wy ⟨rfl, hby⟩
      have HBy : Hid (Below W.heap.size W wy) := HBe.out.trans (hby.mono HBe.out.size)
      clear hby HLi
      go_wp2
      go_ret
      exact ⟨rfl, HBy.out⟩
set_option maxHeartbeats 1600000 in
set_option maxRecDepth 100000 in
theorem keeps_no (m : Int) (ao : Option Addr) (s : List St) (cap : Nat) (W : World) (h : m < 0 ∨ 4096 < m) :
    Calls Try.prog 5 #[I m, .slice ao s.length cap] W fun e w' => e = .returned (.bool true) ∧ Below W.heap.size W w' := by
  by_cases h0 : m < 0
  · go_enter Try.func5, Try.ntmps5
    go_wp2_with fail
    refine (Go.Proofs.Ytkekmmomdhdegaa.Ii.known_any W).mono ?_
    rintro e w1 ⟨rfl, hb⟩
    have HB := show Hid _ from hb
    clear hb
    go_wp2
    go_ret
    exact ⟨rfl, HB.out⟩
  · have h1 : 4096 < m := by omega
    have h2 : decide (m < 0) = false := decide_eq_false h0
    go_enter Try.func5, Try.ntmps5
    go_wp2_with fail
    refine (Go.Proofs.Ytkekmmomdhdegaa.Ii.known_any W).mono ?_
    rintro e w1 ⟨rfl, hb⟩
    have HB := show Hid _ from hb
    clear hb
    go_wp2
    go_ret
    exact ⟨rfl, HB.out⟩
theorem keeps_walk (m : Int) (ao : Option Addr) (s : List St) (cap : Nat) (W : World) (hs : IsSt W ao s) (hlen : s.length ≤ 11728124029610) :
    Calls Try.prog 5 #[I m, .slice ao s.length cap] W fun e w' => e = .returned (.bool true) ∧ Below W.heap.size W w' := by
  by_cases h : m < 0 ∨ 4096 < m
  · exact keeps_no m ao s cap W h
  · obtain ⟨m, rfl⟩ := Int.eq_ofNat_of_zero_le (show 0 ≤ m by omega)
    exact keeps_ok m ao s cap W (by omega) hs hlen
end Go.Proofs.Ytkekmmomdhdegaa.Ij
