import Derived.Test.YtoeioppmlnognaaArWholeP
import Derived.Test.YtoeioppmlnognaaArFace
import Derived.Deep.LoopGhost
namespace Go.Proofs.Ytoeioppmlnognaa.Ar
open Go.RowKit

theorem As.seq01 (a : As) {i : Nat} (hi : i < a.nl) : a.seq i 0 = a.L i ∧ a.seq i 1 = (a.L i).reverse := by
  unfold As.seq
  rw [if_pos ⟨⟨by omega, by omega⟩, Or.inl rfl⟩, if_pos ⟨⟨by omega, by omega⟩, Or.inr rfl⟩, Int.toNat_natCast]
  exact ⟨rfl, rfl⟩

set_option maxHeartbeats 12800000 in
set_option maxRecDepth 100000 in
theorem whole_any {w : World} {g : Nat} {o : Lo} {a : As} (h : IsAr w g o a) : Calls Try.prog 16 #[.pointer (some ⟨g, 0, none⟩), I a.size, I a.nl] w fun r w' => r = .returned (.bool true) ∧ Below w.heap.size w w' := by
  have hsz : a.size ≤ 4194304 ∧ a.nl ≤ 256 := by
    obtain ⟨c, hm, _⟩ := h
    exact ⟨hm.sz, hm.nlm⟩
  obtain ⟨M, hmk, hM⟩ := mk_ints a.size hsz.1
  have hn1 : (a.size : Int) ≤ 4194304 := by omega
  have hl1 : (a.nl : Int) ≤ 256 := by omega
  have HM := show Hid _ from hM w
  have HX : Hid (IsAr w g o a) := h
  have htl : ∀ i, i ≤ a.nl → tl a.L i ≤ 4194304 := fun i hi => by
    obtain ⟨c, hm, hi2⟩ := h
    have := tl_mono a.L hi
    have := hi2.sum
    omega
  have HTl := show Hid _ from htl
  clear h hsz hM htl
  go_enter Try.func16, Try.ntmps16
  go_wp2
  go_loopg [8, 9] a.nl (fun r vin vi wr => ∃ i, i + r = a.nl ∧ vin = I (tl a.L i : Nat) ∧ vi = I (i : Nat) ∧ At wr w.heap.size a.size (fA a i) ∧ Below w.heap.size w wr)
  case atStart => exact ⟨0, by omega, rfl, rfl, by rw [fA_zero]; exact HM.out, (Below.refl _ w).alloc (Nat.le_refl _) _⟩
  case round =>
    obtain ⟨i, hir, rfl, rfl, hA, hB⟩ := hrel
    have HA := show Hid _ from And.intro hA hB
    have HR : Hid (i + gk = a.nl) := hir
    clear hA hB hir
    by_cases hi : i < a.nl
    · obtain ⟨s0, s1⟩ := a.seq01 hi
      have hi1 : (i : Int) < (a.nl : Int) := by omega
      have hp0 : a.peek i 0 = (a.L i).head? := by rw [a.peek_seq, s0]
      have hp1 : a.peek i 1 = (a.L i).getLast? := by rw [a.peek_seq, s1, List.head?_reverse]
      have hle : a.len i = ((a.L i).length : Nat) := by unfold As.len; rw [if_pos ⟨by omega, by omega⟩, Int.toNat_natCast]
      have HI : Hid (IsAr wr g o a) := HX.out.below HA.out.2
      have HTi : Hid (tl a.L (i + 1) = tl a.L i + (a.L i).length ∧ tl a.L (i + 1) ≤ 4194304) := ⟨rfl, HTl.out (i + 1) (by omega)⟩
      obtain ⟨t0, ht0⟩ : ∃ t, t = tl a.L i := ⟨_, rfl⟩
      rw [← ht0] at HTi ⊢
      clear ht0
      have HN0 := show Hid _ from nodes_any HI.out i 0
      rw [s0] at HN0
      have HN1 : Hid (∀ u, Below w.heap.size w u → Calls Try.prog 21 #[.pointer (some ⟨g, 0, none⟩), I i, I 1] u fun r w' => ∃ v, r = .returned v ∧ w'.ownsRow u.heap.size 3 1 v (a.L i).reverse.length ((a.L i).reverse.map fun x : Nat => I x) ∧ Below u.heap.size u w') := fun u hu => by
        have := nodes_any (HX.out.below hu) i 1
        rw [s1] at this
        exact this
      have HPe : Hid (∀ u, Below w.heap.size w u → (Calls Try.prog 35 #[.pointer (some ⟨g, 0, none⟩), I i, I 0] u fun r w' => r = .returned (.tuple #[I ((a.L i).head?.getD 0 : Nat), .bool (a.L i).head?.isSome]) ∧ w' = u) ∧ (Calls Try.prog 35 #[.pointer (some ⟨g, 0, none⟩), I i, I 1] u fun r w' => r = .returned (.tuple #[I ((a.L i).getLast?.getD 0 : Nat), .bool (a.L i).getLast?.isSome]) ∧ w' = u) ∧ (Calls Try.prog 30 #[.pointer (some ⟨g, 0, none⟩), I i] u fun r w' => r = .returned (I ((a.L i).length : Nat)) ∧ w' = u)) := fun u hu => by
        have h1 := peek_any (HX.out.below hu) i 0
        have h2 := peek_any (HX.out.below hu) i 1
        have h3 := len_any (HX.out.below hu) i
        rw [hp0] at h1
        rw [hp1] at h2
        rw [hle] at h3
        exact ⟨h1, h2, h3⟩
      have HIv : Hid (∃ c, Inv c a []) := by obtain ⟨c, _, hi2⟩ := HX.out; exact ⟨c, hi2⟩
      have hlen : ((a.L i).length : Int) ≤ 4194304 := by have := HTi.out; omega
      have ht1 : (0 : Int) ≤ (t0 : Int) := by omega
      have ht2 : (t0 : Int) ≤ 4194304 := by have := HTi.out; omega
      clear s0 s1 hp0 hp1 hle
      go_wp2_with fail
      refine Calls.mono HN0.out ?_
      rintro r w1 ⟨v1, rfl, ho1, hb1⟩
      have HO1 := show Hid _ from ho1
      have HA1 : Hid (At w1 w.heap.size a.size (fA a i) ∧ Below w.heap.size w w1 ∧ w.heap.size < wr.heap.size ∧ wr.heap.size ≤ w1.heap.size) := ⟨HA.out.1.below hb1, HA.out.2.trans (hb1.mono HA.out.2.size), HA.out.1.lt, hb1.size⟩
      clear HN0 HA HI hb1
      obtain ⟨ao, ac, rfl⟩ := own_form ho1
      clear ho1
      go_wp2_with fail
      refine Calls.mono (HN1.out w1 HA1.out.2.1) ?_
      rintro r w2 ⟨v2, rfl, ho2, hb2⟩
      rw [List.length_reverse] at ho2
      have HO2 := show Hid _ from ho2
      have HA2 : Hid (At w2 w.heap.size a.size (fA a i) ∧ Below w.heap.size w w2 ∧ w.heap.size < wr.heap.size ∧ wr.heap.size ≤ w1.heap.size ∧ Below w1.heap.size w1 w2) := ⟨HA1.out.1.below hb2, HA1.out.2.1.trans (hb2.mono HA1.out.2.1.size), HA1.out.2.2.1, HA1.out.2.2.2, hb2⟩
      clear HN1 HA1 hb2
      obtain ⟨bo, bc, rfl⟩ := own_form ho2
      clear ho2
      obtain ⟨hq0, hq1, hq2⟩ := HPe.out w2 HA2.out.2.1
      have HQ0 := show Hid _ from hq0
      have HQ1 := show Hid _ from hq1
      have HQ2 := show Hid _ from hq2
      clear hq0 hq1 hq2 HPe
      go_wp2_with fail
      refine Calls.mono HQ2.out ?_
      rintro r w3 ⟨rfl, rfl⟩
      go_wp2_with fail
      refine Calls.mono HQ0.out ?_
      rintro r w3 ⟨rfl, rfl⟩
      go_wp2_with fail
      refine Calls.mono HQ1.out ?_
      rintro r w3 ⟨rfl, rfl⟩
      clear HQ0 HQ1 HQ2
      by_cases hl0 : (a.L i).length = 0
      · have hnil : a.L i = [] := List.length_eq_zero_iff.1 hl0
        rw [hnil]
        simp only [List.head?_nil, List.getLast?_nil, Option.getD_none, Option.isSome_none, List.length_nil]
        have HF : Hid (fA a i = fA a (i + 1)) := by
          obtain ⟨c, hc⟩ := HIv.out
          have := fB_full hc hi
          rw [hnil] at this
          rw [← this]
          exact (fB_zero a i).symm
        have HL0 : Hid (tl a.L (i + 1) = t0) := by have := HTi.out.1; rw [hnil] at this; exact this
        clear hnil hl0 hlen HO1 HO2 HTi HIv
        go_wp2_with fail
        go_loopg [16] 0 (fun r vk wr' => r = 0 ∧ vk = I 0 ∧ wr' = w3)
        case atStart => exact ⟨rfl, rfl, rfl⟩
        case round =>
          obtain ⟨_, rfl, rfl⟩ := hrel
          go_wp2_with fail
          go_roundg (a.nl - (i + 1))
          case measure => have := HR.out; omega
          case rel => exact ⟨i + 1, by omega, by rw [HL0.out], by go_num, by rw [← HF.out]; exact HA2.out.1, HA2.out.2.1⟩
      · have hpos : 0 < (a.L i).length := by omega
        obtain ⟨b1, k1, e1, hb1, hR1⟩ := Rd.of HO1.out rfl hpos
        obtain ⟨b2, k2, e2, hb2, hR2⟩ := Rd.of HO2.out (by simp) (by simpa using hpos)
        cases e1
        cases e2
        have HRd : Hid (Rd w3 b1 (a.L i) ∧ Rd w3 b2 (a.L i).reverse ∧ b1 ≠ w.heap.size ∧ b2 ≠ w.heap.size) := ⟨hR1.below HA2.out.2.2.2.2, hR2, by have := HA2.out.2.2.1; omega, by have := HA2.out.2.2.1; have := HA2.out.2.2.2.1; omega⟩
        obtain ⟨x0, hx0⟩ : ∃ x, (a.L i)[0]? = some x := ⟨_, List.getElem?_eq_getElem hpos⟩
        obtain ⟨xl, hxl⟩ : ∃ x, (a.L i)[(a.L i).length - 1]? = some x := ⟨_, List.getElem?_eq_getElem (by omega)⟩
        have hh0 : (a.L i).head? = some x0 := by rw [List.head?_eq_getElem?]; exact hx0
        have hhl : (a.L i).getLast? = some xl := by rw [List.getLast?_eq_getElem?]; exact hxl
        rw [hh0, hhl]
        simp only [Option.getD_some, Option.isSome_some]
        have cx0 := HRd.out.1.at_ 0 x0 hx0
        have cxl := HRd.out.1.at_ _ xl hxl
        have hl2 : (0 : Int) < ((a.L i).length : Int) := by omega
        clear hl0 HO1 HO2 hb1 hb2 hR1 hR2 hx0 hxl hh0 hhl
        go_wp2_with fail
        clear cx0 cxl
        go_loopg [16] (a.L i).length (fun r vk wr' => ∃ k, k + r = (a.L i).length ∧ vk = I (k : Nat) ∧ At wr' w.heap.size a.size (fB a i k) ∧ Below w.heap.size w wr' ∧ Rd wr' b1 (a.L i) ∧ Rd wr' b2 (a.L i).reverse)
        case atStart => exact ⟨0, by omega, rfl, by rw [fB_zero]; exact HA2.out.1, HA2.out.2.1, HRd.out.1, HRd.out.2.1⟩
        case round =>
          obtain ⟨k, hkr, rfl, hAt, hBe, hR1, hR2⟩ := hrel
          have HSt := show Hid _ from And.intro hAt (And.intro hBe (And.intro hR1 (And.intro hR2 hkr)))
          clear hAt hBe hR1 hR2 hkr
          by_cases hk : k < (a.L i).length
          · obtain ⟨x, hx⟩ : ∃ x, (a.L i)[k]? = some x := ⟨_, List.getElem?_eq_getElem hk⟩
            obtain ⟨c, hc⟩ := HIv.out
            obtain ⟨f1, f2, f3, f4, f5⟩ := at_k hc hi hx
            obtain ⟨g1, g2⟩ := fB_at hc hi hx
            have HF2 : Hid (fB a i (k + 1) = up (fB a i k) x ((i : Int) + 1)) := g2
            have cx := HSt.out.2.2.1.at_ k x hx
            have cm := HSt.out.2.2.2.1.at_ _ x f5
            obtain ⟨ca, cf⟩ := HSt.out.1.cell f4
            rw [g1] at ca
            have hk1 : (k : Int) < ((a.L i).length : Int) := by omega
            have em : (((a.L i).length : Int) - 1 - (k : Int)).toNat = (a.L i).length - 1 - k := by omega
            have cm' := cm
            rw [← em] at cm'
            have hx1 : (x : Int) < (a.size : Int) := by omega
            have q1 : decide ((x : Int) < 0) = false := by simp
            have q2 : decide ((a.size : Int) ≤ (x : Int)) = false := by simp; omega
            have HFx : Hid (a.list (x : Int) = some i ∧ a.next (x : Int) 1 = (a.L i)[k + 1]? ∧ a.next (x : Int) 0 = (if k = 0 then none else (a.L i)[k - 1]?)) := ⟨f1, f2, f3⟩
            clear hx f1 f2 f3 f4 f5 g1 g2 em hc
            go_upto_region 21 with fail
            have HSt2 : Hid (At (wr.setCell ⟨w.heap.size, x, none⟩ (I ((i : Int) + 1))) w.heap.size a.size (fB a i (k + 1)) ∧ Below w.heap.size w (wr.setCell ⟨w.heap.size, x, none⟩ (I ((i : Int) + 1))) ∧ Rd (wr.setCell ⟨w.heap.size, x, none⟩ (I ((i : Int) + 1))) b1 (a.L i) ∧ Rd (wr.setCell ⟨w.heap.size, x, none⟩ (I ((i : Int) + 1))) b2 (a.L i).reverse ∧ k + gk = (a.L i).length) := by
              refine ⟨?_, HSt.out.2.1.setCell (Nat.le_refl _) _, HSt.out.2.2.1.set HRd.out.2.2.1, HSt.out.2.2.2.1.set HRd.out.2.2.2, HSt.out.2.2.2.2⟩
              rw [HF2.out]
              exact HSt.out.1.put x _
            generalize wr.setCell ⟨w.heap.size, x, none⟩ (I ((i : Int) + 1)) = w5 at *
            clear cx cm cm' ca cf q1 q2 HSt HF2
            have HI5 : Hid (IsAr w5 g o a) := HX.out.below HSt2.out.2.1
            have HLi := show Hid _ from list_any HI5.out x
            have HN1 := show Hid _ from next_any HI5.out x 1
            have HN0 := show Hid _ from next_any HI5.out x 0
            rw [HFx.out.1] at HLi
            rw [HFx.out.2.1] at HN1
            rw [HFx.out.2.2] at HN0
            simp only [Option.getD_some, Option.isSome_some] at HLi
            go_wp2_with fail
            refine Calls.mono HLi.out ?_
            rintro r w6 ⟨rfl, rfl⟩
            go_wp2_with fail
            refine Calls.mono HN1.out ?_
            rintro r w6 ⟨rfl, rfl⟩
            go_wp2_with fail
            refine Calls.mono HN0.out ?_
            rintro r w6 ⟨rfl, rfl⟩
            clear HLi HN1 HN0 HFx
            by_cases hn : k + 1 < (a.L i).length
            · obtain ⟨y, hy⟩ : ∃ y, (a.L i)[k + 1]? = some y := ⟨_, List.getElem?_eq_getElem hn⟩
              have cy := HSt2.out.2.2.1.at_ _ y hy
              have qn : decide ((k : Int) < ((a.L i).length : Int) - 1) = true := by simp; omega
              have hn1 : (k : Int) + 1 < ((a.L i).length : Int) := by omega
              rw [hy]
              clear hy
              by_cases h0 : k = 0
              · rw [if_pos h0]
                simp only [Option.getD_some, Option.isSome_some, Option.getD_none, Option.isSome_none]
                subst h0
                rw [Nat.zero_add] at cy
                have qn' : decide ((0 : Int) < ((a.L i).length : Int) - 1) = true := by simp; omega
                have hn1' : (1 : Int) < ((a.L i).length : Int) := by omega
                clear qn hn1
                simp only [Int.natCast_zero]
                go_wp2_with fail
                go_roundg ((a.L i).length - 1)
                case measure => have := HSt2.out.2.2.2.2; omega
                case rel => exact ⟨1, by have := HSt2.out.2.2.2.2; omega, by first | rfl | go_num, HSt2.out.1, HSt2.out.2.1, HSt2.out.2.2.1, HSt2.out.2.2.2.1⟩
              · obtain ⟨z, hz⟩ : ∃ z, (a.L i)[k - 1]? = some z := ⟨_, List.getElem?_eq_getElem (by omega)⟩
                have cz := HSt2.out.2.2.1.at_ _ z hz
                have q0 : decide ((0 : Int) < (k : Int)) = true := by simp; omega
                have hk0 : (1 : Int) ≤ (k : Int) := by omega
                rw [if_neg h0, hz]
                simp only [Option.getD_some, Option.isSome_some]
                clear h0 hz
                go_wp2_with fail
                go_roundg ((a.L i).length - (k + 1))
                case measure => have := HSt2.out.2.2.2.2; omega
                case rel => exact ⟨k + 1, by have := HSt2.out.2.2.2.2; omega, by go_num, HSt2.out.1, HSt2.out.2.1, HSt2.out.2.2.1, HSt2.out.2.2.2.1⟩
            · have hy : (a.L i)[k + 1]? = none := List.getElem?_eq_none (by omega)
              have qn : decide ((k : Int) < ((a.L i).length : Int) - 1) = false := by simp; omega
              rw [hy]
              clear hy
              by_cases h0 : k = 0
              · rw [if_pos h0]
                simp only [Option.getD_none, Option.isSome_none]
                subst h0
                have qn' : decide ((0 : Int) < ((a.L i).length : Int) - 1) = false := by simp; omega
                clear qn
                simp only [Int.natCast_zero]
                go_wp2_with fail
                go_roundg ((a.L i).length - 1)
                case measure => have := HSt2.out.2.2.2.2; omega
                case rel => exact ⟨1, by have := HSt2.out.2.2.2.2; omega, by first | rfl | go_num, HSt2.out.1, HSt2.out.2.1, HSt2.out.2.2.1, HSt2.out.2.2.2.1⟩
              · obtain ⟨z, hz⟩ : ∃ z, (a.L i)[k - 1]? = some z := ⟨_, List.getElem?_eq_getElem (by omega)⟩
                have cz := HSt2.out.2.2.1.at_ _ z hz
                have q0 : decide ((0 : Int) < (k : Int)) = true := by simp; omega
                have hk0 : (1 : Int) ≤ (k : Int) := by omega
                rw [if_neg h0, hz]
                simp only [Option.getD_some, Option.isSome_some, Option.getD_none, Option.isSome_none]
                clear h0 hz
                go_wp2_with fail
                go_roundg ((a.L i).length - (k + 1))
                case measure => have := HSt2.out.2.2.2.2; omega
                case rel => exact ⟨k + 1, by have := HSt2.out.2.2.2.2; omega, by go_num, HSt2.out.1, HSt2.out.2.1, HSt2.out.2.2.1, HSt2.out.2.2.2.1⟩
          · have hke : k = (a.L i).length := by have := HSt.out.2.2.2.2; omega
            subst hke
            have HF : Hid (fB a i (a.L i).length = fA a (i + 1)) := by
              obtain ⟨c, hc⟩ := HIv.out
              exact fB_full hc hi
            go_wp2_with fail
            go_roundg (a.nl - (i + 1))
            case measure => have := HR.out; omega
            case rel => exact ⟨i + 1, by omega, by rw [HTi.out.1]; go_num, by go_num, by rw [← HF.out]; exact HSt.out.1, HSt.out.2.1⟩
    · have hie : i = a.nl := by have := HR.out; omega
      subst hie
      clear hi HR
      have HI : Hid (IsAr wr g o a) := HX.out.below HA.out.2
      obtain ⟨t0, ht0⟩ : ∃ t, t = tl a.L a.nl := ⟨_, rfl⟩
      rw [← ht0]
      have HT : Hid (t0 = tl a.L a.nl) := ht0
      clear ht0
      go_wp2_with fail
      go_loopg [24] a.size (fun r vx wr' => ∃ x, x + r = a.size ∧ vx = I (x : Nat) ∧ wr' = wr)
      case atStart => exact ⟨0, by omega, rfl, rfl⟩
      case round =>
        obtain ⟨x, hxr, rfl, rfl⟩ := hrel
        by_cases hx : x < a.size
        · have HLi := show Hid _ from list_any HI.out x
          have HGe := show Hid _ from get_any HI.out x
          obtain ⟨ca, _⟩ := HA.out.1.cell hx
          have hfa := fA_full a x
          have hx1 : (x : Int) < (a.size : Int) := by omega
          have hli : (a.list x).isSome = (a.wh x).isSome := by unfold As.list; rw [if_pos (by omega), Int.toNat_natCast]
          have hge : ((a.get x).2 == 0) = (a.wh x).isSome := by
            unfold As.get As.bad
            rw [Int.toNat_natCast, if_pos (⟨by omega, by omega⟩ : (0 : Int) ≤ x ∧ (x : Int) < a.size)]
            cases (a.wh x).isSome <;> simp
          rw [hli] at HLi
          generalize (a.wh x).isSome = bo at *
          generalize (a.get x).2 = ge at *
          generalize (a.get x).1 = gv at *
          generalize (a.list x).getD 0 = lv at *
          generalize fA a a.nl x = fx at *
          clear hli
          go_wp2_with fail
          refine Calls.mono HLi.out ?_
          rintro r w1 ⟨rfl, rfl⟩
          go_wp2_with fail
          refine Calls.mono HGe.out ?_
          rintro r w1 ⟨rfl, rfl⟩
          cases bo
          · go_wp2
            go_roundg (a.size - (x + 1))
            case measure => omega
            case rel => exact ⟨x + 1, by omega, by go_num, rfl⟩
          · go_wp2
            go_roundg (a.size - (x + 1))
            case measure => omega
            case rel => exact ⟨x + 1, by omega, by go_num, rfl⟩
        · have hxe : x = a.size := by omega
          subst hxe
          have HFr := show Hid _ from free_any HI.out
          have hs : (t0 : Int) + (a.free : Int) = (a.size : Int) := by
            obtain ⟨c, _, hi2⟩ := HI.out
            have := hi2.sum
            have := HT.out
            omega
          have hb0 : (0 : Int) ≤ (t0 : Int) := by omega
          have hb1 : (0 : Int) ≤ (a.free : Int) := by omega
          have hb2 : (t0 : Int) ≤ 4194304 := by omega
          have hb3 : (a.free : Int) ≤ 4194304 := by omega
          go_wp2_with fail
          refine Calls.mono HFr.out ?_
          rintro r w1 ⟨rfl, rfl⟩
          go_wp2
          go_ret
          exact ⟨by simp, HA.out.2⟩
end Go.Proofs.Ytoeioppmlnognaa.Ar
