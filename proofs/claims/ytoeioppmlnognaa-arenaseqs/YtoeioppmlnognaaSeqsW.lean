import Derived.Test.YtoeioppmlnognaaSeqsN
import Derived.Test.YtoeioppmlnognaaArWhole
import Derived.Test.YtoeioppmlnognaaArOpen
import Derived.Sort.CutIn
import Derived.Stop.RegionWithIn
import Derived.Laws.EntriesVeiled
namespace Go.Proofs.Ytoeioppmlnognaa.arenaSeqs
open Go.RowKit Go.Shelf Go.Proofs.Ytoeioppmlnognaa.Ar

attribute [local go_sem] Oper.semAt_some

set_option maxHeartbeats 25600000 in
set_option maxRecDepth 100000 in
theorem walk_ok (n l : Nat) (ao : Option Addr) (s : List St) (cap : Nat) (mo : Option Addr) (m : List St) (capm : Nat) (stop : Int) (w : World) (h : okA n l) (h2 : (n : Int) ≤ 2000) (hl0 : 0 < l) (hs : IsSt w ao s) (hlen : s.length ≤ 4398046510976) (hm : IsSt w mo m) (hlenm : m.length ≤ 4398046510976) :
    Calls Try.prog 6 #[I n, I l, .slice ao s.length cap, .slice mo m.length capm, I stop] w fun e w' => e = .returned (.bool true) ∧ Below w.heap.size w w' := by
  have HS : Hid (IsSt w ao s) := hs
  have HMr : Hid (IsSt w mo m) := hm
  have HO : Hid (okA n l ∧ (n : Int) ≤ 2000 ∧ 0 < l) := ⟨h, h2, hl0⟩
  have hls : (s.length : Int) ≤ 4398046510976 := by omega
  have hlm : (m.length : Int) ≤ 4398046510976 := by omega
  have hl1 : ((l : Int) == 0) = false := by simp; omega
  have hnil : ∀ (cp : Array Value) (u : World), (binOp BinOp.eql 57 (.func (.func 59) #[] cp) .nilFunc).run Try.prog u = .ok (.bool false) u := fun _ _ => rfl
  have hmix : Try.prog.follows .mixedOrders = true := by kernel_rfl
  clear hs h h2 hl0 hlen hm hlenm
  refine (callsIn_wide (n := 9)).1 ?_
  refine callsIn_of_wp_marks Try.func6 rfl trivial ?_ rfl
  simp only [Try.ntmps6, List.size_toArray, List.length_cons, List.length_nil, Nat.reduceAdd, Nat.reduceSub, Array.replicate_succ, Array.replicate_zero, List.push_toArray, List.append_toArray, List.nil_append, List.cons_append]
  gi_wp2
  refine ⟨trivial, (callsIn_wide.2 (known_any _)).mono ?_⟩
  rintro e w1 ⟨rfl, hB1⟩
  have hz1 : w.heap.size + 3 ≤ w1.heap.size := by have := hB1.size; simpa using this
  have q8 : w1.heap[w.heap.size]? = some (.cells #[.slice mo m.length capm] 22 (0, 0)) := (hB1.block _ (by simp; omega)).trans ((Below.heap_alloc _ _ _ (by simp; omega)).trans ((Below.heap_alloc _ _ _ (by simp)).trans (heap_alloc_new w _)))
  have q9 : w1.heap[w.heap.size + 1]? = some (.cells #[I stop] 3 (0, 0)) := (hB1.block _ (by simp)).trans ((Below.heap_alloc _ _ _ (by simp)).trans (by have := heap_alloc_new (w.alloc (.cells #[.slice mo m.length capm] 22)) (.cells #[I stop] 3); rw [World.size_alloc] at this; exact this))
  have q10 : w1.heap[w.heap.size + 2]? = some (.cells #[.bool false] 4 (0, 0)) := (hB1.block _ (by simp)).trans (by have := heap_alloc_new ((w.alloc (.cells #[.slice mo m.length capm] 22)).alloc (.cells #[I stop] 3)) (.cells #[.bool false] 4); rw [World.size_alloc, World.size_alloc] at this; exact this)
  have HQ : Hid (w1.heap[w.heap.size]? = some (.cells #[.slice mo m.length capm] 22 (0, 0)) ∧ w1.heap[w.heap.size + 1]? = some (.cells #[I stop] 3 (0, 0)) ∧ w1.heap[w.heap.size + 2]? = some (.cells #[.bool false] 4 (0, 0)) ∧ w.heap.size + 3 ≤ w1.heap.size ∧ Below w.heap.size w w1) := ⟨q8, q9, q10, hz1, ((((Below.refl _ w).alloc (Nat.le_refl _) _).alloc (by simp) _).alloc (by simp; omega) _).trans (hB1.mono (by simp; omega))⟩
  clear hB1 hz1 q8 q9 q10
  gi_wp2
  refine ⟨trivial, (callsIn_wide.2 (open_ok w1 n l HO.out.1 HO.out.2.1)).mono ?_⟩
  rintro e w2 ⟨g, rfl, hBo⟩
  rw [Int.toNat_natCast, Int.toNat_natCast] at hBo
  obtain ⟨o, hMine⟩ := hBo.mine
  have HA3 : Hid (Arx [w2.heap.size] w1.heap.size w1 (w2.alloc (.cells #[.pointer (some ⟨g, 0, none⟩)] 34)) g (As.new n l) ∧ (w2.alloc (.cells #[.pointer (some ⟨g, 0, none⟩)] 34)).cell? ⟨w2.heap.size, 0, none⟩ = some (.pointer (some ⟨g, 0, none⟩))) := by
    have h0 : Arx [] w1.heap.size w1 w2 g (As.new n l) := ⟨o, hMine, fun _ _ hm => (by cases hm), fun _ hm => (by cases hm)⟩
    refine ⟨h0.more (S := [w2.heap.size]) ((Below.refl _ w2).alloc (Nat.le_refl _) _) (fun k hk => ?_), by rw [World.cell?, heap_alloc_new]; rfl⟩
    have : k = w2.heap.size := by simpa using hk
    subst this
    exact ⟨Nat.le_refl _, _, _, _, heap_alloc_new w2 _⟩
  have c11 := HA3.out.2
  clear hBo hMine
  gi_upto_region 6 with fail
  generalize w2.alloc (.cells #[.pointer (some ⟨g, 0, none⟩)] 34) = w3 at *
  iterate 7 gi_step
  gi_cut [12] from 43 (fun _ wx => ∃ a, Arx [w2.heap.size] w1.heap.size w1 wx g a ∧ a.size = n ∧ a.nl = l ∧ wx.cell? ⟨w2.heap.size, 0, none⟩ = some (.pointer (some ⟨g, 0, none⟩)))
  case first =>
    refine wpIn_mono (Q := Exit.then _ (fun _ _ _ => False)) ?_ (fun e _ _ hq => by
      cases e with
      | normal => exact hq
      | _ => exact hq.elim)
    gi_wp2
    gi_loopg [12] (min s.length 200) (fun r vi wr => ∃ (i : Nat) (a : As), i + r = min s.length 200 ∧ vi = I i ∧ Arx [w2.heap.size] w1.heap.size w1 wr g a ∧ a.size = n ∧ a.nl = l ∧ wr.cell? ⟨w2.heap.size, 0, none⟩ = some (.pointer (some ⟨g, 0, none⟩)))
    case atStart => exact ⟨0, _, by omega, rfl, HA3.out.1, rfl, rfl, HA3.out.2⟩
    case round =>
      obtain ⟨i, a, hir, rfl, hA, hz1, hz2, hc11⟩ := hrel
      have HA : Hid (Arx [w2.heap.size] w1.heap.size w1 wr g a ∧ a.size = n ∧ a.nl = l ∧ wr.cell? ⟨w2.heap.size, 0, none⟩ = some (.pointer (some ⟨g, 0, none⟩)) ∧ i + gk = min s.length 200) := ⟨hA, hz1, hz2, hc11, hir⟩
      clear HA3 c11 hz1 hz2 hir
      by_cases h1 : i < s.length
      · have h1' : (i : Int) < (s.length : Int) := by omega
        by_cases h2 : i < 200
        · have h2' : (i : Int) < 200 := by omega
          obtain ⟨st, hst⟩ : ∃ st, s[i]? = some st := ⟨_, List.getElem?_eq_getElem h1⟩
          have hW1 : Below w.heap.size w wr := HQ.out.2.2.2.2.trans (hA.be.mono HQ.out.2.2.2.2.size)
          obtain ⟨b, off, e0, _, c0, c1, c2, c3⟩ := (HS.out.below hW1 (Nat.le_refl _)) i st hst
          obtain ⟨o1, har, hstep⟩ := (hA.below ((Below.refl _ wr).drew)).step
          have HD := show Hid _ from do_any har st.k st.a st.b st.c
          have HStep := show Hid _ from hstep
          subst e0
          clear hst hW1 har hstep hA
          gi_wp2
          gi_region_with_o (refine ⟨trivial, (callsIn_wide.2 HD.out).mono ?_⟩; rintro r w4 ⟨rfl, hG⟩)
          all_goals
            obtain ⟨hn1, hn2⟩ := a.act_nl st.k st.a st.b st.c
            obtain ⟨k1, k2, _⟩ := HStep.out _ _ hG hn1
            have HA4 : Hid (Arx [w2.heap.size] w1.heap.size w1 w4 g (a.act st.k st.a st.b st.c) ∧ w4.cell? ⟨w2.heap.size, 0, none⟩ = some (.pointer (some ⟨g, 0, none⟩))) := ⟨k1, (World.cell?_of_block (a := ⟨w2.heap.size, 0, none⟩) (k2.2 _ (by simp))).trans HA.out.2.2.2.1⟩
            clear k1 k2 hG HD HStep c0 c1 c2 c3 hc11
            gi_wp2
            gi_roundg (min s.length 200 - (i + 1))
            case measure => have := HA.out.2.2.2.2; omega
            case rel => exact ⟨i + 1, _, by omega, by go_num, HA4.out.1, hn2.trans HA.out.2.1, hn1.trans HA.out.2.2.1, HA4.out.2⟩
        · have h2' : decide ((i : Int) < 200) = false := by simp; omega
          gi_wp2
          gi_meet
          case rel => exact ⟨a, HA.out.1, HA.out.2.1, HA.out.2.2.1, HA.out.2.2.2.1⟩
      · have h1' : decide ((i : Int) < (s.length : Int)) = false := by simp; omega
        gi_wp2
        gi_meet
        case rel => exact ⟨a, HA.out.1, HA.out.2.1, HA.out.2.2.1, HA.out.2.2.2.1⟩
  case rest =>
    obtain ⟨a, hA, hz1, hz2, hc11⟩ := hcut
    have hWc : Below w.heap.size w wc := HQ.out.2.2.2.2.trans (hA.be.mono HQ.out.2.2.2.2.size)
    have c9 : wc.cell? ⟨w.heap.size + 1, 0, none⟩ = some (I stop) := by rw [World.cell?, hA.be.block (w.heap.size + 1) (by have := HQ.out.2.2.2.1; omega), HQ.out.2.1]; rfl
    have HA : Hid (Arx [w2.heap.size] w1.heap.size w1 wc g a ∧ a.size = n ∧ a.nl = l) := ⟨hA, hz1, hz2⟩
    clear HA3 c11 hA hz1 hz2 hWc
    gi_wp2
    refine ⟨trivial, (callsIn_wide.2 (round_any stop l HO.out.2.2 (by have := HO.out.1.2.2; omega) wc)).mono ?_⟩
    rintro r w4 ⟨one, hone, rfl, rfl⟩
    gi_wp2
    refine ⟨trivial, (callsIn_wide.2 (round_any _ l HO.out.2.2 (by have := HO.out.1.2.2; omega) _)).mono ?_⟩
    rintro r w5 ⟨two, htwo, rfl, rfl⟩
    -- the sequences, what they tell now, the counter
    obtain ⟨o5, har5, _⟩ := HA.out.1.step
    have H11 : Hid (∀ u, Below w5.heap.size w5 u → u.cell? ⟨w2.heap.size, 0, none⟩ = some (.pointer (some ⟨g, 0, none⟩))) := fun u hu => (World.cell?_of_block (a := ⟨w2.heap.size, 0, none⟩) (hu.block _ (HA.out.1.lt _ (by simp)))).trans hc11
    have HAr : Hid (IsAr w5 g o5 a) := har5
    clear har5 c9
    gi_wp2
    refine ⟨trivial, (callsIn_wide.2 (all_cells HAr.out one 0)).mono ?_⟩
    rintro r w6 ⟨q1, rfl, hq1, hS1, hb6⟩
    simp only [clo]
    obtain ⟨z7, b7, n7⟩ := alloc_facts w6 #[.func (.func 59) #[] #[.pointer (some ⟨q1.A, 0, none⟩), .pointer (some ⟨q1.B, 0, none⟩)]] 57
    have hB7 := hb6.trans (b7.mono hb6.size)
    have HAr7 : Hid (IsAr (w6.alloc (.cells #[.func (.func 59) #[] #[.pointer (some ⟨q1.A, 0, none⟩), .pointer (some ⟨q1.B, 0, none⟩)]] 57)) g o5 a) := HAr.out.below hB7
    have c11_7 := H11.out _ hB7
    have HF7 : Hid (Sq w6 q1 ((a.seq one 0).map fun x => (x, a.val x)) ∧ (∀ k ∈ q1.S, w5.heap.size ≤ k ∧ ∃ cs T f, w6.heap[k]? = some (.cells cs T f)) ∧ Below w5.heap.size w5 w6) := ⟨hq1, hS1, hb6⟩
    have HN7 : Hid ((w6.alloc (.cells #[.func (.func 59) #[] #[.pointer (some ⟨q1.A, 0, none⟩), .pointer (some ⟨q1.B, 0, none⟩)]] 57)).heap.size = w6.heap.size + 1 ∧ Below w6.heap.size w6 (w6.alloc (.cells #[.func (.func 59) #[] #[.pointer (some ⟨q1.A, 0, none⟩), .pointer (some ⟨q1.B, 0, none⟩)]] 57)) ∧ (w6.alloc (.cells #[.func (.func 59) #[] #[.pointer (some ⟨q1.A, 0, none⟩), .pointer (some ⟨q1.B, 0, none⟩)]] 57)).heap[w6.heap.size]? = some (.cells #[.func (.func 59) #[] #[.pointer (some ⟨q1.A, 0, none⟩), .pointer (some ⟨q1.B, 0, none⟩)]] 57 (0, 0)) ∧ Below w5.heap.size w5 (w6.alloc (.cells #[.func (.func 59) #[] #[.pointer (some ⟨q1.A, 0, none⟩), .pointer (some ⟨q1.B, 0, none⟩)]] 57))) := ⟨z7, b7, n7, hB7⟩
    clear hq1 hS1 hb6 z7 b7 n7 hB7 hc11
    gi_wp2
    generalize w6.alloc (.cells #[.func (.func 59) #[] #[.pointer (some ⟨q1.A, 0, none⟩), .pointer (some ⟨q1.B, 0, none⟩)]] 57) = w7 at *
    refine ⟨trivial, (callsIn_wide.2 (all_cells HAr7.out two 1)).mono ?_⟩
    rintro r w8 ⟨q2, rfl, hq2, hS2, hb8⟩
    simp only [clo]
    obtain ⟨z9, b9, n9⟩ := alloc_facts w8 #[.func (.func 59) #[] #[.pointer (some ⟨q2.A, 0, none⟩), .pointer (some ⟨q2.B, 0, none⟩)]] 57
    have hB8 := HN7.out.2.2.2.trans (hb8.mono HN7.out.2.2.2.size)
    have hB9 := hB8.trans (b9.mono hB8.size)
    have HAr9 : Hid (IsAr (w8.alloc (.cells #[.func (.func 59) #[] #[.pointer (some ⟨q2.A, 0, none⟩), .pointer (some ⟨q2.B, 0, none⟩)]] 57)) g o5 a) := HAr.out.below hB9
    have c11_9 := H11.out _ hB9
    have n15 : (w8.alloc (.cells #[.func (.func 59) #[] #[.pointer (some ⟨q2.A, 0, none⟩), .pointer (some ⟨q2.B, 0, none⟩)]] 57)).heap[w6.heap.size]? = some (.cells #[.func (.func 59) #[] #[.pointer (some ⟨q1.A, 0, none⟩), .pointer (some ⟨q1.B, 0, none⟩)]] 57 (0, 0)) := (b9.block _ (by have := hb8.size; have := HN7.out.1; omega)).trans ((hb8.block _ (by have := HN7.out.1; omega)).trans HN7.out.2.2.1)
    obtain ⟨c15, _⟩ := box_cell n15
    obtain ⟨c16, _⟩ := box_cell n9
    have HF9 : Hid (Sq w8 q2 ((a.seq two 1).map fun x => (x, a.val x)) ∧ (∀ k ∈ q2.S, w7.heap.size ≤ k ∧ ∃ cs T f, w8.heap[k]? = some (.cells cs T f)) ∧ Below w7.heap.size w7 w8) := ⟨hq2, hS2, hb8⟩
    have HN9 : Hid ((w8.alloc (.cells #[.func (.func 59) #[] #[.pointer (some ⟨q2.A, 0, none⟩), .pointer (some ⟨q2.B, 0, none⟩)]] 57)).heap.size = w8.heap.size + 1 ∧ Below w8.heap.size w8 (w8.alloc (.cells #[.func (.func 59) #[] #[.pointer (some ⟨q2.A, 0, none⟩), .pointer (some ⟨q2.B, 0, none⟩)]] 57)) ∧ (w8.alloc (.cells #[.func (.func 59) #[] #[.pointer (some ⟨q2.A, 0, none⟩), .pointer (some ⟨q2.B, 0, none⟩)]] 57)).heap[w8.heap.size]? = some (.cells #[.func (.func 59) #[] #[.pointer (some ⟨q2.A, 0, none⟩), .pointer (some ⟨q2.B, 0, none⟩)]] 57 (0, 0)) ∧ Below w5.heap.size w5 (w8.alloc (.cells #[.func (.func 59) #[] #[.pointer (some ⟨q2.A, 0, none⟩), .pointer (some ⟨q2.B, 0, none⟩)]] 57))) := ⟨z9, b9, n9, hB9⟩
    clear hq2 hS2 hb8 z9 b9 n9 hB8 hB9 n15 c11_7 HAr7
    gi_wp2
    generalize w8.alloc (.cells #[.func (.func 59) #[] #[.pointer (some ⟨q2.A, 0, none⟩), .pointer (some ⟨q2.B, 0, none⟩)]] 57) = w9 at *
    refine ⟨trivial, (callsIn_wide.2 (listed_any HAr9.out one 0)).mono ?_⟩
    rintro r w10 ⟨v17, rfl, ho17, hb10⟩
    rw [show 2 * (a.seq one 0).length = 2 * ((a.seq one 0).map fun x => (x, a.val x)).length by rw [List.length_map]] at ho17
    obtain ⟨o17, c17, r1, rfl, hr1, hw1⟩ := listed_row ho17 w10.heap.size
    generalize hd1 : ((a.seq one 0).map fun x => (x, a.val x)) = d1 at *
    clear ho17 hd1
    obtain ⟨z11, b11, n11⟩ := alloc_facts w10 #[.slice o17 (2 * d1.length) c17] 31
    have hB10 := HN9.out.2.2.2.trans (hb10.mono HN9.out.2.2.2.size)
    have hB11 := hB10.trans (b11.mono hB10.size)
    have HAr11 : Hid (IsAr (w10.alloc (.cells #[.slice o17 (2 * d1.length) c17] 31)) g o5 a) := HAr.out.below hB11
    have c11_11 := H11.out _ hB11
    have HF11 : Hid ((r1 = w10.heap.size ∨ (w9.heap.size ≤ r1 ∧ ∃ cs T f, w10.heap[r1]? = some (.cells cs T f))) ∧ (∀ (j : Nat) (x : Nat × Int), d1[j]? = some x → o17 = some ⟨r1, 0, none⟩ ∧ w10.cell? ⟨r1, 2 * j, none⟩ = some (I (x.1 : Nat)) ∧ w10.cell? ⟨r1, 2 * j + 1, none⟩ = some (I x.2)) ∧ Below w9.heap.size w9 w10) := ⟨hr1, hw1, hb10⟩
    have HN11 : Hid ((w10.alloc (.cells #[.slice o17 (2 * d1.length) c17] 31)).heap.size = w10.heap.size + 1 ∧ Below w10.heap.size w10 (w10.alloc (.cells #[.slice o17 (2 * d1.length) c17] 31)) ∧ (w10.alloc (.cells #[.slice o17 (2 * d1.length) c17] 31)).heap[w10.heap.size]? = some (.cells #[.slice o17 (2 * d1.length) c17] 31 (0, 0)) ∧ Below w5.heap.size w5 (w10.alloc (.cells #[.slice o17 (2 * d1.length) c17] 31))) := ⟨z11, b11, n11, hB11⟩
    clear hr1 hw1 hb10 z11 b11 n11 hB10 hB11 c11_9 c15 c16 HAr9
    gi_wp2
    generalize w10.alloc (.cells #[.slice o17 (2 * d1.length) c17] 31) = w11 at *
    refine ⟨trivial, (callsIn_wide.2 (listed_any HAr11.out two 1)).mono ?_⟩
    rintro r w12 ⟨v18, rfl, ho18, hb12⟩
    rw [show 2 * (a.seq two 1).length = 2 * ((a.seq two 1).map fun x => (x, a.val x)).length by rw [List.length_map]] at ho18
    obtain ⟨o18, c18, r2, rfl, hr2, hw2⟩ := listed_row ho18 w12.heap.size
    generalize hd2 : ((a.seq two 1).map fun x => (x, a.val x)) = d2 at *
    clear ho18 hd2
    obtain ⟨z13, b13, n13⟩ := alloc_facts w12 #[.slice o18 (2 * d2.length) c18] 31
    obtain ⟨z14, b14, n14⟩ := alloc_facts (w12.alloc (.cells #[.slice o18 (2 * d2.length) c18] 31)) #[I 0] 3
    have hB12 := HN11.out.2.2.2.trans (hb12.mono HN11.out.2.2.2.size)
    have HF13 : Hid ((r2 = w12.heap.size ∨ (w11.heap.size ≤ r2 ∧ ∃ cs T f, w12.heap[r2]? = some (.cells cs T f))) ∧ (∀ (j : Nat) (x : Nat × Int), d2[j]? = some x → o18 = some ⟨r2, 0, none⟩ ∧ w12.cell? ⟨r2, 2 * j, none⟩ = some (I (x.1 : Nat)) ∧ w12.cell? ⟨r2, 2 * j + 1, none⟩ = some (I x.2)) ∧ Below w11.heap.size w11 w12) := ⟨hr2, hw2, hb12⟩
    have HLive : Hid (Cx.Live ⟨g, n, l, w2.heap.size, w6.heap.size, w8.heap.size, w10.heap.size, w12.heap.size, w12.heap.size + 1, r1, r2, q1, q2, d1, d2, o17, o18, c17, c18⟩ w1.heap.size w1 [] 0 ((w12.alloc (.cells #[.slice o18 (2 * d2.length) c18] 31)).alloc (.cells #[I 0] 3))) := setup HA.out H11.out HF7.out ⟨HN7.out.1, HN7.out.2.1, HN7.out.2.2.1⟩ HF9.out ⟨HN9.out.1, HN9.out.2.1, HN9.out.2.2.1⟩ HF11.out ⟨HN11.out.1, HN11.out.2.1, HN11.out.2.2.1⟩ HF13.out
    have hz14 : ((w12.alloc (.cells #[.slice o18 (2 * d2.length) c18] 31)).alloc (.cells #[I 0] 3)).heap.size = w12.heap.size + 2 := by rw [z14, z13]
    have hx15 := HLive.out.1.x15
    clear hr2 hw2 hb12 z13 b13 n13 z14 b14 n14 hB12 c11_11 HAr11
    dsimp only [clo] at hx15
    gi_wp2
    generalize (w12.alloc (.cells #[.slice o18 (2 * d2.length) c18] 31)).alloc (.cells #[I 0] 3) = w14 at *
    obtain ⟨C, hC⟩ : ∃ C : Cx, C = ⟨g, n, l, w2.heap.size, w6.heap.size, w8.heap.size, w10.heap.size, w12.heap.size, w12.heap.size + 1, r1, r2, q1, q2, d1, d2, o17, o18, c17, c18⟩ := ⟨_, rfl⟩
    rw [← hC] at HLive
    have HLv : Hid (C.Live w1.heap.size w1 [] 0 w14) := HLive.out
    have e11 : w2.heap.size = C.b11 := by rw [hC]
    have e15 : w6.heap.size = C.b15 := by rw [hC]
    have e16 : w8.heap.size = C.b16 := by rw [hC]
    have e17 : w10.heap.size = C.b17 := by rw [hC]
    have e19 : w12.heap.size + 1 = C.b19 := by rw [hC]
    have e18 : w12.heap.size = C.b18 := by rw [hC]
    have eq1 : q1 = C.q1 := by rw [hC]
    have hCn : Hid (C.n = n ∧ C.l = l) := by rw [hC]; exact ⟨rfl, rfl⟩
    rw [e19, e11, e15, e16, e17, e18, eq1]
    clear e19 e11 e15 e16 e17 e18 eq1 hC HLive hx15 HF7 HN7 HF9 HN9 HF11 HN11 HF13 HAr H11 hone htwo HA hz14
    have H8 : Hid (∀ W, Below w1.heap.size w1 W → W.cell? ⟨w.heap.size, 0, none⟩ = some (.slice mo m.length capm) ∧ W.cell? ⟨w.heap.size + 1, 0, none⟩ = some (I stop) ∧ W.cell? ⟨w.heap.size + 1 + 1, 0, none⟩ = some (.bool false) ∧ W.frozen? ⟨w.heap.size + 1 + 1, 0, none⟩ = false ∧ IsSt W mo m) := fun W hW => by
      have hz := HQ.out.2.2.2.1
      obtain ⟨k8, _⟩ := box_cell ((hW.block w.heap.size (by omega)).trans HQ.out.1)
      obtain ⟨k9, _⟩ := box_cell ((hW.block (w.heap.size + 1) (by omega)).trans HQ.out.2.1)
      obtain ⟨k10, f10⟩ := box_cell ((hW.block (w.heap.size + 2) (by omega)).trans HQ.out.2.2.1)
      exact ⟨k8, k9, k10, f10, HMr.out.below (HQ.out.2.2.2.2.trans (hW.mono HQ.out.2.2.2.2.size)) (Nat.le_refl _)⟩
    have hn14 : w1.heap.size ≤ w14.heap.size := HLv.out.be.size
    refine rangeH rfl (by omega) (gf := 59) (lb := #[.pointer (some ⟨C.q1.A, 0, none⟩), .pointer (some ⟨C.q1.B, 0, none⟩)]) rfl trivial (enters_of Try.func59 (by kernel_rfl) rfl)
      (seq_stops Fence.wide 8 trivial rfl (by omega) C.q1 C.d1 w14 HLv.out.1.s1) (Kq.refl _) Kq.trans (Kq.put (fun k hk => HLv.out.1.s1.lt k hk)) (Below.refl _ _) (fun _ => rfl)
      (fun pre W => C.Live w1.heap.size w1 [] (2 * pre.length) W) (fun (cc : Code) (pre : List (Nat × Int)) (_ : World) => cc = Code.ret ∧ ∃ (ini : List (Nat × Int)) (last : Nat × Int), pre = ini ++ [last] ∧ C.d1[ini.length]? ≠ some last)
      (Cx.Live.from HLv.out.be.size (fun _ hD => (by cases hD)) (fun pre : List (Nat × Int) => 2 * pre.length)) (fun _ _ _ _ _ hs _ _ => hs) HLv.out ?HA1 ?doneA1 ?stopA1
    case HA1 =>
      apply Exists.intro
      refine ⟨?assignA1, ?bodyA1⟩
      case assignA1 =>
        intro l' x W K hK
        have HK := show Hid _ from hK
        clear hK
        gi_wp2
        exact HK.out
      case bodyA1 =>
        rintro l' pre ⟨x1, x2⟩ W hl hr hL hlt
        obtain ⟨⟨y1, y2⟩, hy⟩ : ∃ y, C.d1[pre.length]? = some y := ⟨_, List.getElem?_eq_getElem hlt⟩
        have hLv := hL
        obtain ⟨eo, k1, k2⟩ := hLv.1.w1 _ _ hy
        obtain ⟨k8, k9, k10, f10, hSt⟩ := H8.out W hLv.be
        have x11 := hLv.1.x11
        have xx := hLv.1.x17
        have cc := hL.2.2.2.2.2.1
        have ff := hL.2.2.2.2.2.2
        have hln := hLv.1.s1.len
        rw [eo] at xx
        have HL := show Hid _ from hL
        have HLv2 : Hid (C.Live w1.heap.size w1 [] (2 * pre.length) W) := hLv
        have HSt : Hid (IsSt W mo m) := hSt
        obtain ⟨kk, hkk⟩ : ∃ kk, kk = 2 * pre.length := ⟨_, rfl⟩
        obtain ⟨N1, hN1⟩ : ∃ N, N = 2 * C.d1.length := ⟨_, rfl⟩
        rw [← hkk] at k1 k2 cc
        rw [← hN1] at xx
        have hq0 : decide ((N1 : Int) ≤ (kk : Int) + 1) = false := by simp; omega
        have hq1 : (kk : Int) < (N1 : Int) := by omega
        have hq2 : (kk : Int) + 1 < (N1 : Int) := by omega
        have hq3 : (kk : Int) ≤ 8388608 := by omega
        have HKK : Hid (kk = 2 * pre.length ∧ C.d1[pre.length]? = some (y1, y2) ∧ pre.length ≤ 4194304) := ⟨hkk, hy, by omega⟩
        clear hL hLv hSt eo hkk hN1 hln hy hlt
        dsimp only at k1 k2 ⊢
        by_cases e1 : (y1 : Int) = (x1 : Int)
        · have p1 : ((y1 : Int) != (x1 : Int)) = false := by simp; omega
          by_cases e2 : y2 = x2
          · have p2 : (y2 != x2) = false := by simp [e2]
            have hdv : (kk : Int) / 2 = (pre.length : Int) := by have := HKK.out.1; omega
            have hd1 : (kk : Int).tdiv 2 = (pre.length : Int) := by rw [Int.tdiv_eq_ediv_of_nonneg (by omega)]; exact hdv
            have hd2 : IntKind.i64.wrap (pre.length : Int) = (pre.length : Int) := by have := HKK.out.2.2; rw [IntKind.wrap_i64]; omega
            have hd3 : (0 : Int) ≤ (pre.length : Int) := by omega
            by_cases h3 : pre.length < m.length
            · have h3' : (pre.length : Int) < (m.length : Int) := by omega
              obtain ⟨st, hst⟩ : ∃ st, m[pre.length]? = some st := ⟨_, List.getElem?_eq_getElem h3⟩
              obtain ⟨b, off, e0, _, c0, c1, c2, c3⟩ := HSt.out _ st hst
              obtain ⟨o1, a1, har, hz1, hz2, hstep⟩ := (HLv2.out.below ((Below.refl _ W).drew)).step
              have HD := show Hid _ from do_any har st.k st.a st.b st.c
              have HStep := show Hid _ from hstep
              subst e0
              clear hst har hstep
              gi_wp2
              gi_region_with_o (refine ⟨trivial, (CallsIn.inRound l' (callsIn_wide.2 HD.out)).mono ?_⟩; rintro r W4 ⟨rfl, hG⟩)
              all_goals
                obtain ⟨L4, K4, F4⟩ := HStep.out _ _ hG (a1.act_nl st.k st.a st.b st.c).1 (a1.act_nl st.k st.a st.b st.c).2
                rw [← HKK.out.1] at L4
                have HR := show Hid _ from L4.round (((KeepsOthers.drew W).from _).trans (F4 w14.heap.size)) K4
                have c19' := L4.2.2.2.2.2.1
                have f19' := L4.2.2.2.2.2.2
                clear L4 K4 F4 hG HD HStep c0 c1 c2 c3
                gi_wp2
                exact ⟨HR.out.1, HR.out.2.1, by dsimp only; rw [show 2 * (pre ++ [(x1, x2)]).length = kk + 2 by rw [List.length_append, HKK.out.1]; simp; omega]; exact HR.out.2.2⟩
            · have h3' : decide ((pre.length : Int) < (m.length : Int)) = false := by simp; omega
              have L4 := HLv2.out
              rw [← HKK.out.1] at L4
              have HR := show Hid _ from L4.round (KeepsFrom.refl w14.heap.size W) (Kq.refl _ W)
              clear L4
              gi_wp2
              exact ⟨HR.out.1, HR.out.2.1, by dsimp only; rw [show 2 * (pre ++ [(x1, x2)]).length = kk + 2 by rw [List.length_append, HKK.out.1]; simp; omega]; exact HR.out.2.2⟩
          · have p2 : (y2 != x2) = true := by simp [e2]
            gi_wp2
            exact ⟨(KeepsOthers.setCell _ _ _).from _, (fun h => ⟨rfl, pre, (x1, x2), rfl, h⟩) (fun h => by rw [HKK.out.2.1] at h; cases h; exact e2 rfl)⟩
        · have p1 : ((y1 : Int) != (x1 : Int)) = true := by simp; omega
          gi_wp2
          exact ⟨(KeepsOthers.setCell _ _ _).from _, (fun h => ⟨rfl, pre, (x1, x2), rfl, h⟩) (fun h => by rw [HKK.out.2.1] at h; cases h; exact e1 rfl)⟩
    case stopA1 =>
      rintro D cc pre W hD ⟨k, hk, rfl⟩ ⟨rfl, ini, last, e1, e2⟩ hK
      exact absurd (take_last e1) e2
    case doneA1 =>
      rintro D ys W hD rfl hL hK
      have hL2 := hL.defer hK
      have HD1 : Hid (w1.heap.size ≤ D ∧ D < W.heap.size) := ⟨Nat.le_trans hn14 hD, (Array.getElem?_eq_some_iff.1 hK).1⟩
      have xx := hL.1.x17
      have cc := hL.2.2.2.2.2.1
      have hln := hL.1.s1.len
      obtain ⟨N1, hN1⟩ : ∃ N, N = 2 * C.d1.length := ⟨_, rfl⟩
      rw [← hN1] at xx cc hL2
      have hq3 : (N1 : Int) ≤ 8388608 := by omega
      have HL2 : Hid (C.Live w1.heap.size w1 [D] N1 W) := hL2
      clear hL hL2 hN1 hln
      gi_upto_region 29 with fail
      iterate 7 gi_step
      gi_cut [22] from 127 (fun _ wx => C.Live w1.heap.size w1 [D] N1 wx ∧ D < wx.heap.size)
      case first =>
        refine wpIn_mono (Q := Exit.then _ (fun _ _ _ => False)) ?_ (fun e _ _ hq => by
          cases e with
          | normal => exact hq
          | _ => exact hq.elim)
        gi_wp2
        gi_loopg [22] (min m.length 200) (fun r vi wr => ∃ i : Nat, i + r = min m.length 200 ∧ vi = I i ∧ C.Live w1.heap.size w1 [D] N1 wr ∧ D < wr.heap.size)
        case atStart => exact ⟨0, by omega, rfl, HL2.out, HD1.out.2⟩
        case round =>
          obtain ⟨i, hir, rfl, hL, hDl⟩ := hrel
          have HL : Hid (C.Live w1.heap.size w1 [D] N1 wr ∧ i + gk = min m.length 200 ∧ D < wr.heap.size) := ⟨hL, hir, hDl⟩
          obtain ⟨k8, k9, k10, f10, hSt⟩ := H8.out wr hL.be
          have x11 := hL.1.x11
          clear xx cc hir hDl
          by_cases h1 : i < m.length
          · have h1' : (i : Int) < (m.length : Int) := by omega
            by_cases h2 : i < 200
            · have h2' : (i : Int) < 200 := by omega
              obtain ⟨st, hst⟩ : ∃ st, m[i]? = some st := ⟨_, List.getElem?_eq_getElem h1⟩
              obtain ⟨b, off, e0, _, c0, c1, c2, c3⟩ := hSt i st hst
              obtain ⟨o1, a1, har, hz1, hz2, hstep⟩ := (hL.below ((Below.refl _ wr).drew)).step
              have HD := show Hid _ from do_any har st.k st.a st.b st.c
              have HStep := show Hid _ from hstep
              subst e0
              clear hst har hstep hL hSt
              gi_wp2
              gi_region_with_o (refine ⟨trivial, (callsIn_wide.2 HD.out).mono ?_⟩; rintro r w4 ⟨rfl, hG⟩)
              all_goals
                obtain ⟨L4, _, _⟩ := HStep.out _ _ hG (a1.act_nl st.k st.a st.b st.c).1 (a1.act_nl st.k st.a st.b st.c).2
                have HL4 : Hid (C.Live w1.heap.size w1 [D] N1 w4 ∧ D < w4.heap.size) := ⟨L4, (Array.getElem?_eq_some_iff.1 (L4.2.2.1 D (by simp))).1⟩
                clear L4 hG HD HStep c0 c1 c2 c3
                gi_wp2
                gi_roundg (min m.length 200 - (i + 1))
                case measure => have := HL.out.2.1; omega
                case rel => exact ⟨i + 1, by omega, by go_num, HL4.out.1, HL4.out.2⟩
            · have h2' : decide ((i : Int) < 200) = false := by simp; omega
              clear hSt
              gi_wp2
              gi_meet
              case rel => exact ⟨HL.out.1, HL.out.2.2⟩
          · have h1' : decide ((i : Int) < (m.length : Int)) = false := by simp; omega
            clear hSt
            gi_wp2
            gi_meet
            case rel => exact ⟨HL.out.1, HL.out.2.2⟩
      case rest =>
        obtain ⟨hL, hDl⟩ := hcut
        have HD1' : Hid (w1.heap.size ≤ D ∧ D < wc.heap.size) := ⟨HD1.out.1, hDl⟩
        clear HD1 hDl HL2 xx cc
        have HD1 := HD1'
        clear HD1'
        have c19 := hL.2.2.2.2.2.1
        have f19 := hL.2.2.2.2.2.2
        have hLs := hL.set 0
        have x15 := hLs.1.x15
        have HL15 : Hid (C.Live w1.heap.size w1 [D] 0 (wc.setCell ⟨C.b19, 0, none⟩ (I (0 : Nat)))) := hLs
        have hz15 : (wc.setCell ⟨C.b19, 0, none⟩ (I (0 : Nat))).heap.size = wc.heap.size := by simp [World.setCell]
        clear hL hLs
        dsimp only [clo] at x15
        simp only [Int.natCast_zero] at x15 HL15 hz15
        gi_wp2
        generalize wc.setCell ⟨C.b19, 0, none⟩ (I 0) = w15 at *
        have HD1' : Hid (w1.heap.size ≤ D ∧ D < w15.heap.size) := ⟨HD1.out.1, by rw [hz15]; exact HD1.out.2⟩
        clear HD1 hz15 c19 f19
        have HD1 := HD1'
        clear HD1'
        refine rangeH rfl (by omega) (gf := 59) (lb := #[.pointer (some ⟨C.q1.A, 0, none⟩), .pointer (some ⟨C.q1.B, 0, none⟩)]) rfl trivial (enters_of Try.func59 (by kernel_rfl) rfl)
          (seq_stops Fence.wide 8 trivial rfl (by omega) C.q1 C.d1 w15 HL15.out.1.s1) (Kq.refl _) Kq.trans (Kq.put (fun k hk => HL15.out.1.s1.lt k hk)) (Below.refl _ _) (fun _ => rfl)
          (fun pre W => C.Live w1.heap.size w1 [D] (2 * pre.length) W) (fun (cc : Code) (pre : List (Nat × Int)) (W : World) => (cc = Code.ret ∧ ∃ (ini : List (Nat × Int)) (last : Nat × Int), pre = ini ++ [last] ∧ C.d1[ini.length]? ≠ some last) ∨ (cc = Code.exit 6 ∧ C.Live w1.heap.size w1 [D] (2 * pre.length) W))
          (Cx.Live.from HL15.out.be.size (fun E hE => by simp at hE; have := HD1.out; omega) (fun pre : List (Nat × Int) => 2 * pre.length)) (fun _ s A B row hs hg hr => hs.imp id (fun h => ⟨h.1, (Cx.Live.from HL15.out.be.size (fun E hE => by simp at hE; have := HD1.out; omega) (fun pre : List (Nat × Int) => 2 * pre.length)) s A B row h.2 hg hr⟩)) HL15.out ?HB ?doneB ?stopB
        case HB =>
          apply Exists.intro
          refine ⟨?assignB, ?bodyB⟩
          case assignB =>
            intro l' x W K hK
            have HK := show Hid _ from hK
            clear hK
            gi_wp2
            exact HK.out
          case bodyB =>
            rintro l' pre ⟨x1, x2⟩ W hl hr hL hlt
            obtain ⟨⟨y1, y2⟩, hy⟩ : ∃ y, C.d1[pre.length]? = some y := ⟨_, List.getElem?_eq_getElem hlt⟩
            have hLv := hL
            obtain ⟨eo, k1, k2⟩ := hLv.1.w1 _ _ hy
            obtain ⟨k8, k9, k10, f10, hSt⟩ := H8.out W hLv.be
            have x11 := hLv.1.x11
            have xx := hLv.1.x17
            have cc := hL.2.2.2.2.2.1
            have ff := hL.2.2.2.2.2.2
            have hln := hLv.1.s1.len
            rw [eo] at xx
            have HL := show Hid _ from hL
            have HLv2 : Hid (C.Live w1.heap.size w1 [D] (2 * pre.length) W) := hLv
            have HSt : Hid (IsSt W mo m) := hSt
            obtain ⟨kk, hkk⟩ : ∃ kk, kk = 2 * pre.length := ⟨_, rfl⟩
            obtain ⟨N1, hN1⟩ : ∃ N, N = 2 * C.d1.length := ⟨_, rfl⟩
            rw [← hkk] at k1 k2 cc
            rw [← hN1] at xx
            have hq0 : decide ((N1 : Int) ≤ (kk : Int) + 1) = false := by simp; omega
            have hq1 : (kk : Int) < (N1 : Int) := by omega
            have hq2 : (kk : Int) + 1 < (N1 : Int) := by omega
            have hq3 : (kk : Int) ≤ 8388608 := by omega
            have HKK : Hid (kk = 2 * pre.length ∧ C.d1[pre.length]? = some (y1, y2) ∧ pre.length ≤ 4194304) := ⟨hkk, hy, by omega⟩
            clear hL hLv hSt eo hkk hN1 hln hy hlt
            dsimp only at k1 k2 ⊢
            by_cases e1 : (y1 : Int) = (x1 : Int)
            · have p1 : ((y1 : Int) != (x1 : Int)) = false := by simp; omega
              by_cases e2 : y2 = x2
              · have p2 : (y2 != x2) = false := by simp [e2]
                obtain ⟨rr, hrr⟩ := hr
                obtain ⟨kz, hkz0⟩ : ∃ kz, kz = kk := ⟨_, rfl⟩
                have HL0 : Hid (C.Live w1.heap.size w1 [D] kz W) := by have h9 := HLv2.out; rw [← HKK.out.1, ← hkz0] at h9; exact h9
                have HKp : Hid (kz = 2 * pre.length ∧ pre.length ≤ 4194304) := ⟨hkz0.trans HKK.out.1, HKK.out.2.2⟩
                have hL1 := HL0.out.below ((Below.refl _ W).alloc (Nat.le_refl _) (.cells #[I 0] 3))
                have x16 := hL1.1.x16
                dsimp only [clo] at x16
                have HInn : Hid (Inn w15.heap.size W 0 (W.alloc (.cells #[I 0] 3))) := Inn.new _ W
                have HL1 : Hid (C.Live w1.heap.size w1 [D] kz (W.alloc (.cells #[I 0] 3))) := hL1
                have hrr1 : (W.alloc (.cells #[I 0] 3)).heap[l']? = some (.loop rr) := (Below.heap_alloc W _ l' (Array.getElem?_eq_some_iff.1 hrr).1).trans hrr
                have hzV : (W.alloc (.cells #[I 0] 3)).heap.size = W.heap.size + 1 := by simp
                have HR0 : Hid (W.heap[l']? = some (.loop rr) ∧ w15.heap.size ≤ l' ∧ w15.heap.size ≤ W.heap.size) := ⟨hrr, hl, by have := (Array.getElem?_eq_some_iff.1 hrr).1; omega⟩
                clear hkz0 hL1
                gi_wp2
                generalize W.alloc (.cells #[I 0] 3) = V1 at *
                clear x16 cc ff k1 k2 xx x11 k8 k9 k10 f10 hq0 hq1 hq2 p1 p2 e1 e2
                refine rangeN (l₀ := l') (r₀ := rr) rfl hrr1 (by omega) (gf := 59) (lb := #[.pointer (some ⟨C.q2.A, 0, none⟩), .pointer (some ⟨C.q2.B, 0, none⟩)]) rfl trivial (enters_of Try.func59 (by kernel_rfl) rfl)
                  ((seq_stops Fence.wide 6 trivial rfl (by omega) C.q2 C.d2 V1 HL1.out.1.s2).inRound l') (Kq.refl _) Kq.trans (Kq.put (fun k hk => HL1.out.1.s2.lt k hk)) (Below.refl _ _) (fun _ => rfl)
                  (fun pre' V => Inn w15.heap.size W (2 * pre'.length) V) (fun (cc : Code) (pre : List (Nat × Int)) (_ : World) => cc = Code.ret ∧ ∃ (ini : List (Nat × Int)) (last : Nat × Int), pre = ini ++ [last] ∧ C.d2[ini.length]? ≠ some last)
                  (Inn.from (by have := HInn.out.2.1.size; omega) (fun pre : List (Nat × Int) => 2 * pre.length)) (fun _ _ _ _ _ hs _ _ => hs) HInn.out ?HC ?doneC ?stopC
                case HC =>
                  apply Exists.intro
                  refine ⟨?assignC, ?bodyC⟩
                  case assignC =>
                    intro l' x W K hK
                    have HK := show Hid _ from hK
                    clear hK
                    gi_wp2
                    exact HK.out
                  case bodyC =>
                    rintro l2 pre2 ⟨x1, x2⟩ V hL hlt
                    obtain ⟨⟨y1, y2⟩, hy⟩ : ∃ y, C.d2[pre2.length]? = some y := ⟨_, List.getElem?_eq_getElem hlt⟩
                    have hLv := HL0.out.below hL.2.1
                    obtain ⟨eo, k1, k2⟩ := hLv.1.w2 _ _ hy
                    obtain ⟨k8, k9, k10, f10, hSt⟩ := H8.out V hLv.be
                    have x11 := hLv.1.x11
                    have xx := hLv.1.x18
                    have cc := hL.1.1
                    have ff := hL.1.2
                    have hln := hLv.1.s2.len
                    rw [eo] at xx
                    have HL := show Hid _ from hL
                    have HLv2 : Hid (C.Live w1.heap.size w1 [D] kz V) := hLv
                    have HSt : Hid (IsSt V mo m) := hSt
                    obtain ⟨kk, hkk⟩ : ∃ kk, kk = 2 * pre2.length := ⟨_, rfl⟩
                    obtain ⟨N1, hN1⟩ : ∃ N, N = 2 * C.d2.length := ⟨_, rfl⟩
                    rw [← hkk] at k1 k2 cc
                    rw [← hN1] at xx
                    have hq0 : decide ((N1 : Int) ≤ (kk : Int) + 1) = false := by simp; omega
                    have hq1 : (kk : Int) < (N1 : Int) := by omega
                    have hq2 : (kk : Int) + 1 < (N1 : Int) := by omega
                    have hq3 : (kk : Int) ≤ 8388608 := by omega
                    have HKK : Hid (kk = 2 * pre2.length ∧ C.d2[pre2.length]? = some (y1, y2) ∧ pre2.length ≤ 4194304) := ⟨hkk, hy, by omega⟩
                    clear hL hLv hSt eo hkk hN1 hln hy hlt
                    dsimp only at k1 k2 ⊢
                    by_cases e1 : (y1 : Int) = (x1 : Int)
                    · have p1 : ((y1 : Int) != (x1 : Int)) = false := by simp; omega
                      by_cases e2 : y2 = x2
                      · have p2 : (y2 != x2) = false := by simp [e2]
                        have HR := show Hid _ from Inn.round (Bn := V1.heap.size) (S := C.q2.S) (by have h9 := HL.out; rw [← HKK.out.1] at h9; exact h9) (fun x hx => HL0.out.1.s2.lt x hx)
                        gi_wp2
                        exact ⟨HR.out.1, HR.out.2.1, by dsimp only; rw [show 2 * (pre2 ++ [(x1, x2)]).length = kk + 2 by rw [List.length_append, HKK.out.1]; simp; omega]; exact HR.out.2.2⟩
                      · have p2 : (y2 != x2) = true := by simp [e2]
                        gi_wp2
                        exact ⟨(KeepsOthers.setCell _ _ _).from _, (fun h => ⟨rfl, pre2, (x1, x2), rfl, h⟩) (fun h => by rw [HKK.out.2.1] at h; cases h; exact e2 rfl)⟩
                    · have p1 : ((y1 : Int) != (x1 : Int)) = true := by simp; omega
                      gi_wp2
                      exact ⟨(KeepsOthers.setCell _ _ _).from _, (fun h => ⟨rfl, pre2, (x1, x2), rfl, h⟩) (fun h => by rw [HKK.out.2.1] at h; cases h; exact e1 rfl)⟩
                case stopC =>
                  rintro cc pre V ⟨k, hk, rfl⟩ ⟨rfl, ini, last, e1, e2⟩
                  exact absurd (take_last e1) e2
                case doneC =>
                  rintro zs V rfl hI
                  have L3 := HL0.out.below hI.2.1
                  have c25 := hI.1.1
                  have f25 := hI.1.2
                  have xx := L3.1.x18
                  have hln := L3.1.s2.len
                  obtain ⟨N2, hN2⟩ : ∃ N, N = 2 * C.d2.length := ⟨_, rfl⟩
                  rw [← hN2] at xx c25
                  have hq3 : (N2 : Int) ≤ 8388608 := by omega
                  have hI3 := hI.put 0
                  have L4 := HL0.out.below hI3.2.1
                  have x15 := L4.1.x15
                  dsimp only [clo] at x15
                  have hrr1 := hI3.2.2.same l' _ HR0.out.2.1 HR0.out.1 rfl
                  have HInn : Hid (Inn w15.heap.size W 0 (V.setCell ⟨W.heap.size, 0, none⟩ (I (0 : Nat)))) := hI3
                  have HL1 : Hid (C.Live w1.heap.size w1 [D] kz (V.setCell ⟨W.heap.size, 0, none⟩ (I (0 : Nat)))) := L4
                  simp only [Int.natCast_zero] at x15 HInn HL1 hrr1
                  clear hI L3 L4 hI3 hN2 hln
                  gi_wp2
                  generalize V.setCell ⟨W.heap.size, 0, none⟩ (I 0) = V3 at *
                  clear x15 c25 f25 xx
                  refine rangeN (l₀ := l') (r₀ := rr) rfl hrr1 (by omega) (gf := 59) (lb := #[.pointer (some ⟨C.q1.A, 0, none⟩), .pointer (some ⟨C.q1.B, 0, none⟩)]) rfl trivial (enters_of Try.func59 (by kernel_rfl) rfl)
                    ((seq_stops Fence.wide 6 trivial rfl (by omega) C.q1 C.d1 V3 HL1.out.1.s1).inRound l') (Kq.refl _) Kq.trans (Kq.put (fun k hk => HL1.out.1.s1.lt k hk)) (Below.refl _ _) (fun _ => rfl)
                    (fun pre' V => Inn w15.heap.size W (2 * pre'.length) V) (fun (cc : Code) (pre : List (Nat × Int)) (_ : World) => cc = Code.ret ∧ ∃ (ini : List (Nat × Int)) (last : Nat × Int), pre = ini ++ [last] ∧ C.d1[ini.length]? ≠ some last)
                    (Inn.from (by have := HInn.out.2.1.size; omega) (fun pre : List (Nat × Int) => 2 * pre.length)) (fun _ _ _ _ _ hs _ _ => hs) HInn.out ?HDd ?doneDd ?stopDd
                  case HDd =>
                    apply Exists.intro
                    refine ⟨?assignDd, ?bodyDd⟩
                    case assignDd =>
                      intro l' x W K hK
                      have HK := show Hid _ from hK
                      clear hK
                      gi_wp2
                      exact HK.out
                    case bodyDd =>
                      rintro l2 pre2 ⟨x1, x2⟩ V hL hlt
                      obtain ⟨⟨y1, y2⟩, hy⟩ : ∃ y, C.d1[pre2.length]? = some y := ⟨_, List.getElem?_eq_getElem hlt⟩
                      have hLv := HL0.out.below hL.2.1
                      obtain ⟨eo, k1, k2⟩ := hLv.1.w1 _ _ hy
                      obtain ⟨k8, k9, k10, f10, hSt⟩ := H8.out V hLv.be
                      have x11 := hLv.1.x11
                      have xx := hLv.1.x17
                      have cc := hL.1.1
                      have ff := hL.1.2
                      have hln := hLv.1.s1.len
                      rw [eo] at xx
                      have HL := show Hid _ from hL
                      have HLv2 : Hid (C.Live w1.heap.size w1 [D] kz V) := hLv
                      have HSt : Hid (IsSt V mo m) := hSt
                      obtain ⟨kk, hkk⟩ : ∃ kk, kk = 2 * pre2.length := ⟨_, rfl⟩
                      obtain ⟨N1, hN1⟩ : ∃ N, N = 2 * C.d1.length := ⟨_, rfl⟩
                      rw [← hkk] at k1 k2 cc
                      rw [← hN1] at xx
                      have hq0 : decide ((N1 : Int) ≤ (kk : Int) + 1) = false := by simp; omega
                      have hq1 : (kk : Int) < (N1 : Int) := by omega
                      have hq2 : (kk : Int) + 1 < (N1 : Int) := by omega
                      have hq3 : (kk : Int) ≤ 8388608 := by omega
                      have HKK : Hid (kk = 2 * pre2.length ∧ C.d1[pre2.length]? = some (y1, y2) ∧ pre2.length ≤ 4194304) := ⟨hkk, hy, by omega⟩
                      clear hL hLv hSt eo hkk hN1 hln hy hlt
                      dsimp only at k1 k2 ⊢
                      by_cases e1 : (y1 : Int) = (x1 : Int)
                      · have p1 : ((y1 : Int) != (x1 : Int)) = false := by simp; omega
                        by_cases e2 : y2 = x2
                        · have p2 : (y2 != x2) = false := by simp [e2]
                          have HR := show Hid _ from Inn.round (Bn := V3.heap.size) (S := C.q1.S) (by have h9 := HL.out; rw [← HKK.out.1] at h9; exact h9) (fun x hx => HL0.out.1.s1.lt x hx)
                          gi_wp2
                          exact ⟨HR.out.1, HR.out.2.1, by dsimp only; rw [show 2 * (pre2 ++ [(x1, x2)]).length = kk + 2 by rw [List.length_append, HKK.out.1]; simp; omega]; exact HR.out.2.2⟩
                        · have p2 : (y2 != x2) = true := by simp [e2]
                          gi_wp2
                          exact ⟨(KeepsOthers.setCell _ _ _).from _, (fun h => ⟨rfl, pre2, (x1, x2), rfl, h⟩) (fun h => by rw [HKK.out.2.1] at h; cases h; exact e2 rfl)⟩
                      · have p1 : ((y1 : Int) != (x1 : Int)) = true := by simp; omega
                        gi_wp2
                        exact ⟨(KeepsOthers.setCell _ _ _).from _, (fun h => ⟨rfl, pre2, (x1, x2), rfl, h⟩) (fun h => by rw [HKK.out.2.1] at h; cases h; exact e1 rfl)⟩
                  case stopDd =>
                    rintro cc pre V ⟨k, hk, rfl⟩ ⟨rfl, ini, last, e1, e2⟩
                    exact absurd (take_last e1) e2
                  case doneDd =>
                    rintro zs V rfl hI
                    have L5 := HL0.out.below hI.2.1
                    have c25 := hI.1.1
                    have xx := L5.1.x17
                    have c19 := L5.2.2.2.2.2.1
                    have f19 := L5.2.2.2.2.2.2
                    have hln := L5.1.s1.len
                    obtain ⟨N1, hN1⟩ : ∃ N, N = 2 * C.d1.length := ⟨_, rfl⟩
                    rw [← hN1] at xx c25
                    have hq3 : (N1 : Int) ≤ 8388608 := by omega
                    have hkz : (kz : Int) ≤ 8388608 := by have := HKp.out.1; have := HKp.out.2; omega
                    have HR := show Hid _ from L5.round hI.2.2 (Kq.below hI.2.1 HL0.out.lt)
                    have c19' := HR.out.2.2.2.2.2.2.2.1
                    obtain ⟨_, k9', _, _, _⟩ := H8.out _ HR.out.2.2.be
                    have hdv : ((kz : Int) + 2) / 2 = (pre.length : Int) + 1 := by have := HKp.out.1; omega
                    have hd1 : ((kz : Int) + 2).tdiv 2 = (pre.length : Int) + 1 := by rw [Int.tdiv_eq_ediv_of_nonneg (by omega)]; exact hdv
                    have hd2 : IntKind.i64.wrap ((pre.length : Int) + 1) = (pre.length : Int) + 1 := by have := HKp.out.2; rw [IntKind.wrap_i64]; omega
                    have HRd : Hid (∀ u, Calls Try.prog 25 #[I stop, I 9] u fun r w' => ∃ k : Nat, k < 9 ∧ r = .returned (I k) ∧ w' = u) := fun u => round_any stop 9 (by omega) (by omega) u
                    rw [show ((kz + 2 : Nat) : Int) = (kz : Int) + 2 by omega] at c19'
                    clear hI L5 hN1 hln
                    gi_wp2
                    generalize V.setCell ⟨C.b19, 0, none⟩ (.int .i64 ((kz : Int) + 2)) = V9 at *
                    gi_region_with_o (refine ⟨trivial, (CallsIn.inRound l' (callsIn_wide.2 (HRd.out _))).mono ?_⟩; rintro r V10 ⟨rd, hrd, rfl, rfl⟩)
                    all_goals
                      by_cases hbk : (rd : Int) < (pre.length : Int) + 1
                      · gi_wp2
                        exact ⟨HR.out.1.trans ((KeepsOthers.drew _).from _), Or.inr ⟨rfl, by rw [show 2 * (pre ++ [(x1, x2)]).length = kz + 2 by rw [List.length_append, HKp.out.1]; simp; omega]; exact Cx.Live.below HR.out.2.2 ((Below.refl _ _).drew)⟩⟩
                      · have hbk' : decide ((rd : Int) < (pre.length : Int) + 1) = false := by simp; omega
                        gi_wp2
                        exact ⟨HR.out.1.trans ((KeepsOthers.drew _).from _), ⟨HR.out.2.1.1, HR.out.2.1.2⟩, by dsimp only; rw [show 2 * (pre ++ [(x1, x2)]).length = kz + 2 by rw [List.length_append, HKp.out.1]; simp; omega]; exact Cx.Live.below HR.out.2.2 ((Below.refl _ _).drew)⟩
              · have p2 : (y2 != x2) = true := by simp [e2]
                gi_wp2
                exact ⟨(KeepsOthers.setCell _ _ _).from _, (fun h => Or.inl ⟨rfl, pre, (x1, x2), rfl, h⟩) (fun h => by rw [HKK.out.2.1] at h; cases h; exact e2 rfl)⟩
            · have p1 : ((y1 : Int) != (x1 : Int)) = true := by simp; omega
              gi_wp2
              exact ⟨(KeepsOthers.setCell _ _ _).from _, (fun h => Or.inl ⟨rfl, pre, (x1, x2), rfl, h⟩) (fun h => by rw [HKK.out.2.1] at h; cases h; exact e1 rfl)⟩
        case doneB =>
          rintro D2 ys W hD2 rfl hL hK2
          have hLd := hL.defer hK2
          have HOrd : Hid (D < D2 ∧ D2 < W.heap.size ∧ w1.heap.size ≤ D) := ⟨by have := HD1.out.2; omega, (Array.getElem?_eq_some_iff.1 hK2).1, HD1.out.1⟩
          have hLs := hLd.set 0
          have c19 := hLd.2.2.2.2.2.1
          have f19 := hLd.2.2.2.2.2.2
          have x15 := hLs.1.x15
          have HL17 : Hid (C.Live w1.heap.size w1 [D2, D] 0 (W.setCell ⟨C.b19, 0, none⟩ (I (0 : Nat)))) := hLs
          have hz17 : (W.setCell ⟨C.b19, 0, none⟩ (I (0 : Nat))).heap.size = W.heap.size := by simp [World.setCell]
          clear hL hLd hLs
          dsimp only [clo] at x15
          simp only [Int.natCast_zero] at x15 HL17 hz17
          gi_wp2
          generalize W.setCell ⟨C.b19, 0, none⟩ (I 0) = w17 at *
          have HOrd' : Hid (D < D2 ∧ D2 < w17.heap.size ∧ w1.heap.size ≤ D) := ⟨HOrd.out.1, by rw [hz17]; exact HOrd.out.2.1, HOrd.out.2.2⟩
          clear HOrd hz17 c19 f19
          have HOrd := HOrd'
          clear HOrd'
          refine rangeH rfl (by omega) (gf := 59) (lb := #[.pointer (some ⟨C.q1.A, 0, none⟩), .pointer (some ⟨C.q1.B, 0, none⟩)]) rfl trivial (enters_of Try.func59 (by kernel_rfl) rfl)
            (seq_stops Fence.wide 8 trivial rfl (by omega) C.q1 C.d1 w17 HL17.out.1.s1) (Kq.refl _) Kq.trans (Kq.put (fun k hk => HL17.out.1.s1.lt k hk)) (Below.refl _ _) (fun _ => rfl)
            (fun pre W => C.Live w1.heap.size w1 [D2, D] (2 * pre.length) W) (fun (cc : Code) (pre : List (Nat × Int)) (_ : World) => cc = Code.ret ∧ ∃ (ini : List (Nat × Int)) (last : Nat × Int), pre = ini ++ [last] ∧ C.d1[ini.length]? ≠ some last)
            (Cx.Live.from HL17.out.be.size (fun E hE => by simp at hE; have := HOrd.out; omega) (fun pre : List (Nat × Int) => 2 * pre.length)) (fun _ _ _ _ _ hs _ _ => hs) HL17.out ?HE ?doneE ?stopE
          case HE =>
            apply Exists.intro
            refine ⟨?assignE, ?bodyE⟩
            case assignE =>
              intro l' x W K hK
              have HK := show Hid _ from hK
              clear hK
              gi_wp2
              exact HK.out
            case bodyE =>
              rintro l' pre ⟨x1, x2⟩ W hl hr hL hlt
              obtain ⟨⟨y1, y2⟩, hy⟩ : ∃ y, C.d1[pre.length]? = some y := ⟨_, List.getElem?_eq_getElem hlt⟩
              have hLv := hL
              obtain ⟨eo, k1, k2⟩ := hLv.1.w1 _ _ hy
              obtain ⟨k8, k9, k10, f10, hSt⟩ := H8.out W hLv.be
              have x11 := hLv.1.x11
              have xx := hLv.1.x17
              have cc := hL.2.2.2.2.2.1
              have ff := hL.2.2.2.2.2.2
              have hln := hLv.1.s1.len
              rw [eo] at xx
              have HL := show Hid _ from hL
              have HLv2 : Hid (C.Live w1.heap.size w1 [D2, D] (2 * pre.length) W) := hLv
              have HSt : Hid (IsSt W mo m) := hSt
              obtain ⟨kk, hkk⟩ : ∃ kk, kk = 2 * pre.length := ⟨_, rfl⟩
              obtain ⟨N1, hN1⟩ : ∃ N, N = 2 * C.d1.length := ⟨_, rfl⟩
              rw [← hkk] at k1 k2 cc
              rw [← hN1] at xx
              have hq0 : decide ((N1 : Int) ≤ (kk : Int) + 1) = false := by simp; omega
              have hq1 : (kk : Int) < (N1 : Int) := by omega
              have hq2 : (kk : Int) + 1 < (N1 : Int) := by omega
              have hq3 : (kk : Int) ≤ 8388608 := by omega
              have HKK : Hid (kk = 2 * pre.length ∧ C.d1[pre.length]? = some (y1, y2) ∧ pre.length ≤ 4194304) := ⟨hkk, hy, by omega⟩
              clear hL hLv hSt eo hkk hN1 hln hy hlt
              dsimp only at k1 k2 ⊢
              by_cases e1 : (y1 : Int) = (x1 : Int)
              · have p1 : ((y1 : Int) != (x1 : Int)) = false := by simp; omega
                by_cases e2 : y2 = x2
                · have p2 : (y2 != x2) = false := by simp [e2]
                  have L4 := HLv2.out
                  rw [← HKK.out.1] at L4
                  have HR := show Hid _ from L4.round (KeepsFrom.refl w17.heap.size W) (Kq.refl _ W)
                  clear L4
                  gi_wp2
                  exact ⟨HR.out.1, HR.out.2.1, by dsimp only; rw [show 2 * (pre ++ [(x1, x2)]).length = kk + 2 by rw [List.length_append, HKK.out.1]; simp; omega]; exact HR.out.2.2⟩
                · have p2 : (y2 != x2) = true := by simp [e2]
                  gi_wp2
                  exact ⟨(KeepsOthers.setCell _ _ _).from _, (fun h => ⟨rfl, pre, (x1, x2), rfl, h⟩) (fun h => by rw [HKK.out.2.1] at h; cases h; exact e2 rfl)⟩
              · have p1 : ((y1 : Int) != (x1 : Int)) = true := by simp; omega
                gi_wp2
                exact ⟨(KeepsOthers.setCell _ _ _).from _, (fun h => ⟨rfl, pre, (x1, x2), rfl, h⟩) (fun h => by rw [HKK.out.2.1] at h; cases h; exact e1 rfl)⟩
          case doneE =>
            rintro D3 ys W hD3 rfl hL hK3
            have x11 := hL.1.x11
            have xx := hL.1.x17
            have cc := hL.2.2.2.2.2.1
            obtain ⟨k8, k9, k10, f10, _⟩ := H8.out W hL.be
            have HL : Hid (C.Live w1.heap.size w1 [D2, D] (2 * C.d1.length) W) := hL
            have hln := hL.1.s1.len
            obtain ⟨o9, a9, har9, hz1, hz2, _⟩ := hL.step
            have HWh : Hid (Calls Try.prog 16 #[.pointer (some ⟨C.g, 0, none⟩), I n, I l] W fun r w' => r = .returned (.bool true) ∧ Below W.heap.size W w') := by
              have := whole_any har9
              rw [hz1, hz2, hCn.out.1, hCn.out.2] at this
              exact this
            obtain ⟨N1, hN1⟩ : ∃ N, N = 2 * C.d1.length := ⟨_, rfl⟩
            rw [← hN1] at xx cc
            have hq3 : (N1 : Int) ≤ 8388608 := by omega
            clear hL har9 hz1 hz2 hN1 hln
            gi_wp2
            refine ⟨trivial, (callsIn_wide.2 HWh.out).mono ?_⟩
            rintro r W9 ⟨rfl, hb9⟩
            have L9 := HL.out.below hb9
            obtain ⟨_, _, k10', f10', _⟩ := H8.out W9 L9.be
            have hK3' : W9.heap[D3]? = some (.deferred (some [])) := (hb9.block D3 (Array.getElem?_eq_some_iff.1 hK3).1).trans hK3
            have hK2' : W9.heap[D2]? = some (.deferred (some [])) := L9.2.2.1 D2 (by simp)
            have hK1' : W9.heap[D]? = some (.deferred (some [])) := L9.2.2.1 D (by simp)
            have HW9 : Hid (Below w.heap.size w W9) := HQ.out.2.2.2.2.trans (L9.be.mono HQ.out.2.2.2.2.size)
            have HDs : Hid (W9.heap[D3]? = some (.deferred (some [])) ∧ W9.heap[D2]? = some (.deferred (some [])) ∧ W9.heap[D]? = some (.deferred (some [])) ∧ W9.cell? ⟨w.heap.size + 1 + 1, 0, none⟩ = some (.bool false) ∧ D < D2 ∧ D2 < D3 ∧ w.heap.size ≤ D) := ⟨hK3', hK2', hK1', k10', HOrd.out.1, by have := HOrd.out.2.1; omega, by have := HOrd.out.2.2; have := HQ.out.2.2.2.1; omega⟩
            clear L9 hK3 hK3' hK2' hK1' hb9 k8 k9 k10 f10 x11 xx cc
            gi_wp2
            have hA3 := (KeepsOthers.setCell W9 ⟨w.heap.size + 1 + 1, 0, none⟩ (.bool true)).same D3 _ HDs.out.1 rfl
            have hA2 := (KeepsOthers.setCell W9 ⟨w.heap.size + 1 + 1, 0, none⟩ (.bool true)).same D2 _ HDs.out.2.1 rfl
            have hA1 := (KeepsOthers.setCell W9 ⟨w.heap.size + 1 + 1, 0, none⟩ (.bool true)).same D _ HDs.out.2.2.1 rfl
            have hd12 := HDs.out.2.2.2.2.1
            have hd23 := HDs.out.2.2.2.2.2.1
            have hwD := HDs.out.2.2.2.2.2.2
            have hB2 : ((W9.setCell ⟨w.heap.size + 1 + 1, 0, none⟩ (.bool true)).putObj D3 (.deferred none)).heap[D2]? = some (.deferred (some [])) := (World.putObj_heap_other (by omega)).trans hA2
            have hB1 : ((W9.setCell ⟨w.heap.size + 1 + 1, 0, none⟩ (.bool true)).putObj D3 (.deferred none)).heap[D]? = some (.deferred (some [])) := (World.putObj_heap_other (by omega)).trans hA1
            have hC1 : (((W9.setCell ⟨w.heap.size + 1 + 1, 0, none⟩ (.bool true)).putObj D3 (.deferred none)).putObj D2 (.deferred none)).heap[D]? = some (.deferred (some [])) := (World.putObj_heap_other (by omega)).trans hB1
            refine ⟨by simp, .inl ⟨_, _, rfl, run_takeDeferred hA3, by simp, .inl ⟨_, _, rfl, run_takeDeferred hB2, by simp, .inl ⟨_, _, rfl, run_takeDeferred hC1, ?_⟩⟩⟩⟩
            have hc3 := cell_kept (World.cell?_setCell_same' W9 ⟨w.heap.size + 1 + 1, 0, none⟩ (.bool true) (by rw [HDs.out.2.2.2.1]; rfl)) (grownBy_putObj' _ D3 (.deferred none)) (fun r e => by cases e; exact ⟨_, hA3, rfl⟩)
            have hc4 := cell_kept hc3 (grownBy_putObj' _ D2 (.deferred none)) (fun r e => by cases e; exact ⟨_, hB2, rfl⟩)
            have hc5 := cell_kept hc4 (grownBy_putObj' _ D (.deferred none)) (fun r e => by cases e; exact ⟨_, hC1, rfl⟩)
            refine ⟨.bool true, ?_, rfl, (((HW9.out.setCell (p := ⟨w.heap.size + 1 + 1, 0, none⟩) (by simp; omega) _).trans (belowK_b (w := w) (Nat.le_refl _) _ D3 _ _ (by omega) hA3 rfl rfl)).trans (belowK_b (w := w) (Nat.le_refl _) _ D2 _ _ (by omega) hB2 rfl rfl)).trans (belowK_b (w := w) (Nat.le_refl _) _ D _ _ (by omega) hC1 rfl rfl)⟩
            simp [results, Try.f6, go_sem, hc5]
          case stopE =>
            rintro D cc pre W hD ⟨k, hk, rfl⟩ ⟨rfl, ini, last, e1, e2⟩ hK
            exact absurd (take_last e1) e2
        case stopB =>
          rintro D2 cc pre W hD2 ⟨k, hk, rfl⟩ hx hK2
          rcases hx with ⟨rfl, ini, last, e1, e2⟩ | ⟨rfl, hL⟩
          · exact absurd (take_last e1) e2
          ·
            have hLd := hL.defer hK2
            have HOrd : Hid (D < D2 ∧ D2 < W.heap.size ∧ w1.heap.size ≤ D) := ⟨by have := HD1.out.2; omega, (Array.getElem?_eq_some_iff.1 hK2).1, HD1.out.1⟩
            have hLs := hLd.set 0
            have c19 := hLd.2.2.2.2.2.1
            have f19 := hLd.2.2.2.2.2.2
            have x15 := hLs.1.x15
            have HL17 : Hid (C.Live w1.heap.size w1 [D2, D] 0 (W.setCell ⟨C.b19, 0, none⟩ (I (0 : Nat)))) := hLs
            have hz17 : (W.setCell ⟨C.b19, 0, none⟩ (I (0 : Nat))).heap.size = W.heap.size := by simp [World.setCell]
            clear hL hLd hLs
            dsimp only [clo] at x15
            simp only [Int.natCast_zero] at x15 HL17 hz17
            gi_wp2
            generalize W.setCell ⟨C.b19, 0, none⟩ (I 0) = w17 at *
            have HOrd' : Hid (D < D2 ∧ D2 < w17.heap.size ∧ w1.heap.size ≤ D) := ⟨HOrd.out.1, by rw [hz17]; exact HOrd.out.2.1, HOrd.out.2.2⟩
            clear HOrd hz17 c19 f19
            have HOrd := HOrd'
            clear HOrd'
            refine rangeH rfl (by omega) (gf := 59) (lb := #[.pointer (some ⟨C.q1.A, 0, none⟩), .pointer (some ⟨C.q1.B, 0, none⟩)]) rfl trivial (enters_of Try.func59 (by kernel_rfl) rfl)
              (seq_stops Fence.wide 8 trivial rfl (by omega) C.q1 C.d1 w17 HL17.out.1.s1) (Kq.refl _) Kq.trans (Kq.put (fun k hk => HL17.out.1.s1.lt k hk)) (Below.refl _ _) (fun _ => rfl)
              (fun pre W => C.Live w1.heap.size w1 [D2, D] (2 * pre.length) W) (fun (cc : Code) (pre : List (Nat × Int)) (_ : World) => cc = Code.ret ∧ ∃ (ini : List (Nat × Int)) (last : Nat × Int), pre = ini ++ [last] ∧ C.d1[ini.length]? ≠ some last)
              (Cx.Live.from HL17.out.be.size (fun E hE => by simp at hE; have := HOrd.out; omega) (fun pre : List (Nat × Int) => 2 * pre.length)) (fun _ _ _ _ _ hs _ _ => hs) HL17.out ?HG ?doneG ?stopG
            case HG =>
              apply Exists.intro
              refine ⟨?assignG, ?bodyG⟩
              case assignG =>
                intro l' x W K hK
                have HK := show Hid _ from hK
                clear hK
                gi_wp2
                exact HK.out
              case bodyG =>
                rintro l' pre ⟨x1, x2⟩ W hl hr hL hlt
                obtain ⟨⟨y1, y2⟩, hy⟩ : ∃ y, C.d1[pre.length]? = some y := ⟨_, List.getElem?_eq_getElem hlt⟩
                have hLv := hL
                obtain ⟨eo, k1, k2⟩ := hLv.1.w1 _ _ hy
                obtain ⟨k8, k9, k10, f10, hSt⟩ := H8.out W hLv.be
                have x11 := hLv.1.x11
                have xx := hLv.1.x17
                have cc := hL.2.2.2.2.2.1
                have ff := hL.2.2.2.2.2.2
                have hln := hLv.1.s1.len
                rw [eo] at xx
                have HL := show Hid _ from hL
                have HLv2 : Hid (C.Live w1.heap.size w1 [D2, D] (2 * pre.length) W) := hLv
                have HSt : Hid (IsSt W mo m) := hSt
                obtain ⟨kk, hkk⟩ : ∃ kk, kk = 2 * pre.length := ⟨_, rfl⟩
                obtain ⟨N1, hN1⟩ : ∃ N, N = 2 * C.d1.length := ⟨_, rfl⟩
                rw [← hkk] at k1 k2 cc
                rw [← hN1] at xx
                have hq0 : decide ((N1 : Int) ≤ (kk : Int) + 1) = false := by simp; omega
                have hq1 : (kk : Int) < (N1 : Int) := by omega
                have hq2 : (kk : Int) + 1 < (N1 : Int) := by omega
                have hq3 : (kk : Int) ≤ 8388608 := by omega
                have HKK : Hid (kk = 2 * pre.length ∧ C.d1[pre.length]? = some (y1, y2) ∧ pre.length ≤ 4194304) := ⟨hkk, hy, by omega⟩
                clear hL hLv hSt eo hkk hN1 hln hy hlt
                dsimp only at k1 k2 ⊢
                by_cases e1 : (y1 : Int) = (x1 : Int)
                · have p1 : ((y1 : Int) != (x1 : Int)) = false := by simp; omega
                  by_cases e2 : y2 = x2
                  · have p2 : (y2 != x2) = false := by simp [e2]
                    have L4 := HLv2.out
                    rw [← HKK.out.1] at L4
                    have HR := show Hid _ from L4.round (KeepsFrom.refl w17.heap.size W) (Kq.refl _ W)
                    clear L4
                    gi_wp2
                    exact ⟨HR.out.1, HR.out.2.1, by dsimp only; rw [show 2 * (pre ++ [(x1, x2)]).length = kk + 2 by rw [List.length_append, HKK.out.1]; simp; omega]; exact HR.out.2.2⟩
                  · have p2 : (y2 != x2) = true := by simp [e2]
                    gi_wp2
                    exact ⟨(KeepsOthers.setCell _ _ _).from _, (fun h => ⟨rfl, pre, (x1, x2), rfl, h⟩) (fun h => by rw [HKK.out.2.1] at h; cases h; exact e2 rfl)⟩
                · have p1 : ((y1 : Int) != (x1 : Int)) = true := by simp; omega
                  gi_wp2
                  exact ⟨(KeepsOthers.setCell _ _ _).from _, (fun h => ⟨rfl, pre, (x1, x2), rfl, h⟩) (fun h => by rw [HKK.out.2.1] at h; cases h; exact e1 rfl)⟩
            case doneG =>
              rintro D3 ys W hD3 rfl hL hK3
              have x11 := hL.1.x11
              have xx := hL.1.x17
              have cc := hL.2.2.2.2.2.1
              obtain ⟨k8, k9, k10, f10, _⟩ := H8.out W hL.be
              have HL : Hid (C.Live w1.heap.size w1 [D2, D] (2 * C.d1.length) W) := hL
              have hln := hL.1.s1.len
              obtain ⟨o9, a9, har9, hz1, hz2, _⟩ := hL.step
              have HWh : Hid (Calls Try.prog 16 #[.pointer (some ⟨C.g, 0, none⟩), I n, I l] W fun r w' => r = .returned (.bool true) ∧ Below W.heap.size W w') := by
                have := whole_any har9
                rw [hz1, hz2, hCn.out.1, hCn.out.2] at this
                exact this
              obtain ⟨N1, hN1⟩ : ∃ N, N = 2 * C.d1.length := ⟨_, rfl⟩
              rw [← hN1] at xx cc
              have hq3 : (N1 : Int) ≤ 8388608 := by omega
              clear hL har9 hz1 hz2 hN1 hln
              gi_wp2
              refine ⟨trivial, (callsIn_wide.2 HWh.out).mono ?_⟩
              rintro r W9 ⟨rfl, hb9⟩
              have L9 := HL.out.below hb9
              obtain ⟨_, _, k10', f10', _⟩ := H8.out W9 L9.be
              have hK3' : W9.heap[D3]? = some (.deferred (some [])) := (hb9.block D3 (Array.getElem?_eq_some_iff.1 hK3).1).trans hK3
              have hK2' : W9.heap[D2]? = some (.deferred (some [])) := L9.2.2.1 D2 (by simp)
              have hK1' : W9.heap[D]? = some (.deferred (some [])) := L9.2.2.1 D (by simp)
              have HW9 : Hid (Below w.heap.size w W9) := HQ.out.2.2.2.2.trans (L9.be.mono HQ.out.2.2.2.2.size)
              have HDs : Hid (W9.heap[D3]? = some (.deferred (some [])) ∧ W9.heap[D2]? = some (.deferred (some [])) ∧ W9.heap[D]? = some (.deferred (some [])) ∧ W9.cell? ⟨w.heap.size + 1 + 1, 0, none⟩ = some (.bool false) ∧ D < D2 ∧ D2 < D3 ∧ w.heap.size ≤ D) := ⟨hK3', hK2', hK1', k10', HOrd.out.1, by have := HOrd.out.2.1; omega, by have := HOrd.out.2.2; have := HQ.out.2.2.2.1; omega⟩
              clear L9 hK3 hK3' hK2' hK1' hb9 k8 k9 k10 f10 x11 xx cc
              gi_wp2
              have hA3 := (KeepsOthers.setCell W9 ⟨w.heap.size + 1 + 1, 0, none⟩ (.bool true)).same D3 _ HDs.out.1 rfl
              have hA2 := (KeepsOthers.setCell W9 ⟨w.heap.size + 1 + 1, 0, none⟩ (.bool true)).same D2 _ HDs.out.2.1 rfl
              have hA1 := (KeepsOthers.setCell W9 ⟨w.heap.size + 1 + 1, 0, none⟩ (.bool true)).same D _ HDs.out.2.2.1 rfl
              have hd12 := HDs.out.2.2.2.2.1
              have hd23 := HDs.out.2.2.2.2.2.1
              have hwD := HDs.out.2.2.2.2.2.2
              have hB2 : ((W9.setCell ⟨w.heap.size + 1 + 1, 0, none⟩ (.bool true)).putObj D3 (.deferred none)).heap[D2]? = some (.deferred (some [])) := (World.putObj_heap_other (by omega)).trans hA2
              have hB1 : ((W9.setCell ⟨w.heap.size + 1 + 1, 0, none⟩ (.bool true)).putObj D3 (.deferred none)).heap[D]? = some (.deferred (some [])) := (World.putObj_heap_other (by omega)).trans hA1
              have hC1 : (((W9.setCell ⟨w.heap.size + 1 + 1, 0, none⟩ (.bool true)).putObj D3 (.deferred none)).putObj D2 (.deferred none)).heap[D]? = some (.deferred (some [])) := (World.putObj_heap_other (by omega)).trans hB1
              refine ⟨by simp, .inl ⟨_, _, rfl, run_takeDeferred hA3, by simp, .inl ⟨_, _, rfl, run_takeDeferred hB2, by simp, .inl ⟨_, _, rfl, run_takeDeferred hC1, ?_⟩⟩⟩⟩
              have hc3 := cell_kept (World.cell?_setCell_same' W9 ⟨w.heap.size + 1 + 1, 0, none⟩ (.bool true) (by rw [HDs.out.2.2.2.1]; rfl)) (grownBy_putObj' _ D3 (.deferred none)) (fun r e => by cases e; exact ⟨_, hA3, rfl⟩)
              have hc4 := cell_kept hc3 (grownBy_putObj' _ D2 (.deferred none)) (fun r e => by cases e; exact ⟨_, hB2, rfl⟩)
              have hc5 := cell_kept hc4 (grownBy_putObj' _ D (.deferred none)) (fun r e => by cases e; exact ⟨_, hC1, rfl⟩)
              refine ⟨.bool true, ?_, rfl, (((HW9.out.setCell (p := ⟨w.heap.size + 1 + 1, 0, none⟩) (by simp; omega) _).trans (belowK_b (w := w) (Nat.le_refl _) _ D3 _ _ (by omega) hA3 rfl rfl)).trans (belowK_b (w := w) (Nat.le_refl _) _ D2 _ _ (by omega) hB2 rfl rfl)).trans (belowK_b (w := w) (Nat.le_refl _) _ D _ _ (by omega) hC1 rfl rfl)⟩
              simp [results, Try.f6, go_sem, hc5]
            case stopG =>
              rintro D cc pre W hD ⟨k, hk, rfl⟩ ⟨rfl, ini, last, e1, e2⟩ hK
              exact absurd (take_last e1) e2

theorem walk (n l : Int) (ao : Option Addr) (s : List St) (cap : Nat) (mo : Option Addr) (m : List St) (capm : Nat) (stop : Int) (W : World) (hs : IsSt W ao s) (hlen : s.length ≤ 4398046510976) (hm : IsSt W mo m) (hlenm : m.length ≤ 4398046510976) :
    Calls Try.prog 6 #[I n, I l, .slice ao s.length cap, .slice mo m.length capm, I stop] W fun e w' => e = .returned (.bool true) ∧ Below W.heap.size W w' := by
  by_cases h : okA n l ∧ n ≤ 2000
  · by_cases hl : l = 0
    · exact walk_no n l ao s cap mo m capm stop W (Or.inr hl)
    · obtain ⟨n, rfl⟩ := Int.eq_ofNat_of_zero_le h.1.1.1
      obtain ⟨l, rfl⟩ := Int.eq_ofNat_of_zero_le h.1.2.1
      exact walk_ok n l ao s cap mo m capm stop W h.1 h.2 (by omega) hs hlen hm hlenm
  · exact walk_no n l ao s cap mo m capm stop W (Or.inl h)
end Go.Proofs.Ytoeioppmlnognaa.arenaSeqs
