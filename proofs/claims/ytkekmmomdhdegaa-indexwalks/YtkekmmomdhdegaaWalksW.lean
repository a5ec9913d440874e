import Derived.Test.YtkekmmomdhdegaaIxCy
import Derived.Test.YtkekmmomdhdegaaIxOpen
import Derived.Test.YtkekmmomdhdegaaRxSame
import Derived.Sort.CutIn
import Derived.Stop.RegionWithIn
import Derived.Laws.EntriesVeiled
namespace Go.Proofs.Ytkekmmomdhdegaa.indexWalks
open Go.RowKit Go.Shelf Go.Proofs.Ytkekmmomdhdegaa.Ix Go.Proofs.Ytkekmmomdhdegaa.Ii Go.Proofs.Ytkekmmomdhdegaa.Rx

attribute [local go_sem] Oper.semAt_some
open BigFrame

set_option maxHeartbeats 25600000 in
set_option maxRecDepth 100000 in
theorem walk_ok (m : Nat) (ao : Option Addr) (s : List St) (cap : Nat) (stop : Int) (w : World) (hm : m ≤ 4096) (hs : IsSt w ao s) (hlen : s.length ≤ 11728124029610) :
    Calls Try.prog 7 #[I m, .slice ao s.length cap, I stop] w fun e w' => e = .returned (.bool true) ∧ Below w.heap.size w w' := by
  have HS : Hid (IsSt w ao s) := hs
  have hm0 : ¬ (m : Int) < 0 := by omega
  have hm1 : (m : Int) ≤ 4096 := by omega
  have HM : Hid (m ≤ 4194304) := by show m ≤ _; omega
  have hls : (s.length : Int) ≤ 11728124029610 := by omega
  have hmix : Try.prog.follows .mixedOrders = true := by kernel_rfl
  clear hs hlen hm
  refine (callsIn_wide (n := 9)).1 ?_
  refine callsIn_of_wp_marks Try.func7 rfl trivial ?_ rfl
  simp only [Try.ntmps7, List.size_toArray, List.length_cons, List.length_nil, Nat.reduceAdd, Nat.reduceSub, Array.replicate_succ, Array.replicate_zero, List.push_toArray, List.append_toArray, List.nil_append, List.cons_append]
  gi_wp2
  refine ⟨trivial, (callsIn_wide.2 (known_any _)).mono ?_⟩
  rintro e w1 ⟨rfl, hB1⟩
  have hz1 : w.heap.size + 2 ≤ w1.heap.size := by have := hB1.size; simpa using this
  have q5 : w1.heap[w.heap.size]? = some (.cells #[I stop] 3 (0, 0)) := (hB1.block _ (by simp; omega)).trans ((Below.heap_alloc _ _ _ (by simp)).trans (heap_alloc_new w _))
  have q6 : w1.heap[w.heap.size + 1]? = some (.cells #[.bool false] 4 (0, 0)) := (hB1.block _ (by simp)).trans (by have := heap_alloc_new (w.alloc (.cells #[I stop] 3)) (.cells #[.bool false] 4); rw [World.size_alloc] at this; exact this)
  have HQ : Hid (w1.heap[w.heap.size]? = some (.cells #[I stop] 3 (0, 0)) ∧ w1.heap[w.heap.size + 1]? = some (.cells #[.bool false] 4 (0, 0)) ∧ w.heap.size + 2 ≤ w1.heap.size ∧ Below w.heap.size w w1) := ⟨q5, q6, hz1, (((Below.refl _ w).alloc (Nat.le_refl _) _).alloc (by simp) _).trans (hB1.mono (by simp; omega))⟩
  clear hB1 hz1 q5 q6
  gi_wp2
  refine ⟨trivial, (callsIn_wide.2 (new_ok m HM.out w1)).mono ?_⟩
  rintro e w2 ⟨g, rfl, hBo⟩
  obtain ⟨o, hMine⟩ := hBo.mine
  have HA3 : Hid (Ixx [w2.heap.size] w1.heap.size w1 (w2.alloc (.cells #[.pointer (some ⟨g, 0, none⟩)] 24)) g (Ix.new (dbl m) m) ∧ (w2.alloc (.cells #[.pointer (some ⟨g, 0, none⟩)] 24)).cell? ⟨w2.heap.size, 0, none⟩ = some (.pointer (some ⟨g, 0, none⟩))) := by
    have h0 : Ixx [] w1.heap.size w1 w2 g (Ix.new (dbl m) m) := ⟨o, hMine, fun _ _ hm => (by cases hm), fun _ hm => (by cases hm)⟩
    refine ⟨h0.more (S := [w2.heap.size]) ((Below.refl _ w2).alloc (Nat.le_refl _) _) (fun k hk => ?_), by rw [World.cell?, heap_alloc_new]; rfl⟩
    have : k = w2.heap.size := by simpa using hk
    subst this
    exact ⟨Nat.le_refl _, _, _, _, heap_alloc_new w2 _⟩
  have c7 := HA3.out.2
  clear hBo hMine
  gi_upto_region 6 with fail
  generalize w2.alloc (.cells #[.pointer (some ⟨g, 0, none⟩)] 24) = w3 at *
  iterate 25 gi_step
  gi_cut [9] from 41 (fun _ wx => ∃ a, Ixx [w2.heap.size] w1.heap.size w1 wx g a ∧ wx.cell? ⟨w2.heap.size, 0, none⟩ = some (.pointer (some ⟨g, 0, none⟩)))
  case first =>
    refine wpIn_mono (Q := Exit.then _ (fun _ _ _ => False)) ?_ (fun e _ _ hq => by
      cases e with
      | normal => exact hq
      | _ => exact hq.elim)
    gi_wp2
    gi_loopg [9] (min s.length 200) (fun r vi wr => ∃ (i : Nat) (a : Ix El), i + r = min s.length 200 ∧ vi = I i ∧ Ixx [w2.heap.size] w1.heap.size w1 wr g a ∧ wr.cell? ⟨w2.heap.size, 0, none⟩ = some (.pointer (some ⟨g, 0, none⟩)))
    case atStart => exact ⟨0, _, by omega, rfl, HA3.out.1, HA3.out.2⟩
    case round =>
      obtain ⟨i, a, hir, rfl, hA, hc7⟩ := hrel
      have HA : Hid (Ixx [w2.heap.size] w1.heap.size w1 wr g a ∧ wr.cell? ⟨w2.heap.size, 0, none⟩ = some (.pointer (some ⟨g, 0, none⟩)) ∧ i + gk = min s.length 200) := ⟨hA, hc7, hir⟩
      clear HA3 c7 hir
      by_cases h1 : i < s.length
      · have h1' : (i : Int) < (s.length : Int) := by omega
        by_cases h2 : i < 200
        · have h2' : (i : Int) < 200 := by omega
          obtain ⟨st, hst⟩ : ∃ st, s[i]? = some st := ⟨_, List.getElem?_eq_getElem h1⟩
          have hW1 : Below w.heap.size w wr := HQ.out.2.2.2.trans (hA.be.mono HQ.out.2.2.2.size)
          obtain ⟨b, off, e0, _, c0, c1, c2⟩ := (HS.out.below hW1 (Nat.le_refl _)) i st hst
          obtain ⟨o1, har, hstep⟩ := (hA.below ((Below.refl _ wr).drew)).step
          have HD := show Hid _ from do_any har st
          have HStep := show Hid _ from hstep
          subst e0
          clear hst hW1 har hstep hA
          gi_wp2
          gi_region_with_o (refine ⟨trivial, (callsIn_wide.2 HD.out).mono ?_⟩; rintro r w4 ⟨rfl, hG⟩)
          all_goals
            obtain ⟨k1, k2, _⟩ := HStep.out _ _ hG
            have HA4 : Hid (Ixx [w2.heap.size] w1.heap.size w1 w4 g (act a st) ∧ w4.cell? ⟨w2.heap.size, 0, none⟩ = some (.pointer (some ⟨g, 0, none⟩))) := ⟨k1, (World.cell?_of_block (a := ⟨w2.heap.size, 0, none⟩) (k2.2 _ (by simp))).trans HA.out.2.1⟩
            clear k1 k2 hG HD HStep c0 c1 c2 hc7
            gi_wp2
            gi_roundg (min s.length 200 - (i + 1))
            case measure => have := HA.out.2.2; omega
            case rel => exact ⟨i + 1, _, by omega, by go_num, HA4.out.1, HA4.out.2⟩
        · have h2' : decide ((i : Int) < 200) = false := by simp; omega
          gi_wp2
          gi_meet
          case rel => exact ⟨a, HA.out.1, HA.out.2.1⟩
      · have h1' : decide ((i : Int) < (s.length : Int)) = false := by simp; omega
        gi_wp2
        gi_meet
        case rel => exact ⟨a, HA.out.1, HA.out.2.1⟩
  case rest =>
    obtain ⟨a, hA, hc7⟩ := hcut
    have HA : Hid (Ixx [w2.heap.size] w1.heap.size w1 wc g a) := hA
    clear HA3 c7 hA
    have hB5 : Below wc.heap.size wc ((wc.alloc (.cells #[.slice none 0 0] 30)).alloc (.cells #[.slice none 0 0] 31)) := ((Below.refl _ wc).alloc (Nat.le_refl _) _).alloc (by simp) _
    have H5 : Hid (Below wc.heap.size wc ((wc.alloc (.cells #[.slice none 0 0] 30)).alloc (.cells #[.slice none 0 0] 31)) ∧ ((wc.alloc (.cells #[.slice none 0 0] 30)).alloc (.cells #[.slice none 0 0] 31)).heap.size = wc.heap.size + 2 ∧ ((wc.alloc (.cells #[.slice none 0 0] 30)).alloc (.cells #[.slice none 0 0] 31)).heap[wc.heap.size]? = some (.cells #[.slice none 0 0] 30 (0, 0)) ∧ ((wc.alloc (.cells #[.slice none 0 0] 30)).alloc (.cells #[.slice none 0 0] 31)).heap[wc.heap.size + 1]? = some (.cells #[.slice none 0 0] 31 (0, 0))) :=
      ⟨hB5, by simp, (Below.heap_alloc _ _ _ (by simp)).trans (heap_alloc_new wc _), by have := heap_alloc_new (wc.alloc (.cells #[.slice none 0 0] 30)) (.cells #[.slice none 0 0] 31); rw [World.size_alloc] at this; exact this⟩
    have HA5 : Hid (Ixx [w2.heap.size] w1.heap.size w1 ((wc.alloc (.cells #[.slice none 0 0] 30)).alloc (.cells #[.slice none 0 0] 31)) g a) := HA.out.below hB5
    have c7 : ((wc.alloc (.cells #[.slice none 0 0] 30)).alloc (.cells #[.slice none 0 0] 31)).cell? ⟨w2.heap.size, 0, none⟩ = some (.pointer (some ⟨g, 0, none⟩)) := (World.cell?_of_block (a := ⟨w2.heap.size, 0, none⟩) (hB5.block _ (HA.out.lt _ (by simp)))).trans hc7
    have HC7 : Hid (((wc.alloc (.cells #[.slice none 0 0] 30)).alloc (.cells #[.slice none 0 0] 31)).cell? ⟨w2.heap.size, 0, none⟩ = some (.pointer (some ⟨g, 0, none⟩)) ∧ w2.heap.size < wc.heap.size) := ⟨c7, HA.out.lt _ (by simp)⟩
    clear hB5 hc7
    gi_wp2
    generalize (wc.alloc (.cells #[.slice none 0 0] 30)).alloc (.cells #[.slice none 0 0] 31) = w5 at *
    obtain ⟨o5, hix5, _⟩ := HA5.out.step
    refine ⟨trivial, (callsIn_wide.2 (all_seq hix5)).mono ?_⟩
    rintro r w6 ⟨q, d, rfl, hq, hAll, hb6, hS⟩
    simp only [clo]
    have HCnt : Hid (d.length = a.count) := by
      show d.length = a.count
      rw [hAll.perm.length_eq, hix5.2.card]
    obtain ⟨z7, b7, n7⟩ := alloc_facts w6 #[.func (.func 51) #[] #[.pointer (some ⟨q.A, 0, none⟩)]] 59
    have HF7 : Hid (Sq w6 q d ∧ (∀ k ∈ q.S, w5.heap.size ≤ k ∧ ∃ cs T f, w6.heap[k]? = some (.cells cs T f)) ∧ Below w5.heap.size w5 w6) := ⟨hq, hS, hb6⟩
    have HN7 : Hid ((w6.alloc (.cells #[.func (.func 51) #[] #[.pointer (some ⟨q.A, 0, none⟩)]] 59)).heap.size = w6.heap.size + 1 ∧ Below w6.heap.size w6 (w6.alloc (.cells #[.func (.func 51) #[] #[.pointer (some ⟨q.A, 0, none⟩)]] 59)) ∧ (w6.alloc (.cells #[.func (.func 51) #[] #[.pointer (some ⟨q.A, 0, none⟩)]] 59)).heap[w6.heap.size]? = some (.cells #[.func (.func 51) #[] #[.pointer (some ⟨q.A, 0, none⟩)]] 59 (0, 0))) := ⟨z7, b7, n7⟩
    clear hq hAll hb6 hS z7 b7 n7 hix5 c7
    gi_wp2
    generalize w6.alloc (.cells #[.func (.func 51) #[] #[.pointer (some ⟨q.A, 0, none⟩)]] 59) = w7 at *
    have hB7 : Below w5.heap.size w5 w7 := HF7.out.2.2.trans (HN7.out.2.1.mono HF7.out.2.2.size)
    have HQ7 : Hid (Sq w7 q d) := HF7.out.1.below HN7.out.2.1
    have HK0 : Hid (Kw w7 wc.heap.size (wc.heap.size + 1) [] w7) := by
      have hz := H5.out.2.1
      have hs := hB7.size
      exact ⟨.slice none 0 0, .slice none 0 0, (hB7.block _ (by omega)).trans H5.out.2.2.1, (hB7.block _ (by omega)).trans H5.out.2.2.2, ⟨rfl, Or.inl ⟨rfl, rfl⟩⟩, ⟨rfl, Or.inl ⟨rfl, rfl⟩⟩, Fr.refl _ _, by omega, by omega⟩
    have HS7 : Hid (∀ k ∈ q.S, k < w7.heap.size ∧ k ≠ wc.heap.size ∧ k ≠ wc.heap.size + 1) := fun k hk => by
      have h1 := (HF7.out.2.1 k hk).1
      have h2 := H5.out.2.1
      have h3 := HQ7.out.lt k hk
      omega
    obtain ⟨iu, hiu, hiu0, hiu1, hiu2⟩ := info_parts infou
    obtain ⟨ii, hii, hii0, hii1, hii2⟩ := info_parts infoi
    have HLen : Hid (d.length ≤ 4194304) := HQ7.out.len
    clear hB7
    refine rangeH rfl (by omega) (gf := 51) (lb := #[.pointer (some ⟨q.A, 0, none⟩)]) rfl trivial (enters_of Try.func51 (by kernel_rfl) rfl)
      (seq_stops Fence.wide 8 trivial rfl (by omega) q d w7 HQ7.out) (Kq.refl _) Kq.trans (Kq.put (fun k hk => HQ7.out.lt k hk)) (Below.refl _ _) (fun _ => rfl)
      (fun pre W => Kw w7 wc.heap.size (wc.heap.size + 1) pre W) (fun (_ : Code) (_ : List (Nat × El)) (_ : World) => False)
      (Kw.from (Nat.le_refl _)) (fun _ _ _ _ _ hs _ _ => hs) HK0.out ?HA1 ?done1 ?stop1
    case HA1 =>
      apply Exists.intro
      refine ⟨?assign1, ?body1⟩
      case assign1 =>
        intro l' x W K hK
        have HK := show Hid _ from hK
        clear hK
        gi_wp2
        exact HK.out
      case body1 =>
        rintro l' pre ⟨x1, x2⟩ W hl hr ⟨v1, v2, hKv⟩ hlt
        have HKv : Hid (Kv w7 wc.heap.size (wc.heap.size + 1) W v1 v2 (kU pre) (vI pre)) := hKv
        have HLt : Hid (pre.length < 4194304) := by
          have := HLen.out
          show _ < _
          omega
        obtain ⟨c10, f10, _, _⟩ := hKv.cells
        have HKa : Hid (Kv w7 wc.heap.size (wc.heap.size + 1) (W.alloc (.cells #[U x1] 22)) v1 v2 (kU pre) (vI pre)) := hKv.below ((Below.refl _ W).alloc (Nat.le_refl _) _)
        clear hKv hl hr hlt
        gi_wp2_with (gi_at_builtin; refine wpListIn_append_own _ rfl _ _ 30 rfl w7.heap.size 22 iu (.int .u64 0) 1 8 Try.underlying30 hiu hiu0 hiu1 hiu2 rfl (by decide) v1 _ (kU pre) rfl HKa.out.o1 ⟨W.heap.size, 0, none⟩ 1 1 [U x1] rfl rfl ?c1 ?c2 ?c3 ?c4 ?c5 ?_)
        case c1 => exact cell_one W _ _
        case c2 => intro u hu; simp only [List.mem_cons, List.not_mem_nil, or_false] at hu; subst hu; rfl
        case c3 => have := HLt.out; unfold maxLen; simp; omega
        case c4 => have := HLt.out; simp; omega
        case c5 => have := HKa.out.fr.size; exact this
        intro v1' W2 ho hg _
        have ho' : W2.ownsRow w7.heap.size 22 1 v1' ((kU pre).length + 1) (kU pre ++ [U x1]) := by rw [List.length_map]; exact ho
        obtain ⟨eA, hKv2⟩ := HKa.out.put1 hg ho'
        have HK2 : Hid (Kv w7 wc.heap.size (wc.heap.size + 1) (W2.setCell ⟨wc.heap.size, 0, none⟩ v1') v1' v2 (kU pre ++ [U x1]) (vI pre)) := hKv2
        have HKp2 : Hid (KeepsOthers W (W2.setCell ⟨wc.heap.size, 0, none⟩ v1') ∧ W.heap.size ≤ (W2.setCell ⟨wc.heap.size, 0, none⟩ v1').heap.size) := ⟨((KeepsOthers.alloc W _).trans (KeepsOthers.of_grownBy hg (fun j o hj ho => own_cells HKa.out.o1 j o hj ho))).trans (KeepsOthers.setCell _ _ _), by have := hg.size; simp [World.setCell] at *; omega⟩
        obtain ⟨c10', f10'⟩ := box_cell eA
        obtain ⟨bo, bc, rfl, _⟩ := own_form ho
        clear ho ho' hg eA hKv2 c10 f10
        gi_upto_region 19 with fail
        generalize W2.setCell ⟨wc.heap.size, 0, none⟩ (.slice bo (pre.length + 1) bc) = W3 at *
        clear c10' f10'
        obtain ⟨_, _, c11, f11⟩ := HK2.out.cells
        have HKb : Hid (Kv w7 wc.heap.size (wc.heap.size + 1) (W3.alloc (.cells #[I x2] 3)) (.slice bo (pre.length + 1) bc) v2 (kU pre ++ [U x1]) (vI pre)) := HK2.out.below ((Below.refl _ W3).alloc (Nat.le_refl _) _)
        gi_wp2_with (gi_at_builtin; refine wpListIn_append_own _ rfl _ _ 31 rfl w7.heap.size 3 ii (.int .i64 0) 1 8 Try.underlying31 hii hii0 hii1 hii2 rfl (by decide) v2 _ (vI pre) rfl HKb.out.o2 ⟨W3.heap.size, 0, none⟩ 1 1 [I x2] rfl rfl ?c1 ?c2 ?c3 ?c4 ?c5 ?_)
        case c1 => exact cell_one W3 _ _
        case c2 => intro u hu; simp only [List.mem_cons, List.not_mem_nil, or_false] at hu; subst hu; rfl
        case c3 => have := HLt.out; unfold maxLen; simp; omega
        case c4 => have := HLt.out; simp; omega
        case c5 => have := HKb.out.fr.size; exact this
        intro v2' W4 ho hg _
        have ho' : W4.ownsRow w7.heap.size 3 1 v2' ((vI pre).length + 1) (vI pre ++ [I x2]) := by rw [List.length_map]; exact ho
        obtain ⟨eB, hKv2⟩ := HKb.out.put2 hg ho'
        have HPut : Hid (KeepsFrom w7.heap.size W (W4.setCell ⟨wc.heap.size + 1, 0, none⟩ v2') ∧ Kq q.S W (W4.setCell ⟨wc.heap.size + 1, 0, none⟩ v2') ∧ Kw w7 wc.heap.size (wc.heap.size + 1) (pre ++ [(x1, x2)]) (W4.setCell ⟨wc.heap.size + 1, 0, none⟩ v2')) := by
          have hsz : W3.heap.size ≤ (W4.setCell ⟨wc.heap.size + 1, 0, none⟩ v2').heap.size := by have := hg.size; simp [World.setCell] at *; omega
          refine ⟨(HKp2.out.1.trans (((KeepsOthers.alloc W3 _).trans (KeepsOthers.of_grownBy hg (fun j o hj ho => own_cells HKb.out.o2 j o hj ho))).trans (KeepsOthers.setCell _ _ _))).from _, HKv.out.kq hKv2 (Nat.le_trans HKp2.out.2 hsz) HS7.out, .slice bo (pre.length + 1) bc, v2', ?_⟩
          simpa using hKv2
        obtain ⟨c11', f11'⟩ := box_cell eB
        obtain ⟨po, pc, rfl, _⟩ := own_form ho
        clear ho ho' hg eB hKv2 c11 f11
        gi_wp2
        exact HPut.out
    case stop1 =>
      rintro D cc pre W hD _ h hK
      exact h.elim
    case done1 =>
      rintro D ys W hD rfl ⟨v1, v2, hKv⟩ hK
      have hcw := H5.out.2.1
      have hb57 : Below w5.heap.size w5 w7 := HF7.out.2.2.trans (HN7.out.2.1.mono HF7.out.2.2.size)
      have hcx : wc.cell? ⟨w2.heap.size, 0, none⟩ = some (.pointer (some ⟨g, 0, none⟩)) := by rw [← HC7.out.1]; exact (World.cell?_of_block (a := ⟨w2.heap.size, 0, none⟩) (H5.out.1.block _ HC7.out.2)).symm
      obtain ⟨C, rfl, eX, eA, eB, eQ, rfl, rfl, rfl, rfl, hL, o8, hI8⟩ := setup HA.out hcx (H5.out.1.trans (hb57.mono H5.out.1.size)) HQ7.out (fun k hk => by
          obtain ⟨h1, cs, T, f, h2⟩ := HF7.out.2.1 k hk
          exact ⟨by omega, by omega, by omega, cs, T, f, (HN7.out.2.1.block k (HF7.out.1.lt k hk)).trans h2⟩) HN7.out.2.2 (by have := HF7.out.2.2.size; omega) (by have := HF7.out.2.2.size; omega) (by have := HF7.out.2.2.size; omega) (Nat.le_refl _) (by omega) hKv
      have HL : Hid (C.Live w1.heap.size w1 [] [D] W) := hL.defer hK
      have HD0 : Hid (w1.heap.size ≤ D ∧ D < W.heap.size) := ⟨by have := hL.be.size; have := HA.out.be.size; have := hb57.size; omega, (Array.getElem?_eq_some_iff.1 hK).1⟩
      have xx := hL.sta.xx
      have xk := hL.sta.xk
      rw [eX, eB, eA, eQ]
      clear hKv hcw hb57 hcx hL eX eA eB eQ HN7 HF7 HK0 HS7 HLen HQ7 H5 HC7 HA5 HA hiu hiu0 hiu1 hiu2 hii hii0 hii1 hii2 iu ii
      have hcnt : (a.count : Int) = (C.d.length : Int) := by have := HCnt.out; omega
      have HLn : Hid (∀ j, Calls Try.prog 13 #[.pointer (some ⟨C.g, 0, none⟩)] (W.drewN j) fun e w' => e = .returned (I C.d.length) ∧ w' = W.drewN j) := fun j => by
        rw [← hcnt]
        exact len_any (hI8.1.drewN j)
      have f13 : Fence.wide.fn 13 := trivial
      clear hcnt HCnt hI8
      gi_wp2
      gi_big_quiet_th (first | (gi_at_call 13; exact CallsIn.quiet_of_same (callsIn_wide.2 (HLn.out _))))
      have HL9 : Hid (C.Live w1.heap.size w1 [] [D] (W.drewN nq)) := HL.out.below (bel_drewN W nq)
      have HD9 : Hid (w1.heap.size ≤ D ∧ D < (W.drewN nq).heap.size) := ⟨HD0.out.1, Nat.lt_of_lt_of_le HD0.out.2 (bel_drewN W nq).size⟩
      clear HLn HL HD0 xx xk hK
      generalize W.drewN nq = W9 at *
      clear hD
      have H8 : Hid (∀ V, Below w1.heap.size w1 V → V.cell? ⟨w.heap.size, 0, none⟩ = some (I stop) ∧ V.cell? ⟨w.heap.size + 1, 0, none⟩ = some (.bool false) ∧ V.frozen? ⟨w.heap.size + 1, 0, none⟩ = false) := fun V hV => by
        have hz := HQ.out.2.2.1
        obtain ⟨k5, _⟩ := box_cell ((hV.block w.heap.size (by omega)).trans HQ.out.1)
        obtain ⟨k6, f6⟩ := box_cell ((hV.block (w.heap.size + 1) (by omega)).trans HQ.out.2.1)
        exact ⟨k5, k6, f6⟩
      have HL0 : Hid (C.Live w1.heap.size w1 [(W9.heap.size, 0)] [D] (W9.alloc (.cells #[I (0 : Nat)] 3))) := HL9.out.more 0
      have HM0 : Hid (Marks w1.heap.size 0 [D] (W9.alloc (.cells #[I (0 : Nat)] 3))) := ⟨rfl, by simp, fun E hE => by
        have : E = D := by simpa using hE
        subst this
        exact ⟨HD9.out.1, by have := HD9.out.2; simp; omega⟩⟩
      clear HL9 HD9
      gi_wp2
      refine loop_by 4 (fun k a W => ∃ bt Ds x16 x75 x76 x77 x78 x79 x146 x147 x148 x149 x150 x151 x152 x153 x154, a = { tmps := #[I (m : Int), Value.slice ao s.length cap, I stop, undef, undef, Value.pointer (some ⟨w.heap.size, 0, none⟩), Value.pointer (some ⟨w.heap.size + 1, 0, none⟩), Value.pointer (some ⟨C.bx, 0, none⟩), I 0, u9, Value.pointer (some ⟨C.bk, 0, none⟩), Value.pointer (some ⟨C.bv, 0, none⟩), Value.pointer (some ⟨C.bq, 0, none⟩), undef, undef, Value.pointer (some ⟨bt, 0, none⟩), x16, undef, undef, undef, undef, undef, Value.bool true, Value.bool false, I (m : Int), Value.bool (decide ((m : Int) < 0)), Value.bool (decide ((m : Int) < 0)), I (m : Int), Value.bool (decide (4096 < (m : Int))), Value.bool (decide ((m : Int) < 0) || decide (4096 < (m : Int))), Value.tuple #[Value.pointer (some ⟨C.g, 0, none⟩), I 0], I (m : Int), Value.tuple #[Value.pointer (some ⟨C.g, 0, none⟩), I 0], Value.pointer (some ⟨C.g, 0, none⟩), I 0, I 0, Value.bool false, Value.bool false, Value.pointer (some ⟨C.g, 0, none⟩), Value.bool false, Value.bool false, u41, u42, u43, u44, u45, u46, u47, u48, u49, u50, u51, u52, u53, u54, u55, u56, Value.pointer (some ⟨C.g, 0, none⟩), Value.func (Fn.func 51) #[] #[Value.pointer (some ⟨C.q.A, 0, none⟩)], Value.func (Fn.func 51) #[] #[Value.pointer (some ⟨C.q.A, 0, none⟩)], u60, u61, u62, u63, u64, u65, u66, u67, u68, u69, Value.slice C.pk C.d.length C.ck, Value.int IntKind.i64 (C.d.length : Int), Value.pointer (some ⟨C.g, 0, none⟩), I (C.d.length : Int), Value.bool false, x75, x76, x77, x78, x79, u80, u81, u82, u83, u84, u85, u86, u87, u88, u89, u90, u91, u92, u93, u94, u95, u96, u97, u98, u99, u100, u101, u102, u103, u104, u105, u106, u107, u108, u109, u110, u111, u112, u113, u114, u115, u116, u117, u118, u119, u120, u121, u122, u123, u124, u125, u126, u127, u128, u129, u130, u131, u132, u133, u134, u135, u136, u137, u138, u139, u140, u141, u142, u143, u144, u145, x146, x147, x148, x149, x150, x151, x152, x153, x154], defers := Ds.map mk } ∧ C.Live w1.heap.size w1 [(bt, k)] Ds W ∧ Marks w1.heap.size k Ds W) ?round _ _ ?start (by omega)
      case start => exact ⟨W9.heap.size, [D], _, _, _, _, _, _, _, _, _, _, _, _, _, _, _, rfl, HL0.out, HM0.out⟩
      case round =>
        rintro k a W ⟨bt, Ds, x16, x75, x76, x77, x78, x79, x146, x147, x148, x149, x150, x151, x152, x153, x154, rfl, hL, hMk⟩ hk
        obtain ⟨cT, fT⟩ := hL.bx (bt, k) (by simp)
        dsimp only at cT fT
        have HL : Hid (C.Live w1.heap.size w1 [(bt, k)] Ds W) := hL
        have HMk : Hid (Marks w1.heap.size k Ds W) := hMk
        obtain ⟨k5, k6, f6⟩ := H8.out W hL.be
        clear HL0 HM0
        by_cases hk3 : k = 3
        · subst hk3
          obtain ⟨D3, D2, D1, D0, rfl⟩ : ∃ D3 D2 D1 D0, Ds = [D3, D2, D1, D0] := by
            have := hMk.len
            match Ds, this with
            | [D3, D2, D1, D0], _ => exact ⟨D3, D2, D1, D0, rfl⟩
          clear hL hMk
          --END3
          have HDs : Hid ((∀ D ∈ [D3, D2, D1, D0], W.heap[D]? = some (.deferred (some []))) ∧ W.cell? ⟨w.heap.size + 1, 0, none⟩ = some (.bool false) ∧ D0 < D1 ∧ D1 < D2 ∧ D2 < D3 ∧ w.heap.size ≤ D0 ∧ Below w.heap.size w W) := by
            have h1 := HMk.out.srt
            have h2 := (HMk.out.at_ D0 (by simp)).1
            have h3 := HQ.out.2.2.1
            simp only [List.pairwise_cons, List.mem_cons, List.not_mem_nil, or_false, forall_eq_or_imp, forall_eq] at h1
            exact ⟨HL.out.ds, k6, h1.2.2.1, h1.2.1.1, h1.1.1, by omega, HQ.out.2.2.2.trans (HL.out.be.mono HQ.out.2.2.2.size)⟩
          gi_wp2
          obtain ⟨hds, hc0, h01, h12, h23, hwD, hbW⟩ := HDs.out
          have hA3 := (KeepsOthers.setCell W ⟨w.heap.size + 1, 0, none⟩ (.bool true)).same D3 _ (hds D3 (by simp)) rfl
          have hA2 := (KeepsOthers.setCell W ⟨w.heap.size + 1, 0, none⟩ (.bool true)).same D2 _ (hds D2 (by simp)) rfl
          have hA1 := (KeepsOthers.setCell W ⟨w.heap.size + 1, 0, none⟩ (.bool true)).same D1 _ (hds D1 (by simp)) rfl
          have hA0 := (KeepsOthers.setCell W ⟨w.heap.size + 1, 0, none⟩ (.bool true)).same D0 _ (hds D0 (by simp)) rfl
          have hbS := hbW.setCell (p := ⟨w.heap.size + 1, 0, none⟩) (by simp) (.bool true)
          have hcS := World.cell?_setCell_same' W ⟨w.heap.size + 1, 0, none⟩ (.bool true) (by rw [hc0]; rfl)
          refine ⟨by simp, .inl ⟨_, _, rfl, run_takeDeferred hA3, by simp, .inl ⟨_, _, rfl, run_takeDeferred ((World.putObj_heap_other (by omega)).trans hA2), by simp, .inl ⟨_, _, rfl, run_takeDeferred ((World.putObj_heap_other (by omega)).trans ((World.putObj_heap_other (by omega)).trans hA1)), by simp, .inl ⟨_, _, rfl, run_takeDeferred ((World.putObj_heap_other (by omega)).trans ((World.putObj_heap_other (by omega)).trans ((World.putObj_heap_other (by omega)).trans hA0))), ?_⟩⟩⟩⟩⟩
          have hB2 := (World.putObj_heap_other (w := W.setCell ⟨w.heap.size + 1, 0, none⟩ (.bool true)) (o := .deferred none) (show D2 ≠ D3 by omega)).trans hA2
          have hB1 := (World.putObj_heap_other (w := W.setCell ⟨w.heap.size + 1, 0, none⟩ (.bool true)) (o := .deferred none) (show D1 ≠ D3 by omega)).trans hA1
          have hB0 := (World.putObj_heap_other (w := W.setCell ⟨w.heap.size + 1, 0, none⟩ (.bool true)) (o := .deferred none) (show D0 ≠ D3 by omega)).trans hA0
          have b3 := belowK_b' (ob' := .deferred none) hbS (show w.heap.size ≤ D3 by omega) hA3
          have c3 := cell_kept hcS (grownBy_putObj' _ D3 (.deferred none)) (fun r e => by cases e; exact ⟨_, hA3, rfl⟩)
          generalize (W.setCell ⟨w.heap.size + 1, 0, none⟩ (.bool true)).putObj D3 (.deferred none) = X3 at *
          have hC1 := (World.putObj_heap_other (w := X3) (o := .deferred none) (show D1 ≠ D2 by omega)).trans hB1
          have hC0 := (World.putObj_heap_other (w := X3) (o := .deferred none) (show D0 ≠ D2 by omega)).trans hB0
          have b2 := belowK_b' (ob' := .deferred none) b3 (show w.heap.size ≤ D2 by omega) hB2
          have c2 := cell_kept c3 (grownBy_putObj' _ D2 (.deferred none)) (fun r e => by cases e; exact ⟨_, hB2, rfl⟩)
          generalize X3.putObj D2 (.deferred none) = X2 at *
          have hE0 := (World.putObj_heap_other (w := X2) (o := .deferred none) (show D0 ≠ D1 by omega)).trans hC0
          have b1 := belowK_b' (ob' := .deferred none) b2 (show w.heap.size ≤ D1 by omega) hC1
          have c1 := cell_kept c2 (grownBy_putObj' _ D1 (.deferred none)) (fun r e => by cases e; exact ⟨_, hC1, rfl⟩)
          generalize X2.putObj D1 (.deferred none) = X1 at *
          have b0 := belowK_b' (ob' := .deferred none) b1 hwD hE0
          have c0 := cell_kept c1 (grownBy_putObj' _ D0 (.deferred none)) (fun r e => by cases e; exact ⟨_, hE0, rfl⟩)
          refine ⟨.bool true, ?_, rfl, b0⟩
          simp [results, Try.f7, go_sem, c0]
        · have hk1 : (k : Int) < 3 := by omega
          have hk1' : (k : Int) ≤ 3 := by omega
          have HLn : Hid (C.Live w1.heap.size w1 [(W.heap.size, 0), (bt, k)] Ds (W.alloc (.cells #[I (0 : Nat)] 3))) := hL.more 0
          have xq := HLn.out.sta.xq
          have hzn : (W.alloc (.cells #[I (0 : Nat)] 3)).heap.size = W.heap.size + 1 := World.size_alloc _ _
          dsimp only [clo] at xq
          simp only [Int.natCast_zero] at xq HLn hzn
          clear hL hMk
          gi_wp2
          generalize W.alloc (.cells #[I 0] 3) = Wn at *
          obtain ⟨bn, hbn⟩ : ∃ bn, bn = W.heap.size := ⟨_, rfl⟩
          have HWn : Hid (Wn.heap.size = bn + 1 ∧ bn = W.heap.size) := ⟨by omega, hbn⟩
          rw [← hbn] at HLn ⊢
          clear xq cT fT k5 k6 f6 hzn hbn
          refine rangeH rfl (by omega) (gf := 51) (lb := #[.pointer (some ⟨C.q.A, 0, none⟩)]) rfl trivial (enters_of Try.func51 (by kernel_rfl) rfl)
            (seq_stops Fence.wide 8 trivial rfl (by omega) C.q C.d Wn HLn.out.sta.sq) (Kq.refl _) Kq.trans (Kq.put (fun k hk => HLn.out.sta.sq.lt k hk)) (Below.refl _ _) (fun _ => rfl)
            (fun pre V => C.Live w1.heap.size w1 [(bn, pre.length), (bt, k)] Ds V) (fun (cc : Code) (pre : List (Nat × El)) (V : World) => (cc = Code.ret ∧ Bad C.d pre) ∨ (cc = Code.exit 6 ∧ k = 0 ∧ ∃ n, C.Live w1.heap.size w1 [(bn, n), (bt, k)] Ds V))
            (Cy.Live.from HLn.out.be.size (fun E hE => by have := (HMk.out.at_ E hE).2; have := HWn.out.1; have := HWn.out.2; omega) (fun pre : List (Nat × Int) => [(bn, pre.length), (bt, k)]))
            (fun cc s A B row hs hg hr => hs.imp id (fun h => ⟨h.1, h.2.1, h.2.2.imp fun n hn => Cy.Live.from HLn.out.be.size (fun E hE => by have := (HMk.out.at_ E hE).2; have := HWn.out.1; have := HWn.out.2; omega) (fun _ : Unit => [(bn, n), (bt, k)]) () A B row hn hg hr⟩)) HLn.out ?HA2 ?done2 ?stop2
          case HA2 =>
            apply Exists.intro
            refine ⟨?assign2, ?body2⟩
            case assign2 =>
              intro l' x V K hK
              have HK := show Hid _ from hK
              clear hK
              gi_wp2
              exact HK.out
            case body2 =>
              rintro l' pre ⟨x1, x2⟩ V hl ⟨rr, hrr⟩ hLV hlt
              obtain ⟨y, hy⟩ : ∃ y, C.d[pre.length]? = some y := ⟨_, List.getElem?_eq_getElem hlt⟩
              obtain ⟨ek, ev1, k1, k2⟩ := hLV.sta.at_ _ _ hy
              have xk := hLV.sta.xk
              have xv := hLV.sta.xv
              rw [ek] at xk
              rw [ev1] at xv
              obtain ⟨cN, fN⟩ := hLV.bx (bn, pre.length) (by simp)
              dsimp only at cN fN
              obtain ⟨k5, k6, f6⟩ := H8.out V hLV.be
              have hln := hLV.sta.sq.len
              have hll : (C.d.length : Int) ≤ 4194304 := by omega
              have hn1 : (pre.length : Int) < (C.d.length : Int) := by omega
              have hn2 : decide (C.d.length ≤ pre.length) = false := by simp; omega
              have HLV : Hid (C.Live w1.heap.size w1 [(bn, pre.length), (bt, k)] Ds V) := hLV
              have HY : Hid (C.d[pre.length]? = some y ∧ pre.length < C.d.length) := ⟨hy, hlt⟩
              have HRr : Hid (V.heap[l']? = some (.loop rr) ∧ Wn.heap.size ≤ l') := ⟨hrr, hl⟩
              have HYk : Hid (y.1 < 18446744073709551616) := hLV.sta.sq.kl y (List.mem_of_getElem? hy)
              clear hLV hy hlt hrr hl hln ek ev1
              by_cases h1 : x1 = y.1
              · have e1 : ((x1 : Int) != (y.1 : Int)) = false := by simp [h1]
                by_cases h2 : x2 = y.2
                · have e2 : ((x2 : Int) != y.2) = false := by simp [h2]
                  have HKk : Hid ((x1 + 1) % 18446744073709551616 < 18446744073709551616) := by show _ < _; omega
                  have hwr : IntKind.u64.wrap ((x1 : Int) + 1) = (((x1 + 1) % 18446744073709551616 : Nat) : Int) := by rw [IntKind.wrap_u64]; have hx := HYk.out; rw [← h1] at hx; omega
                  have HAft : Hid (C.Aft w1.heap.size w1 [(bn, pre.length + 1), (bt, k)] Ds Wn.heap.size V (V.setCell ⟨bn, 0, none⟩ (.int .i64 ((pre.length : Int) + 1)))) := by
                    obtain ⟨q1, q2, q3⟩ := HLV.out.round (KeepsFrom.refl Wn.heap.size V) (Kq.refl _ V)
                    exact ⟨q3, q1, q2⟩
                  have hrr1 : (V.setCell ⟨bn, 0, none⟩ (.int .i64 ((pre.length : Int) + 1))).heap[l']? = some (.loop rr) := (KeepsOthers.setCell _ _ _).same l' _ HRr.out.1 rfl
                  have xq := ((HAft.out.1.below ((alloc_facts _ #[I 0] 3).2.1))).sta.xq
                  dsimp only [clo] at xq
                  have HZ : Hid ((V.setCell ⟨bn, 0, none⟩ (.int .i64 ((pre.length : Int) + 1))).heap.size = V.heap.size) := by show _ = _; simp [World.setCell]
                  clear h1 h2 HYk
                  gi_wp2
                  generalize V.setCell ⟨bn, 0, none⟩ (.int .i64 ((pre.length : Int) + 1)) = V1 at *
                  rw [← HZ.out]
                  have hrr2 : (V1.alloc (.cells #[I 0] 3)).heap[l']? = some (.loop rr) := ((alloc_facts V1 #[I 0] 3).2.1.block l' (Array.getElem?_eq_some_iff.1 hrr1).1).trans hrr1
                  have HInn : Hid (Inn Wn.heap.size V1 0 (V1.alloc (.cells #[I 0] 3))) := Inn.new _ V1
                  have HSq2 : Hid (Sq (V1.alloc (.cells #[I 0] 3)) C.q C.d) := (HAft.out.1.below ((alloc_facts _ #[I 0] 3).2.1)).sta.sq
                  clear xq cN fN k5 k6 f6 xk xv k1 k2
                  generalize V1.alloc (.cells #[I 0] 3) = V2 at *
                  refine rangeN (l₀ := l') (r₀ := rr) rfl hrr2 (by omega) (gf := 51) (lb := #[.pointer (some ⟨C.q.A, 0, none⟩)]) rfl trivial (enters_of Try.func51 (by kernel_rfl) rfl)
                    ((seq_stops Fence.wide 6 trivial rfl (by omega) C.q C.d V2 HSq2.out).inRound l') (Kq.refl _) Kq.trans (Kq.put (fun k hk => HSq2.out.lt k hk)) (Below.refl _ _) (fun _ => rfl)
                    (fun pre2 X => Inn Wn.heap.size V1 pre2.length X) (fun (cc : Code) (pre2 : List (Nat × El)) (X : World) => (cc = Code.ret ∧ Bad C.d pre2) ∨ (cc = Code.exit 8 ∧ ∃ n, Inn Wn.heap.size V1 n X))
                    (Inn.from (by have := HInn.out.2.1.size; omega) (fun pre2 : List (Nat × Int) => pre2.length))
                    (fun cc s A B row hs hg hr => hs.imp id (fun h => ⟨h.1, h.2.imp fun n hn => Inn.from (by have := HInn.out.2.1.size; omega) (fun _ : Unit => n) () A B row hn hg hr⟩)) HInn.out ?HA3 ?done3 ?stop3
                  case HA3 =>
                    apply Exists.intro
                    refine ⟨?assign3, ?body3⟩
                    case assign3 =>
                      intro l2 x X K hK
                      have HK := show Hid _ from hK
                      clear hK
                      gi_wp2
                      exact HK.out
                    case body3 =>
                      rintro l2 pre2 ⟨z1, z2⟩ X hIn hlt2
                      have hLX := HAft.out.1.below hIn.2.1
                      obtain ⟨u, hu⟩ : ∃ u, C.d[pre2.length]? = some u := ⟨_, List.getElem?_eq_getElem hlt2⟩
                      obtain ⟨ek, ev1, k1, k2⟩ := hLX.sta.at_ _ _ hu
                      have xk := hLX.sta.xk
                      have xv := hLX.sta.xv
                      rw [ek] at xk
                      rw [ev1] at xv
                      obtain ⟨cM, fM⟩ := hIn.1
                      obtain ⟨k5, k6, f6⟩ := H8.out X hLX.be
                      have hm1 : (pre2.length : Int) < (C.d.length : Int) := by omega
                      have hm2 : decide (C.d.length ≤ pre2.length) = false := by simp; omega
                      have HR2 := show Hid _ from Inn.round (Bn := V2.heap.size) (S := C.q.S) hIn (fun x hx => HAft.out.1.sta.sq.lt x hx)
                      have k5' : (X.setCell ⟨V1.heap.size, 0, none⟩ (.int .i64 ((pre2.length : Int) + 1))).cell? ⟨w.heap.size, 0, none⟩ = some (I stop) := (H8.out _ (HAft.out.1.below HR2.out.2.2.2.1).be).1
                      have cM' := HR2.out.2.2.1.1
                      rw [show ((pre2.length + 1 : Nat) : Int) = (pre2.length : Int) + 1 by omega] at cM'
                      have HU : Hid (C.d[pre2.length]? = some u) := hu
                      clear hIn hLX hu hlt2 ek ev1
                      by_cases g1 : z1 = u.1
                      · have d1 : ((z1 : Int) != (u.1 : Int)) = false := by simp [g1]
                        by_cases g2 : z2 = u.2
                        · have d2 : ((z2 : Int) != u.2) = false := by simp [g2]
                          clear g1 g2
                          by_cases hst : stop < (pre2.length : Int) + 1
                          · gi_wp2
                            exact ⟨HR2.out.1, .inr ⟨rfl, _, HR2.out.2.2⟩⟩
                          · have hst' : decide (stop < (pre2.length : Int) + 1) = false := by simp; omega
                            have hst2 : (pre2.length : Int) + 1 ≤ stop := by omega
                            gi_wp2
                            exact ⟨HR2.out.1, HR2.out.2.1, by dsimp only; rw [List.length_append]; exact HR2.out.2.2⟩
                        · have d2 : ((z2 : Int) != u.2) = true := by simpa using g2
                          have HBd : Hid (Bad C.d (pre2 ++ [(z1, z2)])) := Bad.snoc (by rw [HU.out]; exact fun e => g2 (by rw [Option.some.inj e]))
                          clear g1 g2
                          gi_wp2
                          exact ⟨(KeepsOthers.setCell _ _ _).from _, .inl ⟨rfl, HBd.out⟩⟩
                      · have d1 : ((z1 : Int) != (u.1 : Int)) = true := by simp; omega
                        have HBd : Hid (Bad C.d (pre2 ++ [(z1, z2)])) := Bad.snoc (by rw [HU.out]; exact fun e => g1 (by rw [Option.some.inj e]))
                        clear g1
                        gi_wp2
                        exact ⟨(KeepsOthers.setCell _ _ _).from _, .inl ⟨rfl, HBd.out⟩⟩
                  case stop3 =>
                    rintro cc pre2 X ⟨j, hj, rfl⟩ (⟨rfl, hb⟩ | ⟨rfl, n2, hIn⟩)
                    · exact absurd hb (fun h => h.no)
                    · obtain ⟨_, hb, hf⟩ := hIn
                      have A2 := HAft.out.below hb hf
                      obtain ⟨o2, a2, hix2, hst2⟩ := A2.step
                      have HDr := show Hid _ from drop_any hix2 x1
                      have HSt2 := show Hid _ from hst2
                      have xx := A2.1.sta.xx
                      clear A2 hix2 hst2 hb hf
                      gi_wp2
                      refine ⟨trivial, (CallsIn.inRound l' (callsIn_wide.2 HDr.out)).mono ?_⟩
                      rintro r V4 ⟨rfl, hG⟩
                      have A4 := HSt2.out _ _ hG
                      obtain ⟨o4, a4, hix4, hst4⟩ := A4.step
                      have HPu := show Hid _ from put_any hix4 HKk.out (-9)
                      have HSt4 := show Hid _ from hst4
                      have xx := A4.1.sta.xx
                      generalize ((a2.get x1).map ev).getD zv = dv at *
                      clear A4 hix4 hst4 hG HDr HSt2
                      gi_wp2
                      refine ⟨trivial, (CallsIn.inRound l' (callsIn_wide.2 HPu.out)).mono ?_⟩
                      rintro r V6 ⟨rfl, hG⟩
                      have HA6 := show Hid _ from HSt4.out _ _ hG
                      have cT6 := (HA6.out.1.bx (bt, k) (by simp)).1
                      have cN6 := (HA6.out.1.bx (bn, pre.length + 1) (by simp)).1
                      have k5 := (H8.out V6 HA6.out.1.be).1
                      dsimp only at cT6 cN6
                      rw [show ((pre.length + 1 : Nat) : Int) = (pre.length : Int) + 1 by omega] at cN6
                      have HEnd : Hid (C.Live w1.heap.size w1 [(bn, (pre ++ [(x1, x2)]).length), (bt, k)] Ds V6) := by
                        rw [List.length_append]
                        exact HA6.out.1
                      clear hG HPu HSt4
                      by_cases hk0 : k = 0
                      · have hk0' : ((k : Int) == 0) = true := by simp [hk0]
                        have HK0 : Hid (k = 0) := hk0
                        clear hk0
                        by_cases hst : stop < (pre.length : Int) + 1
                        · gi_wp2
                          exact ⟨HA6.out.2.1, .inr ⟨rfl, HK0.out, _, HEnd.out⟩⟩
                        · have hst' : decide (stop < (pre.length : Int) + 1) = false := by simp; omega
                          have hst2 : (pre.length : Int) + 1 ≤ stop := by omega
                          gi_wp2
                          exact ⟨HA6.out.2.1, HA6.out.2.2, HEnd.out⟩
                      · have hk0' : ((k : Int) == 0) = false := by simp [hk0]
                        clear hk0
                        gi_wp2
                        exact ⟨HA6.out.2.1, HA6.out.2.2, HEnd.out⟩
                  case done3 =>
                    rintro zs X rfl hIn
                    obtain ⟨_, hb, hf⟩ := hIn
                    have A2 := HAft.out.below hb hf
                    obtain ⟨o2, a2, hix2, hst2⟩ := A2.step
                    have HDr := show Hid _ from drop_any hix2 x1
                    have HSt2 := show Hid _ from hst2
                    have xx := A2.1.sta.xx
                    clear A2 hix2 hst2 hb hf
                    gi_wp2
                    refine ⟨trivial, (CallsIn.inRound l' (callsIn_wide.2 HDr.out)).mono ?_⟩
                    rintro r V4 ⟨rfl, hG⟩
                    have A4 := HSt2.out _ _ hG
                    obtain ⟨o4, a4, hix4, hst4⟩ := A4.step
                    have HPu := show Hid _ from put_any hix4 HKk.out (-9)
                    have HSt4 := show Hid _ from hst4
                    have xx := A4.1.sta.xx
                    generalize ((a2.get x1).map ev).getD zv = dv at *
                    clear A4 hix4 hst4 hG HDr HSt2
                    gi_wp2
                    refine ⟨trivial, (CallsIn.inRound l' (callsIn_wide.2 HPu.out)).mono ?_⟩
                    rintro r V6 ⟨rfl, hG⟩
                    have HA6 := show Hid _ from HSt4.out _ _ hG
                    have cT6 := (HA6.out.1.bx (bt, k) (by simp)).1
                    have cN6 := (HA6.out.1.bx (bn, pre.length + 1) (by simp)).1
                    have k5 := (H8.out V6 HA6.out.1.be).1
                    dsimp only at cT6 cN6
                    rw [show ((pre.length + 1 : Nat) : Int) = (pre.length : Int) + 1 by omega] at cN6
                    have HEnd : Hid (C.Live w1.heap.size w1 [(bn, (pre ++ [(x1, x2)]).length), (bt, k)] Ds V6) := by
                      rw [List.length_append]
                      exact HA6.out.1
                    clear hG HPu HSt4
                    by_cases hk0 : k = 0
                    · have hk0' : ((k : Int) == 0) = true := by simp [hk0]
                      have HK0 : Hid (k = 0) := hk0
                      clear hk0
                      by_cases hst : stop < (pre.length : Int) + 1
                      · gi_wp2
                        exact ⟨HA6.out.2.1, .inr ⟨rfl, HK0.out, _, HEnd.out⟩⟩
                      · have hst' : decide (stop < (pre.length : Int) + 1) = false := by simp; omega
                        have hst2 : (pre.length : Int) + 1 ≤ stop := by omega
                        gi_wp2
                        exact ⟨HA6.out.2.1, HA6.out.2.2, HEnd.out⟩
                    · have hk0' : ((k : Int) == 0) = false := by simp [hk0]
                      clear hk0
                      gi_wp2
                      exact ⟨HA6.out.2.1, HA6.out.2.2, HEnd.out⟩
                · have e2 : ((x2 : Int) != y.2) = true := by simpa using h2
                  have HBd : Hid (Bad C.d (pre ++ [(x1, x2)])) := Bad.snoc (by rw [HY.out.1]; exact fun e => h2 (by rw [Option.some.inj e]))
                  clear h1 h2
                  gi_wp2
                  exact ⟨(KeepsOthers.setCell _ _ _).from _, .inl ⟨rfl, HBd.out⟩⟩
              · have e1 : ((x1 : Int) != (y.1 : Int)) = true := by simp; omega
                have HBd : Hid (Bad C.d (pre ++ [(x1, x2)])) := Bad.snoc (by rw [HY.out.1]; exact fun e => h1 (by rw [Option.some.inj e]))
                clear h1
                gi_wp2
                exact ⟨(KeepsOthers.setCell _ _ _).from _, .inl ⟨rfl, HBd.out⟩⟩
          case stop2 =>
            rintro D cc pre V hD ⟨j, hj, rfl⟩ (⟨rfl, hb⟩ | ⟨rfl, hk0, n2, hI⟩) hK
            · exact absurd hb (fun h => h.no)
            · have hkg : decide ((0 : Int) < (k : Int)) = false := by simp [hk0]
              have hkg2 : decide (0 < k) = false := by simp [hk0]
              clear hk0
              have hdr := hI.drop.defer hK
              have hse := (hdr.more (k + 1)).drop2
              have cT2 := (hI.bx (bt, k) (by simp)).1
              have cN2 := (hI.bx (bn, n2) (by simp)).1
              have xk2 := hI.sta.xk
              dsimp only at cT2 cN2
              have HSe : Hid (C.Live w1.heap.size w1 [(V.heap.size, k + 1)] (D :: Ds) (V.alloc (.cells #[I ((k : Int) + 1)] 3))) := by
                rw [show (k : Int) + 1 = ((k + 1 : Nat) : Int) by omega]
                exact hse
              have HMn : Hid (Marks w1.heap.size (k + 1) (D :: Ds) (V.alloc (.cells #[I ((k : Int) + 1)] 3))) := HMk.out.next (by have := HWn.out.1; have := HWn.out.2; omega) HL.out.be.size (by have := (Array.getElem?_eq_some_iff.1 hK).1; simp; omega)
              clear hdr hse hI
              gi_wp2
              exact ⟨⟨V.heap.size, D :: Ds, _, _, _, _, _, _, _, _, _, _, _, _, _, _, _, rfl, HSe.out, HMn.out⟩, by omega⟩
          case done2 =>
            rintro D xs V hD rfl hI hK
            have hdr := hI.drop.defer hK
            have hse := (hdr.more (k + 1)).drop2
            have cT2 := (hI.bx (bt, k) (by simp)).1
            have cN2 := (hI.bx (bn, C.d.length) (by simp)).1
            have xk2 := hI.sta.xk
            dsimp only at cT2 cN2
            have HSe : Hid (C.Live w1.heap.size w1 [(V.heap.size, k + 1)] (D :: Ds) (V.alloc (.cells #[I ((k : Int) + 1)] 3))) := by
              rw [show (k : Int) + 1 = ((k + 1 : Nat) : Int) by omega]
              exact hse
            have HMn : Hid (Marks w1.heap.size (k + 1) (D :: Ds) (V.alloc (.cells #[I ((k : Int) + 1)] 3))) := HMk.out.next (by have := HWn.out.1; have := HWn.out.2; omega) HL.out.be.size (by have := (Array.getElem?_eq_some_iff.1 hK).1; simp; omega)
            clear hdr hse hI
            have hll : (C.d.length : Int) ≤ 4194304 := by have := HLn.out.sta.sq.len; omega
            by_cases hk0 : k = 0
            · have hkg : decide ((0 : Int) < (k : Int)) = false := by simp [hk0]
              have hkg2 : decide (0 < k) = false := by simp [hk0]
              clear hk0
              gi_wp2
              exact ⟨⟨V.heap.size, D :: Ds, _, _, _, _, _, _, _, _, _, _, _, _, _, _, _, rfl, HSe.out, HMn.out⟩, by omega⟩
            · have hkg : (0 : Int) < (k : Int) := by omega
              clear hk0
              gi_wp2
              exact ⟨⟨V.heap.size, D :: Ds, _, _, _, _, _, _, _, _, _, _, _, _, _, _, _, rfl, HSe.out, HMn.out⟩, by omega⟩
set_option maxHeartbeats 12800000 in
set_option maxRecDepth 100000 in
theorem walk_no (m : Int) (ao : Option Addr) (s : List St) (cap : Nat) (stop : Int) (w : World) (h : m < 0 ∨ 4096 < m) :
    Calls Try.prog 7 #[I m, .slice ao s.length cap, I stop] w fun e w' => e = .returned (.bool true) ∧ Below w.heap.size w w' := by
  refine (callsIn_wide (n := 9)).1 ?_
  refine callsIn_of_wp_marks Try.func7 rfl trivial ?_ rfl
  simp only [Try.ntmps7, List.size_toArray, List.length_cons, List.length_nil, Nat.reduceAdd, Nat.reduceSub, Array.replicate_succ, Array.replicate_zero, List.push_toArray, List.append_toArray, List.nil_append, List.cons_append]
  gi_wp2
  refine ⟨trivial, (callsIn_wide.2 (known_any _)).mono ?_⟩
  rintro e w1 ⟨rfl, hB1⟩
  have hz1 : w.heap.size + 2 ≤ w1.heap.size := by have := hB1.size; simpa using this
  have q6 : w1.heap[w.heap.size + 1]? = some (.cells #[.bool false] 4 (0, 0)) := (hB1.block _ (by simp)).trans (by have := heap_alloc_new (w.alloc (.cells #[I stop] 3)) (.cells #[.bool false] 4); rw [World.size_alloc] at this; exact this)
  obtain ⟨c6, f6⟩ := box_cell q6
  have HB : Hid (Below w.heap.size w w1 ∧ w1.cell? ⟨w.heap.size + 1, 0, none⟩ = some (.bool false)) := ⟨(((Below.refl _ w).alloc (Nat.le_refl _) _).alloc (by simp) _).trans (hB1.mono (by simp; omega)), c6⟩
  clear hB1 hz1 q6
  by_cases h0 : m < 0
  · clear h
    gi_wp2
    refine ⟨.bool true, ?_, rfl, HB.out.1.setCell (p := ⟨w.heap.size + 1, 0, none⟩) (by simp) _⟩
    have hc5 := World.cell?_setCell_same' w1 ⟨w.heap.size + 1, 0, none⟩ (.bool true) (by rw [HB.out.2]; rfl)
    simp [results, Try.f7, go_sem, hc5]
  · have h1 : 4096 < m := by omega
    have h2 : decide (m < 0) = false := decide_eq_false h0
    clear h
    gi_wp2
    refine ⟨.bool true, ?_, rfl, HB.out.1.setCell (p := ⟨w.heap.size + 1, 0, none⟩) (by simp) _⟩
    have hc5 := World.cell?_setCell_same' w1 ⟨w.heap.size + 1, 0, none⟩ (.bool true) (by rw [HB.out.2]; rfl)
    simp [results, Try.f7, go_sem, hc5]
theorem walk (m : Int) (ao : Option Addr) (s : List St) (cap : Nat) (stop : Int) (W : World) (hs : IsSt W ao s) (hlen : s.length ≤ 11728124029610) :
    Calls Try.prog 7 #[I m, .slice ao s.length cap, I stop] W fun e w' => e = .returned (.bool true) ∧ Below W.heap.size W w' := by
  by_cases h : m < 0 ∨ 4096 < m
  · exact walk_no m ao s cap stop W h
  · obtain ⟨m, rfl⟩ := Int.eq_ofNat_of_zero_le (show 0 ≤ m by omega)
    exact walk_ok m ao s cap stop W (by omega) hs hlen
end Go.Proofs.Ytkekmmomdhdegaa.indexWalks
