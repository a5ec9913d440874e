import Derived.Test.YtoeioppmlnognaaArTwinP
import Derived.Deep.LoopGhost
namespace Go.Proofs.Ytoeioppmlnognaa.Ar
open Go.RowKit

set_option maxHeartbeats 3200000 in
set_option maxRecDepth 100000 in
theorem twin_any {w : World} {g : Nat} {o : Lo} {a : As} (h : IsAr w g o a) : Calls Try.prog 17 #[.pointer (some ⟨g, 0, none⟩)] w fun r w' => ∃ g', r = .returned (.pointer (some ⟨g', 0, none⟩)) ∧ Born w a g' w' := by
  obtain ⟨c, hm, hi⟩ := h
  obtain ⟨bl, xs, hlo, hxl, hxc, hx1, hxv⟩ := hm.listRow
  obtain ⟨a0, a1, a2, a3, a4, a5⟩ := hm.cellsA
  rw [hlo] at a1
  have hnl := hm.nlm
  have HM : Hid (Mem w g o c a.size a.nl a.used a.free (hd a.fr) ∧ Inv c a []) := ⟨hm, hi⟩
  obtain ⟨po, pcap, hpv⟩ := own_form hm.own
  rw [hpv] at a0
  have hnp : o.ps.length ≤ 4194304 := by have := hm.np; have := hm.us; have := hm.sz; omega
  obtain ⟨M, hM, hmk⟩ := mk_pages o.ps.length hnp
  have HX := show Hid (xs.length = a.nl * 3 ∧ (∀ W, Below w.heap.size w W → ∀ j u, xs[j]? = some u → W.cell? ⟨bl, j, none⟩ = some u) ∧ (∀ u ∈ xs, u.oneCell' = true) ∧ ∀ i, i < a.nl → xs[i * 3]? = some (I (c.la i 0)) ∧ xs[i * 3 + 1]? = some (I (c.la i 1)) ∧ xs[i * 3 + 2]? = some (I (c.ct i))) from ⟨hxl, hxc, hx1, hxv⟩
  have HPv : Hid (o.pv = .slice po o.ps.length pcap ∧ M.size = o.ps.length ∧ o.ps.length ≤ 4194304) := ⟨hpv, hM, hnp⟩
  have hnp1 : (o.ps.length : Int) ≤ 4194304 := by omega
  have HLo : Hid (o.lo = some ⟨bl, 0, none⟩) := hlo
  clear hm hi hxl hxc hx1 hxv hpv hM hlo hnl
  go_enter Try.func17, Try.ntmps17
  go_upto_region 2 with fail
  have hb1 : Below w.heap.size w (w.alloc (.cells #[.slice po o.ps.length pcap, .slice (some ⟨bl, 0, none⟩) a.nl o.lc, I a.size, I a.used, I a.free, I (hd a.fr)] 85)) := (Below.refl _ w).alloc (Nat.le_refl _) _
  have HW1 : Hid ((w.alloc (.cells #[.slice po o.ps.length pcap, .slice (some ⟨bl, 0, none⟩) a.nl o.lc, I a.size, I a.used, I a.free, I (hd a.fr)] 85)).heap[w.heap.size]? = some (.cells #[.slice po o.ps.length pcap, .slice (some ⟨bl, 0, none⟩) a.nl o.lc, I a.size, I a.used, I a.free, I (hd a.fr)] 85 (0, 0)) ∧ Below w.heap.size w (w.alloc (.cells #[.slice po o.ps.length pcap, .slice (some ⟨bl, 0, none⟩) a.nl o.lc, I a.size, I a.used, I a.free, I (hd a.fr)] 85)) ∧ (w.alloc (.cells #[.slice po o.ps.length pcap, .slice (some ⟨bl, 0, none⟩) a.nl o.lc, I a.size, I a.used, I a.free, I (hd a.fr)] 85)).heap.size = w.heap.size + 1) := ⟨heap_alloc_new w _, hb1, by simp⟩
  clear a0 a1 a2 a3 a4 a5 hb1
  generalize w.alloc (.cells #[.slice po o.ps.length pcap, .slice (some ⟨bl, 0, none⟩) a.nl o.lc, I a.size, I a.used, I a.free, I (hd a.fr)] 85) = w1 at *
  obtain ⟨_, a1, _⟩ := (HM.out.1.below HW1.out.2.1).cellsA
  rw [HLo.out] at a1
  have HCl := show Hid _ from cloneC_any w1 bl a.nl o.lc xs HX.out.1 (HX.out.2.1 w1 HW1.out.2.1) HX.out.2.2.1 (by have := HM.out.1.nlm; omega)
  go_wp2_with fail
  refine Calls.mono HCl.out ?_
  rintro r w2 ⟨_, rfl, ⟨lb, lc, rfl⟩, ho2, hb2⟩
  have hg2 : w2.heap[w.heap.size]? = some (.cells #[.slice po o.ps.length pcap, .slice (some ⟨bl, 0, none⟩) a.nl o.lc, I a.size, I a.used, I a.free, I (hd a.fr)] 85 (0, 0)) := (hb2.block _ (by rw [HW1.out.2.2]; omega)).trans HW1.out.1
  have c2 : w2.cell? ⟨w.heap.size, 1, none⟩ = some (.slice (some ⟨bl, 0, none⟩) a.nl o.lc) := by simp [World.cell?, hg2]
  have f2 : w2.frozen? ⟨w.heap.size, 1, none⟩ = false := by simp [World.frozen?, hg2]
  have HW3 : Hid ((w2.setCell ⟨w.heap.size, 1, none⟩ (.slice (some ⟨lb, 0, none⟩) a.nl lc)).heap[w.heap.size]? = some (.cells #[.slice po o.ps.length pcap, .slice (some ⟨lb, 0, none⟩) a.nl lc, I a.size, I a.used, I a.free, I (hd a.fr)] 85 (0, 0)) ∧ (w2.setCell ⟨w.heap.size, 1, none⟩ (.slice (some ⟨lb, 0, none⟩) a.nl lc)).ownsRow w1.heap.size 92 3 (.slice (some ⟨lb, 0, none⟩) a.nl lc) a.nl xs ∧ Below w.heap.size w (w2.setCell ⟨w.heap.size, 1, none⟩ (.slice (some ⟨lb, 0, none⟩) a.nl lc))) :=
    ⟨by rw [set_blk hg2]; rfl, own_set ho2 hg2 (by decide), (HW1.out.2.1.trans (hb2.mono (by rw [HW1.out.2.2]; omega))).setCell (Nat.le_refl _) _⟩
  clear HCl ho2 hb2 hg2 a1
  go_upto_region 3 with fail
  generalize w2.setCell ⟨w.heap.size, 1, none⟩ (.slice (some ⟨lb, 0, none⟩) a.nl lc) = w3 at *
  clear c2 f2
  obtain ⟨a0, _⟩ := (HM.out.1.below HW3.out.2.2).cellsA
  rw [HPv.out.1] at a0
  have hg4 : (w3.alloc (.cells M 93)).heap[w.heap.size]? = some (.cells #[.slice po o.ps.length pcap, .slice (some ⟨lb, 0, none⟩) a.nl lc, I a.size, I a.used, I a.free, I (hd a.fr)] 85 (0, 0)) := (Below.heap_alloc w3 _ _ (Array.getElem?_eq_some_iff.1 HW3.out.1).1).trans HW3.out.1
  have c4 : (w3.alloc (.cells M 93)).cell? ⟨w.heap.size, 0, none⟩ = some (.slice po o.ps.length pcap) := by simp [World.cell?, hg4]
  have f4 : (w3.alloc (.cells M 93)).frozen? ⟨w.heap.size, 0, none⟩ = false := by simp [World.frozen?, hg4]
  have hb4 : Below w3.heap.size w3 (w3.alloc (.cells M 93)) := (Below.refl _ w3).alloc (Nat.le_refl _) _
  have HTw : Hid (Tw w c a.size a.nl a.used a.free (hd a.fr) w.heap.size w3.heap.size o.ps.length w1.heap.size (.slice (some ⟨lb, 0, none⟩) a.nl lc) xs 0 [] (fun _ => 0) ((w3.alloc (.cells M 93)).setCell ⟨w.heap.size, 0, none⟩ (.slice (some ⟨w3.heap.size, 0, none⟩) o.ps.length o.ps.length))) := by
    refine ⟨by rw [set_blk hg4]; rfl, own_set (own_below HW3.out.2.1 hb4) hg4 (by decide), ⟨M, ?_, HPv.out.2.1, fun j hj => (by omega)⟩, rfl, fun j b hj => (by simp at hj), List.nodup_nil, fun b hb => (by cases hb), (HW3.out.2.2.trans (hb4.mono HW3.out.2.2.size)).setCell (Nat.le_refl _) _, Nat.le_refl _, HW3.out.2.2.size, by rw [HW1.out.2.2]; omega⟩
    have hne : w3.heap.size ≠ w.heap.size := by have := (Array.getElem?_eq_some_iff.1 HW3.out.1).1; omega
    rw [set_other hne]
    exact heap_alloc_new w3 _
  clear hg4 hb4
  go_upto_region 4 with fail
  generalize (w3.alloc (.cells M 93)).setCell ⟨w.heap.size, 0, none⟩ (.slice (some ⟨w3.heap.size, 0, none⟩) o.ps.length o.ps.length) = w5 at *
  clear c4 f4 a0 HW3
  obtain ⟨a0, _⟩ := (HM.out.1.below HTw.out.be).cellsA
  rw [HPv.out.1] at a0
  go_wp2_with fail
  clear a0
  go_loopg [27] o.ps.length (fun r vi wr => ∃ (k : Nat) (qs : List Nat) (pc : Nat → Nat), k + r = o.ps.length ∧ vi = I k ∧ Tw w c a.size a.nl a.used a.free (hd a.fr) w.heap.size w3.heap.size o.ps.length w1.heap.size (.slice (some ⟨lb, 0, none⟩) a.nl lc) xs k qs pc wr)
  case atStart => exact ⟨0, [], _, by omega, rfl, HTw.out⟩
  case round =>
    obtain ⟨k, qs, pc, hkr, rfl, hT⟩ := hrel
    have HT : Hid (Tw w c a.size a.nl a.used a.free (hd a.fr) w.heap.size w3.heap.size o.ps.length w1.heap.size (.slice (some ⟨lb, 0, none⟩) a.nl lc) xs k qs pc wr) := hT
    clear HTw
    by_cases hk : k < o.ps.length
    · obtain ⟨b, hb⟩ : ∃ b, o.ps[k]? = some b := ⟨_, List.getElem?_eq_getElem hk⟩
      have hk1 : (k : Int) < (o.ps.length : Int) := by omega
      obtain ⟨ys, y1, y2, y3, y4⟩ := HM.out.1.pageRow hb
      obtain ⟨pb, pcp, ep, cp⟩ := (HM.out.1.below hT.be).pages hb
      have epo : po = some ⟨pb, 0, none⟩ := by
        rw [HPv.out.1] at ep
        cases ep
        rfl
      have hp : 0 < plen a.size k := by have := HM.out.1.np; have := HM.out.1.us; unfold plen; omega
      have HCl : Hid (Calls Try.prog 48 #[.slice (some ⟨b, 0, none⟩) (plen a.size k) (o.pc k)] wr.drew fun r w' => ∃ ad c', r = .returned (.slice (some ⟨ad, 0, none⟩) (plen a.size k) c') ∧ w'.ownsRow wr.heap.size 96 4 (.slice (some ⟨ad, 0, none⟩) (plen a.size k) c') (plen a.size k) ys ∧ Below wr.heap.size wr w') := by
        refine (cloneS_any wr.drew b (plen a.size k) (o.pc k) ys y1 (y2 wr.drew hT.be.drew) y3 (by unfold plen; omega)).mono ?_
        rintro r w' ⟨_, rfl, ⟨ad, c', rfl⟩, k1, k2⟩
        exact ⟨ad, c', rfl, k1, ((Below.refl _ wr).drew).trans k2⟩
      obtain ⟨d0, ⟨d1v, d1⟩, d2⟩ := hT.cells hk
      have HY : Hid ((∀ j, j < plen a.size k → ys[j * 4]? = some (I (c.bs (k * 64 + j) 0)) ∧ ys[j * 4 + 1]? = some (I (c.bs (k * 64 + j) 1)) ∧ ys[j * 4 + 2]? = some (I (c.li (k * 64 + j))) ∧ ys[j * 4 + 3]? = some (I (c.vl (k * 64 + j)))) ∧ 0 < plen a.size k ∧ k + gk = o.ps.length) := ⟨y4, hp, hkr⟩
      subst epo
      clear y1 y2 y3 y4 ep hp hkr hb hT
      go_wp2_with fail
      go_region_with (go_at_call 48; refine Calls.mono HCl.out ?_; rintro r w6 ⟨ad, c', rfl, ho6, hb6⟩; have HO6 := show Hid _ from And.intro ho6 hb6; obtain ⟨d0', ⟨d1v', d1'⟩, d2'⟩ := (HT.out.below hb6).cells hk; clear ho6 hb6)
      all_goals
        have HT6 : Hid (Tw w c a.size a.nl a.used a.free (hd a.fr) w.heap.size w3.heap.size o.ps.length w1.heap.size (.slice (some ⟨lb, 0, none⟩) a.nl lc) xs (k + 1) (qs ++ [ad]) (up pc k c') (w6.setCell ⟨w3.heap.size, k, none⟩ (.slice (some ⟨ad, 0, none⟩) (plen a.size k) c'))) := HT.out.put hk HO6.out.2 HY.out.2.1 HO6.out.1 HY.out.1
        generalize w6.setCell ⟨w3.heap.size, k, none⟩ (.slice (some ⟨ad, 0, none⟩) (plen a.size k) c') = w7 at *
        clear d0 d1 d2 d0' d1' d2' HO6 HT HCl cp
        go_wp2_with fail
        go_roundg (o.ps.length - (k + 1))
        case measure => have := HY.out.2.2; omega
        case rel => exact ⟨k + 1, _, _, by omega, by go_num, HT6.out⟩
    · have hke : k = o.ps.length := by omega
      subst hke
      go_wp2
      go_ret
      exact ⟨_, rfl, HT.out.done HM.out.2 HM.out.1.np HM.out.1.sz HM.out.1.nlm rfl HX.out.2.2.2⟩
end Go.Proofs.Ytoeioppmlnognaa.Ar
