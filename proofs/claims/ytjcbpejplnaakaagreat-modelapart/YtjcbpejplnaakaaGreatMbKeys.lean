import Derived.Test.YtjcbpejplnaakaaGreatMbHeld
import Derived.Test.YtjcbpejplnaakaaGreatMdKeys
namespace Go.Proofs.YtjcbpejplnaakaaGreat.Mb
open Go.RowKit Go.Maps Go.Proofs.YtjcbpejplnaakaaGreat.Nm Go.Proofs.YtjcbpejplnaakaaGreat.Md

section
variable {w w' w0 : World} {g o : Nat} {F : List Nat} {L : Lo} {c : Rs} {hd : Nat → Bool} {m : Nat → Option Int} {k n : Nat} {ns fr ks : List Nat}
set_option maxHeartbeats 1600000 in
set_option maxRecDepth 100000 in
theorem keysOf_any (h : Mem w g o L c hd m ns.length) (hi : Inv c ns fr []) (hk : ns.length ≤ 1000000000) {pb : Nat} (hp : w.cell? ⟨pb, 0, none⟩ = some (.pointer (some ⟨g, o, none⟩))) (hpb : pb < w.heap.size) : Calls Tryz.prog 84 #[.slice (some ⟨pb, 0, none⟩) 1 1] w fun e w' => ∃ v, e = .returned v ∧ w'.ownsRow w.heap.size 33 1 v ns.length ((ns.map c.key).map U) ∧ Below w.heap.size w w' := by
  have HI : Hid (Inv c ns fr [] ∧ ns.length ≤ 1000000000) := ⟨hi, hk⟩
  have HM : Hid (Mem w g o L c hd m ns.length) := h
  have HP : Hid (w.cell? ⟨pb, 0, none⟩ = some (.pointer (some ⟨g, o, none⟩)) ∧ pb < w.heap.size) := ⟨hp, hpb⟩
  have hw : wrap64 (ns.length : Int) = (ns.length : Int) := by unfold wrap64; omega
  clear h hi hk hpb
  go_enter Tryz.func84, Tryz.ntmps84
  go_wp2_with fail
  go_loopg [3, 12] 1 (fun gq x y wr => w = wr ∧ (gq = 1 ∧ x = I 0 ∧ y = I 0 ∨ gq = 0 ∧ x = I (ns.length : Nat) ∧ y = I 1))
  case atStart => exact ⟨rfl, Or.inl ⟨rfl, rfl, rfl⟩⟩
  case round =>
    obtain ⟨rfl, ⟨hgk, rfl, rfl⟩ | ⟨hgk, rfl, rfl⟩⟩ := hrel
    · have HG : Hid (gk = 1) := hgk
      clear hgk
      go_wp2_with (go_at_call 79; refine (count_any HM.out).mono ?_; rintro _ _ ⟨rfl, rfl⟩)
      go_roundg 0
      case measure => have := HG.out; omega
      case rel => exact ⟨rfl, Or.inr ⟨rfl, by rw [hw], rfl⟩⟩
    · clear hgk
      have hmk := mk_keys ns.length HI.out.2
      have HB0 : Hid (Below w.heap.size w (w.alloc (.cells (madeCells #[.int .u64 0] ns.length) 33)) ∧ (w.alloc (.cells (madeCells #[.int .u64 0] ns.length) 33)).ownsRow w.heap.size 33 1 (.slice (some ⟨w.heap.size, 0, none⟩) 0 ns.length) 0 []) := ⟨(Below.refl _ w).alloc (Nat.le_refl _) _, World.ownsRow_made w _ _ (Nat.le_refl _) (by have := HI.out.2; unfold maxLen; omega) (by rw [size_madeCells, Nat.mul_one])⟩
      go_upto_region 9 with fail
      generalize w.alloc (.cells (madeCells #[.int .u64 0] ns.length) 33) = w1 at *
      clear hmk
      go_loopg [6, 25] 1 (fun gq x y wr => Below w.heap.size w wr ∧ (gq = 1 ∧ y = I 0 ∧ wr.ownsRow w.heap.size 33 1 x 0 [] ∨ gq = 0 ∧ y = I 1 ∧ wr.ownsRow w.heap.size 33 1 x ns.length ((ns.map c.key).map U)))
      case atStart => exact ⟨HB0.out.1, Or.inl ⟨rfl, rfl, HB0.out.2⟩⟩
      case round =>
        obtain ⟨hb, ⟨hgk, rfl, ho⟩ | ⟨hgk, rfl, ho⟩⟩ := hrel
        · have HG : Hid (gk = 1) := hgk
          have HB : Hid (Below w.heap.size w wr) := hb
          obtain ⟨bo, bc, rfl⟩ := own_form ho
          have HO : Hid (wr.ownsRow w.heap.size 33 1 (.slice bo 0 bc) 0 []) := ho
          have hp1 : wr.cell? ⟨pb, 0, none⟩ = some (.pointer (some ⟨g, o, none⟩)) := by
            have := cell_blk (hb.block pb HP.out.2) 0
            rw [this]
            exact HP.out.1
          have HM1 : Hid (Mem wr g o L c hd m ns.length) := HM.out.below hb
          obtain ⟨a0, _, _, _⟩ := HM1.out.cellsR
          obtain ⟨_, sh, _, n2, _⟩ := HM1.out.cellsN HI.out.1.pos
          rw [Nat.zero_mul, HI.out.1.nd0] at n2
          have h0' : (0 : Int) < (c.n : Int) := by have := HI.out.1.pos; omega
          clear hgk ho hb
          go_upto_region 12 with fail
          clear n2 a0 HM1 hp1
          obtain ⟨Wa, hWa⟩ : ∃ Wa, Wa = wr := ⟨_, rfl⟩
          have HBa : Hid (Below w.heap.size w Wa ∧ Wa.ownsRow w.heap.size 33 1 (.slice bo 0 bc) 0 [] ∧ Wa = wr) := ⟨by rw [hWa]; exact HB.out, by rw [hWa]; exact HO.out, hWa⟩
          clear hWa HB HO
          obtain ⟨j0, hj, hj0, hj1, hj2⟩ := info_parts info33
          go_loopg [6, 9] ns.length (fun gq x y wr => ∃ j, j ≤ ns.length ∧ gq = ns.length - j ∧ y = I ((nod ns j : Nat) : Int) ∧ Below w.heap.size w wr ∧ wr.ownsRow w.heap.size 33 1 x j (((ns.map c.key).map U).take j))
          case atStart => exact ⟨0, Nat.zero_le _, rfl, rfl, by rw [← HBa.out.2.2]; exact HBa.out.1, by rw [← HBa.out.2.2]; exact HBa.out.2.1⟩
          case round =>
            obtain ⟨j, hj9, hgk, rfl, hb, ho⟩ := hrel
            clear HBa
            by_cases hlt : j < ns.length
            · have hnz : ((nod ns j : Nat) : Int) ≠ 0 := by have := (HI.out.1.ndlt hlt).2; omega
              have hnl : ((nod ns j : Nat) : Int) < (c.n : Int) := by have := (HI.out.1.ndlt hlt).1; omega
              obtain ⟨bo, bc, rfl⟩ := own_form ho
              have HM1 : Hid (Mem wr g o L c hd m ns.length) := HM.out.below hb
              obtain ⟨a0, _, _, _⟩ := HM1.out.cellsR
              obtain ⟨n0, sh, _, _, _⟩ := HM1.out.cellsN (HI.out.1.ndlt hlt).1
              have hsz := hb.size
              have HO : Hid ((wr.alloc (.cells #[U (c.key (nod ns j))] 33)).ownsRow w.heap.size 33 1 (.slice bo j bc) j (((ns.map c.key).map U).take j)) := own_below ho ((Below.refl _ wr).alloc (Nat.le_refl _) _)
              have HB : Hid (Below w.heap.size w (wr.alloc (.cells #[U (c.key (nod ns j))] 33)) ∧ j < ns.length ∧ gk = ns.length - j ∧ w.heap.size ≤ (wr.alloc (.cells #[U (c.key (nod ns j))] 33)).heap.size) := ⟨hb.alloc hb.size _, hlt, hgk, by simp; omega⟩
              clear hb ho hj9 hlt hgk hsz HM1
              go_wp2_with (at_builtin; refine append_gone _ rfl _ _ 22 rfl w.heap.size 33 j0 (.int .u64 0) 1 8 Tryz.underlying22 hj hj0 hj1 hj2 rfl (by decide) (.slice bo j bc) j (((ns.map c.key).map U).take j) rfl HO.out ⟨wr.heap.size, 0, none⟩ 1 1 [U (c.key (nod ns j))] rfl rfl ?c1 ?c2 ?c3 ?c4 ?c5 ?c6 ?_)
              case c1 => exact cells_new wr 33 [U (c.key (nod ns j))]
              case c2 => simp [Value.oneCell']
              case c3 => have := HI.out.2; have := HB.out.2.1; unfold maxLen; omega
              case c4 => have := HI.out.2; have := HB.out.2.1; omega
              case c5 => exact HB.out.2.2.2
              case c6 => decide
              intro v4 w4 ho hG
              have hb4 : Below w.heap.size w w4 := gone_below HB.out.1 (fun k hk => (World.ownsRow.lt HO.out k hk).1) HB.out.2.2.2 hG
              have HN : Hid (Below w.heap.size w w4 ∧ w4.ownsRow w.heap.size 33 1 v4 (j + 1) (((ns.map c.key).map U).take (j + 1))) := by
                refine ⟨hb4, ?_⟩
                rw [List.take_add_one, List.getElem?_map, nd_key HB.out.2.1]
                rw [← List.map_map] at ho
                exact ho
              clear a0 n0
              have HM2 : Hid (Mem w4 g o L c hd m ns.length) := HM.out.below hb4
              obtain ⟨a0, _, _, _⟩ := HM2.out.cellsR
              obtain ⟨_, sh, _, n2, _⟩ := HM2.out.cellsN (HI.out.1.ndlt HB.out.2.1).1
              rw [HI.out.1.ndS HB.out.2.1] at n2
              clear ho hG hb4 HM2 HO
              go_wp2_with fail
              go_roundg (ns.length - (j + 1))
              case measure => have h1 := HB.out.2.1; have := HB.out.2.2.1; omega
              case rel => exact ⟨j + 1, HB.out.2.1, rfl, rfl, HN.out.1, HN.out.2⟩
            · obtain rfl : j = ns.length := by omega
              have hnz : nod ns ns.length = 0 := by simp [nod]
              rw [hnz]
              have HN : Hid (Below w.heap.size w wr ∧ wr.ownsRow w.heap.size 33 1 u6 ns.length ((ns.map c.key).map U)) := by
                refine ⟨hb, ?_⟩
                rw [List.take_of_length_le (by simp)] at ho
                exact ho
              clear hb ho hj9 hlt hgk hnz
              go_wp2_with fail
              go_roundg 0
              case measure => have := HG.out; omega
              case rel => exact ⟨HN.out.1, Or.inr ⟨rfl, rfl, HN.out.2⟩⟩
        · have HN : Hid (Below w.heap.size w wr ∧ wr.ownsRow w.heap.size 33 1 u6 ns.length ((ns.map c.key).map U)) := ⟨hb, ho⟩
          clear hb ho hgk
          go_wp2
          go_ret
          exact ⟨_, rfl, HN.out.2, HN.out.1⟩
end
end Go.Proofs.YtjcbpejplnaakaaGreat.Mb
