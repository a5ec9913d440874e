import Derived.Test.YtjcbpejplnaakaaGreatMdKeys
namespace Go.Proofs.YtjcbpejplnaakaaGreat.Md
open Go.RowKit Go.Maps Go.Proofs.YtjcbpejplnaakaaGreat.Nm

/-- several rows: how many keys, which -/
def sumL (ns : Nat → List Nat) : Nat → Nat
  | 0 => 0
  | i + 1 => sumL ns i + (ns i).length
def keyL (c : Nat → Rs) (ns : Nat → List Nat) : Nat → List Nat
  | 0 => []
  | i + 1 => keyL c ns i ++ (ns i).map (c i).key
theorem sumL_mono (ns : Nat → List Nat) {i N : Nat} (h : i ≤ N) : sumL ns i ≤ sumL ns N := by
  induction N with
  | zero => obtain rfl : i = 0 := by omega
            exact Nat.le_refl _
  | succ n ih =>
    by_cases e : i = n + 1
    · rw [e]; exact Nat.le_refl _
    · exact Nat.le_trans (ih (by omega)) (Nat.le_add_right _ _)
section
variable {w : World} {g : Nat} {o : Nat → Nat} {L : Nat → Lo} {c : Nat → Rs} {m : Nat → Nat → Option Int} {ns fr : Nat → List Nat} {N : Nat}
set_option maxHeartbeats 1600000 in
set_option maxRecDepth 100000 in
theorem keysOf_all (h : ∀ i, i < N → Mem w g (o i) (L i) (c i) (m i) (ns i).length) (hi : ∀ i, i < N → Inv (c i) (ns i) (fr i) []) (hk : sumL ns N ≤ 1000000000) (hN : N ≤ 1000) {pb : Nat} (hp : ∀ i, i < N → w.cell? ⟨pb, i, none⟩ = some (.pointer (some ⟨g, o i, none⟩))) (hpb : pb < w.heap.size) : Calls Tryz.prog 66 #[.slice (some ⟨pb, 0, none⟩) N N] w fun e w' => ∃ v, e = .returned v ∧ w'.ownsRow w.heap.size 33 1 v (sumL ns N) ((keyL c ns N).map U) ∧ Below w.heap.size w w' := by
  have HI : Hid ((∀ i, i < N → Inv (c i) (ns i) (fr i) []) ∧ sumL ns N ≤ 1000000000) := ⟨hi, hk⟩
  have HM : Hid (∀ i, i < N → Mem w g (o i) (L i) (c i) (m i) (ns i).length) := h
  have HP : Hid ((∀ i, i < N → w.cell? ⟨pb, i, none⟩ = some (.pointer (some ⟨g, o i, none⟩))) ∧ pb < w.heap.size) := ⟨hp, hpb⟩
  have hN' : (N : Int) ≤ 1000 := by omega
  clear h hi hk hpb hp
  go_enter Tryz.func66, Tryz.ntmps66
  go_wp2_with fail
  go_loopg [3, 12] N (fun gq x y wr => w = wr ∧ ∃ i, i ≤ N ∧ gq = N - i ∧ x = I (sumL ns i : Nat) ∧ y = I (i : Nat))
  case atStart => exact ⟨rfl, 0, Nat.zero_le _, rfl, rfl, rfl⟩
  case round =>
    obtain ⟨rfl, i, hiN, hgk, rfl, rfl⟩ := hrel
    by_cases hlt : i < N
    · have HG : Hid (gk = N - i ∧ i < N) := ⟨hgk, hlt⟩
      have hlt' : (i : Int) < (N : Int) := by omega
      have hp1 := HP.out.1 i hlt
      have HC : Hid (Calls Tryz.prog 63 #[.pointer (some ⟨g, o i, none⟩)] w fun e w' => e = .returned (I ((ns i).length : Nat)) ∧ w' = w) := count_any (HM.out i hlt)
      have hw : IntKind.i64.wrap ((sumL ns i : Nat) + ((ns i).length : Nat) : Int) = ((sumL ns (i + 1) : Nat) : Int) := by
        have := sumL_mono ns (show i + 1 ≤ N by omega)
        have := HI.out.2
        have e : sumL ns (i + 1) = sumL ns i + (ns i).length := rfl
        rw [IntKind.wrap_i64]
        omega
      generalize (ns i).length = ni at HC hw
      clear hgk hlt hiN
      go_wp2_with (go_at_call 63; refine HC.out.mono ?_; rintro _ _ ⟨rfl, rfl⟩)
      go_roundg (N - (i + 1))
      case measure => have := HG.out; omega
      case rel => exact ⟨rfl, i + 1, by have := HG.out; omega, rfl, by first | rfl | rw [hw], by first | rfl | go_num⟩
    · obtain rfl : N = i := by omega
      clear hgk hiN hlt
      have hmk := mk_keys (sumL ns N) HI.out.2
      have HB0 : Hid (Below w.heap.size w (w.alloc (.cells (madeCells #[.int .u64 0] (sumL ns N)) 33)) ∧ (w.alloc (.cells (madeCells #[.int .u64 0] (sumL ns N)) 33)).ownsRow w.heap.size 33 1 (.slice (some ⟨w.heap.size, 0, none⟩) 0 (sumL ns N)) 0 []) := ⟨(Below.refl _ w).alloc (Nat.le_refl _) _, World.ownsRow_made w _ _ (Nat.le_refl _) (by have := HI.out.2; unfold maxLen; omega) (by rw [size_madeCells, Nat.mul_one])⟩
      go_upto_region 9 with fail
      generalize w.alloc (.cells (madeCells #[.int .u64 0] (sumL ns N)) 33) = w1 at *
      clear hmk
      go_loopg [6, 25] N (fun gq x y wr => Below w.heap.size w wr ∧ ∃ i, i ≤ N ∧ gq = N - i ∧ y = I (i : Nat) ∧ wr.ownsRow w.heap.size 33 1 x (sumL ns i) ((keyL c ns i).map U))
      case atStart => exact ⟨HB0.out.1, 0, Nat.zero_le _, rfl, rfl, HB0.out.2⟩
      case round =>
        obtain ⟨hb, i, hiN, hgk, rfl, ho⟩ := hrel
        by_cases hlt : i < N
        · have HG : Hid (gk = N - i ∧ i < N ∧ sumL ns i + (ns i).length ≤ 1000000000) := ⟨hgk, hlt, by
            have := sumL_mono ns (show i + 1 ≤ N by omega)
            have := HI.out.2
            have e : sumL ns (i + 1) = sumL ns i + (ns i).length := rfl
            omega⟩
          have hlt' : (i : Int) < (N : Int) := by omega
          have HII : Hid (Inv (c i) (ns i) (fr i) []) := HI.out.1 i hlt
          have HMI : Hid (Mem w g (o i) (L i) (c i) (m i) (ns i).length) := HM.out i hlt
          have HFin : Hid (∀ (u : Value) (W : World), W.ownsRow w.heap.size 33 1 u (sumL ns i + (ns i).length) ((keyL c ns i).map U ++ ((ns i).map (c i).key).map U) → W.ownsRow w.heap.size 33 1 u (sumL ns (i + 1)) ((keyL c ns (i + 1)).map U)) := by
            intro u W q
            have e : (keyL c ns (i + 1)).map U = (keyL c ns i).map U ++ ((ns i).map (c i).key).map U := List.map_append
            rw [e]
            exact q
          obtain ⟨bo, bc, rfl⟩ := own_form ho
          have HB : Hid (Below w.heap.size w wr) := hb
          have HO : Hid (wr.ownsRow w.heap.size 33 1 (.slice bo (sumL ns i) bc) (sumL ns i) ((keyL c ns i).map U)) := ho
          have hp1 : wr.cell? ⟨pb, i, none⟩ = some (.pointer (some ⟨g, o i, none⟩)) := by
            have := cell_blk (hb.block pb HP.out.2) i
            rw [this]
            exact HP.out.1 i hlt
          clear HP HI HM ho hgk hiN hlt hb
          generalize hs1 : sumL ns (i + 1) = s1 at HFin
          generalize hk1 : (keyL c ns (i + 1)).map U = kk1 at HFin
          have HS1 : Hid (sumL ns (i + 1) = s1 ∧ (keyL c ns (i + 1)).map U = kk1) := ⟨hs1, hk1⟩
          clear hs1 hk1
          generalize sumL ns i = s0 at *
          generalize (keyL c ns i).map U = kk0 at *
          generalize ns i = nn at *
          generalize c i = cc at *
          generalize L i = LL at *
          generalize m i = mm at *
          generalize o i = oo at *
          generalize fr i = ff at *
          have HM1 : Hid (Mem wr g oo LL cc mm nn.length) := HMI.out.below HB.out
          obtain ⟨a0, _, _, _⟩ := HM1.out.cellsR
          obtain ⟨_, _, n2, _⟩ := HM1.out.cellsN HII.out.pos
          rw [Nat.zero_mul, HII.out.nd0] at n2
          have h0' : (0 : Int) < (cc.n : Int) := by have := HII.out.pos; omega
          go_upto_region 12 with fail
          clear n2 a0 HM1 hp1
          obtain ⟨Wa, hWa⟩ : ∃ Wa, Wa = wr := ⟨_, rfl⟩
          have HBa : Hid (Below w.heap.size w Wa ∧ Wa.ownsRow w.heap.size 33 1 (.slice bo s0 bc) s0 kk0 ∧ Wa = wr) := ⟨by rw [hWa]; exact HB.out, by rw [hWa]; exact HO.out, hWa⟩
          clear hWa HB HO
          obtain ⟨j0, hj, hj0, hj1, hj2⟩ := info_parts info33
          go_loopg [6, 9] nn.length (fun gq x y wr => ∃ j, j ≤ nn.length ∧ gq = nn.length - j ∧ y = I ((nod nn j : Nat) : Int) ∧ Below w.heap.size w wr ∧ wr.ownsRow w.heap.size 33 1 x (s0 + j) (kk0 ++ ((nn.map cc.key).map U).take j))
          case atStart => exact ⟨0, Nat.zero_le _, rfl, rfl, by rw [← HBa.out.2.2]; exact HBa.out.1, by rw [← HBa.out.2.2, List.take_zero, List.append_nil]; exact HBa.out.2.1⟩
          case round =>
            obtain ⟨j, hj9, hgk, rfl, hb, ho⟩ := hrel
            clear HBa
            by_cases hlt : j < nn.length
            · have hnz : ((nod nn j : Nat) : Int) ≠ 0 := by have := (HII.out.ndlt hlt).2; omega
              have hnl : ((nod nn j : Nat) : Int) < (cc.n : Int) := by have := (HII.out.ndlt hlt).1; omega
              obtain ⟨bo, bc, rfl⟩ := own_form ho
              have HM1 : Hid (Mem wr g oo LL cc mm nn.length) := HMI.out.below hb
              obtain ⟨a0, _, _, _⟩ := HM1.out.cellsR
              obtain ⟨n0, _, _, _⟩ := HM1.out.cellsN (HII.out.ndlt hlt).1
              have hsz := hb.size
              have HO : Hid ((wr.alloc (.cells #[U (cc.key (nod nn j))] 33)).ownsRow w.heap.size 33 1 (.slice bo (s0 + j) bc) (s0 + j) (kk0 ++ ((nn.map cc.key).map U).take j)) := own_below ho ((Below.refl _ wr).alloc (Nat.le_refl _) _)
              have HB : Hid (Below w.heap.size w (wr.alloc (.cells #[U (cc.key (nod nn j))] 33)) ∧ j < nn.length ∧ gk = nn.length - j ∧ w.heap.size ≤ (wr.alloc (.cells #[U (cc.key (nod nn j))] 33)).heap.size) := ⟨hb.alloc hb.size _, hlt, hgk, by simp; omega⟩
              clear hb ho hj9 hlt hgk hsz HM1
              go_wp2_with (at_builtin; refine append_gone _ rfl _ _ 22 rfl w.heap.size 33 j0 (.int .u64 0) 1 8 Tryz.underlying22 hj hj0 hj1 hj2 rfl (by decide) (.slice bo (s0 + j) bc) (s0 + j) (kk0 ++ ((nn.map cc.key).map U).take j) rfl HO.out ⟨wr.heap.size, 0, none⟩ 1 1 [U (cc.key (nod nn j))] rfl rfl ?c1 ?c2 ?c3 ?c4 ?c5 ?c6 ?_)
              case c1 => exact cells_new wr 33 [U (cc.key (nod nn j))]
              case c2 => simp [Value.oneCell']
              case c3 => have := HG.out.2.2; have := HB.out.2.1; unfold maxLen; omega
              case c4 => have := HG.out.2.2; have := HB.out.2.1; omega
              case c5 => exact HB.out.2.2.2
              case c6 => decide
              intro v4 w4 ho hG
              have hb4 : Below w.heap.size w w4 := gone_below HB.out.1 (fun k hk => (World.ownsRow.lt HO.out k hk).1) HB.out.2.2.2 hG
              have HN : Hid (Below w.heap.size w w4 ∧ w4.ownsRow w.heap.size 33 1 v4 (s0 + (j + 1)) (kk0 ++ ((nn.map cc.key).map U).take (j + 1))) := by
                refine ⟨hb4, ?_⟩
                rw [List.take_add_one, List.getElem?_map, nd_key HB.out.2.1]
                rw [← List.map_map] at ho
                exact ho
              clear a0 n0
              have HM2 : Hid (Mem w4 g oo LL cc mm nn.length) := HMI.out.below hb4
              obtain ⟨a0, _, _, _⟩ := HM2.out.cellsR
              obtain ⟨_, _, n2, _⟩ := HM2.out.cellsN (HII.out.ndlt HB.out.2.1).1
              rw [HII.out.ndS HB.out.2.1] at n2
              clear ho hG hb4 HM2 HO
              go_wp2_with fail
              go_roundg (nn.length - (j + 1))
              case measure => have h1 := HB.out.2.1; have := HB.out.2.2.1; omega
              case rel => exact ⟨j + 1, HB.out.2.1, rfl, rfl, HN.out.1, HN.out.2⟩
            · obtain rfl : j = nn.length := by omega
              have hnz : nod nn nn.length = 0 := by simp [nod]
              rw [hnz]
              have HN : Hid (Below w.heap.size w wr ∧ wr.ownsRow w.heap.size 33 1 u6 s1 kk1) := by
                refine ⟨hb, HFin.out _ _ ?_⟩
                rw [List.take_of_length_le (by simp)] at ho
                exact ho
              clear hb ho hj9 hlt hgk hnz
              go_wp2_with fail
              go_roundg (N - (i + 1))
              case measure => have := HG.out; omega
              case rel => exact ⟨HN.out.1, i + 1, by have := HG.out; omega, rfl, by first | rfl | go_num, by rw [HS1.out.1, HS1.out.2]; exact HN.out.2⟩
        · obtain rfl : N = i := by omega
          have HN : Hid (Below w.heap.size w wr ∧ wr.ownsRow w.heap.size 33 1 u6 (sumL ns N) ((keyL c ns N).map U)) := ⟨hb, ho⟩
          clear hb ho hgk hlt hiN
          go_wp2
          go_ret
          exact ⟨_, rfl, HN.out.2, HN.out.1⟩
end
end Go.Proofs.YtjcbpejplnaakaaGreat.Md
