import Derived.Test.YtjcbpejplnaakaaGreatMdKs
import Derived.Test.YtjcbpejplnaakaaGreatMiKeys
import Derived.Test.YtjcbpejplnaakaaGreatJA
import Derived.Test.YtjcbpejplnaakaaGreatMdClk
import Derived.Test.YtjcbpejplnaakaaGreatMdWtn
import Derived.Test.YtjcbpejplnaakaaGreatMdNew
import Derived.Test.YtjcbpejplnaakaaGreatMbNew
import Derived.Shelf.Abstract
namespace Go.Proofs.YtjcbpejplnaakaaGreat.Mi
open Go.RowKit Go.Maps Go.Proofs.YtjcbpejplnaakaaGreat.Nm Go.Proofs.YtjcbpejplnaakaaGreat.Md

section
variable {w : World} {g : Nat} {o : Nat → Nat} {L : Nat → Lo} {c : Nat → Rs} {hd : Nat → Nat → Nat} {m : Nat → Nat → Option Int} {ns fr : Nat → List Nat} {N : Nat}
set_option maxHeartbeats 1600000 in
set_option maxRecDepth 100000 in
theorem keysOf_all (h : ∀ i, i < N → Mem w g (o i) (L i) (c i) (hd i) (m i) (ns i).length) (hi : ∀ i, i < N → Inv (c i) (ns i) (fr i) []) (hk : sumL ns N ≤ 1000000000) (hN : N ≤ 1000) {pb : Nat} (hp : ∀ i, i < N → w.cell? ⟨pb, i, none⟩ = some (.pointer (some ⟨g, o i, none⟩))) (hpb : pb < w.heap.size) : Calls Tryz.prog 101 #[.slice (some ⟨pb, 0, none⟩) N N] w fun e w' => ∃ v, e = .returned v ∧ w'.ownsRow w.heap.size 33 1 v (sumL ns N) ((keyL c ns N).map U) ∧ Below w.heap.size w w' := by
  have HI : Hid ((∀ i, i < N → Inv (c i) (ns i) (fr i) []) ∧ sumL ns N ≤ 1000000000) := ⟨hi, hk⟩
  have HM : Hid (∀ i, i < N → Mem w g (o i) (L i) (c i) (hd i) (m i) (ns i).length) := h
  have HP : Hid ((∀ i, i < N → w.cell? ⟨pb, i, none⟩ = some (.pointer (some ⟨g, o i, none⟩))) ∧ pb < w.heap.size) := ⟨hp, hpb⟩
  have hN' : (N : Int) ≤ 1000 := by omega
  clear h hi hk hpb hp
  go_enter Tryz.func101, Tryz.ntmps101
  go_wp2_with fail
  go_loopg [3, 12] N (fun gq x y wr => w = wr ∧ ∃ i, i ≤ N ∧ gq = N - i ∧ x = I (sumL ns i : Nat) ∧ y = I (i : Nat))
  case atStart => exact ⟨rfl, 0, Nat.zero_le _, rfl, rfl, rfl⟩
  case round =>
    obtain ⟨rfl, i, hiN, hgk, rfl, rfl⟩ := hrel
    by_cases hlt : i < N
    · have HG : Hid (gk = N - i ∧ i < N) := ⟨hgk, hlt⟩
      have hlt' : (i : Int) < (N : Int) := by omega
      have hp1 := HP.out.1 i hlt
      have HC : Hid (Calls Tryz.prog 102 #[.pointer (some ⟨g, o i, none⟩)] w fun e w' => e = .returned (I ((ns i).length : Nat)) ∧ w' = w) := count_any (HM.out i hlt)
      have hw : IntKind.i64.wrap ((sumL ns i : Nat) + ((ns i).length : Nat) : Int) = ((sumL ns (i + 1) : Nat) : Int) := by
        have := sumL_mono ns (show i + 1 ≤ N by omega)
        have := HI.out.2
        have e : sumL ns (i + 1) = sumL ns i + (ns i).length := rfl
        rw [IntKind.wrap_i64]
        omega
      generalize (ns i).length = ni at HC hw
      clear hgk hlt hiN
      go_wp2_with (go_at_call 102; refine HC.out.mono ?_; rintro _ _ ⟨rfl, rfl⟩)
      go_roundg (N - (i + 1))
      case measure => have := HG.out; omega
      case rel => exact ⟨rfl, i + 1, by have := HG.out; omega, rfl, by first | rfl | rw [hw], by first | rfl | go_num⟩
    · obtain rfl : N = i := by omega
      clear hgk hiN hlt
      have hmk := mk_keys (sumL ns N) HI.out.2
      have HB0 : Hid (Below w.heap.size w (w.alloc (.cells (madeCells #[.int .u64 0] (sumL ns N)) 33)) ∧ (w.alloc (.cells (madeCells #[.int .u64 0] (sumL ns N)) 33)).ownsRow w.heap.size 33 1 (.slice (some ⟨w.heap.size, 0, none⟩) 0 (sumL ns N)) 0 []) := ⟨(Below.refl _ w).alloc (Nat.le_refl _) _, World.ownsRow_made w _ _ (Nat.le_refl _) (by have := HI.out.2; unfold maxLen; omega) (by rw [size_madeCells, Nat.mul_one])⟩
      go_upto_region 9 with fail
      generalize w.alloc (.cells (madeCells #[.int .u64 0] (sumL ns N)) 33) = w1 at *
      clear hmk
      go_loopg [6, 25] N (fun gq x y wr => Below w.heap.size w wr ∧ ∃ i, i ≤ N ∧ gq = N - i ∧ y = I (i : Nat) ∧ wr.ownsRow w.heap.size 33 1 x (sumL ns i) ((keyL c ns i).map U))
      case atStart => exact ⟨HB0.out.1, 0, Nat.zero_le _, rfl, rfl, HB0.out.2⟩
      case round =>
        obtain ⟨hb, i, hiN, hgk, rfl, ho⟩ := hrel
        by_cases hlt : i < N
        · have HG : Hid (gk = N - i ∧ i < N ∧ sumL ns i + (ns i).length ≤ 1000000000) := ⟨hgk, hlt, by
            have := sumL_mono ns (show i + 1 ≤ N by omega)
            have := HI.out.2
            have e : sumL ns (i + 1) = sumL ns i + (ns i).length := rfl
            omega⟩
          have hlt' : (i : Int) < (N : Int) := by omega
          have HII : Hid (Inv (c i) (ns i) (fr i) []) := HI.out.1 i hlt
          have HMI : Hid (Mem w g (o i) (L i) (c i) (hd i) (m i) (ns i).length) := HM.out i hlt
          have HFin : Hid (∀ (u : Value) (W : World), W.ownsRow w.heap.size 33 1 u (sumL ns i + (ns i).length) ((keyL c ns i).map U ++ ((ns i).map (c i).key).map U) → W.ownsRow w.heap.size 33 1 u (sumL ns (i + 1)) ((keyL c ns (i + 1)).map U)) := by
            intro u W q
            have e : (keyL c ns (i + 1)).map U = (keyL c ns i).map U ++ ((ns i).map (c i).key).map U := List.map_append
            rw [e]
            exact q
          obtain ⟨bo, bc, rfl⟩ := own_form ho
          have HB : Hid (Below w.heap.size w wr) := hb
          have HO : Hid (wr.ownsRow w.heap.size 33 1 (.slice bo (sumL ns i) bc) (sumL ns i) ((keyL c ns i).map U)) := ho
          have hp1 : wr.cell? ⟨pb, i, none⟩ = some (.pointer (some ⟨g, o i, none⟩)) := by
            have := cell_blk (hb.block pb HP.out.2) i
            rw [this]
            exact HP.out.1 i hlt
          clear HP HI HM ho hgk hiN hlt hb
          generalize hs1 : sumL ns (i + 1) = s1 at HFin
          generalize hk1 : (keyL c ns (i + 1)).map U = kk1 at HFin
          have HS1 : Hid (sumL ns (i + 1) = s1 ∧ (keyL c ns (i + 1)).map U = kk1) := ⟨hs1, hk1⟩
          clear hs1 hk1
          generalize sumL ns i = s0 at *
          generalize (keyL c ns i).map U = kk0 at *
          generalize ns i = nn at *
          generalize c i = cc at *
          generalize L i = LL at *
          generalize hd i = hh at *
          generalize m i = mm at *
          generalize o i = oo at *
          generalize fr i = ff at *
          have HM1 : Hid (Mem wr g oo LL cc hh mm nn.length) := HMI.out.below HB.out
          obtain ⟨a0, _, _, _⟩ := HM1.out.cellsR
          obtain ⟨_, sh, _, n2, _⟩ := HM1.out.cellsN HII.out.pos
          rw [Nat.zero_mul, HII.out.nd0] at n2
          have h0' : (0 : Int) < (cc.n : Int) := by have := HII.out.pos; omega
          go_upto_region 12 with fail
          clear n2 a0 HM1 hp1
          obtain ⟨Wa, hWa⟩ : ∃ Wa, Wa = wr := ⟨_, rfl⟩
          have HBa : Hid (Below w.heap.size w Wa ∧ Wa.ownsRow w.heap.size 33 1 (.slice bo s0 bc) s0 kk0 ∧ Wa = wr) := ⟨by rw [hWa]; exact HB.out, by rw [hWa]; exact HO.out, hWa⟩
          clear hWa HB HO
          obtain ⟨j0, hj, hj0, hj1, hj2⟩ := info_parts info33
          go_loopg [6, 9] nn.length (fun gq x y wr => ∃ j, j ≤ nn.length ∧ gq = nn.length - j ∧ y = I ((nod nn j : Nat) : Int) ∧ Below w.heap.size w wr ∧ wr.ownsRow w.heap.size 33 1 x (s0 + j) (kk0 ++ ((nn.map cc.key).map U).take j))
          case atStart => exact ⟨0, Nat.zero_le _, rfl, rfl, by rw [← HBa.out.2.2]; exact HBa.out.1, by rw [← HBa.out.2.2, List.take_zero, List.append_nil]; exact HBa.out.2.1⟩
          case round =>
            obtain ⟨j, hj9, hgk, rfl, hb, ho⟩ := hrel
            clear HBa
            by_cases hlt : j < nn.length
            · have hnz : ((nod nn j : Nat) : Int) ≠ 0 := by have := (HII.out.ndlt hlt).2; omega
              have hnl : ((nod nn j : Nat) : Int) < (cc.n : Int) := by have := (HII.out.ndlt hlt).1; omega
              obtain ⟨bo, bc, rfl⟩ := own_form ho
              have HM1 : Hid (Mem wr g oo LL cc hh mm nn.length) := HMI.out.below hb
              obtain ⟨a0, _, _, _⟩ := HM1.out.cellsR
              obtain ⟨n0, sh, _, _, _⟩ := HM1.out.cellsN (HII.out.ndlt hlt).1
              have hsz := hb.size
              have HO : Hid ((wr.alloc (.cells #[U (cc.key (nod nn j))] 33)).ownsRow w.heap.size 33 1 (.slice bo (s0 + j) bc) (s0 + j) (kk0 ++ ((nn.map cc.key).map U).take j)) := own_below ho ((Below.refl _ wr).alloc (Nat.le_refl _) _)
              have HB : Hid (Below w.heap.size w (wr.alloc (.cells #[U (cc.key (nod nn j))] 33)) ∧ j < nn.length ∧ gk = nn.length - j ∧ w.heap.size ≤ (wr.alloc (.cells #[U (cc.key (nod nn j))] 33)).heap.size) := ⟨hb.alloc hb.size _, hlt, hgk, by simp; omega⟩
              clear hb ho hj9 hlt hgk hsz HM1
              go_wp2_with (at_builtin; refine append_gone _ rfl _ _ 22 rfl w.heap.size 33 j0 (.int .u64 0) 1 8 Tryz.underlying22 hj hj0 hj1 hj2 rfl (by decide) (.slice bo (s0 + j) bc) (s0 + j) (kk0 ++ ((nn.map cc.key).map U).take j) rfl HO.out ⟨wr.heap.size, 0, none⟩ 1 1 [U (cc.key (nod nn j))] rfl rfl ?c1 ?c2 ?c3 ?c4 ?c5 ?c6 ?_)
              case c1 => exact cells_new wr 33 [U (cc.key (nod nn j))]
              case c2 => simp [Value.oneCell']
              case c3 => have := HG.out.2.2; have := HB.out.2.1; unfold maxLen; omega
              case c4 => have := HG.out.2.2; have := HB.out.2.1; omega
              case c5 => exact HB.out.2.2.2
              case c6 => decide
              intro v4 w4 ho hG
              have hb4 : Below w.heap.size w w4 := gone_below HB.out.1 (fun k hk => (World.ownsRow.lt HO.out k hk).1) HB.out.2.2.2 hG
              have HN : Hid (Below w.heap.size w w4 ∧ w4.ownsRow w.heap.size 33 1 v4 (s0 + (j + 1)) (kk0 ++ ((nn.map cc.key).map U).take (j + 1))) := by
                refine ⟨hb4, ?_⟩
                rw [List.take_add_one, List.getElem?_map, nd_key HB.out.2.1]
                rw [← List.map_map] at ho
                exact ho
              clear a0 n0
              have HM2 : Hid (Mem w4 g oo LL cc hh mm nn.length) := HMI.out.below hb4
              obtain ⟨a0, _, _, _⟩ := HM2.out.cellsR
              obtain ⟨_, sh, _, n2, _⟩ := HM2.out.cellsN (HII.out.ndlt HB.out.2.1).1
              rw [HII.out.ndS HB.out.2.1] at n2
              clear ho hG hb4 HM2 HO
              go_wp2_with fail
              go_roundg (nn.length - (j + 1))
              case measure => have h1 := HB.out.2.1; have := HB.out.2.2.1; omega
              case rel => exact ⟨j + 1, HB.out.2.1, rfl, rfl, HN.out.1, HN.out.2⟩
            · obtain rfl : j = nn.length := by omega
              have hnz : nod nn nn.length = 0 := by simp [nod]
              rw [hnz]
              have HN : Hid (Below w.heap.size w wr ∧ wr.ownsRow w.heap.size 33 1 u6 s1 kk1) := by
                refine ⟨hb, HFin.out _ _ ?_⟩
                rw [List.take_of_length_le (by simp)] at ho
                exact ho
              clear hb ho hj9 hlt hgk hnz
              go_wp2_with fail
              go_roundg (N - (i + 1))
              case measure => have := HG.out; omega
              case rel => exact ⟨HN.out.1, i + 1, by have := HG.out; omega, rfl, by first | rfl | go_num, by rw [HS1.out.1, HS1.out.2]; exact HN.out.2⟩
        · obtain rfl : N = i := by omega
          have HN : Hid (Below w.heap.size w wr ∧ wr.ownsRow w.heap.size 33 1 u6 (sumL ns N) ((keyL c ns N).map U)) := ⟨hb, ho⟩
          clear hb ho hgk hlt hiN
          go_wp2
          go_ret
          exact ⟨_, rfl, HN.out.2, HN.out.1⟩
end
end Go.Proofs.YtjcbpejplnaakaaGreat.Mi

namespace Go.Proofs.YtjcbpejplnaakaaGreat.Mi
open Go.RowKit Go.Maps Go.Proofs.YtjcbpejplnaakaaGreat.Nm Go.Proofs.YtjcbpejplnaakaaGreat.Md

theorem prs_len (c : Rs) (hd : Nat → Nat) (ns : List Nat) : (prs c hd ns).length = ns.length := by simp [prs]
section
variable {w w' w0 u : World} {g o1 o2 size p : Nat} {F F1 F2 : List Nat} {pa pb9 : List (Nat × Nat)}
theorem keys2 (h1 : Rw w w g o1 F1 pa) (h2 : Rw w w g o2 F2 pb9) (hl : pa.length + pb9.length ≤ 1000000000) (hb : Below w.heap.size w u) {pb : Nat} (hp0 : u.cell? ⟨pb, 0, none⟩ = some (.pointer (some ⟨g, o1, none⟩))) (hp1 : u.cell? ⟨pb, 1, none⟩ = some (.pointer (some ⟨g, o2, none⟩))) (hpb : pb < u.heap.size) : Calls Tryz.prog 101 #[.slice (some ⟨pb, 0, none⟩) 2 2] u fun e w' => ∃ v, e = .returned v ∧ w'.ownsRow w.heap.size 33 1 v (pa.length + pb9.length) ((pa.map Prod.fst ++ pb9.map Prod.fst).map U) ∧ Below w.heap.size w w' := by
  obtain ⟨L1, c1, hd1, m1, ns1, fr1, a1, a2, a3, rfl, a5⟩ := h1
  obtain ⟨L2, c2, hd2, m2, ns2, fr2, b1, b2, b3, rfl, b5⟩ := h2
  rw [prs_len, prs_len] at hl
  have two : ∀ i, i < 2 → i = 0 ∨ i = 1 := fun i hi => by omega
  have hs := hb.size
  refine (keysOf_all (N := 2) (o := fun i => if i = 0 then o1 else o2) (L := fun i => if i = 0 then L1 else L2) (c := fun i => if i = 0 then c1 else c2) (hd := fun i => if i = 0 then hd1 else hd2) (m := fun i => if i = 0 then m1 else m2) (ns := fun i => if i = 0 then ns1 else ns2) (fr := fun i => if i = 0 then fr1 else fr2) (g := g) (w := u) ?_ ?_ ?_ (by omega) (pb := pb) ?_ hpb).mono ?_
  · intro i hi
    rcases two i hi with rfl | rfl
    · exact a1.mem.below hb
    · exact b1.mem.below hb
  · intro i hi
    rcases two i hi with rfl | rfl
    · exact a2
    · exact b2
  · show 0 + ns1.length + ns2.length ≤ _
    omega
  · intro i hi
    rcases two i hi with rfl | rfl
    · exact hp0
    · exact hp1
  · rintro _ w' ⟨v, rfl, q1, q2⟩
    refine ⟨v, rfl, ?_, hb.trans (q2.mono hs)⟩
    rw [prs_len, prs_len, prs_fst, prs_fst]
    have e1 : sumL (fun i => if i = 0 then ns1 else ns2) 2 = ns1.length + ns2.length := by
      show 0 + ns1.length + ns2.length = _
      omega
    have e2 : keyL (fun i => if i = 0 then c1 else c2) (fun i => if i = 0 then ns1 else ns2) 2 = ns1.map c1.key ++ ns2.map c2.key := by
      show [] ++ ns1.map c1.key ++ ns2.map c2.key = _
      rw [List.nil_append]
    rw [e1, e2] at q1
    obtain ⟨q1, q3⟩ := q1
    refine ⟨q1, q3.imp id ?_⟩
    rintro ⟨b, cap, cur, r1, r2, r3⟩
    exact ⟨b, cap, cur, r1, Nat.le_trans hs r2, r3⟩
end
end Go.Proofs.YtjcbpejplnaakaaGreat.Mi
namespace Go.Proofs.YtjcbpejplnaakaaGreat.Md
open Go.RowKit Go.Maps Go.Proofs.YtjcbpejplnaakaaGreat.Nm
section
variable {w0 w w' : World} {g size : Nat} {F F1 F2 F3 ks out : List Nat} {ps pm : List (Nat × Nat)} {v : Value}
set_option maxHeartbeats 1600000 in
set_option maxRecDepth 100000 in
theorem S5.keys (h : S5 w0 w g F size ps pm ks v out F1 F2 F3) (hl : ps.length + pm.length ≤ 1000000000) : Calls Tryz.prog 95 #[.pointer (some ⟨g, 0, none⟩)] w fun e w' => ∃ v, e = .returned v ∧ w'.ownsRow w.heap.size 33 1 v (ps.length + pm.length) ((ps.map Prod.fst ++ pm.map Prod.fst).map U) ∧ Below w.heap.size w w' := by
  have H : Hid (Mi.Rw w w g 1 F1 ps ∧ Mi.Rw w w g 4 F2 pm ∧ ps.length + pm.length ≤ 1000000000) := ⟨h.r1, h.r2, hl⟩
  clear h hl
  go_enter Tryz.func95, Tryz.ntmps95
  go_wp2_with fail
  go_region_with (go_at_call 101; refine (Mi.keys2 H.out.1 H.out.2.1 H.out.2.2 ((Below.refl _ w).alloc (Nat.le_refl _) _).drew (by show World.cell? (w.alloc _) _ = _; unfold World.cell?; rw [heap_alloc_new]; rfl) (by show World.cell? (w.alloc _) _ = _; unfold World.cell?; rw [heap_alloc_new]; rfl) (by show w.heap.size < (w.alloc _).heap.size; simp)).mono ?_; rintro _ w2 ⟨v, rfl, h2⟩)
  all_goals (have H2 := show Hid _ from h2)
  all_goals clear h2
  all_goals (go_wp2; go_ret; exact ⟨_, rfl, H2.out.1, H2.out.2⟩)
end
end Go.Proofs.YtjcbpejplnaakaaGreat.Md

namespace Go.Proofs.YtjcbpejplnaakaaGreat.Mb
open Go.RowKit Go.Maps Go.Proofs.YtjcbpejplnaakaaGreat.Nm Go.Proofs.YtjcbpejplnaakaaGreat.Md

theorem setB_fst (ps : List (Nat × Bool)) (k : Nat) (v : Bool) : (setB ps k v).map Prod.fst = ps.map Prod.fst := by
  unfold setB
  rw [List.map_map]
  refine List.map_congr_left fun p _ => ?_
  show (if p.1 = k then (p.1, v) else p).1 = p.1
  split <;> rfl
theorem rotF_perm (f : Nat) : ∀ ps : List (Nat × Bool), ((rotF f ps).map Prod.fst).Perm (ps.map Prod.fst) := by
  induction f with
  | zero => exact fun ps => List.Perm.refl _
  | succ f ih =>
    intro ps
    by_cases hne : ps = []
    · subst hne
      exact List.Perm.refl _
    · obtain ⟨l, x, rfl⟩ : ∃ l x, ps = l ++ [x] := ⟨ps.dropLast, ps.getLast hne, (List.dropLast_concat_getLast _).symm⟩
      obtain ⟨k, b⟩ := x
      cases b with
      | true =>
        have e : rotF (f + 1) (l ++ [(k, true)]) = rotF f ((k, false) :: l) := by simp [rotF]
        rw [e]
        refine (ih _).trans ?_
        rw [List.map_append, List.map_cons]
        exact (List.perm_append_singleton k (l.map Prod.fst)).symm
      | false =>
        have e : rotF (f + 1) (l ++ [(k, false)]) = l ++ [(k, false)] := by simp [rotF]
        rw [e]
theorem prs_len (c : Rs) (hd : Nat → Bool) (ns : List Nat) : (prs c hd ns).length = ns.length := by simp [prs]
section
variable {w w' w2 w0 : World} {g o : Nat} {F : List Nat} {size : Nat} {ps : List (Nat × Bool)}
theorem Rw.glt (h : Rw w0 w g o F ps) : g < w.heap.size := by
  obtain ⟨L, c, hd, m, ns, fr, h1, h2⟩ := h
  exact h1.mem.lt g (by simp [foot])
set_option maxRecDepth 100000 in
theorem Rw.ckeys (h : Rw w w g 1 F ps) (hl : ps.length ≤ 1000000000) : Calls Tryz.prog 76 #[.pointer (some ⟨g, 0, none⟩)] w fun e w' => ∃ v, e = .returned v ∧ w'.ownsRow w.heap.size 33 1 v (ps.map Prod.fst).length ((ps.map Prod.fst).map U) ∧ Below w.heap.size w w' := by
  obtain ⟨L, c, hd, m, ns, fr, h1, h2, h3, rfl, h5⟩ := h
  rw [prs_len] at hl
  rw [prs_fst]
  have H : Hid (Mem (w.alloc (.cells #[.pointer (some ⟨g, 1, none⟩)] 130)) g 1 L c hd m ns.length ∧ Inv c ns fr [] ∧ ns.length ≤ 1000000000) := ⟨h1.mem.below ((Below.refl _ w).alloc (Nat.le_refl _) _), h2, hl⟩
  clear h1 h2 h3 h5 hl
  go_enter Tryz.func76, Tryz.ntmps76
  go_wp2_with fail
  refine (keysOf_any H.out.1 H.out.2.1 H.out.2.2 (pb := w.heap.size) (by unfold World.cell?; rw [heap_alloc_new]; rfl) (by simp)).mono ?_
  rintro _ w1 ⟨v, rfl, h1, h2⟩
  have H1 : Hid (w1.ownsRow (w.alloc (.cells #[.pointer (some ⟨g, 1, none⟩)] 130)).heap.size 33 1 v ns.length ((ns.map c.key).map U) ∧ Below (w.alloc (.cells #[.pointer (some ⟨g, 1, none⟩)] 130)).heap.size (w.alloc (.cells #[.pointer (some ⟨g, 1, none⟩)] 130)) w1) := ⟨h1, h2⟩
  clear h1 h2
  go_wp2
  go_ret
  refine ⟨_, rfl, ?_, ((Below.refl _ w).alloc (Nat.le_refl _) _).trans (H1.out.2.mono (by simp))⟩
  rw [List.length_map]
  obtain ⟨q1, q2⟩ := H1.out.1
  refine ⟨q1, q2.imp id ?_⟩
  rintro ⟨b, cap, cur, r1, r2, r3⟩
  exact ⟨b, cap, cur, r1, Nat.le_trans (by simp) r2, r3⟩
end
end Go.Proofs.YtjcbpejplnaakaaGreat.Mb
namespace Go.Proofs.YtjcbpejplnaakaaGreat.Md
open Go.RowKit Go.Maps Go.Proofs.YtjcbpejplnaakaaGreat.Nm

/-- keys that can be read, and room for all but one of them -/
def KRc (w : World) (v : Value) (l : List Nat) : Prop := KRd w v l ∧ ∀ b n c, v = .slice b n c → l.length ≤ c + 1
theorem krc_nil (w : World) : KRc w (.slice none 0 0) [] := ⟨⟨none, 0, rfl, fun j x hx => by simp at hx⟩, fun _ _ _ _ => by simp⟩
theorem KRc.own {w : World} {base : Nat} {v : Value} {l : List Nat} (h : w.ownsRow base 33 1 v l.length (l.map U)) : KRc w v l := by
  refine ⟨KRd.own h, fun b n c e => ?_⟩
  by_cases h0 : 0 < l.length
  · obtain ⟨g, cap, cur, e2, _, _, h7, h8, _⟩ := own_block h h0
    rw [e] at e2
    cases e2
    omega
  · omega
/-- what a kind of cache promises: where one lies, its keys -/
structure Kd (T fa fk : Nat) (s3 : Bool) (size : Nat) (P : World → Nat → List Nat → List Nat → Prop) : Prop where
  acc : ∀ {w : World} {g : Nat} {F ks : List Nat} {k : Nat}, P w g F ks → k < 18446744073709551616 → Calls Tryz.prog fa #[.pointer (some ⟨g, 0, none⟩), U k] w fun e w' => ∃ v F' ks' out, e = .returned (.tuple #[.bool (decide (k ∈ ks)), v]) ∧ P w' g F' ks' ∧ Fr F w w' ∧ (∀ x ∈ F', x ∈ F ∨ w.heap.size ≤ x) ∧ KRc w' v out ∧ Snd s3 size k ks ks' out
  keys : ∀ {w : World} {g : Nat} {F ks : List Nat}, P w g F ks → Calls Tryz.prog fk #[.pointer (some ⟨g, 0, none⟩)] w fun e w' => ∃ v, e = .returned v ∧ w'.ownsRow w.heap.size 33 1 v ks.length (ks.map U) ∧ Below w.heap.size w w'
  below : ∀ {w w' : World} {g : Nat} {F ks : List Nat}, P w g F ks → Below w.heap.size w w' → ∃ F', P w' g F' ks ∧ ∀ x ∈ F', x ∈ F
  lt : ∀ {w : World} {g : Nat} {F ks : List Nat}, P w g F ks → ∀ x ∈ F, x < w.heap.size
  nd : ∀ {w : World} {g : Nat} {F ks : List Nat}, P w g F ks → ∀ x, ct x ks ≤ 1
  le : ∀ {w : World} {g : Nat} {F ks : List Nat}, P w g F ks → ks.length ≤ size
section
variable {w w' w0 : World} {g size k p : Nat} {F F1 F2 F3 F' ks out a m o : List Nat} {ps pm : List (Nat × Nat)} {v : Value}
theorem Tld.krd (h : Tld w w' F' v out) : KRc w' v out := by
  rcases h with ⟨rfl, rfl⟩ | ⟨x, b, c, rfl, rfl, h1, h2, h3, h4⟩
  · exact krc_nil _
  · refine ⟨⟨_, c, rfl, fun j y hy => ?_⟩, fun _ _ _ _ => by simp⟩
    cases j with
    | zero =>
      simp only [List.getElem?_cons_zero, Option.some.injEq] at hy
      subst hy
      exact ⟨b, rfl, h3, h1.cell⟩
    | succ j => simp at hy
theorem nd_ct {l : List Nat} (h : l.Nodup) (x : Nat) : ct x l ≤ 1 := by
  unfold ct
  exact List.nodup_iff_count.1 h x
theorem snd_hit (hk : k ∈ ks) (hl : ks.length ≤ size) : Snd false size k ks ks [] :=
  ⟨fun z => by rw [if_pos hk, ct_nil], fun _ => rfl, hk, hl, fun _ _ => rfl⟩
theorem snd_full {l : List Nat} {x : Nat} (hk : k ∉ l ++ [x]) (hl : (l ++ [x]).length = size) : Snd false size k (l ++ [x]) (k :: l) [x] :=
  ⟨fun z => by rw [if_neg hk, ct_app, ct_cons, ct_cons, ct_nil]; omega, fun e => absurd e hk, by simp, by simp at hl ⊢; omega, fun _ q => by omega⟩
theorem snd_new (hk : k ∉ ks) (hl : ks.length < size) : Snd false size k ks (k :: ks) [] :=
  ⟨fun z => by rw [if_neg hk, ct_cons, ct_nil]; omega, fun _ => rfl, by simp, by simp; omega, fun _ _ => rfl⟩
theorem snd_front (hk : k ∈ ks) (hl : ks.length ≤ size) : Snd false size k ks (k :: ks.erase k) [] := by
  have e := List.length_erase_of_mem hk
  have hp := List.length_pos_of_mem hk
  exact ⟨fun z => by rw [if_pos hk, ct_cons, ct_nil]; have := er_ct hk z; omega, fun _ => rfl, by simp, by simp; omega, fun _ _ => rfl⟩
theorem Ca.reb (h : Ca w g size F ks) (hr : Rw w w' g 1 F a) : ∃ F', Ca w' g size F' a ∧ Fr F w w' ∧ ∀ x ∈ F', x ∈ F ∨ w.heap.size ≤ x := by
  obtain ⟨F5, hR5, hF5⟩ := hr.rebase (Below.refl _ _)
  exact ⟨F5, ⟨hR5, (hr.rest (by omega)).trans h.sz, fun x hx => (hF5 x hx).1⟩, hr.fr_, fun x hx => (hF5 x hx).2⟩
/-- FIFO -/
theorem kdFifo (h0 : 0 < size) (hz : size ≤ 1048576) : Kd 44 60 61 false size (fun w g F ks => Ca w g size F ks ∧ ks.length ≤ size) where
  acc := by
    rintro w g F ks k ⟨h, hl⟩ hk
    by_cases hm : k ∈ ks
    · rw [decide_eq_true hm]
      refine (fifo_hit h.rw hm hk).mono ?_
      rintro _ w' ⟨rfl, rfl⟩
      exact ⟨_, F, ks, [], rfl, ⟨h, hl⟩, Fr.refl _ _, fun x hx => Or.inl hx, krc_nil _, snd_hit hm hl⟩
    · rw [decide_eq_false hm]
      by_cases hf : ks.length = size
      · obtain ⟨l, x, rfl⟩ : ∃ l x, ks = l ++ [x] := ⟨ks.dropLast, ks.getLast (by rintro rfl; simp at hf; omega), (List.dropLast_concat_getLast _).symm⟩
        refine (fifo_full h.rw hm hk h.sz hf (by omega)).mono ?_
        rintro _ w' ⟨b, c, F', rfl, q1, q2, q3, q4, q5, q6, q7⟩
        exact ⟨_, F', k :: l, [x], rfl, ⟨⟨q5, (q1.rest (by omega)).trans h.sz, fun x hx => (q7 x hx).1⟩, by simp at hf ⊢; omega⟩, q1.fr_, fun x hx => (q7 x hx).2, Tld.krd (w := w) (F' := F') (Or.inr ⟨x, b, c, rfl, rfl, q4, q2, q3, q6⟩), snd_full hm hf⟩
      · refine (fifo_miss h.rw hm hk h.sz (by omega) (by omega)).mono ?_
        rintro _ w' ⟨rfl, q1⟩
        obtain ⟨F5, c1, c2, c3⟩ := h.reb q1
        exact ⟨_, F5, k :: ks, [], rfl, ⟨c1, by simp; omega⟩, c2, c3, krc_nil _, snd_new hm (by omega)⟩
  keys := fun h => h.1.keys (by have := h.2; omega)
  below := fun h hb => ⟨_, ⟨h.1.below hb, h.2⟩, fun x hx => hx⟩
  lt := fun h => h.1.lt
  nd := fun h => nd_ct h.1.rw.nodup
  le := fun h => h.2
/-- LRU -/
theorem kdLru (h0 : 0 < size) (hz : size ≤ 1048576) : Kd 46 72 61 false size (fun w g F ks => Ca w g size F ks ∧ ks.length ≤ size) where
  acc := by
    rintro w g F ks k ⟨h, hl⟩ hk
    refine (lru_any h hk hl (by omega) h0).mono ?_
    rintro _ w' ⟨v, F', rfl, q1, q2, q3, q4⟩
    have hs : Snd false size k ks (lruNext size ks k) (lruOut size ks k) := by
      by_cases hm : k ∈ ks
      · have e1 : lruNext size ks k = k :: ks.erase k := if_pos hm
        have e2 : lruOut size ks k = [] := if_pos hm
        rw [e1, e2]
        exact snd_front hm hl
      · by_cases hf : ks.length = size
        · obtain ⟨l, x, rfl⟩ : ∃ l x, ks = l ++ [x] := ⟨ks.dropLast, ks.getLast (by rintro rfl; simp at hf; omega), (List.dropLast_concat_getLast _).symm⟩
          have e1 : lruNext size (l ++ [x]) k = k :: l := by unfold lruNext; rw [if_neg hm, if_pos hf, List.dropLast_concat]
          have e2 : lruOut size (l ++ [x]) k = [x] := by unfold lruOut; rw [if_neg hm, if_pos hf]; simp
          rw [e1, e2]
          exact snd_full hm hf
        · have e1 : lruNext size ks k = k :: ks := by unfold lruNext; rw [if_neg hm, if_neg hf]
          have e2 : lruOut size ks k = [] := by unfold lruOut; rw [if_neg hm, if_neg hf]
          rw [e1, e2]
          exact snd_new hm (by omega)
    exact ⟨v, F', _, _, rfl, ⟨q1, hs.le⟩, q2, q3, q4.krd, hs⟩
  keys := fun h => h.1.keys (by have := h.2; omega)
  below := fun h hb => ⟨_, ⟨h.1.below hb, h.2⟩, fun x hx => hx⟩
  lt := fun h => h.1.lt
  nd := fun h => nd_ct h.1.rw.nodup
  le := fun h => h.2
/-- a CLOCK at rest -/
def Ck (size : Nat) (w : World) (g : Nat) (F ks : List Nat) : Prop := ∃ ps, ks = ps.map Prod.fst ∧ Mb.Rw w w g 1 F ps ∧ w.cell? ⟨g, 0, none⟩ = some (I size) ∧ (∀ x ∈ F, x < w.heap.size) ∧ ps.length ≤ size
theorem Ck.reb {qs : List (Nat × Bool)} (hs : w.cell? ⟨g, 0, none⟩ = some (I size)) (hr : Mb.Rw w w' g 1 F qs) (hl : qs.length ≤ size) : ∃ F', Ck size w' g F' (qs.map Prod.fst) ∧ Fr F w w' ∧ ∀ x ∈ F', x ∈ F ∨ w.heap.size ≤ x := by
  obtain ⟨F5, hR5, hF5⟩ := hr.rebase (Below.refl _ _)
  exact ⟨F5, ⟨qs, rfl, hR5, (hr.rest (by omega)).trans hs, fun x hx => (hF5 x hx).1, hl⟩, hr.fr_, fun x hx => (hF5 x hx).2⟩
theorem kdClock (h0 : 0 < size) (hz : size ≤ 1048576) : Kd 48 75 76 false size (Ck size) where
  acc := by
    rintro w g F _ k ⟨ps, rfl, h, hsz, hlt, hl⟩ hk
    by_cases hm : k ∈ ps.map Prod.fst
    · rw [decide_eq_true hm]
      refine (Mb.clock_hit h hm hk).mono ?_
      rintro _ w' ⟨rfl, q1⟩
      obtain ⟨F5, c1, c2, c3⟩ := Ck.reb hsz q1 (by unfold Mb.setB; rw [List.length_map]; exact hl)
      rw [Mb.setB_fst] at c1
      exact ⟨_, F5, _, [], rfl, c1, c2, c3, krc_nil _, snd_hit hm (by rw [List.length_map]; exact hl)⟩
    · rw [decide_eq_false hm]
      by_cases hf : ps.length = size
      · refine (Mb.clock_full h hm hk hsz hf (by omega) h0).mono ?_
        rintro _ w' ⟨b, c, F', l, x, hr, rfl, q1, q2, q3, q4, q5, q6, q7⟩
        have hp : ((l ++ [(x, false)]).map Prod.fst).Perm (ps.map Prod.fst) := by rw [← hr]; exact Mb.rotF_perm _ _
        have hl2 := hp.length_eq
        rw [List.length_map, List.length_map, List.length_append] at hl2
        simp only [List.length_cons, List.length_nil] at hl2
        have hc : ∀ z, ct z (l.map Prod.fst) + one z x = ct z (ps.map Prod.fst) := fun z => by
          have : ct z ((l ++ [(x, false)]).map Prod.fst) = ct z (ps.map Prod.fst) := hp.count_eq z
          rw [List.map_append, ct_app] at this
          have e : ct z ([(x, false)].map Prod.fst) = one z x := by
            show ct z [x] = _
            rw [ct_cons, ct_nil]
            omega
          omega
        refine ⟨_, F', ((k, false) :: l).map Prod.fst, [x], rfl, ⟨_, rfl, q5, (q1.rest (by omega)).trans hsz, fun x hx => (q7 x hx).1, by simp; omega⟩, q1.fr_, fun x hx => (q7 x hx).2, Tld.krd (w := w) (F' := F') (Or.inr ⟨x, b, c, rfl, rfl, q4, q2, q3, q6⟩), fun z => ?_, fun e => absurd e hm, by simp, by simp; omega, fun _ q => by rw [List.length_map] at q; omega⟩
        have := hc z
        show ct z (k :: l.map Prod.fst) + ct z [x] = _
        rw [if_neg hm, ct_cons, ct_cons, ct_nil]
        omega
      · refine (Mb.clock_miss h hm hk hsz (by omega) (by omega)).mono ?_
        rintro _ w' ⟨rfl, q1⟩
        obtain ⟨F5, c1, c2, c3⟩ := Ck.reb hsz q1 (by simp; omega)
        exact ⟨_, F5, _, [], rfl, c1, c2, c3, krc_nil _, snd_new hm (by rw [List.length_map]; omega)⟩
  keys := by
    rintro w g F _ ⟨ps, rfl, h, hsz, hlt, hl⟩
    exact h.ckeys (by omega)
  below := by
    rintro w w' g F _ ⟨ps, rfl, h, hsz, hlt, hl⟩ hb
    obtain ⟨F', q1, q2⟩ := h.rebase hb
    exact ⟨F', ⟨ps, rfl, q1, (cell_blk (hb.block g h.glt) 0).trans hsz, fun x hx => Nat.lt_of_lt_of_le (q2 x hx).1 hb.size, hl⟩, fun x hx => (q2 x hx).2.elim id (fun e => absurd (q2 x hx).1 (by omega))⟩
  lt := by
    rintro w g F _ ⟨ps, rfl, h, hsz, hlt, hl⟩
    exact hlt
  nd := by
    rintro w g F _ ⟨ps, rfl, h, hsz, hlt, hl⟩
    exact nd_ct h.nodup
  le := by
    rintro w g F _ ⟨ps, rfl, h, hsz, hlt, hl⟩
    rw [List.length_map]
    exact hl
/-- a 2Q at rest -/
def Tk2 (size : Nat) (w : World) (g : Nat) (F ks : List Nat) : Prop := ∃ a m o, ks = a ++ m ∧ Q3 w w g F size a m o ∧ Twk size a m o ∧ ∀ x ∈ F, x < w.heap.size
theorem kdTwo (hz : 2 ≤ size ∧ size ≤ 1048576) : Kd 50 90 91 false size (Tk2 size) where
  acc := by
    rintro w g F _ k ⟨a, m, o, rfl, h, ok, hlt⟩ hk
    refine (two_any h ok hk hz).mono ?_
    rintro _ w' ⟨v, F', out, a', m', o', rfl, ⟨q1, q2, q3, q4, q5⟩, ok', hs⟩
    exact ⟨v, F', _, out, rfl, ⟨a', m', o', rfl, q1, ok', q4⟩, q2, q3, q5.krd, hs⟩
  keys := by
    rintro w g F _ ⟨a, m, o, rfl, h, ok, hlt⟩
    rw [List.length_append]
    exact h.keys (by have := ok.held; omega)
  below := by
    rintro w w' g F _ ⟨a, m, o, rfl, h, ok, hlt⟩ hb
    obtain ⟨F', q1, q2⟩ := h.rebase hb
    exact ⟨F', ⟨a, m, o, rfl, q1, ok, fun x hx => Nat.lt_of_lt_of_le (q2 x hx).1 hb.size⟩, fun x hx => (q2 x hx).2.elim id (fun e => absurd (q2 x hx).1 (by omega))⟩
  lt := by
    rintro w g F _ ⟨a, m, o, rfl, h, ok, hlt⟩
    exact hlt
  nd := by
    rintro w g F _ ⟨a, m, o, rfl, h, ok, hlt⟩ x
    have := ok.nd x
    rw [ct_app]
    omega
  le := by
    rintro w g F _ ⟨a, m, o, rfl, h, ok, hlt⟩
    rw [List.length_append]
    exact ok.held
/-- an ARC at rest -/
def Ak4 (size : Nat) (w : World) (g : Nat) (F ks : List Nat) : Prop := ∃ p k1 k2 k3 k4, ks = k1 ++ k2 ∧ Q4 w w g F size p k1 k2 k3 k4 ∧ Ark size p k1 k2 k3 k4 ∧ ∀ x ∈ F, x < w.heap.size
theorem kdArc (h0 : 0 < size) (hz : size ≤ 1048576) : Kd 54 117 118 false size (Ak4 size) where
  acc := by
    rintro w g F _ k ⟨p, k1, k2, k3, k4, rfl, h, ok, hlt⟩ hk
    refine (arc_any h ok hk hz h0).mono ?_
    rintro _ w' ⟨v, F', p', out, j1, j2, j3, j4, rfl, ⟨q1, q2, q3, q4, q5⟩, ok', hs⟩
    exact ⟨v, F', _, out, rfl, ⟨p', j1, j2, j3, j4, rfl, q1, ok', q4⟩, q2, q3, q5.krd, hs⟩
  keys := by
    rintro w g F _ ⟨p, k1, k2, k3, k4, rfl, h, ok, hlt⟩
    rw [List.length_append]
    exact h.keys (by have := ok.held; omega)
  below := by
    rintro w w' g F _ ⟨p, k1, k2, k3, k4, rfl, h, ok, hlt⟩ hb
    obtain ⟨F', q1, q2⟩ := h.rebase hb
    exact ⟨F', ⟨p, k1, k2, k3, k4, rfl, q1, ok, fun x hx => Nat.lt_of_lt_of_le (q2 x hx).1 hb.size⟩, fun x hx => (q2 x hx).2.elim id (fun e => absurd (q2 x hx).1 (by omega))⟩
  lt := by
    rintro w g F _ ⟨p, k1, k2, k3, k4, rfl, h, ok, hlt⟩
    exact hlt
  nd := by
    rintro w g F _ ⟨p, k1, k2, k3, k4, rfl, h, ok, hlt⟩ x
    have := ok.nd x
    rw [ct_app]
    omega
  le := by
    rintro w g F _ ⟨p, k1, k2, k3, k4, rfl, h, ok, hlt⟩
    rw [List.length_append]
    exact ok.held
/-- an S3-FIFO at rest -/
def Sk3 (size : Nat) (w : World) (g : Nat) (F ks : List Nat) : Prop := ∃ ps pm kk F1 F2 F3, ks = fs ps ++ fs pm ∧ S5 w w g F size ps pm kk (.slice none 0 0) [] F1 F2 F3 ∧ S3k size ps pm kk ∧ ps.length + pm.length ≤ size ∧ ∀ x ∈ F, x < w.heap.size
theorem Sk3.reb {v : Value} {out : List Nat} (h : S5 w w' g F size ps pm ks v out F1 F2 F3) (ok : S3k size ps pm ks) (hl : ps.length + pm.length ≤ size) : ∃ F', Sk3 size w' g F' (fs ps ++ fs pm) ∧ Fr F w w' ∧ (∀ x ∈ F', x ∈ F ∨ w.heap.size ≤ x) ∧ KRc w' v out := by
  refine ⟨F1 ++ (F2 ++ F3), ⟨ps, pm, ks, F1, F2, F3, rfl, ⟨h.r1, h.r2, h.r3, fun x hx => ⟨(h.lt x hx).1, Or.inl ?_⟩, h.a12, h.a13, h.a23, Fr.refl _ _, h.sz, World.ownsRow_nil _ _ _ _, fun b e => by cases e⟩, ok, hl, fun x hx => (h.lt x ?_).1⟩, h.fr, fun x hx => (h.lt x ?_).2, KRc.own h.own⟩
  · simp only [List.mem_append]; exact hx
  · simp only [List.mem_append] at hx; exact hx
  · simp only [List.mem_append] at hx; exact hx
theorem S3k.up {l r : List (Nat × Nat)} {hv : Nat} (ok : S3k size (l ++ (k, hv) :: r) pm ks) : S3k size (l ++ (k, min (hv + 1) 3) :: r) pm ks ∧ fs (l ++ (k, min (hv + 1) 3) :: r) = fs (l ++ (k, hv) :: r) := by
  have e : fs (l ++ (k, min (hv + 1) 3) :: r) = fs (l ++ (k, hv) :: r) := by simp [fs]
  refine ⟨⟨fun a => by rw [e]; exact ok.nd a, ok.main, ok.gone, fun q hq => ?_, ok.hm⟩, e⟩
  rcases List.mem_append.1 hq with q1 | q1
  · exact ok.hs q (by simp [q1])
  · rcases List.mem_cons.1 q1 with q1 | q1
    · rw [q1]; show min (hv + 1) 3 ≤ 3; omega
    · exact ok.hs q (by simp [q1])
theorem S3k.up2 {l r : List (Nat × Nat)} {hv : Nat} (ok : S3k size ps (l ++ (k, hv) :: r) ks) : S3k size ps (l ++ (k, min (hv + 1) 3) :: r) ks ∧ fs (l ++ (k, min (hv + 1) 3) :: r) = fs (l ++ (k, hv) :: r) := by
  have e : fs (l ++ (k, min (hv + 1) 3) :: r) = fs (l ++ (k, hv) :: r) := by simp [fs]
  refine ⟨⟨fun a => by rw [e]; exact ok.nd a, by have := ok.main; simp at this ⊢; exact this, ok.gone, ok.hs, fun q hq => ?_⟩, e⟩
  rcases List.mem_append.1 hq with q1 | q1
  · exact ok.hm q (by simp [q1])
  · rcases List.mem_cons.1 q1 with q1 | q1
    · rw [q1]; show min (hv + 1) 3 ≤ 3; omega
    · exact ok.hm q (by simp [q1])
theorem fs_len (l : List (Nat × Nat)) : (fs l).length = l.length := List.length_map ..
theorem snd_hit3 (hk : k ∈ ks) (hl : ks.length ≤ size) : Snd true size k ks ks [] :=
  ⟨fun z => by rw [if_pos hk, ct_nil], fun _ => rfl, hk, hl, fun _ _ => rfl⟩
theorem kdS3 (hz : 10 ≤ size ∧ size ≤ 1048576) : Kd 52 94 95 true size (Sk3 size) where
  acc := by
    rintro w g F _ k ⟨ps, pm, kk, F1, F2, F3, rfl, h, ok, hl, hlt⟩ hk
    by_cases e1 : k ∈ fs ps
    · have hw : k ∈ fs ps ++ fs pm := by simp [e1]
      rw [decide_eq_true hw]
      obtain ⟨⟨k', hv⟩, hm, rfl⟩ := List.mem_map.1 e1
      obtain ⟨l, r, rfl⟩ := List.append_of_mem hm
      have h3 := ok.hs (k', hv) hm
      obtain ⟨ok', ef⟩ := ok.up
      refine (s3_hit1 h h3 hk).mono ?_
      rintro _ w' ⟨G1, rfl, q⟩
      obtain ⟨F', c1, c2, c3, c4⟩ := Sk3.reb q ok' (by simp at hl ⊢; exact hl)
      rw [ef] at c1
      exact ⟨_, F', _, [], rfl, c1, c2, c3, c4, snd_hit3 hw (by rw [List.length_append, fs_len, fs_len]; exact hl)⟩
    · by_cases e2 : k ∈ fs pm
      · have hw : k ∈ fs ps ++ fs pm := by simp [e2]
        rw [decide_eq_true hw]
        obtain ⟨⟨k', hv⟩, hm, rfl⟩ := List.mem_map.1 e2
        obtain ⟨l, r, rfl⟩ := List.append_of_mem hm
        have h3 := ok.hm (k', hv) hm
        obtain ⟨ok', ef⟩ := ok.up2
        refine (s3_hit2 h e1 h3 hk).mono ?_
        rintro _ w' ⟨G1, rfl, q⟩
        obtain ⟨F', c1, c2, c3, c4⟩ := Sk3.reb q ok' (by simp at hl ⊢; exact hl)
        rw [ef] at c1
        exact ⟨_, F', _, [], rfl, c1, c2, c3, c4, snd_hit3 hw (by rw [List.length_append, fs_len, fs_len]; exact hl)⟩
      · have hw : ¬ k ∈ fs ps ++ fs pm := by simp [e1, e2]
        rw [decide_eq_false hw]
        refine (s3_miss h ok hz hl e1 e2 hk).mono ?_
        rintro _ w' ⟨v', G1, G2, G3, a, b, c, d, a', b', c', d', rfl, hp, ha, q⟩
        obtain ⟨⟨k1, k2, k3⟩, k4, k5⟩ := hp.keep hz.1 ok hl
        have n1 : k ∉ fs a ∧ k ∉ fs b := by
          have e1 := k2 k
          have e2 := ct_zero ‹k ∉ fs ps›
          have e3 := ct_zero ‹k ∉ fs pm›
          rw [ct_nil] at e1
          exact ⟨ct_no (by omega), ct_no (by omega)⟩
        obtain ⟨j1, j2, j3, j4, j5⟩ := ha.keep n1.1 n1.2 k1
        have k6 := k5 (by omega)
        have hl' : a'.length + b'.length ≤ size := by omega
        obtain ⟨F', c1, c2, c3, c4⟩ := Sk3.reb q j1 hl'
        refine ⟨_, F', _, d', rfl, c1, c2, c3, c4, fun z => ?_, fun e => absurd e hw, j4, by rw [List.length_append, fs_len, fs_len]; exact hl', fun e => by cases e⟩
        have i1 := k2 z
        have := j2 z
        rw [ct_nil] at i1
        rw [if_neg hw, ct_app, ct_app]
        omega
  keys := by
    rintro w g F _ ⟨ps, pm, kk, F1, F2, F3, rfl, h, ok, hl, hlt⟩
    rw [List.length_append, fs_len, fs_len]
    exact h.keys (by omega)
  below := by
    rintro w w' g F _ ⟨ps, pm, kk, F1, F2, F3, rfl, h, ok, hl, hlt⟩ hb
    have h2 := h.below hb
    obtain ⟨F', c1, c2, c3, c4⟩ := Sk3.reb h2 ok hl
    refine ⟨F1 ++ (F2 ++ F3), ⟨ps, pm, kk, F1, F2, F3, rfl, ⟨h2.r1, h2.r2, h2.r3, fun x hx => ⟨(h2.lt x hx).1, Or.inl ?_⟩, h2.a12, h2.a13, h2.a23, Fr.refl _ _, h2.sz, World.ownsRow_nil _ _ _ _, fun b e => by cases e⟩, ok, hl, fun x hx => (h2.lt x ?_).1⟩, fun x hx => ?_⟩
    · simp only [List.mem_append]; exact hx
    · simp only [List.mem_append] at hx; exact hx
    · simp only [List.mem_append] at hx
      exact (h.lt x hx).2.elim id (fun e => absurd (h.lt x hx).1 (by omega))
  lt := by
    rintro w g F _ ⟨ps, pm, kk, F1, F2, F3, rfl, h, ok, hl, hlt⟩
    exact hlt
  nd := by
    rintro w g F _ ⟨ps, pm, kk, F1, F2, F3, rfl, h, ok, hl, hlt⟩ x
    have := ok.nd x
    rw [ct_app]
    omega
  le := by
    rintro w g F _ ⟨ps, pm, kk, F1, F2, F3, rfl, h, ok, hl, hlt⟩
    rw [List.length_append, fs_len, fs_len]
    exact hl
end
end Go.Proofs.YtjcbpejplnaakaaGreat.Md

namespace Go.Proofs.YtjcbpejplnaakaaGreat.Md
open Go.RowKit Go.Maps Go.Proofs.YtjcbpejplnaakaaGreat.Nm

/-- an element of a list that can be read -/
theorem KRd.at_ {w : World} {b : Option Addr} {n c : Nat} {l : List Nat} (h : KRd w (.slice b n c) l) {j : Nat} (hj : j < l.length) : ∃ g, b = some ⟨g, 0, none⟩ ∧ w.cell? ⟨g, j, none⟩ = some (U l[j]) := by
  obtain ⟨b', c', e, h2⟩ := h
  cases e
  obtain ⟨g, h3, _, h5⟩ := h2 j _ (List.getElem?_eq_getElem hj)
  exact ⟨g, h3, h5⟩
theorem KRd.form {w : World} {v : Value} {l : List Nat} (h : KRd w v l) : ∃ b c, v = .slice b l.length c := by
  obtain ⟨b, c, e, _⟩ := h
  exact ⟨b, c, e⟩
def lN (k : Nat) : Nat := if k = 3 then 2 else if k = 4 then 10 else 1
theorem lN_le (k : Nat) : 1 ≤ lN k ∧ lN k ≤ 10 := by
  unfold lN
  by_cases h3 : k = 3
  · rw [if_pos h3]; omega
  · rw [if_neg h3]
    by_cases h4 : k = 4
    · rw [if_pos h4]; omega
    · rw [if_neg h4]; omega
set_option maxRecDepth 100000 in
theorem least_any (w : World) (k : Nat) : Calls Tryz.prog 20 #[I (k : Nat)] w fun e w' => e = .returned (I (lN k : Nat)) ∧ w' = w := by
  by_cases h0 : k = 3
  · subst h0
    go_enter Tryz.func20, Tryz.ntmps20
    go_wp2
    go_ret
    exact ⟨rfl, rfl⟩
  · by_cases h1 : k = 4
    · subst h1
      go_enter Tryz.func20, Tryz.ntmps20
      go_wp2
      go_ret
      exact ⟨rfl, rfl⟩
    · have e : lN k = 1 := by unfold lN; rw [if_neg h0, if_neg h1]
      have e3 : ((k : Int) == 3) = false := by rw [beq_eq_false_iff_ne]; omega
      have e4 : ((k : Int) == 4) = false := by rw [beq_eq_false_iff_ne]; omega
      rw [e]
      go_enter Tryz.func20, Tryz.ntmps20
      go_wp2
      go_ret
      exact ⟨rfl, rfl⟩
set_option maxHeartbeats 800000 in
set_option maxRecDepth 100000 in
theorem fits_any (w : World) (a b : Int) : Calls Tryz.prog 11 #[I a, I b] w fun e w' => ∃ k n : Nat, e = .returned (.tuple #[I (k : Nat), I (n : Nat)]) ∧ w' = w ∧ k < 6 ∧ lN k ≤ n ∧ n ≤ 1048576 := by
  go_enter Tryz.func11, Tryz.ntmps11
  go_wp2_with fail
  refine (wtn_any a 6 (by omega) (by omega) w).mono ?_
  rintro _ w ⟨rfl, rfl⟩
  have HK : Hid (wtn a 6 < 6) := wtn_lt a (by omega)
  generalize wtn a 6 = k at *
  go_wp2_with fail
  refine (least_any w k).mono ?_
  rintro _ w ⟨rfl, rfl⟩
  have HN : Hid (1 ≤ lN k ∧ lN k ≤ 10) := lN_le k
  obtain ⟨q, hq⟩ : ∃ q, q = lN k := ⟨_, rfl⟩
  have HQ : Hid (q = lN k) := hq
  rw [← hq]
  clear hq
  have hq1 : (1 : Int) ≤ (q : Int) := by have := HN.out; have := HQ.out; omega
  have hq2 : (q : Int) ≤ 10 := by have := HN.out; have := HQ.out; omega
  go_wp2_with fail
  refine (least_any w k).mono ?_
  rintro _ w ⟨rfl, rfl⟩
  rw [← HQ.out]
  go_wp2_with fail
  rw [show (1048577 - (q : Int)) = ((1048577 - q : Nat) : Int) by omega]
  refine (wtn_any b (1048577 - q) (by omega) (by omega) w).mono ?_
  rintro _ w ⟨rfl, rfl⟩
  have HT : Hid (wtn b (1048577 - q) < 1048577 - q) := wtn_lt b (by omega)
  generalize wtn b (1048577 - q) = t at *
  have ht : (t : Int) < 1048577 := by have := HT.out; omega
  have ht0 : (0 : Int) ≤ (t : Int) := by omega
  go_wp2
  go_ret2
  refine ⟨k, q + t, by first | rfl | (congr 3; omega), rfl, HK.out, by have := HQ.out; omega, by have := HT.out; omega⟩
end Go.Proofs.YtjcbpejplnaakaaGreat.Md

namespace Go.Proofs.YtjcbpejplnaakaaGreat.Mi
open Go.RowKit Go.Maps Go.Proofs.YtjcbpejplnaakaaGreat.Nm Go.Proofs.YtjcbpejplnaakaaGreat.Md

theorem mk_nodes : ∀ u : World, (Instr.makeSlice 82 (.int .i64 1) (.int .i64 1)).run Tryz.prog u = .ok (.slice (some ⟨u.heap.size, 0, none⟩) 1 1) (u.alloc (.cells #[.int .u64 0, .int .i64 0, .int .i64 0, .int .i64 0] 137)) := fun u => by
  obtain ⟨i0, hi, hz0, hz1, hz2⟩ := info_parts info137
  have h := run_make (P := Tryz.prog) u 82 137 i0 _ Tryz.underlying82 hi hz0 .i64 .i64 1 1 (by omega) (by omega) (by rw [hz2]; omega) (by omega)
  rw [hz1] at h
  rw [h, show madeCells (Value.agg #[Value.int IntKind.u64 0, Value.int IntKind.i64 0, Value.int IntKind.i64 0, Value.int IntKind.i64 0]).cells (Int.toNat 1 * 4) = #[.int .u64 0, .int .i64 0, .int .i64 0, .int .i64 0] by kernel_rfl]
  rfl
set_option maxRecDepth 100000 in
theorem newRow_any (w : World) : Calls Tryz.prog 32 #[] w fun e w' => ∃ L : Lo, e = .returned (.agg #[.slice (some ⟨L.nb, 0, none⟩) 1 1, .map (some L.mb), I 0]) ∧ Below w.heap.size w w' ∧ w'.heap[L.nb]? = some (.cells #[.int .u64 0, .int .i64 0, .int .i64 0, .int .i64 0] 137 (0, 0)) ∧ IsBk w' L.mb (fun _ => none) 0 ∧ w.heap.size ≤ L.nb ∧ w.heap.size ≤ L.mb := by
  have hmk := mk_nodes
  have hmm : ∀ u : World, (Instr.makeMap 57 none).run Tryz.prog u = .ok (.map (some u.heap.size)) (u.alloc (.map #[] 0)) := fun u => by kernel_rfl
  obtain ⟨W, hW⟩ : ∃ W, W = ((w.alloc (.cells #[.slice none 0 0, .map none, .int .i64 0] 84)).alloc (.cells #[.int .u64 0, .int .i64 0, .int .i64 0, .int .i64 0] 137)).alloc (.map #[] 0) := ⟨_, rfl⟩
  have h0 : W.heap[w.heap.size]? = some (.cells #[.slice none 0 0, .map none, .int .i64 0] 84 (0, 0)) := by
    rw [hW, Below.heap_alloc _ _ _ (by simp; omega), Below.heap_alloc _ _ _ (by simp), heap_alloc_new]
  have h1 : W.heap[w.heap.size + 1]? = some (.cells #[.int .u64 0, .int .i64 0, .int .i64 0, .int .i64 0] 137 (0, 0)) := by
    rw [hW, Below.heap_alloc _ _ _ (by simp)]
    have := heap_alloc_new (w.alloc (.cells #[.slice none 0 0, .map none, .int .i64 0] 84)) (.cells #[.int .u64 0, .int .i64 0, .int .i64 0, .int .i64 0] 137)
    simpa using this
  have h2 : IsBk W (w.heap.size + 1 + 1) (fun _ => none) 0 := by
    have := IsBk.made ((w.alloc (.cells #[.slice none 0 0, .map none, .int .i64 0] 84)).alloc (.cells #[.int .u64 0, .int .i64 0, .int .i64 0, .int .i64 0] 137))
    rw [← hW] at this
    simpa using this
  have h3 : Below w.heap.size w W := by
    rw [hW]
    exact (((Below.refl _ w).alloc (Nat.le_refl _) _).alloc (by simp) _).alloc (by simp; omega) _
  have H : Hid (W = ((w.alloc (.cells #[.slice none 0 0, .map none, .int .i64 0] 84)).alloc (.cells #[.int .u64 0, .int .i64 0, .int .i64 0, .int .i64 0] 137)).alloc (.map #[] 0) ∧ W.heap[w.heap.size]? = some (.cells #[.slice none 0 0, .map none, .int .i64 0] 84 (0, 0)) ∧ W.heap[w.heap.size + 1]? = some (.cells #[.int .u64 0, .int .i64 0, .int .i64 0, .int .i64 0] 137 (0, 0)) ∧ IsBk W (w.heap.size + 1 + 1) (fun _ => none) 0 ∧ Below w.heap.size w W) := ⟨hW, h0, h1, h2, h3⟩
  clear hW h0 h1 h2 h3
  go_enter Tryz.func32, Tryz.ntmps32
  go_wp2_with (rw [← H.out.1]; refine wpList_store_row rfl 84 _ _ rfl w.heap.size _ rfl rfl 84 _ H.out.2.1 (by kernel_rfl) rfl (by kernel_rfl) ?_)
  have hr := setRow_heap _ _ _ #[Value.slice (some ⟨w.heap.size + 1, 0, none⟩) 1 1, Value.map (some (w.heap.size + 1 + 1)), Value.int IntKind.i64 0] _ _ H.out.2.1
  refine bodyPost_ret (results_cell_row (P := Tryz.prog) (fn := Tryz.f32) Tryz.results32 _ _ w.heap.size 84 #[Value.slice (some ⟨w.heap.size + 1, 0, none⟩) 1 1, Value.map (some (w.heap.size + 1 + 1)), Value.int IntKind.i64 0] (0, 0) _ rfl hr Tryz.underlying84 rfl (by kernel_rfl)) rfl ?_
  have ho : ∀ k, k ≠ w.heap.size → (W.setRow w.heap.size #[Value.slice (some ⟨w.heap.size + 1, 0, none⟩) 1 1, Value.map (some (w.heap.size + 1 + 1)), Value.int IntKind.i64 0]).heap[k]? = W.heap[k]? := fun k hk => setRow_other _ _ _ _ hk
  have hsz : (W.setRow w.heap.size #[Value.slice (some ⟨w.heap.size + 1, 0, none⟩) 1 1, Value.map (some (w.heap.size + 1 + 1)), Value.int IntKind.i64 0]).heap.size = W.heap.size := by simp [World.setRow]
  obtain ⟨_, _, h1, h2, h3⟩ := H.out
  refine ⟨⟨w.heap.size + 1, 1, w.heap.size + 1 + 1⟩, rfl, ⟨h3.os, h3.tape, h3.output, ?_, fun k hk => (ho k (Nat.ne_of_lt hk)).trans (h3.block k hk)⟩, (ho (w.heap.size + 1) (by omega)).trans h1, h2.same (ho (w.heap.size + 1 + 1) (by omega)), Nat.le_succ _, Nat.le_succ_of_le (Nat.le_succ _)⟩
  rw [hsz]
  exact h3.size
end Go.Proofs.YtjcbpejplnaakaaGreat.Mi

namespace Go.Proofs.YtjcbpejplnaakaaGreat
open Go.RowKit Go.Maps Go.Proofs.YtjcbpejplnaakaaGreat.Nm Go.Proofs.YtjcbpejplnaakaaGreat.Md

/-- a row that was just made, in the cells of its cache -/
structure Md.Nr (w : World) (L : Lo) : Prop where
  nb : w.heap[L.nb]? = some (.cells #[.int .u64 0, .int .i64 0, .int .i64 0] 118 (0, 0))
  mb : IsBk w L.mb (fun _ => none) 0
structure Mi.Nr (w : World) (L : Lo) : Prop where
  nb : w.heap[L.nb]? = some (.cells #[.int .u64 0, .int .i64 0, .int .i64 0, .int .i64 0] 137 (0, 0))
  mb : IsBk w L.mb (fun _ => none) 0
structure Mb.Nr (w : World) (L : Lo) : Prop where
  nb : w.heap[L.nb]? = some (.cells #[.int .u64 0, .bool false, .int .i64 0, .int .i64 0] 124 (0, 0))
  mb : IsBk w L.mb (fun _ => none) 0
section
variable {w w' : World} {g o : Nat} {L : Lo} {cs : Array Value} {T : Nat}
theorem Md.Nr.below (h : Md.Nr w L) (hb : Below w.heap.size w w') : Md.Nr w' L := ⟨(hb.block _ (blk_lt h.nb)).trans h.nb, h.mb.same (hb.block _ h.mb.lt)⟩
theorem Mi.Nr.below (h : Mi.Nr w L) (hb : Below w.heap.size w w') : Mi.Nr w' L := ⟨(hb.block _ (blk_lt h.nb)).trans h.nb, h.mb.same (hb.block _ h.mb.lt)⟩
theorem Mb.Nr.below (h : Mb.Nr w L) (hb : Below w.heap.size w w') : Mb.Nr w' L := ⟨(hb.block _ (blk_lt h.nb)).trans h.nb, h.mb.same (hb.block _ h.mb.lt)⟩
theorem mp0 (c : Rs) : Mp (fun _ => none) c [] := fun kk x => by
  constructor
  · intro e; cases e
  · rintro ⟨_, h, _⟩; cases h
theorem Md.Nr.rw (h : Md.Nr w L) (hg : w.heap[g]? = some (.cells cs T (0, 0))) (h0 : cs[o]? = some (.slice (some ⟨L.nb, 0, none⟩) 1 1)) (h1 : cs[o + 1]? = some (.map (some L.mb))) (h2 : cs[o + 2]? = some (I 0)) (hn : g ≠ L.nb) : Md.Rw w w g o [g, L.nb, L.mb] [] := by
  have hm : Md.Mem w g o ⟨L.nb, 1, L.mb⟩ c0 (fun _ => none) 0 := by
    refine ⟨⟨_, _, hg, h0, h1, h2⟩, ⟨_, h.nb, rfl, fun j hj => ?_⟩, h.mb, hn, Nat.le_refl _, by show 1 ≤ maxLen; unfold maxLen; omega⟩
    obtain rfl : j = 0 := by have : j < 1 := hj; omega
    exact ⟨rfl, rfl, rfl⟩
  exact ⟨⟨L.nb, 1, L.mb⟩, _, _, [], [], Md.Mf.base hm, inv0, mp0 _, rfl, by simp⟩
theorem Mi.Nr.rw (h : Mi.Nr w L) (hg : w.heap[g]? = some (.cells cs T (0, 0))) (h0 : cs[o]? = some (.slice (some ⟨L.nb, 0, none⟩) 1 1)) (h1 : cs[o + 1]? = some (.map (some L.mb))) (h2 : cs[o + 2]? = some (I 0)) (hn : g ≠ L.nb) : Mi.Rw w w g o [g, L.nb, L.mb] [] := by
  have hm : Mi.Mem w g o ⟨L.nb, 1, L.mb⟩ c0 (fun _ => 0) (fun _ => none) 0 := by
    refine ⟨⟨_, _, hg, h0, h1, h2⟩, ⟨_, h.nb, rfl, fun j hj => ?_⟩, h.mb, hn, Nat.le_refl _, by show 1 ≤ maxLen; unfold maxLen; omega⟩
    obtain rfl : j = 0 := by have : j < 1 := hj; omega
    exact ⟨rfl, rfl, rfl, rfl⟩
  exact ⟨⟨L.nb, 1, L.mb⟩, _, _, _, [], [], Mi.Mf.base hm, inv0, mp0 _, rfl, by simp⟩
theorem Mb.Nr.rw (h : Mb.Nr w L) (hg : w.heap[g]? = some (.cells cs T (0, 0))) (h0 : cs[o]? = some (.slice (some ⟨L.nb, 0, none⟩) 1 1)) (h1 : cs[o + 1]? = some (.map (some L.mb))) (h2 : cs[o + 2]? = some (I 0)) (hn : g ≠ L.nb) : Mb.Rw w w g o [g, L.nb, L.mb] [] := by
  have hm : Mb.Mem w g o ⟨L.nb, 1, L.mb⟩ c0 (fun _ => false) (fun _ => none) 0 := by
    refine ⟨⟨_, _, hg, h0, h1, h2⟩, ⟨_, h.nb, rfl, fun j hj => ?_⟩, h.mb, hn, Nat.le_refl _, by show 1 ≤ maxLen; unfold maxLen; omega⟩
    obtain rfl : j = 0 := by have : j < 1 := hj; omega
    exact ⟨rfl, rfl, rfl, rfl⟩
  exact ⟨⟨L.nb, 1, L.mb⟩, _, _, _, [], [], Mb.Mf.base hm, inv0, mp0 _, rfl, by simp⟩
end
end Go.Proofs.YtjcbpejplnaakaaGreat
namespace Go.Proofs.YtjcbpejplnaakaaGreat.Md
open Go.RowKit Go.Maps Go.Proofs.YtjcbpejplnaakaaGreat.Nm

/-- a cache that was just made -/
def Nc (w w' : World) (P : World → Nat → List Nat → List Nat → Prop) (g : Nat) : Prop := ∃ F, P w' g F [] ∧ Below w.heap.size w w' ∧ ∀ x ∈ F, w.heap.size ≤ x
set_option maxRecDepth 100000 in
theorem nFifo (w : World) (n : Nat) : Calls Tryz.prog 14 #[I n] w fun e w' => ∃ g : Nat, e = .returned (.pointer (some ⟨g, 0, none⟩)) ∧ Nc w w' (fun w g F ks => Ca w g n F ks ∧ ks.length ≤ n) g := by
  go_enter Tryz.func14, Tryz.ntmps14
  go_wp2_with (go_at_call 30; refine (newRow_any _).mono ?_; rintro _ w1 ⟨L, rfl, h1, h2, h3, h4, h5⟩)
  have H : Hid (Below w.heap.size w w1 ∧ Nr w1 L ∧ w.heap.size ≤ L.nb ∧ w.heap.size ≤ L.mb) := ⟨h1, ⟨h2, h3⟩, h4, h5⟩
  clear h1 h2 h3 h4 h5
  go_wp2
  go_ret
  obtain ⟨h1, h2, h4, h5⟩ := H.out
  have hs := h1.size
  have hb : Below w1.heap.size w1 (w1.alloc (.cells #[I n, .slice (some ⟨L.nb, 0, none⟩) 1 1, .map (some L.mb), I 0] 71)) := (Below.refl _ w1).alloc (Nat.le_refl _) _
  have hnb := blk_lt h2.nb
  have hmb := h2.mb.lt
  have hg : (w1.alloc (.cells #[I n, .slice (some ⟨L.nb, 0, none⟩) 1 1, .map (some L.mb), I 0] 71)).heap[w1.heap.size]? = some (.cells #[I n, .slice (some ⟨L.nb, 0, none⟩) 1 1, .map (some L.mb), I 0] 71 (0, 0)) := heap_alloc_new _ _
  refine ⟨w1.heap.size, rfl, [w1.heap.size, L.nb, L.mb], ⟨⟨(h2.below hb).rw (o := 1) hg rfl rfl rfl (by omega), by unfold World.cell?; rw [hg]; rfl, fun x hx => ?_⟩, by simp⟩, h1.alloc h1.size _, fun x hx => ?_⟩
  · simp only [List.mem_cons, List.not_mem_nil, or_false] at hx
    rcases hx with rfl | rfl | rfl <;> simp <;> omega
  · simp only [List.mem_cons, List.not_mem_nil, or_false] at hx
    rcases hx with rfl | rfl | rfl <;> omega
theorem nLru (w : World) (n : Nat) : Calls Tryz.prog 15 #[I n] w fun e w' => ∃ g : Nat, e = .returned (.pointer (some ⟨g, 0, none⟩)) ∧ Nc w w' (fun w g F ks => Ca w g n F ks ∧ ks.length ≤ n) g := by
  refine (newLru_any w n).mono ?_
  rintro _ w' ⟨g, F, rfl, h1, h2, h3⟩
  exact ⟨g, rfl, F, ⟨h2, by simp⟩, h1, h3⟩
set_option maxRecDepth 100000 in
theorem nClock (w : World) (n : Nat) : Calls Tryz.prog 16 #[I n] w fun e w' => ∃ g : Nat, e = .returned (.pointer (some ⟨g, 0, none⟩)) ∧ Nc w w' (Ck n) g := by
  go_enter Tryz.func16, Tryz.ntmps16
  go_wp2_with (go_at_call 31; refine (Mb.newRow_any _).mono ?_; rintro _ w1 ⟨L, rfl, h1, h2, h3, h4, h5⟩)
  have H : Hid (Below w.heap.size w w1 ∧ Mb.Nr w1 L ∧ w.heap.size ≤ L.nb ∧ w.heap.size ≤ L.mb) := ⟨h1, ⟨h2, h3⟩, h4, h5⟩
  clear h1 h2 h3 h4 h5
  go_wp2
  go_ret
  obtain ⟨h1, h2, h4, h5⟩ := H.out
  have hs := h1.size
  have hb : Below w1.heap.size w1 (w1.alloc (.cells #[I n, .slice (some ⟨L.nb, 0, none⟩) 1 1, .map (some L.mb), I 0] 79)) := (Below.refl _ w1).alloc (Nat.le_refl _) _
  have hnb := blk_lt h2.nb
  have hmb := h2.mb.lt
  have hg : (w1.alloc (.cells #[I n, .slice (some ⟨L.nb, 0, none⟩) 1 1, .map (some L.mb), I 0] 79)).heap[w1.heap.size]? = some (.cells #[I n, .slice (some ⟨L.nb, 0, none⟩) 1 1, .map (some L.mb), I 0] 79 (0, 0)) := heap_alloc_new _ _
  refine ⟨w1.heap.size, rfl, [w1.heap.size, L.nb, L.mb], ⟨[], rfl, (h2.below hb).rw (o := 1) hg rfl rfl rfl (by omega), by unfold World.cell?; rw [hg]; rfl, fun x hx => ?_, by simp⟩, h1.alloc h1.size _, fun x hx => ?_⟩
  · simp only [List.mem_cons, List.not_mem_nil, or_false] at hx
    rcases hx with rfl | rfl | rfl <;> simp <;> omega
  · simp only [List.mem_cons, List.not_mem_nil, or_false] at hx
    rcases hx with rfl | rfl | rfl <;> omega
theorem qs_new {w w0 : World} {g : Nat} {rs : List (Nat × List Nat × List Nat)} (hr : ∀ r ∈ rs, Rw w w g r.1 r.2.1 r.2.2) (ha : rs.Pairwise fun r s => r.1 + 3 ≤ s.1 ∧ ∀ x ∈ r.2.1, x ∈ s.2.1 → x = g) (hl : ∀ r ∈ rs, ∀ x ∈ r.2.1, x < w.heap.size ∧ w0.heap.size ≤ x) : ∃ F, Qs w w g F rs ∧ ∀ x ∈ F, x < w.heap.size ∧ w0.heap.size ≤ x := by
  refine ⟨rs.flatMap fun r => r.2.1, ⟨⟨hr, ha, fun r h x hx => (hl r h x hx).1⟩, Fr.refl _ _, fun r h x hx => Or.inl (List.mem_flatMap.2 ⟨r, h, hx⟩)⟩, fun x hx => ?_⟩
  obtain ⟨r, h, hx⟩ := List.mem_flatMap.1 hx
  exact hl r h x hx
/-- where a new row's blocks lie -/
structure At (a b : Nat) (L : Lo) : Prop where
  nb : a ≤ L.nb ∧ L.nb < b
  mb : a ≤ L.mb ∧ L.mb < b
theorem At.mem {a b : Nat} {L : Lo} (h : At a b L) {g x : Nat} (hx : x ∈ [g, L.nb, L.mb]) : x = g ∨ (a ≤ x ∧ x < b) := by
  simp only [List.mem_cons, List.not_mem_nil, or_false] at hx
  rcases hx with rfl | rfl | rfl
  · exact Or.inl rfl
  · exact Or.inr h.nb
  · exact Or.inr h.mb
theorem At.ap {a b c d : Nat} {L M : Lo} (h : At a b L) (k : At c d M) (hbc : b ≤ c) {g : Nat} : ∀ x ∈ [g, L.nb, L.mb], x ∈ [g, M.nb, M.mb] → x = g := fun x hx hy => by
  rcases h.mem hx with e | e
  · exact e
  · rcases k.mem hy with q | q
    · exact q
    · omega
end Go.Proofs.YtjcbpejplnaakaaGreat.Md

namespace Go.Proofs.YtjcbpejplnaakaaGreat.Md
open Go.RowKit Go.Maps Go.Proofs.YtjcbpejplnaakaaGreat.Nm

set_option maxHeartbeats 1600000 in
set_option maxRecDepth 100000 in
theorem nTwo (w : World) (n : Nat) : Calls Tryz.prog 17 #[I n] w fun e w' => ∃ g : Nat, e = .returned (.pointer (some ⟨g, 0, none⟩)) ∧ Nc w w' (Tk2 n) g := by
  go_enter Tryz.func17, Tryz.ntmps17
  go_wp2_with fail
  refine (newRow_any _).mono ?_
  rintro _ w1 ⟨L1, rfl, h1, h2, h3, h4, h5⟩
  have H1 : Hid (Below w.heap.size w w1 ∧ Md.Nr w1 L1 ∧ At w.heap.size w1.heap.size L1) := ⟨h1, ⟨h2, h3⟩, ⟨h4, blk_lt h2⟩, ⟨h5, h3.lt⟩⟩
  clear h1 h2 h3 h4 h5
  go_wp2_with fail
  refine (newRow_any _).mono ?_
  rintro _ w2 ⟨L2, rfl, h1, h2, h3, h4, h5⟩
  have H2 : Hid (Below w1.heap.size w1 w2 ∧ Md.Nr w2 L2 ∧ At w1.heap.size w2.heap.size L2) := ⟨h1, ⟨h2, h3⟩, ⟨h4, blk_lt h2⟩, ⟨h5, h3.lt⟩⟩
  clear h1 h2 h3 h4 h5
  go_wp2_with fail
  refine (newRow_any _).mono ?_
  rintro _ w3 ⟨L3, rfl, h1, h2, h3, h4, h5⟩
  have H3 : Hid (Below w2.heap.size w2 w3 ∧ Md.Nr w3 L3 ∧ At w2.heap.size w3.heap.size L3) := ⟨h1, ⟨h2, h3⟩, ⟨h4, blk_lt h2⟩, ⟨h5, h3.lt⟩⟩
  clear h1 h2 h3 h4 h5
  go_wp2
  go_ret
  obtain ⟨a1, b1, c1⟩ := H1.out
  obtain ⟨a2, b2, c2⟩ := H2.out
  obtain ⟨a3, b3, c3⟩ := H3.out
  have s1 := a1.size
  have s2 := a2.size
  have s3 := a3.size
  obtain ⟨W, hW⟩ : ∃ W, W = w3.alloc (.cells #[I n, .slice (some ⟨L1.nb, 0, none⟩) 1 1, .map (some L1.mb), I 0, .slice (some ⟨L2.nb, 0, none⟩) 1 1, .map (some L2.mb), I 0, .slice (some ⟨L3.nb, 0, none⟩) 1 1, .map (some L3.mb), I 0] 81) := ⟨_, rfl⟩
  have hb : Below w3.heap.size w3 W := by rw [hW]; exact (Below.refl _ w3).alloc (Nat.le_refl _) _
  have hg : W.heap[w3.heap.size]? = some (.cells #[I n, .slice (some ⟨L1.nb, 0, none⟩) 1 1, .map (some L1.mb), I 0, .slice (some ⟨L2.nb, 0, none⟩) 1 1, .map (some L2.mb), I 0, .slice (some ⟨L3.nb, 0, none⟩) 1 1, .map (some L3.mb), I 0] 81 (0, 0)) := by rw [hW]; exact heap_alloc_new _ _
  have hsz : W.heap.size = w3.heap.size + 1 := by rw [hW]; simp
  have n1 := ((b1.below a2).below a3).below hb
  have n2 := (b2.below a3).below hb
  have n3 := b3.below hb
  have hlt : ∀ (a b : Nat) (L : Lo), At a b L → w.heap.size ≤ a → b ≤ w3.heap.size → ∀ x ∈ [w3.heap.size, L.nb, L.mb], x < W.heap.size ∧ w.heap.size ≤ x := fun a b L h q1 q2 x hx => by
    rcases h.mem hx with e | e <;> omega
  have hc : W.cell? ⟨w3.heap.size, 0, none⟩ = some (I n) := by unfold World.cell?; rw [hg]; rfl
  have hbw : Below w.heap.size w W := (a1.trans ((a2.trans ((a3.trans (hb.mono s3)).mono s2)).mono s1))
  obtain ⟨F, q1, q2⟩ := qs_new (w := W) (w0 := w) (g := w3.heap.size) (rs := [(1, [w3.heap.size, L1.nb, L1.mb], []), (4, [w3.heap.size, L2.nb, L2.mb], []), (7, [w3.heap.size, L3.nb, L3.mb], [])]) (by
    intro r hr
    simp only [List.mem_cons, List.not_mem_nil, or_false] at hr
    rcases hr with rfl | rfl | rfl
    · exact n1.rw hg rfl rfl rfl (by have := c1.nb; omega)
    · exact n2.rw hg rfl rfl rfl (by have := c2.nb; omega)
    · exact n3.rw hg rfl rfl rfl (by have := c3.nb; omega)) (by
    refine List.Pairwise.cons ?_ (List.Pairwise.cons ?_ (List.Pairwise.cons (by simp) List.Pairwise.nil))
    · intro r hr
      simp only [List.mem_cons, List.not_mem_nil, or_false] at hr
      rcases hr with rfl | rfl
      · exact ⟨by show (1 : Nat) + 3 ≤ 4; omega, c1.ap c2 (by omega)⟩
      · exact ⟨by show (1 : Nat) + 3 ≤ 7; omega, c1.ap c3 (by omega)⟩
    · intro r hr
      simp only [List.mem_cons, List.not_mem_nil, or_false] at hr
      obtain rfl := hr
      exact ⟨by show (4 : Nat) + 3 ≤ 7; omega, c2.ap c3 (by omega)⟩) (by
    intro r hr
    simp only [List.mem_cons, List.not_mem_nil, or_false] at hr
    rcases hr with rfl | rfl | rfl
    · exact hlt _ _ L1 c1 (by omega) (by omega)
    · exact hlt _ _ L2 c2 (by omega) (by omega)
    · exact hlt _ _ L3 c3 (by omega) (by omega))
  rw [← hW]
  exact ⟨w3.heap.size, rfl, F, ⟨[], [], [], rfl, ⟨_, _, _, q1, hc⟩, ⟨fun x => by simp [ct_nil], by simp, by simp⟩, fun x hx => (q2 x hx).1⟩, hbw, fun x hx => (q2 x hx).2⟩
set_option maxHeartbeats 1600000 in
set_option maxRecDepth 100000 in
theorem nArc (w : World) (n : Nat) : Calls Tryz.prog 19 #[I n] w fun e w' => ∃ g : Nat, e = .returned (.pointer (some ⟨g, 0, none⟩)) ∧ Nc w w' (Ak4 n) g := by
  go_enter Tryz.func19, Tryz.ntmps19
  go_wp2_with fail
  refine (newRow_any _).mono ?_
  rintro _ w1 ⟨L1, rfl, h1, h2, h3, h4, h5⟩
  have H1 : Hid (Below w.heap.size w w1 ∧ Md.Nr w1 L1 ∧ At w.heap.size w1.heap.size L1) := ⟨h1, ⟨h2, h3⟩, ⟨h4, blk_lt h2⟩, ⟨h5, h3.lt⟩⟩
  clear h1 h2 h3 h4 h5
  go_wp2_with fail
  refine (newRow_any _).mono ?_
  rintro _ w2 ⟨L2, rfl, h1, h2, h3, h4, h5⟩
  have H2 : Hid (Below w1.heap.size w1 w2 ∧ Md.Nr w2 L2 ∧ At w1.heap.size w2.heap.size L2) := ⟨h1, ⟨h2, h3⟩, ⟨h4, blk_lt h2⟩, ⟨h5, h3.lt⟩⟩
  clear h1 h2 h3 h4 h5
  go_wp2_with fail
  refine (newRow_any _).mono ?_
  rintro _ w3 ⟨L3, rfl, h1, h2, h3, h4, h5⟩
  have H3 : Hid (Below w2.heap.size w2 w3 ∧ Md.Nr w3 L3 ∧ At w2.heap.size w3.heap.size L3) := ⟨h1, ⟨h2, h3⟩, ⟨h4, blk_lt h2⟩, ⟨h5, h3.lt⟩⟩
  clear h1 h2 h3 h4 h5
  go_wp2_with fail
  refine (newRow_any _).mono ?_
  rintro _ w4 ⟨L4, rfl, h1, h2, h3, h4, h5⟩
  have H4 : Hid (Below w3.heap.size w3 w4 ∧ Md.Nr w4 L4 ∧ At w3.heap.size w4.heap.size L4) := ⟨h1, ⟨h2, h3⟩, ⟨h4, blk_lt h2⟩, ⟨h5, h3.lt⟩⟩
  clear h1 h2 h3 h4 h5
  go_wp2
  go_ret
  obtain ⟨a1, b1, c1⟩ := H1.out
  obtain ⟨a2, b2, c2⟩ := H2.out
  obtain ⟨a3, b3, c3⟩ := H3.out
  obtain ⟨a4, b4, c4⟩ := H4.out
  have s1 := a1.size
  have s2 := a2.size
  have s3 := a3.size
  have s4 := a4.size
  obtain ⟨W, hW⟩ : ∃ W, W = w4.alloc (.cells #[I n, I 0, .slice (some ⟨L1.nb, 0, none⟩) 1 1, .map (some L1.mb), I 0, .slice (some ⟨L2.nb, 0, none⟩) 1 1, .map (some L2.mb), I 0, .slice (some ⟨L3.nb, 0, none⟩) 1 1, .map (some L3.mb), I 0, .slice (some ⟨L4.nb, 0, none⟩) 1 1, .map (some L4.mb), I 0] 89) := ⟨_, rfl⟩
  have hb : Below w4.heap.size w4 W := by rw [hW]; exact (Below.refl _ w4).alloc (Nat.le_refl _) _
  have hg : W.heap[w4.heap.size]? = some (.cells #[I n, I 0, .slice (some ⟨L1.nb, 0, none⟩) 1 1, .map (some L1.mb), I 0, .slice (some ⟨L2.nb, 0, none⟩) 1 1, .map (some L2.mb), I 0, .slice (some ⟨L3.nb, 0, none⟩) 1 1, .map (some L3.mb), I 0, .slice (some ⟨L4.nb, 0, none⟩) 1 1, .map (some L4.mb), I 0] 89 (0, 0)) := by rw [hW]; exact heap_alloc_new _ _
  have hsz : W.heap.size = w4.heap.size + 1 := by rw [hW]; simp
  have n1 := (((b1.below a2).below a3).below a4).below hb
  have n2 := ((b2.below a3).below a4).below hb
  have n3 := (b3.below a4).below hb
  have n4 := b4.below hb
  have hlt : ∀ (a b : Nat) (L : Lo), At a b L → w.heap.size ≤ a → b ≤ w4.heap.size → ∀ x ∈ [w4.heap.size, L.nb, L.mb], x < W.heap.size ∧ w.heap.size ≤ x := fun a b L h q1 q2 x hx => by
    rcases h.mem hx with e | e <;> omega
  have hc : W.cell? ⟨w4.heap.size, 0, none⟩ = some (I n) := by unfold World.cell?; rw [hg]; rfl
  have hbw : Below w.heap.size w W := (a1.trans ((a2.trans ((a3.trans ((a4.trans (hb.mono s4)).mono s3)).mono s2)).mono s1))
  obtain ⟨F, q1, q2⟩ := qs_new (w := W) (w0 := w) (g := w4.heap.size) (rs := [(2, [w4.heap.size, L1.nb, L1.mb], []), (5, [w4.heap.size, L2.nb, L2.mb], []), (8, [w4.heap.size, L3.nb, L3.mb], []), (11, [w4.heap.size, L4.nb, L4.mb], [])]) (by
    intro r hr
    simp only [List.mem_cons, List.not_mem_nil, or_false] at hr
    rcases hr with rfl | rfl | rfl | rfl
    · exact n1.rw hg rfl rfl rfl (by have := c1.nb; omega)
    · exact n2.rw hg rfl rfl rfl (by have := c2.nb; omega)
    · exact n3.rw hg rfl rfl rfl (by have := c3.nb; omega)
    · exact n4.rw hg rfl rfl rfl (by have := c4.nb; omega)) (by
    refine List.Pairwise.cons ?_ (List.Pairwise.cons ?_ (List.Pairwise.cons ?_ (List.Pairwise.cons (by simp) List.Pairwise.nil)))
    · intro r hr
      simp only [List.mem_cons, List.not_mem_nil, or_false] at hr
      rcases hr with rfl | rfl | rfl
      · exact ⟨by show (2 : Nat) + 3 ≤ 5; omega, c1.ap c2 (by omega)⟩
      · exact ⟨by show (2 : Nat) + 3 ≤ 8; omega, c1.ap c3 (by omega)⟩
      · exact ⟨by show (2 : Nat) + 3 ≤ 11; omega, c1.ap c4 (by omega)⟩
    · intro r hr
      simp only [List.mem_cons, List.not_mem_nil, or_false] at hr
      rcases hr with rfl | rfl
      · exact ⟨by show (5 : Nat) + 3 ≤ 8; omega, c2.ap c3 (by omega)⟩
      · exact ⟨by show (5 : Nat) + 3 ≤ 11; omega, c2.ap c4 (by omega)⟩
    · intro r hr
      simp only [List.mem_cons, List.not_mem_nil, or_false] at hr
      obtain rfl := hr
      exact ⟨by show (8 : Nat) + 3 ≤ 11; omega, c3.ap c4 (by omega)⟩) (by
    intro r hr
    simp only [List.mem_cons, List.not_mem_nil, or_false] at hr
    rcases hr with rfl | rfl | rfl | rfl
    · exact hlt _ _ L1 c1 (by omega) (by omega)
    · exact hlt _ _ L2 c2 (by omega) (by omega)
    · exact hlt _ _ L3 c3 (by omega) (by omega)
    · exact hlt _ _ L4 c4 (by omega) (by omega))
  rw [← hW]
  have hp : W.cell? ⟨w4.heap.size, 1, none⟩ = some (I 0) := by unfold World.cell?; rw [hg]; rfl
  exact ⟨w4.heap.size, rfl, F, ⟨0, [], [], [], [], rfl, ⟨_, _, _, _, q1, hc, hp⟩, ⟨fun x => by simp [ct_nil], by simp, by simp, by simp, by omega, fun q => by simp at q⟩, fun x hx => (q2 x hx).1⟩, hbw, fun x hx => (q2 x hx).2⟩
set_option maxHeartbeats 1600000 in
set_option maxRecDepth 100000 in
theorem nS3 (w : World) (n : Nat) : Calls Tryz.prog 18 #[I n] w fun e w' => ∃ g : Nat, e = .returned (.pointer (some ⟨g, 0, none⟩)) ∧ Nc w w' (Sk3 n) g := by
  go_enter Tryz.func18, Tryz.ntmps18
  go_wp2_with fail
  refine (Mi.newRow_any _).mono ?_
  rintro _ w1 ⟨L1, rfl, h1, h2, h3, h4, h5⟩
  have H1 : Hid (Below w.heap.size w w1 ∧ Mi.Nr w1 L1 ∧ At w.heap.size w1.heap.size L1) := ⟨h1, ⟨h2, h3⟩, ⟨h4, blk_lt h2⟩, ⟨h5, h3.lt⟩⟩
  clear h1 h2 h3 h4 h5
  go_wp2_with fail
  refine (Mi.newRow_any _).mono ?_
  rintro _ w2 ⟨L2, rfl, h1, h2, h3, h4, h5⟩
  have H2 : Hid (Below w1.heap.size w1 w2 ∧ Mi.Nr w2 L2 ∧ At w1.heap.size w2.heap.size L2) := ⟨h1, ⟨h2, h3⟩, ⟨h4, blk_lt h2⟩, ⟨h5, h3.lt⟩⟩
  clear h1 h2 h3 h4 h5
  go_wp2_with fail
  refine (newRow_any _).mono ?_
  rintro _ w3 ⟨L3, rfl, h1, h2, h3, h4, h5⟩
  have H3 : Hid (Below w2.heap.size w2 w3 ∧ Md.Nr w3 L3 ∧ At w2.heap.size w3.heap.size L3) := ⟨h1, ⟨h2, h3⟩, ⟨h4, blk_lt h2⟩, ⟨h5, h3.lt⟩⟩
  clear h1 h2 h3 h4 h5
  go_wp2
  go_ret
  obtain ⟨a1, b1, c1⟩ := H1.out
  obtain ⟨a2, b2, c2⟩ := H2.out
  obtain ⟨a3, b3, c3⟩ := H3.out
  have s1 := a1.size
  have s2 := a2.size
  have s3 := a3.size
  obtain ⟨W, hW⟩ : ∃ W, W = w3.alloc (.cells #[I n, .slice (some ⟨L1.nb, 0, none⟩) 1 1, .map (some L1.mb), I 0, .slice (some ⟨L2.nb, 0, none⟩) 1 1, .map (some L2.mb), I 0, .slice (some ⟨L3.nb, 0, none⟩) 1 1, .map (some L3.mb), I 0] 87) := ⟨_, rfl⟩
  have hb : Below w3.heap.size w3 W := by rw [hW]; exact (Below.refl _ w3).alloc (Nat.le_refl _) _
  have hg : W.heap[w3.heap.size]? = some (.cells #[I n, .slice (some ⟨L1.nb, 0, none⟩) 1 1, .map (some L1.mb), I 0, .slice (some ⟨L2.nb, 0, none⟩) 1 1, .map (some L2.mb), I 0, .slice (some ⟨L3.nb, 0, none⟩) 1 1, .map (some L3.mb), I 0] 87 (0, 0)) := by rw [hW]; exact heap_alloc_new _ _
  have hsz : W.heap.size = w3.heap.size + 1 := by rw [hW]; simp
  have n1 := ((b1.below a2).below a3).below hb
  have n2 := (b2.below a3).below hb
  have n3 := b3.below hb
  have hlt : ∀ (a b : Nat) (L : Lo), At a b L → w.heap.size ≤ a → b ≤ w3.heap.size → ∀ x ∈ [w3.heap.size, L.nb, L.mb], x < W.heap.size ∧ w.heap.size ≤ x := fun a b L h q1 q2 x hx => by
    rcases h.mem hx with e | e <;> omega
  have hc : W.cell? ⟨w3.heap.size, 0, none⟩ = some (I n) := by unfold World.cell?; rw [hg]; rfl
  have hbw : Below w.heap.size w W := (a1.trans ((a2.trans ((a3.trans (hb.mono s3)).mono s2)).mono s1))

  rw [← hW]
  have r1 := n1.rw (o := 1) hg rfl rfl rfl (by have := c1.nb; omega)
  have r2 := n2.rw (o := 4) hg rfl rfl rfl (by have := c2.nb; omega)
  have r3 := n3.rw (o := 7) hg rfl rfl rfl (by have := c3.nb; omega)
  have l1 := hlt _ _ L1 c1 (by omega) (by omega)
  have l2 := hlt _ _ L2 c2 (by omega) (by omega)
  have l3 := hlt _ _ L3 c3 (by omega) (by omega)
  refine ⟨w3.heap.size, rfl, [w3.heap.size, L1.nb, L1.mb] ++ ([w3.heap.size, L2.nb, L2.mb] ++ [w3.heap.size, L3.nb, L3.mb]), ⟨[], [], [], [w3.heap.size, L1.nb, L1.mb], [w3.heap.size, L2.nb, L2.mb], [w3.heap.size, L3.nb, L3.mb], rfl, ⟨r1, r2, r3, fun x hx => ⟨?_, Or.inl ?_⟩, c1.ap c2 (by omega), c1.ap c3 (by omega), c2.ap c3 (by omega), Fr.refl _ _, hc, World.ownsRow_nil _ _ _ _, fun b e => by cases e⟩, ⟨fun x => by simp [fs, ct_nil], by simp, by simp, by simp, by simp⟩, by simp, fun x hx => ?_⟩, hbw, fun x hx => ?_⟩
  · rcases hx with e | e | e
    · exact (l1 x e).1
    · exact (l2 x e).1
    · exact (l3 x e).1
  · rw [List.mem_append, List.mem_append]
    exact hx
  · rw [List.mem_append, List.mem_append] at hx
    rcases hx with e | e | e
    · exact (l1 x e).1
    · exact (l2 x e).1
    · exact (l3 x e).1
  · rw [List.mem_append, List.mem_append] at hx
    rcases hx with e | e | e
    · exact (l1 x e).2
    · exact (l2 x e).2
    · exact (l3 x e).2
/-- what the calls through the interface enter -/
structure Ifc (T fa fk : Nat) : Prop where
  nil : ∀ (w : World) (a : Addr), (binOp .eql 24 (.iface T (.pointer (some a))) .nilIface).run Tryz.prog w = .ok (.bool false) w
  acc : ∀ (g : Nat) (w : World), (method 247 T (.pointer (some ⟨g, 0, none⟩)) "Access").run Tryz.prog w = .ok (fa, .pointer (some ⟨g, 0, none⟩)) w
  keys : ∀ (g : Nat) (w : World), (method 247 T (.pointer (some ⟨g, 0, none⟩)) "Keys").run Tryz.prog w = .ok (fk, .pointer (some ⟨g, 0, none⟩)) w
  ahead : ∀ (g : Nat) (w : World), (nilAhead 247 T (.pointer (some ⟨g, 0, none⟩)) "Access").run Tryz.prog w = .ok (some false) w
  ea : ∀ (args : Array Value) (u : World), (callFunc fa args).run Tryz.prog u = .ok (.enter fa args) u
  ek : ∀ (args : Array Value) (u : World), (callFunc fk args).run Tryz.prog u = .ok (.enter fk args) u
theorem ifc0 : Ifc 44 60 61 := ⟨fun _ _ => by kernel_rfl, fun _ _ => by kernel_rfl, fun _ _ => by kernel_rfl, fun _ _ => by kernel_rfl, fun args u => enters_of Tryz.func60 (by kernel_rfl) rfl args u, fun args u => enters_of Tryz.func61 (by kernel_rfl) rfl args u⟩
theorem ifc1 : Ifc 46 72 61 := ⟨fun _ _ => by kernel_rfl, fun _ _ => by kernel_rfl, fun _ _ => by kernel_rfl, fun _ _ => by kernel_rfl, fun args u => enters_of Tryz.func72 (by kernel_rfl) rfl args u, fun args u => enters_of Tryz.func61 (by kernel_rfl) rfl args u⟩
theorem ifc2 : Ifc 48 75 76 := ⟨fun _ _ => by kernel_rfl, fun _ _ => by kernel_rfl, fun _ _ => by kernel_rfl, fun _ _ => by kernel_rfl, fun args u => enters_of Tryz.func75 (by kernel_rfl) rfl args u, fun args u => enters_of Tryz.func76 (by kernel_rfl) rfl args u⟩
theorem ifc3 : Ifc 50 90 91 := ⟨fun _ _ => by kernel_rfl, fun _ _ => by kernel_rfl, fun _ _ => by kernel_rfl, fun _ _ => by kernel_rfl, fun args u => enters_of Tryz.func90 (by kernel_rfl) rfl args u, fun args u => enters_of Tryz.func91 (by kernel_rfl) rfl args u⟩
theorem ifc4 : Ifc 52 94 95 := ⟨fun _ _ => by kernel_rfl, fun _ _ => by kernel_rfl, fun _ _ => by kernel_rfl, fun _ _ => by kernel_rfl, fun args u => enters_of Tryz.func94 (by kernel_rfl) rfl args u, fun args u => enters_of Tryz.func95 (by kernel_rfl) rfl args u⟩
theorem ifc5 : Ifc 54 117 118 := ⟨fun _ _ => by kernel_rfl, fun _ _ => by kernel_rfl, fun _ _ => by kernel_rfl, fun _ _ => by kernel_rfl, fun args u => enters_of Tryz.func117 (by kernel_rfl) rfl args u, fun args u => enters_of Tryz.func118 (by kernel_rfl) rfl args u⟩
set_option maxHeartbeats 800000 in
set_option maxRecDepth 100000 in
theorem new0 (w : World) (n : Nat) (h1 : lN 0 ≤ n) (h2 : n ≤ 1048576) : Calls Tryz.prog 5 #[I 0, I n] w fun e w' => ∃ g : Nat, e = .returned (.tuple #[.iface 44 (.pointer (some ⟨g, 0, none⟩)), I 0]) ∧ Nc w w' (fun w g F ks => Ca w g n F ks ∧ ks.length ≤ n) g := by
  have H : Hid (∀ u : World, Calls Tryz.prog 13 #[I 0, I n] u fun e w' => e = .returned (.bool true) ∧ w' = u) := fun u => by
    have := isSize_any u 0 n
    rw [decide_eq_true (show ((0 : Int) ≤ 0 ∧ (0 : Int) < 6) ∧ lst 0 ≤ n ∧ (n : Int) ≤ 1048576 from ⟨by decide, by show (1 : Int) ≤ n; have : 1 ≤ n := h1; omega, by omega⟩)] at this
    exact this
  clear h1 h2
  go_enter Tryz.func5, Tryz.ntmps5
  go_wp2_with (go_at_call 13; refine (H.out _).mono ?_; rintro _ w ⟨rfl, rfl⟩)
  refine (nFifo _ _).mono ?_
  rintro _ w1 ⟨g, rfl, q1⟩
  have H1 : Hid (Nc w w1 (fun w g F ks => Ca w g n F ks ∧ ks.length ≤ n) g) := q1
  clear q1
  go_wp2
  go_ret2
  exact ⟨g, rfl, H1.out⟩
set_option maxHeartbeats 800000 in
set_option maxRecDepth 100000 in
theorem new1 (w : World) (n : Nat) (h1 : lN 1 ≤ n) (h2 : n ≤ 1048576) : Calls Tryz.prog 5 #[I 1, I n] w fun e w' => ∃ g : Nat, e = .returned (.tuple #[.iface 46 (.pointer (some ⟨g, 0, none⟩)), I 0]) ∧ Nc w w' (fun w g F ks => Ca w g n F ks ∧ ks.length ≤ n) g := by
  have H : Hid (∀ u : World, Calls Tryz.prog 13 #[I 1, I n] u fun e w' => e = .returned (.bool true) ∧ w' = u) := fun u => by
    have := isSize_any u 1 n
    rw [decide_eq_true (show ((0 : Int) ≤ 1 ∧ (1 : Int) < 6) ∧ lst 1 ≤ n ∧ (n : Int) ≤ 1048576 from ⟨by decide, by show (1 : Int) ≤ n; have : 1 ≤ n := h1; omega, by omega⟩)] at this
    exact this
  clear h1 h2
  go_enter Tryz.func5, Tryz.ntmps5
  go_wp2_with (go_at_call 13; refine (H.out _).mono ?_; rintro _ w ⟨rfl, rfl⟩)
  refine (nLru _ _).mono ?_
  rintro _ w1 ⟨g, rfl, q1⟩
  have H1 : Hid (Nc w w1 (fun w g F ks => Ca w g n F ks ∧ ks.length ≤ n) g) := q1
  clear q1
  go_wp2
  go_ret2
  exact ⟨g, rfl, H1.out⟩
set_option maxHeartbeats 800000 in
set_option maxRecDepth 100000 in
theorem new2 (w : World) (n : Nat) (h1 : lN 2 ≤ n) (h2 : n ≤ 1048576) : Calls Tryz.prog 5 #[I 2, I n] w fun e w' => ∃ g : Nat, e = .returned (.tuple #[.iface 48 (.pointer (some ⟨g, 0, none⟩)), I 0]) ∧ Nc w w' (Ck n) g := by
  have H : Hid (∀ u : World, Calls Tryz.prog 13 #[I 2, I n] u fun e w' => e = .returned (.bool true) ∧ w' = u) := fun u => by
    have := isSize_any u 2 n
    rw [decide_eq_true (show ((0 : Int) ≤ 2 ∧ (2 : Int) < 6) ∧ lst 2 ≤ n ∧ (n : Int) ≤ 1048576 from ⟨by decide, by show (1 : Int) ≤ n; have : 1 ≤ n := h1; omega, by omega⟩)] at this
    exact this
  clear h1 h2
  go_enter Tryz.func5, Tryz.ntmps5
  go_wp2_with (go_at_call 13; refine (H.out _).mono ?_; rintro _ w ⟨rfl, rfl⟩)
  refine (nClock _ _).mono ?_
  rintro _ w1 ⟨g, rfl, q1⟩
  have H1 : Hid (Nc w w1 (Ck n) g) := q1
  clear q1
  go_wp2
  go_ret2
  exact ⟨g, rfl, H1.out⟩
set_option maxHeartbeats 800000 in
set_option maxRecDepth 100000 in
theorem new3 (w : World) (n : Nat) (h1 : lN 3 ≤ n) (h2 : n ≤ 1048576) : Calls Tryz.prog 5 #[I 3, I n] w fun e w' => ∃ g : Nat, e = .returned (.tuple #[.iface 50 (.pointer (some ⟨g, 0, none⟩)), I 0]) ∧ Nc w w' (Tk2 n) g := by
  have H : Hid (∀ u : World, Calls Tryz.prog 13 #[I 3, I n] u fun e w' => e = .returned (.bool true) ∧ w' = u) := fun u => by
    have := isSize_any u 3 n
    rw [decide_eq_true (show ((0 : Int) ≤ 3 ∧ (3 : Int) < 6) ∧ lst 3 ≤ n ∧ (n : Int) ≤ 1048576 from ⟨by decide, by show (2 : Int) ≤ n; have : 2 ≤ n := h1; omega, by omega⟩)] at this
    exact this
  clear h1 h2
  go_enter Tryz.func5, Tryz.ntmps5
  go_wp2_with (go_at_call 13; refine (H.out _).mono ?_; rintro _ w ⟨rfl, rfl⟩)
  refine (nTwo _ _).mono ?_
  rintro _ w1 ⟨g, rfl, q1⟩
  have H1 : Hid (Nc w w1 (Tk2 n) g) := q1
  clear q1
  go_wp2
  go_ret2
  exact ⟨g, rfl, H1.out⟩
set_option maxHeartbeats 800000 in
set_option maxRecDepth 100000 in
theorem new4 (w : World) (n : Nat) (h1 : lN 4 ≤ n) (h2 : n ≤ 1048576) : Calls Tryz.prog 5 #[I 4, I n] w fun e w' => ∃ g : Nat, e = .returned (.tuple #[.iface 52 (.pointer (some ⟨g, 0, none⟩)), I 0]) ∧ Nc w w' (Sk3 n) g := by
  have H : Hid (∀ u : World, Calls Tryz.prog 13 #[I 4, I n] u fun e w' => e = .returned (.bool true) ∧ w' = u) := fun u => by
    have := isSize_any u 4 n
    rw [decide_eq_true (show ((0 : Int) ≤ 4 ∧ (4 : Int) < 6) ∧ lst 4 ≤ n ∧ (n : Int) ≤ 1048576 from ⟨by decide, by show (10 : Int) ≤ n; have : 10 ≤ n := h1; omega, by omega⟩)] at this
    exact this
  clear h1 h2
  go_enter Tryz.func5, Tryz.ntmps5
  go_wp2_with (go_at_call 13; refine (H.out _).mono ?_; rintro _ w ⟨rfl, rfl⟩)
  refine (nS3 _ _).mono ?_
  rintro _ w1 ⟨g, rfl, q1⟩
  have H1 : Hid (Nc w w1 (Sk3 n) g) := q1
  clear q1
  go_wp2
  go_ret2
  exact ⟨g, rfl, H1.out⟩
set_option maxHeartbeats 800000 in
set_option maxRecDepth 100000 in
theorem new5 (w : World) (n : Nat) (h1 : lN 5 ≤ n) (h2 : n ≤ 1048576) : Calls Tryz.prog 5 #[I 5, I n] w fun e w' => ∃ g : Nat, e = .returned (.tuple #[.iface 54 (.pointer (some ⟨g, 0, none⟩)), I 0]) ∧ Nc w w' (Ak4 n) g := by
  have H : Hid (∀ u : World, Calls Tryz.prog 13 #[I 5, I n] u fun e w' => e = .returned (.bool true) ∧ w' = u) := fun u => by
    have := isSize_any u 5 n
    rw [decide_eq_true (show ((0 : Int) ≤ 5 ∧ (5 : Int) < 6) ∧ lst 5 ≤ n ∧ (n : Int) ≤ 1048576 from ⟨by decide, by show (1 : Int) ≤ n; have : 1 ≤ n := h1; omega, by omega⟩)] at this
    exact this
  clear h1 h2
  go_enter Tryz.func5, Tryz.ntmps5
  go_wp2_with (go_at_call 13; refine (H.out _).mono ?_; rintro _ w ⟨rfl, rfl⟩)
  refine (nArc _ _).mono ?_
  rintro _ w1 ⟨g, rfl, q1⟩
  have H1 : Hid (Nc w w1 (Ak4 n) g) := q1
  clear q1
  go_wp2
  go_ret2
  exact ⟨g, rfl, H1.out⟩
/-- New, of any kind -/
theorem new_all (w : World) (k n : Nat) (hk : k < 6) (h1 : lN k ≤ n) (h2 : n ≤ 1048576) : Calls Tryz.prog 5 #[I (k : Nat), I n] w fun e w' => ∃ (T fa fk : Nat) (P : World → Nat → List Nat → List Nat → Prop) (g : Nat), e = .returned (.tuple #[.iface T (.pointer (some ⟨g, 0, none⟩)), I 0]) ∧ Nc w w' P g ∧ Kd T fa fk (decide (k = 4)) n P ∧ Ifc T fa fk := by
  obtain rfl | rfl | rfl | rfl | rfl | rfl : k = 0 ∨ k = 1 ∨ k = 2 ∨ k = 3 ∨ k = 4 ∨ k = 5 := by omega
  · have h3 : 1 ≤ n := h1
    refine (new0 w n h1 h2).mono ?_
    rintro _ w' ⟨g, rfl, q⟩
    exact ⟨_, _, _, _, g, rfl, q, kdFifo h3 h2, ifc0⟩
  · have h3 : 1 ≤ n := h1
    refine (new1 w n h1 h2).mono ?_
    rintro _ w' ⟨g, rfl, q⟩
    exact ⟨_, _, _, _, g, rfl, q, kdLru h3 h2, ifc1⟩
  · have h3 : 1 ≤ n := h1
    refine (new2 w n h1 h2).mono ?_
    rintro _ w' ⟨g, rfl, q⟩
    exact ⟨_, _, _, _, g, rfl, q, kdClock h3 h2, ifc2⟩
  · have h3 : 2 ≤ n := h1
    refine (new3 w n h1 h2).mono ?_
    rintro _ w' ⟨g, rfl, q⟩
    exact ⟨_, _, _, _, g, rfl, q, kdTwo ⟨h3, h2⟩, ifc3⟩
  · have h3 : 10 ≤ n := h1
    refine (new4 w n h1 h2).mono ?_
    rintro _ w' ⟨g, rfl, q⟩
    exact ⟨_, _, _, _, g, rfl, q, kdS3 ⟨h3, h2⟩, ifc4⟩
  · have h3 : 1 ≤ n := h1
    refine (new5 w n h1 h2).mono ?_
    rintro _ w' ⟨g, rfl, q⟩
    exact ⟨_, _, _, _, g, rfl, q, kdArc h3 h2, ifc5⟩
end Go.Proofs.YtjcbpejplnaakaaGreat.Md
