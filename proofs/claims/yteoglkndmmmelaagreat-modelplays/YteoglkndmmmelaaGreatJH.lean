import Derived.Test.YteoglkndmmmelaaGreatJG
import Derived.Deep.DeepCutAuto
import Derived.BigQuiet
import Derived.Test.YteoglkndmmmelaaGreatRows
import Derived.ProofKit
import Derived.OpenShut
import Derived.ChangeOld
import Derived.Below
import Derived.Test.YteoglkndmmmelaaGreatMdWtn
import Derived.ChangeSlices
import Derived.ChangeSame
namespace Go.Proofs.YteoglkndmmmelaaGreat.Mr
open Go.RowKit Go.Maps Go.Proofs.YteoglkndmmmelaaGreat.Nm Go.Proofs.YteoglkndmmmelaaGreat.Md

set_option maxHeartbeats 25600000 in
set_option maxRecDepth 100000 in
theorem playsWalk (a b : Int) (ka : Option Addr) (l : List Nat) (cap : Nat) (W : World) (hk : KIn W ka l) (h64 : ∀ x ∈ l, x < 18446744073709551616) (hl : l.length ≤ maxLen) :
    Calls Tryz.prog 3 #[I a, I b, .slice ka l.length cap] W fun e w' => e = .returned (.bool true) ∧ Below W.heap.size W w' := by
  have HK : Hid (KIn W ka l ∧ (∀ x ∈ l, x < 18446744073709551616) ∧ l.length ≤ maxLen) := ⟨hk, h64, hl⟩
  clear hk h64 hl
  by_cases hok : okN a b
  · obtain ⟨kd, n, rfl, rfl, hkd, hn1, hn2⟩ : ∃ kd n : Nat, a = (kd : Int) ∧ b = (n : Int) ∧ kd < 6 ∧ lN kd ≤ n ∧ n ≤ 1048576 := okN_nat hok
    clear hok
    have HZ : Hid (kd < 6 ∧ lN kd ≤ n ∧ n ≤ 1048576) := ⟨hkd, hn1, hn2⟩
    clear hkd hn1 hn2
    go_enter Tryz.func3, Tryz.ntmps3
    go_wp2_with fail
    refine (newz_all W kd n HZ.out.1 HZ.out.2.1 HZ.out.2.2).mono ?_
    rintro _ w1 ⟨T, fa, fk, σ, s0, key, Sp, P, inv, rel, g, rfl, ⟨F, q1, q2, q3⟩, KD, IF⟩
    have HD : Hid (Kz T fa fk kd n σ s0 key Sp P inv rel) := KD
    have hnc := IF.nil
    have hma := IF.acc
    have hmk := IF.keys
    have hna := IF.ahead
    have hea := IF.ea
    have hek := IF.ek
    have H1 : Hid (Below W.heap.size W w1 ∧ P w1 g F s0 ∧ ∀ x ∈ F, W.heap.size ≤ x) := ⟨q2, q1, q3⟩
    clear KD IF q1 q2 q3
    go_wp2_with fail
    refine (rnew_ok w1 kd n HZ.out.1 HZ.out.2.1 HZ.out.2.2).mono ?_
    rintro _ w2 ⟨gr, mr, V, rfl, r1, r2, r3, r4⟩
    have H2 : Hid (∃ F, Jt W w2 P rel g gr mr kd n F V s0 s0 st0 0) := by
      obtain ⟨F2, p1, p2⟩ := HD.out.below H1.out.2.1 r2
      have z1 := H1.out.1.size
      have hlt : ∀ x ∈ F2, x < w1.heap.size := fun x hx => HD.out.lt H1.out.2.1 x (p2 x hx)
      exact ⟨F2, H1.out.1.trans (r2.mono z1), p1, fun x hx => H1.out.2.2 x (p2 x hx), (r1 F2 (fun x hx => by have := hlt x hx; have := r2.size; omega)).rest, HD.out.rel0, Nat.le_refl _, ⟨fun e => by have := hlt _ e; omega, fun e => by have := hlt _ e; omega⟩, by omega, by omega⟩
    clear r1 r2 r3 r4 H1
    go_wp2_with fail
    go_loopg [11] (min l.length 3000) (fun gq x wr => ∃ (i : Nat) (F : List Nat) (V : Vs) (s : σ) (t : St), i ≤ min l.length 3000 ∧ gq = min l.length 3000 - i ∧ x = I i ∧ Jt W wr P rel g gr mr kd n F V s s t i)
    case atStart => obtain ⟨F2, h2⟩ := H2.out; exact ⟨0, F2, V, s0, st0, Nat.zero_le _, rfl, rfl, h2⟩
    case round =>
      clear H2
      obtain ⟨i, F, V, s, t, hi, hgk, rfl, hT⟩ := hrel
      by_cases hlt : i < min l.length 3000
      · have hlt1 : (i : Int) < (l.length : Int) := by omega
        have hlt2 : (i : Int) < 3000 := by omega
        have hx : l[i]? = some l[i] := List.getElem?_eq_getElem (by omega)
        have hk64 := HK.out.2.1 l[i] (List.getElem_mem _)
        generalize l[i] = k at *
        have HT : Hid (Jt W wr P rel g gr mr kd n F V s s t i ∧ k < 18446744073709551616 ∧ i < min l.length 3000 ∧ gk = min l.length 3000 - i ∧ l[i]? = some k) := ⟨hT, hk64, hlt, hgk, hx⟩
        clear hT hk64 hi hgk hlt hx
        obtain ⟨b', off, e', _, i0⟩ := HK.out.1.below HT.out.1.bel i _ HT.out.2.2.2.2
        subst e'
        have H3 : Hid (∃ F3, Jt W wr.drew P rel g gr mr kd n F3 V s s t i) := HT.out.1.below HD.out (Below.refl _ wr).drew
        obtain ⟨F3, h3⟩ := H3.out
        have H4 : Hid (Jt W wr.drew P rel g gr mr kd n F3 V s s t i) := h3
        clear h3 H3
        go_upto_region 8 with fail
        go_cut [12, 13] (fun s12 s13 wx => ∃ F4 s4 out hit, s12 = .bool hit ∧ Jt W wx P rel g gr mr kd n F4 V s4 s t i ∧ KRd wx s13 out ∧ Sp s k hit s4 out)
        case first =>
          go_region_with (refine (HD.out.acc H4.out.p HT.out.2.1).mono ?_; rintro _ w4 ⟨v4, F4, s4, out, hit, rfl, q4⟩)
          all_goals (
            go_wp2_with fail
            go_meet
            obtain ⟨c1, c2, c3, c4, c5⟩ := q4
            exact ⟨F4, s4, out, hit, rfl, H4.out.one HD.out c1 c2 c3, c4.1, c5⟩)
        case rest =>
          obtain ⟨F4, s4, out, hit, rfl, hJ, hGone, hSp⟩ := hcut
          obtain ⟨bg, cg, e13⟩ := hGone.form
          subst e13
          obtain ⟨b', off', e', _, i1⟩ := HK.out.1.below hJ.bel i _ HT.out.2.2.2.2
          cases e'
          have H5 : Hid (Jt W wc P rel g gr mr kd n F4 V s4 s t i ∧ KRd wc (.slice bg out.length cg) out ∧ Sp s k hit s4 out ∧ inv s4) := ⟨hJ, hGone, hSp, HD.out.iv hJ.p⟩
          clear hJ hGone hSp H4 i0
          go_wp2_with fail
          refine (HD.out.racc H5.out.1.rz (HD.out.iv HT.out.1.p) H5.out.1.rl H5.out.2.2.1 HT.out.2.1 (by have := H5.out.1.cn; have := HT.out.2.2.1; omega)).mono ?_
          rintro _ w6 ⟨v6, V6, t6, rfl, z1, z2, z3, z4, z5⟩
          obtain ⟨bt, ct', e6⟩ := z5.form
          subst e6
          have H6 : Hid (Jt W w6 P rel g gr mr kd n F4 V6 s4 s4 t6 (i + 1) ∧ KRd w6 (.slice bg out.length cg) out ∧ KRd w6 (.slice bt out.length ct') out) := ⟨H5.out.1.two HD.out z1 z2 (by have := H5.out.1.cn; omega) z4, krd_fr H5.out.2.1 H5.out.1.rz z4, z5⟩
          have HO : Hid (out.length ≤ 1000000000) := HD.out.ol (HD.out.iv HT.out.1.p) H5.out.2.2.1
          clear z1 z2 z3 z4 z5 i1
          have hbb : (hit != hit) = false := by simp
          by_cases h7 : (i : Int) % 7 = 0
          · have he7 : ((i : Int) % 7 == 0) = true := by rw [beq_iff_eq]; exact h7
            go_wp2_with fail
            refine (sameK_eq H6.out.2.1 H6.out.2.2 HO.out).mono ?_
            rintro _ w7 ⟨rfl, b7⟩
            have H7 : Hid (∃ F7, Jt W w7 P rel g gr mr kd n F7 V6 s4 s4 t6 (i + 1)) := H6.out.1.below HD.out b7
            obtain ⟨F7, h77⟩ := H7.out
            have H8 : Hid (Jt W w7 P rel g gr mr kd n F7 V6 s4 s4 t6 (i + 1)) := h77
            clear h77 H7 b7
            go_wp2_with fail
            refine (HD.out.keys H8.out.p).mono ?_
            rintro _ w9 ⟨v9, rfl, o9, b9⟩
            obtain ⟨bo9, bc9, rfl⟩ := own_form o9
            have H9 : Hid ((∃ F9, Jt W w9 P rel g gr mr kd n F9 V6 s4 s4 t6 (i + 1)) ∧ KRd w9 (.slice bo9 (key s4).length bc9) (key s4)) := ⟨H8.out.below HD.out b9, KRd.own o9⟩
            clear o9 b9
            obtain ⟨⟨F9, h9⟩, h9b⟩ := H9.out
            have HKL : Hid ((key s4).length ≤ 1000000000 ∧ t6.A ++ t6.B = key s4) := ⟨Nat.le_trans (HD.out.le H5.out.2.2.2) (by omega), HD.out.rkey H6.out.1.rl⟩
            have HA : Hid (Jt W w9 P rel g gr mr kd n F9 V6 s4 s4 t6 (i + 1) ∧ KRd w9 (.slice bo9 (key s4).length bc9) (key s4)) := ⟨h9, h9b⟩
            clear h9 h9b H9
            go_wp2_with fail
            refine (HA.out.1.rz.keys (by have := congrArg List.length HKL.out.2; rw [List.length_append] at this; have := HKL.out.1; omega)).mono ?_
            rintro _ wa ⟨va, rfl, oa, ba⟩
            rw [HKL.out.2] at oa
            obtain ⟨boa, bca, rfl⟩ := own_form oa
            have HB : Hid ((∃ Fa, Jt W wa P rel g gr mr kd n Fa V6 s4 s4 t6 (i + 1)) ∧ KRd wa (.slice bo9 (key s4).length bc9) (key s4) ∧ KRd wa (.slice boa (key s4).length bca) (key s4)) := ⟨HA.out.1.below HD.out ba, HA.out.2.below ba, KRd.own oa⟩
            clear oa ba HA
            go_wp2_with fail
            refine (sameK_eq HB.out.2.1 HB.out.2.2 HKL.out.1).mono ?_
            rintro _ wb ⟨rfl, bb⟩
            have HC : Hid (∃ Fa, Jt W wb P rel g gr mr kd n Fa V6 s4 s4 t6 (i + 1)) := by
              obtain ⟨⟨Fa, hFa⟩, _⟩ := HB.out
              exact hFa.below HD.out bb
            clear bb HB
            go_wp2_with fail
            go_roundg (min l.length 3000 - (i + 1))
            case measure => have h1 := HT.out.2.2.1; have := HT.out.2.2.2.1; omega
            case rel =>
              obtain ⟨Fa, hFa⟩ := HC.out
              exact ⟨i + 1, Fa, V6, s4, t6, HT.out.2.2.1, rfl, by go_num, hFa⟩
          · have he7 : ((i : Int) % 7 == 0) = false := by rw [beq_eq_false_iff_ne]; exact h7
            go_wp2_with fail
            refine (sameK_eq H6.out.2.1 H6.out.2.2 HO.out).mono ?_
            rintro _ w7 ⟨rfl, b7⟩
            have H7 : Hid (∃ F7, Jt W w7 P rel g gr mr kd n F7 V6 s4 s4 t6 (i + 1)) := H6.out.1.below HD.out b7
            clear b7
            go_wp2_with fail
            go_roundg (min l.length 3000 - (i + 1))
            case measure => have h1 := HT.out.2.2.1; have := HT.out.2.2.2.1; omega
            case rel =>
              obtain ⟨Fa, hFa⟩ := H7.out
              exact ⟨i + 1, Fa, V6, s4, t6, HT.out.2.2.1, rfl, by go_num, hFa⟩
      · have HT : Hid (Jt W wr P rel g gr mr kd n F V s s t i) := hT
        have hex : ¬ ((i : Int) < (l.length : Int)) ∨ ¬ ((i : Int) < 3000) := by omega
        have HKL : Hid ((key s).length ≤ 1000000000 ∧ t.A ++ t.B = key s) := ⟨Nat.le_trans (HD.out.le (HD.out.iv hT.p)) (by omega), HD.out.rkey hT.rl⟩
        clear hT hlt hgk hi
        by_cases h1 : (i : Int) < (l.length : Int)
        · have h2 : ¬ ((i : Int) < 3000) := hex.elim (fun h => absurd h1 h) id
          clear hex
          go_wp2_with fail
          refine (HD.out.keys HT.out.p).mono ?_
          rintro _ w9 ⟨v9, rfl, o9, b9⟩
          obtain ⟨bo9, bc9, rfl⟩ := own_form o9
          have H9 : Hid ((∃ F9, Jt W w9 P rel g gr mr kd n F9 V s s t i) ∧ KRd w9 (.slice bo9 (key s).length bc9) (key s)) := ⟨HT.out.below HD.out b9, KRd.own o9⟩
          clear o9 b9
          obtain ⟨⟨F9, h9⟩, h9b⟩ := H9.out
          have HA : Hid (Jt W w9 P rel g gr mr kd n F9 V s s t i ∧ KRd w9 (.slice bo9 (key s).length bc9) (key s)) := ⟨h9, h9b⟩
          clear h9 h9b H9
          go_wp2_with fail
          refine (HA.out.1.rz.keys (by have := congrArg List.length HKL.out.2; rw [List.length_append] at this; have := HKL.out.1; omega)).mono ?_
          rintro _ wa ⟨va, rfl, oa, ba⟩
          rw [HKL.out.2] at oa
          obtain ⟨boa, bca, rfl⟩ := own_form oa
          have HB : Hid (Below W.heap.size W wa ∧ KRd wa (.slice bo9 (key s).length bc9) (key s) ∧ KRd wa (.slice boa (key s).length bca) (key s)) := ⟨HA.out.1.bel.trans (ba.mono HA.out.1.bel.size), HA.out.2.below ba, KRd.own oa⟩
          clear oa ba HA
          go_wp2_with fail
          refine (sameK_eq HB.out.2.1 HB.out.2.2 HKL.out.1).mono ?_
          rintro _ wb ⟨rfl, bb⟩
          have HC : Hid (Below W.heap.size W wb) := HB.out.1.trans (bb.mono HB.out.1.size)
          clear bb HB
          go_wp2_with fail
          refine (head_any _).mono ?_
          rintro _ wd ⟨rfl, bd⟩
          have HE : Hid (Below W.heap.size W wd) := HC.out.trans (bd.mono HC.out.size)
          clear bd
          go_wp2
          go_ret
          exact ⟨rfl, HE.out⟩
        · clear hex
          go_wp2_with fail
          refine (HD.out.keys HT.out.p).mono ?_
          rintro _ w9 ⟨v9, rfl, o9, b9⟩
          obtain ⟨bo9, bc9, rfl⟩ := own_form o9
          have H9 : Hid ((∃ F9, Jt W w9 P rel g gr mr kd n F9 V s s t i) ∧ KRd w9 (.slice bo9 (key s).length bc9) (key s)) := ⟨HT.out.below HD.out b9, KRd.own o9⟩
          clear o9 b9
          obtain ⟨⟨F9, h9⟩, h9b⟩ := H9.out
          have HA : Hid (Jt W w9 P rel g gr mr kd n F9 V s s t i ∧ KRd w9 (.slice bo9 (key s).length bc9) (key s)) := ⟨h9, h9b⟩
          clear h9 h9b H9
          go_wp2_with fail
          refine (HA.out.1.rz.keys (by have := congrArg List.length HKL.out.2; rw [List.length_append] at this; have := HKL.out.1; omega)).mono ?_
          rintro _ wa ⟨va, rfl, oa, ba⟩
          rw [HKL.out.2] at oa
          obtain ⟨boa, bca, rfl⟩ := own_form oa
          have HB : Hid (Below W.heap.size W wa ∧ KRd wa (.slice bo9 (key s).length bc9) (key s) ∧ KRd wa (.slice boa (key s).length bca) (key s)) := ⟨HA.out.1.bel.trans (ba.mono HA.out.1.bel.size), HA.out.2.below ba, KRd.own oa⟩
          clear oa ba HA
          go_wp2_with fail
          refine (sameK_eq HB.out.2.1 HB.out.2.2 HKL.out.1).mono ?_
          rintro _ wb ⟨rfl, bb⟩
          have HC : Hid (Below W.heap.size W wb) := HB.out.1.trans (bb.mono HB.out.1.size)
          clear bb HB
          go_wp2_with fail
          refine (head_any _).mono ?_
          rintro _ wd ⟨rfl, bd⟩
          have HE : Hid (Below W.heap.size W wd) := HC.out.trans (bd.mono HC.out.size)
          clear bd
          go_wp2
          go_ret
          exact ⟨rfl, HE.out⟩
  · have HN : Hid (¬ okN a b) := hok
    clear hok
    go_enter Tryz.func3, Tryz.ntmps3
    go_wp2_with fail
    refine (newz_no W a b HN.out).mono ?_
    rintro _ w1 ⟨rfl, rfl⟩
    go_wp2_with fail
    refine (rnew_no w1 a b HN.out).mono ?_
    rintro _ w1 ⟨rfl, rfl⟩
    go_wp2_with fail
    go_loopg [11] 0 (fun gq x wr => gq = 0 ∧ x = I 0 ∧ wr = w1)
    case atStart => exact ⟨rfl, rfl, rfl⟩
    case round =>
      obtain ⟨_, rfl, rfl⟩ := hrel
      by_cases h0 : (0 : Int) < (l.length : Int)
      · go_wp2_with fail
        refine (head_any _).mono ?_
        rintro _ w9 ⟨rfl, b9⟩
        have H9 : Hid (Below wr.heap.size wr w9) := b9
        clear b9
        go_wp2
        go_ret
        exact ⟨rfl, H9.out⟩
      · go_wp2_with fail
        refine (head_any _).mono ?_
        rintro _ w9 ⟨rfl, b9⟩
        have H9 : Hid (Below wr.heap.size wr w9) := b9
        clear b9
        go_wp2
        go_ret
        exact ⟨rfl, H9.out⟩
end Go.Proofs.YteoglkndmmmelaaGreat.Mr

namespace Go.Proofs.YteoglkndmmmelaaGreat.Md
open Go.ChangeShapes Go.WideShapes Go.ChangeAt Go.RowKit

theorem own : ownKnob Tryz.prog.godebug = none := by kernel_rfl
theorem laidOut : laidOutB Tryz.prog = true := by kernel_rfl
end Go.Proofs.YteoglkndmmmelaaGreat.Md

namespace Go.Proofs.YteoglkndmmmelaaGreat.Md
open Go.ChangeShapes Go.WideShapes Go.ChangeAt Go.RowKit

theorem u64_nat {z : Int} (h : (Lit.int .u64 z).wf = true) : (z.toNat : Int) = z ∧ z.toNat < 18446744073709551616 := by
  simp [Lit.wf, IntKind.min, IntKind.max, IntKind.bits, IntKind.signed] at h
  omega
/-- keys that are handed in -/
theorem open_keys {H : Type} {enc : TypeId × Value → H} {W : World} {a : Option Addr} {len cap : Nat} {d : DataW H} {p : List MemPlace} (h : DataW.Trod enc Tryz.prog W 0 (fun _ => true) true 22 (.slice a len cap) d p) :
    ∃ l : List Nat, len = l.length ∧ KIn W a l ∧ (∀ x ∈ l, x < 18446744073709551616) ∧ l.length ≤ maxLen := by
  obtain ⟨fuel, hf⟩ := h
  rcases open_ints Tryz.underlying22 Tryz.underlying33 (by kernel_rfl) hf with ⟨hcs, hx⟩ | ⟨x, l, c, zs, hcs, _, hl, hm, hz, hx, hcell, hwz⟩
  · simp [Value.cells] at hcs
    obtain ⟨rfl, rfl, rfl⟩ := hcs
    exact ⟨[], rfl, (fun k x hx => by simp at hx), (fun n hn => by cases hn), Nat.zero_le _⟩
  · simp [Value.cells] at hcs
    obtain ⟨rfl, rfl, rfl⟩ := hcs
    simp at hz
    refine ⟨(zs.take len).map Int.toNat, by simp; omega, fun i v hv => ?_, fun n hn => ?_, by simp; omega⟩
    · rw [List.getElem?_map, Option.map_eq_some_iff] at hv
      obtain ⟨y, hy, rfl⟩ := hv
      have hi : i < (zs.take len).length := (List.getElem?_eq_some_iff.1 hy).1
      have hi2 : i < len ∧ i < zs.length := by simp at hi; omega
      obtain ⟨b, off, spot⟩ := x
      have h0 := hcell 0 (by omega)
      have hspot : spot = none := by simpa [Addr.add] using World.cell?_spot h0
      subst hspot
      have hc := hcell i (by omega)
      rw [Lib.addr_add] at hc
      refine ⟨b, off, rfl, World.block_lt_of_cell? W _ hc, hc.trans ?_⟩
      have hy2 : zs[i]? = some y := by
        rw [List.getElem?_take_of_lt hi2.1] at hy
        exact hy
      rw [List.getD_eq_getElem?_getD, hy2]
      show some (Value.int .u64 y) = some (U y.toNat)
      unfold U
      rw [(u64_nat (hwz y (List.mem_of_getElem? hy2))).1]
    · obtain ⟨y, hy, rfl⟩ := List.mem_map.1 hn
      exact (u64_nat (hwz y (List.mem_of_mem_take hy))).2
end Go.Proofs.YteoglkndmmmelaaGreat.Md

namespace Go.Proofs.YteoglkndmmmelaaGreat.modelPlays
open Go.ChangeShapes Go.WideShapes Go.ChangeAt Go.RowKit
open Go.Proofs.YteoglkndmmmelaaGreat.Md

set_option maxRecDepth 100000 in
theorem liftedF (os : Os) (started : os.Started) (H : Type) (enc : TypeId × Value → H) :
    ReturnsInHanded {} Tryz.checked os 3 .any (Rows.modelPlaysSpec.pre6 enc Tryz.prog Tryz.f3 Rows.modelPlaysRow.domain false) (Rows.modelPlaysSpec.post enc Tryz.prog Tryz.f3 false true false false) := by
  refine returnsInHanded_of_change (C := Tryz.checked) own started (by kernel_rfl) Tryz.func3
    (ChangeSpec.witness6 (enc := enc) (C := Tryz.checked) false ⟨#[], #[.int .i64 0, .int .i64 0, .slice none 0 0], []⟩ 8 (by kernel_rfl) (by kernel_rfl) (by kernel_rfl) (by kernel_rfl)) ?_
  intro W base args ds gs before hval hW hcnd _
  have hW' := hW
  obtain ⟨p, q, hA0, hV, rfl, hfz, hnd⟩ := hW
  have hA : DataW.TrodAll enc Tryz.prog W 0 (fun _ => true) true Tryz.f3.params.toList args.toList ds p := hA0
  rw [Tryz.params3] at hA hval
  obtain ⟨v0, vs0, d0, ds0, p0, q0, hargs, rfl, rfl, h0, r0⟩ := trodAll_cons hA
  obtain ⟨v1, vs1, d1, ds1, p1, q1, rfl, rfl, rfl, h1, r1⟩ := trodAll_cons r0
  obtain ⟨v2, vs2, d2, ds2, p2, q2, rfl, rfl, rfl, h2, r2⟩ := trodAll_cons r1
  obtain ⟨rfl, rfl, rfl⟩ := trodAll_nil r2
  obtain rfl : args = #[v0, v1, v2] := by cases args; simp_all
  obtain ⟨rfl, rfl⟩ := trodVars_none hV
  obtain ⟨a0, rfl, rfl, rfl, w0⟩ := open_int Tryz.underlying3 (hval 0 3 v0 rfl rfl) h0
  obtain ⟨a1, rfl, rfl, rfl, w1⟩ := open_int Tryz.underlying3 (hval 1 3 v1 rfl rfl) h1
  obtain ⟨a2, len2, cap2, rfl⟩ := okWide_slice Tryz.underlying22 (hval 2 22 v2 rfl rfl)
  have lt2 : ∀ x ∈ p2, x.block < W.heap.size := by obtain ⟨m, hm⟩ := h2; exact DataW.trod_lt m _ _ _ hm
  obtain ⟨s2, rfl, ib2, kb2, lb2⟩ := open_keys h2
  refine (Mr.playsWalk a0 a1 a2 s2 cap2 W ib2 kb2 lb2).mono fun e W2 ⟨he, bel⟩ => ?_
  subst he
  exact ⟨_, rfl, _, _, _, [], _, [], hW', trodAll_mk1 (shut_bool Tryz.underlying4 _), (trodAll_cons_mk (shut_int Tryz.underlying3 w0) (trodAll_cons_mk (shut_int Tryz.underlying3 w1) (trodAll_cons_mk (Below.trod laidOut (by kernel_rfl) (of_decide_eq_true (by kernel_rfl)) h2 bel lt2) trodAll_mk0))), rfl, bel.frame _, fun h => by cases h⟩

theorem provedF : Rows.ModelPlaysSaid :=
  OpenClaim.holds_of_wide 3 Tryz.f3 rfl rfl rfl rfl rfl rfl rfl ⟨rfl, rfl, rfl, rfl, rfl⟩ rfl rfl rfl rfl rfl (by kernel_rfl) Tryz.func3 (by kernel_rfl)
    (of_decide_eq_true (by kernel_rfl)) (by unfold Func.isWrapper; first | (rw [if_pos (by decide +kernel)]; kernel_rfl) | (rw [if_neg (by decide +kernel)]; exact ⟨rfl, rfl⟩))
    (fun os started H enc _ => liftedF os started H enc)
end Go.Proofs.YteoglkndmmmelaaGreat.modelPlays
