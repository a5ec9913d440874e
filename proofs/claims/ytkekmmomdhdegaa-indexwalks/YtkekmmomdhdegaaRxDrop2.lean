import Derived.Test.YtkekmmomdhdegaaRxDrop
namespace Go.Proofs.Ytkekmmomdhdegaa.Rx
open Go.RowKit Go.Proofs.Ytkekmmomdhdegaa.Ix Go.Proofs.Ytkekmmomdhdegaa.Ii

theorem Rr.below {w w' : World} {q : Ro} {n most bits len : Nat} {S : Nat → Bool} {K : Nat → Nat} {V : Nat → Int} (h : Rr w q n most bits len S K V) (hb : Below w.heap.size w w') : Rr w' q n most bits len S K V := by
  obtain ⟨h1, ⟨x2, h2, k2⟩, ⟨x3, h3, k3⟩, ⟨x4, h4, k4⟩⟩ := h
  exact ⟨(hb.block _ (Array.getElem?_eq_some_iff.1 h1).1).trans h1, ⟨x2, (hb.block _ (Array.getElem?_eq_some_iff.1 h2).1).trans h2, k2⟩, ⟨x3, (hb.block _ (Array.getElem?_eq_some_iff.1 h3).1).trans h3, k3⟩, ⟨x4, (hb.block _ (Array.getElem?_eq_some_iff.1 h4).1).trans h4, k4⟩⟩
theorem un_ne {β : Type} {f : Nat → β} {p j : Nat} {x : β} (h : j ≠ p) : un f p x j = f j := by simp [un, h]
theorem Rr.ext {w : World} {q : Ro} {n most bits len : Nat} {S S' : Nat → Bool} {K : Nat → Nat} {V : Nat → Int} (h : Rr w q n most bits len S K V) (hS : S = S') : Rr w q n most bits len S' K V := hS ▸ h
set_option maxHeartbeats 1600000 in
set_option maxRecDepth 100000 in
theorem rdrop_none {w : World} {q : Ro} {n most bits len k f : Nat} {S : Nat → Bool} {K : Nat → Nat} {V : Nat → Int} (hm : Rr w q n most bits len S K V) (hF : FindIs w q k f) (hl : f < n) (hS : S f = false) : Calls Try.prog 36 #[.pointer (some ⟨q.r, 0, none⟩), U k] w fun e w' => e = .returned (.tuple #[I 0, .bool false]) ∧ w' = w := by
  have HF : Hid (FindIs w q k f) := hF
  have hl1 : ((f : Nat) : Int) < (n : Int) := by omega
  have hl0 : (0 : Int) ≤ ((f : Nat) : Int) := by omega
  obtain ⟨c0, c2, c3, c4, c5⟩ := hm.cellsR
  obtain ⟨d1, d2, d3⟩ := hm.cells hl
  rw [hS] at d1
  clear hm hF hS
  go_enter Try.func36, Try.ntmps36
  go_wp2_with fail
  refine Calls.mono HF.out ?_
  rintro e w1 ⟨rfl, rfl⟩
  go_wp2
  go_ret2
  exact ⟨rfl, rfl⟩
set_option maxHeartbeats 3200000 in
set_option maxRecDepth 100000 in
theorem rdrop_some {w : World} {q : Ro} {b n most len k f z : Nat} {R t : Tb Int} {S : Nat → Bool} {K : Nat → Nat} {V : Nat → Int} (hb : b ≤ 22) (hN : 2 * 2 ^ b = n) (hm : Rr w q n most (b + 1) len S K V) (hF : FindIs w q k f) (hl : f < n) (hS : S f = true) (hlen : 0 < len ∧ len ≤ 4194304)
    (hD : ∀ w', Rr w' q n most (b + 1) (len - 1) (un S f false) K V → Fr q.foot w w' → Ds w' q b most (len - 1) z R n (up t f none) f (nx n f) (un S f false) K V w) :
    Calls Try.prog 36 #[.pointer (some ⟨q.r, 0, none⟩), U k] w fun e w' => e = .returned (.tuple #[I (V f), .bool true]) ∧ Rm w' q n most (b + 1) (len - 1) R ∧ Fr q.foot w w' := by
  have HF : Hid (FindIs w q k f) := hF
  have h2 := Nat.pow_le_pow_right (n := 2) (by omega) hb
  have hn8 : (n : Int) ≤ 8388608 := by omega
  have hn1 : (n : Int) ≠ 0 := by omega
  have hn0 : ((n : Int) == 0) = false := by simp; omega
  have hl1 : ((f : Nat) : Int) < (n : Int) := by omega
  have hl0 : (0 : Int) ≤ ((f : Nat) : Int) := by omega
  have hlen1 : (len : Int) ≤ 4194304 := by omega
  have hlen0 : (0 : Int) < (len : Int) := by omega
  obtain ⟨c0, c2, c3, c4, c5⟩ := hm.cellsR
  obtain ⟨d1, d2, d3⟩ := hm.cells hl
  obtain ⟨_, f1, _, _⟩ := hm.fr
  rw [hS] at d1
  have m1 := hm.setS f false
  have HM1 := show Hid _ from m1
  obtain ⟨_, _, _, _, c5a⟩ := m1.cellsR
  obtain ⟨f0a, _, _, _⟩ := m1.fr
  have m2 := m1.setL (len - 1)
  rw [show ((len - 1 : Nat) : Int) = (len : Int) - 1 by omega] at m2
  obtain ⟨_, c2b, _, _, _⟩ := m2.cellsR
  have hfr : Fr q.foot w ((w.setCell ⟨q.bi, f, none⟩ (.bool false)).setCell ⟨q.r, 5, none⟩ (I ((len : Int) - 1))) := (Fr.set _ _ _ (by simp [Ro.foot])).trans (Fr.set _ _ _ (by simp [Ro.foot])) (fun _ h => Or.inl h)
  have HD := show Hid _ from hD _ m2 hfr
  have hnxl := nx_lt (n := n) (p := f) (by omega)
  have hrm := rem_nx hl
  have hw : IntKind.i64.wrap ((((f : Nat) : Int) + 1).tmod (n : Int)) = ((nx n f : Nat) : Int) := by rw [hrm, IntKind.wrap_i64]; omega
  have HB : Hid (b ≤ 22 ∧ 2 * 2 ^ b = n) := ⟨hb, hN⟩
  clear hm hF hS m1 m2 hfr hD h2 hb hN hlen
  go_enter Try.func36, Try.ntmps36
  go_wp2_with fail
  refine Calls.mono HF.out ?_
  rintro e w1 ⟨rfl, rfl⟩
  go_wp2_with fail
  generalize hnx1 : nx n f = p1 at *
  have HNX : Hid (nx n f = p1) := hnx1
  clear hnx1
  generalize (w1.setCell ⟨q.bi, f, none⟩ (.bool false)).setCell ⟨q.r, 5, none⟩ (I ((len : Int) - 1)) = w2 at *
  obtain ⟨m0, hm0⟩ : ∃ m0, D n p1 z = m0 := ⟨_, rfl⟩
  have HM0 : Hid (D n p1 z = m0) := hm0
  clear hm0 c0 c2 c3 c4 c5 d1 d2 d3 f1 c5a f0a c2b hrm hw hnxl
  go_loopg [6, 8] m0 (fun r vg vp wr => ∃ (f' : Nat) (tt : Tb Int) (gap place : Nat) (S : Nat → Bool) (K : Nat → Nat) (V : Nat → Int), D n place z = r ∧ vg = I gap ∧ vp = I place ∧ Ds wr q b most (len - 1) z R f' tt gap place S K V w1)
  case atStart => exact ⟨n, _, f, p1, _, _, _, HM0.out, rfl, rfl, HD.out⟩
  case round =>
    obtain ⟨f', tt, gap, place, S, K, V, hr, rfl, rfl, hD⟩ := hrel
    have HD2 : Hid (Ds wr q b most (len - 1) z R f' tt gap place S K V w1) := hD
    obtain ⟨hb, hN⟩ := HB.out
    have hgl : gap < n := by rw [← hN]; exact hD.v.g
    have hpl : place < n := by rw [← hN]; exact hD.v.p
    have hpl1 : ((place : Nat) : Int) < (n : Int) := by omega
    have hpl0 : (0 : Int) ≤ ((place : Nat) : Int) := by omega
    have hgl1 : ((gap : Nat) : Int) < (n : Int) := by omega
    have hgl0 : (0 : Int) ≤ ((gap : Nat) : Int) := by omega
    have hrr := hD.rr
    have htq := hD.tq
    rw [hN] at hrr htq
    obtain ⟨c0, c2, c3, c4, c5⟩ := hrr.cellsR
    obtain ⟨d1, d2, d3⟩ := hrr.cells hpl
    have hSp := htq.at_ hpl
    cases he : tt place with
    | none =>
      rw [hSp, he] at d1
      simp only [Option.isSome_none] at d1
      have HS := show Hid _ from hD.stop he
      rw [hN] at HS
      clear hD hrr htq hSp he hb hN
      go_wp2
      go_ret2
      exact ⟨rfl, HS.out⟩
    | some e =>
      rw [hSp, he] at d1
      simp only [Option.isSome_some] at d1
      have hKV : K place = e.1 ∧ V place = e.2 := by
        have h5 := htq place hpl
        rw [he] at h5
        cases hS : S place with
        | false => rw [hS] at h5; cases h5
        | true => rw [hS] at h5; cases h5; exact ⟨rfl, rfl⟩
      obtain ⟨n1, n2⟩ := hD.next he
      rw [hN] at n1 n2
      have hhl : hm b e.1 < n := by rw [← hN]; exact hm_lt hb
      have hgp : gap ≠ place := fun x => hD.ne x.symm
      have HH := show Hid _ from rhome_any (hrr.rm htq) hb e.1
      have HBe := show Hid _ from behind_any gap (hm b e.1) place wr
      have hbm := beh_mvs hgl hhl hpl hgp
      have hrm := rem_nx hpl
      have hw : IntKind.i64.wrap ((((place : Nat) : Int) + 1).tmod (n : Int)) = ((nx n place : Nat) : Int) := by rw [hrm, IntKind.wrap_i64]; omega
      have HW2 : Hid ((((place : Nat) : Int) + 1) % (n : Int) = ((nx n place : Nat) : Int)) := nx_mod hpl
      rw [hKV.1] at d2
      rw [hKV.2] at d3
      by_cases hmv : mvs (2 * 2 ^ b) gap (hm b e.1) place
      · have hbf : beh gap (hm b e.1) place = false := by
          rw [hN] at hmv
          cases hx : beh gap (hm b e.1) place with
          | false => rfl
          | true => exact absurd hmv (hbm.1 hx)
        rw [hbf] at HBe
        have HMv : Hid (∀ w', Rr w' q n most (b + 1) (len - 1) (un (un S gap true) place false) (un K gap e.1) (un V gap e.2) → Fr q.foot w1 w' → ∃ f' t', Ds w' q b most (len - 1) z R f' t' place (nx n place) (un (un S gap true) place false) (un K gap e.1) (un V gap e.2) w1) := fun w' h1 h2 => by
          have := hD.move hb he hmv (w' := w') (by rw [hN]; exact h1) h2
          rw [hN] at this
          exact this
        have HFr : Hid (Fr q.foot w1 wr) := hD.fr
        obtain ⟨dg1, dg2, dg3⟩ := hrr.cells hgl
        obtain ⟨fr0, fr1, fr2, fr3⟩ := hrr.fr
        have HRR : Hid (Rr wr q n most (b + 1) (len - 1) S K V ∧ K place = e.1 ∧ V place = e.2 ∧ gap ≠ place) := ⟨hrr, hKV.1, hKV.2, hgp⟩
        clear hD hrr htq hSp he hmv hbf hbm hrm hKV hN
        generalize hm b e.1 = hh at *
        generalize hnx2 : nx n place = p2 at *
        have HNX2 : Hid (nx n place = p2) := hnx2
        clear hnx2
        go_wp2_with fail
        refine Calls.mono HH.out ?_
        rintro e' w3 ⟨rfl, rfl⟩
        go_wp2_with fail
        refine Calls.mono HBe.out ?_
        rintro e' w3 ⟨rfl, rfl⟩
        go_upto_region 11 with fail
        have m1 := HRR.out.1.setS gap true
        have HF1 : Hid (Fr q.foot w1 (w3.setCell ⟨q.bi, gap, none⟩ (.bool true))) := HFr.out.trans (Fr.set _ _ _ (by simp [Ro.foot])) (fun _ h => Or.inl h)
        generalize w3.setCell ⟨q.bi, gap, none⟩ (.bool true) = w4 at *
        clear c0 c2 c3 c4 c5 d1 d2 d3 dg1 dg2 dg3 fr0 fr1 fr2 fr3 HFr
        obtain ⟨_, _, c3, _, _⟩ := m1.cellsR
        obtain ⟨_, d2, _⟩ := m1.cells hpl
        obtain ⟨_, dg2, _⟩ := m1.cells hgl
        obtain ⟨_, _, fr2, _⟩ := m1.fr
        rw [HRR.out.2.1] at d2
        have HM1 := show Hid _ from m1
        clear m1
        go_wp2_with fail
        go_region
        have m2 := (HM1.out.setK gap e.1).below ((Below.refl _ (w4.setCell ⟨q.bk, gap, none⟩ (U e.1))).drew)
        have HF2 : Hid (Fr q.foot w1 (w4.setCell ⟨q.bk, gap, none⟩ (U e.1)).drew) := (HF1.out.trans (Fr.set _ _ _ (by simp [Ro.foot])) (fun _ h => Or.inl h)).trans (F' := []) (Fr.of_below (Below.refl _ _).drew) (by simp)
        generalize (w4.setCell ⟨q.bk, gap, none⟩ (U e.1)).drew = w5 at *
        clear c3 d2 dg2 fr2
        obtain ⟨_, _, _, c4, _⟩ := m2.cellsR
        obtain ⟨_, _, d3⟩ := m2.cells hpl
        obtain ⟨_, _, dg3⟩ := m2.cells hgl
        obtain ⟨_, _, _, fr3⟩ := m2.fr
        rw [HRR.out.2.2.1] at d3
        have HM2 := show Hid _ from m2
        clear m2 HM1
        go_wp2_with fail
        go_region
        have m3 := (HM2.out.setV gap e.2).below ((Below.refl _ (w5.setCell ⟨q.bv, gap, none⟩ (I e.2))).drew)
        have HF3 : Hid (Fr q.foot w1 (w5.setCell ⟨q.bv, gap, none⟩ (I e.2)).drew) := (HF2.out.trans (Fr.set _ _ _ (by simp [Ro.foot])) (fun _ h => Or.inl h)).trans (F' := []) (Fr.of_below (Below.refl _ _).drew) (by simp)
        generalize (w5.setCell ⟨q.bv, gap, none⟩ (I e.2)).drew = w6 at *
        clear c4 d3 dg3 fr3
        obtain ⟨_, c2, _, _, _⟩ := m3.cellsR
        obtain ⟨d1, _, _⟩ := m3.cells hpl
        obtain ⟨_, fr1, _, _⟩ := m3.fr
        have m4 := m3.setS place false
        obtain ⟨_, c2b, _, _, _⟩ := m4.cellsR
        have HV5 := show Hid _ from HMv.out _ m4 (HF3.out.trans (Fr.set _ _ _ (by simp [Ro.foot])) (fun _ h => Or.inl h))
        clear m3 m4 HM2
        go_wp2
        obtain ⟨f'', t', hV'⟩ := HV5.out
        go_roundg (D n p2 z)
        case measure => omega
        case rel => exact ⟨f'', t', place, p2, _, _, _, rfl, rfl, congrArg (Value.int .i64) HW2.out, hV'⟩
      · have hbt : beh gap (hm b e.1) place = true := by
          rw [hN] at hmv
          exact hbm.2 hmv
        rw [hbt] at HBe
        have HS := show Hid _ from hD.stay hb he hmv
        rw [hN] at HS
        clear hD hrr htq hSp he hb hN hmv hbt hbm hrm hKV
        generalize hm b e.1 = hh at *
        generalize hnx2 : nx n place = p2 at *
        have HNX2 : Hid (nx n place = p2) := hnx2
        clear hnx2
        go_wp2_with fail
        refine Calls.mono HH.out ?_
        rintro e' w3 ⟨rfl, rfl⟩
        go_wp2_with fail
        refine Calls.mono HBe.out ?_
        rintro e' w3 ⟨rfl, rfl⟩
        go_wp2
        obtain ⟨f'', hV'⟩ := HS.out
        go_roundg (D n p2 z)
        case measure => omega
        case rel => exact ⟨f'', tt, gap, p2, S, K, V, rfl, rfl, congrArg (Value.int .i64) HW2.out, hV'⟩
theorem rdrop_any {w : World} {q : Ro} {a : Ix Int} (hm : Rm w q a.n a.most (a.b + 1) a.count a.t) (hk : Ok a) (k : Nat) : Calls Try.prog 36 #[.pointer (some ⟨q.r, 0, none⟩), U k] w fun e w' => e = .returned (.tuple #[((a.get k).map ev).getD zv, .bool (a.get k).isSome]) ∧ Rm w' q (a.drop k).n (a.drop k).most ((a.drop k).b + 1) (a.drop k).count (a.drop k).t ∧ Fr q.foot w w' := by
  have hF : FindIs w q k (a.find k) := rfind_any hm hk k
  have hl := hk.find_lt k
  obtain ⟨S, K, V, hr, ht⟩ := hm.raw
  have hS := ht.at_ hl
  cases hg : a.get k with
  | none =>
    rw [hk.drop_none hg]
    have he := hk.at_none.1 hg
    rw [he] at hS
    refine (rdrop_none hr hF hl hS).mono ?_
    rintro e w' ⟨rfl, rfl⟩
    exact ⟨rfl, hm, Fr.refl _ _⟩
  | some v =>
    have he := hk.at_some hg
    obtain ⟨d1, d2, d3, _⟩ := hk.drop_there hg
    obtain ⟨b1, b2, b3⟩ := a.drop_b k
    have hn := Ix.n_le hk.b
    obtain ⟨z, hz, hzp, h0⟩ := hk.stop hg
    have hc4 : a.count ≤ 4194304 := by
      have := hk.cnt
      have := hk.most
      have := Nat.pow_le_pow_right (n := 2) (by omega) hk.b
      omega
    have e1 : (a.drop k).t = vac a.n (Ix.hm a.b) a.n (up a.t (a.find k) none) (a.find k) (nx a.n (a.find k)) := by unfold Ix.drop; rw [he]
    have hV : V (a.find k) = v := by
      have h5 := ht _ hl
      rw [he] at h5
      cases hS' : S (a.find k) with
      | false => rw [hS'] at h5; cases h5
      | true => rw [hS', if_pos rfl] at h5; exact (Prod.mk.inj (Option.some.inj h5)).2.symm
    rw [he] at hS
    have hpos : 0 < 2 * 2 ^ a.b := by have := two_pos a.b; omega
    rw [b1, b2, b3, d2]
    have hzD : D a.n (a.find k) (nx a.n (a.find k)) ≤ D a.n (a.find k) z := by
      unfold D nx
      repeat' split
      all_goals omega
    have := rdrop_some (R := (a.drop k).t) (t := a.t) (z := z) hk.b rfl hr hF hl hS ⟨d3, hc4⟩ (fun w' h1 h2 => ⟨h1, ht.clear _, Ix.V.start (by exact hn.1) hk.fine he, by rw [up_ne hzp]; exact h0, hz, hzD, D_lt (nx_lt hpos) hz, e1.symm, h2⟩)
    rw [hV] at this
    exact this
end Go.Proofs.Ytkekmmomdhdegaa.Rx
