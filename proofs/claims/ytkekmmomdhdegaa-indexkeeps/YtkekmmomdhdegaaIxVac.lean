import Derived.Test.YtkekmmomdhdegaaIxPut
namespace Go.Proofs.Ytkekmmomdhdegaa.Ii
open Go.RowKit Go.Proofs.Ytkekmmomdhdegaa.Ix

/-- the state of the mending: the table t, its hole at gap with what lay there still in memory -/
structure Vs (w : World) (g : Nat) (o : Lo) (b most count : Nat) (z : Nat) (R : Tb El) (f : Nat) (t : Tb El) (gap place : Nat) (st : Nat × El) (p : Nat) (w0 : World) : Prop where
  mem : Mem w g o b most count (up t gap (some st))
  v : V (2 * 2 ^ b) (hm b) t gap place
  z0 : t z = none
  zl : z < 2 * 2 ^ b
  zg : D (2 * 2 ^ b) gap place ≤ D (2 * 2 ^ b) gap z
  fl : D (2 * 2 ^ b) place z < f
  r : vac (2 * 2 ^ b) (hm b) f t gap place = R
  p : o.ps (gap / 32) = some p
  fr : Fr (o.foot g) w0 w
section
variable {w w0 : World} {g : Nat} {o : Lo} {b most count z f gap place p : Nat} {R t : Tb El} {st : Nat × El}
theorem Vs.ne (h : Vs w g o b most count z R f t gap place st p w0) : place ≠ gap := by
  have := h.v.pg
  rintro rfl
  unfold D at this
  split at this <;> omega
theorem Vs.at (h : Vs w g o b most count z R f t gap place st p w0) : (up t gap (some st)) place = t place := up_ne h.ne
theorem Vs.foot (h : Vs w g o b most count z R f t gap place st p w0) : p ∈ o.foot g := Lo.mem_foot.2 (Or.inr (Or.inr ⟨_, (h.mem.pp _ _ h.p).1, h.p⟩))
/-- the end -/
theorem Vs.stop (h : Vs w g o b most count z R f t gap place st p w0) (h0 : t place = none) (k : Nat) (v : El) : Mem (((w.setCell ⟨p, gap % 32 * 3, none⟩ (U k)).setCell ⟨p, gap % 32 * 3 + 1, none⟩ (ev v)).setCell ⟨p, gap % 32 * 3 + 2, none⟩ (.bool false)) g o b most count R ∧ Fr (o.foot g) w0 (((w.setCell ⟨p, gap % 32 * 3, none⟩ (U k)).setCell ⟨p, gap % 32 * 3 + 1, none⟩ (ev v)).setCell ⟨p, gap % 32 * 3 + 2, none⟩ (.bool false)) := by
  obtain ⟨h1, h2⟩ := h.mem.put3 h.p k v false
  rw [if_neg (by simp), up_up, up_same h.v.gn] at h1
  have hr := h.r
  have hf := h.fl
  cases f with
  | zero => omega
  | succ f =>
    unfold vac at hr
    rw [h0] at hr
    dsimp only at hr
    subst hr
    exact ⟨h1, h.fr.trans h2 (fun x hx => by rw [List.mem_singleton] at hx; subst hx; exact Or.inl h.foot)⟩
theorem Vs.next (h : Vs w g o b most count z R f t gap place st p w0) {e : Nat × El} (he : t place = some e) : (nx (2 * 2 ^ b) place < 2 * 2 ^ b) ∧ D (2 * 2 ^ b) (nx (2 * 2 ^ b) place) z < D (2 * 2 ^ b) place z := by
  have hp := h.v.p
  have hz := h.zl
  have hne : z ≠ place := by
    rintro rfl
    rw [h.z0] at he
    cases he
  refine ⟨nx_lt (by omega), ?_⟩
  generalize 2 * 2 ^ b = n at *
  unfold D nx
  repeat' split
  all_goals omega
/-- what lies at the place stays -/
theorem Vs.stay (hb : b ≤ 22) (h : Vs w g o b most count z R f t gap place st p w0) {e : Nat × El} (he : t place = some e) (hmv : ¬ mvs (2 * 2 ^ b) gap (hm b e.1) place) : ∃ f', Vs w g o b most count z R f' t gap (nx (2 * 2 ^ b) place) st p w0 := by
  obtain ⟨h1, h2, h3⟩ := h.v.more he h.zl h.z0 h.zg
  obtain ⟨n1, n2⟩ := h.next he
  have hf := h.fl
  have hr := h.r
  cases f with
  | zero => omega
  | succ f =>
    unfold vac at hr
    rw [he] at hr
    dsimp only at hr
    rw [if_neg hmv] at hr
    exact ⟨f, h.mem, h.v.stay (fun k => hm_lt hb) he hmv h1, h.z0, h.zl, h2, by omega, hr, h.p, h.fr⟩
/-- it goes to the gap -/
theorem Vs.move (hb : b ≤ 22) (h : Vs w g o b most count z R f t gap place st p w0) {e : Nat × El} {q : Nat} (he : t place = some e) (hq : o.ps (place / 32) = some q) (hmv : mvs (2 * 2 ^ b) gap (hm b e.1) place) : ∃ f' t', Vs (((w.setCell ⟨p, gap % 32 * 3, none⟩ (U e.1)).setCell ⟨p, gap % 32 * 3 + 1, none⟩ (ev e.2)).setCell ⟨p, gap % 32 * 3 + 2, none⟩ (.bool true)) g o b most count z R f' t' place (nx (2 * 2 ^ b) place) e q w0 := by
  obtain ⟨h1, h2, h3⟩ := h.v.more he h.zl h.z0 h.zg
  obtain ⟨n1, n2⟩ := h.next he
  obtain ⟨m1, m2⟩ := h.mem.put3 h.p e.1 e.2 true
  rw [if_pos rfl, up_up] at m1
  have hf := h.fl
  have hr := h.r
  have hne := h.ne
  have hzg : z ≠ gap := by
    rintro rfl
    have := h.v.pg
    have := h.zg
    have e0 : D (2 * 2 ^ b) z z = 0 := by unfold D; split <;> omega
    omega
  have em : up (up (up t gap (some e)) place none) place (some e) = up t gap (some e) := by
    rw [up_up]
    exact up_same (by rw [up_ne hne]; exact he)
  have hpl := h.v.p
  have hgl := h.v.g
  have hzl := h.zl
  have hzz := h.zg
  cases f with
  | zero => omega
  | succ f =>
    unfold vac at hr
    rw [he] at hr
    dsimp only at hr
    rw [if_pos hmv] at hr
    refine ⟨f, up (up t gap (some e)) place none, by rw [em]; exact m1, h.v.move (fun k => hm_lt hb) he hmv h1, ?_, h.zl, ?_, by omega, hr, hq, h.fr.trans m2 (fun x hx => by rw [List.mem_singleton] at hx; subst hx; exact Or.inl h.foot)⟩
    · rw [up_ne h3, up_ne hzg]; exact h.z0
    · generalize 2 * 2 ^ b = n at *
      unfold D nx at *
      repeat' split at h2
      all_goals repeat' split at hzz
      all_goals repeat' split at h1
      all_goals repeat' split
      all_goals omega
end
theorem Vs.start {w : World} {g : Nat} {o : Lo} {a : Ix El} (h : IsIx w g o a) {k : Nat} {v : El} (hg : a.get k = some v) : ∃ z p, Vs w g o a.b a.most a.count z (a.drop k).t a.n (up a.t (a.find k) none) (a.find k) (nx a.n (a.find k)) (k, v) p w := by
  obtain ⟨hm, hk⟩ := h
  have hs := hk.at_some hg
  obtain ⟨p, hp, _⟩ := hm.taken hs
  have hn := Ix.n_le hk.b
  have hn2 : 2 ≤ 2 * 2 ^ a.b := hn.1
  obtain ⟨z, hz, hzp, h0⟩ := hk.stop hg
  have e1 : (a.drop k).t = vac a.n (Ix.hm a.b) a.n (up a.t (a.find k) none) (a.find k) (nx a.n (a.find k)) := by unfold Ix.drop; rw [hs]
  refine ⟨z, p, by rw [up_up, up_same hs]; exact hm, V.start hn2 hk.fine hs, by rw [up_ne hzp]; exact h0, hz, ?_, D_lt (nx_lt (by omega)) hz, e1.symm, hp, Fr.refl _ _⟩
  have hfl := hk.find_lt k
  change D a.n (a.find k) (nx a.n (a.find k)) ≤ D a.n (a.find k) z
  unfold D nx
  repeat' split
  all_goals omega

set_option maxHeartbeats 3200000 in
set_option maxRecDepth 100000 in
theorem vacate_any {w : World} {g : Nat} {o : Lo} {a : Ix El} (h : IsIx w g o a) {k : Nat} {v : El} (hg : a.get k = some v) : Calls Try.prog 53 #[.pointer (some ⟨g, 0, none⟩), I (a.find k : Nat)] w fun e w' => e = .returned (.tuple #[]) ∧ Mem w' g o a.b a.most a.count (a.drop k).t ∧ Fr (o.foot g) w w' := by
  obtain ⟨z, p, hV⟩ := Vs.start h hg
  obtain ⟨hm, hk⟩ := h
  have hb := hk.b
  have hn := Ix.n_le hb
  have hf := hk.find_lt k
  have HMe := show Hid _ from memory_there hm (x := a.find k) (p := p) (by omega) hV.p
  have HAf := show Hid _ from after_any (n := a.n) hm hb rfl hf
  have HAt := show Hid _ from at_any hm (x := nx a.n (a.find k)) (by have := nx_lt (n := a.n) (p := a.find k) (by omega); omega)
  have es : up (up a.t (a.find k) none) (a.find k) (some (k, v)) = a.t := by rw [up_up]; exact up_same (hk.at_some hg)
  have hat : a.t (nx a.n (a.find k)) = up a.t (a.find k) none (nx a.n (a.find k)) := by
    have := hV.at
    rw [es] at this
    exact this
  have eav : atv o a.t (nx a.n (a.find k)) = atv o (up (up a.t (a.find k) none) (a.find k) (some (k, v))) (nx a.n (a.find k)) := by rw [es]
  rw [eav] at HAt
  clear eav hat es hm hk hg
  generalize (a.drop k).t = R at *
  have hN : (2 * 2 ^ a.b : Nat) = a.n := rfl
  generalize a.find k = gp at *
  generalize up a.t gp none = tt at *
  obtain ⟨b, most, count, t⟩ := a
  dsimp only at *
  generalize Ix.n ⟨b, most, count, t⟩ = n at *
  clear t
  obtain ⟨av, hav⟩ : ∃ av, av = atv o (up tt gp (some (k, v))) (nx n gp) := ⟨_, rfl⟩
  rw [← hav] at HAt
  have HAV : Hid (av = atv o (up tt gp (some (k, v))) (nx n gp)) := hav
  clear hav
  have HV : Hid (Vs w g o b most count z R n tt gp (nx n gp) (k, v) p w) := hV
  have HB : Hid (b ≤ 22 ∧ 2 * 2 ^ b = n) := ⟨hb, hN⟩
  obtain ⟨m0, hm0⟩ : ∃ m0, D n (nx n gp) z = m0 := ⟨_, rfl⟩
  have HM0 : Hid (D n (nx n gp) z = m0) := hm0
  clear hV hb hN hm0
  go_enter Try.func53, Try.ntmps53
  go_wp2_with fail
  refine Calls.mono HMe.out ?_
  rintro e w1 ⟨rfl, rfl⟩
  go_wp2_with fail
  refine Calls.mono HAf.out ?_
  rintro e w1 ⟨rfl, rfl⟩
  go_wp2_with fail
  refine Calls.mono HAt.out ?_
  rintro e w1 ⟨rfl, rfl⟩
  go_wp2_with fail
  go_loopg [1, 4, 5, 6] m0 (fun r vg vh vp vs wr => ∃ (f : Nat) (tt : Tb El) (gap place : Nat) (st : Nat × El) (p : Nat), D n place z = r ∧ vg = I gap ∧ vh = .pointer (some ⟨p, gap % 32 * 3, none⟩) ∧ vp = I place ∧ vs = atv o (up tt gap (some st)) place ∧ Vs wr g o b most count z R f tt gap place st p w1)
  case atStart => exact ⟨n, tt, gp, nx n gp, (k, v), p, HM0.out, rfl, rfl, rfl, HAV.out, HV.out⟩
  case round =>
    obtain ⟨f, tt, gap, place, st, p, hr, rfl, rfl, rfl, rfl, hV⟩ := hrel
    have HV2 : Hid (Vs wr g o b most count z R f tt gap place st p w1) := hV
    obtain ⟨hb, hN⟩ := HB.out
    have hgl : gap < n := by rw [← hN]; exact hV.v.g
    have hpl : place < n := by rw [← hN]; exact hV.v.p
    cases he : tt place with
    | none =>
      have e1 : atv o (up tt gap (some st)) place = .pointer none := atv_none (by rw [hV.at]; exact he)
      obtain ⟨k', v', b', s1, s2, s3, _, fr⟩ := hV.mem.slot hV.p
      have HS := show Hid _ from hV.stop he 0 ez
      rw [e1]
      clear hV he e1 hb hN
      go_wp2
      go_end0
      exact ⟨rfl, HS.out⟩
    | some e =>
      obtain ⟨q, hq, c1, c2, c3, _⟩ := hV.mem.taken (x := place) (e := e) (by rw [hV.at]; exact he)
      have e1 : atv o (up tt gap (some st)) place = .pointer (some ⟨q, place % 32 * 3, none⟩) := atv_some (by rw [hV.at]; exact he) hq
      obtain ⟨k', v', b', s1, s2, s3, _, fr⟩ := hV.mem.slot hV.p
      obtain ⟨n1, n2⟩ := hV.next he
      rw [hN] at n1 n2
      have hhl : hm b e.1 < n := by rw [← hN]; exact hm_lt hb
      have HH := show Hid _ from home_any hV.mem hb e.1
      have HS1 := show Hid _ from steps_any hV.mem hb hN.symm hgl hhl
      have HS2 := show Hid _ from steps_any hV.mem hb hN.symm hgl hpl
      have HNx := show Hid _ from after_any hV.mem hb hN.symm hpl
      have hAt2 := at_any hV.mem (x := nx n place) (by omega)
      obtain ⟨av2, hav2⟩ : ∃ av, av = atv o (up tt gap (some st)) (nx n place) := ⟨_, rfl⟩
      rw [← hav2] at hAt2
      have HAt2 := show Hid _ from hAt2
      have HAV2 : Hid (av2 = atv o (up tt gap (some st)) (nx n place)) := hav2
      clear hav2 hAt2
      rw [e1]
      by_cases hmv : mvs (2 * 2 ^ b) gap (hm b e.1) place
      · have HS := show Hid _ from hV.move hb he hq hmv
        generalize hh0 : hm b e.1 = hh at *
        have hmv2 : hh = gap ∨ D n gap place < D n gap hh := by
          rw [hN] at hmv
          exact hmv
        clear hV he hmv e1 hh0
        by_cases hne : hh = gap
        · have hne2 : (((hh : Nat) : Int) == (gap : Int)) = true := by simp; omega
          have hne1 : ((hh : Nat) : Int) = (gap : Int) := by omega
          clear HS1 HS2 hmv2 hne
          go_wp2_with fail
          refine Calls.mono HH.out ?_
          rintro e' w2 ⟨rfl, rfl⟩
          go_upto_region 9 with fail
          obtain ⟨f', t', hV'⟩ := HS.out
          generalize ((w2.setCell ⟨p, gap % 32 * 3, none⟩ (U e.1)).setCell ⟨p, gap % 32 * 3 + 1, none⟩ (ev e.2)).setCell ⟨p, gap % 32 * 3 + 2, none⟩ (.bool true) = w5 at *
          rw [hN] at hV'
          have HV' := show Hid _ from hV'
          have HNx2 := show Hid _ from after_any hV'.mem hb hN.symm hpl
          have hAt3 := at_any hV'.mem (x := nx n place) (by omega)
          obtain ⟨av3, hav3⟩ : ∃ av, av = atv o (up t' place (some e)) (nx n place) := ⟨_, rfl⟩
          rw [← hav3] at hAt3
          have HAt3 := show Hid _ from hAt3
          have HAV3 : Hid (av3 = atv o (up t' place (some e)) (nx n place)) := hav3
          clear hav3 hAt3
          clear hV' c1 c2 c3 s1 s2 s3 fr HAt2 HNx hq HV2 HH
          go_wp2_with fail
          refine Calls.mono HNx2.out ?_
          rintro e' w6 ⟨rfl, rfl⟩
          go_wp2_with fail
          refine Calls.mono HAt3.out ?_
          rintro e' w6 ⟨rfl, rfl⟩
          go_wp2
          go_roundg (D n (nx n place) z)
          case measure => omega
          case rel => exact ⟨f', t', place, nx n place, e, q, rfl, rfl, rfl, rfl, HAV3.out, HV'.out⟩
        · have hne1 : ((hh : Nat) : Int) ≠ (gap : Int) := by omega
          have hne2 : (((hh : Nat) : Int) == (gap : Int)) = false := by simp; omega
          have hle : ((D n gap place : Nat) : Int) < ((D n gap hh : Nat) : Int) := by omega
          clear hmv2
          go_wp2_with fail
          refine Calls.mono HH.out ?_
          rintro e' w2 ⟨rfl, rfl⟩
          go_wp2_with fail
          refine Calls.mono HS1.out ?_
          rintro e' w2 ⟨rfl, rfl⟩
          go_wp2_with fail
          refine Calls.mono HS2.out ?_
          rintro e' w2 ⟨rfl, rfl⟩
          go_upto_region 9 with fail
          obtain ⟨f', t', hV'⟩ := HS.out
          generalize ((w2.setCell ⟨p, gap % 32 * 3, none⟩ (U e.1)).setCell ⟨p, gap % 32 * 3 + 1, none⟩ (ev e.2)).setCell ⟨p, gap % 32 * 3 + 2, none⟩ (.bool true) = w5 at *
          rw [hN] at hV'
          have HV' := show Hid _ from hV'
          have HNx2 := show Hid _ from after_any hV'.mem hb hN.symm hpl
          have hAt3 := at_any hV'.mem (x := nx n place) (by omega)
          obtain ⟨av3, hav3⟩ : ∃ av, av = atv o (up t' place (some e)) (nx n place) := ⟨_, rfl⟩
          rw [← hav3] at hAt3
          have HAt3 := show Hid _ from hAt3
          have HAV3 : Hid (av3 = atv o (up t' place (some e)) (nx n place)) := hav3
          clear hav3 hAt3
          clear hV' c1 c2 c3 s1 s2 s3 fr HAt2 HNx hq HV2 HH
          go_wp2_with fail
          refine Calls.mono HNx2.out ?_
          rintro e' w6 ⟨rfl, rfl⟩
          go_wp2_with fail
          refine Calls.mono HAt3.out ?_
          rintro e' w6 ⟨rfl, rfl⟩
          go_wp2
          go_roundg (D n (nx n place) z)
          case measure => omega
          case rel => exact ⟨f', t', place, nx n place, e, q, rfl, rfl, rfl, rfl, HAV3.out, HV'.out⟩
      · have HS := show Hid _ from hV.stay hb he hmv
        have hmv2 : hm b e.1 ≠ gap ∧ ¬ D n gap place < D n gap (hm b e.1) := by
          rw [hN] at hmv
          unfold mvs at hmv
          omega
        have hne : ((hm b e.1 : Nat) : Int) ≠ (gap : Int) := by omega
        have hne2 : (((hm b e.1 : Nat) : Int) == (gap : Int)) = false := by simp; omega
        have hle : ¬ ((D n gap place : Nat) : Int) < ((D n gap (hm b e.1) : Nat) : Int) := by omega
        generalize hm b e.1 = hh at *
        clear hV he hq hb hmv hmv2 e1
        go_wp2_with fail
        refine Calls.mono HH.out ?_
        rintro e' w2 ⟨rfl, rfl⟩
        go_wp2_with fail
        refine Calls.mono HS1.out ?_
        rintro e' w2 ⟨rfl, rfl⟩
        go_wp2_with fail
        refine Calls.mono HS2.out ?_
        rintro e' w2 ⟨rfl, rfl⟩
        go_wp2_with fail
        refine Calls.mono HNx.out ?_
        rintro e' w2 ⟨rfl, rfl⟩
        go_wp2_with fail
        refine Calls.mono HAt2.out ?_
        rintro e' w2 ⟨rfl, rfl⟩
        go_wp2
        obtain ⟨f', hV'⟩ := HS.out
        rw [hN] at hV'
        go_roundg (D n (nx n place) z)
        case measure => omega
        case rel => exact ⟨f', tt, gap, nx n place, st, p, rfl, rfl, rfl, rfl, HAV2.out, hV'⟩
end Go.Proofs.Ytkekmmomdhdegaa.Ii
