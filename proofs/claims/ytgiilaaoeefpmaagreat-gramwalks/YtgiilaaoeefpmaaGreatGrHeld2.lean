import Derived.Test.YtgiilaaoeefpmaaGreatGrLoc
import Derived.RegionDies
namespace Go.Proofs.YtgiilaaoeefpmaaGreat.Gr
open Go.RowKit Go.Proofs.YtgiilaaoeefpmaaGreat.Sp Go.Proofs.YtgiilaaoeefpmaaGreat.Lx Go.Maps

section
variable (E : Env) (ok : E.Ok) (w : World) (rv pv : Value) (s : PS) (h : Par w E rv pv s)
include ok h

set_option maxHeartbeats 6400000 in
set_option maxRecDepth 100000 in
theorem held_any (part : PS → O Unit) (pf : Nat) (he : Enters pf) (hp : Does E pf #[.pointer (some ⟨E.g, 0, none⟩)] part) (hgr : Grows part) (hgp : ∀ s s', s.places.length = s.rows.length → part s = some (.ok () s') → s.rows.length < s'.rows.length) (rule most N : Nat) (hrule : rule < 6) (hmost : most ≤ 65536)
    (hm : ∀ W, E.Fix W → W.ownsMap Tryz.prog 9 R0 E.m5 12 (mkD signTab)) (hg : Good s) (r : R Unit) (hr : held E part rule most N s = some r) :
    Calls Tryz.prog 136 #[.pointer (some ⟨E.g, 0, none⟩), .int .i64 rule, .int .i64 most, .func (.func pf) #[.pointer (some ⟨E.g, 0, none⟩)] #[]] w fun e w' => Post E w rv pv (fun _ => .tuple #[]) r e w' := by
  unfold held at hr
  cases hq : part s with
  | none => rw [hq] at hr; cases hr
  | some r1 =>
    rw [hq] at hr
    have HC : Hid (Calls Tryz.prog pf #[.pointer (some ⟨E.g, 0, none⟩)] w fun e w' => Post E w rv pv (fun _ => .tuple #[]) r1 e w') := hp w rv pv s r1 h hg hq
    have HP : Hid (∀ w rv pv s r, Par w E rv pv s → Good s → part s = some r → Calls Tryz.prog pf #[.pointer (some ⟨E.g, 0, none⟩)] w fun e w' => Post E w rv pv (fun _ => .tuple #[]) r e w') := hp
    have HGr : Hid (Grows part ∧ ∀ s s', s.places.length = s.rows.length → part s = some (.ok () s') → s.rows.length < s'.rows.length) := ⟨hgr, hgp⟩
    have HM : Hid (∀ W, E.Fix W → W.ownsMap Tryz.prog 9 R0 E.m5 12 (mkD signTab)) := hm
    have HS : Hid (Par w E rv pv s ∧ Good s ∧ part s = some r1) := ⟨h, hg, hq⟩
    have he' : ∀ (args : Array Value) (w : World), (callFunc pf args).run Tryz.prog w = .ok (.enter pf args) w := he
    have c6 := h.cells.2.2.2.2.2.2.1
    obtain ⟨bo, bc, hform⟩ := own_form h.rows
    rw [hform] at c6
    clear h hg hq hp hgr hgp hm hform
    go_enter Tryz.func136, Tryz.ntmps136
    go_wp2_with fail
    refine HC.out.mono ?_
    intro e w0 hpp
    cases r1 with
    | die er i =>
      cases hr
      obtain ⟨rfl, hF⟩ := hpp
      have HF : Hid (E.Fix w0) := hF
      clear hF
      go_wp2
      exact ⟨rfl, rfl, HF.out⟩
    | ok a0 s0 =>
      obtain ⟨rfl, rv0, pv0, hP0, hM0⟩ := hpp
      have hr' : O.bind (signs E part rule most N [] s0) (fun acc s2 => some (.ok () (laid s.rows.length acc s2))) = some r := hr
      clear hr
      cases h2 : signs E part rule most N [] s0 with
      | none => rw [h2] at hr'; cases hr'
      | some r2 =>
      rw [h2] at hr'
      have HM0 : Hid (Mv E w rv pv w0 rv0 pv0) := hM0
      have HRes0 : Hid (O.bind (some r2) (fun acc s2 => some (.ok () (laid s.rows.length acc s2))) = some r) := hr'
      have HI : Hid (Hel E part rule most s w0 rv0 pv0 r2 N w0 rv0 pv0 (.slice none 0 0) (.slice none 0 0) [] s0) := by
        obtain ⟨q1, q2⟩ := HGr.out.1 s s0 HS.out.2.1.1 HS.out.2.2
        have q3 := HGr.out.2 s s0 HS.out.2.1.1 HS.out.2.2
        have q4 := q1.good HS.out.2.1
        obtain ⟨mr, mp, e1, e2, e3, e4⟩ := q1.more
        exact ⟨hP0, Mv.of1 _ _ (Mv1.refl _ _), Loc.nil _ _ _ _, h2, q4.1, by simpa using q4.2, ⟨mr, mp, e1, e2, by rw [e1, List.length_append] at q3; omega⟩, hP0.fix.size⟩
      clear hP0 hM0 h2 hr' c6
      go_wp2_with fail
      go_loopg [9, 10, 11] N (fun q va vb _ wr => ∃ lr lp acc s1 rv1 pv1, lr = va ∧ lp = vb ∧ Hel E part rule most s w0 rv0 pv0 r2 q wr rv1 pv1 lr lp acc s1)
      case atStart => exact ⟨_, _, [], s0, rv0, pv0, rfl, rfl, HI.out⟩
      case round =>
        obtain ⟨lr, lp, acc, s1, rv1, pv1, rfl, rfl, hE⟩ := hrel
        cases gk with
        | zero => cases hE.run
        | succ q =>
        have hrun := hE.run
        unfold signs at hrun
        obtain ⟨lo, lc, hlo⟩ : ∃ lo lc, lr = .slice lo acc.length lc := by
          obtain ⟨lo, lc, e⟩ := own_form hE.loc.r
          rw [List.length_map] at e
          exact ⟨lo, lc, e⟩
        subst hlo
        have HE : Hid (Hel E part rule most s w0 rv0 pv0 r2 (q + 1) wr rv1 pv1 (.slice lo acc.length lc) lp acc s1) := hE
        clear hE
        by_cases hlt : acc.length < most
        · rw [if_pos hlt] at hrun
          have hl2 : (acc.length : Int) < (most : Int) := by omega
          have HRun : Hid ((if E.bad s1 = true then some (.die E.ce E.ca) else if ruleOf (signOf (E.wd s1).data.toList) = rule then O.bind (part s1.skip) fun _ s' => signs E part rule most q (acc ++ [(signOf (E.wd s1).data.toList, (E.tok s1).at_)]) s' else some (.ok acc s1)) = some r2) := hrun
          clear hrun hlt
          cases hb : E.bad s1 with
          | true =>
            have HK : Hid ((E.tok s1).kind = 0 ∧ E.ce ≠ 0) := bad_iff hb
            have HRes : Hid (r = .die E.ce E.ca) := by
              have h1 := HRun.out
              rw [if_pos hb] at h1
              cases h1
              have := HRes0.out
              cases this
              rfl
            have HW : Hid (Calls Tryz.prog 120 #[.pointer (some ⟨E.g, 0, none⟩)] wr.drew fun e w' => e = thrown E.ce E.ca ∧ E.Fix w') :=
              (word_die E ok wr.drew rv1 pv1 s1 (HE.out.par.below (Below.refl _ wr).drew) _ (Env.tok_at HE.out.par.nx) HK.out.1 HK.out.2).mono fun e w' hh => ⟨hh.1, (HE.out.par.fix.below (Below.refl _ wr).drew).below hh.2⟩
            have c13 : wr.cell? ⟨E.g, 13, none⟩ = some (.map (some E.m5)) := HE.out.par.cell 13
            clear hb HRun HRes0
            go_wp2_with fail
            go_region_dies
            all_goals refine HW.out.mono ?_
            all_goals rintro e w1 ⟨rfl, hF⟩
            all_goals (have HF : Hid (E.Fix w1) := hF)
            all_goals clear hF
            all_goals go_wp2
            all_goals rw [HRes.out]
            all_goals exact ⟨rfl, rfl, HF.out⟩
          | false =>
            have HK : Hid ((E.tok s1).kind ≠ 0 ∨ E.ce = 0) := bad_not hb
            have hwz : (E.wd s1).size ≤ maxLen := by
              have h1 := ok.tok _ _ (Env.tok_at HE.out.par.nx)
              have h2 := ok.size
              unfold Env.wd maxLen
              rw [ByteArray.size_extract]
              omega
            have hkey := WideMaps.keyOf_string_mk (P := Tryz.prog) Tryz.underlying9 hwz
            obtain ⟨hs1, hs2⟩ := sign_look (E.wd s1).data.toList
            have hne0 : Nonempty (Kin wr) := Kin.there wr
            have c13 : ∀ y : Kin wr, y.u.cell? ⟨E.g, 13, none⟩ = some (.map (some E.m5)) := fun y => (HE.out.par.below y.ok).cell 13
            have HW : Hid (∀ y : Kin wr, Calls Tryz.prog 120 #[.pointer (some ⟨E.g, 0, none⟩)] y.u fun e w' => e = .returned (.string (E.wd s1)) ∧ Below y.u.heap.size y.u w') := fun y =>
              word_ok E ok y.u rv1 pv1 s1 (HE.out.par.below y.ok) _ (Env.tok_at HE.out.par.nx) HK.out
            have hlk : ∀ y : Kin wr, (Instr.lookup 79 (.map (some E.m5)) (.string (E.wd s1)) false).run Tryz.prog y.u = .ok (.int .i64 (signOf (E.wd s1).data.toList : Nat)) y.u := fun y => by
              obtain ⟨v, ps, e1, e2⟩ := (HM.out y.u (HE.out.par.below y.ok).fix).lookup law Tryz.underlying79 (zeroint y.u) (zd := .held (.int .i64 0)) (zp := []) rfl hkey
              rw [look_at, hs1] at e2
              cases e2
              exact e1
            have HRun2 : Hid ((if ruleOf (signOf (E.wd s1).data.toList) = rule then O.bind (part s1.skip) fun _ s' => signs E part rule most q (acc ++ [(signOf (E.wd s1).data.toList, (E.tok s1).at_)]) s' else some (.ok acc s1)) = some r2) := by
              have h1 := HRun.out
              rw [if_neg (by simp [hb])] at h1
              exact h1
            have HMore : Hid (ruleOf (signOf (E.wd s1).data.toList) = rule → s1.next + 1 < E.ts.length) := fun e => by
              have h1 := rule_sign e hrule
              refine more E ok wr rv1 pv1 s1 HE.out.par (E.wd s1) ?_ rfl
              rcases Nat.eq_zero_or_pos (E.wd s1).size with h2 | h2
              · exfalso
                apply h1
                rw [show E.wd s1 = ByteArray.empty from Go.Proofs.YtgiilaaoeefpmaaGreat.Lx.empty_of_size h2]
                rfl
              · exact h2
            generalize E.wd s1 = u at *
            generalize signOf u.data.toList = sg at *
            clear hb HRun hwz hkey hs1
            go_wp2_with fail
            refine wp_region_kin (by kernel_rfl) (by kernel_rfl) ?_
            iterate 8 quiet_step (exact kin_of (HW.out _))
            refine wpQuiet_nil ?_
            rintro _ ⟨z, rfl⟩
            have HEz : Hid (Hel E part rule most s w0 rv0 pv0 r2 (q + 1) z.u rv1 pv1 (.slice lo acc.length lc) lp acc s1) :=
              ⟨HE.out.par.below z.ok, HE.out.mv.trans (Mv.of1 _ _ (Mv1.of_below z.ok)), HE.out.loc.below z.ok, HE.out.run, HE.out.same, HE.out.cnt, HE.out.pre, HE.out.base⟩
            clear HE HW hlk c13 hne0
            generalize z.u = wz at *
            clear z
            have HE := HEz
            clear HEz
            go_wp2_with fail
            refine (ruleOf_any _ wz).mono ?_
            intro e w' hh
            obtain ⟨rfl, hw⟩ := hh
            rw [hw]
            clear hw w'
            by_cases hrl : ruleOf (sg : Nat) = rule
            · have hd : (((ruleOf (sg : Nat) : Nat) : Int) != (rule : Int)) = false := by rw [hrl]; simp
              have hn := HMore.out hrl
              have HRun3 : Hid (O.bind (part s1.skip) (fun _ s' => signs E part rule most q (acc ++ [(sg, (E.tok s1).at_)]) s') = some r2) := by
                have h1 := HRun2.out
                rw [if_pos hrl] at h1
                exact h1
              clear hrl HRun2 HMore
              obtain ⟨i0, hi, hz0, hz1, hz2⟩ := info_parts info46
              obtain ⟨j0, hj, hj0, hj1, hj2⟩ := info_parts info3
              have HB1 : Hid (Below wz.heap.size wz (wz.alloc (.cells #[.int .i64 sg, .string ⟨#[]⟩, .int .i64 0, .int .i64 0, .int .i64 2] 46))) := (Below.refl _ wz).alloc (Nat.le_refl _) _
              have HL1 : Hid (Loc w0.heap.size (wz.alloc (.cells #[.int .i64 sg, .string ⟨#[]⟩, .int .i64 0, .int .i64 0, .int .i64 2] 46)) rv1 pv1 (.slice lo acc.length lc) lp (acc.map fun p => row2 p.1) (acc.map fun p => p.2)) := HE.out.loc.below HB1.out
              have hrow : (wz.alloc (.cells #[.int .i64 sg, .string ⟨#[]⟩, .int .i64 0, .int .i64 0, .int .i64 2] 46)).ownsRow w0.heap.size 46 5 (.slice lo acc.length lc) acc.length ((acc.map fun p => row2 p.1).flatMap rc) := by
                have := HL1.out.r
                rw [List.length_map] at this
                exact this
              have HRow : Hid ((wz.alloc (.cells #[.int .i64 sg, .string ⟨#[]⟩, .int .i64 0, .int .i64 0, .int .i64 2] 46)).ownsRow w0.heap.size 46 5 (.slice lo acc.length lc) acc.length ((acc.map fun p => row2 p.1).flatMap rc)) := hrow
              have HCn : Hid (acc.length ≤ 65537) := by have := HE.out.cnt; have := HE.out.par.nx; have := ok.len; show acc.length ≤ 65537; omega
              clear hrow
              go_wp2_with (at_builtin; refine append_gone _ rfl _ _ 22 rfl w0.heap.size 46 i0 (.agg #[.int .i64 0, .string ⟨#[]⟩, .int .i64 0, .int .i64 0, .int .i64 0]) 5 48 Tryz.underlying22 hi hz0 hz1 hz2 rfl (by decide) (.slice lo acc.length lc) acc.length ((acc.map fun p => row2 p.1).flatMap rc) rfl HRow.out ⟨wz.heap.size, 0, none⟩ 1 1 (rc (row2 sg)) rfl rfl ?c1 ?c2 ?c3 ?c4 ?c5 ?c6 ?_)
              case c1 => exact cell_five wz _ _ _ _ _ _
              case c2 => intro x hx; simp only [rc, row2, List.mem_cons, List.not_mem_nil, or_false] at hx; rcases hx with rfl | rfl | rfl | rfl | rfl <;> rfl
              case c3 => have := HCn.out; unfold maxLen; omega
              case c4 => have := HCn.out; omega
              case c5 => exact Nat.le_trans HE.out.mv.size HB1.out.size
              case c6 => decide
              intro lr2 w2 ho hG
              have HP2 : Hid (Par w2 E rv1 pv1 s1 ∧ Mv E w0 rv0 pv0 w2 rv1 pv1 ∧ Loc w0.heap.size w2 rv1 pv1 lr2 lp ((acc.map fun p => row2 p.1) ++ [row2 sg]) (acc.map fun p => p.2)) := by
                have hp1 := HE.out.par.below HB1.out
                refine ⟨hp1.grown ok hG.1 (HL1.out.vr HE.out.base), (HE.out.mv.trans (Mv.of1 _ _ (Mv1.of_below HB1.out))).grown hG.1 (fun k hk => (World.ownsRow.lt HL1.out.r k hk).1), ?_⟩
                refine HL1.out.pushR hp1 ?_ hG
                rw [List.length_map]
                exact ho
              obtain ⟨lo2, lc2, rfl⟩ := own_form ho
              clear ho hG HB1 HL1 HRow
              have hf1 := fld1
              go_wp2_with fail
              refine (token_ok E ok w2 rv1 pv1 s1 HP2.out.1 _ (Env.tok_at HP2.out.1.nx) HK.out).mono ?_
              rintro e w3 ⟨rfl, hB3⟩
              have hB4 : Below w2.heap.size w2 (w3.alloc (.cells #[.int .i64 (E.tok s1).at_] 3)) := hB3.alloc hB3.size _
              have HP3 : Hid (Par (w3.alloc (.cells #[.int .i64 (E.tok s1).at_] 3)) E rv1 pv1 s1 ∧ Mv E w0 rv0 pv0 (w3.alloc (.cells #[.int .i64 (E.tok s1).at_] 3)) rv1 pv1 ∧ Loc w0.heap.size (w3.alloc (.cells #[.int .i64 (E.tok s1).at_] 3)) rv1 pv1 (.slice lo2 (acc.length + 1) lc2) lp ((acc.map fun p => row2 p.1) ++ [row2 sg]) (acc.map fun p => p.2)) :=
                ⟨HP2.out.1.below hB4, HP2.out.2.1.trans (Mv.of1 _ _ (Mv1.of_below hB4)), HP2.out.2.2.below hB4⟩
              have hint : (w3.alloc (.cells #[.int .i64 (E.tok s1).at_] 3)).ownsRow w0.heap.size 3 1 lp acc.length ((acc.map fun p => p.2).map nc) := by
                have := HP3.out.2.2.p
                rw [List.length_map] at this
                exact this
              have HInt : Hid ((w3.alloc (.cells #[.int .i64 (E.tok s1).at_] 3)).ownsRow w0.heap.size 3 1 lp acc.length ((acc.map fun p => p.2).map nc)) := hint
              clear hint hB3 hB4 HP2
              go_wp2_with (at_builtin; refine append_gone _ rfl _ _ 30 rfl w0.heap.size 3 j0 (.int .i64 0) 1 8 Tryz.underlying30 hj hj0 hj1 hj2 rfl (by decide) lp acc.length ((acc.map fun p => p.2).map nc) rfl HInt.out ⟨w3.heap.size, 0, none⟩ 1 1 [nc (E.tok s1).at_] rfl rfl ?c1 ?c2 ?c3 ?c4 ?c5 ?c6 ?_)
              case c1 => exact cell_one w3 _ _
              case c2 => intro x hx; simp only [nc, List.mem_cons, List.not_mem_nil, or_false] at hx; subst hx; rfl
              case c3 => have := HCn.out; unfold maxLen; omega
              case c4 => have := HCn.out; omega
              case c5 => exact HP3.out.2.1.size
              case c6 => decide
              intro lp2 w4 ho hG
              have HP4 : Hid (Par w4 E rv1 pv1 s1 ∧ Mv E w0 rv0 pv0 w4 rv1 pv1 ∧ Loc w0.heap.size w4 rv1 pv1 (.slice lo2 (acc.length + 1) lc2) lp2 ((acc ++ [(sg, (E.tok s1).at_)]).map fun p => row2 p.1) ((acc ++ [(sg, (E.tok s1).at_)]).map fun p => p.2)) := by
                refine ⟨HP3.out.1.grown ok hG.1 (HP3.out.2.2.vp HE.out.base), HP3.out.2.1.grown hG.1 (fun k hk => (World.ownsRow.lt HP3.out.2.2.p k hk).1), ?_⟩
                have := HP3.out.2.2.pushP HP3.out.1 (x := (E.tok s1).at_) (by rw [List.length_map, List.map_map]; exact ho) hG
                simpa using this
              obtain ⟨lo3, lc3, rfl⟩ := own_form ho
              clear ho hG HP3 HInt hf1 hi hz0 hz1 hz2 hj hj0 hj1 hj2
              go_wp2_with fail
              refine (skip_any E ok w4 rv1 pv1 s1 HP4.out.1 hn).mono ?_
              rintro e w5 ⟨rfl, rfl⟩
              have HP5 : Hid (Par (w4.setCell ⟨E.g, 4, none⟩ (.int .i64 ((s1.next : Int) + 1))) E rv1 pv1 s1.skip ∧ Mv E w0 rv0 pv0 (w4.setCell ⟨E.g, 4, none⟩ (.int .i64 ((s1.next : Int) + 1))) rv1 pv1 ∧ Loc w0.heap.size (w4.setCell ⟨E.g, 4, none⟩ (.int .i64 ((s1.next : Int) + 1))) rv1 pv1 (.slice lo2 (acc.length + 1) lc2) (.slice lo3 (acc.length + 1) lc3) ((acc ++ [(sg, (E.tok s1).at_)]).map fun p => row2 p.1) ((acc ++ [(sg, (E.tok s1).at_)]).map fun p => p.2)) :=
                ⟨skipped E ok w4 rv1 pv1 s1 HP4.out.1 hn, HP4.out.2.1.trans (Mv.of1 _ _ (Mv1.set E w4 _ _)), HP4.out.2.2.mv (Mv.of1 _ _ (Mv1.set E w4 _ _)) (Nat.lt_of_lt_of_le ok.gl HE.out.base)⟩
              clear HP4
              go_wp2_with fail
              generalize w4.setCell ⟨E.g, 4, none⟩ (.int .i64 ((s1.next : Int) + 1)) = w5 at *
              have hgood : Good s1.skip := ⟨HE.out.same, by have := HE.out.cnt; show s1.rows.length ≤ s1.next + 1; omega⟩
              cases h3 : part s1.skip with
              | none => have := HRun3.out; rw [h3] at this; cases this
              | some r3 =>
                have HR4 : Hid (O.bind (some r3) (fun _ s' => signs E part rule most q (acc ++ [(sg, (E.tok s1).at_)]) s') = some r2) := by
                  have := HRun3.out
                  rw [h3] at this
                  exact this
                refine (HP.out w5 rv1 pv1 s1.skip r3 HP5.out.1 hgood h3).mono ?_
                intro e w6 hpp
                cases r3 with
                | die er i =>
                  obtain ⟨rfl, hF⟩ := hpp
                  have HF : Hid (E.Fix w6) := hF
                  have HRes : Hid (r = .die er i) := by
                    have h1 := HR4.out
                    cases h1
                    have := HRes0.out
                    cases this
                    rfl
                  clear hF h3 hgood
                  go_wp2
                  rw [HRes.out]
                  exact ⟨rfl, rfl, HF.out⟩
                | ok a6 s6 =>
                  obtain ⟨rfl, rv6, pv6, hP6, hM6⟩ := hpp
                  have HE6 : Hid (Hel E part rule most s w0 rv0 pv0 r2 q w6 rv6 pv6 (.slice lo2 (acc.length + 1) lc2) (.slice lo3 (acc.length + 1) lc3) (acc ++ [(sg, (E.tok s1).at_)]) s6) := by
                    obtain ⟨q1, q2⟩ := HGr.out.1 _ _ hgood.1 h3
                    have q4 := q1.good hgood
                    obtain ⟨mr, mp, e1, e2, e3, e4⟩ := q1.more
                    obtain ⟨nr, np, f1, f2, f3⟩ := HE.out.pre
                    have hc := HE.out.cnt
                    refine ⟨hP6, HP5.out.2.1.trans hM6, HP5.out.2.2.mv hM6 (Nat.lt_of_lt_of_le ok.gl HE.out.base), HR4.out, q4.1, ?_, ⟨nr ++ mr, np ++ mp, ?_, ?_, by rw [List.length_append]; omega⟩, HE.out.base⟩
                    · rw [e1]
                      change mr.length + (s1.next + 1) ≤ s6.next at e4
                      show (s1.rows ++ mr).length + (acc ++ [_]).length ≤ s6.next
                      rw [List.length_append, List.length_append]
                      simp only [List.length_cons, List.length_nil]
                      omega
                    · rw [e1]; show s1.rows ++ mr = _; rw [f1, List.append_assoc]
                    · rw [e2]; show s1.places ++ mp = _; rw [f2, List.append_assoc]
                  clear hP6 hM6 h3 hgood HP5 HE
                  go_wp2_with fail
                  go_roundg q
                  case measure => omega
                  case rel => exact ⟨_, _, _, _, _, _, rfl, rfl, HE6.out⟩
            · have hd : (((ruleOf (sg : Nat) : Nat) : Int) != (rule : Int)) = true := by simp; omega
              have HRes : Hid (r = .ok () (laid s.rows.length acc s1)) := by
                have h1 := HRun2.out
                rw [if_neg hrl] at h1
                cases h1
                have := HRes0.out
                cases this
                rfl
              clear hrl HRun2 HMore HRes0
              go_wp2_with fail
              generalize hlr : (.slice lo acc.length lc : Value) = lr at *
              refine (revRows _ HE.out.loc.r (by have := HE.out; have := HE.out.par.nx; have := HE.out.cnt; have := ok.len; rw [List.length_map]; omega)).mono ?_
              rintro e wa ⟨rfl, ha1, ha2⟩
              have HPa : Hid (Par wa E rv1 pv1 s1 ∧ Mv E w0 rv0 pv0 wa rv1 pv1 ∧ Loc w0.heap.size wa rv1 pv1 lr lp (acc.map fun p => row2 p.1).reverse (acc.map fun p => p.2)) :=
                ⟨HE.out.par.grown ok ha2 (HE.out.loc.vr HE.out.base), HE.out.mv.grown ha2 (fun k hk => (World.ownsRow.lt HE.out.loc.r k hk).1), HE.out.loc.turnR ha1 ha2⟩
              clear ha1 ha2
              go_wp2_with fail
              refine (revInts _ HPa.out.2.2.p (by have := HE.out.par.nx; have := HE.out.cnt; have := ok.len; rw [List.length_map]; omega)).mono ?_
              rintro e wb ⟨rfl, hb1, hb2⟩
              have HPb : Hid (Par wb E rv1 pv1 s1 ∧ Mv E w0 rv0 pv0 wb rv1 pv1 ∧ Loc w0.heap.size wb rv1 pv1 lr lp (acc.map fun p => row2 p.1).reverse (acc.map fun p => p.2).reverse) :=
                ⟨HPa.out.1.grown ok hb2 (HPa.out.2.2.vp HE.out.base), HPa.out.2.1.grown hb2 (fun k hk => (World.ownsRow.lt HPa.out.2.2.p k hk).1), HPa.out.2.2.turnP hb1 hb2⟩
              clear hb1 hb2 HPa
              have c6 := HPb.out.1.cells.2.2.2.2.2.2.1
              obtain ⟨mr, mp, hr1, hr2, hr3⟩ := HE.out.pre
              have hfl : s.rows.length < s1.rows.length := by rw [hr1, List.length_append]; omega
              have hfp : s.rows.length < s1.places.length := by rw [HE.out.same]; exact hfl
              have hcnt : s1.rows.length + acc.length ≤ s1.next ∧ s1.next < 65537 := ⟨HE.out.cnt, by have := HE.out.par.nx; have := ok.len; omega⟩
              have hsame := HE.out.same
              have HN : Hid (s.rows.length < s1.rows.length ∧ s.rows.length < s1.places.length ∧ s1.rows.length + acc.length ≤ s1.next ∧ s1.next < 65537 ∧ s1.places.length = s1.rows.length) := ⟨hfl, hfp, hcnt.1, hcnt.2, hsame⟩
              clear mr mp hr1 hr2 hr3 hfl hfp hcnt hsame
              go_wp2_with fail
              refine (insRows s1.rows (acc.map fun p => row2 p.1).reverse s.rows.length HN.out.1 HPb.out.1.rows (own_base HPb.out.2.2.r HE.out.base) (fun g hg => (HPb.out.2.2.a1 g hg).1) HPb.out.1.fix.size (by have := HN.out; rw [List.length_reverse, List.length_map]; omega)).mono ?_
              rintro e wc ⟨vc, rfl, hc1, hc2⟩
              have hlenR : (s1.rows.take s.rows.length ++ (acc.map fun p => row2 p.1).reverse ++ s1.rows.drop s.rows.length).length ≤ s1.next + 1 := by
                have := HN.out
                rw [List.length_append, List.length_append, List.length_take, List.length_drop, List.length_reverse, List.length_map]
                omega
              have hpr := HPb.out.1.putRows ok hc2 hc1 hlenR
              have hcell : wc.cell? ⟨E.g, 6, none⟩ = some rv1 := by simp [World.cell?, HPb.out.1.gblk ok (Or.inl rfl) hc2, Env.cells]
              have hfro : wc.frozen? ⟨E.g, 6, none⟩ = false := by simp [World.frozen?, HPb.out.1.gblk ok (Or.inl rfl) hc2]
              have HL1 : Hid (Loc w0.heap.size (wc.setCell ⟨E.g, 6, none⟩ vc) vc pv1 lr lp (acc.map fun p => row2 p.1).reverse (acc.map fun p => p.2).reverse) := HPb.out.2.2.mv hpr.2 (Nat.lt_of_lt_of_le ok.gl HE.out.base)
              obtain ⟨vo, vcc, rfl⟩ := own_form hc1
              generalize hX : (s1.rows.take s.rows.length ++ (acc.map fun p => row2 p.1).reverse ++ s1.rows.drop s.rows.length) = X at *
              have HPc : Hid (Par (wc.setCell ⟨E.g, 6, none⟩ (.slice vo X.length vcc)) E (.slice vo X.length vcc) pv1 { s1 with rows := X } ∧ Mv E w0 rv0 pv0 (wc.setCell ⟨E.g, 6, none⟩ (.slice vo X.length vcc)) (.slice vo X.length vcc) pv1) := ⟨hpr.1, HPb.out.2.1.trans hpr.2⟩
              have HX : Hid (s1.rows.take s.rows.length ++ (acc.map fun p => row2 p.1).reverse ++ s1.rows.drop s.rows.length = X) := hX
              clear hX hc1 hc2 hpr hlenR c6 HPb
              have c7 := HPc.out.1.cells.2.2.2.2.2.2.2
              go_wp2_with fail
              generalize wc.setCell ⟨E.g, 6, none⟩ (.slice vo X.length vcc) = wd at *
              clear hcell hfro c7
              refine (insInts s1.places (acc.map fun p => p.2).reverse s.rows.length HN.out.2.1 HPc.out.1.places (own_base HL1.out.p HE.out.base) (fun g hg => (HL1.out.a2 g hg).2) HPc.out.1.fix.size (by have := HN.out; rw [List.length_reverse, List.length_map]; omega)).mono ?_
              rintro e we ⟨ve, rfl, he1, he2⟩
              have hlenP : (s1.places.take s.rows.length ++ (acc.map fun p => p.2).reverse ++ s1.places.drop s.rows.length).length ≤ s1.next + 1 := by
                have := HN.out
                rw [List.length_append, List.length_append, List.length_take, List.length_drop, List.length_reverse, List.length_map]
                omega
              have hpr := HPc.out.1.putPlaces ok he2 he1 hlenP
              have hcell : we.cell? ⟨E.g, 7, none⟩ = some pv1 := by simp [World.cell?, HPc.out.1.gblk ok (Or.inr rfl) he2, Env.cells]
              have hfro : we.frozen? ⟨E.g, 7, none⟩ = false := by simp [World.frozen?, HPc.out.1.gblk ok (Or.inr rfl) he2]
              obtain ⟨uo, ucc, rfl⟩ := own_form he1
              generalize hY : (s1.places.take s.rows.length ++ (acc.map fun p => p.2).reverse ++ s1.places.drop s.rows.length) = Y at *
              have HPd : Hid (Par (we.setCell ⟨E.g, 7, none⟩ (.slice uo Y.length ucc)) E (.slice vo X.length vcc) (.slice uo Y.length ucc) (laid s.rows.length acc s1) ∧ Mv E w rv pv (we.setCell ⟨E.g, 7, none⟩ (.slice uo Y.length ucc)) (.slice vo X.length vcc) (.slice uo Y.length ucc)) := by
                refine ⟨?_, HM0.out.trans (HPc.out.2.trans hpr.2)⟩
                have e1 : laid s.rows.length acc s1 = { s1 with rows := X, places := Y } := by unfold laid; rw [HX.out, hY]
                rw [e1]
                exact hpr.1
              clear hY he1 he2 hpr hlenP
              go_wp2_with fail
              go_end0
              rw [HRes.out]
              exact ⟨rfl, _, _, HPd.out⟩
        · rw [if_neg hlt] at hrun
          have hl2 : ¬ ((acc.length : Int) < (most : Int)) := by omega
          have HRes : Hid (r = .ok () (laid s.rows.length acc s1)) := by
            cases hrun
            have := HRes0.out
            cases this
            rfl
          clear hrun hlt HRes0
          go_wp2_with fail
          generalize hlr : (.slice lo acc.length lc : Value) = lr at *
          refine (revRows _ HE.out.loc.r (by have := HE.out; have := HE.out.par.nx; have := HE.out.cnt; have := ok.len; rw [List.length_map]; omega)).mono ?_
          rintro e wa ⟨rfl, ha1, ha2⟩
          have HPa : Hid (Par wa E rv1 pv1 s1 ∧ Mv E w0 rv0 pv0 wa rv1 pv1 ∧ Loc w0.heap.size wa rv1 pv1 lr lp (acc.map fun p => row2 p.1).reverse (acc.map fun p => p.2)) :=
            ⟨HE.out.par.grown ok ha2 (HE.out.loc.vr HE.out.base), HE.out.mv.grown ha2 (fun k hk => (World.ownsRow.lt HE.out.loc.r k hk).1), HE.out.loc.turnR ha1 ha2⟩
          clear ha1 ha2
          go_wp2_with fail
          refine (revInts _ HPa.out.2.2.p (by have := HE.out.par.nx; have := HE.out.cnt; have := ok.len; rw [List.length_map]; omega)).mono ?_
          rintro e wb ⟨rfl, hb1, hb2⟩
          have HPb : Hid (Par wb E rv1 pv1 s1 ∧ Mv E w0 rv0 pv0 wb rv1 pv1 ∧ Loc w0.heap.size wb rv1 pv1 lr lp (acc.map fun p => row2 p.1).reverse (acc.map fun p => p.2).reverse) :=
            ⟨HPa.out.1.grown ok hb2 (HPa.out.2.2.vp HE.out.base), HPa.out.2.1.grown hb2 (fun k hk => (World.ownsRow.lt HPa.out.2.2.p k hk).1), HPa.out.2.2.turnP hb1 hb2⟩
          clear hb1 hb2 HPa
          have c6 := HPb.out.1.cells.2.2.2.2.2.2.1
          obtain ⟨mr, mp, hr1, hr2, hr3⟩ := HE.out.pre
          have hfl : s.rows.length < s1.rows.length := by rw [hr1, List.length_append]; omega
          have hfp : s.rows.length < s1.places.length := by rw [HE.out.same]; exact hfl
          have hcnt : s1.rows.length + acc.length ≤ s1.next ∧ s1.next < 65537 := ⟨HE.out.cnt, by have := HE.out.par.nx; have := ok.len; omega⟩
          have hsame := HE.out.same
          have HN : Hid (s.rows.length < s1.rows.length ∧ s.rows.length < s1.places.length ∧ s1.rows.length + acc.length ≤ s1.next ∧ s1.next < 65537 ∧ s1.places.length = s1.rows.length) := ⟨hfl, hfp, hcnt.1, hcnt.2, hsame⟩
          clear mr mp hr1 hr2 hr3 hfl hfp hcnt hsame
          go_wp2_with fail
          refine (insRows s1.rows (acc.map fun p => row2 p.1).reverse s.rows.length HN.out.1 HPb.out.1.rows (own_base HPb.out.2.2.r HE.out.base) (fun g hg => (HPb.out.2.2.a1 g hg).1) HPb.out.1.fix.size (by have := HN.out; rw [List.length_reverse, List.length_map]; omega)).mono ?_
          rintro e wc ⟨vc, rfl, hc1, hc2⟩
          have hlenR : (s1.rows.take s.rows.length ++ (acc.map fun p => row2 p.1).reverse ++ s1.rows.drop s.rows.length).length ≤ s1.next + 1 := by
            have := HN.out
            rw [List.length_append, List.length_append, List.length_take, List.length_drop, List.length_reverse, List.length_map]
            omega
          have hpr := HPb.out.1.putRows ok hc2 hc1 hlenR
          have hcell : wc.cell? ⟨E.g, 6, none⟩ = some rv1 := by simp [World.cell?, HPb.out.1.gblk ok (Or.inl rfl) hc2, Env.cells]
          have hfro : wc.frozen? ⟨E.g, 6, none⟩ = false := by simp [World.frozen?, HPb.out.1.gblk ok (Or.inl rfl) hc2]
          have HL1 : Hid (Loc w0.heap.size (wc.setCell ⟨E.g, 6, none⟩ vc) vc pv1 lr lp (acc.map fun p => row2 p.1).reverse (acc.map fun p => p.2).reverse) := HPb.out.2.2.mv hpr.2 (Nat.lt_of_lt_of_le ok.gl HE.out.base)
          obtain ⟨vo, vcc, rfl⟩ := own_form hc1
          generalize hX : (s1.rows.take s.rows.length ++ (acc.map fun p => row2 p.1).reverse ++ s1.rows.drop s.rows.length) = X at *
          have HPc : Hid (Par (wc.setCell ⟨E.g, 6, none⟩ (.slice vo X.length vcc)) E (.slice vo X.length vcc) pv1 { s1 with rows := X } ∧ Mv E w0 rv0 pv0 (wc.setCell ⟨E.g, 6, none⟩ (.slice vo X.length vcc)) (.slice vo X.length vcc) pv1) := ⟨hpr.1, HPb.out.2.1.trans hpr.2⟩
          have HX : Hid (s1.rows.take s.rows.length ++ (acc.map fun p => row2 p.1).reverse ++ s1.rows.drop s.rows.length = X) := hX
          clear hX hc1 hc2 hpr hlenR c6 HPb
          have c7 := HPc.out.1.cells.2.2.2.2.2.2.2
          go_wp2_with fail
          generalize wc.setCell ⟨E.g, 6, none⟩ (.slice vo X.length vcc) = wd at *
          clear hcell hfro c7
          refine (insInts s1.places (acc.map fun p => p.2).reverse s.rows.length HN.out.2.1 HPc.out.1.places (own_base HL1.out.p HE.out.base) (fun g hg => (HL1.out.a2 g hg).2) HPc.out.1.fix.size (by have := HN.out; rw [List.length_reverse, List.length_map]; omega)).mono ?_
          rintro e we ⟨ve, rfl, he1, he2⟩
          have hlenP : (s1.places.take s.rows.length ++ (acc.map fun p => p.2).reverse ++ s1.places.drop s.rows.length).length ≤ s1.next + 1 := by
            have := HN.out
            rw [List.length_append, List.length_append, List.length_take, List.length_drop, List.length_reverse, List.length_map]
            omega
          have hpr := HPc.out.1.putPlaces ok he2 he1 hlenP
          have hcell : we.cell? ⟨E.g, 7, none⟩ = some pv1 := by simp [World.cell?, HPc.out.1.gblk ok (Or.inr rfl) he2, Env.cells]
          have hfro : we.frozen? ⟨E.g, 7, none⟩ = false := by simp [World.frozen?, HPc.out.1.gblk ok (Or.inr rfl) he2]
          obtain ⟨uo, ucc, rfl⟩ := own_form he1
          generalize hY : (s1.places.take s.rows.length ++ (acc.map fun p => p.2).reverse ++ s1.places.drop s.rows.length) = Y at *
          have HPd : Hid (Par (we.setCell ⟨E.g, 7, none⟩ (.slice uo Y.length ucc)) E (.slice vo X.length vcc) (.slice uo Y.length ucc) (laid s.rows.length acc s1) ∧ Mv E w rv pv (we.setCell ⟨E.g, 7, none⟩ (.slice uo Y.length ucc)) (.slice vo X.length vcc) (.slice uo Y.length ucc)) := by
            refine ⟨?_, HM0.out.trans (HPc.out.2.trans hpr.2)⟩
            have e1 : laid s.rows.length acc s1 = { s1 with rows := X, places := Y } := by unfold laid; rw [HX.out, hY]
            rw [e1]
            exact hpr.1
          clear hY he1 he2 hpr hlenP
          go_wp2_with fail
          go_end0
          rw [HRes.out]
          exact ⟨rfl, _, _, HPd.out⟩
end
end Go.Proofs.YtgiilaaoeefpmaaGreat.Gr
