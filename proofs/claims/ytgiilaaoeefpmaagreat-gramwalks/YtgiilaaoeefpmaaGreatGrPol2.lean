import Derived.Test.YtgiilaaoeefpmaaGreatGrPol
namespace Go.Proofs.YtgiilaaoeefpmaaGreat.Gr
open Go.RowKit Go.Proofs.YtgiilaaoeefpmaaGreat.Sp Go.Proofs.YtgiilaaoeefpmaaGreat.Lx Go.Maps

def named (nm : ByteArray) (r : Rw) : Rw := { r with name := nm }
def policy (E : Env) (n : Nat) (s : PS) : O Unit :=
  if E.bad s = false then
    O.bind (some (lay E 1 s)) fun i s1 => O.bind (some (must E bPolicy s1)) fun _ s2 =>
    match name E s2 with
    | .die _ _ => none
    | .ok nm s3 => O.bind (some (opens E bOpen (s3.setR i (named nm)))) fun _ s4 => O.bind (all E (declEnts E n) i n s4) fun _ s5 => O.bind (all E eventEnts i n s5) fun _ s6 =>
      O.bind (some (shut E bShut s6)) fun _ s7 => if E.bad s7 then some (.die E.ce E.ca) else if (E.tok s7).kind = 0 then some (.ok () s7) else some (fail E 21 s7)
  else none
theorem name_ok {E : Env} {s s' : PS} {nm : ByteArray} (h : name E s = .ok nm s') : s' = s.skip := by
  unfold name at h
  split at h
  · cases h
  · split at h
    · cases h; rfl
    · obtain ⟨er, i, hd1, hd2⟩ := fail_dies (α := ByteArray) E 21 s
      rw [hd1] at h
      cases h
theorem opens_ok {E : Env} {x : ByteArray} {s s' : PS} {u : Unit} (h : opens E x s = .ok u s') : s'.next = s.next + 1 ∧ s'.rows = s.rows ∧ s'.places = s.places ∧ s'.lev = s.lev + 1 := by
  unfold opens at h
  split at h
  · cases h
  · split at h
    · cases hr : rise E s with
      | die => rw [hr] at h; cases h
      | ok v s1 =>
        rw [hr] at h
        cases h
        obtain ⟨e1, e2, e3, e4⟩ := rise_next hr
        exact ⟨by show s1.next + 1 = _; rw [e1], e2, e3, e4⟩
    · obtain ⟨er, i, hd1, hd2⟩ := fail_dies (α := Unit) E 21 s
      rw [hd1] at h
      cases h

set_option maxHeartbeats 6400000 in
set_option maxRecDepth 100000 in
theorem policy_any (E : Env) (ok : E.Ok) (T : E.Tabs) (n : Nat) (w : World) (rv pv : Value) (s : PS) (h : Par w E rv pv s) (hg : Good s) (r : R Unit) (hr : policy E n s = some r) :
    Calls Tryz.prog 52 #[.pointer (some ⟨E.g, 0, none⟩)] w fun e w' => Post E w rv pv (fun _ => .tuple #[]) r e w' := by
  unfold policy at hr
  split at hr
  · rename_i hb
    have HL := lay_ok E ok w rv pv s h 1 hb hg.2 (by have h1 := hg.1; have h2 := hg.2; omega)
    rw [lay_eq 1 hb] at HL hr
    have hlen : s.rows.length < ({ s with rows := s.rows ++ [row0 1], places := s.places ++ [(E.tok s).at_] } : PS).rows.length := by simp
    have hgs : Good (PS.skip { s with rows := s.rows ++ [row0 1], places := s.places ++ [(E.tok s).at_] }) := ⟨by simp [PS.skip, hg.1], by have := hg.2; simp [PS.skip]; omega⟩
    have hkd : ((({ s with rows := s.rows ++ [row0 1], places := s.places ++ [(E.tok s).at_] } : PS).rows).getD s.rows.length row00).kids = 0 := by
      show ((s.rows ++ [row0 1]).getD s.rows.length row00).kids = 0
      rw [List.getD_eq_getElem?_getD, List.getElem?_append_right (Nat.le_refl _)]
      simp [row0, least]
    generalize ({ s with rows := s.rows ++ [row0 1], places := s.places ++ [(E.tok s).at_] } : PS) = s1 at *
    generalize s.rows.length = i at *
    simp only [O.bind] at hr
    have HL2 : Hid (Calls Tryz.prog 93 #[.pointer (some ⟨E.g, 0, none⟩), .int .i64 (1 : Nat)] w fun e w' => Post E w rv pv (fun n => .int .i64 (n : Nat)) (.ok i s1) e w') := HL
    have HS : Hid (i < s1.rows.length ∧ Good s1.skip ∧ (s1.rows.getD i row00).kids = 0) := ⟨hlen, hgs, hkd⟩
    clear HL h hg hb hlen hgs hkd
    go_enter Tryz.func52, Tryz.ntmps52
    go_wp2_with fail
    refine HL2.out.mono ?_
    rintro e w1 ⟨rfl, rv1, pv1, hP1, hM1⟩
    have HP1 : Hid (Par w1 E rv1 pv1 s1 ∧ Mv E w rv pv w1 rv1 pv1) := ⟨hP1, hM1⟩
    clear hP1 hM1 HL2
    go_wp2_with fail
    refine (must_any E ok w1 rv1 pv1 s1 HP1.out.1 bPolicy (by decide)).mono ?_
    intro e w2 hp
    cases h2 : must E bPolicy s1 with
    | die er j =>
      rw [h2] at hp hr
      cases hr
      obtain ⟨rfl, hF⟩ := hp
      have HF : Hid (E.Fix w2) := hF
      clear hF
      go_wp2
      exact ⟨rfl, rfl, HF.out⟩
    | ok u2 s2 =>
      rw [h2] at hp hr
      obtain rfl := must_ok h2
      obtain ⟨rfl, hP2, hM2⟩ := hp
      have HP2 : Hid (Par w2 E rv1 pv1 s1.skip ∧ Mv E w rv pv w2 rv1 pv1) := ⟨hP2, HP1.out.2.trans (Mv.of1 _ _ hM2)⟩
      clear hP2 hM2 h2 HP1
      simp only at hr
      cases h3 : name E s1.skip with
      | die => rw [h3] at hr; cases hr
      | ok nm s3 =>
        rw [h3] at hr
        obtain rfl := name_ok h3
        have hnm := name_any E ok w2.drew rv1 pv1 s1.skip (HP2.out.1.below (Below.refl _ w2).drew)
        rw [h3] at hnm
        obtain ⟨gr, cap, hrv, b1, b2, b3, b4⟩ := HP2.out.1.row (i := i) (show i < s1.skip.rows.length from HS.out.1)
        have hcellA := b4 w2 (Mv1.refl _ _) ok.gl 1 (by omega)
        simp only [rc, List.getElem?_cons_succ, List.getElem?_cons_zero] at hcellA
        have c6 := HP2.out.1.cells.2.2.2.2.2.2.1
        rw [hrv] at c6
        have HR4 : Hid (∀ W, Mv1 E w2 W → ∀ j, j < 5 → W.cell? ⟨gr, i * 5 + j, none⟩ = (rc (s1.skip.rows.getD i row00))[j]?) := fun W hW => b4 W hW ok.gl
        have HNm : Hid (Calls Tryz.prog 95 #[.pointer (some ⟨E.g, 0, none⟩)] w2.drew fun e w' => e = .returned (.string nm) ∧ Par w' E (.slice (some ⟨gr, 0, none⟩) s1.skip.rows.length cap) pv1 s1.skip.skip ∧ Mv1 E w2 w') :=
          hnm.mono fun e w' hh => by
            obtain ⟨q1, q2, q3⟩ := hh
            rw [hrv] at q2
            exact ⟨q1, q2, (Mv1.of_below (Below.refl _ w2).drew).trans q3⟩
        have HRv : Hid (rv1 = .slice (some ⟨gr, 0, none⟩) s1.skip.rows.length cap) := hrv
        have hlt : (i : Int) < (s1.skip.rows.length : Int) := by have := HS.out.1; show (i : Int) < (s1.rows.length : Int); omega
        clear hnm hrv b1 b2 b3 b4 h3 hcellA
        go_wp2_with fail
        go_region_law (
          go_simp
          go_at_call 95
          refine HNm.out.mono ?_
          rintro e w3 ⟨rfl, hP3, hM3⟩
          have c63 := hP3.cells.2.2.2.2.2.2.1
          have hcellB := HR4.out w3 hM3 1 (by omega)
          simp only [rc, List.getElem?_cons_succ, List.getElem?_cons_zero] at hcellB
          obtain ⟨gr2, cap2, hrv2, b1, b2, b3, b4⟩ := hP3.row (i := i) (show i < s1.skip.skip.rows.length from HS.out.1)
          have hgg : gr2 = gr := by cases hrv2; rfl
          subst hgg
          have hfroB := b3 (i * 5 + 1)
          have hset := Par.setRow (s := s1.skip.skip) ok hP3 (i := i) (show i < s1.skip.skip.rows.length from HS.out.1) (j := 1) (by omega) (.string nm) (named nm) rfl
          have HP4 : Hid (Par (w3.setCell ⟨gr2, i * 5 + 1, none⟩ (.string nm)) E (.slice (some ⟨gr2, 0, none⟩) s1.skip.rows.length cap) pv1 (s1.skip.skip.setR i (named nm)) ∧ Mv E w rv pv (w3.setCell ⟨gr2, i * 5 + 1, none⟩ (.string nm)) (.slice (some ⟨gr2, 0, none⟩) s1.skip.rows.length cap) pv1) :=
            ⟨hset.1, by have h1 := HP2.out.2; rw [HRv.out] at h1; exact (h1.trans (Mv.of1 _ _ hM3)).trans hset.2⟩
          clear hP3 hM3 hset b1 b2 b3 b4 hrv2)
        all_goals (
          have HS4 : Hid (Good (s1.skip.skip.setR i (named nm)) ∧ i < (s1.skip.skip.setR i (named nm)).rows.length ∧ ((s1.skip.skip.setR i (named nm)).rows.getD i row00).kids = 0) := by
            refine ⟨⟨by rw [setR_len]; exact HS.out.2.1.1, by rw [setR_len]; have := HS.out.2.1.2; show s1.rows.length ≤ s1.next + 1 + 1; have h2 : s1.rows.length ≤ s1.next + 1 := this; omega⟩, by rw [setR_len]; exact HS.out.1, ?_⟩
            rw [setR_get s1.skip.skip i (named nm) HS.out.1]
            exact HS.out.2.2
          generalize s1.skip.skip.setR i (named nm) = s4 at *
          clear HS HNm HR4 HRv HP2 hcellB hfroB c6 c63 hlt
          go_wp2_with fail
          generalize w3.setCell ⟨gr2, i * 5 + 1, none⟩ (.string nm) = w4 at *
          generalize (Value.slice (some ⟨gr2, 0, none⟩) s1.skip.rows.length cap) = rv4 at *
          refine (opens_any E ok w4 rv4 pv1 s4 HP4.out.1 bOpen (by decide)).mono ?_
          intro e w5 hp
          cases h5 : opens E bOpen s4 with
          | die er j =>
            rw [h5] at hp hr
            cases hr
            obtain ⟨rfl, hF⟩ := hp
            have HF : Hid (E.Fix w5) := hF
            clear hF
            go_wp2
            exact ⟨rfl, rfl, HF.out⟩
          | ok u5 s5 =>
            rw [h5] at hp hr
            obtain ⟨q1, q2, q3, q4⟩ := opens_ok h5
            obtain ⟨rfl, hP5, hM5⟩ := hp
            have HP5 : Hid (Par w5 E rv4 pv1 s5 ∧ Mv E w rv pv w5 rv4 pv1) := ⟨hP5, HP4.out.2.trans (Mv.of1 _ _ hM5)⟩
            have HS5 : Hid (Good s5 ∧ i < s5.rows.length ∧ (s5.rows.getD i row00).kids ≤ s5.next + 10 ∧ 1 ≤ s5.lev) := by
              have h1 := HS4.out
              refine ⟨⟨by rw [q2, q3]; exact h1.1.1, by rw [q1, q2]; have := h1.1.2; omega⟩, by rw [q2]; exact h1.2.1, by rw [q2, h1.2.2]; omega, by omega⟩
            have c8 : w5.cell? ⟨E.g, 8, none⟩ = some (.map (some E.m0)) := hP5.cell 8
            clear hP5 hM5 h5 q1 q2 q3 q4 HP4 HS4
            simp only at hr
            cases h6 : all E (declEnts E n) i n s5 with
            | none => rw [h6] at hr; cases hr
            | some r6 =>
              rw [h6] at hr
              go_wp2_with fail
              refine (all_any E ok w5 rv4 pv1 s5 HP5.out.1 (declEnts E n) (declEnts_ok ok T n) (declEnts_grow E n) E.m0 5 (fun W hW => by rw [decl_tab]; exact T.decls W hW) HS5.out.1 i HS5.out.2.1 HS5.out.2.2.1 n r6 h6).mono ?_
              intro e w6 hp
              cases r6 with
              | die er j =>
                cases hr
                obtain ⟨rfl, hF⟩ := hp
                have HF : Hid (E.Fix w6) := hF
                clear hF h6
                go_wp2
                exact ⟨rfl, rfl, HF.out⟩
              | ok u6 s6 =>
                obtain ⟨rfl, rv6, pv6, hP6, hM6⟩ := hp
                have HP6 : Hid (Par w6 E rv6 pv6 s6 ∧ Mv E w rv pv w6 rv6 pv6) := ⟨hP6, HP5.out.2.trans hM6⟩
                have HS6 : Hid (Good s6 ∧ i < s6.rows.length ∧ (s6.rows.getD i row00).kids ≤ s6.next + 10 ∧ 1 ≤ s6.lev) := by
                  have h1 := HS5.out
                  have h2 := all_grow (declEnts_grow E n) i n s5 s6 h6 h1.1 h1.2.1 h1.2.2.1
                  exact ⟨h2.1, h2.2.1, h2.2.2.1, by rw [h2.2.2.2]; exact h1.2.2.2⟩
                have c9 : w6.cell? ⟨E.g, 9, none⟩ = some (.map (some E.m1)) := hP6.cell 9
                clear hP6 hM6 h6 HP5 HS5 c8
                simp only at hr
                cases h7 : all E eventEnts i n s6 with
                | none => rw [h7] at hr; cases hr
                | some r7 =>
                  rw [h7] at hr
                  go_wp2_with fail
                  refine (all_any E ok w6 rv6 pv6 s6 HP6.out.1 eventEnts (eventEnts_ok E) eventEnts_grow E.m1 1 (fun W hW => by rw [event_tab]; exact T.events W hW) HS6.out.1 i HS6.out.2.1 HS6.out.2.2.1 n r7 h7).mono ?_
                  intro e w7 hp
                  cases r7 with
                  | die er j =>
                    cases hr
                    obtain ⟨rfl, hF⟩ := hp
                    have HF : Hid (E.Fix w7) := hF
                    clear hF h7
                    go_wp2
                    exact ⟨rfl, rfl, HF.out⟩
                  | ok u7 s7 =>
                    obtain ⟨rfl, rv7, pv7, hP7, hM7⟩ := hp
                    have HP7 : Hid (Par w7 E rv7 pv7 s7 ∧ Mv E w rv pv w7 rv7 pv7) := ⟨hP7, HP6.out.2.trans hM7⟩
                    have HS7 : Hid (1 ≤ s7.lev) := by
                      have h1 := HS6.out
                      have h2 := all_grow eventEnts_grow i n s6 s7 h7 h1.1 h1.2.1 h1.2.2.1
                      show 1 ≤ s7.lev
                      rw [h2.2.2.2]
                      exact h1.2.2.2
                    clear hP7 hM7 h7 HP6 HS6 c9
                    simp only at hr
                    go_wp2_with fail
                    refine (shut_any E ok w7 rv7 pv7 s7 HP7.out.1 bShut (by decide) HS7.out).mono ?_
                    intro e w8 hp
                    cases h8 : shut E bShut s7 with
                    | die er j =>
                      rw [h8] at hp hr
                      cases hr
                      obtain ⟨rfl, hF⟩ := hp
                      have HF : Hid (E.Fix w8) := hF
                      clear hF
                      go_wp2
                      exact ⟨rfl, rfl, HF.out⟩
                    | ok u8 s8 =>
                      rw [h8] at hp hr
                      obtain ⟨rfl, hP8, hM8⟩ := hp
                      have HP8 : Hid (Par w8 E rv7 pv7 s8 ∧ Mv E w rv pv w8 rv7 pv7) := ⟨hP8, HP7.out.2.trans (Mv.of1 _ _ hM8)⟩
                      clear hP8 hM8 h8 HP7 HS7
                      simp only at hr
                      have hf0 := fld0
                      cases hb8 : E.bad s8 with
                      | true =>
                        rw [if_pos hb8] at hr
                        cases hr
                        have HK : Hid ((E.tok s8).kind = 0 ∧ E.ce ≠ 0) := bad_iff hb8
                        clear hb8
                        go_wp2_with fail
                        refine (token_die E ok w8 rv7 pv7 s8 HP8.out.1 _ (Env.tok_at HP8.out.1.nx) HK.out.1 HK.out.2).mono ?_
                        rintro e w9 ⟨rfl, hB⟩
                        have HB : Hid (Below w8.heap.size w8 w9) := hB
                        clear hB
                        go_wp2
                        exact ⟨rfl, rfl, HP8.out.1.fix.below HB.out⟩
                      | false =>
                        rw [if_neg (by simp [hb8])] at hr
                        have HK : Hid ((E.tok s8).kind ≠ 0 ∨ E.ce = 0) := bad_not hb8
                        clear hb8
                        by_cases k0 : (E.tok s8).kind = 0
                        · rw [if_pos k0] at hr
                          cases hr
                          have hk0 : (((E.tok s8).kind : Int) != 0) = false := by simp; omega
                          clear k0
                          go_wp2_with fail
                          refine (token_ok E ok w8 rv7 pv7 s8 HP8.out.1 _ (Env.tok_at HP8.out.1.nx) HK.out).mono ?_
                          rintro e w9 ⟨rfl, hB⟩
                          have HB : Hid (Below w8.heap.size w8 w9) := hB
                          clear hB
                          go_wp2_with fail
                          go_end0
                          exact ⟨rfl, rv7, pv7, HP8.out.1.below HB.out, HP8.out.2.trans (Mv.of1 _ _ (Mv1.of_below HB.out))⟩
                        · rw [if_neg k0] at hr
                          have hk0 : (((E.tok s8).kind : Int) != 0) = true := by simp; omega
                          obtain ⟨er, j, hd1, hd2⟩ := fail_dies (α := Unit) E 21 s8
                          rw [hd1] at hr
                          cases hr
                          clear k0
                          go_wp2_with fail
                          refine (token_ok E ok w8 rv7 pv7 s8 HP8.out.1 _ (Env.tok_at HP8.out.1.nx) HK.out).mono ?_
                          rintro e w9 ⟨rfl, hB⟩
                          have HB : Hid (Below w8.heap.size w8 w9) := hB
                          clear hB
                          go_wp2_with fail
                          refine (fail_as E ok w9 rv7 pv7 s8 (HP8.out.1.below HB.out) 21 er j hd2).mono ?_
                          rintro e wA ⟨rfl, hF⟩
                          have HF : Hid (E.Fix wA) := hF
                          clear hF
                          go_wp2
                          exact ⟨rfl, rfl, HF.out⟩)
  · cases hr
end Go.Proofs.YtgiilaaoeefpmaaGreat.Gr
