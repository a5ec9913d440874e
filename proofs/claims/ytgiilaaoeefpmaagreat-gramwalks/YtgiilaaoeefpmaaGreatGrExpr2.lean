import Derived.Test.YtgiilaaoeefpmaaGreatGrExpr
namespace Go.Proofs.YtgiilaaoeefpmaaGreat.Gr
open Go.RowKit Go.Proofs.YtgiilaaoeefpmaaGreat.Sp Go.Proofs.YtgiilaaoeefpmaaGreat.Lx Go.Maps

theorem ent_unary : Enters 89 := fun args w => enters_of Tryz.func89 (by kernel_rfl) rfl args w
set_option maxHeartbeats 1600000 in
set_option maxRecDepth 100000 in
theorem unary_does {E : Env} (ok : E.Ok) {b : PS → O Unit} (hb : Does E 127 #[.pointer (some ⟨E.g, 0, none⟩)] b) (hl : Lays b) (k : Nat) : Does E 89 #[.pointer (some ⟨E.g, 0, none⟩), .int .i64 k] (unary E b k) := by
  intro w rv pv s r h hg hr
  unfold unary at hr
  split at hr
  · rename_i hc
    rw [lay_eq k hc.1] at hr
    have HL := lay_ok E ok w rv pv s h k hc.1 hg.2 (by have := hg.1; have := hg.2; omega)
    rw [lay_eq k hc.1] at HL
    have hev : ({ s with rows := s.rows ++ [row0 k], places := s.places ++ [(E.tok s).at_] } : PS).places.length = ({ s with rows := s.rows ++ [row0 k], places := s.places ++ [(E.tok s).at_] } : PS).rows.length := by simp [hg.1]
    have hcn : ({ s with rows := s.rows ++ [row0 k], places := s.places ++ [(E.tok s).at_] } : PS).rows.length ≤ ({ s with rows := s.rows ++ [row0 k], places := s.places ++ [(E.tok s).at_] } : PS).next + 1 := by have := hg.2; simp; omega
    have hnn : ({ s with rows := s.rows ++ [row0 k], places := s.places ++ [(E.tok s).at_] } : PS).next + 1 < E.ts.length := hc.2
    generalize ({ s with rows := s.rows ++ [row0 k], places := s.places ++ [(E.tok s).at_] } : PS) = s1 at *
    simp only [O.bind] at hr
    have HL2 : Hid (Calls Tryz.prog 93 #[.pointer (some ⟨E.g, 0, none⟩), .int .i64 k] w fun e w' => Post E w rv pv (fun n => .int .i64 (n : Nat)) (.ok s.rows.length s1) e w') := HL
    have HS : Hid (s1.places.length = s1.rows.length ∧ s1.rows.length ≤ s1.next + 1) := ⟨hev, hcn⟩
    have HB : Hid (Does E 127 #[.pointer (some ⟨E.g, 0, none⟩)] b ∧ Lays b) := ⟨hb, hl⟩
    clear HL h hg hc hev hcn hb hl
    go_enter Tryz.func89, Tryz.ntmps89
    go_wp2_with fail
    refine HL2.out.mono ?_
    rintro e w1 ⟨rfl, rv1, pv1, hP1, hM1⟩
    have HP1 : Hid (Par w1 E rv1 pv1 s1 ∧ Mv E w rv pv w1 rv1 pv1) := ⟨hP1, hM1⟩
    clear hP1 hM1
    go_wp2_with fail
    refine (rise_any E ok w1 rv1 pv1 s1 HP1.out.1).mono ?_
    intro e w2 hp
    cases h2 : rise E s1 with
    | die er i =>
      rw [h2] at hp hr
      cases hr
      obtain ⟨rfl, hF⟩ := hp
      have HF : Hid (E.Fix w2) := hF
      clear hF
      go_wp2
      exact ⟨rfl, rfl, HF.out⟩
    | ok u s2 =>
      rw [h2] at hp hr
      obtain ⟨rfl, hP2, hM2⟩ := hp
      obtain ⟨e1, e2, e3, e4⟩ := rise_next h2
      have hn2 : s2.next + 1 < E.ts.length := by rw [e1]; exact hnn
      have HP2 : Hid (Par w2 E rv1 pv1 s2 ∧ Mv E w rv pv w2 rv1 pv1) := ⟨hP2, HP1.out.2.trans (Mv.of1 _ _ hM2)⟩
      have HG2 : Hid (Good s2.skip ∧ 1 ≤ s2.lev) := ⟨⟨by show s2.places.length = s2.rows.length; rw [e2, e3]; exact HS.out.1, by show s2.rows.length ≤ s2.next + 1; rw [e1, e2]; exact HS.out.2⟩, by omega⟩
      clear hP2 hM2 e1 e2 e3 e4 h2 hnn HP1 HS
      simp only at hr
      cases h3 : b s2.skip with
      | none => rw [h3] at hr; cases hr
      | some r3 =>
        rw [h3] at hr
        go_wp2_with fail
        refine (skip_any E ok w2 rv1 pv1 s2 HP2.out.1 hn2).mono ?_
        rintro e w3 ⟨rfl, rfl⟩
        have HP3 : Hid (Par (w2.setCell ⟨E.g, 4, none⟩ (.int .i64 ((s2.next : Int) + 1))) E rv1 pv1 s2.skip ∧ Mv E w rv pv (w2.setCell ⟨E.g, 4, none⟩ (.int .i64 ((s2.next : Int) + 1))) rv1 pv1) := ⟨skipped E ok w2 rv1 pv1 s2 HP2.out.1 hn2, HP2.out.2.trans (Mv.of1 _ _ (Mv1.set E w2 _ _))⟩
        clear HP2
        go_wp2_with fail
        generalize w2.setCell ⟨E.g, 4, none⟩ (.int .i64 ((s2.next : Int) + 1)) = w3 at *
        refine (HB.out.1 w3 rv1 pv1 s2.skip r3 HP3.out.1 HG2.out.1 h3).mono ?_
        intro e w4 hp
        cases r3 with
        | die er i =>
          cases hr
          obtain ⟨rfl, hF⟩ := hp
          have HF : Hid (E.Fix w4) := hF
          clear hF h3
          go_wp2
          exact ⟨rfl, rfl, HF.out⟩
        | ok a s4 =>
          cases hr
          obtain ⟨rfl, rv4, pv4, hP4, hM4⟩ := hp
          obtain ⟨⟨g1, g2⟩, g3⟩ := HB.out.2 _ _ HG2.out.1.1 h3
          have hlv : s4.lev = s2.lev := g1.lev
          obtain ⟨_, _, _, _, _, c5, _⟩ := hP4.cells
          have f5 := hP4.fro 5
          have hl1 := hP4.lev
          have hl2 : (s4.lev : Int) ≤ 64 := by omega
          have hl0 : (1 : Int) ≤ (s4.lev : Int) := by have := HG2.out.2; omega
          have HP4 : Hid (Par w4 E rv4 pv4 s4 ∧ Mv E w rv pv w4 rv4 pv4) := ⟨hP4, HP3.out.2.trans hM4⟩
          clear hP4 hM4 h3 g1 g2 g3 hlv HP3
          go_wp2
          go_end0
          refine ⟨rfl, rv4, pv4, HP4.out.1.put ok 5 _ ?_ rfl rfl HP4.out.1.nx (by show s4.lev - 1 ≤ 64; omega) (Nat.le_refl _), HP4.out.2.trans (Mv.of1 _ _ (Mv1.set E w4 _ _))⟩
          have : ((s4.lev - 1 : Nat) : Int) = (s4.lev : Int) - 1 := by omega
          simp [Env.cells, this]
  · cases hr
theorem none_does {E : Env} (f : Nat) (args : Array Value) : Does E f args (fun _ => none) := fun _ _ _ _ _ _ _ h => by cases h
theorem ent_wordOnly : Enters 87 := fun args w => enters_of Tryz.func87 (by kernel_rfl) rfl args w
theorem ent_ofQueue : Enters 90 := fun args w => enters_of Tryz.func90 (by kernel_rfl) rfl args w
theorem ent_ofTwo : Enters 91 := fun args w => enters_of Tryz.func91 (by kernel_rfl) rfl args w
theorem ent_brackets : Enters 92 := fun args w => enters_of Tryz.func92 (by kernel_rfl) rfl args w
theorem bareEnts_ok {E : Env} (ok : E.Ok) {b : PS → O Unit} (hb : Does E 127 #[.pointer (some ⟨E.g, 0, none⟩)] b) (hl : Lays b) : ∀ e ∈ bareEnts E b, EntOk E e := by
  intro e he
  simp only [bareEnts, List.mem_cons, List.not_mem_nil, or_false] at he
  rcases he with rfl | rfl | rfl | rfl | rfl | rfl | rfl | rfl | rfl | rfl | rfl | rfl | rfl | rfl
  · exact ⟨ent_unary, unary_does ok hb hl 41⟩
  · exact ⟨ent_unary, unary_does ok hb hl 42⟩
  · exact ⟨ent_wordOnly, none_does _ _⟩
  · exact ⟨ent_wordOnly, none_does _ _⟩
  · exact ⟨ent_wordOnly, none_does _ _⟩
  · exact ⟨ent_wordOnly, none_does _ _⟩
  · exact ⟨ent_ofQueue, none_does _ _⟩
  · exact ⟨ent_ofQueue, none_does _ _⟩
  · exact ⟨ent_ofQueue, none_does _ _⟩
  · exact ⟨ent_ofQueue, none_does _ _⟩
  · exact ⟨ent_ofQueue, none_does _ _⟩
  · exact ⟨ent_ofTwo, none_does _ _⟩
  · exact ⟨ent_ofTwo, none_does _ _⟩
  · exact ⟨ent_brackets, none_does _ _⟩

set_option maxHeartbeats 1600000 in
set_option maxRecDepth 100000 in
theorem bare_does {E : Env} (ok : E.Ok) (T : E.Tabs) (n : Nat) : Does E 127 #[.pointer (some ⟨E.g, 0, none⟩)] (bare E n) := by
  induction n with
  | zero => intro w rv pv s r h hg hr; cases hr
  | succ n ih =>
    intro w rv pv s r h hg hr
    have hone : ∀ W, Par W E rv pv s → ∀ r, one E (bareEnts E (bare E n)) s = some r → Calls Tryz.prog 121 #[.pointer (some ⟨E.g, 0, none⟩), .map (some E.m4)] W fun e w' => Post E W rv pv (fun _ => .tuple #[]) r e w' := fun W hW r hr =>
      one_any E ok W rv pv s hW (bareEnts E (bare E n)) (bareEnts_ok ok ih (bare_lays E n)) E.m4 14 T.bares hg r hr
    have HOne : Hid (∀ W, Par W E rv pv s → ∀ r, one E (bareEnts E (bare E n)) s = some r → Calls Tryz.prog 121 #[.pointer (some ⟨E.g, 0, none⟩), .map (some E.m4)] W fun e w' => Post E W rv pv (fun _ => .tuple #[]) r e w') := hone
    have HP0 : Hid (Par w E rv pv s ∧ Good s) := ⟨h, hg⟩
    have hf0 := fld0
    unfold bare at hr
    clear h hg hone ih
    cases hb : E.bad s with
    | true =>
      rw [if_pos hb] at hr
      cases hr
      have HK : Hid ((E.tok s).kind = 0 ∧ E.ce ≠ 0) := bad_iff hb
      clear hb
      go_enter Tryz.func127, Tryz.ntmps127
      go_wp2_with fail
      refine (token_die E ok w rv pv s HP0.out.1 _ (Env.tok_at HP0.out.1.nx) HK.out.1 HK.out.2).mono ?_
      rintro e w1 ⟨rfl, hB⟩
      have HB : Hid (Below w.heap.size w w1) := hB
      clear hB
      go_wp2
      exact ⟨rfl, rfl, HP0.out.1.fix.below HB.out⟩
    | false =>
      rw [if_neg (by simp [hb])] at hr
      have HK : Hid ((E.tok s).kind ≠ 0 ∨ E.ce = 0) := bad_not hb
      clear hb
      have HTok := token_ok E ok w rv pv s HP0.out.1 _ (Env.tok_at HP0.out.1.nx) HK.out
      have HT : Hid (Calls Tryz.prog 99 #[.pointer (some ⟨E.g, 0, none⟩)] w fun e w' => e = .returned (.agg #[.int .i64 (E.tok s).kind, .int .i64 (E.tok s).at_, .int .i64 (E.tok s).stop, .int .i64 (E.tok s).n]) ∧ Below w.heap.size w w') := HTok
      clear HTok
      by_cases k3 : (E.tok s).kind = 3
      · rw [if_pos k3] at hr
        have HN : Hid (∀ W, Par W E rv pv s → Calls Tryz.prog 138 #[.pointer (some ⟨E.g, 0, none⟩)] W fun e w' => Post E W rv pv (fun _ => .tuple #[]) (number E s) e w') := fun W hW => number_any E ok W rv pv s hW k3 HP0.out.2.2 (by have h1 := HP0.out.2.1; have h2 := HP0.out.2.2; omega)
        have b3 : (((E.tok s).kind : Int) == 3) = true := by simp; omega
        have HR : Hid (number E s = r) := Option.some.inj hr
        clear hr k3
        go_enter Tryz.func127, Tryz.ntmps127
        go_wp2_with fail
        refine HT.out.mono ?_
        rintro e w1 ⟨rfl, hB⟩
        have HB : Hid (Below w.heap.size w w1) := hB
        clear hB
        go_wp2_with fail
        refine (HN.out w1 (HP0.out.1.below HB.out)).mono ?_
        intro e w2 hp
        rw [HR.out] at hp
        cases r with
        | die er i =>
          obtain ⟨rfl, hF⟩ := hp
          have HF : Hid (E.Fix w2) := hF
          clear hF
          go_wp2
          exact ⟨rfl, rfl, HF.out⟩
        | ok a s1 =>
          obtain ⟨rfl, rv1, pv1, hP, hM⟩ := hp
          have HP : Hid (Par w2 E rv1 pv1 s1 ∧ Mv E w rv pv w2 rv1 pv1) := ⟨hP, (Mv.of1 _ _ (Mv1.of_below HB.out)).trans hM⟩
          clear hP hM
          go_wp2
          go_end0
          exact ⟨rfl, rv1, pv1, HP.out⟩
      · rw [if_neg k3] at hr
        by_cases k2 : (E.tok s).kind = 2
        · rw [if_pos k2] at hr
          cases hr
        · rw [if_neg k2] at hr
          have b3 : (((E.tok s).kind : Int) == 3) = false := by simp; omega
          have b2 : (((E.tok s).kind : Int) == 2) = false := by simp; omega
          have HR : Hid (one E (bareEnts E (bare E n)) s = some r) := hr
          clear hr k3 k2
          go_enter Tryz.func127, Tryz.ntmps127
          go_wp2_with fail
          refine HT.out.mono ?_
          rintro e w1 ⟨rfl, hB⟩
          have HB : Hid (Below w.heap.size w w1) := hB
          have c12 : w1.cell? ⟨E.g, 12, none⟩ = some (.map (some E.m4)) := (HP0.out.1.below hB).cell 12
          clear hB
          go_wp2_with fail
          refine (HOne.out w1 (HP0.out.1.below HB.out) r HR.out).mono ?_
          intro e w2 hp
          cases r with
          | die er i =>
            obtain ⟨rfl, hF⟩ := hp
            have HF : Hid (E.Fix w2) := hF
            clear hF
            go_wp2
            exact ⟨rfl, rfl, HF.out⟩
          | ok a s1 =>
            obtain ⟨rfl, rv1, pv1, hP, hM⟩ := hp
            have HP : Hid (Par w2 E rv1 pv1 s1 ∧ Mv E w rv pv w2 rv1 pv1) := ⟨hP, (Mv.of1 _ _ (Mv1.of_below HB.out)).trans hM⟩
            clear hP hM
            go_wp2
            go_end0
            exact ⟨rfl, rv1, pv1, HP.out⟩
end Go.Proofs.YtgiilaaoeefpmaaGreat.Gr
