import Derived.Test.YtgiilaaoeefpmaaGreatGrExpr3
namespace Go.Proofs.YtgiilaaoeefpmaaGreat.Gr
open Go.RowKit Go.Proofs.YtgiilaaoeefpmaaGreat.Sp Go.Proofs.YtgiilaaoeefpmaaGreat.Lx Go.Maps

theorem setR_len (s : PS) (i : Nat) (f : Rw → Rw) : (s.setR i f).rows.length = s.rows.length := by simp [PS.setR]
theorem setR_get (s : PS) (i : Nat) (f : Rw → Rw) (h : i < s.rows.length) : (s.setR i f).rows.getD i row00 = f (s.rows.getD i row00) := by
  simp only [PS.setR]
  rw [List.getD_eq_getElem?_getD, List.getElem?_set_self h]
  rfl
theorem all_grow {E : Env} {l : List Ent} (hl : GrowsL l) (i : Nat) : ∀ (n : Nat) (s s' : PS), all E l i n s = some (.ok () s') → Good s → i < s.rows.length → (s.rows.getD i row00).kids ≤ s.next + 10 →
    Good s' ∧ i < s'.rows.length ∧ (s'.rows.getD i row00).kids ≤ s'.next + 10 ∧ s'.lev = s.lev := by
  intro n
  induction n with
  | zero => intro s s' h; cases h
  | succ n ih =>
    intro s s' h hg hi hk
    unfold all at h
    cases hr : reads E l s with
    | none => rw [hr] at h; cases h
    | some r =>
      rw [hr] at h
      cases r with
      | die => cases h
      | ok b s1 =>
        cases b with
        | false =>
          cases h
          rw [reads_false hr]
          exact ⟨hg, hi, hk, rfl⟩
        | true =>
          obtain ⟨g1, g2⟩ := reads_true hl hg.1 hr
          obtain ⟨mr, mp, e1, e2, e3, e4⟩ := g1.more
          have hi1 : i < s1.rows.length := by rw [e1, List.length_append]; omega
          have hkid : s1.rows.getD i row00 = s.rows.getD i row00 := by rw [e1, List.getD_eq_getElem?_getD, List.getD_eq_getElem?_getD, List.getElem?_append_left hi]
          have hG := g1.good hg
          have := ih (s1.setR i kid1) s' h ⟨by rw [setR_len]; exact hG.1, by rw [setR_len]; exact hG.2⟩ (by rw [setR_len]; exact hi1) (by rw [setR_get _ _ _ hi1, hkid]; show (s.rows.getD i row00).kids + 1 ≤ s1.next + 10; omega)
          exact ⟨this.1, this.2.1, this.2.2.1, this.2.2.2.trans g1.lev⟩

def bSemi : ByteArray := ⟨#[59]⟩
def bPolicy : ByteArray := ⟨#[112, 111, 108, 105, 99, 121]⟩
def bOpen : ByteArray := ⟨#[123]⟩
def bShut : ByteArray := ⟨#[125]⟩
def require (E : Env) (o : PS → O Unit) (k : Nat) (s : PS) : O Unit :=
  if E.bad s = false ∧ s.next + 1 < E.ts.length then
    O.bind (some (begin E k s)) fun _ s1 => O.bind (o s1) fun _ s2 => some (must E bSemi s2)
  else none
def declEnts (E : Env) (n : Nat) : List Ent :=
  [⟨[113, 117, 101, 117, 101], 2, 71, fun _ => none⟩, ⟨[118, 97, 114], 4, 72, fun _ => none⟩, ⟨[116, 97, 103], 5, 73, fun _ => none⟩,
   ⟨[114, 101, 113, 117, 105, 114, 101], 6, 74, require E (orF E n) 6⟩, ⟨[114, 117, 108, 101], 7, 75, fun _ => none⟩]
def eventEnts : List Ent := [⟨[111, 110], 8, 76, fun _ => none⟩]
theorem decl_tab (E : Env) (n : Nat) : tabOf E.g (declEnts E n) = declTab E.g := rfl
theorem event_tab (E : Env) : tabOf E.g eventEnts = eventTab E.g := rfl

theorem must_ok {E : Env} {x : ByteArray} {s s' : PS} {u : Unit} (h : must E x s = .ok u s') : s' = s.skip := by
  unfold must takes at h
  split at h
  · cases h
  · split at h
    · cases h; rfl
    · obtain ⟨er, i, hd1, hd2⟩ := fail_dies (α := Unit) E 21 s
      change fail E 21 s = _ at h
      rw [hd1] at h
      cases h
theorem begin_eq {E : Env} {s : PS} (k : Nat) (hb : E.bad s = false) : begin E k s = .ok s.rows.length (PS.skip { s with rows := s.rows ++ [row0 k], places := s.places ++ [(E.tok s).at_] }) := by unfold begin; rw [lay_eq k hb]; rfl
theorem require_lays {E : Env} {o : PS → O Unit} (ho : Lays o) (k : Nat) : Lays (require E o k) := by
  intro s s' hev h
  unfold require at h
  split at h
  · rename_i hc
    rw [begin_eq k hc.1] at h
    simp only [O.bind] at h
    cases hx : o (PS.skip { s with rows := s.rows ++ [row0 k], places := s.places ++ [(E.tok s).at_] }) with
    | none => rw [hx] at h; cases h
    | some r =>
      rw [hx] at h
      cases r with
      | die => cases h
      | ok a s2 =>
        simp only at h
        have hm : must E bSemi s2 = .ok () s' := Option.some.inj h
        have e := must_ok hm
        subst e
        obtain ⟨⟨g1, g2⟩, g3⟩ := ho _ _ (by simp [PS.skip, hev]) hx
        obtain ⟨mr, mp, f1, f2, f3, f4⟩ := g1.more
        have hl := g1.lev
        change s2.rows = (s.rows ++ [row0 k]) ++ mr at f1
        change s2.places = (s.places ++ [(E.tok s).at_]) ++ mp at f2
        change mr.length + (s.next + 1) ≤ s2.next at f4
        change s2.lev = s.lev at hl
        refine ⟨⟨⟨⟨row0 k :: mr, (E.tok s).at_ :: mp, ?_, ?_, ?_, ?_⟩, hl⟩, ?_⟩, ?_⟩
        · show s2.rows = _; rw [f1]; simp
        · show s2.places = _; rw [f2]; simp
        · simp [f3]
        · show (row0 k :: mr).length + s.next ≤ s2.next + 1; rw [List.length_cons]; omega
        · show s.next < s2.next + 1; omega
        · show s.rows.length < s2.rows.length; rw [f1]; simp
  · cases h
theorem ent_require : Enters 74 := fun args w => enters_of Tryz.func74 (by kernel_rfl) rfl args w
theorem ent_queue : Enters 71 := fun args w => enters_of Tryz.func71 (by kernel_rfl) rfl args w
theorem ent_variable : Enters 72 := fun args w => enters_of Tryz.func72 (by kernel_rfl) rfl args w
theorem ent_tag : Enters 73 := fun args w => enters_of Tryz.func73 (by kernel_rfl) rfl args w
theorem ent_ruleDecl : Enters 75 := fun args w => enters_of Tryz.func75 (by kernel_rfl) rfl args w
theorem ent_event : Enters 76 := fun args w => enters_of Tryz.func76 (by kernel_rfl) rfl args w

set_option maxHeartbeats 1600000 in
set_option maxRecDepth 100000 in
theorem require_does {E : Env} (ok : E.Ok) {o : PS → O Unit} (ho : Does E 118 #[.pointer (some ⟨E.g, 0, none⟩)] o) (k : Nat) : Does E 74 #[.pointer (some ⟨E.g, 0, none⟩), .int .i64 k] (require E o k) := by
  intro w rv pv s r h hg hr
  unfold require at hr
  split at hr
  · rename_i hc
    have HL := begin_ok E ok w rv pv s h k hc.1 hg.2 (by have h1 := hg.1; have h2 := hg.2; omega) hc.2
    rw [begin_eq k hc.1] at HL hr
    have hgood : Good (PS.skip { s with rows := s.rows ++ [row0 k], places := s.places ++ [(E.tok s).at_] }) := ⟨by simp [PS.skip, hg.1], by have := hg.2; simp [PS.skip]; omega⟩
    generalize (PS.skip { s with rows := s.rows ++ [row0 k], places := s.places ++ [(E.tok s).at_] } : PS) = s1 at *
    simp only [O.bind] at hr
    have HL2 : Hid (Calls Tryz.prog 116 #[.pointer (some ⟨E.g, 0, none⟩), .int .i64 k] w fun e w' => Post E w rv pv (fun n => .int .i64 (n : Nat)) (.ok s.rows.length s1) e w') := HL
    have HO : Hid (Does E 118 #[.pointer (some ⟨E.g, 0, none⟩)] o ∧ Good s1) := ⟨ho, hgood⟩
    clear HL h hg hc ho hgood
    go_enter Tryz.func74, Tryz.ntmps74
    go_wp2_with fail
    refine HL2.out.mono ?_
    rintro e w1 ⟨rfl, rv1, pv1, hP1, hM1⟩
    have HP1 : Hid (Par w1 E rv1 pv1 s1 ∧ Mv E w rv pv w1 rv1 pv1) := ⟨hP1, hM1⟩
    clear hP1 hM1
    cases h2 : o s1 with
    | none => rw [h2] at hr; cases hr
    | some r2 =>
      rw [h2] at hr
      go_wp2_with fail
      refine (HO.out.1 w1 rv1 pv1 s1 r2 HP1.out.1 HO.out.2 h2).mono ?_
      intro e w2 hp
      cases r2 with
      | die er i =>
        cases hr
        obtain ⟨rfl, hF⟩ := hp
        have HF : Hid (E.Fix w2) := hF
        clear hF h2
        go_wp2
        exact ⟨rfl, rfl, HF.out⟩
      | ok a s2 =>
        obtain ⟨rfl, rv2, pv2, hP2, hM2⟩ := hp
        have HP2 : Hid (Par w2 E rv2 pv2 s2 ∧ Mv E w rv pv w2 rv2 pv2) := ⟨hP2, HP1.out.2.trans hM2⟩
        clear hP2 hM2 h2
        simp only at hr
        have HR : Hid (must E bSemi s2 = r) := Option.some.inj hr
        clear hr
        go_wp2_with fail
        refine (must_any E ok w2 rv2 pv2 s2 HP2.out.1 bSemi (by decide)).mono ?_
        intro e w3 hp
        rw [HR.out] at hp
        cases r with
        | die er i =>
          obtain ⟨rfl, hF⟩ := hp
          have HF : Hid (E.Fix w3) := hF
          clear hF
          go_wp2
          exact ⟨rfl, rfl, HF.out⟩
        | ok b s3 =>
          obtain ⟨rfl, hP3, hM3⟩ := hp
          have HP3 : Hid (Par w3 E rv2 pv2 s3 ∧ Mv E w rv pv w3 rv2 pv2) := ⟨hP3, HP2.out.2.trans (Mv.of1 _ _ hM3)⟩
          clear hP3 hM3
          go_wp2
          go_end0
          exact ⟨rfl, rv2, pv2, HP3.out⟩
  · cases hr
theorem declEnts_ok {E : Env} (ok : E.Ok) (T : E.Tabs) (n : Nat) : ∀ e ∈ declEnts E n, EntOk E e := by
  intro e he
  simp only [declEnts, List.mem_cons, List.not_mem_nil, or_false] at he
  rcases he with rfl | rfl | rfl | rfl | rfl
  · exact ⟨ent_queue, none_does _ _⟩
  · exact ⟨ent_variable, none_does _ _⟩
  · exact ⟨ent_tag, none_does _ _⟩
  · exact ⟨ent_require, require_does ok (orF_does ok T n) 6⟩
  · exact ⟨ent_ruleDecl, none_does _ _⟩
theorem eventEnts_ok (E : Env) : ∀ e ∈ eventEnts, EntOk E e := by
  intro e he
  simp only [eventEnts, List.mem_cons, List.not_mem_nil, or_false] at he
  rcases he with rfl
  exact ⟨ent_event, none_does _ _⟩
theorem none_grows : Grows (fun _ => none) := fun _ _ _ h => by cases h
theorem declEnts_grow (E : Env) (n : Nat) : GrowsL (declEnts E n) := by
  intro e he
  simp only [declEnts, List.mem_cons, List.not_mem_nil, or_false] at he
  rcases he with rfl | rfl | rfl | rfl | rfl
  · exact none_grows
  · exact none_grows
  · exact none_grows
  · exact fun a b e f => (require_lays (orF_lays E n) 6 a b e f).1
  · exact none_grows
theorem eventEnts_grow : GrowsL eventEnts := by
  intro e he
  simp only [eventEnts, List.mem_cons, List.not_mem_nil, or_false] at he
  rcases he with rfl
  exact none_grows
end Go.Proofs.YtgiilaaoeefpmaaGreat.Gr
