import Derived.Test.YtgiilaaoeefpmaaGreatGrHeld2
namespace Go.Proofs.YtgiilaaoeefpmaaGreat.Gr
open Go.RowKit Go.Proofs.YtgiilaaoeefpmaaGreat.Sp Go.Proofs.YtgiilaaoeefpmaaGreat.Lx Go.Maps

/-- a sign of one operand (where it stands) -/
def unary (E : Env) (b : PS → O Unit) (k : Nat) (s : PS) : O Unit :=
  if E.bad s = false ∧ s.next + 1 < E.ts.length then
    O.bind (some (lay E k s)) fun _ s1 => O.bind (some (rise E s1)) fun _ s2 => O.bind (b s2.skip) fun _ s3 => some (.ok () { s3 with lev := s3.lev - 1 })
  else none
def bareEnts (E : Env) (b : PS → O Unit) : List Ent :=
  [⟨[45], 41, 89, unary E b 41⟩, ⟨[33], 42, 89, unary E b 42⟩,
   ⟨[116, 114, 117, 101], 29, 87, fun _ => none⟩, ⟨[102, 97, 108, 115, 101], 30, 87, fun _ => none⟩,
   ⟨[115, 105, 122, 101], 33, 87, fun _ => none⟩, ⟨[116, 111, 116, 97, 108], 34, 87, fun _ => none⟩,
   ⟨[108, 101, 110], 31, 90, fun _ => none⟩, ⟨[99, 97, 112], 32, 90, fun _ => none⟩,
   ⟨[101, 109, 112, 116, 121], 35, 90, fun _ => none⟩, ⟨[102, 117, 108, 108], 36, 90, fun _ => none⟩,
   ⟨[97, 116], 37, 90, fun _ => none⟩, ⟨[109, 105, 110], 39, 91, fun _ => none⟩,
   ⟨[109, 97, 120], 40, 91, fun _ => none⟩, ⟨[40], 0, 92, fun _ => none⟩]
theorem bare_tab (E : Env) (b : PS → O Unit) : tabOf E.g (bareEnts E b) = bareTab E.g := rfl
def bare (E : Env) : Nat → PS → O Unit
  | 0, _ => none
  | n + 1, s =>
    if E.bad s then some (.die E.ce E.ca) else
    if (E.tok s).kind = 3 then some (number E s) else
    if (E.tok s).kind = 2 then none else one E (bareEnts E (bare E n)) s

structure Env.Tabs (E : Env) : Prop where
  decls : ∀ W, E.Fix W → W.ownsMap Tryz.prog 9 R0 E.m0 5 (mkD (declTab E.g))
  events : ∀ W, E.Fix W → W.ownsMap Tryz.prog 9 R0 E.m1 1 (mkD (eventTab E.g))
  doings : ∀ W, E.Fix W → W.ownsMap Tryz.prog 9 R0 E.m2 13 (mkD (doingTab E.g))
  items : ∀ W, E.Fix W → W.ownsMap Tryz.prog 9 R0 E.m3 3 (mkD (itemTab E.g))
  bares : ∀ W, E.Fix W → W.ownsMap Tryz.prog 9 R0 E.m4 14 (mkD (bareTab E.g))
  signs : ∀ W, E.Fix W → W.ownsMap Tryz.prog 9 R0 E.m5 12 (mkD signTab)

theorem lay_eq {E : Env} {s : PS} (k : Nat) (hb : E.bad s = false) : lay E k s = .ok s.rows.length { s with rows := s.rows ++ [row0 k], places := s.places ++ [(E.tok s).at_] } := by unfold lay; rw [if_neg (by simp [hb])]
theorem rise_next {E : Env} {s s1 : PS} {u : Unit} (h : rise E s = .ok u s1) : s1.next = s.next ∧ s1.rows = s.rows ∧ s1.places = s.places ∧ s1.lev = s.lev + 1 := by
  unfold rise at h
  split at h
  · obtain ⟨er, i, hd1, hd2⟩ := fail_dies (α := Unit) E 22 s
    rw [hd1] at h
    cases h
  · cases h
    exact ⟨rfl, rfl, rfl, rfl⟩

/-- what a rule that lays rows keeps to -/
def Lays (F : PS → O Unit) : Prop := ∀ s s', s.places.length = s.rows.length → F s = some (.ok () s') → (Grow s s' ∧ s.next < s'.next) ∧ s.rows.length < s'.rows.length

theorem unary_lays {E : Env} {b : PS → O Unit} (hb : Lays b) (k : Nat) : Lays (unary E b k) := by
  intro s s' hev h
  unfold unary at h
  split at h
  · rename_i hc
    rw [lay_eq k hc.1] at h
    simp only [O.bind] at h
    cases hr : rise E { s with rows := s.rows ++ [row0 k], places := s.places ++ [(E.tok s).at_] } with
    | die => rw [hr] at h; cases h
    | ok u s2 =>
      rw [hr] at h
      obtain ⟨e1, e2, e3, e4⟩ := rise_next hr
      simp only at h
      cases hx : b s2.skip with
      | none => rw [hx] at h; cases h
      | some r =>
        rw [hx] at h
        cases r with
        | die => cases h
        | ok v s3 =>
          cases h
          obtain ⟨⟨g1, g2⟩, g3⟩ := hb _ _ (by show s2.places.length = s2.rows.length; rw [e2, e3]; simp [hev]) hx
          obtain ⟨mr, mp, f1, f2, f3, f4⟩ := g1.more
          have hl := g1.lev
          change s3.rows = s2.rows ++ mr at f1
          change s3.places = s2.places ++ mp at f2
          change mr.length + (s2.next + 1) ≤ s3.next at f4
          change s2.next + 1 < s3.next at g2
          change s3.lev = s2.lev at hl
          rw [e2] at f1
          rw [e3] at f2
          change s2.next = s.next at e1
          change s2.lev = s.lev + 1 at e4
          refine ⟨⟨⟨⟨row0 k :: mr, (E.tok s).at_ :: mp, ?_, ?_, ?_, ?_⟩, ?_⟩, ?_⟩, ?_⟩
          · show s3.rows = _; rw [f1]; simp
          · show s3.places = _; rw [f2]; simp
          · simp [f3]
          · show (row0 k :: mr).length + s.next ≤ s3.next; rw [List.length_cons]; omega
          · show s3.lev - 1 = s.lev; omega
          · show s.next < s3.next; omega
          · show s.rows.length < s3.rows.length; rw [f1]; simp
  · cases h
theorem number_lays (E : Env) (s s' : PS) (h : number E s = .ok () s') : (Grow s s' ∧ s.next < s'.next) ∧ s.rows.length < s'.rows.length := by
  unfold number begin at h
  cases hb : E.bad s with
  | true => unfold lay at h; rw [if_pos hb] at h; cases h
  | false =>
    rw [lay_eq 27 hb] at h
    cases h
    refine ⟨⟨⟨⟨[{ row0 27 with n := (E.tok s).n }], [(E.tok s).at_], ?_, rfl, rfl, ?_⟩, rfl⟩, ?_⟩, ?_⟩
    · simp only [PS.setR, PS.skip]
      rw [List.getD_eq_getElem?_getD, List.getElem?_append_right (Nat.le_refl _)]
      simp
    · show 1 + s.next ≤ s.next + 1; omega
    · show s.next < s.next + 1; omega
    · show s.rows.length < ((s.rows ++ [row0 27]).set _ _).length; simp
theorem one_lays {E : Env} {l : List Ent} (hl : ∀ e ∈ l, Lays e.F) : Lays (one E l) := by
  intro s s' hev h
  unfold one at h
  cases hr : reads E l s with
  | none => rw [hr] at h; cases h
  | some r =>
    rw [hr] at h
    cases r with
    | die => cases h
    | ok b s1 =>
      cases b with
      | true =>
        cases h
        unfold reads at hr
        split at hr
        · cases hr
        · cases hd : dispOf l (E.wd s).data.toList with
          | none => rw [hd] at hr; cases hr
          | some F =>
            rw [hd] at hr
            rcases disp_mem l none hd with h1 | ⟨e, he, hF⟩
            · cases h1
            · cases hFs : F s with
              | none => simp only [hFs] at hr; cases hr
              | some r =>
                simp only [hFs] at hr
                cases r with
                | die => cases hr
                | ok a s2 =>
                  cases hr
                  have := hl e he s s' hev
                  rw [hF] at this
                  exact this hFs
      | false =>
        obtain ⟨er, i, hd1, hd2⟩ := fail_dies (α := Unit) E 21 s1
        have : some (fail (α := Unit) E 21 s1) = some (.ok () s') := h
        rw [hd1] at this
        cases this
theorem none_lays : Lays (fun _ => none) := fun _ _ _ h => by cases h
theorem bareEnts_lays {E : Env} {b : PS → O Unit} (hb : Lays b) : ∀ e ∈ bareEnts E b, Lays e.F := by
  intro e he
  simp only [bareEnts, List.mem_cons, List.not_mem_nil, or_false] at he
  rcases he with rfl | rfl | rfl | rfl | rfl | rfl | rfl | rfl | rfl | rfl | rfl | rfl | rfl | rfl
  · exact unary_lays hb 41
  · exact unary_lays hb 42
  all_goals exact none_lays
theorem bare_lays (E : Env) (n : Nat) : Lays (bare E n) := by
  induction n with
  | zero => intro s s' _ h; cases h
  | succ n ih =>
    intro s s' hev h
    unfold bare at h
    split at h
    · cases h
    · split at h
      · exact number_lays E s s' (Option.some.inj h)
      · split at h
        · cases h
        · exact one_lays (bareEnts_lays ih) s s' hev h
theorem signs_grow {E : Env} {part : PS → O Unit} (hp : Lays part) (rule most : Nat) : ∀ (n : Nat) (acc acc' : List (Nat × Nat)) (s s' : PS), signs E part rule most n acc s = some (.ok acc' s') → s.places.length = s.rows.length →
    ∃ mr mp, s'.rows = s.rows ++ mr ∧ s'.places = s.places ++ mp ∧ mp.length = mr.length ∧ mr.length + s.next + acc'.length ≤ s'.next + acc.length ∧ s'.lev = s.lev ∧ s.next ≤ s'.next := by
  intro n
  induction n with
  | zero => intro acc acc' s s' h; cases h
  | succ n ih =>
    intro acc acc' s s' h hev
    unfold signs at h
    split at h
    · split at h
      · cases h
      · split at h
        · cases hx : part s.skip with
          | none => rw [hx] at h; cases h
          | some r =>
            rw [hx] at h
            cases r with
            | die => cases h
            | ok a s1 =>
              obtain ⟨⟨g1, g2⟩, g3⟩ := hp s.skip s1 hev hx
              obtain ⟨mr, mp, f1, f2, f3, f4⟩ := g1.more
              have hl := g1.lev
              change s1.rows = s.rows ++ mr at f1
              change s1.places = s.places ++ mp at f2
              obtain ⟨nr, np, k1, k2, k3, k4, k5, k6⟩ := ih _ _ _ _ h (by rw [f1, f2]; simp [f3, hev])
              change mr.length + (s.next + 1) ≤ s1.next at f4
              change s1.lev = s.lev at hl
              rw [List.length_append] at k4
              simp only [List.length_cons, List.length_nil] at k4
              exact ⟨mr ++ nr, mp ++ np, by rw [k1, f1, List.append_assoc], by rw [k2, f2, List.append_assoc], by simp [f3, k3], by rw [List.length_append]; omega, k5.trans hl, by omega⟩
        · cases h
          exact ⟨[], [], by simp, by simp, rfl, by simp, rfl, Nat.le_refl _⟩
    · cases h
      exact ⟨[], [], by simp, by simp, rfl, by simp, rfl, Nat.le_refl _⟩
theorem held_lays {E : Env} {part : PS → O Unit} (hp : Lays part) (rule most N : Nat) : Lays (held E part rule most N) := by
  intro s s' hev h
  unfold held at h
  cases hx : part s with
  | none => rw [hx] at h; cases h
  | some r =>
    rw [hx] at h
    cases r with
    | die => cases h
    | ok a s1 =>
      simp only [O.bind] at h
      cases hy : signs E part rule most N [] s1 with
      | none => rw [hy] at h; cases h
      | some r2 =>
        rw [hy] at h
        cases r2 with
        | die => cases h
        | ok acc s2 =>
          cases h
          obtain ⟨⟨g1, g2⟩, g3⟩ := hp _ _ hev hx
          obtain ⟨mr, mp, f1, f2, f3, f4⟩ := g1.more
          obtain ⟨nr, np, k1, k2, k3, k4, k5, k6⟩ := signs_grow hp rule most N [] acc s1 s2 hy (by rw [f1, f2]; simp [f3, hev])
          have e1 : s2.rows = s.rows ++ (mr ++ nr) := by rw [k1, f1, List.append_assoc]
          have e2 : s2.places = s.places ++ (mp ++ np) := by rw [k2, f2, List.append_assoc]
          have q1 : (laid s.rows.length acc s2).rows = s.rows ++ ((acc.map fun p => row2 p.1).reverse ++ (mr ++ nr)) := by
            show s2.rows.take _ ++ _ ++ s2.rows.drop _ = _
            rw [e1, List.take_left, List.drop_left, List.append_assoc]
          have q2 : (laid s.rows.length acc s2).places = s.places ++ ((acc.map fun p => p.2).reverse ++ (mp ++ np)) := by
            show s2.places.take _ ++ _ ++ s2.places.drop _ = _
            rw [e2, ← hev, List.take_left, List.drop_left, List.append_assoc]
          have hml : 0 < mr.length := by rw [f1, List.length_append] at g3; omega
          simp only [List.length_nil] at k4
          refine ⟨⟨⟨⟨_, _, q1, q2, ?_, ?_⟩, ?_⟩, ?_⟩, ?_⟩
          · simp [f3, k3]
          · show _ + s.next ≤ s2.next
            simp only [List.length_append, List.length_reverse, List.length_map]
            omega
          · show s2.lev = s.lev; rw [k5, g1.lev]
          · show s.next < s2.next; omega
          · rw [q1]; simp only [List.length_append, List.length_reverse, List.length_map]; omega
end Go.Proofs.YtgiilaaoeefpmaaGreat.Gr
