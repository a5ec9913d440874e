import Derived.Test.YtgiilaaoeefpmaaGreatGrReads
namespace Go.Proofs.YtgiilaaoeefpmaaGreat.Gr
open Go.RowKit Go.Proofs.YtgiilaaoeefpmaaGreat.Sp Go.Proofs.YtgiilaaoeefpmaaGreat.Lx Go.Maps

def kid1 (r : Rw) : Rw := { r with kids := r.kids + 1 }
def all (E : Env) (l : List Ent) (i : Nat) : Nat → PS → O Unit
  | 0, _ => none
  | n + 1, s => O.bind (reads E l s) fun b s' => if b then all E l i n (s'.setR i kid1) else some (.ok () s')
def GrowsL (l : List Ent) : Prop := ∀ e ∈ l, Grows e.F
theorem disp_mem {k : List UInt8} {F : PS → O Unit} : ∀ (l : List Ent) (o : Option (PS → O Unit)), l.foldl (fun o e => if e.key = k then some e.F else o) o = some F → o = some F ∨ ∃ e ∈ l, e.F = F := by
  intro l
  induction l with
  | nil => intro o h; exact Or.inl h
  | cons e l ih =>
    intro o h
    rw [List.foldl_cons] at h
    rcases ih _ h with h1 | ⟨x, hx, hF⟩
    · split at h1
      · cases h1; exact Or.inr ⟨e, by simp, rfl⟩
      · exact Or.inl h1
    · exact Or.inr ⟨x, by simp [hx], hF⟩
theorem reads_true {E : Env} {l : List Ent} {s s' : PS} (hl : GrowsL l) (hev : s.places.length = s.rows.length) (h : reads E l s = some (.ok true s')) : Grow s s' ∧ s.next < s'.next := by
  unfold reads at h
  split at h
  · cases h
  · cases hd : dispOf l (E.wd s).data.toList with
    | none => rw [hd] at h; cases h
    | some F =>
      rw [hd] at h
      rcases disp_mem l none hd with h1 | ⟨e, he, hF⟩
      · cases h1
      · cases hFs : F s with
        | none => simp only [hFs] at h; cases h
        | some r =>
          simp only [hFs] at h
          cases r with
          | die => cases h
          | ok a s1 =>
            cases h
            have := hl e he s s' hev
            rw [hF] at this
            exact this hFs
theorem reads_false {E : Env} {l : List Ent} {s s' : PS} (h : reads E l s = some (.ok false s')) : s' = s := by
  unfold reads at h
  split at h
  · cases h
  · cases hd : dispOf l (E.wd s).data.toList with
    | none => rw [hd] at h; cases h; rfl
    | some F =>
      rw [hd] at h
      cases hFs : F s with
      | none => simp only [hFs] at h; cases h
      | some r => simp only [hFs] at h; cases r <;> cases h

section
variable (E : Env) (ok : E.Ok) (w : World) (rv pv : Value) (s : PS) (h : Par w E rv pv s)
include ok h

set_option maxHeartbeats 1600000 in
set_option maxRecDepth 100000 in
theorem one_any (l : List Ent) (hl : ∀ e ∈ l, EntOk E e) (m n : Nat) (hm : ∀ W, E.Fix W → W.ownsMap Tryz.prog 9 R0 m n (mkD (tabOf E.g l))) (hg : Good s) (r : R Unit) (hr : one E l s = some r) :
    Calls Tryz.prog 121 #[.pointer (some ⟨E.g, 0, none⟩), .map (some m)] w fun e w' => Post E w rv pv (fun _ => .tuple #[]) r e w' := by
  unfold one at hr
  cases h1 : reads E l s with
  | none => rw [h1] at hr; cases hr
  | some r1 =>
    rw [h1] at hr
    have HR : Hid (Calls Tryz.prog 128 #[.pointer (some ⟨E.g, 0, none⟩), .map (some m)] w fun e w' => Post E w rv pv (fun b => .bool b) r1 e w') := reads_any E ok w rv pv s h l hl m n hm hg r1 h1
    have hnot : ∀ (x : Bool) (w : World), (Op.unary .not (.bool x)).run Tryz.prog w = .ok (.bool (!x)) w := fun _ _ => rfl
    clear h hl hm hg h1
    go_enter Tryz.func121, Tryz.ntmps121
    go_wp2_with fail
    refine HR.out.mono ?_
    intro e w1 hp
    cases r1 with
    | die er i =>
      cases hr
      obtain ⟨rfl, hF⟩ := hp
      have HF : Hid (E.Fix w1) := hF
      clear hF
      go_wp2
      exact ⟨rfl, rfl, HF.out⟩
    | ok b s1 =>
      obtain ⟨rfl, rv1, pv1, hP, hM⟩ := hp
      have HP : Hid (Par w1 E rv1 pv1 s1 ∧ Mv E w rv pv w1 rv1 pv1) := ⟨hP, hM⟩
      clear hP hM
      cases b with
      | true =>
        cases hr
        go_wp2
        go_end0
        exact ⟨rfl, rv1, pv1, HP.out⟩
      | false =>
        obtain ⟨er, i, hd1, hd2⟩ := fail_dies (α := Unit) E 21 s1
        have hrr : r = .die er i := by
          have : some (fail E 21 s1) = some r := hr
          rw [hd1] at this
          cases this
          rfl
        subst hrr
        clear hr
        go_wp2_with fail
        refine (fail_as E ok w1 rv1 pv1 s1 HP.out.1 21 er i hd2).mono ?_
        rintro e w2 ⟨rfl, hF⟩
        have HF : Hid (E.Fix w2) := hF
        clear hF
        go_wp2
        exact ⟨rfl, rfl, HF.out⟩

set_option maxHeartbeats 3200000 in
set_option maxRecDepth 100000 in
theorem all_any (l : List Ent) (hl : ∀ e ∈ l, EntOk E e) (hgl : GrowsL l) (m n : Nat) (hm : ∀ W, E.Fix W → W.ownsMap Tryz.prog 9 R0 m n (mkD (tabOf E.g l))) (hg : Good s) (i : Nat) (hi : i < s.rows.length) (hk : (s.rows.getD i row00).kids ≤ s.next + 10) (N : Nat) (r : R Unit) (hr : all E l i N s = some r) :
    Calls Tryz.prog 97 #[.pointer (some ⟨E.g, 0, none⟩), .int .i64 i, .map (some m)] w fun e w' => Post E w rv pv (fun _ => .tuple #[]) r e w' := by
  have HP0 : Hid (Par w E rv pv s ∧ Good s ∧ i < s.rows.length ∧ (s.rows.getD i row00).kids ≤ s.next + 10 ∧ all E l i N s = some r) := ⟨h, hg, hi, hk, hr⟩
  have HR : Hid (∀ w rv pv s, Par w E rv pv s → Good s → ∀ r, reads E l s = some r → Calls Tryz.prog 128 #[.pointer (some ⟨E.g, 0, none⟩), .map (some m)] w fun e w' => Post E w rv pv (fun b => .bool b) r e w') := fun w rv pv s h hg r hr => reads_any E ok w rv pv s h l hl m n hm hg r hr
  have HL : Hid (GrowsL l) := hgl
  clear h hg hi hr hm hl hk hgl
  go_enter Tryz.func97, Tryz.ntmps97
  go_wp2_with fail
  go_loopg [6] N (fun q _ wr => ∃ rv' pv' s', Par wr E rv' pv' s' ∧ Mv E w rv pv wr rv' pv' ∧ Good s' ∧ i < s'.rows.length ∧ (s'.rows.getD i row00).kids ≤ s'.next + 10 ∧ all E l i q s' = some r)
  case atStart => exact ⟨rv, pv, s, HP0.out.1, Mv.of1 _ _ (Mv1.refl _ _), HP0.out.2.1, HP0.out.2.2.1, HP0.out.2.2.2.1, HP0.out.2.2.2.2⟩
  case round =>
    obtain ⟨rv1, pv1, s1, h1, h2, h3, h4, h5, h6⟩ := hrel
    cases gk with
    | zero => cases h6
    | succ q =>
      unfold all at h6
      cases hr : reads E l s1 with
      | none => rw [hr] at h6; cases h6
      | some r1 =>
        rw [hr] at h6
        have HC : Hid (Calls Tryz.prog 128 #[.pointer (some ⟨E.g, 0, none⟩), .map (some m)] wr fun e w' => Post E wr rv1 pv1 (fun b => .bool b) r1 e w') := HR.out wr rv1 pv1 s1 h1 h3 r1 hr
        have HS : Hid (Mv E w rv pv wr rv1 pv1 ∧ Good s1 ∧ i < s1.rows.length ∧ (s1.rows.getD i row00).kids ≤ s1.next + 10 ∧ reads E l s1 = some r1 ∧ O.bind (some r1) (fun b s' => if b then all E l i q (s'.setR i kid1) else some (.ok () s')) = some r) := ⟨h2, h3, h4, h5, hr, h6⟩
        clear h1 h2 h3 h4 h5 h6 hr
        go_wp2_with fail
        refine HC.out.mono ?_
        intro e w1 hp
        cases r1 with
        | die er j =>
          obtain ⟨rfl, hF⟩ := hp
          have HF : Hid (E.Fix w1) := hF
          obtain rfl : R.die er j = r := by have := HS.out.2.2.2.2.2; cases this; rfl
          clear hF
          go_wp2
          exact ⟨rfl, rfl, HF.out⟩
        | ok b s2 =>
          obtain ⟨rfl, rv2, pv2, hP, hM⟩ := hp
          cases b with
          | false =>
            obtain rfl : R.ok () s2 = r := by have := HS.out.2.2.2.2.2; cases this; rfl
            have HP : Hid (Par w1 E rv2 pv2 s2 ∧ Mv E w rv pv w1 rv2 pv2) := ⟨hP, HS.out.1.trans hM⟩
            clear hP hM
            go_wp2
            go_end0
            exact ⟨rfl, rv2, pv2, HP.out⟩
          | true =>
            obtain ⟨a1, a2, a3, a4, a5, a6⟩ := HS.out
            obtain ⟨g1, g2⟩ := reads_true HL.out a2.1 a5
            obtain ⟨mr, mp, e1, e2, e3, e4⟩ := g1.more
            have hi2 : i < s2.rows.length := by rw [e1, List.length_append]; omega
            have hkid : s2.rows.getD i row00 = s1.rows.getD i row00 := by rw [e1, List.getD_eq_getElem?_getD, List.getD_eq_getElem?_getD, List.getElem?_append_left a3]
            obtain ⟨gr, cap, rfl, b1, b2, b3, b4⟩ := hP.row hi2
            have hcell := b4 w1 (Mv1.refl _ _) ok.gl 4 (by omega)
            simp only [rc, List.getElem?_cons_succ, List.getElem?_cons_zero] at hcell
            have hfro := b3 (i * 5 + 4)
            have c6 := hP.cells.2.2.2.2.2.2.1
            have hset := hP.setRow ok hi2 (j := 4) (by omega) (.int .i64 ((s2.rows.getD i row00).kids + 1 : Nat)) kid1 rfl
            have hkb : (s2.rows.getD i row00).kids ≤ 100000 := by have := hP.nx; have := ok.len; rw [hkid]; omega
            have HQ : Hid (Par (w1.setCell ⟨gr, i * 5 + 4, none⟩ (.int .i64 ((s2.rows.getD i row00).kids + 1 : Nat))) E (.slice (some ⟨gr, 0, none⟩) s2.rows.length cap) pv2 (s2.setR i kid1) ∧ Mv E w rv pv (w1.setCell ⟨gr, i * 5 + 4, none⟩ (.int .i64 ((s2.rows.getD i row00).kids + 1 : Nat))) (.slice (some ⟨gr, 0, none⟩) s2.rows.length cap) pv2 ∧ Good (s2.setR i kid1) ∧ i < (s2.setR i kid1).rows.length ∧ ((s2.setR i kid1).rows.getD i row00).kids ≤ (s2.setR i kid1).next + 10 ∧ all E l i q (s2.setR i kid1) = some r) := by
              refine ⟨hset.1, (a1.trans hM).trans hset.2, ?_, ?_, ?_, a6⟩
              · have := g1.good a2
                unfold Good PS.setR at *
                simpa using this
              · simpa [PS.setR] using hi2
              · have : (s2.setR i kid1).rows.getD i row00 = kid1 (s2.rows.getD i row00) := by
                  simp only [PS.setR]
                  rw [List.getD_eq_getElem?_getD, List.getElem?_set_self hi2]
                  rfl
                rw [this, hkid]
                show (s1.rows.getD i row00).kids + 1 ≤ s2.next + 10
                omega
            have hlt : (i : Int) < (s2.rows.length : Int) := by omega
            have hk0 : (0 : Int) ≤ ((s2.rows.getD i row00).kids : Int) := by omega
            have hk1 : ((s2.rows.getD i row00).kids : Int) ≤ 100000 := by omega
            rw [Int.natCast_add, Int.natCast_one] at HQ
            generalize (s2.rows.getD i row00).kids = kk at *
            clear hP hM HS a1 a2 a3 a4 a5 a6 g1 g2 e1 e2 e3 e4 b1 b2 b3 b4 hset hkb hkid
            go_wp2_with fail
            go_roundg q
            case measure => omega
            case rel => exact ⟨_, _, _, HQ.out⟩
end
end Go.Proofs.YtgiilaaoeefpmaaGreat.Gr
