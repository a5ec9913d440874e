import Derived.Test.YtgiilaaoeefpmaaGreatGrMap
import Derived.Maps.OwnSet
namespace Go.Proofs.YtgiilaaoeefpmaaGreat.Gr
open Go.RowKit Go.Proofs.YtgiilaaoeefpmaaGreat.Sp Go.Proofs.YtgiilaaoeefpmaaGreat.Lx Go.Maps

/-- what a rule answers that may want more rounds than it was given: none then -/
abbrev O (α : Type) := Option (R α)
def O.bind {α β : Type} (x : O α) (f : α → PS → O β) : O β :=
  match x with
  | none => none
  | some (.ok a s) => f a s
  | some (.die er i) => some (.die er i)
def Good (s : PS) : Prop := s.places.length = s.rows.length ∧ s.rows.length ≤ s.next
/-- rows and places more, no more than tokens -/
structure Grow (s s' : PS) : Prop where
  more : ∃ mr mp, s'.rows = s.rows ++ mr ∧ s'.places = s.places ++ mp ∧ mp.length = mr.length ∧ mr.length + s.next ≤ s'.next
  lev : s'.lev = s.lev
theorem Grow.good {s s' : PS} (h : Grow s s') (g : Good s) : Good s' := by
  obtain ⟨mr, mp, h1, h2, h3, h4⟩ := h.more
  unfold Good at g ⊢
  rw [h1, h2, List.length_append, List.length_append]
  omega
theorem Grow.trans {a b c : PS} (h : Grow a b) (k : Grow b c) : Grow a c := by
  obtain ⟨mr, mp, h1, h2, h3, h4⟩ := h.more
  obtain ⟨nr, np, k1, k2, k3, k4⟩ := k.more
  exact ⟨⟨mr ++ nr, mp ++ np, by rw [k1, h1, List.append_assoc], by rw [k2, h2, List.append_assoc], by simp [h3, k3], by simp; omega⟩, k.lev.trans h.lev⟩
theorem Grow.refl (s : PS) : Grow s s := ⟨⟨[], [], by simp, by simp, rfl, by simp⟩, rfl⟩
def Grows (F : PS → O Unit) : Prop := ∀ s s', s.places.length = s.rows.length → F s = some (.ok () s') → Grow s s' ∧ s.next < s'.next

/-- a Go function does what F says -/
def Does (E : Env) (f : Nat) (args : Array Value) (F : PS → O Unit) : Prop :=
  ∀ w rv pv s r, Par w E rv pv s → Good s → F s = some r → Calls Tryz.prog f args w fun e w' => Post E w rv pv (fun _ => .tuple #[]) r e w'
def Enters (f : Nat) : Prop := ∀ (args : Array Value) (w : World), (callFunc f args).run Tryz.prog w = .ok (.enter f args) w

/-- a table's entry -/
structure Ent where
  key : List UInt8
  kind : Nat
  fid : Nat
  F : PS → O Unit
def tabOf (g : Nat) (l : List Ent) : Tab := l.map fun e => (e.key, .agg #[.int .i64 (e.kind : Nat), .func (.func e.fid) #[.pointer (some ⟨g, 0, none⟩)] #[]])
def dispOf (l : List Ent) (k : List UInt8) : Option (PS → O Unit) := l.foldl (fun o e => if e.key = k then some e.F else o) none
def EntOk (E : Env) (e : Ent) : Prop := Enters e.fid ∧ Does E e.fid #[.pointer (some ⟨E.g, 0, none⟩), .int .i64 (e.kind : Nat)] e.F
def Found (E : Env) (v : Option Value) (o : Option (PS → O Unit)) : Prop :=
  (v = none ∧ o = none) ∨ ∃ e : Ent, v = some (.agg #[.int .i64 (e.kind : Nat), .func (.func e.fid) #[.pointer (some ⟨E.g, 0, none⟩)] #[]]) ∧ o = some e.F ∧ EntOk E e
theorem found_of {E : Env} (k : List UInt8) : ∀ (l : List Ent) (v : Option Value) (o : Option (PS → O Unit)), (∀ e ∈ l, EntOk E e) → Found E v o →
    Found E ((tabOf E.g l).foldl (fun o p => if p.1 = k then some p.2 else o) v) (l.foldl (fun o e => if e.key = k then some e.F else o) o) := by
  intro l
  induction l with
  | nil => intro v o _ h; exact h
  | cons e l ih =>
    intro v o hl h
    simp only [tabOf, List.map_cons, List.foldl_cons]
    refine ih _ _ (fun x hx => hl x (by simp [hx])) ?_
    by_cases hk : e.key = k
    · rw [if_pos hk, if_pos hk]
      exact Or.inr ⟨e, rfl, rfl, hl e (by simp)⟩
    · rw [if_neg hk, if_neg hk]
      exact h
theorem found {E : Env} (l : List Ent) (h : ∀ e ∈ l, EntOk E e) (k : List UInt8) : Found E (look (tabOf E.g l) k) (dispOf l k) := found_of k l none none h (Or.inl ⟨rfl, rfl⟩)

def reads (E : Env) (l : List Ent) (s : PS) : O Bool :=
  if E.bad s then some (.die E.ce E.ca) else
  match dispOf l (E.wd s).data.toList with
  | none => some (.ok false s)
  | some F => O.bind (F s) fun _ s' => some (.ok true s')
def one (E : Env) (l : List Ent) (s : PS) : O Unit := O.bind (reads E l s) fun b s' => if b then some (.ok () s') else some (fail E 21 s')

theorem zero98 (w : World) : (zeroValue 98).run Tryz.prog w = .ok (.agg #[.int .i64 0, .nilFunc]) w := by kernel_rfl

section
variable (E : Env) (ok : E.Ok) (w : World) (rv pv : Value) (s : PS) (h : Par w E rv pv s)
include ok h

set_option maxHeartbeats 3200000 in
set_option maxRecDepth 100000 in
theorem reads_any (l : List Ent) (hl : ∀ e ∈ l, EntOk E e) (m n : Nat) (hm : ∀ W, E.Fix W → W.ownsMap Tryz.prog 9 R0 m n (mkD (tabOf E.g l))) (hg : Good s) (r : R Bool) (hr : reads E l s = some r) :
    Calls Tryz.prog 128 #[.pointer (some ⟨E.g, 0, none⟩), .map (some m)] w fun e w' => Post E w rv pv (fun b => .bool b) r e w' := by
  have HP0 : Hid (Par w E rv pv s) := h
  have HG : Hid (Good s) := hg
  clear h hg
  cases hb : E.bad s with
  | true =>
    have HK : Hid ((E.tok s).kind = 0 ∧ E.ce ≠ 0) := bad_iff hb
    have hrr : r = .die E.ce E.ca := by
      unfold reads at hr
      rw [if_pos hb] at hr
      cases hr
      rfl
    subst hrr
    clear hb hr hm hl
    go_enter Tryz.func128, Tryz.ntmps128
    go_wp2_with fail
    refine (word_die E ok w rv pv s HP0.out _ (Env.tok_at HP0.out.nx) HK.out.1 HK.out.2).mono ?_
    rintro e w1 ⟨rfl, hB⟩
    have HB : Hid (Below w.heap.size w w1) := hB
    clear hB
    go_wp2
    exact ⟨rfl, rfl, HP0.out.fix.below HB.out⟩
  | false =>
    have HK : Hid ((E.tok s).kind ≠ 0 ∨ E.ce = 0) := bad_not hb
    have HW := word_ok E ok w rv pv s HP0.out _ (Env.tok_at HP0.out.nx) HK.out
    change Calls _ _ _ _ (fun e w' => e = .returned (.string (E.wd s)) ∧ _) at HW
    have hwz : (E.wd s).size ≤ maxLen := by
      have h1 := ok.tok _ _ (Env.tok_at HP0.out.nx)
      have h2 := ok.size
      unfold Env.wd maxLen
      rw [ByteArray.size_extract]
      omega
    have hkey := WideMaps.keyOf_string_mk (P := Tryz.prog) Tryz.underlying9 hwz
    have hf := found l hl (E.wd s).data.toList
    have hat := look_at (tabOf E.g l) (E.wd s).data.toList (.held (.agg #[.int .i64 0, .nilFunc]))
    have hhas := look_has (tabOf E.g l) (E.wd s).data.toList
    unfold reads at hr
    rw [if_neg (by simp [hb])] at hr
    have HM : Hid (∀ W, E.Fix W → W.ownsMap Tryz.prog 9 R0 m n (mkD (tabOf E.g l))) := hm
    have HKey : Hid (keyOf Tryz.prog 9 (.string (E.wd s)) = some (.string (E.wd s).data.toList)) := hkey
    generalize E.wd s = u at *
    have HW2 : Hid (Calls Tryz.prog 120 #[.pointer (some ⟨E.g, 0, none⟩)] w fun e w' => e = .returned (.string u) ∧ Below w.heap.size w w') := HW
    clear HW hb hm hl hkey hwz
    rcases hf with ⟨f1, f2⟩ | ⟨en, f1, f2, f3, f4⟩
    · rw [f1] at hat hhas
      rw [f2] at hr
      cases hr
      have HA : Hid ((mkD (tabOf E.g l)).atKey (.string u.data.toList) (.held (.agg #[.int .i64 0, .nilFunc])) = .held (.agg #[.int .i64 0, .nilFunc])) := hat
      have HH : Hid (Maps.has (mkD (tabOf E.g l)) (.string u.data.toList) = false) := hhas
      clear f1 f2 hat hhas
      go_enter Tryz.func128, Tryz.ntmps128
      go_wp2_with fail
      refine HW2.out.mono ?_
      rintro e w1 ⟨rfl, hB⟩
      have HB : Hid (Below w.heap.size w w1) := hB
      clear hB
      go_wp2_with (at_lookup; refine wpList_lookup_own_ok _ rfl _ _ 78 rfl 9 98 law Tryz.underlying78 R0 (zero98 _) (.held (.agg #[.int .i64 0, .nilFunc])) [] rfl m n (mkD (tabOf E.g l)) rfl (HM.out _ (HP0.out.below HB.out).fix) _ _ rfl HKey.out ?_)
      intro v ps hv
      rw [HA.out] at hv
      rw [HH.out]
      obtain rfl : v = .agg #[.int .i64 0, .nilFunc] := by cases hv; rfl
      clear hv
      go_wp2
      go_ret
      exact ⟨rfl, rv, pv, (HP0.out.below HB.out).below ((Below.refl _ _).alloc (Nat.le_refl _) _), Mv.of1 _ _ (Mv1.of_below (HB.out.alloc HB.out.size _))⟩
    · rw [f1] at hat hhas
      rw [f2] at hr
      simp only at hr
      have HA : Hid ((mkD (tabOf E.g l)).atKey (.string u.data.toList) (.held (.agg #[.int .i64 0, .nilFunc])) = .held (.agg #[.int .i64 (en.kind : Nat), .func (.func en.fid) #[.pointer (some ⟨E.g, 0, none⟩)] #[]])) := hat
      have HH : Hid (Maps.has (mkD (tabOf E.g l)) (.string u.data.toList) = true) := hhas
      cases hF : en.F s with
      | none => rw [hF] at hr; cases hr
      | some r0 =>
        rw [hF] at hr
        have HD : Hid (∀ W, Par W E rv pv s → Calls Tryz.prog en.fid #[.pointer (some ⟨E.g, 0, none⟩), .int .i64 (en.kind : Nat)] W fun e w' => Post E W rv pv (fun _ => .tuple #[]) r0 e w') := fun W hW => f4 W rv pv s r0 hW HG.out hF
        have he : ∀ (args : Array Value) (w : World), (callFunc en.fid args).run Tryz.prog w = .ok (.enter en.fid args) w := f3
        clear f1 f2 f3 f4 hat hhas hF
        generalize en.fid = fid at *
        generalize en.kind = kd at *
        clear en
        go_enter Tryz.func128, Tryz.ntmps128
        go_wp2_with fail
        refine HW2.out.mono ?_
        rintro e w1 ⟨rfl, hB⟩
        have HB : Hid (Below w.heap.size w w1) := hB
        clear hB
        go_wp2_with (at_lookup; refine wpList_lookup_own_ok _ rfl _ _ 78 rfl 9 98 law Tryz.underlying78 R0 (zero98 _) (.held (.agg #[.int .i64 0, .nilFunc])) [] rfl m n (mkD (tabOf E.g l)) rfl (HM.out _ (HP0.out.below HB.out).fix) _ _ rfl HKey.out ?_)
        intro v ps hv
        rw [HA.out] at hv
        rw [HH.out]
        obtain rfl : v = .agg #[.int .i64 (kd : Nat), .func (.func fid) #[.pointer (some ⟨E.g, 0, none⟩)] #[]] := by cases hv; rfl
        clear hv
        have HB2 : Hid (Below w.heap.size w (w1.alloc (.cells #[.int .i64 (kd : Nat), .func (.func fid) #[.pointer (some ⟨E.g, 0, none⟩)] #[]] 98))) := HB.out.alloc HB.out.size _
        go_wp2_with fail
        refine (HD.out _ (HP0.out.below HB2.out)).mono ?_
        intro e w2 hp
        cases r0 with
        | die er i =>
          cases hr
          obtain ⟨rfl, hF⟩ := hp
          have HF : Hid (E.Fix w2) := hF
          clear hF
          go_wp2
          exact ⟨rfl, rfl, HF.out⟩
        | ok a s1 =>
          cases hr
          obtain ⟨rfl, rv1, pv1, hP, hM⟩ := hp
          have HP : Hid (Par w2 E rv1 pv1 s1 ∧ Mv E w rv pv w2 rv1 pv1) := ⟨hP, (Mv.of1 _ _ (Mv1.of_below HB2.out)).trans hM⟩
          clear hP hM
          go_wp2
          go_ret
          exact ⟨rfl, rv1, pv1, HP.out⟩
end
end Go.Proofs.YtgiilaaoeefpmaaGreat.Gr
