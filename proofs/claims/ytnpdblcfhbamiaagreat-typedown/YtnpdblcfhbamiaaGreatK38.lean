import Derived.Test.YtnpdblcfhbamiaaGreatK37
set_option maxHeartbeats 6400000
set_option maxRecDepth 100000
set_option linter.unusedSimpArgs false
namespace Go.Proofs.YtnpdblcfhbamiaaGreat.Nm.Ty
open Go.RowKit Go.Maps Go.Proofs.YtnpdblcfhbamiaaGreat.Sp Go.Proofs.YtnpdblcfhbamiaaGreat.Lx Go.Proofs.YtnpdblcfhbamiaaGreat.Gr Go.Proofs.YtnpdblcfhbamiaaGreat.Nm
theorem rowI_own {w : World} {g n base : Nat} {f : Nat → Int} (h : RowI w g n f) (hb : base ≤ g) (hn : n ≤ 17592186043904) : w.ownsRow base 3 1 (.slice (some ⟨g, 0, none⟩) n n) n (iv ((List.range n).map f)) := by
  refine ⟨by simp [iv], Or.inr ⟨g, n, _, rfl, hb, h, Nat.le_refl _, by unfold maxLen; omega, by simp, ?_⟩⟩
  rw [List.take_of_length_le (by simp)]
  simp [iv]
/-- what Types tells: a list, an error, where -/
def TyQ (P : Pg) (il : List Int) (fe fa : Int) : Prop := (¬ IsOk P ∧ il = [] ∧ fe = 23 ∧ fa = 0) ∨
  (IsOk P ∧ (fltN P.rows (ghL P.qs) P.rows.length).1 ≠ 0 ∧ il = [] ∧ fe = ((fltN P.rows (ghL P.qs) P.rows.length).1 : Nat) ∧ fa = ((fltN P.rows (ghL P.qs) P.rows.length).2 : Nat)) ∨
  (IsOk P ∧ (fltN P.rows (ghL P.qs) P.rows.length).1 = 0 ∧ il = (List.range P.rows.length).map (fun i => (rP P.rows i).is) ∧ fe = 0 ∧ fa = 0)
theorem tyQ_ex (P : Pg) : ∃ il fe fa, TyQ P il fe fa := by
  by_cases h : IsOk P
  · by_cases h2 : (fltN P.rows (ghL P.qs) P.rows.length).1 = 0
    · exact ⟨_, _, _, Or.inr (Or.inr ⟨h, h2, rfl, rfl, rfl⟩)⟩
    · exact ⟨_, _, _, Or.inr (Or.inl ⟨h, h2, rfl, rfl, rfl⟩)⟩
  · exact ⟨_, _, _, Or.inl ⟨h, rfl, rfl, rfl⟩⟩
theorem tyQ_len {P : Pg} {il : List Int} {fe fa : Int} (h : TyQ P il fe fa) : il.length ≤ P.rows.length := by
  rcases h with ⟨_, rfl, _⟩ | ⟨_, _, rfl, _⟩ | ⟨_, _, rfl, _⟩ <;> simp
theorem types_own {P : Pg} {ao qo vo tto uo oo : Option Addr} {ac qc vc tc uc oc : Nat} {w : World} {il : List Int} {fe fa : Int} (h : RdG w P ao qo vo tto uo oo) (hs : P.Sm) (hnil : ao = none → ac = 0) (hR : IsOk P → Rdy P) (hQ : TyQ P il fe fa) (hn : P.rows.length ≤ 17592186043904) :
    Calls Tryz.prog 6 #[pvG P ao qo vo tto uo oo ac qc vc tc uc oc] w fun e w' => Below w.heap.size w w' ∧ ∃ v, e = .returned (.tuple #[v, .agg #[.int .i64 fe, .int .i64 fa]]) ∧ w'.ownsRow w.heap.size 3 1 v il.length (iv il) := by
  refine (typesF_any h hs hnil hR).mono ?_
  rintro e w' ⟨hb, hq⟩
  refine ⟨hb, ?_⟩
  rcases hq with ⟨h1, rfl⟩ | ⟨h1, h2, rfl⟩ | ⟨h1, h2, g, rfl, hg, hr⟩
  · rcases hQ with ⟨_, rfl, rfl, rfl⟩ | ⟨q, _⟩ | ⟨q, _⟩
    · exact ⟨pz, rfl, World.ownsRow_nil _ _ _ _⟩
    · exact absurd q h1
    · exact absurd q h1
  · rcases hQ with ⟨q, _⟩ | ⟨_, _, rfl, rfl, rfl⟩ | ⟨_, q, _⟩
    · exact absurd h1 q
    · exact ⟨pz, rfl, World.ownsRow_nil _ _ _ _⟩
    · exact absurd q h2
  · rcases hQ with ⟨q, _⟩ | ⟨_, q, _⟩ | ⟨_, _, rfl, rfl, rfl⟩
    · exact absurd h1 q
    · exact absurd h2 q
    · refine ⟨_, rfl, ?_⟩
      have h9 := rowI_own hr hg hn
      simpa using h9
theorem check_own {P : Pg} {ao qo vo tto uo oo co : Option Addr} {ac qc vc tc uc oc nc cc : Nat} {size : Int} {cs : Nat → Int} {w : World} (h : RdG w P ao qo vo tto uo oo) (hs : P.Sm) (hnil : ao = none → ac = 0) (hok : IsOk P) (hR : Rdy P) (hD : Rdc P) (hc : IsVals w co (fL nc (fun i => .int .i64 (cs i)))) (hcl : nc ≤ 17592186043904) (hsz : in64 size) (hcs : ∀ i, in64 (cs i)) (hn9 : P.rows.length ≤ 17592186043904) :
    Calls Tryz.prog 7 #[pvG P ao qo vo tto uo oo ac qc vc tc uc oc, .agg #[.int .i64 size, .slice co nc cc]] w fun e w' => Below w.heap.size w w' ∧ ∃ v1 v2 v3 b1 b2 b3, e = .returned (.tuple #[.agg #[v1, v2, v3], .agg #[.int .i64 (chkO P size cs nc).e, .int .i64 (chkO P size cs nc).a]]) ∧ (w.heap.size ≤ b1 ∧ w.heap.size ≤ b2 ∧ w.heap.size ≤ b3) ∧
      w'.ownsRow b1 47 3 v1 (chkO P size cs nc).vs.length (vC (chkO P size cs nc).vs) ∧ w'.ownsRow b2 3 1 v2 (chkO P size cs nc).ts.length (iv (chkO P size cs nc).ts) ∧ w'.ownsRow b3 3 1 v3 (chkO P size cs nc).rl.length (iv (chkO P size cs nc).rl) ∧
      (∀ k, v1.ownBlock = some k → v2.ownBlock ≠ some k) ∧ (∀ k, v1.ownBlock = some k → v3.ownBlock ≠ some k) ∧ ∀ k, v2.ownBlock = some k → v3.ownBlock ≠ some k := by
  refine Calls.mono (tcheck_any h hs hnil (fun _ => hR) (fun _ => hD) hc hcl hsz hcs) ?_
  rintro e w' ⟨hb, hq⟩
  refine ⟨hb, ?_⟩
  have hno : ∀ k, (pz).ownBlock = some k → (pz).ownBlock ≠ some k := fun k e => by cases e
  rcases hq with ⟨h1, _⟩ | ⟨_, h1, he⟩ | ⟨_, h1, ⟨h2, he⟩ | ⟨h2, vv, tv, rb, he, hrb, hr, hv, ht⟩⟩
  · exact absurd hok h1
  · have e : chkO P size cs nc = ⟨(ruZ P size cs nc).1, (ruZ P size cs nc).2, [], [], []⟩ := if_pos h1
    rw [e]
    exact ⟨pz, pz, pz, w.heap.size, w.heap.size, w.heap.size, he, ⟨Nat.le_refl _, Nat.le_refl _, Nat.le_refl _⟩, World.ownsRow_nil _ _ _ _, World.ownsRow_nil _ _ _ _, World.ownsRow_nil _ _ _ _, hno, hno, hno⟩
  · have e : chkO P size cs nc = ⟨((setN P.rows (vB P.rows size cs P.rows.length) P.rows.length).1 : Int), ((setN P.rows (vB P.rows size cs P.rows.length) P.rows.length).2 : Int), [], [], []⟩ := by unfold chkO; rw [if_neg (by rw [h1]; exact fun e => e rfl), if_pos h2]
    rw [e]
    exact ⟨pz, pz, pz, w.heap.size, w.heap.size, w.heap.size, he, ⟨Nat.le_refl _, Nat.le_refl _, Nat.le_refl _⟩, World.ownsRow_nil _ _ _ _, World.ownsRow_nil _ _ _ _, World.ownsRow_nil _ _ _ _, hno, hno, hno⟩
  · have e : chkO P size cs nc = ⟨0, 0, setV P.rows (vB P.rows size cs P.rows.length) P.rows.length, setT P.rows (vB P.rows size cs P.rows.length) P.rows.length, (List.range P.rows.length).map (setR P.rows (vB P.rows size cs P.rows.length) P.rows.length)⟩ := by unfold chkO; rw [if_neg (by rw [h1]; exact fun e => e rfl), if_neg (by rw [h2]; exact fun e => e rfl)]
    rw [e]
    have hlr := rowI_own hr (Nat.le_refl rb) hn9
    refine ⟨vv, tv, .slice (some ⟨rb, 0, none⟩) P.rows.length P.rows.length, rb + 1, rb + 1, rb, he, ⟨by omega, by omega, hrb⟩, hv, ht, by simpa using hlr, own_ne hv ht (by decide), fun k hk e => ?_, fun k hk e => ?_⟩
    · have h1 := (World.ownsRow.lt hv k hk).1
      have h2 : rb = k := Option.some.inj e
      omega
    · have h1 := (World.ownsRow.lt ht k hk).1
      have h2 : rb = k := Option.some.inj e
      omega
/-- what Check tells is put to the lists -/
theorem Ap.three {w w' : World} {pb j b1 b2 b3 n1 n2 n3 s1 s2 s3 : Nat} {T1 T2 T3 : TypeId} {v1 v2 v3 : Value} {x1 x2 x3 : List Value} {E : Nat → Option Ent} (h : Ap w pb E) (hb : Below w.heap.size w w') (hp : pb < w.heap.size) (hbs : w.heap.size ≤ b1 ∧ w.heap.size ≤ b2 ∧ w.heap.size ≤ b3)
    (o1 : w'.ownsRow b1 T1 s1 v1 n1 x1) (o2 : w'.ownsRow b2 T2 s2 v2 n2 x2) (o3 : w'.ownsRow b3 T3 s3 v3 n3 x3) (a12 : ∀ k, v1.ownBlock = some k → v2.ownBlock ≠ some k) (a13 : ∀ k, v1.ownBlock = some k → v3.ownBlock ≠ some k) (a23 : ∀ k, v2.ownBlock = some k → v3.ownBlock ≠ some k) :
    Ap w' pb (up (up (up E j (some ⟨b1, T1, s1, v1, n1, x1⟩)) (j + 1) (some ⟨b2, T2, s2, v2, n2, x2⟩)) (j + 2) (some ⟨b3, T3, s3, v3, n3, x3⟩)) := by
  have hold : ∀ i x, E i = some x → ∀ (b : Nat) (T : TypeId) (s : Nat) (v : Value) (n : Nat) (l : List Value), w.heap.size ≤ b → w'.ownsRow b T s v n l → ∀ k, x.v.ownBlock = some k → v.ownBlock ≠ some k := fun i x hx b T s v n l hbb ho k hk e => by
    have h1 := (World.ownsRow.lt (h.ow i x hx).2 k hk).2
    have h2 := (World.ownsRow.lt ho k e).1
    omega
  have q1 : Ap w' pb (up E j (some ⟨b1, T1, s1, v1, n1, x1⟩)) := h.add hb (by omega) hbs.1 o1 j
  have q2 := q1.turn (w' := w') (j := j + 1) (y := ⟨b2, T2, s2, v2, n2, x2⟩) ⟨by show pb < b2; omega, o2⟩ (fun i x hi hx k hk => ⟨rfl, by
    by_cases e : i = j
    · subst e; rw [up_same] at hx; cases hx; exact a12 k hk
    · rw [up_ne e] at hx; exact hold i x hx _ _ _ _ _ _ hbs.2.1 o2 k hk⟩)
  exact q2.turn (w' := w') (j := j + 2) (y := ⟨b3, T3, s3, v3, n3, x3⟩) ⟨by show pb < b3; omega, o3⟩ (fun i x hi hx k hk => ⟨rfl, by
    by_cases e2 : i = j + 1
    · subst e2; rw [up_same] at hx; cases hx; exact a23 k hk
    · rw [up_ne e2] at hx
      by_cases e : i = j
      · subst e; rw [up_same] at hx; cases hx; exact a13 k hk
      · rw [up_ne e] at hx; exact hold i x hx _ _ _ _ _ _ hbs.2.2 o3 k hk⟩)
end Go.Proofs.YtnpdblcfhbamiaaGreat.Nm.Ty
namespace Go.Proofs.YtnpdblcfhbamiaaGreat.Nm
open Go.RowKit Go.Maps Go.Proofs.YtnpdblcfhbamiaaGreat.Sp Go.Proofs.YtnpdblcfhbamiaaGreat.Lx Go.Proofs.YtnpdblcfhbamiaaGreat.Gr
/-- two lists of numbers -/
theorem same17 {w : World} {ao bo : Option Addr} {l m : List Int} {ca cb : Nat} (ha : IsVals w ao (iv l)) (hb : IsVals w bo (iv m)) (hn : l.length ≤ 17592186043904) :
    Calls Tryz.prog 8 #[.slice ao l.length ca, .slice bo m.length cb] w fun e w' => (∃ b, e = .returned (.bool b) ∧ (b = true ↔ l = m)) ∧ Below w.heap.size w w' := by
  by_cases hlen : l.length = m.length
  · have HA := show Hid _ from ha
    have HB := show Hid _ from hb
    have HLn := show Hid _ from hlen
    have hn2 : (l.length : Int) ≤ 17592186043904 := by omega
    have hne : ((l.length : Int) != (l.length : Int)) = false := by simp
    rw [← hlen]
    clear ha hb hlen
    go_enter Tryz.func8, Tryz.ntmps8
    go_wp2_with fail
    go_loopg [5] l.length (fun gq x wr => ∃ k : Nat, k + gq = l.length ∧ x = .int .i64 (k : Int) ∧ l.take k = m.take k ∧ Below w.heap.size w wr)
    case atStart => exact ⟨0, by omega, rfl, rfl, Below.refl _ _⟩
    case round =>
      obtain ⟨k, hkg, rfl, htk, hbw⟩ := hrel
      have HG : Hid (k + gk = l.length ∧ Below w.heap.size w wr ∧ l.take k = m.take k) := ⟨hkg, hbw, htk⟩
      by_cases hlt : k < l.length
      · have hk' : (k : Int) < (l.length : Int) := by omega
        have hk2 : (k : Int) ≤ 17592186043904 := by omega
        have hlm : k < m.length := by have := HLn.out; omega
        have hx : (iv l)[k]? = some (.int .i64 l[k]) := by rw [List.getElem?_map, List.getElem?_eq_getElem hlt]; rfl
        have hy : (iv m)[k]? = some (.int .i64 m[k]) := by rw [List.getElem?_map, List.getElem?_eq_getElem hlm]; rfl
        obtain ⟨g, o, rfl, _, d0⟩ := (IsVals.below HA.out hbw) k _ hx
        obtain ⟨g', o', rfl, _, e0⟩ := (IsVals.below HB.out hbw) k _ hy
        have HSame : Hid (l[k] = m[k] → l.take (k + 1) = m.take (k + 1)) := fun e => by rw [List.take_add_one, List.take_add_one, HG.out.2.2, List.getElem?_eq_getElem hlt, List.getElem?_eq_getElem hlm, e]
        have HDiff : Hid (l[k] ≠ m[k] → l ≠ m) := fun e h => e (by subst h; rfl)
        clear hx hy
        generalize l[k] = x at *
        generalize m[k] = y at *
        have HLt : Hid (k < l.length) := hlt
        clear hkg hlt hbw htk hlm
        by_cases hxy : x = y
        · subst hxy
          have HS : Hid (l.take (k + 1) = m.take (k + 1)) := HSame.out rfl
          clear HSame HDiff
          have hq : (x != x) = false := by simp
          go_wp2_with fail
          go_quiet (fail)
          go_wp2_with fail
          go_roundg (l.length - (k + 1))
          case measure => have := HG.out.1; have := HLt.out; omega
          case rel => exact ⟨k + 1, by have := HLt.out; omega, by go_num, HS.out, HG.out.2.1.trans ((below_drewN _ _).mono HG.out.2.1.size)⟩
        · have HD : Hid (l ≠ m) := HDiff.out hxy
          clear HSame HDiff
          have hq : (x != y) = true := by simp [hxy]
          go_wp2_with fail
          go_quiet (fail)
          go_wp2
          go_ret
          exact ⟨⟨false, rfl, by simp [HD.out]⟩, HG.out.2.1.trans ((below_drewN _ _).mono HG.out.2.1.size)⟩
      · have hk' : decide (k < l.length) = false := decide_eq_false hlt
        have HE : Hid (l = m) := by
          have hke : k = l.length := by omega
          rw [hke, List.take_length, HLn.out, List.take_length] at htk
          exact htk
        clear hkg hlt hbw htk
        go_wp2
        go_ret
        exact ⟨⟨true, rfl, by simp [HE.out]⟩, HG.out.2.1⟩
  · have hne : ((l.length : Int) != (m.length : Int)) = true := by simp; omega
    have HD : Hid (l ≠ m) := fun e => hlen (by rw [e])
    clear ha hb hlen hn
    go_enter Tryz.func8, Tryz.ntmps8
    go_wp2
    go_ret
    exact ⟨⟨false, rfl, by simp [HD.out]⟩, Below.refl _ _⟩
end Go.Proofs.YtnpdblcfhbamiaaGreat.Nm
namespace Go.Proofs.YtnpdblcfhbamiaaGreat.Nm.Ty
open Go.RowKit Go.Maps Go.Proofs.YtnpdblcfhbamiaaGreat.Sp Go.Proofs.YtnpdblcfhbamiaaGreat.Lx Go.Proofs.YtnpdblcfhbamiaaGreat.Gr Go.Proofs.YtnpdblcfhbamiaaGreat.Nm
/-- the other capacities, when k of them are looked at -/
def dLst (l : List Rz) (ql ml : List Int) (k : Nat) : List Int := (List.range ql.length).map fun i => if i < k ∧ i < ml.length ∧ capN l i = false then ml.getD i 0 else ql.getD i 0
theorem dL_len (l : List Rz) (ql ml : List Int) (k : Nat) : (dLst l ql ml k).length = ql.length := by simp [dLst]
theorem dL_at {l : List Rz} {ql ml : List Int} {k i : Nat} (hi : i < ql.length) : (dLst l ql ml k)[i]? = some (if i < k ∧ i < ml.length ∧ capN l i = false then ml.getD i 0 else ql.getD i 0) := by simp [dLst, hi]
theorem dL_zero (l : List Rz) (ql ml : List Int) : dLst l ql ml 0 = ql := by
  apply List.ext_getElem?
  intro i
  by_cases hi : i < ql.length
  · rw [dL_at hi, if_neg (by omega), List.getElem?_eq_getElem hi]
    simp [List.getD_eq_getElem?_getD, List.getElem?_eq_getElem hi]
  · rw [List.getElem?_eq_none (by rw [dL_len]; omega), List.getElem?_eq_none (by omega)]
theorem dL_keep {l : List Rz} {ql ml : List Int} {k : Nat} (h : capN l k = true) : dLst l ql ml (k + 1) = dLst l ql ml k := by
  unfold dLst
  apply List.map_congr_left
  intro i _
  by_cases e : i = k
  · subst e
    rw [if_neg (by rw [h]; rintro ⟨_, _, h⟩; cases h), if_neg (by omega)]
  · have : (i < k + 1 ∧ i < ml.length ∧ capN l i = false) ↔ (i < k ∧ i < ml.length ∧ capN l i = false) := by constructor <;> rintro ⟨a, b, c⟩ <;> exact ⟨by omega, b, c⟩
    simp only [this]
theorem dL_put {l : List Rz} {ql ml : List Int} {k : Nat} (h : capN l k = false) (hk : k < ql.length) (hm : k < ml.length) : dLst l ql ml (k + 1) = (dLst l ql ml k).set k (ml.getD k 0) := by
  apply List.ext_getElem?
  intro i
  by_cases hi : i < ql.length
  · by_cases e : i = k
    · subst e
      rw [dL_at hi, if_pos ⟨by omega, hm, h⟩, List.getElem?_set_self (by rw [dL_len]; exact hk)]
    · rw [List.getElem?_set_ne (Ne.symm e), dL_at hi, dL_at hi]
      have : (i < k + 1 ∧ i < ml.length ∧ capN l i = false) ↔ (i < k ∧ i < ml.length ∧ capN l i = false) := by constructor <;> rintro ⟨a, b, c⟩ <;> exact ⟨by omega, b, c⟩
      simp only [this]
  · rw [List.getElem?_eq_none (by rw [dL_len]; omega), List.getElem?_eq_none (by rw [List.length_set, dL_len]; omega)]
theorem dL_end {l : List Rz} {ql ml : List Int} {k : Nat} (h : ¬ (k < ql.length ∧ k < ml.length)) : dLst l ql ml k = dLst l ql ml ql.length := by
  unfold dLst
  apply List.map_congr_left
  intro i hi
  have hi' : i < ql.length := by simpa using hi
  have : (i < k ∧ i < ml.length ∧ capN l i = false) ↔ (i < ql.length ∧ i < ml.length ∧ capN l i = false) := by constructor <;> rintro ⟨a, b, c⟩ <;> exact ⟨by omega, b, c⟩
  simp only [this]
theorem iv_fL (l : List Int) : iv l = fL l.length (fun i => .int .i64 (l.getD i 0)) := by
  apply List.ext_getElem?
  intro i
  by_cases hi : i < l.length
  · rw [fL_at hi]
    simp [iv, List.getD_eq_getElem?_getD, List.getElem?_eq_getElem hi]
  · rw [List.getElem?_eq_none (by simp [iv]; omega), List.getElem?_eq_none (by simp [fL]; omega)]
theorem in_getD {l : List Int} (h : ∀ n ∈ l, in64 n) (i : Nat) : in64 (l.getD i 0) := by
  by_cases hi : i < l.length
  · rw [List.getD_eq_getElem?_getD, List.getElem?_eq_getElem hi]
    exact h _ (List.getElem_mem hi)
  · rw [List.getD_eq_getElem?_getD, List.getElem?_eq_none (by omega)]
    exact ⟨by decide, by decide⟩
theorem dL_in {l : List Rz} {ql ml : List Int} (h1 : ∀ n ∈ ql, in64 n) (h2 : ∀ n ∈ ml, in64 n) (k : Nat) : ∀ n ∈ dLst l ql ml k, in64 n := by
  intro n hn
  simp only [dLst, List.mem_map] at hn
  obtain ⟨i, _, rfl⟩ := hn
  split
  · exact in_getD h2 i
  · exact in_getD h1 i
/-- a named queue's capacity is kept -/
theorem dL_named {l : List Rz} {ql ml : List Int} {k i : Nat} (h : capN l i = true) : (dLst l ql ml k).getD i 0 = ql.getD i 0 := by
  by_cases hi : i < ql.length
  · rw [List.getD_eq_getElem?_getD, dL_at hi, if_neg (by rw [h]; rintro ⟨_, _, h⟩; cases h)]
    rfl
  · rw [List.getD_eq_getElem?_getD, List.getElem?_eq_none (by rw [dL_len]; omega), List.getD_eq_getElem?_getD, List.getElem?_eq_none (by omega)]
/-- the law, as numbers -/
theorem sizes_same {P : Pg} (hR : Rdy P) (hD : Rdc P) (csz sz2 : Int) (ql ml : List Int) (h1 : (chkO P csz (fun i => ql.getD i 0) ql.length).e ≠ 45) (h2 : (chkO P (if sizN P.rows = true then csz else sz2) (fun i => (dLst P.rows ql ml ql.length).getD i 0) ql.length).e ≠ 45) : chkO P csz (fun i => ql.getD i 0) ql.length = chkO P (if sizN P.rows = true then csz else sz2) (fun i => (dLst P.rows ql ml ql.length).getD i 0) ql.length := by
  refine chkO_same hR.n (fun i hi hk => ?_) (fun i hi hk => ?_) h1 h2
  · by_cases h : sizN P.rows = true
    · rw [if_pos h]
    · exact absurd hk (sizN_no (by simpa using h) hi)
  · obtain ⟨m, hm, _⟩ := hD.c i hi hk
    have h : capN P.rows m = true := by
      cases hc : capN P.rows m with
      | true => rfl
      | false => exact absurd hm (capN_no hc hi hk)
    rw [hm, Int.toNat_natCast, dL_named h]
theorem own_putI {w : World} {base g cap n k : Nat} {l : List Int} {x : Int} (h : w.ownsRow base 3 1 (.slice (some ⟨g, 0, none⟩) n cap) n (iv l)) : (w.setCell ⟨g, k, none⟩ (.int .i64 x)).ownsRow base 3 1 (.slice (some ⟨g, 0, none⟩) n cap) n (iv (l.set k x)) ∧ w.frozen? ⟨g, k, none⟩ = false := by
  rcases h.2 with ⟨e, _⟩ | ⟨g', cap', cur, e, h1, h2, h3, h4, h5, h6⟩
  · cases e
  · cases e
    refine ⟨⟨by simpa [iv] using h.1, Or.inr ⟨g, cap, cur.setIfInBounds k (.int .i64 x), rfl, h1, set_at h2 _ rfl, h3, h4, by simpa using h5, ?_⟩⟩, by simp only [World.frozen?, h2]; rfl⟩
    rw [Array.toList_setIfInBounds, List.take_set, h6]
    simp [iv, List.map_set]
end Go.Proofs.YtnpdblcfhbamiaaGreat.Nm.Ty
