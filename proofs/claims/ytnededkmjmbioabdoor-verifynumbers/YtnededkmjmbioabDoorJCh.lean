import Derived.Test.YtnededkmjmbioabDoorVfHead
import Derived.Test.YtnededkmjmbioabDoorVfFuOk
import Derived.Test.YtnededkmjmbioabDoorVfFuel2
import Derived.Test.YtnededkmjmbioabDoorVfLnd
import Derived.Test.YtnededkmjmbioabDoorVfWalk
namespace Go.Proofs.YtnededkmjmbioabDoor.Vf
open Go.RowKit Go.Proofs.YtnededkmjmbioabDoor.Nm
/-- a program that is not handed in apart -/
def farB (p : Pg) : Bool := decide (100 < p.gh.length) || (decide (100 < p.vs.length) || (decide (100 < p.ts.length) || (decide (100 < p.on.length) || decide (524288 < p.cd.length))))
theorem farB_not {p : Pg} (h : farB p = false) : p.gh.length ≤ 100 ∧ p.vs.length ≤ 100 ∧ p.ts.length ≤ 100 ∧ p.on.length ≤ 100 ∧ p.cd.length ≤ 524288 := by
  unfold farB at h
  simp only [Bool.or_eq_false_iff, decide_eq_false_iff_not] at h
  omega
set_option maxHeartbeats 3200000 in
set_option maxRecDepth 100000 in
/-- Far -/
theorem far_any (v : PV) (p : Pg) (w : World) : Calls Tryd.prog 6 #[.agg (pvC v p)] w fun e w' => e = .returned (.bool (farB p)) ∧ Below w.heap.size w w' := by
  obtain ⟨qo, qc, vo, vc, tto, tc, oo, oc, co, cc⟩ := v
  show Calls _ _ #[.agg #[.slice qo p.gh.length qc, .slice vo p.vs.length vc, .slice tto p.ts.length tc, .slice oo p.on.length oc, .int .i64 p.miss, .slice co p.cd.length cc]] _ _
  have hb : Below w.heap.size w (w.alloc (.cells #[.slice qo p.gh.length qc, .slice vo p.vs.length vc, .slice tto p.ts.length tc, .slice oo p.on.length oc, .int .i64 p.miss, .slice co p.cd.length cc] 27)) := (Below.refl _ w).alloc (Nat.le_refl _) _
  have HB : Hid (Below w.heap.size w (w.alloc (.cells #[.slice qo p.gh.length qc, .slice vo p.vs.length vc, .slice tto p.ts.length tc, .slice oo p.on.length oc, .int .i64 p.miss, .slice co p.cd.length cc] 27)) ∧ (w.alloc (.cells #[.slice qo p.gh.length qc, .slice vo p.vs.length vc, .slice tto p.ts.length tc, .slice oo p.on.length oc, .int .i64 p.miss, .slice co p.cd.length cc] 27)).heap[w.heap.size]? = some (.cells #[.slice qo p.gh.length qc, .slice vo p.vs.length vc, .slice tto p.ts.length tc, .slice oo p.on.length oc, .int .i64 p.miss, .slice co p.cd.length cc] 27 (0, 0))) := ⟨hb, heap_alloc_new _ _⟩
  clear hb
  obtain ⟨R, hR⟩ : ∃ R, R = farB p := ⟨_, rfl⟩
  rw [← hR]
  have HR : Hid (R = farB p) := hR
  clear hR
  go_enter Tryd.func6, Tryd.ntmps6
  go_upto_region 1 with fail
  generalize w.alloc (.cells #[.slice qo p.gh.length qc, .slice vo p.vs.length vc, .slice tto p.ts.length tc, .slice oo p.on.length oc, .int .i64 p.miss, .slice co p.cd.length cc] 27) = W0 at *
  obtain ⟨i0, i1, i2, i3, i4, i5⟩ := cells6 HB.out.2
  by_cases h1 : 100 < p.gh.length
  · have k1 : (100 : Int) < (p.gh.length : Int) := by omega
    have e : R = true := by rw [HR.out]; unfold farB; simp [h1]
    subst e
    clear h1
    go_wp2_with fail
    go_ret
    exact ⟨rfl, HB.out.1⟩
  · have k1 : decide ((100 : Int) < (p.gh.length : Int)) = false := by rw [decide_eq_false_iff_not]; omega
    by_cases h2 : 100 < p.vs.length
    · have k2 : (100 : Int) < (p.vs.length : Int) := by omega
      have e : R = true := by rw [HR.out]; unfold farB; simp [h2]
      subst e
      clear h2
      go_wp2_with fail
      go_ret
      exact ⟨rfl, HB.out.1⟩
    · have k2 : decide ((100 : Int) < (p.vs.length : Int)) = false := by rw [decide_eq_false_iff_not]; omega
      by_cases h3 : 100 < p.ts.length
      · have k3 : (100 : Int) < (p.ts.length : Int) := by omega
        have e : R = true := by rw [HR.out]; unfold farB; simp [h3]
        subst e
        clear h3
        go_wp2_with fail
        go_ret
        exact ⟨rfl, HB.out.1⟩
      · have k3 : decide ((100 : Int) < (p.ts.length : Int)) = false := by rw [decide_eq_false_iff_not]; omega
        by_cases h4 : 100 < p.on.length
        · have k4 : (100 : Int) < (p.on.length : Int) := by omega
          have e : R = true := by rw [HR.out]; unfold farB; simp [h4]
          subst e
          clear h4
          go_wp2_with fail
          go_ret
          exact ⟨rfl, HB.out.1⟩
        · have k4 : decide ((100 : Int) < (p.on.length : Int)) = false := by rw [decide_eq_false_iff_not]; omega
          by_cases h5 : 524288 < p.cd.length
          · have k5 : (524288 : Int) < (p.cd.length : Int) := by omega
            have e : R = true := by rw [HR.out]; unfold farB; simp [h5]
            subst e
            clear h5
            go_wp2_with fail
            go_ret
            exact ⟨rfl, HB.out.1⟩
          · have k5 : decide ((524288 : Int) < (p.cd.length : Int)) = false := by rw [decide_eq_false_iff_not]; omega
            have e : R = false := by rw [HR.out]; unfold farB; simp [h1, h2, h3, h4, h5]
            subst e
            clear h5
            go_wp2_with fail
            go_ret
            exact ⟨rfl, HB.out.1⟩
end Go.Proofs.YtnededkmjmbioabDoor.Vf

namespace Go.Proofs.YtnededkmjmbioabDoor.Vf
open Go.RowKit Go.Proofs.YtnededkmjmbioabDoor.Nm

/-- two programs that differ in numbers of INum, IBool and ILoop alone -/
structure Sim (p q : Pg) : Prop where
  gh : q.gh = p.gh
  vs : q.vs = p.vs
  ts : q.ts = p.ts
  on : q.on = p.on
  miss : q.miss = p.miss
  len : q.cd.length = p.cd.length
  op : ∀ k, (q.at k).op = (p.at k).op
  ch : ∀ k, (p.at k).op ≠ 1 → (p.at k).op ≠ 2 → (p.at k).op ≠ 24 → q.at k = p.at k
  ins : ∀ k, k < p.cd.length → insF p (q.at k) = insF p (p.at k)
theorem Sim.insF {p q : Pg} (h : Sim p q) (x : Ins) : Vf.insF q x = Vf.insF p x := by
  unfold Vf.insF inK hiK
  rw [h.gh, h.vs, h.ts, h.len]
theorem Sim.ghA {p q : Pg} (h : Sim p q) (n : Int) : Vf.ghA q n = Vf.ghA p n := by unfold Vf.ghA; rw [h.gh]
theorem Sim.evs {p q : Pg} (h : Sim p q) : Vf.evs q = Vf.evs p := by unfold Vf.evs; rw [h.on, h.miss]
theorem first_same {f f' : Ins → Nat} : ∀ (l m : List Ins), m.length = l.length → (∀ k, k < l.length → f' (m.getD k Ins.zero) = f (l.getD k Ins.zero)) → firstE f' m = firstE f l
  | [], [], _, _ => rfl
  | [], _ :: _, h, _ => by simp at h
  | _ :: _, [], h, _ => by simp at h
  | x :: l, y :: m, h, hf => by
    have h0 : f' y = f x := hf 0 (by simp)
    have ih := first_same (f := f) (f' := f') l m (by simpa using h) (fun k hk => by simpa using hf (k + 1) (by simpa using hk))
    unfold firstE
    rw [h0, ih]
theorem Sim.chk {p q : Pg} (h : Sim p q) : Vf.chk q = Vf.chk p := by
  have e1 : tabF q = tabF p := by unfold tabF; rw [h.gh, h.vs, h.ts]
  have e2 : plcF q = plcF p := by unfold plcF plcI; rw [h.gh, h.on, h.miss, h.len]
  unfold Vf.chk
  rw [e1, e2, first_same (f := Vf.insF p) p.cd q.cd h.len (fun k hk => by rw [h.insF]; exact h.ins k hk)]
theorem Sim.turn {p q : Pg} (h : Sim p q) (n : Int) : isTurn q n = isTurn p n := by unfold isTurn; rw [h.len, h.op]
theorem Sim.goTo {p q : Pg} (h : Sim p q) (i : Nat) (n : Int) : Vf.goTo q i n = Vf.goTo p i n := by unfold Vf.goTo; rw [h.turn]
/-- the ops of which a number may have turned -/
theorem Sim.cases {p q : Pg} (h : Sim p q) (k : Nat) : q.at k = p.at k ∨ ((q.at k).op = (p.at k).op ∧ ((p.at k).op = 1 ∨ (p.at k).op = 2 ∨ (p.at k).op = 24)) := by
  by_cases h1 : (p.at k).op = 1
  · exact .inr ⟨h.op k, .inl h1⟩
  · by_cases h2 : (p.at k).op = 2
    · exact .inr ⟨h.op k, .inr (.inl h2)⟩
    · by_cases h3 : (p.at k).op = 24
      · exact .inr ⟨h.op k, .inr (.inr h3)⟩
      · exact .inl (h.ch k h1 h2 h3)
theorem Sim.hold {p q : Pg} (h : Sim p q) (k hd : Nat) : holdB q hd (q.at k) = holdB p hd (p.at k) := by
  unfold holdB
  rcases h.cases k with e | ⟨e, e1 | e1 | e1⟩
  · rw [e, h.ghA]
  all_goals rw [e, e1]; rfl
theorem Sim.bring {p q : Pg} (h : Sim p q) (k : Nat) : bringB q (q.at k) = bringB p (p.at k) := by
  unfold bringB
  rcases h.cases k with e | ⟨e, e1 | e1 | e1⟩
  · rw [e, h.ghA, h.ghA]
  all_goals rw [e, e1]; rfl
theorem Sim.behS {p q : Pg} (h : Sim p q) (k : Nat) (s : Sd) : Vf.behS q s (q.at k) = Vf.behS p s (p.at k) := by
  unfold Vf.behS handBeh
  rcases h.cases k with e | ⟨e, e1 | e1 | e1⟩
  · rw [e, h.ghA]
  all_goals rw [e, e1]; rfl
/-- the innermost loops are told by ITurns -/
def TnOk (p : Pg) (g : Nat → Option Sd) (n : Int) : Prop := n = -1 ∨ (0 ≤ n ∧ (p.at n.toNat).op = 25 ∧ ∃ t, g n.toNat = some t)
def Tns (p : Pg) (g : Nat → Option Sd) : Prop := ∀ k s, g k = some s → TnOk p g s.turn
theorem TnOk.upd {p : Pg} {g : Nat → Option Sd} {n : Int} (h : TnOk p g n) {k : Nat} {s : Sd} (hk : g k = none) : TnOk p (upd g k s) n :=
  h.imp id (fun ⟨a, b, t, c⟩ => ⟨a, b, t, upd_some hk c⟩)
theorem Sim.go {p q : Pg} (h : Sim p q) {g : Nat → Option Sd} {i : Nat} {s : Sd} (ht : TnOk p g s.turn) : goB q g i s = goB p g i s := by
  unfold goB
  dsimp only
  rcases h.cases i with e | ⟨e, e1 | e1 | e1⟩
  · rw [e, h.goTo, h.turn, h.op, h.evs]
    by_cases h26 : (p.at i).op = 26
    · rw [h26]
      rcases ht with ht | ⟨-, ht, -⟩
      · rw [ht]; simp
      · rw [h.ch _ (by omega) (by omega) (by omega)]
    · simp only [h26, if_false]
  all_goals rw [e, e1]
  · rfl
  · rfl
  · rw [h.turn]; rfl
theorem Sim.look {p q : Pg} (h : Sim p q) {g : Nat → Option Sd} {i : Nat} (ht : Tns p g) : lookN q g i = lookN p g i := by
  unfold lookN
  cases hg : g i with
  | none => rfl
  | some s =>
    dsimp only
    rw [h.hold, h.op, h.bring, h.go (ht i s hg)]
theorem Sim.ways {p q : Pg} (h : Sim p q) {g : Nat → Option Sd} {i : Nat} (s : Sd) : waysL q g i s = waysL p g i s := by
  unfold waysL
  dsimp only
  rw [h.behS, h.op]
  rcases h.cases i with e | ⟨-, e1 | e1 | e1⟩
  · rw [e]
  all_goals rw [e1]; rfl
theorem Sim.step {p q : Pg} (h : Sim p q) {g : Nat → Option Sd} {i : Nat} (ht : Tns p g) : stepP q g i = stepP p g i := by
  unfold stepP
  rw [h.look ht, h.len]
  cases g i with
  | none => rfl
  | some s => dsimp only; rw [h.ways]
theorem give_tns {p : Pg} {n : Nat} : ∀ (l : List (Int × Sd)) (g g' : Nat → Option Sd), Tns p g → (∀ x ∈ l, TnOk p g x.2.turn) → giveW n l g = .ok g' → Tns p g'
  | [], g, g', hg, _, h => by cases h; exact hg
  | (k, s) :: l, g, g', hg, hl, h => by
    unfold giveW at h
    split at h
    · cases h
    · cases hk : g k.toNat with
      | none =>
        rw [hk] at h
        dsimp only at h
        refine give_tns l _ g' (fun j t hj => ?_) (fun x hx => (hl x (by simp [hx])).upd hk) h
        unfold upd at hj
        split at hj
        · cases hj; exact (hl (k, s) (by simp)).upd hk
        · exact (hg j t hj).upd hk
      | some t =>
        rw [hk] at h
        dsimp only at h
        split at h
        · exact give_tns l g g' hg (fun x hx => hl x (by simp [hx])) h
        · cases h
theorem step_tns {p : Pg} {g g' : Nat → Option Sd} {i : Nat} (ht : Tns p g) (h : stepP p g i = .ok g') : Tns p g' := by
  unfold stepP at h
  split at h
  · rename_i hl
    obtain ⟨s, hs⟩ := look_some_of hl
    obtain ⟨-, hgo⟩ := look_fits hs hl
    rw [hs] at h
    dsimp only at h
    refine give_tns _ g g' ht (fun x hx => ?_) h
    have hts := ht i s hs
    unfold waysL at hx
    dsimp only at hx
    split at hx
    · cases hx
    · split at hx
      · rw [List.mem_singleton] at hx; rw [hx]; exact hts
      · split at hx
        · rcases List.mem_cons.1 hx with hx | hx
          · rw [hx]; exact hts
          · rw [List.mem_singleton] at hx; rw [hx]; exact hts
        · split at hx
          · rename_i h25
            rcases List.mem_cons.1 hx with hx | hx
            · rw [hx]
              exact .inr ⟨by show 0 ≤ (i : Int); omega, by show (p.at ((i : Int).toNat)).op = 25; rw [Int.toNat_natCast]; exact h25, s, by show g ((i : Int).toNat) = some s; rw [Int.toNat_natCast]; exact hs⟩
            · rw [List.mem_singleton] at hx; rw [hx]; exact hts
          · split at hx
            · rename_i h26
              rcases List.mem_cons.1 hx with hx | hx
              · rw [hx]; exact hts
              · rw [List.mem_singleton] at hx
                rw [hx]
                have hne := go_turn hgo h26
                rcases hts with e | ⟨e1, e2, t, e3⟩
                · exact absurd e hne
                · show TnOk p g (tnAt g s.turn)
                  unfold tnAt
                  rw [e3]
                  exact ht _ t e3
            · rw [List.mem_singleton] at hx; rw [hx]; exact hts
  · cases h
theorem Sim.walk {p q : Pg} (h : Sim p q) : ∀ (k i : Nat) (g : Nat → Option Sd), Tns p g → walkP q k i g = walkP p k i g
  | 0, _, _, _ => rfl
  | k + 1, i, g, ht => by
    unfold walkP
    rw [h.step ht]
    cases hs : stepP p g i with
    | error e => rfl
    | ok g' => exact h.walk k (i + 1) g' (step_tns ht hs)
theorem got0_tns (p : Pg) : Tns p (got0 p) := by
  have key : ∀ (l : List Int) (g : Nat → Option Sd), (∀ k s, g k = some s → s = freshS) → ∀ k s, l.foldl put0 g k = some s → s = freshS := by
    intro l
    induction l with
    | nil => exact fun g hg => hg
    | cons n l ih =>
      intro g hg
      refine ih (put0 g n) (fun k s hs => ?_)
      unfold put0 at hs
      split at hs
      · exact hg k s hs
      · unfold upd at hs
        split at hs
        · exact (Option.some.inj hs).symm
        · exact hg k s hs
  intro k s hs
  rw [key (Vf.evs p) (fun _ => none) (fun _ _ h => by cases h) k s hs]
  exact .inl rfl
theorem Sim.walk0 {p q : Pg} (h : Sim p q) : walkP q q.cd.length 0 (got0 q) = walkP p p.cd.length 0 (got0 p) := by
  have e : got0 q = got0 p := by unfold got0; rw [h.evs]
  rw [e, h.len]
  exact h.walk _ _ _ (got0_tns p)
/-- behind an ILoop stands an ITurn -/
theorem loop_turn {p : Pg} {g g' : Nat → Option Sd} (h : walkP p p.cd.length 0 g = .ok g') {i : Nat} (hi : i < p.cd.length) (h24 : (p.at i).op = 24) : (p.at (i + 1)).op = 25 := by
  obtain ⟨g1, g2, hs⟩ := walk_steps _ _ _ _ h i (Nat.zero_le _) (by omega)
  have ht := step_turn hs h24
  unfold isTurn at ht
  simp only [Bool.and_eq_true, decide_eq_true_eq] at ht
  have := ht.2
  rwa [show ((i : Int) + 1).toNat = i + 1 by omega] at this
/-- the rounds are the same: the same fuel -/
theorem Sim.fuR {p q : Pg} (h : Sim p q) {g g' : Nat → Option Sd} (hw : walkP p p.cd.length 0 g = .ok g') (h24 : ∀ k, (p.at k).op = 24 → q.at k = p.at k) : ∀ j, j ≤ p.cd.length → ∀ k, Vf.fuR q j k = Vf.fuR p j k
  | 0, _, _ => rfl
  | j + 1, hj, k => by
    have ih := h.fuR hw h24 j (by omega)
    have hb : ∀ i, i < p.cd.length → fuB q (Vf.fuR q j) i = fuB p (Vf.fuR p j) i := fun i hi => by
      have e0 : Vf.fuR q j = Vf.fuR p j := funext ih
      rw [e0]
      unfold fuB
      dsimp only
      by_cases e24 : (p.at i).op = 24
      · have e25 := loop_turn hw hi e24
        rw [h24 i e24, h.ch (i + 1) (by omega) (by omega) (by omega)]
      · rcases h.cases i with e | ⟨e, e1 | e1 | e1⟩
        · rw [e]
          simp only [e24, if_false]
        · rw [e, e1]; rfl
        · rw [e, e1]; rfl
        · exact absurd e1 e24
    show (if k = q.cd.length - 1 - j then sm 1 (fuB q (Vf.fuR q j) (q.cd.length - 1 - j)) else Vf.fuR q j k) = (if k = p.cd.length - 1 - j then sm 1 (fuB p (Vf.fuR p j) (p.cd.length - 1 - j)) else Vf.fuR p j k)
    rw [h.len, ih k, hb _ (by omega)]
theorem Sim.cst {p q : Pg} (h : Sim p q) {g g' : Nat → Option Sd} (hw : walkP p p.cd.length 0 g = .ok g') (h24 : ∀ k, (p.at k).op = 24 → q.at k = p.at k) (n : Int) : Vf.cst q n = Vf.cst p n := by
  unfold Vf.cst fuel
  rw [h.len, h.fuR hw h24 _ (Nat.le_refl _)]
theorem cost_same {p q : Pg} (hc : ∀ n, Vf.cst q n = Vf.cst p n) : ∀ l, costF q l = costF p l
  | [] => rfl
  | n :: l => by
    unfold costF
    rw [hc, cost_same hc l]
/-- other numbers: the same is told -/
theorem Sim.judge {p q : Pg} (h : Sim p q) (h24 : ∀ k, (p.at k).op = 24 → q.at k = p.at k) : Vf.judge q = Vf.judge p ∧ ∀ g, Vf.judge p = .ok g → ∀ n, Vf.cst q n = Vf.cst p n := by
  unfold Vf.judge
  rw [h.chk, h.walk0, h.evs]
  split
  · cases hw : walkP p p.cd.length 0 (got0 p) with
    | error e => exact ⟨rfl, fun g hg => by cases hg⟩
    | ok g' =>
      have hc := h.cst hw h24
      dsimp only
      rw [cost_same hc]
      exact ⟨rfl, fun g _ => hc⟩
  · exact ⟨rfl, fun g hg => by cases hg⟩
/-- sums and products rise with their parts -/
theorem tm_min {a b : Int} (ha : 0 ≤ a) : tm a b = if 4611686018427387904 < a * b then 4611686018427387904 else a * b := by
  unfold tm
  by_cases h0 : 0 < a
  · by_cases h : 4611686018427387904 / a < b
    · have h1 : 4611686018427387904 < b * a := (Int.ediv_lt_iff_lt_mul h0).1 h
      rw [if_pos ⟨h0, h⟩, Int.mul_comm a b, if_pos h1]
    · have h1 : ¬ 4611686018427387904 < b * a := fun h1 => h ((Int.ediv_lt_iff_lt_mul h0).2 h1)
      rw [if_neg (fun e => h e.2), Int.mul_comm a b, if_neg h1]
  · obtain rfl : a = 0 := by omega
    rw [if_neg (fun e => h0 e.1), Int.zero_mul, if_neg (by omega)]
theorem tm_mono {a b a' b' : Int} (ha : 0 ≤ a) (hb : 0 ≤ b) (h1 : a ≤ a') (h2 : b ≤ b') : tm a b ≤ tm a' b' := by
  have h3 : a * b ≤ a' * b' := Int.mul_le_mul h1 h2 hb (by omega)
  rw [tm_min ha, tm_min (by omega)]
  generalize a * b = x at h3
  generalize a' * b' = y at h3
  split <;> split <;> omega
theorem sm_mono {a b a' b' : Int} (h1 : a ≤ a') (h2 : b ≤ b') : sm a b ≤ sm a' b' := by
  unfold sm
  split <;> split <;> omega
/-- greater rounds: no less fuel -/
theorem Sim.fuR_le {p q : Pg} (h : Sim p q) {g g' : Nat → Option Sd} (hw : walkP p p.cd.length 0 g = .ok g') (hk : ∀ i, i < p.cd.length → OkI p (p.at i)) (hup : ∀ k, (p.at k).op = 24 → (p.at k).a ≤ (q.at k).a) : ∀ j, j ≤ p.cd.length → ∀ k, Vf.fuR p j k ≤ Vf.fuR q j k
  | 0, _, _ => Int.le_refl _
  | j + 1, hj, k => by
    have ih := h.fuR_le hw hk hup j (by omega)
    have h0 := Vf.fuR_le (fuOk_of hw hk) j (by omega)
    have hb : ∀ i, i < p.cd.length → fuB p (Vf.fuR p j) i ≤ fuB q (Vf.fuR q j) i := fun i hi => by
      unfold fuB
      dsimp only
      by_cases e24 : (p.at i).op = 24
      · have e25 := loop_turn hw hi e24
        have eq24 : (q.at i).op = 24 := by rw [h.op]; exact e24
        rw [h.ch (i + 1) (by omega) (by omega) (by omega)]
        simp only [e24, eq24]
        have hl := ((hk i hi).la e24).1
        refine sm_mono (tm_mono hl (sm_le (by omega) (h0 _).1).1 (hup i e24) (sm_mono (Int.le_refl _) (ih _))) (sm_mono (Int.le_refl _) (ih _))
      · rcases h.cases i with e | ⟨e, e1 | e1 | e1⟩
        · rw [e]
          simp only [e24, if_false]
          split
          · exact Int.le_refl _
          · split
            · exact ih _
            · split
              · have a1 := ih (i + 1)
                have a2 := ih (p.at i).a.toNat
                omega
              · exact ih _
        · rw [e, e1]; exact ih _
        · rw [e, e1]; exact ih _
        · exact absurd e1 e24
    show (if k = p.cd.length - 1 - j then sm 1 (fuB p (Vf.fuR p j) (p.cd.length - 1 - j)) else Vf.fuR p j k) ≤ (if k = q.cd.length - 1 - j then sm 1 (fuB q (Vf.fuR q j) (q.cd.length - 1 - j)) else Vf.fuR q j k)
    rw [h.len]
    split
    · exact sm_mono (Int.le_refl _) (hb _ (by omega))
    · exact ih k
theorem Sim.cst_le {p q : Pg} (h : Sim p q) {g g' : Nat → Option Sd} (hw : walkP p p.cd.length 0 g = .ok g') (hk : ∀ i, i < p.cd.length → OkI p (p.at i)) (hup : ∀ k, (p.at k).op = 24 → (p.at k).a ≤ (q.at k).a) (n : Int) : Vf.cst p n ≤ Vf.cst q n := by
  unfold Vf.cst fuel
  split
  · exact Int.le_refl _
  · rw [h.len]; exact h.fuR_le hw hk hup _ (Nat.le_refl _) _
theorem cost_up {p q : Pg} (hc : ∀ n, Vf.cst p n ≤ Vf.cst q n) : ∀ l, (∃ n, costF p l = some n) → ∃ n, costF q l = some n
  | [], ⟨_, h⟩ => by cases h
  | n :: l, ⟨m, h⟩ => by
    have := hc n
    unfold costF at h ⊢
    by_cases hq : 1152921504606846976 < Vf.cst q n
    · exact ⟨n, by rw [if_pos hq]⟩
    · rw [if_neg hq]
      rw [if_neg (by omega)] at h
      exact cost_up hc l ⟨m, h⟩
theorem give_ne {n : Nat} : ∀ (l : List (Int × Sd)) (g : Nat → Option Sd) (e : Nat), giveW n l g = .error e → e ≠ 0
  | [], _, _, h => by cases h
  | (k, s) :: l, g, e, h => by
    unfold giveW at h
    split at h
    · cases h; omega
    · cases hk : g k.toNat with
      | none => rw [hk] at h; exact give_ne l _ e h
      | some t =>
        rw [hk] at h
        dsimp only at h
        split at h
        · exact give_ne l _ e h
        · cases h; omega
theorem walk_ne {p : Pg} : ∀ (k i : Nat) (g : Nat → Option Sd) (e m : Nat), walkP p k i g = .error (e, m) → e ≠ 0
  | 0, _, _, _, _, h => by cases h
  | k + 1, i, g, e, m, h => by
    unfold walkP at h
    cases hs : stepP p g i with
    | ok g' => rw [hs] at h; exact walk_ne k _ g' e m h
    | error x =>
      rw [hs] at h
      cases h
      unfold stepP at hs
      split at hs
      · cases hg : g i with
        | none => rw [hg] at hs; cases hs
        | some s => rw [hg] at hs; exact give_ne _ _ _ hs
      · rename_i hl; cases hs; exact hl
/-- what is told with greater rounds -/
theorem Sim.rounds {p q : Pg} (h : Sim p q) (hup : ∀ k, (p.at k).op = 24 → (p.at k).a ≤ (q.at k).a) :
    (∃ e n, Vf.judge p = .error (e, n) ∧ e ≠ 0 ∧ (Vf.judge q = .error (e, n) ∨ (e = 97 ∧ ∃ m, Vf.judge q = .error (97, m)))) ∨
    (∃ g, Vf.judge p = .ok g ∧ ((∃ m, Vf.judge q = .error (97, m)) ∨ (∃ g', Vf.judge q = .ok g' ∧ ∀ n, Vf.cst p n ≤ Vf.cst q n))) := by
  by_cases hc : Vf.chk p = 0
  · cases hw : walkP p p.cd.length 0 (got0 p) with
    | error x =>
      obtain ⟨e, i⟩ := x
      have hp : Vf.judge p = .error (e, (i : Int)) := by unfold Vf.judge; rw [if_pos hc, hw]
      have hq : Vf.judge q = .error (e, (i : Int)) := by unfold Vf.judge; rw [h.chk, if_pos hc, h.walk0, hw]
      refine .inl ⟨e, i, hp, ?_, .inl hq⟩
      exact walk_ne _ _ _ _ _ hw
    | ok g =>
      have hcst := h.cst_le hw (chk_of hc).2.2.2 hup
      have hp : Vf.judge p = match costF p (Vf.evs p) with | some n => .error (97, n) | none => .ok g := by unfold Vf.judge; rw [if_pos hc, hw]; first | done | rfl
      have hq : Vf.judge q = match costF q (Vf.evs p) with | some n => .error (97, n) | none => .ok g := by unfold Vf.judge; rw [h.chk, if_pos hc, h.walk0, hw, h.evs]; first | done | rfl
      cases hcp : costF p (Vf.evs p) with
      | some n =>
        obtain ⟨m, hm⟩ := cost_up hcst (Vf.evs p) ⟨n, hcp⟩
        rw [hcp] at hp
        rw [hm] at hq
        exact .inl ⟨97, n, hp, by omega, .inr ⟨rfl, m, hq⟩⟩
      | none =>
        rw [hcp] at hp
        refine .inr ⟨g, hp, ?_⟩
        cases hcq : costF q (Vf.evs p) with
        | some m => rw [hcq] at hq; exact .inl ⟨m, hq⟩
        | none => rw [hcq] at hq; exact .inr ⟨g, hq, hcst⟩
  · have hp : Vf.judge p = .error (Vf.chk p, 0) := by unfold Vf.judge; rw [if_neg hc]
    have hq : Vf.judge q = .error (Vf.chk p, 0) := by unfold Vf.judge; rw [h.chk, if_neg hc]
    exact .inl ⟨_, _, hp, hc, .inl hq⟩
end Go.Proofs.YtnededkmjmbioabDoor.Vf

namespace Go.Proofs.YtnededkmjmbioabDoor.Vf
open Go.RowKit Go.Proofs.YtnededkmjmbioabDoor.Nm

/-- code of which the first j instructions have been turned by f -/
def chL (f : Nat → Ins → Ins) (cd : List Ins) (j : Nat) : List Ins := (List.range cd.length).map fun i => if i < j then f i (cd.getD i Ins.zero) else cd.getD i Ins.zero
theorem chL_len (f : Nat → Ins → Ins) (cd : List Ins) (j : Nat) : (chL f cd j).length = cd.length := by unfold chL; simp
theorem chL_get (f : Nat → Ins → Ins) (cd : List Ins) (j : Nat) {k : Nat} (hk : k < cd.length) : (chL f cd j)[k]? = some (if k < j then f k (cd.getD k Ins.zero) else cd.getD k Ins.zero) := by
  unfold chL
  rw [List.getElem?_map, List.getElem?_range hk]
  rfl
theorem chL_zero (f : Nat → Ins → Ins) (cd : List Ins) : chL f cd 0 = cd := by
  apply List.ext_getElem?
  intro k
  by_cases hk : k < cd.length
  · rw [chL_get f cd 0 hk, if_neg (by omega), List.getD_eq_getElem?_getD, List.getElem?_eq_getElem hk]
    rfl
  · rw [List.getElem?_eq_none (by rw [chL_len]; omega), List.getElem?_eq_none (by omega)]
theorem chL_set (f : Nat → Ins → Ins) (cd : List Ins) {j : Nat} (hj : j < cd.length) : (chL f cd j).set j (f j (cd.getD j Ins.zero)) = chL f cd (j + 1) := by
  apply List.ext_getElem?
  intro k
  by_cases hk : k < cd.length
  · rw [List.getElem?_set, chL_get f cd (j + 1) hk]
    by_cases e : j = k
    · subst e
      rw [if_pos rfl, if_pos (by rw [chL_len]; exact hj), if_pos (by omega)]
    · rw [if_neg e, chL_get f cd j hk]
      by_cases h : k < j
      · rw [if_pos h, if_pos (by omega)]
      · rw [if_neg h, if_neg (by omega)]
  · rw [List.getElem?_eq_none (by rw [List.length_set, chL_len]; omega), List.getElem?_eq_none (by rw [chL_len]; omega)]
theorem chL_same (f : Nat → Ins → Ins) (cd : List Ins) {j : Nat} (hj : j < cd.length) (h : f j (cd.getD j Ins.zero) = cd.getD j Ins.zero) : chL f cd (j + 1) = chL f cd j := by
  rw [← chL_set f cd hj, h]
  apply List.ext_getElem?
  intro k
  rw [List.getElem?_set]
  by_cases e : j = k
  · subst e
    rw [if_pos rfl, if_pos (by rw [chL_len]; exact hj), chL_get f cd j hj, if_neg (by omega)]
  · rw [if_neg e]
/-- the program with its code turned -/
def chP (f : Nat → Ins → Ins) (p : Pg) : Pg := ⟨p.gh, p.vs, p.ts, p.on, p.miss, chL f p.cd p.cd.length⟩
theorem chP_at (f : Nat → Ins → Ins) (p : Pg) (k : Nat) : (chP f p).at k = if k < p.cd.length then f k (p.at k) else p.at k := by
  show (chL f p.cd p.cd.length).getD k Ins.zero = _
  by_cases hk : k < p.cd.length
  · rw [List.getD_eq_getElem?_getD, chL_get f p.cd _ hk, if_pos hk, if_pos hk]
    rfl
  · rw [List.getD_eq_getElem?_getD, List.getElem?_eq_none (by rw [chL_len]; omega), if_neg hk]
    show Ins.zero = p.cd.getD k Ins.zero
    rw [List.getD_eq_getElem?_getD, List.getElem?_eq_none (by omega)]
    rfl
/-- an instruction's number is turned in memory -/
theorem cC_set (l : List Ins) {j : Nat} (hj : j < l.length) (a : Int) : (cC l).set (j * 5 + 1) (.int .i64 a) = cC (l.set j ⟨l[j].op, a, l[j].b, l[j].c, l[j].d⟩) := by
  induction l generalizing j with
  | nil => simp at hj
  | cons x l ih =>
    cases j with
    | zero => rfl
    | succ j =>
      have hj' : j < l.length := by simpa using hj
      have e2 : ∀ m, cC (x :: m) = [.int .i64 x.op, .int .i64 x.a, .int .i64 x.b, .int .i64 x.c, .int .i64 x.d] ++ cC m := fun m => rfl
      rw [List.set_cons_succ, e2 l, e2, List.set_append_right _ _ (by simp; omega)]
      rw [show (j + 1) * 5 + 1 - [Value.int .i64 x.op, .int .i64 x.a, .int .i64 x.b, .int .i64 x.c, .int .i64 x.d].length = j * 5 + 1 by simp; omega, ih hj']
      rfl
theorem Bk.turn {W : World} {g : Nat} {l : List Ins} {k : Nat} (h : Bk W g 39 (cC l) k) {j : Nat} (hj : j < l.length) (a : Int) : Bk (W.setCell ⟨g, j * 5 + 1, none⟩ (.int .i64 a)) g 39 (cC (l.set j ⟨l[j].op, a, l[j].b, l[j].c, l[j].d⟩)) k := by
  obtain ⟨rest, hl, hb⟩ := h
  refine ⟨rest, hl, ?_⟩
  rw [heap_setCell_same W g (j * 5 + 1) _ _ _ hb, ← cC_set l hj a]
  have hc : j * 5 + 1 < (cC l).length := by rw [cC_len]; omega
  rw [← List.set_append_left _ _ hc]
  simp
theorem Fg.set {b : Nat} (W : World) (i : Nat) (v : Value) : Fg b W (W.setCell ⟨b, i, none⟩ v) := ⟨rfl, rfl, rfl, by rw [size_set]; exact Nat.le_refl _, fun k _ hn => heap_setCell_other W ⟨b, i, none⟩ k v hn⟩
/-- with other rounds -/
def rdI (bl : List Int) (i : Nat) (x : Ins) : Ins := if x.op = 24 ∧ 0 ≤ x.a ∧ x.a ≤ 4194304 then ⟨x.op, x.a + (wtn (bl.getD (i % bl.length) 0) (4194304 - x.a + 1).toNat : Int), x.b, x.c, x.d⟩ else x
theorem rdI_sim (bl : List Int) (p : Pg) : Sim p (chP (rdI bl) p) ∧ ∀ k, (p.at k).op = 24 → (p.at k).a ≤ ((chP (rdI bl) p).at k).a := by
  have hat := chP_at (rdI bl) p
  have hop : ∀ k x, (rdI bl k x).op = x.op := fun k x => by unfold rdI; split <;> rfl
  have hge : ∀ k x, x.a ≤ (rdI bl k x).a := fun k x => by
    unfold rdI
    split
    · show x.a ≤ x.a + _; omega
    · exact Int.le_refl _
  refine ⟨⟨rfl, rfl, rfl, rfl, rfl, chL_len _ _ _, fun k => ?_, fun k _ _ h => ?_, fun k hk => ?_⟩, fun k _ => ?_⟩
  · rw [hat]; split
    · exact hop k _
    · rfl
  · rw [hat]; split
    · unfold rdI; rw [if_neg (fun e => h e.1)]
    · rfl
  · rw [hat, if_pos hk]
    unfold rdI
    split
    · rename_i h
      obtain ⟨h1, h2, h3⟩ := h
      have hlt := wtn_lt (bl.getD (k % bl.length) 0) (n := (4194304 - (p.at k).a + 1).toNat) (by omega)
      generalize wtn (bl.getD (k % bl.length) 0) (4194304 - (p.at k).a + 1).toNat = ww at hlt
      unfold insF
      dsimp only
      rw [h1]
      have e : kd4 (24 : Int).toNat = (7, 0, 0, 0) := rfl
      rw [e]
      have e1 : inK p 7 ((p.at k).a + (ww : Int)) = true := by unfold inK; simp [loK, hiK]; omega
      have e2 : inK p 7 (p.at k).a = true := by unfold inK; simp [loK, hiK]; omega
      rw [e1, e2]
    · rfl
  · rw [hat]; split
    · exact hge k _
    · exact Int.le_refl _
end Go.Proofs.YtnededkmjmbioabDoor.Vf
