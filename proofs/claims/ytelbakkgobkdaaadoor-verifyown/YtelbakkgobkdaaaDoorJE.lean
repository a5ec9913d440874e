import Derived.Test.YtelbakkgobkdaaaDoorJB
import Derived.Test.YtelbakkgobkdaaaDoorJC
import Derived.Test.YtelbakkgobkdaaaDoorVfInv
import Derived.Test.YtelbakkgobkdaaaDoorJA
import Derived.Test.YtelbakkgobkdaaaDoorVfNew2
import Derived.Test.YtelbakkgobkdaaaDoorVfCp
import Derived.Test.YtelbakkgobkdaaaDoorJD
import Derived.Test.YtelbakkgobkdaaaDoorVfSml
import Derived.Test.YtelbakkgobkdaaaDoorVfFuOk
import Derived.Deep.DeepCutAuto
import Derived.Test.YtelbakkgobkdaaaDoorVfTk
import Derived.Test.YtelbakkgobkdaaaDoorVfEv
import Derived.Test.YtelbakkgobkdaaaDoorVfHead
import Derived.Test.YtelbakkgobkdaaaDoorVfHgt
namespace Go.Proofs.YtelbakkgobkdaaaDoor.Vf
open Go.RowKit Go.Proofs.YtelbakkgobkdaaaDoor.Nm
/-- what the reference keeps: the standings' hands, and the loop around each open one -/
structure RIv (p : Pg) (g : Nat → Option Sd) (u : Nat → Int) : Prop where
  inv : Inv p g
  hd : ∀ k s, g k = some s → s.hand < 4
  up : ∀ k s, g k = some s → s.turn = -1 ∨ (0 ≤ s.turn ∧ ∃ t, g s.turn.toNat = some t ∧ u s.turn.toNat = t.turn)
structure ROk (p : Pg) (g : Nat → Option Sd) (u : Nat → Int) (x : Int × Sd) : Prop where
  wo : WOk p g x
  hd : x.2.hand < 4
  up : x.2.turn = -1 ∨ (0 ≤ x.2.turn ∧ ∃ t, g x.2.turn.toNat = some t ∧ u x.2.turn.toNat = t.turn)
theorem ROk.upd {p : Pg} {g : Nat → Option Sd} {u : Nat → Int} {x : Int × Sd} {k : Nat} {s : Sd} (h : ROk p g u x) (hk : g k = none) : ROk p (upd g k s) u x :=
  ⟨h.wo.upd hk, h.hd, h.up.imp id (fun ⟨h1, t, h2, h3⟩ => ⟨h1, t, upd_some hk h2, h3⟩)⟩
theorem RIv.upd {p : Pg} {g : Nat → Option Sd} {u : Nat → Int} {x : Int × Sd} (hI : RIv p g u) (h : ROk p g u x) (hl : x.1 < (p.cd.length : Int)) (hk : g x.1.toNat = none) : RIv p (upd g x.1.toNat x.2) u := by
  refine ⟨hI.inv.upd h.wo hl hk, fun j s hs => ?_, fun j s hs => ?_⟩
  · unfold Vf.upd at hs
    split at hs
    · cases hs; exact h.hd
    · exact hI.hd j s hs
  · have key : s.turn = -1 ∨ (0 ≤ s.turn ∧ ∃ t, g s.turn.toNat = some t ∧ u s.turn.toNat = t.turn) := by
      unfold Vf.upd at hs
      split at hs
      · cases hs; exact h.up
      · exact hI.up j s hs
    exact key.imp id (fun ⟨h1, t, h2, h3⟩ => ⟨h1, t, upd_some hk h2, h3⟩)
theorem RIv.set {p : Pg} {g : Nat → Option Sd} {u : Nat → Int} {i : Nat} {s : Sd} (hI : RIv p g u) (hs : g i = some s) : RIv p g (updU u i s.turn) :=
  ⟨hI.inv, hI.hd, fun k t ht => (hI.up k t ht).imp id (fun ⟨h1, t', h2, h3⟩ => ⟨h1, t', h2, by
    unfold updU
    split
    · rename_i e; rw [e, hs] at h2; cases h2; rfl
    · exact h3⟩)⟩
theorem handBeh_lt {p : Pg} {h : Nat} {x : Ins} (hh : h < 4) : handBeh p h x < 4 := by
  unfold handBeh
  split
  · split <;> omega
  · split
    · omega
    · split <;> omega
/-- the reference's ways are the program's -/
theorem goes_eq {p : Pg} {g : Nat → Option Sd} {u : Nat → Int} {i : Nat} {s : Sd} (hI : RIv p g u) (hs : g i = some s) (hg : goB p g i s = true) : goesL p u i (behS p s (p.at i)) = waysL p g i s := by
  unfold goesL waysL
  dsimp only
  by_cases h26 : (p.at i).op = 26
  · have e : u (behS p s (p.at i)).turn.toNat = tnAt g (behS p s (p.at i)).turn := by
      rcases hI.up i s hs with h1 | ⟨h1, t, h2, h3⟩
      · exact absurd h1 (go_turn hg h26)
      · show u s.turn.toNat = tnAt g s.turn
        unfold tnAt
        rw [h2]
        exact h3
    rw [e]
  · simp only [h26, if_false]
theorem goes_ok {p : Pg} {g : Nat → Option Sd} {u : Nat → Int} {i : Nat} {s : Sd} (hI : RIv p g u) (hi : i < p.cd.length) (hk : OkI p (p.at i)) (hs : g i = some s) (hf : fitsB s.ty (p.at i).op.toNat = true) (hg : goB p g i s = true) :
    ∀ x ∈ waysL p g i s, ROk p g (if (p.at i).op = 25 then updU u i s.turn else u) x := by
  intro x hx
  have hw := ways_ok hI.inv hi hk hs hf hg x hx
  have hI2 : RIv p g (if (p.at i).op = 25 then updU u i s.turn else u) := by
    split
    · exact hI.set hs
    · exact hI
  have hbase := hI2.up i s hs
  have hhd : (behS p s (p.at i)).hand < 4 := handBeh_lt (hI.hd i s hs)
  refine ⟨hw, ?_, ?_⟩
  · unfold waysL at hx
    dsimp only at hx
    split at hx
    · cases hx
    · split at hx
      · simp only [List.mem_cons, List.not_mem_nil, or_false] at hx; subst hx; exact hhd
      · split at hx
        · simp only [List.mem_cons, List.not_mem_nil, or_false] at hx; rcases hx with rfl | rfl <;> exact hhd
        · split at hx
          · simp only [List.mem_cons, List.not_mem_nil, or_false] at hx; rcases hx with rfl | rfl <;> exact hhd
          · split at hx
            · simp only [List.mem_cons, List.not_mem_nil, or_false] at hx; rcases hx with rfl | rfl <;> exact hhd
            · simp only [List.mem_cons, List.not_mem_nil, or_false] at hx; subst hx; exact hhd
  · unfold waysL at hx
    dsimp only at hx
    split at hx
    · cases hx
    · split at hx
      · simp only [List.mem_cons, List.not_mem_nil, or_false] at hx; subst hx; exact hbase
      · split at hx
        · simp only [List.mem_cons, List.not_mem_nil, or_false] at hx; rcases hx with rfl | rfl <;> exact hbase
        · split at hx
          · rename_i h25
            simp only [List.mem_cons, List.not_mem_nil, or_false] at hx
            rcases hx with rfl | rfl
            · refine Or.inr ⟨by show 0 ≤ (i : Int); omega, s, by show g (i : Int).toNat = _; rw [Int.toNat_natCast]; exact hs, ?_⟩
              show (if (p.at i).op = 25 then updU u i s.turn else u) (i : Int).toNat = s.turn
              rw [Int.toNat_natCast, if_pos h25]
              unfold updU
              rw [if_pos rfl]
            · exact hbase
          · split at hx
            · rename_i h26
              simp only [List.mem_cons, List.not_mem_nil, or_false] at hx
              rcases hx with rfl | rfl
              · exact hbase
              · rcases hI2.up i s hs with h1 | ⟨h1, t, h2, h3⟩
                · exact absurd h1 (go_turn hg h26)
                · have e : tnAt g (behS p s (p.at i)).turn = t.turn := by show tnAt g s.turn = _; unfold tnAt; rw [h2]
                  dsimp only
                  rw [e]
                  exact hI2.up _ t h2
            · simp only [List.mem_cons, List.not_mem_nil, or_false] at hx; subst hx; exact hbase
/-- of the ways only the first may be behind the last place -/
theorem ways_len {p : Pg} {g : Nat → Option Sd} {i : Nat} {s : Sd} (hk : OkI p (p.at i)) : (waysL p g i s).length ≤ 2 ∧ ∀ x ∈ (waysL p g i s).drop 1, x.1 < (p.cd.length : Int) := by
  unfold waysL
  dsimp only
  split
  · exact ⟨by simp, fun x hx => by simp at hx⟩
  · split
    · exact ⟨by simp, fun x hx => by simp at hx⟩
    · split
      · rename_i h
        exact ⟨by simp, fun x hx => by simp at hx; subst hx; exact (hk.pa (Or.inr (Or.inl h))).2⟩
      · split
        · rename_i h
          exact ⟨by simp, fun x hx => by simp at hx; subst hx; exact (hk.pa (Or.inr (Or.inr (Or.inl h)))).2⟩
        · split
          · rename_i h
            exact ⟨by simp, fun x hx => by simp at hx; subst hx; exact (hk.pa (Or.inr (Or.inr (Or.inr (Or.inl h))))).2⟩
          · exact ⟨by simp, fun x hx => by simp at hx⟩
theorem give_98 {n : Nat} {L : List (Int × Sd)} {g : Nat → Option Sd} {j : Nat} (hj : j < L.length) (he : L[j].1 = (n : Int)) (h1 : ∀ x ∈ L.drop 1, x.1 < (n : Int)) : giveW n L g = .error 98 := by
  match L, j, hj with
  | (k, s) :: L, 0, _ =>
    have he' : k = (n : Int) := he
    unfold giveW
    rw [if_pos he']
  | x :: L, j + 1, hj =>
    have hj' : j < L.length := by simpa using hj
    have h2 := h1 L[j] (by simp)
    have he' : L[j].1 = (n : Int) := he
    omega
theorem give_94 {n : Nat} : ∀ (L : List (Int × Sd)) (g : Nat → Option Sd), (∀ x ∈ L, x.1 ≠ (n : Int)) → ∀ (j : Nat) (hj : j < L.length) (t : Sd), g L[j].1.toNat = some t → sameS t L[j].2 = false → giveW n L g = .error 94
  | [], _, _, _, hj, _, _, _ => absurd hj (by simp)
  | (k, s) :: L, g, hn, j, hj, t, ht, hs => by
    have hk : k ≠ (n : Int) := hn (k, s) (by simp)
    unfold giveW
    rw [if_neg hk]
    cases j with
    | zero =>
      have ht' : g k.toNat = some t := ht
      have hs' : sameS t s = false := hs
      rw [ht']
      dsimp only
      rw [hs']
      rfl
    | succ j =>
      have hj' : j < L.length := by simpa using hj
      have ht' : g L[j].1.toNat = some t := ht
      have hs' : sameS t L[j].2 = false := hs
      cases hg : g k.toNat with
      | none => exact give_94 L _ (fun x hx => hn x (by simp [hx])) j hj' t (upd_some hg ht') hs'
      | some t1 =>
        dsimp only
        split
        · exact give_94 L g (fun x hx => hn x (by simp [hx])) j hj' t ht' hs'
        · rfl
theorem goB_behT {p : Pg} {g : Nat → Option Sd} {i : Nat} {s : Sd} {h : Nat} : goB p g i ⟨behT s.ty (p.at i).op.toNat, h, s.turn⟩ = goB p g i s := by
  unfold goB
  dsimp only
  by_cases h27 : (p.at i).op = 27
  · have e : behT s.ty (p.at i).op.toNat = s.ty := by
      rw [h27]
      show s.ty.take (s.ty.length - 0) ++ [] = s.ty
      simp
    rw [e]
  · simp only [h27, if_false]
theorem step_none {p : Pg} {g : Nat → Option Sd} {i : Nat} (h : g i = none) : stepP p g i = .error 99 := by
  have e : lookN p g i = 99 := by unfold lookN; rw [h]
  unfold stepP
  rw [e]
  rfl
theorem step_hold {p : Pg} {g : Nat → Option Sd} {i : Nat} {s : Sd} (h : g i = some s) (h1 : holdB p s.hand (p.at i) = false) : stepP p g i = .error 96 := by
  have e : lookN p g i = 96 := by unfold lookN; rw [h]; dsimp only; rw [h1]; rfl
  unfold stepP
  rw [e]
  rfl
theorem step_op {p : Pg} {g : Nat → Option Sd} {i : Nat} {s : Sd} (h : g i = some s) (h1 : holdB p s.hand (p.at i) = true) (h2 : opE s.ty (p.at i).op.toNat ≠ 0) : stepP p g i = .error (opE s.ty (p.at i).op.toNat) := by
  have e : lookN p g i = opE s.ty (p.at i).op.toNat := by
    unfold lookN
    rw [h]
    dsimp only
    rw [h1]
    unfold opE at h2 ⊢
    cases hf : fitsB s.ty (p.at i).op.toNat
    · rfl
    · rw [hf] at h2
      cases hs : suitsB s.ty (p.at i).op.toNat
      · rfl
      · rw [hs] at h2; exact absurd rfl h2
  unfold stepP
  rw [e, if_neg h2]
theorem opE_zero {ty : List Bool} {op : Nat} (h : opE ty op = 0) : fitsB ty op = true ∧ suitsB ty op = true := by
  unfold opE at h
  cases hf : fitsB ty op
  · rw [hf] at h; cases h
  · rw [hf] at h
    cases hs : suitsB ty op
    · rw [hs] at h; cases h
    · exact ⟨rfl, rfl⟩
theorem look_rest {p : Pg} {g : Nat → Option Sd} {i : Nat} {s : Sd} (h : g i = some s) (h1 : holdB p s.hand (p.at i) = true) (h2 : opE s.ty (p.at i).op.toNat = 0) : lookN p g i = if !bringB p (p.at i) then 92 else if !goB p g i s then 95 else 0 := by
  obtain ⟨hf, hs⟩ := opE_zero h2
  unfold lookN
  rw [h]
  dsimp only
  rw [h1, hf, hs]
  rfl
theorem step_bring {p : Pg} {g : Nat → Option Sd} {i : Nat} {s : Sd} (h : g i = some s) (h1 : holdB p s.hand (p.at i) = true) (h2 : opE s.ty (p.at i).op.toNat = 0) (h3 : bringB p (p.at i) = false) : stepP p g i = .error 92 := by
  have e : lookN p g i = 92 := by rw [look_rest h h1 h2, h3]; rfl
  unfold stepP
  rw [e]
  rfl
theorem step_jump {p : Pg} {g : Nat → Option Sd} {i : Nat} {s : Sd} (h : g i = some s) (h1 : holdB p s.hand (p.at i) = true) (h2 : opE s.ty (p.at i).op.toNat = 0) (h3 : bringB p (p.at i) = true) (h4 : goB p g i s = false) : stepP p g i = .error 95 := by
  have e : lookN p g i = 95 := by rw [look_rest h h1 h2, h3, h4]; rfl
  unfold stepP
  rw [e]
  rfl
theorem step_give {p : Pg} {g : Nat → Option Sd} {i : Nat} {s : Sd} (h : g i = some s) (h1 : holdB p s.hand (p.at i) = true) (h2 : opE s.ty (p.at i).op.toNat = 0) (h3 : bringB p (p.at i) = true) (h4 : goB p g i s = true) : stepP p g i = giveW p.cd.length (waysL p g i s) g := by
  have e : lookN p g i = 0 := by rw [look_rest h h1 h2, h3, h4]; rfl
  unfold stepP
  rw [e, h]
  rfl
/-- the reference's jumps -/
theorem rjumps_any {W : World} {lb ab ub sb : Nat} {v : PV} {p : Pg} {g : Nat → Option Sd} {u : Nat → Int} {st : List Bool} (h : Lk W lb ab ub sb v p g u st) (i : Nat) (ty : List Bool) (tn : Int) (hJ : JmP p g st i tn) (hd : Nat) :
    Calls Tryd.prog 54 #[.pointer (some ⟨lb, 0, none⟩), .int .i64 (i : Int), .agg #[.string (strT ty), .int .i64 tn, .int .i64 0, .bool false]] W fun e w' => e = .returned (.bool (goB p g i ⟨ty, hd, tn⟩)) ∧ Below W.heap.size W w' := by
  by_cases h22 : (p.at i).op = 22
  · exact rjumps_22 h i ty tn hJ hd h22
  by_cases h23 : (p.at i).op = 23
  · exact rjumps_23 h i ty tn hJ hd h23
  by_cases h24 : (p.at i).op = 24
  · exact rjumps_24 h i ty tn hJ hd h24
  by_cases h25 : (p.at i).op = 25
  · exact rjumps_25 h i ty tn hJ hd h25
  by_cases h26 : (p.at i).op = 26
  · exact rjumps_26 h i ty tn hJ hd h26
  by_cases h27 : (p.at i).op = 27
  · exact rjumps_27 h i ty tn hJ hd h27
  by_cases h0 : (p.at i).op = 0
  · exact rjumps_0 h i ty tn hJ hd h0
  exact rjumps_x h i ty tn hJ hd h22 h23 h24 h25 h26 h27 h0
/-- the reference's goes -/
theorem rgoes_any {w W : World} {lb ab ub sb : Nat} {v : PV} {p : Pg} {g : Nat → Option Sd} {u : Nat → Int} {st : List Bool} (h : La w W lb ab ub sb v p g u st) (i : Nat) (hi : i < p.cd.length) (s : Sd) (ht : (p.at i).op = 26 → 0 ≤ s.turn ∧ s.turn.toNat < p.cd.length) :
    Calls Tryd.prog 55 #[.pointer (some ⟨lb, 0, none⟩), .int .i64 (i : Int), .agg #[.string (strT s.ty), .int .i64 s.turn, .int .i64 (s.hand : Int), .bool true]] W (GsP w W lb ab ub sb v p g u st i s) := by
  by_cases h22 : (p.at i).op = 22
  · exact rgoes_22 h i hi s h22
  by_cases h23 : (p.at i).op = 23
  · exact rgoes_23 h i hi s h23
  by_cases h25 : (p.at i).op = 25
  · exact rgoes_25 h i hi s h25
  by_cases h26 : (p.at i).op = 26
  · exact rgoes_26 h i hi s h26 (ht h26)
  by_cases h27 : (p.at i).op = 27
  · exact rgoes_27 h i hi s h27
  by_cases h0 : (p.at i).op = 0
  · exact rgoes_0 h i hi s h0
  exact rgoes_x h i hi s h22 h23 h25 h26 h27 h0
end Go.Proofs.YtelbakkgobkdaaaDoor.Vf

namespace Go.Proofs.YtelbakkgobkdaaaDoor.Vf
open Go.RowKit Go.Proofs.YtelbakkgobkdaaaDoor.Nm
/-- what place leaves -/
def PlP (w W : World) (lb ab ub sb : Nat) (v : PV) (p : Pg) (st : List Bool) (R : Except Nat (Nat → Option Sd)) (e : Ending) (w' : World) : Prop :=
  match R with
  | .ok g' => e = .returned (.int .i64 0) ∧ (∃ u', La w w' lb ab ub sb v p g' u' st ∧ RIv p g' u') ∧ F2 ab ub W w'
  | .error c => e = .returned (.int .i64 (c : Int)) ∧ Below w.heap.size w w' ∧ c ≠ 0 ∧ F2 ab ub W w'
theorem PlP.err {w W : World} {lb ab ub sb : Nat} {v : PV} {p : Pg} {st : List Bool} {R : Except Nat (Nat → Option Sd)} {c : Nat} {w' : World} (hR : R = .error c) (hc : c ≠ 0) (hb : Below w.heap.size w w') (hf : F2 ab ub W w') : PlP w W lb ab ub sb v p st R (.returned (.int .i64 (c : Int))) w' := by
  rw [hR]; exact ⟨rfl, hb, hc, hf⟩
theorem Nb.next {W w' : World} {o : Option Addr} {L : List (Int × Sd)} (h : Nb W w' o (nxC L)) {j : Nat} (hj : j < L.length) : ∃ b, o = some ⟨b, 0, none⟩ ∧ W.heap.size ≤ b ∧ b < w'.heap.size ∧ ∀ X : World, X.heap[b]? = w'.heap[b]? → X.cell? ⟨b, j, none⟩ = some (.int .i64 L[j].1) := by
  rcases h with h | ⟨b, T, h1, h2, h3⟩
  · unfold nxC at h
    rw [List.map_eq_nil_iff] at h
    subst h
    exact absurd hj (by simp)
  · exact ⟨b, h1, h2, blk_lt h3, fun X hX => cell_of (hX.trans h3) (by unfold nxC; simp [hj])⟩
theorem Nb.with4 {W w' : World} {o : Option Addr} {L : List (Int × Sd)} (h : Nb W w' o (wsC L)) {j : Nat} (hj : j < L.length) : ∃ b, o = some ⟨b, 0, none⟩ ∧ W.heap.size ≤ b ∧ b < w'.heap.size ∧ ∀ X : World, X.heap[b]? = w'.heap[b]? → X.cell? ⟨b, j * 4, none⟩ = some (.string (strT L[j].2.ty)) ∧ X.cell? ⟨b, j * 4 + 1, none⟩ = some (.int .i64 L[j].2.turn) ∧ X.cell? ⟨b, j * 4 + 2, none⟩ = some (.int .i64 (L[j].2.hand : Int)) ∧ X.cell? ⟨b, j * 4 + 3, none⟩ = some (.bool true) := by
  have key : ∀ i, i < 4 → (wsC L)[j * 4 + i]? = (rsC (some L[j].2))[i]? := fun i hi => flat4 _ (fun x => rsC_len _) L j i hj hi
  rcases h with h | ⟨b, T, h1, h2, h3⟩
  · have := key 0 (by omega)
    rw [h] at this
    cases this
  · refine ⟨b, h1, h2, blk_lt h3, fun X hX => ?_⟩
    have e := hX.trans h3
    exact ⟨cell_of e (key 0 (by omega)), cell_of e (key 1 (by omega)), cell_of e (key 2 (by omega)), cell_of e (key 3 (by omega))⟩
theorem drop_cons {α : Type} {L : List α} {m : Nat} (h : m < L.length) : L.drop m = L[m] :: L.drop (m + 1) := List.drop_eq_getElem_cons h
set_option maxHeartbeats 25600000 in
set_option maxRecDepth 100000 in
/-- the reference's place -/
theorem rplace_any {w W : World} {lb ab ub sb : Nat} {v : PV} {p : Pg} {g : Nat → Option Sd} {u : Nat → Int} {st : List Bool} (h : La w W lb ab ub sb v p g u st) (hI : RIv p g u) (sl : st.length = p.cd.length) (sa : ∀ k (h : k < st.length), st[k] = (evs p).contains (k : Int)) (i : Nat) (hi : i < p.cd.length) (hk : OkI p (p.at i)) :
    Calls Tryd.prog 30 #[.pointer (some ⟨lb, 0, none⟩), .int .i64 (i : Int)] W (PlP w W lb ab ub sb v p st (stepP p g i)) := by
  have n3 : (p.cd.length : Int) ≤ 1000000000000000 := by have := h.pg.lcd; omega
  have hi' : (i : Int) < (p.cd.length : Int) := by omega
  have hi0 : (0 : Int) ≤ (i : Int) := by omega
  have hx := at_eq hi
  obtain ⟨qo, qc, vo, vc, tto, tc, oo, oc, co, cc⟩ := v
  obtain ⟨g1, f1, hvo, hg, -⟩ := rd_ins h.lk.pg.cd hi
  obtain rfl : co = some ⟨g1, f1, none⟩ := hvo
  obtain ⟨x, hxe⟩ : ∃ x, x = p.cd[i]'hi := ⟨_, rfl⟩
  rw [← hxe] at hx
  cases hgi : g i with
  | none =>
    rw [step_none hgi]
    refine Calls.mono (R := fun e w' => e = .returned (.int .i64 99) ∧ Below w.heap.size w w' ∧ F2 ab ub W w') ?_ (fun e w' h9 => by rw [h9.1]; exact PlP.err (c := 99) rfl (by decide) h9.2.1 h9.2.2)
    have HB : Hid (Below w.heap.size w (W.alloc (.cells #[.string ⟨#[]⟩, .int .i64 0, .int .i64 0, .bool false] 76)) ∧ F2 ab ub W (W.alloc (.cells #[.string ⟨#[]⟩, .int .i64 0, .int .i64 0, .bool false] 76))) := ⟨h.bel.alloc h.bel.size _, F2.of ((Below.refl _ W).alloc (Nat.le_refl _) _)⟩
    obtain ⟨a0, a1, a2, a3⟩ := h.lk.isN hi hgi
    obtain ⟨-, -, -, -, -, -, c6, -, -⟩ := cells9 h.lk.hw
    clear h hI sl sa hi hk hx hxe hg hgi
    go_enter Tryd.func30, Tryd.ntmps30
    go_wp2_with fail
    go_ret
    exact ⟨rfl, HB.out⟩
  | some s =>
    have HI : Hid (RIv p g u) := hI
    have HJ : Hid (∀ k9 : (p.at i).op = 22 ∨ (p.at i).op = 23 ∨ (p.at i).op = 25 ∨ (p.at i).op = 26 → 0 ≤ (p.at i).a, JmP p g st i s.turn) := fun k9 => ⟨hi, sl, sa, by
      rcases hI.inv.tn i s hgi with h1 | ⟨h1, t, h2⟩
      · exact Or.inl h1
      · exact Or.inr ⟨h1, hI.inv.lt _ t h2, t, h2⟩, k9⟩
    have HK : Hid (OkI p (p.at i) ∧ g i = some s ∧ i < p.cd.length ∧ p.at i = x) := ⟨hk, hgi, hi, hx⟩
    obtain ⟨xo, xa, xb, xc, xd⟩ := x
    have hb1 : Below W.heap.size W (W.alloc (.cells #[.string (strT s.ty), .int .i64 s.turn, .int .i64 (s.hand : Int), .bool true] 76)) := (Below.refl _ W).alloc (Nat.le_refl _) _
    have hb2 : Below W.heap.size W ((W.alloc (.cells #[.string (strT s.ty), .int .i64 s.turn, .int .i64 (s.hand : Int), .bool true] 76)).alloc (.cells #[.int .i64 xo, .int .i64 xa, .int .i64 xb, .int .i64 xc, .int .i64 xd] 54)) := hb1.alloc hb1.size _
    obtain ⟨t1, t2, t3⟩ := two_al W (.cells #[.string (strT s.ty), .int .i64 s.turn, .int .i64 (s.hand : Int), .bool true] 76) (.cells #[.int .i64 xo, .int .i64 xa, .int .i64 xb, .int .i64 xc, .int .i64 xd] 54)
    have HX : Hid (Lk (W.alloc (.cells #[.string (strT s.ty), .int .i64 s.turn, .int .i64 (s.hand : Int), .bool true] 76)) lb ab ub sb ⟨qo, qc, vo, vc, tto, tc, oo, oc, some ⟨g1, f1, none⟩, cc⟩ p g u st) := h.lk.below hb1
    have HY : Hid (∀ X, Below ((W.alloc (.cells #[.string (strT s.ty), .int .i64 s.turn, .int .i64 (s.hand : Int), .bool true] 76)).alloc (.cells #[.int .i64 xo, .int .i64 xa, .int .i64 xb, .int .i64 xc, .int .i64 xd] 54)).heap.size ((W.alloc (.cells #[.string (strT s.ty), .int .i64 s.turn, .int .i64 (s.hand : Int), .bool true] 76)).alloc (.cells #[.int .i64 xo, .int .i64 xa, .int .i64 xb, .int .i64 xc, .int .i64 xd] 54)) X → La w X lb ab ub sb ⟨qo, qc, vo, vc, tto, tc, oo, oc, some ⟨g1, f1, none⟩, cc⟩ p g u st ∧ X.heap[W.heap.size]? = some (.cells #[.string (strT s.ty), .int .i64 s.turn, .int .i64 (s.hand : Int), .bool true] 76 (0, 0)) ∧ X.heap[W.heap.size + 1]? = some (.cells #[.int .i64 xo, .int .i64 xa, .int .i64 xb, .int .i64 xc, .int .i64 xd] 54 (0, 0)) ∧ F2 ab ub W X) := fun X hX => ⟨(h.below hb2).below hX, (hX.block _ (by simp; omega)).trans (t1.trans (heap_alloc_new _ _)), (hX.block _ (by simp)).trans (t2.trans (heap_alloc_new _ _)), (F2.of hb2).trans (F2.of hX)⟩
    have HE : Hid (∀ h9 : i < p.cd.length, p.cd[i]'h9 = ⟨xo, xa, xb, xc, xd⟩) := fun _ => hxe.symm
    have HW1 : Hid ((W.alloc (.cells #[.string (strT s.ty), .int .i64 s.turn, .int .i64 (s.hand : Int), .bool true] 76)).heap.size = W.heap.size + 1) := t3
    obtain ⟨a0, a1, a2, a3⟩ := h.lk.isS hi hgi
    obtain ⟨-, -, -, -, -, -, c6, -, -⟩ := cells9 h.lk.hw
    clear hb1 hb2 t1 t2 t3 h hI sl sa hi hk hx hxe hg hgi
    obtain ⟨R, hR⟩ : ∃ R, R = stepP p g i := ⟨_, rfl⟩
    rw [← hR]
    have HR : Hid (R = stepP p g i) := hR
    clear hR
    go_enter Tryd.func30, Tryd.ntmps30
    go_upto_region 4 with fail
    clear a0 a1 a2 a3 c6
    obtain ⟨-, -, -, -, -, c5, -, -, -⟩ := cells9 HX.out.hw
    obtain ⟨g2, f2, hvo2, hg2, d0, d1, d2, d3, d4⟩ := rd_ins HX.out.pg.cd HK.out.2.2.1
    obtain ⟨rfl, rfl⟩ : g1 = g2 ∧ f1 = f2 := by cases hvo2; exact ⟨rfl, rfl⟩
    rw [HE.out HK.out.2.2.1] at d0 d1 d2 d3 d4
    dsimp only at c5 d0 d1 d2 d3 d4
    generalize W.alloc (.cells #[.string (strT s.ty), .int .i64 s.turn, .int .i64 (s.hand : Int), .bool true] 76) = W1 at *
    have hs1 := HW1.out
    go_upto_region 5 with fail
    clear c5 d0 d1 d2 d3 d4 hvo2 hg2 HX HE
    generalize W1.alloc (.cells #[.int .i64 xo, .int .i64 xa, .int .i64 xb, .int .i64 xc, .int .i64 xd] 54) = W2 at *
    clear hs1 HW1
    generalize W.heap.size = bx at *
    have hO := HK.out.1
    rw [HK.out.2.2.2] at hO
    obtain ⟨hL, hB, hN, hF⟩ := HY.out W2 (Below.refl _ _)
    obtain ⟨i0, i1, i2, i3, i4⟩ := cells5 hN
    obtain ⟨s0, s1, s2, s3⟩ := cells4s hB
    have HC1 : Hid (Calls Tryd.prog 51 #[.pointer (some ⟨lb, 0, none⟩), .agg #[.int .i64 xo, .int .i64 xa, .int .i64 xb, .int .i64 xc, .int .i64 xd], .int .i64 (s.hand : Int)] W2 fun e w' => e = .returned (.tuple #[.bool (holdB p s.hand (p.at i)), .int .i64 (rhB p s.hand (p.at i) : Int)]) ∧ Below W2.heap.size W2 w') := by
      have := rhand_any hL.lk ⟨xo, xa, xb, xc, xd⟩ s.hand (HI.out.hd i s HK.out.2.1) (fun h9 => hO.qa (by omega))
      rw [HK.out.2.2.2]
      exact this
    clear hL hB hN hF hO
    go_wp2_with fail
    refine HC1.out.mono ?_
    rintro e w3 ⟨rfl, hb3⟩
    have HB3 : Hid (Below W2.heap.size W2 w3) := hb3
    clear i0 i1 i2 i3 i4 s0 s1 s2 s3 hb3 HC1
    obtain ⟨hL, hB, hN, hF⟩ := HY.out w3 HB3.out
    obtain ⟨i0, i1, i2, i3, i4⟩ := cells5 hN
    obtain ⟨s0, s1, s2, s3⟩ := cells4s hB
    have HBw : Hid (Below w.heap.size w w3 ∧ F2 ab ub W w3) := ⟨hL.bel, hF⟩
    cases hh : holdB p s.hand (p.at i)
    · have HRe : Hid (R = .error 96) := HR.out.trans (step_hold HK.out.2.1 hh)
      clear hh hL hB hN hF
      go_wp2_with fail
      go_ret
      exact PlP.err HRe.out (by decide) HBw.out.1 HBw.out.2
    have HH : Hid (holdB p s.hand (p.at i) = true) := hh
    have hO := HK.out.1
    rw [HK.out.2.2.2] at hO
    have HC2 : Hid (Calls Tryd.prog 52 #[.agg #[.int .i64 xo, .int .i64 xa, .int .i64 xb, .int .i64 xc, .int .i64 xd], .string (strT s.ty)] w3 fun e w' => e = .returned (.tuple #[.string (if opE s.ty (p.at i).op.toNat = 0 then strT (behT s.ty (p.at i).op.toNat) else ⟨#[]⟩), .int .i64 (opE s.ty (p.at i).op.toNat : Int)]) ∧ Below w3.heap.size w3 w') := by
      have := roperands_any ⟨xo, xa, xb, xc, xd⟩ s.ty hO.op.1 hO.op.2 (HI.out.inv.ht i s HK.out.2.1) w3
      rw [HK.out.2.2.2]
      exact this
    rw [rhB_eq hh]
    clear hh hL hB hN hF hO
    obtain ⟨hd', hhd⟩ : ∃ hd', hd' = handBeh p s.hand (p.at i) := ⟨_, rfl⟩
    rw [← hhd]
    have HHd : Hid (hd' = handBeh p s.hand (p.at i)) := hhd
    clear hhd
    go_wp2_with fail
    refine HC2.out.mono ?_
    rintro e w4 ⟨rfl, hb4⟩
    have HB4 : Hid (Below W2.heap.size W2 w4) := HB3.out.trans (hb4.mono HB3.out.size)
    clear i0 i1 i2 i3 i4 s0 s1 s2 s3 hb4 HC2 HB3 HBw
    obtain ⟨hL, hB, hN, hF⟩ := HY.out w4 HB4.out
    obtain ⟨i0, i1, i2, i3, i4⟩ := cells5 hN
    obtain ⟨s0, s1, s2, s3⟩ := cells4s hB
    have HBw : Hid (Below w.heap.size w w4 ∧ F2 ab ub W w4) := ⟨hL.bel, hF⟩
    by_cases ho : opE s.ty (p.at i).op.toNat = 0
    rotate_left
    · have HRe : Hid (R = .error (opE s.ty (p.at i).op.toNat)) := HR.out.trans (step_op HK.out.2.1 HH.out ho)
      rw [if_neg ho]
      clear hL hB hN hF HK HJ HI HY HR HHd HH
      generalize opE s.ty (p.at i).op.toNat = oe at *
      have ho' : ¬ (oe : Int) = 0 := by omega
      have HO9 : Hid (oe ≠ 0) := ho
      clear ho
      go_wp2_with fail
      go_ret
      exact PlP.err HRe.out HO9.out HBw.out.1 HBw.out.2
    have HO : Hid (opE s.ty (p.at i).op.toNat = 0) := ho
    rw [if_pos ho, ho]
    clear ho
    obtain ⟨bt, hbt⟩ : ∃ bt, bt = behT s.ty (p.at i).op.toNat := ⟨_, rfl⟩
    rw [← hbt]
    have HBt : Hid (bt = behT s.ty (p.at i).op.toNat) := hbt
    clear hbt
    have hO := HK.out.1
    rw [HK.out.2.2.2] at hO
    have HC3 : Hid (Calls Tryd.prog 53 #[.pointer (some ⟨lb, 0, none⟩), .agg #[.int .i64 xo, .int .i64 xa, .int .i64 xb, .int .i64 xc, .int .i64 xd]] w4 fun e w' => e = .returned (.bool (bringB p (p.at i))) ∧ Below w4.heap.size w4 w') := by
      have := rqueues_any hL.lk ⟨xo, xa, xb, xc, xd⟩ (fun h9 => hO.qa (by omega)) (fun h9 => hO.qc h9)
      rw [HK.out.2.2.2]
      exact this
    clear hL hB hN hF hO
    go_wp2_with fail
    refine HC3.out.mono ?_
    rintro e w5 ⟨rfl, hb5⟩
    have HB5 : Hid (Below W2.heap.size W2 w5) := HB4.out.trans (hb5.mono HB4.out.size)
    clear i0 i1 i2 i3 i4 s0 s1 s2 s3 hb5 HC3 HB4 HBw
    obtain ⟨hL, hB, hN, hF⟩ := HY.out w5 HB5.out
    obtain ⟨i0, i1, i2, i3, i4⟩ := cells5 hN
    obtain ⟨s0, s1, s2, s3⟩ := cells4s hB
    have HBw : Hid (Below w.heap.size w w5 ∧ F2 ab ub W w5) := ⟨hL.bel, hF⟩
    cases hbr : bringB p (p.at i)
    · have HRe : Hid (R = .error 92) := HR.out.trans (step_bring HK.out.2.1 HH.out HO.out hbr)
      clear hbr hL hB hN hF
      go_wp2_with fail
      go_ret
      exact PlP.err HRe.out (by decide) HBw.out.1 HBw.out.2
    have HBr : Hid (bringB p (p.at i) = true) := hbr
    have HC4 : Hid (Calls Tryd.prog 54 #[.pointer (some ⟨lb, 0, none⟩), .int .i64 (i : Int), .agg #[.string (strT bt), .int .i64 s.turn, .int .i64 0, .bool false]] w5 fun e w' => e = .returned (.bool (goB p g i s)) ∧ Below w5.heap.size w5 w') := by
      have := rjumps_any hL.lk i bt s.turn (HJ.out (fun h9 => (HK.out.1.pa (by omega)).1)) s.hand
      rw [HBt.out, goB_behT] at this
      rw [HBt.out]
      exact this
    clear hbr hL hB hN hF
    go_wp2_with fail
    refine HC4.out.mono ?_
    rintro e w6 ⟨rfl, hb6⟩
    have HB6 : Hid (Below W2.heap.size W2 w6) := HB5.out.trans (hb6.mono HB5.out.size)
    clear i0 i1 i2 i3 i4 s0 s1 s2 s3 hb6 HC4 HB5 HBw
    obtain ⟨hL, hB, hN, hF⟩ := HY.out w6 HB6.out
    obtain ⟨i0, i1, i2, i3, i4⟩ := cells5 hN
    obtain ⟨s0, s1, s2, s3⟩ := cells4s hB
    have HBw : Hid (Below w.heap.size w w6 ∧ F2 ab ub W w6) := ⟨hL.bel, hF⟩
    cases hgo : goB p g i s
    · have HRe : Hid (R = .error 95) := HR.out.trans (step_jump HK.out.2.1 HH.out HO.out HBr.out hgo)
      clear hgo hL hB hN hF
      go_wp2_with fail
      go_ret
      exact PlP.err HRe.out (by decide) HBw.out.1 HBw.out.2
    have HRg : Hid (R = giveW p.cd.length (waysL p g i s) g) := HR.out.trans (step_give HK.out.2.1 HH.out HO.out HBr.out hgo)
    have HLe : Hid (goesL p u i ⟨bt, hd', s.turn⟩ = waysL p g i s) := by
      show goesL p u i ⟨bt, hd', s.turn⟩ = _
      rw [HBt.out, HHd.out]
      exact goes_eq HI.out HK.out.2.1 hgo
    have HRo : Hid (∀ x ∈ waysL p g i s, ROk p g (if (p.at i).op = 25 then updU u i s.turn else u) x) := goes_ok HI.out HK.out.2.2.1 HK.out.1 HK.out.2.1 (opE_zero HO.out).1 hgo
    have HIu : Hid (RIv p g (if (p.at i).op = 25 then updU u i s.turn else u)) := by
      show RIv p g _
      split
      · exact HI.out.set HK.out.2.1
      · exact HI.out
    have HLn : Hid ((waysL p g i s).length ≤ 2 ∧ ∀ x ∈ (waysL p g i s).drop 1, x.1 < (p.cd.length : Int)) := ways_len HK.out.1
    have HC5 : Hid (Calls Tryd.prog 55 #[.pointer (some ⟨lb, 0, none⟩), .int .i64 (i : Int), .agg #[.string (strT bt), .int .i64 s.turn, .int .i64 (hd' : Int), .bool true]] w6 (GsP w w6 lb ab ub sb ⟨qo, qc, vo, vc, tto, tc, oo, oc, some ⟨g1, f1, none⟩, cc⟩ p g u st i ⟨bt, hd', s.turn⟩)) := rgoes_any hL i HK.out.2.2.1 ⟨bt, hd', s.turn⟩ (fun h9 => by
      rcases HI.out.inv.tn i s HK.out.2.1 with h1 | ⟨h1, t, h2⟩
      · exact absurd h1 (go_turn hgo h9)
      · exact ⟨h1, HI.out.inv.lt _ t h2⟩)
    have HF6 : Hid (F2 ab ub W w6) := hF
    have HLb : Hid (ab < w6.heap.size ∧ ub < w6.heap.size) := ⟨blk_lt hL.lk.at_, blk_lt hL.lk.up⟩
    clear hgo hL hB hN hF HJ HI HY HR HHd HH HBr HO HK HBw
    go_wp2_with fail
    refine HC5.out.mono ?_
    rintro e w8 ⟨o1, c1, o2, c2, rfl, hn1, hn2, hla, hf⟩
    rw [HLe.out] at hn1 hn2 ⊢
    dsimp only at hla
    generalize waysL p g i s = L at *
    generalize (if (p.at i).op = 25 then updU u i s.turn else u) = u' at *
    have H8 : Hid (Nb w6 w8 o1 (nxC L) ∧ Nb w6 w8 o2 (wsC L) ∧ La w w8 lb ab ub sb ⟨qo, qc, vo, vc, tto, tc, oo, oc, some ⟨g1, f1, none⟩, cc⟩ p g u' st ∧ F2 ab ub W w8) := ⟨hn1, hn2, hla, HF6.out.trans hf⟩
    clear i0 i1 i2 i3 i4 s0 s1 s2 s3 hn1 hn2 hla hf HLe HC5 HB6
    have hl2 : (L.length : Int) ≤ 2 := by have := HLn.out.1; omega
    go_wp2_with fail
    go_loopg [13] L.length (fun gq x wr => ∃ j : Nat, j ≤ L.length ∧ gq = L.length - j ∧ x = .int .i64 (j : Int) ∧ (∀ q (hq : q < L.length), q < j → L[q].1 ≠ (p.cd.length : Int)) ∧ Below w8.heap.size w8 wr)
    case atStart => exact ⟨0, Nat.zero_le _, rfl, rfl, fun q hq h9 => absurd h9 (by omega), Below.refl _ _⟩
    case round =>
      obtain ⟨j, hj, hgk, rfl, ha, hb⟩ := hrel
      have HG : Hid (gk = L.length - j ∧ (∀ q (hq : q < L.length), q < j → L[q].1 ≠ (p.cd.length : Int)) ∧ Below w8.heap.size w8 wr) := ⟨hgk, ha, hb⟩
      have HD : Hid (∀ n, Below w8.heap.size w8 (wr.drewN n) ∧ Below w.heap.size w (wr.drewN n) ∧ F2 ab ub W (wr.drewN n)) := fun n => by
        have e := hb.trans ((drN _ n).mono hb.size)
        exact ⟨e, (H8.out.2.2.1.below e).bel, H8.out.2.2.2.trans (F2.of e)⟩
      obtain ⟨-, -, -, -, -, c5, -, -, -⟩ := cells9 (H8.out.2.2.1.below hb).lk.hw
      dsimp only at c5
      clear hgk ha hb
      by_cases hlt : j < L.length
      · have hlt' : (j : Int) < (L.length : Int) := by omega
        obtain ⟨b1, rfl, hb1, hb1', d0⟩ := H8.out.1.next hlt
        have d1 : wr.cell? ⟨b1, j, none⟩ = some (.int .i64 L[j].1) := d0 wr (HG.out.2.2.block _ hb1')
        have HLt : Hid (j < L.length) := hlt
        by_cases he : L[j].1 = (p.cd.length : Int)
        · have HRe : Hid (R = .error 98) := HRg.out.trans (give_98 hlt he HLn.out.2)
          rw [show L[j].1 = (p.cd.length : Int) from he] at d1
          clear d0 hlt he hb1 hb1'
          go_wp2_with fail
          go_quiet (fail)
          go_wp2_with fail
          go_ret
          exact PlP.err HRe.out (by decide) (HD.out _).2.1 (HD.out _).2.2
        · have he' : (L[j].1 == (p.cd.length : Int)) = false := beq_eq_false_iff_ne.2 he
          have HA : Hid (∀ q (hq : q < L.length), q < j + 1 → L[q].1 ≠ (p.cd.length : Int)) := fun q hq h9 => by
            by_cases e9 : q = j
            · subst e9; exact he
            · exact HG.out.2.1 q hq (by omega)
          generalize L[j].1 = y at *
          clear d0 hlt he hb1 hb1'
          go_wp2_with fail
          go_quiet (fail)
          go_wp2_with fail
          go_roundg (L.length - (j + 1))
          case measure => have h1 := HG.out.1; have := HLt.out; omega
          case rel => exact ⟨j + 1, HLt.out, rfl, by go_num, HA.out, (HD.out _).1⟩
      · have hlt' : ¬ (j : Int) < (L.length : Int) := by omega
        obtain rfl : j = L.length := by omega
        have HN : Hid ((∀ x ∈ L, x.1 ≠ (p.cd.length : Int)) ∧ Below w8.heap.size w8 wr) := ⟨fun x hx => by
          obtain ⟨q, hq, rfl⟩ := List.getElem_of_mem hx
          exact HG.out.2.1 q hq hq, HG.out.2.2⟩
        clear hlt hj HG HD
        obtain ⟨w9, rfl⟩ : ∃ w9, w9 = wr := ⟨_, rfl⟩
        go_wp2_with fail
        clear c5
        go_loopg [14] L.length (fun gq x wr => ∃ j : Nat, j ≤ L.length ∧ gq = L.length - j ∧ x = .int .i64 (j : Int) ∧ Below w8.heap.size w8 wr)
        case atStart => exact ⟨0, Nat.zero_le _, rfl, rfl, HN.out.2⟩
        case round =>
          obtain ⟨j, hj, hgk, rfl, hb⟩ := hrel
          have HG : Hid (gk = L.length - j ∧ Below w8.heap.size w8 wr) := ⟨hgk, hb⟩
          have HD : Hid (∀ n, Below w8.heap.size w8 (wr.drewN n) ∧ Below w.heap.size w (wr.drewN n) ∧ F2 ab ub W (wr.drewN n)) := fun n => by
            have e := hb.trans ((drN _ n).mono hb.size)
            exact ⟨e, (H8.out.2.2.1.below e).bel, H8.out.2.2.2.trans (F2.of e)⟩
          clear hgk hb
          by_cases hlt : j < L.length
          · have hlt' : (j : Int) < (L.length : Int) := by omega
            obtain ⟨b1, rfl, hb1, hb1', d0⟩ := H8.out.1.next hlt
            obtain ⟨b2, rfl, hb2, hb2', f0⟩ := H8.out.2.1.with4 hlt
            have HLt : Hid (j < L.length) := hlt
            have hro := HRo.out L[j] (List.getElem_mem hlt)
            have hne := HN.out.1 L[j] (List.getElem_mem hlt)
            have d1 : wr.cell? ⟨b1, j, none⟩ = some (.int .i64 L[j].1) := d0 wr (HG.out.2.block _ hb1')
            obtain ⟨e0, e1, e2, e3⟩ : wr.cell? ⟨b2, j * 4, none⟩ = some (.string (strT L[j].2.ty)) ∧ wr.cell? ⟨b2, j * 4 + 1, none⟩ = some (.int .i64 L[j].2.turn) ∧ wr.cell? ⟨b2, j * 4 + 2, none⟩ = some (.int .i64 (L[j].2.hand : Int)) ∧ wr.cell? ⟨b2, j * 4 + 3, none⟩ = some (.bool true) := f0 wr (HG.out.2.block _ hb2')
            obtain ⟨-, -, -, -, -, -, c6, -, -⟩ := cells9 (H8.out.2.2.1.below HG.out.2).lk.hw
            have HR9 : Hid (∀ t, g L[j].1.toNat = some t → sameS t L[j].2 = false → R = .error 94) := fun t h8 h9 => HRg.out.trans (give_94 L g HN.out.1 j hlt t h8 h9)
            generalize L[j] = y at *
            obtain ⟨kk, sty, shd, stn⟩ := y
            dsimp only at d1 e0 e1 e2 e3
            obtain ⟨kn, rfl⟩ : ∃ kn : Nat, kk = (kn : Int) := ⟨kk.toNat, by have := hro.wo.lo; dsimp only at this; omega⟩
            have hkn : kn < p.cd.length := by have h7 := hro.wo.hi; dsimp only at h7 hne; omega
            have hkn' : (kn : Int) < (p.cd.length : Int) := by omega
            have hkn0 : (0 : Int) ≤ (kn : Int) := by omega
            rw [Int.toNat_natCast] at HR9
            clear d0 f0 hb1 hb1' hb2 hb2' hro hne hlt
            cases hgk : g kn with
            | none =>
              obtain ⟨a0, a1, a2, a3⟩ := (H8.out.2.2.1.below HG.out.2).lk.isN hkn hgk
              clear hgk
              go_wp2_with fail
              go_quiet (fail)
              go_wp2_with fail
              go_roundg (L.length - (j + 1))
              case measure => have h1 := HG.out.1; have := HLt.out; omega
              case rel => exact ⟨j + 1, HLt.out, rfl, by go_num, (HD.out _).1⟩
            | some t =>
              obtain ⟨a0, a1, a2, a3⟩ := (H8.out.2.2.1.below HG.out.2).lk.isS hkn hgk
              have HR8 : Hid (sameS t ⟨sty, shd, stn⟩ = false → R = .error 94) := fun h9 => HR9.out t hgk h9
              clear hgk
              obtain ⟨uty, uhd, utn⟩ := t
              dsimp only at a0 a1 a2 a3
              by_cases q1 : strT uty = strT sty
              rotate_left
              · have q1' := strR_ne q1
                have HRe : Hid (R = .error 94) := HR8.out (by unfold sameS; dsimp only; rw [decide_eq_false (p := uty = sty) (fun e => q1 (by rw [e]))]; simp)
                clear q1
                go_wp2_with fail
                go_quiet (fail)
                go_wp2_with fail
                go_ret
                exact PlP.err HRe.out (by decide) (HD.out _).2.1 (HD.out _).2.2
              · rw [q1] at a0
                by_cases q2 : utn = stn
                rotate_left
                · have q2' : (utn == stn) = false := beq_eq_false_iff_ne.2 q2
                  have HRe : Hid (R = .error 94) := HR8.out (by unfold sameS; dsimp only; rw [decide_eq_false (p := utn = stn) q2]; simp)
                  clear q1 q2
                  go_wp2_with fail
                  go_quiet (fail)
                  go_wp2_with fail
                  go_ret
                  exact PlP.err HRe.out (by decide) (HD.out _).2.1 (HD.out _).2.2
                · subst q2
                  by_cases q3 : uhd = shd
                  rotate_left
                  · have q3' : ((uhd : Int) == (shd : Int)) = false := beq_eq_false_iff_ne.2 (by omega)
                    have HRe : Hid (R = .error 94) := HR8.out (by unfold sameS; dsimp only; rw [decide_eq_false (p := uhd = shd) q3]; simp)
                    clear q1 q3
                    go_wp2_with fail
                    go_quiet (fail)
                    go_wp2_with fail
                    go_ret
                    exact PlP.err HRe.out (by decide) (HD.out _).2.1 (HD.out _).2.2
                  · subst q3
                    clear q1
                    go_wp2_with fail
                    go_quiet (fail)
                    go_wp2_with fail
                    go_roundg (L.length - (j + 1))
                    case measure => have h1 := HG.out.1; have := HLt.out; omega
                    case rel => exact ⟨j + 1, HLt.out, rfl, by go_num, (HD.out _).1⟩
          · have hlt' : ¬ (j : Int) < (L.length : Int) := by omega
            obtain rfl : j = L.length := by omega
            have HB9 : Hid (Below w8.heap.size w8 wr) := HG.out.2
            clear hlt hj HG HD
            obtain ⟨wx, rfl⟩ : ∃ wx, wx = wr := ⟨_, rfl⟩
            go_wp2_with fail
            go_loopg [15] L.length (fun gq x wr => ∃ (m : Nat) (gm : Nat → Option Sd), m ≤ L.length ∧ gq = L.length - m ∧ x = .int .i64 (m : Int) ∧ La w wr lb ab ub sb ⟨qo, qc, vo, vc, tto, tc, oo, oc, some ⟨g1, f1, none⟩, cc⟩ p gm u' st ∧ RIv p gm u' ∧ (∀ x ∈ L.drop m, ROk p gm u' x) ∧ giveW p.cd.length (L.drop m) gm = giveW p.cd.length L g ∧ F2 ab ub w8 wr)
            case atStart => exact ⟨0, g, Nat.zero_le _, rfl, rfl, H8.out.2.2.1.below HB9.out, HIu.out, HRo.out, rfl, F2.of HB9.out⟩
            case round =>
              obtain ⟨m, gm, hm, hgk, rfl, hla, hri, hro, hgv, hf⟩ := hrel
              have HG : Hid (gk = L.length - m ∧ La w wr lb ab ub sb ⟨qo, qc, vo, vc, tto, tc, oo, oc, some ⟨g1, f1, none⟩, cc⟩ p gm u' st ∧ RIv p gm u' ∧ (∀ x ∈ L.drop m, ROk p gm u' x) ∧ giveW p.cd.length (L.drop m) gm = giveW p.cd.length L g ∧ F2 ab ub w8 wr) := ⟨hgk, hla, hri, hro, hgv, hf⟩
              clear hgk hla hri hro hgv hf
              by_cases hlt : m < L.length
              · have hlt' : (m : Int) < (L.length : Int) := by omega
                obtain ⟨b1, rfl, hb1, hb1', d0⟩ := H8.out.1.next hlt
                obtain ⟨b2, rfl, hb2, hb2', f0⟩ := H8.out.2.1.with4 hlt
                have HLt : Hid (m < L.length) := hlt
                have hdr := drop_cons hlt
                have hro := HG.out.2.2.2.1
                have hgv := HG.out.2.2.2.2.1
                rw [hdr] at hro hgv
                have hne := HN.out.1 L[m] (List.getElem_mem hlt)
                have hd1 : ∀ X : World, X.heap[b1]? = w8.heap[b1]? → X.cell? ⟨b1, m, none⟩ = some (.int .i64 L[m].1) := d0
                have hf1 : ∀ X : World, X.heap[b2]? = w8.heap[b2]? → X.cell? ⟨b2, m * 4, none⟩ = some (.string (strT L[m].2.ty)) ∧ X.cell? ⟨b2, m * 4 + 1, none⟩ = some (.int .i64 L[m].2.turn) ∧ X.cell? ⟨b2, m * 4 + 2, none⟩ = some (.int .i64 (L[m].2.hand : Int)) ∧ X.cell? ⟨b2, m * 4 + 3, none⟩ = some (.bool true) := f0
                clear d0 f0 hdr
                generalize L[m] = y at *
                obtain ⟨kk, sty, shd, stn⟩ := y
                dsimp only at hd1 hf1 hne
                have hr0 : ROk p gm u' (kk, ⟨sty, shd, stn⟩) := hro _ (by simp)
                obtain ⟨kn, rfl⟩ : ∃ kn : Nat, kk = (kn : Int) := ⟨kk.toNat, by have := hr0.wo.lo; dsimp only at this; omega⟩
                have hkn : kn < p.cd.length := by have h7 := hr0.wo.hi; dsimp only at h7; omega
                have HKn : Hid (kn < p.cd.length ∧ ROk p gm u' ((kn : Int), ⟨sty, shd, stn⟩) ∧ (∀ x ∈ L.drop (m + 1), ROk p gm u' x) ∧ giveW p.cd.length (((kn : Int), ⟨sty, shd, stn⟩) :: L.drop (m + 1)) gm = giveW p.cd.length L g ∧ (kn : Int) ≠ (p.cd.length : Int)) := ⟨hkn, hr0, fun x hx => hro x (List.mem_cons_of_mem _ hx), hgv, hne⟩
                have hn1 : b1 ≠ ab ∧ b1 ≠ ub ∧ b2 ≠ ab ∧ b2 ≠ ub := by have := HLb.out; omega
                have HSS : Hid (∀ X, F2 ab ub w8 X → (fun w' : World => w'.cell? ⟨b1, m, none⟩ = some (.int .i64 (kn : Int)) ∧ w'.cell? ⟨b2, m * 4, none⟩ = some (.string (strT sty)) ∧ w'.cell? ⟨b2, m * 4 + 1, none⟩ = some (.int .i64 stn) ∧ w'.cell? ⟨b2, m * 4 + 2, none⟩ = some (.int .i64 (shd : Int)) ∧ w'.cell? ⟨b2, m * 4 + 3, none⟩ = some (.bool true)) X) := fun X hX => by
                  obtain ⟨q0, q1, q2, q3⟩ := hf1 X (hX.block _ hb2' hn1.2.2.1 hn1.2.2.2)
                  exact ⟨hd1 X (hX.block _ hb1' hn1.1 hn1.2.1), q0, q1, q2, q3⟩
                have hkn' : (kn : Int) < (p.cd.length : Int) := by omega
                have hkn0 : (0 : Int) ≤ (kn : Int) := by omega
                clear hd1 hf1 hb1 hb1' hb2 hb2' hne hr0 hro hgv hlt hn1 hm hkn
                go_upto_region 29 with fail
                refine wp_region_held (S := fun w' : World => w'.cell? ⟨b1, m, none⟩ = some (.int .i64 (kn : Int)) ∧ w'.cell? ⟨b2, m * 4, none⟩ = some (.string (strT sty)) ∧ w'.cell? ⟨b2, m * 4 + 1, none⟩ = some (.int .i64 stn) ∧ w'.cell? ⟨b2, m * 4 + 2, none⟩ = some (.int .i64 (shd : Int)) ∧ w'.cell? ⟨b2, m * 4 + 3, none⟩ = some (.bool true)) (by kernel_rfl) ?_
                change wpAnyH _ _ _ _ _ _ _ _ wr.drew
                have hbd : Below wr.heap.size wr wr.drew := (Below.refl _ wr).drew
                have HLd : Hid (La w wr.drew lb ab ub sb ⟨qo, qc, vo, vc, tto, tc, oo, oc, some ⟨g1, f1, none⟩, cc⟩ p gm u' st ∧ F2 ab ub w8 wr.drew) := ⟨HG.out.2.1.below hbd, HG.out.2.2.2.2.2.trans (F2.of hbd)⟩
                have hS := HSS.out wr.drew HLd.out.2
                clear hbd
                generalize wr.drew = wd at *
                refine tqA 0 rfl hS ?_
                refine tqA 1 rfl hS ?_
                refine tqA 2 rfl hS ?_
                refine tqA 3 rfl hS ?_
                refine tqA 4 rfl hS ?_
                refine tqA 5 rfl hS ?_
                refine tqA 6 rfl hS ?_
                refine tqA 7 rfl hS ?_
                refine tqA 8 rfl hS ?_
                refine wpAnyH_ready (rs := [9]) (by kernel_rfl) (by simp) ?_
                refine AllReadyH.cons rfl (fun K hK => ?_) AllReadyH.nil
                go_simp
                refine Calls.mono (rget_any HLd.out.1 kn HKn.out.1 ⟨sty, shd, stn⟩) ?_
                rintro e wn hgt
                unfold GtP at hgt
                cases hgk : gm kn with
                | none =>
                  rw [hgk] at hgt
                  dsimp only at hgt
                  obtain ⟨rfl, hla, hf⟩ := hgt
                  have hf2 := HLd.out.2.trans hf
                  have HNx : Hid (La w wn lb ab ub sb ⟨qo, qc, vo, vc, tto, tc, oo, oc, some ⟨g1, f1, none⟩, cc⟩ p (upd gm kn ⟨sty, shd, stn⟩) u' st ∧ RIv p (upd gm kn ⟨sty, shd, stn⟩) u' ∧ (∀ x ∈ L.drop (m + 1), ROk p (upd gm kn ⟨sty, shd, stn⟩) u' x) ∧ giveW p.cd.length (L.drop (m + 1)) (upd gm kn ⟨sty, shd, stn⟩) = giveW p.cd.length L g ∧ F2 ab ub w8 wn) := by
                    have hz : gm ((kn : Int), (⟨sty, shd, stn⟩ : Sd)).1.toNat = none := by show gm (kn : Int).toNat = none; rw [Int.toNat_natCast]; exact hgk
                    refine ⟨hla, ?_, fun x hx => (HKn.out.2.2.1 x hx).upd hgk, ?_, hf2⟩
                    · have := HG.out.2.2.1.upd HKn.out.2.1 hkn' hz
                      rw [show ((kn : Int), (⟨sty, shd, stn⟩ : Sd)).1.toNat = kn from Int.toNat_natCast kn] at this
                      exact this
                    · rw [← HKn.out.2.2.2.1]
                      conv => rhs; unfold giveW
                      rw [if_neg HKn.out.2.2.2.2, Int.toNat_natCast, hgk]
                  refine hK.out _ _ (HSS.out _ hf2) (fun hS => ?_)
                  clear hK K hla hf hf2 HSS HLd hgk
                  refine tqA 10 rfl hS ?_
                  refine wpAnyH_done (by kernel_rfl) ?_ _
                  clear hS
                  go_simp
                  go_wp2_with fail
                  go_roundg (L.length - (m + 1))
                  case measure => have h1 := HG.out.1; have := HLt.out; omega
                  case rel => exact ⟨m + 1, _, HLt.out, rfl, by go_num, HNx.out.1, HNx.out.2.1, HNx.out.2.2.1, HNx.out.2.2.2.1, HNx.out.2.2.2.2⟩
                | some t =>
                  rw [hgk] at hgt
                  dsimp only at hgt
                  obtain ⟨rfl, hla, hf⟩ := hgt
                  have hf2 := HLd.out.2.trans hf
                  have HLa : Hid (La w wn lb ab ub sb ⟨qo, qc, vo, vc, tto, tc, oo, oc, some ⟨g1, f1, none⟩, cc⟩ p gm u' st ∧ F2 ab ub w8 wn) := ⟨hla, hf2⟩
                  have hgs : giveW p.cd.length (((kn : Int), ⟨sty, shd, stn⟩) :: L.drop (m + 1)) gm = if sameS t ⟨sty, shd, stn⟩ then giveW p.cd.length (L.drop (m + 1)) gm else .error 94 := by
                    conv => lhs; unfold giveW
                    rw [if_neg HKn.out.2.2.2.2, Int.toNat_natCast, hgk]
                  have HGs : Hid (giveW p.cd.length L g = if sameS t ⟨sty, shd, stn⟩ then giveW p.cd.length (L.drop (m + 1)) gm else .error 94) := HKn.out.2.2.2.1.symm.trans hgs
                  refine hK.out _ _ (HSS.out _ hf2) (fun hS => ?_)
                  clear hK K hla hf hf2 HSS HLd hgk hgs
                  refine tqA 10 rfl hS ?_
                  refine wpAnyH_done (by kernel_rfl) ?_ _
                  clear hS
                  go_simp
                  cases hsm : sameS t ⟨sty, shd, stn⟩
                  · have HRe : Hid (R = .error 94) := HRg.out.trans (by rw [HGs.out, hsm]; rfl)
                    clear hsm
                    go_wp2_with fail
                    go_ret
                    exact PlP.err HRe.out (by decide) HLa.out.1.bel (H8.out.2.2.2.trans HLa.out.2)
                  · have HGt : Hid (giveW p.cd.length (L.drop (m + 1)) gm = giveW p.cd.length L g) := by show giveW _ _ _ = _; rw [HGs.out, hsm]; rfl
                    clear hsm
                    go_wp2_with fail
                    go_roundg (L.length - (m + 1))
                    case measure => have h1 := HG.out.1; have := HLt.out; omega
                    case rel => exact ⟨m + 1, gm, HLt.out, rfl, by go_num, HLa.out.1, HG.out.2.2.1, HKn.out.2.2.1, HGt.out, HLa.out.2⟩
              · have hlt' : ¬ (m : Int) < (L.length : Int) := by omega
                obtain rfl : m = L.length := by omega
                have HRk : Hid (R = .ok gm) := by
                  show R = _
                  rw [HRg.out, ← HG.out.2.2.2.2.1, List.drop_length]
                  rfl
                clear hlt hm
                go_wp2_with fail
                go_ret
                show PlP _ _ _ _ _ _ _ _ _ R _ _
                rw [HRk.out]
                exact ⟨rfl, ⟨u', HG.out.2.1, HG.out.2.2.1⟩, H8.out.2.2.2.trans HG.out.2.2.2.2.2⟩
end Go.Proofs.YtelbakkgobkdaaaDoor.Vf

namespace Go.Proofs.YtelbakkgobkdaaaDoor.Vf
open Go.RowKit Go.Proofs.YtelbakkgobkdaaaDoor.Nm
theorem infoRs : (Tryd.prog.info? 76).map (fun i => (i.zero, i.size, i.bytes)) = some (some (.agg #[.string ⟨#[]⟩, .int .i64 0, .int .i64 0, .bool false]), 4, 40) := by kernel_rfl
theorem infoBo : (Tryd.prog.info? 4).map (fun i => (i.zero, i.size, i.bytes)) = some (some (.bool false), 1, 1) := by kernel_rfl
theorem mk_rs (n : Nat) (hn : n ≤ 1000000) : ∀ u : World, (Instr.makeSlice 72 (.int .i64 (n : Int)) (.int .i64 (n : Int))).run Tryd.prog u = .ok (.slice (some ⟨u.heap.size, 0, none⟩) n n) (u.alloc (.cells (rgC n (fun _ => none)).toArray 76)) := fun u => by
  have h := mk_row Tryd.underlying72 infoRs n hn (by decide) u
  have e : madeCells (Value.agg #[.string ⟨#[]⟩, .int .i64 0, .int .i64 0, .bool false]).cells (n * 4) = (rgC n (fun _ => none)).toArray := by
    apply Array.ext'
    apply List.ext_getElem?
    intro j
    have e1 : (Value.agg #[.string ⟨#[]⟩, .int .i64 0, .int .i64 0, .bool false]).cells = #[.string ⟨#[]⟩, .int .i64 0, .int .i64 0, .bool false] := rfl
    rw [e1]
    by_cases hj : j < n * 4
    · have h2 := rgC_at (n := n) (k := j / 4) (i := j % 4) (g := fun _ => none) (by omega) (by omega)
      rw [show j / 4 * 4 + j % 4 = j by omega] at h2
      rw [List.toList_toArray, h2, Array.getElem?_toList]
      simp only [madeCells]
      have hm : j % 4 < 4 := by omega
      simp [hj]
      generalize j % 4 = m at hm
      match m, hm with
      | 0, _ => rfl
      | 1, _ => rfl
      | 2, _ => rfl
      | 3, _ => rfl
    · rw [List.getElem?_eq_none (by rw [Array.length_toList, size_madeCells]; omega), List.getElem?_eq_none (by rw [List.toList_toArray, rgC_len]; omega)]
  rw [h, e]
theorem mk_bo (n : Nat) (hn : n ≤ 1000000) : ∀ u : World, (Instr.makeSlice 22 (.int .i64 (n : Int)) (.int .i64 (n : Int))).run Tryd.prog u = .ok (.slice (some ⟨u.heap.size, 0, none⟩) n n) (u.alloc (.cells (bC (List.replicate n false)).toArray 4)) := fun u => by
  have h := mk_row Tryd.underlying22 infoBo n hn (by decide) u
  have e : madeCells (Value.bool false).cells (n * 1) = (bC (List.replicate n false)).toArray := by
    rw [Nat.mul_one]
    apply Array.ext
    · simp [madeCells, bC]
    · intro k h1 h2
      simp [madeCells, Value.cells, Nat.mod_one, bC]
  rw [h, e]
end Go.Proofs.YtelbakkgobkdaaaDoor.Vf

namespace Go.Proofs.YtelbakkgobkdaaaDoor.Vf
open Go.RowKit Go.Proofs.YtelbakkgobkdaaaDoor.Nm
/-- what look tells, but for the memory -/
def lookR (p : Pg) : Except (Nat × Nat) (Nat → Option Sd) := if chk p = 0 then walkP p p.cd.length 0 (got0 p) else .error (chk p, 0)
def LoP (w : World) (v : PV) (p : Pg) (R : Except (Nat × Nat) (Nat → Option Sd)) (e : Ending) (w' : World) : Prop :=
  match R with
  | .ok g => ∃ lb ab ub sb u st, e = .returned (.tuple #[.pointer (some ⟨lb, 0, none⟩), .agg #[.int .i64 0, .int .i64 0]]) ∧ La w w' lb ab ub sb v p g u st
  | .error (c, i) => e = .returned (.tuple #[.pointer none, .agg #[.int .i64 (c : Int), .int .i64 (i : Int)]]) ∧ c ≠ 0 ∧ Below w.heap.size w w'
theorem La.of {w X : World} {lb ab ub sb : Nat} {v : PV} {p : Pg} (hP : IsPg w v p) (hb : Below w.heap.size w X) (ll : w.heap.size ≤ lb) (la : w.heap.size ≤ ab) (lu : w.heap.size ≤ ub) (ls : w.heap.size ≤ sb) (n : lb ≠ ab ∧ lb ≠ ub ∧ lb ≠ sb ∧ ab ≠ ub ∧ ab ≠ sb ∧ ub ≠ sb)
    (h1 : X.heap[lb]? = some (.cells #[.slice v.qo p.gh.length v.qc, .slice v.vo p.vs.length v.vc, .slice v.to p.ts.length v.tc, .slice v.oo p.on.length v.oc, .int .i64 p.miss, .slice v.co p.cd.length v.cc, .slice (some ⟨ab, 0, none⟩) p.cd.length p.cd.length, .slice (some ⟨ub, 0, none⟩) p.cd.length p.cd.length, .slice (some ⟨sb, 0, none⟩) p.cd.length p.cd.length] 74 (0, 0)))
    (h2 : X.heap[ab]? = some (.cells (rgC p.cd.length (fun _ => none)).toArray 76 (0, 0))) (h3 : X.heap[ub]? = some (.cells (fuC p.cd.length (fun _ => 0)).toArray 3 (0, 0))) (h4 : X.heap[sb]? = some (.cells (bC (List.replicate p.cd.length false)).toArray 4 (0, 0))) :
    La w X lb ab ub sb v p (fun _ => none) (fun _ => 0) (List.replicate p.cd.length false) :=
  ⟨⟨h1, hP.below hb, h2, h3, h4⟩, hP, hb, ll, la, lu, ls, n.1, n.2.1, n.2.2.1, n.2.2.2.1, n.2.2.2.2.1, n.2.2.2.2.2⟩
/-- the standings and starts behind j events -/
def stS (p : Pg) (j : Nat) : List Bool := ((evs p).take j).foldl (fun s n => if n = -1 then s else s.set n.toNat true) (List.replicate p.cd.length false)
theorem stS_len (p : Pg) (j : Nat) : (stS p j).length = p.cd.length := by
  unfold stS
  generalize (evs p).take j = l
  suffices h : ∀ (l : List Int) (s : List Bool), (l.foldl (fun s n => if n = -1 then s else s.set n.toNat true) s).length = s.length by rw [h]; simp
  intro l
  induction l with
  | nil => intro s; rfl
  | cons n l ih =>
    intro s
    rw [List.foldl_cons, ih]
    split <;> simp
theorem stS_at {p : Pg} (hev : ∀ n ∈ evs p, -1 ≤ n ∧ n < (p.cd.length : Int)) (k : Nat) (h : k < (stS p (evs p).length).length) : (stS p (evs p).length)[k] = (evs p).contains (k : Int) := by
  have key : ∀ (l : List Int) (s : List Bool) (hl : ∀ n ∈ l, -1 ≤ n) (k : Nat), (l.foldl (fun s n => if n = -1 then s else s.set n.toNat true) s)[k]? = if k < s.length then some ((s[k]?.getD false) || l.contains (k : Int)) else none := by
    intro l
    induction l with
    | nil =>
      intro s _ k
      by_cases hk : k < s.length
      · rw [if_pos hk]; simp [hk]
      · rw [if_neg hk]; simp; omega
    | cons n l ih =>
      intro s hl k
      have hn := hl n (by simp)
      rw [List.foldl_cons, ih _ (fun m hm => hl m (by simp [hm]))]
      by_cases e : n = -1
      · rw [if_pos e]
        subst e
        have : ((-1 : Int) :: l).contains (k : Int) = l.contains (k : Int) := by
          rw [List.contains_cons]
          rw [show ((k : Int) == -1) = false from beq_eq_false_iff_ne.2 (by omega), Bool.false_or]
        rw [this]
      · rw [if_neg e, List.length_set]
        by_cases hk : k < s.length
        · rw [if_pos hk, if_pos hk, List.getElem?_set]
          by_cases e2 : n.toNat = k
          · have e3 : ((k : Int) == n) = true := beq_iff_eq.2 (by omega)
            rw [if_pos e2, List.contains_cons, e3]
            simp [e2, hk]
          · have e3 : ((k : Int) == n) = false := beq_eq_false_iff_ne.2 (by omega)
            rw [if_neg e2, List.contains_cons, e3, Bool.false_or]
        · rw [if_neg hk, if_neg hk]
  have h2 := key ((evs p).take (evs p).length) (List.replicate p.cd.length false) (fun n hn => (hev n (List.mem_of_mem_take hn)).1) k
  have hk : k < p.cd.length := by rw [stS_len] at h; exact h
  have h3 : (stS p (evs p).length)[k]? = some ((evs p).contains (k : Int)) := by
    unfold stS
    rw [h2, if_pos (by simpa using hk), List.take_length]
    simp [hk]
  rw [List.getElem?_eq_getElem h] at h3
  exact Option.some.inj h3
theorem got0_fresh (p : Pg) : ∀ k s, got0 p k = some s → s = freshS := by
  unfold got0
  suffices h : ∀ (l : List Int) (g : Nat → Option Sd), (∀ k s, g k = some s → s = freshS) → ∀ k s, l.foldl put0 g k = some s → s = freshS from h _ _ (fun k s hs => by cases hs)
  intro l
  induction l with
  | nil => intro g hg k s hs; exact hg k s hs
  | cons n l ih =>
    intro g hg k s hs
    refine ih (put0 g n) (fun j t ht => ?_) k s hs
    unfold put0 at ht
    split at ht
    · exact hg j t ht
    · unfold upd at ht
      split at ht
      · cases ht; rfl
      · exact hg j t ht
theorem La.cell {w W : World} {lb ab ub sb : Nat} {v : PV} {p : Pg} {g : Nat → Option Sd} {u : Nat → Int} {st : List Bool} (h : La w W lb ab ub sb v p g u st) (kb k : Nat) (x : Value) (h0 : w.heap.size ≤ kb) (h1 : lb ≠ kb) (h2 : ab ≠ kb) (h3 : ub ≠ kb) (h4 : sb ≠ kb) : La w (W.setCell ⟨kb, k, none⟩ x) lb ab ub sb v p g u st :=
  have hb : Below w.heap.size w (W.setCell ⟨kb, k, none⟩ x) := h.bel.setCell (p := ⟨kb, k, none⟩) h0 _
  ⟨⟨(Below.heap_setCell _ _ _ _ h1).trans h.lk.hw, h.pg.below hb, (Below.heap_setCell _ _ _ _ h2).trans h.lk.at_, (Below.heap_setCell _ _ _ _ h3).trans h.lk.up, (Below.heap_setCell _ _ _ _ h4).trans h.lk.ss⟩, h.pg, hb, h.ll, h.la, h.lu, h.ls, h.n1, h.n2, h.n3, h.n4, h.n5, h.n6⟩
def gtS (p : Pg) (j : Nat) : Nat → Option Sd := ((evs p).take j).foldl put0 (fun _ => none)
theorem evs_at {p : Pg} {j : Nat} (h : j < (evs p).length) : (evs p)[j] = if hj : j < p.on.length then p.on[j] else p.miss := by
  unfold evs at *
  split
  · rename_i hj
    rw [List.getElem_append_left hj]
  · rename_i hj
    rw [List.getElem_append_right (by omega)]
    simp
set_option maxHeartbeats 12800000 in
set_option maxRecDepth 100000 in
/-- the reference's look -/
theorem rlook_any (v : PV) (p : Pg) (w : World) (hP : IsPg w v p) : Calls Tryd.prog 20 #[.agg (pvC v p)] w (LoP w v p (lookR p)) := by
  have n4 : (p.on.length : Int) ≤ 1000000000000000 := by have := hP.lon; omega
  have n5 : (p.cd.length : Int) ≤ 1000000000000000 := by have := hP.lcd; omega
  have HC : Hid (∀ W, Below w.heap.size w W → Calls Tryd.prog 29 #[.agg (pvC v p)] W fun e w' => e = .returned (.int .i64 (chk p : Int)) ∧ Below W.heap.size W w') := fun W hb => rchk_any v p W (hP.below hb)
  have HP : Hid (IsPg w v p) := hP
  obtain ⟨qo, qc, vo, vc, tto, tc, oo, oc, co, cc⟩ := v
  show Calls _ _ #[.agg #[.slice qo p.gh.length qc, .slice vo p.vs.length vc, .slice tto p.ts.length tc, .slice oo p.on.length oc, .int .i64 p.miss, .slice co p.cd.length cc]] _ _
  obtain ⟨hb2, t1, t2⟩ : Below w.heap.size w ((w.alloc (.cells #[.slice qo p.gh.length qc, .slice vo p.vs.length vc, .slice tto p.ts.length tc, .slice oo p.on.length oc, .int .i64 p.miss, .slice co p.cd.length cc] 27)).alloc (.cells #[.int .i64 0, .int .i64 0] 35)) ∧ ((w.alloc (.cells #[.slice qo p.gh.length qc, .slice vo p.vs.length vc, .slice tto p.ts.length tc, .slice oo p.on.length oc, .int .i64 p.miss, .slice co p.cd.length cc] 27)).alloc (.cells #[.int .i64 0, .int .i64 0] 35)).heap[w.heap.size]? = some (.cells #[.slice qo p.gh.length qc, .slice vo p.vs.length vc, .slice tto p.ts.length tc, .slice oo p.on.length oc, .int .i64 p.miss, .slice co p.cd.length cc] 27 (0, 0)) ∧ ((w.alloc (.cells #[.slice qo p.gh.length qc, .slice vo p.vs.length vc, .slice tto p.ts.length tc, .slice oo p.on.length oc, .int .i64 p.miss, .slice co p.cd.length cc] 27)).alloc (.cells #[.int .i64 0, .int .i64 0] 35)).heap[w.heap.size + 1]? = some (.cells #[.int .i64 0, .int .i64 0] 35 (0, 0)) := by
    obtain ⟨t1, t2, -⟩ := two_al w (.cells #[.slice qo p.gh.length qc, .slice vo p.vs.length vc, .slice tto p.ts.length tc, .slice oo p.on.length oc, .int .i64 p.miss, .slice co p.cd.length cc] 27) (.cells #[.int .i64 0, .int .i64 0] 35)
    exact ⟨((Below.refl _ w).alloc (Nat.le_refl _) _).alloc (by simp) _, t1.trans (heap_alloc_new _ _), t2.trans (heap_alloc_new _ _)⟩
  have H0 : Hid (Below w.heap.size w ((w.alloc (.cells #[.slice qo p.gh.length qc, .slice vo p.vs.length vc, .slice tto p.ts.length tc, .slice oo p.on.length oc, .int .i64 p.miss, .slice co p.cd.length cc] 27)).alloc (.cells #[.int .i64 0, .int .i64 0] 35)) ∧ ((w.alloc (.cells #[.slice qo p.gh.length qc, .slice vo p.vs.length vc, .slice tto p.ts.length tc, .slice oo p.on.length oc, .int .i64 p.miss, .slice co p.cd.length cc] 27)).alloc (.cells #[.int .i64 0, .int .i64 0] 35)).heap[w.heap.size]? = some (.cells #[.slice qo p.gh.length qc, .slice vo p.vs.length vc, .slice tto p.ts.length tc, .slice oo p.on.length oc, .int .i64 p.miss, .slice co p.cd.length cc] 27 (0, 0)) ∧ ((w.alloc (.cells #[.slice qo p.gh.length qc, .slice vo p.vs.length vc, .slice tto p.ts.length tc, .slice oo p.on.length oc, .int .i64 p.miss, .slice co p.cd.length cc] 27)).alloc (.cells #[.int .i64 0, .int .i64 0] 35)).heap[w.heap.size + 1]? = some (.cells #[.int .i64 0, .int .i64 0] 35 (0, 0))) := ⟨hb2, t1, t2⟩
  clear hb2 t1 t2 hP
  obtain ⟨R, hR⟩ : ∃ R, R = lookR p := ⟨_, rfl⟩
  rw [← hR]
  have HR : Hid (R = lookR p) := hR
  clear hR
  go_enter Tryd.func20, Tryd.ntmps20
  go_wp2_with fail
  generalize (w.alloc (.cells #[.slice qo p.gh.length qc, .slice vo p.vs.length vc, .slice tto p.ts.length tc, .slice oo p.on.length oc, .int .i64 p.miss, .slice co p.cd.length cc] 27)).alloc (.cells #[.int .i64 0, .int .i64 0] 35) = W0 at *
  refine (HC.out _ H0.out.1).mono ?_
  rintro e w1 ⟨rfl, hb1⟩
  have H1 : Hid (Below w.heap.size w w1 ∧ w1.heap[w.heap.size]? = some (.cells #[.slice qo p.gh.length qc, .slice vo p.vs.length vc, .slice tto p.ts.length tc, .slice oo p.on.length oc, .int .i64 p.miss, .slice co p.cd.length cc] 27 (0, 0)) ∧ w1.heap[w.heap.size + 1]? = some (.cells #[.int .i64 0, .int .i64 0] 35 (0, 0))) := ⟨H0.out.1.trans (hb1.mono H0.out.1.size), (hb1.block _ (blk_lt H0.out.2.1)).trans H0.out.2.1, (hb1.block _ (blk_lt H0.out.2.2)).trans H0.out.2.2⟩
  clear hb1 H0 HC
  obtain ⟨i0, i1, i2, i3, i4, i5⟩ := cells6 H1.out.2.1
  obtain ⟨z0, z1⟩ := cells2 H1.out.2.2
  have fz : ∀ j, w1.frozen? ⟨w.heap.size + 1, j, none⟩ = false := Lk.fz H1.out.2.2
  by_cases hc : chk p = 0
  rotate_left
  · have HRe : Hid (R = .error (chk p, 0) ∧ chk p ≠ 0) := ⟨by rw [HR.out]; unfold lookR; rw [if_neg hc], hc⟩
    generalize chk p = ck at *
    have hc' : ¬ (ck : Int) = 0 := by omega
    clear hc
    have HB9 : Hid (Below w.heap.size w ((w1.setCell ⟨w.heap.size + 1, 0, none⟩ (.int .i64 (ck : Int))).setCell ⟨w.heap.size + 1, 1, none⟩ (.int .i64 0)) ∧ ((w1.setCell ⟨w.heap.size + 1, 0, none⟩ (.int .i64 (ck : Int))).setCell ⟨w.heap.size + 1, 1, none⟩ (.int .i64 0)).heap[w.heap.size + 1]? = some (.cells #[.int .i64 (ck : Int), .int .i64 0] 35 (0, 0))) :=
      ⟨(H1.out.1.setCell (p := ⟨w.heap.size + 1, 0, none⟩) (Nat.le_succ _) _).setCell (p := ⟨w.heap.size + 1, 1, none⟩) (Nat.le_succ _) _, heap_setCell_same _ _ 1 _ _ _ (heap_setCell_same w1 _ 0 _ _ _ H1.out.2.2)⟩
    go_wp2_with fail
    generalize ((w1.setCell ⟨w.heap.size + 1, 0, none⟩ (.int .i64 (ck : Int))).setCell ⟨w.heap.size + 1, 1, none⟩ (.int .i64 0)) = W9 at *
    obtain ⟨y0, y1⟩ := cells2 HB9.out.2
    refine bodyPost_ret (v := .tuple #[.pointer none, .agg #[.int .i64 (ck : Int), .int .i64 0]]) (by simp [results, Tryd.results20, go_sem, y0, y1]) rfl ?_
    show LoP _ _ _ R _ _
    rw [HRe.out.1]
    exact ⟨rfl, HRe.out.2, HB9.out.1⟩
  obtain ⟨k1, k2, k3, k4⟩ := chk_of hc
  have HK : Hid (p.on.length ≤ 16 ∧ (∀ n ∈ evs p, -1 ≤ n ∧ n < (p.cd.length : Int)) ∧ (∀ i, i < p.cd.length → OkI p (p.at i)) ∧ R = walkP p p.cd.length 0 (got0 p)) := ⟨k1, k3, k4, by rw [HR.out]; unfold lookR; rw [if_pos hc]⟩
  have hc0 : (chk p : Int) = 0 := by omega
  have m1 := mk_rs p.cd.length (by omega)
  have m2 := mk_ints p.cd.length (by omega)
  have m3 := mk_bo p.cd.length (by omega)
  have n6 : (p.cd.length : Int) ≤ 262144 := by omega
  clear HR hc k1 k2 k3 k4
  go_upto_region 5 with fail
  go_cut [6] (fun s6 wx => ∃ lb ab ub sb, s6 = .pointer (some ⟨lb, 0, none⟩) ∧ La w wx lb ab ub sb ⟨qo, qc, vo, vc, tto, tc, oo, oc, co, cc⟩ p (fun _ => none) (fun _ => 0) (List.replicate p.cd.length false) ∧ w.heap.size + 1 < lb ∧ w.heap.size + 1 < ab ∧ w.heap.size + 1 < ub ∧ w.heap.size + 1 < sb ∧ Below w1.heap.size w1 wx)
  case first =>
    have HS : Hid (∀ X, Below w1.drew.heap.size w1.drew X → (fun w' : World => w'.cell? ⟨w.heap.size, 0, none⟩ = some (.slice qo p.gh.length qc) ∧ w'.cell? ⟨w.heap.size, 1, none⟩ = some (.slice vo p.vs.length vc) ∧ w'.cell? ⟨w.heap.size, 2, none⟩ = some (.slice tto p.ts.length tc) ∧ w'.cell? ⟨w.heap.size, 3, none⟩ = some (.slice oo p.on.length oc) ∧ w'.cell? ⟨w.heap.size, 4, none⟩ = some (.int .i64 p.miss) ∧ w'.cell? ⟨w.heap.size, 5, none⟩ = some (.slice co p.cd.length cc)) X) := fun X hX => cells6 ((hX.block _ (blk_lt (show w1.drew.heap[w.heap.size]? = _ from H1.out.2.1))).trans H1.out.2.1)
    have H2 : Hid (Below w.heap.size w w1.drew ∧ w.heap.size + 1 < w1.drew.heap.size ∧ Below w1.heap.size w1 w1.drew) := ⟨H1.out.1.drew, blk_lt (show w1.drew.heap[w.heap.size + 1]? = _ from H1.out.2.2), (Below.refl _ w1).drew⟩
    refine wp_region_held (S := fun w' : World => w'.cell? ⟨w.heap.size, 0, none⟩ = some (.slice qo p.gh.length qc) ∧ w'.cell? ⟨w.heap.size, 1, none⟩ = some (.slice vo p.vs.length vc) ∧ w'.cell? ⟨w.heap.size, 2, none⟩ = some (.slice tto p.ts.length tc) ∧ w'.cell? ⟨w.heap.size, 3, none⟩ = some (.slice oo p.on.length oc) ∧ w'.cell? ⟨w.heap.size, 4, none⟩ = some (.int .i64 p.miss) ∧ w'.cell? ⟨w.heap.size, 5, none⟩ = some (.slice co p.cd.length cc)) (by kernel_rfl) ?_
    change wpAnyH _ _ _ _ _ _ _ _ w1.drew
    have hS := HS.out w1.drew (Below.refl _ _)
    generalize w1.drew = w2 at *
    refine tqA 0 rfl hS ?_
    refine tqA 1 rfl hS ?_
    refine tqA 3 rfl hS ?_
    refine tqA 5 rfl hS ?_
    refine wpAnyH_ready (rs := [2, 4, 6]) (by kernel_rfl) (by simp) ?_
    refine AllReadyH.cons rfl (fun K hK => ?_) (AllReadyH.cons rfl (fun K hK => ?_) (AllReadyH.cons rfl (fun K hK => ?_) AllReadyH.nil))
    · go_simp
      refine hK.out _ _ (HS.out _ (by first | exact (Below.refl _ w2).alloc (Nat.le_refl _) _ | exact ((Below.refl _ w2).alloc (Nat.le_refl _) _).alloc (by simp) _ | exact (((Below.refl _ w2).alloc (Nat.le_refl _) _).alloc (by simp) _).alloc (by simp; omega) _)) (fun hS => ?_)
      clear hK K
      refine wpAnyH_ready (rs := [4, 6]) (by kernel_rfl) (by simp) ?_
      refine AllReadyH.cons rfl (fun K hK => ?_) (AllReadyH.cons rfl (fun K hK => ?_) AllReadyH.nil)
      · go_simp
        refine hK.out _ _ (HS.out _ (by first | exact (Below.refl _ w2).alloc (Nat.le_refl _) _ | exact ((Below.refl _ w2).alloc (Nat.le_refl _) _).alloc (by simp) _ | exact (((Below.refl _ w2).alloc (Nat.le_refl _) _).alloc (by simp) _).alloc (by simp; omega) _)) (fun hS => ?_)
        clear hK K
        refine wpAnyH_ready (rs := [6]) (by kernel_rfl) (by simp) ?_
        refine AllReadyH.cons rfl (fun K hK => ?_) AllReadyH.nil
        · go_simp
          refine hK.out _ _ (HS.out _ (by first | exact (Below.refl _ w2).alloc (Nat.le_refl _) _ | exact ((Below.refl _ w2).alloc (Nat.le_refl _) _).alloc (by simp) _ | exact (((Below.refl _ w2).alloc (Nat.le_refl _) _).alloc (by simp) _).alloc (by simp; omega) _)) (fun hS => ?_)
          clear hK K
          refine tqA 7 rfl hS ?_
          refine wpAnyH_ready (rs := [8]) (by kernel_rfl) (by simp) ?_
          refine AllReadyH.cons rfl (fun K hK => ?_) AllReadyH.nil
          go_simp
          obtain ⟨hb9, q0, q1, q2, q3⟩ := al4 w2 (.cells (rgC p.cd.length (fun _ => none)).toArray 76) (.cells (fuC p.cd.length (fun _ => 0)).toArray 3) (.cells (bC (List.replicate p.cd.length false)).toArray 4) (.cells #[.slice qo p.gh.length qc, .slice vo p.vs.length vc, .slice tto p.ts.length tc, .slice oo p.on.length oc, .int .i64 p.miss, .slice co p.cd.length cc, .slice (some ⟨w2.heap.size, 0, none⟩) p.cd.length p.cd.length, .slice (some ⟨w2.heap.size + 1, 0, none⟩) p.cd.length p.cd.length, .slice (some ⟨w2.heap.size + 1 + 1, 0, none⟩) p.cd.length p.cd.length] 74)
          refine hK.out _ _ (HS.out _ hb9) (fun hS => ?_)
          refine tqA 9 rfl hS ?_
          refine wpAnyH_done (by kernel_rfl) ?_ _
          clear hS
          go_simp
          go_wp2_with fail
          go_meet
          exact ⟨w2.heap.size + 1 + 1 + 1, w2.heap.size, w2.heap.size + 1, w2.heap.size + 1 + 1, rfl, La.of HP.out (H2.out.1.trans (hb9.mono H2.out.1.size)) (by have := H2.out.2.1; omega) (by have := H2.out.2.1; omega) (by have := H2.out.2.1; omega) (by have := H2.out.2.1; omega) (by omega) q3 q0 q1 q2, by have := H2.out.2.1; omega, by have := H2.out.2.1; omega, by have := H2.out.2.1; omega, by have := H2.out.2.1; omega, H2.out.2.2.trans (hb9.mono H2.out.2.2.size)⟩
      · go_simp
        refine hK.out _ _ (HS.out _ (by first | exact (Below.refl _ w2).alloc (Nat.le_refl _) _ | exact ((Below.refl _ w2).alloc (Nat.le_refl _) _).alloc (by simp) _ | exact (((Below.refl _ w2).alloc (Nat.le_refl _) _).alloc (by simp) _).alloc (by simp; omega) _)) (fun hS => ?_)
        clear hK K
        refine wpAnyH_ready (rs := [4]) (by kernel_rfl) (by simp) ?_
        refine AllReadyH.cons rfl (fun K hK => ?_) AllReadyH.nil
        · go_simp
          refine hK.out _ _ (HS.out _ (by first | exact (Below.refl _ w2).alloc (Nat.le_refl _) _ | exact ((Below.refl _ w2).alloc (Nat.le_refl _) _).alloc (by simp) _ | exact (((Below.refl _ w2).alloc (Nat.le_refl _) _).alloc (by simp) _).alloc (by simp; omega) _)) (fun hS => ?_)
          clear hK K
          refine tqA 7 rfl hS ?_
          refine wpAnyH_ready (rs := [8]) (by kernel_rfl) (by simp) ?_
          refine AllReadyH.cons rfl (fun K hK => ?_) AllReadyH.nil
          go_simp
          obtain ⟨hb9, q0, q1, q2, q3⟩ := al4 w2 (.cells (rgC p.cd.length (fun _ => none)).toArray 76) (.cells (bC (List.replicate p.cd.length false)).toArray 4) (.cells (fuC p.cd.length (fun _ => 0)).toArray 3) (.cells #[.slice qo p.gh.length qc, .slice vo p.vs.length vc, .slice tto p.ts.length tc, .slice oo p.on.length oc, .int .i64 p.miss, .slice co p.cd.length cc, .slice (some ⟨w2.heap.size, 0, none⟩) p.cd.length p.cd.length, .slice (some ⟨w2.heap.size + 1 + 1, 0, none⟩) p.cd.length p.cd.length, .slice (some ⟨w2.heap.size + 1, 0, none⟩) p.cd.length p.cd.length] 74)
          refine hK.out _ _ (HS.out _ hb9) (fun hS => ?_)
          refine tqA 9 rfl hS ?_
          refine wpAnyH_done (by kernel_rfl) ?_ _
          clear hS
          go_simp
          go_wp2_with fail
          go_meet
          exact ⟨w2.heap.size + 1 + 1 + 1, w2.heap.size, w2.heap.size + 1 + 1, w2.heap.size + 1, rfl, La.of HP.out (H2.out.1.trans (hb9.mono H2.out.1.size)) (by have := H2.out.2.1; omega) (by have := H2.out.2.1; omega) (by have := H2.out.2.1; omega) (by have := H2.out.2.1; omega) (by omega) q3 q0 q2 q1, by have := H2.out.2.1; omega, by have := H2.out.2.1; omega, by have := H2.out.2.1; omega, by have := H2.out.2.1; omega, H2.out.2.2.trans (hb9.mono H2.out.2.2.size)⟩
    · go_simp
      refine hK.out _ _ (HS.out _ (by first | exact (Below.refl _ w2).alloc (Nat.le_refl _) _ | exact ((Below.refl _ w2).alloc (Nat.le_refl _) _).alloc (by simp) _ | exact (((Below.refl _ w2).alloc (Nat.le_refl _) _).alloc (by simp) _).alloc (by simp; omega) _)) (fun hS => ?_)
      clear hK K
      refine wpAnyH_ready (rs := [2, 6]) (by kernel_rfl) (by simp) ?_
      refine AllReadyH.cons rfl (fun K hK => ?_) (AllReadyH.cons rfl (fun K hK => ?_) AllReadyH.nil)
      · go_simp
        refine hK.out _ _ (HS.out _ (by first | exact (Below.refl _ w2).alloc (Nat.le_refl _) _ | exact ((Below.refl _ w2).alloc (Nat.le_refl _) _).alloc (by simp) _ | exact (((Below.refl _ w2).alloc (Nat.le_refl _) _).alloc (by simp) _).alloc (by simp; omega) _)) (fun hS => ?_)
        clear hK K
        refine wpAnyH_ready (rs := [6]) (by kernel_rfl) (by simp) ?_
        refine AllReadyH.cons rfl (fun K hK => ?_) AllReadyH.nil
        · go_simp
          refine hK.out _ _ (HS.out _ (by first | exact (Below.refl _ w2).alloc (Nat.le_refl _) _ | exact ((Below.refl _ w2).alloc (Nat.le_refl _) _).alloc (by simp) _ | exact (((Below.refl _ w2).alloc (Nat.le_refl _) _).alloc (by simp) _).alloc (by simp; omega) _)) (fun hS => ?_)
          clear hK K
          refine tqA 7 rfl hS ?_
          refine wpAnyH_ready (rs := [8]) (by kernel_rfl) (by simp) ?_
          refine AllReadyH.cons rfl (fun K hK => ?_) AllReadyH.nil
          go_simp
          obtain ⟨hb9, q0, q1, q2, q3⟩ := al4 w2 (.cells (fuC p.cd.length (fun _ => 0)).toArray 3) (.cells (rgC p.cd.length (fun _ => none)).toArray 76) (.cells (bC (List.replicate p.cd.length false)).toArray 4) (.cells #[.slice qo p.gh.length qc, .slice vo p.vs.length vc, .slice tto p.ts.length tc, .slice oo p.on.length oc, .int .i64 p.miss, .slice co p.cd.length cc, .slice (some ⟨w2.heap.size + 1, 0, none⟩) p.cd.length p.cd.length, .slice (some ⟨w2.heap.size, 0, none⟩) p.cd.length p.cd.length, .slice (some ⟨w2.heap.size + 1 + 1, 0, none⟩) p.cd.length p.cd.length] 74)
          refine hK.out _ _ (HS.out _ hb9) (fun hS => ?_)
          refine tqA 9 rfl hS ?_
          refine wpAnyH_done (by kernel_rfl) ?_ _
          clear hS
          go_simp
          go_wp2_with fail
          go_meet
          exact ⟨w2.heap.size + 1 + 1 + 1, w2.heap.size + 1, w2.heap.size, w2.heap.size + 1 + 1, rfl, La.of HP.out (H2.out.1.trans (hb9.mono H2.out.1.size)) (by have := H2.out.2.1; omega) (by have := H2.out.2.1; omega) (by have := H2.out.2.1; omega) (by have := H2.out.2.1; omega) (by omega) q3 q1 q0 q2, by have := H2.out.2.1; omega, by have := H2.out.2.1; omega, by have := H2.out.2.1; omega, by have := H2.out.2.1; omega, H2.out.2.2.trans (hb9.mono H2.out.2.2.size)⟩
      · go_simp
        refine hK.out _ _ (HS.out _ (by first | exact (Below.refl _ w2).alloc (Nat.le_refl _) _ | exact ((Below.refl _ w2).alloc (Nat.le_refl _) _).alloc (by simp) _ | exact (((Below.refl _ w2).alloc (Nat.le_refl _) _).alloc (by simp) _).alloc (by simp; omega) _)) (fun hS => ?_)
        clear hK K
        refine wpAnyH_ready (rs := [2]) (by kernel_rfl) (by simp) ?_
        refine AllReadyH.cons rfl (fun K hK => ?_) AllReadyH.nil
        · go_simp
          refine hK.out _ _ (HS.out _ (by first | exact (Below.refl _ w2).alloc (Nat.le_refl _) _ | exact ((Below.refl _ w2).alloc (Nat.le_refl _) _).alloc (by simp) _ | exact (((Below.refl _ w2).alloc (Nat.le_refl _) _).alloc (by simp) _).alloc (by simp; omega) _)) (fun hS => ?_)
          clear hK K
          refine tqA 7 rfl hS ?_
          refine wpAnyH_ready (rs := [8]) (by kernel_rfl) (by simp) ?_
          refine AllReadyH.cons rfl (fun K hK => ?_) AllReadyH.nil
          go_simp
          obtain ⟨hb9, q0, q1, q2, q3⟩ := al4 w2 (.cells (fuC p.cd.length (fun _ => 0)).toArray 3) (.cells (bC (List.replicate p.cd.length false)).toArray 4) (.cells (rgC p.cd.length (fun _ => none)).toArray 76) (.cells #[.slice qo p.gh.length qc, .slice vo p.vs.length vc, .slice tto p.ts.length tc, .slice oo p.on.length oc, .int .i64 p.miss, .slice co p.cd.length cc, .slice (some ⟨w2.heap.size + 1 + 1, 0, none⟩) p.cd.length p.cd.length, .slice (some ⟨w2.heap.size, 0, none⟩) p.cd.length p.cd.length, .slice (some ⟨w2.heap.size + 1, 0, none⟩) p.cd.length p.cd.length] 74)
          refine hK.out _ _ (HS.out _ hb9) (fun hS => ?_)
          refine tqA 9 rfl hS ?_
          refine wpAnyH_done (by kernel_rfl) ?_ _
          clear hS
          go_simp
          go_wp2_with fail
          go_meet
          exact ⟨w2.heap.size + 1 + 1 + 1, w2.heap.size + 1 + 1, w2.heap.size, w2.heap.size + 1, rfl, La.of HP.out (H2.out.1.trans (hb9.mono H2.out.1.size)) (by have := H2.out.2.1; omega) (by have := H2.out.2.1; omega) (by have := H2.out.2.1; omega) (by have := H2.out.2.1; omega) (by omega) q3 q2 q0 q1, by have := H2.out.2.1; omega, by have := H2.out.2.1; omega, by have := H2.out.2.1; omega, by have := H2.out.2.1; omega, H2.out.2.2.trans (hb9.mono H2.out.2.2.size)⟩
    · go_simp
      refine hK.out _ _ (HS.out _ (by first | exact (Below.refl _ w2).alloc (Nat.le_refl _) _ | exact ((Below.refl _ w2).alloc (Nat.le_refl _) _).alloc (by simp) _ | exact (((Below.refl _ w2).alloc (Nat.le_refl _) _).alloc (by simp) _).alloc (by simp; omega) _)) (fun hS => ?_)
      clear hK K
      refine wpAnyH_ready (rs := [2, 4]) (by kernel_rfl) (by simp) ?_
      refine AllReadyH.cons rfl (fun K hK => ?_) (AllReadyH.cons rfl (fun K hK => ?_) AllReadyH.nil)
      · go_simp
        refine hK.out _ _ (HS.out _ (by first | exact (Below.refl _ w2).alloc (Nat.le_refl _) _ | exact ((Below.refl _ w2).alloc (Nat.le_refl _) _).alloc (by simp) _ | exact (((Below.refl _ w2).alloc (Nat.le_refl _) _).alloc (by simp) _).alloc (by simp; omega) _)) (fun hS => ?_)
        clear hK K
        refine wpAnyH_ready (rs := [4]) (by kernel_rfl) (by simp) ?_
        refine AllReadyH.cons rfl (fun K hK => ?_) AllReadyH.nil
        · go_simp
          refine hK.out _ _ (HS.out _ (by first | exact (Below.refl _ w2).alloc (Nat.le_refl _) _ | exact ((Below.refl _ w2).alloc (Nat.le_refl _) _).alloc (by simp) _ | exact (((Below.refl _ w2).alloc (Nat.le_refl _) _).alloc (by simp) _).alloc (by simp; omega) _)) (fun hS => ?_)
          clear hK K
          refine tqA 7 rfl hS ?_
          refine wpAnyH_ready (rs := [8]) (by kernel_rfl) (by simp) ?_
          refine AllReadyH.cons rfl (fun K hK => ?_) AllReadyH.nil
          go_simp
          obtain ⟨hb9, q0, q1, q2, q3⟩ := al4 w2 (.cells (bC (List.replicate p.cd.length false)).toArray 4) (.cells (rgC p.cd.length (fun _ => none)).toArray 76) (.cells (fuC p.cd.length (fun _ => 0)).toArray 3) (.cells #[.slice qo p.gh.length qc, .slice vo p.vs.length vc, .slice tto p.ts.length tc, .slice oo p.on.length oc, .int .i64 p.miss, .slice co p.cd.length cc, .slice (some ⟨w2.heap.size + 1, 0, none⟩) p.cd.length p.cd.length, .slice (some ⟨w2.heap.size + 1 + 1, 0, none⟩) p.cd.length p.cd.length, .slice (some ⟨w2.heap.size, 0, none⟩) p.cd.length p.cd.length] 74)
          refine hK.out _ _ (HS.out _ hb9) (fun hS => ?_)
          refine tqA 9 rfl hS ?_
          refine wpAnyH_done (by kernel_rfl) ?_ _
          clear hS
          go_simp
          go_wp2_with fail
          go_meet
          exact ⟨w2.heap.size + 1 + 1 + 1, w2.heap.size + 1, w2.heap.size + 1 + 1, w2.heap.size, rfl, La.of HP.out (H2.out.1.trans (hb9.mono H2.out.1.size)) (by have := H2.out.2.1; omega) (by have := H2.out.2.1; omega) (by have := H2.out.2.1; omega) (by have := H2.out.2.1; omega) (by omega) q3 q1 q2 q0, by have := H2.out.2.1; omega, by have := H2.out.2.1; omega, by have := H2.out.2.1; omega, by have := H2.out.2.1; omega, H2.out.2.2.trans (hb9.mono H2.out.2.2.size)⟩
      · go_simp
        refine hK.out _ _ (HS.out _ (by first | exact (Below.refl _ w2).alloc (Nat.le_refl _) _ | exact ((Below.refl _ w2).alloc (Nat.le_refl _) _).alloc (by simp) _ | exact (((Below.refl _ w2).alloc (Nat.le_refl _) _).alloc (by simp) _).alloc (by simp; omega) _)) (fun hS => ?_)
        clear hK K
        refine wpAnyH_ready (rs := [2]) (by kernel_rfl) (by simp) ?_
        refine AllReadyH.cons rfl (fun K hK => ?_) AllReadyH.nil
        · go_simp
          refine hK.out _ _ (HS.out _ (by first | exact (Below.refl _ w2).alloc (Nat.le_refl _) _ | exact ((Below.refl _ w2).alloc (Nat.le_refl _) _).alloc (by simp) _ | exact (((Below.refl _ w2).alloc (Nat.le_refl _) _).alloc (by simp) _).alloc (by simp; omega) _)) (fun hS => ?_)
          clear hK K
          refine tqA 7 rfl hS ?_
          refine wpAnyH_ready (rs := [8]) (by kernel_rfl) (by simp) ?_
          refine AllReadyH.cons rfl (fun K hK => ?_) AllReadyH.nil
          go_simp
          obtain ⟨hb9, q0, q1, q2, q3⟩ := al4 w2 (.cells (bC (List.replicate p.cd.length false)).toArray 4) (.cells (fuC p.cd.length (fun _ => 0)).toArray 3) (.cells (rgC p.cd.length (fun _ => none)).toArray 76) (.cells #[.slice qo p.gh.length qc, .slice vo p.vs.length vc, .slice tto p.ts.length tc, .slice oo p.on.length oc, .int .i64 p.miss, .slice co p.cd.length cc, .slice (some ⟨w2.heap.size + 1 + 1, 0, none⟩) p.cd.length p.cd.length, .slice (some ⟨w2.heap.size + 1, 0, none⟩) p.cd.length p.cd.length, .slice (some ⟨w2.heap.size, 0, none⟩) p.cd.length p.cd.length] 74)
          refine hK.out _ _ (HS.out _ hb9) (fun hS => ?_)
          refine tqA 9 rfl hS ?_
          refine wpAnyH_done (by kernel_rfl) ?_ _
          clear hS
          go_simp
          go_wp2_with fail
          go_meet
          exact ⟨w2.heap.size + 1 + 1 + 1, w2.heap.size + 1 + 1, w2.heap.size + 1, w2.heap.size, rfl, La.of HP.out (H2.out.1.trans (hb9.mono H2.out.1.size)) (by have := H2.out.2.1; omega) (by have := H2.out.2.1; omega) (by have := H2.out.2.1; omega) (by have := H2.out.2.1; omega) (by omega) q3 q2 q1 q0, by have := H2.out.2.1; omega, by have := H2.out.2.1; omega, by have := H2.out.2.1; omega, by have := H2.out.2.1; omega, H2.out.2.2.trans (hb9.mono H2.out.2.2.size)⟩
  case rest =>
    obtain ⟨lb, ab, ub, sb, rfl, hla, l1, l2, l3, l4, hbw⟩ := hcut
    have HA : Hid (La w wc lb ab ub sb ⟨qo, qc, vo, vc, tto, tc, oo, oc, co, cc⟩ p (gtS p 0) (fun _ => 0) (stS p 0) ∧ wc.heap[w.heap.size]? = some (.cells #[.slice qo p.gh.length qc, .slice vo p.vs.length vc, .slice tto p.ts.length tc, .slice oo p.on.length oc, .int .i64 p.miss, .slice co p.cd.length cc] 27 (0, 0)) ∧ wc.heap[w.heap.size + 1]? = some (.cells #[.int .i64 0, .int .i64 0] 35 (0, 0))) := ⟨hla, (hbw.block _ (blk_lt H1.out.2.1)).trans H1.out.2.1, (hbw.block _ (blk_lt H1.out.2.2)).trans H1.out.2.2⟩
    have HL : Hid (w.heap.size + 1 < lb ∧ w.heap.size + 1 < ab ∧ w.heap.size + 1 < ub ∧ w.heap.size + 1 < sb) := ⟨l1, l2, l3, l4⟩
    have HEl : Hid ((evs p).length = p.on.length + 1) := by show (evs p).length = _; unfold evs; simp
    clear hla l1 l2 l3 l4 hbw i0 i1 i2 i3 i4 i5 z0 z1 fz m1 m2 m3
    obtain ⟨i0, i1, i2, i3, i4, i5⟩ := cells6 HA.out.2.1
    go_wp2_with fail
    clear i0 i1 i2 i3 i4 i5
    go_loopg [7] (p.on.length + 1) (fun gq x wr => ∃ j : Nat, j ≤ p.on.length + 1 ∧ gq = p.on.length + 1 - j ∧ x = .int .i64 (j : Int) ∧ La w wr lb ab ub sb ⟨qo, qc, vo, vc, tto, tc, oo, oc, co, cc⟩ p (gtS p j) (fun _ => 0) (stS p j) ∧ wr.heap[w.heap.size]? = some (.cells #[.slice qo p.gh.length qc, .slice vo p.vs.length vc, .slice tto p.ts.length tc, .slice oo p.on.length oc, .int .i64 p.miss, .slice co p.cd.length cc] 27 (0, 0)) ∧ wr.heap[w.heap.size + 1]? = some (.cells #[.int .i64 0, .int .i64 0] 35 (0, 0)))
    case atStart => exact ⟨0, Nat.zero_le _, rfl, rfl, HA.out.1, HA.out.2.1, HA.out.2.2⟩
    case round =>
      obtain ⟨j, hj, hgk, rfl, hla, hx1, hx2⟩ := hrel
      have HG : Hid (gk = p.on.length + 1 - j ∧ La w wr lb ab ub sb ⟨qo, qc, vo, vc, tto, tc, oo, oc, co, cc⟩ p (gtS p j) (fun _ => 0) (stS p j) ∧ wr.heap[w.heap.size]? = some (.cells #[.slice qo p.gh.length qc, .slice vo p.vs.length vc, .slice tto p.ts.length tc, .slice oo p.on.length oc, .int .i64 p.miss, .slice co p.cd.length cc] 27 (0, 0)) ∧ wr.heap[w.heap.size + 1]? = some (.cells #[.int .i64 0, .int .i64 0] 35 (0, 0))) := ⟨hgk, hla, hx1, hx2⟩
      obtain ⟨i0, i1, i2, i3, i4, i5⟩ := cells6 hx1
      clear hgk hla hx1 hx2 HA
      by_cases hlt : j < p.on.length + 1
      · have hlt' : (j : Int) ≤ (p.on.length : Int) := by omega
        have hle : j < (evs p).length := by have := HEl.out; omega
        have HLt : Hid (j < p.on.length + 1) := hlt
        have hfo : gtS p (j + 1) = put0 (gtS p j) (evs p)[j] := foldl_take put0 _ hle
        have hso : stS p (j + 1) = (if (evs p)[j] = -1 then stS p j else (stS p j).set (evs p)[j].toNat true) := foldl_take (fun (s : List Bool) (n : Int) => if n = -1 then s else s.set n.toNat true) _ hle
        obtain ⟨q1, q2⟩ := HK.out.2.1 _ (List.getElem_mem hle)
        have hev := evs_at hle
        have HNx : Hid (∀ X, wr.heap[w.heap.size]? = X → True) := fun _ _ => trivial
        clear HNx
        generalize (evs p)[j] = n at *
        by_cases hn : n = -1
        · have HS1 : Hid (gtS p (j + 1) = gtS p j ∧ stS p (j + 1) = stS p j) := ⟨by rw [hfo]; unfold put0; rw [if_pos hn], by rw [hso, if_pos hn]⟩
          have HNn : Hid (La w wr lb ab ub sb ⟨qo, qc, vo, vc, tto, tc, oo, oc, co, cc⟩ p (gtS p (j + 1)) (fun _ => 0) (stS p (j + 1))) := by show La _ _ _ _ _ _ _ _ _ _ _; rw [HS1.out.1, HS1.out.2]; exact HG.out.2.1
          subst hn
          clear hfo hso q1 q2 HS1
          by_cases hjo : j < p.on.length
          · have hjo' : (j : Int) < (p.on.length : Int) := by omega
            rw [dif_pos hjo] at hev
            obtain ⟨g2, f2, hvo, hg2, d0⟩ := rd_int (HP.out.on.below HG.out.2.1.bel) hjo
            obtain rfl : oo = some ⟨g2, f2, none⟩ := hvo
            rw [← hev] at d0
            clear hev hg2 hjo hle hlt
            go_wp2_with fail
            go_roundg (p.on.length + 1 - (j + 1))
            case measure => have h1 := HG.out.1; have := HLt.out; omega
            case rel => exact ⟨j + 1, HLt.out, rfl, by go_num, HNn.out, HG.out.2.2.1, HG.out.2.2.2⟩
          · have hjo' : ¬ (j : Int) < (p.on.length : Int) := by omega
            rw [dif_neg hjo] at hev
            rw [← hev] at i4
            clear hev hjo hle hlt
            go_wp2_with fail
            go_roundg (p.on.length + 1 - (j + 1))
            case measure => have h1 := HG.out.1; have := HLt.out; omega
            case rel => exact ⟨j + 1, HLt.out, rfl, by go_num, HNn.out, HG.out.2.2.1, HG.out.2.2.2⟩
        · obtain ⟨kn, rfl⟩ : ∃ kn : Nat, n = (kn : Int) := ⟨n.toNat, by omega⟩
          have hkn : kn < p.cd.length := by omega
          have HS1 : Hid (gtS p (j + 1) = upd (gtS p j) kn freshS ∧ stS p (j + 1) = (stS p j).set kn true) := ⟨by rw [hfo]; unfold put0; rw [if_neg hn, Int.toNat_natCast], by rw [hso, if_neg hn, Int.toNat_natCast]⟩
          have hkn0 : (0 : Int) ≤ (kn : Int) := by omega
          clear hfo hso q1 hn
          obtain ⟨-, -, -, -, -, -, c6, -, c8⟩ := cells9 HG.out.2.1.lk.hw
          obtain ⟨v0, v1, v2, v3, a0, a1, a2, a3⟩ : ∃ v0 v1 v2 v3, wr.cell? ⟨ab, kn * 4, none⟩ = some v0 ∧ wr.cell? ⟨ab, kn * 4 + 1, none⟩ = some v1 ∧ wr.cell? ⟨ab, kn * 4 + 2, none⟩ = some v2 ∧ wr.cell? ⟨ab, kn * 4 + 3, none⟩ = some v3 := by
            cases hg : gtS p j kn with
            | none => obtain ⟨a0, a1, a2, a3⟩ := HG.out.2.1.lk.isN hkn hg; exact ⟨_, _, _, _, a0, a1, a2, a3⟩
            | some t => obtain ⟨a0, a1, a2, a3⟩ := HG.out.2.1.lk.isS hkn hg; exact ⟨_, _, _, _, a0, a1, a2, a3⟩
          have fa : ∀ j, wr.frozen? ⟨ab, j, none⟩ = false := Lk.fz HG.out.2.1.lk.at_
          have HLp : Hid (La w (put4 wr ab kn freshS) lb ab ub sb ⟨qo, qc, vo, vc, tto, tc, oo, oc, co, cc⟩ p (upd (gtS p j) kn freshS) (fun _ => 0) (stS p j) ∧ (put4 wr ab kn freshS).heap[w.heap.size]? = some (.cells #[.slice qo p.gh.length qc, .slice vo p.vs.length vc, .slice tto p.ts.length tc, .slice oo p.on.length oc, .int .i64 p.miss, .slice co p.cd.length cc] 27 (0, 0)) ∧ (put4 wr ab kn freshS).heap[w.heap.size + 1]? = some (.cells #[.int .i64 0, .int .i64 0] 35 (0, 0))) := ⟨HG.out.2.1.put hkn freshS, (put4_old (by have := HL.out.2.1; omega)).trans HG.out.2.2.1, (put4_old (by have := HL.out.2.1; omega)).trans HG.out.2.2.2⟩
          by_cases hjo : j < p.on.length
          · have hjo' : (j : Int) < (p.on.length : Int) := by omega
            rw [dif_pos hjo] at hev
            obtain ⟨g2, f2, hvo, hg2, d0⟩ := rd_int (HP.out.on.below HG.out.2.1.bel) hjo
            obtain rfl : oo = some ⟨g2, f2, none⟩ := hvo
            rw [← hev] at d0
            clear hev hg2 hjo hle hlt
            go_upto_region 14 with fail
            have e4 : (((wr.setCell ⟨ab, kn * 4, none⟩ (.string ⟨#[]⟩)).setCell ⟨ab, kn * 4 + 1, none⟩ (.int .i64 (-1))).setCell ⟨ab, kn * 4 + 2, none⟩ (.int .i64 0)).setCell ⟨ab, kn * 4 + 3, none⟩ (.bool true) = put4 wr ab kn freshS := rfl
            rw [e4]
            clear a0 a1 a2 a3 fa e4 c6 c8
            generalize put4 wr ab kn freshS = wp at *
            obtain ⟨-, -, -, -, -, -, -, -, c8⟩ := cells9 HLp.out.1.lk.hw
            have hks : kn < (stS p j).length := by rw [stS_len]; exact hkn
            have cs := cell_of (i := kn) (v := .bool (stS p j)[kn]) HLp.out.1.lk.ss (by simp [bC, hks])
            have fs : wp.frozen? ⟨sb, kn, none⟩ = false := Lk.fz HLp.out.1.lk.ss kn
            have HN2 : Hid (La w (wp.setCell ⟨sb, kn, none⟩ (.bool true)) lb ab ub sb ⟨qo, qc, vo, vc, tto, tc, some ⟨g2, f2, none⟩, oc, co, cc⟩ p (gtS p (j + 1)) (fun _ => 0) (stS p (j + 1)) ∧ (wp.setCell ⟨sb, kn, none⟩ (.bool true)).heap[w.heap.size]? = some (.cells #[.slice qo p.gh.length qc, .slice vo p.vs.length vc, .slice tto p.ts.length tc, .slice (some ⟨g2, f2, none⟩) p.on.length oc, .int .i64 p.miss, .slice co p.cd.length cc] 27 (0, 0)) ∧ (wp.setCell ⟨sb, kn, none⟩ (.bool true)).heap[w.heap.size + 1]? = some (.cells #[.int .i64 0, .int .i64 0] 35 (0, 0))) := by
              refine ⟨?_, (Below.heap_setCell _ _ _ _ (by have := HL.out; show w.heap.size ≠ sb; omega)).trans HLp.out.2.1, (Below.heap_setCell _ _ _ _ (by have := HL.out; show w.heap.size + 1 ≠ sb; omega)).trans HLp.out.2.2⟩
              rw [HS1.out.1, HS1.out.2]
              exact HLp.out.1.setS kn true
            clear HLp HS1
            go_wp2_with fail
            go_roundg (p.on.length + 1 - (j + 1))
            case measure => have h1 := HG.out.1; have := HLt.out; omega
            case rel => exact ⟨j + 1, HLt.out, rfl, by go_num, HN2.out.1, HN2.out.2.1, HN2.out.2.2⟩
          · have hjo' : ¬ (j : Int) < (p.on.length : Int) := by omega
            rw [dif_neg hjo] at hev
            rw [← hev] at i4
            clear hev hjo hle hlt
            go_upto_region 14 with fail
            have e4 : (((wr.setCell ⟨ab, kn * 4, none⟩ (.string ⟨#[]⟩)).setCell ⟨ab, kn * 4 + 1, none⟩ (.int .i64 (-1))).setCell ⟨ab, kn * 4 + 2, none⟩ (.int .i64 0)).setCell ⟨ab, kn * 4 + 3, none⟩ (.bool true) = put4 wr ab kn freshS := rfl
            rw [e4]
            clear a0 a1 a2 a3 fa e4 c6 c8
            generalize put4 wr ab kn freshS = wp at *
            obtain ⟨-, -, -, -, -, -, -, -, c8⟩ := cells9 HLp.out.1.lk.hw
            have hks : kn < (stS p j).length := by rw [stS_len]; exact hkn
            have cs := cell_of (i := kn) (v := .bool (stS p j)[kn]) HLp.out.1.lk.ss (by simp [bC, hks])
            have fs : wp.frozen? ⟨sb, kn, none⟩ = false := Lk.fz HLp.out.1.lk.ss kn
            have HN2 : Hid (La w (wp.setCell ⟨sb, kn, none⟩ (.bool true)) lb ab ub sb ⟨qo, qc, vo, vc, tto, tc, oo, oc, co, cc⟩ p (gtS p (j + 1)) (fun _ => 0) (stS p (j + 1)) ∧ (wp.setCell ⟨sb, kn, none⟩ (.bool true)).heap[w.heap.size]? = some (.cells #[.slice qo p.gh.length qc, .slice vo p.vs.length vc, .slice tto p.ts.length tc, .slice oo p.on.length oc, .int .i64 p.miss, .slice co p.cd.length cc] 27 (0, 0)) ∧ (wp.setCell ⟨sb, kn, none⟩ (.bool true)).heap[w.heap.size + 1]? = some (.cells #[.int .i64 0, .int .i64 0] 35 (0, 0))) := by
              refine ⟨?_, (Below.heap_setCell _ _ _ _ (by have := HL.out; show w.heap.size ≠ sb; omega)).trans HLp.out.2.1, (Below.heap_setCell _ _ _ _ (by have := HL.out; show w.heap.size + 1 ≠ sb; omega)).trans HLp.out.2.2⟩
              rw [HS1.out.1, HS1.out.2]
              exact HLp.out.1.setS kn true
            clear HLp HS1
            go_wp2_with fail
            go_roundg (p.on.length + 1 - (j + 1))
            case measure => have h1 := HG.out.1; have := HLt.out; omega
            case rel => exact ⟨j + 1, HLt.out, rfl, by go_num, HN2.out.1, HN2.out.2.1, HN2.out.2.2⟩
      · have hlt' : ¬ (j : Int) ≤ (p.on.length : Int) := by omega
        obtain rfl : j = p.on.length + 1 := by omega
        have HB2 : Hid (La w wr lb ab ub sb ⟨qo, qc, vo, vc, tto, tc, oo, oc, co, cc⟩ p (got0 p) (fun _ => 0) (stS p (evs p).length) ∧ wr.heap[w.heap.size]? = some (.cells #[.slice qo p.gh.length qc, .slice vo p.vs.length vc, .slice tto p.ts.length tc, .slice oo p.on.length oc, .int .i64 p.miss, .slice co p.cd.length cc] 27 (0, 0)) ∧ wr.heap[w.heap.size + 1]? = some (.cells #[.int .i64 0, .int .i64 0] 35 (0, 0))) := by
          have h9 := HG.out.2.1
          rw [← HEl.out] at h9
          have e9 : gtS p (evs p).length = got0 p := by unfold gtS got0; rw [List.take_length]
          rw [e9] at h9
          exact ⟨h9, HG.out.2.2.1, HG.out.2.2.2⟩
        have HIv : Hid (RIv p (got0 p) (fun _ => 0)) := by
          have hf : ∀ k s, got0 p k = some s → s = freshS := got0_fresh p
          exact ⟨got0_inv HK.out.2.1, fun k s hs => by rw [hf k s hs]; decide, fun k s hs => by rw [hf k s hs]; exact Or.inl rfl⟩
        clear hlt hj HG
        obtain ⟨w3, rfl⟩ : ∃ w3, w3 = wr := ⟨_, rfl⟩
        go_wp2_with fail
        clear i0 i1 i2 i3 i4 i5
        go_loopg [9] p.cd.length (fun gq x wr => ∃ (j : Nat) (g : Nat → Option Sd) (u : Nat → Int), j ≤ p.cd.length ∧ gq = p.cd.length - j ∧ x = .int .i64 (j : Int) ∧ La w wr lb ab ub sb ⟨qo, qc, vo, vc, tto, tc, oo, oc, co, cc⟩ p g u (stS p (evs p).length) ∧ RIv p g u ∧ walkP p (p.cd.length - j) j g = R ∧ wr.heap[w.heap.size + 1]? = some (.cells #[.int .i64 0, .int .i64 0] 35 (0, 0)))
        case atStart => exact ⟨0, got0 p, fun _ => 0, Nat.zero_le _, rfl, rfl, HB2.out.1, HIv.out, HK.out.2.2.2.symm, HB2.out.2.2⟩
        case round =>
          obtain ⟨j, g, u, hj, hgk, rfl, hla, hri, hwk, hx2⟩ := hrel
          have HG : Hid (gk = p.cd.length - j ∧ La w wr lb ab ub sb ⟨qo, qc, vo, vc, tto, tc, oo, oc, co, cc⟩ p g u (stS p (evs p).length) ∧ RIv p g u ∧ walkP p (p.cd.length - j) j g = R ∧ wr.heap[w.heap.size + 1]? = some (.cells #[.int .i64 0, .int .i64 0] 35 (0, 0))) := ⟨hgk, hla, hri, hwk, hx2⟩
          clear hgk hla hri hwk hx2
          by_cases hlt : j < p.cd.length
          · have hlt' : (j : Int) < (p.cd.length : Int) := by omega
            have HLt : Hid (j < p.cd.length) := hlt
            have HC : Hid (Calls Tryd.prog 30 #[.pointer (some ⟨lb, 0, none⟩), .int .i64 (j : Int)] wr (PlP w wr lb ab ub sb ⟨qo, qc, vo, vc, tto, tc, oo, oc, co, cc⟩ p (stS p (evs p).length) (stepP p g j))) := rplace_any HG.out.2.1 HG.out.2.2.1 (stS_len p _) (stS_at HK.out.2.1) j hlt (HK.out.2.2.1 j hlt)
            have HW : Hid (R = match stepP p g j with | .error e => .error (e, j) | .ok g' => walkP p (p.cd.length - (j + 1)) (j + 1) g') := by
              show R = _
              rw [← HG.out.2.2.2.1, show p.cd.length - j = (p.cd.length - (j + 1)) + 1 by omega]
              rfl
            clear hlt hj
            go_wp2_with fail
            refine HC.out.mono ?_
            rintro e w4 hpl
            unfold PlP at hpl
            cases hst : stepP p g j with
            | error c =>
              rw [hst] at hpl
              dsimp only at hpl
              obtain ⟨rfl, hb4, hc4, hf4⟩ := hpl
              have HRe : Hid (R = .error (c, j) ∧ c ≠ 0) := ⟨by rw [HW.out, hst], hc4⟩
              have hc' : ¬ (c : Int) = 0 := by omega
              have hx4 : w4.heap[w.heap.size + 1]? = some (.cells #[.int .i64 0, .int .i64 0] 35 (0, 0)) := (hf4.block _ (blk_lt HG.out.2.2.2.2) (by have := HL.out; omega) (by have := HL.out; omega)).trans HG.out.2.2.2.2
              have HB9 : Hid (Below w.heap.size w ((w4.setCell ⟨w.heap.size + 1, 0, none⟩ (.int .i64 (c : Int))).setCell ⟨w.heap.size + 1, 1, none⟩ (.int .i64 (j : Int))) ∧ ((w4.setCell ⟨w.heap.size + 1, 0, none⟩ (.int .i64 (c : Int))).setCell ⟨w.heap.size + 1, 1, none⟩ (.int .i64 (j : Int))).heap[w.heap.size + 1]? = some (.cells #[.int .i64 (c : Int), .int .i64 (j : Int)] 35 (0, 0))) :=
                ⟨(hb4.setCell (p := ⟨w.heap.size + 1, 0, none⟩) (Nat.le_succ _) _).setCell (p := ⟨w.heap.size + 1, 1, none⟩) (Nat.le_succ _) _, heap_setCell_same _ _ 1 _ _ _ (heap_setCell_same w4 _ 0 _ _ _ hx4)⟩
              obtain ⟨z0, z1⟩ := cells2 hx4
              have fz : ∀ j, w4.frozen? ⟨w.heap.size + 1, j, none⟩ = false := Lk.fz hx4
              clear hst hb4 hc4 hf4 hx4
              go_wp2_with fail
              generalize ((w4.setCell ⟨w.heap.size + 1, 0, none⟩ (.int .i64 (c : Int))).setCell ⟨w.heap.size + 1, 1, none⟩ (.int .i64 (j : Int))) = W9 at *
              obtain ⟨y0, y1⟩ := cells2 HB9.out.2
              refine bodyPost_ret (v := .tuple #[.pointer none, .agg #[.int .i64 (c : Int), .int .i64 (j : Int)]]) (by simp [results, Tryd.results20, go_sem, y0, y1]) rfl ?_
              show LoP _ _ _ R _ _
              rw [HRe.out.1]
              exact ⟨rfl, HRe.out.2, HB9.out.1⟩
            | ok g' =>
              rw [hst] at hpl
              dsimp only at hpl
              obtain ⟨rfl, ⟨u', hla4, hri4⟩, hf4⟩ := hpl
              have HN : Hid (La w w4 lb ab ub sb ⟨qo, qc, vo, vc, tto, tc, oo, oc, co, cc⟩ p g' u' (stS p (evs p).length) ∧ RIv p g' u' ∧ walkP p (p.cd.length - (j + 1)) (j + 1) g' = R ∧ w4.heap[w.heap.size + 1]? = some (.cells #[.int .i64 0, .int .i64 0] 35 (0, 0))) := ⟨hla4, hri4, by rw [HW.out, hst], (hf4.block _ (blk_lt HG.out.2.2.2.2) (by have := HL.out; omega) (by have := HL.out; omega)).trans HG.out.2.2.2.2⟩
              clear hst hla4 hri4 hf4
              go_wp2_with fail
              go_roundg (p.cd.length - (j + 1))
              case measure => have h1 := HG.out.1; have := HLt.out; omega
              case rel => exact ⟨j + 1, g', u', HLt.out, rfl, by go_num, HN.out.1, HN.out.2.1, HN.out.2.2.1, HN.out.2.2.2⟩
          · have hlt' : ¬ (j : Int) < (p.cd.length : Int) := by omega
            obtain rfl : j = p.cd.length := by omega
            have HRk : Hid (R = .ok g) := by
              show R = _
              rw [← HG.out.2.2.2.1, Nat.sub_self]
              rfl
            obtain ⟨z0, z1⟩ := cells2 HG.out.2.2.2.2
            have fz : ∀ j, wr.frozen? ⟨w.heap.size + 1, j, none⟩ = false := Lk.fz HG.out.2.2.2.2
            have hrow : La w ((wr.setCell ⟨w.heap.size + 1, 0, none⟩ (.int .i64 0)).setCell ⟨w.heap.size + 1, 1, none⟩ (.int .i64 0)) lb ab ub sb ⟨qo, qc, vo, vc, tto, tc, oo, oc, co, cc⟩ p g u (stS p (evs p).length) := by
              have hl := HL.out
              exact (HG.out.2.1.cell (w.heap.size + 1) 0 (.int .i64 0) (Nat.le_succ _) (by omega) (by omega) (by omega) (by omega)).cell (w.heap.size + 1) 1 (.int .i64 0) (Nat.le_succ _) (by omega) (by omega) (by omega) (by omega)
            have HB9 : Hid (La w ((wr.setCell ⟨w.heap.size + 1, 0, none⟩ (.int .i64 0)).setCell ⟨w.heap.size + 1, 1, none⟩ (.int .i64 0)) lb ab ub sb ⟨qo, qc, vo, vc, tto, tc, oo, oc, co, cc⟩ p g u (stS p (evs p).length) ∧ ((wr.setCell ⟨w.heap.size + 1, 0, none⟩ (.int .i64 0)).setCell ⟨w.heap.size + 1, 1, none⟩ (.int .i64 0)).heap[w.heap.size + 1]? = some (.cells #[.int .i64 0, .int .i64 0] 35 (0, 0))) := ⟨hrow, heap_setCell_same _ _ 1 _ _ _ (heap_setCell_same wr _ 0 _ _ _ HG.out.2.2.2.2)⟩
            clear hlt hj hrow
            go_wp2_with fail
            generalize ((wr.setCell ⟨w.heap.size + 1, 0, none⟩ (.int .i64 0)).setCell ⟨w.heap.size + 1, 1, none⟩ (.int .i64 0)) = W9 at *
            obtain ⟨y0, y1⟩ := cells2 HB9.out.2
            refine bodyPost_ret (v := .tuple #[.pointer (some ⟨lb, 0, none⟩), .agg #[.int .i64 0, .int .i64 0]]) (by simp [results, Tryd.results20, go_sem, y0, y1]) rfl ?_
            show LoP _ _ _ R _ _
            rw [HRk.out]
            exact ⟨lb, ab, ub, sb, u, _, rfl, HB9.out.1⟩
end Go.Proofs.YtelbakkgobkdaaaDoor.Vf

namespace Go.Proofs.YtelbakkgobkdaaaDoor.Vf
open Go.RowKit Go.Proofs.YtelbakkgobkdaaaDoor.Nm
theorem judge_look (p : Pg) : judge p = match lookR p with | .error (c, i) => .error (c, (i : Int)) | .ok g => (match costF p (evs p) with | some n => .error (97, n) | none => .ok g) := by
  unfold judge lookR
  by_cases h : chk p = 0
  · rw [if_pos h, if_pos h]
    cases hw : walkP p p.cd.length 0 (got0 p) with
    | error e => obtain ⟨c, i⟩ := e; rfl
    | ok g => rfl
  · rw [if_neg h, if_neg h]
    rfl
/-- what the reference's Run tells -/
structure RrP (w : World) (p : Pg) (r : Ending) (w' : World) : Prop where
  bel : Below w.heap.size w w'
  err : ∀ e n, judge p = .error (e, n) → r = .returned (.tuple #[.agg #[.slice none 0 0, .int .i64 0], .agg #[.int .i64 (e : Int), .int .i64 n]])
  ok : ∀ g, judge p = .ok g → ∃ o c, r = .returned (.tuple #[.agg #[.slice o p.on.length c, .int .i64 (cst p p.miss)], .agg #[.int .i64 0, .int .i64 0]]) ∧ Rd w' o (iC (p.on.map (cst p))) ∧ ∀ g f, o = some ⟨g, f, none⟩ → w.heap.size ≤ g
theorem al3r (w : World) (a b c : Obj) : Below w.heap.size w (((w.alloc a).alloc b).alloc c) ∧ (((w.alloc a).alloc b).alloc c).heap[w.heap.size]? = some a ∧ (((w.alloc a).alloc b).alloc c).heap[w.heap.size + 1]? = some b ∧ (((w.alloc a).alloc b).alloc c).heap[w.heap.size + 1 + 1]? = some c ∧ (((w.alloc a).alloc b).alloc c).heap.size = w.heap.size + 3 := by
  obtain ⟨h1, h2, h3⟩ := al2 w a b
  have s2 : ((w.alloc a).alloc b).heap.size = w.heap.size + 1 + 1 := by simp
  have hb : Below ((w.alloc a).alloc b).heap.size ((w.alloc a).alloc b) (((w.alloc a).alloc b).alloc c) := (Below.refl _ _).alloc (Nat.le_refl _) _
  have h4 := heap_alloc_new ((w.alloc a).alloc b) c
  rw [s2] at h4 hb
  exact ⟨h1.trans (hb.mono (by omega)), (hb.block _ (by omega)).trans h2, (hb.block _ (by omega)).trans h3, h4, by simp⟩
/-- the costs in the making: those of the first events, in a row of their own behind the box -/
structure Rn (w2 W : World) (kb : Nat) (v : Value) (mi : Int) (l : List Int) : Prop where
  hk : kb = w2.heap.size
  bel : Below w2.heap.size w2 W
  lt : kb < W.heap.size
  box : W.heap[kb]? = some (.cells #[v, .int .i64 mi] 32 (0, 0))
  own : W.ownsRow (kb + 1) 3 1 v l.length (iC l)
theorem iC_app (l m : List Int) : iC (l ++ m) = iC l ++ iC m := by unfold iC; rw [List.map_append]
theorem Rn.mid {w2 W w' : World} {kb : Nat} {v v' : Value} {mi : Int} {l : List Int} (h : Rn w2 W kb v mi l) {n : Int} (hG : Gone (W.alloc (.cells #[.int .i64 n] 3)) v w' v') : w'.heap[kb]? = some (.cells #[v, .int .i64 mi] 32 (0, 0)) := by
  have hb : Below W.heap.size W (W.alloc (.cells #[.int .i64 n] 3)) := (Below.refl _ W).alloc (Nat.le_refl _) _
  have hsz := hb.size
  have hl := h.lt
  refine (hG.1.block kb (by omega) (fun e => ?_)).trans ((hb.block kb h.lt).trans h.box)
  have := (World.ownsRow.lt h.own kb e.symm).1
  omega
theorem Rn.app {w2 W w' : World} {kb : Nat} {v v' : Value} {mi : Int} {l : List Int} (h : Rn w2 W kb v mi l) (n : Int) (ho : w'.ownsRow (kb + 1) 3 1 v' (l.length + 1) (iC l ++ [.int .i64 n])) (hG : Gone (W.alloc (.cells #[.int .i64 n] 3)) v w' v') : Rn w2 (w'.setCell ⟨kb, 0, none⟩ v') kb v' mi (l ++ [n]) := by
  have hb : Below W.heap.size W (W.alloc (.cells #[.int .i64 n] 3)) := (Below.refl _ W).alloc (Nat.le_refl _) _
  have hm := h.mid hG
  have hk := h.hk
  have hb2 : Below w2.heap.size w2 (W.alloc (.cells #[.int .i64 n] 3)) := h.bel.trans (hb.mono h.bel.size)
  have hb3 : Below w2.heap.size w2 w' := hb2.grown hG.1 hb2.size (fun k e => by
    have := (World.ownsRow.lt h.own k e).1
    omega)
  refine ⟨hk, hb3.setCell (p := ⟨kb, 0, none⟩) (by rw [hk]; exact Nat.le_refl _) _, ?_, ?_, ?_⟩
  · have : (w'.setCell ⟨kb, 0, none⟩ v').heap.size = w'.heap.size := by simp [World.setCell]
    have h2 := blk_lt hm
    omega
  · rw [heap_setCell_same w' kb 0 _ _ _ hm]
    rfl
  · rw [List.length_append, iC_app]
    exact ownsRow_setCell_below ho (a := ⟨kb, 0, none⟩) (Nat.lt_succ_self _) v'
theorem Rn.owns {w2 W : World} {kb : Nat} {v : Value} {mi : Int} {l : List Int} (h : Rn w2 W kb v mi l) {n : Nat} (hn : l.length = n) (o : Obj) : (W.alloc o).ownsRow (kb + 1) 3 1 v n (iC l) := by
  subst hn
  exact own_below h.own ((Below.refl _ W).alloc (Nat.le_refl _) _)
theorem Rn.rd {w2 W : World} {kb : Nat} {v : Value} {mi : Int} {l : List Int} (h : Rn w2 W kb v mi l) : ∃ o c, v = .slice o l.length c ∧ Rd W o (iC l) := by
  obtain ⟨bo, bc, h1, h2, -⟩ := rd_of_own h.own
  exact ⟨bo, bc, h1, h2⟩
theorem sto_ok {w W : World} {cb : Nat} {a0 a1 b0 b1 : Value} (v0 v1 f0 f1 : Value) (hb : Below w.heap.size w W) (hc : w.heap.size ≤ cb) (h1 : W.heap[cb]? = some (.cells #[a0, a1] 32 (0, 0))) (h2 : W.heap[cb + 1]? = some (.cells #[b0, b1] 35 (0, 0))) :
    Below w.heap.size w ((((W.setCell ⟨cb, 0, none⟩ v0).setCell ⟨cb, 1, none⟩ v1).setCell ⟨cb + 1, 0, none⟩ f0).setCell ⟨cb + 1, 1, none⟩ f1) ∧ ((((W.setCell ⟨cb, 0, none⟩ v0).setCell ⟨cb, 1, none⟩ v1).setCell ⟨cb + 1, 0, none⟩ f0).setCell ⟨cb + 1, 1, none⟩ f1).heap[cb]? = some (.cells #[v0, v1] 32 (0, 0)) ∧ ((((W.setCell ⟨cb, 0, none⟩ v0).setCell ⟨cb, 1, none⟩ v1).setCell ⟨cb + 1, 0, none⟩ f0).setCell ⟨cb + 1, 1, none⟩ f1).heap[cb + 1]? = some (.cells #[f0, f1] 35 (0, 0)) ∧ (∀ k, k ≠ cb → k ≠ cb + 1 → ((((W.setCell ⟨cb, 0, none⟩ v0).setCell ⟨cb, 1, none⟩ v1).setCell ⟨cb + 1, 0, none⟩ f0).setCell ⟨cb + 1, 1, none⟩ f1).heap[k]? = W.heap[k]?) ∧ ((((W.setCell ⟨cb, 0, none⟩ v0).setCell ⟨cb, 1, none⟩ v1).setCell ⟨cb + 1, 0, none⟩ f0).setCell ⟨cb + 1, 1, none⟩ f1).heap.size = W.heap.size := by
  have e1 : ((W.setCell ⟨cb, 0, none⟩ v0).setCell ⟨cb, 1, none⟩ v1).heap[cb]? = some (.cells #[v0, v1] 32 (0, 0)) := heap_setCell_same _ _ 1 _ _ _ (heap_setCell_same W _ 0 _ _ _ h1)
  have e2 : ((W.setCell ⟨cb, 0, none⟩ v0).setCell ⟨cb, 1, none⟩ v1).heap[cb + 1]? = some (.cells #[b0, b1] 35 (0, 0)) := (Below.heap_setCell _ _ _ _ (by show cb + 1 ≠ cb; omega)).trans ((Below.heap_setCell _ _ _ _ (by show cb + 1 ≠ cb; omega)).trans h2)
  refine ⟨(((hb.setCell (p := ⟨cb, 0, none⟩) hc _).setCell (p := ⟨cb, 1, none⟩) hc _).setCell (p := ⟨cb + 1, 0, none⟩) (Nat.le_succ_of_le hc) _).setCell (p := ⟨cb + 1, 1, none⟩) (Nat.le_succ_of_le hc) _, ?_, heap_setCell_same _ _ 1 _ _ _ (heap_setCell_same _ _ 0 _ _ _ e2), fun k k1 k2 => ?_, by simp⟩
  · exact (Below.heap_setCell _ _ _ _ (by show cb ≠ cb + 1; omega)).trans ((Below.heap_setCell _ _ _ _ (by show cb ≠ cb + 1; omega)).trans e1)
  · exact (Below.heap_setCell _ _ _ _ (by show k ≠ cb + 1; exact k2)).trans ((Below.heap_setCell _ _ _ _ (by show k ≠ cb + 1; exact k2)).trans ((Below.heap_setCell _ _ _ _ (by show k ≠ cb; exact k1)).trans (Below.heap_setCell _ _ _ _ (by show k ≠ cb; exact k1))))
theorem look_ok {p : Pg} {g : Nat → Option Sd} (h : lookR p = .ok g) : chk p = 0 ∧ walkP p p.cd.length 0 (got0 p) = .ok g := by
  unfold lookR at h
  split at h
  · rename_i hc; exact ⟨hc, h⟩
  · cases h
theorem costF_drop {p : Pg} {j : Nat} (hj : j < (evs p).length) : costF p ((evs p).drop j) = if 1152921504606846976 < cst p (evs p)[j] then some (evs p)[j] else costF p ((evs p).drop (j + 1)) := by
  rw [List.drop_eq_getElem_cons hj]
  rfl
set_option maxHeartbeats 12800000 in
set_option maxRecDepth 100000 in
/-- the reference's Run -/
theorem rrun_any (v : PV) (p : Pg) (w : World) (hP : IsPg w v p) : Calls Tryd.prog 10 #[.agg (pvC v p)] w (RrP w p) := by
  have n4 : (p.on.length : Int) ≤ 1000000000000000 := by have := hP.lon; omega
  have n5 : (p.cd.length : Int) ≤ 1000000000000000 := by have := hP.lcd; omega
  have HC : Hid (∀ W, Below w.heap.size w W → Calls Tryd.prog 20 #[.agg (pvC v p)] W (LoP W v p (lookR p))) := fun W hb => rlook_any v p W (hP.below hb)
  have HP : Hid (IsPg w v p) := hP
  obtain ⟨j0, hj, hj0, hj1, hj2⟩ := info_parts infoI
  obtain ⟨qo, qc, vo, vc, tto, tc, oo, oc, co, cc⟩ := v
  show Calls _ _ #[.agg #[.slice qo p.gh.length qc, .slice vo p.vs.length vc, .slice tto p.ts.length tc, .slice oo p.on.length oc, .int .i64 p.miss, .slice co p.cd.length cc]] _ _
  have H0 := show Hid _ from al3r w (.cells #[.slice qo p.gh.length qc, .slice vo p.vs.length vc, .slice tto p.ts.length tc, .slice oo p.on.length oc, .int .i64 p.miss, .slice co p.cd.length cc] 27) (.cells #[.slice none 0 0, .int .i64 0] 32) (.cells #[.int .i64 0, .int .i64 0] 35)
  clear hP
  go_enter Tryd.func10, Tryd.ntmps10
  go_wp2_with fail
  generalize (((w.alloc (.cells #[.slice qo p.gh.length qc, .slice vo p.vs.length vc, .slice tto p.ts.length tc, .slice oo p.on.length oc, .int .i64 p.miss, .slice co p.cd.length cc] 27)).alloc (.cells #[.slice none 0 0, .int .i64 0] 32)).alloc (.cells #[.int .i64 0, .int .i64 0] 35)) = W0 at *
  refine (HC.out _ H0.out.1).mono ?_
  rintro e w1 hlo
  have HJ : Hid _ := judge_look p
  unfold LoP at hlo
  cases hlk : lookR p with
  | error ce =>
    obtain ⟨c, i⟩ := ce
    rw [hlk] at hlo
    dsimp only at hlo
    obtain ⟨rfl, hc, hb1⟩ := hlo
    have HJe : Hid (judge p = .error (c, (i : Int))) := by have := HJ.out; rw [hlk] at this; exact this
    have hc' : ¬ (c : Int) = 0 := by omega
    have hb2 : Below W0.heap.size W0 (w1.alloc (.cells #[.int .i64 (c : Int), .int .i64 (i : Int)] 35)) := hb1.alloc hb1.size _
    have H2 : Hid (Below w.heap.size w (w1.alloc (.cells #[.int .i64 (c : Int), .int .i64 (i : Int)] 35)) ∧ (w1.alloc (.cells #[.int .i64 (c : Int), .int .i64 (i : Int)] 35)).heap[w.heap.size + 1]? = some (.cells #[.slice none 0 0, .int .i64 0] 32 (0, 0)) ∧ (w1.alloc (.cells #[.int .i64 (c : Int), .int .i64 (i : Int)] 35)).heap[w.heap.size + 1 + 1]? = some (.cells #[.int .i64 0, .int .i64 0] 35 (0, 0)) ∧ (w1.alloc (.cells #[.int .i64 (c : Int), .int .i64 (i : Int)] 35)).heap[w1.heap.size]? = some (.cells #[.int .i64 (c : Int), .int .i64 (i : Int)] 35 (0, 0)) ∧ w.heap.size + 1 + 1 < w1.heap.size) :=
      ⟨H0.out.1.trans (hb2.mono H0.out.1.size), (hb2.block _ (blk_lt H0.out.2.2.1)).trans H0.out.2.2.1, (hb2.block _ (blk_lt H0.out.2.2.2.1)).trans H0.out.2.2.2.1, heap_alloc_new _ _, Nat.lt_of_lt_of_le (blk_lt H0.out.2.2.2.1) hb1.size⟩
    clear hlk hb1 hb2 HJ H0 HC HP
    go_upto_region 2 with fail
    generalize w1.alloc (.cells #[.int .i64 (c : Int), .int .i64 (i : Int)] 35) = W2 at *
    generalize w1.heap.size = fb at *
    obtain ⟨z0, z1⟩ := cells2 H2.out.2.2.2.1
    obtain ⟨y0, y1⟩ := cells2 H2.out.2.1
    obtain ⟨x0, x1⟩ := cells2 H2.out.2.2.1
    have f1 : ∀ j, W2.frozen? ⟨w.heap.size + 1, j, none⟩ = false := Lk.fz H2.out.2.1
    have f2 : ∀ j, W2.frozen? ⟨w.heap.size + 1 + 1, j, none⟩ = false := Lk.fz H2.out.2.2.1
    have hl := H2.out.2.2.2.2
    have hn1 : ¬ fb = w.heap.size + 1 := by omega
    have hn2 : ¬ fb = w.heap.size + 1 + 1 := by omega
    go_wp2_with fail
    go_region
    have HS := show Hid _ from sto_ok (.slice none 0 0) (.int .i64 0) (.int .i64 (c : Int)) (.int .i64 (i : Int)) H2.out.1 (Nat.le_succ _) H2.out.2.1 H2.out.2.2.1
    clear f1 f2 x0 x1 y0 y1 z0 z1 H2
    have HD : Hid (∀ X : World, Below X.heap.size X X.drew) := fun X => (Below.refl _ X).drew
    generalize ((((W2.setCell ⟨w.heap.size + 1, 0, none⟩ (.slice none 0 0)).setCell ⟨w.heap.size + 1, 1, none⟩ (.int .i64 0)).setCell ⟨w.heap.size + 1 + 1, 0, none⟩ (.int .i64 (c : Int))).setCell ⟨w.heap.size + 1 + 1, 1, none⟩ (.int .i64 (i : Int))) = W9 at *
    have hbd := HD.out W9
    have q1 := (hbd.block _ (blk_lt HS.out.2.1)).trans HS.out.2.1
    have q2 := (hbd.block _ (blk_lt HS.out.2.2.1)).trans HS.out.2.2.1
    have HB9 : Hid (Below w.heap.size w W9.drew) := HS.out.1.trans (hbd.mono HS.out.1.size)
    generalize W9.drew = WX at *
    obtain ⟨y0, y1⟩ := cells2 q1
    obtain ⟨z0, z1⟩ := cells2 q2
    clear q1 q2 hbd HS HD
    go_wp2_with fail
    refine bodyPost_ret (v := .tuple #[.agg #[.slice none 0 0, .int .i64 0], .agg #[.int .i64 (c : Int), .int .i64 (i : Int)]]) (by simp [results, Tryd.results10, go_sem, y0, y1, z0, z1]) rfl ?_
    refine ⟨HB9.out, fun e n hj9 => ?_, fun g hj9 => ?_⟩
    · rw [HJe.out] at hj9; cases hj9; rfl
    · rw [HJe.out] at hj9; cases hj9
  | ok g =>
    rw [hlk] at hlo
    dsimp only at hlo
    obtain ⟨lb, ab, ub, sb, u, st, rfl, hla⟩ := hlo
    obtain ⟨hck, hwk⟩ := look_ok hlk
    obtain ⟨k1, k2, k3, k4⟩ := chk_of hck
    have HJo : Hid (judge p = match costF p (evs p) with | some n => .error (97, n) | none => .ok g) := by have := HJ.out; rw [hlk] at this; exact this
    have HK : Hid ((∀ n ∈ evs p, -1 ≤ n ∧ n < (p.cd.length : Int)) ∧ (∀ i, i < p.cd.length → FuOk p i) ∧ p.cd.length ≤ 262144 ∧ p.on.length ≤ 16 ∧ (evs p).length = p.on.length + 1) := ⟨k3, fuOk_of hwk k4, k2, k1, by unfold evs; simp⟩
    have hb2 : Below W0.heap.size W0 (w1.alloc (.cells #[.int .i64 0, .int .i64 0] 35)) := hla.bel.alloc hla.bel.size _
    have H2 : Hid (Below w.heap.size w (w1.alloc (.cells #[.int .i64 0, .int .i64 0] 35)) ∧ (w1.alloc (.cells #[.int .i64 0, .int .i64 0] 35)).heap[w.heap.size]? = some (.cells #[.slice qo p.gh.length qc, .slice vo p.vs.length vc, .slice tto p.ts.length tc, .slice oo p.on.length oc, .int .i64 p.miss, .slice co p.cd.length cc] 27 (0, 0)) ∧ (w1.alloc (.cells #[.int .i64 0, .int .i64 0] 35)).heap[w.heap.size + 1]? = some (.cells #[.slice none 0 0, .int .i64 0] 32 (0, 0)) ∧ (w1.alloc (.cells #[.int .i64 0, .int .i64 0] 35)).heap[w.heap.size + 1 + 1]? = some (.cells #[.int .i64 0, .int .i64 0] 35 (0, 0)) ∧ (w1.alloc (.cells #[.int .i64 0, .int .i64 0] 35)).heap[w1.heap.size]? = some (.cells #[.int .i64 0, .int .i64 0] 35 (0, 0))) :=
      ⟨H0.out.1.trans (hb2.mono H0.out.1.size), (hb2.block _ (blk_lt H0.out.2.1)).trans H0.out.2.1, (hb2.block _ (blk_lt H0.out.2.2.1)).trans H0.out.2.2.1, (hb2.block _ (blk_lt H0.out.2.2.2.1)).trans H0.out.2.2.2.1, heap_alloc_new _ _⟩
    clear hlk hla hb2 HJ H0 HC hck hwk k1 k2 k3 k4
    go_upto_region 2 with fail
    generalize w1.alloc (.cells #[.int .i64 0, .int .i64 0] 35) = W2 at *
    generalize w1.heap.size = fb0 at *
    obtain ⟨z0, z1⟩ := cells2 H2.out.2.2.2.2
    obtain ⟨i0, i1, i2, i3, i4, i5⟩ := cells6 H2.out.2.1
    have HCf : Hid (Calls Tryd.prog 21 #[.slice co p.cd.length cc] W2 fun e w' => ∃ fb, e = .returned (.slice (some ⟨fb, 0, none⟩) p.cd.length p.cd.length) ∧ W2.heap.size ≤ fb ∧ w'.heap[fb]? = some (.cells (fuC p.cd.length (fuel p)).toArray 3 (0, 0)) ∧ Below W2.heap.size W2 w') := rfuel_any co cc p W2 (HP.out.cd.below H2.out.1) HK.out.2.2.1 HK.out.2.1
    go_wp2_with fail
    refine HCf.out.mono ?_
    rintro e w3 ⟨fb, rfl, hfb, hf3, hb3⟩
    have H3 : Hid (Below w.heap.size w w3 ∧ w3.heap[w.heap.size]? = some (.cells #[.slice qo p.gh.length qc, .slice vo p.vs.length vc, .slice tto p.ts.length tc, .slice oo p.on.length oc, .int .i64 p.miss, .slice co p.cd.length cc] 27 (0, 0)) ∧ w3.heap[w.heap.size + 1]? = some (.cells #[.slice none 0 0, .int .i64 0] 32 (0, 0)) ∧ w3.heap[w.heap.size + 1 + 1]? = some (.cells #[.int .i64 0, .int .i64 0] 35 (0, 0)) ∧ w3.heap[fb]? = some (.cells (fuC p.cd.length (fuel p)).toArray 3 (0, 0))) := ⟨H2.out.1.trans (hb3.mono H2.out.1.size), (hb3.block _ (blk_lt H2.out.2.1)).trans H2.out.2.1, (hb3.block _ (blk_lt H2.out.2.2.1)).trans H2.out.2.2.1, (hb3.block _ (blk_lt H2.out.2.2.2.1)).trans H2.out.2.2.2.1, hf3⟩
    clear hfb hf3 hb3 z0 z1 i0 i1 i2 i3 i4 i5 HCf H2
    have HRn : Hid (Rn w3 (w3.alloc (.cells #[.slice none 0 0, .int .i64 0] 32)) w3.heap.size (.slice none 0 0) 0 []) := ⟨rfl, (Below.refl _ w3).alloc (Nat.le_refl _) _, by simp, heap_alloc_new _ _, World.ownsRow_nil _ _ _ _⟩
    go_upto_region 6 with fail
    generalize w3.alloc (.cells #[.slice none 0 0, .int .i64 0] 32) = W4 at *
    generalize hkb : w3.heap.size = kb at *
    have n6 : (p.on.length : Int) ≤ 16 := by have := HK.out.2.2.2.1; omega
    have HLo : Hid (w.heap.size + 1 + 1 < kb ∧ fb < kb) := ⟨by rw [← hkb]; exact blk_lt H3.out.2.2.2.1, by rw [← hkb]; exact blk_lt H3.out.2.2.2.2⟩
    go_wp2_with fail
    go_loopg [8] (p.on.length + 1) (fun gq x wr => ∃ (j : Nat) (v : Value), j ≤ p.on.length + 1 ∧ gq = p.on.length + 1 - j ∧ x = .int .i64 (j : Int) ∧ Rn w3 wr kb v (if j ≤ p.on.length then 0 else cst p p.miss) ((p.on.take j).map (cst p)) ∧ costF p ((evs p).drop j) = costF p (evs p))
    case atStart => exact ⟨0, .slice none 0 0, Nat.zero_le _, rfl, rfl, HRn.out, rfl⟩
    case round =>
      obtain ⟨j, v, hj1', hgk, rfl, hrn, hcf⟩ := hrel
      have hbw : Below w.heap.size w wr := H3.out.1.trans (hrn.bel.mono H3.out.1.size)
      have HG : Hid (gk = p.on.length + 1 - j ∧ Rn w3 wr kb v (if j ≤ p.on.length then 0 else cst p p.miss) ((p.on.take j).map (cst p)) ∧ costF p ((evs p).drop j) = costF p (evs p) ∧ Below w.heap.size w wr ∧ wr.heap[w.heap.size]? = some (.cells #[.slice qo p.gh.length qc, .slice vo p.vs.length vc, .slice tto p.ts.length tc, .slice oo p.on.length oc, .int .i64 p.miss, .slice co p.cd.length cc] 27 (0, 0)) ∧ wr.heap[w.heap.size + 1]? = some (.cells #[.slice none 0 0, .int .i64 0] 32 (0, 0)) ∧ wr.heap[w.heap.size + 1 + 1]? = some (.cells #[.int .i64 0, .int .i64 0] 35 (0, 0)) ∧ wr.heap[fb]? = some (.cells (fuC p.cd.length (fuel p)).toArray 3 (0, 0))) := ⟨hgk, hrn, hcf, hbw, (hrn.bel.block _ (blk_lt H3.out.2.1)).trans H3.out.2.1, (hrn.bel.block _ (blk_lt H3.out.2.2.1)).trans H3.out.2.2.1, (hrn.bel.block _ (blk_lt H3.out.2.2.2.1)).trans H3.out.2.2.2.1, (hrn.bel.block _ (blk_lt H3.out.2.2.2.2)).trans H3.out.2.2.2.2⟩
      clear hgk hrn hcf hbw
      obtain ⟨i0, i1, i2, i3, i4, i5⟩ := cells6 HG.out.2.2.2.2.1
      by_cases hlt : j < p.on.length + 1
      · have hlt' : (j : Int) ≤ (p.on.length : Int) := by omega
        have hle : j < (evs p).length := by have := HK.out.2.2.2.2; omega
        have HLt : Hid (j < p.on.length + 1) := hlt
        obtain ⟨q1, q2⟩ := HK.out.1 _ (List.getElem_mem hle)
        have hcd := costF_drop hle
        have hev := evs_at hle
        generalize (evs p)[j] = n at *
        have hcs : n = -1 ∧ cst p n = 0 ∨ ∃ kn : Nat, n = (kn : Int) ∧ kn < p.cd.length ∧ cst p n = fuel p kn := by
          by_cases e : n = -1
          · exact Or.inl ⟨e, by unfold cst; rw [if_pos e]⟩
          · exact Or.inr ⟨n.toNat, by omega, by omega, by unfold cst; rw [if_neg e]⟩
        by_cases hjo : j < p.on.length
        · have hjo' : (j : Int) < (p.on.length : Int) := by omega
          have hjo2 : (j : Int) ≤ (p.on.length : Int) := by omega
          rw [dif_pos hjo] at hev
          have HTk : Hid ((p.on.take (j + 1)).map (cst p) = (p.on.take j).map (cst p) ++ [cst p n]) := by
            show List.map _ _ = _
            rw [List.take_succ_eq_append_getElem hjo, List.map_append, ← hev]
            rfl
          have HJo2 : Hid (j < p.on.length) := hjo
          obtain ⟨g2, f2, hvo, hg2, d0⟩ := rd_int (HP.out.on.below HG.out.2.2.2.1) hjo
          obtain rfl : oo = some ⟨g2, f2, none⟩ := hvo
          rw [← hev] at d0
          clear hev hg2 hjo hle hlt
          generalize hyy : cst p n = y at *
          clear hyy
          rcases hcs with ⟨rfl, hy⟩ | ⟨kn, rfl, hkn, hy⟩
          · have hbig : ¬ 1152921504606846976 < y := by omega
            subst hy
            have HCd : Hid (costF p ((evs p).drop (j + 1)) = costF p (evs p)) := by
              show costF p _ = _
              rw [← HG.out.2.2.1, hcd, if_neg hbig]
            clear hcd
            have hrn := HG.out.2.1
            rw [if_pos (by have := HJo2.out; omega)] at hrn
            have hlm : ((p.on.take j).map (cst p)).length = j := by rw [List.length_map, List.length_take]; have := HJo2.out; omega
            have HRn2 : Hid (Rn w3 wr kb v 0 ((p.on.take j).map (cst p)) ∧ ((p.on.take j).map (cst p)).length = j) := ⟨hrn, hlm⟩
            obtain ⟨bo, bc, hbo⟩ := own_form hrn.own
            rw [hlm] at hbo
            subst hbo
            have b0 := (cells2 hrn.box).1
            have b1 := (cells2 hrn.box).2
            have HO2 : Hid ((wr.alloc (.cells #[.int .i64 0] 3)).ownsRow (kb + 1) 3 1 (.slice bo j bc) j (iC ((p.on.take j).map (cst p)))) := hrn.owns hlm _
            have hkw : kb < wr.heap.size := hrn.lt
            clear hrn hlm
            generalize hle9 : iC ((p.on.take j).map (cst p)) = lc at *
            go_wp2_with (at_builtin; refine append_gone _ rfl _ _ 24 rfl (kb + 1) 3 j0 (.int .i64 0) 1 8 Tryd.underlying24 hj hj0 hj1 hj2 rfl (by decide) (.slice bo j bc) j lc rfl HO2.out ⟨wr.heap.size, 0, none⟩ 1 1 [.int .i64 0] rfl rfl ?c1 ?c2 ?c3 ?c4 ?c5 ?c6 ?_)
            case c2 => rfl
            case c3 => have := HJo2.out; have := HK.out.2.2.2.1; unfold maxLen; omega
            case c4 => have := HJo2.out; have := HK.out.2.2.2.1; omega
            case c5 => omega
            intro v' w' ho hG9
            obtain ⟨bo2, bc2, rfl⟩ := own_form ho
            subst hle9
            have HM9 : Hid (w'.heap[kb]? = some (.cells #[.slice bo j bc, .int .i64 0] 32 (0, 0))) := HRn2.out.1.mid hG9
            have hap := HRn2.out.1.app 0 (by rw [HRn2.out.2]; exact ho) hG9
            have HAp : Hid (Rn w3 (w'.setCell ⟨kb, 0, none⟩ (.slice bo2 (j + 1) bc2)) kb (.slice bo2 (j + 1) bc2) (if j + 1 ≤ p.on.length then 0 else cst p p.miss) ((p.on.take (j + 1)).map (cst p))) := by
              show Rn _ _ _ _ _ _
              rw [if_pos (by have := HJo2.out; omega), HTk.out]
              exact hap
            clear b0 b1 ho hG9 hap HO2 HRn2 hkw
            obtain ⟨b0, b1⟩ := cells2 HM9.out
            have fk : ∀ j, w'.frozen? ⟨kb, j, none⟩ = false := Lk.fz HM9.out
            clear HM9
            go_wp2_with fail
            go_roundg (p.on.length + 1 - (j + 1))
            case measure => have h1 := HG.out.1; have := HLt.out; omega
            case rel => exact ⟨j + 1, _, by have := HLt.out; omega, rfl, by go_num, HAp.out, HCd.out⟩
          · have hkn0 : (0 : Int) ≤ (kn : Int) := by omega
            have k0 := cell_of HG.out.2.2.2.2.2.2.2 (fuC_at (f := fuel p) hkn)
            rw [← hy] at k0
            clear hy
            clear hkn
            by_cases hbig : 1152921504606846976 < y
            · have HJe : Hid (judge p = .error (97, (kn : Int))) := by
                show judge p = _
                rw [HJo.out, ← HG.out.2.2.1, hcd, if_pos hbig]
              have HSt := show Hid _ from sto_ok (.slice none 0 0) (.int .i64 0) (.int .i64 97) (.int .i64 (kn : Int)) HG.out.2.2.2.1 (Nat.le_succ _) HG.out.2.2.2.2.2.1 HG.out.2.2.2.2.2.2.1
              obtain ⟨y0, y1⟩ := cells2 HG.out.2.2.2.2.2.1
              obtain ⟨z0, z1⟩ := cells2 HG.out.2.2.2.2.2.2.1
              have ff1 : ∀ j, wr.frozen? ⟨w.heap.size + 1, j, none⟩ = false := Lk.fz HG.out.2.2.2.2.2.1
              have ff2 : ∀ j, wr.frozen? ⟨w.heap.size + 1 + 1, j, none⟩ = false := Lk.fz HG.out.2.2.2.2.2.2.1
              clear hcd
              go_wp2_with fail
              clear y0 y1 z0 z1 ff1 ff2
              generalize ((((wr.setCell ⟨w.heap.size + 1, 0, none⟩ (.slice none 0 0)).setCell ⟨w.heap.size + 1, 1, none⟩ (.int .i64 0)).setCell ⟨w.heap.size + 1 + 1, 0, none⟩ (.int .i64 97)).setCell ⟨w.heap.size + 1 + 1, 1, none⟩ (.int .i64 (kn : Int))) = W9 at *
              obtain ⟨y0, y1⟩ := cells2 HSt.out.2.1
              obtain ⟨z0, z1⟩ := cells2 HSt.out.2.2.1
              refine bodyPost_ret (v := .tuple #[.agg #[.slice none 0 0, .int .i64 0], .agg #[.int .i64 97, .int .i64 (kn : Int)]]) (by simp [results, Tryd.results10, go_sem, y0, y1, z0, z1]) rfl ?_
              refine ⟨HSt.out.1, fun e m hj9 => ?_, fun g hj9 => ?_⟩
              · rw [HJe.out] at hj9; cases hj9; rfl
              · rw [HJe.out] at hj9; cases hj9
            · have HCd : Hid (costF p ((evs p).drop (j + 1)) = costF p (evs p)) := by
                show costF p _ = _
                rw [← HG.out.2.2.1, hcd, if_neg hbig]
              clear hcd
              have hrn := HG.out.2.1
              rw [if_pos (by have := HJo2.out; omega)] at hrn
              have hlm : ((p.on.take j).map (cst p)).length = j := by rw [List.length_map, List.length_take]; have := HJo2.out; omega
              have HRn2 : Hid (Rn w3 wr kb v 0 ((p.on.take j).map (cst p)) ∧ ((p.on.take j).map (cst p)).length = j) := ⟨hrn, hlm⟩
              obtain ⟨bo, bc, hbo⟩ := own_form hrn.own
              rw [hlm] at hbo
              subst hbo
              have b0 := (cells2 hrn.box).1
              have b1 := (cells2 hrn.box).2
              have HO2 : Hid ((wr.alloc (.cells #[.int .i64 y] 3)).ownsRow (kb + 1) 3 1 (.slice bo j bc) j (iC ((p.on.take j).map (cst p)))) := hrn.owns hlm _
              have hkw : kb < wr.heap.size := hrn.lt
              clear hrn hlm
              generalize hle9 : iC ((p.on.take j).map (cst p)) = lc at *
              go_wp2_with (at_builtin; refine append_gone _ rfl _ _ 24 rfl (kb + 1) 3 j0 (.int .i64 0) 1 8 Tryd.underlying24 hj hj0 hj1 hj2 rfl (by decide) (.slice bo j bc) j lc rfl HO2.out ⟨wr.heap.size, 0, none⟩ 1 1 [.int .i64 y] rfl rfl ?d1 ?d2 ?d3 ?d4 ?d5 ?d6 ?_)
              case d2 => rfl
              case d3 => have := HJo2.out; have := HK.out.2.2.2.1; unfold maxLen; omega
              case d4 => have := HJo2.out; have := HK.out.2.2.2.1; omega
              case d5 => omega
              intro v' w' ho hG9
              obtain ⟨bo2, bc2, rfl⟩ := own_form ho
              subst hle9
              have HM9 : Hid (w'.heap[kb]? = some (.cells #[.slice bo j bc, .int .i64 0] 32 (0, 0))) := HRn2.out.1.mid hG9
              have hap := HRn2.out.1.app y (by rw [HRn2.out.2]; exact ho) hG9
              have HAp : Hid (Rn w3 (w'.setCell ⟨kb, 0, none⟩ (.slice bo2 (j + 1) bc2)) kb (.slice bo2 (j + 1) bc2) (if j + 1 ≤ p.on.length then 0 else cst p p.miss) ((p.on.take (j + 1)).map (cst p))) := by
                show Rn _ _ _ _ _ _
                rw [if_pos (by have := HJo2.out; omega), HTk.out]
                exact hap
              clear b0 b1 ho hG9 hap HO2 HRn2 hkw
              obtain ⟨b0, b1⟩ := cells2 HM9.out
              have fk : ∀ j, w'.frozen? ⟨kb, j, none⟩ = false := Lk.fz HM9.out
              clear HM9
              go_wp2_with fail
              go_roundg (p.on.length + 1 - (j + 1))
              case measure => have h1 := HG.out.1; have := HLt.out; omega
              case rel => exact ⟨j + 1, _, by have := HLt.out; omega, rfl, by go_num, HAp.out, HCd.out⟩
        · have hjo' : ¬ (j : Int) < (p.on.length : Int) := by omega
          rw [dif_neg hjo] at hev
          have HTk : Hid ((p.on.take (j + 1)).map (cst p) = (p.on.take j).map (cst p)) := by
            show List.map _ _ = _
            rw [List.take_of_length_le (by omega), List.take_of_length_le (by omega)]
          have HJq : Hid (j = p.on.length) := by show j = _; omega
          have HYm : Hid (cst p n = cst p p.miss) := by show cst p n = _; rw [hev]
          rw [← hev] at i4
          clear hev hjo hle hlt
          generalize hyy : cst p n = y at *
          clear hyy
          rcases hcs with ⟨rfl, hy⟩ | ⟨kn, rfl, hkn, hy⟩
          · have hbig : ¬ 1152921504606846976 < y := by omega
            subst hy
            have HCd : Hid (costF p ((evs p).drop (j + 1)) = costF p (evs p)) := by
              show costF p _ = _
              rw [← HG.out.2.2.1, hcd, if_neg hbig]
            clear hcd
            have hrn := HG.out.2.1
            rw [if_pos (by have := HJq.out; omega)] at hrn
            obtain ⟨b0, b1⟩ := cells2 hrn.box
            have fk : ∀ j, wr.frozen? ⟨kb, j, none⟩ = false := Lk.fz hrn.box
            have HAp : Hid (Rn w3 (wr.setCell ⟨kb, 1, none⟩ (.int .i64 0)) kb v (if j + 1 ≤ p.on.length then 0 else cst p p.miss) ((p.on.take (j + 1)).map (cst p))) := by
              show Rn _ _ _ _ _ _
              rw [if_neg (by have := HJq.out; omega), HTk.out, ← HYm.out]
              refine ⟨hrn.hk, hrn.bel.setCell (p := ⟨kb, 1, none⟩) (by rw [hrn.hk]; exact Nat.le_refl _) _, by simpa using hrn.lt, ?_, ownsRow_setCell_below hrn.own (a := ⟨kb, 1, none⟩) (Nat.lt_succ_self _) _⟩
              rw [heap_setCell_same wr kb 1 _ _ _ hrn.box]
              rfl
            clear hrn
            go_wp2_with fail
            go_roundg (p.on.length + 1 - (j + 1))
            case measure => have h1 := HG.out.1; have := HLt.out; omega
            case rel => exact ⟨j + 1, v, by have := HLt.out; omega, rfl, by go_num, HAp.out, HCd.out⟩
          · have hkn0 : (0 : Int) ≤ (kn : Int) := by omega
            have k0 := cell_of HG.out.2.2.2.2.2.2.2 (fuC_at (f := fuel p) hkn)
            rw [← hy] at k0
            clear hy
            clear hkn
            by_cases hbig : 1152921504606846976 < y
            · have HJe : Hid (judge p = .error (97, (kn : Int))) := by
                show judge p = _
                rw [HJo.out, ← HG.out.2.2.1, hcd, if_pos hbig]
              have HSt := show Hid _ from sto_ok (.slice none 0 0) (.int .i64 0) (.int .i64 97) (.int .i64 (kn : Int)) HG.out.2.2.2.1 (Nat.le_succ _) HG.out.2.2.2.2.2.1 HG.out.2.2.2.2.2.2.1
              obtain ⟨y0, y1⟩ := cells2 HG.out.2.2.2.2.2.1
              obtain ⟨z0, z1⟩ := cells2 HG.out.2.2.2.2.2.2.1
              have ff1 : ∀ j, wr.frozen? ⟨w.heap.size + 1, j, none⟩ = false := Lk.fz HG.out.2.2.2.2.2.1
              have ff2 : ∀ j, wr.frozen? ⟨w.heap.size + 1 + 1, j, none⟩ = false := Lk.fz HG.out.2.2.2.2.2.2.1
              clear hcd
              go_wp2_with fail
              clear y0 y1 z0 z1 ff1 ff2
              generalize ((((wr.setCell ⟨w.heap.size + 1, 0, none⟩ (.slice none 0 0)).setCell ⟨w.heap.size + 1, 1, none⟩ (.int .i64 0)).setCell ⟨w.heap.size + 1 + 1, 0, none⟩ (.int .i64 97)).setCell ⟨w.heap.size + 1 + 1, 1, none⟩ (.int .i64 (kn : Int))) = W9 at *
              obtain ⟨y0, y1⟩ := cells2 HSt.out.2.1
              obtain ⟨z0, z1⟩ := cells2 HSt.out.2.2.1
              refine bodyPost_ret (v := .tuple #[.agg #[.slice none 0 0, .int .i64 0], .agg #[.int .i64 97, .int .i64 (kn : Int)]]) (by simp [results, Tryd.results10, go_sem, y0, y1, z0, z1]) rfl ?_
              refine ⟨HSt.out.1, fun e m hj9 => ?_, fun g hj9 => ?_⟩
              · rw [HJe.out] at hj9; cases hj9; rfl
              · rw [HJe.out] at hj9; cases hj9
            · have HCd : Hid (costF p ((evs p).drop (j + 1)) = costF p (evs p)) := by
                show costF p _ = _
                rw [← HG.out.2.2.1, hcd, if_neg hbig]
              clear hcd
              have hrn := HG.out.2.1
              rw [if_pos (by have := HJq.out; omega)] at hrn
              obtain ⟨b0, b1⟩ := cells2 hrn.box
              have fk : ∀ j, wr.frozen? ⟨kb, j, none⟩ = false := Lk.fz hrn.box
              have HAp : Hid (Rn w3 (wr.setCell ⟨kb, 1, none⟩ (.int .i64 y)) kb v (if j + 1 ≤ p.on.length then 0 else cst p p.miss) ((p.on.take (j + 1)).map (cst p))) := by
                show Rn _ _ _ _ _ _
                rw [if_neg (by have := HJq.out; omega), HTk.out, ← HYm.out]
                refine ⟨hrn.hk, hrn.bel.setCell (p := ⟨kb, 1, none⟩) (by rw [hrn.hk]; exact Nat.le_refl _) _, by simpa using hrn.lt, ?_, ownsRow_setCell_below hrn.own (a := ⟨kb, 1, none⟩) (Nat.lt_succ_self _) _⟩
                rw [heap_setCell_same wr kb 1 _ _ _ hrn.box]
                rfl
              clear hrn
              go_wp2_with fail
              go_roundg (p.on.length + 1 - (j + 1))
              case measure => have h1 := HG.out.1; have := HLt.out; omega
              case rel => exact ⟨j + 1, v, by have := HLt.out; omega, rfl, by go_num, HAp.out, HCd.out⟩
      · have hlt' : ¬ (j : Int) ≤ (p.on.length : Int) := by omega
        obtain rfl : j = p.on.length + 1 := by omega
        have hrn := HG.out.2.1
        rw [if_neg (by omega), List.take_of_length_le (by omega)] at hrn
        obtain ⟨o, c9, rfl, hrd⟩ := hrn.rd
        have HJe : Hid (judge p = .ok g) := by
          show judge p = _
          rw [HJo.out, ← HG.out.2.2.1, List.drop_eq_nil_of_le (by have := HK.out.2.2.2.2; omega)]
          rfl
        have HSt := show Hid _ from sto_ok (.slice o (p.on.map (cst p)).length c9) (.int .i64 (cst p p.miss)) (.int .i64 0) (.int .i64 0) HG.out.2.2.2.1 (Nat.le_succ _) HG.out.2.2.2.2.2.1 HG.out.2.2.2.2.2.2.1
        have HRd : Hid (∀ X : World, (∀ k, k ≠ w.heap.size + 1 → k ≠ w.heap.size + 1 + 1 → X.heap[k]? = wr.heap[k]?) → X.heap.size = wr.heap.size → Rd X o (iC (p.on.map (cst p)))) := fun X hX hsz k x hx => by
          obtain ⟨g9, f9, h1, h2, h3⟩ := hrd k x hx
          have hge : kb + 1 ≤ g9 := by
            obtain ⟨bo, bc, e1, -, e3⟩ := rd_of_own hrn.own
            cases e1
            exact e3 g9 f9 h1
          have := HLo.out.1
          exact ⟨g9, f9, h1, by omega, (World.cell?_of_block (a := ⟨g9, f9 + k, none⟩) (hX g9 (by omega) (by omega))).trans h3⟩
        have HGe : Hid (∀ g f, o = some ⟨g, f, none⟩ → w.heap.size ≤ g) := fun g9 f9 h1 => by
          obtain ⟨bo, bc, e1, -, e3⟩ := rd_of_own hrn.own
          cases e1
          have := e3 g9 f9 h1
          have := HLo.out.1
          omega
        obtain ⟨b0, b1⟩ := cells2 hrn.box
        obtain ⟨y0, y1⟩ := cells2 HG.out.2.2.2.2.2.1
        obtain ⟨z0, z1⟩ := cells2 HG.out.2.2.2.2.2.2.1
        have ff1 : ∀ j, wr.frozen? ⟨w.heap.size + 1, j, none⟩ = false := Lk.fz HG.out.2.2.2.2.2.1
        have ff2 : ∀ j, wr.frozen? ⟨w.heap.size + 1 + 1, j, none⟩ = false := Lk.fz HG.out.2.2.2.2.2.2.1
        have HLm : Hid ((p.on.map (cst p)).length = p.on.length) := by show List.length _ = _; simp
        generalize (p.on.map (cst p)).length = lm at *
        generalize hcm : cst p p.miss = cm at *
        have HCm : Hid (cst p p.miss = cm) := hcm
        clear hlt hrd hrn hcm
        go_wp2_with fail
        clear y0 y1 z0 z1 ff1 ff2 b0 b1
        generalize ((((wr.setCell ⟨w.heap.size + 1, 0, none⟩ (.slice o lm c9)).setCell ⟨w.heap.size + 1, 1, none⟩ (.int .i64 cm)).setCell ⟨w.heap.size + 1 + 1, 0, none⟩ (.int .i64 0)).setCell ⟨w.heap.size + 1 + 1, 1, none⟩ (.int .i64 0)) = W9 at *
        obtain ⟨y0, y1⟩ := cells2 HSt.out.2.1
        obtain ⟨z0, z1⟩ := cells2 HSt.out.2.2.1
        refine bodyPost_ret (v := .tuple #[.agg #[.slice o lm c9, .int .i64 cm], .agg #[.int .i64 0, .int .i64 0]]) (by simp [results, Tryd.results10, go_sem, y0, y1, z0, z1]) rfl ?_
        refine ⟨HSt.out.1, fun e m hj9 => ?_, fun g9 hj9 => ?_⟩
        · rw [HJe.out] at hj9; cases hj9
        · exact ⟨o, c9, by rw [HLm.out, HCm.out], HRd.out _ HSt.out.2.2.2.1 HSt.out.2.2.2.2, HGe.out⟩
end Go.Proofs.YtelbakkgobkdaaaDoor.Vf

namespace Go.Proofs.YtelbakkgobkdaaaDoor.Vf
open Go.RowKit Go.Proofs.YtelbakkgobkdaaaDoor.Nm
/-- what the reference's Heights tells -/
structure RhP (w : World) (p : Pg) (r : Ending) (w' : World) : Prop where
  bel : Below w.heap.size w w'
  err : ∀ e n, judge p = .error (e, n) → r = .returned (.tuple #[.slice none 0 0, .agg #[.int .i64 (e : Int), .int .i64 n]])
  ok : ∀ g, judge p = .ok g → ∃ o c, r = .returned (.tuple #[.slice o p.cd.length c, .agg #[.int .i64 0, .int .i64 0]]) ∧ Rd w' o (iC ((List.range p.cd.length).map (hgt g))) ∧ ∀ g' f, o = some ⟨g', f, none⟩ → w.heap.size ≤ g'
theorem look_of {p : Pg} {g : Nat → Option Sd} (h : judge p = .ok g) : lookR p = .ok g := by
  rw [judge_look] at h
  cases hl : lookR p with
  | error e => obtain ⟨c, i⟩ := e; rw [hl] at h; cases h
  | ok g' =>
    rw [hl] at h
    dsimp only at h
    split at h
    · cases h
    · cases h; rfl
theorem run_o2 {w w' : World} {p : Pg} {r : Ending} (h : RrP w p r w') : ∃ o n c cm f0 f1, r = .returned (.tuple #[.agg #[.slice o n c, .int .i64 cm], .agg #[.int .i64 f0, .int .i64 f1]]) ∧ ((f0 = 0 ∧ ∃ g, judge p = .ok g) ∨ (∃ e : Nat, f0 = (e : Int) ∧ e ≠ 0 ∧ judge p = .error (e, f1))) := by
  cases hj : judge p with
  | ok g =>
    obtain ⟨o, c, h1, -⟩ := h.ok g hj
    exact ⟨o, _, c, _, 0, 0, h1, Or.inl ⟨rfl, g, rfl⟩⟩
  | error en =>
    obtain ⟨e, n⟩ := en
    exact ⟨none, 0, 0, 0, (e : Int), n, h.err e n hj, Or.inr ⟨e, rfl, judge_ne hj, rfl⟩⟩
set_option maxHeartbeats 12800000 in
set_option maxRecDepth 100000 in
/-- the reference's Heights -/
theorem rheights_any (v : PV) (p : Pg) (w : World) (hP : IsPg w v p) : Calls Tryd.prog 14 #[.agg (pvC v p)] w (RhP w p) := by
  have n5 : (p.cd.length : Int) ≤ 1000000000000000 := by have := hP.lcd; omega
  have HC : Hid (∀ W, Below w.heap.size w W → Calls Tryd.prog 10 #[.agg (pvC v p)] W (RrP W p)) := fun W hb => rrun_any v p W (hP.below hb)
  have HC2 : Hid (∀ W, Below w.heap.size w W → Calls Tryd.prog 20 #[.agg (pvC v p)] W (LoP W v p (lookR p))) := fun W hb => rlook_any v p W (hP.below hb)
  have HP : Hid (IsPg w v p) := hP
  obtain ⟨j0, hj, hj0, hj1, hj2⟩ := info_parts infoI
  obtain ⟨qo, qc, vo, vc, tto, tc, oo, oc, co, cc⟩ := v
  show Calls _ _ #[.agg #[.slice qo p.gh.length qc, .slice vo p.vs.length vc, .slice tto p.ts.length tc, .slice oo p.on.length oc, .int .i64 p.miss, .slice co p.cd.length cc]] _ _
  have H0 := show Hid _ from al2 w (.cells #[.slice qo p.gh.length qc, .slice vo p.vs.length vc, .slice tto p.ts.length tc, .slice oo p.on.length oc, .int .i64 p.miss, .slice co p.cd.length cc] 27) (.cells #[.int .i64 0, .int .i64 0] 35)
  clear hP
  go_enter Tryd.func14, Tryd.ntmps14
  go_wp2_with fail
  generalize ((w.alloc (.cells #[.slice qo p.gh.length qc, .slice vo p.vs.length vc, .slice tto p.ts.length tc, .slice oo p.on.length oc, .int .i64 p.miss, .slice co p.cd.length cc] 27)).alloc (.cells #[.int .i64 0, .int .i64 0] 35)) = W0 at *
  refine (HC.out _ H0.out.1).mono ?_
  rintro e w1 hrr
  obtain ⟨o, n, c, cm, f0, f1, rfl, hcase⟩ := run_o2 hrr
  have H1 : Hid (Below w.heap.size w ((w1.alloc (.cells #[.slice o n c, .int .i64 cm] 32)).alloc (.cells #[.int .i64 f0, .int .i64 f1] 35)) ∧ ((w1.alloc (.cells #[.slice o n c, .int .i64 cm] 32)).alloc (.cells #[.int .i64 f0, .int .i64 f1] 35)).heap[w.heap.size]? = some (.cells #[.slice qo p.gh.length qc, .slice vo p.vs.length vc, .slice tto p.ts.length tc, .slice oo p.on.length oc, .int .i64 p.miss, .slice co p.cd.length cc] 27 (0, 0)) ∧ ((w1.alloc (.cells #[.slice o n c, .int .i64 cm] 32)).alloc (.cells #[.int .i64 f0, .int .i64 f1] 35)).heap[w.heap.size + 1]? = some (.cells #[.int .i64 0, .int .i64 0] 35 (0, 0)) ∧ ((w1.alloc (.cells #[.slice o n c, .int .i64 cm] 32)).alloc (.cells #[.int .i64 f0, .int .i64 f1] 35)).heap[w1.heap.size + 1]? = some (.cells #[.int .i64 f0, .int .i64 f1] 35 (0, 0)) ∧ w.heap.size + 1 < w1.heap.size) := by
    obtain ⟨b1, b2, b3⟩ := al2 w1 (.cells #[.slice o n c, .int .i64 cm] 32) (.cells #[.int .i64 f0, .int .i64 f1] 35)
    have hb := hrr.bel.trans (b1.mono hrr.bel.size)
    exact ⟨H0.out.1.trans (hb.mono H0.out.1.size), (hb.block _ (blk_lt H0.out.2.1)).trans H0.out.2.1, (hb.block _ (blk_lt H0.out.2.2)).trans H0.out.2.2, b3, Nat.lt_of_lt_of_le (blk_lt H0.out.2.2) hrr.bel.size⟩
  have HCs : Hid _ := hcase
  clear hrr hcase H0 HC
  go_upto_region 2 with fail
  generalize (w1.alloc (.cells #[.slice o n c, .int .i64 cm] 32)).alloc (.cells #[.int .i64 f0, .int .i64 f1] 35) = W2 at *
  generalize w1.heap.size = wb at *
  obtain ⟨x0, x1⟩ := cells2 H1.out.2.2.2.1
  rcases HCs.out with ⟨rfl, g, hjg⟩ | ⟨er, rfl, her, hje⟩
  rotate_left
  · have HJe : Hid (judge p = .error (er, f1)) := hje
    have her' : ¬ (er : Int) = 0 := by omega
    obtain ⟨z0, z1⟩ := cells2 H1.out.2.2.1
    have fz : ∀ j, W2.frozen? ⟨w.heap.size + 1, j, none⟩ = false := Lk.fz H1.out.2.2.1
    have hn1 : ¬ wb + 1 = w.heap.size + 1 := by have := H1.out.2.2.2.2; omega
    clear HCs hje her
    go_wp2_with fail
    go_region
    have HB9 : Hid (Below w.heap.size w ((W2.setCell ⟨w.heap.size + 1, 0, none⟩ (.int .i64 (er : Int))).setCell ⟨w.heap.size + 1, 1, none⟩ (.int .i64 f1)).drew ∧ ((W2.setCell ⟨w.heap.size + 1, 0, none⟩ (.int .i64 (er : Int))).setCell ⟨w.heap.size + 1, 1, none⟩ (.int .i64 f1)).drew.heap[w.heap.size + 1]? = some (.cells #[.int .i64 (er : Int), .int .i64 f1] 35 (0, 0))) :=
      ⟨((H1.out.1.setCell (p := ⟨w.heap.size + 1, 0, none⟩) (Nat.le_succ _) _).setCell (p := ⟨w.heap.size + 1, 1, none⟩) (Nat.le_succ _) _).drew, heap_setCell_same _ _ 1 _ _ _ (heap_setCell_same W2 _ 0 _ _ _ H1.out.2.2.1)⟩
    clear z0 z1 fz x0 x1
    generalize ((W2.setCell ⟨w.heap.size + 1, 0, none⟩ (.int .i64 (er : Int))).setCell ⟨w.heap.size + 1, 1, none⟩ (.int .i64 f1)).drew = W9 at *
    obtain ⟨z0, z1⟩ := cells2 HB9.out.2
    go_wp2_with fail
    refine bodyPost_ret (v := .tuple #[.slice none 0 0, .agg #[.int .i64 (er : Int), .int .i64 f1]]) (by simp [results, Tryd.results14, go_sem, z0, z1]) rfl ?_
    refine ⟨HB9.out.1, fun e m hj9 => ?_, fun g hj9 => ?_⟩
    · rw [HJe.out] at hj9; cases hj9; rfl
    · rw [HJe.out] at hj9; cases hj9
  · have HJg : Hid (judge p = .ok g) := hjg
    have HLk : Hid (lookR p = .ok g) := look_of hjg
    obtain ⟨i0, i1, i2, i3, i4, i5⟩ := cells6 H1.out.2.1
    clear HCs hjg
    go_wp2_with fail
    refine (HC2.out _ H1.out.1).mono ?_
    rintro e w3 hlo
    unfold LoP at hlo
    rw [HLk.out] at hlo
    dsimp only at hlo
    obtain ⟨lb, ab, ub, sb, u, st, rfl, hla⟩ := hlo
    have hbA : Below w3.heap.size w3 (w3.alloc (.cells #[.int .i64 0, .int .i64 0] 35)) := (Below.refl _ w3).alloc (Nat.le_refl _) _
    have H3 : Hid (La W2 (w3.alloc (.cells #[.int .i64 0, .int .i64 0] 35)) lb ab ub sb ⟨qo, qc, vo, vc, tto, tc, oo, oc, co, cc⟩ p g u st ∧ (w3.alloc (.cells #[.int .i64 0, .int .i64 0] 35)).heap[w.heap.size + 1]? = some (.cells #[.int .i64 0, .int .i64 0] 35 (0, 0)) ∧ Below w.heap.size w (w3.alloc (.cells #[.int .i64 0, .int .i64 0] 35)) ∧ w.heap.size + 1 < (w3.alloc (.cells #[.int .i64 0, .int .i64 0] 35)).heap.size) := by
      have h9 := hla.below hbA
      have e9 := (h9.bel.block _ (blk_lt H1.out.2.2.1)).trans H1.out.2.2.1
      exact ⟨h9, e9, H1.out.1.trans (h9.bel.mono H1.out.1.size), blk_lt e9⟩
    have hck := chk_of (look_ok HLk.out).1
    have HKl : Hid (p.cd.length ≤ 262144) := hck.2.1
    have n6 : (p.cd.length : Int) ≤ 262144 := by have := hck.2.1; omega
    clear hla hbA i0 i1 i2 i3 i4 i5 x0 x1 hck HC2 H1
    go_upto_region 5 with fail
    generalize w3.alloc (.cells #[.int .i64 0, .int .i64 0] 35) = W4 at *
    go_wp2_with fail
    go_loopg [8, 9] p.cd.length (fun gq s x wr => ∃ j : Nat, j ≤ p.cd.length ∧ gq = p.cd.length - j ∧ x = .int .i64 (j : Int) ∧ wr.ownsRow W4.heap.size 3 1 s j (iC ((List.range j).map (hgt g))) ∧ Below W4.heap.size W4 wr)
    case atStart => exact ⟨0, Nat.zero_le _, rfl, rfl, World.ownsRow_nil _ _ _ _, Below.refl _ _⟩
    case round =>
      obtain ⟨j, hjl, hgk, rfl, hown, hb⟩ := hrel
      have HG : Hid (gk = p.cd.length - j ∧ wr.ownsRow W4.heap.size 3 1 u8 j (iC ((List.range j).map (hgt g))) ∧ Below W4.heap.size W4 wr) := ⟨hgk, hown, hb⟩
      obtain ⟨-, -, -, -, -, -, c6, -, -⟩ := cells9 (H3.out.1.below hb).lk.hw
      obtain ⟨bo, bc, rfl⟩ := own_form hown
      clear hgk hown hb
      by_cases hlt : j < p.cd.length
      · have hlt' : (j : Int) < (p.cd.length : Int) := by omega
        have HLt : Hid (j < p.cd.length) := hlt
        have HTy : Hid (∃ S : ByteArray, wr.cell? ⟨ab, j * 4, none⟩ = some (.string S) ∧ (S.size : Int) = hgt g j) := by
          have hl9 := (H3.out.1.below HG.out.2.2).lk
          cases hg9 : g j with
          | none => exact ⟨⟨#[]⟩, (hl9.isN hlt hg9).1, by unfold hgt; rw [hg9]; rfl⟩
          | some s9 => exact ⟨strT s9.ty, (hl9.isS hlt hg9).1, by unfold hgt; rw [hg9, strT_size]⟩
        obtain ⟨S, a0, hSz⟩ := HTy.out
        have HSz : Hid ((S.size : Int) = hgt g j) := hSz
        have HO2 : Hid ((wr.alloc (.cells #[.int .i64 (S.size : Int)] 3)).ownsRow W4.heap.size 3 1 (.slice bo j bc) j (iC ((List.range j).map (hgt g)))) := own_below HG.out.2.1 ((Below.refl _ wr).alloc (Nat.le_refl _) _)
        have hW4 : W4.heap.size ≤ wr.heap.size := HG.out.2.2.size
        generalize hle9 : iC ((List.range j).map (hgt g)) = lc at *
        clear hSz HTy hlt
        go_wp2_with (at_builtin; refine append_gone _ rfl _ _ 24 rfl W4.heap.size 3 j0 (.int .i64 0) 1 8 Tryd.underlying24 hj hj0 hj1 hj2 rfl (by decide) (.slice bo j bc) j lc rfl HO2.out ⟨wr.heap.size, 0, none⟩ 1 1 [.int .i64 (S.size : Int)] rfl rfl ?c1 ?c2 ?c3 ?c4 ?c5 ?c6 ?_)
        case c1 => exact cell_one wr _ _
        case c2 => intro u9 hu; simp only [List.mem_cons, List.not_mem_nil, or_false] at hu; subst hu; rfl
        case c3 => have := HLt.out; have := HKl.out; unfold maxLen; omega
        case c4 => have := HLt.out; have := HKl.out; omega
        case c5 => exact Nat.le_trans hW4 (by simp)
        case c6 => decide
        intro v' w' ho hG9
        subst hle9
        have hb1 : Below W4.heap.size W4 (wr.alloc (.cells #[.int .i64 (S.size : Int)] 3)) := HG.out.2.2.alloc HG.out.2.2.size _
        have HB9 : Hid (Below W4.heap.size W4 w') := hb1.grown hG9.1 hb1.size (fun k e => (World.ownsRow.lt HG.out.2.1 k e).1)
        have HOw : Hid (w'.ownsRow W4.heap.size 3 1 v' (j + 1) (iC ((List.range (j + 1)).map (hgt g)))) := by
          show World.ownsRow _ _ _ _ _ _ _
          rw [List.range_succ, List.map_append, iC_app]
          have e9 : iC ([j].map (hgt g)) = [.int .i64 (S.size : Int)] := by rw [HSz.out]; rfl
          rw [e9]
          exact ho
        clear ho hG9 hb1 HO2 hW4
        go_wp2_with fail
        go_roundg (p.cd.length - (j + 1))
        case measure => have h1 := HG.out.1; have := HLt.out; omega
        case rel => exact ⟨j + 1, HLt.out, rfl, by go_num, HOw.out, HB9.out⟩
      · have hlt' : ¬ (j : Int) < (p.cd.length : Int) := by omega
        obtain rfl : j = p.cd.length := by omega
        obtain ⟨bo2, bc2, e2, hrd, hge⟩ := rd_of_own HG.out.2.1
        cases e2
        have HGe : Hid (∀ g' f, bo = some ⟨g', f, none⟩ → w.heap.size ≤ g') := fun g9 f9 h1 => by have := hge g9 f9 h1; have := H3.out.2.2.2; omega
        have hx9 : wr.heap[w.heap.size + 1]? = some (.cells #[.int .i64 0, .int .i64 0] 35 (0, 0)) := (HG.out.2.2.block _ (blk_lt H3.out.2.1)).trans H3.out.2.1
        have HB9 : Hid (Below w.heap.size w ((wr.setCell ⟨w.heap.size + 1, 0, none⟩ (.int .i64 0)).setCell ⟨w.heap.size + 1, 1, none⟩ (.int .i64 0)) ∧ ((wr.setCell ⟨w.heap.size + 1, 0, none⟩ (.int .i64 0)).setCell ⟨w.heap.size + 1, 1, none⟩ (.int .i64 0)).heap[w.heap.size + 1]? = some (.cells #[.int .i64 0, .int .i64 0] 35 (0, 0)) ∧ Rd ((wr.setCell ⟨w.heap.size + 1, 0, none⟩ (.int .i64 0)).setCell ⟨w.heap.size + 1, 1, none⟩ (.int .i64 0)) bo (iC ((List.range p.cd.length).map (hgt g)))) := by
          have hbw : Below w.heap.size w wr := H3.out.2.2.1.trans (HG.out.2.2.mono H3.out.2.2.1.size)
          refine ⟨(hbw.setCell (p := ⟨w.heap.size + 1, 0, none⟩) (Nat.le_succ _) _).setCell (p := ⟨w.heap.size + 1, 1, none⟩) (Nat.le_succ _) _, heap_setCell_same _ _ 1 _ _ _ (heap_setCell_same wr _ 0 _ _ _ hx9), fun k x hx => ?_⟩
          obtain ⟨g9, f9, h1, h2, h3⟩ := hrd k x hx
          have hne : g9 ≠ w.heap.size + 1 := by have := hge g9 f9 h1; have := H3.out.2.2.2; omega
          refine ⟨g9, f9, h1, by simpa using h2, ?_⟩
          exact (World.cell?_of_block (a := ⟨g9, f9 + k, none⟩) ((Below.heap_setCell _ _ _ _ hne).trans (Below.heap_setCell _ _ _ _ hne))).trans h3
        obtain ⟨z0, z1⟩ := cells2 hx9
        have fz : ∀ j, wr.frozen? ⟨w.heap.size + 1, j, none⟩ = false := Lk.fz hx9
        clear hx9 hrd hge hlt hjl
        go_wp2_with fail
        clear z0 z1 fz
        generalize (wr.setCell ⟨w.heap.size + 1, 0, none⟩ (.int .i64 0)).setCell ⟨w.heap.size + 1, 1, none⟩ (.int .i64 0) = W9 at *
        obtain ⟨z0, z1⟩ := cells2 HB9.out.2.1
        refine bodyPost_ret (v := .tuple #[.slice bo p.cd.length bc, .agg #[.int .i64 0, .int .i64 0]]) (by simp [results, Tryd.results14, go_sem, z0, z1]) rfl ?_
        refine ⟨HB9.out.1, fun e m hj9 => ?_, fun g9 hj9 => ?_⟩
        · rw [HJg.out] at hj9; cases hj9
        · rw [HJg.out] at hj9; cases hj9
          exact ⟨bo, bc, rfl, HB9.out.2.2, HGe.out⟩
end Go.Proofs.YtelbakkgobkdaaaDoor.Vf
