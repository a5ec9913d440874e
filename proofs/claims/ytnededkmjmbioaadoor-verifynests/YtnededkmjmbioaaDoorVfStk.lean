import Derived.Test.YtnededkmjmbioaaDoorVfFlow
namespace Go.Proofs.YtnededkmjmbioaaDoor.Vf

theorem look_eq {p : Pg} {g : Nat → Option Sd} {i : Nat} {s : Sd} (hg : g i = some s) : lookN p g i = if !holdB p s.hand (p.at i) then 96 else if !fitsB s.ty (p.at i).op.toNat then 93 else if !suitsB s.ty (p.at i).op.toNat then 94 else if !bringB p (p.at i) then 92 else if !goB p g i s then 95 else 0 := by
  unfold lookN
  rw [hg]
theorem first_zero {f : Ins → Nat} : ∀ l : List Ins, (∀ x ∈ l, f x = 0) → firstE f l = 0
  | [], _ => rfl
  | x :: l, h => by
    unfold firstE
    rw [if_pos (h x (by simp))]
    exact first_zero l (fun y hy => h y (by simp [hy]))
/-- a row of n numbers, m sums, a var set, the end -/
def skI (n m k : Nat) : Ins := if k < n then ⟨1, (k : Int), 0, 0, 0⟩ else if k < n + m then ⟨17, 0, 0, 0, 0⟩ else if k = n + m then ⟨28, 0, 0, 0, 0⟩ else ⟨0, 0, 0, 0, 0⟩
def skP (n m : Nat) : Pg := ⟨[false], [(0, 0, 0)], [], [-1], 0, (List.range (n + m + 2)).map (skI n m)⟩
theorem sk_len (n m : Nat) : (skP n m).cd.length = n + m + 2 := by unfold skP; simp
theorem sk_at (n m k : Nat) : (skP n m).at k = skI n m k := by
  unfold Pg.at
  by_cases h : k < n + m + 2
  · unfold skP
    dsimp only
    rw [List.getD_eq_getElem?_getD, List.getElem?_map, List.getElem?_range h]
    rfl
  · have h' : (skP n m).cd.length ≤ k := by rw [sk_len]; omega
    rw [List.getD_eq_getElem?_getD, List.getElem?_eq_none h']
    unfold skI
    rw [if_neg (by omega), if_neg (by omega), if_neg (by omega)]
    rfl
theorem sk_got (n m : Nat) : got0 (skP n m) = upd (fun _ => none) 0 freshS := rfl
/-- how many operands lie ahead of a place -/
def skH (n m k : Nat) : Nat := if k ≤ n then k else if k ≤ n + m then n - (k - n) else n - m - 1
def skS (n m k : Nat) : Sd := ⟨List.replicate (skH n m k) false, 0, -1⟩
theorem blw_rep (h n : Nat) : blw (List.replicate h false) n = false := by
  unfold blw
  rw [List.getD_eq_getElem?_getD, List.getElem?_replicate]
  split <;> rfl
theorem suits_num (h k : Nat) (hk : (ef k).2.1 = 1) : suitsB (List.replicate h false) k = true := by
  unfold suitsB
  rw [List.all_eq_true]
  intro n _
  rw [blw_rep]
  unfold wantK
  rw [hk]
  rfl
theorem sk_look (n m i : Nat) {g : Nat → Option Sd} (hg : g i = some (skS n m i)) : lookN (skP n m) g i =
    if i < n then (if i < 256 then 0 else 93) else if i < n + m then (if 2 ≤ n - (i - n) ∧ n - (i - n) < 258 then 0 else 93) else if i = n + m then (if 1 ≤ skH n m i then 0 else 93) else (if skH n m i = 0 then 0 else 93) := by
  rw [look_eq hg, sk_at]
  unfold skI
  split
  · rename_i h
    have e : skH n m i = i := by unfold skH; rw [if_pos (by omega)]
    have e1 : goB (skP n m) g i (skS n m i) = true := by unfold goB; rw [sk_at]; unfold skI; simp [h]
    rw [e1]
    unfold skS
    rw [e]
    have e2 : suitsB (List.replicate i false) 1 = true := rfl
    simp only [show (1 : Int).toNat = 1 from rfl, e2]
    have e3 : fitsB (List.replicate i false) 1 = decide (i < 256) := by unfold fitsB; simp [show ef 1 = (0, 0, 1) from rfl]
    rw [e3]
    by_cases h2 : i < 256 <;> simp [h2, holdB, bringB]
  · split
    · rename_i h0 h
      have e : skH n m i = n - (i - n) := by
        unfold skH
        split
        · omega
        · rw [if_pos (by omega)]
      have e1 : goB (skP n m) g i (skS n m i) = true := by unfold goB; rw [sk_at]; unfold skI; simp [h, h0]
      rw [e1]
      unfold skS
      rw [e]
      generalize n - (i - n) = h1
      have e2 : suitsB (List.replicate h1 false) 17 = true := suits_num _ _ rfl
      simp only [show (17 : Int).toNat = 17 from rfl, e2]
      have e3 : fitsB (List.replicate h1 false) 17 = decide (2 ≤ h1 ∧ h1 < 258) := by
        unfold fitsB
        simp only [show ef 17 = (2, 1, 1) from rfl, List.length_replicate]
        by_cases h2 : 2 ≤ h1
        · by_cases h3 : h1 < 258
          · have h4 : h1 - 2 < 256 := by omega
            simp [h2, h3, h4]
          · have h4 : ¬ (h1 - 2 < 256) := by omega
            simp [h3, h4]
        · simp [h2]
      rw [e3]
      by_cases h2 : 2 ≤ h1 ∧ h1 < 258
      · rw [if_pos h2]; simp [h2, holdB, bringB]
      · rw [if_neg h2]; simp [h2, holdB]
    · split
      · rename_i h0 h1 h
        have e1 : goB (skP n m) g i (skS n m i) = true := by unfold goB; rw [sk_at]; unfold skI; rw [if_neg h0, if_neg h1, if_pos h]; simp
        rw [e1]
        unfold skS
        generalize skH n m i = h2
        have e2 : suitsB (List.replicate h2 false) 28 = true := suits_num _ _ rfl
        simp only [show (28 : Int).toNat = 28 from rfl, e2]
        have e3 : fitsB (List.replicate h2 false) 28 = decide (1 ≤ h2) := by unfold fitsB; simp [show ef 28 = (1, 1, 0) from rfl]
        rw [e3]
        by_cases h3 : 1 ≤ h2
        · rw [if_pos h3]; simp [h3, holdB, bringB]
        · rw [if_neg h3]; simp [h3, holdB]
      · rename_i h0 h1 h
        have e1 : goB (skP n m) g i (skS n m i) = true := by unfold goB; rw [sk_at]; unfold skI; simp [h0, h1, h, skS]
        rw [e1]
        unfold skS
        generalize skH n m i = h2
        have e2 : suitsB (List.replicate h2 false) 0 = true := rfl
        simp only [show (0 : Int).toNat = 0 from rfl, e2]
        have e3 : fitsB (List.replicate h2 false) 0 = decide (h2 = 0) := by
          unfold fitsB
          simp only [show ef 0 = (0, 0, 0) from rfl, List.length_replicate]
          by_cases h3 : h2 = 0 <;> simp [h3]
          omega
        rw [e3]
        by_cases h3 : h2 = 0
        · rw [if_pos h3]; simp [h3, holdB, bringB]
        · rw [if_neg h3]; simp [h3, holdB]
/-- the places up to M may be come to -/
theorem sk_flow (n m M : Nat) (hn : 0 < n) (hM : M ≤ n + m + 2) (hl : ∀ i, i < M → (i < n → i < 256) ∧ (n ≤ i → i < n + m → i + 2 ≤ 2 * n ∧ n - (i - n) < 258) ∧ (i = n + m → 1 ≤ skH n m i) ∧ (i = n + m + 1 → skH n m i = 0)) : Flow (skP n m) (skS n m) M := by
  have hlk : ∀ i, i < M → ∀ g : Nat → Option Sd, (∀ j, j ≤ i → g j = some (skS n m j)) → lookN (skP n m) g i = 0 := fun i hi g hg => by
    rw [sk_look n m i (hg i (Nat.le_refl _))]
    obtain ⟨c1, c2, c3, c4⟩ := hl i hi
    split
    · rw [if_pos (c1 (by omega))]
    · split
      · rw [if_pos ⟨by have := c2 (by omega) (by omega); omega, (c2 (by omega) (by omega)).2⟩]
      · split
        · rw [if_pos (c3 (by omega))]
        · rw [if_pos (c4 (by omega))]
  have hw : ∀ i, i < M → ∀ g : Nat → Option Sd, waysL (skP n m) g i (skS n m i) = if i = n + m + 1 then [] else [((i : Int) + 1, skS n m (i + 1))] := fun i hi g => by
    obtain ⟨c1, c2, c3, c4⟩ := hl i hi
    unfold waysL
    dsimp only
    rw [sk_at]
    unfold skI
    have hr : i ≠ n + m + 1 → (if i = n + m + 1 then [] else [((i : Int) + 1, skS n m (i + 1))]) = [((i : Int) + 1, skS n m (i + 1))] := fun h => if_neg h
    by_cases h1 : i < n
    · rw [if_pos h1, hr (by omega)]
      have e : skS n m (i + 1) = behS (skP n m) (skS n m i) ⟨1, (i : Int), 0, 0, 0⟩ := by
        unfold skS behS behT handBeh
        simp only [show (1 : Int).toNat = 1 from rfl, show ef 1 = (0, 0, 1) from rfl, List.length_replicate, Nat.sub_zero]
        rw [show skH n m (i + 1) = skH n m i + 1 by unfold skH; rw [if_pos (by omega), if_pos (by omega)]]
        simp [List.replicate_succ']
      rw [e]
      simp
    · by_cases h2 : i < n + m
      · rw [if_neg h1, if_pos h2, hr (by omega)]
        have h3 := c2 (by omega) h2
        have e : skS n m (i + 1) = behS (skP n m) (skS n m i) ⟨17, 0, 0, 0, 0⟩ := by
          have a1 : skH n m (i + 1) = n - (i + 1 - n) := by unfold skH; rw [if_neg (by omega), if_pos (by omega)]
          have a2 : skH n m i = n - (i - n) := by
            unfold skH
            split
            · omega
            · rw [if_pos (by omega)]
          obtain ⟨b, hb⟩ : ∃ b, n - (i - n) = b + 2 := ⟨n - (i - n) - 2, by omega⟩
          unfold skS behS behT handBeh
          simp only [show (17 : Int).toNat = 17 from rfl, show ef 17 = (2, 1, 1) from rfl, List.length_replicate]
          rw [a1, a2, hb, show n - (i + 1 - n) = b + 1 by omega]
          simp [List.replicate_succ']
        rw [e]
        simp
      · by_cases h3 : i = n + m
        · rw [if_neg h1, if_neg h2, if_pos h3, hr (by omega)]
          have h4 := c3 h3
          have e : skS n m (i + 1) = behS (skP n m) (skS n m i) ⟨28, 0, 0, 0, 0⟩ := by
            have a1 : skH n m (i + 1) = n - m - 1 := by unfold skH; rw [if_neg (by omega), if_neg (by omega)]
            have a2 : skH n m i = n - m := by
              unfold skH
              split
              · omega
              · rw [if_pos (by omega)]; omega
            rw [a2] at h4
            unfold skS behS behT handBeh
            simp only [show (28 : Int).toNat = 28 from rfl, show ef 28 = (1, 1, 0) from rfl, List.length_replicate]
            rw [a1, a2]
            simp
          rw [e]
          simp
        · rw [if_neg h1, if_neg h2, if_neg h3]
          rw [show (if i = n + m + 1 then [] else [((i : Int) + 1, skS n m (i + 1))]) = [] from if_pos (by omega)]
          simp
  refine ⟨by rw [sk_len]; exact hM, hlk, fun i hi g hg x hx => ?_, fun j s hs => ?_, fun i hi hlt => ?_⟩
  · rw [hw i hi g] at hx
    split at hx
    · cases hx
    · rw [List.mem_singleton] at hx
      exact ⟨i + 1, by rw [sk_len]; omega, by rw [hx]; simp⟩
  · rw [sk_got] at hs
    unfold upd at hs
    split at hs
    · rename_i e
      subst e
      have e0 : skH n m 0 = 0 := by unfold skH; rw [if_pos (Nat.zero_le _)]
      rw [← Option.some.inj hs]
      unfold skS freshS
      rw [e0]
      rfl
    · cases hs
  · rw [sk_len] at hlt
    cases i with
    | zero => exact .inl ⟨freshS, by rw [sk_got]; rfl⟩
    | succ i =>
      refine .inr ⟨i, by omega, fun g hg => ?_⟩
      rw [hw i (by omega) g, if_neg (by omega)]
      simp
theorem sk_chk (n m : Nat) (h : n + m ≤ 10000) : chk (skP n m) = 0 := by
  unfold chk
  have e1 : tabF (skP n m) = true := rfl
  have e2 : plcF (skP n m) = true := by
    have hl := sk_len n m
    unfold plcF plcI
    rw [hl]
    show (decide (1 = 1) && (decide (n + m + 2 ≤ 262144) && ([(-1 : Int)].all (fun k => decide (-1 ≤ k) && decide (k < ((n + m + 2 : Nat) : Int))) && (decide ((-1 : Int) ≤ 0) && decide ((0 : Int) < ((n + m + 2 : Nat) : Int)))))) = true
    simp
    omega
  rw [e1, e2]
  refine first_zero _ (fun x hx => ?_)
  unfold skP at hx
  obtain ⟨k, hk, rfl⟩ := List.mem_map.1 hx
  rw [List.mem_range] at hk
  unfold skI
  split
  · unfold insF inK
    dsimp only
    simp only [show kd4 (1 : Int).toNat = (5, 0, 0, 0) from rfl, loK, hiK]
    have a1 : (-1073741824 : Int) ≤ (k : Int) := by omega
    have a2 : (k : Int) ≤ 1073741824 := by omega
    simp [a1, a2]
  · split
    · rfl
    · split <;> rfl
theorem sk_cost (n m : Nat) (h : n + m ≤ 10000) : costF (skP n m) (evs (skP n m)) = none := by
  have hs := fuel_small (p := skP n m) (fun k => by rw [sk_at]; unfold skI; (repeat' split) <;> simp) (skP n m).cd.length (by rw [sk_len]; omega) 0
  show (if 1152921504606846976 < cst (skP n m) (-1) then some (-1) else if 1152921504606846976 < cst (skP n m) 0 then some 0 else none) = none
  have h1 : cst (skP n m) (-1) = 0 := rfl
  have h2 : cst (skP n m) 0 = fuR (skP n m) (skP n m).cd.length 0 := rfl
  rw [sk_len] at hs
  rw [h1, h2, sk_len, if_neg (by omega), if_neg (by omega)]
/-- what is told of the row -/
theorem sk_ok (n m : Nat) (h : n = m + 1) (hb : n ≤ 256) : ∃ g, judge (skP n m) = .ok g ∧ ∀ j, j < n + m + 2 → g j = some (skS n m j) := by
  have hF : Flow (skP n m) (skS n m) (skP n m).cd.length := by
    rw [sk_len]
    refine sk_flow n m _ (by omega) (Nat.le_refl _) (fun i hi => ⟨fun _ => by omega, fun _ _ => by omega, fun e => ?_, fun e => ?_⟩)
    · unfold skH
      split
      · omega
      · rw [if_pos (by omega)]; omega
    · unfold skH
      rw [if_neg (by omega), if_neg (by omega)]
      omega
  obtain ⟨g, h1, h2⟩ := flow_all hF
  refine ⟨g, ?_, fun j hj => h2 j (by rw [sk_len]; exact hj)⟩
  unfold judge
  rw [if_pos (sk_chk n m (by omega)), h1]
  dsimp only
  rw [sk_cost n m (by omega)]
theorem sk_err (n m M : Nat) (hs : n + m ≤ 10000) (hF : Flow (skP n m) (skS n m) M) (hM : M < n + m + 2) (hl : ∀ g : Nat → Option Sd, g M = some (skS n m M) → lookN (skP n m) g M = 93) : judge (skP n m) = .error (93, (M : Int)) := by
  have h1 := flow_err (e := 93) hF (by rw [sk_len]; exact hM) (by omega) (fun g hg => hl g (hg M (Nat.le_refl _)))
  unfold judge
  rw [if_pos (sk_chk n m hs), h1]
theorem sk_big (n m : Nat) (h : 256 < n) (hs : n + m ≤ 10000) : judge (skP n m) = .error (93, 256) := by
  refine sk_err n m 256 hs (sk_flow n m 256 (by omega) (by omega) (fun i hi => ⟨fun _ => hi, fun _ _ => by omega, fun e => by omega, fun e => by omega⟩)) (by omega) (fun g hg => ?_)
  rw [sk_look n m 256 hg, if_pos h, if_neg (by omega)]
theorem sk_few (n m : Nat) (h : n ≤ m) (hn : 0 < n) (hb : n ≤ 256) (hs : n + m ≤ 10000) : judge (skP n m) = .error (93, ((n + n - 1 : Nat) : Int)) := by
  refine sk_err n m (n + n - 1) hs (sk_flow n m _ hn (by omega) (fun i hi => ⟨fun _ => by omega, fun _ _ => by omega, fun e => by omega, fun e => by omega⟩)) (by omega) (fun g hg => ?_)
  rw [sk_look n m _ hg, if_neg (by omega), if_pos (by omega), if_neg (by omega)]
theorem sk_many (n m : Nat) (h : m + 1 < n) (hb : n ≤ 256) (hs : n + m ≤ 10000) : judge (skP n m) = .error (93, ((n + m + 1 : Nat) : Int)) := by
  refine sk_err n m (n + m + 1) hs (sk_flow n m _ (by omega) (by omega) (fun i hi => ⟨fun _ => by omega, fun _ _ => by omega, fun e => ?_, fun e => by omega⟩)) (by omega) (fun g hg => ?_)
  · unfold skH
    split
    · omega
    · rw [if_pos (by omega)]; omega
  · rw [sk_look n m _ hg, if_neg (by omega), if_neg (by omega), if_neg (by omega), if_neg]
    unfold skH
    rw [if_neg (by omega), if_neg (by omega)]
    omega
end Go.Proofs.YtnededkmjmbioaaDoor.Vf
