import Derived.Test.YtnededkmjmbioaaDoorVfStk
namespace Go.Proofs.YtnededkmjmbioaaDoor.Vf

/-- loops in one another around a row -/
def ntI (rs : List Int) (long k : Nat) : Ins :=
  if k < 2 * rs.length then (if k % 2 = 0 then ⟨24, rs.getD (k / 2) 0, 0, 0, 0⟩ else ⟨25, ((3 * rs.length + long - k / 2 : Nat) : Int), 0, 0, 0⟩)
  else if k < 2 * rs.length + long then ⟨33, 0, 0, 0, 0⟩
  else if k < 3 * rs.length + long then ⟨27, ((2 * (rs.length - 1 - (k - 2 * rs.length - long)) + 1 : Nat) : Int), 0, 0, 0⟩
  else if k = 3 * rs.length + long then ⟨31, 0, 0, 0, 0⟩ else ⟨0, 0, 0, 0, 0⟩
def ntP (rs : List Int) (long : Nat) : Pg := ⟨[false], [], [], [-1], 0, (List.range (3 * rs.length + long + 2)).map (ntI rs long)⟩
theorem nt_len (rs : List Int) (long : Nat) : (ntP rs long).cd.length = 3 * rs.length + long + 2 := by unfold ntP; simp
theorem nt_at (rs : List Int) (long k : Nat) : (ntP rs long).at k = ntI rs long k := by
  unfold Pg.at
  by_cases h : k < 3 * rs.length + long + 2
  · unfold ntP
    dsimp only
    rw [List.getD_eq_getElem?_getD, List.getElem?_map, List.getElem?_range h]
    rfl
  · have h' : (ntP rs long).cd.length ≤ k := by rw [nt_len]; omega
    rw [List.getD_eq_getElem?_getD, List.getElem?_eq_none h']
    unfold ntI
    rw [if_neg (by omega), if_neg (by omega), if_neg (by omega), if_neg (by omega)]
    rfl
theorem nt_got (rs : List Int) (long : Nat) : got0 (ntP rs long) = upd (fun _ => none) 0 freshS := rfl
theorem nt_loop (rs : List Int) (long : Nat) {i : Nat} (h : i < rs.length) : ntI rs long (2 * i) = ⟨24, rs.getD i 0, 0, 0, 0⟩ := by
  unfold ntI
  rw [if_pos (by omega), if_pos (by omega), show 2 * i / 2 = i by omega]
theorem nt_turn (rs : List Int) (long : Nat) {i : Nat} (h : i < rs.length) : ntI rs long (2 * i + 1) = ⟨25, ((3 * rs.length + long - i : Nat) : Int), 0, 0, 0⟩ := by
  unfold ntI
  rw [if_pos (by omega), if_neg (by omega), show (2 * i + 1) / 2 = i by omega]
theorem nt_row (rs : List Int) (long : Nat) {k : Nat} (h1 : 2 * rs.length ≤ k) (h2 : k < 2 * rs.length + long) : ntI rs long k = ⟨33, 0, 0, 0, 0⟩ := by
  unfold ntI
  rw [if_neg (by omega), if_pos h2]
theorem nt_again (rs : List Int) (long : Nat) {t : Nat} (h : t < rs.length) : ntI rs long (2 * rs.length + long + t) = ⟨27, ((2 * (rs.length - 1 - t) + 1 : Nat) : Int), 0, 0, 0⟩ := by
  unfold ntI
  rw [if_neg (by omega), if_neg (by omega), if_pos (by omega), show 2 * rs.length + long + t - 2 * rs.length - long = t by omega]
theorem nt_ins (rs : List Int) (long : Nat) : ntI rs long (3 * rs.length + long) = ⟨31, 0, 0, 0, 0⟩ := by
  unfold ntI
  rw [if_neg (by omega), if_neg (by omega), if_neg (by omega), if_pos rfl]
theorem nt_end (rs : List Int) (long : Nat) : ntI rs long (3 * rs.length + long + 1) = ⟨0, 0, 0, 0, 0⟩ := by
  unfold ntI
  rw [if_neg (by omega), if_neg (by omega), if_neg (by omega), if_neg (by omega)]
/-- which loops are open at a place -/
def ntL (n long k : Nat) : Nat := if k < 2 * n then k / 2 else n - (k - (2 * n + long))
def ntS (n long k : Nat) : Sd := ⟨[], 0, 2 * (ntL n long k : Int) - 1⟩
/-- the six kinds of places -/
theorem nt_cases (n long k : Nat) (h : k < 3 * n + long + 2) (P : Nat → Prop) (h1 : ∀ i, i < n → P (2 * i)) (h2 : ∀ i, i < n → P (2 * i + 1)) (h3 : ∀ j, 2 * n ≤ j → j < 2 * n + long → P j) (h4 : ∀ t, t < n → P (2 * n + long + t)) (h5 : P (3 * n + long)) (h6 : P (3 * n + long + 1)) : P k := by
  by_cases a : k < 2 * n
  · rcases Nat.mod_two_eq_zero_or_one k with e | e
    · have := h1 (k / 2) (by omega)
      rwa [show 2 * (k / 2) = k by omega] at this
    · have := h2 (k / 2) (by omega)
      rwa [show 2 * (k / 2) + 1 = k by omega] at this
  · by_cases b : k < 2 * n + long
    · exact h3 k (by omega) b
    · by_cases c : k < 3 * n + long
      · have := h4 (k - (2 * n + long)) (by omega)
        rwa [show 2 * n + long + (k - (2 * n + long)) = k by omega] at this
      · by_cases d : k = 3 * n + long
        · rw [d]; exact h5
        · rw [show k = 3 * n + long + 1 by omega]; exact h6
theorem ntL_loop {n long i : Nat} (h : i < n) : ntL n long (2 * i) = i := by unfold ntL; rw [if_pos (by omega)]; omega
theorem ntL_turn {n long i : Nat} (h : i < n) : ntL n long (2 * i + 1) = i := by unfold ntL; rw [if_pos (by omega)]; omega
theorem ntL_next {n long i : Nat} (h : i < n) : ntL n long (2 * i + 2) = i + 1 := by unfold ntL; split <;> omega
theorem ntL_row {n long k : Nat} (h1 : 2 * n ≤ k) (h2 : k ≤ 2 * n + long) : ntL n long k = n := by unfold ntL; rw [if_neg (by omega)]; omega
theorem ntL_again {n long t : Nat} : ntL n long (2 * n + long + t) = n - t := by unfold ntL; rw [if_neg (by omega)]; omega
theorem ntL_far {n long i : Nat} (h : i ≤ n) : ntL n long (3 * n + long - i) = i := by unfold ntL; rw [if_neg (by omega)]; omega
theorem ntL_end {n long : Nat} : ntL n long (3 * n + long + 1) = 0 := by unfold ntL; rw [if_neg (by omega)]; omega
theorem nt_op (rs : List Int) (long : Nat) {k : Nat} (h1 : 2 * rs.length ≤ k) : (ntI rs long k).op ≠ 25 ∧ (ntI rs long k).op ≠ 24 := by
  unfold ntI
  rw [if_neg (by omega)]
  (repeat' split) <;> simp
/-- the ways -/
theorem nt_ways (rs : List Int) (long k : Nat) (hk : k < 3 * rs.length + long + 2) (g : Nat → Option Sd) :
    (∀ i, k = 2 * i → i < rs.length → waysL (ntP rs long) g k (ntS rs.length long k) = [(((2 * i + 1 : Nat) : Int), ntS rs.length long (2 * i + 1))]) ∧
    (∀ i, k = 2 * i + 1 → i < rs.length → waysL (ntP rs long) g k (ntS rs.length long k) = [(((2 * i + 2 : Nat) : Int), ntS rs.length long (2 * i + 2)), (((3 * rs.length + long - i : Nat) : Int), ntS rs.length long (3 * rs.length + long - i))]) ∧
    (2 * rs.length ≤ k → k < 2 * rs.length + long → waysL (ntP rs long) g k (ntS rs.length long k) = [(((k + 1 : Nat) : Int), ntS rs.length long (k + 1))]) ∧
    (2 * rs.length + long ≤ k → k < 3 * rs.length + long → waysL (ntP rs long) g k (ntS rs.length long k) = []) ∧
    (k = 3 * rs.length + long → waysL (ntP rs long) g k (ntS rs.length long k) = [(((k + 1 : Nat) : Int), ntS rs.length long (k + 1))]) ∧
    (k = 3 * rs.length + long + 1 → waysL (ntP rs long) g k (ntS rs.length long k) = []) := by
  have hbeh : ∀ op : Nat, (ef op).2.2 = 0 → behT [] op = [] := fun op h => by unfold behT; rw [h]; simp
  refine ⟨fun i e h => ?_, fun i e h => ?_, fun a b => ?_, fun a b => ?_, fun e => ?_, fun e => ?_⟩
  · subst e
    unfold waysL
    dsimp only
    rw [nt_at, nt_loop rs long h]
    have e2 : behS (ntP rs long) (ntS rs.length long (2 * i)) ⟨24, rs.getD i 0, 0, 0, 0⟩ = ntS rs.length long (2 * i + 1) := by
      unfold behS ntS handBeh
      simp only [show (24 : Int).toNat = 24 from rfl]
      rw [hbeh 24 rfl, ntL_loop h, ntL_turn h]
      simp
    rw [e2]
    simp
  · subst e
    unfold waysL
    dsimp only
    rw [nt_at, nt_turn rs long h]
    have e2 : behS (ntP rs long) (ntS rs.length long (2 * i + 1)) ⟨25, ((3 * rs.length + long - i : Nat) : Int), 0, 0, 0⟩ = ntS rs.length long (2 * i + 1) := by
      unfold behS ntS handBeh
      simp only [show (25 : Int).toNat = 25 from rfl]
      rw [hbeh 25 rfl]
      simp
    rw [e2]
    have e3 : ntS rs.length long (2 * i + 2) = { ntS rs.length long (2 * i + 1) with turn := ((2 * i + 1 : Nat) : Int) } := by
      unfold ntS
      rw [ntL_next h]
      simp
      omega
    have e4 : ntS rs.length long (3 * rs.length + long - i) = ntS rs.length long (2 * i + 1) := by
      unfold ntS
      rw [ntL_far (by omega), ntL_turn h]
    rw [e3, e4]
    simp
    omega
  · unfold waysL
    dsimp only
    rw [nt_at, nt_row rs long a b]
    have e2 : behS (ntP rs long) (ntS rs.length long k) ⟨33, 0, 0, 0, 0⟩ = ntS rs.length long (k + 1) := by
      unfold behS ntS handBeh
      simp only [show (33 : Int).toNat = 33 from rfl]
      rw [hbeh 33 rfl, ntL_row a (by omega), ntL_row (by omega) (by omega)]
      simp
    rw [e2]
    simp
  · obtain ⟨t, rfl⟩ : ∃ t, k = 2 * rs.length + long + t := ⟨k - (2 * rs.length + long), by omega⟩
    unfold waysL
    dsimp only
    rw [nt_at, nt_again rs long (by omega)]
    simp
  · subst e
    unfold waysL
    dsimp only
    rw [nt_at, nt_ins]
    have e2 : behS (ntP rs long) (ntS rs.length long (3 * rs.length + long)) ⟨31, 0, 0, 0, 0⟩ = ntS rs.length long (3 * rs.length + long + 1) := by
      unfold behS ntS handBeh
      simp only [show (31 : Int).toNat = 31 from rfl]
      have := ntL_far (n := rs.length) (long := long) (i := 0) (by omega)
      rw [Nat.sub_zero] at this
      rw [hbeh 31 rfl, this, ntL_end]
      simp
    rw [e2]
    simp
  · subst e
    unfold waysL
    dsimp only
    rw [nt_at, nt_end]
    simp
theorem nt_goTo (rs : List Int) (long : Nat) {i : Nat} (h : i < rs.length) : goTo (ntP rs long) (2 * i + 1) ((3 * rs.length + long - i : Nat) : Int) = true := by
  unfold goTo isTurn
  rw [nt_at, Int.toNat_natCast]
  have := (nt_op rs long (k := 3 * rs.length + long - i) (by omega)).1
  simp [this]
  omega
theorem nt_look (rs : List Int) (long k : Nat) (hk : k < 3 * rs.length + long + 2) (g : Nat → Option Sd) (hg : ∀ j, j ≤ k → g j = some (ntS rs.length long j)) : lookN (ntP rs long) g k = 0 := by
  rw [look_eq (hg k (Nat.le_refl _))]
  have key : ∀ x : Ins, (ntP rs long).at k = x → holdB (ntP rs long) 0 x = true → fitsB [] x.op.toNat = true → suitsB [] x.op.toNat = true → bringB (ntP rs long) x = true → goB (ntP rs long) g k (ntS rs.length long k) = true →
      (if !holdB (ntP rs long) (ntS rs.length long k).hand ((ntP rs long).at k) then 96 else if !fitsB (ntS rs.length long k).ty ((ntP rs long).at k).op.toNat then 93 else if !suitsB (ntS rs.length long k).ty ((ntP rs long).at k).op.toNat then 94 else if !bringB (ntP rs long) ((ntP rs long).at k) then 92 else if !goB (ntP rs long) g k (ntS rs.length long k) then 95 else 0) = 0 := fun x h0 h1 h2 h3 h4 h5 => by
    rw [h0, h5]
    show (if !holdB (ntP rs long) 0 x then 96 else if !fitsB [] x.op.toNat then 93 else if !suitsB [] x.op.toNat then 94 else if !bringB (ntP rs long) x then 92 else if !true then 95 else 0) = 0
    rw [h1, h2, h3, h4]
    rfl
  revert hg key
  refine nt_cases rs.length long k hk (fun k => (∀ j, j ≤ k → g j = some (ntS rs.length long j)) → (∀ x : Ins, (ntP rs long).at k = x → holdB (ntP rs long) 0 x = true → fitsB [] x.op.toNat = true → suitsB [] x.op.toNat = true → bringB (ntP rs long) x = true → goB (ntP rs long) g k (ntS rs.length long k) = true → _) → _) (fun i hi hg key => ?_) (fun i hi hg key => ?_) (fun j h1 h2 hg key => ?_) (fun t ht hg key => ?_) (fun hg key => ?_) (fun hg key => ?_)
  · refine key _ ((nt_at _ _ _).trans (nt_loop rs long hi)) (by simp [holdB]) rfl rfl (by simp [bringB]) ?_
    unfold goB
    rw [nt_at, nt_loop rs long hi]
    simp only [isTurn]
    rw [show (((2 * i : Nat) : Int) + 1).toNat = 2 * i + 1 by omega, nt_at, nt_turn rs long hi, nt_len]
    simp
    omega
  · refine key _ ((nt_at _ _ _).trans (nt_turn rs long hi)) (by simp [holdB]) rfl rfl (by simp [bringB]) ?_
    unfold goB
    dsimp only
    rw [nt_at, nt_turn rs long hi]
    simp only [nt_goTo rs long hi]
    rw [show 2 * i + 1 - 1 = 2 * i by omega, nt_at, nt_loop rs long hi]
    have hc : (evs (ntP rs long)).contains (((2 * i + 1 : Nat) : Int)) = false := by
      show [(-1 : Int), 0].contains (((2 * i + 1 : Nat) : Int)) = false
      simp
      omega
    rw [hc]
    simp
  · refine key _ ((nt_at _ _ _).trans (nt_row rs long h1 h2)) (by simp [holdB]) rfl rfl (by simp [bringB]) ?_
    unfold goB
    rw [nt_at, nt_row rs long h1 h2]
    simp
  · refine key _ ((nt_at _ _ _).trans (nt_again rs long ht)) (by simp [holdB]) rfl rfl (by simp [bringB]) ?_
    have e1 : (ntS rs.length long (2 * rs.length + long + t)).turn = ((2 * (rs.length - 1 - t) + 1 : Nat) : Int) := by
      unfold ntS
      rw [ntL_again]
      dsimp only
      omega
    have e2 : tyAt g (ntS rs.length long (2 * rs.length + long + t)).turn = [] := by
      unfold tyAt
      rw [e1, Int.toNat_natCast, hg _ (by omega)]
      rfl
    unfold goB
    dsimp only
    rw [nt_at, nt_again rs long ht, e2, e1]
    simp only [show (ntS rs.length long (2 * rs.length + long + t)).ty = [] from rfl]
    simp
    omega
  · refine key _ ((nt_at _ _ _).trans (nt_ins rs long)) (by simp [holdB]) rfl rfl (by simp [bringB]) ?_
    unfold goB
    rw [nt_at, nt_ins]
    simp
  · refine key _ ((nt_at _ _ _).trans (nt_end rs long)) (by simp [holdB]) rfl rfl (by simp [bringB]) ?_
    have e1 : (ntS rs.length long (3 * rs.length + long + 1)).turn = -1 := by
      unfold ntS
      rw [ntL_end]
      rfl
    unfold goB
    dsimp only
    rw [nt_at, nt_end, e1]
    simp
theorem nt_flow (rs : List Int) (long : Nat) : Flow (ntP rs long) (ntS rs.length long) (ntP rs long).cd.length := by
  rw [nt_len]
  refine ⟨by rw [nt_len]; exact Nat.le_refl _, fun i hi g hg => nt_look rs long i hi g hg, fun i hi g hg x hx => ?_, fun j s hs => ?_, fun i _ hlt => ?_⟩
  · rw [nt_len]
    revert hx
    refine nt_cases rs.length long i hi (fun i => x ∈ waysL (ntP rs long) g i (ntS rs.length long i) → ∃ k, k < 3 * rs.length + long + 2 ∧ x = ((k : Int), ntS rs.length long k)) (fun i hi hx => ?_) (fun i hi hx => ?_) (fun j h1 h2 hx => ?_) (fun t ht hx => ?_) (fun hx => ?_) (fun hx => ?_)
    · rw [(nt_ways rs long (2 * i) (by omega) g).1 i rfl hi, List.mem_singleton] at hx
      exact ⟨_, by omega, hx⟩
    · rw [(nt_ways rs long (2 * i + 1) (by omega) g).2.1 i rfl hi] at hx
      rcases List.mem_cons.1 hx with hx | hx
      · exact ⟨_, by omega, hx⟩
      · rw [List.mem_singleton] at hx
        exact ⟨_, by omega, hx⟩
    · rw [(nt_ways rs long j (by omega) g).2.2.1 h1 h2, List.mem_singleton] at hx
      exact ⟨_, by omega, hx⟩
    · rw [(nt_ways rs long (2 * rs.length + long + t) (by omega) g).2.2.2.1 (by omega) (by omega)] at hx
      cases hx
    · rw [(nt_ways rs long (3 * rs.length + long) (by omega) g).2.2.2.2.1 rfl, List.mem_singleton] at hx
      exact ⟨_, by omega, hx⟩
    · rw [(nt_ways rs long (3 * rs.length + long + 1) (by omega) g).2.2.2.2.2 rfl] at hx
      cases hx
  · rw [nt_got] at hs
    unfold upd at hs
    split at hs
    · rename_i e
      subst e
      have e0 : ntL rs.length long 0 = 0 := by unfold ntL; split <;> omega
      rw [← Option.some.inj hs]
      unfold ntS freshS
      rw [e0]
      rfl
    · cases hs
  · rw [nt_len] at hlt
    by_cases h0 : i = 0
    · subst h0; exact .inl ⟨freshS, by rw [nt_got]; rfl⟩
    · refine .inr ?_
      by_cases ha : 2 * rs.length + long < i ∧ i ≤ 3 * rs.length + long
      · obtain ⟨q, hq, hqi⟩ : ∃ q, q < rs.length ∧ i = 3 * rs.length + long - q := ⟨3 * rs.length + long - i, by omega, by omega⟩
        refine ⟨2 * q + 1, by omega, fun g hg => ?_⟩
        obtain ⟨w1, w2, w3, w4, w5, w6⟩ := nt_ways rs long (2 * q + 1) (by omega) g
        rw [w2 q rfl hq, hqi]
        simp
      · refine ⟨i - 1, by omega, fun g hg => ?_⟩
        obtain ⟨w1, w2, w3, w4, w5, w6⟩ := nt_ways rs long (i - 1) (by omega) g
        by_cases hb : i - 1 < 2 * rs.length
        · rcases Nat.mod_two_eq_zero_or_one (i - 1) with e | e
          · rw [w1 ((i - 1) / 2) (by omega) (by omega), show 2 * ((i - 1) / 2) + 1 = i by omega]
            simp
          · rw [w2 ((i - 1) / 2) (by omega) (by omega), show 2 * ((i - 1) / 2) + 2 = i by omega]
            simp
        · by_cases hc : i - 1 < 2 * rs.length + long
          · rw [w3 (by omega) hc, show i - 1 + 1 = i by omega]
            simp
          · rw [w5 (by omega), show i - 1 + 1 = i by omega]
            simp

/-- a place's fuel out of those behind it -/
theorem fuR_keep {p : Pg} (j k : Nat) (h : k ≠ p.cd.length - 1 - j) : fuR p (j + 1) k = fuR p j k := by
  show (if k = p.cd.length - 1 - j then _ else fuR p j k) = _
  rw [if_neg h]
theorem fuR_late {p : Pg} {k : Nat} (hk : k < p.cd.length) (d : Nat) (hd : p.cd.length - k + d ≤ p.cd.length) : fuR p (p.cd.length - k + d) k = fuR p (p.cd.length - k) k := by
  induction d with
  | zero => rfl
  | succ d ih =>
    rw [show p.cd.length - k + (d + 1) = (p.cd.length - k + d) + 1 by omega, fuR_keep _ _ (by omega)]
    exact ih (by omega)
theorem fuel_rec {p : Pg} {i : Nat} (hi : i < p.cd.length) (hf : ∀ f f' : Nat → Int, (∀ k, i < k → k < p.cd.length → f k = f' k) → fuB p f i = fuB p f' i) : fuel p i = sm 1 (fuB p (fuel p) i) := by
  have e1 : fuel p i = fuR p (p.cd.length - i) i := by
    have := fuR_late hi i (by omega)
    rw [show p.cd.length - i + i = p.cd.length by omega] at this
    exact this
  obtain ⟨j, hj⟩ : ∃ j, p.cd.length - i = j + 1 := ⟨p.cd.length - i - 1, by omega⟩
  have e2 : fuR p (j + 1) i = sm 1 (fuB p (fuR p j) i) := by
    show (if i = p.cd.length - 1 - j then sm 1 (fuB p (fuR p j) (p.cd.length - 1 - j)) else fuR p j i) = _
    rw [show p.cd.length - 1 - j = i by omega, if_pos rfl]
  rw [e1, hj, e2]
  refine congrArg (sm 1) (hf _ _ (fun k h1 h2 => ?_))
  have a1 := fuR_late h2 (j - (p.cd.length - k)) (by omega)
  have a2 := fuR_late h2 k (by omega)
  rw [show p.cd.length - k + (j - (p.cd.length - k)) = j by omega] at a1
  rw [show p.cd.length - k + k = p.cd.length by omega] at a2
  rw [a1]
  exact a2.symm
theorem nt_far (rs : List Int) (long : Nat) (f f' : Nat → Int) (i : Nat) (hi : i < (ntP rs long).cd.length) (h : ∀ k, i < k → k < (ntP rs long).cd.length → f k = f' k) : fuB (ntP rs long) f i = fuB (ntP rs long) f' i := by
  rw [nt_len] at hi h
  revert h
  refine nt_cases rs.length long i hi (fun i => (∀ k, i < k → k < 3 * rs.length + long + 2 → f k = f' k) → fuB (ntP rs long) f i = fuB (ntP rs long) f' i) (fun i hi h => ?_) (fun i hi h => ?_) (fun j h1 h2 h => ?_) (fun t ht h => ?_) (fun h => ?_) (fun h => ?_)
  · unfold fuB
    dsimp only
    rw [nt_at, nt_at, nt_loop rs long hi, nt_turn rs long hi]
    simp only [Int.toNat_natCast]
    rw [h (2 * i + 2) (by omega) (by omega), h (3 * rs.length + long - i) (by omega) (by omega)]
    simp
  · unfold fuB
    dsimp only
    rw [nt_at, nt_turn rs long hi]
    rw [h (2 * i + 1 + 1) (by omega) (by omega)]
    simp
  · unfold fuB
    dsimp only
    rw [nt_at, nt_row rs long h1 h2, h (j + 1) (by omega) (by omega)]
    simp
  · unfold fuB
    dsimp only
    rw [nt_at, nt_again rs long ht]
    simp
  · unfold fuB
    dsimp only
    rw [nt_at, nt_ins, h (3 * rs.length + long + 1) (by omega) (by omega)]
    simp
  · unfold fuB
    dsimp only
    rw [nt_at, nt_end]
    simp
/-- the fuel of the loops from one on -/
def bodyL (long : Nat) : List Int → Int
  | [] => (long : Int) + 1
  | r :: l => sm (tm r (sm 1 (bodyL long l))) 3
theorem sm_bd {a b : Int} (ha : 0 ≤ a) (hb : 0 ≤ b) : 0 ≤ sm a b ∧ sm a b ≤ 4611686018427387904 := by unfold sm; split <;> omega
theorem tm_bd {a b : Int} (ha : 0 ≤ a) (hb : 0 ≤ b) : 0 ≤ tm a b ∧ tm a b ≤ 4611686018427387904 := by
  unfold tm
  split
  · omega
  · rename_i h
    refine ⟨Int.mul_nonneg ha hb, ?_⟩
    by_cases h0 : a = 0
    · rw [h0]; omega
    · have hp : 0 < a := by omega
      have h1 : b ≤ 4611686018427387904 / a := by
        have := h
        by_cases h2 : 4611686018427387904 / a < b
        · exact absurd ⟨hp, h2⟩ h
        · omega
      have h3 : a * b ≤ a * (4611686018427387904 / a) := Int.mul_le_mul_of_nonneg_left h1 ha
      have h4 : a * (4611686018427387904 / a) ≤ 4611686018427387904 := Int.mul_ediv_self_le (by omega)
      omega
theorem body_bd (long : Nat) (hl : long ≤ 1000) : ∀ rs : List Int, (∀ r ∈ rs, 0 ≤ r) → 1 ≤ bodyL long rs ∧ bodyL long rs ≤ 4611686018427387904
  | [], _ => by show 1 ≤ (long : Int) + 1 ∧ (long : Int) + 1 ≤ _; omega
  | r :: l, h => by
    have ih := body_bd long hl l (fun x hx => h x (by simp [hx]))
    have h1 := sm_bd (a := 1) (b := bodyL long l) (by omega) (by omega)
    have h2 := tm_bd (a := r) (b := sm 1 (bodyL long l)) (h r (by simp)) h1.1
    show 1 ≤ sm (tm r (sm 1 (bodyL long l))) 3 ∧ sm (tm r (sm 1 (bodyL long l))) 3 ≤ _
    generalize tm r (sm 1 (bodyL long l)) = X at h2
    unfold sm
    split <;> omega
theorem sm_assoc {x a : Int} : sm 1 (sm x a) = sm x (a + 1) := by
  unfold sm
  split <;> split <;> split <;> omega
theorem nt_fuel (rs : List Int) (long k : Nat) (hk : k < 3 * rs.length + long + 2) : fuel (ntP rs long) k = sm 1 (fuB (ntP rs long) (fuel (ntP rs long)) k) :=
  fuel_rec (by rw [nt_len]; exact hk) (fun f f' h => nt_far rs long f f' k (by rw [nt_len]; exact hk) h)
theorem nf_end (rs : List Int) (long : Nat) : fuel (ntP rs long) (3 * rs.length + long + 1) = 1 := by
  rw [nt_fuel rs long _ (by omega)]
  unfold fuB
  rw [nt_at, nt_end]
  rfl
theorem nf_ins (rs : List Int) (long : Nat) : fuel (ntP rs long) (3 * rs.length + long) = 2 := by
  rw [nt_fuel rs long _ (by omega)]
  unfold fuB
  rw [nt_at, nt_ins, nf_end]
  rfl
theorem nf_again (rs : List Int) (long t : Nat) (ht : t < rs.length) : fuel (ntP rs long) (2 * rs.length + long + t) = 1 := by
  rw [nt_fuel rs long _ (by omega)]
  unfold fuB
  rw [nt_at, nt_again rs long ht]
  rfl
theorem nf_row (rs : List Int) (long : Nat) (hl : long ≤ 1000) (t : Nat) (ht : t ≤ long) : fuel (ntP rs long) (2 * rs.length + long - t) = (t : Int) + (if rs.length = 0 then 2 else 1) := by
  induction t with
  | zero =>
    rw [Nat.sub_zero]
    split
    · rename_i h
      have := nf_ins rs long
      rw [h] at this ⊢
      rw [this]
      rfl
    · have := nf_again rs long 0 (by omega)
      rw [Nat.add_zero] at this
      rw [this]
      rfl
  | succ t ih =>
    have ih := ih (by omega)
    rw [nt_fuel rs long _ (by omega)]
    unfold fuB
    rw [nt_at, nt_row rs long (by omega) (by omega), show 2 * rs.length + long - (t + 1) + 1 = 2 * rs.length + long - t by omega, ih]
    simp only [show ((33 : Int) = 0) = False by simp, show ((33 : Int) = 27) = False by simp, show ((33 : Int) = 22) = False by simp, show ((33 : Int) = 23) = False by simp, show ((33 : Int) = 24) = False by simp, decide_false, Bool.or_self, Bool.false_eq_true, if_false]
    rw [sm_one (by split <;> omega)]
    split <;> omega
theorem nf_loop (rs : List Int) (long : Nat) (i : Nat) (h : i < rs.length) : fuel (ntP rs long) (2 * i) = sm 1 (sm (tm (rs.getD i 0) (sm 1 (fuel (ntP rs long) (2 * i + 2)))) (sm 1 (fuel (ntP rs long) (3 * rs.length + long - i)))) := by
  rw [nt_fuel rs long (2 * i) (by omega)]
  unfold fuB
  dsimp only
  rw [nt_at, nt_at, nt_loop rs long h, nt_turn rs long h]
  simp
theorem getD_mem {rs : List Int} {i : Nat} (h : i < rs.length) : rs.getD i 0 ∈ rs := by
  rw [List.getD_eq_getElem?_getD, List.getElem?_eq_getElem h]
  exact List.getElem_mem h
theorem nf_body (rs : List Int) (long : Nat) (hl : long ≤ 1000) (hr : ∀ r ∈ rs, 0 ≤ r) (d : Nat) (hd : d < rs.length) : fuel (ntP rs long) (2 * (rs.length - d)) = bodyL long (rs.drop (rs.length - d)) := by
  induction d with
  | zero =>
    rw [Nat.sub_zero, List.drop_length]
    have := nf_row rs long hl long (Nat.le_refl _)
    rw [if_neg (by omega), show 2 * rs.length + long - long = 2 * rs.length by omega] at this
    exact this
  | succ d ih =>
    have ih := ih (by omega)
    have hi : rs.length - (d + 1) < rs.length := by omega
    have hdr : rs.drop (rs.length - (d + 1)) = rs.getD (rs.length - (d + 1)) 0 :: rs.drop (rs.length - d) := by
      rw [List.drop_eq_getElem_cons hi, List.getD_eq_getElem?_getD, List.getElem?_eq_getElem hi, show rs.length - (d + 1) + 1 = rs.length - d by omega]
      rfl
    rw [nf_loop rs long _ hi, show 2 * (rs.length - (d + 1)) + 2 = 2 * (rs.length - d) by omega, ih, hdr]
    have ha := nf_again rs long (d + 1) hd
    rw [show 2 * rs.length + long + (d + 1) = 3 * rs.length + long - (rs.length - (d + 1)) by omega] at ha
    rw [ha, show sm 1 1 = 2 from rfl]
    have h1 := body_bd long hl (rs.drop (rs.length - d)) (fun x hx => hr x (List.mem_of_mem_drop hx))
    have h2 := sm_bd (a := 1) (b := bodyL long (rs.drop (rs.length - d))) (by omega) (by omega)
    have h3 := tm_bd (a := rs.getD (rs.length - (d + 1)) 0) (b := sm 1 (bodyL long (rs.drop (rs.length - d)))) (hr _ (getD_mem hi)) h2.1
    rw [sm_assoc]
    rfl
/-- the miss's fuel -/
def ntW (rs : List Int) (long : Nat) : Int := if rs.length = 0 then (long : Int) + 2 else bodyL long rs + 1
theorem nf_zero (rs : List Int) (long : Nat) (hl : long ≤ 1000) (hr : ∀ r ∈ rs, 0 ≤ r) : (1152921504606846976 < fuel (ntP rs long) 0 ↔ 1152921504606846976 < ntW rs long) ∧ (ntW rs long ≤ 1152921504606846976 → fuel (ntP rs long) 0 = ntW rs long) := by
  unfold ntW
  split
  · rename_i h
    have := nf_row rs long hl long (Nat.le_refl _)
    rw [if_pos h, h, show 2 * 0 + long - long = 0 by omega] at this
    rw [this]
    exact ⟨Iff.rfl, fun _ => rfl⟩
  · rename_i h
    have hb : fuel (ntP rs long) 2 = bodyL long (rs.drop 1) := by
      have := nf_body rs long hl hr (rs.length - 1) (by omega)
      rw [show rs.length - (rs.length - 1) = 1 by omega] at this
      exact this
    have h0 := nf_loop rs long 0 (by omega)
    rw [show 2 * 0 + 2 = 2 from rfl, show 2 * 0 = 0 from rfl, hb, Nat.sub_zero, nf_ins, show sm 1 2 = 3 from rfl] at h0
    have h1 := body_bd long hl (rs.drop 1) (fun x hx => hr x (List.mem_of_mem_drop hx))
    have h2 := sm_bd (a := 1) (b := bodyL long (rs.drop 1)) (by omega) (by omega)
    have h3 := tm_bd (a := rs.getD 0 0) (b := sm 1 (bodyL long (rs.drop 1))) (hr _ (getD_mem (by omega))) h2.1
    have e : bodyL long rs = sm (tm (rs.getD 0 0) (sm 1 (bodyL long (rs.drop 1)))) 3 := by
      cases rs with
      | nil => simp at h
      | cons r l => rfl
    rw [h0, e, sm_assoc]
    generalize tm (rs.getD 0 0) (sm 1 (bodyL long (rs.drop 1))) = X at h3
    have e2 : sm X (3 + 1) = if 4611686018427387904 - 4 < X then 4611686018427387904 else X + 4 := rfl
    have e3 : sm X 3 = if 4611686018427387904 - 3 < X then 4611686018427387904 else X + 3 := rfl
    rw [e2, e3]
    constructor
    · constructor <;> intro h9 <;> split at h9 <;> split <;> omega
    · intro h9
      split at h9 <;> split <;> omega
theorem nt_chk (rs : List Int) (long : Nat) (hn : rs.length ≤ 1000) (hl : long ≤ 1000) (hr : ∀ r ∈ rs, 0 ≤ r ∧ r ≤ 4194304) : chk (ntP rs long) = 0 := by
  unfold chk
  have e1 : tabF (ntP rs long) = true := rfl
  have e2 : plcF (ntP rs long) = true := by
    have hl := nt_len rs long
    unfold plcF plcI
    rw [hl]
    show (decide (1 = 1) && (decide (3 * rs.length + long + 2 ≤ 262144) && ([(-1 : Int)].all (fun k => decide (-1 ≤ k) && decide (k < ((3 * rs.length + long + 2 : Nat) : Int))) && (decide ((-1 : Int) ≤ 0) && decide ((0 : Int) < ((3 * rs.length + long + 2 : Nat) : Int)))))) = true
    simp
    omega
  rw [e1, e2]
  refine first_zero _ (fun x hx => ?_)
  have hlen : ((ntP rs long).cd.length : Int) = 3 * (rs.length : Int) + long + 2 := by rw [nt_len]; omega
  obtain ⟨k, hk, rfl⟩ : ∃ k, k < 3 * rs.length + long + 2 ∧ ntI rs long k = x := by
    unfold ntP at hx
    obtain ⟨k, hk, e⟩ := List.mem_map.1 hx
    exact ⟨k, by simpa using hk, e⟩
  clear hx e1 e2
  refine nt_cases rs.length long k hk (fun k => insF (ntP rs long) (ntI rs long k) = 0) (fun i hi => ?_) (fun i hi => ?_) (fun j h1 h2 => ?_) (fun t ht => ?_) ?_ ?_
  · rw [nt_loop rs long hi]
    obtain ⟨h1, h2⟩ := hr _ (getD_mem hi)
    generalize rs.getD i 0 = r at h1 h2
    unfold insF inK
    dsimp only
    simp only [show kd4 (24 : Int).toNat = (7, 0, 0, 0) from rfl, loK, hiK]
    simp [h1, h2]
  · rw [nt_turn rs long hi]
    unfold insF inK
    dsimp only
    simp only [show kd4 (25 : Int).toNat = (8, 0, 0, 0) from rfl, loK, hiK, hlen]
    have a1 : (0 : Int) ≤ ((3 * rs.length + long - i : Nat) : Int) := by omega
    have a2 : ((3 * rs.length + long - i : Nat) : Int) ≤ 3 * (rs.length : Int) + long + 2 - 1 := by omega
    generalize ((3 * rs.length + long - i : Nat) : Int) = r at a1 a2
    simp [a1, a2]
  · rw [nt_row rs long h1 h2]
    rfl
  · rw [nt_again rs long ht]
    unfold insF inK
    dsimp only
    simp only [show kd4 (27 : Int).toNat = (8, 0, 0, 0) from rfl, loK, hiK, hlen]
    have a1 : (0 : Int) ≤ ((2 * (rs.length - 1 - t) + 1 : Nat) : Int) := by omega
    have a2 : ((2 * (rs.length - 1 - t) + 1 : Nat) : Int) ≤ 3 * (rs.length : Int) + long + 2 - 1 := by omega
    generalize ((2 * (rs.length - 1 - t) + 1 : Nat) : Int) = r at a1 a2
    simp [a1, a2]
  · rw [nt_ins]
    rfl
  · rw [nt_end]
    rfl
/-- what is told of the loops -/
theorem nt_judge (rs : List Int) (long : Nat) (hn : rs.length ≤ 1000) (hl : long ≤ 1000) (hr : ∀ r ∈ rs, 0 ≤ r ∧ r ≤ 4194304) : (1152921504606846976 < ntW rs long → judge (ntP rs long) = .error (97, 0)) ∧ (ntW rs long ≤ 1152921504606846976 → (∃ g, judge (ntP rs long) = .ok g) ∧ cst (ntP rs long) (ntP rs long).miss = ntW rs long) := by
  obtain ⟨g, h1, -⟩ := flow_all (nt_flow rs long)
  obtain ⟨f1, f2⟩ := nf_zero rs long hl (fun r h => (hr r h).1)
  have hc : costF (ntP rs long) (evs (ntP rs long)) = if 1152921504606846976 < fuel (ntP rs long) 0 then some 0 else none := by
    show (if 1152921504606846976 < cst (ntP rs long) (-1) then some (-1) else if 1152921504606846976 < cst (ntP rs long) 0 then some 0 else none) = _
    rw [show cst (ntP rs long) (-1) = 0 from rfl, if_neg (by omega)]
    rfl
  have hj : judge (ntP rs long) = match costF (ntP rs long) (evs (ntP rs long)) with | some n => .error (97, n) | none => .ok g := by
    unfold judge
    rw [if_pos (nt_chk rs long hn hl hr), h1]
    first | done | rfl
  refine ⟨fun h => ?_, fun h => ?_⟩
  · rw [hj, hc, if_pos (f1.2 h)]
  · refine ⟨⟨g, ?_⟩, f2 h⟩
    rw [hj, hc, if_neg (fun h9 => by have := f1.1 h9; omega)]
end Go.Proofs.YtnededkmjmbioaaDoor.Vf
