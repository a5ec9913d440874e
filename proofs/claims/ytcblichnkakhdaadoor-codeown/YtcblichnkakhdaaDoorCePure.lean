import Derived.Test.YtcblichnkakhdaaDoorVfPure
namespace Go.Proofs.YtcblichnkakhdaaDoor.Cd
open Go.Proofs.YtcblichnkakhdaaDoor.Vf

/-- what is read of bytes: something, and what stands behind it; or a fault -/
inductive Rs (α : Type) where
  | ok (a : α) (i : Nat) (t : List Nat)
  | die (er i : Nat)
def Rs.bind {α β : Type} (x : Rs α) (f : α → Nat → List Nat → Rs β) : Rs β :=
  match x with
  | .ok a i t => f a i t
  | .die er i => .die er i
/-- a number: fr where it begins, k how many bytes more may be, i how many there were, n what they say -/
def numL (fr : Nat) : Nat → Nat → Nat → Nat → List Nat → Rs Nat
  | 0, _, _, _, _ => .die 82 fr
  | _ + 1, _, _, at_, [] => .die 81 at_
  | k + 1, i, n, at_, b :: t =>
    if b = 0 ∧ 0 < i then .die 82 fr
    else if b < 128 then .ok (n + b * 128 ^ i) (at_ + 1) t
    else numL fr k (i + 1) (n + (b - 128) * 128 ^ i) (at_ + 1) t
def num (at_ : Nat) (r : List Nat) : Rs Nat := numL at_ 9 0 0 at_ r
/-- the int that a number means -/
def nsg (n : Nat) : Int := if n % 2 = 1 then -((n / 2 : Nat) : Int) - 1 else ((n / 2 : Nat) : Int)
def rsg (at_ : Nat) (r : List Nat) : Rs Int := (num at_ r).bind fun n i t => .ok (nsg n) i t
def rnu (at_ : Nat) (r : List Nat) : Rs Int := (num at_ r).bind fun n i t => .ok (n : Int) i t
def rpl (at_ : Nat) (r : List Nat) : Rs Int := (num at_ r).bind fun n i t => .ok ((n : Int) - 1) i t
def gho (at_ : Nat) : List Nat → Rs Bool
  | [] => .die 81 at_
  | b :: t => if 1 < b then .die 82 at_ else .ok (decide (b = 1)) (at_ + 1) t
def tagR (at_ : Nat) : List Nat → Rs Unit
  | [] => .die 81 at_
  | b :: t => if b = 87 then .ok () (at_ + 1) t else .die 83 at_
def cnt (most at_ : Nat) (r : List Nat) : Rs Nat := (num at_ r).bind fun n i t => if most < n then .die 85 at_ else .ok n i t
def var (at_ : Nat) (r : List Nat) : Rs (Int × Int × Int) := (rsg at_ r).bind fun a i t => (rsg i t).bind fun b i t => (rsg i t).bind fun c i t => .ok (a, b, c) i t
/-- so many, one behind the other -/
def lisR {α : Type} (f : Nat → List Nat → Rs α) : Nat → List α → Nat → List Nat → Rs (List α)
  | 0, l, i, t => .ok l i t
  | n + 1, l, i, t => (f i t).bind fun a i t => lisR f n (l ++ [a]) i t
/-- an operand of a kind -/
def opR (k : Int) (i : Nat) (t : List Nat) : Rs Int := if k = 0 then .ok 0 i t else if k = 5 then rsg i t else rnu i t
def insR (at_ : Nat) (r : List Nat) : Rs Ins := (num at_ r).bind fun op i t => if 42 ≤ op then .die 91 at_ else
  (opR (kd4 op).1 i t).bind fun a i t => (opR (kd4 op).2.1 i t).bind fun b i t => (opR (kd4 op).2.2.1 i t).bind fun c i t => (opR (kd4 op).2.2.2 i t).bind fun d i t => .ok ⟨(op : Int), a, b, c, d⟩ i t
def tabR (i : Nat) (t : List Nat) : Rs (List Bool × List (Int × Int × Int) × List Int) :=
  (cnt 16 i t).bind fun n i t => (lisR gho n [] i t).bind fun gh i t => (cnt 16 i t).bind fun n i t => (lisR var n [] i t).bind fun vs i t => (cnt 4 i t).bind fun n i t => (lisR rnu n [] i t).bind fun ts i t => .ok (gh, vs, ts) i t
def prgR (i : Nat) (t : List Nat) : Rs Pg :=
  (tagR i t).bind fun _ i t => (tabR i t).bind fun x i t => (lisR rpl x.1.length [] i t).bind fun on i t => (rpl i t).bind fun miss i t => (cnt 262144 i t).bind fun n i t => (lisR insR n [] i t).bind fun cd i t => .ok ⟨x.1, x.2.1, x.2.2, on, miss, cd⟩ i t
def whoR (s : List Nat) : Rs Pg := (prgR 0 s).bind fun p i t => if t = [] then .ok p i t else .die 84 i
def pg0 : Pg := ⟨[], [], [], [], 0, []⟩
/-- what Decode tells -/
def decR (s : List Nat) : Pg × Nat × Nat :=
  match whoR s with
  | .die er i => (pg0, er, i)
  | .ok p _ _ => if chk p = 0 then (p, 0, 0) else (pg0, chk p, 0)

/-! what is read is a front, and a front of it is cut -/
/-- a reader tells of what it reads, not of what stands behind -/
def Good {α : Type} (f : Nat → List Nat → Rs α) : Prop := ∀ i r a i' t, f i r = .ok a i' t → ∃ c, r = c ++ t ∧ i' = i + c.length ∧ (∀ t', f i (c ++ t') = .ok a i' t') ∧ ∀ c' x y, c = c' ++ x :: y → f i c' = .die 81 (i + c'.length)
theorem good_ok {α : Type} (a : α) : Good fun i t => .ok a i t := fun i r b i' t h => by
  cases h
  exact ⟨[], rfl, rfl, fun _ => rfl, fun c' x y e => by simp at e⟩
theorem good_bind {α β : Type} {f : Nat → List Nat → Rs α} {g : α → Nat → List Nat → Rs β} (hf : Good f) (hg : ∀ a, Good (g a)) : Good fun i t => (f i t).bind (g) := by
  intro i r b i' t h
  change (f i r).bind g = _ at h
  cases h1 : f i r with
  | die er k => rw [h1] at h; cases h
  | ok a i1 t1 =>
    rw [h1] at h
    change g a i1 t1 = _ at h
    obtain ⟨c1, rfl, rfl, h2, h3⟩ := hf i r a i1 t1 h1
    obtain ⟨c2, rfl, rfl, h4, h5⟩ := hg a _ t1 b i' t h
    refine ⟨c1 ++ c2, by simp, by simp; omega, fun t' => ?_, fun c' x y e => ?_⟩
    · show (f i (c1 ++ c2 ++ t')).bind g = _
      rw [List.append_assoc, h2]
      exact h4 t'
    · show (f i c').bind g = _
      rw [List.append_eq_append_iff] at e
      rcases e with ⟨z, e1, e2⟩ | ⟨z, e1, e2⟩
      · subst e1
        rw [h2]
        show g a (i + c1.length) z = _
        rw [h5 z x y e2, List.length_append, Nat.add_assoc]
      · cases z with
        | nil =>
          rw [List.append_nil] at e1
          subst e1
          have := h2 []
          rw [List.append_nil] at this
          rw [this]
          show g a (i + c1.length) [] = _
          rw [h5 [] x y (by simpa using e2.symm)]
          simp
        | cons x' z =>
          rw [h3 c' x' z e1]
          rfl
theorem good_of {α β : Type} {f : Nat → List Nat → Rs α} {g : α → Nat → List Nat → Rs β} (h : Nat → List Nat → Rs β) (hh : ∀ i t, h i t = (f i t).bind g) (hf : Good f) (hg : ∀ a, Good (g a)) : Good h := by
  have e : h = fun i t => (f i t).bind g := by funext i t; exact hh i t
  rw [e]
  exact good_bind hf hg
theorem good_numL (fr : Nat) : ∀ k i n, Good fun at_ r => numL fr k i n at_ r
  | 0, i, n => fun at_ r a i' t h => by cases h
  | k + 1, i, n => fun at_ r a i' t h => by
    change numL fr (k + 1) i n at_ r = _ at h
    cases r with
    | nil => cases h
    | cons b r =>
      unfold numL at h
      by_cases h0 : b = 0 ∧ 0 < i
      · rw [if_pos h0] at h; cases h
      rw [if_neg h0] at h
      by_cases h1 : b < 128
      · rw [if_pos h1] at h
        cases h
        refine ⟨[b], rfl, rfl, fun t' => ?_, fun c' x y e => ?_⟩
        · show numL fr (k + 1) i n at_ (b :: t') = _
          unfold numL
          rw [if_neg h0, if_pos h1]
        · have : c' = [] := by
            cases c' with
            | nil => rfl
            | cons z c' => simp at e
          subst this
          rfl
      · rw [if_neg h1] at h
        obtain ⟨c, rfl, rfl, h2, h3⟩ := good_numL fr k (i + 1) _ _ _ _ _ _ h
        refine ⟨b :: c, rfl, by simp; omega, fun t' => ?_, fun c' x y e => ?_⟩
        · show numL fr (k + 1) i n at_ (b :: (c ++ t')) = _
          unfold numL
          rw [if_neg h0, if_neg h1]
          exact h2 t'
        · cases c' with
          | nil => rfl
          | cons z c' =>
            simp only [List.cons_append, List.cons.injEq] at e
            obtain ⟨rfl, e⟩ := e
            show numL fr (k + 1) i n at_ (b :: c') = _
            unfold numL
            rw [if_neg h0, if_neg h1]
            have : numL fr k (i + 1) (n + (b - 128) * 128 ^ i) (at_ + 1) c' = _ := h3 c' x y e
            rw [this]
            simp
            omega
theorem num_good {α : Type} {g : Nat → Nat → List Nat → Rs α} (hg : ∀ n, Good (g n)) : Good fun i t => (num i t).bind g := by
  intro i r b i' t h
  exact good_bind (good_numL i 9 0 0) hg i r b i' t h
theorem rsg_good : Good rsg := num_good fun n => good_ok (nsg n)
theorem rnu_good : Good rnu := num_good fun n => good_ok (n : Int)
theorem rpl_good : Good rpl := num_good fun n => good_ok ((n : Int) - 1)
theorem good_if {α : Type} {c : Prop} [Decidable c] {f g : Nat → List Nat → Rs α} (hf : Good f) (hg : Good g) : Good fun i t => if c then f i t else g i t := by
  by_cases h : c
  · simp only [if_pos h]; exact hf
  · simp only [if_neg h]; exact hg
theorem good_die {α : Type} (f : Nat → List Nat → Nat × Nat) : Good (α := α) fun i t => .die (f i t).1 (f i t).2 := fun i r a i' t h => by cases h
theorem gho_good : Good gho := fun i r a i' t h => by
  cases r with
  | nil => cases h
  | cons b r =>
    unfold gho at h
    by_cases h1 : 1 < b
    · simp only [if_pos h1] at h; cases h
    · simp only [if_neg h1] at h
      cases h
      refine ⟨[b], rfl, rfl, fun t' => ?_, fun c' x y e => ?_⟩
      · show (if 1 < b then (Rs.die 82 i : Rs Bool) else .ok (decide (b = 1)) (i + 1) t') = _
        rw [if_neg h1]
      · have : c' = [] := by
          cases c' with
          | nil => rfl
          | cons z c' => simp at e
        subst this
        rfl
theorem tagR_good : Good tagR := fun i r a i' t h => by
  cases r with
  | nil => cases h
  | cons b r =>
    unfold tagR at h
    by_cases h1 : b = 87
    · simp only [if_pos h1] at h
      cases h
      refine ⟨[b], rfl, rfl, fun t' => ?_, fun c' x y e => ?_⟩
      · show (if b = 87 then (Rs.ok () (i + 1) t' : Rs Unit) else .die 83 i) = _
        rw [if_pos h1]
      · have : c' = [] := by
          cases c' with
          | nil => rfl
          | cons z c' => simp at e
        subst this
        rfl
    · simp only [if_neg h1] at h; cases h
theorem cnt_good (most : Nat) : Good (cnt most) := fun i r a i' t h => by
  have key : ∀ fr, Good fun j r => (num j r).bind fun n i t => if most < n then (.die 85 fr : Rs Nat) else .ok n i t := fun fr => num_good fun n => good_if (good_die fun _ _ => (85, fr)) (good_ok n)
  exact key i i r a i' t h
theorem var_good : Good var := good_bind rsg_good fun a => good_bind rsg_good fun b => good_bind rsg_good fun c => good_ok (a, b, c)
theorem lisR_good {α : Type} {f : Nat → List Nat → Rs α} (hf : Good f) : ∀ n l, Good fun i t => lisR f n l i t
  | 0, l => good_ok l
  | n + 1, l => good_bind hf fun a => lisR_good hf n (l ++ [a])
theorem opR_good (k : Int) : Good (opR k) := by
  have : Good fun i t => opR k i t := good_if (good_ok 0) (good_if rsg_good rnu_good)
  exact this
theorem insR_good : Good insR := fun i r a i' t h => by
  have key : ∀ fr, Good fun j r => (num j r).bind fun op i t => if 42 ≤ op then (.die 91 fr : Rs Ins) else
      (opR (kd4 op).1 i t).bind fun a i t => (opR (kd4 op).2.1 i t).bind fun b i t => (opR (kd4 op).2.2.1 i t).bind fun c i t => (opR (kd4 op).2.2.2 i t).bind fun d i t => .ok ⟨(op : Int), a, b, c, d⟩ i t :=
    fun fr => num_good fun op => good_if (good_die fun _ _ => (91, fr)) (good_bind (opR_good _) fun a => good_bind (opR_good _) fun b => good_bind (opR_good _) fun c => good_bind (opR_good _) fun d => good_ok _)
  exact key i i r a i' t h
theorem tabR_good : Good tabR := good_bind (cnt_good 16) fun n => good_bind (lisR_good gho_good n []) fun gh => good_bind (cnt_good 16) fun n => good_bind (lisR_good var_good n []) fun vs => good_bind (cnt_good 4) fun n => good_bind (lisR_good rnu_good n []) fun ts => good_ok (gh, vs, ts)
theorem prgR_good : Good prgR := good_bind tagR_good fun _ => good_bind tabR_good fun x => good_bind (lisR_good rpl_good x.1.length []) fun _ => good_bind rpl_good fun _ => good_bind (cnt_good 262144) fun n => good_bind (lisR_good insR_good n []) fun _ => good_ok _
/-- what is taken whole: a front of it is cut, and it with more behind has a tail -/
theorem who_front {s : List Nat} {p : Pg} {i : Nat} {t : List Nat} (h : whoR s = .ok p i t) {k : Nat} (hk : k < s.length) : whoR (s.take k) = .die 81 k := by
  unfold whoR at h
  cases h1 : prgR 0 s with
  | die er j => rw [h1] at h; cases h
  | ok q j u =>
    rw [h1] at h
    change (if u = [] then Rs.ok q j u else .die 84 j) = _ at h
    by_cases hu : u = []
    · subst hu
      obtain ⟨c, e, _, _, h3⟩ := prgR_good 0 s q j [] h1
      rw [List.append_nil] at e
      subst e
      have := h3 (s.take k) s[k] (s.drop (k + 1)) (by rw [← List.drop_eq_getElem_cons hk, List.take_append_drop])
      unfold whoR
      rw [this]
      simp only [Rs.bind]
      congr 1
      simp
      omega
    · rw [if_neg hu] at h; cases h
theorem who_tail {s : List Nat} {p : Pg} {i : Nat} {t : List Nat} (h : whoR s = .ok p i t) {r : List Nat} (hr : r ≠ []) : whoR (s ++ r) = .die 84 s.length := by
  unfold whoR at h
  cases h1 : prgR 0 s with
  | die er j => rw [h1] at h; cases h
  | ok q j u =>
    rw [h1] at h
    change (if u = [] then Rs.ok q j u else .die 84 j) = _ at h
    by_cases hu : u = []
    · subst hu
      obtain ⟨c, e, e2, h2, _⟩ := prgR_good 0 s q j [] h1
      rw [List.append_nil] at e
      subst e
      unfold whoR
      rw [h2 r]
      show (if r = [] then (Rs.ok q j r) else .die 84 j) = _
      rw [if_neg hr, e2, Nat.zero_add]
    · rw [if_neg hu] at h; cases h
/-! faults: none is no error, and each lies in the text -/
def Dies {α : Type} (f : Nat → List Nat → Rs α) : Prop := ∀ i r er k, f i r = .die er k → er ≠ 0 ∧ k ≤ i + r.length
theorem dies_ok {α : Type} (a : α) : Dies fun i t => .ok a i t := fun i r er k h => by cases h
theorem dies_bind {α β : Type} {f : Nat → List Nat → Rs α} {g : α → Nat → List Nat → Rs β} (gf : Good f) (hf : Dies f) (hg : ∀ a, Dies (g a)) : Dies fun i t => (f i t).bind g := by
  intro i r er k h
  change (f i r).bind g = _ at h
  cases h1 : f i r with
  | die e j =>
    rw [h1] at h
    cases h
    exact hf i r _ _ h1
  | ok a i1 t1 =>
    rw [h1] at h
    obtain ⟨c, rfl, rfl, _, _⟩ := gf i r a i1 t1 h1
    obtain ⟨q1, q2⟩ := hg a _ _ _ _ h
    exact ⟨q1, by rw [List.length_append]; omega⟩
theorem numL_dies (fr : Nat) : ∀ k i n at_ r er j, fr ≤ at_ → numL fr k i n at_ r = .die er j → er ≠ 0 ∧ j ≤ at_ + r.length
  | 0, _, _, _, _, _, _, hf, h => by cases h; exact ⟨by decide, by omega⟩
  | _ + 1, _, _, _, [], _, _, hf, h => by cases h; exact ⟨by decide, by simp⟩
  | k + 1, i, n, at_, b :: r, er, j, hf, h => by
    rw [numL] at h
    by_cases h0 : b = 0 ∧ 0 < i
    · rw [if_pos h0] at h; cases h; exact ⟨by decide, by omega⟩
    rw [if_neg h0] at h
    by_cases h1 : b < 128
    · rw [if_pos h1] at h; cases h
    · rw [if_neg h1] at h
      obtain ⟨q1, q2⟩ := numL_dies fr k _ _ _ _ _ _ (by omega) h
      exact ⟨q1, by simp; omega⟩
theorem num_dies : Dies num := fun i r er k h => numL_dies i 9 0 0 i r er k (Nat.le_refl _) h
theorem num_good0 : Good num := fun i r a i' t h => good_numL i 9 0 0 i r a i' t h
theorem rsg_dies : Dies rsg := dies_bind num_good0 num_dies fun n => dies_ok (nsg n)
theorem rnu_dies : Dies rnu := dies_bind num_good0 num_dies fun n => dies_ok (n : Int)
theorem rpl_dies : Dies rpl := dies_bind num_good0 num_dies fun n => dies_ok ((n : Int) - 1)
theorem gho_dies : Dies gho := fun i r er k h => by
  cases r with
  | nil => cases h; exact ⟨by decide, by simp⟩
  | cons b r =>
    unfold gho at h
    by_cases h1 : 1 < b
    · simp only [if_pos h1] at h; cases h; exact ⟨by decide, by simp⟩
    · simp only [if_neg h1] at h; cases h
theorem tagR_dies : Dies tagR := fun i r er k h => by
  cases r with
  | nil => cases h; exact ⟨by decide, by simp⟩
  | cons b r =>
    unfold tagR at h
    by_cases h1 : b = 87
    · simp only [if_pos h1] at h; cases h
    · simp only [if_neg h1] at h; cases h; exact ⟨by decide, by simp⟩
theorem cnt_dies (most : Nat) : Dies (cnt most) := fun i r er k h => by
  unfold cnt at h
  cases h1 : num i r with
  | die e j => rw [h1] at h; cases h; exact num_dies i r _ _ h1
  | ok n j u =>
    rw [h1] at h
    change (if most < n then Rs.die 85 i else Rs.ok n j u) = _ at h
    by_cases h2 : most < n
    · rw [if_pos h2] at h; cases h; exact ⟨by decide, by omega⟩
    · rw [if_neg h2] at h; cases h
theorem var_dies : Dies var := dies_bind rsg_good rsg_dies fun a => dies_bind rsg_good rsg_dies fun b => dies_bind rsg_good rsg_dies fun c => dies_ok (a, b, c)
theorem lisR_dies {α : Type} {f : Nat → List Nat → Rs α} (gf : Good f) (hf : Dies f) : ∀ n l, Dies fun i t => lisR f n l i t
  | 0, l => dies_ok l
  | n + 1, l => dies_bind gf hf fun a => lisR_dies gf hf n (l ++ [a])
theorem opR_dies (k : Int) : Dies (opR k) := fun i r er j h => by
  unfold opR at h
  by_cases h0 : k = 0
  · rw [if_pos h0] at h; cases h
  rw [if_neg h0] at h
  by_cases h5 : k = 5
  · rw [if_pos h5] at h; exact rsg_dies _ _ _ _ h
  · rw [if_neg h5] at h; exact rnu_dies _ _ _ _ h
theorem insR_dies : Dies insR := fun i r er k h => by
  unfold insR at h
  cases h1 : num i r with
  | die e j => rw [h1] at h; cases h; exact num_dies i r _ _ h1
  | ok op j u =>
    rw [h1] at h
    obtain ⟨c, e1, e2, _, _⟩ := num_good0 i r op j u h1
    by_cases h2 : 42 ≤ op
    · simp only [Rs.bind, if_pos h2] at h; cases h; exact ⟨by decide, by omega⟩
    · have q : Dies fun i t => (opR (kd4 op).1 i t).bind fun a i t => (opR (kd4 op).2.1 i t).bind fun b i t => (opR (kd4 op).2.2.1 i t).bind fun c i t => (opR (kd4 op).2.2.2 i t).bind fun d i t => .ok (⟨(op : Int), a, b, c, d⟩ : Ins) i t :=
        dies_bind (opR_good _) (opR_dies _) fun a => dies_bind (opR_good _) (opR_dies _) fun b => dies_bind (opR_good _) (opR_dies _) fun c => dies_bind (opR_good _) (opR_dies _) fun d => dies_ok _
      have h3 : (if 42 ≤ op then (Rs.die 91 i : Rs Ins) else (opR (kd4 op).1 j u).bind fun a i t => (opR (kd4 op).2.1 i t).bind fun b i t => (opR (kd4 op).2.2.1 i t).bind fun c i t => (opR (kd4 op).2.2.2 i t).bind fun d i t => .ok ⟨(op : Int), a, b, c, d⟩ i t) = .die er k := h
      rw [if_neg h2] at h3
      obtain ⟨q1, q2⟩ := q _ _ _ _ h3
      exact ⟨q1, by rw [e1, List.length_append]; omega⟩
theorem tabR_dies : Dies tabR := dies_bind (cnt_good 16) (cnt_dies 16) fun n => dies_bind (lisR_good gho_good n []) (lisR_dies gho_good gho_dies n []) fun gh => dies_bind (cnt_good 16) (cnt_dies 16) fun n => dies_bind (lisR_good var_good n []) (lisR_dies var_good var_dies n []) fun vs => dies_bind (cnt_good 4) (cnt_dies 4) fun n => dies_bind (lisR_good rnu_good n []) (lisR_dies rnu_good rnu_dies n []) fun ts => dies_ok (gh, vs, ts)
theorem prgR_dies : Dies prgR := dies_bind tagR_good tagR_dies fun _ => dies_bind tabR_good tabR_dies fun x => dies_bind (lisR_good rpl_good x.1.length []) (lisR_dies rpl_good rpl_dies _ []) fun _ => dies_bind rpl_good rpl_dies fun _ => dies_bind (cnt_good 262144) (cnt_dies 262144) fun n => dies_bind (lisR_good insR_good n []) (lisR_dies insR_good insR_dies n []) fun _ => dies_ok _
theorem who_dies {s : List Nat} {er k : Nat} (h : whoR s = .die er k) : er ≠ 0 ∧ k ≤ s.length := by
  unfold whoR at h
  cases h1 : prgR 0 s with
  | die e j =>
    rw [h1] at h
    cases h
    have := prgR_dies _ _ _ _ h1
    exact ⟨this.1, by omega⟩
  | ok q j u =>
    rw [h1] at h
    change (if u = [] then Rs.ok q j u else .die 84 j) = _ at h
    by_cases hu : u = []
    · rw [if_pos hu] at h; cases h
    · rw [if_neg hu] at h
      obtain ⟨c, e1, e2, _, _⟩ := prgR_good 0 s q j u h1
      cases h
      exact ⟨by decide, by rw [e1, List.length_append]; omega⟩
/-- of a text with a fault Decode tells the empty program -/
theorem dec_bad {s : List Nat} {p : Pg} {er i : Nat} (h : decR s = (p, er, i)) (he : er ≠ 0) : p = pg0 ∧ i ≤ s.length := by
  unfold decR at h
  cases hw : whoR s with
  | die e k =>
    rw [hw] at h
    simp only [Prod.mk.injEq] at h
    obtain ⟨rfl, rfl, rfl⟩ := h
    exact ⟨rfl, (who_dies hw).2⟩
  | ok q k t =>
    rw [hw] at h
    dsimp only at h
    by_cases hc : chk q = 0
    · rw [if_pos hc] at h
      simp only [Prod.mk.injEq] at h
      exact absurd h.2.1.symm he
    · rw [if_neg hc] at h
      simp only [Prod.mk.injEq] at h
      obtain ⟨rfl, _, rfl⟩ := h
      exact ⟨rfl, Nat.zero_le _⟩
end Go.Proofs.YtcblichnkakhdaaDoor.Cd
