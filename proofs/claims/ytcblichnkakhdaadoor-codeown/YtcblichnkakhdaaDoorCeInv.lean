import Derived.Test.YtcblichnkakhdaaDoorCePure
import Derived.Test.YtcblichnkakhdaaDoorCdPrg
namespace Go.Proofs.YtcblichnkakhdaaDoor.Cd
open Go.Proofs.YtcblichnkakhdaaDoor.Vf

def byts (l : List Nat) : Prop := ∀ b ∈ l, b < 256
theorem byts_app {a b : List Nat} (h : byts (a ++ b)) : byts b := fun x hx => h x (List.mem_append_right _ hx)
/-! numbers there and back -/
theorem numL_num (fr : Nat) : ∀ (k i acc at_ m : Nat) (t : List Nat), m < 128 ^ (k + 1) → (i = 0 ∨ m ≠ 0) → numL fr (k + 1) i acc at_ (numB m ++ t) = .ok (acc + m * 128 ^ i) (at_ + (numB m).length) t
  | k, i, acc, at_, m, t, hm, h0 => by
    by_cases h1 : m < 128
    · rw [numB_low h1]
      show numL fr (k + 1) i acc at_ (m :: t) = _
      unfold numL
      rw [if_neg (by omega), if_pos h1]
      rfl
    · cases k with
      | zero => exact absurd (by simpa using hm) h1
      | succ k =>
        have h2 : m / 128 < 128 ^ (k + 1) := by
          rw [Nat.div_lt_iff_lt_mul (by decide)]
          rw [Nat.pow_succ] at hm
          exact hm
        have h3 := numL_num fr k (i + 1) (acc + (m % 128) * 128 ^ i) (at_ + 1) (m / 128) t h2 (Or.inr (by omega))
        rw [numB_high h1]
        show numL fr (k + 1 + 1) i acc at_ ((m % 128 + 128) :: (numB (m / 128) ++ t)) = _
        rw [numL, if_neg (by omega), if_neg (by omega), Nat.add_sub_cancel, h3]
        have e : acc + m % 128 * 128 ^ i + m / 128 * 128 ^ (i + 1) = acc + m * 128 ^ i := by
          rw [Nat.pow_succ]
          generalize 128 ^ i = P
          have e1 := Nat.div_add_mod m 128
          generalize m / 128 = d at *
          generalize m % 128 = r at *
          subst e1
          rw [Nat.add_mul, Nat.mul_comm P 128, ← Nat.mul_assoc, Nat.mul_comm d 128]
          omega
        rw [e]
        simp
        omega
theorem numL_inv (fr : Nat) : ∀ (k i acc at_ : Nat) (r : List Nat) (n j : Nat) (t : List Nat), byts r → numL fr k i acc at_ r = .ok n j t → ∃ m, r = numB m ++ t ∧ n = acc + m * 128 ^ i ∧ m < 128 ^ k ∧ j = at_ + (numB m).length ∧ (0 < i → m ≠ 0)
  | 0, i, acc, at_, r, n, j, t, hb, h => by cases h
  | k + 1, i, acc, at_, [], n, j, t, hb, h => by cases h
  | k + 1, i, acc, at_, b :: r, n, j, t, hb, h => by
    rw [numL] at h
    have hb1 := hb b (by simp)
    have hb2 : byts r := fun x hx => hb x (List.mem_cons_of_mem _ hx)
    by_cases h0 : b = 0 ∧ 0 < i
    · rw [if_pos h0] at h; cases h
    rw [if_neg h0] at h
    have hp : 0 < 128 ^ k := Nat.pow_pos (by decide)
    by_cases h1 : b < 128
    · rw [if_pos h1] at h
      cases h
      refine ⟨b, by rw [numB_low h1]; rfl, rfl, ?_, by rw [numB_low h1]; rfl, fun h2 h3 => h0 ⟨h3, h2⟩⟩
      rw [Nat.pow_succ]
      exact Nat.lt_of_lt_of_le h1 (Nat.le_mul_of_pos_left _ hp)
    · rw [if_neg h1] at h
      obtain ⟨m, e1, e2, e3, e4, e5⟩ := numL_inv fr k (i + 1) _ _ r n j t hb2 h
      have hm := e5 (by omega)
      have q1 : (b - 128 + 128 * m) % 128 = b - 128 := by omega
      have q2 : (b - 128 + 128 * m) / 128 = m := by omega
      have e6 : numB (b - 128 + 128 * m) = b :: numB m := by
        rw [numB_high (by omega), q1, q2, show b - 128 + 128 = b by omega]
      refine ⟨b - 128 + 128 * m, by rw [e6, e1]; rfl, ?_, ?_, by rw [e6, e4]; simp; omega, fun _ => by omega⟩
      · rw [e2, Nat.pow_succ, Nat.add_mul]
        generalize 128 ^ i = P
        rw [Nat.mul_comm P 128, ← Nat.mul_assoc, Nat.mul_comm m 128]
        omega
      · rw [Nat.pow_succ]
        omega
theorem num_numB {n : Nat} (h : n < 9223372036854775808) (i : Nat) (t : List Nat) : num i (numB n ++ t) = .ok n (i + (numB n).length) t := by
  have := numL_num i 8 0 0 i n t (Nat.lt_of_lt_of_le h (by decide)) (Or.inl rfl)
  simpa [num] using this
theorem num_inv {i n j : Nat} {r t : List Nat} (hb : byts r) (h : num i r = .ok n j t) : r = numB n ++ t ∧ n < 9223372036854775808 ∧ j = i + (numB n).length := by
  obtain ⟨m, e1, e2, e3, e4, _⟩ := numL_inv i 9 0 0 i r n j t hb h
  rw [Nat.pow_zero, Nat.mul_one, Nat.zero_add] at e2
  subst e2
  exact ⟨e1, Nat.lt_of_lt_of_le e3 (by decide), e4⟩
/-- f reads what enc writes -/
def Back {α : Type} (f : Nat → List Nat → Rs α) (enc : α → List Nat) (a : α) : Prop := ∀ i t, f i (enc a ++ t) = .ok a (i + (enc a).length) t
/-- what f reads enc writes -/
def Forth {α : Type} (f : Nat → List Nat → Rs α) (enc : α → List Nat) : Prop := ∀ i r a j t, byts r → f i r = .ok a j t → r = enc a ++ t
theorem nsg_sgN (n : Int) : nsg (sgN n) = n := by
  unfold nsg sgN
  by_cases h : n < 0
  · rw [if_pos h, if_pos (by omega)]
    omega
  · rw [if_neg h, if_neg (by omega)]
    omega
theorem sgN_nsg (n : Nat) : sgN (nsg n) = n := by
  unfold nsg sgN
  by_cases h : n % 2 = 1
  · rw [if_pos h, if_pos (by omega)]
    omega
  · rw [if_neg h, if_neg (by omega)]
    omega
theorem rsg_back {n : Int} (h : -4611686018427387904 < n ∧ n < 4611686018427387904) : Back rsg (fun n => numB (sgN n)) n := fun i t => by
  show (num i (numB (sgN n) ++ t)).bind _ = _
  rw [num_numB (sgN_lt h)]
  show Rs.ok (nsg (sgN n)) _ _ = _
  rw [nsg_sgN]
theorem rsg_forth : Forth rsg (fun n => numB (sgN n)) := fun i r a j t hb h => by
  unfold rsg at h
  cases h1 : num i r with
  | die er k => rw [h1] at h; cases h
  | ok n k u =>
    rw [h1] at h
    cases h
    show r = numB (sgN (nsg n)) ++ t
    rw [sgN_nsg]
    exact (num_inv hb h1).1
theorem rnu_back {n : Int} (h : 0 ≤ n ∧ n < 9223372036854775808) : Back rnu (fun n => numB n.toNat) n := fun i t => by
  show (num i (numB n.toNat ++ t)).bind _ = _
  rw [num_numB (by omega)]
  show Rs.ok ((n.toNat : Nat) : Int) _ _ = _
  rw [show ((n.toNat : Nat) : Int) = n by omega]
theorem rnu_forth : Forth rnu (fun n => numB n.toNat) := fun i r a j t hb h => by
  unfold rnu at h
  cases h1 : num i r with
  | die er k => rw [h1] at h; cases h
  | ok n k u =>
    rw [h1] at h
    cases h
    show r = numB (Int.toNat (n : Int)) ++ t
    rw [Int.toNat_natCast]
    exact (num_inv hb h1).1
theorem rpl_back {n : Int} (h : -1 ≤ n ∧ n < 9223372036854775807) : Back rpl (fun n => numB (n + 1).toNat) n := fun i t => by
  show (num i (numB (n + 1).toNat ++ t)).bind _ = _
  rw [num_numB (by omega)]
  show Rs.ok ((((n + 1).toNat : Nat) : Int) - 1) _ _ = _
  rw [show (((n + 1).toNat : Nat) : Int) - 1 = n by omega]
theorem rpl_forth : Forth rpl (fun n => numB (n + 1).toNat) := fun i r a j t hb h => by
  unfold rpl at h
  cases h1 : num i r with
  | die er k => rw [h1] at h; cases h
  | ok n k u =>
    rw [h1] at h
    cases h
    show r = numB (Int.toNat ((n : Int) - 1 + 1)) ++ t
    rw [show (Int.toNat ((n : Int) - 1 + 1)) = n by omega]
    exact (num_inv hb h1).1
theorem gho_back (g : Bool) : Back gho (fun g => [if g then 1 else 0]) g := fun i t => by cases g <;> rfl
theorem gho_forth : Forth gho (fun g => [if g then 1 else 0]) := fun i r a j t hb h => by
  cases r with
  | nil => cases h
  | cons b r =>
    unfold gho at h
    by_cases h1 : 1 < b
    · simp only [if_pos h1] at h; cases h
    · simp only [if_neg h1] at h
      cases h
      have : b = 0 ∨ b = 1 := by omega
      rcases this with rfl | rfl <;> rfl
theorem cnt_back {most n : Nat} (h : n ≤ most) (hm : most < 9223372036854775808) : Back (cnt most) numB n := fun i t => by
  show (num i (numB n ++ t)).bind _ = _
  rw [num_numB (by omega)]
  show (if most < n then _ else _) = _
  rw [if_neg (by omega)]
theorem cnt_forth (most : Nat) : Forth (cnt most) numB := fun i r a j t hb h => by
  unfold cnt at h
  cases h1 : num i r with
  | die er k => rw [h1] at h; cases h
  | ok n k u =>
    rw [h1] at h
    change (if most < n then _ else Rs.ok n k u) = _ at h
    by_cases h2 : most < n
    · rw [if_pos h2] at h; cases h
    · rw [if_neg h2] at h
      cases h
      exact (num_inv hb h1).1
def varB (x : Int × Int × Int) : List Nat := numB (sgN x.1) ++ (numB (sgN x.2.1) ++ numB (sgN x.2.2))
theorem bind_ok {α β : Type} {x : Rs α} {f : α → Nat → List Nat → Rs β} {b : β} {j : Nat} {t : List Nat} (h : x.bind f = .ok b j t) : ∃ a i u, x = .ok a i u ∧ f a i u = .ok b j t := by
  cases x with
  | die er k => cases h
  | ok a i u => exact ⟨a, i, u, rfl, h⟩
theorem var_back {x : Int × Int × Int} (h : (-4611686018427387904 < x.1 ∧ x.1 < 4611686018427387904) ∧ (-4611686018427387904 < x.2.1 ∧ x.2.1 < 4611686018427387904) ∧ (-4611686018427387904 < x.2.2 ∧ x.2.2 < 4611686018427387904)) : Back var varB x := fun i t => by
  have a1 := rsg_back h.1
  have a2 := rsg_back h.2.1
  have a3 := rsg_back h.2.2
  unfold Back at a1 a2 a3
  simp only [var, varB, List.append_assoc, Rs.bind, a1, a2, a3, List.length_append, Nat.add_assoc]
theorem var_forth : Forth var varB := fun i r x j t hb h => by
  obtain ⟨a, i1, t1, h1, h⟩ := bind_ok h
  obtain ⟨b, i2, t2, h2, h⟩ := bind_ok h
  obtain ⟨c, i3, t3, h3, h⟩ := bind_ok h
  cases h
  have e1 := rsg_forth _ _ _ _ _ hb h1
  subst e1
  have e2 := rsg_forth _ _ _ _ _ (byts_app hb) h2
  subst e2
  have e3 := rsg_forth _ _ _ _ _ (byts_app (byts_app hb)) h3
  subst e3
  simp [varB]
theorem lisR_back {α : Type} {f : Nat → List Nat → Rs α} {enc : α → List Nat} : ∀ (l : List α), (∀ a ∈ l, Back f enc a) → ∀ acc i t, lisR f l.length acc i (l.flatMap enc ++ t) = .ok (acc ++ l) (i + (l.flatMap enc).length) t
  | [], _, acc, i, t => by
    show Rs.ok acc i t = _
    simp
  | a :: l, h, acc, i, t => by
    show (f i ((enc a ++ l.flatMap enc) ++ t)).bind _ = _
    rw [List.append_assoc, h a (by simp)]
    show lisR f l.length (acc ++ [a]) (i + (enc a).length) (l.flatMap enc ++ t) = _
    rw [lisR_back l (fun b hb => h b (List.mem_cons_of_mem _ hb))]
    simp [List.flatMap_cons, Nat.add_assoc]
theorem lisR_forth {α : Type} {f : Nat → List Nat → Rs α} {enc : α → List Nat} (hf : Forth f enc) : ∀ (n : Nat) (acc : List α) (i : Nat) (r : List Nat) (l : List α) (j : Nat) (t : List Nat), byts r → lisR f n acc i r = .ok l j t → ∃ l', l = acc ++ l' ∧ l'.length = n ∧ r = l'.flatMap enc ++ t
  | 0, acc, i, r, l, j, t, _, h => by
    cases h
    exact ⟨[], by simp, rfl, rfl⟩
  | n + 1, acc, i, r, l, j, t, hb, h => by
    obtain ⟨a, i1, t1, h1, h3⟩ := bind_ok h
    have e1 := hf _ _ _ _ _ hb h1
    subst e1
    obtain ⟨l', e2, e3, e4⟩ := lisR_forth hf n _ _ _ _ _ _ (byts_app hb) h3
    exact ⟨a :: l', by rw [e2]; simp, by simp [e3], by rw [e4]; simp⟩
def insI (x : Ins) : Nat → Int := fun j => if j = 0 then x.a else if j = 1 then x.b else if j = 2 then x.c else x.d
def insBy (x : Ins) : List Nat := insB x.op.toNat (insI x)
theorem opR_back {k v : Int} (h : OpOk k v) (h0 : k = 0 → v = 0) : Back (opR k) (opB k) v := fun i t => by
  unfold opR opB
  by_cases e0 : k = 0
  · rw [if_pos e0, if_pos e0, h0 e0]
    rfl
  rw [if_neg e0, if_neg e0]
  by_cases e5 : k = 5
  · rw [if_pos e5, if_pos e5]
    exact rsg_back (by rcases h with h | h | h <;> omega) i t
  · rw [if_neg e5, if_neg e5]
    exact rnu_back (by rcases h with h | h | h <;> omega) i t
theorem opR_forth (k : Int) : Forth (opR k) (opB k) := fun i r a j t hb h => by
  unfold opR at h
  unfold opB
  by_cases e0 : k = 0
  · rw [if_pos e0] at h ⊢
    cases h
    rfl
  rw [if_neg e0] at h ⊢
  by_cases e5 : k = 5
  · rw [if_pos e5] at h ⊢
    exact rsg_forth _ _ _ _ _ hb h
  · rw [if_neg e5] at h ⊢
    exact rnu_forth _ _ _ _ _ hb h
theorem kd_same (op : Nat) : Cd.kd4 op = Vf.kd4 op := rfl
theorem insBy_eq (x : Ins) : insBy x = numB x.op.toNat ++ (opB (Vf.kd4 x.op.toNat).1 x.a ++ (opB (Vf.kd4 x.op.toNat).2.1 x.b ++ (opB (Vf.kd4 x.op.toNat).2.2.1 x.c ++ opB (Vf.kd4 x.op.toNat).2.2.2 x.d))) := by
  simp [insBy, insB, insP, insI, pick4, kd_same]
/-- what an instruction must be to be read as it was written -/
structure InsOk (x : Ins) : Prop where
  op : 0 ≤ x.op ∧ x.op < 42
  a : OpOk (Vf.kd4 x.op.toNat).1 x.a ∧ ((Vf.kd4 x.op.toNat).1 = 0 → x.a = 0)
  b : OpOk (Vf.kd4 x.op.toNat).2.1 x.b ∧ ((Vf.kd4 x.op.toNat).2.1 = 0 → x.b = 0)
  c : OpOk (Vf.kd4 x.op.toNat).2.2.1 x.c ∧ ((Vf.kd4 x.op.toNat).2.2.1 = 0 → x.c = 0)
  d : OpOk (Vf.kd4 x.op.toNat).2.2.2 x.d ∧ ((Vf.kd4 x.op.toNat).2.2.2 = 0 → x.d = 0)
theorem insR_back {x : Ins} (h : InsOk x) : Back insR insBy x := fun i t => by
  have a0 := num_numB (n := x.op.toNat) (by have := h.op; omega)
  have a1 := opR_back h.a.1 h.a.2
  have a2 := opR_back h.b.1 h.b.2
  have a3 := opR_back h.c.1 h.c.2
  have a4 := opR_back h.d.1 h.d.2
  unfold Back at a1 a2 a3 a4
  rw [insBy_eq]
  unfold insR
  have hn : ¬ 42 ≤ x.op.toNat := by have := h.op; omega
  simp only [List.append_assoc, Rs.bind, a0, if_neg hn, a1, a2, a3, a4, List.length_append, Nat.add_assoc]
  rw [show ((x.op.toNat : Nat) : Int) = x.op by have := h.op; omega]
theorem insR_forth : Forth insR insBy := fun i r x j t hb h => by
  obtain ⟨op, i1, t1, h1, h⟩ := bind_ok h
  by_cases hop : 42 ≤ op
  · rw [if_pos hop] at h; cases h
  rw [if_neg hop] at h
  obtain ⟨a, i2, t2, h2, h⟩ := bind_ok h
  obtain ⟨b, i3, t3, h3, h⟩ := bind_ok h
  obtain ⟨c, i4, t4, h4, h⟩ := bind_ok h
  obtain ⟨d, i5, t5, h5, h⟩ := bind_ok h
  cases h
  have e1 := (num_inv hb h1).1
  subst e1
  have e2 := opR_forth _ _ _ _ _ _ (byts_app hb) h2
  subst e2
  have e3 := opR_forth _ _ _ _ _ _ (byts_app (byts_app hb)) h3
  subst e3
  have e4 := opR_forth _ _ _ _ _ _ (byts_app (byts_app (byts_app hb))) h4
  subst e4
  have e5 := opR_forth _ _ _ _ _ _ (byts_app (byts_app (byts_app (byts_app hb)))) h5
  subst e5
  rw [insBy_eq]
  simp
/-- the writer's program -/
def toPr (p : Pg) : Pr := ⟨p.gh, p.vs, p.ts, p.on, p.miss, p.cd.map fun x => (x.op.toNat, insI x)⟩
def byP (p : Pg) : List Nat := prgB (toPr p)
theorem byP_eq (p : Pg) : byP p = [87] ++ ((numB p.gh.length ++ (p.gh.flatMap (fun g => [if g then 1 else 0]) ++ (numB p.vs.length ++ (p.vs.flatMap varB ++ (numB p.ts.length ++ p.ts.flatMap fun n => numB n.toNat))))) ++ (p.on.flatMap (fun n => numB (n + 1).toNat) ++ (numB (p.miss + 1).toNat ++ (numB p.cd.length ++ p.cd.flatMap insBy)))) := by
  have e1 : ghB p.gh = p.gh.flatMap fun g => [if g then 1 else 0] := by
    unfold ghB
    induction p.gh with
    | nil => rfl
    | cons g l ih => rw [List.map_cons, List.flatMap_cons, ih]; rfl
  have e2 : cdB (toPr p).cd = p.cd.flatMap insBy := by
    unfold cdB toPr
    rw [List.flatMap_map]
    rfl
  unfold byP prgB tabB
  rw [show (toPr p).gh = p.gh from rfl, show (toPr p).vs = p.vs from rfl, show (toPr p).ts = p.ts from rfl, show (toPr p).on = p.on from rfl, show (toPr p).miss = p.miss from rfl, e1, e2]
  unfold vsB nsB onB
  rw [show (toPr p).cd.length = p.cd.length by simp [toPr]]
  rfl
/-- what a program must be to be read as it was written -/
structure PgOk (p : Pg) : Prop where
  q : p.gh.length ≤ 16
  v : p.vs.length ≤ 16
  t : p.ts.length ≤ 4
  vr : ∀ x ∈ p.vs, (-4611686018427387904 < x.1 ∧ x.1 < 4611686018427387904) ∧ (-4611686018427387904 < x.2.1 ∧ x.2.1 < 4611686018427387904) ∧ (-4611686018427387904 < x.2.2 ∧ x.2.2 < 4611686018427387904)
  tr : ∀ n ∈ p.ts, 0 ≤ n ∧ n < 9223372036854775808
  o : p.on.length = p.gh.length
  or : ∀ n ∈ p.on, -1 ≤ n ∧ n < 9223372036854775807
  ms : -1 ≤ p.miss ∧ p.miss < 9223372036854775807
  c : p.cd.length ≤ 262144
  cr : ∀ x ∈ p.cd, InsOk x
theorem prg_back {p : Pg} (h : PgOk p) (i : Nat) (t : List Nat) : prgR i (byP p ++ t) = .ok p (i + (byP p).length) t := by
  have a1 := cnt_back h.q (by decide)
  have a2 := fun acc => lisR_back (f := gho) (enc := fun g => [if g then 1 else 0]) p.gh (fun g _ => gho_back g) acc
  have a3 := cnt_back h.v (by decide)
  have a4 := fun acc => lisR_back (f := var) (enc := varB) p.vs (fun g hg => var_back (h.vr g hg)) acc
  have a5 := cnt_back h.t (by decide)
  have a6 := fun acc => lisR_back (f := rnu) (enc := fun n => numB n.toNat) p.ts (fun g hg => rnu_back (h.tr g hg)) acc
  have a7 := fun acc => lisR_back (f := rpl) (enc := fun n => numB (n + 1).toNat) p.on (fun g hg => rpl_back (h.or g hg)) acc
  have a8 := rpl_back h.ms
  have a9 := cnt_back h.c (by decide)
  have aa := fun acc => lisR_back (f := insR) (enc := insBy) p.cd (fun g hg => insR_back (h.cr g hg)) acc
  rw [h.o] at a7
  unfold Back at a1 a3 a5 a8 a9
  rw [byP_eq]
  unfold prgR tabR tagR
  simp only [List.append_assoc, List.cons_append, List.nil_append, Rs.bind, if_true, a1, a2, a3, a4, a5, a6, a7, a8, a9, aa, List.length_append, List.length_cons, Nat.add_assoc]
  congr 1
  omega
theorem prg_forth {i j : Nat} {r t : List Nat} {p : Pg} (hb : byts r) (h : prgR i r = .ok p j t) : r = byP p ++ t := by
  obtain ⟨_, i1, t1, h1, h⟩ := bind_ok h
  obtain ⟨x, i2, t2, h2, h⟩ := bind_ok h
  obtain ⟨on, i3, t3, h3, h⟩ := bind_ok h
  obtain ⟨miss, i4, t4, h4, h⟩ := bind_ok h
  obtain ⟨n, i5, t5, h5, h⟩ := bind_ok h
  obtain ⟨cd, i6, t6, h6, h⟩ := bind_ok h
  cases h
  have e1 : r = 87 :: t1 := by
    cases r with
    | nil => cases h1
    | cons b r =>
      unfold tagR at h1
      by_cases e : b = 87
      · simp only [if_pos e] at h1
        cases h1
        rw [e]
      · simp only [if_neg e] at h1; cases h1
  subst e1
  have hb1 : byts t1 := fun x hx => hb x (List.mem_cons_of_mem _ hx)
  obtain ⟨n1, j1, u1, g1, h2⟩ := bind_ok h2
  obtain ⟨gh, j2, u2, g2, h2⟩ := bind_ok h2
  obtain ⟨n2, j3, u3, g3, h2⟩ := bind_ok h2
  obtain ⟨vs, j4, u4, g4, h2⟩ := bind_ok h2
  obtain ⟨n3, j5, u5, g5, h2⟩ := bind_ok h2
  obtain ⟨ts, j6, u6, g6, h2⟩ := bind_ok h2
  cases h2
  have k1 := cnt_forth _ _ _ _ _ _ hb1 g1
  subst k1
  have hb2 := byts_app hb1
  obtain ⟨l2, q2, z2, k2⟩ := lisR_forth gho_forth _ _ _ _ _ _ _ hb2 g2
  subst k2
  have hb3 := byts_app hb2
  have k3 := cnt_forth _ _ _ _ _ _ hb3 g3
  subst k3
  have hb4 := byts_app hb3
  obtain ⟨l4, q4, z4, k4⟩ := lisR_forth var_forth _ _ _ _ _ _ _ hb4 g4
  subst k4
  have hb5 := byts_app hb4
  have k5 := cnt_forth _ _ _ _ _ _ hb5 g5
  subst k5
  have hb6 := byts_app hb5
  obtain ⟨l6, q6, z6, k6⟩ := lisR_forth rnu_forth _ _ _ _ _ _ _ hb6 g6
  subst k6
  have hb7 := byts_app hb6
  obtain ⟨l7, q7, z7, k7⟩ := lisR_forth rpl_forth _ _ _ _ _ _ _ hb7 h3
  subst k7
  have hb8 := byts_app hb7
  have k8 := rpl_forth _ _ _ _ _ hb8 h4
  subst k8
  have hb9 := byts_app hb8
  have k9 := cnt_forth _ _ _ _ _ _ hb9 h5
  subst k9
  have hba := byts_app hb9
  obtain ⟨la, qa, za, ka⟩ := lisR_forth insR_forth _ _ _ _ _ _ _ hba h6
  subst ka
  rw [List.nil_append] at q2 q4 q6 q7 qa
  subst q2 q4 q6 q7 qa
  rw [byP_eq]
  dsimp only
  rw [z2, z4, z6, za]
  simp
/-- what Check takes can be written and is read as it was -/
theorem pgOk_of {p : Pg} (h : chk p = 0) : PgOk p := by
  unfold chk at h
  by_cases hc : tabF p && plcF p
  case neg => rw [if_neg hc] at h; cases h
  rw [if_pos hc] at h
  simp only [Bool.and_eq_true] at hc
  obtain ⟨h1, h2⟩ := hc
  unfold tabF at h1
  unfold plcF at h2
  simp only [Bool.and_eq_true, decide_eq_true_eq, List.all_eq_true] at h1 h2
  obtain ⟨b1, b2, b3, b4, b5⟩ := h1
  obtain ⟨c1, c2, c3, c4⟩ := h2
  have hpl : ∀ n, plcI p n = true → -1 ≤ n ∧ n < (p.cd.length : Int) := fun n hn => by
    unfold plcI at hn
    simpa using hn
  have hfe : ∀ (l : List Ins), firstE (insF p) l = 0 → ∀ x ∈ l, insF p x = 0 := by
    intro l
    induction l with
    | nil => intro _ x hx; cases hx
    | cons y l ih =>
      intro hf x hx
      have hf2 : (if insF p y = 0 then firstE (insF p) l else insF p y) = 0 := hf
      by_cases hy : insF p y = 0
      · rw [if_pos hy] at hf2
        rcases List.mem_cons.1 hx with rfl | hx
        · exact hy
        · exact ih hf2 x hx
      · rw [if_neg hy] at hf2
        exact absurd hf2 hy
  have hin : ∀ (k n : Int), 0 ≤ k → k ≤ 8 → inK p k n = true → OpOk k n ∧ (k = 0 → n = 0) := fun k n k1 k2 hk => by
    unfold inK loK hiK at hk
    simp only [Bool.and_eq_true, decide_eq_true_eq] at hk
    obtain ⟨m1, m2⟩ := hk
    have k9 : k = 0 ∨ k = 1 ∨ k = 2 ∨ k = 3 ∨ k = 4 ∨ k = 5 ∨ k = 6 ∨ k = 7 ∨ k = 8 := by omega
    unfold OpOk
    rcases k9 with rfl | rfl | rfl | rfl | rfl | rfl | rfl | rfl | rfl <;> simp at m1 m2 <;> omega
  have kdle : ∀ op, op < 42 → (0 ≤ (Vf.kd4 op).1 ∧ (Vf.kd4 op).1 ≤ 8) ∧ (0 ≤ (Vf.kd4 op).2.1 ∧ (Vf.kd4 op).2.1 ≤ 8) ∧ (0 ≤ (Vf.kd4 op).2.2.1 ∧ (Vf.kd4 op).2.2.1 ≤ 8) ∧ (0 ≤ (Vf.kd4 op).2.2.2 ∧ (Vf.kd4 op).2.2.2 ≤ 8) := by decide
  refine ⟨b1, b2, b3, fun x hx => ?_, fun n hn => ?_, c1, fun n hn => ?_, ?_, c2, fun x hx => ?_⟩
  · have := b4 x hx
    unfold varF at this
    simp only [Bool.and_eq_true, decide_eq_true_eq] at this
    omega
  · have := b5 n hn
    unfold tagF at this
    simp only [Bool.and_eq_true, decide_eq_true_eq] at this
    omega
  · have := hpl n (c3 n hn)
    omega
  · have := hpl _ c4
    omega
  · have hx2 := hfe _ h x hx
    unfold insF at hx2
    by_cases ho : decide (0 ≤ x.op) && decide (x.op < 42)
    · rw [if_pos ho] at hx2
      simp only [Bool.and_eq_true, decide_eq_true_eq] at ho
      obtain ⟨d1, d2, d3, d4⟩ := kdle x.op.toNat (by omega)
      dsimp only at hx2
      by_cases hk : (inK p (Vf.kd4 x.op.toNat).1 x.a && (inK p (Vf.kd4 x.op.toNat).2.1 x.b && (inK p (Vf.kd4 x.op.toNat).2.2.1 x.c && inK p (Vf.kd4 x.op.toNat).2.2.2 x.d))) = true
      · simp only [Bool.and_eq_true] at hk
        exact ⟨ho, hin _ _ d1.1 d1.2 hk.1, hin _ _ d2.1 d2.2 hk.2.1, hin _ _ d3.1 d3.2 hk.2.2.1, hin _ _ d4.1 d4.2 hk.2.2.2⟩
      · rw [if_neg hk] at hx2; cases hx2
    · rw [if_neg ho] at hx2; cases hx2
theorem dec_byP {p : Pg} (h : chk p = 0) : decR (byP p) = (p, 0, 0) := by
  have q := prg_back (pgOk_of h) 0 []
  rw [List.append_nil] at q
  unfold decR whoR
  rw [q]
  simp only [Rs.bind, if_true, h]
theorem dec_inv {s : List Nat} {p : Pg} {i : Nat} (hb : byts s) (h : decR s = (p, 0, i)) : chk p = 0 ∧ byP p = s ∧ i = 0 := by
  unfold decR at h
  cases hw : whoR s with
  | die er k =>
    exfalso
    rw [hw] at h
    simp only [Prod.mk.injEq] at h
    exact (who_dies hw).1 h.2.1
  | ok q k t =>
    rw [hw] at h
    dsimp only at h
    by_cases hc : chk q = 0
    · rw [if_pos hc] at h
      simp only [Prod.mk.injEq] at h
      obtain ⟨rfl, _, rfl⟩ := h
      refine ⟨hc, ?_, rfl⟩
      obtain ⟨p', j, u, h1, h2⟩ := bind_ok hw
      by_cases hu : u = []
      · rw [if_pos hu] at h2
        cases h2
        have := prg_forth hb h1
        rw [hu, List.append_nil] at this
        exact this.symm
      · rw [if_neg hu] at h2; cases h2
    · rw [if_neg hc] at h
      simp only [Prod.mk.injEq] at h
      exact absurd h.2.1 hc
end Go.Proofs.YtcblichnkakhdaaDoor.Cd
