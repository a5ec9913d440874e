import Derived.Test.YtenhjebiokegkaaLxBase
import Derived.Test.YtenhjebiokegkaaNmRes0
namespace Go.Proofs.Ytenhjebiokegkaa.Nm
open Go.RowKit

/-- a letter and a number's three digits -/
def nbr (c : UInt8) (n : Nat) : ByteArray := ⟨#[c, UInt8.ofNat (48 + n / 100), UInt8.ofNat (48 + n / 10 % 10), UInt8.ofNat (48 + n % 10)]⟩
end Go.Proofs.Ytenhjebiokegkaa.Nm

namespace Go.Proofs.Ytenhjebiokegkaa.Nm
open Go.RowKit Go.Maps Go.Proofs.Ytenhjebiokegkaa.Sp Go.Proofs.Ytenhjebiokegkaa.Lx Go.Proofs.Ytenhjebiokegkaa.Gr

abbrev rw1 (k : Int) (nm : ByteArray) (m : Int) : Rz := ⟨k, nm, 0, 0, m⟩
def ckR (i : Nat) : List Rz := [rw1 7 (nbr 114 i) 1, rw1 11 ⟨#[]⟩ 0]
def ckT (i : Nat) : List Rz := [rw1 5 (nbr 116 i) 1, rw1 29 ⟨#[]⟩ 0]
def ckV (i : Nat) : List Rz := [rw1 4 (nbr 118 i) 3, rw1 29 ⟨#[]⟩ 0, rw1 29 ⟨#[]⟩ 0, rw1 29 ⟨#[]⟩ 0]
def ckQ (i : Nat) : List Rz := [rw1 2 (nbr 113 i) 0]
abbrev abZ : Ab := ⟨0, 1, 1, 1, 0⟩
/-- rows that stand below the policy: one declaration and its own -/
structure Pass (c : List Rz) (kd : Int) : Prop where
  ev : isEvent kd = false
  w : ∀ (K s : Nat) (kid : Int) (i : Nat) (l : List Rz), s < K → isEvent kid = false → wrong [⟨1, K, s, kid, 0⟩, abZ] i (c ++ l) = wrong (pop [⟨1, K, s + 1, kd, 0⟩, abZ]) (i + c.length) l
theorem pop_in {K s : Nat} {kd v : Int} {t : List Ab} (h : s < K) : pop (⟨1, K, s, kd, v⟩ :: t) = ⟨1, K, s, kd, v⟩ :: t := by
  simp only [pop]
  rw [if_neg (by omega)]
theorem pop_out {K : Nat} {kd v : Int} : pop [⟨1, K, K, kd, v⟩, abZ] = [] := by simp [pop]
theorem pass_all (cs : List (List Rz × Int)) (h : ∀ c ∈ cs, Pass c.1 c.2) (K s : Nat) (kid : Int) (i : Nat) (hs : s + cs.length = K) (hk : isEvent kid = false) :
    wrong (pop [⟨1, K, s, kid, 0⟩, abZ]) i (cs.flatMap (·.1)) = (i + (cs.flatMap (·.1)).length, false) := by
  induction cs generalizing s kid i with
  | nil =>
    obtain rfl : s = K := by simpa using hs
    rw [pop_out]
    simp [wrong]
  | cons c cs ih =>
    have hc := h c List.mem_cons_self
    simp only [List.length_cons] at hs
    rw [pop_in (by omega), List.flatMap_cons, hc.w K s kid i _ (by omega) hk, ih (fun d hd => h d (List.mem_cons_of_mem _ hd)) (s + 1) c.2 _ (by omega) hc.ev, List.length_append, Nat.add_assoc]
/-- such rows lie no deeper than may be -/
structure Flat (c : List Rz) (kd : Int) : Prop where
  m : ∀ (l : List Rz) (K s : Nat) (kid : Int) (i : Nat), s < K → ast opn loose l i = [⟨1, K, s, kid, 1⟩] → (∀ j, j < c.length → rat l (i + j) = rat c j) → mx opn loose l i ≤ 64 →
    ast opn loose l (i + c.length) = pop [⟨1, K, s + 1, kd, 1⟩] ∧ mx opn loose l (i + c.length) ≤ 64
theorem flat_all (cs : List (List Rz × Int)) (h : ∀ c ∈ cs, Flat c.1 c.2) (l : List Rz) (K s : Nat) (kid : Int) (i : Nat) (hs : s + cs.length = K) (ha : ast opn loose l i = pop [⟨1, K, s, kid, 1⟩])
    (hl : l.drop i = cs.flatMap (·.1)) (hm : mx opn loose l i ≤ 64) : mx opn loose l (i + (cs.flatMap (·.1)).length) ≤ 64 := by
  induction cs generalizing s kid i with
  | nil => simpa using hm
  | cons c cs ih =>
    have hc := h c List.mem_cons_self
    simp only [List.length_cons] at hs
    rw [pop_in (by omega)] at ha
    rw [List.flatMap_cons] at hl
    obtain ⟨h1, h2⟩ := hc.m l K s kid i (by omega) ha (fun j hj => by
      have := congrArg (fun t : List Rz => t[j]?) hl
      simp only [List.getElem?_drop, List.getElem?_append_left hj] at this
      simp only [rat, List.getD_eq_getElem?_getD, this]) hm
    have := ih (fun d hd => h d (List.mem_cons_of_mem _ hd)) (s + 1) c.2 (i + c.1.length) (by omega) h1 (by rw [← List.drop_drop, hl, List.drop_left]) h2
    rw [List.flatMap_cons, List.length_append, ← Nat.add_assoc]
    exact this
theorem chk_many (nm : ByteArray) (hn : filled (rw1 1 nm 0) = true) (cs : List (List Rz × Int)) (h : ∀ c ∈ cs, Pass c.1 c.2) (hf : ∀ c ∈ cs, Flat c.1 c.2) (hz : cs.length < 9000000000000000000) :
    chk (rw1 1 nm cs.length :: cs.flatMap (·.1)) = (0, 0) := by
  have hfl : filled (rw1 1 nm cs.length) = true := by
    simp only [filled, nameFits, wtn, least, greatest, lastEnd, lastNum] at hn ⊢
    simp at hn ⊢
    exact ⟨hn, by omega⟩
  have hw : wrong [ab1] 0 (rw1 1 nm cs.length :: cs.flatMap (·.1)) = (0 + 1 + (cs.flatMap (·.1)).length, false) := by
    show (if _ then _ else _) = _
    rw [if_neg (by simp [hfl, top, ab1, mayStand])]
    rw [← pass_all cs h cs.length 0 0 (0 + 1) (by omega) rfl]
    rfl
  have hm := flat_all cs hf (rw1 1 nm cs.length :: cs.flatMap (·.1)) cs.length 0 0 1 (by omega) (by
    show past _ _ _ = _
    simp [ast, past, bump, lvl, top, ab0, opn, loose, ruleOf]) (by simp) (by
    show (if _ then _ else _) ≤ _
    have : lev opn loose (rw1 1 nm cs.length :: cs.flatMap (·.1)) 0 = 1 := by simp [lev, lvl, ast, top, ab0, opn, loose, ruleOf]
    rw [this]
    simp [mx])
  unfold chk
  rw [hw]
  have e : (rw1 1 nm cs.length :: cs.flatMap (·.1)).length = 1 + (cs.flatMap (·.1)).length := by simp [Nat.add_comm]
  rw [e, if_neg (by simp), if_neg (by omega)]
end Go.Proofs.Ytenhjebiokegkaa.Nm

namespace Go.Proofs.Ytenhjebiokegkaa.Nm
open Go.RowKit Go.Maps Go.Proofs.Ytenhjebiokegkaa.Sp Go.Proofs.Ytenhjebiokegkaa.Lx Go.Proofs.Ytenhjebiokegkaa.Gr

theorem nbr_all : (List.range 68).all (fun i => isName (tx (nbr 114 i)) && isName (tx (nbr 116 i)) && isName (tx (nbr 118 i)) && isName (tx (nbr 113 i))) = true := by decide +kernel
theorem nbr_is {i : Nat} (h : i < 68) : isName (tx (nbr 114 i)) = true ∧ isName (tx (nbr 116 i)) = true ∧ isName (tx (nbr 118 i)) = true ∧ isName (tx (nbr 113 i)) = true := by
  have := List.all_eq_true.1 nbr_all i (by simpa using h)
  simp only [Bool.and_eq_true] at this
  exact ⟨this.1.1.1, this.1.1.2, this.1.2, this.2⟩
theorem fill_b : filled (rw1 11 ⟨#[]⟩ 0) = true := by decide +kernel
theorem fill_t : filled (rw1 29 ⟨#[]⟩ 0) = true := by decide +kernel
theorem fill_n {k m : Int} {nm : ByteArray} (hn : isName (tx nm) = true) (hk : Gr.nmd k = true) (h : (wtn 0 0 (lastEnd k) && (wtn 0 0 (lastNum k) && wtn m (least k : Nat) (greatest k))) = true) : filled (rw1 k nm m) = true := by
  simp only [filled, nameFits, hk, hn, if_true, Bool.true_and]
  exact h
theorem wrong_step {t : List Ab} {i : Nat} {r : Rz} {l : List Rz} {a : Ab} {u : List Ab} (e : t = a :: u) (h : mayStand a.kind a.seen a.kid r.kind = true) (hf : filled r = true) : wrong t i (r :: l) = wrong (past t r 0) (i + 1) l := by
  subst e
  show (if _ then _ else _) = _
  rw [if_neg (by simp [top, h, hf])]
theorem pass_q {i : Nat} (h : i < 68) : Pass (ckQ i) 2 := ⟨rfl, fun K s kid j l hs hk => by
  show wrong _ j (_ :: l) = _
  rw [wrong_step rfl (by simp [mayStand, isDecl, wtn, hk]) (fill_n (nbr_is h).2.2.2 rfl rfl)]
  rfl⟩
theorem pass_r {i : Nat} (h : i < 68) : Pass (ckR i) 7 := ⟨rfl, fun K s kid j l hs hk => by
  show wrong _ j (_ :: _ :: l) = _
  rw [wrong_step rfl (by simp [mayStand, isDecl, wtn, hk]) (fill_n (nbr_is h).1 rfl rfl)]
  have e : past [⟨1, K, s, kid, 0⟩, abZ] (rw1 7 (nbr 114 i) 1) 0 = [⟨7, 1, 0, 0, 0⟩, ⟨1, K, s + 1, 7, 0⟩, abZ] := by simp [past, bump, pop]
  rw [e, wrong_step rfl (by simp [mayStand]) fill_b]
  rfl⟩
theorem pass_t {i : Nat} (h : i < 68) : Pass (ckT i) 5 := ⟨rfl, fun K s kid j l hs hk => by
  show wrong _ j (_ :: _ :: l) = _
  rw [wrong_step rfl (by simp [mayStand, isDecl, wtn, hk]) (fill_n (nbr_is h).2.1 rfl rfl)]
  have e : past [⟨1, K, s, kid, 0⟩, abZ] (rw1 5 (nbr 116 i) 1) 0 = [⟨5, 1, 0, 0, 0⟩, ⟨1, K, s + 1, 5, 0⟩, abZ] := by simp [past, bump, pop]
  rw [e, wrong_step rfl (by simp [mayStand, mayFollow, isEx, wtn]) fill_t]
  rfl⟩
theorem pass_v {i : Nat} (h : i < 68) : Pass (ckV i) 4 := ⟨rfl, fun K s kid j l hs hk => by
  show wrong _ j (_ :: _ :: _ :: _ :: l) = _
  rw [wrong_step rfl (by simp [mayStand, isDecl, wtn, hk]) (fill_n (nbr_is h).2.2.1 rfl rfl)]
  have e : past [⟨1, K, s, kid, 0⟩, abZ] (rw1 4 (nbr 118 i) 3) 0 = [⟨4, 3, 0, 0, 0⟩, ⟨1, K, s + 1, 4, 0⟩, abZ] := by simp [past, bump, pop]
  rw [e, wrong_step rfl (by simp [mayStand, mayFollow, isEx, wtn]) fill_t]
  have e : past [⟨4, 3, 0, 0, 0⟩, ⟨1, K, s + 1, 4, 0⟩, abZ] (rw1 29 ⟨#[]⟩ 0) 0 = [⟨4, 3, 1, 29, 0⟩, ⟨1, K, s + 1, 4, 0⟩, abZ] := by simp [past, bump, pop]
  rw [e, wrong_step rfl (by simp [mayStand, mayFollow, isEx, wtn]) fill_t]
  have e : past [⟨4, 3, 1, 29, 0⟩, ⟨1, K, s + 1, 4, 0⟩, abZ] (rw1 29 ⟨#[]⟩ 0) 0 = [⟨4, 3, 2, 29, 0⟩, ⟨1, K, s + 1, 4, 0⟩, abZ] := by simp [past, bump, pop]
  rw [e, wrong_step rfl (by simp [mayStand, mayFollow, isEx, wtn]) fill_t]
  rfl⟩
theorem ast_step {l : List Rz} {i : Nat} {t : List Ab} {r : Rz} (h : ast opn loose l i = t) (hr : rat l i = r) : ast opn loose l (i + 1) = past t r (lvl opn loose t r) ∧ lev opn loose l i = lvl opn loose t r := by
  subst h hr
  exact ⟨rfl, rfl⟩
theorem mx_step {l : List Rz} {i : Nat} (h : mx opn loose l i ≤ 64) (hr : lev opn loose l i ≤ 64) : mx opn loose l (i + 1) ≤ 64 := by
  show (if _ then _ else _) ≤ _
  split <;> assumption
theorem flat_q (i : Nat) : Flat (ckQ i) 2 := ⟨fun l K s kid j hs ha hl hm => by
  obtain ⟨a1, b1⟩ := ast_step ha (hl 0 (by simp [ckQ]))
  have c1 : lvl opn loose [⟨1, K, s, kid, 1⟩] (rat (ckQ i) 0) = 1 := by simp [lvl, top, ckQ, opn, loose, ruleOf]
  rw [c1] at a1 b1
  exact ⟨a1, mx_step hm (by omega)⟩⟩
theorem flat_r (i : Nat) : Flat (ckR i) 7 := ⟨fun l K s kid j hs ha hl hm => by
  obtain ⟨a1, b1⟩ := ast_step ha (hl 0 (by simp [ckR]))
  have c1 : lvl opn loose [⟨1, K, s, kid, 1⟩] (rat (ckR i) 0) = 1 := by simp [lvl, top, ckR, opn, loose, ruleOf]
  rw [c1] at a1 b1
  have d1 : past [⟨1, K, s, kid, 1⟩] (rat (ckR i) 0) 1 = [⟨7, 1, 0, 0, 1⟩, ⟨1, K, s + 1, 7, 1⟩] := by simp [past, bump, pop, ckR]
  obtain ⟨a2, b2⟩ := ast_step (a1.trans d1) (hl 1 (by simp [ckR]))
  have c2 : lvl opn loose [⟨7, 1, 0, 0, 1⟩, ⟨1, K, s + 1, 7, 1⟩] (rat (ckR i) 1) = 2 := by simp [lvl, top, ckR, opn, loose, ruleOf]
  rw [c2] at a2 b2
  exact ⟨a2.trans rfl, mx_step (mx_step hm (by omega)) (by omega)⟩⟩
theorem flat_t (i : Nat) : Flat (ckT i) 5 := ⟨fun l K s kid j hs ha hl hm => by
  obtain ⟨a1, b1⟩ := ast_step ha (hl 0 (by simp [ckT]))
  have c1 : lvl opn loose [⟨1, K, s, kid, 1⟩] (rat (ckT i) 0) = 1 := by simp [lvl, top, ckT, opn, loose, ruleOf]
  rw [c1] at a1 b1
  have d1 : past [⟨1, K, s, kid, 1⟩] (rat (ckT i) 0) 1 = [⟨5, 1, 0, 0, 1⟩, ⟨1, K, s + 1, 5, 1⟩] := by simp [past, bump, pop, ckT]
  obtain ⟨a2, b2⟩ := ast_step (a1.trans d1) (hl 1 (by simp [ckT]))
  have c2 : lvl opn loose [⟨5, 1, 0, 0, 1⟩, ⟨1, K, s + 1, 5, 1⟩] (rat (ckT i) 1) = 1 := by simp [lvl, top, ckT, opn, loose, ruleOf]
  rw [c2] at a2 b2
  exact ⟨a2.trans rfl, mx_step (mx_step hm (by omega)) (by omega)⟩⟩
theorem flat_v (i : Nat) : Flat (ckV i) 4 := ⟨fun l K s kid j hs ha hl hm => by
  obtain ⟨a1, b1⟩ := ast_step ha (hl 0 (by simp [ckV]))
  have c1 : lvl opn loose [⟨1, K, s, kid, 1⟩] (rat (ckV i) 0) = 1 := by simp [lvl, top, ckV, opn, loose, ruleOf]
  rw [c1] at a1 b1
  have d1 : past [⟨1, K, s, kid, 1⟩] (rat (ckV i) 0) 1 = [⟨4, 3, 0, 0, 1⟩, ⟨1, K, s + 1, 4, 1⟩] := by simp [past, bump, pop, ckV]
  obtain ⟨a2, b2⟩ := ast_step (a1.trans d1) (hl 1 (by simp [ckV]))
  have c2 : lvl opn loose [⟨4, 3, 0, 0, 1⟩, ⟨1, K, s + 1, 4, 1⟩] (rat (ckV i) 1) = 1 := by simp [lvl, top, ckV, opn, loose, ruleOf]
  rw [c2] at a2 b2
  have d2 : past [⟨4, 3, 0, 0, 1⟩, ⟨1, K, s + 1, 4, 1⟩] (rat (ckV i) 1) 1 = [⟨4, 3, 1, 29, 1⟩, ⟨1, K, s + 1, 4, 1⟩] := by simp [past, bump, pop, ckV]
  obtain ⟨a3, b3⟩ := ast_step (a2.trans d2) (hl 2 (by simp [ckV]))
  have c3 : lvl opn loose [⟨4, 3, 1, 29, 1⟩, ⟨1, K, s + 1, 4, 1⟩] (rat (ckV i) 2) = 1 := by simp [lvl, top, ckV, opn, loose, ruleOf]
  rw [c3] at a3 b3
  have d3 : past [⟨4, 3, 1, 29, 1⟩, ⟨1, K, s + 1, 4, 1⟩] (rat (ckV i) 2) 1 = [⟨4, 3, 2, 29, 1⟩, ⟨1, K, s + 1, 4, 1⟩] := by simp [past, bump, pop, ckV]
  obtain ⟨a4, b4⟩ := ast_step (a3.trans d3) (hl 3 (by simp [ckV]))
  have c4 : lvl opn loose [⟨4, 3, 2, 29, 1⟩, ⟨1, K, s + 1, 4, 1⟩] (rat (ckV i) 3) = 1 := by simp [lvl, top, ckV, opn, loose, ruleOf]
  rw [c4] at a4 b4
  exact ⟨a4.trans rfl, mx_step (mx_step (mx_step (mx_step hm (by omega)) (by omega)) (Int.le_trans (Int.le_of_eq b3) (by decide))) (Int.le_trans (Int.le_of_eq b4) (by decide))⟩⟩
/-- the rows of NamesMany's policy, in their order -/
def cks (r t v q : Nat) : List (List Rz × Int) :=
  (List.range r).map (fun i => (ckR i, 7)) ++ ((List.range t).map (fun i => (ckT i, 5)) ++ ((List.range v).map (fun i => (ckV i, 4)) ++ (List.range q).map (fun i => (ckQ i, 2))))
theorem cks_len (r t v q : Nat) : (cks r t v q).length = r + (t + (v + q)) := by simp [cks]
def bp7 : ByteArray := ⟨#[112]⟩
def manyR (r t v q : Nat) : List Rz := rw1 1 bp7 ((r + (t + (v + q)) : Nat) : Int) :: (cks r t v q).flatMap (·.1)
theorem chk_cks {r t v q : Nat} (hr : r ≤ 68) (ht : t ≤ 68) (hv : v ≤ 68) (hq : q ≤ 68) : chk (manyR r t v q) = (0, 0) := by
  have h1 : ∀ c ∈ cks r t v q, Pass c.1 c.2 ∧ Flat c.1 c.2 := by
    intro c hc
    simp only [cks, List.mem_append, List.mem_map, List.mem_range] at hc
    rcases hc with ⟨i, hi, rfl⟩ | ⟨i, hi, rfl⟩ | ⟨i, hi, rfl⟩ | ⟨i, hi, rfl⟩
    · exact ⟨pass_r (by omega), flat_r i⟩
    · exact ⟨pass_t (by omega), flat_t i⟩
    · exact ⟨pass_v (by omega), flat_v i⟩
    · exact ⟨pass_q (by omega), flat_q i⟩
  have := chk_many bp7 (by decide +kernel) (cks r t v q) (fun c hc => (h1 c hc).1) (fun c hc => (h1 c hc).2) (by rw [cks_len]; omega)
  rw [cks_len] at this
  exact this
end Go.Proofs.Ytenhjebiokegkaa.Nm

namespace Go.Proofs.Ytenhjebiokegkaa.Nm
open Go.RowKit Go.Maps Go.Proofs.Ytenhjebiokegkaa.Sp Go.Proofs.Ytenhjebiokegkaa.Lx Go.Proofs.Ytenhjebiokegkaa.Gr

theorem askN_leaf {i : Nat} {s : Rs} (h1 : decl (rat s.rows i).kind = 0) (h2 : nmd (rat s.rows i).kind = 0) (h3 : (evt (rat s.rows i)).1 = 0) : askN i s 3 = .ok s := by
  have hD : askD i s = .ok s := if_pos h1
  have hM : askM i s = .ok s := if_pos h2
  have hH : askH i s = .ok s := if_pos h3
  simp [askN, ask, hD, hM, hH]
theorem evt_zero {x : Rz} (h : isEvent x.kind = false) : (evt x).1 = 0 := by
  unfold evt
  simp only [isEvent, wtn, Bool.and_eq_false_iff, decide_eq_false_iff_not] at h
  rw [if_neg (by omega), if_neg (by omega)]
theorem askN_dec {i : Nat} {s : Rs} (hi : i < s.rows.length) (h1 : decl (rat s.rows i).kind ≠ 0) (h2 : nmd (rat s.rows i).kind = 0) (h3 : isEvent (rat s.rows i).kind = false) (hk : lk s.known (rat s.rows i).name = none) :
    askN i s 3 = if s.cnt (decl (rat s.rows i).kind) = mst (decl (rat s.rows i).kind) then .error 3 else .ok (s.dec i) := by
  have hr : rat (s.dec i).rows i = { rat s.rows i with n := ((s.cnt (decl (rat s.rows i).kind) : Nat) : Int) } := rat_numb hi
  have e2 : nmd (rat (s.dec i).rows i).kind = 0 := by rw [hr]; exact h2
  have e3 : (evt (rat (s.dec i).rows i)).1 = 0 := evt_zero (by rw [hr]; exact h3)
  have hD : askD i s = if s.cnt (decl (rat s.rows i).kind) = mst (decl (rat s.rows i).kind) then .error 3 else .ok (s.dec i) := by
    unfold askD
    rw [if_neg h1, hk, if_neg (by simp)]
  by_cases hc : s.cnt (decl (rat s.rows i).kind) = mst (decl (rat s.rows i).kind)
  · rw [if_pos hc] at hD ⊢
    simp [askN, ask, hD]
  · rw [if_neg hc] at hD ⊢
    have hM : askM i (s.dec i) = .ok (s.dec i) := if_pos e2
    have hH : askH i (s.dec i) = .ok (s.dec i) := if_pos e3
    simp [askN, ask, hD, hM, hH]
theorem nbr_inj {a b : UInt8} {i j : Nat} (hi : i < 100) (hj : j < 100) (h : nbr a i = nbr b j) : a = b ∧ i = j := by
  unfold nbr at h
  injection h with h
  simp only [Array.mk.injEq, List.cons.injEq] at h
  obtain ⟨h1, _, h3, h4, _⟩ := h
  have h3 := congrArg UInt8.toNat h3
  have h4 := congrArg UInt8.toNat h4
  simp only [UInt8.toNat_ofNat'] at h3 h4
  exact ⟨h1, by omega⟩
/-- so many rules, tags, vars and queues are declared -/
structure Im (l : List Rz) (s : Rs) (a b c d : Nat) : Prop where
  like : s.rows.map clr = l.map clr
  u : s.us.length = a
  t : s.ts.length = b
  v : s.vs.length = c
  q : s.qs.length = d
  kn : ∀ x, lk s.known x ≠ none → (∃ i, i < a ∧ x = nbr 114 i) ∨ (∃ i, i < b ∧ x = nbr 116 i) ∨ (∃ i, i < c ∧ x = nbr 118 i) ∨ (∃ i, i < d ∧ x = nbr 113 i)
  ev : s.ev = []
  le : a ≤ 64 ∧ b ≤ 4 ∧ c ≤ 16 ∧ d ≤ 16
variable {l : List Rz} {s : Rs} {a b c d i : Nat}
theorem Im.row (h : Im l s a b c d) (hi : i < l.length) : (rat s.rows i).kind = (rat l i).kind ∧ (rat s.rows i).name = (rat l i).name ∧ i < s.rows.length := by
  have := like_kind h.like hi
  exact ⟨this.1, this.2.1, by rw [like_len h.like]; exact hi⟩
theorem Im.leaf (h : Im l s a b c d) (hi : i < l.length) (h1 : decl (rat l i).kind = 0) (h2 : nmd (rat l i).kind = 0) (h3 : isEvent (rat l i).kind = false) : askN i s 3 = .ok s := by
  obtain ⟨e1, e2, e3⟩ := h.row hi
  exact askN_leaf (by rw [e1]; exact h1) (by rw [e1]; exact h2) (evt_zero (by rw [e1]; exact h3))
theorem Im.fresh {x : ByteArray} (h : Im l s a b c d) (hx : ¬ ((∃ i, i < a ∧ x = nbr 114 i) ∨ (∃ i, i < b ∧ x = nbr 116 i) ∨ (∃ i, i < c ∧ x = nbr 118 i) ∨ (∃ i, i < d ∧ x = nbr 113 i))) : lk s.known x = none := by
  rcases hk : lk s.known x with _ | y
  · rfl
  · exact absurd (h.kn x (by rw [hk]; simp)) hx
theorem lk_cons {α β : Type} [DecidableEq α] {k : List (α × β)} {y x : α} {z : β} (h : lk ((y, z) :: k) x ≠ none) : x = y ∨ lk k x ≠ none := by
  simp only [lk] at h
  split at h
  · rename_i e
    exact Or.inl e
  · exact Or.inr h
theorem dec_long {k : Int} (h : (rat s.rows i).kind = k) : (s.dec i).us.length = (if k = 7 then s.us.length + 1 else s.us.length) ∧ (s.dec i).ts.length = (if k = 5 then s.ts.length + 1 else s.ts.length) ∧
    (s.dec i).vs.length = (if k = 4 then s.vs.length + 1 else s.vs.length) ∧ (s.dec i).qs.length = (if k = 2 ∨ k = 3 then s.qs.length + 1 else s.qs.length) := by
  subst h
  unfold Rs.dec
  dsimp only
  refine ⟨?_, ?_, ?_, ?_⟩
  · split <;> simp
  · split <;> simp
  · split <;> simp
  · split
    · rename_i e
      rw [if_pos (Or.inl e)]
      simp
    · split
      · rename_i e
        rw [if_pos (Or.inr e)]
        simp
      · rename_i e1 e2
        rw [if_neg (by omega)]
theorem Im.rule (h : Im l s a b c d) (hi : i < l.length) (hr : rat l i = rw1 7 (nbr 114 a) 1) : askN i s 3 = (if a = 64 then .error 3 else .ok (s.dec i)) ∧ (a ≠ 64 → Im l (s.dec i) (a + 1) b c d) := by
  obtain ⟨e1, e2, e3⟩ := h.row hi
  rw [hr] at e1 e2
  replace e1 : (rat s.rows i).kind = 7 := e1
  obtain ⟨d1, d2, d3, d4⟩ := dec_long e1
  have hl := h.le
  have hf := h.fresh (x := nbr 114 a) (by
    rintro (⟨j, hj, e⟩ | ⟨j, hj, e⟩ | ⟨j, hj, e⟩ | ⟨j, hj, e⟩)
    · have := (nbr_inj (by omega) (by omega) e).2; omega
    all_goals exact absurd (nbr_inj (by omega) (by omega) e).1 (by decide))
  have hd := askN_dec (s := s) (i := i) e3 (by rw [e1]; decide) (by rw [e1]; decide) (by rw [e1]; decide) (by rw [e2]; exact hf)
  have hc : s.cnt (decl (rat s.rows i).kind) = a := by rw [e1]; exact h.u
  have hm : mst (decl (rat s.rows i).kind) = 64 := by rw [e1]; rfl
  rw [hc, hm] at hd
  refine ⟨hd, fun ha => ⟨(numb_clr _ _ _).trans h.like, ?_, ?_, ?_, ?_, ?_, h.ev, by omega⟩⟩
  · rw [d1]; exact (if_pos (by decide)).trans (congrArg (· + 1) h.u)
  · rw [d2]; exact (if_neg (by decide)).trans h.t
  · rw [d3]; exact (if_neg (by decide)).trans h.v
  · rw [d4]; exact (if_neg (by decide)).trans h.q
  · intro x hx
    rcases lk_cons hx with rfl | hx
    · exact Or.inl ⟨a, by omega, e2⟩
    · rcases h.kn x hx with ⟨j, hj, e⟩ | hx
      · exact Or.inl ⟨j, by omega, e⟩
      · exact Or.inr hx
theorem Im.tag (h : Im l s a b c d) (hi : i < l.length) (hr : rat l i = rw1 5 (nbr 116 b) 1) : askN i s 3 = (if b = 4 then .error 3 else .ok (s.dec i)) ∧ (b ≠ 4 → Im l (s.dec i) a (b + 1) c d) := by
  obtain ⟨e1, e2, e3⟩ := h.row hi
  rw [hr] at e1 e2
  replace e1 : (rat s.rows i).kind = 5 := e1
  obtain ⟨d1, d2, d3, d4⟩ := dec_long e1
  have hl := h.le
  have hf := h.fresh (x := nbr 116 b) (by
    rintro (⟨j, hj, e⟩ | ⟨j, hj, e⟩ | ⟨j, hj, e⟩ | ⟨j, hj, e⟩)
    · exact absurd (nbr_inj (by omega) (by omega) e).1 (by decide)
    · have := (nbr_inj (by omega) (by omega) e).2; omega
    all_goals exact absurd (nbr_inj (by omega) (by omega) e).1 (by decide))
  have hd := askN_dec (s := s) (i := i) e3 (by rw [e1]; decide) (by rw [e1]; decide) (by rw [e1]; decide) (by rw [e2]; exact hf)
  have hc : s.cnt (decl (rat s.rows i).kind) = b := by rw [e1]; exact h.t
  have hm : mst (decl (rat s.rows i).kind) = 4 := by rw [e1]; rfl
  rw [hc, hm] at hd
  refine ⟨hd, fun ha => ⟨(numb_clr _ _ _).trans h.like, ?_, ?_, ?_, ?_, ?_, h.ev, by omega⟩⟩
  · rw [d1]; exact (if_neg (by decide)).trans h.u
  · rw [d2]; exact (if_pos (by decide)).trans (congrArg (· + 1) h.t)
  · rw [d3]; exact (if_neg (by decide)).trans h.v
  · rw [d4]; exact (if_neg (by decide)).trans h.q
  · intro x hx
    rcases lk_cons hx with rfl | hx
    · exact Or.inr (Or.inl ⟨b, by omega, e2⟩)
    · rcases h.kn x hx with hx | ⟨j, hj, e⟩ | hx
      · exact Or.inl hx
      · exact Or.inr (Or.inl ⟨j, by omega, e⟩)
      · exact Or.inr (Or.inr hx)
theorem Im.var (h : Im l s a b c d) (hi : i < l.length) (hr : rat l i = rw1 4 (nbr 118 c) 3) : askN i s 3 = (if c = 16 then .error 3 else .ok (s.dec i)) ∧ (c ≠ 16 → Im l (s.dec i) a b (c + 1) d) := by
  obtain ⟨e1, e2, e3⟩ := h.row hi
  rw [hr] at e1 e2
  replace e1 : (rat s.rows i).kind = 4 := e1
  obtain ⟨d1, d2, d3, d4⟩ := dec_long e1
  have hl := h.le
  have hf := h.fresh (x := nbr 118 c) (by
    rintro (⟨j, hj, e⟩ | ⟨j, hj, e⟩ | ⟨j, hj, e⟩ | ⟨j, hj, e⟩)
    · exact absurd (nbr_inj (by omega) (by omega) e).1 (by decide)
    · exact absurd (nbr_inj (by omega) (by omega) e).1 (by decide)
    · have := (nbr_inj (by omega) (by omega) e).2; omega
    · exact absurd (nbr_inj (by omega) (by omega) e).1 (by decide))
  have hd := askN_dec (s := s) (i := i) e3 (by rw [e1]; decide) (by rw [e1]; decide) (by rw [e1]; decide) (by rw [e2]; exact hf)
  have hc : s.cnt (decl (rat s.rows i).kind) = c := by rw [e1]; exact h.v
  have hm : mst (decl (rat s.rows i).kind) = 16 := by rw [e1]; rfl
  rw [hc, hm] at hd
  refine ⟨hd, fun ha => ⟨(numb_clr _ _ _).trans h.like, ?_, ?_, ?_, ?_, ?_, h.ev, by omega⟩⟩
  · rw [d1]; exact (if_neg (by decide)).trans h.u
  · rw [d2]; exact (if_neg (by decide)).trans h.t
  · rw [d3]; exact (if_pos (by decide)).trans (congrArg (· + 1) h.v)
  · rw [d4]; exact (if_neg (by decide)).trans h.q
  · intro x hx
    rcases lk_cons hx with rfl | hx
    · exact Or.inr (Or.inr (Or.inl ⟨c, by omega, e2⟩))
    · rcases h.kn x hx with hx | hx | ⟨j, hj, e⟩ | hx
      · exact Or.inl hx
      · exact Or.inr (Or.inl hx)
      · exact Or.inr (Or.inr (Or.inl ⟨j, by omega, e⟩))
      · exact Or.inr (Or.inr (Or.inr hx))
theorem Im.que (h : Im l s a b c d) (hi : i < l.length) (hr : rat l i = rw1 2 (nbr 113 d) 0) : askN i s 3 = (if d = 16 then .error 3 else .ok (s.dec i)) ∧ (d ≠ 16 → Im l (s.dec i) a b c (d + 1)) := by
  obtain ⟨e1, e2, e3⟩ := h.row hi
  rw [hr] at e1 e2
  replace e1 : (rat s.rows i).kind = 2 := e1
  obtain ⟨d1, d2, d3, d4⟩ := dec_long e1
  have hl := h.le
  have hf := h.fresh (x := nbr 113 d) (by
    rintro (⟨j, hj, e⟩ | ⟨j, hj, e⟩ | ⟨j, hj, e⟩ | ⟨j, hj, e⟩)
    · exact absurd (nbr_inj (by omega) (by omega) e).1 (by decide)
    · exact absurd (nbr_inj (by omega) (by omega) e).1 (by decide)
    · exact absurd (nbr_inj (by omega) (by omega) e).1 (by decide)
    · have := (nbr_inj (by omega) (by omega) e).2; omega)
  have hd := askN_dec (s := s) (i := i) e3 (by rw [e1]; decide) (by rw [e1]; decide) (by rw [e1]; decide) (by rw [e2]; exact hf)
  have hc : s.cnt (decl (rat s.rows i).kind) = d := by rw [e1]; exact h.q
  have hm : mst (decl (rat s.rows i).kind) = 16 := by rw [e1]; rfl
  rw [hc, hm] at hd
  refine ⟨hd, fun ha => ⟨(numb_clr _ _ _).trans h.like, ?_, ?_, ?_, ?_, ?_, h.ev, by omega⟩⟩
  · rw [d1]; exact (if_neg (by decide)).trans h.u
  · rw [d2]; exact (if_neg (by decide)).trans h.t
  · rw [d3]; exact (if_neg (by decide)).trans h.v
  · rw [d4]; exact (if_pos (by decide)).trans (congrArg (· + 1) h.q)
  · intro x hx
    rcases lk_cons hx with rfl | hx
    · exact Or.inr (Or.inr (Or.inr ⟨d, by omega, e2⟩))
    · rcases h.kn x hx with hx | hx | hx | ⟨j, hj, e⟩
      · exact Or.inl hx
      · exact Or.inr (Or.inl hx)
      · exact Or.inr (Or.inr (Or.inl hx))
      · exact Or.inr (Or.inr (Or.inr ⟨j, by omega, e⟩))
end Go.Proofs.Ytenhjebiokegkaa.Nm

namespace Go.Proofs.Ytenhjebiokegkaa.Nm
open Go.RowKit Go.Maps Go.Proofs.Ytenhjebiokegkaa.Sp Go.Proofs.Ytenhjebiokegkaa.Lx Go.Proofs.Ytenhjebiokegkaa.Gr

theorem fm_len {f : Nat → List Rz} {m : Nat} (hm : ∀ i, (f i).length = m) (n : Nat) : ((List.range n).flatMap f).length = n * m := by
  induction n with
  | zero => simp
  | succ n ih => rw [List.range_succ, List.flatMap_append, List.length_append, ih]; simp [hm, Nat.succ_mul]
theorem fm_get {f : Nat → List Rz} {m n i j : Nat} (hm : ∀ i, (f i).length = m) (hi : i < n) (hj : j < m) : ((List.range n).flatMap f)[i * m + j]? = (f i)[j]? := by
  induction n with
  | zero => omega
  | succ n ih =>
    rw [List.range_succ, List.flatMap_append]
    by_cases h : i = n
    · subst h
      rw [List.getElem?_append_right (by rw [fm_len hm]; omega), fm_len hm]
      simp
    · have hlt : i * m + j < n * m := by
        have : (i + 1) * m ≤ n * m := Nat.mul_le_mul_right m (by omega)
        rw [Nat.succ_mul] at this
        omega
      rw [List.getElem?_append_left (by rw [fm_len hm]; exact hlt)]
      exact ih (by omega)
theorem cks_flat (r t v q : Nat) : (cks r t v q).flatMap (·.1) = (List.range r).flatMap ckR ++ ((List.range t).flatMap ckT ++ ((List.range v).flatMap ckV ++ (List.range q).flatMap ckQ)) := by
  simp [cks, List.flatMap_map]
theorem lR (i : Nat) : (ckR i).length = 2 := rfl
theorem lT (i : Nat) : (ckT i).length = 2 := rfl
theorem lV (i : Nat) : (ckV i).length = 4 := rfl
theorem lQ (i : Nat) : (ckQ i).length = 1 := rfl
theorem many_len (r t v q : Nat) : (manyR r t v q).length = 1 + (r * 2 + (t * 2 + (v * 4 + q))) := by
  simp only [manyR, cks_flat, List.length_cons, List.length_append, fm_len lR, fm_len lT, fm_len lV, fm_len lQ]
  omega
theorem rat_get {l : List Rz} {i : Nat} {x : Rz} (h : l[i]? = some x) : rat l i = x := by
  simp only [rat, List.getD_eq_getElem?_getD, h, Option.getD_some]
variable {r t v q i j : Nat}
theorem at_R (hi : i < r) (hj : j < 2) : rat (manyR r t v q) (1 + (i * 2 + j)) = rat (ckR i) j := by
  have h : (manyR r t v q)[1 + (i * 2 + j)]? = (ckR i)[j]? := by
    rw [manyR, Nat.add_comm 1, List.getElem?_cons_succ, cks_flat, List.getElem?_append_left (by rw [fm_len lR]; omega), fm_get lR hi hj]
  simp only [rat, List.getD_eq_getElem?_getD, h]
theorem at_T (hi : i < t) (hj : j < 2) : rat (manyR r t v q) (1 + (r * 2 + (i * 2 + j))) = rat (ckT i) j := by
  have h : (manyR r t v q)[1 + (r * 2 + (i * 2 + j))]? = (ckT i)[j]? := by
    rw [manyR, Nat.add_comm 1, List.getElem?_cons_succ, cks_flat, List.getElem?_append_right (by rw [fm_len lR]; omega), fm_len lR, Nat.add_sub_cancel_left,
      List.getElem?_append_left (by rw [fm_len lT]; omega), fm_get lT hi hj]
  simp only [rat, List.getD_eq_getElem?_getD, h]
theorem at_V (hi : i < v) (hj : j < 4) : rat (manyR r t v q) (1 + (r * 2 + (t * 2 + (i * 4 + j)))) = rat (ckV i) j := by
  have h : (manyR r t v q)[1 + (r * 2 + (t * 2 + (i * 4 + j)))]? = (ckV i)[j]? := by
    rw [manyR, Nat.add_comm 1, List.getElem?_cons_succ, cks_flat, List.getElem?_append_right (by rw [fm_len lR]; omega), fm_len lR, Nat.add_sub_cancel_left,
      List.getElem?_append_right (by rw [fm_len lT]; omega), fm_len lT, Nat.add_sub_cancel_left, List.getElem?_append_left (by rw [fm_len lV]; omega), fm_get lV hi hj]
  simp only [rat, List.getD_eq_getElem?_getD, h]
theorem at_Q (hi : i < q) : rat (manyR r t v q) (1 + (r * 2 + (t * 2 + (v * 4 + i)))) = rw1 2 (nbr 113 i) 0 := by
  have h : (manyR r t v q)[1 + (r * 2 + (t * 2 + (v * 4 + i)))]? = (ckQ i)[0]? := by
    have h0 := fm_get (n := q) (j := 0) lQ hi (by decide)
    rw [manyR, Nat.add_comm 1, List.getElem?_cons_succ, cks_flat, List.getElem?_append_right (by rw [fm_len lR]; omega), fm_len lR, Nat.add_sub_cancel_left,
      List.getElem?_append_right (by rw [fm_len lT]; omega), fm_len lT, Nat.add_sub_cancel_left, List.getElem?_append_right (by rw [fm_len lV]; omega), fm_len lV, Nat.add_sub_cancel_left]
    simpa using h0
  exact rat_get h
theorem up_ok {s0 s s' : Rs} {i : Nat} (h : upto s0 i = .ok s) (h2 : askN i s 3 = .ok s') : upto s0 (i + 1) = .ok s' := by simp only [upto, h, h2]
theorem up_no {s0 s : Rs} {i c : Nat} (h : upto s0 i = .ok s) (h2 : askN i s 3 = .error c) : upto s0 (i + 1) = .error (c, i) := by simp only [upto, h, h2]
section
variable (r t v q)
theorem up_0 : ∃ s, upto (start (manyR r t v q)) (1 + 0 * 2) = .ok s ∧ Im (manyR r t v q) s 0 0 0 0 := by
  have h0 : Im (manyR r t v q) (start (manyR r t v q)) 0 0 0 0 := ⟨rfl, rfl, rfl, rfl, rfl, fun x hx => absurd rfl hx, rfl, by omega⟩
  exact ⟨_, up_ok (i := 0) rfl (h0.leaf (by rw [many_len]; omega) (by rfl) (by rfl) (by rfl)), h0⟩
theorem up_R (k : Nat) (hk : k ≤ r) (h64 : k ≤ 64) : ∃ s, upto (start (manyR r t v q)) (1 + k * 2) = .ok s ∧ Im (manyR r t v q) s k 0 0 0 := by
  induction k with
  | zero => exact up_0 r t v q
  | succ k ih =>
    obtain ⟨s, h1, h2⟩ := ih (by omega) (by omega)
    obtain ⟨h3, h4⟩ := h2.rule (i := 1 + (k * 2 + 0)) (by rw [many_len]; omega) (at_R (by omega) (by decide))
    rw [if_neg (by omega)] at h3
    have h5 := h4 (by omega)
    have e : rat (manyR r t v q) (1 + (k * 2 + 1)) = rw1 11 ⟨#[]⟩ 0 := at_R (by omega) (by decide)
    have h6 := h5.leaf (i := 1 + (k * 2 + 1)) (by rw [many_len]; omega) (by rw [e]; rfl) (by rw [e]; rfl) (by rw [e]; rfl)
    refine ⟨_, ?_, h5⟩
    rw [show 1 + (k + 1) * 2 = 1 + (k * 2 + 1) + 1 by omega]
    exact up_ok (up_ok h1 h3) h6
theorem up_T (hr : r ≤ 64) (k : Nat) (hk : k ≤ t) (h64 : k ≤ 4) : ∃ s, upto (start (manyR r t v q)) (1 + (r * 2 + k * 2)) = .ok s ∧ Im (manyR r t v q) s r k 0 0 := by
  induction k with
  | zero =>
    rw [show 1 + (r * 2 + 0 * 2) = 1 + r * 2 by omega]
    exact up_R r t v q r (Nat.le_refl _) hr
  | succ k ih =>
    obtain ⟨s, h1, h2⟩ := ih (by omega) (by omega)
    obtain ⟨h3, h4⟩ := h2.tag (i := 1 + (r * 2 + (k * 2 + 0))) (by rw [many_len]; omega) (at_T (by omega) (by decide))
    rw [if_neg (by omega)] at h3
    have h5 := h4 (by omega)
    have e : rat (manyR r t v q) (1 + (r * 2 + (k * 2 + 1))) = rw1 29 ⟨#[]⟩ 0 := at_T (by omega) (by decide)
    have h6 := h5.leaf (i := 1 + (r * 2 + (k * 2 + 1))) (by rw [many_len]; omega) (by rw [e]; rfl) (by rw [e]; rfl) (by rw [e]; rfl)
    refine ⟨_, ?_, h5⟩
    rw [show 1 + (r * 2 + (k + 1) * 2) = 1 + (r * 2 + (k * 2 + 1)) + 1 by omega]
    exact up_ok (up_ok h1 h3) h6
theorem up_V (hr : r ≤ 64) (ht : t ≤ 4) (k : Nat) (hk : k ≤ v) (h64 : k ≤ 16) : ∃ s, upto (start (manyR r t v q)) (1 + (r * 2 + (t * 2 + k * 4))) = .ok s ∧ Im (manyR r t v q) s r t k 0 := by
  induction k with
  | zero =>
    rw [show 1 + (r * 2 + (t * 2 + 0 * 4)) = 1 + (r * 2 + t * 2) by omega]
    exact up_T r t v q hr t (Nat.le_refl _) ht
  | succ k ih =>
    obtain ⟨s, h1, h2⟩ := ih (by omega) (by omega)
    obtain ⟨h3, h4⟩ := h2.var (i := 1 + (r * 2 + (t * 2 + (k * 4 + 0)))) (by rw [many_len]; omega) (at_V (by omega) (by decide))
    rw [if_neg (by omega)] at h3
    have h5 := h4 (by omega)
    have h6 : ∀ j, 0 < j → j < 4 → askN (1 + (r * 2 + (t * 2 + (k * 4 + j)))) (s.dec (1 + (r * 2 + (t * 2 + (k * 4 + 0))))) 3 = .ok (s.dec (1 + (r * 2 + (t * 2 + (k * 4 + 0))))) := by
      intro j hj0 hj
      have e : rat (manyR r t v q) (1 + (r * 2 + (t * 2 + (k * 4 + j)))) = rw1 29 ⟨#[]⟩ 0 := (at_V (by omega) hj).trans (by
        obtain rfl | rfl | rfl : j = 1 ∨ j = 2 ∨ j = 3 := by omega
        all_goals rfl)
      exact h5.leaf (by rw [many_len]; omega) (by rw [e]; rfl) (by rw [e]; rfl) (by rw [e]; rfl)
    refine ⟨_, ?_, h5⟩
    rw [show 1 + (r * 2 + (t * 2 + (k + 1) * 4)) = 1 + (r * 2 + (t * 2 + (k * 4 + 3))) + 1 by omega]
    exact up_ok (up_ok (up_ok (up_ok h1 h3) (h6 1 (by decide) (by decide))) (h6 2 (by decide) (by decide))) (h6 3 (by decide) (by decide))
theorem up_Q (hr : r ≤ 64) (ht : t ≤ 4) (hv : v ≤ 16) (k : Nat) (hk : k ≤ q) (h64 : k ≤ 16) : ∃ s, upto (start (manyR r t v q)) (1 + (r * 2 + (t * 2 + (v * 4 + k)))) = .ok s ∧ Im (manyR r t v q) s r t v k := by
  induction k with
  | zero => exact up_V r t v q hr ht v (Nat.le_refl _) hv
  | succ k ih =>
    obtain ⟨s, h1, h2⟩ := ih (by omega) (by omega)
    obtain ⟨h3, h4⟩ := h2.que (i := 1 + (r * 2 + (t * 2 + (v * 4 + k)))) (by rw [many_len]; omega) (at_Q (by omega))
    rw [if_neg (by omega)] at h3
    exact ⟨_, up_ok h1 h3, h4 (by omega)⟩
end
end Go.Proofs.Ytenhjebiokegkaa.Nm

namespace Go.Proofs.Ytenhjebiokegkaa.Nm
open Go.RowKit Go.Maps Go.Proofs.Ytenhjebiokegkaa.Sp Go.Proofs.Ytenhjebiokegkaa.Lx Go.Proofs.Ytenhjebiokegkaa.Gr

variable {r t v q : Nat}
/-- the first row that is one too many -/
def over (r t v q : Nat) : Option Nat :=
  if 64 < r then some (1 + 64 * 2) else if 4 < t then some (1 + (r * 2 + 4 * 2)) else if 16 < v then some (1 + (r * 2 + (t * 2 + 16 * 4))) else if 16 < q then some (1 + (r * 2 + (t * 2 + (v * 4 + 16)))) else none
theorem up_from {s0 : Rs} {i n : Nat} {e : Nat × Nat} (h : upto s0 i = .error e) (hi : i ≤ n) : upto s0 n = .error e := by
  have := upto_err h (n - i)
  rwa [show i + (n - i) = n by omega] at this
theorem up_over {k : Nat} (h : over r t v q = some k) : upto (start (manyR r t v q)) (manyR r t v q).length = .error (3, k) := by
  unfold over at h
  split at h
  · cases h
    obtain ⟨s, h1, h2⟩ := up_R r t v q 64 (by omega) (by omega)
    have h3 := (h2.rule (i := 1 + (64 * 2 + 0)) (by rw [many_len]; omega) (at_R (by omega) (by decide))).1
    exact up_from (up_no h1 h3) (by rw [many_len]; omega)
  split at h
  · cases h
    obtain ⟨s, h1, h2⟩ := up_T r t v q (by omega) 4 (by omega) (by omega)
    have h3 := (h2.tag (i := 1 + (r * 2 + (4 * 2 + 0))) (by rw [many_len]; omega) (at_T (by omega) (by decide))).1
    exact up_from (up_no h1 h3) (by rw [many_len]; omega)
  split at h
  · cases h
    obtain ⟨s, h1, h2⟩ := up_V r t v q (by omega) (by omega) 16 (by omega) (by omega)
    have h3 := (h2.var (i := 1 + (r * 2 + (t * 2 + (16 * 4 + 0)))) (by rw [many_len]; omega) (at_V (by omega) (by decide))).1
    exact up_from (up_no h1 h3) (by rw [many_len]; omega)
  split at h
  · cases h
    obtain ⟨s, h1, h2⟩ := up_Q r t v q (by omega) (by omega) (by omega) 16 (by omega) (by omega)
    have h3 := (h2.que (i := 1 + (r * 2 + (t * 2 + (v * 4 + 16)))) (by rw [many_len]; omega) (at_Q (by omega))).1
    exact up_from (up_no h1 h3) (by rw [many_len]; omega)
  · cases h
theorem up_none (h : over r t v q = none) : ∃ s, upto (start (manyR r t v q)) (manyR r t v q).length = .ok s ∧ Im (manyR r t v q) s r t v q := by
  unfold over at h
  split at h
  · cases h
  split at h
  · cases h
  split at h
  · cases h
  split at h
  · cases h
  rw [many_len]
  exact up_Q r t v q (by omega) (by omega) (by omega) q (Nat.le_refl _) (by omega)
theorem big_none {l : List Rz} {sums : List Nat} (n : Nat) (h : ∀ k, k < n → (evt (rat l k)).1 = 0) : big l sums n = .ok 0 := by
  induction n with
  | zero => rfl
  | succ n ih =>
    simp only [big]
    rw [ih (fun k hk => h k (by omega))]
    dsimp only
    rw [if_pos (h n (by omega))]
theorem many_ev {x : Rz} (h : x ∈ manyR r t v q) : isEvent x.kind = false := by
  rw [manyR, cks_flat] at h
  simp only [List.mem_cons, List.mem_append, List.mem_flatMap, ckR, ckT, ckV, ckQ, List.not_mem_nil, or_false] at h
  rcases h with rfl | ⟨i, -, rfl | rfl⟩ | ⟨i, -, rfl | rfl⟩ | ⟨i, -, rfl | rfl | rfl | rfl⟩ | ⟨i, -, rfl⟩
  all_goals rfl
/-- what Resolve tells of the rows of NamesMany -/
theorem res_over (hr : r ≤ 68) (ht : t ≤ 68) (hv : v ≤ 68) (hq : q ≤ 68) {k : Nat} (h : over r t v q = some k) : res (manyR r t v q) = .error (3, k) := by
  unfold res
  rw [chk_cks hr ht hv hq, if_neg (by simp), up_over h]
  rfl
theorem res_many (hr : r ≤ 68) (ht : t ≤ 68) (hv : v ≤ 68) (hq : q ≤ 68) (h : over r t v q = none) :
    ∃ p, res (manyR r t v q) = .ok p ∧ p.us.length = r ∧ p.ts.length = t ∧ p.vs.length = v ∧ p.qs.length = q ∧ p.on.length = q ∧ p.rows.length = (manyR r t v q).length := by
  obtain ⟨s, h1, h2⟩ := up_none h
  have hll := like_len h2.like
  have hb : ∀ sums, big s.rows sums s.rows.length = .ok 0 := fun sums => big_none _ fun k hk => evt_zero (by
    rw [hll] at hk
    rw [(h2.row hk).1]
    refine many_ev (r := r) (t := t) (v := v) (q := q) ?_
    simp only [rat, List.getD_eq_getElem?_getD, List.getElem?_eq_getElem hk, Option.getD_some]
    exact List.getElem_mem hk)
  refine ⟨⟨(rat (manyR r t v q) 0).name, s.rows, s.qs, s.vs, s.ts, s.us, onsOf s.ev s.qs.length, plc s.ev (5, 0)⟩, ?_, h2.u, h2.t, h2.v, h2.q, (onsOf_len _ _).trans h2.q, hll⟩
  unfold res
  rw [chk_cks hr ht hv hq, if_neg (by simp), h1]
  simp only [resR, hb]
end Go.Proofs.Ytenhjebiokegkaa.Nm

namespace Go.Proofs.Ytenhjebiokegkaa.Nm
open Go.RowKit Go.Maps Go.Proofs.Ytenhjebiokegkaa.Sp Go.Proofs.Ytenhjebiokegkaa.Lx Go.Proofs.Ytenhjebiokegkaa.Gr

/-- the most levels, in one pass -/
def mxF (t : List Ab) (m : Int) : List Rz → Int
  | [] => m
  | r :: l => mxF (past t r (lvl opn loose t r)) (if m < lvl opn loose t r then lvl opn loose t r else m) l
theorem mxF_eq (l : List Rz) : ∀ (n i : Nat), i + n = l.length → mxF (ast opn loose l i) (mx opn loose l i) (l.drop i) = mx opn loose l l.length := by
  intro n
  induction n with
  | zero =>
    intro i hi
    obtain rfl : i = l.length := by omega
    rw [List.drop_length]
    rfl
  | succ n ih =>
    intro i hi
    have hlt : i < l.length := by omega
    have e : l.drop i = rat l i :: l.drop (i + 1) := by
      rw [List.drop_eq_getElem_cons hlt]
      simp [rat, List.getD_eq_getElem?_getD, List.getElem?_eq_getElem hlt]
    rw [e]
    exact ih (i + 1) (by omega)
def chkF (l : List Rz) : Nat × Nat := if (wrong [ab1] 0 l).2 then (23, (wrong [ab1] 0 l).1) else if 64 < mxF [] 0 l then (22, 0) else (0, 0)
theorem chkF_eq (l : List Rz) : chk l = chkF l := by
  unfold chk chkF
  have := mxF_eq l l.length 0 (by omega)
  rw [List.drop_zero] at this
  have h2 : mxF [] 0 l = mx opn loose l l.length := this
  rw [h2]
/-- the rows of NamesLarge -/
def ckL (c i : Nat) : List Rz := rw1 7 (nbr 114 (i + 1)) 1 :: rw1 11 ⟨#[]⟩ c :: List.replicate c (rw1 22 (nbr 114 i) 0)
def lgH (r : Nat) : List Rz := [rw1 1 bp7 ((r + 1 : Nat) : Int), rw1 7 (nbr 114 0) 1, rw1 11 ⟨#[]⟩ 1, rw1 23 ⟨#[]⟩ 0]
def lgE (r : Nat) : List Rz := [rw1 10 ⟨#[]⟩ 1, rw1 11 ⟨#[]⟩ 1, rw1 22 (nbr 114 (r - 1)) 0]
def lgR (r c : Nat) : List Rz := lgH r ++ (List.range (r - 1)).flatMap (ckL c) ++ lgE r
/-- how many rows a rule's block is, with calls laid open -/
def ldN (c : Nat) : Nat → Nat
  | 0 => 2
  | i + 1 => min (1 + c * (1 + ldN c i)) 1125899906842624
def okF (r c : Nat) : Bool := decide ((chkF (lgR r c)).1 = 0) && match resR (rat (lgR r c) 0).name (upto (start (lgR r c)) (lgR r c).length) with
  | .error e => decide (16384 < ldN c (r - 1) + 2 ∧ e = (34, (lgR r c).length - 3))
  | .ok p => decide (ldN c (r - 1) + 2 ≤ 16384 ∧ p.miss = ((lgR r c).length - 2 : Nat) ∧ laidAt p.rows (sumsOf p.rows p.us) p.miss.toNat = ldN c (r - 1) + 2)
end Go.Proofs.Ytenhjebiokegkaa.Nm

namespace Go.Proofs.Ytenhjebiokegkaa.Nm
open Go.RowKit Go.Maps Go.Proofs.Ytenhjebiokegkaa.Sp Go.Proofs.Ytenhjebiokegkaa.Lx Go.Proofs.Ytenhjebiokegkaa.Gr

/-- where a rule of NamesLarge stands -/
def rpos (c : Nat) : Nat → Nat
  | 0 => 1
  | i + 1 => 4 + i * (2 + c)
theorem ckL_len (c i : Nat) : (ckL c i).length = 2 + c := by simp [ckL]; omega
theorem lg_len (r c : Nat) : (lgR r c).length = 4 + (r - 1) * (2 + c) + 3 := by
  simp only [lgR, List.length_append, fm_len (ckL_len c)]
  rfl
variable {r c i j : Nat}
theorem lg_H (hj : j < 4) : rat (lgR r c) j = rat (lgH r) j := by
  have h : (lgR r c)[j]? = (lgH r)[j]? := by
    rw [lgR, List.append_assoc, List.getElem?_append_left (by simpa [lgH] using hj)]
  simp only [rat, List.getD_eq_getElem?_getD, h]
theorem lg_C (hi : i < r - 1) (hj : j < 2 + c) : rat (lgR r c) (4 + (i * (2 + c) + j)) = rat (ckL c i) j := by
  have hlt : i * (2 + c) + j < (r - 1) * (2 + c) := by
    have := Nat.mul_le_mul_right (2 + c) (show i + 1 ≤ r - 1 by omega)
    rw [Nat.succ_mul] at this
    omega
  have h : (lgR r c)[4 + (i * (2 + c) + j)]? = (ckL c i)[j]? := by
    rw [lgR, List.append_assoc, List.getElem?_append_right (by simp [lgH]), List.getElem?_append_left (by rw [fm_len (ckL_len c)]; simp only [lgH, List.length_cons, List.length_nil]; omega)]
    rw [show 4 + (i * (2 + c) + j) - (lgH r).length = i * (2 + c) + j by simp only [lgH, List.length_cons, List.length_nil]; omega, fm_get (ckL_len c) hi hj]
  simp only [rat, List.getD_eq_getElem?_getD, h]
theorem lg_E : rat (lgR r c) (4 + (r - 1) * (2 + c) + j) = rat (lgE r) j := by
  have h : (lgR r c)[4 + (r - 1) * (2 + c) + j]? = (lgE r)[j]? := by
    rw [lgR, List.getElem?_append_right (by rw [List.length_append, fm_len (ckL_len c)]; simp only [lgH, List.length_cons, List.length_nil]; omega), List.length_append, fm_len (ckL_len c)]
    rw [show 4 + (r - 1) * (2 + c) + j - ((lgH r).length + (r - 1) * (2 + c)) = j by simp only [lgH, List.length_cons, List.length_nil]; omega]
  simp only [rat, List.getD_eq_getElem?_getD, h]
theorem ck_call (hj : j < c) : rat (ckL c i) (2 + j) = rw1 22 (nbr 114 i) 0 := by
  have h : (ckL c i)[2 + j]? = some (rw1 22 (nbr 114 i) 0) := by
    rw [ckL, Nat.add_comm 2, List.getElem?_cons_succ, List.getElem?_cons_succ, List.getElem?_replicate, if_pos hj]
  exact rat_get h
/-- ends -/
theorem sz_at {l : List Rz} {p m : Nat} (hp : p < l.length) : sz (l.drop p) (m + 1) = (sz (l.drop (p + 1)) (m + (rat l p).m)).map (· + 1) := by
  have e : l.drop p = rat l p :: l.drop (p + 1) := by
    rw [List.drop_eq_getElem_cons hp]
    simp [rat, List.getD_eq_getElem?_getD, List.getElem?_eq_getElem hp]
  rw [e]
  simp only [sz]
  rw [if_neg (by omega), Nat.add_sub_cancel]
theorem sz_calls {l : List Rz} (k : Nat) : ∀ p, p + k ≤ l.length → (∀ j, j < k → (rat l (p + j)).m = 0) → sz (l.drop p) k = some k := by
  induction k with
  | zero => intro p _ _; exact sz_zero _
  | succ k ih =>
    intro p hp h
    have h0 : (rat l p).m = 0 := h 0 (by omega)
    rw [sz_at (by omega), h0, Nat.add_zero k, ih (p + 1) (by omega) (fun j hj => by
      have := h (j + 1) (by omega)
      rwa [show p + (j + 1) = p + 1 + j by omega] at this)]
    rfl
theorem end_block {l : List Rz} {p k : Nat} (hm : (rat l p).m = k) (hc : ∀ j, j < k → (rat l (p + 1 + j)).m = 0) (hl : p + 1 + k ≤ l.length) : endp l p = p + 1 + k := by
  unfold endp
  rw [sz_at (m := 0) (by omega), hm, Nat.zero_add, sz_calls k (p + 1) hl hc]
  simp
  omega
theorem end_rule {l : List Rz} {p k : Nat} (h1 : (rat l p).m = 1) (hm : (rat l (p + 1)).m = k) (hc : ∀ j, j < k → (rat l (p + 2 + j)).m = 0) (hl : p + 2 + k ≤ l.length) : endp l p = p + 2 + k := by
  unfold endp
  rw [sz_at (m := 0) (by omega), h1, Nat.zero_add, sz_at (m := 0) (by omega), hm, Nat.zero_add, sz_calls k (p + 1 + 1) (by omega) hc]
  simp
  omega
end Go.Proofs.Ytenhjebiokegkaa.Nm
namespace Go.Proofs.Ytenhjebiokegkaa.Nm
open Go.RowKit Go.Maps Go.Proofs.Ytenhjebiokegkaa.Sp Go.Proofs.Ytenhjebiokegkaa.Lx Go.Proofs.Ytenhjebiokegkaa.Gr
/-- Resolve under way at NamesLarge's rows: so many are gone through, so many rules are known -/
structure Lg (l : List Rz) (c : Nat) (s : Rs) (n a : Nat) (e : List ((Nat × Nat) × Nat)) : Prop where
  like : s.rows.map clr = l.map clr
  u : s.us = (List.range a).map fun i => rpos c i + 1
  q : s.qs = []
  v : s.vs = []
  t : s.ts = []
  kn : ∀ x, lk s.known x ≠ none → ∃ i, i < a ∧ x = nbr 114 i
  is : ∀ i, i < a → lk s.known (nbr 114 i) = some (4, i, endp l (rpos c i))
  ev : s.ev = e
  cl : ∀ k, k < n → (rat l k).kind = 22 → ∀ i, i < 100 → (rat l k).name = nbr 114 i → (rat s.rows k).n = (i : Int)
  le : a ≤ 64
variable {l : List Rz} {c n a : Nat} {s : Rs} {e : List ((Nat × Nat) × Nat)}
theorem Lg.row (h : Lg l c s n a e) {i : Nat} (hi : i < l.length) : (rat s.rows i).kind = (rat l i).kind ∧ (rat s.rows i).name = (rat l i).name ∧ i < s.rows.length := by
  have := like_kind h.like hi
  exact ⟨this.1, this.2.1, by rw [like_len h.like]; exact hi⟩
theorem Lg.leaf (h : Lg l c s n a e) (hi : n < l.length) (h1 : decl (rat l n).kind = 0) (h2 : nmd (rat l n).kind = 0) (h3 : isEvent (rat l n).kind = false) (h4 : (rat l n).kind ≠ 22) : askN n s 3 = .ok s ∧ Lg l c s (n + 1) a e := by
  obtain ⟨e1, e2, e3⟩ := h.row hi
  refine ⟨askN_leaf (by rw [e1]; exact h1) (by rw [e1]; exact h2) (evt_zero (by rw [e1]; exact h3)), h.like, h.u, h.q, h.v, h.t, h.kn, h.is, h.ev, fun k hk hk2 => ?_, h.le⟩
  by_cases hkn : k = n
  · subst hkn; exact absurd hk2 h4
  · exact h.cl k (by omega) hk2
theorem rat_numbQ {l : List Rz} {i j n : Nat} (h : j ≠ i) : rat (numb l i n) j = rat l j := by
  unfold numb rat
  simp only [List.getD_eq_getElem?_getD, List.getElem?_set_ne (Ne.symm h)]
theorem Lg.rule (h : Lg l c s n a e) (hi : n < l.length) (hr : rat l n = rw1 7 (nbr 114 a) 1) (hn : n = rpos c a) (ha : a < 64) : ∃ s', askN n s 3 = .ok s' ∧ Lg l c s' (n + 1) (a + 1) e := by
  obtain ⟨e1, e2, e3⟩ := h.row hi
  rw [hr] at e1 e2
  replace e1 : (rat s.rows n).kind = 7 := e1
  replace e2 : (rat s.rows n).name = nbr 114 a := e2
  have hf : lk s.known (nbr 114 a) = none := by
    rcases hk : lk s.known (nbr 114 a) with _ | y
    · rfl
    · obtain ⟨k, hk1, hk2⟩ := h.kn (nbr 114 a) (by rw [hk]; simp)
      have := (nbr_inj (by omega) (by omega) hk2).2
      omega
  have hd := askN_dec (s := s) (i := n) e3 (by rw [e1]; decide) (by rw [e1]; decide) (by rw [e1]; decide) (by rw [e2]; exact hf)
  have hul : s.us.length = a := by rw [h.u]; simp
  have hc : s.cnt (decl (rat s.rows n).kind) = a := by rw [e1]; exact hul
  have hm : mst (decl (rat s.rows n).kind) = 64 := by rw [e1]; rfl
  rw [hc, hm, if_neg (by omega)] at hd
  have hkn : (s.dec n).known = (nbr 114 a, 4, a, endp l n) :: s.known := by
    unfold Rs.dec
    dsimp only
    rw [hc, e2, e1, endp_like ((numb_clr _ _ _).trans h.like)]
    rfl
  refine ⟨_, hd, (numb_clr _ _ _).trans h.like, ?_, ?_, ?_, ?_, ?_, ?_, h.ev, ?_, by omega⟩
  · show (if (rat s.rows n).kind = 7 then s.us ++ [n + 1] else s.us) = _
    rw [if_pos e1, h.u, List.range_succ, List.map_append, hn]
    rfl
  · show (if (rat s.rows n).kind = 2 then _ else if (rat s.rows n).kind = 3 then _ else s.qs) = _
    rw [if_neg (by rw [e1]; decide), if_neg (by rw [e1]; decide)]
    exact h.q
  · show (if (rat s.rows n).kind = 4 then _ else s.vs) = _
    rw [if_neg (by rw [e1]; decide)]
    exact h.v
  · show (if (rat s.rows n).kind = 5 then _ else s.ts) = _
    rw [if_neg (by rw [e1]; decide)]
    exact h.t
  · intro x hx
    rw [hkn] at hx
    rcases lk_cons hx with rfl | hx
    · exact ⟨a, by omega, rfl⟩
    · obtain ⟨k, hk1, hk2⟩ := h.kn x hx
      exact ⟨k, by omega, hk2⟩
  · intro k hk
    rw [hkn]
    simp only [lk]
    by_cases hka : k = a
    · subst hka
      rw [if_pos rfl, hn]
    · rw [if_neg (fun e => hka (nbr_inj (by omega) (by omega) e).2)]
      exact h.is k (by omega)
  · intro k hk hk2 z hz hz2
    have hne : k ≠ n := fun e => by
      subst e
      rw [hr] at hk2
      exact absurd (show (7 : Int) = 22 from hk2) (by decide)
    show (rat (numb _ _ _) k).n = _
    rw [rat_numbQ hne]
    exact h.cl k (by omega) hk2 z hz hz2
theorem Lg.call (h : Lg l c s n a e) (hi : n < l.length) {i : Nat} (hr : rat l n = rw1 22 (nbr 114 i) 0) (hia : i < a) (hp : endp l (rpos c i) ≤ n) : ∃ s', askN n s 3 = .ok s' ∧ Lg l c s' (n + 1) a e := by
  obtain ⟨e1, e2, e3⟩ := h.row hi
  rw [hr] at e1 e2
  replace e1 : (rat s.rows n).kind = 22 := e1
  replace e2 : (rat s.rows n).name = nbr 114 i := e2
  have hle := h.le
  have hD : askD n s = .ok s := if_pos (by rw [e1]; rfl)
  have hM : askM n s = .ok { s with rows := numb s.rows n i } := by
    unfold askM
    rw [if_neg (by rw [e1]; decide), e2, h.is i hia]
    dsimp only
    rw [if_neg (by omega), if_neg (by rw [e1]; decide)]
  have hH : askH n { s with rows := numb s.rows n i } = .ok { s with rows := numb s.rows n i } := if_pos (evt_zero (by
    show isEvent (rat (numb s.rows n i) n).kind = false
    rw [rat_numb e3]
    show isEvent (rat s.rows n).kind = false
    rw [e1]
    rfl))
  refine ⟨{ s with rows := numb s.rows n i }, by simp [askN, ask, hD, hM, hH], (numb_clr _ _ _).trans h.like, h.u, h.q, h.v, h.t, h.kn, h.is, h.ev, fun k hk hk2 z hz hz2 => ?_, h.le⟩
  show (rat (numb _ _ _) k).n = _
  by_cases hkn : k = n
  · subst hkn
    rw [rat_numb e3]
    rw [hr] at hz2
    have := (nbr_inj (by omega) hz hz2).2
    subst this
    rfl
  · rw [rat_numbQ hkn]
    exact h.cl k (by omega) hk2 z hz hz2
theorem Lg.event (h : Lg l c s n a []) (hi : n < l.length) (hr : (rat l n).kind = 10) : ∃ s', askN n s 3 = .ok s' ∧ Lg l c s' (n + 1) a [((5, 0), n + 1)] := by
  obtain ⟨e1, e2, e3⟩ := h.row hi
  rw [hr] at e1
  have hD : askD n s = .ok s := if_pos (by rw [e1]; rfl)
  have hM : askM n s = .ok s := if_pos (by rw [e1]; rfl)
  have hE : evt (rat s.rows n) = (5, 0) := by unfold evt; rw [e1]; rfl
  have hN : evn (rat s.rows n) = (5, 0) := by unfold evn; rw [hE]; rfl
  have hH : askH n s = .ok { s with ev := [((5, 0), n + 1)] } := by
    unfold askH
    rw [hE, hN, h.ev, if_neg (by decide), if_neg (by simp [lk])]
  refine ⟨{ s with ev := [((5, 0), n + 1)] }, by simp [askN, ask, hD, hM, hH], h.like, h.u, h.q, h.v, h.t, h.kn, h.is, rfl, fun k hk hk2 z hz hz2 => ?_, h.le⟩
  by_cases hkn : k = n
  · subst hkn; rw [hr] at hk2; exact absurd hk2 (by decide)
  · exact h.cl k (by omega) hk2 z hz hz2
end Go.Proofs.Ytenhjebiokegkaa.Nm

namespace Go.Proofs.Ytenhjebiokegkaa.Nm
open Go.RowKit Go.Maps Go.Proofs.Ytenhjebiokegkaa.Sp Go.Proofs.Ytenhjebiokegkaa.Lx Go.Proofs.Ytenhjebiokegkaa.Gr

variable {r c i : Nat}
theorem rw_m (k : Int) (nm : ByteArray) (m : Nat) : (rw1 k nm (m : Int)).m = m := by simp [Rz.m]
theorem mul_in {i r m : Nat} (h : i < r - 1) : i * m + m ≤ (r - 1) * m := by
  have := Nat.mul_le_mul_right m (show i + 1 ≤ r - 1 by omega)
  rwa [Nat.succ_mul] at this
/-- where a rule and its block end -/
theorem lg_end (hi : i < r) : endp (lgR r c) (rpos c i) = 4 + i * (2 + c) ∧ endp (lgR r c) (rpos c i + 1) = 4 + i * (2 + c) := by
  cases i with
  | zero =>
    have h1 : rat (lgR r c) 1 = rw1 7 (nbr 114 0) 1 := lg_H (by decide)
    have h2 : rat (lgR r c) 2 = rw1 11 ⟨#[]⟩ 1 := lg_H (by decide)
    have h3 : rat (lgR r c) 3 = rw1 23 ⟨#[]⟩ 0 := lg_H (by decide)
    have hc : ∀ j, j < 1 → (rat (lgR r c) (3 + j)).m = 0 := fun j hj => by
      obtain rfl : j = 0 := by omega
      rw [Nat.add_zero, h3]
      rfl
    refine ⟨(end_rule (p := 1) (k := 1) (by rw [h1]; rfl) (by rw [h2]; rfl) hc (by rw [lg_len]; omega)).trans (by omega), (end_block (p := 2) (k := 1) (by rw [h2]; rfl) hc (by rw [lg_len]; omega)).trans (by omega)⟩
  | succ i =>
    have hm := mul_in (m := 2 + c) (show i < r - 1 by omega)
    have h1 : rat (lgR r c) (4 + (i * (2 + c) + 0)) = rw1 7 (nbr 114 (i + 1)) 1 := lg_C (by omega) (by omega)
    have h2 : rat (lgR r c) (4 + (i * (2 + c) + 1)) = rw1 11 ⟨#[]⟩ c := lg_C (by omega) (by omega)
    have hc : ∀ j, j < c → (rat (lgR r c) (4 + i * (2 + c) + 2 + j)).m = 0 := fun j hj => by
      rw [show 4 + i * (2 + c) + 2 + j = 4 + (i * (2 + c) + (2 + j)) by omega, lg_C (by omega) (by omega), ck_call hj]
      rfl
    rw [Nat.succ_mul]
    refine ⟨(end_rule (p := 4 + i * (2 + c)) (k := c) ?_ ?_ hc ?_).trans (by omega), (end_block (p := 4 + i * (2 + c) + 1) (k := c) ?_ hc ?_).trans (by omega)⟩
    · rw [show 4 + i * (2 + c) = 4 + (i * (2 + c) + 0) by omega, h1]; rfl
    · rw [show 4 + i * (2 + c) + 1 = 4 + (i * (2 + c) + 1) by omega, h2]; exact rw_m _ _ _
    · rw [lg_len]; omega
    · rw [show 4 + i * (2 + c) + 1 = 4 + (i * (2 + c) + 1) by omega, h2]; exact rw_m _ _ _
    · rw [lg_len]; omega
theorem lg_endE (hr : 1 ≤ r) : endp (lgR r c) (4 + (r - 1) * (2 + c) + 1) = 4 + (r - 1) * (2 + c) + 3 := by
  have _ := hr
  have h2 : rat (lgR r c) (4 + (r - 1) * (2 + c) + 1) = rw1 11 ⟨#[]⟩ 1 := lg_E
  have h3 : rat (lgR r c) (4 + (r - 1) * (2 + c) + 2) = rw1 22 (nbr 114 (r - 1)) 0 := lg_E
  refine end_block (k := 1) (by rw [h2]; rfl) (fun j hj => ?_) (by rw [lg_len]; omega)
  obtain rfl : j = 0 := by omega
  show (rat (lgR r c) (4 + (r - 1) * (2 + c) + 2)).m = 0
  rw [h3]
  rfl
theorem Lg.start : Lg (lgR r c) c (start (lgR r c)) 0 0 [] := ⟨rfl, rfl, rfl, rfl, rfl, fun x hx => absurd rfl hx, fun i hi => by omega, rfl, fun k hk => by omega, by omega⟩
theorem lg_calls (hi : i + 1 < r) (h64 : r ≤ 64) {s : Rs} (h1 : upto (Nm.start (lgR r c)) (4 + (i * (2 + c) + 2)) = .ok s) (h2 : Lg (lgR r c) c s (4 + (i * (2 + c) + 2)) (i + 2) []) (j : Nat) (hj : j ≤ c) :
    ∃ s, upto (Nm.start (lgR r c)) (4 + (i * (2 + c) + (2 + j))) = .ok s ∧ Lg (lgR r c) c s (4 + (i * (2 + c) + (2 + j))) (i + 2) [] := by
  have _ := h64
  have hm := mul_in (m := 2 + c) (show i < r - 1 by omega)
  induction j with
  | zero => exact ⟨s, h1, h2⟩
  | succ j ih =>
    obtain ⟨s, g1, g2⟩ := ih (by omega)
    obtain ⟨s', g3, g4⟩ := g2.call (i := i) (by rw [lg_len]; omega) ((lg_C (by omega) (by omega)).trans (ck_call (by omega))) (by omega) (by rw [(lg_end (by omega)).1]; omega)
    exact ⟨s', up_ok g1 g3, g4⟩
theorem lg_up (hr : 1 ≤ r) (h64 : r ≤ 64) (i : Nat) (hi : i + 1 ≤ r) : ∃ s, upto (Nm.start (lgR r c)) (4 + i * (2 + c)) = .ok s ∧ Lg (lgR r c) c s (4 + i * (2 + c)) (i + 1) [] := by
  induction i with
  | zero =>
    have h0 : rat (lgR r c) 0 = rw1 1 bp7 ((r + 1 : Nat) : Int) := lg_H (by decide)
    have h1 : rat (lgR r c) 1 = rw1 7 (nbr 114 0) 1 := lg_H (by decide)
    have h2 : rat (lgR r c) 2 = rw1 11 ⟨#[]⟩ 1 := lg_H (by decide)
    have h3 : rat (lgR r c) 3 = rw1 23 ⟨#[]⟩ 0 := lg_H (by decide)
    obtain ⟨a1, a2⟩ := (Lg.start (r := r) (c := c)).leaf (by rw [lg_len]; omega) (by rw [h0]; rfl) (by rw [h0]; rfl) (by rw [h0]; rfl) (by rw [h0]; show (1 : Int) ≠ 22; decide)
    obtain ⟨s, b1, b2⟩ := a2.rule (by rw [lg_len]; omega) h1 rfl (by omega)
    obtain ⟨c1, c2⟩ := b2.leaf (by rw [lg_len]; omega) (by rw [h2]; rfl) (by rw [h2]; rfl) (by rw [h2]; rfl) (by rw [h2]; show (11 : Int) ≠ 22; decide)
    obtain ⟨d1, d2⟩ := c2.leaf (by rw [lg_len]; omega) (by rw [h3]; rfl) (by rw [h3]; rfl) (by rw [h3]; rfl) (by rw [h3]; show (23 : Int) ≠ 22; decide)
    rw [Nat.zero_mul]
    exact ⟨s, up_ok (up_ok (up_ok (up_ok rfl a1) b1) c1) d1, d2⟩
  | succ i ih =>
    obtain ⟨s, g1, g2⟩ := ih (by omega)
    have hm := mul_in (m := 2 + c) (show i < r - 1 by omega)
    have h1 : rat (lgR r c) (4 + (i * (2 + c) + 0)) = rw1 7 (nbr 114 (i + 1)) 1 := lg_C (by omega) (by omega)
    have h2 : rat (lgR r c) (4 + (i * (2 + c) + 1)) = rw1 11 ⟨#[]⟩ c := lg_C (by omega) (by omega)
    obtain ⟨s', b1, b2⟩ := g2.rule (by rw [lg_len]; omega) h1 rfl (by omega)
    obtain ⟨c1, c2⟩ := b2.leaf (by rw [lg_len]; omega) (by rw [show 4 + i * (2 + c) + 1 = 4 + (i * (2 + c) + 1) by omega, h2]; rfl) (by rw [show 4 + i * (2 + c) + 1 = 4 + (i * (2 + c) + 1) by omega, h2]; rfl) (by rw [show 4 + i * (2 + c) + 1 = 4 + (i * (2 + c) + 1) by omega, h2]; rfl) (by rw [show 4 + i * (2 + c) + 1 = 4 + (i * (2 + c) + 1) by omega, h2]; show (11 : Int) ≠ 22; decide)
    have := lg_calls (r := r) (i := i) (c := c) (by omega) h64 (up_ok (up_ok g1 b1) c1) c2 c (Nat.le_refl _)
    rwa [show 4 + (i + 1) * (2 + c) = 4 + (i * (2 + c) + (2 + c)) by rw [Nat.succ_mul]]
/-- all rows are gone through -/
theorem lg_all (hr : 1 ≤ r) (h64 : r ≤ 64) : ∃ s, upto (Nm.start (lgR r c)) (lgR r c).length = .ok s ∧ Lg (lgR r c) c s (lgR r c).length r [((5, 0), 4 + (r - 1) * (2 + c) + 1)] := by
  obtain ⟨s, h1, h2⟩ := lg_up (c := c) hr h64 (r - 1) (by omega)
  rw [show r - 1 + 1 = r by omega] at h2
  have e0 : rat (lgR r c) (4 + (r - 1) * (2 + c) + 0) = rw1 10 ⟨#[]⟩ 1 := lg_E
  have e1 : rat (lgR r c) (4 + (r - 1) * (2 + c) + 1) = rw1 11 ⟨#[]⟩ 1 := lg_E
  have e2 : rat (lgR r c) (4 + (r - 1) * (2 + c) + 2) = rw1 22 (nbr 114 (r - 1)) 0 := lg_E
  obtain ⟨s1, a1, a2⟩ := h2.event (by rw [lg_len]; omega) (by rw [Nat.add_zero] at e0; rw [e0])
  obtain ⟨b1, b2⟩ := a2.leaf (by rw [lg_len]; omega) (by rw [e1]; rfl) (by rw [e1]; rfl) (by rw [e1]; rfl) (by rw [e1]; show (11 : Int) ≠ 22; decide)
  obtain ⟨s2, c1, c2⟩ := b2.call (by rw [lg_len]; omega) e2 (by omega) (by rw [(lg_end (by omega)).1]; omega)
  rw [lg_len]
  exact ⟨s2, up_ok (up_ok (up_ok h1 a1) b1) c1, c2⟩
end Go.Proofs.Ytenhjebiokegkaa.Nm

namespace Go.Proofs.Ytenhjebiokegkaa.Nm
open Go.RowKit Go.Maps Go.Proofs.Ytenhjebiokegkaa.Sp Go.Proofs.Ytenhjebiokegkaa.Lx Go.Proofs.Ytenhjebiokegkaa.Gr

/-- a row with a block of so many rows of one kind -/
def chG (y : Rz) (k : Nat) (x : Rz) : List Rz := y :: rw1 11 ⟨#[]⟩ k :: List.replicate k x
theorem w_same {x : Rz} (hx : isDoing x.kind = true) (h0 : x.kids = 0) (hf : filled x = true) {t : List Ab} {c : Nat} {l : List Rz} (k : Nat) : ∀ (n j : Nat) (kid : Int), n + k = c → wrong (pop (⟨11, c, n, kid, 0⟩ :: t)) j (List.replicate k x ++ l) = wrong (pop t) (j + k) l := by
  induction k with
  | zero =>
    intro n j kid h
    obtain rfl : n = c := by omega
    simp [pop]
  | succ k ih =>
    intro n j kid h
    have e : pop (⟨11, c, n, kid, 0⟩ :: t) = ⟨11, c, n, kid, 0⟩ :: t := by
      simp only [pop]
      rw [if_neg (by omega)]
    rw [e, List.replicate_succ, List.cons_append, wrong_step rfl (by simpa [mayStand] using hx) hf]
    have e2 : past (⟨11, c, n, kid, 0⟩ :: t) x 0 = pop (⟨11, c, ((n + 1 : Nat)), x.kind, 0⟩ :: t) := by
      simp only [past, bump, h0]
      rw [pop]
      rw [if_pos (by simp)]
    rw [e2, ih (n + 1) (j + 1) x.kind (by omega)]
    congr 1
    omega
theorem fill_k {k : Nat} (hk : k ≤ 4) : filled (rw1 11 ⟨#[]⟩ k) = true := by
  obtain rfl | rfl | rfl | rfl | rfl : k = 0 ∨ k = 1 ∨ k = 2 ∨ k = 3 ∨ k = 4 := by omega
  all_goals decide +kernel
theorem w_chG {x y : Rz} {K s k j : Nat} {kid : Int} {l : List Rz} (hx : isDoing x.kind = true) (h0 : x.kids = 0) (hf : filled x = true) (hy1 : y.kids = 1) (hyk : y.kind = 7 ∨ y.kind = 10) (hyf : filled y = true) (hk : k ≤ 4) (hkid : isEvent kid = false) :
    wrong [⟨1, K, s, kid, 0⟩, abZ] j (chG y k x ++ l) = wrong (pop [⟨1, K, s + 1, y.kind, 0⟩, abZ]) (j + 2 + k) l := by
  show wrong _ j (y :: _ :: (List.replicate k x ++ l)) = _
  have hst : mayStand 1 s kid y.kind = true := by
    rcases hyk with h | h
    · simp [mayStand, isDecl, wtn, h, hkid]
    · simp [mayStand, isEvent, wtn, h]
  rw [wrong_step rfl hst hyf]
  have e : past [⟨1, K, s, kid, 0⟩, abZ] y 0 = [⟨y.kind, 1, 0, 0, 0⟩, ⟨1, K, s + 1, y.kind, 0⟩, abZ] := by simp [past, bump, pop, hy1]
  have hst2 : mayStand y.kind 0 0 11 = true := by rcases hyk with h | h <;> simp [mayStand, h]
  rw [e, wrong_step rfl hst2 (fill_k hk)]
  have e2 : past [⟨y.kind, 1, 0, 0, 0⟩, ⟨1, K, s + 1, y.kind, 0⟩, abZ] (rw1 11 ⟨#[]⟩ k) 0 = pop (⟨11, k, 0, 0, 0⟩ :: [⟨y.kind, 1, 1, 11, 0⟩, ⟨1, K, s + 1, y.kind, 0⟩, abZ]) := rfl
  rw [e2, w_same hx h0 hf k 0 (j + 1 + 1) 0 (by omega)]
  have e3 : pop [⟨y.kind, 1, 1, 11, 0⟩, ⟨1, K, s + 1, y.kind, 0⟩, abZ] = pop [⟨1, K, s + 1, y.kind, 0⟩, abZ] := by
    rw [pop]
    rw [if_pos (by simp)]
  rw [e3]
/-- levels -/
theorem m_same {x : Rz} (hx : opn x.kind = 0) (h0 : x.kids = 0) {t : List Ab} {c : Nat} {l : List Rz} (k : Nat) : ∀ (n : Nat) (kid : Int), n + k = c → mxF (pop (⟨11, c, n, kid, 2⟩ :: t)) 2 (List.replicate k x ++ l) = mxF (pop t) 2 l := by
  induction k with
  | zero =>
    intro n kid h
    obtain rfl : n = c := by omega
    simp [pop]
  | succ k ih =>
    intro n kid h
    have e : pop (⟨11, c, n, kid, 2⟩ :: t) = ⟨11, c, n, kid, 2⟩ :: t := by
      simp only [pop]
      rw [if_neg (by omega)]
    rw [e, List.replicate_succ, List.cons_append, mxF]
    have e1 : lvl opn loose (⟨11, c, n, kid, 2⟩ :: t) x = 2 := by simp [lvl, top, hx, loose, ruleOf]
    have e2 : past (⟨11, c, n, kid, 2⟩ :: t) x 2 = pop (⟨11, c, ((n + 1 : Nat)), x.kind, 2⟩ :: t) := by
      simp only [past, bump, h0]
      rw [pop]
      rw [if_pos (by simp)]
    rw [e1, e2, if_neg (by omega)]
    exact ih (n + 1) x.kind (by omega)
theorem m_chG {x y : Rz} {K s k : Nat} {kid m : Int} {l : List Rz} (hx : opn x.kind = 0) (h0 : x.kids = 0) (hy1 : y.kids = 1) (hyk : y.kind = 7 ∨ y.kind = 10) (hm : 1 ≤ m ∧ m ≤ 2) :
    mxF [⟨1, K, s, kid, 1⟩] m (chG y k x ++ l) = mxF (pop [⟨1, K, s + 1, y.kind, 1⟩]) 2 l := by
  show mxF _ m (y :: _ :: (List.replicate k x ++ l)) = _
  have e1 : lvl opn loose [⟨1, K, s, kid, 1⟩] y = 1 := by rcases hyk with h | h <;> simp [lvl, top, h, opn, loose, ruleOf]
  have e : past [⟨1, K, s, kid, 1⟩] y 1 = [⟨y.kind, 1, 0, 0, 1⟩, ⟨1, K, s + 1, y.kind, 1⟩] := by simp [past, bump, pop, hy1]
  rw [mxF, e1, e, if_neg (by omega), mxF]
  have e2 : lvl opn loose [⟨y.kind, 1, 0, 0, 1⟩, ⟨1, K, s + 1, y.kind, 1⟩] (rw1 11 ⟨#[]⟩ k) = 2 := by rcases hyk with h | h <;> simp [lvl, top, h, opn, loose, ruleOf]
  have e3 : past [⟨y.kind, 1, 0, 0, 1⟩, ⟨1, K, s + 1, y.kind, 1⟩] (rw1 11 ⟨#[]⟩ k) 2 = pop (⟨11, k, 0, 0, 2⟩ :: [⟨y.kind, 1, 1, 11, 1⟩, ⟨1, K, s + 1, y.kind, 1⟩]) := rfl
  have e4 : (if m < 2 then 2 else m) = 2 := by split <;> omega
  rw [e2, e3, e4, m_same hx h0 k 0 0 (by omega)]
  have e5 : pop [⟨y.kind, 1, 1, 11, 1⟩, ⟨1, K, s + 1, y.kind, 1⟩] = pop [⟨1, K, s + 1, y.kind, 1⟩] := by
    rw [pop]
    rw [if_pos (by simp)]
  rw [e5]
theorem fill_c {i : Nat} (h : i < 68) : filled (rw1 22 (nbr 114 i) 0) = true := fill_n (nbr_is h).1 rfl rfl
theorem fill_r {i : Nat} (h : i < 68) : filled (rw1 7 (nbr 114 i) 1) = true := fill_n (nbr_is h).1 rfl rfl
theorem pop_1 {K s : Nat} {kd v : Int} {t : List Ab} (h : s < K) : pop (⟨1, K, s, kd, v⟩ :: t) = ⟨1, K, s, kd, v⟩ :: t := pop_in h
theorem w_is {c K : Nat} {l : List Rz} (hc : c ≤ 4) (is : List Nat) (h : ∀ i ∈ is, i < 67) : ∀ s j : Nat, s + is.length < K → wrong [⟨1, K, s, 7, 0⟩, abZ] j (is.flatMap (ckL c) ++ l) = wrong [⟨1, K, s + is.length, 7, 0⟩, abZ] (j + (is.flatMap (ckL c)).length) l := by
  induction is with
  | nil => intro s j _; rfl
  | cons i is ih =>
    intro s j hs
    have hi := h i List.mem_cons_self
    simp only [List.length_cons] at hs
    have hw := w_chG (x := rw1 22 (nbr 114 i) 0) (y := rw1 7 (nbr 114 (i + 1)) 1) (K := K) (s := s) (k := c) (j := j) (kid := 7) (l := is.flatMap (ckL c) ++ l) rfl rfl (fill_c (by omega)) rfl (Or.inl rfl) (fill_r (by omega)) hc rfl
    rw [List.flatMap_cons, List.append_assoc]
    refine hw.trans ?_
    rw [pop_1 (by omega)]
    have hl : (ckL c i).length = 2 + c := by simp [ckL]; omega
    have := ih (fun k hk => h k (List.mem_cons_of_mem _ hk)) (s + 1) (j + 2 + c) (by omega)
    refine this.trans ?_
    rw [List.length_append, hl, List.length_cons, show s + 1 + is.length = s + (is.length + 1) by omega, show j + 2 + c + (is.flatMap (ckL c)).length = j + (2 + c + (is.flatMap (ckL c)).length) by omega]
theorem m_is {c K : Nat} {l : List Rz} (is : List Nat) : ∀ s : Nat, s + is.length < K → mxF [⟨1, K, s, 7, 1⟩] 2 (is.flatMap (ckL c) ++ l) = mxF [⟨1, K, s + is.length, 7, 1⟩] 2 l := by
  induction is with
  | nil => intro s _; rfl
  | cons i is ih =>
    intro s hs
    simp only [List.length_cons] at hs
    have hw := m_chG (x := rw1 22 (nbr 114 i) 0) (y := rw1 7 (nbr 114 (i + 1)) 1) (K := K) (s := s) (k := c) (kid := 7) (m := 2) (l := is.flatMap (ckL c) ++ l) rfl rfl rfl (Or.inl rfl) (by omega)
    rw [List.flatMap_cons, List.append_assoc]
    refine hw.trans ?_
    rw [pop_1 (by omega)]
    refine (ih (s + 1) (by omega)).trans ?_
    rw [List.length_cons, show s + 1 + is.length = s + (is.length + 1) by omega]
theorem lg_form (r c : Nat) : lgR r c = rw1 1 bp7 ((r + 1 : Nat) : Int) :: (chG (rw1 7 (nbr 114 0) 1) 1 (rw1 23 ⟨#[]⟩ 0) ++ ((List.range (r - 1)).flatMap (ckL c) ++ (chG (rw1 10 ⟨#[]⟩ 1) 1 (rw1 22 (nbr 114 (r - 1)) 0) ++ []))) := by
  rw [lgR, List.append_assoc, List.append_nil]
  rfl
/-- Check takes NamesLarge's rows -/
theorem lg_right {r c : Nat} (hr : 1 ≤ r) (h64 : r ≤ 64) (hc : c ≤ 4) : (chk (lgR r c)).1 = 0 := by
  have hw : (wrong [ab1] 0 (lgR r c)).2 = false := by
    rw [lg_form]
    have hfl : filled (rw1 1 bp7 ((r + 1 : Nat) : Int)) = true := by
      have h0 : filled (rw1 1 bp7 0) = true := by decide +kernel
      simp only [filled, nameFits, wtn, least, greatest, lastEnd, lastNum] at h0 ⊢
      simp at h0 ⊢
      exact ⟨h0, by omega⟩
    have e1 : wrong [ab1] 0 (rw1 1 bp7 ((r + 1 : Nat) : Int) :: (chG (rw1 7 (nbr 114 0) 1) 1 (rw1 23 ⟨#[]⟩ 0) ++ ((List.range (r - 1)).flatMap (ckL c) ++ (chG (rw1 10 ⟨#[]⟩ 1) 1 (rw1 22 (nbr 114 (r - 1)) 0) ++ [])))) = wrong (pop [⟨1, ((r + 1 : Nat) : Int), 0, 0, 0⟩, abZ]) 1 (chG (rw1 7 (nbr 114 0) 1) 1 (rw1 23 ⟨#[]⟩ 0) ++ ((List.range (r - 1)).flatMap (ckL c) ++ (chG (rw1 10 ⟨#[]⟩ 1) 1 (rw1 22 (nbr 114 (r - 1)) 0) ++ []))) := by
      show (if _ then _ else _) = _
      rw [if_neg (by rw [hfl]; simp [top, ab1, mayStand])]
      rfl
    rw [e1, pop_1 (by omega), w_chG rfl rfl (by decide +kernel) rfl (Or.inl rfl) (fill_r (by omega)) (by omega) rfl, pop_1 (by omega)]
    rw [w_is hc (List.range (r - 1)) (fun i hi => by have := List.mem_range.1 hi; omega) _ _ (by rw [List.length_range]; omega)]
    rw [w_chG rfl rfl (fill_c (by omega)) rfl (Or.inr rfl) (by decide +kernel) (by omega) rfl]
    rw [List.length_range, show 0 + 1 + (r - 1) + 1 = r + 1 by omega, pop_out]
    simp [wrong]
  have hm : mxF [] 0 (lgR r c) = 2 := by
    rw [lg_form, mxF]
    have e1 : lvl opn loose [] (rw1 1 bp7 ((r + 1 : Nat) : Int)) = 1 := by simp [lvl, top, ab0, opn, loose, ruleOf]
    have e2 : past [] (rw1 1 bp7 ((r + 1 : Nat) : Int)) 1 = pop [⟨1, ((r + 1 : Nat) : Int), 0, 0, 1⟩] := rfl
    rw [e1, e2, if_pos (by omega), pop_1 (by omega), m_chG rfl rfl rfl (Or.inl rfl) (by omega), pop_1 (by omega), m_is _ _ (by rw [List.length_range]; omega), m_chG rfl rfl rfl (Or.inr rfl) (by omega)]
    rfl
  rw [chkF_eq]
  unfold chkF
  rw [hw, hm, if_neg (by simp), if_neg (by omega)]
end Go.Proofs.Ytenhjebiokegkaa.Nm

namespace Go.Proofs.Ytenhjebiokegkaa.Nm
open Go.RowKit Go.Maps Go.Proofs.Ytenhjebiokegkaa.Sp Go.Proofs.Ytenhjebiokegkaa.Lx Go.Proofs.Ytenhjebiokegkaa.Gr

variable {r c i : Nat}
/-- how many rows a rule's block is, up to the greatest sum -/
def lgS (c : Nat) : Nat → Nat
  | 0 => 2
  | i + 1 => min (1 + c * (1 + lgS c i)) 4611686018427387904
theorem lgS_le (c i : Nat) : lgS c i ≤ 4611686018427387904 := by
  cases i with
  | zero => show 2 ≤ _; omega
  | succ i => exact Nat.min_le_right _ _
theorem lgS_ld (hc : c ≤ 4) (i : Nat) : min (lgS c i) 1125899906842624 = ldN c i := by
  induction i with
  | zero => rfl
  | succ i ih =>
    simp only [lgS, ldN]
    rw [← ih]
    generalize lgS c i = x
    obtain rfl | rfl | rfl | rfl | rfl : c = 0 ∨ c = 1 ∨ c = 2 ∨ c = 3 ∨ c = 4 := by omega
    all_goals omega
theorem add_plain {l : List Rz} {sums : List Nat} {p s : Nat} (h : (rat l p).kind ≠ 22) (hs : s < 4611686018427387904) : addRow l sums p s = s + 1 := by
  unfold addRow pls
  rw [if_neg (fun e => h e.1)]
  omega
theorem add_call {l : List Rz} {sums : List Nat} {p s n x : Nat} (h : (rat l p).kind = 22) (hn : (rat l p).n = (n : Int)) (hx : sums[n]? = some x) (hx2 : x ≤ 4611686018427387904) : addRow l sums p s = min (s + (1 + x)) 4611686018427387904 := by
  have hlt := (List.getElem?_eq_some_iff.1 hx).1
  unfold addRow
  rw [if_pos ⟨h, by omega, by omega⟩, hn]
  have e : sums.getD ((n : Int)).toNat 0 = x := by
    rw [Int.toNat_natCast, List.getD_eq_getElem?_getD, hx]
    rfl
  rw [e]
  unfold pls
  omega
/-- a block of calls of one rule -/
theorem lay_block {l : List Rz} {sums : List Nat} {p n x : Nat} (k : Nat) (h0 : (rat l p).kind ≠ 22) (hc : ∀ j, j < k → (rat l (p + 1 + j)).kind = 22 ∧ (rat l (p + 1 + j)).n = (n : Int)) (hx : k = 0 ∨ sums[n]? = some x) (hx2 : x ≤ 4611686018427387904) : layN l sums p (1 + k) = min (1 + k * (1 + x)) 4611686018427387904 := by
  induction k with
  | zero =>
    show addRow l sums (p + 0) 0 = _
    rw [Nat.add_zero, add_plain h0 (by omega)]
    omega
  | succ k ih =>
    have hx' : sums[n]? = some x := by rcases hx with h | h; omega; exact h
    obtain ⟨h1, h2⟩ := hc k (by omega)
    rw [← Nat.add_assoc]
    show addRow l sums (p + (1 + k)) (layN l sums p (1 + k)) = _
    rw [← Nat.add_assoc, add_call h1 h2 hx' hx2, ih (fun j hj => hc j (by omega)) (Or.inr hx'), Nat.succ_mul]
    generalize k * (1 + x) = y
    omega
theorem us_get {c a k : Nat} (hk : k < a) : ((List.range a).map fun i => rpos c i + 1).getD k 0 = rpos c k + 1 := by
  rw [List.getD_eq_getElem?_getD, List.getElem?_map, List.getElem?_range hk]
  rfl
/-- the sums, one by one -/
theorem lg_sums {s : Rs} {e : List ((Nat × Nat) × Nat)} (h : Lg (lgR r c) c s (lgR r c).length r e) (k : Nat) (hk : k ≤ r) : ∀ i, i < k → (sumsN s.rows s.us k)[i]? = some (lgS c i) := by
  have h64 := h.le
  induction k with
  | zero => intro i hi; omega
  | succ k ih =>
    have ih := ih (by omega)
    intro i hi
    simp only [sumsN]
    by_cases hik : i < k
    · rw [List.getElem?_append_left (by rw [sumsN_len]; exact hik)]
      exact ih i hik
    · obtain rfl : i = k := by omega
      rw [List.getElem?_append_right (by rw [sumsN_len]; omega), sumsN_len, Nat.sub_self]
      show some (laidAt s.rows (sumsN s.rows s.us i) (s.us.getD i 0)) = _
      have hu : s.us.getD i 0 = rpos c i + 1 := by rw [h.u]; exact us_get (by omega)
      rw [hu]
      unfold laidAt
      rw [endp_like h.like, (lg_end (by omega)).2]
      cases i with
      | zero =>
        have h2 : rat (lgR r c) 2 = rw1 11 ⟨#[]⟩ 1 := lg_H (by decide)
        have h3 : rat (lgR r c) 3 = rw1 23 ⟨#[]⟩ 0 := lg_H (by decide)
        have k2 : (rat s.rows 2).kind ≠ 22 := by rw [(h.row (by rw [lg_len]; omega)).1, h2]; show (11 : Int) ≠ 22; decide
        have k3 : (rat s.rows 3).kind ≠ 22 := by rw [(h.row (by rw [lg_len]; omega)).1, h3]; show (23 : Int) ≠ 22; decide
        rw [show 4 + 0 * (2 + c) - (rpos c 0 + 1) = 2 by simp [rpos]]
        show some (addRow s.rows _ 3 (addRow s.rows _ 2 0)) = _
        rw [add_plain k2 (by omega), add_plain k3 (by omega)]
        rfl
      | succ i =>
        have hm := mul_in (m := 2 + c) (show i < r - 1 by omega)
        have h2 : rat (lgR r c) (4 + (i * (2 + c) + 1)) = rw1 11 ⟨#[]⟩ c := lg_C (by omega) (by omega)
        rw [show 4 + (i + 1) * (2 + c) - (rpos c (i + 1) + 1) = 1 + c by simp only [rpos, Nat.succ_mul]; omega]
        rw [lay_block (n := i) (x := lgS c i) c ?_ ?_ (Or.inr (ih i (by omega))) (lgS_le c i)]
        · rfl
        · rw [(h.row (by rw [lg_len]; show 4 + i * (2 + c) + 1 < _; omega)).1]
          show (rat (lgR r c) (4 + i * (2 + c) + 1)).kind ≠ 22
          rw [Nat.add_assoc, h2]
          show (11 : Int) ≠ 22
          decide
        · intro j hj
          have e1 : rpos c (i + 1) + 1 + 1 + j = 4 + (i * (2 + c) + (2 + j)) := by simp only [rpos]; omega
          have h3 : rat (lgR r c) (4 + (i * (2 + c) + (2 + j))) = rw1 22 (nbr 114 i) 0 := (lg_C (by omega) (by omega)).trans (ck_call hj)
          have hlt : 4 + (i * (2 + c) + (2 + j)) < (lgR r c).length := by rw [lg_len]; omega
          rw [e1]
          exact ⟨by rw [(h.row hlt).1, h3], h.cl _ hlt (by rw [h3]) i (by omega) (by rw [h3])⟩
/-- the miss -/
theorem lg_miss {s : Rs} {e : List ((Nat × Nat) × Nat)} (h : Lg (lgR r c) c s (lgR r c).length r e) (hr : 1 ≤ r) : laidAt s.rows (sumsOf s.rows s.us) (4 + (r - 1) * (2 + c) + 1) = min (2 + lgS c (r - 1)) 4611686018427387904 := by
  have h64 := h.le
  have hul : s.us.length = r := by rw [h.u]; simp
  have e1 : rat (lgR r c) (4 + (r - 1) * (2 + c) + 1) = rw1 11 ⟨#[]⟩ 1 := lg_E
  have e2 : rat (lgR r c) (4 + (r - 1) * (2 + c) + 2) = rw1 22 (nbr 114 (r - 1)) 0 := lg_E
  unfold laidAt sumsOf
  rw [hul, endp_like h.like, lg_endE hr, show 4 + (r - 1) * (2 + c) + 3 - (4 + (r - 1) * (2 + c) + 1) = 1 + 1 by omega]
  rw [lay_block (n := r - 1) (x := lgS c (r - 1)) 1 ?_ ?_ (Or.inr (lg_sums h r (Nat.le_refl _) _ (by omega))) (lgS_le c _)]
  · omega
  · rw [(h.row (by rw [lg_len]; omega)).1, e1]
    show (11 : Int) ≠ 22
    decide
  · intro j hj
    obtain rfl : j = 0 := by omega
    have hlt : 4 + (r - 1) * (2 + c) + 2 < (lgR r c).length := by rw [lg_len]; omega
    exact ⟨by rw [Nat.add_zero, (h.row hlt).1, e2], h.cl _ hlt (by rw [e2]) (r - 1) (by omega) (by rw [e2])⟩
theorem lg_noev {k : Nat} (hk : k < (lgR r c).length) (hne : k ≠ 4 + (r - 1) * (2 + c)) : isEvent (rat (lgR r c) k).kind = false := by
  rw [lg_len] at hk
  by_cases h4 : k < 4
  · rw [lg_H h4]
    obtain rfl | rfl | rfl | rfl : k = 0 ∨ k = 1 ∨ k = 2 ∨ k = 3 := by omega
    all_goals rfl
  by_cases hE : k < 4 + (r - 1) * (2 + c)
  · obtain ⟨m, rfl⟩ : ∃ m, k = 4 + m := ⟨k - 4, by omega⟩
    have hd := Nat.div_add_mod m (2 + c)
    have hlt := Nat.mod_lt m (show 0 < 2 + c by omega)
    have hq : m / (2 + c) < r - 1 := Nat.div_lt_of_lt_mul (by rw [Nat.mul_comm]; omega)
    rw [Nat.mul_comm] at hd
    rw [← hd, lg_C hq hlt]
    generalize m / (2 + c) = i at *
    generalize m % (2 + c) = j at *
    by_cases h0 : j = 0
    · subst h0; rfl
    by_cases h1 : j = 1
    · subst h1; rfl
    · obtain ⟨t, rfl⟩ : ∃ t, j = 2 + t := ⟨j - 2, by omega⟩
      rw [ck_call (by omega)]
      rfl
  · obtain ⟨j, rfl⟩ : ∃ j, k = 4 + (r - 1) * (2 + c) + j := ⟨k - (4 + (r - 1) * (2 + c)), by omega⟩
    rw [lg_E]
    obtain rfl | rfl : j = 1 ∨ j = 2 := by omega
    all_goals rfl
/-- all blocks of events together -/
theorem lg_big {s : Rs} {e : List ((Nat × Nat) × Nat)} (h : Lg (lgR r c) c s (lgR r c).length r e) (hr : 1 ≤ r) : big s.rows (sumsOf s.rows s.us) s.rows.length = if 16384 < lgS c (r - 1) + 2 then .error (4 + (r - 1) * (2 + c)) else .ok (lgS c (r - 1) + 2) := by
  have hz : ∀ k, k < (lgR r c).length → k ≠ 4 + (r - 1) * (2 + c) → (evt (rat s.rows k)).1 = 0 := fun k hk hne => evt_zero (by rw [(h.row hk).1]; exact lg_noev hk hne)
  have e0 : rat (lgR r c) (4 + (r - 1) * (2 + c) + 0) = rw1 10 ⟨#[]⟩ 1 := lg_E
  have hE : (evt (rat s.rows (4 + (r - 1) * (2 + c)))).1 = 5 := by
    unfold evt
    rw [(h.row (by rw [lg_len]; omega)).1]
    rw [Nat.add_zero] at e0
    rw [e0]
    rfl
  have h0 := big_none (l := s.rows) (sums := sumsOf s.rows s.us) (4 + (r - 1) * (2 + c)) (fun k hk => hz k (by rw [lg_len]; omega) (by omega))
  have hS := lgS_le c (r - 1)
  have h1 : big s.rows (sumsOf s.rows s.us) (4 + (r - 1) * (2 + c) + 1) = if 16384 < lgS c (r - 1) + 2 then .error (4 + (r - 1) * (2 + c)) else .ok (lgS c (r - 1) + 2) := by
    rw [big, h0]
    dsimp only
    rw [hE, if_neg (by decide), lg_miss h hr]
    have hp : pls 0 (min (2 + lgS c (r - 1)) 4611686018427387904) = min (2 + lgS c (r - 1)) 4611686018427387904 := by unfold pls; omega
    rw [hp]
    by_cases hb : 16384 < lgS c (r - 1) + 2
    · rw [if_pos hb, if_pos (by omega)]
    · rw [if_neg hb, if_neg (by omega), show min (2 + lgS c (r - 1)) 4611686018427387904 = lgS c (r - 1) + 2 by omega]
  rw [like_len h.like, lg_len]
  by_cases hb : 16384 < lgS c (r - 1) + 2
  · rw [if_pos hb] at h1 ⊢
    exact big_err h1 2
  · rw [if_neg hb] at h1 ⊢
    rw [big, big, h1]
    dsimp only
    rw [if_pos (hz _ (by rw [lg_len]; omega) (by omega))]
    dsimp only
    rw [if_pos (hz _ (by rw [lg_len]; omega) (by omega))]
/-- what Resolve tells of NamesLarge's rows -/
theorem res_large (hr : 1 ≤ r) (h64 : r ≤ 64) (hc : c ≤ 4) : if 16384 < ldN c (r - 1) + 2 then res (lgR r c) = .error (34, (lgR r c).length - 3) else
    ∃ p, res (lgR r c) = .ok p ∧ p.miss = (((lgR r c).length - 2 : Nat) : Int) ∧ laidAt p.rows (sumsOf p.rows p.us) ((lgR r c).length - 2) = ldN c (r - 1) + 2 ∧ p.qs = [] ∧ p.vs = [] ∧ p.ts = [] ∧ p.on = [] ∧ p.us.length = r ∧ (∀ u ∈ p.us, u < p.rows.length) ∧ p.rows.map clr = (lgR r c).map clr := by
  obtain ⟨s, h1, h2⟩ := lg_all (c := c) hr h64
  have hb := lg_big h2 hr
  have hm := lg_miss h2 hr
  have hl := lgS_ld hc (r - 1)
  have hS := lgS_le c (r - 1)
  have e3 : (lgR r c).length - 3 = 4 + (r - 1) * (2 + c) := by rw [lg_len]; omega
  have e2 : (lgR r c).length - 2 = 4 + (r - 1) * (2 + c) + 1 := by rw [lg_len]; omega
  rw [e3, e2]
  have hres : res (lgR r c) = resR (rat (lgR r c) 0).name (.ok s) := by
    unfold res
    rw [if_neg (by rw [lg_right hr h64 hc]; simp), h1]
  by_cases hx : 16384 < ldN c (r - 1) + 2
  · rw [if_pos hx, hres]
    rw [if_pos (by omega)] at hb
    simp only [resR, hb]
  · rw [if_neg hx]
    rw [if_neg (by omega)] at hb
    refine ⟨⟨(rat (lgR r c) 0).name, s.rows, s.qs, s.vs, s.ts, s.us, onsOf s.ev s.qs.length, plc s.ev (5, 0)⟩, ?_, ?_, ?_, h2.q, h2.v, h2.t, ?_, ?_, ?_, h2.like⟩
    · rw [hres]
      simp only [resR, hb]
    · show plc s.ev (5, 0) = _
      rw [h2.ev]
      rfl
    · show laidAt s.rows (sumsOf s.rows s.us) _ = _
      rw [hm]
      omega
    · show onsOf s.ev s.qs.length = []
      rw [h2.q]
      rfl
    · show s.us.length = r
      rw [h2.u]
      simp
    · intro u hu
      replace hu : u ∈ s.us := hu
      show u < s.rows.length
      rw [h2.u] at hu
      obtain ⟨i, hi, rfl⟩ := List.mem_map.1 hu
      have hi := List.mem_range.1 hi
      rw [like_len h2.like, lg_len]
      cases i with
      | zero => show 2 < _; omega
      | succ i =>
        have hm := mul_in (m := 2 + c) (show i < r - 1 by omega)
        show 4 + i * (2 + c) + 1 < _
        omega
end Go.Proofs.Ytenhjebiokegkaa.Nm
