import Derived.Test.YtenhjebiokegkaaLxBase
import Derived.Test.YtenhjebiokegkaaNmRes0
namespace Go.Proofs.Ytenhjebiokegkaa.Nm
open Go.RowKit

/-- a letter and a number's three digits -/
def nbr (c : UInt8) (n : Nat) : ByteArray := ⟨#[c, UInt8.ofNat (48 + n / 100), UInt8.ofNat (48 + n / 10 % 10), UInt8.ofNat (48 + n % 10)]⟩
end Go.Proofs.Ytenhjebiokegkaa.Nm

namespace Go.Proofs.Ytenhjebiokegkaa.Nm
open Go.RowKit Go.Maps Go.Proofs.Ytenhjebiokegkaa.Sp Go.Proofs.Ytenhjebiokegkaa.Lx Go.Proofs.Ytenhjebiokegkaa.Gr

abbrev rw1 (k : Int) (nm : ByteArray) (m : Int) : Rz := ⟨k, nm, 0, 0, m⟩
def ckR (i : Nat) : List Rz := [rw1 7 (nbr 114 i) 1, rw1 11 ⟨#[]⟩ 0]
def ckT (i : Nat) : List Rz := [rw1 5 (nbr 116 i) 1, rw1 29 ⟨#[]⟩ 0]
def ckV (i : Nat) : List Rz := [rw1 4 (nbr 118 i) 3, rw1 29 ⟨#[]⟩ 0, rw1 29 ⟨#[]⟩ 0, rw1 29 ⟨#[]⟩ 0]
def ckQ (i : Nat) : List Rz := [rw1 2 (nbr 113 i) 0]
abbrev abZ : Ab := ⟨0, 1, 1, 1, 0⟩
/-- rows that stand below the policy: one declaration and its own -/
structure Pass (c : List Rz) (kd : Int) : Prop where
  ev : isEvent kd = false
  w : ∀ (K s : Nat) (kid : Int) (i : Nat) (l : List Rz), s < K → isEvent kid = false → wrong [⟨1, K, s, kid, 0⟩, abZ] i (c ++ l) = wrong (pop [⟨1, K, s + 1, kd, 0⟩, abZ]) (i + c.length) l
theorem pop_in {K s : Nat} {kd v : Int} {t : List Ab} (h : s < K) : pop (⟨1, K, s, kd, v⟩ :: t) = ⟨1, K, s, kd, v⟩ :: t := by
  simp only [pop]
  rw [if_neg (by omega)]
theorem pop_out {K : Nat} {kd v : Int} : pop [⟨1, K, K, kd, v⟩, abZ] = [] := by simp [pop]
theorem pass_all (cs : List (List Rz × Int)) (h : ∀ c ∈ cs, Pass c.1 c.2) (K s : Nat) (kid : Int) (i : Nat) (hs : s + cs.length = K) (hk : isEvent kid = false) :
    wrong (pop [⟨1, K, s, kid, 0⟩, abZ]) i (cs.flatMap (·.1)) = (i + (cs.flatMap (·.1)).length, false) := by
  induction cs generalizing s kid i with
  | nil =>
    obtain rfl : s = K := by simpa using hs
    rw [pop_out]
    simp [wrong]
  | cons c cs ih =>
    have hc := h c List.mem_cons_self
    simp only [List.length_cons] at hs
    rw [pop_in (by omega), List.flatMap_cons, hc.w K s kid i _ (by omega) hk, ih (fun d hd => h d (List.mem_cons_of_mem _ hd)) (s + 1) c.2 _ (by omega) hc.ev, List.length_append, Nat.add_assoc]
/-- such rows lie no deeper than may be -/
structure Flat (c : List Rz) (kd : Int) : Prop where
  m : ∀ (l : List Rz) (K s : Nat) (kid : Int) (i : Nat), s < K → ast opn loose l i = [⟨1, K, s, kid, 1⟩] → (∀ j, j < c.length → rat l (i + j) = rat c j) → mx opn loose l i ≤ 64 →
    ast opn loose l (i + c.length) = pop [⟨1, K, s + 1, kd, 1⟩] ∧ mx opn loose l (i + c.length) ≤ 64
theorem flat_all (cs : List (List Rz × Int)) (h : ∀ c ∈ cs, Flat c.1 c.2) (l : List Rz) (K s : Nat) (kid : Int) (i : Nat) (hs : s + cs.length = K) (ha : ast opn loose l i = pop [⟨1, K, s, kid, 1⟩])
    (hl : l.drop i = cs.flatMap (·.1)) (hm : mx opn loose l i ≤ 64) : mx opn loose l (i + (cs.flatMap (·.1)).length) ≤ 64 := by
  induction cs generalizing s kid i with
  | nil => simpa using hm
  | cons c cs ih =>
    have hc := h c List.mem_cons_self
    simp only [List.length_cons] at hs
    rw [pop_in (by omega)] at ha
    rw [List.flatMap_cons] at hl
    obtain ⟨h1, h2⟩ := hc.m l K s kid i (by omega) ha (fun j hj => by
      have := congrArg (fun t : List Rz => t[j]?) hl
      simp only [List.getElem?_drop, List.getElem?_append_left hj] at this
      simp only [rat, List.getD_eq_getElem?_getD, this]) hm
    have := ih (fun d hd => h d (List.mem_cons_of_mem _ hd)) (s + 1) c.2 (i + c.1.length) (by omega) h1 (by rw [← List.drop_drop, hl, List.drop_left]) h2
    rw [List.flatMap_cons, List.length_append, ← Nat.add_assoc]
    exact this
theorem chk_many (nm : ByteArray) (hn : filled (rw1 1 nm 0) = true) (cs : List (List Rz × Int)) (h : ∀ c ∈ cs, Pass c.1 c.2) (hf : ∀ c ∈ cs, Flat c.1 c.2) (hz : cs.length < 9000000000000000000) :
    chk (rw1 1 nm cs.length :: cs.flatMap (·.1)) = (0, 0) := by
  have hfl : filled (rw1 1 nm cs.length) = true := by
    simp only [filled, nameFits, wtn, least, greatest, lastEnd, lastNum] at hn ⊢
    simp at hn ⊢
    exact ⟨hn, by omega⟩
  have hw : wrong [ab1] 0 (rw1 1 nm cs.length :: cs.flatMap (·.1)) = (0 + 1 + (cs.flatMap (·.1)).length, false) := by
    show (if _ then _ else _) = _
    rw [if_neg (by simp [hfl, top, ab1, mayStand])]
    rw [← pass_all cs h cs.length 0 0 (0 + 1) (by omega) rfl]
    rfl
  have hm := flat_all cs hf (rw1 1 nm cs.length :: cs.flatMap (·.1)) cs.length 0 0 1 (by omega) (by
    show past _ _ _ = _
    simp [ast, past, bump, lvl, top, ab0, opn, loose, ruleOf]) (by simp) (by
    show (if _ then _ else _) ≤ _
    have : lev opn loose (rw1 1 nm cs.length :: cs.flatMap (·.1)) 0 = 1 := by simp [lev, lvl, ast, top, ab0, opn, loose, ruleOf]
    rw [this]
    simp [mx])
  unfold chk
  rw [hw]
  have e : (rw1 1 nm cs.length :: cs.flatMap (·.1)).length = 1 + (cs.flatMap (·.1)).length := by simp [Nat.add_comm]
  rw [e, if_neg (by simp), if_neg (by omega)]
end Go.Proofs.Ytenhjebiokegkaa.Nm

namespace Go.Proofs.Ytenhjebiokegkaa.Nm
open Go.RowKit Go.Maps Go.Proofs.Ytenhjebiokegkaa.Sp Go.Proofs.Ytenhjebiokegkaa.Lx Go.Proofs.Ytenhjebiokegkaa.Gr

theorem nbr_all : (List.range 68).all (fun i => isName (tx (nbr 114 i)) && isName (tx (nbr 116 i)) && isName (tx (nbr 118 i)) && isName (tx (nbr 113 i))) = true := by decide +kernel
theorem nbr_is {i : Nat} (h : i < 68) : isName (tx (nbr 114 i)) = true ∧ isName (tx (nbr 116 i)) = true ∧ isName (tx (nbr 118 i)) = true ∧ isName (tx (nbr 113 i)) = true := by
  have := List.all_eq_true.1 nbr_all i (by simpa using h)
  simp only [Bool.and_eq_true] at this
  exact ⟨this.1.1.1, this.1.1.2, this.1.2, this.2⟩
theorem fill_b : filled (rw1 11 ⟨#[]⟩ 0) = true := by decide +kernel
theorem fill_t : filled (rw1 29 ⟨#[]⟩ 0) = true := by decide +kernel
theorem fill_n {k m : Int} {nm : ByteArray} (hn : isName (tx nm) = true) (hk : Gr.nmd k = true) (h : (wtn 0 0 (lastEnd k) && (wtn 0 0 (lastNum k) && wtn m (least k : Nat) (greatest k))) = true) : filled (rw1 k nm m) = true := by
  simp only [filled, nameFits, hk, hn, if_true, Bool.true_and]
  exact h
theorem wrong_step {t : List Ab} {i : Nat} {r : Rz} {l : List Rz} {a : Ab} {u : List Ab} (e : t = a :: u) (h : mayStand a.kind a.seen a.kid r.kind = true) (hf : filled r = true) : wrong t i (r :: l) = wrong (past t r 0) (i + 1) l := by
  subst e
  show (if _ then _ else _) = _
  rw [if_neg (by simp [top, h, hf])]
theorem pass_q {i : Nat} (h : i < 68) : Pass (ckQ i) 2 := ⟨rfl, fun K s kid j l hs hk => by
  show wrong _ j (_ :: l) = _
  rw [wrong_step rfl (by simp [mayStand, isDecl, wtn, hk]) (fill_n (nbr_is h).2.2.2 rfl rfl)]
  rfl⟩
theorem pass_r {i : Nat} (h : i < 68) : Pass (ckR i) 7 := ⟨rfl, fun K s kid j l hs hk => by
  show wrong _ j (_ :: _ :: l) = _
  rw [wrong_step rfl (by simp [mayStand, isDecl, wtn, hk]) (fill_n (nbr_is h).1 rfl rfl)]
  have e : past [⟨1, K, s, kid, 0⟩, abZ] (rw1 7 (nbr 114 i) 1) 0 = [⟨7, 1, 0, 0, 0⟩, ⟨1, K, s + 1, 7, 0⟩, abZ] := by simp [past, bump, pop]
  rw [e, wrong_step rfl (by simp [mayStand]) fill_b]
  rfl⟩
theorem pass_t {i : Nat} (h : i < 68) : Pass (ckT i) 5 := ⟨rfl, fun K s kid j l hs hk => by
  show wrong _ j (_ :: _ :: l) = _
  rw [wrong_step rfl (by simp [mayStand, isDecl, wtn, hk]) (fill_n (nbr_is h).2.1 rfl rfl)]
  have e : past [⟨1, K, s, kid, 0⟩, abZ] (rw1 5 (nbr 116 i) 1) 0 = [⟨5, 1, 0, 0, 0⟩, ⟨1, K, s + 1, 5, 0⟩, abZ] := by simp [past, bump, pop]
  rw [e, wrong_step rfl (by simp [mayStand, mayFollow, isEx, wtn]) fill_t]
  rfl⟩
theorem pass_v {i : Nat} (h : i < 68) : Pass (ckV i) 4 := ⟨rfl, fun K s kid j l hs hk => by
  show wrong _ j (_ :: _ :: _ :: _ :: l) = _
  rw [wrong_step rfl (by simp [mayStand, isDecl, wtn, hk]) (fill_n (nbr_is h).2.2.1 rfl rfl)]
  have e : past [⟨1, K, s, kid, 0⟩, abZ] (rw1 4 (nbr 118 i) 3) 0 = [⟨4, 3, 0, 0, 0⟩, ⟨1, K, s + 1, 4, 0⟩, abZ] := by simp [past, bump, pop]
  rw [e, wrong_step rfl (by simp [mayStand, mayFollow, isEx, wtn]) fill_t]
  have e : past [⟨4, 3, 0, 0, 0⟩, ⟨1, K, s + 1, 4, 0⟩, abZ] (rw1 29 ⟨#[]⟩ 0) 0 = [⟨4, 3, 1, 29, 0⟩, ⟨1, K, s + 1, 4, 0⟩, abZ] := by simp [past, bump, pop]
  rw [e, wrong_step rfl (by simp [mayStand, mayFollow, isEx, wtn]) fill_t]
  have e : past [⟨4, 3, 1, 29, 0⟩, ⟨1, K, s + 1, 4, 0⟩, abZ] (rw1 29 ⟨#[]⟩ 0) 0 = [⟨4, 3, 2, 29, 0⟩, ⟨1, K, s + 1, 4, 0⟩, abZ] := by simp [past, bump, pop]
  rw [e, wrong_step rfl (by simp [mayStand, mayFollow, isEx, wtn]) fill_t]
  rfl⟩
theorem ast_step {l : List Rz} {i : Nat} {t : List Ab} {r : Rz} (h : ast opn loose l i = t) (hr : rat l i = r) : ast opn loose l (i + 1) = past t r (lvl opn loose t r) ∧ lev opn loose l i = lvl opn loose t r := by
  subst h hr
  exact ⟨rfl, rfl⟩
theorem mx_step {l : List Rz} {i : Nat} (h : mx opn loose l i ≤ 64) (hr : lev opn loose l i ≤ 64) : mx opn loose l (i + 1) ≤ 64 := by
  show (if _ then _ else _) ≤ _
  split <;> assumption
theorem flat_q (i : Nat) : Flat (ckQ i) 2 := ⟨fun l K s kid j hs ha hl hm => by
  obtain ⟨a1, b1⟩ := ast_step ha (hl 0 (by simp [ckQ]))
  have c1 : lvl opn loose [⟨1, K, s, kid, 1⟩] (rat (ckQ i) 0) = 1 := by simp [lvl, top, ckQ, opn, loose, ruleOf]
  rw [c1] at a1 b1
  exact ⟨a1, mx_step hm (by omega)⟩⟩
theorem flat_r (i : Nat) : Flat (ckR i) 7 := ⟨fun l K s kid j hs ha hl hm => by
  obtain ⟨a1, b1⟩ := ast_step ha (hl 0 (by simp [ckR]))
  have c1 : lvl opn loose [⟨1, K, s, kid, 1⟩] (rat (ckR i) 0) = 1 := by simp [lvl, top, ckR, opn, loose, ruleOf]
  rw [c1] at a1 b1
  have d1 : past [⟨1, K, s, kid, 1⟩] (rat (ckR i) 0) 1 = [⟨7, 1, 0, 0, 1⟩, ⟨1, K, s + 1, 7, 1⟩] := by simp [past, bump, pop, ckR]
  obtain ⟨a2, b2⟩ := ast_step (a1.trans d1) (hl 1 (by simp [ckR]))
  have c2 : lvl opn loose [⟨7, 1, 0, 0, 1⟩, ⟨1, K, s + 1, 7, 1⟩] (rat (ckR i) 1) = 2 := by simp [lvl, top, ckR, opn, loose, ruleOf]
  rw [c2] at a2 b2
  exact ⟨a2.trans rfl, mx_step (mx_step hm (by omega)) (by omega)⟩⟩
theorem flat_t (i : Nat) : Flat (ckT i) 5 := ⟨fun l K s kid j hs ha hl hm => by
  obtain ⟨a1, b1⟩ := ast_step ha (hl 0 (by simp [ckT]))
  have c1 : lvl opn loose [⟨1, K, s, kid, 1⟩] (rat (ckT i) 0) = 1 := by simp [lvl, top, ckT, opn, loose, ruleOf]
  rw [c1] at a1 b1
  have d1 : past [⟨1, K, s, kid, 1⟩] (rat (ckT i) 0) 1 = [⟨5, 1, 0, 0, 1⟩, ⟨1, K, s + 1, 5, 1⟩] := by simp [past, bump, pop, ckT]
  obtain ⟨a2, b2⟩ := ast_step (a1.trans d1) (hl 1 (by simp [ckT]))
  have c2 : lvl opn loose [⟨5, 1, 0, 0, 1⟩, ⟨1, K, s + 1, 5, 1⟩] (rat (ckT i) 1) = 1 := by simp [lvl, top, ckT, opn, loose, ruleOf]
  rw [c2] at a2 b2
  exact ⟨a2.trans rfl, mx_step (mx_step hm (by omega)) (by omega)⟩⟩
theorem flat_v (i : Nat) : Flat (ckV i) 4 := ⟨fun l K s kid j hs ha hl hm => by
  obtain ⟨a1, b1⟩ := ast_step ha (hl 0 (by simp [ckV]))
  have c1 : lvl opn loose [⟨1, K, s, kid, 1⟩] (rat (ckV i) 0) = 1 := by simp [lvl, top, ckV, opn, loose, ruleOf]
  rw [c1] at a1 b1
  have d1 : past [⟨1, K, s, kid, 1⟩] (rat (ckV i) 0) 1 = [⟨4, 3, 0, 0, 1⟩, ⟨1, K, s + 1, 4, 1⟩] := by simp [past, bump, pop, ckV]
  obtain ⟨a2, b2⟩ := ast_step (a1.trans d1) (hl 1 (by simp [ckV]))
  have c2 : lvl opn loose [⟨4, 3, 0, 0, 1⟩, ⟨1, K, s + 1, 4, 1⟩] (rat (ckV i) 1) = 1 := by simp [lvl, top, ckV, opn, loose, ruleOf]
  rw [c2] at a2 b2
  have d2 : past [⟨4, 3, 0, 0, 1⟩, ⟨1, K, s + 1, 4, 1⟩] (rat (ckV i) 1) 1 = [⟨4, 3, 1, 29, 1⟩, ⟨1, K, s + 1, 4, 1⟩] := by simp [past, bump, pop, ckV]
  obtain ⟨a3, b3⟩ := ast_step (a2.trans d2) (hl 2 (by simp [ckV]))
  have c3 : lvl opn loose [⟨4, 3, 1, 29, 1⟩, ⟨1, K, s + 1, 4, 1⟩] (rat (ckV i) 2) = 1 := by simp [lvl, top, ckV, opn, loose, ruleOf]
  rw [c3] at a3 b3
  have d3 : past [⟨4, 3, 1, 29, 1⟩, ⟨1, K, s + 1, 4, 1⟩] (rat (ckV i) 2) 1 = [⟨4, 3, 2, 29, 1⟩, ⟨1, K, s + 1, 4, 1⟩] := by simp [past, bump, pop, ckV]
  obtain ⟨a4, b4⟩ := ast_step (a3.trans d3) (hl 3 (by simp [ckV]))
  have c4 : lvl opn loose [⟨4, 3, 2, 29, 1⟩, ⟨1, K, s + 1, 4, 1⟩] (rat (ckV i) 3) = 1 := by simp [lvl, top, ckV, opn, loose, ruleOf]
  rw [c4] at a4 b4
  exact ⟨a4.trans rfl, mx_step (mx_step (mx_step (mx_step hm (by omega)) (by omega)) (Int.le_trans (Int.le_of_eq b3) (by decide))) (Int.le_trans (Int.le_of_eq b4) (by decide))⟩⟩
/-- the rows of NamesMany's policy, in their order -/
def cks (r t v q : Nat) : List (List Rz × Int) :=
  (List.range r).map (fun i => (ckR i, 7)) ++ ((List.range t).map (fun i => (ckT i, 5)) ++ ((List.range v).map (fun i => (ckV i, 4)) ++ (List.range q).map (fun i => (ckQ i, 2))))
theorem cks_len (r t v q : Nat) : (cks r t v q).length = r + (t + (v + q)) := by simp [cks]
def bp7 : ByteArray := ⟨#[112]⟩
def manyR (r t v q : Nat) : List Rz := rw1 1 bp7 ((r + (t + (v + q)) : Nat) : Int) :: (cks r t v q).flatMap (·.1)
theorem chk_cks {r t v q : Nat} (hr : r ≤ 68) (ht : t ≤ 68) (hv : v ≤ 68) (hq : q ≤ 68) : chk (manyR r t v q) = (0, 0) := by
  have h1 : ∀ c ∈ cks r t v q, Pass c.1 c.2 ∧ Flat c.1 c.2 := by
    intro c hc
    simp only [cks, List.mem_append, List.mem_map, List.mem_range] at hc
    rcases hc with ⟨i, hi, rfl⟩ | ⟨i, hi, rfl⟩ | ⟨i, hi, rfl⟩ | ⟨i, hi, rfl⟩
    · exact ⟨pass_r (by omega), flat_r i⟩
    · exact ⟨pass_t (by omega), flat_t i⟩
    · exact ⟨pass_v (by omega), flat_v i⟩
    · exact ⟨pass_q (by omega), flat_q i⟩
  have := chk_many bp7 (by decide +kernel) (cks r t v q) (fun c hc => (h1 c hc).1) (fun c hc => (h1 c hc).2) (by rw [cks_len]; omega)
  rw [cks_len] at this
  exact this
end Go.Proofs.Ytenhjebiokegkaa.Nm

namespace Go.Proofs.Ytenhjebiokegkaa.Nm
open Go.RowKit Go.Maps Go.Proofs.Ytenhjebiokegkaa.Sp Go.Proofs.Ytenhjebiokegkaa.Lx Go.Proofs.Ytenhjebiokegkaa.Gr

theorem askN_leaf {i : Nat} {s : Rs} (h1 : decl (rat s.rows i).kind = 0) (h2 : nmd (rat s.rows i).kind = 0) (h3 : (evt (rat s.rows i)).1 = 0) : askN i s 3 = .ok s := by
  have hD : askD i s = .ok s := if_pos h1
  have hM : askM i s = .ok s := if_pos h2
  have hH : askH i s = .ok s := if_pos h3
  simp [askN, ask, hD, hM, hH]
theorem evt_zero {x : Rz} (h : isEvent x.kind = false) : (evt x).1 = 0 := by
  unfold evt
  simp only [isEvent, wtn, Bool.and_eq_false_iff, decide_eq_false_iff_not] at h
  rw [if_neg (by omega), if_neg (by omega)]
theorem askN_dec {i : Nat} {s : Rs} (hi : i < s.rows.length) (h1 : decl (rat s.rows i).kind ≠ 0) (h2 : nmd (rat s.rows i).kind = 0) (h3 : isEvent (rat s.rows i).kind = false) (hk : lk s.known (rat s.rows i).name = none) :
    askN i s 3 = if s.cnt (decl (rat s.rows i).kind) = mst (decl (rat s.rows i).kind) then .error 3 else .ok (s.dec i) := by
  have hr : rat (s.dec i).rows i = { rat s.rows i with n := ((s.cnt (decl (rat s.rows i).kind) : Nat) : Int) } := rat_numb hi
  have e2 : nmd (rat (s.dec i).rows i).kind = 0 := by rw [hr]; exact h2
  have e3 : (evt (rat (s.dec i).rows i)).1 = 0 := evt_zero (by rw [hr]; exact h3)
  have hD : askD i s = if s.cnt (decl (rat s.rows i).kind) = mst (decl (rat s.rows i).kind) then .error 3 else .ok (s.dec i) := by
    unfold askD
    rw [if_neg h1, hk, if_neg (by simp)]
  by_cases hc : s.cnt (decl (rat s.rows i).kind) = mst (decl (rat s.rows i).kind)
  · rw [if_pos hc] at hD ⊢
    simp [askN, ask, hD]
  · rw [if_neg hc] at hD ⊢
    have hM : askM i (s.dec i) = .ok (s.dec i) := if_pos e2
    have hH : askH i (s.dec i) = .ok (s.dec i) := if_pos e3
    simp [askN, ask, hD, hM, hH]
theorem nbr_inj {a b : UInt8} {i j : Nat} (hi : i < 100) (hj : j < 100) (h : nbr a i = nbr b j) : a = b ∧ i = j := by
  unfold nbr at h
  injection h with h
  simp only [Array.mk.injEq, List.cons.injEq] at h
  obtain ⟨h1, _, h3, h4, _⟩ := h
  have h3 := congrArg UInt8.toNat h3
  have h4 := congrArg UInt8.toNat h4
  simp only [UInt8.toNat_ofNat'] at h3 h4
  exact ⟨h1, by omega⟩
/-- so many rules, tags, vars and queues are declared -/
structure Im (l : List Rz) (s : Rs) (a b c d : Nat) : Prop where
  like : s.rows.map clr = l.map clr
  u : s.us.length = a
  t : s.ts.length = b
  v : s.vs.length = c
  q : s.qs.length = d
  kn : ∀ x, lk s.known x ≠ none → (∃ i, i < a ∧ x = nbr 114 i) ∨ (∃ i, i < b ∧ x = nbr 116 i) ∨ (∃ i, i < c ∧ x = nbr 118 i) ∨ (∃ i, i < d ∧ x = nbr 113 i)
  ev : s.ev = []
  le : a ≤ 64 ∧ b ≤ 4 ∧ c ≤ 16 ∧ d ≤ 16
variable {l : List Rz} {s : Rs} {a b c d i : Nat}
theorem Im.row (h : Im l s a b c d) (hi : i < l.length) : (rat s.rows i).kind = (rat l i).kind ∧ (rat s.rows i).name = (rat l i).name ∧ i < s.rows.length := by
  have := like_kind h.like hi
  exact ⟨this.1, this.2.1, by rw [like_len h.like]; exact hi⟩
theorem Im.leaf (h : Im l s a b c d) (hi : i < l.length) (h1 : decl (rat l i).kind = 0) (h2 : nmd (rat l i).kind = 0) (h3 : isEvent (rat l i).kind = false) : askN i s 3 = .ok s := by
  obtain ⟨e1, e2, e3⟩ := h.row hi
  exact askN_leaf (by rw [e1]; exact h1) (by rw [e1]; exact h2) (evt_zero (by rw [e1]; exact h3))
theorem Im.fresh {x : ByteArray} (h : Im l s a b c d) (hx : ¬ ((∃ i, i < a ∧ x = nbr 114 i) ∨ (∃ i, i < b ∧ x = nbr 116 i) ∨ (∃ i, i < c ∧ x = nbr 118 i) ∨ (∃ i, i < d ∧ x = nbr 113 i))) : lk s.known x = none := by
  rcases hk : lk s.known x with _ | y
  · rfl
  · exact absurd (h.kn x (by rw [hk]; simp)) hx
theorem lk_cons {α β : Type} [DecidableEq α] {k : List (α × β)} {y x : α} {z : β} (h : lk ((y, z) :: k) x ≠ none) : x = y ∨ lk k x ≠ none := by
  simp only [lk] at h
  split at h
  · rename_i e
    exact Or.inl e
  · exact Or.inr h
theorem dec_long {k : Int} (h : (rat s.rows i).kind = k) : (s.dec i).us.length = (if k = 7 then s.us.length + 1 else s.us.length) ∧ (s.dec i).ts.length = (if k = 5 then s.ts.length + 1 else s.ts.length) ∧
    (s.dec i).vs.length = (if k = 4 then s.vs.length + 1 else s.vs.length) ∧ (s.dec i).qs.length = (if k = 2 ∨ k = 3 then s.qs.length + 1 else s.qs.length) := by
  subst h
  unfold Rs.dec
  dsimp only
  refine ⟨?_, ?_, ?_, ?_⟩
  · split <;> simp
  · split <;> simp
  · split <;> simp
  · split
    · rename_i e
      rw [if_pos (Or.inl e)]
      simp
    · split
      · rename_i e
        rw [if_pos (Or.inr e)]
        simp
      · rename_i e1 e2
        rw [if_neg (by omega)]
theorem Im.rule (h : Im l s a b c d) (hi : i < l.length) (hr : rat l i = rw1 7 (nbr 114 a) 1) : askN i s 3 = (if a = 64 then .error 3 else .ok (s.dec i)) ∧ (a ≠ 64 → Im l (s.dec i) (a + 1) b c d) := by
  obtain ⟨e1, e2, e3⟩ := h.row hi
  rw [hr] at e1 e2
  replace e1 : (rat s.rows i).kind = 7 := e1
  obtain ⟨d1, d2, d3, d4⟩ := dec_long e1
  have hl := h.le
  have hf := h.fresh (x := nbr 114 a) (by
    rintro (⟨j, hj, e⟩ | ⟨j, hj, e⟩ | ⟨j, hj, e⟩ | ⟨j, hj, e⟩)
    · have := (nbr_inj (by omega) (by omega) e).2; omega
    all_goals exact absurd (nbr_inj (by omega) (by omega) e).1 (by decide))
  have hd := askN_dec (s := s) (i := i) e3 (by rw [e1]; decide) (by rw [e1]; decide) (by rw [e1]; decide) (by rw [e2]; exact hf)
  have hc : s.cnt (decl (rat s.rows i).kind) = a := by rw [e1]; exact h.u
  have hm : mst (decl (rat s.rows i).kind) = 64 := by rw [e1]; rfl
  rw [hc, hm] at hd
  refine ⟨hd, fun ha => ⟨(numb_clr _ _ _).trans h.like, ?_, ?_, ?_, ?_, ?_, h.ev, by omega⟩⟩
  · rw [d1]; exact (if_pos (by decide)).trans (congrArg (· + 1) h.u)
  · rw [d2]; exact (if_neg (by decide)).trans h.t
  · rw [d3]; exact (if_neg (by decide)).trans h.v
  · rw [d4]; exact (if_neg (by decide)).trans h.q
  · intro x hx
    rcases lk_cons hx with rfl | hx
    · exact Or.inl ⟨a, by omega, e2⟩
    · rcases h.kn x hx with ⟨j, hj, e⟩ | hx
      · exact Or.inl ⟨j, by omega, e⟩
      · exact Or.inr hx
theorem Im.tag (h : Im l s a b c d) (hi : i < l.length) (hr : rat l i = rw1 5 (nbr 116 b) 1) : askN i s 3 = (if b = 4 then .error 3 else .ok (s.dec i)) ∧ (b ≠ 4 → Im l (s.dec i) a (b + 1) c d) := by
  obtain ⟨e1, e2, e3⟩ := h.row hi
  rw [hr] at e1 e2
  replace e1 : (rat s.rows i).kind = 5 := e1
  obtain ⟨d1, d2, d3, d4⟩ := dec_long e1
  have hl := h.le
  have hf := h.fresh (x := nbr 116 b) (by
    rintro (⟨j, hj, e⟩ | ⟨j, hj, e⟩ | ⟨j, hj, e⟩ | ⟨j, hj, e⟩)
    · exact absurd (nbr_inj (by omega) (by omega) e).1 (by decide)
    · have := (nbr_inj (by omega) (by omega) e).2; omega
    all_goals exact absurd (nbr_inj (by omega) (by omega) e).1 (by decide))
  have hd := askN_dec (s := s) (i := i) e3 (by rw [e1]; decide) (by rw [e1]; decide) (by rw [e1]; decide) (by rw [e2]; exact hf)
  have hc : s.cnt (decl (rat s.rows i).kind) = b := by rw [e1]; exact h.t
  have hm : mst (decl (rat s.rows i).kind) = 4 := by rw [e1]; rfl
  rw [hc, hm] at hd
  refine ⟨hd, fun ha => ⟨(numb_clr _ _ _).trans h.like, ?_, ?_, ?_, ?_, ?_, h.ev, by omega⟩⟩
  · rw [d1]; exact (if_neg (by decide)).trans h.u
  · rw [d2]; exact (if_pos (by decide)).trans (congrArg (· + 1) h.t)
  · rw [d3]; exact (if_neg (by decide)).trans h.v
  · rw [d4]; exact (if_neg (by decide)).trans h.q
  · intro x hx
    rcases lk_cons hx with rfl | hx
    · exact Or.inr (Or.inl ⟨b, by omega, e2⟩)
    · rcases h.kn x hx with hx | ⟨j, hj, e⟩ | hx
      · exact Or.inl hx
      · exact Or.inr (Or.inl ⟨j, by omega, e⟩)
      · exact Or.inr (Or.inr hx)
theorem Im.var (h : Im l s a b c d) (hi : i < l.length) (hr : rat l i = rw1 4 (nbr 118 c) 3) : askN i s 3 = (if c = 16 then .error 3 else .ok (s.dec i)) ∧ (c ≠ 16 → Im l (s.dec i) a b (c + 1) d) := by
  obtain ⟨e1, e2, e3⟩ := h.row hi
  rw [hr] at e1 e2
  replace e1 : (rat s.rows i).kind = 4 := e1
  obtain ⟨d1, d2, d3, d4⟩ := dec_long e1
  have hl := h.le
  have hf := h.fresh (x := nbr 118 c) (by
    rintro (⟨j, hj, e⟩ | ⟨j, hj, e⟩ | ⟨j, hj, e⟩ | ⟨j, hj, e⟩)
    · exact absurd (nbr_inj (by omega) (by omega) e).1 (by decide)
    · exact absurd (nbr_inj (by omega) (by omega) e).1 (by decide)
    · have := (nbr_inj (by omega) (by omega) e).2; omega
    · exact absurd (nbr_inj (by omega) (by omega) e).1 (by decide))
  have hd := askN_dec (s := s) (i := i) e3 (by rw [e1]; decide) (by rw [e1]; decide) (by rw [e1]; decide) (by rw [e2]; exact hf)
  have hc : s.cnt (decl (rat s.rows i).kind) = c := by rw [e1]; exact h.v
  have hm : mst (decl (rat s.rows i).kind) = 16 := by rw [e1]; rfl
  rw [hc, hm] at hd
  refine ⟨hd, fun ha => ⟨(numb_clr _ _ _).trans h.like, ?_, ?_, ?_, ?_, ?_, h.ev, by omega⟩⟩
  · rw [d1]; exact (if_neg (by decide)).trans h.u
  · rw [d2]; exact (if_neg (by decide)).trans h.t
  · rw [d3]; exact (if_pos (by decide)).trans (congrArg (· + 1) h.v)
  · rw [d4]; exact (if_neg (by decide)).trans h.q
  · intro x hx
    rcases lk_cons hx with rfl | hx
    · exact Or.inr (Or.inr (Or.inl ⟨c, by omega, e2⟩))
    · rcases h.kn x hx with hx | hx | ⟨j, hj, e⟩ | hx
      · exact Or.inl hx
      · exact Or.inr (Or.inl hx)
      · exact Or.inr (Or.inr (Or.inl ⟨j, by omega, e⟩))
      · exact Or.inr (Or.inr (Or.inr hx))
theorem Im.que (h : Im l s a b c d) (hi : i < l.length) (hr : rat l i = rw1 2 (nbr 113 d) 0) : askN i s 3 = (if d = 16 then .error 3 else .ok (s.dec i)) ∧ (d ≠ 16 → Im l (s.dec i) a b c (d + 1)) := by
  obtain ⟨e1, e2, e3⟩ := h.row hi
  rw [hr] at e1 e2
  replace e1 : (rat s.rows i).kind = 2 := e1
  obtain ⟨d1, d2, d3, d4⟩ := dec_long e1
  have hl := h.le
  have hf := h.fresh (x := nbr 113 d) (by
    rintro (⟨j, hj, e⟩ | ⟨j, hj, e⟩ | ⟨j, hj, e⟩ | ⟨j, hj, e⟩)
    · exact absurd (nbr_inj (by omega) (by omega) e).1 (by decide)
    · exact absurd (nbr_inj (by omega) (by omega) e).1 (by decide)
    · exact absurd (nbr_inj (by omega) (by omega) e).1 (by decide)
    · have := (nbr_inj (by omega) (by omega) e).2; omega)
  have hd := askN_dec (s := s) (i := i) e3 (by rw [e1]; decide) (by rw [e1]; decide) (by rw [e1]; decide) (by rw [e2]; exact hf)
  have hc : s.cnt (decl (rat s.rows i).kind) = d := by rw [e1]; exact h.q
  have hm : mst (decl (rat s.rows i).kind) = 16 := by rw [e1]; rfl
  rw [hc, hm] at hd
  refine ⟨hd, fun ha => ⟨(numb_clr _ _ _).trans h.like, ?_, ?_, ?_, ?_, ?_, h.ev, by omega⟩⟩
  · rw [d1]; exact (if_neg (by decide)).trans h.u
  · rw [d2]; exact (if_neg (by decide)).trans h.t
  · rw [d3]; exact (if_neg (by decide)).trans h.v
  · rw [d4]; exact (if_pos (by decide)).trans (congrArg (· + 1) h.q)
  · intro x hx
    rcases lk_cons hx with rfl | hx
    · exact Or.inr (Or.inr (Or.inr ⟨d, by omega, e2⟩))
    · rcases h.kn x hx with hx | hx | hx | ⟨j, hj, e⟩
      · exact Or.inl hx
      · exact Or.inr (Or.inl hx)
      · exact Or.inr (Or.inr (Or.inl hx))
      · exact Or.inr (Or.inr (Or.inr ⟨j, by omega, e⟩))
end Go.Proofs.Ytenhjebiokegkaa.Nm

namespace Go.Proofs.Ytenhjebiokegkaa.Nm
open Go.RowKit Go.Maps Go.Proofs.Ytenhjebiokegkaa.Sp Go.Proofs.Ytenhjebiokegkaa.Lx Go.Proofs.Ytenhjebiokegkaa.Gr

theorem fm_len {f : Nat → List Rz} {m : Nat} (hm : ∀ i, (f i).length = m) (n : Nat) : ((List.range n).flatMap f).length = n * m := by
  induction n with
  | zero => simp
  | succ n ih => rw [List.range_succ, List.flatMap_append, List.length_append, ih]; simp [hm, Nat.succ_mul]
theorem fm_get {f : Nat → List Rz} {m n i j : Nat} (hm : ∀ i, (f i).length = m) (hi : i < n) (hj : j < m) : ((List.range n).flatMap f)[i * m + j]? = (f i)[j]? := by
  induction n with
  | zero => omega
  | succ n ih =>
    rw [List.range_succ, List.flatMap_append]
    by_cases h : i = n
    · subst h
      rw [List.getElem?_append_right (by rw [fm_len hm]; omega), fm_len hm]
      simp
    · have hlt : i * m + j < n * m := by
        have : (i + 1) * m ≤ n * m := Nat.mul_le_mul_right m (by omega)
        rw [Nat.succ_mul] at this
        omega
      rw [List.getElem?_append_left (by rw [fm_len hm]; exact hlt)]
      exact ih (by omega)
theorem cks_flat (r t v q : Nat) : (cks r t v q).flatMap (·.1) = (List.range r).flatMap ckR ++ ((List.range t).flatMap ckT ++ ((List.range v).flatMap ckV ++ (List.range q).flatMap ckQ)) := by
  simp [cks, List.flatMap_map]
theorem lR (i : Nat) : (ckR i).length = 2 := rfl
theorem lT (i : Nat) : (ckT i).length = 2 := rfl
theorem lV (i : Nat) : (ckV i).length = 4 := rfl
theorem lQ (i : Nat) : (ckQ i).length = 1 := rfl
theorem many_len (r t v q : Nat) : (manyR r t v q).length = 1 + (r * 2 + (t * 2 + (v * 4 + q))) := by
  simp only [manyR, cks_flat, List.length_cons, List.length_append, fm_len lR, fm_len lT, fm_len lV, fm_len lQ]
  omega
theorem rat_get {l : List Rz} {i : Nat} {x : Rz} (h : l[i]? = some x) : rat l i = x := by
  simp only [rat, List.getD_eq_getElem?_getD, h, Option.getD_some]
variable {r t v q i j : Nat}
theorem at_R (hi : i < r) (hj : j < 2) : rat (manyR r t v q) (1 + (i * 2 + j)) = rat (ckR i) j := by
  have h : (manyR r t v q)[1 + (i * 2 + j)]? = (ckR i)[j]? := by
    rw [manyR, Nat.add_comm 1, List.getElem?_cons_succ, cks_flat, List.getElem?_append_left (by rw [fm_len lR]; omega), fm_get lR hi hj]
  simp only [rat, List.getD_eq_getElem?_getD, h]
theorem at_T (hi : i < t) (hj : j < 2) : rat (manyR r t v q) (1 + (r * 2 + (i * 2 + j))) = rat (ckT i) j := by
  have h : (manyR r t v q)[1 + (r * 2 + (i * 2 + j))]? = (ckT i)[j]? := by
    rw [manyR, Nat.add_comm 1, List.getElem?_cons_succ, cks_flat, List.getElem?_append_right (by rw [fm_len lR]; omega), fm_len lR, Nat.add_sub_cancel_left,
      List.getElem?_append_left (by rw [fm_len lT]; omega), fm_get lT hi hj]
  simp only [rat, List.getD_eq_getElem?_getD, h]
theorem at_V (hi : i < v) (hj : j < 4) : rat (manyR r t v q) (1 + (r * 2 + (t * 2 + (i * 4 + j)))) = rat (ckV i) j := by
  have h : (manyR r t v q)[1 + (r * 2 + (t * 2 + (i * 4 + j)))]? = (ckV i)[j]? := by
    rw [manyR, Nat.add_comm 1, List.getElem?_cons_succ, cks_flat, List.getElem?_append_right (by rw [fm_len lR]; omega), fm_len lR, Nat.add_sub_cancel_left,
      List.getElem?_append_right (by rw [fm_len lT]; omega), fm_len lT, Nat.add_sub_cancel_left, List.getElem?_append_left (by rw [fm_len lV]; omega), fm_get lV hi hj]
  simp only [rat, List.getD_eq_getElem?_getD, h]
theorem at_Q (hi : i < q) : rat (manyR r t v q) (1 + (r * 2 + (t * 2 + (v * 4 + i)))) = rw1 2 (nbr 113 i) 0 := by
  have h : (manyR r t v q)[1 + (r * 2 + (t * 2 + (v * 4 + i)))]? = (ckQ i)[0]? := by
    have h0 := fm_get (n := q) (j := 0) lQ hi (by decide)
    rw [manyR, Nat.add_comm 1, List.getElem?_cons_succ, cks_flat, List.getElem?_append_right (by rw [fm_len lR]; omega), fm_len lR, Nat.add_sub_cancel_left,
      List.getElem?_append_right (by rw [fm_len lT]; omega), fm_len lT, Nat.add_sub_cancel_left, List.getElem?_append_right (by rw [fm_len lV]; omega), fm_len lV, Nat.add_sub_cancel_left]
    simpa using h0
  exact rat_get h
theorem up_ok {s0 s s' : Rs} {i : Nat} (h : upto s0 i = .ok s) (h2 : askN i s 3 = .ok s') : upto s0 (i + 1) = .ok s' := by simp only [upto, h, h2]
theorem up_no {s0 s : Rs} {i c : Nat} (h : upto s0 i = .ok s) (h2 : askN i s 3 = .error c) : upto s0 (i + 1) = .error (c, i) := by simp only [upto, h, h2]
section
variable (r t v q)
theorem up_0 : ∃ s, upto (start (manyR r t v q)) (1 + 0 * 2) = .ok s ∧ Im (manyR r t v q) s 0 0 0 0 := by
  have h0 : Im (manyR r t v q) (start (manyR r t v q)) 0 0 0 0 := ⟨rfl, rfl, rfl, rfl, rfl, fun x hx => absurd rfl hx, rfl, by omega⟩
  exact ⟨_, up_ok (i := 0) rfl (h0.leaf (by rw [many_len]; omega) (by rfl) (by rfl) (by rfl)), h0⟩
theorem up_R (k : Nat) (hk : k ≤ r) (h64 : k ≤ 64) : ∃ s, upto (start (manyR r t v q)) (1 + k * 2) = .ok s ∧ Im (manyR r t v q) s k 0 0 0 := by
  induction k with
  | zero => exact up_0 r t v q
  | succ k ih =>
    obtain ⟨s, h1, h2⟩ := ih (by omega) (by omega)
    obtain ⟨h3, h4⟩ := h2.rule (i := 1 + (k * 2 + 0)) (by rw [many_len]; omega) (at_R (by omega) (by decide))
    rw [if_neg (by omega)] at h3
    have h5 := h4 (by omega)
    have e : rat (manyR r t v q) (1 + (k * 2 + 1)) = rw1 11 ⟨#[]⟩ 0 := at_R (by omega) (by decide)
    have h6 := h5.leaf (i := 1 + (k * 2 + 1)) (by rw [many_len]; omega) (by rw [e]; rfl) (by rw [e]; rfl) (by rw [e]; rfl)
    refine ⟨_, ?_, h5⟩
    rw [show 1 + (k + 1) * 2 = 1 + (k * 2 + 1) + 1 by omega]
    exact up_ok (up_ok h1 h3) h6
theorem up_T (hr : r ≤ 64) (k : Nat) (hk : k ≤ t) (h64 : k ≤ 4) : ∃ s, upto (start (manyR r t v q)) (1 + (r * 2 + k * 2)) = .ok s ∧ Im (manyR r t v q) s r k 0 0 := by
  induction k with
  | zero =>
    rw [show 1 + (r * 2 + 0 * 2) = 1 + r * 2 by omega]
    exact up_R r t v q r (Nat.le_refl _) hr
  | succ k ih =>
    obtain ⟨s, h1, h2⟩ := ih (by omega) (by omega)
    obtain ⟨h3, h4⟩ := h2.tag (i := 1 + (r * 2 + (k * 2 + 0))) (by rw [many_len]; omega) (at_T (by omega) (by decide))
    rw [if_neg (by omega)] at h3
    have h5 := h4 (by omega)
    have e : rat (manyR r t v q) (1 + (r * 2 + (k * 2 + 1))) = rw1 29 ⟨#[]⟩ 0 := at_T (by omega) (by decide)
    have h6 := h5.leaf (i := 1 + (r * 2 + (k * 2 + 1))) (by rw [many_len]; omega) (by rw [e]; rfl) (by rw [e]; rfl) (by rw [e]; rfl)
    refine ⟨_, ?_, h5⟩
    rw [show 1 + (r * 2 + (k + 1) * 2) = 1 + (r * 2 + (k * 2 + 1)) + 1 by omega]
    exact up_ok (up_ok h1 h3) h6
theorem up_V (hr : r ≤ 64) (ht : t ≤ 4) (k : Nat) (hk : k ≤ v) (h64 : k ≤ 16) : ∃ s, upto (start (manyR r t v q)) (1 + (r * 2 + (t * 2 + k * 4))) = .ok s ∧ Im (manyR r t v q) s r t k 0 := by
  induction k with
  | zero =>
    rw [show 1 + (r * 2 + (t * 2 + 0 * 4)) = 1 + (r * 2 + t * 2) by omega]
    exact up_T r t v q hr t (Nat.le_refl _) ht
  | succ k ih =>
    obtain ⟨s, h1, h2⟩ := ih (by omega) (by omega)
    obtain ⟨h3, h4⟩ := h2.var (i := 1 + (r * 2 + (t * 2 + (k * 4 + 0)))) (by rw [many_len]; omega) (at_V (by omega) (by decide))
    rw [if_neg (by omega)] at h3
    have h5 := h4 (by omega)
    have h6 : ∀ j, 0 < j → j < 4 → askN (1 + (r * 2 + (t * 2 + (k * 4 + j)))) (s.dec (1 + (r * 2 + (t * 2 + (k * 4 + 0))))) 3 = .ok (s.dec (1 + (r * 2 + (t * 2 + (k * 4 + 0))))) := by
      intro j hj0 hj
      have e : rat (manyR r t v q) (1 + (r * 2 + (t * 2 + (k * 4 + j)))) = rw1 29 ⟨#[]⟩ 0 := (at_V (by omega) hj).trans (by
        obtain rfl | rfl | rfl : j = 1 ∨ j = 2 ∨ j = 3 := by omega
        all_goals rfl)
      exact h5.leaf (by rw [many_len]; omega) (by rw [e]; rfl) (by rw [e]; rfl) (by rw [e]; rfl)
    refine ⟨_, ?_, h5⟩
    rw [show 1 + (r * 2 + (t * 2 + (k + 1) * 4)) = 1 + (r * 2 + (t * 2 + (k * 4 + 3))) + 1 by omega]
    exact up_ok (up_ok (up_ok (up_ok h1 h3) (h6 1 (by decide) (by decide))) (h6 2 (by decide) (by decide))) (h6 3 (by decide) (by decide))
theorem up_Q (hr : r ≤ 64) (ht : t ≤ 4) (hv : v ≤ 16) (k : Nat) (hk : k ≤ q) (h64 : k ≤ 16) : ∃ s, upto (start (manyR r t v q)) (1 + (r * 2 + (t * 2 + (v * 4 + k)))) = .ok s ∧ Im (manyR r t v q) s r t v k := by
  induction k with
  | zero => exact up_V r t v q hr ht v (Nat.le_refl _) hv
  | succ k ih =>
    obtain ⟨s, h1, h2⟩ := ih (by omega) (by omega)
    obtain ⟨h3, h4⟩ := h2.que (i := 1 + (r * 2 + (t * 2 + (v * 4 + k)))) (by rw [many_len]; omega) (at_Q (by omega))
    rw [if_neg (by omega)] at h3
    exact ⟨_, up_ok h1 h3, h4 (by omega)⟩
end
end Go.Proofs.Ytenhjebiokegkaa.Nm

namespace Go.Proofs.Ytenhjebiokegkaa.Nm
open Go.RowKit Go.Maps Go.Proofs.Ytenhjebiokegkaa.Sp Go.Proofs.Ytenhjebiokegkaa.Lx Go.Proofs.Ytenhjebiokegkaa.Gr

variable {r t v q : Nat}
/-- the first row that is one too many -/
def over (r t v q : Nat) : Option Nat :=
  if 64 < r then some (1 + 64 * 2) else if 4 < t then some (1 + (r * 2 + 4 * 2)) else if 16 < v then some (1 + (r * 2 + (t * 2 + 16 * 4))) else if 16 < q then some (1 + (r * 2 + (t * 2 + (v * 4 + 16)))) else none
theorem up_from {s0 : Rs} {i n : Nat} {e : Nat × Nat} (h : upto s0 i = .error e) (hi : i ≤ n) : upto s0 n = .error e := by
  have := upto_err h (n - i)
  rwa [show i + (n - i) = n by omega] at this
theorem up_over {k : Nat} (h : over r t v q = some k) : upto (start (manyR r t v q)) (manyR r t v q).length = .error (3, k) := by
  unfold over at h
  split at h
  · cases h
    obtain ⟨s, h1, h2⟩ := up_R r t v q 64 (by omega) (by omega)
    have h3 := (h2.rule (i := 1 + (64 * 2 + 0)) (by rw [many_len]; omega) (at_R (by omega) (by decide))).1
    exact up_from (up_no h1 h3) (by rw [many_len]; omega)
  split at h
  · cases h
    obtain ⟨s, h1, h2⟩ := up_T r t v q (by omega) 4 (by omega) (by omega)
    have h3 := (h2.tag (i := 1 + (r * 2 + (4 * 2 + 0))) (by rw [many_len]; omega) (at_T (by omega) (by decide))).1
    exact up_from (up_no h1 h3) (by rw [many_len]; omega)
  split at h
  · cases h
    obtain ⟨s, h1, h2⟩ := up_V r t v q (by omega) (by omega) 16 (by omega) (by omega)
    have h3 := (h2.var (i := 1 + (r * 2 + (t * 2 + (16 * 4 + 0)))) (by rw [many_len]; omega) (at_V (by omega) (by decide))).1
    exact up_from (up_no h1 h3) (by rw [many_len]; omega)
  split at h
  · cases h
    obtain ⟨s, h1, h2⟩ := up_Q r t v q (by omega) (by omega) (by omega) 16 (by omega) (by omega)
    have h3 := (h2.que (i := 1 + (r * 2 + (t * 2 + (v * 4 + 16)))) (by rw [many_len]; omega) (at_Q (by omega))).1
    exact up_from (up_no h1 h3) (by rw [many_len]; omega)
  · cases h
theorem up_none (h : over r t v q = none) : ∃ s, upto (start (manyR r t v q)) (manyR r t v q).length = .ok s ∧ Im (manyR r t v q) s r t v q := by
  unfold over at h
  split at h
  · cases h
  split at h
  · cases h
  split at h
  · cases h
  split at h
  · cases h
  rw [many_len]
  exact up_Q r t v q (by omega) (by omega) (by omega) q (Nat.le_refl _) (by omega)
theorem big_none {l : List Rz} {sums : List Nat} (n : Nat) (h : ∀ k, k < n → (evt (rat l k)).1 = 0) : big l sums n = .ok 0 := by
  induction n with
  | zero => rfl
  | succ n ih =>
    simp only [big]
    rw [ih (fun k hk => h k (by omega))]
    dsimp only
    rw [if_pos (h n (by omega))]
theorem many_ev {x : Rz} (h : x ∈ manyR r t v q) : isEvent x.kind = false := by
  rw [manyR, cks_flat] at h
  simp only [List.mem_cons, List.mem_append, List.mem_flatMap, ckR, ckT, ckV, ckQ, List.not_mem_nil, or_false] at h
  rcases h with rfl | ⟨i, -, rfl | rfl⟩ | ⟨i, -, rfl | rfl⟩ | ⟨i, -, rfl | rfl | rfl | rfl⟩ | ⟨i, -, rfl⟩
  all_goals rfl
/-- what Resolve tells of the rows of NamesMany -/
theorem res_over (hr : r ≤ 68) (ht : t ≤ 68) (hv : v ≤ 68) (hq : q ≤ 68) {k : Nat} (h : over r t v q = some k) : res (manyR r t v q) = .error (3, k) := by
  unfold res
  rw [chk_cks hr ht hv hq, if_neg (by simp), up_over h]
  rfl
theorem res_many (hr : r ≤ 68) (ht : t ≤ 68) (hv : v ≤ 68) (hq : q ≤ 68) (h : over r t v q = none) :
    ∃ p, res (manyR r t v q) = .ok p ∧ p.us.length = r ∧ p.ts.length = t ∧ p.vs.length = v ∧ p.qs.length = q ∧ p.on.length = q ∧ p.rows.length = (manyR r t v q).length := by
  obtain ⟨s, h1, h2⟩ := up_none h
  have hll := like_len h2.like
  have hb : ∀ sums, big s.rows sums s.rows.length = .ok 0 := fun sums => big_none _ fun k hk => evt_zero (by
    rw [hll] at hk
    rw [(h2.row hk).1]
    refine many_ev (r := r) (t := t) (v := v) (q := q) ?_
    simp only [rat, List.getD_eq_getElem?_getD, List.getElem?_eq_getElem hk, Option.getD_some]
    exact List.getElem_mem hk)
  refine ⟨⟨(rat (manyR r t v q) 0).name, s.rows, s.qs, s.vs, s.ts, s.us, onsOf s.ev s.qs.length, plc s.ev (5, 0)⟩, ?_, h2.u, h2.t, h2.v, h2.q, (onsOf_len _ _).trans h2.q, hll⟩
  unfold res
  rw [chk_cks hr ht hv hq, if_neg (by simp), h1]
  simp only [resR, hb]
end Go.Proofs.Ytenhjebiokegkaa.Nm
