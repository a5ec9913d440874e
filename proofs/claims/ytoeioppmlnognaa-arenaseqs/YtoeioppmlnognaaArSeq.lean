import Derived.RangeFuncNested
import Derived.RangeFuncBound
import Derived.RangeFuncCalls
import Derived.RangeFuncBox
import Derived.RangeFuncLeaves
import Derived.Shelf.Abstract
import Derived.Shelf.RegionOpen
import Derived.OwnWalkIn
import Derived.TacticsInMore
import Derived.LoopNIn
import Derived.LoopIn
import Derived.Test.YtoeioppmlnognaaArAll
namespace Go.Proofs.Ytoeioppmlnognaa.Ar
open Go.RowKit Go.Shelf

attribute [local go_sem] Oper.semAt_some

/-- where a sequence's rows lie -/
structure Sqv where
  A : Nat
  B : Nat
  bn : Nat
  bh : Nat
  ao : Option Addr
  bo : Option Addr
  cn : Nat
  ch : Nat
def Sqv.S (q : Sqv) : List Nat := [q.A, q.B, q.bn, q.bh]
/-- a sequence in memory -/
structure Sq (w : World) (q : Sqv) (d : List (Nat × Int)) : Prop where
  cA : w.cell? ⟨q.A, 0, none⟩ = some (.slice q.ao d.length q.cn)
  cB : w.cell? ⟨q.B, 0, none⟩ = some (.slice q.bo d.length q.ch)
  at_ : ∀ (j : Nat) (x : Nat × Int), d[j]? = some x → q.ao = some ⟨q.bn, 0, none⟩ ∧ q.bo = some ⟨q.bh, 0, none⟩ ∧ w.cell? ⟨q.bn, j, none⟩ = some (I x.1) ∧ w.cell? ⟨q.bh, j, none⟩ = some (I x.2)
  lt : ∀ k ∈ q.S, k < w.heap.size
  len : d.length ≤ 4194304
/-- some blocks lie as they lay -/
def Kq (S : List Nat) (U V : World) : Prop := U.heap.size ≤ V.heap.size ∧ ∀ k ∈ S, V.heap[k]? = U.heap[k]?
theorem Kq.refl (S : List Nat) (U : World) : Kq S U U := ⟨Nat.le_refl _, fun _ _ => rfl⟩
theorem Kq.trans {S : List Nat} {U V X : World} (h : Kq S U V) (k : Kq S V X) : Kq S U X := ⟨Nat.le_trans h.1 k.1, fun i hi => (k.2 i hi).trans (h.2 i hi)⟩
theorem Kq.put {S : List Nat} {w : World} (hS : ∀ k ∈ S, k < w.heap.size) (W : World) (l : Nat) (o o' : Obj) (hl : w.heap.size ≤ l) (_h : W.heap[l]? = some o) (_h1 : o.isCells = false) (_h2 : o.isWalk = false) : Kq S W (W.putObj l o') := by
  have hg := grownBy_putObj' W l o'
  refine ⟨hg.size, fun k hk => ?_⟩
  by_cases hkl : k < W.heap.size
  · exact hg.block k hkl (fun e => by cases e; have := hS _ hk; omega)
  · exact absurd (Nat.lt_of_lt_of_le (hS k hk) (Nat.le_of_not_lt (fun h => hkl (Nat.lt_of_lt_of_le (hS k hk) (by have := (Array.getElem?_eq_some_iff.1 _h).1; omega))))) (by have := (Array.getElem?_eq_some_iff.1 _h).1; have := hS k hk; omega)
theorem Kq.below {S : List Nat} {U V : World} {n : Nat} (h : Below n U V) (hS : ∀ k ∈ S, k < n) : Kq S U V := ⟨h.size, fun k hk => h.block k (hS k hk)⟩
theorem Sq.keep {w w' : World} {q : Sqv} {d : List (Nat × Int)} (h : Sq w q d) (k : Kq q.S w w') : Sq w' q d := by
  have e : ∀ b i, b ∈ q.S → w'.cell? ⟨b, i, none⟩ = w.cell? ⟨b, i, none⟩ := fun b i hb => World.cell?_of_block (a := ⟨b, i, none⟩) (k.2 b hb)
  refine ⟨(e _ _ (by simp [Sqv.S])).trans h.cA, (e _ _ (by simp [Sqv.S])).trans h.cB, fun j x hx => ?_, fun b hb => Nat.lt_of_lt_of_le (h.lt b hb) k.1, h.len⟩
  obtain ⟨h1, h2, h3, h4⟩ := h.at_ j x hx
  exact ⟨h1, h2, (e _ _ (by simp [Sqv.S])).trans h3, (e _ _ (by simp [Sqv.S])).trans h4⟩
theorem Sq.below {w w' : World} {q : Sqv} {d : List (Nat × Int)} (h : Sq w q d) (hb : Below w.heap.size w w') : Sq w' q d := h.keep (Kq.below hb h.lt)

theorem Two.sq {w0 : World} {n0 A B : Nat} {W : World} {v1 v2 : Value} {ns : List Nat} {val : Nat → Int} (h : Two w0 n0 A B W v1 v2 (ns.map fun x : Nat => I x) (ns.map fun x => I (val x))) (hl : ns.length ≤ 4194304) :
    ∃ q : Sqv, q.A = A ∧ q.B = B ∧ Sq W q (ns.map fun x => (x, val x)) ∧ ∀ k ∈ q.S, n0 ≤ k := by
  have lA := (Array.getElem?_eq_some_iff.1 h.bA).1
  have lB := (Array.getElem?_eq_some_iff.1 h.bB).1
  obtain ⟨c1, _, c2, _⟩ := h.cells
  by_cases h0 : 0 < ns.length
  · obtain ⟨g1, k1, _, e1, b1, m1, _⟩ := own_block h.o1 (by simpa using h0)
    obtain ⟨g2, k2, _, e2, b2, m2, _⟩ := own_block h.o2 (by simpa using h0)
    subst e1
    subst e2
    refine ⟨⟨A, B, g1, g2, some ⟨g1, 0, none⟩, some ⟨g2, 0, none⟩, k1, k2⟩, rfl, rfl, ⟨?_, ?_, fun j x hx => ⟨rfl, rfl, ?_, ?_⟩, fun k hk => ?_, by simpa using hl⟩, fun k hk => ?_⟩
    · simpa using c1
    · simpa using c2
    · have hj : j < ns.length := by
        have := (List.getElem?_eq_some_iff.1 hx).1
        simpa using this
      rw [h.o1.cellAt j (by simpa using hj)]
      simp only [List.getElem?_map, Option.map_eq_some_iff] at hx
      obtain ⟨y, hy, rfl⟩ := hx
      simp [hy]
    · have hj : j < ns.length := by
        have := (List.getElem?_eq_some_iff.1 hx).1
        simpa using this
      rw [h.o2.cellAt j (by simpa using hj)]
      simp only [List.getElem?_map, Option.map_eq_some_iff] at hx
      obtain ⟨y, hy, rfl⟩ := hx
      simp [hy]
    · simp only [Sqv.S, List.mem_cons, List.not_mem_nil, or_false] at hk
      rcases hk with rfl | rfl | rfl | rfl
      · exact lA
      · exact lB
      · exact (Array.getElem?_eq_some_iff.1 m1).1
      · exact (Array.getElem?_eq_some_iff.1 m2).1
    · simp only [Sqv.S, List.mem_cons, List.not_mem_nil, or_false] at hk
      rcases hk with rfl | rfl | rfl | rfl
      · exact h.hA
      · exact h.hB
      · exact b1
      · exact b2
  · have hn : ns = [] := by
      cases ns with
      | nil => rfl
      | cons x t => exact absurd (by simp) h0
    subst hn
    obtain ⟨a1, k1, e1⟩ := own_form h.o1
    obtain ⟨a2, k2, e2⟩ := own_form h.o2
    rw [e1] at c1
    rw [e2] at c2
    refine ⟨⟨A, B, A, B, a1, a2, k1, k2⟩, rfl, rfl, ⟨c1, c2, fun j x hx => (by simp at hx), fun k hk => ?_, by simp⟩, fun k hk => ?_⟩
    · simp only [Sqv.S, List.mem_cons, List.not_mem_nil, or_false] at hk
      rcases hk with rfl | rfl | rfl | rfl <;> assumption
    · simp only [Sqv.S, List.mem_cons, List.not_mem_nil, or_false] at hk
      rcases hk with rfl | rfl | rfl | rfl
      · exact h.hA
      · exact h.hB
      · exact h.hA
      · exact h.hB

set_option maxRecDepth 100000 in
set_option maxHeartbeats 2000000 in
theorem seq1_in (F : Fence) (n : Nat) (h8 : F.fn 59) (hro : F.round = none) (hn : 1 ≤ n) (l : Nat) (q : Sqv) (d : List (Nat × Int)) (J Jx : List (Nat × Int) → World → Prop)
    (hY : ∀ pre x W, J pre W → pre.length < d.length → YieldAt F (n - 1) Try.prog l #[I (x.1 : Nat), I x.2] W fun e W' =>
      (e = .returned (.bool true) ∧ J (pre ++ [x]) W' ∧ Kq q.S W W') ∨ (e = .returned (.bool false) ∧ Jx (pre ++ [x]) W'))
    (W : World) (hq : Sq W q d) (h0 : J [] W) :
    CallsIn F n Try.prog 59 #[.func (.yield l) #[] #[], .pointer (some ⟨q.A, 0, none⟩), .pointer (some ⟨q.B, 0, none⟩)] W fun e W' => (∃ v, e = .returned v) ∧
      ((∃ ys, ys = d ∧ J ys W') ∨ (∃ pre, (∃ k, k ≤ d.length ∧ pre = d.take k) ∧ Jx pre W')) := by
  have HQ := show Hid _ from hq
  obtain ⟨cA, _, _, _, hlen⟩ := hq
  have hl2 : (d.length : Int) ≤ 4194304 := by omega
  refine callsIn_of_wp Try.func59 rfl h8 ?_ hro
  simp only [Try.ntmps59, List.size_toArray, List.length_cons, List.length_nil, Nat.reduceAdd, Nat.reduceSub, Array.replicate_succ, Array.replicate_zero, List.push_toArray, List.append_toArray, List.nil_append, List.cons_append]
  gi_wp2
  gi_loopw [8] (fun i wr => ∃ k : Nat, k ≤ d.length ∧ i = .int .i64 k ∧ J (d.take k) wr ∧ Kq q.S W wr)
    (fun i _ => d.length - (intOf i).toNat)
  case atStart => exact ⟨0, Nat.zero_le _, rfl, h0, Kq.refl _ _⟩
  case round =>
    obtain ⟨k, hk, rfl, hJs, hK⟩ := hrel
    have HK := show Hid _ from hK
    by_cases hlt : k < d.length
    · have hsq := HQ.out.keep HK.out
      obtain ⟨x, hx⟩ : ∃ x, d[k]? = some x := ⟨_, List.getElem?_eq_getElem hlt⟩
      obtain ⟨ea, eb, s1, s2⟩ := hsq.at_ k x hx
      have cB := hsq.cB
      have hlt2 : (k : Int) < (d.length : Int) := by omega
      have HT : Hid (d.take (k + 1) = d.take k ++ [x]) := by
        show d.take (k + 1) = d.take k ++ [x]
        rw [List.take_add_one, hx]; rfl
      obtain ⟨fn, tmps, assign, body, hy, hR⟩ := hY _ x wr hJs (by rw [List.length_take]; omega)
      rw [eb] at cB
      rw [ea]
      clear hsq hK
      gi_wp2
      refine hR.mono ?_
      rintro e W3 (⟨rfl, hJ3, hk3⟩ | ⟨rfl, hJx3⟩)
      · gi_wp2
        go_roundw
        case rel => exact ⟨k + 1, by omega, by simp, by rw [HT.out]; exact hJ3, Kq.trans HK.out hk3⟩
        case measure => simp [intOf]; omega
      · gi_wp2
        refine bodyPost_ret (results_none rfl _ _ _) rfl ?_
        exact ⟨⟨_, rfl⟩, .inr ⟨_, ⟨k + 1, by omega, HT.out.symm⟩, hJx3⟩⟩
    · obtain rfl : k = d.length := by omega
      rw [List.take_length] at hJs
      gi_wp2
      go_end0
      exact ⟨⟨_, rfl⟩, .inl ⟨_, rfl, hJs⟩⟩

/-- the contract of a sequence -/
theorem seq_stops (F : Fence) (n : Nat) (h8 : F.fn 59) (hro : F.round = none) (hn : 1 ≤ n) (q : Sqv) (d : List (Nat × Int)) (w : World) (hq : Sq w q d) :
    SeqStopsK F n Try.prog 59 #[.pointer (some ⟨q.A, 0, none⟩), .pointer (some ⟨q.B, 0, none⟩)] (fun x : Nat × Int => #[I (x.1 : Nat), I x.2]) (Kq q.S) (fun ys => ys = d)
      (fun pre => ∃ k, k ≤ d.length ∧ pre = d.take k) d.length w := fun l J Jx W hW _ _ hY h0 =>
  seq1_in F n h8 hro hn l q d J Jx hY W (hq.below hW) h0
end Go.Proofs.Ytoeioppmlnognaa.Ar
