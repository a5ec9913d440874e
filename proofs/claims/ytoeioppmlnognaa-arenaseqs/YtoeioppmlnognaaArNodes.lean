import Derived.Test.YtoeioppmlnognaaArSeq
namespace Go.Proofs.Ytoeioppmlnognaa.Ar
open Go.RowKit Go.Shelf

attribute [local go_sem] Oper.semAt_some

/-- All, as a sequence -/
theorem all_seq {w : World} {g : Nat} {o : Lo} {a : As} (h : IsAr w g o a) (l e : Int) : Calls Try.prog 26 #[.pointer (some ⟨g, 0, none⟩), I l, I e] w fun r w' =>
    ∃ q : Sqv, r = .returned (.func (.func 59) #[] #[.pointer (some ⟨q.A, 0, none⟩), .pointer (some ⟨q.B, 0, none⟩)]) ∧ Sq w' q ((a.seq l e).map fun x => (x, a.val x)) ∧ (∀ k ∈ q.S, w.heap.size ≤ k) ∧ Below w.heap.size w w' := by
  refine (all_any h l e).mono ?_
  rintro r w' ⟨rfl, v1, v2, hT⟩
  obtain ⟨q, hA, hB, h1, h2⟩ := hT.sq (h.seq_len l e)
  exact ⟨q, by rw [hA, hB], h1, h2, hT.be⟩

def nsF (pre : List (Nat × Int)) : List Value := pre.map fun x => I (x.1 : Nat)
theorem nsF_len (pre : List (Nat × Int)) : (nsF pre).length = pre.length := by simp [nsF]
theorem nsF_snoc (pre : List (Nat × Int)) (x : Nat × Int) : nsF (pre ++ [x]) = nsF pre ++ [I (x.1 : Nat)] := by simp [nsF]
/-- what nodes has so far -/
def Nd (w : World) (n2 L : Nat) (f : List (Nat × Int) → List Value) (pre : List (Nat × Int)) (W : World) : Prop := ∃ v, W.heap[L]? = some (.cells #[v] 31 (0, 0)) ∧ W.ownsRow n2 3 1 v (f pre).length (f pre) ∧ Below w.heap.size w W ∧ n2 ≤ W.heap.size
theorem Nd.from {w : World} {n2 L B : Nat} {f : List (Nat × Int) → List Value} (hB : w.heap.size ≤ B) : OwnFrom B (Nd w n2 L f) := by
  rintro s W W' row ⟨v, h1, h2, h3, h4⟩ hg hr
  have hne : ∀ k cs T ff, W.heap[k]? = some (.cells cs T ff) → row ≠ some k := fun k cs T ff hk e => by
    obtain ⟨_, o, ho, hc⟩ := hr k e
    rw [hk] at ho
    cases ho
    cases hc
  refine ⟨v, (hg.block L (Array.getElem?_eq_some_iff.1 h1).1 (fun e => hne _ _ _ _ h1 e.symm)).trans h1, own_grown h2 hg (fun k hk e => ?_), h3.grown hg h3.size (fun k e => Nat.le_trans hB (hr k e).1), Nat.le_trans h4 hg.size⟩
  rcases h2.2 with ⟨e1, _⟩ | ⟨g', cap, cur, e1, _, e3, _⟩
  · rw [e1] at hk; cases hk
  · rw [e1] at hk
    simp only [Value.ownBlock, Option.some.injEq] at hk
    subst hk
    exact hne _ _ _ _ e3 e
theorem own_base {W : World} {base b' : Nat} {e : TypeId} {sz : Nat} {v : Value} {n : Nat} {xs : List Value} (h : W.ownsRow base e sz v n xs) (hb : b' ≤ base) : W.ownsRow b' e sz v n xs := by
  rcases h with ⟨h1, h2 | ⟨g, cap, cur, h3, h4, h5⟩⟩
  · exact ⟨h1, Or.inl h2⟩
  · exact ⟨h1, Or.inr ⟨g, cap, cur, h3, Nat.le_trans hb h4, h5⟩⟩
theorem own_cells {W : World} {base : Nat} {e : TypeId} {sz : Nat} {v : Value} {n : Nat} {xs : List Value} (h : W.ownsRow base e sz v n xs) (j : Nat) (o : Obj) (hj : v.ownBlock = some j) (ho : W.heap[j]? = some o) : o.isCells = true := by
  rcases h.2 with ⟨e1, _⟩ | ⟨g', cap, cur, e1, _, e3, _⟩
  · rw [e1] at hj; cases hj
  · rw [e1] at hj
    simp only [Value.ownBlock, Option.some.injEq] at hj
    subst hj
    rw [e3] at ho
    cases ho
    rfl
/-- one more -/
theorem Nd.put {w : World} {n2 L : Nat} {f : List (Nat × Int) → List Value} {pre : List (Nat × Int)} {x : Nat × Int} {S : List Nat} {W W1 W2 : World} {v v' : Value} (B : Nat)
    (h1 : W.heap[L]? = some (.cells #[v] 31 (0, 0))) (h2 : W.ownsRow n2 3 1 v (f pre).length (f pre)) (h3 : Below w.heap.size w W) (h4 : n2 ≤ W.heap.size)
    (hS : ∀ k ∈ S, k < n2 ∧ k ≠ L) (hL : w.heap.size ≤ L) (hn : w.heap.size ≤ n2)
    (hW : ∃ o, W1 = W.alloc o) (hg : W1.grownBy W2 v.ownBlock) {us : List Value} (hf : f (pre ++ [x]) = f pre ++ us) (ho : W2.ownsRow n2 3 1 v' ((f pre).length + us.length) (f pre ++ us)) :
    KeepsFrom B W (W2.setCell ⟨L, 0, none⟩ v') ∧ Kq S W (W2.setCell ⟨L, 0, none⟩ v') ∧ Nd w n2 L f (pre ++ [x]) (W2.setCell ⟨L, 0, none⟩ v') := by
  obtain ⟨ob, rfl⟩ := hW
  have hL1 := (Array.getElem?_eq_some_iff.1 h1).1
  have h2' : (W.alloc ob).ownsRow n2 3 1 v (f pre).length (f pre) := own_below h2 ((Below.refl _ W).alloc (Nat.le_refl _) _)
  have e1 : (W.alloc ob).heap[L]? = some (.cells #[v] 31 (0, 0)) := (Below.heap_alloc W _ L hL1).trans h1
  have e2 : W2.heap[L]? = some (.cells #[v] 31 (0, 0)) := (hg.block L (by simp; omega) (fun e => own_ne h2' e1 (by decide) e.symm)).trans e1
  refine ⟨(((KeepsOthers.alloc W ob).trans (KeepsOthers.of_grownBy hg (fun j o hj ho => own_cells h2' j o hj ho))).trans (KeepsOthers.setCell _ _ _)).from B, ⟨?_, fun k hk => ?_⟩, v', by rw [set_blk e2]; rfl, ?_, ?_, ?_⟩
  · have := hg.size
    simp [World.setCell] at *
    omega
  · obtain ⟨hk1, hk2⟩ := hS k hk
    rw [set_other hk2, hg.block k (by simp; omega) (fun e => by have := (World.ownsRow.lt h2' k e.symm).1; omega)]
    exact Below.heap_alloc W _ k (by omega)
  · have := own_set (i := 0) (u := v') ho e2 (by decide)
    rw [hf, List.length_append]
    exact this
  · exact ((h3.alloc h3.size _).grown hg (by simp; have := h3.size; omega) (fun k e => Nat.le_trans hn (World.ownsRow.lt h2' k e).1)).setCell hL _
  · have := hg.size
    simp [World.setCell] at *
    omega

set_option maxRecDepth 100000 in
set_option maxHeartbeats 6400000 in
theorem nodes_any {w : World} {g : Nat} {o : Lo} {a : As} (h : IsAr w g o a) (l e : Int) : Calls Try.prog 21 #[.pointer (some ⟨g, 0, none⟩), I l, I e] w fun r w' => ∃ v, r = .returned v ∧ w'.ownsRow w.heap.size 3 1 v (a.seq l e).length ((a.seq l e).map fun x : Nat => I x) ∧ Below w.heap.size w w' := by
  have hb1 : Below w.heap.size w (w.alloc (.cells #[.slice none 0 0] 31)) := (Below.refl _ w).alloc (Nat.le_refl _) _
  have HA := show Hid _ from all_seq (h.below hb1) l e
  have HB1 := show Hid _ from hb1
  have hnil : ∀ (cp : Array Value) (u : World), (binOp BinOp.eql 57 (.func (.func 59) #[] cp) .nilFunc).run Try.prog u = .ok (.bool false) u := fun _ _ => rfl
  obtain ⟨j0, hj, hj0, hj1, hj2⟩ := info_parts info3
  have HL : Hid ((a.seq l e).length ≤ 4194304) := h.seq_len l e
  clear h hb1
  refine (callsIn_wide (n := 5)).1 ?_
  refine callsIn_of_wp_marks Try.func21 rfl trivial ?_ rfl
  simp only [Try.ntmps21, List.size_toArray, List.length_cons, List.length_nil, Nat.reduceAdd, Nat.reduceSub, Array.replicate_succ, Array.replicate_zero, List.push_toArray, List.append_toArray, List.nil_append, List.cons_append]
  gi_wp2
  refine ⟨trivial, (callsIn_wide.2 HA.out).mono ?_⟩
  rintro r w2 ⟨q, rfl, hq, hS, hB2⟩
  have HQ := show Hid _ from And.intro hq (And.intro hS hB2)
  clear hq hS hB2
  gi_wp2
  have hz1 : (w.alloc (.cells #[.slice none 0 0] 31)).heap.size = w.heap.size + 1 := by simp
  have hz2 : w.heap.size + 1 ≤ w2.heap.size := by have := HQ.out.2.2.size; rw [hz1] at this; exact this
  have hS1 : ∀ k ∈ q.S, k < w2.heap.size ∧ k ≠ w.heap.size := fun k hk => ⟨HQ.out.1.lt k hk, by have := HQ.out.2.1 k hk; rw [hz1] at this; omega⟩
  have hI0 : Nd w w2.heap.size w.heap.size nsF [] w2 := ⟨.slice none 0 0, (HQ.out.2.2.block w.heap.size (by rw [hz1]; omega)).trans (heap_alloc_new w _), ⟨rfl, Or.inl ⟨rfl, rfl⟩⟩, HB1.out.trans (HQ.out.2.2.mono (by rw [hz1]; omega)), Nat.le_refl _⟩
  have HS1 := show Hid _ from hS1
  refine wpIn_rangeFunc_ownG rfl (by omega) (gf := 59) (lb := #[.pointer (some ⟨q.A, 0, none⟩), .pointer (some ⟨q.B, 0, none⟩)]) rfl trivial (enters_of Try.func59 (by kernel_rfl) rfl)
    (seq_stops Fence.wide 4 trivial rfl (by omega) q _ w2 HQ.out.1) Kq.trans (Kq.put (fun k hk => (HS1.out k hk).1)) (Below.refl _ _) (fun _ => rfl)
    (Nd w w2.heap.size w.heap.size nsF) (fun _ _ _ => False) (Nd.from (by omega)) (fun _ _ _ _ _ hs _ _ => hs.elim) hI0
    (fun x => { tmps := #[.pointer (some ⟨g, 0, none⟩), I l, I e, undef, undef, undef, .slice none 0 0, .pointer (some ⟨w.heap.size, 0, none⟩), .func (.func 59) #[] #[.pointer (some ⟨q.A, 0, none⟩), .pointer (some ⟨q.B, 0, none⟩)], I (x.1 : Nat), .pointer (some ⟨g, 0, none⟩), I l, I e, .func (.func 59) #[] #[.pointer (some ⟨q.A, 0, none⟩), .pointer (some ⟨q.B, 0, none⟩)], .func (.func 59) #[] #[.pointer (some ⟨q.A, 0, none⟩), .pointer (some ⟨q.B, 0, none⟩)], .bool false, .func (.func 59) #[] #[.pointer (some ⟨q.A, 0, none⟩), .pointer (some ⟨q.B, 0, none⟩)], I (x.1 : Nat), I x.2, undef, undef, undef, undef, undef], defers := [] }) ?assign ?body ?done ?stop
  case assign =>
    intro l' x W K hK
    gi_wp2
    exact hK
  case body =>
    rintro l' pre x W ⟨v, h1, h2, h3, h4⟩ hlt
    have c1 : W.cell? ⟨w.heap.size, 0, none⟩ = some v := by simp [World.cell?, h1]
    have f1 : W.frozen? ⟨w.heap.size, 0, none⟩ = false := by simp [World.frozen?, h1]
    have h2' : (W.alloc (.cells #[I (x.1 : Nat)] 3)).ownsRow w2.heap.size 3 1 v (nsF pre).length (nsF pre) := own_below h2 ((Below.refl _ W).alloc (Nat.le_refl _) _)
    have HW := show Hid _ from And.intro h1 (And.intro h2 (And.intro h3 (And.intro h4 h2')))
    have HLt : Hid ((nsF pre).length < 4194304) := by
      have e1 := nsF_len pre
      have := HL.out
      rw [List.length_map] at hlt
      show _ < _
      omega
    clear h1 h2 h3 h4 h2' hI0 hS1
    gi_wp2_with (gi_at_builtin; refine wpListIn_append_own _ rfl _ _ 31 rfl w2.heap.size 3 j0 (.int .i64 0) 1 8 Try.underlying31 hj hj0 hj1 hj2 rfl (by decide) v _ (nsF pre) rfl HW.out.2.2.2.2 ⟨W.heap.size, 0, none⟩ 1 1 [I (x.1 : Nat)] rfl rfl ?c1 ?c2 ?c3 ?c4 ?c5 ?_)
    case c1 => exact cell_one W _ _
    case c2 => intro u hu; simp only [List.mem_cons, List.not_mem_nil, or_false] at hu; subst hu; rfl
    case c3 => have := HLt.out; unfold maxLen; omega
    case c4 => have := HLt.out; omega
    case c5 => have := HW.out.2.2.2.1; simp; omega
    intro v' W2 ho hg _
    have hput := Nd.put (x := x) (S := q.S) w2.heap.size HW.out.1 HW.out.2.1 HW.out.2.2.1 HW.out.2.2.2.1 HS1.out (Nat.le_refl _) (by omega) ⟨_, rfl⟩ hg (nsF_snoc pre x) ho
    have HPut := show Hid _ from hput
    have e1 : (W.alloc (.cells #[I (x.1 : Nat)] 3)).heap[w.heap.size]? = some (.cells #[v] 31 (0, 0)) := (Below.heap_alloc W _ _ (Array.getElem?_eq_some_iff.1 HW.out.1).1).trans HW.out.1
    have e2 : W2.heap[w.heap.size]? = some (.cells #[v] 31 (0, 0)) := (hg.block _ (by simp; have := (Array.getElem?_eq_some_iff.1 HW.out.1).1; omega) (fun e => own_ne HW.out.2.2.2.2 e1 (by decide) e.symm)).trans e1
    have c2 : W2.cell? ⟨w.heap.size, 0, none⟩ = some v := by simp [World.cell?, e2]
    have f2 : W2.frozen? ⟨w.heap.size, 0, none⟩ = false := by simp [World.frozen?, e2]
    obtain ⟨bo, bc, rfl⟩ := own_form ho
    clear hput ho hg e1 e2 HW
    gi_wp2
    exact HPut.out
  case done =>
    rintro D ys W hD rfl ⟨v, h1, h2, h3, h4⟩ hK
    have c1 : W.cell? ⟨w.heap.size, 0, none⟩ = some v := by simp [World.cell?, h1]
    have e1 : nsF ((a.seq l e).map fun x => (x, a.val x)) = (a.seq l e).map fun x : Nat => I x := by simp [nsF]
    rw [e1, List.length_map] at h2
    have HW := show Hid _ from And.intro h2 h3
    obtain ⟨bo, bc, rfl⟩ := own_form h2
    clear h1 h2 h3 h4 hI0 hS1 e1
    gi_wp2
    refine ⟨by simp, .inl ⟨_, _, rfl, run_takeDeferred hK, ?_⟩⟩
    refine ⟨_, by simp [results, Try.f21, go_sem]; rfl, _, rfl, ?_, ?_⟩
    · have h5 := own_grown HW.out.1 (grownBy_putObj' W D (.deferred none)) (fun k hk e => by
        cases e
        have := own_cells HW.out.1 D _ hk hK
        cases this)
      exact own_base h5 (by omega)
    · exact HW.out.2.trans (belowK_b (w := w) (Nat.le_refl _) _ D _ _ (by omega) hK rfl rfl)
  case stop =>
    rintro D cc pre W hD _ h hK
    exact h.elim
end Go.Proofs.Ytoeioppmlnognaa.Ar
