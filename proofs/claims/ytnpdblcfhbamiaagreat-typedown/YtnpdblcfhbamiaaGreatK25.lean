import Derived.Test.YtnpdblcfhbamiaaGreatK24
set_option maxHeartbeats 12800000
set_option maxRecDepth 100000
namespace Go.Proofs.YtnpdblcfhbamiaaGreat.Nm.Ty
open Go.RowKit Go.Shelf Go.Proofs.YtnpdblcfhbamiaaGreat.Sp Go.Proofs.YtnpdblcfhbamiaaGreat.Lx Go.Proofs.YtnpdblcfhbamiaaGreat.Gr
attribute [local go_sem] Oper.semAt_some
theorem pOf_cpy {k n q : Int} (h : pOf k n = .cpy q) : k = 32 ∧ n = q := by
  by_cases e : k = 32
  · subst e
    have e2 : pOf 32 n = .cpy n := rfl
    rw [e2] at h
    cases h
    exact ⟨rfl, rfl⟩
  · exfalso
    unfold pOf at h
    rw [if_neg e] at h
    repeat' split at h
    all_goals cases h
theorem pOf_wri {k m t n : Int} (h : pOf k m = .wri t n) (hm : in64 m) : in64 n := by
  have h1 : in64 1 := ⟨by omega, by omega⟩
  have h0 : in64 0 := ⟨by omega, by omega⟩
  unfold pOf at h
  repeat' split at h
  all_goals first | (cases h; first | exact hm | exact h1 | exact h0) | cases h
theorem vcells2 {wq : World} {B : Nat} {v0 v1 : Value} {T : TypeId} (h : wq.heap[B]? = some (.cells #[v0, v1] T (0, 0))) : wq.cell? ⟨B, 0, none⟩ = some v0 ∧ wq.cell? ⟨B, 1, none⟩ = some v1 := by
  refine ⟨?_, ?_⟩
  all_goals
    simp only [World.cell?, h]
    rfl
theorem values_any {l : List Rz} {qv : List Value} {nq : Nat} {ao qo po eo co : Option Addr} {ac qc pc ec nc cc : Nat} {size : Int} {cq : Nat → Int} {w : World} (h : IsRg w l qv ao qo po eo) (hn : l.length ≤ 2932031007317) (hT : TreeZ l) (h0 : 0 < l.length) (hc : IsVals w co (fL nc (fun i => .int .i64 (cq i)))) (hcn : nc ≤ 17592186043904)
    (hcp : ∀ i, i < l.length → (rat l i).kind = 32 → ∃ n : Nat, (rat l i).n = (n : Int) ∧ n < nc) (hN : ∀ i, i < l.length → in64 (rat l i).n) (hsz : in64 size) (hcq : ∀ i, in64 (cq i)) :
    Calls Tryz.prog 32 #[.agg (rgC l nq ao qo po eo ac qc pc ec), .agg #[.int .i64 size, .slice co nc cc]] w fun e w' => ∃ g, e = .returned (.slice (some ⟨g, 0, none⟩) l.length l.length) ∧ w.heap.size ≤ g ∧ RowI w' g l.length (vB l size cq l.length) ∧ Below w.heap.size w w' := by
  obtain ⟨M, hmk, hM⟩ := mk_ints l.length hn
  have hln : (l.length : Int) ≤ 2932031007317 := by omega
  obtain ⟨b, bo, rfl, hb, _⟩ := h.part h0
  have hbk := pbackward_any (some ⟨b, bo, none⟩) l.length pc
  dsimp only [rgC]
  have hb1 : Below w.heap.size w (((((w.alloc (.cells #[.slice ao l.length ac, .slice qo nq qc, .slice (some ⟨b, bo, none⟩) l.length pc, .slice eo l.length ec] 72)).alloc (.cells #[.int .i64 size, .slice co nc cc] 25)).alloc (.cells M 3)).alloc (.cells #[.slice (some ⟨w.heap.size + 1 + 1, 0, none⟩) l.length l.length] 23)).alloc (.cells #[.slice (some ⟨b, bo, none⟩) l.length pc] 70)) := (((((Below.refl _ w).alloc (Nat.le_refl _) _).alloc (by simp) _).alloc (by simp; omega) _).alloc (by simp; omega) _).alloc (by simp; omega) _
  have hz2 : (((((w.alloc (.cells #[.slice ao l.length ac, .slice qo nq qc, .slice (some ⟨b, bo, none⟩) l.length pc, .slice eo l.length ec] 72)).alloc (.cells #[.int .i64 size, .slice co nc cc] 25)).alloc (.cells M 3)).alloc (.cells #[.slice (some ⟨w.heap.size + 1 + 1, 0, none⟩) l.length l.length] 23)).alloc (.cells #[.slice (some ⟨b, bo, none⟩) l.length pc] 70)).heap.size = w.heap.size + 5 := by simp
  have hR2 : RowI (((((w.alloc (.cells #[.slice ao l.length ac, .slice qo nq qc, .slice (some ⟨b, bo, none⟩) l.length pc, .slice eo l.length ec] 72)).alloc (.cells #[.int .i64 size, .slice co nc cc] 25)).alloc (.cells M 3)).alloc (.cells #[.slice (some ⟨w.heap.size + 1 + 1, 0, none⟩) l.length l.length] 23)).alloc (.cells #[.slice (some ⟨b, bo, none⟩) l.length pc] 70)) (w.heap.size + 1 + 1) l.length (fun _ => 0) := by
    have e := hM ((w.alloc (.cells #[.slice ao l.length ac, .slice qo nq qc, .slice (some ⟨b, bo, none⟩) l.length pc, .slice eo l.length ec] 72)).alloc (.cells #[.int .i64 size, .slice co nc cc] 25))
    rw [World.size_alloc, World.size_alloc] at e
    exact e.of_block ((alloc_old _ _ _ (by simp)).trans (alloc_old _ _ _ (by simp)))
  have hA2 : (((((w.alloc (.cells #[.slice ao l.length ac, .slice qo nq qc, .slice (some ⟨b, bo, none⟩) l.length pc, .slice eo l.length ec] 72)).alloc (.cells #[.int .i64 size, .slice co nc cc] 25)).alloc (.cells M 3)).alloc (.cells #[.slice (some ⟨w.heap.size + 1 + 1, 0, none⟩) l.length l.length] 23)).alloc (.cells #[.slice (some ⟨b, bo, none⟩) l.length pc] 70)).heap[w.heap.size]? = some (.cells #[.slice ao l.length ac, .slice qo nq qc, .slice (some ⟨b, bo, none⟩) l.length pc, .slice eo l.length ec] 72 (0, 0)) := by
    rw [alloc_old _ _ _ (by first | (simp; done) | (simp; omega)), alloc_old _ _ _ (by first | (simp; done) | (simp; omega)), alloc_old _ _ _ (by first | (simp; done) | (simp; omega)), alloc_old _ _ _ (by simp)]
    exact alloc_at _ _ _ rfl
  have hC2 : (((((w.alloc (.cells #[.slice ao l.length ac, .slice qo nq qc, .slice (some ⟨b, bo, none⟩) l.length pc, .slice eo l.length ec] 72)).alloc (.cells #[.int .i64 size, .slice co nc cc] 25)).alloc (.cells M 3)).alloc (.cells #[.slice (some ⟨w.heap.size + 1 + 1, 0, none⟩) l.length l.length] 23)).alloc (.cells #[.slice (some ⟨b, bo, none⟩) l.length pc] 70)).heap[w.heap.size + 1]? = some (.cells #[.int .i64 size, .slice co nc cc] 25 (0, 0)) := by
    rw [alloc_old _ _ _ (by first | (simp; done) | (simp; omega)), alloc_old _ _ _ (by first | (simp; done) | (simp; omega)), alloc_old _ _ _ (by first | (simp; done) | (simp; omega))]
    exact alloc_at _ _ _ (by simp)
  have hL2 : (((((w.alloc (.cells #[.slice ao l.length ac, .slice qo nq qc, .slice (some ⟨b, bo, none⟩) l.length pc, .slice eo l.length ec] 72)).alloc (.cells #[.int .i64 size, .slice co nc cc] 25)).alloc (.cells M 3)).alloc (.cells #[.slice (some ⟨w.heap.size + 1 + 1, 0, none⟩) l.length l.length] 23)).alloc (.cells #[.slice (some ⟨b, bo, none⟩) l.length pc] 70)).heap[w.heap.size + 1 + 1 + 1]? = some (.cells #[.slice (some ⟨w.heap.size + 1 + 1, 0, none⟩) l.length l.length] 23 (0, 0)) := by
    rw [alloc_old _ _ _ (by first | (simp; done) | (simp; omega))]
    exact alloc_at _ _ _ (by simp)
  have hP2 : (((((w.alloc (.cells #[.slice ao l.length ac, .slice qo nq qc, .slice (some ⟨b, bo, none⟩) l.length pc, .slice eo l.length ec] 72)).alloc (.cells #[.int .i64 size, .slice co nc cc] 25)).alloc (.cells M 3)).alloc (.cells #[.slice (some ⟨w.heap.size + 1 + 1, 0, none⟩) l.length l.length] 23)).alloc (.cells #[.slice (some ⟨b, bo, none⟩) l.length pc] 70)).heap[w.heap.size + 1 + 1 + 1 + 1]? = some (.cells #[.slice (some ⟨b, bo, none⟩) l.length pc] 70 (0, 0)) := alloc_at _ _ _ (by simp)
  have hI2 := h.below hb1
  have hnil : ∀ (cp : Array Value) (u : World), (binOp BinOp.eql 110 (.func (.func 72) #[] cp) .nilFunc).run Tryz.prog u = .ok (.bool false) u := fun _ _ => rfl
  refine (callsIn_wide (n := 5)).1 ?_
  refine callsIn_of_wp_marks Tryz.func32 rfl trivial ?_ rfl
  simp only [Tryz.ntmps32, List.size_toArray, List.length_cons, List.length_nil, Nat.reduceAdd, Nat.reduceSub, Array.replicate_succ, Array.replicate_zero, List.push_toArray, List.append_toArray, List.nil_append, List.cons_append]
  gi_wp2
  refine ⟨trivial, (callsIn_wide.2 (hbk _)).mono ?_⟩
  rintro e w2 ⟨rfl, rfl⟩
  gi_wp2
  generalize (((((w.alloc (.cells #[.slice ao l.length ac, .slice qo nq qc, .slice (some ⟨b, bo, none⟩) l.length pc, .slice eo l.length ec] 72)).alloc (.cells #[.int .i64 size, .slice co nc cc] 25)).alloc (.cells M 3)).alloc (.cells #[.slice (some ⟨w.heap.size + 1 + 1, 0, none⟩) l.length l.length] 23)).alloc (.cells #[.slice (some ⟨b, bo, none⟩) l.length pc] 70)) = w2 at *
  clear hmk hM hbk
  refine wpIn_rangeFunc_ownG rfl (by omega) (gf := 72) (lb := #[.pointer (some ⟨w.heap.size + 1 + 1 + 1 + 1, 0, none⟩)]) rfl trivial (enters_of Tryz.func72 (by kernel_rfl) rfl)
    (pback_stops Fence.wide 4 trivial rfl (by omega) (w.heap.size + 1 + 1 + 1 + 1) b bo pc (fun i => (rP l i).V) l.length hn w2 (by omega) (by rw [World.cell?, hP2]; rfl) hI2.p) (fun h k => h.trans k) (fun W k o o' hk _ _ _ => ⟨by simp, fun i hi => World.putObj_heap_other (fun e => by simp at hi; omega)⟩) (Below.refl _ _) (fun _ => rfl)
    (fun pre W => (∃ f, RowI W (w.heap.size + 1 + 1) l.length f ∧ (∀ j, in64 (f j)) ∧ (pre = dnto l.length (pre).length → ∀ j, j < l.length → f j = vB l size cq (pre).length j)) ∧ W.heap[w.heap.size]? = some (.cells #[.slice ao l.length ac, .slice qo nq qc, .slice (some ⟨b, bo, none⟩) l.length pc, .slice eo l.length ec] 72 (0, 0)) ∧ W.heap[w.heap.size + 1]? = some (.cells #[.int .i64 size, .slice co nc cc] 25 (0, 0)) ∧ W.heap[w.heap.size + 1 + 1 + 1]? = some (.cells #[.slice (some ⟨w.heap.size + 1 + 1, 0, none⟩) l.length l.length] 23 (0, 0)) ∧ W.heap[w.heap.size + 1 + 1 + 1 + 1]? = some (.cells #[.slice (some ⟨b, bo, none⟩) l.length pc] 70 (0, 0)) ∧ Below w.heap.size w W)
    (fun (_ : Code) (_ : List Nat) (_ : World) => False)
    (fun s A B row hs hg hr => ⟨?oI, ?oA, ?oC, ?oL, ?oP, ?oB⟩)
    (fun _ s A B row hs _ _ => hs)
    ⟨⟨fun _ => 0, hR2, fun _ => (show in64 0 from ⟨by omega, by omega⟩), fun _ j _ => rfl⟩, hA2, hC2, hL2, hP2, hb1⟩
    (fun x => { tmps := #[.agg #[.slice ao l.length ac, .slice qo nq qc, .slice (some ⟨b, bo, none⟩) l.length pc, .slice eo l.length ec], .agg #[.int .i64 size, .slice co nc cc], .pointer (some ⟨w.heap.size, 0, none⟩), .pointer (some ⟨w.heap.size + 1, 0, none⟩), .slice none 0 0, .pointer (some ⟨w.heap.size + 1 + 1 + 1, 0, none⟩), .int .i64 ((x % l.length : Nat) : Int), (rP l (x % l.length)).V, undef, undef, .pointer (some ⟨w.heap.size, 2, none⟩), .slice (some ⟨b, bo, none⟩) l.length pc, .int .i64 (l.length : Int), .slice (some ⟨w.heap.size + 1 + 1, 0, none⟩) l.length l.length, .pointer (some ⟨w.heap.size, 2, none⟩), .slice (some ⟨b, bo, none⟩) l.length pc, .func (.func 72) #[] #[.pointer (some ⟨w.heap.size + 1 + 1 + 1 + 1, 0, none⟩)], .int .i64 ((x % l.length : Nat) : Int), (rP l (x % l.length)).V, undef, undef, undef, undef, undef, undef, undef, undef, undef, undef, undef, undef, undef, undef, undef, undef, undef, undef, undef, undef, undef, undef, undef, undef, undef, undef, undef, undef, undef, undef, undef, undef, undef, undef, undef, undef, undef], defers := [] }) ?assign ?body ?done ?stop
  case oI =>
    obtain ⟨f, hf, h1⟩ := hs.1
    exact ⟨f, (grownBy_keeps_cells hg (fun r e => (hr r e).2) hf rfl).trans hf, h1⟩
  case oA => exact (grownBy_keeps_cells hg (fun r e => (hr r e).2) hs.2.1 rfl).trans hs.2.1
  case oC => exact (grownBy_keeps_cells hg (fun r e => (hr r e).2) hs.2.2.1 rfl).trans hs.2.2.1
  case oL => exact (grownBy_keeps_cells hg (fun r e => (hr r e).2) hs.2.2.2.1 rfl).trans hs.2.2.2.1
  case oP => exact (grownBy_keeps_cells hg (fun r e => (hr r e).2) hs.2.2.2.2.1 rfl).trans hs.2.2.2.2.1
  case oB => exact ownFrom_below (β := Unit) (w₀ := w) (Nat.le_refl _) (B := w2.heap.size) (by omega) () A B row hs.2.2.2.2.2 hg hr
  case assign =>
    intro q x W K hK
    dsimp only at hK ⊢
    generalize x % l.length = i at hK ⊢
    generalize rP l i = r at hK ⊢
    gi_wp2
    exact hK
  case body =>
    rintro q pre x W ⟨⟨f, hf, hin, hpre⟩, hA, hC, hL, hP, hB⟩ hplt
    have hiL : x % l.length < l.length := Nat.mod_lt _ h0
    have hxi : pre ++ [x] = dnto l.length (pre ++ [x]).length → pre = dnto l.length pre.length ∧ x % l.length = l.length - 1 - pre.length := by
      intro he
      rw [List.length_append, List.length_singleton, dnto_succ] at he
      obtain ⟨e1, e2⟩ := List.append_inj' he rfl
      have e3 : x = l.length - 1 - pre.length := by simpa using e2
      exact ⟨e1, by rw [Nat.mod_eq_of_lt (by omega)]; exact e3⟩
    generalize x % l.length = i at *
    have hkid := hT.kids i hiL
    obtain ⟨ga, oa, rfl, hga, c0, c1, c2, c3, c4⟩ := row_cells (h.below hB).r hiL
    rw [hkid] at c4
    obtain ⟨A0, A1, A2, A3⟩ := cells4 hA
    obtain ⟨C0, C1⟩ := vcells2 hC
    have hcx : W.cell? ⟨w.heap.size + 1 + 1 + 1, 0, none⟩ = some (.slice (some ⟨w.heap.size + 1 + 1, 0, none⟩) l.length l.length) := by rw [World.cell?, hL]; rfl
    have hi' : (i : Int) < (l.length : Int) := by omega
    have hmx : Tryz.prog.follows .mixedOrders = true := by kernel_rfl
    have hfd1 : RowI W.drew (w.heap.size + 1 + 1) l.length f := hf
    have hfd2 : RowI W.drew.drew (w.heap.size + 1 + 1) l.length f := hf
    have hcofn := co_fn
    have hcoent := co_enter
    have HCo : ∀ (a b : Int), in64 a → in64 b → ∀ W' : World, Below w.heap.size w W' → Calls Tryz.prog (rP l i).coF #[(rP l i).D, .agg #[.int .i64 size, .slice co nc cc], .int .i64 a, .int .i64 b] W' fun e w' => e = .returned (.int .i64 ((rP l i).cm size cq a b)) ∧ Below W'.heap.size W' w' := fun a b ha _ W' hW => comes_any (rP l i) ha (IsVals.below hc hW) hcn (fun q hq => by
      have hk : (rat l i).kind = 32 ∧ (rat l i).n = q := pOf_cpy hq
      obtain ⟨n, e1, e2⟩ := hcp i hiL hk.1
      exact ⟨n, by rw [← hk.2]; exact e1, e2⟩)
    have hkm : (km l i : Int) ≤ 2932031007317 := by have := km_le hT.whole hiL; omega
    have hya : in64 (if 0 < km l i then f (i + 1) else 0) := by split; exact hin _; exact ⟨by omega, by omega⟩
    have hyb : in64 (if 1 < km l i then f (endp l (i + 1)) else 0) := by split; exact hin _; exact ⟨by omega, by omega⟩
    have hk1l : 0 < km l i → i + 1 < l.length := fun hk => by have := (kid_at hT.whole hiL hk).1; rwa [kid_zero] at this
    have hk2l : 1 < km l i → endp l (i + 1) < l.length := fun hk => by
      have h5 := (kid_at hT.whole hiL (k := 0) (by omega)).2.1
      have h6 := (kid_at hT.whole hiL (k := 1) hk).1
      rw [kid_zero] at h5
      rw [← h5]
      exact h6
    have hstep : pre ++ [x] = dnto l.length (pre ++ [x]).length → ∀ j, j < l.length → setF f i ((rP l i).cm size cq (if 0 < km l i then f (i + 1) else 0) (if 1 < km l i then f (endp l (i + 1)) else 0)) j = vB l size cq (pre ++ [x]).length j := by
      intro he j hj
      obtain ⟨e1, e2⟩ := hxi he
      have hv := hpre e1
      have e3 : vB l size cq (pre ++ [x]).length = setF (vB l size cq pre.length) i ((rP l i).cm size cq (if 0 < km l i then vB l size cq pre.length (i + 1) else 0) (if 1 < km l i then vB l size cq pre.length (endp l (i + 1)) else 0)) := by
        rw [List.length_append, List.length_singleton, e2]
        rfl
      have e4 : (if 0 < km l i then f (i + 1) else 0) = (if 0 < km l i then vB l size cq pre.length (i + 1) else 0) := by split; exact hv _ (hk1l (by assumption)); rfl
      have e5 : (if 1 < km l i then f (endp l (i + 1)) else 0) = (if 1 < km l i then vB l size cq pre.length (endp l (i + 1)) else 0) := by split; exact hv _ (hk2l (by assumption)); rfl
      rw [e3, ← e4, ← e5]
      unfold setF
      split
      · rfl
      · exact hv j hj
    have HPk : ∀ y : Kin W, RowI y.u (w.heap.size + 1 + 1) l.length f ∧ y.u.heap[w.heap.size]? = some (.cells #[.slice (some ⟨ga, oa, none⟩) l.length ac, .slice qo nq qc, .slice (some ⟨b, bo, none⟩) l.length pc, .slice eo l.length ec] 72 (0, 0)) ∧ y.u.heap[w.heap.size + 1]? = some (.cells #[.int .i64 size, .slice co nc cc] 25 (0, 0)) ∧ y.u.heap[w.heap.size + 1 + 1 + 1]? = some (.cells #[.slice (some ⟨w.heap.size + 1 + 1, 0, none⟩) l.length l.length] 23 (0, 0)) ∧ y.u.heap[w.heap.size + 1 + 1 + 1 + 1]? = some (.cells #[.slice (some ⟨b, bo, none⟩) l.length pc] 70 (0, 0)) ∧ Below w.heap.size w y.u ∧ KeepsFrom w2.heap.size W y.u ∧ Kq [w.heap.size + 1 + 1 + 1 + 1, b] W y.u := fun y => by
      have hblk : ∀ k, k < W.heap.size → y.u.heap[k]? = W.heap[k]? := fun k hk => y.ok.block k hk
      exact ⟨hf.of_block (hblk _ hf.lt), (hblk _ (blk_lt hA)).trans hA, (hblk _ (blk_lt hC)).trans hC, (hblk _ (blk_lt hL)).trans hL, (hblk _ (blk_lt hP)).trans hP, hB.trans (y.ok.mono hB.size), ⟨y.ok.size, fun k o _ hk _ => (hblk k (blk_lt hk)).trans hk⟩, ⟨y.ok.size, fun k hk => hblk k (by have := blk_lt hP; simp at hk; rcases hk with rfl | rfl <;> omega)⟩⟩
    have h00 : in64 0 := ⟨by omega, by omega⟩
    by_cases hk0 : 0 < km l i
    · have hk0' : (0 : Int) < (km l i : Int) := by omega
      have hf1 := hf.cell (hk1l hk0)
      have hi1 : (i : Int) + 1 < (l.length : Int) := by have := hk1l hk0; omega
      have hln2 : (i : Int) + 1 ≤ 2932031007317 := by omega
      by_cases hk1 : 1 < km l i
      rotate_right
      focus
        have hk1' : ¬ (1 : Int) < (km l i : Int) := by omega
        rw [if_pos hk0, if_neg hk1] at hstep
        have HCk : Hid (∀ y : Kin W, Calls Tryz.prog (rP l i).coF #[(rP l i).D, .agg #[.int .i64 size, .slice co nc cc], .int .i64 (f (i + 1)), .int .i64 0] y.u fun e w' => e = .returned (.int .i64 ((rP l i).cm size cq (f (i + 1)) 0)) ∧ Below y.u.heap.size y.u w') := fun y => HCo _ _ (hin _) h00 y.u (hB.trans (y.ok.mono hB.size))
        have HVi := cm_in (rP l i) (a := (f (i + 1))) (b := 0) hsz hcq (hin _) h00 (fun t n e => pOf_wri e (hN i hiL))
        have y5 : ∀ y : Kin W, y.u.cell? ⟨w.heap.size + 1 + 1 + 1, 0, none⟩ = some (.slice (some ⟨w.heap.size + 1 + 1, 0, none⟩) l.length l.length) := fun y => y.cell (a := ⟨w.heap.size + 1 + 1 + 1, 0, none⟩) (blk_lt hL) hcx
        have yc0 : ∀ y : Kin W, y.u.cell? ⟨w.heap.size + 1, 0, none⟩ = some (.int .i64 size) := fun y => y.cell (a := ⟨w.heap.size + 1, 0, none⟩) (blk_lt hC) C0
        have yc1 : ∀ y : Kin W, y.u.cell? ⟨w.heap.size + 1, 1, none⟩ = some (.slice co nc cc) := fun y => y.cell (a := ⟨w.heap.size + 1, 1, none⟩) (blk_lt hC) C1
        have HPq := show Hid _ from HPk
        have HSt := show Hid _ from hstep
        have HVj := show Hid _ from HVi
        have HIn := show Hid _ from hin
        have hne := Kin.there W
        generalize (rP l i).cm size cq (f (i + 1)) 0 = cv at *
        generalize hxpg : rP l i = xp at *
        clear hxpg hstep HVi hin hpre hxi hcp hN hcq hk1l hk2l hsz hnil hI2 hR2 hA2 hC2 hL2 hP2 hplt h hc hkid hfd1 hfd2 HCo hya hyb HPk
        generalize f (i + 1) = fa at *
        gi_wp2
        refine wpIn_round_tail (C := fun w' => ∃ y : Kin W, w' = y.u) 8 hmx (by kernel_rfl) (by kernel_rfl) ?lo ⟨⟨_, (Below.refl _ _).drew⟩, rfl⟩ ?_
        case lo => first | (rintro ⟨_, _, hz⟩; exact hz) | (simp [LetsOut]; done)
        simp only [List.take_succ_cons, List.take_zero, List.drop_succ_cons, List.drop_zero]
        iterate 6 quiet_step (with_reducible rfl)
        quiet_step (first | with_reducible rfl | exact kin_of (HCk.out _))
        quiet_step (with_reducible rfl)
        refine wpQuiet_nil ?_
        rintro _ ⟨y, rfl⟩
        have HP4 := show Hid _ from HPq.out y
        have h1 := HP4.out.1.cell hiL
        have h2 := HP4.out.1.frozen i
        clear y5 yc0 yc1 HCk HPq
      rotate_right
      focus
        have hk1' : (1 : Int) < (km l i : Int) := by omega
        obtain ⟨ge, oe, rfl, hge, ce⟩ := (h.below hB).ends (hk1l hk0)
        have hf2 := hf.cell (hk2l hk1)
        have hi2 : (endp l (i + 1) : Int) < (l.length : Int) := by have := hk2l hk1; omega
        have hgl : ge < W.heap.size := hge
        rw [if_pos hk0, if_pos hk1] at hstep
        have HCk : Hid (∀ y : Kin W, Calls Tryz.prog (rP l i).coF #[(rP l i).D, .agg #[.int .i64 size, .slice co nc cc], .int .i64 (f (i + 1)), .int .i64 (f (endp l (i + 1)))] y.u fun e w' => e = .returned (.int .i64 ((rP l i).cm size cq (f (i + 1)) (f (endp l (i + 1))))) ∧ Below y.u.heap.size y.u w') := fun y => HCo _ _ (hin _) (hin _) y.u (hB.trans (y.ok.mono hB.size))
        have HVi := cm_in (rP l i) (a := (f (i + 1))) (b := (f (endp l (i + 1)))) hsz hcq (hin _) (hin _) (fun t n e => pOf_wri e (hN i hiL))
        have y5 : ∀ y : Kin W, y.u.cell? ⟨w.heap.size + 1 + 1 + 1, 0, none⟩ = some (.slice (some ⟨w.heap.size + 1 + 1, 0, none⟩) l.length l.length) := fun y => y.cell (a := ⟨w.heap.size + 1 + 1 + 1, 0, none⟩) (blk_lt hL) hcx
        have yc0 : ∀ y : Kin W, y.u.cell? ⟨w.heap.size + 1, 0, none⟩ = some (.int .i64 size) := fun y => y.cell (a := ⟨w.heap.size + 1, 0, none⟩) (blk_lt hC) C0
        have yc1 : ∀ y : Kin W, y.u.cell? ⟨w.heap.size + 1, 1, none⟩ = some (.slice co nc cc) := fun y => y.cell (a := ⟨w.heap.size + 1, 1, none⟩) (blk_lt hC) C1
        have HPq := show Hid _ from HPk
        have HSt := show Hid _ from hstep
        have HVj := show Hid _ from HVi
        have HIn := show Hid _ from hin
        have hne := Kin.there W
        generalize (rP l i).cm size cq (f (i + 1)) (f (endp l (i + 1))) = cv at *
        generalize hxpg : rP l i = xp at *
        clear hxpg hstep HVi hin hpre hxi hcp hN hcq hk1l hk2l hsz hnil hI2 hR2 hA2 hC2 hL2 hP2 hplt h hc hkid hfd1 hfd2 HCo hya hyb HPk
        generalize f (i + 1) = fa at *
        generalize f (endp l (i + 1)) = fb at *
        generalize endp l (i + 1) = en at *
        have hwr : IntKind.i64.wrap ((i : Int) + 1) = (i : Int) + 1 := by rw [IntKind.wrap_i64]; omega
        have hwt : (IntKind.i64.wrap ((i : Int) + 1)).toNat = i + 1 := by rw [hwr]; omega
        have hpo : (0 : Int) ≤ (i : Int) + 1 := by omega
        have y3 : ∀ y : Kin W, y.u.cell? ⟨w.heap.size, 3, none⟩ = some (.slice (some ⟨ge, oe, none⟩) l.length ec) := fun y => y.cell (a := ⟨w.heap.size, 3, none⟩) (blk_lt hA) A3
        have ye : ∀ y : Kin W, y.u.cell? ⟨ge, oe + (i + 1), none⟩ = some (.int .i64 (en : Nat)) := fun y => y.cell (a := ⟨ge, oe + (i + 1), none⟩) hgl ce
        have yf : ∀ y : Kin W, y.u.cell? ⟨w.heap.size + 1 + 1, en, none⟩ = some (.int .i64 fb) := fun y => y.cell (a := ⟨w.heap.size + 1 + 1, en, none⟩) hf.lt hf2
        gi_wp2
        refine wpIn_round_quiet (C := fun w' => ∃ y : Kin W, w' = y.u) hmx (by kernel_rfl) (by kernel_rfl) ?lo2 ⟨⟨_, (Below.refl _ _).drew⟩, rfl⟩ ?_
        case lo2 => first | (rintro ⟨_, _, hz⟩; exact hz) | (simp [LetsOut]; done)
        iterate 10 quiet_step (with_reducible rfl)
        refine wpQuiet_nil ?_
        rintro _ ⟨yy, rfl⟩
        have hKd : ∀ y : Kin yy.u, Below W.heap.size W y.u := fun y => yy.ok.trans (y.ok.mono yy.ok.size)
        have y5d : ∀ y : Kin yy.u, y.u.cell? ⟨w.heap.size + 1 + 1 + 1, 0, none⟩ = some (.slice (some ⟨w.heap.size + 1 + 1, 0, none⟩) l.length l.length) := fun y => y5 ⟨y.u, hKd y⟩
        have yc0d : ∀ y : Kin yy.u, y.u.cell? ⟨w.heap.size + 1, 0, none⟩ = some (.int .i64 size) := fun y => yc0 ⟨y.u, hKd y⟩
        have yc1d : ∀ y : Kin yy.u, y.u.cell? ⟨w.heap.size + 1, 1, none⟩ = some (.slice co nc cc) := fun y => yc1 ⟨y.u, hKd y⟩
        have HCkd : Hid (∀ y : Kin yy.u, Calls Tryz.prog xp.coF #[xp.D, .agg #[.int .i64 size, .slice co nc cc], .int .i64 fa, .int .i64 fb] y.u fun e w' => e = .returned (.int .i64 cv) ∧ Below y.u.heap.size y.u w') := fun y => HCk.out ⟨y.u, hKd y⟩
        have HPqd : Hid (∀ y : Kin yy.u, RowI y.u (w.heap.size + 1 + 1) l.length f ∧ y.u.heap[w.heap.size]? = some (.cells #[.slice (some ⟨ga, oa, none⟩) l.length ac, .slice qo nq qc, .slice (some ⟨b, bo, none⟩) l.length pc, .slice (some ⟨ge, oe, none⟩) l.length ec] 72 (0, 0)) ∧ y.u.heap[w.heap.size + 1]? = some (.cells #[.int .i64 size, .slice co nc cc] 25 (0, 0)) ∧ y.u.heap[w.heap.size + 1 + 1 + 1]? = some (.cells #[.slice (some ⟨w.heap.size + 1 + 1, 0, none⟩) l.length l.length] 23 (0, 0)) ∧ y.u.heap[w.heap.size + 1 + 1 + 1 + 1]? = some (.cells #[.slice (some ⟨b, bo, none⟩) l.length pc] 70 (0, 0)) ∧ Below w.heap.size w y.u ∧ KeepsFrom w2.heap.size W y.u ∧ Kq [w.heap.size + 1 + 1 + 1 + 1, b] W y.u) := fun y => HPq.out ⟨y.u, hKd y⟩
        have hned := Kin.there yy.u
        clear hne y5 yc0 yc1 HCk HPq y3 ye yf hKd A0 A1 A2 A3 C0 C1 hcx hf1 hf2 c0 c1 c2 c3 c4 ce
        gi_wp2
        refine wpIn_round_tail (C := fun w' => ∃ y : Kin yy.u, w' = y.u) 8 hmx (by kernel_rfl) (by kernel_rfl) ?lo ⟨⟨_, (Below.refl _ _).drew⟩, rfl⟩ ?_
        case lo => first | (rintro ⟨_, _, hz⟩; exact hz) | (simp [LetsOut]; done)
        simp only [List.take_succ_cons, List.take_zero, List.drop_succ_cons, List.drop_zero]
        iterate 6 quiet_step (with_reducible rfl)
        quiet_step (first | with_reducible rfl | exact kin_of (HCkd.out _))
        quiet_step (with_reducible rfl)
        refine wpQuiet_nil ?_
        rintro _ ⟨y, rfl⟩
        have HP4 := show Hid _ from HPqd.out y
        have h1 := HP4.out.1.cell hiL
        have h2 := HP4.out.1.frozen i
        clear y5d yc0d yc1d HCkd HPqd
      all_goals
        generalize y.u = W4 at *
        go_wp2_with fail
        exact ⟨HP4.out.2.2.2.2.2.2.1.trans ((KeepsOthers.setCell W4 _ _).from _), HP4.out.2.2.2.2.2.2.2.trans ⟨by simp, fun k hk => Below.heap_setCell W4 _ _ k (by simp at hk; show k ≠ w.heap.size + 1 + 1; rcases hk with rfl | rfl <;> omega)⟩, ⟨setF f i _, HP4.out.1.set i _, fun j => by unfold setF; split; exact HVj.out; exact HIn.out j, HSt.out⟩, (Below.heap_setCell W4 _ _ _ (by simp; omega)).trans HP4.out.2.1, (Below.heap_setCell W4 _ _ _ (by simp)).trans HP4.out.2.2.1, (Below.heap_setCell W4 _ _ _ (by simp)).trans HP4.out.2.2.2.1, (Below.heap_setCell W4 _ _ _ (by simp; omega)).trans HP4.out.2.2.2.2.1, HP4.out.2.2.2.2.2.1.trans ((Below.refl w.heap.size W4).setCell (p := ⟨w.heap.size + 1 + 1, i, none⟩) (by show w.heap.size ≤ w.heap.size + 1 + 1; omega) _)⟩
    · have hk0' : ¬ (0 : Int) < (km l i : Int) := by omega
      have hk1' : ¬ (1 : Int) < (km l i : Int) := by omega
      rw [if_neg hk0, if_neg (show ¬ 1 < km l i by omega)] at hstep
      have HCk : Hid (∀ y : Kin W, Calls Tryz.prog (rP l i).coF #[(rP l i).D, .agg #[.int .i64 size, .slice co nc cc], .int .i64 0, .int .i64 0] y.u fun e w' => e = .returned (.int .i64 ((rP l i).cm size cq 0 0)) ∧ Below y.u.heap.size y.u w') := fun y => HCo _ _ h00 h00 y.u (hB.trans (y.ok.mono hB.size))
      have HVi := cm_in (rP l i) (a := 0) (b := 0) hsz hcq h00 h00 (fun t n e => pOf_wri e (hN i hiL))
      have y5 : ∀ y : Kin W, y.u.cell? ⟨w.heap.size + 1 + 1 + 1, 0, none⟩ = some (.slice (some ⟨w.heap.size + 1 + 1, 0, none⟩) l.length l.length) := fun y => y.cell (a := ⟨w.heap.size + 1 + 1 + 1, 0, none⟩) (blk_lt hL) hcx
      have yc0 : ∀ y : Kin W, y.u.cell? ⟨w.heap.size + 1, 0, none⟩ = some (.int .i64 size) := fun y => y.cell (a := ⟨w.heap.size + 1, 0, none⟩) (blk_lt hC) C0
      have yc1 : ∀ y : Kin W, y.u.cell? ⟨w.heap.size + 1, 1, none⟩ = some (.slice co nc cc) := fun y => y.cell (a := ⟨w.heap.size + 1, 1, none⟩) (blk_lt hC) C1
      have HPq := show Hid _ from HPk
      have HSt := show Hid _ from hstep
      have HVj := show Hid _ from HVi
      have HIn := show Hid _ from hin
      have hne := Kin.there W
      generalize (rP l i).cm size cq 0 0 = cv at *
      generalize hxpg : rP l i = xp at *
      clear hxpg hstep HVi hin hpre hxi hcp hN hcq hk1l hk2l hsz hnil hI2 hR2 hA2 hC2 hL2 hP2 hplt h hc hkid hfd1 hfd2 HCo hya hyb HPk
      gi_wp2
      refine wpIn_round_tail (C := fun w' => ∃ y : Kin W, w' = y.u) 8 hmx (by kernel_rfl) (by kernel_rfl) ?lo ⟨⟨_, (Below.refl _ _).drew⟩, rfl⟩ ?_
      case lo => first | (rintro ⟨_, _, hz⟩; exact hz) | (simp [LetsOut]; done)
      simp only [List.take_succ_cons, List.take_zero, List.drop_succ_cons, List.drop_zero]
      iterate 6 quiet_step (with_reducible rfl)
      quiet_step (first | with_reducible rfl | exact kin_of (HCk.out _))
      quiet_step (with_reducible rfl)
      refine wpQuiet_nil ?_
      rintro _ ⟨y, rfl⟩
      have HP4 := show Hid _ from HPq.out y
      have h1 := HP4.out.1.cell hiL
      have h2 := HP4.out.1.frozen i
      clear y5 yc0 yc1 HCk HPq
      generalize y.u = W4 at *
      go_wp2_with fail
      exact ⟨HP4.out.2.2.2.2.2.2.1.trans ((KeepsOthers.setCell W4 _ _).from _), HP4.out.2.2.2.2.2.2.2.trans ⟨by simp, fun k hk => Below.heap_setCell W4 _ _ k (by simp at hk; show k ≠ w.heap.size + 1 + 1; rcases hk with rfl | rfl <;> omega)⟩, ⟨setF f i _, HP4.out.1.set i _, fun j => by unfold setF; split; exact HVj.out; exact HIn.out j, HSt.out⟩, (Below.heap_setCell W4 _ _ _ (by simp; omega)).trans HP4.out.2.1, (Below.heap_setCell W4 _ _ _ (by simp)).trans HP4.out.2.2.1, (Below.heap_setCell W4 _ _ _ (by simp)).trans HP4.out.2.2.2.1, (Below.heap_setCell W4 _ _ _ (by simp; omega)).trans HP4.out.2.2.2.2.1, HP4.out.2.2.2.2.2.1.trans ((Below.refl w.heap.size W4).setCell (p := ⟨w.heap.size + 1 + 1, i, none⟩) (by show w.heap.size ≤ w.heap.size + 1 + 1; omega) _)⟩
  case done =>
    rintro D ys W hD rfl ⟨⟨f, hf, hin, hpre⟩, hA, hC, hL, hP, hB⟩ hK
    rw [dnto_length] at hpre
    have hcx : W.cell? ⟨w.heap.size + 1 + 1 + 1, 0, none⟩ = some (.slice (some ⟨w.heap.size + 1 + 1, 0, none⟩) l.length l.length) := by rw [World.cell?, hL]; rfl
    gi_wp2
    refine ⟨by simp, .inl ⟨_, _, rfl, run_takeDeferred hK, ?_⟩⟩
    have hne : w.heap.size + 1 + 1 ≠ D := by omega
    refine ⟨.slice (some ⟨w.heap.size + 1 + 1, 0, none⟩) l.length l.length, ?_, w.heap.size + 1 + 1, rfl, by omega, (hf.of_block (World.putObj_heap_other hne)).ext fun j hj => hpre (by first | rfl | trivial) j hj, hB.trans (belowK_b (w := w) (Nat.le_refl _) _ D _ _ (by omega) hK rfl rfl)⟩
    simp [results, Tryz.f32, go_sem]
  case stop =>
    rintro D cc pre W hD _ h _
    exact h.elim
end Go.Proofs.YtnpdblcfhbamiaaGreat.Nm.Ty
