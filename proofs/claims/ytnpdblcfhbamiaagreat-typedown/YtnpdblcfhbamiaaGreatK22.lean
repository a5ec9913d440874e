import Derived.Test.YtnpdblcfhbamiaaGreatK20
import Derived.Test.YtnpdblcfhbamiaaGreatK18
import Derived.Test.YtnpdblcfhbamiaaGreatK21
import Derived.Deep.Onto
set_option maxHeartbeats 6400000
set_option maxRecDepth 100000
namespace Go.Proofs.YtnpdblcfhbamiaaGreat.Nm.Ty
open Go.RowKit Go.Maps Go.Proofs.YtnpdblcfhbamiaaGreat.Sp Go.Proofs.YtnpdblcfhbamiaaGreat.Lx Go.Proofs.YtnpdblcfhbamiaaGreat.Gr Go.Proofs.YtnpdblcfhbamiaaGreat.Nm
def nc (n : Nat) : Value := .int .i64 n
def kl (l : List Rz) (i k : Nat) : List Nat := (List.range k).map (kidp l i)
theorem kl_succ (l : List Rz) (i k : Nat) : kl l i (k + 1) = kl l i k ++ [kidp l i k] := by simp [kl, List.range_succ]
theorem kl_len (l : List Rz) (i k : Nat) : (kl l i k).length = k := by simp [kl]
/-- a row of n values, by their numbers -/
def fL (n : Nat) (f : Nat → Value) : List Value := (List.range n).map f
theorem fL_at {n : Nat} {f : Nat → Value} {k : Nat} (h : k < n) : (fL n f)[k]? = some (f k) := by simp [fL, h]
def eV (l : List Rz) (i : Nat) : Value := .int .i64 (endp l i : Nat)
/-- what typed reads of a policy -/
structure IsRg (w : World) (l : List Rz) (qv : List Value) (ao qo po eo : Option Addr) : Prop where
  r : IsRz w ao l
  q : IsVals w qo qv
  p : IsVals w po (fL l.length (fun i => (rP l i).V))
  e : IsVals w eo (fL l.length (eV l))
theorem IsRg.below {w w' : World} {l : List Rz} {qv : List Value} {ao qo po eo : Option Addr} (h : IsRg w l qv ao qo po eo) (hb : Below w.heap.size w w') : IsRg w' l qv ao qo po eo := ⟨h.r.below hb, h.q.below hb, h.p.below hb, h.e.below hb⟩
theorem IsRg.part {w : World} {l : List Rz} {qv : List Value} {ao qo po eo : Option Addr} (h : IsRg w l qv ao qo po eo) {i : Nat} (hi : i < l.length) : ∃ g o, po = some ⟨g, o, none⟩ ∧ g < w.heap.size ∧ w.cell? ⟨g, o + i, none⟩ = some (rP l i).V := h.p i _ (fL_at hi)
theorem IsRg.ends {w : World} {l : List Rz} {qv : List Value} {ao qo po eo : Option Addr} (h : IsRg w l qv ao qo po eo) {i : Nat} (hi : i < l.length) : ∃ g o, eo = some ⟨g, o, none⟩ ∧ g < w.heap.size ∧ w.cell? ⟨g, o + i, none⟩ = some (.int .i64 (endp l i : Nat)) := h.e i _ (fL_at hi)
abbrev rgC (l : List Rz) (nq : Nat) (ao qo po eo : Option Addr) (ac qc pc ec : Nat) : Array Value := #[.slice ao l.length ac, .slice qo nq qc, .slice po l.length pc, .slice eo l.length ec]
theorem cells4 {wq : World} {B : Nat} {v0 v1 v2 v3 : Value} {T : TypeId} (h : wq.heap[B]? = some (.cells #[v0, v1, v2, v3] T (0, 0))) : wq.cell? ⟨B, 0, none⟩ = some v0 ∧ wq.cell? ⟨B, 1, none⟩ = some v1 ∧ wq.cell? ⟨B, 2, none⟩ = some v2 ∧ wq.cell? ⟨B, 3, none⟩ = some v3 := by
  refine ⟨?_, ?_, ?_, ?_⟩
  all_goals
    simp only [World.cell?, h]
    rfl
/-- the box of a reading, in a world that comes later -/
theorem box4 {w W : World} {c : Array Value} {T : TypeId} (h : Below (w.heap.size + 1) (w.alloc (.cells c T)) W) : W.heap[w.heap.size]? = some (.cells c T (0, 0)) := (h.block _ (Nat.lt_succ_self _)).trans (heap_alloc_new w _)
theorem kids_any {l : List Rz} {qv : List Value} {nq : Nat} {ao qo po eo : Option Addr} {ac qc pc ec : Nat} (i : Nat) {w : World} (h : IsRg w l qv ao qo po eo) (hn : l.length ≤ 2932031007317) (hT : TreeZ l) (hi : i < l.length) :
    Calls Tryz.prog 70 #[.agg (rgC l nq ao qo po eo ac qc pc ec), .int .i64 i] w fun e w' => ∃ v, e = .returned v ∧ w'.ownsRow w.heap.size 3 1 v (km l i) ((kl l i (km l i)).map nc) ∧ Below w.heap.size w w' := by
  obtain ⟨j0, hj, hj0, hj1, hj2⟩ := info_parts info3
  have HI : Hid (IsRg w l qv ao qo po eo) := h
  have HT : Hid (TreeZ l) := hT
  have hln : (l.length : Int) ≤ 2932031007317 := by omega
  have hi1 : (i : Int) < (l.length : Int) := by omega
  have HKm : Hid (km l i ≤ 2932031007317) := by have := km_le hT.whole hi; show _ ≤ _; omega
  have HEe : Hid (endp l i ≤ l.length) := (end_kid hT.whole hi).2.2
  have HB0 : Hid (Below w.heap.size w (w.alloc (.cells (rgC l nq ao qo po eo ac qc pc ec) 72))) := (Below.refl _ w).alloc (Nat.le_refl _) _
  dsimp only [rgC] at *
  clear h hn hT
  go_enter Tryz.func70, Tryz.ntmps70
  go_wp2_with fail
  have HX : Hid ((w.alloc (.cells #[.slice ao l.length ac, .slice qo nq qc, .slice po l.length pc, .slice eo l.length ec] 72)).heap[w.heap.size]? = some (.cells #[.slice ao l.length ac, .slice qo nq qc, .slice po l.length pc, .slice eo l.length ec] 72 (0, 0)) ∧ w.heap.size + 1 = (w.alloc (.cells #[.slice ao l.length ac, .slice qo nq qc, .slice po l.length pc, .slice eo l.length ec] 72)).heap.size) := ⟨heap_alloc_new w _, by simp⟩
  generalize (w.alloc (.cells #[.slice ao l.length ac, .slice qo nq qc, .slice po l.length pc, .slice eo l.length ec] 72)) = w1 at *
  go_loopg [5, 6] (km l i) (fun gq x nx wr => ∃ (k : Nat) (v : Value), k ≤ km l i ∧ gq = km l i - k ∧ v = x ∧ nx = .int .i64 (kidp l i k : Int) ∧ wr.ownsRow w1.heap.size 3 1 v k ((kl l i k).map nc) ∧ Below w1.heap.size w1 wr)
  case atStart => exact ⟨0, _, Nat.zero_le _, rfl, rfl, by rw [kid_zero]; go_num, World.ownsRow_nil _ _ _ _, Below.refl _ _⟩
  case round =>
    obtain ⟨k, v, hk, hgk, rfl, rfl, hO, hB⟩ := hrel
    have HG : Hid (gk = km l i - k) := hgk
    have HO : Hid (wr.ownsRow w1.heap.size 3 1 v k ((kl l i k).map nc)) := hO
    have HBr : Hid (Below w1.heap.size w1 wr) := hB
    have HKl : Hid (k ≤ 2932031007317) := by have := HKm.out; show _ ≤ _; omega
    have HKp : Hid (kidp l i k ≤ l.length) := kid_le HT.out.whole hi hk
    have hkp : (kidp l i k : Int) ≤ 2932031007317 := by have := HKp.out; omega
    have hbx := (HBr.out.block _ (by have := HX.out.2; omega)).trans HX.out.1
    obtain ⟨c0, c1, c2, c3⟩ := cells4 hbx
    have HIr : Hid (IsRg wr l qv ao qo po eo) := HI.out.below (HB0.out.trans (HBr.out.mono HB0.out.size))
    obtain ⟨ge, oe, rfl, hge, ce⟩ := HIr.out.ends hi
    have hee : (endp l i : Int) ≤ 2932031007317 := by have := HEe.out; omega
    clear hgk hO hB hbx
    by_cases hlk : k < km l i
    · obtain ⟨h1, h2, h3⟩ := kid_at HT.out.whole hi hlk
      have h4 : kidp l i k < endp l i := by
        have h5 := (kidIn HT.out.whole hi hlk).2.2.1
        have h6 := (end_kid HT.out.whole h1).2.1
        omega
      have h4' : (kidp l i k : Int) < (endp l i : Int) := by omega
      have h1' : (kidp l i k : Int) < (l.length : Int) := by omega
      have HNx : Hid (kidp l i (k + 1) = endp l (kidp l i k)) := h2
      obtain ⟨ge2, oe2, hge0, hge2, ce2⟩ := HIr.out.ends h1
      obtain ⟨rfl, rfl⟩ : ge = ge2 ∧ oe = oe2 := by cases hge0; exact ⟨rfl, rfl⟩
      have hb2 : Below wr.heap.size wr (wr.alloc (.cells #[.int .i64 (kidp l i k : Int)] 3)) := (Below.refl _ wr).alloc (Nat.le_refl _) _
      have HO2 : Hid ((wr.alloc (.cells #[.int .i64 (kidp l i k : Int)] 3)).ownsRow w1.heap.size 3 1 v k ((kl l i k).map nc)) := own_below HO.out hb2
      obtain ⟨bo, bc, rfl⟩ := own_form HO.out
      have HEn : Hid (endp l (kidp l i k) ≤ l.length) := (end_kid HT.out.whole h1).2.2
      have HLk : Hid (k < km l i) := hlk
      clear h1 h2 h3 h4 hlk hk hb2
      go_wp2_with (at_builtin; refine append_gone _ rfl _ _ 23 rfl w1.heap.size 3 j0 (.int .i64 0) 1 8 Tryz.underlying23 hj hj0 hj1 hj2 rfl (by decide) (.slice bo k bc) k ((kl l i k).map nc) rfl HO2.out ⟨wr.heap.size, 0, none⟩ 1 1 [nc (kidp l i k)] rfl rfl (cell_one wr _ _) (by intro u hu; simp only [nc, List.mem_cons, List.not_mem_nil, or_false] at hu; subst hu; rfl) (by have := HKl.out; unfold maxLen; omega) (by have := HKl.out; omega) (by have h1 := HBr.out.size; rw [World.size_alloc]; omega) (by decide) ?_)
      intro v4 w4 ho hG
      have HO4 : Hid (w4.ownsRow w1.heap.size 3 1 v4 (k + 1) ((kl l i (k + 1)).map nc)) := by
        show w4.ownsRow w1.heap.size 3 1 v4 (k + 1) ((kl l i (k + 1)).map nc)
        rw [kl_succ]
        simpa using ho
      have hb4 : Below w1.heap.size (wr.alloc (.cells #[.int .i64 (kidp l i k : Int)] 3)) w4 := (Went.gone hG).low (fun j hj => (World.ownsRow.lt HO2.out j hj).1) (by have h1 := HBr.out.size; rw [World.size_alloc]; omega)
      have HB4 : Hid (Below w1.heap.size w1 w4) := (HBr.out.alloc HBr.out.size _).trans hb4
      obtain ⟨bo4, bc4, rfl⟩ := own_form ho
      clear ho hG hb4 c0 c1 c2 c3 ce ce2
      have hbx := (HB4.out.block _ (by have := HX.out.2; omega)).trans HX.out.1
      obtain ⟨c0, c1, c2, c3⟩ := cells4 hbx
      obtain ⟨ge3, oe3, hge1, _, ce⟩ := (HI.out.below (HB0.out.trans (HB4.out.mono HB0.out.size))).ends (i := kidp l i k) (by omega)
      obtain ⟨rfl, rfl⟩ : ge = ge3 ∧ oe = oe3 := by cases hge1; exact ⟨rfl, rfl⟩
      clear hbx hge1
      go_wp2_with fail
      go_roundg (km l i - (k + 1))
      case measure => have h1 := HG.out; have := HLk.out; omega
      case rel => exact ⟨k + 1, _, by have := HLk.out; omega, rfl, rfl, by rw [HNx.out], HO4.out, HB4.out⟩
    · have hke : k = km l i := by omega
      have hke2 : (kidp l i k : Int) = (endp l i : Int) := by rw [hke, (end_kid HT.out.whole hi).1]
      have hlk' : ¬ ((kidp l i k : Int) < (endp l i : Int)) := by omega
      have HF : Hid (wr.ownsRow w1.heap.size 3 1 v (km l i) ((kl l i (km l i)).map nc)) := by rw [hke] at HO; exact HO
      clear hke hlk hk hke2
      go_wp2_with fail
      go_ret
      exact ⟨_, rfl, own_base HF.out HB0.out.size, HB0.out.trans (HBr.out.mono HB0.out.size)⟩
end Go.Proofs.YtnpdblcfhbamiaaGreat.Nm.Ty
namespace Go.Proofs.YtnpdblcfhbamiaaGreat.Nm.Ty
open Go.RowKit Go.Maps Go.Proofs.YtnpdblcfhbamiaaGreat.Sp Go.Proofs.YtnpdblcfhbamiaaGreat.Lx Go.Proofs.YtnpdblcfhbamiaaGreat.Gr
/-- what the rows of a policy that was checked say of queues -/
structure Qs (l : List Rz) (qs : List (ByteArray × Bool)) : Prop where
  n : ∀ i, i < l.length → (rat l i).kind = 8 ∨ (rat l i).kind = 9 ∨ (rat l i).kind = 17 ∨ (rat l i).kind = 19 ∨ (rat l i).kind = 20 ∨ (rat l i).kind = 21 ∨ (rat l i).kind = 24 → ∃ n : Nat, (rat l i).n = (n : Int) ∧ n < qs.length
  up : ∀ i, i < l.length → (rat l i).kind = 24 → 0 < i ∧ ((rat l (i - 1)).kind = 19 ∨ (rat l (i - 1)).kind = 20)
def ghL (qs : List (ByteArray × Bool)) (i : Nat) : Bool := (qs.getD i (⟨#[]⟩, false)).2
theorem qF_at {qs : List (ByteArray × Bool)} {n : Nat} (h : n < qs.length) : (qF qs)[n * 2 + 1]? = some (.bool (ghL qs n)) := by
  induction qs generalizing n with
  | nil => simp at h
  | cons q qs ih =>
    cases n with
    | zero => simp [qF, ghL]
    | succ n =>
      have := ih (n := n) (by simpa using h)
      simp only [qF, List.flatMap_cons] at this ⊢
      rw [show (n + 1) * 2 + 1 = n * 2 + 1 + 2 by omega]
      simpa [ghL] using this
theorem row_cells {w : World} {ao : Option Addr} {l : List Rz} (h : IsRz w ao l) {k : Nat} (hk : k < l.length) : ∃ g o, ao = some ⟨g, o, none⟩ ∧ g < w.heap.size ∧ w.cell? ⟨g, o + k * 5, none⟩ = some (.int .i64 (rat l k).kind) ∧ w.cell? ⟨g, o + k * 5 + 1, none⟩ = some (.string (rat l k).name) ∧ w.cell? ⟨g, o + k * 5 + 2, none⟩ = some (.int .i64 (rat l k).stop) ∧ w.cell? ⟨g, o + k * 5 + 3, none⟩ = some (.int .i64 (rat l k).n) ∧ w.cell? ⟨g, o + k * 5 + 4, none⟩ = some (.int .i64 (rat l k).kids) := h k _ (some_rat hk)
theorem ghost_any {l : List Rz} {qs : List (ByteArray × Bool)} {ao qo po eo : Option Addr} {ac qc pc ec : Nat} (i n : Nat) {w : World} (h : IsRg w l (qF qs) ao qo po eo) (hn : l.length ≤ 2932031007317) (hi : i < l.length) (hN : (rat l i).n = (n : Int)) (hq : n < qs.length) (hql : qs.length ≤ 2932031007317) :
    Calls Tryz.prog 90 #[.agg (rgC l qs.length ao qo po eo ac qc pc ec), .int .i64 i] w fun e w' => e = .returned (.bool (ghL qs n)) ∧ Below w.heap.size w w' := by
  have hln : (l.length : Int) ≤ 2932031007317 := by omega
  have hi1 : (i : Int) < (l.length : Int) := by omega
  have hq1 : (n : Int) < (qs.length : Int) := by omega
  have hq2 : (qs.length : Int) ≤ 2932031007317 := by omega
  have hb : Below w.heap.size w (w.alloc (.cells (rgC l qs.length ao qo po eo ac qc pc ec) 72)) := (Below.refl _ w).alloc (Nat.le_refl _) _
  have h2 := h.below hb
  obtain ⟨g, o, rfl, hg, c0, c1, c2, c3, c4⟩ := row_cells h2.r hi
  rw [hN] at c3
  obtain ⟨gq, oq, rfl, hgq, cq⟩ := h2.q (n * 2 + 1) _ (qF_at hq)
  have cq' := cq
  rw [← Nat.add_assoc] at cq'
  have HB := show Hid _ from hb
  have hx := heap_alloc_new w (.cells (rgC l qs.length (some ⟨g, o, none⟩) (some ⟨gq, oq, none⟩) po eo ac qc pc ec) 72)
  obtain ⟨b0, b1, b2, b3⟩ := cells4 hx
  have HX := show Hid _ from hx
  dsimp only [rgC] at *
  clear h hb h2 hx c0 c1 c2 c4 cq hN
  generalize ghL qs n = z at *
  generalize hW : w.alloc (.cells #[.slice (some ⟨g, o, none⟩) l.length ac, .slice (some ⟨gq, oq, none⟩) qs.length qc, .slice po l.length pc, .slice eo l.length ec] 72) = w1 at *
  go_enter Tryz.func90, Tryz.ntmps90
  go_wp2_with fail
  clear hW HX
  go_region
  go_wp2
  go_ret
  exact ⟨rfl, HB.out.drew⟩
theorem till_cases (k : Int) : k = 4 ∨ k = 5 ∨ k = 6 ∨ k = 13 ∨ (¬ k = 4 ∧ ¬ k = 5 ∧ ¬ k = 6 ∧ ¬ k = 13) := by omega
theorem till_any {l : List Rz} {qv : List Value} {nq : Nat} {ao qo po eo : Option Addr} {ac qc pc ec : Nat} (i : Nat) {w : World} (h : IsRg w l qv ao qo po eo) (hn : l.length ≤ 2932031007317) (hi : i < l.length) (hL : (rat l i).kind = 13 → i + 1 < l.length) :
    Calls Tryz.prog 69 #[.agg (rgC l nq ao qo po eo ac qc pc ec), .int .i64 i] w fun e w' => e = .returned (.int .i64 (tillZ l i : Nat)) ∧ Below w.heap.size w w' := by
  have hln : (l.length : Int) ≤ 2932031007317 := by omega
  have hi1 : (i : Int) < (l.length : Int) := by omega
  have HT : Hid (tillZ l i = if (rat l i).kind = 4 ∨ (rat l i).kind = 5 ∨ (rat l i).kind = 6 then endp l i else if (rat l i).kind = 13 then endp l (i + 1) else 0) := rfl
  have hb : Below w.heap.size w (w.alloc (.cells (rgC l nq ao qo po eo ac qc pc ec) 72)) := (Below.refl _ w).alloc (Nat.le_refl _) _
  have HI := show Hid _ from h.below hb
  have HB := show Hid _ from hb
  have HX := show Hid _ from heap_alloc_new w (.cells (rgC l nq ao qo po eo ac qc pc ec) 72)
  obtain ⟨g, o, rfl, hg, c0, _⟩ := row_cells HI.out.r hi
  obtain ⟨ge, oe, rfl, hge, ce⟩ := HI.out.ends hi
  obtain ⟨b0, b1, b2, b3⟩ := cells4 HX.out
  dsimp only [rgC] at *
  clear h hb hn
  by_cases h13 : (rat l i).kind = 13
  · obtain ⟨ge2, oe2, hge0, _, ce2⟩ := HI.out.ends (hL h13)
    obtain ⟨rfl, rfl⟩ : ge = ge2 ∧ oe = oe2 := by cases hge0; exact ⟨rfl, rfl⟩
    have HR : Hid (tillZ l i = endp l (i + 1)) := by show _ = _; rw [HT.out, h13]; rfl
    have hi2 : (i : Int) + 1 < (l.length : Int) := by have := hL h13; omega
    have hi3 : ((i + 1 : Nat) : Int) = (i : Int) + 1 := by omega
    rw [h13] at c0
    clear HT hge0 hL
    go_enter Tryz.func69, Tryz.ntmps69
    go_wp2
    go_ret
    rw [HR.out]
    exact ⟨rfl, HB.out⟩
  · by_cases h4 : (rat l i).kind = 4 ∨ (rat l i).kind = 5 ∨ (rat l i).kind = 6
    · have HR : Hid (tillZ l i = endp l i) := by show _ = _; rw [HT.out, if_pos h4]
      clear HT hL
      rcases h4 with h | h | h
      all_goals
        rw [h] at c0
        go_enter Tryz.func69, Tryz.ntmps69
        go_wp2
        go_ret
        rw [HR.out]
        exact ⟨rfl, HB.out⟩
    · have HR : Hid (tillZ l i = 0) := by show _ = _; rw [HT.out, if_neg h4, if_neg h13]
      generalize (rat l i).kind = kd at *
      have q1 : (kd == 13) = false := beq_false_of_ne h13
      have q2 : (kd == 4) = false := beq_false_of_ne (fun e => h4 (Or.inl e))
      have q3 : (kd == 5) = false := beq_false_of_ne (fun e => h4 (Or.inr (Or.inl e)))
      have q4 : (kd == 6) = false := beq_false_of_ne (fun e => h4 (Or.inr (Or.inr e)))
      clear HT hL h4 h13
      go_enter Tryz.func69, Tryz.ntmps69
      go_wp2
      go_ret
      rw [HR.out]
      exact ⟨rfl, HB.out⟩
theorem other_any {l : List Rz} {qs : List (ByteArray × Bool)} {ao qo po eo : Option Addr} {ac qc pc ec : Nat} (i : Nat) {w : World} (h : IsRg w l (qF qs) ao qo po eo) (hn : l.length ≤ 2932031007317) (hi : i < l.length) (hQ : Qs l qs) (hql : qs.length ≤ 2932031007317) :
    Calls Tryz.prog 68 #[.agg (rgC l qs.length ao qo po eo ac qc pc ec), .int .i64 i] w fun e w' => e = .returned (.bool (othZ l (ghL qs) i)) ∧ Below w.heap.size w w' := by
  have hln : (l.length : Int) ≤ 2932031007317 := by omega
  have hi1 : (i : Int) < (l.length : Int) := by omega
  have HO : Hid (othZ l (ghL qs) i = if (rat l i).kind = 8 ∨ (rat l i).kind = 17 ∨ (rat l i).kind = 20 then ghZ l (ghL qs) i else if (rat l i).kind = 9 ∨ (rat l i).kind = 21 then !ghZ l (ghL qs) i
    else if (rat l i).kind = 24 then (if (rat l (i - 1)).kind = 20 then !ghZ l (ghL qs) i else ghZ l (ghL qs) i != ghZ l (ghL qs) (i - 1)) else false) := rfl
  have hb : Below w.heap.size w (w.alloc (.cells (rgC l qs.length ao qo po eo ac qc pc ec) 72)) := (Below.refl _ w).alloc (Nat.le_refl _) _
  have HI := show Hid _ from h.below hb
  have HB := show Hid _ from hb
  have HX := show Hid _ from heap_alloc_new w (.cells (rgC l qs.length ao qo po eo ac qc pc ec) 72)
  have HGh : Hid (∀ (j n : Nat) (W : World), IsRg W l (qF qs) ao qo po eo → j < l.length → (rat l j).n = (n : Int) → n < qs.length → Calls Tryz.prog 90 #[.agg (rgC l qs.length ao qo po eo ac qc pc ec), .int .i64 j] W fun e w' => e = .returned (.bool (ghL qs n)) ∧ Below W.heap.size W w') := fun j n W hW hj hN hq => ghost_any j n hW hn hj hN hq hql
  obtain ⟨g, o, rfl, hg, c0, _⟩ := row_cells HI.out.r hi
  obtain ⟨b0, b1, b2, b3⟩ := cells4 HX.out
  dsimp only [rgC] at *
  clear h hb hn
  by_cases hA : (rat l i).kind = 8 ∨ (rat l i).kind = 17 ∨ (rat l i).kind = 20
  · obtain ⟨n, hN, hq⟩ := hQ.n i hi (by omega)
    have HR : Hid (othZ l (ghL qs) i = ghL qs n) := by show _ = _; rw [HO.out, if_pos hA]; unfold ghZ; rw [hN]; rfl
    have HC := show Hid _ from HGh.out i n _ HI.out hi hN hq
    clear HO HGh hQ
    generalize ghL qs n = z at *
    rcases hA with h | h | h
    all_goals
      rw [h] at c0
      go_enter Tryz.func68, Tryz.ntmps68
      go_wp2_with fail
      refine Calls.mono HC.out ?_
      rintro e w2 ⟨rfl, hb2⟩
      have HB2 : Hid (Below w.heap.size w w2) := HB.out.trans (hb2.mono HB.out.size)
      clear hb2
      go_wp2
      go_ret
      rw [HR.out]
      exact ⟨rfl, HB2.out⟩
  · by_cases hD : (rat l i).kind = 9 ∨ (rat l i).kind = 21
    · obtain ⟨n, hN, hq⟩ := hQ.n i hi (by omega)
      have HR : Hid (othZ l (ghL qs) i = !ghL qs n) := by show _ = _; rw [HO.out, if_neg hA, if_pos hD]; unfold ghZ; rw [hN]; rfl
      have HC := show Hid _ from HGh.out i n _ HI.out hi hN hq
      clear HO HGh hQ hA
      generalize ghL qs n = z at *
      rcases hD with h | h
      all_goals
        rw [h] at c0
        go_enter Tryz.func68, Tryz.ntmps68
        go_wp2_with fail
        refine Calls.mono HC.out ?_
        rintro e w2 ⟨rfl, hb2⟩
        have HB2 : Hid (Below w.heap.size w w2) := HB.out.trans (hb2.mono HB.out.size)
        clear hb2
        go_wp2
        go_ret
        rw [HR.out]
        exact ⟨rfl, HB2.out⟩
    · by_cases hP : (rat l i).kind = 24
      · obtain ⟨n, hN, hq⟩ := hQ.n i hi (by omega)
        obtain ⟨hi0, hup⟩ := hQ.up i hi hP
        obtain ⟨n2, hN2, hq2⟩ := hQ.n (i - 1) (by omega) (by omega)
        have hs : ((i : Int) - 1) = ((i - 1 : Nat) : Int) := by omega
        obtain ⟨g2, o2, hg0, _, d0, _⟩ := row_cells HI.out.r (k := i - 1) (by omega)
        obtain ⟨rfl, rfl⟩ : g = g2 ∧ o = o2 := by cases hg0; exact ⟨rfl, rfl⟩
        have hi2 : ((i - 1 : Nat) : Int) < (l.length : Int) := by omega
        have HC := show Hid _ from HGh.out i n _ HI.out hi hN hq
        rw [hP] at c0
        rcases hup with h19 | h20
        · have HR : Hid (othZ l (ghL qs) i = (ghZ l (ghL qs) i != ghZ l (ghL qs) (i - 1))) := by show _ = _; rw [HO.out, if_neg hA, if_neg hD, if_pos hP, h19]; rfl
          rw [h19] at d0
          have HC2 : Hid (∀ (j : Nat) (W : World), IsRg W l (qF qs) (some ⟨g, o, none⟩) qo po eo → (j = i ∨ j = i - 1) → Calls Tryz.prog 90 #[.agg #[.slice (some ⟨g, o, none⟩) l.length ac, .slice qo qs.length qc, .slice po l.length pc, .slice eo l.length ec], .int .i64 j] W fun e w' => e = .returned (.bool (ghZ l (ghL qs) j)) ∧ Below W.heap.size W w') := by
            intro j W hW hj
            rcases hj with rfl | rfl
            · unfold ghZ; rw [hN]; exact HGh.out _ n W hW hi hN hq
            · unfold ghZ; rw [hN2]; exact HGh.out _ n2 W hW (by omega) hN2 hq2
          clear HO HGh hQ hA hD hP hg0 hN hN2 HC
          generalize i - 1 = i1 at *
          generalize ghZ l (ghL qs) = gz at *
          go_enter Tryz.func68, Tryz.ntmps68
          go_wp2_with fail
          generalize (w.alloc (.cells #[.slice (some ⟨g, o, none⟩) l.length ac, .slice qo qs.length qc, .slice po l.length pc, .slice eo l.length ec] 72)) = w1 at *
          have hlt := blk_lt HX.out
          have y0 : ∀ y : Kin w1, y.u.cell? ⟨w.heap.size, 0, none⟩ = some (.slice (some ⟨g, o, none⟩) l.length ac) := fun y => y.cell (a := ⟨w.heap.size, 0, none⟩) hlt b0
          have y1 : ∀ y : Kin w1, y.u.cell? ⟨w.heap.size, 1, none⟩ = some (.slice qo qs.length qc) := fun y => y.cell (a := ⟨w.heap.size, 1, none⟩) hlt b1
          have y2 : ∀ y : Kin w1, y.u.cell? ⟨w.heap.size, 2, none⟩ = some (.slice po l.length pc) := fun y => y.cell (a := ⟨w.heap.size, 2, none⟩) hlt b2
          have y3 : ∀ y : Kin w1, y.u.cell? ⟨w.heap.size, 3, none⟩ = some (.slice eo l.length ec) := fun y => y.cell (a := ⟨w.heap.size, 3, none⟩) hlt b3
          have HC3 : Hid (∀ (y : Kin w1) (j : Nat), (j = i ∨ j = i1) → Calls Tryz.prog 90 #[.agg #[.slice (some ⟨g, o, none⟩) l.length ac, .slice qo qs.length qc, .slice po l.length pc, .slice eo l.length ec], .int .i64 j] y.u fun e w' => e = .returned (.bool (gz j)) ∧ Below y.u.heap.size y.u w') := fun y j hj => HC2.out j y.u (HI.out.below y.ok) hj
          clear HC2 b0 b1 b2 b3 c0 d0
          refine wp_region_kin (by kernel_rfl) (by kernel_rfl) ?_
          have hw1 : IntKind.i64.wrap (i1 : Int) = (i1 : Int) := by rw [IntKind.wrap_i64]; omega
          have HCa := show Hid _ from fun y => HC3.out y i (Or.inl rfl)
          have HCb := show Hid _ from fun y => HC3.out y i1 (Or.inr rfl)
          clear HC3
          iterate 3 quiet_step (first | with_reducible rfl | exact kin_of (HCa.out _))
          clear HCa
          iterate 4 quiet_step (first | with_reducible rfl | exact kin_of (HCb.out _))
          iterate 2 quiet_step (with_reducible rfl)
          refine wpQuiet_nil ?_
          rintro _ ⟨y, rfl⟩
          have HYk : Hid (Below w.heap.size w y.u) := HB.out.trans (y.ok.mono HB.out.size)
          clear y0 y1 y2 y3 HCb
          generalize y.u = w4 at *
          go_wp2
          go_ret
          rw [HR.out]
          exact ⟨rfl, HYk.out⟩
        · have HR : Hid (othZ l (ghL qs) i = !ghL qs n) := by show _ = _; rw [HO.out, if_neg hA, if_neg hD, if_pos hP, h20]; unfold ghZ; rw [hN]; rfl
          rw [h20] at d0
          clear HO HGh hQ hA hD hP hg0 hN hN2
          generalize ghL qs n = z at *
          generalize i - 1 = i1 at *
          go_enter Tryz.func68, Tryz.ntmps68
          go_wp2_with fail
          refine Calls.mono HC.out ?_
          rintro e w2 ⟨rfl, hb2⟩
          have HB2 : Hid (Below w.heap.size w w2) := HB.out.trans (hb2.mono HB.out.size)
          clear hb2
          go_wp2
          go_ret
          rw [HR.out]
          exact ⟨rfl, HB2.out⟩
      · have HR : Hid (othZ l (ghL qs) i = false) := by show _ = _; rw [HO.out, if_neg hA, if_neg hD, if_neg hP]
        generalize (rat l i).kind = kd at *
        have q1 : (kd == 8) = false := beq_false_of_ne (by omega)
        have q2 : (kd == 17) = false := beq_false_of_ne (by omega)
        have q3 : (kd == 20) = false := beq_false_of_ne (by omega)
        have q4 : (kd == 9) = false := beq_false_of_ne (by omega)
        have q5 : (kd == 21) = false := beq_false_of_ne (by omega)
        have q6 : (kd == 24) = false := beq_false_of_ne (by omega)
        clear HO HGh hQ hA hD hP
        go_enter Tryz.func68, Tryz.ntmps68
        go_wp2
        go_ret
        rw [HR.out]
        exact ⟨rfl, HB.out⟩
end Go.Proofs.YtnpdblcfhbamiaaGreat.Nm.Ty
