import Derived.Test.YtkekmmomdhdegaaIxFind
import Derived.Deep.DeepCutAuto
import Derived.Deep.CutBlock
namespace Go.Proofs.Ytkekmmomdhdegaa.Ii
open Go.RowKit Go.Proofs.Ytkekmmomdhdegaa.Ix

def isZ (k : IntKind) (v : Option Value) : Bool := match v with
  | some (.int k' n) => decide (k' = k) && decide (n = 0)
  | _ => false
theorem isZ_eq {k : IntKind} {v : Option Value} (h : isZ k v = true) : v = some (.int k 0) := by
  unfold isZ at h
  split at h
  · simp at h
    rw [h.1, h.2]
  · cases h
def isF (v : Option Value) : Bool := match v with
  | some (.bool false) => true
  | _ => false
theorem isF_eq {v : Option Value} (h : isF v = true) : v = some (.bool false) := by
  unfold isF at h
  split at h
  · rfl
  · cases h
/-- a value's zero -/
def isE (v : Option Value) : Bool := isZ .i64 v
theorem isE_eq {v : Option Value} (h : isE v = true) : v = some (ev ez) := isZ_eq h
theorem page_zero (j : Nat) (hj : j < 32) : Slt Try.zeroCells77 j none := by
  have H : (List.range 32).all (fun j => isZ .u64 Try.zeroCells77[j * 3]? && (isE Try.zeroCells77[j * 3 + 1]? && isF Try.zeroCells77[j * 3 + 2]?)) = true := by kernel_rfl
  have := List.all_eq_true.1 H j (by simpa using hj)
  simp only [Bool.and_eq_true] at this
  exact ⟨0, ez, false, isZ_eq this.1, isE_eq this.2.1, isF_eq this.2.2, rfl⟩
theorem page_size : Try.zeroCells77.size = 96 := by kernel_rfl

theorem info73 : (Try.prog.info? 73).map (fun i => (i.zero, i.size, i.bytes)) = some (some (.pointer none), 1, 8) := by kernel_rfl
/-- make([]*page, n) -/
theorem mk_pages (n : Nat) (hn : n ≤ 8388608) : ∃ M : Array Value, (∀ u : World, (Instr.makeSlice 69 (.int .i64 (n : Int)) (.int .i64 (n : Int))).run Try.prog u = .ok (.slice (some ⟨u.heap.size, 0, none⟩) n n) (u.alloc (.cells M 73))) ∧ ∀ j, j < n → M[j]? = some (.pointer none) := by
  obtain ⟨i0, hi, hz0, hz1, hz2⟩ := info_parts info73
  refine ⟨madeCells (Value.pointer none).cells (n * 1), fun u => ?_, fun j hj => ?_⟩
  · have h := run_make (P := Try.prog) u 69 73 i0 (.pointer none) Try.underlying69 hi hz0 .i64 .i64 (n : Int) (n : Int) (by omega) (Int.le_refl _) (by rw [hz2]; omega) (by omega)
    have e : (n : Int).toNat = n := by omega
    rw [e, hz1] at h
    exact h
  · have e1 : (Value.pointer none).cells = #[.pointer none] := rfl
    rw [e1]
    simp [madeCells, hj, Nat.mod_one]

section
variable {w : World} {g : Nat} {o : Lo} {b most count n : Nat} {t : Tb El}
def Lo.more (o : Lo) (k p : Nat) : Lo := { o with ps := fun i => if i = k then some p else o.ps i }
theorem alloc_other {w : World} {ob : Obj} {k : Nat} (h : k < w.heap.size) : (w.alloc ob).heap[k]? = w.heap[k]? := Below.heap_alloc w ob k h
theorem alloc_at (w : World) (cs : Array Value) (T : TypeId) : (w.alloc (.cells cs T)).heap[w.heap.size]? = some (.cells cs T (0, 0)) := heap_alloc_new w _
theorem Mem.addPage (h : Mem w g o b most count t) {k : Nat} (hk : k < o.np) (hp : o.ps k = none) :
    Mem ((w.alloc (.cells Try.zeroCells77 77)).setCell ⟨o.pb, k, none⟩ (.pointer (some ⟨w.heap.size, 0, none⟩))) g (o.more k w.heap.size) b most count t := by
  obtain ⟨cs, h1, h2⟩ := h.pg (by omega)
  have hpb := (Array.getElem?_eq_some_iff.1 h1).1
  have hg := h.g_lt
  have a1 := (alloc_other (ob := .cells Try.zeroCells77 77) hpb).trans h1
  refine ⟨?_, h.np, fun _ => ⟨_, set_blk a1, fun i hi => ?_⟩, fun i p hi => ?_, fun i i' p hi hi' => ?_, fun i hi j hj => ?_⟩
  · rw [set_other (ne_of_type h.blk h1 (by decide)), alloc_other hg]
    exact h.blk
  · rw [set_get (h2 i hi)]
    unfold Lo.more
    dsimp only
    by_cases e : i = k
    · subst e; rw [if_pos rfl, if_pos rfl]; rfl
    · rw [if_neg (Ne.symm e), if_neg e]
  · unfold Lo.more at hi
    dsimp only at hi
    by_cases e : i = k
    · subst e
      rw [if_pos rfl] at hi
      cases hi
      exact ⟨hk, _, by rw [set_other (by omega)]; exact alloc_at _ _ _, page_size, fun j hj => by rw [h.no i hp j hj]; exact page_zero j hj⟩
    · rw [if_neg e] at hi
      obtain ⟨k0, cq, k1, k2⟩ := h.pp i p hi
      exact ⟨k0, cq, by rw [set_other (ne_of_type k1 h1 (by decide)), alloc_other ((Array.getElem?_eq_some_iff.1 k1).1)]; exact k1, k2⟩
  · unfold Lo.more at hi hi'
    dsimp only at hi hi'
    have hlt : ∀ i p, o.ps i = some p → p < w.heap.size := fun i p hi => by
      obtain ⟨_, _, k1, _⟩ := h.pp i p hi
      exact (Array.getElem?_eq_some_iff.1 k1).1
    by_cases e : i = k <;> by_cases e' : i' = k
    · omega
    · rw [if_pos e] at hi; rw [if_neg e'] at hi'
      cases hi
      have := hlt _ _ hi'
      omega
    · rw [if_neg e] at hi; rw [if_pos e'] at hi'
      cases hi'
      have := hlt _ _ hi
      omega
    · rw [if_neg e] at hi; rw [if_neg e'] at hi'
      exact h.inj _ _ _ hi hi'
  · unfold Lo.more at hi
    dsimp only at hi
    by_cases e : i = k
    · rw [if_pos e] at hi; cases hi
    · rw [if_neg e] at hi
      exact h.no i hi j hj
theorem Mem.mkPages (h : Mem w g o b most count t) (h0 : o.np = 0) (hn : n = (2 * 2 ^ b + 31) / 32) {M : Array Value} (hM : ∀ j, j < n → M[j]? = some (.pointer none)) :
    Mem ((w.alloc (.cells M 73)).setCell ⟨g, 0, none⟩ (.slice (some ⟨w.heap.size, 0, none⟩) n n)) g ⟨w.heap.size, n, n, fun _ => none⟩ b most count t := by
  have hg := h.g_lt
  have hno : ∀ k, o.ps k = none := fun k => by
    cases hp : o.ps k with
    | none => rfl
    | some p => have := (h.pp k p hp).1; omega
  have hn0 : n ≠ 0 := by have := two_pos b; omega
  have e1 : (⟨w.heap.size, n, n, fun _ => none⟩ : Lo).pv = .slice (some ⟨w.heap.size, 0, none⟩) n n := by unfold Lo.pv; rw [if_neg hn0]
  have hw : ((w.alloc (.cells M 73)).setCell ⟨g, 0, none⟩ (.slice (some ⟨w.heap.size, 0, none⟩) n n)).heap[w.heap.size]? = some (.cells M 73 (0, 0)) := by rw [set_other (by omega)]; exact alloc_at _ _ _
  refine ⟨?_, Or.inr hn, fun _ => ⟨M, hw, fun k hk => hM k hk⟩, fun k p hk => absurd hk (by simp), fun k k' p hk => absurd hk (by simp), fun k _ j hj => h.no k (hno k) j hj⟩
  rw [set_blk ((alloc_other hg).trans h.blk)]
  show _ = some (Obj.cells #[(⟨w.heap.size, n, n, fun _ => none⟩ : Lo).pv, I most, I count, I b] 71 (0, 0))
  rw [e1]
  rfl
theorem foot_more {o : Lo} {g k p z : Nat} (hz : z ≤ p) : ∀ x ∈ (o.more k p).foot g, x ∈ o.foot g ∨ z ≤ x := by
  intro x hx
  rcases Lo.mem_foot.1 hx with h | h | ⟨i, hi, h⟩
  · exact Or.inl (Lo.mem_foot.2 (Or.inl h))
  · exact Or.inl (Lo.mem_foot.2 (Or.inr (Or.inl h)))
  · unfold Lo.more at h
    dsimp only at h
    by_cases e : i = k
    · rw [if_pos e] at h; cases h; exact Or.inr hz
    · rw [if_neg e] at h
      exact Or.inl (Lo.mem_foot.2 (Or.inr (Or.inr ⟨i, hi, h⟩)))

set_option maxHeartbeats 1600000 in
set_option maxRecDepth 100000 in
theorem memory_there (h : Mem w g o b most count t) {x p : Nat} (hx : x < 8388608) (hp : o.ps (x / 32) = some p) : Calls Try.prog 54 #[.pointer (some ⟨g, 0, none⟩), I x] w fun e w' => e = .returned (.pointer (some ⟨p, x % 32 * 3, none⟩)) ∧ w' = w := by
  obtain ⟨a0, _⟩ := h.cellsX
  have q1 : wrap64 ((x : Int) / 32) = ((x / 32 : Nat) : Int) := by unfold wrap64; omega
  have q2 : wrap64 ((x : Int) % 32) = ((x % 32 : Nat) : Int) := by unfold wrap64; omega
  have q5 : (0 : Int) ≤ ((x / 32 : Nat) : Int) := by omega
  have q6 : (0 : Int) ≤ ((x % 32 : Nat) : Int) := by omega
  have q7 : ((x % 32 : Nat) : Int) < 32 := by omega
  have hk := (h.pp _ _ hp).1
  obtain ⟨e1, e2, _⟩ := h.page hk
  rw [e1] at a0
  have q3 : ((x / 32 : Nat) : Int) < (o.np : Int) := by omega
  rw [hp] at e2
  unfold ptr at e2
  have hnil : ∀ u : World, (binOp .eql 69 (.slice (some ⟨o.pb, 0, none⟩) o.np o.pc) (.slice none 0 0)).run Try.prog u = .ok (.bool false) u := fun u => eql_nil u 69 73 (some ⟨o.pb, 0, none⟩) o.np o.pc Try.underlying69
  clear h hk e1 hp
  go_enter Try.func54, Try.ntmps54
  go_wp2
  go_ret
  exact ⟨rfl, rfl⟩
set_option maxHeartbeats 1600000 in
set_option maxRecDepth 100000 in
theorem memory_page (h : Mem w g o b most count t) {x : Nat} (hx : x < 8388608) (hk : x / 32 < o.np) (hp : o.ps (x / 32) = none) : Calls Try.prog 54 #[.pointer (some ⟨g, 0, none⟩), I x] w fun e w' => e = .returned (.pointer (some ⟨w.heap.size, x % 32 * 3, none⟩)) ∧ w' = (w.alloc (.cells Try.zeroCells77 77)).setCell ⟨o.pb, x / 32, none⟩ (.pointer (some ⟨w.heap.size, 0, none⟩)) := by
  obtain ⟨a0, _, _, _, fr0⟩ := h.cellsX
  have q1 : wrap64 ((x : Int) / 32) = ((x / 32 : Nat) : Int) := by unfold wrap64; omega
  have q2 : wrap64 ((x : Int) % 32) = ((x % 32 : Nat) : Int) := by unfold wrap64; omega
  have q5 : (0 : Int) ≤ ((x / 32 : Nat) : Int) := by omega
  have q6 : (0 : Int) ≤ ((x % 32 : Nat) : Int) := by omega
  have q7 : ((x % 32 : Nat) : Int) < 32 := by omega
  obtain ⟨e1, e2, e3⟩ := h.page hk
  rw [e1] at a0
  have q3 : ((x / 32 : Nat) : Int) < (o.np : Int) := by omega
  have h2 := h.addPage hk hp
  have h1 := h.below ((Below.refl _ w).alloc (Nat.le_refl _) (.cells Try.zeroCells77 77))
  obtain ⟨_, f2, f3⟩ := h1.page hk
  obtain ⟨b0, _, _, _, _⟩ := h2.cellsX
  obtain ⟨g1, g2, _⟩ := h2.page (k := x / 32) hk
  rw [g1] at b0
  unfold Lo.more at g2 b0
  dsimp only at g2 b0
  rw [if_pos rfl] at g2
  rw [hp] at e2 f2
  unfold ptr at e2 f2 g2
  dsimp only at e2 f2 g2
  have hnil : ∀ u : World, (binOp .eql 69 (.slice (some ⟨o.pb, 0, none⟩) o.np o.pc) (.slice none 0 0)).run Try.prog u = .ok (.bool false) u := fun u => eql_nil u 69 73 (some ⟨o.pb, 0, none⟩) o.np o.pc Try.underlying69
  clear h hk e1 hp h1 h2 g1
  go_enter Try.func54, Try.ntmps54
  go_wp2
  go_ret
  exact ⟨rfl, rfl⟩
set_option maxHeartbeats 1600000 in
set_option maxRecDepth 100000 in
theorem memory_first (h : Mem w g o b most count t) (hb : b ≤ 22) {x : Nat} (hx : x < 2 * 2 ^ b) (h0 : o.np = 0) : Calls Try.prog 54 #[.pointer (some ⟨g, 0, none⟩), I x] w fun e w' => ∃ w1 o1, e = .returned (.pointer (some ⟨w1.heap.size, x % 32 * 3, none⟩)) ∧ Mem w1 g o1 b most count t ∧ x / 32 < o1.np ∧ (∀ k, o1.ps k = none) ∧ w.heap.size ≤ o1.pb ∧ Fr [g] w w1 ∧ w' = (w1.alloc (.cells Try.zeroCells77 77)).setCell ⟨o1.pb, x / 32, none⟩ (.pointer (some ⟨w1.heap.size, 0, none⟩)) := by
  have HS := show Hid _ from slots_any h hb rfl
  have hb2 := Nat.pow_le_pow_right (n := 2) (by omega) hb
  have hx8 : x < 8388608 := by omega
  obtain ⟨n, en⟩ : ∃ n : Nat, n = (2 * 2 ^ b + 31) / 32 := ⟨_, rfl⟩
  obtain ⟨M, mk, hM⟩ := mk_pages n (by omega)
  obtain ⟨a0, _, _, _, fr0⟩ := h.cellsX
  rw [Lo.pv_nil h0] at a0
  have q1 : wrap64 ((x : Int) / 32) = ((x / 32 : Nat) : Int) := by unfold wrap64; omega
  have q2 : wrap64 ((x : Int) % 32) = ((x % 32 : Nat) : Int) := by unfold wrap64; omega
  have q5 : (0 : Int) ≤ ((x / 32 : Nat) : Int) := by omega
  have q6 : (0 : Int) ≤ ((x % 32 : Nat) : Int) := by omega
  have q7 : ((x % 32 : Nat) : Int) < 32 := by omega
  have hk : x / 32 < n := by omega
  have q3 : ((x / 32 : Nat) : Int) < (n : Int) := by omega
  have q9 : (((2 * 2 ^ b : Nat) : Int) + 32 - 1) / 32 = (n : Int) := by omega
  have hM1 := h.mkPages h0 en hM
  have hA := h.below ((Below.refl _ w).alloc (Nat.le_refl _) (.cells M 73))
  obtain ⟨k0, _, _, _, k1⟩ := hA.cellsX
  rw [Lo.pv_nil h0] at k0
  have HFr : Hid (Fr [g] w ((w.alloc (.cells M 73)).setCell ⟨g, 0, none⟩ (.slice (some ⟨w.heap.size, 0, none⟩) n n))) := (Fr.of_below ((Below.refl _ w).alloc (Nat.le_refl _) _)).trans (Fr.set _ 0 _ (by simp)) (fun x hx => Or.inl hx)
  have hnil0 : ∀ u : World, (binOp .eql 69 (.slice none 0 0) (.slice none 0 0)).run Try.prog u = .ok (.bool true) u := fun u => eql_nil u 69 73 none 0 0 Try.underlying69
  have HM1 : Hid (Mem ((w.alloc (.cells M 73)).setCell ⟨g, 0, none⟩ (.slice (some ⟨w.heap.size, 0, none⟩) n n)) g ⟨w.heap.size, n, n, fun _ => none⟩ b most count t) := hM1
  have hN8 : ((2 * 2 ^ b : Nat) : Int) ≤ 8388608 := by omega
  clear h hA hM hM1 h0 hb hb2 en
  generalize 2 * 2 ^ b = N at *
  go_enter Try.func54, Try.ntmps54
  go_wp2_with fail
  refine Calls.mono HS.out ?_
  rintro e w1 ⟨rfl, rfl⟩
  go_upto_region 3 with fail
  generalize (w1.alloc (.cells M 73)).setCell ⟨g, 0, none⟩ (.slice (some ⟨w1.heap.size, 0, none⟩) n n) = wm at *
  have h2 := HM1.out.addPage (k := x / 32) hk rfl
  have h1 := HM1.out.below ((Below.refl _ wm).alloc (Nat.le_refl _) (.cells Try.zeroCells77 77))
  obtain ⟨c0, _⟩ := HM1.out.cellsX
  obtain ⟨c1, c2, _⟩ := HM1.out.page (k := x / 32) hk
  obtain ⟨_, f2, f3⟩ := h1.page (k := x / 32) hk
  obtain ⟨b0, _, _, _, _⟩ := h2.cellsX
  obtain ⟨g1, g2, _⟩ := h2.page (k := x / 32) hk
  rw [c1] at c0
  rw [g1] at b0
  unfold Lo.more at g2 b0
  dsimp only at g2 b0 c0 c2 f2 f3
  rw [if_pos rfl] at g2
  unfold ptr at c2 f2 g2
  dsimp only at c2 f2 g2
  clear h1 h2 c1 g1 mk hnil0 a0 fr0 k0 k1
  go_wp2
  go_ret
  exact ⟨wm, rfl, ⟨w1.heap.size, n, n, fun _ => none⟩, HM1.out, hk, fun _ => rfl, Nat.le_refl _, HFr.out, rfl⟩
/-- what memory leaves -/
def Memo (w : World) (g : Nat) (o : Lo) (b most count : Nat) (t : Tb El) (x : Nat) (p : Nat) (w' : World) : Prop := ∃ o', o'.ps (x / 32) = some p ∧ Mem w' g o' b most count t ∧ Fr (o.foot g) w w' ∧ ∀ k ∈ o'.foot g, k ∈ o.foot g ∨ w.heap.size ≤ k
theorem memory_any (h : Mem w g o b most count t) (hb : b ≤ 22) {x : Nat} (hx : x < 2 * 2 ^ b) : Calls Try.prog 54 #[.pointer (some ⟨g, 0, none⟩), I x] w fun e w' => ∃ p, e = .returned (.pointer (some ⟨p, x % 32 * 3, none⟩)) ∧ Memo w g o b most count t x p w' := by
  have hb2 := Nat.pow_le_pow_right (n := 2) (by omega) hb
  have hx8 : x < 8388608 := by omega
  by_cases h0 : o.np = 0
  · refine (memory_first h hb hx h0).mono ?_
    rintro e w' ⟨w1, o1, rfl, h1, hk, hp, hpb, hf, rfl⟩
    refine ⟨_, rfl, o1.more (x / 32) w1.heap.size, by simp [Lo.more], h1.addPage hk (hp _), ?_, fun z hz => ?_⟩
    · have f1 : Fr [g] w (w1.alloc (.cells Try.zeroCells77 77)) := hf.trans (F' := []) (Fr.of_below ((Below.refl _ w1).alloc (Nat.le_refl _) _)) (by simp)
      refine (f1.trans (F' := [o1.pb]) (Fr.set _ _ _ (by simp)) (fun z hz => ?_)).mono (fun z hz => ?_)
      · rw [List.mem_singleton] at hz; subst hz; exact Or.inr hpb
      · rw [List.mem_singleton] at hz; subst hz; exact Lo.mem_foot.2 (Or.inl rfl)
    · rcases foot_more (Nat.le_refl _) z hz with h | h
      · rcases Lo.mem_foot.1 h with h | ⟨_, h⟩ | ⟨i, _, h⟩
        · exact Or.inl (Lo.mem_foot.2 (Or.inl h))
        · exact Or.inr (by omega)
        · rw [hp] at h; cases h
      · have := hf.size; exact Or.inr (by omega)
  · have hk : x / 32 < o.np := by
      rcases h.np with h1 | h1
      · exact absurd h1 h0
      · omega
    cases hp : o.ps (x / 32) with
    | some p =>
      refine (memory_there h hx8 hp).mono ?_
      rintro e w' ⟨rfl, rfl⟩
      exact ⟨p, rfl, o, hp, h, Fr.refl _ _, fun z hz => Or.inl hz⟩
    | none =>
      refine (memory_page h hx8 hk hp).mono ?_
      rintro e w' ⟨rfl, rfl⟩
      refine ⟨_, rfl, o.more (x / 32) w.heap.size, by simp [Lo.more], h.addPage hk hp, ?_, foot_more (Nat.le_refl _)⟩
      have f1 : Fr (o.foot g) w (w.alloc (.cells Try.zeroCells77 77)) := Fr.of_below ((Below.refl _ w).alloc (Nat.le_refl _) _)
      exact f1.trans (Fr.set _ _ _ (Lo.mem_foot.2 (Or.inr (Or.inl ⟨by omega, rfl⟩)))) (fun z hz => Or.inl hz)
end
end Go.Proofs.Ytkekmmomdhdegaa.Ii
