import Derived.Test.YtelbakkgobkdaaaDoorVfCp
import Derived.Test.YtelbakkgobkdaaaDoorVfEv
import Derived.Test.YtelbakkgobkdaaaDoorVfHead
import Derived.Test.YtelbakkgobkdaaaDoorVfPure
import Derived.Test.YtelbakkgobkdaaaDoorVfRun
import Derived.Test.YtelbakkgobkdaaaDoorVfOpn
import Derived.Test.YtelbakkgobkdaaaDoorVfTie
import Derived.Lib.SmallJoins
import Derived.Deep.SlicePairs
import Derived.Test.YtelbakkgobkdaaaDoorVfWk
import Derived.Test.YtelbakkgobkdaaaDoorVfTk
import Derived.BigQuiet
import Derived.Test.YtelbakkgobkdaaaDoorRows
import Derived.WalkKit
import Derived.WalkSpells
import Derived.WalkLawsBesides
import Derived.Deep.QuietTactic
import Derived.Deep.LoopGhost
import Derived.Laws.MakeOwn
import Derived.Below
import Derived.Great.BuildSlice
import Derived.Test.YtelbakkgobkdaaaDoorVfChk
import Derived.Deep.Cut
import Derived.Test.YtelbakkgobkdaaaDoorVfFuel
import Derived.Test.YtelbakkgobkdaaaDoorVfFuel2
namespace Go.Proofs.YtelbakkgobkdaaaDoor.Vf
open Go.RowKit Go.Proofs.YtelbakkgobkdaaaDoor.Nm
theorem made_drop (z : Array Value) (sz n k : Nat) (hz : z.size = sz) : (madeCells z ((n + k) * sz)).toList.drop (n * sz) = (madeCells z (k * sz)).toList := by
  subst hz
  apply List.ext_getElem?
  intro j
  rw [List.getElem?_drop, Array.getElem?_toList, Array.getElem?_toList]
  simp only [madeCells, Array.getElem?_map, Array.getElem?_range]
  have hadd : (n + k) * z.size = n * z.size + k * z.size := Nat.add_mul _ _ _
  by_cases hj : j < k * z.size
  · rw [if_pos (by omega), if_pos hj]
    simp [Nat.add_comm]
  · rw [if_neg (by omega), if_neg hj]
/-- a list is copied into a row that was made: the room behind it is zero -/
theorem copiedM {ts e : TypeId} {z : Value} {sz by_ : Nat} (hu : Tryd.prog.underlying ts = some (.slice e)) (hinfo : (Tryd.prog.info? e).map (fun i => (i.zero, i.size, i.bytes)) = some (some z, sz, by_)) (hsz : 0 < sz) (hzc : z.cells.size = sz) (n k cap : Nat) (ao : Option Addr) (xs : List Value) (hx : xs.length = n * sz) (h1 : ∀ v ∈ xs, v.oneCell' = true) (w : World) (h : Rd w ao xs) :
    ∃ W2, (Builtin.copy_ #[ts, ts] 3 #[.slice (some ⟨w.heap.size, 0, none⟩) (n + k) (n + k), .slice ao n cap]).run Tryd.prog (w.alloc (.cells (madeCells z.cells ((n + k) * sz)) e)) = .ok (goInt n) W2 ∧ Bk W2 w.heap.size e (xs ++ (madeCells z.cells (k * sz)).toList) 0 ∧ Below w.heap.size w W2 := by
  obtain ⟨i0, hi, hz0, hz1, hz2⟩ := info_parts hinfo
  have hB : Below w.heap.size w (w.alloc (.cells (madeCells z.cells ((n + k) * sz)) e)) := (Below.refl _ w).alloc (Nat.le_refl _) _
  have hM : (madeCells z.cells ((n + k) * sz)).toList.length = (n + k) * sz := by rw [Array.length_toList, size_madeCells]
  have hadd : (n + k) * sz = n * sz + k * sz := Nat.add_mul _ _ _
  by_cases h0 : n = 0
  · subst h0
    have hx0 : xs = [] := List.eq_nil_of_length_eq_zero (by rw [hx, Nat.zero_mul])
    subst hx0
    refine ⟨_, run_copy_zero _ ts ts 3 e i0 hi _ ao _ _ _ cap hu (by simp), ⟨[], rfl, ?_⟩, hB⟩
    rw [heap_alloc_new, Nat.zero_add]
    simp
  · have hpos : 0 < xs.length := by rw [hx]; exact Nat.mul_pos (by omega) hsz
    obtain ⟨g, f, rfl, -, -⟩ := h 0 xs[0] (List.getElem?_eq_getElem hpos)
    have hsrc : ∀ j v, xs[j]? = some v → (w.alloc (.cells (madeCells z.cells ((n + k) * sz)) e)).cell? ((⟨g, f, none⟩ : Addr).add j) = some v := fun j v hv => by
      obtain ⟨g', f', e', hl, hc⟩ := h j v hv
      cases e'
      rw [Lib.addr_add]
      exact (hB.cell (p := ⟨g, f + j, none⟩) hl).trans hc
    have hnew : (w.alloc (.cells (madeCells z.cells ((n + k) * sz)) e)).heap[w.heap.size]? = some (.cells (madeCells z.cells ((n + k) * sz)).toList.toArray e (0, 0)) := by rw [heap_alloc_new]
    have hr := run_copy_rows (P := Tryd.prog) _ ts ts 3 e i0 hi w.heap.size 0 (n + k) (n + k) ⟨g, f, none⟩ n cap n (by simp) _ e xs hu hnew (by rw [hz1]; exact hx) hsrc (by rw [hM]; omega) h1
    refine ⟨_, hr, ⟨[], rfl, ?_⟩, below_setRow hB (Nat.le_refl _)⟩
    rw [setRow_heap _ w.heap.size _ _ e (0, 0) hnew, ← made_drop z.cells sz n k hzc, ← hx]
    simp [splice]
theorem Bk.setIn {W : World} {g : Nat} {e : TypeId} {ys : List Value} (h : Bk W g e ys 0) (j : Nat) (v : Value) : Bk (W.setCell ⟨g, j, none⟩ v) g e (ys.set j v) 0 := by
  obtain ⟨rest, hl, hb⟩ := h
  have hr : rest = [] := List.eq_nil_of_length_eq_zero hl
  subst hr
  rw [List.append_nil] at hb
  refine ⟨[], rfl, ?_⟩
  rw [heap_setCell_same W g j _ _ v hb]
  simp
theorem Bk.heap {W : World} {g : Nat} {e : TypeId} {ys : List Value} (h : Bk W g e ys 0) : W.heap[g]? = some (.cells ys.toArray e (0, 0)) := by
  obtain ⟨rest, hl, hb⟩ := h
  have hr : rest = [] := List.eq_nil_of_length_eq_zero hl
  subst hr
  rwa [List.append_nil] at hb
/-- the room behind numbers that are lent: k marks -/
def mkI (n k : Nat) : List Value := (List.range 5).map fun i => .int .i64 (if i < k then -77 - ((n + i : Nat) : Int) else 0)
theorem mkI_set (n k : Nat) (h : k < 5) : (mkI n k).set k (.int .i64 (-77 - ((n + k : Nat) : Int))) = mkI n (k + 1) := by
  match k, h with
  | 0, _ => rfl
  | 1, _ => rfl
  | 2, _ => rfl
  | 3, _ => rfl
  | 4, _ => rfl
theorem mkI_zero (n : Nat) : (madeCells (Value.int .i64 0).cells (5 * 1)).toList = mkI n 0 := by
  unfold mkI
  simp [madeCells, Value.cells]
  intro a _
  rw [Nat.mod_one]
  rfl
theorem mkI_len (n k : Nat) : (mkI n k).length = 5 := by unfold mkI; simp
/-- numbers lent, with the room behind them -/
def mC (l : List Int) : List Value := iC l ++ mkI l.length 5
set_option maxHeartbeats 3200000 in
set_option maxRecDepth 100000 in
/-- numbers lent -/
theorem lendI_any (w : World) (ao : Option Addr) (l : List Int) (cap : Nat) (h : Rd w ao (iC l)) (hn : l.length ≤ 1000) :
    Calls Tryd.prog 18 #[.slice ao l.length cap] w fun e w' => e = .returned (.slice (some ⟨w.heap.size, 0, none⟩) l.length (l.length + 5)) ∧ Bk w' w.heap.size 3 (mC l) 0 ∧ Below w.heap.size w w' := by
  have hmk : ∀ u : World, (Instr.makeSlice 24 (.int .i64 ((l.length : Int) + 5)) (.int .i64 ((l.length : Int) + 5))).run Tryd.prog u = .ok (.slice (some ⟨u.heap.size, 0, none⟩) (l.length + 5) (l.length + 5)) (u.alloc (.cells (madeCells (Value.int .i64 0).cells ((l.length + 5) * 1)) 3)) := fun u => by
    have := mk_row Tryd.underlying24 infoI (l.length + 5) (by omega) (by omega) u
    rw [show ((l.length + 5 : Nat) : Int) = (l.length : Int) + 5 by omega] at this
    exact this
  obtain ⟨W2, hcp, hR, hB⟩ := copiedM Tryd.underlying24 infoI (by decide) rfl l.length 5 cap ao (iC l) (iC_len l) (iC_one l) w h
  have H0 : Hid (Bk W2 w.heap.size 3 (iC l ++ mkI l.length 0) 0 ∧ Below w.heap.size w W2) := ⟨by rw [← mkI_zero]; exact hR, hB⟩
  have hln : (l.length : Int) ≤ 1000 := by omega
  have hil : (iC l).length = l.length := by unfold iC; simp
  have HIl : Hid ((iC l).length = l.length) := hil
  generalize madeCells (Value.int .i64 0).cells ((l.length + 5) * 1) = M at hmk hcp
  clear h hn hR hB hil
  go_enter Tryd.func18, Tryd.ntmps18
  go_wp2_with fail
  go_loopg [4] 5 (fun gq i wr => ∃ k : Nat, k ≤ 5 ∧ gq = 5 - k ∧ i = .int .i64 ((l.length : Int) + k) ∧ Bk wr w.heap.size 3 (iC l ++ mkI l.length k) 0 ∧ Below w.heap.size w wr)
  case atStart => exact ⟨0, by omega, rfl, by go_num, H0.out.1, H0.out.2⟩
  case round =>
    obtain ⟨k, hk, hgk, rfl, hR, hB⟩ := hrel
    have HG : Hid (gk = 5 - k) := hgk
    have HR : Hid (Bk wr w.heap.size 3 (iC l ++ mkI l.length k) 0 ∧ Below w.heap.size w wr) := ⟨hR, hB⟩
    have hk3 : (k : Int) ≤ 5 := by omega
    clear hgk hB
    by_cases hlt : k < 5
    · have hlt' : (l.length : Int) + (k : Int) < (l.length : Int) + 5 := by omega
      obtain ⟨v0, c0⟩ := hR.cell (j := l.length + k) (by rw [List.length_append, HIl.out, mkI_len]; omega)
      have hf := hR.frozen
      have hcast : ((l.length + k : Nat) : Int) = (l.length : Int) + (k : Int) := by omega
      have HS : Hid (Bk (wr.setCell ⟨w.heap.size, l.length + k, none⟩ (.int .i64 (-77 - ((l.length + k : Nat) : Int)))) w.heap.size 3 (iC l ++ mkI l.length (k + 1)) 0) := by
        have h9 := hR.setIn (l.length + k) (.int .i64 (-77 - ((l.length + k : Nat) : Int)))
        rw [List.set_append_right _ _ (by rw [HIl.out]; omega), HIl.out, show l.length + k - l.length = k by omega, mkI_set _ _ hlt] at h9
        exact h9
      have htn : ((l.length : Int) + (k : Int)).toNat = l.length + k := by omega
      clear hR hlt
      rw [← hcast] at hlt' ⊢
      go_wp2_with fail
      go_roundg (5 - (k + 1))
      case measure => have h1 := HG.out; omega
      case rel => exact ⟨k + 1, by omega, rfl, by go_num, HS.out, HR.out.2.setCell (p := ⟨w.heap.size, l.length + k, none⟩) (Nat.le_refl _) _⟩
    · have hlt' : ¬ ((l.length : Int) + (k : Int) < (l.length : Int) + 5) := by omega
      obtain rfl : k = 5 := by omega
      clear hR hlt
      go_wp2_with fail
      go_ret
      exact ⟨rfl, HR.out⟩
end Go.Proofs.YtelbakkgobkdaaaDoor.Vf

namespace Go.Proofs.YtelbakkgobkdaaaDoor.Vf
open Go.RowKit Go.Proofs.YtelbakkgobkdaaaDoor.Nm
theorem infoB : (Tryd.prog.info? 4).map (fun i => (i.zero, i.size, i.bytes)) = some (some (.bool false), 1, 1) := by kernel_rfl
theorem infoV : (Tryd.prog.info? 56).map (fun i => (i.zero, i.size, i.bytes)) = some (some (.agg #[.int .i64 0, .int .i64 0, .int .i64 0]), 3, 24) := by kernel_rfl
theorem bC_len (l : List Bool) : (bC l).length = l.length * 1 := by unfold bC; simp
theorem bC_one (l : List Bool) : ∀ v ∈ bC l, v.oneCell' = true := fun v hv => by
  unfold bC at hv
  obtain ⟨x, -, rfl⟩ := List.mem_map.1 hv
  rfl
theorem vC_len (l : List (Int × Int × Int)) : (vC l).length = l.length * 3 := by
  induction l with
  | nil => rfl
  | cons x l ih =>
    have e : vC (x :: l) = [.int .i64 x.1, .int .i64 x.2.1, .int .i64 x.2.2] ++ vC l := rfl
    rw [e, List.length_append, ih, List.length_cons]
    simp
    omega
theorem vC_one (l : List (Int × Int × Int)) : ∀ v ∈ vC l, v.oneCell' = true := fun u hu => by
  unfold vC at hu
  obtain ⟨x, -, hx⟩ := List.mem_flatMap.1 hu
  simp only [List.mem_cons, List.not_mem_nil, or_false] at hx
  rcases hx with rfl | rfl | rfl <;> rfl
/-- what is lent, with the rooms behind -/
def gC (p : Pg) : List Value := bC p.gh ++ [.bool false, .bool false, .bool false]
def wC (p : Pg) : List Value := vC p.vs ++ [.int .i64 91, .int .i64 0, .int .i64 0, .int .i64 0, .int .i64 0, .int .i64 0, .int .i64 0, .int .i64 0, .int .i64 0]
def mkC (n k : Nat) : List Value := (List.range 9).flatMap fun i => if i < k then [.int .i64 (-9), .int .i64 ((n + i : Nat) : Int), .int .i64 0, .int .i64 0, .int .i64 0] else [.int .i64 0, .int .i64 0, .int .i64 0, .int .i64 0, .int .i64 0]
def kC (p : Pg) (k : Nat) : List Value := cC p.cd ++ mkC p.cd.length k
theorem mkC_len (n k : Nat) : (mkC n k).length = 45 := by
  unfold mkC
  have : ∀ i, ((if i < k then [.int .i64 (-9), .int .i64 ((n + i : Nat) : Int), .int .i64 0, .int .i64 0, .int .i64 0] else [.int .i64 0, .int .i64 0, .int .i64 0, .int .i64 0, .int .i64 0] : List Value)).length = 5 := fun i => by split <;> rfl
  rw [show List.range 9 = [0, 1, 2, 3, 4, 5, 6, 7, 8] from rfl]
  simp only [List.flatMap_cons, List.flatMap_nil, List.length_append, this]
  rfl
theorem mkC_set (n k : Nat) (h : k < 9) : ((((((mkC n k).set (k * 5) (.int .i64 (-9))).set (k * 5 + 1) (.int .i64 ((n + k : Nat) : Int))).set (k * 5 + 2) (.int .i64 0)).set (k * 5 + 3) (.int .i64 0)).set (k * 5 + 4) (.int .i64 0)) = mkC n (k + 1) := by
  match k, h with
  | 0, _ => rfl
  | 1, _ => rfl
  | 2, _ => rfl
  | 3, _ => rfl
  | 4, _ => rfl
  | 5, _ => rfl
  | 6, _ => rfl
  | 7, _ => rfl
  | 8, _ => rfl
theorem gC_made : (madeCells (Value.bool false).cells (3 * 1)).toList = [.bool false, .bool false, .bool false] := by kernel_rfl
theorem wC_made : (madeCells (Value.agg #[.int .i64 0, .int .i64 0, .int .i64 0]).cells (3 * 3)).toList = [.int .i64 0, .int .i64 0, .int .i64 0, .int .i64 0, .int .i64 0, .int .i64 0, .int .i64 0, .int .i64 0, .int .i64 0] := by kernel_rfl
theorem kC_made (n : Nat) : (madeCells (Value.agg #[.int .i64 0, .int .i64 0, .int .i64 0, .int .i64 0, .int .i64 0]).cells (9 * 5)).toList = mkC n 0 := by kernel_rfl
/-- a program that is being lent: its box, the answer's, the new one's, and the lists that are made -/
structure Ld (w W : World) (ps os : Array Value) (L : List (Nat × List Value)) : Prop where
  bel : Below w.heap.size w W
  hp : W.heap[w.heap.size]? = some (.cells ps 27 (0, 0))
  hr : W.heap[w.heap.size + 1]? = some (.cells #[.slice none 0 0, .slice none 0 0, .slice none 0 0, .slice none 0 0, .int .i64 0, .slice none 0 0] 27 (0, 0))
  ho : W.heap[w.heap.size + 1 + 1]? = some (.cells os 27 (0, 0))
  nd : (L.map (·.1)).Nodup
  rd : ∀ x ∈ L, w.heap.size + 1 + 1 < x.1 ∧ x.1 < W.heap.size ∧ ∃ e, Bk W x.1 e x.2 0
theorem Ld.below {w W W' : World} {ps os : Array Value} {L : List (Nat × List Value)} (h : Ld w W ps os L) (hb : Below W.heap.size W W') : Ld w W' ps os L :=
  ⟨bel_step h.bel hb, (hb.block _ (blk_lt h.hp)).trans h.hp, (hb.block _ (blk_lt h.hr)).trans h.hr, (hb.block _ (blk_lt h.ho)).trans h.ho, h.nd, fun x hx => ⟨(h.rd x hx).1, Nat.lt_of_lt_of_le (h.rd x hx).2.1 hb.size, let ⟨e, he⟩ := (h.rd x hx).2.2; ⟨e, he.below hb⟩⟩⟩
theorem size_set (W : World) (a : Addr) (v : Value) : (W.setCell a v).heap.size = W.heap.size := by simp [World.setCell]
theorem Ld.put {w W : World} {ps os : Array Value} {L : List (Nat × List Value)} (h : Ld w W ps os L) (i : Nat) (v : Value) : Ld w (W.setCell ⟨w.heap.size + 1 + 1, i, none⟩ v) ps (os.setIfInBounds i v) L :=
  ⟨h.bel.setCell (p := ⟨w.heap.size + 1 + 1, i, none⟩) (by show w.heap.size ≤ w.heap.size + 1 + 1; omega) _, (heap_setCell_other W ⟨w.heap.size + 1 + 1, i, none⟩ _ v (by show w.heap.size ≠ w.heap.size + 1 + 1; omega)).trans h.hp, (heap_setCell_other W ⟨w.heap.size + 1 + 1, i, none⟩ _ v (by show w.heap.size + 1 ≠ w.heap.size + 1 + 1; omega)).trans h.hr,
   heap_setCell_same W _ i _ _ v h.ho, h.nd, fun x hx => by
    obtain ⟨h1, h2, h3⟩ := h.rd x hx
    exact ⟨h1, by rw [size_set]; exact h2, let ⟨e, he⟩ := h3; ⟨e, he.same (heap_setCell_other W ⟨w.heap.size + 1 + 1, i, none⟩ _ v (by show x.1 ≠ w.heap.size + 1 + 1; omega))⟩⟩⟩
theorem Ld.wr {w W : World} {ps os : Array Value} {L : List (Nat × List Value)} (h : Ld w W ps os L) {g : Nat} (hg : w.heap.size + 1 + 1 < g) (hL : ∀ x ∈ L, x.1 ≠ g) (i : Nat) (v : Value) : Ld w (W.setCell ⟨g, i, none⟩ v) ps os L :=
  ⟨h.bel.setCell (p := ⟨g, i, none⟩) (by show w.heap.size ≤ g; omega) _, (heap_setCell_other W ⟨g, i, none⟩ _ v (by show w.heap.size ≠ g; omega)).trans h.hp, (heap_setCell_other W ⟨g, i, none⟩ _ v (by show w.heap.size + 1 ≠ g; omega)).trans h.hr, (heap_setCell_other W ⟨g, i, none⟩ _ v (by show w.heap.size + 1 + 1 ≠ g; omega)).trans h.ho, h.nd, fun x hx => by
    obtain ⟨h1, h2, h3⟩ := h.rd x hx
    exact ⟨h1, by rw [size_set]; exact h2, let ⟨e, he⟩ := h3; ⟨e, he.same (heap_setCell_other W ⟨g, i, none⟩ _ v (hL x hx))⟩⟩⟩
theorem Ld.add {w W : World} {ps os : Array Value} {L : List (Nat × List Value)} (h : Ld w W ps os L) {g : Nat} {e : TypeId} {xs : List Value} (hg : w.heap.size + 1 + 1 < g) (hn : ∀ x ∈ L, x.1 ≠ g) (hb : Bk W g e xs 0) : Ld w W ps os ((g, xs) :: L) :=
  ⟨h.bel, h.hp, h.hr, h.ho, by
    rw [List.map_cons, List.nodup_cons]
    refine ⟨fun hm => ?_, h.nd⟩
    obtain ⟨x, hx, e⟩ := List.mem_map.1 hm
    exact hn x hx e, fun x hx => by
    rcases List.mem_cons.1 hx with rfl | hx
    · exact ⟨hg, hb.lt, e, hb⟩
    · exact h.rd x hx⟩
/-- three new blocks -/
theorem al3 (w : World) (a b c : Obj) : Below w.heap.size w (((w.alloc a).alloc b).alloc c) ∧ (((w.alloc a).alloc b).alloc c).heap[w.heap.size]? = some a ∧ (((w.alloc a).alloc b).alloc c).heap[w.heap.size + 1]? = some b ∧ (((w.alloc a).alloc b).alloc c).heap[w.heap.size + 1 + 1]? = some c := by
  have h2 := al2 w a b
  have s2 : ((w.alloc a).alloc b).heap.size = w.heap.size + 1 + 1 := by simp
  have hb : Below ((w.alloc a).alloc b).heap.size ((w.alloc a).alloc b) (((w.alloc a).alloc b).alloc c) := (Below.refl _ _).alloc (Nat.le_refl _) _
  have h3 := heap_alloc_new ((w.alloc a).alloc b) c
  rw [s2] at h3
  exact ⟨bel_step h2.1 hb, (hb.block _ (blk_lt h2.2.1)).trans h2.2.1, (hb.block _ (blk_lt h2.2.2)).trans h2.2.2, h3⟩
/-- a box of six cells is written over -/
theorem set6 {W : World} {rb : Nat} {a0 a1 a2 a3 a4 a5 : Value} {T : TypeId} (h : W.heap[rb]? = some (.cells #[a0, a1, a2, a3, a4, a5] T (0, 0))) (v0 v1 v2 v3 v4 v5 : Value) :
    ((((((W.setCell ⟨rb, 0, none⟩ (v0)).setCell ⟨rb, 1, none⟩ (v1)).setCell ⟨rb, 2, none⟩ (v2)).setCell ⟨rb, 3, none⟩ (v3)).setCell ⟨rb, 4, none⟩ (v4)).setCell ⟨rb, 5, none⟩ (v5)).heap[rb]? = some (.cells #[v0, v1, v2, v3, v4, v5] T (0, 0)) ∧ (∀ k, k ≠ rb → ((((((W.setCell ⟨rb, 0, none⟩ (v0)).setCell ⟨rb, 1, none⟩ (v1)).setCell ⟨rb, 2, none⟩ (v2)).setCell ⟨rb, 3, none⟩ (v3)).setCell ⟨rb, 4, none⟩ (v4)).setCell ⟨rb, 5, none⟩ (v5)).heap[k]? = W.heap[k]?) ∧ ((((((W.setCell ⟨rb, 0, none⟩ (v0)).setCell ⟨rb, 1, none⟩ (v1)).setCell ⟨rb, 2, none⟩ (v2)).setCell ⟨rb, 3, none⟩ (v3)).setCell ⟨rb, 4, none⟩ (v4)).setCell ⟨rb, 5, none⟩ (v5)).heap.size = W.heap.size ∧ ∀ (n : Nat) (w : World), Below n w W → n ≤ rb → Below n w ((((((W.setCell ⟨rb, 0, none⟩ (v0)).setCell ⟨rb, 1, none⟩ (v1)).setCell ⟨rb, 2, none⟩ (v2)).setCell ⟨rb, 3, none⟩ (v3)).setCell ⟨rb, 4, none⟩ (v4)).setCell ⟨rb, 5, none⟩ (v5)) := by
  have h0 := heap_setCell_same W rb 0 _ _ v0 h
  have h1 := heap_setCell_same _ rb 1 _ _ v1 h0
  have h2 := heap_setCell_same _ rb 2 _ _ v2 h1
  have h3 := heap_setCell_same _ rb 3 _ _ v3 h2
  have h4 := heap_setCell_same _ rb 4 _ _ v4 h3
  have h5 := heap_setCell_same _ rb 5 _ _ v5 h4
  refine ⟨h5, fun k hk => ?_, by simp only [size_set], fun n w hb hn => ?_⟩
  · rw [heap_setCell_other _ ⟨rb, 5, none⟩ k v5 hk, heap_setCell_other _ ⟨rb, 4, none⟩ k v4 hk, heap_setCell_other _ ⟨rb, 3, none⟩ k v3 hk, heap_setCell_other _ ⟨rb, 2, none⟩ k v2 hk, heap_setCell_other _ ⟨rb, 1, none⟩ k v1 hk, heap_setCell_other _ ⟨rb, 0, none⟩ k v0 hk]
  · exact (((((hb.setCell (p := ⟨rb, 0, none⟩) hn _).setCell (p := ⟨rb, 1, none⟩) hn _).setCell (p := ⟨rb, 2, none⟩) hn _).setCell (p := ⟨rb, 3, none⟩) hn _).setCell (p := ⟨rb, 4, none⟩) hn _).setCell (p := ⟨rb, 5, none⟩) hn _
/-- what LendProgram tells: lists in new blocks, apart from one another -/
structure LdP (w : World) (p : Pg) (r : Ending) (w' : World) : Prop where
  bel : Below w.heap.size w w'
  is : ∃ a b c d e, r = .returned (.agg #[.slice (some ⟨a, 0, none⟩) p.gh.length (p.gh.length + 3), .slice (some ⟨b, 0, none⟩) p.vs.length (p.vs.length + 3), .slice (some ⟨c, 0, none⟩) p.ts.length (p.ts.length + 5), .slice (some ⟨d, 0, none⟩) p.on.length (p.on.length + 5), .int .i64 p.miss, .slice (some ⟨e, 0, none⟩) p.cd.length (p.cd.length + 9)]) ∧
    w.heap.size + 1 + 1 < a ∧ w.heap.size + 1 + 1 < b ∧ w.heap.size + 1 + 1 < c ∧ w.heap.size + 1 + 1 < d ∧ a < e ∧ b < e ∧ c < e ∧ d < e ∧ [d, c, b, a].Nodup ∧ (∃ T, Bk w' a T (gC p) 0) ∧ (∃ T, Bk w' b T (wC p) 0) ∧ (∃ T, Bk w' c T (mC p.ts) 0) ∧ (∃ T, Bk w' d T (mC p.on) 0) ∧ Bk w' e 54 (kC p 9) 0
set_option maxHeartbeats 12800000 in
set_option maxRecDepth 100000 in
/-- LendProgram -/
theorem lendP_any (v : PV) (p : Pg) (w : World) (hP : IsPg w v p) (l1 : p.gh.length ≤ 100) (l2 : p.vs.length ≤ 100) (l3 : p.ts.length ≤ 100) (l4 : p.on.length ≤ 100) (l5 : p.cd.length ≤ 524288) :
    Calls Tryd.prog 8 #[.agg (pvC v p)] w (LdP w p) := by
  have HP : Hid (∀ W, Below w.heap.size w W → IsPg W v p) := fun W hb => hP.below hb
  obtain ⟨qo, qc, vo, vc, tto, tc, oo, oc, co, cc⟩ := v
  show Calls _ _ #[.agg #[.slice qo p.gh.length qc, .slice vo p.vs.length vc, .slice tto p.ts.length tc, .slice oo p.on.length oc, .int .i64 p.miss, .slice co p.cd.length cc]] _ _
  have HA : Hid _ := al3 w (.cells #[.slice qo p.gh.length qc, .slice vo p.vs.length vc, .slice tto p.ts.length tc, .slice oo p.on.length oc, .int .i64 p.miss, .slice co p.cd.length cc] 27) (.cells #[.slice none 0 0, .slice none 0 0, .slice none 0 0, .slice none 0 0, .int .i64 0, .slice none 0 0] 27) (.cells #[.slice none 0 0, .slice none 0 0, .slice none 0 0, .slice none 0 0, .int .i64 p.miss, .slice none 0 0] 27)
  have HL : Hid (p.gh.length ≤ 100 ∧ p.vs.length ≤ 100 ∧ p.ts.length ≤ 100 ∧ p.on.length ≤ 100 ∧ p.cd.length ≤ 524288) := ⟨l1, l2, l3, l4, l5⟩
  have l1' : (p.gh.length : Int) ≤ 100 := by omega
  have l2' : (p.vs.length : Int) ≤ 100 := by omega
  have l5' : (p.cd.length : Int) ≤ 524288 := by omega
  clear hP l1 l2 l3 l4 l5
  go_enter Tryd.func8, Tryd.ntmps8
  go_upto_region 2 with fail
  generalize (((w.alloc (.cells #[.slice qo p.gh.length qc, .slice vo p.vs.length vc, .slice tto p.ts.length tc, .slice oo p.on.length oc, .int .i64 p.miss, .slice co p.cd.length cc] 27)).alloc (.cells #[.slice none 0 0, .slice none 0 0, .slice none 0 0, .slice none 0 0, .int .i64 0, .slice none 0 0] 27)).alloc (.cells #[.slice none 0 0, .slice none 0 0, .slice none 0 0, .slice none 0 0, .int .i64 p.miss, .slice none 0 0] 27)) = W3 at *
  have HD3 : Hid (Ld w W3 #[.slice qo p.gh.length qc, .slice vo p.vs.length vc, .slice tto p.ts.length tc, .slice oo p.on.length oc, .int .i64 p.miss, .slice co p.cd.length cc] #[.slice none 0 0, .slice none 0 0, .slice none 0 0, .slice none 0 0, .int .i64 p.miss, .slice none 0 0] []) := ⟨HA.out.1, HA.out.2.1, HA.out.2.2.1, HA.out.2.2.2, List.nodup_nil, fun x hx => by cases hx⟩
  clear HA
  have hmk : ∀ u : World, (Instr.makeSlice 22 (.int .i64 ((p.gh.length : Int) + 3)) (.int .i64 ((p.gh.length : Int) + 3))).run Tryd.prog u = .ok (.slice (some ⟨u.heap.size, 0, none⟩) (p.gh.length + 3) (p.gh.length + 3)) (u.alloc (.cells (madeCells (Value.bool false).cells ((p.gh.length + 3) * 1)) 4)) := fun u => by
    have := mk_row Tryd.underlying22 infoB (p.gh.length + 3) (by have := HL.out; omega) (by omega) u
    rw [show ((p.gh.length + 3 : Nat) : Int) = (p.gh.length : Int) + 3 by omega] at this
    exact this
  obtain ⟨W4, hcp, hR, hB⟩ := copiedM Tryd.underlying22 infoB (by decide) rfl p.gh.length 3 qc qo (bC p.gh) (bC_len _) (bC_one _) W3 (HP.out _ HD3.out.bel).gh
  rw [gC_made] at hR
  have HD4 : Hid (Ld w W4 #[.slice qo p.gh.length qc, .slice vo p.vs.length vc, .slice tto p.ts.length tc, .slice oo p.on.length oc, .int .i64 p.miss, .slice co p.cd.length cc] #[.slice none 0 0, .slice none 0 0, .slice none 0 0, .slice none 0 0, .int .i64 p.miss, .slice none 0 0] [(W3.heap.size, gC p)]) := (HD3.out.below hB).add (blk_lt HD3.out.ho) (fun x hx => Nat.ne_of_lt (HD3.out.rd x hx).2.1) hR
  generalize madeCells (Value.bool false).cells ((p.gh.length + 3) * 1) = M at hmk hcp
  obtain ⟨i0, i1, i2, i3, i4, i5⟩ := cells6 HD3.out.hp
  obtain ⟨j0, j1, j2, j3, j4, j5⟩ := cells6 HD4.out.hp
  obtain ⟨o0, o1, o2, o3, o4, o5⟩ := cells6 HD4.out.ho
  have fz : ∀ j, W4.frozen? ⟨w.heap.size + 1 + 1, j, none⟩ = false := fun j => by have := HD4.out.ho; simp only [World.frozen?, this]; rfl
  have g3 : w.heap.size < W3.heap.size := blk_lt HD3.out.hp
  have g3o : w.heap.size + 1 + 1 < W3.heap.size := blk_lt HD3.out.ho
  clear hR hB
  go_upto_region 5 with fail
  have HD5 : Hid (Ld w (W4.setCell ⟨w.heap.size + 1 + 1, 0, none⟩ (.slice (some ⟨W3.heap.size, 0, none⟩) p.gh.length (p.gh.length + 3))) #[.slice qo p.gh.length qc, .slice vo p.vs.length vc, .slice tto p.ts.length tc, .slice oo p.on.length oc, .int .i64 p.miss, .slice co p.cd.length cc] #[.slice (some ⟨W3.heap.size, 0, none⟩) p.gh.length (p.gh.length + 3), .slice none 0 0, .slice none 0 0, .slice none 0 0, .int .i64 p.miss, .slice none 0 0] [(W3.heap.size, gC p)]) := HD4.out.put 0 _
  clear HD3 HD4 hmk hcp i0 i1 i2 i3 i4 i5 j0 j1 j2 j3 j4 j5 o0 o1 o2 o3 o4 o5 fz g3 g3o
  generalize W4.setCell ⟨w.heap.size + 1 + 1, 0, none⟩ (.slice (some ⟨W3.heap.size, 0, none⟩) p.gh.length (p.gh.length + 3)) = W5 at *
  generalize W3.heap.size = ga at *
  have hmk : ∀ u : World, (Instr.makeSlice 23 (.int .i64 ((p.vs.length : Int) + 3)) (.int .i64 ((p.vs.length : Int) + 3))).run Tryd.prog u = .ok (.slice (some ⟨u.heap.size, 0, none⟩) (p.vs.length + 3) (p.vs.length + 3)) (u.alloc (.cells (madeCells (Value.agg #[.int .i64 0, .int .i64 0, .int .i64 0]).cells ((p.vs.length + 3) * 3)) 56)) := fun u => by
    have := mk_row Tryd.underlying23 infoV (p.vs.length + 3) (by have := HL.out; omega) (by omega) u
    rw [show ((p.vs.length + 3 : Nat) : Int) = (p.vs.length : Int) + 3 by omega] at this
    exact this
  obtain ⟨W6, hcp, hR, hB⟩ := copiedM Tryd.underlying23 infoV (by decide) rfl p.vs.length 3 vc vo (vC p.vs) (vC_len _) (vC_one _) W5 (HP.out _ HD5.out.bel).vs
  rw [wC_made] at hR
  have HD6 : Hid (Ld w W6 #[.slice qo p.gh.length qc, .slice vo p.vs.length vc, .slice tto p.ts.length tc, .slice oo p.on.length oc, .int .i64 p.miss, .slice co p.cd.length cc] #[.slice (some ⟨ga, 0, none⟩) p.gh.length (p.gh.length + 3), .slice none 0 0, .slice none 0 0, .slice none 0 0, .int .i64 p.miss, .slice none 0 0] [(ga, gC p)]) := HD5.out.below hB
  have HR6 : Hid (Bk W6 W5.heap.size 56 (vC p.vs ++ [.int .i64 0, .int .i64 0, .int .i64 0, .int .i64 0, .int .i64 0, .int .i64 0, .int .i64 0, .int .i64 0, .int .i64 0]) 0) := hR
  generalize madeCells (Value.agg #[.int .i64 0, .int .i64 0, .int .i64 0]).cells ((p.vs.length + 3) * 3) = M at hmk hcp
  obtain ⟨i0, i1, i2, i3, i4, i5⟩ := cells6 HD5.out.hp
  obtain ⟨j0, j1, j2, j3, j4, j5⟩ := cells6 HD6.out.hp
  have hvl : (vC p.vs).length = p.vs.length * 3 := vC_len _
  obtain ⟨x0, c0⟩ := hR.cell (j := p.vs.length * 3) (by rw [List.length_append, hvl]; simp)
  obtain ⟨x1, c1⟩ := hR.cell (j := p.vs.length * 3 + 1) (by rw [List.length_append, hvl]; simp)
  obtain ⟨x2, c2⟩ := hR.cell (j := p.vs.length * 3 + 2) (by rw [List.length_append, hvl]; simp)
  have fz := hR.frozen
  have g5 : w.heap.size < W5.heap.size := blk_lt HD5.out.hp
  have HG5 : Hid (w.heap.size + 1 + 1 < W5.heap.size ∧ ga < W5.heap.size) := ⟨blk_lt HD5.out.ho, (HD5.out.rd (ga, gC p) (by simp)).2.1⟩
  clear hR hB hvl
  go_upto_region 8 with fail
  have HD7 : Hid (Ld w (((W6.setCell ⟨W5.heap.size, p.vs.length * 3, none⟩ (.int .i64 91)).setCell ⟨W5.heap.size, p.vs.length * 3 + 1, none⟩ (.int .i64 0)).setCell ⟨W5.heap.size, p.vs.length * 3 + 2, none⟩ (.int .i64 0)) #[.slice qo p.gh.length qc, .slice vo p.vs.length vc, .slice tto p.ts.length tc, .slice oo p.on.length oc, .int .i64 p.miss, .slice co p.cd.length cc] #[.slice (some ⟨ga, 0, none⟩) p.gh.length (p.gh.length + 3), .slice none 0 0, .slice none 0 0, .slice none 0 0, .int .i64 p.miss, .slice none 0 0] [(W5.heap.size, wC p), (ga, gC p)]) := by
    have hL : ∀ x ∈ [(ga, gC p)], x.1 ≠ W5.heap.size := fun x hx => by
      rw [List.mem_singleton] at hx
      rw [hx]
      have := HG5.out.2
      show ga ≠ _
      omega
    have hvl : (vC p.vs).length = p.vs.length * 3 := vC_len _
    have h1 := (((HD6.out.wr HG5.out.1 hL (p.vs.length * 3) (.int .i64 91)).wr HG5.out.1 hL (p.vs.length * 3 + 1) (.int .i64 0)).wr HG5.out.1 hL (p.vs.length * 3 + 2) (.int .i64 0))
    refine h1.add (e := 56) HG5.out.1 hL ?_
    have h9 := ((HR6.out.setIn (p.vs.length * 3) (.int .i64 91)).setIn (p.vs.length * 3 + 1) (.int .i64 0)).setIn (p.vs.length * 3 + 2) (.int .i64 0)
    rw [List.set_append_right _ _ (by omega), List.set_append_right _ _ (by omega), List.set_append_right _ _ (by omega), hvl, show p.vs.length * 3 - p.vs.length * 3 = 0 by omega, show p.vs.length * 3 + 1 - p.vs.length * 3 = 1 by omega, show p.vs.length * 3 + 2 - p.vs.length * 3 = 2 by omega] at h9
    exact h9
  clear HD5 HD6 HR6 hmk hcp i0 i1 i2 i3 i4 i5 j0 j1 j2 j3 j4 j5 c0 c1 c2 fz g5 HG5
  generalize ((W6.setCell ⟨W5.heap.size, p.vs.length * 3, none⟩ (.int .i64 91)).setCell ⟨W5.heap.size, p.vs.length * 3 + 1, none⟩ (.int .i64 0)).setCell ⟨W5.heap.size, p.vs.length * 3 + 2, none⟩ (.int .i64 0) = W7 at *
  generalize W5.heap.size = gb at *
  obtain ⟨j0, j1, j2, j3, j4, j5⟩ := cells6 HD7.out.hp
  obtain ⟨o0, o1, o2, o3, o4, o5⟩ := cells6 HD7.out.ho
  have fz : ∀ j, W7.frozen? ⟨w.heap.size + 1 + 1, j, none⟩ = false := fun j => by have := HD7.out.ho; simp only [World.frozen?, this]; rfl
  go_upto_region 9 with fail
  have HD8 : Hid (Ld w (W7.setCell ⟨w.heap.size + 1 + 1, 1, none⟩ (.slice (some ⟨gb, 0, none⟩) p.vs.length (p.vs.length + 3))) #[.slice qo p.gh.length qc, .slice vo p.vs.length vc, .slice tto p.ts.length tc, .slice oo p.on.length oc, .int .i64 p.miss, .slice co p.cd.length cc] #[.slice (some ⟨ga, 0, none⟩) p.gh.length (p.gh.length + 3), .slice (some ⟨gb, 0, none⟩) p.vs.length (p.vs.length + 3), .slice none 0 0, .slice none 0 0, .int .i64 p.miss, .slice none 0 0] [(gb, wC p), (ga, gC p)]) := HD7.out.put 1 _
  clear HD7 j0 j1 j2 j3 j4 j5 o0 o1 o2 o3 o4 o5 fz
  generalize W7.setCell ⟨w.heap.size + 1 + 1, 1, none⟩ (.slice (some ⟨gb, 0, none⟩) p.vs.length (p.vs.length + 3)) = W8 at *
  obtain ⟨j0, j1, j2, j3, j4, j5⟩ := cells6 HD8.out.hp
  go_wp2_with fail
  refine (lendI_any W8 tto p.ts tc (HP.out _ HD8.out.bel).ts (by have := HL.out; omega)).mono ?_
  rintro e w9 ⟨rfl, hk9, hb9⟩
  have HD9 : Hid (Ld w w9 #[.slice qo p.gh.length qc, .slice vo p.vs.length vc, .slice tto p.ts.length tc, .slice oo p.on.length oc, .int .i64 p.miss, .slice co p.cd.length cc] #[.slice (some ⟨ga, 0, none⟩) p.gh.length (p.gh.length + 3), .slice (some ⟨gb, 0, none⟩) p.vs.length (p.vs.length + 3), .slice none 0 0, .slice none 0 0, .int .i64 p.miss, .slice none 0 0] [(W8.heap.size, mC p.ts), (gb, wC p), (ga, gC p)]) := (HD8.out.below hb9).add (blk_lt HD8.out.ho) (fun x hx => Nat.ne_of_lt (HD8.out.rd x hx).2.1) hk9
  clear HD8 hk9 hb9 j0 j1 j2 j3 j4 j5
  generalize W8.heap.size = gc at *
  obtain ⟨o0, o1, o2, o3, o4, o5⟩ := cells6 HD9.out.ho
  have fz : ∀ j, w9.frozen? ⟨w.heap.size + 1 + 1, j, none⟩ = false := fun j => by have := HD9.out.ho; simp only [World.frozen?, this]; rfl
  go_upto_region 10 with fail
  have HD10 : Hid (Ld w (w9.setCell ⟨w.heap.size + 1 + 1, 2, none⟩ (.slice (some ⟨gc, 0, none⟩) p.ts.length (p.ts.length + 5))) #[.slice qo p.gh.length qc, .slice vo p.vs.length vc, .slice tto p.ts.length tc, .slice oo p.on.length oc, .int .i64 p.miss, .slice co p.cd.length cc] #[.slice (some ⟨ga, 0, none⟩) p.gh.length (p.gh.length + 3), .slice (some ⟨gb, 0, none⟩) p.vs.length (p.vs.length + 3), .slice (some ⟨gc, 0, none⟩) p.ts.length (p.ts.length + 5), .slice none 0 0, .int .i64 p.miss, .slice none 0 0] [(gc, mC p.ts), (gb, wC p), (ga, gC p)]) := HD9.out.put 2 _
  clear HD9 o0 o1 o2 o3 o4 o5 fz
  generalize w9.setCell ⟨w.heap.size + 1 + 1, 2, none⟩ (.slice (some ⟨gc, 0, none⟩) p.ts.length (p.ts.length + 5)) = W10 at *
  obtain ⟨j0, j1, j2, j3, j4, j5⟩ := cells6 HD10.out.hp
  go_wp2_with fail
  refine (lendI_any W10 oo p.on oc (HP.out _ HD10.out.bel).on (by have := HL.out; omega)).mono ?_
  rintro e w11 ⟨rfl, hk11, hb11⟩
  have HD11 : Hid (Ld w w11 #[.slice qo p.gh.length qc, .slice vo p.vs.length vc, .slice tto p.ts.length tc, .slice oo p.on.length oc, .int .i64 p.miss, .slice co p.cd.length cc] #[.slice (some ⟨ga, 0, none⟩) p.gh.length (p.gh.length + 3), .slice (some ⟨gb, 0, none⟩) p.vs.length (p.vs.length + 3), .slice (some ⟨gc, 0, none⟩) p.ts.length (p.ts.length + 5), .slice none 0 0, .int .i64 p.miss, .slice none 0 0] [(W10.heap.size, mC p.on), (gc, mC p.ts), (gb, wC p), (ga, gC p)]) := (HD10.out.below hb11).add (blk_lt HD10.out.ho) (fun x hx => Nat.ne_of_lt (HD10.out.rd x hx).2.1) hk11
  clear HD10 hk11 hb11 j0 j1 j2 j3 j4 j5
  generalize W10.heap.size = gd at *
  obtain ⟨o0, o1, o2, o3, o4, o5⟩ := cells6 HD11.out.ho
  have fz : ∀ j, w11.frozen? ⟨w.heap.size + 1 + 1, j, none⟩ = false := fun j => by have := HD11.out.ho; simp only [World.frozen?, this]; rfl
  go_upto_region 11 with fail
  have HD12 : Hid (Ld w (w11.setCell ⟨w.heap.size + 1 + 1, 3, none⟩ (.slice (some ⟨gd, 0, none⟩) p.on.length (p.on.length + 5))) #[.slice qo p.gh.length qc, .slice vo p.vs.length vc, .slice tto p.ts.length tc, .slice oo p.on.length oc, .int .i64 p.miss, .slice co p.cd.length cc] #[.slice (some ⟨ga, 0, none⟩) p.gh.length (p.gh.length + 3), .slice (some ⟨gb, 0, none⟩) p.vs.length (p.vs.length + 3), .slice (some ⟨gc, 0, none⟩) p.ts.length (p.ts.length + 5), .slice (some ⟨gd, 0, none⟩) p.on.length (p.on.length + 5), .int .i64 p.miss, .slice none 0 0] [(gd, mC p.on), (gc, mC p.ts), (gb, wC p), (ga, gC p)]) := HD11.out.put 3 _
  clear HD11 o0 o1 o2 o3 o4 o5 fz
  generalize w11.setCell ⟨w.heap.size + 1 + 1, 3, none⟩ (.slice (some ⟨gd, 0, none⟩) p.on.length (p.on.length + 5)) = W12 at *
  have hmk : ∀ u : World, (Instr.makeSlice 25 (.int .i64 ((p.cd.length : Int) + 9)) (.int .i64 ((p.cd.length : Int) + 9))).run Tryd.prog u = .ok (.slice (some ⟨u.heap.size, 0, none⟩) (p.cd.length + 9) (p.cd.length + 9)) (u.alloc (.cells (madeCells (Value.agg #[.int .i64 0, .int .i64 0, .int .i64 0, .int .i64 0, .int .i64 0]).cells ((p.cd.length + 9) * 5)) 54)) := fun u => by
    have := mk_row Tryd.underlying25 infoIn (p.cd.length + 9) (by have := HL.out; omega) (by omega) u
    rw [show ((p.cd.length + 9 : Nat) : Int) = (p.cd.length : Int) + 9 by omega] at this
    exact this
  obtain ⟨W13, hcp, hR, hB⟩ := copiedM Tryd.underlying25 infoIn (by decide) rfl p.cd.length 9 cc co (cC p.cd) (cC_len _) (cC_one _) W12 (HP.out _ HD12.out.bel).cd
  rw [kC_made p.cd.length] at hR
  have HD13 : Hid (Ld w W13 #[.slice qo p.gh.length qc, .slice vo p.vs.length vc, .slice tto p.ts.length tc, .slice oo p.on.length oc, .int .i64 p.miss, .slice co p.cd.length cc] #[.slice (some ⟨ga, 0, none⟩) p.gh.length (p.gh.length + 3), .slice (some ⟨gb, 0, none⟩) p.vs.length (p.vs.length + 3), .slice (some ⟨gc, 0, none⟩) p.ts.length (p.ts.length + 5), .slice (some ⟨gd, 0, none⟩) p.on.length (p.on.length + 5), .int .i64 p.miss, .slice none 0 0] [(gd, mC p.on), (gc, mC p.ts), (gb, wC p), (ga, gC p)] ∧ Bk W13 W12.heap.size 54 (kC p 0) 0) := ⟨HD12.out.below hB, hR⟩
  have HG12 : Hid (w.heap.size + 1 + 1 < W12.heap.size ∧ ga < W12.heap.size ∧ gb < W12.heap.size ∧ gc < W12.heap.size ∧ gd < W12.heap.size) := ⟨blk_lt HD12.out.ho, (HD12.out.rd (ga, gC p) (by simp)).2.1, (HD12.out.rd (gb, wC p) (by simp)).2.1, (HD12.out.rd (gc, mC p.ts) (by simp)).2.1, (HD12.out.rd (gd, mC p.on) (by simp)).2.1⟩
  generalize madeCells (Value.agg #[.int .i64 0, .int .i64 0, .int .i64 0, .int .i64 0, .int .i64 0]).cells ((p.cd.length + 9) * 5) = M at hmk hcp
  obtain ⟨i0, i1, i2, i3, i4, i5⟩ := cells6 HD12.out.hp
  obtain ⟨j0, j1, j2, j3, j4, j5⟩ := cells6 HD13.out.1.hp
  have g12 : w.heap.size < W12.heap.size := blk_lt HD12.out.hp
  clear hR hB
  go_upto_region 14 with fail
  clear HD12 hmk hcp i0 i1 i2 i3 i4 i5 j0 j1 j2 j3 j4 j5 g12
  generalize W12.heap.size = ge at *
  go_loopg [7] 9 (fun gq i wr => ∃ k : Nat, k ≤ 9 ∧ gq = 9 - k ∧ i = .int .i64 ((p.cd.length : Int) + k) ∧ Ld w wr #[.slice qo p.gh.length qc, .slice vo p.vs.length vc, .slice tto p.ts.length tc, .slice oo p.on.length oc, .int .i64 p.miss, .slice co p.cd.length cc] #[.slice (some ⟨ga, 0, none⟩) p.gh.length (p.gh.length + 3), .slice (some ⟨gb, 0, none⟩) p.vs.length (p.vs.length + 3), .slice (some ⟨gc, 0, none⟩) p.ts.length (p.ts.length + 5), .slice (some ⟨gd, 0, none⟩) p.on.length (p.on.length + 5), .int .i64 p.miss, .slice none 0 0] [(gd, mC p.on), (gc, mC p.ts), (gb, wC p), (ga, gC p)] ∧ Bk wr ge 54 (kC p k) 0)
  case atStart => exact ⟨0, by omega, rfl, by go_num, HD13.out.1, HD13.out.2⟩
  case round =>
    obtain ⟨k, hk, hgk, rfl, hD, hR⟩ := hrel
    have HG : Hid (gk = 9 - k) := hgk
    have HR : Hid (Ld w wr #[.slice qo p.gh.length qc, .slice vo p.vs.length vc, .slice tto p.ts.length tc, .slice oo p.on.length oc, .int .i64 p.miss, .slice co p.cd.length cc] #[.slice (some ⟨ga, 0, none⟩) p.gh.length (p.gh.length + 3), .slice (some ⟨gb, 0, none⟩) p.vs.length (p.vs.length + 3), .slice (some ⟨gc, 0, none⟩) p.ts.length (p.ts.length + 5), .slice (some ⟨gd, 0, none⟩) p.on.length (p.on.length + 5), .int .i64 p.miss, .slice none 0 0] [(gd, mC p.on), (gc, mC p.ts), (gb, wC p), (ga, gC p)] ∧ Bk wr ge 54 (kC p k) 0) := ⟨hD, hR⟩
    have hk3 : (k : Int) ≤ 9 := by omega
    clear hgk HD13 hD
    by_cases hlt : k < 9
    · have hlt' : (p.cd.length : Int) + (k : Int) < (p.cd.length : Int) + 9 := by omega
      have hcl : (cC p.cd).length = p.cd.length * 5 := cC_len _
      obtain ⟨x0, c0⟩ := hR.cell (j := (p.cd.length + k) * 5) (by unfold kC; rw [List.length_append, hcl, mkC_len]; omega)
      obtain ⟨x1, c1⟩ := hR.cell (j := (p.cd.length + k) * 5 + 1) (by unfold kC; rw [List.length_append, hcl, mkC_len]; omega)
      obtain ⟨x2, c2⟩ := hR.cell (j := (p.cd.length + k) * 5 + 2) (by unfold kC; rw [List.length_append, hcl, mkC_len]; omega)
      obtain ⟨x3, c3⟩ := hR.cell (j := (p.cd.length + k) * 5 + 3) (by unfold kC; rw [List.length_append, hcl, mkC_len]; omega)
      obtain ⟨x4, c4⟩ := hR.cell (j := (p.cd.length + k) * 5 + 4) (by unfold kC; rw [List.length_append, hcl, mkC_len]; omega)
      have fz := hR.frozen
      have hcast : ((p.cd.length + k : Nat) : Int) = (p.cd.length : Int) + (k : Int) := by omega
      have HS : Hid (Ld w (((((wr.setCell ⟨ge, (p.cd.length + k) * 5, none⟩ (.int .i64 (-9))).setCell ⟨ge, (p.cd.length + k) * 5 + 1, none⟩ (.int .i64 ((p.cd.length + k : Nat) : Int))).setCell ⟨ge, (p.cd.length + k) * 5 + 2, none⟩ (.int .i64 0)).setCell ⟨ge, (p.cd.length + k) * 5 + 3, none⟩ (.int .i64 0)).setCell ⟨ge, (p.cd.length + k) * 5 + 4, none⟩ (.int .i64 0)) #[.slice qo p.gh.length qc, .slice vo p.vs.length vc, .slice tto p.ts.length tc, .slice oo p.on.length oc, .int .i64 p.miss, .slice co p.cd.length cc] #[.slice (some ⟨ga, 0, none⟩) p.gh.length (p.gh.length + 3), .slice (some ⟨gb, 0, none⟩) p.vs.length (p.vs.length + 3), .slice (some ⟨gc, 0, none⟩) p.ts.length (p.ts.length + 5), .slice (some ⟨gd, 0, none⟩) p.on.length (p.on.length + 5), .int .i64 p.miss, .slice none 0 0] [(gd, mC p.on), (gc, mC p.ts), (gb, wC p), (ga, gC p)] ∧ Bk (((((wr.setCell ⟨ge, (p.cd.length + k) * 5, none⟩ (.int .i64 (-9))).setCell ⟨ge, (p.cd.length + k) * 5 + 1, none⟩ (.int .i64 ((p.cd.length + k : Nat) : Int))).setCell ⟨ge, (p.cd.length + k) * 5 + 2, none⟩ (.int .i64 0)).setCell ⟨ge, (p.cd.length + k) * 5 + 3, none⟩ (.int .i64 0)).setCell ⟨ge, (p.cd.length + k) * 5 + 4, none⟩ (.int .i64 0)) ge 54 (kC p (k + 1)) 0) := by
        have hL : ∀ x ∈ [(gd, mC p.on), (gc, mC p.ts), (gb, wC p), (ga, gC p)], x.1 ≠ ge := fun x hx => by
          have h9 := HG12.out
          simp only [List.mem_cons, List.not_mem_nil, or_false] at hx
          rcases hx with rfl | rfl | rfl | rfl
          · show gd ≠ ge; omega
          · show gc ≠ ge; omega
          · show gb ≠ ge; omega
          · show ga ≠ ge; omega
        have h9 := HG12.out.1
        exact ⟨((((HR.out.1.wr h9 hL _ _).wr h9 hL _ _).wr h9 hL _ _).wr h9 hL _ _).wr h9 hL _ _, by
          have h8 := ((((hR.setIn ((p.cd.length + k) * 5) (.int .i64 (-9))).setIn ((p.cd.length + k) * 5 + 1) (.int .i64 ((p.cd.length + k : Nat) : Int))).setIn ((p.cd.length + k) * 5 + 2) (.int .i64 0)).setIn ((p.cd.length + k) * 5 + 3) (.int .i64 0)).setIn ((p.cd.length + k) * 5 + 4) (.int .i64 0)
          unfold kC at h8 ⊢
          rw [List.set_append_right _ _ (by omega), List.set_append_right _ _ (by omega), List.set_append_right _ _ (by omega), List.set_append_right _ _ (by omega), List.set_append_right _ _ (by omega), hcl, show (p.cd.length + k) * 5 - p.cd.length * 5 = k * 5 by omega, show (p.cd.length + k) * 5 + 1 - p.cd.length * 5 = k * 5 + 1 by omega, show (p.cd.length + k) * 5 + 2 - p.cd.length * 5 = k * 5 + 2 by omega, show (p.cd.length + k) * 5 + 3 - p.cd.length * 5 = k * 5 + 3 by omega, show (p.cd.length + k) * 5 + 4 - p.cd.length * 5 = k * 5 + 4 by omega, mkC_set _ _ hlt] at h8
          exact h8⟩
      clear hR hlt hcl
      rw [← hcast] at hlt' ⊢
      go_wp2_with fail
      go_roundg (9 - (k + 1))
      case measure => have h1 := HG.out; omega
      case rel => exact ⟨k + 1, by omega, rfl, by go_num, HS.out.1, HS.out.2⟩
    · have hlt' : ¬ ((p.cd.length : Int) + (k : Int) < (p.cd.length : Int) + 9) := by omega
      obtain ⟨j0, j1, j2, j3, j4, j5⟩ := cells6 HR.out.1.hp
      obtain ⟨o0, o1, o2, o3, o4, o5⟩ := cells6 HR.out.1.ho
      have fz : ∀ j, wr.frozen? ⟨w.heap.size + 1 + 1, j, none⟩ = false := fun j => by have := HR.out.1.ho; simp only [World.frozen?, this]; rfl
      have hcast : ((p.cd.length + k : Nat) : Int) = (p.cd.length : Int) + (k : Int) := by omega
      clear hR hlt hk HG
      go_upto_region 18 with fail
      obtain rfl : k = 9 := by omega
      have HDx : Hid (Ld w (wr.setCell ⟨w.heap.size + 1 + 1, 5, none⟩ (.slice (some ⟨ge, 0, none⟩) p.cd.length (p.cd.length + 9))) #[.slice qo p.gh.length qc, .slice vo p.vs.length vc, .slice tto p.ts.length tc, .slice oo p.on.length oc, .int .i64 p.miss, .slice co p.cd.length cc] #[.slice (some ⟨ga, 0, none⟩) p.gh.length (p.gh.length + 3), .slice (some ⟨gb, 0, none⟩) p.vs.length (p.vs.length + 3), .slice (some ⟨gc, 0, none⟩) p.ts.length (p.ts.length + 5), .slice (some ⟨gd, 0, none⟩) p.on.length (p.on.length + 5), .int .i64 p.miss, .slice (some ⟨ge, 0, none⟩) p.cd.length (p.cd.length + 9)] [(gd, mC p.on), (gc, mC p.ts), (gb, wC p), (ga, gC p)] ∧ Bk (wr.setCell ⟨w.heap.size + 1 + 1, 5, none⟩ (.slice (some ⟨ge, 0, none⟩) p.cd.length (p.cd.length + 9))) ge 54 (kC p 9) 0) := ⟨HR.out.1.put 5 _, HR.out.2.other (by have := HG12.out.1; omega) _ _⟩
      clear HR j0 j1 j2 j3 j4 j5 o0 o1 o2 o3 o4 o5 fz
      generalize wr.setCell ⟨w.heap.size + 1 + 1, 5, none⟩ (.slice (some ⟨ge, 0, none⟩) p.cd.length (p.cd.length + 9)) = Wx at *
      obtain ⟨o0, o1, o2, o3, o4, o5⟩ := cells6 HDx.out.1.ho
      have hrx := HDx.out.1.hr
      obtain ⟨r0, r1, r2, r3, r4, r5⟩ := cells6 hrx
      have fz : ∀ j, Wx.frozen? ⟨w.heap.size + 1, j, none⟩ = false := fun j => by simp only [World.frozen?, hrx]; rfl
      have hs6 := set6 hrx (.slice (some ⟨ga, 0, none⟩) p.gh.length (p.gh.length + 3)) (.slice (some ⟨gb, 0, none⟩) p.vs.length (p.vs.length + 3)) (.slice (some ⟨gc, 0, none⟩) p.ts.length (p.ts.length + 5)) (.slice (some ⟨gd, 0, none⟩) p.on.length (p.on.length + 5)) (.int .i64 p.miss) (.slice (some ⟨ge, 0, none⟩) p.cd.length (p.cd.length + 9))
      have HE : Hid (Below w.heap.size w ((((((Wx.setCell ⟨w.heap.size + 1, 0, none⟩ (.slice (some ⟨ga, 0, none⟩) p.gh.length (p.gh.length + 3))).setCell ⟨w.heap.size + 1, 1, none⟩ (.slice (some ⟨gb, 0, none⟩) p.vs.length (p.vs.length + 3))).setCell ⟨w.heap.size + 1, 2, none⟩ (.slice (some ⟨gc, 0, none⟩) p.ts.length (p.ts.length + 5))).setCell ⟨w.heap.size + 1, 3, none⟩ (.slice (some ⟨gd, 0, none⟩) p.on.length (p.on.length + 5))).setCell ⟨w.heap.size + 1, 4, none⟩ (.int .i64 p.miss)).setCell ⟨w.heap.size + 1, 5, none⟩ (.slice (some ⟨ge, 0, none⟩) p.cd.length (p.cd.length + 9))) ∧ ((((((Wx.setCell ⟨w.heap.size + 1, 0, none⟩ (.slice (some ⟨ga, 0, none⟩) p.gh.length (p.gh.length + 3))).setCell ⟨w.heap.size + 1, 1, none⟩ (.slice (some ⟨gb, 0, none⟩) p.vs.length (p.vs.length + 3))).setCell ⟨w.heap.size + 1, 2, none⟩ (.slice (some ⟨gc, 0, none⟩) p.ts.length (p.ts.length + 5))).setCell ⟨w.heap.size + 1, 3, none⟩ (.slice (some ⟨gd, 0, none⟩) p.on.length (p.on.length + 5))).setCell ⟨w.heap.size + 1, 4, none⟩ (.int .i64 p.miss)).setCell ⟨w.heap.size + 1, 5, none⟩ (.slice (some ⟨ge, 0, none⟩) p.cd.length (p.cd.length + 9))).heap[w.heap.size + 1]? = some (.cells #[.slice (some ⟨ga, 0, none⟩) p.gh.length (p.gh.length + 3), .slice (some ⟨gb, 0, none⟩) p.vs.length (p.vs.length + 3), .slice (some ⟨gc, 0, none⟩) p.ts.length (p.ts.length + 5), .slice (some ⟨gd, 0, none⟩) p.on.length (p.on.length + 5), .int .i64 p.miss, .slice (some ⟨ge, 0, none⟩) p.cd.length (p.cd.length + 9)] 27 (0, 0)) ∧ (∀ k, k ≠ w.heap.size + 1 → ((((((Wx.setCell ⟨w.heap.size + 1, 0, none⟩ (.slice (some ⟨ga, 0, none⟩) p.gh.length (p.gh.length + 3))).setCell ⟨w.heap.size + 1, 1, none⟩ (.slice (some ⟨gb, 0, none⟩) p.vs.length (p.vs.length + 3))).setCell ⟨w.heap.size + 1, 2, none⟩ (.slice (some ⟨gc, 0, none⟩) p.ts.length (p.ts.length + 5))).setCell ⟨w.heap.size + 1, 3, none⟩ (.slice (some ⟨gd, 0, none⟩) p.on.length (p.on.length + 5))).setCell ⟨w.heap.size + 1, 4, none⟩ (.int .i64 p.miss)).setCell ⟨w.heap.size + 1, 5, none⟩ (.slice (some ⟨ge, 0, none⟩) p.cd.length (p.cd.length + 9))).heap[k]? = Wx.heap[k]?) ∧ ((((((Wx.setCell ⟨w.heap.size + 1, 0, none⟩ (.slice (some ⟨ga, 0, none⟩) p.gh.length (p.gh.length + 3))).setCell ⟨w.heap.size + 1, 1, none⟩ (.slice (some ⟨gb, 0, none⟩) p.vs.length (p.vs.length + 3))).setCell ⟨w.heap.size + 1, 2, none⟩ (.slice (some ⟨gc, 0, none⟩) p.ts.length (p.ts.length + 5))).setCell ⟨w.heap.size + 1, 3, none⟩ (.slice (some ⟨gd, 0, none⟩) p.on.length (p.on.length + 5))).setCell ⟨w.heap.size + 1, 4, none⟩ (.int .i64 p.miss)).setCell ⟨w.heap.size + 1, 5, none⟩ (.slice (some ⟨ge, 0, none⟩) p.cd.length (p.cd.length + 9))).heap.size = Wx.heap.size) := ⟨hs6.2.2.2 _ _ HDx.out.1.bel (by omega), hs6.1, hs6.2.1, hs6.2.2.1⟩
      clear hrx hs6
      go_wp2_with fail
      generalize ((((((Wx.setCell ⟨w.heap.size + 1, 0, none⟩ (.slice (some ⟨ga, 0, none⟩) p.gh.length (p.gh.length + 3))).setCell ⟨w.heap.size + 1, 1, none⟩ (.slice (some ⟨gb, 0, none⟩) p.vs.length (p.vs.length + 3))).setCell ⟨w.heap.size + 1, 2, none⟩ (.slice (some ⟨gc, 0, none⟩) p.ts.length (p.ts.length + 5))).setCell ⟨w.heap.size + 1, 3, none⟩ (.slice (some ⟨gd, 0, none⟩) p.on.length (p.on.length + 5))).setCell ⟨w.heap.size + 1, 4, none⟩ (.int .i64 p.miss)).setCell ⟨w.heap.size + 1, 5, none⟩ (.slice (some ⟨ge, 0, none⟩) p.cd.length (p.cd.length + 9))) = Wz at *
      obtain ⟨z0, z1, z2, z3, z4, z5⟩ := cells6 HE.out.2.1
      refine bodyPost_ret (v := .agg #[.slice (some ⟨ga, 0, none⟩) p.gh.length (p.gh.length + 3), .slice (some ⟨gb, 0, none⟩) p.vs.length (p.vs.length + 3), .slice (some ⟨gc, 0, none⟩) p.ts.length (p.ts.length + 5), .slice (some ⟨gd, 0, none⟩) p.on.length (p.on.length + 5), .int .i64 p.miss, .slice (some ⟨ge, 0, none⟩) p.cd.length (p.cd.length + 9)]) (by simp [results, Tryd.results8, go_sem, z0, z1, z2, z3, z4, z5]) rfl ?_
      have h9 := HG12.out
      have hrd : ∀ g xs, (g, xs) ∈ [(gd, mC p.on), (gc, mC p.ts), (gb, wC p), (ga, gC p)] → w.heap.size + 1 + 1 < g ∧ ∃ T, Bk Wz g T xs 0 := fun g xs hx => by
        obtain ⟨h1, h2, T, h3⟩ := HDx.out.1.rd _ hx
        dsimp only at h1 h2 h3
        exact ⟨h1, T, h3.same (HE.out.2.2.1 _ (by omega))⟩
      exact ⟨HE.out.1, ga, gb, gc, gd, ge, rfl, (hrd ga _ (List.mem_cons_of_mem _ (List.mem_cons_of_mem _ (List.mem_cons_of_mem _ List.mem_cons_self)))).1, (hrd gb _ (List.mem_cons_of_mem _ (List.mem_cons_of_mem _ List.mem_cons_self))).1, (hrd gc _ (List.mem_cons_of_mem _ List.mem_cons_self)).1, (hrd gd _ List.mem_cons_self).1, by omega, by omega, by omega, by omega, HDx.out.1.nd, (hrd ga _ (List.mem_cons_of_mem _ (List.mem_cons_of_mem _ (List.mem_cons_of_mem _ List.mem_cons_self)))).2, (hrd gb _ (List.mem_cons_of_mem _ (List.mem_cons_of_mem _ List.mem_cons_self))).2, (hrd gc _ (List.mem_cons_of_mem _ List.mem_cons_self)).2, (hrd gd _ List.mem_cons_self).2, HDx.out.2.same (HE.out.2.2.1 _ (by omega))⟩
end Go.Proofs.YtelbakkgobkdaaaDoor.Vf

namespace Go.Proofs.YtelbakkgobkdaaaDoor.Vf
theorem give_ne {n : Nat} : ∀ (l : List (Int × Sd)) (g : Nat → Option Sd) (e : Nat), giveW n l g = .error e → e ≠ 0
  | [], _, _, h => by cases h
  | (k, s) :: l, g, e, h => by
    unfold giveW at h
    split at h
    · cases h; omega
    · cases hk : g k.toNat with
      | none => rw [hk] at h; exact give_ne l _ e h
      | some t =>
        rw [hk] at h
        dsimp only at h
        split at h
        · exact give_ne l _ e h
        · cases h; omega
theorem walk_ne {p : Pg} : ∀ (k i : Nat) (g : Nat → Option Sd) (e m : Nat), walkP p k i g = .error (e, m) → e ≠ 0
  | 0, _, _, _, _, h => by cases h
  | k + 1, i, g, e, m, h => by
    unfold walkP at h
    cases hs : stepP p g i with
    | ok g' => rw [hs] at h; exact walk_ne k _ g' e m h
    | error x =>
      rw [hs] at h
      cases h
      unfold stepP at hs
      split at hs
      · cases hg : g i with
        | none => rw [hg] at hs; cases hs
        | some s => rw [hg] at hs; exact give_ne _ _ _ hs
      · rename_i hl; cases hs; exact hl
end Go.Proofs.YtelbakkgobkdaaaDoor.Vf

namespace Go.Proofs.YtelbakkgobkdaaaDoor.Vf
open Go.RowKit Go.Proofs.YtelbakkgobkdaaaDoor.Nm
/-- what Run tells, as numbers: fault, costs -/
def outN (p : Pg) : Int × Int × List Int × Int := match judge p with | .error (e, n) => ((e : Int), n, [], 0) | .ok _ => (0, 0, p.on.map (cst p), cst p p.miss)
theorem judge_ne {p : Pg} {e : Nat} {n : Int} (h : judge p = .error (e, n)) : e ≠ 0 := by
  unfold judge at h
  split at h
  · cases hw : walkP p p.cd.length 0 (got0 p) with
    | error x => obtain ⟨e', i⟩ := x; rw [hw] at h; cases h; exact walk_ne _ _ _ _ _ hw
    | ok g =>
      rw [hw] at h
      dsimp only at h
      cases hc : costF p (evs p) with
      | none => rw [hc] at h; cases h
      | some m => rw [hc] at h; cases h; omega
  · rename_i hc; cases h; exact hc
/-- of costs: like places, like fuel -/
theorem outN_cost (p : Pg) : (outN p).1 ≠ 0 ∨ ((outN p).1 = 0 ∧ (outN p).2.2.1 = p.on.map (cst p) ∧ (outN p).2.2.2 = cst p p.miss) := by
  unfold outN
  cases h : judge p with
  | error x =>
    obtain ⟨e, n⟩ := x
    have := judge_ne h
    exact .inl (by show (e : Int) ≠ 0; omega)
  | ok g => exact .inr ⟨rfl, rfl, rfl⟩
theorem run_n (v : PV) (p : Pg) (w : World) (hP : IsPg w v p) (hE : Ef w) : Calls Tryd.prog 9 #[.agg (pvC v p)] w fun e w' => ∃ o1 m1, e = .returned (.tuple #[.agg #[.slice o1 (outN p).2.2.1.length m1, .int .i64 (outN p).2.2.2], .agg #[.int .i64 (outN p).1, .int .i64 (outN p).2.1]]) ∧ Below w.heap.size w w' ∧ Rd w' o1 (iC (outN p).2.2.1) ∧ ∀ b, o1 = some ⟨b, 0, none⟩ → w.heap.size ≤ b := by
  refine (run_any v p w hP hE).mono ?_
  rintro r w' h
  unfold outN
  cases hj : judge p with
  | error x =>
    obtain ⟨e, n⟩ := x
    exact ⟨none, 0, h.err e n hj, h.bel, rd_nil _ _, fun b hb => by cases hb⟩
  | ok g =>
    obtain ⟨b, hb, hge, hr, -⟩ := h.ok g hj
    refine ⟨some ⟨b, 0, none⟩, p.on.length, ?_, h.bel, hr, fun b' hb' => by cases hb'; exact hge⟩
    rw [hb]
    simp
set_option maxHeartbeats 3200000 in
set_option maxRecDepth 100000 in
/-- SameInts, of the same numbers -/
theorem sameI_eq (l : List Int) (ao bo : Option Addr) (ac bc : Nat) (w : World) (ha : Rd w ao (iC l)) (hb : Rd w bo (iC l)) (hl : l.length ≤ 1000000) :
    Calls Tryd.prog 15 #[.slice ao l.length ac, .slice bo l.length bc] w fun e w' => e = .returned (.bool true) ∧ Below w.heap.size w w' := by
  have hl' : (l.length : Int) ≤ 1000000 := by omega
  have HR : Hid (Rd w ao (iC l) ∧ Rd w bo (iC l)) := ⟨ha, hb⟩
  clear ha hb hl
  go_enter Tryd.func15, Tryd.ntmps15
  go_wp2_with fail
  go_loopg [5] l.length (fun gq x wr => ∃ k : Nat, k ≤ l.length ∧ gq = l.length - k ∧ x = .int .i64 (k : Int) ∧ Below w.heap.size w wr)
  case atStart => exact ⟨0, Nat.zero_le _, rfl, rfl, Below.refl _ _⟩
  case round =>
    obtain ⟨k, hk9, hgk, rfl, hbw⟩ := hrel
    have HG : Hid (gk = l.length - k ∧ Below w.heap.size w wr) := ⟨hgk, hbw⟩
    clear hgk
    by_cases hlt : k < l.length
    · have hlt' : (k : Int) < (l.length : Int) := by omega
      have HLt : Hid (k < l.length) := hlt
      obtain ⟨g1, f1, rfl, -, u1⟩ := (HR.out.1.below hbw) k (.int .i64 (l.getD k 0)) (by simp [iC, hlt, List.getD_eq_getElem?_getD])
      obtain ⟨g2, f2, rfl, -, u2⟩ := (HR.out.2.below hbw) k (.int .i64 (l.getD k 0)) (by simp [iC, hlt, List.getD_eq_getElem?_getD])
      generalize l.getD k 0 = xv at u1 u2
      clear hlt hk9 hbw
      go_upto_region 6 with fail
      refine wp_region_held (S := fun w' : World => w'.cell? ⟨g1, f1 + k, none⟩ = some (.int .i64 xv) ∧ w'.cell? ⟨g2, f2 + k, none⟩ = some (.int .i64 xv)) (by kernel_rfl) ?_
      change wpAnyH _ _ _ _ _ _ _ _ wr.drew
      have hS : (fun w' : World => w'.cell? ⟨g1, f1 + k, none⟩ = some (.int .i64 xv) ∧ w'.cell? ⟨g2, f2 + k, none⟩ = some (.int .i64 xv)) wr.drew := ⟨u1, u2⟩
      have HWd : Hid (Below w.heap.size w wr.drew) := HG.out.2.drew
      generalize wr.drew = Wd at *
      refine tqA 0 rfl hS ?_
      refine tqA 1 rfl hS ?_
      refine tqA 2 rfl hS ?_
      refine tqA 3 rfl hS ?_
      refine tqA 4 rfl hS ?_
      refine tqA 5 rfl hS ?_
      refine tqA 6 rfl hS ?_
      refine tqA 7 rfl hS ?_
      refine tqA (v := .bool false) 8 rfl hS ?_
      refine wpAnyH_done (by kernel_rfl) ?_ _
      clear hS u1 u2
      go_simp
      go_wp2_with fail
      go_roundg (l.length - (k + 1))
      case measure => have h1 := HG.out.1; have := HLt.out; omega
      case rel => exact ⟨k + 1, HLt.out, rfl, by go_num, HWd.out⟩
    · obtain rfl : k = l.length := by omega
      clear hlt hk9 hbw
      go_wp2_with fail
      go_ret
      exact ⟨rfl, HG.out.2⟩
set_option maxHeartbeats 3200000 in
set_option maxRecDepth 100000 in
/-- SameCosts, of the same costs -/
theorem sameC_eq (l : List Int) (ao bo : Option Addr) (ac bc : Nat) (m : Int) (w : World) (ha : Rd w ao (iC l)) (hb : Rd w bo (iC l)) (hl : l.length ≤ 1000000) :
    Calls Tryd.prog 12 #[.agg #[.slice ao l.length ac, .int .i64 m], .agg #[.slice bo l.length bc, .int .i64 m]] w fun e w' => e = .returned (.bool true) ∧ Below w.heap.size w w' := by
  have HA : Hid _ := al2 w (.cells #[.slice ao l.length ac, .int .i64 m] 32) (.cells #[.slice bo l.length bc, .int .i64 m] 32)
  have HS : Hid (∀ W, Below w.heap.size w W → Calls Tryd.prog 15 #[.slice ao l.length ac, .slice bo l.length bc] W fun e w' => e = .returned (.bool true) ∧ Below W.heap.size W w') := fun W h => sameI_eq l ao bo ac bc W (ha.below h) (hb.below h) hl
  clear ha hb hl
  go_enter Tryd.func12, Tryd.ntmps12
  go_upto_region 1 with fail
  generalize (w.alloc (.cells #[.slice ao l.length ac, .int .i64 m] 32)).alloc (.cells #[.slice bo l.length bc, .int .i64 m] 32) = W1 at *
  obtain ⟨y0, y1⟩ := cells2 HA.out.2.1
  obtain ⟨z0, z1⟩ := cells2 HA.out.2.2
  go_wp2_with fail
  refine (HS.out _ HA.out.1).mono ?_
  rintro e w2 ⟨rfl, hb2⟩
  have HB2 : Hid (Below w.heap.size w w2) := bel_step HA.out.1 hb2
  clear hb2
  go_wp2_with fail
  go_ret
  exact ⟨rfl, HB2.out⟩
end Go.Proofs.YtelbakkgobkdaaaDoor.Vf

namespace Go.Proofs.YtelbakkgobkdaaaDoor.Vf
open Go.RowKit Go.Proofs.YtelbakkgobkdaaaDoor.Nm
set_option maxHeartbeats 3200000 in
set_option maxRecDepth 100000 in
/-- SameInts, of the same numbers -/
theorem same17_eq (l : List Int) (ao bo : Option Addr) (ac bc : Nat) (w : World) (ha : Rd w ao (iC l)) (hb : Rd w bo (iC l)) (hl : l.length ≤ 1000000) :
    Calls Tryd.prog 33 #[.slice ao l.length ac, .slice bo l.length bc] w fun e w' => e = .returned (.bool true) ∧ Below w.heap.size w w' := by
  have hl' : (l.length : Int) ≤ 1000000 := by omega
  have HR : Hid (Rd w ao (iC l) ∧ Rd w bo (iC l)) := ⟨ha, hb⟩
  clear ha hb hl
  go_enter Tryd.func33, Tryd.ntmps33
  go_wp2_with fail
  go_loopg [5] l.length (fun gq x wr => ∃ k : Nat, k ≤ l.length ∧ gq = l.length - k ∧ x = .int .i64 (k : Int) ∧ Below w.heap.size w wr)
  case atStart => exact ⟨0, Nat.zero_le _, rfl, rfl, Below.refl _ _⟩
  case round =>
    obtain ⟨k, hk9, hgk, rfl, hbw⟩ := hrel
    have HG : Hid (gk = l.length - k ∧ Below w.heap.size w wr) := ⟨hgk, hbw⟩
    clear hgk
    by_cases hlt : k < l.length
    · have hlt' : (k : Int) < (l.length : Int) := by omega
      have HLt : Hid (k < l.length) := hlt
      obtain ⟨g1, f1, rfl, -, u1⟩ := (HR.out.1.below hbw) k (.int .i64 (l.getD k 0)) (by simp [iC, hlt, List.getD_eq_getElem?_getD])
      obtain ⟨g2, f2, rfl, -, u2⟩ := (HR.out.2.below hbw) k (.int .i64 (l.getD k 0)) (by simp [iC, hlt, List.getD_eq_getElem?_getD])
      generalize l.getD k 0 = xv at u1 u2
      clear hlt hk9 hbw
      go_upto_region 6 with fail
      refine wp_region_held (S := fun w' : World => w'.cell? ⟨g1, f1 + k, none⟩ = some (.int .i64 xv) ∧ w'.cell? ⟨g2, f2 + k, none⟩ = some (.int .i64 xv)) (by kernel_rfl) ?_
      change wpAnyH _ _ _ _ _ _ _ _ wr.drew
      have hS : (fun w' : World => w'.cell? ⟨g1, f1 + k, none⟩ = some (.int .i64 xv) ∧ w'.cell? ⟨g2, f2 + k, none⟩ = some (.int .i64 xv)) wr.drew := ⟨u1, u2⟩
      have HWd : Hid (Below w.heap.size w wr.drew) := HG.out.2.drew
      generalize wr.drew = Wd at *
      refine tqA 0 rfl hS ?_
      refine tqA 1 rfl hS ?_
      refine tqA 2 rfl hS ?_
      refine tqA 3 rfl hS ?_
      refine tqA 4 rfl hS ?_
      refine tqA 5 rfl hS ?_
      refine tqA 6 rfl hS ?_
      refine tqA 7 rfl hS ?_
      refine tqA (v := .bool false) 8 rfl hS ?_
      refine wpAnyH_done (by kernel_rfl) ?_ _
      clear hS u1 u2
      go_simp
      go_wp2_with fail
      go_roundg (l.length - (k + 1))
      case measure => have h1 := HG.out.1; have := HLt.out; omega
      case rel => exact ⟨k + 1, HLt.out, rfl, by go_num, HWd.out⟩
    · obtain rfl : k = l.length := by omega
      clear hlt hk9 hbw
      go_wp2_with fail
      go_ret
      exact ⟨rfl, HG.out.2⟩
/-- of the blocks that were, only those of S have turned -/
structure FS (S : List Nat) (w w' : World) : Prop where
  os : w'.os = w.os
  tape : w'.tape = w.tape
  output : w'.output = w.output
  size : w.heap.size ≤ w'.heap.size
  block : ∀ k, k < w.heap.size → k ∉ S → w'.heap[k]? = w.heap[k]?
theorem FS.refl (S : List Nat) (w : World) : FS S w w := ⟨rfl, rfl, rfl, Nat.le_refl _, fun _ _ _ => rfl⟩
theorem FS.trans {S : List Nat} {w w' w'' : World} (h : FS S w w') (h2 : FS S w' w'') : FS S w w'' :=
  ⟨h2.os.trans h.os, h2.tape.trans h.tape, h2.output.trans h.output, Nat.le_trans h.size h2.size, fun k hk hn => (h2.block k (Nat.lt_of_lt_of_le hk h.size) hn).trans (h.block k hk hn)⟩
theorem FS.of {S : List Nat} {w w' : World} (h : Below w.heap.size w w') : FS S w w' := ⟨h.os, h.tape, h.output, h.size, fun k hk _ => h.block k hk⟩
theorem FS.set {S : List Nat} {g k : Nat} {v : Value} (w : World) (hg : g ∈ S) : FS S w (w.setCell ⟨g, k, none⟩ v) := by
  have hb : Below 0 w (w.setCell ⟨g, k, none⟩ v) := (Below.refl 0 w).setCell (p := ⟨g, k, none⟩) (Nat.zero_le _) _
  exact ⟨hb.os, hb.tape, hb.output, by simp, fun j _ hn => Below.heap_setCell _ _ _ _ (fun e => hn (by rw [e]; exact hg))⟩
theorem Bk.pre {W : World} {g : Nat} {T : TypeId} {xs r : List Value} (h : Bk W g T (xs ++ r) 0) : Rd W (some ⟨g, 0, none⟩) xs := fun k x hx => by
  have hl : k < xs.length := (List.getElem?_eq_some_iff.1 hx).1
  exact h.rd k x (by rw [List.getElem?_append_left hl]; exact hx)
theorem Bk.at_ {W : World} {g : Nat} {T : TypeId} {ys : List Value} (h : Bk W g T ys 0) {k : Nat} {x : Value} (hx : ys[k]? = some x) : W.cell? ⟨g, k, none⟩ = some x := cell_of h.heap hx
theorem mkI_at (n k : Nat) (h : k < 5) : (mkI n 5)[k]? = some (.int .i64 (-77 - ((n + k : Nat) : Int))) := by
  match k, h with
  | 0, _ => rfl
  | 1, _ => rfl
  | 2, _ => rfl
  | 3, _ => rfl
  | 4, _ => rfl
set_option maxHeartbeats 3200000 in
set_option maxRecDepth 100000 in
/-- KeptInts, of numbers that are as they were -/
theorem keptI_any {S : List Nat} {T : TypeId} (l : List Int) (g : Nat) (ao : Option Addr) (ac : Nat) (w : World) (hB : Bk w g T (mC l) 0) (hR : Rd w ao (iC l)) (hl : l.length ≤ 1000) (hg : g ∈ S) :
    Calls Tryd.prog 23 #[.slice (some ⟨g, 0, none⟩) l.length (l.length + 5), .slice ao l.length ac] w fun e w' => e = .returned (.bool true) ∧ FS S w w' := by
  have HS : Hid (Calls Tryd.prog 33 #[.slice (some ⟨g, 0, none⟩) l.length (l.length + 5), .slice ao l.length ac] w fun e w' => e = .returned (.bool true) ∧ Below w.heap.size w w') := same17_eq l _ ao _ ac w hB.pre hR (by omega)
  have hl' : (l.length : Int) ≤ 1000 := by omega
  have hil : (iC l).length = l.length := by unfold iC; simp
  have HB : Hid (Bk w g T (mC l) 0 ∧ g ∈ S ∧ (iC l).length = l.length) := ⟨hB, hg, hil⟩
  clear hB hR hl hg hil
  go_enter Tryd.func23, Tryd.ntmps23
  go_wp2_with fail
  refine HS.out.mono ?_
  rintro e w1 ⟨rfl, hb1⟩
  have H1 : Hid (Bk w1 g T (mC l) 0 ∧ FS S w w1) := ⟨HB.out.1.below hb1, FS.of hb1⟩
  clear hb1 HS
  go_wp2_with fail
  go_loopg [5, 7] 5 (fun gq s i wr => ∃ k : Nat, k ≤ 5 ∧ gq = 5 - k ∧ i = .int .i64 ((l.length : Int) + k) ∧ s = .bool true ∧ wr = w1)
  case atStart => exact ⟨0, by omega, rfl, by go_num, rfl, rfl⟩
  case round =>
    obtain ⟨k, hk, hgk, rfl, rfl, rfl⟩ := hrel
    have HG : Hid (gk = 5 - k) := hgk
    have hk3 : (k : Int) ≤ 5 := by omega
    clear hgk
    by_cases hlt : k < 5
    · have hlt' : (l.length : Int) + (k : Int) < (l.length : Int) + 5 := by omega
      have c0 := H1.out.1.at_ (k := l.length + k) (x := .int .i64 (-77 - ((l.length + k : Nat) : Int))) (by
        unfold mC
        rw [List.getElem?_append_right (by rw [HB.out.2.2]; omega), HB.out.2.2, show l.length + k - l.length = k by omega]
        exact mkI_at _ _ hlt)
      have hcast : ((l.length + k : Nat) : Int) = (l.length : Int) + (k : Int) := by omega
      have htn : ((l.length : Int) + (k : Int)).toNat = l.length + k := by omega
      have hz9 : (0 : Int) ≤ (l.length : Int) + (k : Int) := by omega
      have hwz : IntKind.i64.wrap (-77 - ((l.length + k : Nat) : Int)) = -77 - ((l.length + k : Nat) : Int) := by rw [IntKind.wrap_i64]; omega
      clear hlt
      rw [← hcast] at hlt' ⊢
      go_wp2_with fail
      go_roundg (5 - (k + 1))
      case measure => have h1 := HG.out; omega
      case rel => exact ⟨k + 1, by omega, rfl, by go_num, by first | rfl | simp, rfl⟩
    · have hlt' : ¬ ((l.length : Int) + (k : Int) < (l.length : Int) + 5) := by omega
      clear hlt
      go_wp2_with fail
      go_loopg [8] (l.length + 5) (fun gq i wr => ∃ (k : Nat) (ys : List Value), k ≤ l.length + 5 ∧ gq = l.length + 5 - k ∧ i = .int .i64 (k : Int) ∧ ys.length = l.length + 5 ∧ Bk wr g T ys 0 ∧ FS S w wr)
      case atStart => exact ⟨0, mC l, Nat.zero_le _, rfl, rfl, by unfold mC; rw [List.length_append, HB.out.2.2, mkI_len], H1.out.1, H1.out.2⟩
      case round =>
        obtain ⟨q, ys, hq, hgk, rfl, hys, hbk, hfs⟩ := hrel
        have HG2 : Hid (gk = l.length + 5 - q ∧ ys.length = l.length + 5 ∧ Bk wr g T ys 0 ∧ FS S w wr) := ⟨hgk, hys, hbk, hfs⟩
        by_cases hq5 : q < l.length + 5
        · have hq5' : (q : Int) < (l.length : Int) + 5 := by omega
          have HLt : Hid (q < l.length + 5) := hq5
          obtain ⟨v0, c0⟩ := hbk.cell (j := q) (by omega)
          have fz := hbk.frozen q
          have HN : Hid (Bk (wr.setCell ⟨g, q, none⟩ (.int .i64 31)) g T (ys.set q (.int .i64 31)) 0 ∧ FS S w (wr.setCell ⟨g, q, none⟩ (.int .i64 31)) ∧ (ys.set q (.int .i64 31)).length = l.length + 5) := ⟨hbk.setIn q _, hfs.trans (FS.set wr HB.out.2.1), by rw [List.length_set]; exact hys⟩
          clear hgk hys hbk hfs hq hq5
          go_wp2_with fail
          go_roundg (l.length + 5 - (q + 1))
          case measure => have h1 := HG2.out.1; have := HLt.out; omega
          case rel => exact ⟨q + 1, _, HLt.out, rfl, by go_num, HN.out.2.2, HN.out.1, HN.out.2.1⟩
        · have hq5' : ¬ (q : Int) < (l.length : Int) + 5 := by omega
          clear hgk hys hbk hfs hq hq5
          go_wp2_with fail
          go_ret
          exact ⟨rfl, HG2.out.2.2.2⟩
end Go.Proofs.YtelbakkgobkdaaaDoor.Vf

namespace Go.Proofs.YtelbakkgobkdaaaDoor.Vf
open Go.RowKit Go.Proofs.YtelbakkgobkdaaaDoor.Nm
set_option maxHeartbeats 12800000 in
set_option maxRecDepth 100000 in
/-- SameProgram, of programs that are the same -/
theorem sameP_eq (v v' : PV) (p : Pg) (w : World) (hA : IsPg w v p) (hB : IsPg w v' p) (l1 : p.gh.length ≤ 100) (l2 : p.vs.length ≤ 100) (l3 : p.ts.length ≤ 100) (l4 : p.on.length ≤ 100) (l5 : p.cd.length ≤ 524288) :
    Calls Tryd.prog 22 #[.agg (pvC v p), .agg (pvC v' p)] w fun e w' => e = .returned (.bool true) ∧ Below w.heap.size w w' := by
  have HP : Hid (IsPg w v p ∧ IsPg w v' p) := ⟨hA, hB⟩
  have HT : Hid (∀ W, Below w.heap.size w W → Calls Tryd.prog 33 #[.slice v.to p.ts.length v.tc, .slice v'.to p.ts.length v'.tc] W fun e w' => e = .returned (.bool true) ∧ Below W.heap.size W w') := fun W hb => same17_eq p.ts _ _ _ _ W (hA.below hb).ts (hB.below hb).ts (by omega)
  have HO : Hid (∀ W, Below w.heap.size w W → Calls Tryd.prog 33 #[.slice v.oo p.on.length v.oc, .slice v'.oo p.on.length v'.oc] W fun e w' => e = .returned (.bool true) ∧ Below W.heap.size W w') := fun W hb => same17_eq p.on _ _ _ _ W (hA.below hb).on (hB.below hb).on (by omega)
  have l1' : (p.gh.length : Int) ≤ 100 := by omega
  have l2' : (p.vs.length : Int) ≤ 100 := by omega
  have l3' : (p.ts.length : Int) ≤ 100 := by omega
  have l4' : (p.on.length : Int) ≤ 100 := by omega
  have l5' : (p.cd.length : Int) ≤ 524288 := by omega
  obtain ⟨qo, qc, vo, vc, tto, tc, oo, oc, co, cc⟩ := v
  obtain ⟨qo', qc', vo', vc', tto', tc', oo', oc', co', cc'⟩ := v'
  dsimp only at HT HO
  show Calls _ _ #[.agg #[.slice qo p.gh.length qc, .slice vo p.vs.length vc, .slice tto p.ts.length tc, .slice oo p.on.length oc, .int .i64 p.miss, .slice co p.cd.length cc], .agg #[.slice qo' p.gh.length qc', .slice vo' p.vs.length vc', .slice tto' p.ts.length tc', .slice oo' p.on.length oc', .int .i64 p.miss, .slice co' p.cd.length cc']] _ _
  have H0 := show Hid _ from al2 w (.cells #[.slice qo p.gh.length qc, .slice vo p.vs.length vc, .slice tto p.ts.length tc, .slice oo p.on.length oc, .int .i64 p.miss, .slice co p.cd.length cc] 27) (.cells #[.slice qo' p.gh.length qc', .slice vo' p.vs.length vc', .slice tto' p.ts.length tc', .slice oo' p.on.length oc', .int .i64 p.miss, .slice co' p.cd.length cc'] 27)
  clear hA hB l1 l2 l3 l4 l5
  go_enter Tryd.func22, Tryd.ntmps22
  go_wp2_with fail
  generalize ((w.alloc (.cells #[.slice qo p.gh.length qc, .slice vo p.vs.length vc, .slice tto p.ts.length tc, .slice oo p.on.length oc, .int .i64 p.miss, .slice co p.cd.length cc] 27)).alloc (.cells #[.slice qo' p.gh.length qc', .slice vo' p.vs.length vc', .slice tto' p.ts.length tc', .slice oo' p.on.length oc', .int .i64 p.miss, .slice co' p.cd.length cc'] 27)) = W0 at *
  have HX : Hid (∀ X, Below W0.heap.size W0 X → X.heap[w.heap.size]? = some (.cells #[.slice qo p.gh.length qc, .slice vo p.vs.length vc, .slice tto p.ts.length tc, .slice oo p.on.length oc, .int .i64 p.miss, .slice co p.cd.length cc] 27 (0, 0)) ∧ X.heap[w.heap.size + 1]? = some (.cells #[.slice qo' p.gh.length qc', .slice vo' p.vs.length vc', .slice tto' p.ts.length tc', .slice oo' p.on.length oc', .int .i64 p.miss, .slice co' p.cd.length cc'] 27 (0, 0))) := fun X hX => ⟨(hX.block _ (blk_lt H0.out.2.1)).trans H0.out.2.1, (hX.block _ (blk_lt H0.out.2.2)).trans H0.out.2.2⟩
  refine (HT.out _ H0.out.1).mono ?_
  rintro e w1 ⟨rfl, hb1⟩
  have HB1 : Hid (Below W0.heap.size W0 w1) := hb1
  obtain ⟨i0, i1, i2, i3, i4, i5⟩ := cells6 (HX.out w1 hb1).1
  obtain ⟨j0, j1, j2, j3, j4, j5⟩ := cells6 (HX.out w1 hb1).2
  clear hb1 HT
  go_wp2_with fail
  refine (HO.out _ (H0.out.1.trans (HB1.out.mono H0.out.1.size))).mono ?_
  rintro e w2 ⟨rfl, hb2⟩
  have HBe : Hid (Below W0.heap.size W0 w2) := HB1.out.trans (hb2.mono HB1.out.size)
  clear i0 i1 i2 i3 i4 i5 j0 j1 j2 j3 j4 j5 hb2 HB1 HO
  obtain ⟨i0, i1, i2, i3, i4, i5⟩ := cells6 (HX.out w2 HBe.out).1
  obtain ⟨j0, j1, j2, j3, j4, j5⟩ := cells6 (HX.out w2 HBe.out).2
  go_wp2_with fail
  clear i0 i1 i2 i3 i4 i5 j0 j1 j2 j3 j4 j5
  go_loopg [5] p.gh.length (fun gq x wr => ∃ k : Nat, k ≤ p.gh.length ∧ gq = p.gh.length - k ∧ x = .int .i64 (k : Int) ∧ Below W0.heap.size W0 wr)
  case atStart => exact ⟨0, Nat.zero_le _, rfl, rfl, HBe.out⟩
  case round =>
    obtain ⟨k, hk9, hgk, rfl, hbw⟩ := hrel
    have HG : Hid (gk = p.gh.length - k ∧ Below W0.heap.size W0 wr) := ⟨hgk, hbw⟩
    obtain ⟨i0, i1, i2, i3, i4, i5⟩ := cells6 (HX.out wr hbw).1
    clear hgk
    by_cases hlt : k < p.gh.length
    · have hlt' : (k : Int) < (p.gh.length : Int) := by omega
      have HLt : Hid (k < p.gh.length) := hlt
      have hbv : Below w.heap.size w wr := H0.out.1.trans (hbw.mono H0.out.1.size)
      obtain ⟨g1, f1, hg1, -, u0⟩ := rd_bool (HP.out.1.gh.below hbv) hlt
      obtain ⟨g2, f2, hg2, -, v0⟩ := rd_bool (HP.out.2.gh.below hbv) hlt
      obtain rfl : qo = some ⟨g1, f1, none⟩ := hg1
      obtain rfl : qo' = some ⟨g2, f2, none⟩ := hg2
      generalize p.gh[k] = y0 at *
      have HS9 : Hid ((fun w' : World => w'.cell? ⟨w.heap.size, 0, none⟩ = some (.slice (some ⟨g1, f1, none⟩) p.gh.length qc) ∧ w'.cell? ⟨w.heap.size + 1, 0, none⟩ = some (.slice (some ⟨g2, f2, none⟩) p.gh.length qc') ∧ w'.cell? ⟨g1, f1 + k, none⟩ = some (.bool y0) ∧ w'.cell? ⟨g2, f2 + k, none⟩ = some (.bool y0)) wr.drew) := ⟨i0, (cells6 (HX.out wr hbw).2).1, u0, v0⟩
      have HWd : Hid (Below W0.heap.size W0 wr.drew) := hbw.drew
      clear hlt hk9 hbw hbv u0 v0
      go_upto_region 6 with fail
      refine wp_region_held (S := fun w' : World => w'.cell? ⟨w.heap.size, 0, none⟩ = some (.slice (some ⟨g1, f1, none⟩) p.gh.length qc) ∧ w'.cell? ⟨w.heap.size + 1, 0, none⟩ = some (.slice (some ⟨g2, f2, none⟩) p.gh.length qc') ∧ w'.cell? ⟨g1, f1 + k, none⟩ = some (.bool y0) ∧ w'.cell? ⟨g2, f2 + k, none⟩ = some (.bool y0)) (by kernel_rfl) ?_
      change wpAnyH _ _ _ _ _ _ _ _ wr.drew
      have hS := HS9.out
      clear HS9 i0 i1 i2 i3 i4 i5
      generalize wr.drew = Wd at *
      refine tqA 0 rfl hS ?_
      refine tqA 1 rfl hS ?_
      refine tqA 2 rfl hS ?_
      refine tqA 3 rfl hS ?_
      refine tqA 4 rfl hS ?_
      refine tqA 5 rfl hS ?_
      refine tqA 6 rfl hS ?_
      refine tqA 7 rfl hS ?_
      refine tqA 8 rfl hS ?_
      refine tqA 9 rfl hS ?_
      refine tqA (v := .bool false) 10 rfl hS ?_
      refine wpAnyH_done (by kernel_rfl) ?_ _
      clear hS
      go_simp
      go_wp2_with fail
      go_roundg (p.gh.length - (k + 1))
      case measure => have h1 := HG.out.1; have := HLt.out; omega
      case rel => exact ⟨k + 1, HLt.out, rfl, by go_num, HWd.out⟩
    · have hlt' : ¬ (k : Int) < (p.gh.length : Int) := by omega
      have HBe : Hid (Below W0.heap.size W0 wr) := hbw
      clear hlt hk9 hbw HG
      go_wp2_with fail
      go_loopg [6] p.vs.length (fun gq x wr => ∃ k : Nat, k ≤ p.vs.length ∧ gq = p.vs.length - k ∧ x = .int .i64 (k : Int) ∧ Below W0.heap.size W0 wr)
      case atStart => exact ⟨0, Nat.zero_le _, rfl, rfl, HBe.out⟩
      case round =>
        obtain ⟨k, hk9, hgk, rfl, hbw⟩ := hrel
        have HG : Hid (gk = p.vs.length - k ∧ Below W0.heap.size W0 wr) := ⟨hgk, hbw⟩
        obtain ⟨i0, i1, i2, i3, i4, i5⟩ := cells6 (HX.out wr hbw).1
        clear hgk
        by_cases hlt : k < p.vs.length
        · have hlt' : (k : Int) < (p.vs.length : Int) := by omega
          have HLt : Hid (k < p.vs.length) := hlt
          have hbv : Below w.heap.size w wr := H0.out.1.trans (hbw.mono H0.out.1.size)
          obtain ⟨g1, f1, hg1, -, u0, u1, u2⟩ := rd_var (HP.out.1.vs.below hbv) hlt
          obtain ⟨g2, f2, hg2, -, v0, v1, v2⟩ := rd_var (HP.out.2.vs.below hbv) hlt
          obtain rfl : vo = some ⟨g1, f1, none⟩ := hg1
          obtain rfl : vo' = some ⟨g2, f2, none⟩ := hg2
          generalize p.vs[k].1 = y0 at *
          generalize p.vs[k].2.1 = y1 at *
          generalize p.vs[k].2.2 = y2 at *
          have HS9 : Hid ((fun w' : World => w'.cell? ⟨w.heap.size, 1, none⟩ = some (.slice (some ⟨g1, f1, none⟩) p.vs.length vc) ∧ w'.cell? ⟨w.heap.size + 1, 1, none⟩ = some (.slice (some ⟨g2, f2, none⟩) p.vs.length vc') ∧ w'.cell? ⟨g1, f1 + k * 3, none⟩ = some (.int .i64 y0) ∧ w'.cell? ⟨g1, f1 + k * 3 + 1, none⟩ = some (.int .i64 y1) ∧ w'.cell? ⟨g1, f1 + k * 3 + 2, none⟩ = some (.int .i64 y2) ∧ w'.cell? ⟨g2, f2 + k * 3, none⟩ = some (.int .i64 y0) ∧ w'.cell? ⟨g2, f2 + k * 3 + 1, none⟩ = some (.int .i64 y1) ∧ w'.cell? ⟨g2, f2 + k * 3 + 2, none⟩ = some (.int .i64 y2)) wr.drew) := ⟨i1, (cells6 (HX.out wr hbw).2).2.1, u0, u1, u2, v0, v1, v2⟩
          have HWd : Hid (Below W0.heap.size W0 wr.drew) := hbw.drew
          clear hlt hk9 hbw hbv u0 u1 u2 v0 v1 v2
          go_upto_region 11 with fail
          refine wp_region_held (S := fun w' : World => w'.cell? ⟨w.heap.size, 1, none⟩ = some (.slice (some ⟨g1, f1, none⟩) p.vs.length vc) ∧ w'.cell? ⟨w.heap.size + 1, 1, none⟩ = some (.slice (some ⟨g2, f2, none⟩) p.vs.length vc') ∧ w'.cell? ⟨g1, f1 + k * 3, none⟩ = some (.int .i64 y0) ∧ w'.cell? ⟨g1, f1 + k * 3 + 1, none⟩ = some (.int .i64 y1) ∧ w'.cell? ⟨g1, f1 + k * 3 + 2, none⟩ = some (.int .i64 y2) ∧ w'.cell? ⟨g2, f2 + k * 3, none⟩ = some (.int .i64 y0) ∧ w'.cell? ⟨g2, f2 + k * 3 + 1, none⟩ = some (.int .i64 y1) ∧ w'.cell? ⟨g2, f2 + k * 3 + 2, none⟩ = some (.int .i64 y2)) (by kernel_rfl) ?_
          change wpAnyH _ _ _ _ _ _ _ _ wr.drew
          have hS := HS9.out
          clear HS9 i0 i1 i2 i3 i4 i5
          generalize wr.drew = Wd at *
          refine tqA 0 rfl hS ?_
          refine tqA 1 rfl hS ?_
          refine tqA 2 rfl hS ?_
          refine tqA 3 rfl hS ?_
          refine tqA 4 rfl hS ?_
          refine tqA 5 rfl hS ?_
          refine tqA 6 rfl hS ?_
          refine tqA 7 rfl hS ?_
          refine tqA 8 rfl hS ?_
          refine tqA 9 rfl hS ?_
          refine tqA (v := .bool false) 10 rfl hS ?_
          refine wpAnyH_done (by kernel_rfl) ?_ _
          clear hS
          go_simp
          go_wp2_with fail
          go_roundg (p.vs.length - (k + 1))
          case measure => have h1 := HG.out.1; have := HLt.out; omega
          case rel => exact ⟨k + 1, HLt.out, rfl, by go_num, HWd.out⟩
        · have hlt' : ¬ (k : Int) < (p.vs.length : Int) := by omega
          have HBe : Hid (Below W0.heap.size W0 wr) := hbw
          clear hlt hk9 hbw HG
          go_wp2_with fail
          go_loopg [7] p.cd.length (fun gq x wr => ∃ k : Nat, k ≤ p.cd.length ∧ gq = p.cd.length - k ∧ x = .int .i64 (k : Int) ∧ Below W0.heap.size W0 wr)
          case atStart => exact ⟨0, Nat.zero_le _, rfl, rfl, HBe.out⟩
          case round =>
            obtain ⟨k, hk9, hgk, rfl, hbw⟩ := hrel
            have HG : Hid (gk = p.cd.length - k ∧ Below W0.heap.size W0 wr) := ⟨hgk, hbw⟩
            obtain ⟨i0, i1, i2, i3, i4, i5⟩ := cells6 (HX.out wr hbw).1
            clear hgk
            by_cases hlt : k < p.cd.length
            · have hlt' : (k : Int) < (p.cd.length : Int) := by omega
              have HLt : Hid (k < p.cd.length) := hlt
              have hbv : Below w.heap.size w wr := H0.out.1.trans (hbw.mono H0.out.1.size)
              obtain ⟨g1, f1, hg1, -, u0, u1, u2, u3, u4⟩ := rd_ins (HP.out.1.cd.below hbv) hlt
              obtain ⟨g2, f2, hg2, -, v0, v1, v2, v3, v4⟩ := rd_ins (HP.out.2.cd.below hbv) hlt
              obtain rfl : co = some ⟨g1, f1, none⟩ := hg1
              obtain rfl : co' = some ⟨g2, f2, none⟩ := hg2
              generalize p.cd[k].op = y0 at *
              generalize p.cd[k].a = y1 at *
              generalize p.cd[k].b = y2 at *
              generalize p.cd[k].c = y3 at *
              generalize p.cd[k].d = y4 at *
              have HS9 : Hid ((fun w' : World => w'.cell? ⟨w.heap.size, 5, none⟩ = some (.slice (some ⟨g1, f1, none⟩) p.cd.length cc) ∧ w'.cell? ⟨w.heap.size + 1, 5, none⟩ = some (.slice (some ⟨g2, f2, none⟩) p.cd.length cc') ∧ w'.cell? ⟨g1, f1 + k * 5, none⟩ = some (.int .i64 y0) ∧ w'.cell? ⟨g1, f1 + k * 5 + 1, none⟩ = some (.int .i64 y1) ∧ w'.cell? ⟨g1, f1 + k * 5 + 2, none⟩ = some (.int .i64 y2) ∧ w'.cell? ⟨g1, f1 + k * 5 + 3, none⟩ = some (.int .i64 y3) ∧ w'.cell? ⟨g1, f1 + k * 5 + 4, none⟩ = some (.int .i64 y4) ∧ w'.cell? ⟨g2, f2 + k * 5, none⟩ = some (.int .i64 y0) ∧ w'.cell? ⟨g2, f2 + k * 5 + 1, none⟩ = some (.int .i64 y1) ∧ w'.cell? ⟨g2, f2 + k * 5 + 2, none⟩ = some (.int .i64 y2) ∧ w'.cell? ⟨g2, f2 + k * 5 + 3, none⟩ = some (.int .i64 y3) ∧ w'.cell? ⟨g2, f2 + k * 5 + 4, none⟩ = some (.int .i64 y4)) wr.drew) := ⟨i5, (cells6 (HX.out wr hbw).2).2.2.2.2.2, u0, u1, u2, u3, u4, v0, v1, v2, v3, v4⟩
              have HWd : Hid (Below W0.heap.size W0 wr.drew) := hbw.drew
              clear hlt hk9 hbw hbv u0 u1 u2 u3 u4 v0 v1 v2 v3 v4
              go_upto_region 16 with fail
              refine wp_region_held (S := fun w' : World => w'.cell? ⟨w.heap.size, 5, none⟩ = some (.slice (some ⟨g1, f1, none⟩) p.cd.length cc) ∧ w'.cell? ⟨w.heap.size + 1, 5, none⟩ = some (.slice (some ⟨g2, f2, none⟩) p.cd.length cc') ∧ w'.cell? ⟨g1, f1 + k * 5, none⟩ = some (.int .i64 y0) ∧ w'.cell? ⟨g1, f1 + k * 5 + 1, none⟩ = some (.int .i64 y1) ∧ w'.cell? ⟨g1, f1 + k * 5 + 2, none⟩ = some (.int .i64 y2) ∧ w'.cell? ⟨g1, f1 + k * 5 + 3, none⟩ = some (.int .i64 y3) ∧ w'.cell? ⟨g1, f1 + k * 5 + 4, none⟩ = some (.int .i64 y4) ∧ w'.cell? ⟨g2, f2 + k * 5, none⟩ = some (.int .i64 y0) ∧ w'.cell? ⟨g2, f2 + k * 5 + 1, none⟩ = some (.int .i64 y1) ∧ w'.cell? ⟨g2, f2 + k * 5 + 2, none⟩ = some (.int .i64 y2) ∧ w'.cell? ⟨g2, f2 + k * 5 + 3, none⟩ = some (.int .i64 y3) ∧ w'.cell? ⟨g2, f2 + k * 5 + 4, none⟩ = some (.int .i64 y4)) (by kernel_rfl) ?_
              change wpAnyH _ _ _ _ _ _ _ _ wr.drew
              have hS := HS9.out
              clear HS9 i0 i1 i2 i3 i4 i5
              generalize wr.drew = Wd at *
              refine tqA 0 rfl hS ?_
              refine tqA 1 rfl hS ?_
              refine tqA 2 rfl hS ?_
              refine tqA 3 rfl hS ?_
              refine tqA 4 rfl hS ?_
              refine tqA 5 rfl hS ?_
              refine tqA 6 rfl hS ?_
              refine tqA 7 rfl hS ?_
              refine tqA 8 rfl hS ?_
              refine tqA 9 rfl hS ?_
              refine tqA (v := .bool false) 10 rfl hS ?_
              refine wpAnyH_done (by kernel_rfl) ?_ _
              clear hS
              go_simp
              go_wp2_with fail
              go_roundg (p.cd.length - (k + 1))
              case measure => have h1 := HG.out.1; have := HLt.out; omega
              case rel => exact ⟨k + 1, HLt.out, rfl, by go_num, HWd.out⟩
            · have hlt' : ¬ (k : Int) < (p.cd.length : Int) := by omega
              have HBe : Hid (Below W0.heap.size W0 wr) := hbw
              clear hlt hk9 hbw HG
              go_wp2_with fail
              go_ret
              exact ⟨rfl, H0.out.1.trans (HBe.out.mono H0.out.1.size)⟩
end Go.Proofs.YtelbakkgobkdaaaDoor.Vf

namespace Go.Proofs.YtelbakkgobkdaaaDoor.Vf
open Go.RowKit Go.Proofs.YtelbakkgobkdaaaDoor.Nm
theorem FS.sub {S S' : List Nat} {w w' : World} (h : FS S w w') (hs : ∀ k ∈ S, k ∈ S') : FS S' w w' := ⟨h.os, h.tape, h.output, h.size, fun k hk hn => h.block k hk (fun hm => hn (hs k hm))⟩
theorem FS.bel {S : List Nat} {w0 w w' : World} (h : FS S w w') (hb : Below w0.heap.size w0 w) (hs : ∀ k ∈ S, w0.heap.size ≤ k) : Below w0.heap.size w0 w' :=
  ⟨h.os.trans hb.os, h.tape.trans hb.tape, h.output.trans hb.output, Nat.le_trans hb.size h.size, fun k hk => (h.block k (Nat.lt_of_lt_of_le hk hb.size) (fun hm => by have := hs k hm; omega)).trans (hb.block k hk)⟩
/-- a program that was lent lies as it was -/
structure Lt (w0 w : World) (p : Pg) (a b c d e : Nat) (Ta Tb Tc Td : TypeId) : Prop where
  bel : Below w0.heap.size w0 w
  ge : w0.heap.size ≤ a ∧ w0.heap.size ≤ b ∧ w0.heap.size ≤ c ∧ w0.heap.size ≤ d ∧ w0.heap.size ≤ e
  ne : a ≠ b ∧ a ≠ c ∧ a ≠ d ∧ a ≠ e ∧ b ≠ c ∧ b ≠ d ∧ b ≠ e ∧ c ≠ d ∧ c ≠ e ∧ d ≠ e
  ba : Bk w a Ta (gC p) 0
  bb : Bk w b Tb (wC p) 0
  bc : Bk w c Tc (mC p.ts) 0
  bd : Bk w d Td (mC p.on) 0
  be : Bk w e 54 (kC p 9) 0
theorem Lt.below {w0 w w' : World} {p : Pg} {a b c d e : Nat} {Ta Tb Tc Td : TypeId} (h : Lt w0 w p a b c d e Ta Tb Tc Td) (hb : Below w.heap.size w w') : Lt w0 w' p a b c d e Ta Tb Tc Td :=
  ⟨h.bel.trans (hb.mono h.bel.size), h.ge, h.ne, h.ba.below hb, h.bb.below hb, h.bc.below hb, h.bd.below hb, h.be.below hb⟩
theorem gC_at {p : Pg} {k : Nat} (h : k < p.gh.length + 3) : ∃ y : Bool, (gC p)[k]? = some (.bool y) ∧ (p.gh.length ≤ k → y = false) := by
  unfold gC
  have hl : (bC p.gh).length = p.gh.length := by unfold bC; simp
  by_cases hk : k < p.gh.length
  · rw [List.getElem?_append_left (by omega)]
    exact ⟨p.gh[k], by simp [bC, hk], fun h9 => absurd h9 (by omega)⟩
  · rw [List.getElem?_append_right (by omega), hl]
    have : k - p.gh.length = 0 ∨ k - p.gh.length = 1 ∨ k - p.gh.length = 2 := by omega
    rcases this with e | e | e <;> rw [e] <;> exact ⟨false, rfl, fun _ => rfl⟩
theorem wC_at (p : Pg) : (wC p)[p.vs.length * 3]? = some (.int .i64 91) ∧ (wC p)[p.vs.length * 3 + 1]? = some (.int .i64 0) ∧ (wC p)[p.vs.length * 3 + 2]? = some (.int .i64 0) ∧ (wC p)[(p.vs.length + 1) * 3]? = some (.int .i64 0) ∧ (wC p)[(p.vs.length + 1) * 3 + 1]? = some (.int .i64 0) ∧ (wC p)[(p.vs.length + 1) * 3 + 2]? = some (.int .i64 0) := by
  have hl : (vC p.vs).length = p.vs.length * 3 := vC_len _
  unfold wC
  refine ⟨?_, ?_, ?_, ?_, ?_, ?_⟩
  all_goals rw [List.getElem?_append_right (by omega), hl]
  · rw [show p.vs.length * 3 - p.vs.length * 3 = 0 by omega]; rfl
  · rw [show p.vs.length * 3 + 1 - p.vs.length * 3 = 1 by omega]; rfl
  · rw [show p.vs.length * 3 + 2 - p.vs.length * 3 = 2 by omega]; rfl
  · rw [show (p.vs.length + 1) * 3 - p.vs.length * 3 = 3 by omega]; rfl
  · rw [show (p.vs.length + 1) * 3 + 1 - p.vs.length * 3 = 4 by omega]; rfl
  · rw [show (p.vs.length + 1) * 3 + 2 - p.vs.length * 3 = 5 by omega]; rfl
theorem wC_len (p : Pg) : (wC p).length = (p.vs.length + 3) * 3 := by
  unfold wC
  rw [List.length_append, vC_len]
  simp
  omega
theorem gC_len (p : Pg) : (gC p).length = p.gh.length + 3 := by unfold gC bC; simp
theorem kC_len (p : Pg) (k : Nat) : (kC p k).length = (p.cd.length + 9) * 5 := by unfold kC; rw [List.length_append, cC_len, mkC_len]; omega
theorem mkC_at (n k : Nat) (h : k < 9) : (mkC n 9)[k * 5]? = some (.int .i64 (-9)) ∧ (mkC n 9)[k * 5 + 1]? = some (.int .i64 ((n + k : Nat) : Int)) ∧ (mkC n 9)[k * 5 + 2]? = some (.int .i64 0) ∧ (mkC n 9)[k * 5 + 3]? = some (.int .i64 0) ∧ (mkC n 9)[k * 5 + 4]? = some (.int .i64 0) := by
  match k, h with
  | 0, _ => exact ⟨rfl, rfl, rfl, rfl, rfl⟩
  | 1, _ => exact ⟨rfl, rfl, rfl, rfl, rfl⟩
  | 2, _ => exact ⟨rfl, rfl, rfl, rfl, rfl⟩
  | 3, _ => exact ⟨rfl, rfl, rfl, rfl, rfl⟩
  | 4, _ => exact ⟨rfl, rfl, rfl, rfl, rfl⟩
  | 5, _ => exact ⟨rfl, rfl, rfl, rfl, rfl⟩
  | 6, _ => exact ⟨rfl, rfl, rfl, rfl, rfl⟩
  | 7, _ => exact ⟨rfl, rfl, rfl, rfl, rfl⟩
  | 8, _ => exact ⟨rfl, rfl, rfl, rfl, rfl⟩
theorem kC_at {p : Pg} {j : Nat} (h : p.cd.length ≤ j) (h2 : j < p.cd.length + 9) : (kC p 9)[j * 5]? = some (.int .i64 (-9)) ∧ (kC p 9)[j * 5 + 1]? = some (.int .i64 (j : Int)) ∧ (kC p 9)[j * 5 + 2]? = some (.int .i64 0) ∧ (kC p 9)[j * 5 + 3]? = some (.int .i64 0) ∧ (kC p 9)[j * 5 + 4]? = some (.int .i64 0) := by
  obtain ⟨k, rfl⟩ : ∃ k, j = p.cd.length + k := ⟨j - p.cd.length, by omega⟩
  have hl : (cC p.cd).length = p.cd.length * 5 := cC_len _
  obtain ⟨m0, m1, m2, m3, m4⟩ := mkC_at p.cd.length k (by omega)
  unfold kC
  refine ⟨?_, ?_, ?_, ?_, ?_⟩
  all_goals rw [List.getElem?_append_right (by omega), hl]
  · rw [show (p.cd.length + k) * 5 - p.cd.length * 5 = k * 5 by omega]; exact m0
  · rw [show (p.cd.length + k) * 5 + 1 - p.cd.length * 5 = k * 5 + 1 by omega]; exact m1
  · rw [show (p.cd.length + k) * 5 + 2 - p.cd.length * 5 = k * 5 + 2 by omega]; exact m2
  · rw [show (p.cd.length + k) * 5 + 3 - p.cd.length * 5 = k * 5 + 3 by omega]; exact m3
  · rw [show (p.cd.length + k) * 5 + 4 - p.cd.length * 5 = k * 5 + 4 by omega]; exact m4
set_option maxHeartbeats 12800000 in
set_option maxRecDepth 100000 in
/-- KeptProgram, of a program that is as it was -/
theorem keptP_any (v : PV) (p : Pg) {w0 w : World} {a b c d e : Nat} {Ta Tb Tc Td : TypeId} (hP : IsPg w0 v p) (hL : Lt w0 w p a b c d e Ta Tb Tc Td) (l1 : p.gh.length ≤ 100) (l2 : p.vs.length ≤ 100) (l3 : p.ts.length ≤ 100) (l4 : p.on.length ≤ 100) (l5 : p.cd.length ≤ 524288) :
    Calls Tryd.prog 11 #[.agg #[.slice (some ⟨a, 0, none⟩) p.gh.length (p.gh.length + 3), .slice (some ⟨b, 0, none⟩) p.vs.length (p.vs.length + 3), .slice (some ⟨c, 0, none⟩) p.ts.length (p.ts.length + 5), .slice (some ⟨d, 0, none⟩) p.on.length (p.on.length + 5), .int .i64 p.miss, .slice (some ⟨e, 0, none⟩) p.cd.length (p.cd.length + 9)], .agg (pvC v p)] w fun r w' => r = .returned (.bool true) ∧ FS [a, b, c, d, e] w w' := by
  have hvl : ∀ X, Below w.heap.size w X → IsPg X ⟨some ⟨a, 0, none⟩, p.gh.length + 3, some ⟨b, 0, none⟩, p.vs.length + 3, some ⟨c, 0, none⟩, p.ts.length + 5, some ⟨d, 0, none⟩, p.on.length + 5, some ⟨e, 0, none⟩, p.cd.length + 9⟩ p := fun X hX =>
    have h9 := hL.below hX
    ⟨h9.ba.pre, h9.bb.pre, h9.bc.pre, h9.bd.pre, Bk.pre (r := mkC p.cd.length 9) h9.be, by omega, by omega, by omega, by omega, by omega⟩
  have HS : Hid (∀ X, Below w.heap.size w X → Calls Tryd.prog 22 #[.agg #[.slice (some ⟨a, 0, none⟩) p.gh.length (p.gh.length + 3), .slice (some ⟨b, 0, none⟩) p.vs.length (p.vs.length + 3), .slice (some ⟨c, 0, none⟩) p.ts.length (p.ts.length + 5), .slice (some ⟨d, 0, none⟩) p.on.length (p.on.length + 5), .int .i64 p.miss, .slice (some ⟨e, 0, none⟩) p.cd.length (p.cd.length + 9)], .agg (pvC v p)] X fun e w' => e = .returned (.bool true) ∧ Below X.heap.size X w') := fun X hX => sameP_eq ⟨some ⟨a, 0, none⟩, p.gh.length + 3, some ⟨b, 0, none⟩, p.vs.length + 3, some ⟨c, 0, none⟩, p.ts.length + 5, some ⟨d, 0, none⟩, p.on.length + 5, some ⟨e, 0, none⟩, p.cd.length + 9⟩ v p X (hvl X hX) (hP.below (hL.bel.trans (hX.mono hL.bel.size))) l1 l2 l3 l4 l5
  have HP : Hid (IsPg w0 v p ∧ Lt w0 w p a b c d e Ta Tb Tc Td ∧ p.ts.length ≤ 1000 ∧ p.on.length ≤ 1000) := ⟨hP, hL, by omega, by omega⟩
  have l1' : (p.gh.length : Int) ≤ 100 := by omega
  have l2' : (p.vs.length : Int) ≤ 100 := by omega
  have l5' : (p.cd.length : Int) ≤ 524288 := by omega
  obtain ⟨qo, qc, vo, vc, tto, tc, oo, oc, co, cc⟩ := v
  show Calls _ _ #[_, .agg #[.slice qo p.gh.length qc, .slice vo p.vs.length vc, .slice tto p.ts.length tc, .slice oo p.on.length oc, .int .i64 p.miss, .slice co p.cd.length cc]] _ _
  have H0 := show Hid _ from al2 w (.cells #[.slice (some ⟨a, 0, none⟩) p.gh.length (p.gh.length + 3), .slice (some ⟨b, 0, none⟩) p.vs.length (p.vs.length + 3), .slice (some ⟨c, 0, none⟩) p.ts.length (p.ts.length + 5), .slice (some ⟨d, 0, none⟩) p.on.length (p.on.length + 5), .int .i64 p.miss, .slice (some ⟨e, 0, none⟩) p.cd.length (p.cd.length + 9)] 27) (.cells #[.slice qo p.gh.length qc, .slice vo p.vs.length vc, .slice tto p.ts.length tc, .slice oo p.on.length oc, .int .i64 p.miss, .slice co p.cd.length cc] 27)
  clear hvl hP hL l1 l2 l3 l4 l5
  go_enter Tryd.func11, Tryd.ntmps11
  go_wp2_with fail
  generalize ((w.alloc (.cells #[.slice (some ⟨a, 0, none⟩) p.gh.length (p.gh.length + 3), .slice (some ⟨b, 0, none⟩) p.vs.length (p.vs.length + 3), .slice (some ⟨c, 0, none⟩) p.ts.length (p.ts.length + 5), .slice (some ⟨d, 0, none⟩) p.on.length (p.on.length + 5), .int .i64 p.miss, .slice (some ⟨e, 0, none⟩) p.cd.length (p.cd.length + 9)] 27)).alloc (.cells #[.slice qo p.gh.length qc, .slice vo p.vs.length vc, .slice tto p.ts.length tc, .slice oo p.on.length oc, .int .i64 p.miss, .slice co p.cd.length cc] 27)) = W0 at *
  refine (HS.out _ H0.out.1).mono ?_
  rintro r w1 ⟨rfl, hb1⟩
  have hb01 : Below w.heap.size w w1 := H0.out.1.trans (hb1.mono H0.out.1.size)
  have H1 : Hid (Lt w0 w1 p a b c d e Ta Tb Tc Td ∧ w1.heap[w.heap.size]? = some (.cells #[.slice (some ⟨a, 0, none⟩) p.gh.length (p.gh.length + 3), .slice (some ⟨b, 0, none⟩) p.vs.length (p.vs.length + 3), .slice (some ⟨c, 0, none⟩) p.ts.length (p.ts.length + 5), .slice (some ⟨d, 0, none⟩) p.on.length (p.on.length + 5), .int .i64 p.miss, .slice (some ⟨e, 0, none⟩) p.cd.length (p.cd.length + 9)] 27 (0, 0)) ∧ w1.heap[w.heap.size + 1]? = some (.cells #[.slice qo p.gh.length qc, .slice vo p.vs.length vc, .slice tto p.ts.length tc, .slice oo p.on.length oc, .int .i64 p.miss, .slice co p.cd.length cc] 27 (0, 0)) ∧ FS [a, b, c, d, e] W0 w1) := ⟨HP.out.2.1.below hb01, (hb1.block _ (blk_lt H0.out.2.1)).trans H0.out.2.1, (hb1.block _ (blk_lt H0.out.2.2)).trans H0.out.2.2, FS.of hb1⟩
  have HLo : Hid (a < w.heap.size ∧ b < w.heap.size ∧ c < w.heap.size ∧ d < w.heap.size ∧ e < w.heap.size) := ⟨HP.out.2.1.ba.lt, HP.out.2.1.bb.lt, HP.out.2.1.bc.lt, HP.out.2.1.bd.lt, HP.out.2.1.be.lt⟩
  clear hb1 hb01 HS
  obtain ⟨i0, i1, i2, i3, i4, i5⟩ := cells6 H1.out.2.1
  obtain ⟨j0, j1, j2, j3, j4, j5⟩ := cells6 H1.out.2.2.1
  go_wp2_with fail
  refine (keptI_any (S := [c]) p.ts c tto tc w1 H1.out.1.bc (HP.out.1.below H1.out.1.bel).ts HP.out.2.2.1 (List.mem_singleton.2 rfl)).mono ?_
  rintro r w2 ⟨rfl, hf2⟩
  have H2 : Hid (Bk w2 a Ta (gC p) 0 ∧ Bk w2 b Tb (wC p) 0 ∧ Bk w2 d Td (mC p.on) 0 ∧ Bk w2 e 54 (kC p 9) 0 ∧ Below w0.heap.size w0 w2 ∧ w2.heap[w.heap.size]? = some (.cells #[.slice (some ⟨a, 0, none⟩) p.gh.length (p.gh.length + 3), .slice (some ⟨b, 0, none⟩) p.vs.length (p.vs.length + 3), .slice (some ⟨c, 0, none⟩) p.ts.length (p.ts.length + 5), .slice (some ⟨d, 0, none⟩) p.on.length (p.on.length + 5), .int .i64 p.miss, .slice (some ⟨e, 0, none⟩) p.cd.length (p.cd.length + 9)] 27 (0, 0)) ∧ w2.heap[w.heap.size + 1]? = some (.cells #[.slice qo p.gh.length qc, .slice vo p.vs.length vc, .slice tto p.ts.length tc, .slice oo p.on.length oc, .int .i64 p.miss, .slice co p.cd.length cc] 27 (0, 0)) ∧ FS [a, b, c, d, e] W0 w2) := by
    have hn := H1.out.1.ne
    have hl := HLo.out
    have k1 : ∀ k, k < w1.heap.size → k ≠ c → w2.heap[k]? = w1.heap[k]? := fun k hk hn9 => hf2.block k hk (by simpa using hn9)
    refine ⟨H1.out.1.ba.same (k1 _ H1.out.1.ba.lt (by omega)), H1.out.1.bb.same (k1 _ H1.out.1.bb.lt (by omega)), H1.out.1.bd.same (k1 _ H1.out.1.bd.lt (by omega)), H1.out.1.be.same (k1 _ H1.out.1.be.lt (by omega)), hf2.bel H1.out.1.bel (fun k hk => by rw [List.mem_singleton] at hk; rw [hk]; exact H1.out.1.ge.2.2.1), (k1 _ (blk_lt H1.out.2.1) (by omega)).trans H1.out.2.1, (k1 _ (blk_lt H1.out.2.2.1) (by omega)).trans H1.out.2.2.1, H1.out.2.2.2.trans (hf2.sub (fun k hk => by rw [List.mem_singleton] at hk; rw [hk]; simp))⟩
  clear hf2 i0 i1 i2 i3 i4 i5 j0 j1 j2 j3 j4 j5
  obtain ⟨i0, i1, i2, i3, i4, i5⟩ := cells6 H2.out.2.2.2.2.2.1
  obtain ⟨j0, j1, j2, j3, j4, j5⟩ := cells6 H2.out.2.2.2.2.2.2.1
  go_wp2_with fail
  refine (keptI_any (S := [d]) p.on d oo oc w2 H2.out.2.2.1 (HP.out.1.below H2.out.2.2.2.2.1).on HP.out.2.2.2 (List.mem_singleton.2 rfl)).mono ?_
  rintro r w3 ⟨rfl, hf3⟩
  have H3 : Hid (Bk w3 a Ta (gC p) 0 ∧ Bk w3 b Tb (wC p) 0 ∧ Bk w3 e 54 (kC p 9) 0 ∧ w3.heap[w.heap.size]? = some (.cells #[.slice (some ⟨a, 0, none⟩) p.gh.length (p.gh.length + 3), .slice (some ⟨b, 0, none⟩) p.vs.length (p.vs.length + 3), .slice (some ⟨c, 0, none⟩) p.ts.length (p.ts.length + 5), .slice (some ⟨d, 0, none⟩) p.on.length (p.on.length + 5), .int .i64 p.miss, .slice (some ⟨e, 0, none⟩) p.cd.length (p.cd.length + 9)] 27 (0, 0)) ∧ w3.heap[w.heap.size + 1]? = some (.cells #[.slice qo p.gh.length qc, .slice vo p.vs.length vc, .slice tto p.ts.length tc, .slice oo p.on.length oc, .int .i64 p.miss, .slice co p.cd.length cc] 27 (0, 0)) ∧ FS [a, b, c, d, e] W0 w3) := by
    have hn := H1.out.1.ne
    have hl := HLo.out
    have k1 : ∀ k, k < w2.heap.size → k ≠ d → w3.heap[k]? = w2.heap[k]? := fun k hk hn9 => hf3.block k hk (by simpa using hn9)
    refine ⟨H2.out.1.same (k1 _ H2.out.1.lt (by omega)), H2.out.2.1.same (k1 _ H2.out.2.1.lt (by omega)), H2.out.2.2.2.1.same (k1 _ H2.out.2.2.2.1.lt (by omega)), (k1 _ (blk_lt H2.out.2.2.2.2.2.1) (by omega)).trans H2.out.2.2.2.2.2.1, (k1 _ (blk_lt H2.out.2.2.2.2.2.2.1) (by omega)).trans H2.out.2.2.2.2.2.2.1, H2.out.2.2.2.2.2.2.2.trans (hf3.sub (fun k hk => by rw [List.mem_singleton] at hk; rw [hk]; simp))⟩
  have HNe : Hid (a ≠ b ∧ a ≠ c ∧ a ≠ d ∧ a ≠ e ∧ b ≠ c ∧ b ≠ d ∧ b ≠ e ∧ c ≠ d ∧ c ≠ e ∧ d ≠ e) := H1.out.1.ne
  clear hf3 H1 H2 i0 i1 i2 i3 i4 i5 j0 j1 j2 j3 j4 j5
  obtain ⟨i0, i1, i2, i3, i4, i5⟩ := cells6 H3.out.2.2.2.1
  obtain ⟨j0, j1, j2, j3, j4, j5⟩ := cells6 H3.out.2.2.2.2.1
  have hla : (p.gh.length : Int) ≤ (p.gh.length : Int) + 3 := by omega
  go_wp2_with fail
  clear i0 i1 i2 i3 i4 i5 j0 j1 j2 j3 j4 j5
  go_loopg [5, 7] (p.gh.length + 3) (fun gq s x wr => ∃ (k : Nat) (ys : List Value), k ≤ p.gh.length + 3 ∧ gq = p.gh.length + 3 - k ∧ x = .int .i64 (k : Int) ∧ s = .bool true ∧ ys.length = p.gh.length + 3 ∧ (∀ j, k ≤ j → ys[j]? = (gC p)[j]?) ∧ Bk wr a Ta ys 0 ∧ Bk wr b Tb (wC p) 0 ∧ Bk wr e 54 (kC p 9) 0 ∧ wr.heap[w.heap.size]? = some (.cells #[.slice (some ⟨a, 0, none⟩) p.gh.length (p.gh.length + 3), .slice (some ⟨b, 0, none⟩) p.vs.length (p.vs.length + 3), .slice (some ⟨c, 0, none⟩) p.ts.length (p.ts.length + 5), .slice (some ⟨d, 0, none⟩) p.on.length (p.on.length + 5), .int .i64 p.miss, .slice (some ⟨e, 0, none⟩) p.cd.length (p.cd.length + 9)] 27 (0, 0)) ∧ wr.heap[w.heap.size + 1]? = some (.cells #[.slice qo p.gh.length qc, .slice vo p.vs.length vc, .slice tto p.ts.length tc, .slice oo p.on.length oc, .int .i64 p.miss, .slice co p.cd.length cc] 27 (0, 0)) ∧ FS [a, b, c, d, e] W0 wr)
  case atStart => exact ⟨0, gC p, Nat.zero_le _, rfl, rfl, rfl, gC_len p, fun _ _ => rfl, H3.out.1, H3.out.2.1, H3.out.2.2.1, H3.out.2.2.2.1, H3.out.2.2.2.2.1, H3.out.2.2.2.2.2⟩
  case round =>
    obtain ⟨k, ys, hk9, hgk, rfl, rfl, hyl, hya, hba, hbb, hbe, hx1, hx2, hfs⟩ := hrel
    have HG : Hid (gk = p.gh.length + 3 - k ∧ Bk wr b Tb (wC p) 0 ∧ Bk wr e 54 (kC p 9) 0 ∧ wr.heap[w.heap.size]? = some (.cells #[.slice (some ⟨a, 0, none⟩) p.gh.length (p.gh.length + 3), .slice (some ⟨b, 0, none⟩) p.vs.length (p.vs.length + 3), .slice (some ⟨c, 0, none⟩) p.ts.length (p.ts.length + 5), .slice (some ⟨d, 0, none⟩) p.on.length (p.on.length + 5), .int .i64 p.miss, .slice (some ⟨e, 0, none⟩) p.cd.length (p.cd.length + 9)] 27 (0, 0)) ∧ wr.heap[w.heap.size + 1]? = some (.cells #[.slice qo p.gh.length qc, .slice vo p.vs.length vc, .slice tto p.ts.length tc, .slice oo p.on.length oc, .int .i64 p.miss, .slice co p.cd.length cc] 27 (0, 0)) ∧ FS [a, b, c, d, e] W0 wr) := ⟨hgk, hbb, hbe, hx1, hx2, hfs⟩
    obtain ⟨j0, -, -, -, -, -⟩ := cells6 hx2
    by_cases hlt : k < p.gh.length + 3
    · have hlt' : (k : Int) < (p.gh.length : Int) + 3 := by omega
      have HLt : Hid (k < p.gh.length + 3) := hlt
      obtain ⟨y, hy1, hy2⟩ := gC_at hlt
      have c0 := hba.at_ ((hya k (Nat.le_refl _)).trans hy1)
      have fz := hba.frozen k
      have HN : Hid (∀ z : Bool, Bk (wr.setCell ⟨a, k, none⟩ (.bool z)) a Ta (ys.set k (.bool z)) 0 ∧ (ys.set k (.bool z)).length = p.gh.length + 3 ∧ (∀ j, k + 1 ≤ j → (ys.set k (.bool z))[j]? = (gC p)[j]?) ∧ Bk (wr.setCell ⟨a, k, none⟩ (.bool z)) b Tb (wC p) 0 ∧ Bk (wr.setCell ⟨a, k, none⟩ (.bool z)) e 54 (kC p 9) 0 ∧ (wr.setCell ⟨a, k, none⟩ (.bool z)).heap[w.heap.size]? = some (.cells #[.slice (some ⟨a, 0, none⟩) p.gh.length (p.gh.length + 3), .slice (some ⟨b, 0, none⟩) p.vs.length (p.vs.length + 3), .slice (some ⟨c, 0, none⟩) p.ts.length (p.ts.length + 5), .slice (some ⟨d, 0, none⟩) p.on.length (p.on.length + 5), .int .i64 p.miss, .slice (some ⟨e, 0, none⟩) p.cd.length (p.cd.length + 9)] 27 (0, 0)) ∧ (wr.setCell ⟨a, k, none⟩ (.bool z)).heap[w.heap.size + 1]? = some (.cells #[.slice qo p.gh.length qc, .slice vo p.vs.length vc, .slice tto p.ts.length tc, .slice oo p.on.length oc, .int .i64 p.miss, .slice co p.cd.length cc] 27 (0, 0)) ∧ FS [a, b, c, d, e] W0 (wr.setCell ⟨a, k, none⟩ (.bool z))) := fun z => by
        have hn := HNe.out
        have hl := HLo.out
        exact ⟨hba.setIn k _, by rw [List.length_set]; exact hyl, fun j hj => by rw [List.getElem?_set_ne (by omega)]; exact hya j (by omega), hbb.other (by omega) _ _, hbe.other (by omega) _ _, (Below.heap_setCell _ _ _ _ (by show w.heap.size ≠ a; omega)).trans hx1, (Below.heap_setCell _ _ _ _ (by show w.heap.size + 1 ≠ a; omega)).trans hx2, hfs.trans (FS.set wr (by simp))⟩
      clear hgk hyl hya hba hbb hbe hx1 hx2 hfs hlt hk9
      by_cases hkn : k < p.gh.length
      · have hkn' : (k : Int) < (p.gh.length : Int) := by omega
        clear hy1 hy2
        go_wp2_with fail
        go_roundg (p.gh.length + 3 - (k + 1))
        case measure => have h1 := HG.out.1; have := HLt.out; omega
        case rel => exact ⟨k + 1, _, HLt.out, rfl, by go_num, rfl, (HN.out (!y)).2.1, (HN.out (!y)).2.2.1, (HN.out (!y)).1, (HN.out (!y)).2.2.2.1, (HN.out (!y)).2.2.2.2.1, (HN.out (!y)).2.2.2.2.2.1, (HN.out (!y)).2.2.2.2.2.2.1, (HN.out (!y)).2.2.2.2.2.2.2⟩
      · have hkn' : ¬ (k : Int) < (p.gh.length : Int) := by omega
        obtain rfl : y = false := hy2 (by omega)
        clear hy1 hy2
        go_wp2_with fail
        go_roundg (p.gh.length + 3 - (k + 1))
        case measure => have h1 := HG.out.1; have := HLt.out; omega
        case rel => exact ⟨k + 1, _, HLt.out, rfl, by go_num, rfl, (HN.out true).2.1, (HN.out true).2.2.1, (HN.out true).1, (HN.out true).2.2.2.1, (HN.out true).2.2.2.2.1, (HN.out true).2.2.2.2.2.1, (HN.out true).2.2.2.2.2.2.1, (HN.out true).2.2.2.2.2.2.2⟩
    · have hlt' : ¬ (k : Int) < (p.gh.length : Int) + 3 := by omega
      clear hgk hyl hya hba hbb hbe hfs hlt hk9 H3
      obtain ⟨i0, i1, i2, i3, i4, i5⟩ := cells6 hx1
      clear j0
      obtain ⟨j0, j1, j2, j3, j4, j5⟩ := cells6 hx2
      obtain ⟨s0, s1, s2, s3, s4, s5⟩ := wC_at p
      have c0 := HG.out.2.1.at_ s0
      have c1 := HG.out.2.1.at_ s1
      have c2 := HG.out.2.1.at_ s2
      have c3 := HG.out.2.1.at_ s3
      have c4 := HG.out.2.1.at_ s4
      have c5 := HG.out.2.1.at_ s5
      have hlb : (p.vs.length : Int) ≤ (p.vs.length : Int) + 3 := by omega
      have hlb1 : (p.vs.length : Int) < (p.vs.length : Int) + 3 := by omega
      have hlb2 : (p.vs.length : Int) + 1 < (p.vs.length : Int) + 3 := by omega
      have hz1 : (0 : Int) ≤ (p.vs.length : Int) + 1 := by omega
      have ht1 : ((p.vs.length : Int) + 1).toNat = p.vs.length + 1 := by omega
      clear hx1 hx2 s0 s1 s2 s3 s4 s5
      go_wp2_with fail
      clear c0 c1 c2 c3 c4 c5 i0 i1 i2 i3 i4 i5 j0 j1 j2 j3 j4 j5
      go_loopg [9] (p.vs.length + 3) (fun gq x wr => ∃ (k : Nat) (ys : List Value), k ≤ p.vs.length + 3 ∧ gq = p.vs.length + 3 - k ∧ x = .int .i64 (k : Int) ∧ ys.length = (p.vs.length + 3) * 3 ∧ Bk wr b Tb ys 0 ∧ Bk wr e 54 (kC p 9) 0 ∧ wr.heap[w.heap.size]? = some (.cells #[.slice (some ⟨a, 0, none⟩) p.gh.length (p.gh.length + 3), .slice (some ⟨b, 0, none⟩) p.vs.length (p.vs.length + 3), .slice (some ⟨c, 0, none⟩) p.ts.length (p.ts.length + 5), .slice (some ⟨d, 0, none⟩) p.on.length (p.on.length + 5), .int .i64 p.miss, .slice (some ⟨e, 0, none⟩) p.cd.length (p.cd.length + 9)] 27 (0, 0)) ∧ wr.heap[w.heap.size + 1]? = some (.cells #[.slice qo p.gh.length qc, .slice vo p.vs.length vc, .slice tto p.ts.length tc, .slice oo p.on.length oc, .int .i64 p.miss, .slice co p.cd.length cc] 27 (0, 0)) ∧ FS [a, b, c, d, e] W0 wr)
      case atStart => exact ⟨0, wC p, Nat.zero_le _, rfl, rfl, wC_len p, HG.out.2.1, HG.out.2.2.1, HG.out.2.2.2.1, HG.out.2.2.2.2.1, HG.out.2.2.2.2.2⟩
      case round =>
        obtain ⟨q, ys, hq9, hgq, rfl, hyl, hbb, hbe, hx1, hx2, hfs⟩ := hrel
        have HQ : Hid (gk = p.vs.length + 3 - q ∧ Bk wr e 54 (kC p 9) 0 ∧ wr.heap[w.heap.size]? = some (.cells #[.slice (some ⟨a, 0, none⟩) p.gh.length (p.gh.length + 3), .slice (some ⟨b, 0, none⟩) p.vs.length (p.vs.length + 3), .slice (some ⟨c, 0, none⟩) p.ts.length (p.ts.length + 5), .slice (some ⟨d, 0, none⟩) p.on.length (p.on.length + 5), .int .i64 p.miss, .slice (some ⟨e, 0, none⟩) p.cd.length (p.cd.length + 9)] 27 (0, 0)) ∧ wr.heap[w.heap.size + 1]? = some (.cells #[.slice qo p.gh.length qc, .slice vo p.vs.length vc, .slice tto p.ts.length tc, .slice oo p.on.length oc, .int .i64 p.miss, .slice co p.cd.length cc] 27 (0, 0)) ∧ FS [a, b, c, d, e] W0 wr) := ⟨hgq, hbe, hx1, hx2, hfs⟩
        by_cases hlt : q < p.vs.length + 3
        · have hlt2 : (q : Int) < (p.vs.length : Int) + 3 := by omega
          have HLt : Hid (q < p.vs.length + 3) := hlt
          obtain ⟨v0, c0⟩ := hbb.cell (j := q * 3) (by omega)
          obtain ⟨v1, c1⟩ := hbb.cell (j := q * 3 + 1) (by omega)
          obtain ⟨v2, c2⟩ := hbb.cell (j := q * 3 + 2) (by omega)
          have fz := hbb.frozen
          have HN : Hid (Bk (((wr.setCell ⟨b, q * 3, none⟩ (.int .i64 9)).setCell ⟨b, q * 3 + 1, none⟩ (.int .i64 9)).setCell ⟨b, q * 3 + 2, none⟩ (.int .i64 9)) b Tb (((ys.set (q * 3) (.int .i64 9)).set (q * 3 + 1) (.int .i64 9)).set (q * 3 + 2) (.int .i64 9)) 0 ∧ (((ys.set (q * 3) (.int .i64 9)).set (q * 3 + 1) (.int .i64 9)).set (q * 3 + 2) (.int .i64 9)).length = (p.vs.length + 3) * 3 ∧ Bk (((wr.setCell ⟨b, q * 3, none⟩ (.int .i64 9)).setCell ⟨b, q * 3 + 1, none⟩ (.int .i64 9)).setCell ⟨b, q * 3 + 2, none⟩ (.int .i64 9)) e 54 (kC p 9) 0 ∧ (((wr.setCell ⟨b, q * 3, none⟩ (.int .i64 9)).setCell ⟨b, q * 3 + 1, none⟩ (.int .i64 9)).setCell ⟨b, q * 3 + 2, none⟩ (.int .i64 9)).heap[w.heap.size]? = some (.cells #[.slice (some ⟨a, 0, none⟩) p.gh.length (p.gh.length + 3), .slice (some ⟨b, 0, none⟩) p.vs.length (p.vs.length + 3), .slice (some ⟨c, 0, none⟩) p.ts.length (p.ts.length + 5), .slice (some ⟨d, 0, none⟩) p.on.length (p.on.length + 5), .int .i64 p.miss, .slice (some ⟨e, 0, none⟩) p.cd.length (p.cd.length + 9)] 27 (0, 0)) ∧ (((wr.setCell ⟨b, q * 3, none⟩ (.int .i64 9)).setCell ⟨b, q * 3 + 1, none⟩ (.int .i64 9)).setCell ⟨b, q * 3 + 2, none⟩ (.int .i64 9)).heap[w.heap.size + 1]? = some (.cells #[.slice qo p.gh.length qc, .slice vo p.vs.length vc, .slice tto p.ts.length tc, .slice oo p.on.length oc, .int .i64 p.miss, .slice co p.cd.length cc] 27 (0, 0)) ∧ FS [a, b, c, d, e] W0 (((wr.setCell ⟨b, q * 3, none⟩ (.int .i64 9)).setCell ⟨b, q * 3 + 1, none⟩ (.int .i64 9)).setCell ⟨b, q * 3 + 2, none⟩ (.int .i64 9))) := by
            have hn := HNe.out
            have hl := HLo.out
            exact ⟨((hbb.setIn _ _).setIn _ _).setIn _ _, by rw [List.length_set, List.length_set, List.length_set]; exact hyl, ((hbe.other (by omega) _ _).other (by omega) _ _).other (by omega) _ _, (Below.heap_setCell _ _ _ _ (by show w.heap.size ≠ b; omega)).trans ((Below.heap_setCell _ _ _ _ (by show w.heap.size ≠ b; omega)).trans ((Below.heap_setCell _ _ _ _ (by show w.heap.size ≠ b; omega)).trans hx1)), (Below.heap_setCell _ _ _ _ (by show w.heap.size + 1 ≠ b; omega)).trans ((Below.heap_setCell _ _ _ _ (by show w.heap.size + 1 ≠ b; omega)).trans ((Below.heap_setCell _ _ _ _ (by show w.heap.size + 1 ≠ b; omega)).trans hx2)), ((hfs.trans (FS.set wr (by simp))).trans (FS.set _ (by simp))).trans (FS.set _ (by simp))⟩
          clear hgq hyl hbb hbe hx1 hx2 hfs hlt hq9
          go_wp2_with fail
          go_roundg (p.vs.length + 3 - (q + 1))
          case measure => have h1 := HQ.out.1; have := HLt.out; omega
          case rel => exact ⟨q + 1, _, HLt.out, rfl, by go_num, HN.out.2.1, HN.out.1, HN.out.2.2.1, HN.out.2.2.2.1, HN.out.2.2.2.2.1, HN.out.2.2.2.2.2⟩
        · have hlt2 : ¬ (q : Int) < (p.vs.length : Int) + 3 := by omega
          clear hgq hyl hbb hbe hfs hlt hq9 HG
          obtain ⟨i0, i1, i2, i3, i4, i5⟩ := cells6 hx1
          obtain ⟨j0, j1, j2, j3, j4, j5⟩ := cells6 hx2
          have hlc : (p.cd.length : Int) ≤ (p.cd.length : Int) + 9 := by omega
          clear hx1 hx2
          go_wp2_with fail
          clear i0 i1 i2 i3 i4 i5 j0 j1 j2 j3 j4 j5
          go_loopg [5, 11] (p.cd.length + 9) (fun gq s x wr => ∃ (k : Nat) (ys : List Value), k ≤ p.cd.length + 9 ∧ gq = p.cd.length + 9 - k ∧ x = .int .i64 (k : Int) ∧ s = .bool true ∧ ys.length = (p.cd.length + 9) * 5 ∧ (∀ j, k * 5 ≤ j → ys[j]? = (kC p 9)[j]?) ∧ Bk wr e 54 ys 0 ∧ wr.heap[w.heap.size]? = some (.cells #[.slice (some ⟨a, 0, none⟩) p.gh.length (p.gh.length + 3), .slice (some ⟨b, 0, none⟩) p.vs.length (p.vs.length + 3), .slice (some ⟨c, 0, none⟩) p.ts.length (p.ts.length + 5), .slice (some ⟨d, 0, none⟩) p.on.length (p.on.length + 5), .int .i64 p.miss, .slice (some ⟨e, 0, none⟩) p.cd.length (p.cd.length + 9)] 27 (0, 0)) ∧ wr.heap[w.heap.size + 1]? = some (.cells #[.slice qo p.gh.length qc, .slice vo p.vs.length vc, .slice tto p.ts.length tc, .slice oo p.on.length oc, .int .i64 p.miss, .slice co p.cd.length cc] 27 (0, 0)) ∧ FS [a, b, c, d, e] W0 wr)
          case atStart => exact ⟨0, kC p 9, Nat.zero_le _, rfl, rfl, rfl, kC_len p 9, fun _ _ => rfl, HQ.out.2.1, HQ.out.2.2.1, HQ.out.2.2.2.1, HQ.out.2.2.2.2⟩
          case round =>
            obtain ⟨m, ys, hm9, hgm, rfl, rfl, hyl, hya, hbe, hx1, hx2, hfs⟩ := hrel
            have HM : Hid (gk = p.cd.length + 9 - m ∧ wr.heap[w.heap.size]? = some (.cells #[.slice (some ⟨a, 0, none⟩) p.gh.length (p.gh.length + 3), .slice (some ⟨b, 0, none⟩) p.vs.length (p.vs.length + 3), .slice (some ⟨c, 0, none⟩) p.ts.length (p.ts.length + 5), .slice (some ⟨d, 0, none⟩) p.on.length (p.on.length + 5), .int .i64 p.miss, .slice (some ⟨e, 0, none⟩) p.cd.length (p.cd.length + 9)] 27 (0, 0)) ∧ wr.heap[w.heap.size + 1]? = some (.cells #[.slice qo p.gh.length qc, .slice vo p.vs.length vc, .slice tto p.ts.length tc, .slice oo p.on.length oc, .int .i64 p.miss, .slice co p.cd.length cc] 27 (0, 0)) ∧ FS [a, b, c, d, e] W0 wr) := ⟨hgm, hx1, hx2, hfs⟩
            obtain ⟨-, -, -, -, -, j5⟩ := cells6 hx2
            by_cases hlt : m < p.cd.length + 9
            · have hlt3 : (m : Int) < (p.cd.length : Int) + 9 := by omega
              have HLt : Hid (m < p.cd.length + 9) := hlt
              have fz := hbe.frozen
              have HN : Hid (Bk (((((wr.setCell ⟨e, m * 5, none⟩ (.int .i64 0)).setCell ⟨e, m * 5 + 1, none⟩ (.int .i64 0)).setCell ⟨e, m * 5 + 2, none⟩ (.int .i64 0)).setCell ⟨e, m * 5 + 3, none⟩ (.int .i64 0)).setCell ⟨e, m * 5 + 4, none⟩ (.int .i64 0)) e 54 (((((ys.set (m * 5) (.int .i64 0)).set (m * 5 + 1) (.int .i64 0)).set (m * 5 + 2) (.int .i64 0)).set (m * 5 + 3) (.int .i64 0)).set (m * 5 + 4) (.int .i64 0)) 0 ∧ (((((ys.set (m * 5) (.int .i64 0)).set (m * 5 + 1) (.int .i64 0)).set (m * 5 + 2) (.int .i64 0)).set (m * 5 + 3) (.int .i64 0)).set (m * 5 + 4) (.int .i64 0)).length = (p.cd.length + 9) * 5 ∧ (∀ j, (m + 1) * 5 ≤ j → (((((ys.set (m * 5) (.int .i64 0)).set (m * 5 + 1) (.int .i64 0)).set (m * 5 + 2) (.int .i64 0)).set (m * 5 + 3) (.int .i64 0)).set (m * 5 + 4) (.int .i64 0))[j]? = (kC p 9)[j]?) ∧ (((((wr.setCell ⟨e, m * 5, none⟩ (.int .i64 0)).setCell ⟨e, m * 5 + 1, none⟩ (.int .i64 0)).setCell ⟨e, m * 5 + 2, none⟩ (.int .i64 0)).setCell ⟨e, m * 5 + 3, none⟩ (.int .i64 0)).setCell ⟨e, m * 5 + 4, none⟩ (.int .i64 0)).heap[w.heap.size]? = some (.cells #[.slice (some ⟨a, 0, none⟩) p.gh.length (p.gh.length + 3), .slice (some ⟨b, 0, none⟩) p.vs.length (p.vs.length + 3), .slice (some ⟨c, 0, none⟩) p.ts.length (p.ts.length + 5), .slice (some ⟨d, 0, none⟩) p.on.length (p.on.length + 5), .int .i64 p.miss, .slice (some ⟨e, 0, none⟩) p.cd.length (p.cd.length + 9)] 27 (0, 0)) ∧ (((((wr.setCell ⟨e, m * 5, none⟩ (.int .i64 0)).setCell ⟨e, m * 5 + 1, none⟩ (.int .i64 0)).setCell ⟨e, m * 5 + 2, none⟩ (.int .i64 0)).setCell ⟨e, m * 5 + 3, none⟩ (.int .i64 0)).setCell ⟨e, m * 5 + 4, none⟩ (.int .i64 0)).heap[w.heap.size + 1]? = some (.cells #[.slice qo p.gh.length qc, .slice vo p.vs.length vc, .slice tto p.ts.length tc, .slice oo p.on.length oc, .int .i64 p.miss, .slice co p.cd.length cc] 27 (0, 0)) ∧ FS [a, b, c, d, e] W0 (((((wr.setCell ⟨e, m * 5, none⟩ (.int .i64 0)).setCell ⟨e, m * 5 + 1, none⟩ (.int .i64 0)).setCell ⟨e, m * 5 + 2, none⟩ (.int .i64 0)).setCell ⟨e, m * 5 + 3, none⟩ (.int .i64 0)).setCell ⟨e, m * 5 + 4, none⟩ (.int .i64 0))) := by
                have hn := HNe.out
                have hl := HLo.out
                refine ⟨((((hbe.setIn _ _).setIn _ _).setIn _ _).setIn _ _).setIn _ _, by simp only [List.length_set]; exact hyl, fun j hj => ?_, (Below.heap_setCell _ _ _ _ (by show w.heap.size ≠ e; omega)).trans ((Below.heap_setCell _ _ _ _ (by show w.heap.size ≠ e; omega)).trans ((Below.heap_setCell _ _ _ _ (by show w.heap.size ≠ e; omega)).trans ((Below.heap_setCell _ _ _ _ (by show w.heap.size ≠ e; omega)).trans ((Below.heap_setCell _ _ _ _ (by show w.heap.size ≠ e; omega)).trans hx1)))), (Below.heap_setCell _ _ _ _ (by show w.heap.size + 1 ≠ e; omega)).trans ((Below.heap_setCell _ _ _ _ (by show w.heap.size + 1 ≠ e; omega)).trans ((Below.heap_setCell _ _ _ _ (by show w.heap.size + 1 ≠ e; omega)).trans ((Below.heap_setCell _ _ _ _ (by show w.heap.size + 1 ≠ e; omega)).trans ((Below.heap_setCell _ _ _ _ (by show w.heap.size + 1 ≠ e; omega)).trans hx2)))), ((((hfs.trans (FS.set wr (by simp))).trans (FS.set _ (by simp))).trans (FS.set _ (by simp))).trans (FS.set _ (by simp))).trans (FS.set _ (by simp))⟩
                rw [List.getElem?_set_ne (by omega), List.getElem?_set_ne (by omega), List.getElem?_set_ne (by omega), List.getElem?_set_ne (by omega), List.getElem?_set_ne (by omega)]
                exact hya j (by omega)
              by_cases hmn : m < p.cd.length
              · have hmn' : (m : Int) < (p.cd.length : Int) := by omega
                obtain ⟨v0, c0⟩ := hbe.cell (j := m * 5) (by omega)
                obtain ⟨v1, c1⟩ := hbe.cell (j := m * 5 + 1) (by omega)
                obtain ⟨v2, c2⟩ := hbe.cell (j := m * 5 + 2) (by omega)
                obtain ⟨v3, c3⟩ := hbe.cell (j := m * 5 + 3) (by omega)
                obtain ⟨v4, c4⟩ := hbe.cell (j := m * 5 + 4) (by omega)
                clear hgm hyl hya hbe hx1 hx2 hfs hlt hm9 hmn
                go_wp2_with fail
                go_roundg (p.cd.length + 9 - (m + 1))
                case measure => have h1 := HM.out.1; have := HLt.out; omega
                case rel => exact ⟨m + 1, _, HLt.out, rfl, by go_num, rfl, HN.out.2.1, HN.out.2.2.1, HN.out.1, HN.out.2.2.2.1, HN.out.2.2.2.2.1, HN.out.2.2.2.2.2⟩
              · have hmn' : ¬ (m : Int) < (p.cd.length : Int) := by omega
                obtain ⟨k0, k1, k2, k3, k4⟩ := kC_at (p := p) (j := m) (by omega) hlt
                have c0 := hbe.at_ ((hya _ (by omega)).trans k0)
                have c1 := hbe.at_ ((hya _ (by omega)).trans k1)
                have c2 := hbe.at_ ((hya _ (by omega)).trans k2)
                have c3 := hbe.at_ ((hya _ (by omega)).trans k3)
                have c4 := hbe.at_ ((hya _ (by omega)).trans k4)
                clear hgm hyl hya hbe hx1 hx2 hfs hlt hm9 hmn k0 k1 k2 k3 k4
                go_wp2_with fail
                go_roundg (p.cd.length + 9 - (m + 1))
                case measure => have h1 := HM.out.1; have := HLt.out; omega
                case rel => exact ⟨m + 1, _, HLt.out, rfl, by go_num, by first | rfl | simp, HN.out.2.1, HN.out.2.2.1, HN.out.1, HN.out.2.2.2.1, HN.out.2.2.2.2.1, HN.out.2.2.2.2.2⟩
            · have hlt3 : ¬ (m : Int) < (p.cd.length : Int) + 9 := by omega
              have HF : Hid (FS [a, b, c, d, e] w wr) := (FS.of H0.out.1).trans hfs
              clear hgm hyl hya hbe hx1 hx2 hfs hlt hm9
              go_wp2_with fail
              go_ret
              exact ⟨rfl, HF.out⟩
end Go.Proofs.YtelbakkgobkdaaaDoor.Vf

namespace Go.Proofs.YtelbakkgobkdaaaDoor.Vf
open Go.RowKit Go.Proofs.YtelbakkgobkdaaaDoor.Nm
/-- a program that is not handed in apart -/
def farB (p : Pg) : Bool := decide (100 < p.gh.length) || (decide (100 < p.vs.length) || (decide (100 < p.ts.length) || (decide (100 < p.on.length) || decide (524288 < p.cd.length))))
theorem farB_not {p : Pg} (h : farB p = false) : p.gh.length ≤ 100 ∧ p.vs.length ≤ 100 ∧ p.ts.length ≤ 100 ∧ p.on.length ≤ 100 ∧ p.cd.length ≤ 524288 := by
  unfold farB at h
  simp only [Bool.or_eq_false_iff, decide_eq_false_iff_not] at h
  omega
set_option maxHeartbeats 3200000 in
set_option maxRecDepth 100000 in
/-- Far -/
theorem far_any (v : PV) (p : Pg) (w : World) : Calls Tryd.prog 6 #[.agg (pvC v p)] w fun e w' => e = .returned (.bool (farB p)) ∧ Below w.heap.size w w' := by
  obtain ⟨qo, qc, vo, vc, tto, tc, oo, oc, co, cc⟩ := v
  show Calls _ _ #[.agg #[.slice qo p.gh.length qc, .slice vo p.vs.length vc, .slice tto p.ts.length tc, .slice oo p.on.length oc, .int .i64 p.miss, .slice co p.cd.length cc]] _ _
  have hb : Below w.heap.size w (w.alloc (.cells #[.slice qo p.gh.length qc, .slice vo p.vs.length vc, .slice tto p.ts.length tc, .slice oo p.on.length oc, .int .i64 p.miss, .slice co p.cd.length cc] 27)) := (Below.refl _ w).alloc (Nat.le_refl _) _
  have HB : Hid (Below w.heap.size w (w.alloc (.cells #[.slice qo p.gh.length qc, .slice vo p.vs.length vc, .slice tto p.ts.length tc, .slice oo p.on.length oc, .int .i64 p.miss, .slice co p.cd.length cc] 27)) ∧ (w.alloc (.cells #[.slice qo p.gh.length qc, .slice vo p.vs.length vc, .slice tto p.ts.length tc, .slice oo p.on.length oc, .int .i64 p.miss, .slice co p.cd.length cc] 27)).heap[w.heap.size]? = some (.cells #[.slice qo p.gh.length qc, .slice vo p.vs.length vc, .slice tto p.ts.length tc, .slice oo p.on.length oc, .int .i64 p.miss, .slice co p.cd.length cc] 27 (0, 0))) := ⟨hb, heap_alloc_new _ _⟩
  clear hb
  obtain ⟨R, hR⟩ : ∃ R, R = farB p := ⟨_, rfl⟩
  rw [← hR]
  have HR : Hid (R = farB p) := hR
  clear hR
  go_enter Tryd.func6, Tryd.ntmps6
  go_upto_region 1 with fail
  generalize w.alloc (.cells #[.slice qo p.gh.length qc, .slice vo p.vs.length vc, .slice tto p.ts.length tc, .slice oo p.on.length oc, .int .i64 p.miss, .slice co p.cd.length cc] 27) = W0 at *
  obtain ⟨i0, i1, i2, i3, i4, i5⟩ := cells6 HB.out.2
  by_cases h1 : 100 < p.gh.length
  · have k1 : (100 : Int) < (p.gh.length : Int) := by omega
    have e : R = true := by rw [HR.out]; unfold farB; simp [h1]
    subst e
    clear h1
    go_wp2_with fail
    go_ret
    exact ⟨rfl, HB.out.1⟩
  · have k1 : decide ((100 : Int) < (p.gh.length : Int)) = false := by rw [decide_eq_false_iff_not]; omega
    by_cases h2 : 100 < p.vs.length
    · have k2 : (100 : Int) < (p.vs.length : Int) := by omega
      have e : R = true := by rw [HR.out]; unfold farB; simp [h2]
      subst e
      clear h2
      go_wp2_with fail
      go_ret
      exact ⟨rfl, HB.out.1⟩
    · have k2 : decide ((100 : Int) < (p.vs.length : Int)) = false := by rw [decide_eq_false_iff_not]; omega
      by_cases h3 : 100 < p.ts.length
      · have k3 : (100 : Int) < (p.ts.length : Int) := by omega
        have e : R = true := by rw [HR.out]; unfold farB; simp [h3]
        subst e
        clear h3
        go_wp2_with fail
        go_ret
        exact ⟨rfl, HB.out.1⟩
      · have k3 : decide ((100 : Int) < (p.ts.length : Int)) = false := by rw [decide_eq_false_iff_not]; omega
        by_cases h4 : 100 < p.on.length
        · have k4 : (100 : Int) < (p.on.length : Int) := by omega
          have e : R = true := by rw [HR.out]; unfold farB; simp [h4]
          subst e
          clear h4
          go_wp2_with fail
          go_ret
          exact ⟨rfl, HB.out.1⟩
        · have k4 : decide ((100 : Int) < (p.on.length : Int)) = false := by rw [decide_eq_false_iff_not]; omega
          by_cases h5 : 524288 < p.cd.length
          · have k5 : (524288 : Int) < (p.cd.length : Int) := by omega
            have e : R = true := by rw [HR.out]; unfold farB; simp [h5]
            subst e
            clear h5
            go_wp2_with fail
            go_ret
            exact ⟨rfl, HB.out.1⟩
          · have k5 : decide ((524288 : Int) < (p.cd.length : Int)) = false := by rw [decide_eq_false_iff_not]; omega
            have e : R = false := by rw [HR.out]; unfold farB; simp [h1, h2, h3, h4, h5]
            subst e
            clear h5
            go_wp2_with fail
            go_ret
            exact ⟨rfl, HB.out.1⟩
end Go.Proofs.YtelbakkgobkdaaaDoor.Vf

namespace Go.Proofs.YtelbakkgobkdaaaDoor.Vf
open Go.ChangeShapes Go.WideShapes Go.ChangeAt Go.RowKit Go.Deep

theorem flatN {α : Type} (sz : Nat) (f : α → List Value) (hf : ∀ x, (f x).length = sz) : ∀ (l : List α) (k i : Nat) (h : k < l.length), i < sz → (l.flatMap f)[k * sz + i]? = (f l[k])[i]?
  | [], _, _, h, _ => absurd h (by simp)
  | x :: l, 0, i, _, hi => by
    rw [List.flatMap_cons, List.getElem?_append_left (by rw [hf]; omega)]
    simp
  | x :: l, k + 1, i, h, hi => by
    rw [List.flatMap_cons, List.getElem?_append_right (by rw [hf, Nat.add_mul]; omega), hf, show (k + 1) * sz + i - sz = k * sz + i by rw [Nat.add_mul]; omega, flatN sz f hf l k i (by simpa using h) hi]
    rfl
theorem flat_len {α : Type} (sz : Nat) (f : α → List Value) (hf : ∀ x, (f x).length = sz) (l : List α) : (l.flatMap f).length = l.length * sz := by
  induction l with
  | nil => simp
  | cons x l ih => rw [List.flatMap_cons, List.length_append, hf, ih, List.length_cons, Nat.add_mul]; omega
section
variable {H : Type} {enc : TypeId × Value → H} {W : World}
/-- a slice in a cell -/
theorem slice_shape {t e : TypeId} {n : Nat} {a : Value} {y : DataW H × List MemPlace} (ht : Tryd.prog.underlying t = some (.slice e)) (h : DataW.trod enc Tryd.prog W 0 (fun _ => true) true n t [a] = some y) :
    ∃ ao len cap, a = .slice ao len cap ∧ DataW.Trod enc Tryd.prog W 0 (fun _ => true) true t (.slice ao len cap) y.1 y.2 := by
  rcases open_slice ht h with ⟨hcs, _⟩ | ⟨x, l, c, m, k, D, Pl, hcs, _⟩
  · cases hcs
    exact ⟨none, 0, 0, rfl, n, by simpa [Value.cells] using h⟩
  · cases hcs
    exact ⟨some x, l, c, rfl, n, by simpa [Value.cells] using h⟩
/-- a slice of elements of several cells, each read as C says -/
theorem open_rowsV {α : Type} [Inhabited α] {t e : TypeId} {sz : Nat} (C : α → List Value) (hC : ∀ x, (C x).length = sz) (hs : 0 < sz) (ht : Tryd.prog.underlying t = some (.slice e)) (hce : Tryd.prog.cellsOf e = sz)
    (hone : ∀ (n : Nat) (cs : List Value) (y : DataW H × List MemPlace), DataW.trod enc Tryd.prog W 0 (fun _ => true) true n e cs = some y → ∃ x, cs = C x)
    {a : Option Addr} {len cap : Nat} {d : DataW H} {p : List MemPlace} (h : DataW.Trod enc Tryd.prog W 0 (fun _ => true) true t (.slice a len cap) d p) :
    ∃ l : List α, len = l.length ∧ Rd W a (l.flatMap C) ∧ l.length ≤ maxLen := by
  obtain ⟨fuel, hf⟩ := h
  rcases open_slice ht hf with ⟨hcs, _⟩ | ⟨x, l, c, m, n, D, Pl, hcs, _, hl, hm, hmm, hx, hcell⟩
  · simp [Value.cells] at hcs
    obtain ⟨rfl, rfl, rfl⟩ := hcs
    exact ⟨[], rfl, fun k x hx => by simp at hx, Nat.zero_le _⟩
  · simp [Value.cells] at hcs
    obtain ⟨rfl, rfl, rfl⟩ := hcs
    simp only [if_true] at hmm
    subst hmm
    have each : ∀ i, i < len → ∃ r : α, W.cells? 0 (x.add (i * sz)) sz = some (C r) := by
      intro i hi
      obtain ⟨cs', h1, h2⟩ := hcell i (by omega)
      obtain ⟨r, rfl⟩ := hone _ _ _ h2
      rw [hce] at h1
      exact ⟨r, h1⟩
    obtain ⟨q, hq⟩ := choose_lt each
    refine ⟨(List.range len).map q, by simp, fun k v hv => ?_, by simp; omega⟩
    have hk : k < (((List.range len).map q).flatMap C).length := (List.getElem?_eq_some_iff.1 hv).1
    rw [flat_len sz C hC, List.length_map, List.length_range] at hk
    have hki : k / sz < len := Nat.div_lt_of_lt_mul (by rwa [Nat.mul_comm] at hk)
    have hkr : k % sz < sz := Nat.mod_lt _ hs
    have hpos : 0 < len := Nat.lt_of_le_of_lt (Nat.zero_le _) hki
    have hke : k / sz * sz + k % sz = k := by rw [Nat.mul_comm]; exact Nat.div_add_mod k sz
    rw [← hke, flatN sz C hC _ (k / sz) (k % sz) (by simpa using hki) hkr] at hv
    simp only [List.getElem_map, List.getElem_range] at hv
    obtain ⟨_, hlen, hc⟩ := World.cells?_some (hq _ hki)
    obtain ⟨b, off, spot⟩ := x
    have hspot : spot = none := by
      obtain ⟨_, _, gc⟩ := World.cells?_some (hq 0 hpos)
      have g0 := gc 0 (by omega)
      have hz : (C (q 0))[0]? = some ((C (q 0))[0]'(by rw [hC]; exact hs)) := List.getElem?_eq_getElem _
      rw [hz] at g0
      simp [Addr.add] at g0
      simpa [Addr.add] using World.cell?_spot g0
    subst hspot
    have e0 := hc (k % sz) hkr
    rw [add_add, Lib.addr_add, hv] at e0
    refine ⟨b, off, rfl, World.block_lt_of_cell? W _ e0, ?_⟩
    rw [hke] at e0
    exact e0
/-- what can be read of a program that is handed in -/
structure RdPg (W : World) (v : PV) (p : Pg) : Prop where
  gh : Rd W v.qo (bC p.gh)
  vs : Rd W v.vo (vC p.vs)
  ts : Rd W v.to (iC p.ts)
  on : Rd W v.oo (iC p.on)
  cd : Rd W v.co (cC p.cd)
theorem RdPg.is {v : PV} {p : Pg} (h : RdPg W v p) (l1 : p.gh.length ≤ 100) (l2 : p.vs.length ≤ 100) (l3 : p.ts.length ≤ 100) (l4 : p.on.length ≤ 100) (l5 : p.cd.length ≤ 524288) : IsPg W v p :=
  ⟨h.gh, h.vs, h.ts, h.on, h.cd, by omega, by omega, by omega, by omega, by omega⟩
theorem cellsPg : Tryd.prog.cellsOf 27 = 6 := by kernel_rfl
theorem cellsBs : Tryd.prog.cellsOf 22 = 1 := by kernel_rfl
theorem cellsVs : Tryd.prog.cellsOf 23 = 1 := by kernel_rfl
theorem cellsIs : Tryd.prog.cellsOf 24 = 1 := by kernel_rfl
theorem cellsCs : Tryd.prog.cellsOf 25 = 1 := by kernel_rfl
theorem cellsBo : Tryd.prog.cellsOf 4 = 1 := by kernel_rfl
theorem cellsVa : Tryd.prog.cellsOf 56 = 3 := by kernel_rfl
theorem cellsIn : Tryd.prog.cellsOf 54 = 5 := by kernel_rfl
theorem six {α : Type} {l : List α} (h : l.length = 6) : ∃ a b c d e f, l = [a, b, c, d, e, f] := by
  match l, h with
  | [a, b, c, d, e, f], _ => exact ⟨a, b, c, d, e, f, rfl⟩
theorem five {α : Type} {l : List α} (h : l.length = 5) : ∃ a b c d e, l = [a, b, c, d, e] := by
  match l, h with
  | [a, b, c, d, e], _ => exact ⟨a, b, c, d, e, rfl⟩
theorem three {α : Type} {l : List α} (h : l.length = 3) : ∃ a b c, l = [a, b, c] := by
  match l, h with
  | [a, b, c], _ => exact ⟨a, b, c, rfl⟩
theorem one_bool (n : Nat) (cs : List Value) (y : DataW H × List MemPlace) (h : DataW.trod enc Tryd.prog W 0 (fun _ => true) true n 4 cs = some y) : ∃ b : Bool, cs = [.bool b] := by
  obtain ⟨b, e, _⟩ := DataW.trod_bool Tryd.underlying4 h
  exact ⟨b, e⟩
theorem one_var (n : Nat) (cs : List Value) (y : DataW H × List MemPlace) (h : DataW.trod enc Tryd.prog W 0 (fun _ => true) true n 56 cs = some y) : ∃ x : Int × Int × Int, cs = [.int .i64 x.1, .int .i64 x.2.1, .int .i64 x.2.2] := by
  obtain ⟨xs, k, hk, hxy, hl, hxl, hf⟩ := DataW.trod_struct Tryd.underlying56 h
  rw [cellsVa] at hl
  obtain ⟨v0, v1, v2, rfl⟩ := three hl
  have hxl3 : xs.length = 3 := hxl
  obtain ⟨y0, y1, y2, rfl⟩ := three hxl3
  have g0 := hf 0 _ rfl
  have g1 := hf 1 _ rfl
  have g2 := hf 2 _ rfl
  simp [cellsInt] at g0 g1 g2
  obtain ⟨a0, e0, -, -⟩ := DataW.trod_int Tryd.underlying3 g0
  obtain ⟨a1, e1, -, -⟩ := DataW.trod_int Tryd.underlying3 g1
  obtain ⟨a2, e2, -, -⟩ := DataW.trod_int Tryd.underlying3 g2
  simp only [List.cons.injEq, and_true] at e0 e1 e2
  subst e0 e1 e2
  exact ⟨(a0, a1, a2), rfl⟩
theorem one_ins (n : Nat) (cs : List Value) (y : DataW H × List MemPlace) (h : DataW.trod enc Tryd.prog W 0 (fun _ => true) true n 54 cs = some y) : ∃ x : Ins, cs = [.int .i64 x.op, .int .i64 x.a, .int .i64 x.b, .int .i64 x.c, .int .i64 x.d] := by
  obtain ⟨xs, k, hk, hxy, hl, hxl, hf⟩ := DataW.trod_struct Tryd.underlying54 h
  rw [cellsIn] at hl
  obtain ⟨v0, v1, v2, v3, v4, rfl⟩ := five hl
  have hxl5 : xs.length = 5 := hxl
  obtain ⟨y0, y1, y2, y3, y4, rfl⟩ := five hxl5
  have g0 := hf 0 _ rfl
  have g1 := hf 1 _ rfl
  have g2 := hf 2 _ rfl
  have g3 := hf 3 _ rfl
  have g4 := hf 4 _ rfl
  simp [cellsInt] at g0 g1 g2 g3 g4
  obtain ⟨a0, e0, -, -⟩ := DataW.trod_int Tryd.underlying3 g0
  obtain ⟨a1, e1, -, -⟩ := DataW.trod_int Tryd.underlying3 g1
  obtain ⟨a2, e2, -, -⟩ := DataW.trod_int Tryd.underlying3 g2
  obtain ⟨a3, e3, -, -⟩ := DataW.trod_int Tryd.underlying3 g3
  obtain ⟨a4, e4, -, -⟩ := DataW.trod_int Tryd.underlying3 g4
  simp only [List.cons.injEq, and_true] at e0 e1 e2 e3 e4
  subst e0 e1 e2 e3 e4
  exact ⟨⟨a0, a1, a2, a3, a4⟩, rfl⟩
set_option maxRecDepth 100000 in
/-- a program that is handed in -/
theorem open_prog {base : Nat} {v : Value} {d : DataW H} {pl : List MemPlace} (hv : Value.okWide Tryd.prog W .any base 27 v) (h : DataW.Trod enc Tryd.prog W 0 (fun _ => true) true 27 v d pl) :
    ∃ (w : PV) (p : Pg), v = .agg (pvC w p) ∧ RdPg W w p := by
  obtain ⟨cs, rfl, hcs⟩ := okWide_struct Tryd.underlying27 hv
  obtain ⟨fuel, hf⟩ := h
  obtain ⟨xs, n, _, hxy, hl, hxl, hfs⟩ := DataW.trod_struct Tryd.underlying27 hf
  have hc : (Value.agg cs).cells = cs := rfl
  rw [hc] at hl hfs
  rw [cellsPg] at hl
  have hxl6 : xs.length = 6 := hxl
  obtain ⟨y0, y1, y2, y3, y4, y5, rfl⟩ := six hxl6
  obtain ⟨a0, a1, a2, a3, a4, a5, hcl⟩ := six hl
  rw [hcl] at hfs
  have g0 := hfs 0 _ rfl
  have g1 := hfs 1 _ rfl
  have g2 := hfs 2 _ rfl
  have g3 := hfs 3 _ rfl
  have g4 := hfs 4 _ rfl
  have g5 := hfs 5 _ rfl
  simp [cellsBs, cellsVs, cellsIs, cellsCs, cellsInt] at g0 g1 g2 g3 g4 g5
  obtain ⟨qo, n0, qc, rfl, t0⟩ := slice_shape Tryd.underlying22 g0
  obtain ⟨vo, n1, vc, rfl, t1⟩ := slice_shape Tryd.underlying23 g1
  obtain ⟨tto, n2, tc, rfl, t2⟩ := slice_shape Tryd.underlying24 g2
  obtain ⟨oo, n3, oc, rfl, t3⟩ := slice_shape Tryd.underlying24 g3
  obtain ⟨ms, e4, -, -⟩ := DataW.trod_int Tryd.underlying3 g4
  obtain ⟨co, n5, cc, rfl, t5⟩ := slice_shape Tryd.underlying25 g5
  haveI : Inhabited Ins := ⟨Ins.zero⟩
  obtain ⟨l0, rfl, r0, -⟩ := open_rowsV (fun b : Bool => [.bool b]) (fun _ => rfl) (by decide) Tryd.underlying22 cellsBo one_bool t0
  obtain ⟨l1, rfl, r1, -⟩ := open_rowsV (fun x : Int × Int × Int => [.int .i64 x.1, .int .i64 x.2.1, .int .i64 x.2.2]) (fun _ => rfl) (by decide) Tryd.underlying23 cellsVa one_var t1
  obtain ⟨l2, rfl, r2, -, -⟩ := open_intsV t2
  obtain ⟨l3, rfl, r3, -, -⟩ := open_intsV t3
  obtain ⟨l5, rfl, r5, -⟩ := open_rowsV (fun x : Ins => [.int .i64 x.op, .int .i64 x.a, .int .i64 x.b, .int .i64 x.c, .int .i64 x.d]) (fun _ => rfl) (by decide) Tryd.underlying25 cellsIn one_ins t5
  simp only [List.cons.injEq, and_true] at e4
  subst e4
  refine ⟨⟨qo, qc, vo, vc, tto, tc, oo, oc, co, cc⟩, ⟨l0, l1, l2, l3, ms, l5⟩, ?_, ⟨?_, r1, r2, r3, r5⟩⟩
  · have ha : cs = #[.slice qo l0.length qc, .slice vo l1.length vc, .slice tto l2.length tc, .slice oo l3.length oc, .int .i64 ms, .slice co l5.length cc] := by
      apply Array.toList_inj.1
      exact hcl
    rw [ha]
  · have e : bC l0 = l0.flatMap fun b : Bool => [.bool b] := List.map_eq_flatMap
    show Rd W qo (bC l0)
    rw [e]
    exact r0
end
end Go.Proofs.YtelbakkgobkdaaaDoor.Vf

namespace Go.Proofs.YtelbakkgobkdaaaDoor.Vf
open Go.RowKit Go.Proofs.YtelbakkgobkdaaaDoor.Nm
set_option maxHeartbeats 3200000 in
/-- the reference's to -/
theorem rto_any (n a b : Int) (w : World) : Calls Tryd.prog 73 #[.int .i64 n, .int .i64 a, .int .i64 b] w fun e w' => e = .returned (.bool (decide (a ≤ n) && decide (n ≤ b))) ∧ w' = w := by
  by_cases h1 : a ≤ n
  · rw [decide_eq_true h1]
    by_cases h2 : n ≤ b
    · rw [decide_eq_true h2]
      go_enter Tryd.func73, Tryd.ntmps73
      go_wp2_with fail
      go_ret
      exact ⟨rfl, rfl⟩
    · rw [decide_eq_false h2]
      go_enter Tryd.func73, Tryd.ntmps73
      go_wp2_with fail
      go_ret
      exact ⟨rfl, rfl⟩
  · rw [decide_eq_false h1]
    go_enter Tryd.func73, Tryd.ntmps73
    go_wp2_with fail
    go_ret
    exact ⟨rfl, rfl⟩
set_option maxHeartbeats 3200000 in
set_option maxRecDepth 100000 in
/-- the reference's Tags -/
theorem rtags_any (o : Option Addr) (c : Nat) (l : List Int) (w : World) (hR : Rd w o (iC l)) (hl : l.length ≤ 1000000000000000) : Calls Tryd.prog 47 #[.slice o l.length c] w fun e w' => e = .returned (.bool (l.all tagF)) ∧ w' = w := by
  have HR : Hid (Rd w o (iC l)) := hR
  have HT : Hid (∀ n W, Calls Tryd.prog 73 #[.int .i64 n, .int .i64 1, .int .i64 255] W fun e w' => e = .returned (.bool (tagF n)) ∧ w' = W) := fun n W => rto_any n 1 255 W
  have n3 : (l.length : Int) ≤ 1000000000000000 := by omega
  clear hR hl
  go_enter Tryd.func47, Tryd.ntmps47
  go_wp2_with fail
  go_loopg [3] l.length (fun gq x wr => ∃ j : Nat, j ≤ l.length ∧ gq = l.length - j ∧ x = .int .i64 (j : Int) ∧ (l.take j).all tagF = true ∧ wr = w)
  case atStart => exact ⟨0, Nat.zero_le _, rfl, rfl, rfl, rfl⟩
  case round =>
    obtain ⟨j, hj, hgk, rfl, ha, rfl⟩ := hrel
    have HG2 : Hid (gk = l.length - j ∧ (l.take j).all tagF = true) := ⟨hgk, ha⟩
    clear hgk ha
    by_cases hlt : j < l.length
    · have hlt' : (j : Int) < (l.length : Int) := by omega
      obtain ⟨g, f, hvo, hg, d0⟩ := rd_int HR.out hlt
      obtain rfl : o = some ⟨g, f, none⟩ := hvo
      have HLt : Hid (j < l.length) := hlt
      have HV : Hid (tagF l[j] = true → (l.take (j + 1)).all tagF = true) := fun hv => all_take hlt HG2.out.2 hv
      have HV2 : Hid (tagF l[j] = false → l.all tagF = false) := fun hv => all_not hlt hv
      generalize l[j] = y0 at *
      clear hlt hg
      go_wp2_with fail
      refine (HT.out y0 _).mono ?_
      rintro e w1 ⟨rfl, rfl⟩
      cases hv : tagF y0
      · go_wp2_with fail
        go_ret
        exact ⟨by rw [HV2.out hv]; rfl, rfl⟩
      · go_wp2_with fail
        go_roundg (l.length - (j + 1))
        case measure => have h1 := HG2.out.1; have := HLt.out; omega
        case rel => exact ⟨j + 1, HLt.out, rfl, by go_num, HV.out hv, rfl⟩
    · have hlt' : ¬ (j : Int) < (l.length : Int) := by omega
      obtain rfl : j = l.length := by omega
      have HA : Hid (l.all tagF = true) := by have := HG2.out.2; rwa [List.take_length] at this
      go_wp2_with fail
      go_ret
      exact ⟨by rw [HA.out]; rfl, rfl⟩
set_option maxHeartbeats 6400000 in
set_option maxRecDepth 100000 in
/-- the reference's Vars -/
theorem rvars_any (o : Option Addr) (c : Nat) (l : List (Int × Int × Int)) (w : World) (hR : Rd w o (vC l)) (hl : l.length ≤ 1000000000000000) : Calls Tryd.prog 46 #[.slice o l.length c] w fun e w' => e = .returned (.bool (l.all varF)) ∧ Below w.heap.size w w' := by
  have HR : Hid (Rd w o (vC l)) := hR
  have n3 : (l.length : Int) ≤ 1000000000000000 := by omega
  clear hR hl
  go_enter Tryd.func46, Tryd.ntmps46
  go_wp2_with fail
  go_loopg [3] l.length (fun gq x wr => ∃ j : Nat, j ≤ l.length ∧ gq = l.length - j ∧ x = .int .i64 (j : Int) ∧ (l.take j).all varF = true ∧ Below w.heap.size w wr)
  case atStart => exact ⟨0, Nat.zero_le _, rfl, rfl, rfl, Below.refl _ w⟩
  case round =>
    obtain ⟨j, hj, hgk, rfl, ha, hb⟩ := hrel
    have HG2 : Hid (gk = l.length - j ∧ (l.take j).all varF = true ∧ Below w.heap.size w wr) := ⟨hgk, ha, hb⟩
    have HD : Hid (∀ n, Below w.heap.size w (wr.drewN n)) := fun n => hb.trans ((drN _ n).mono hb.size)
    clear hgk ha hb
    by_cases hlt : j < l.length
    · have hlt' : (j : Int) < (l.length : Int) := by omega
      obtain ⟨g, f, hvo, hg, d0, d1, d2⟩ := rd_var (HR.out.below HG2.out.2.2) hlt
      obtain rfl : o = some ⟨g, f, none⟩ := hvo
      have HLt : Hid (j < l.length) := hlt
      by_cases hv : varF l[j] = true
      · have HV : Hid ((l.take (j + 1)).all varF = true) := all_take hlt HG2.out.2.1 hv
        unfold varF at hv
        simp only [Bool.and_eq_true, decide_eq_true_eq] at hv
        obtain ⟨v1, v2, v3, v4⟩ := hv
        generalize l[j].1 = y0 at *
        generalize l[j].2.1 = y1 at *
        generalize l[j].2.2 = y2 at *
        have k1 : decide (y0 < y1) = false := decide_eq_false (by omega)
        have k2 : decide (y2 < y0) = false := decide_eq_false (by omega)
        have k3 : decide (y1 < -1073741824) = false := decide_eq_false (by omega)
        have k4 : decide (1073741824 < y2) = false := decide_eq_false (by omega)
        clear hlt hg v1 v2 v3 v4
        go_wp2_with fail
        go_quiet (fail)
        go_wp2_with fail
        go_roundg (l.length - (j + 1))
        case measure => have h1 := HG2.out.1; have := HLt.out; omega
        case rel => exact ⟨j + 1, HLt.out, rfl, by go_num, HV.out, HD.out _⟩
      · have hr : (l.all varF) = false := all_not hlt (Bool.eq_false_iff.2 hv)
        have HV : Hid _ := hr
        unfold varF at hv
        simp only [Bool.and_eq_true, decide_eq_true_eq] at hv
        generalize l[j].1 = y0 at *
        generalize l[j].2.1 = y1 at *
        generalize l[j].2.2 = y2 at *
        have hw : (decide (y0 < y1) = true) ∨ (decide (y0 < y1) = false ∧ decide (y2 < y0) = true) ∨ (decide (y0 < y1) = false ∧ decide (y2 < y0) = false ∧ decide (y1 < -1073741824) = true) ∨ (decide (y0 < y1) = false ∧ decide (y2 < y0) = false ∧ decide (y1 < -1073741824) = false ∧ decide (1073741824 < y2) = true) := by
          simp only [decide_eq_true_eq, decide_eq_false_iff_not]
          omega
        clear hlt hg hv hr
        rcases hw with k1 | ⟨k1, k2⟩ | ⟨k1, k2, k3⟩ | ⟨k1, k2, k3, k4⟩
        all_goals
          go_wp2_with fail
          go_quiet (fail)
          go_wp2_with fail
          go_ret
          exact ⟨by rw [HV.out]; rfl, HD.out _⟩
    · have hlt' : ¬ (j : Int) < (l.length : Int) := by omega
      obtain rfl : j = l.length := by omega
      have HA : Hid (l.all varF = true) := by have := HG2.out.2.1; rwa [List.take_length] at this
      go_wp2_with fail
      go_ret
      exact ⟨by rw [HA.out]; rfl, HG2.out.2.2⟩
end Go.Proofs.YtelbakkgobkdaaaDoor.Vf

namespace Go.Proofs.YtelbakkgobkdaaaDoor.Vf
open Go.RowKit Go.Proofs.YtelbakkgobkdaaaDoor.Nm
set_option maxHeartbeats 3200000 in
set_option maxRecDepth 100000 in
/-- the reference's Operands -/
theorem ropers_any (x : Ins) (w : World) : Calls Tryd.prog 49 #[.agg #[.int .i64 x.op, .int .i64 x.a, .int .i64 x.b, .int .i64 x.c, .int .i64 x.d]] w fun e w' => e = .returned (.agg #[.int .i64 x.a, .int .i64 x.b, .int .i64 x.c, .int .i64 x.d]) ∧ Below w.heap.size w w' := by
  obtain ⟨xo, xa, xb, xc, xd⟩ := x
  have hb : Below w.heap.size w ((w.alloc (.cells #[.int .i64 xo, .int .i64 xa, .int .i64 xb, .int .i64 xc, .int .i64 xd] 54)).alloc (.cells #[.int .i64 xa, .int .i64 xb, .int .i64 xc, .int .i64 xd] 110)) := ((Below.refl _ w).alloc (Nat.le_refl _) _).alloc (by simp) _
  have HB : Hid (Below w.heap.size w ((w.alloc (.cells #[.int .i64 xo, .int .i64 xa, .int .i64 xb, .int .i64 xc, .int .i64 xd] 54)).alloc (.cells #[.int .i64 xa, .int .i64 xb, .int .i64 xc, .int .i64 xd] 110))) := hb
  clear hb
  go_enter Tryd.func49, Tryd.ntmps49
  go_wp2_with fail
  refine bodyPost_ret (v := .agg #[.int .i64 xa, .int .i64 xb, .int .i64 xc, .int .i64 xd]) (by simp [results, Tryd.results49, go_sem]) rfl ?_
  exact ⟨rfl, HB.out⟩
set_option maxHeartbeats 12800000 in
set_option maxRecDepth 100000 in
/-- the reference's fits -/
theorem rfitsK (v : PV) (p : Pg) (k : Nat) (hk : k < 9) (n : Int) (w : World) (l1 : p.gh.length ≤ 1000000000000000) (l2 : p.vs.length ≤ 1000000000000000) (l3 : p.ts.length ≤ 1000000000000000) (l4 : p.cd.length ≤ 1000000000000000) : Calls Tryd.prog 50 #[.agg (pvC v p), .int .i64 (k : Int), .int .i64 n] w fun e w' => e = .returned (.bool (inK p (k : Int) n)) ∧ Below w.heap.size w w' := by
  obtain ⟨qo, qc, vo, vc, tto, tc, oo, oc, co, cc⟩ := v
  show Calls _ _ #[.agg #[.slice qo p.gh.length qc, .slice vo p.vs.length vc, .slice tto p.ts.length tc, .slice oo p.on.length oc, .int .i64 p.miss, .slice co p.cd.length cc], _, _] _ _
  have HB : Hid (Below w.heap.size w (w.alloc (.cells #[.slice qo p.gh.length qc, .slice vo p.vs.length vc, .slice tto p.ts.length tc, .slice oo p.on.length oc, .int .i64 p.miss, .slice co p.cd.length cc] 27))) := (Below.refl _ w).alloc (Nat.le_refl _) _
  have n1 : (p.gh.length : Int) ≤ 1000000000000000 := by omega
  have n2 : (p.vs.length : Int) ≤ 1000000000000000 := by omega
  have n3 : (p.ts.length : Int) ≤ 1000000000000000 := by omega
  have n4 : (p.cd.length : Int) ≤ 1000000000000000 := by omega
  clear l1 l2 l3 l4
  match k, hk with
  | 0, _ =>
    show Calls _ _ #[_, .int .i64 0, _] _ _
    by_cases h1 : n = 0
    · subst h1
      have hI : inK p ((0 : Nat) : Int) 0 = true := rfl
      rw [hI]
      go_enter Tryd.func50, Tryd.ntmps50
      go_wp2_with fail
      go_ret
      exact ⟨rfl, HB.out⟩
    · have hI : inK p ((0 : Nat) : Int) n = false := by
        show (decide ((0 : Int) ≤ n) && decide (n ≤ 0)) = false
        rw [Bool.eq_false_iff]
        simp only [ne_eq, Bool.and_eq_true, decide_eq_true_eq]
        omega
      rw [hI]
      go_enter Tryd.func50, Tryd.ntmps50
      go_wp2_with fail
      go_ret
      exact ⟨congrArg (fun b => Ending.returned (.bool b)) (by simp [h1] : (n == 0) = false), HB.out⟩
  | 1, _ =>
    have hI : inK p ((1 : Nat) : Int) n = (decide ((0 : Int) ≤ n) && decide (n < (p.gh.length : Int))) := by
      first
        | rfl
        | (show (decide (_ ≤ n) && decide (n ≤ _)) = _
           congr 1
           rw [decide_eq_decide]
           show n ≤ _ - 1 ↔ _
           omega)
    rw [hI]
    clear hI
    show Calls _ _ #[_, .int .i64 1, _] _ _
    by_cases h1 : (0 : Int) ≤ n
    · rw [decide_eq_true h1]
      by_cases h2 : n < (p.gh.length : Int)
      · rw [decide_eq_true h2]
        go_enter Tryd.func50, Tryd.ntmps50
        go_wp2_with fail
        go_ret
        exact ⟨rfl, HB.out⟩
      · rw [decide_eq_false h2]
        go_enter Tryd.func50, Tryd.ntmps50
        go_wp2_with fail
        go_ret
        exact ⟨rfl, HB.out⟩
    · rw [decide_eq_false h1]
      go_enter Tryd.func50, Tryd.ntmps50
      go_wp2_with fail
      go_ret
      exact ⟨rfl, HB.out⟩
  | 2, _ =>
    have hI : inK p ((2 : Nat) : Int) n = (decide ((0 : Int) ≤ n) && decide (n < (p.vs.length : Int))) := by
      first
        | rfl
        | (show (decide (_ ≤ n) && decide (n ≤ _)) = _
           congr 1
           rw [decide_eq_decide]
           show n ≤ _ - 1 ↔ _
           omega)
    rw [hI]
    clear hI
    show Calls _ _ #[_, .int .i64 2, _] _ _
    by_cases h1 : (0 : Int) ≤ n
    · rw [decide_eq_true h1]
      by_cases h2 : n < (p.vs.length : Int)
      · rw [decide_eq_true h2]
        go_enter Tryd.func50, Tryd.ntmps50
        go_wp2_with fail
        go_ret
        exact ⟨rfl, HB.out⟩
      · rw [decide_eq_false h2]
        go_enter Tryd.func50, Tryd.ntmps50
        go_wp2_with fail
        go_ret
        exact ⟨rfl, HB.out⟩
    · rw [decide_eq_false h1]
      go_enter Tryd.func50, Tryd.ntmps50
      go_wp2_with fail
      go_ret
      exact ⟨rfl, HB.out⟩
  | 3, _ =>
    have hI : inK p ((3 : Nat) : Int) n = (decide ((0 : Int) ≤ n) && decide (n < (p.ts.length : Int))) := by
      first
        | rfl
        | (show (decide (_ ≤ n) && decide (n ≤ _)) = _
           congr 1
           rw [decide_eq_decide]
           show n ≤ _ - 1 ↔ _
           omega)
    rw [hI]
    clear hI
    show Calls _ _ #[_, .int .i64 3, _] _ _
    by_cases h1 : (0 : Int) ≤ n
    · rw [decide_eq_true h1]
      by_cases h2 : n < (p.ts.length : Int)
      · rw [decide_eq_true h2]
        go_enter Tryd.func50, Tryd.ntmps50
        go_wp2_with fail
        go_ret
        exact ⟨rfl, HB.out⟩
      · rw [decide_eq_false h2]
        go_enter Tryd.func50, Tryd.ntmps50
        go_wp2_with fail
        go_ret
        exact ⟨rfl, HB.out⟩
    · rw [decide_eq_false h1]
      go_enter Tryd.func50, Tryd.ntmps50
      go_wp2_with fail
      go_ret
      exact ⟨rfl, HB.out⟩
  | 4, _ =>
    show Calls _ _ #[_, .int .i64 4, _] _ _
    by_cases h1 : n = 0
    · subst h1
      have hI : inK p ((4 : Nat) : Int) 0 = true := rfl
      rw [hI]
      go_enter Tryd.func50, Tryd.ntmps50
      go_wp2_with fail
      go_ret
      exact ⟨rfl, HB.out⟩
    · by_cases h2 : n = 1
      · subst h2
        have hI : inK p ((4 : Nat) : Int) 1 = true := rfl
        rw [hI]
        go_enter Tryd.func50, Tryd.ntmps50
        go_wp2_with fail
        go_ret
        exact ⟨rfl, HB.out⟩
      · have hI : inK p ((4 : Nat) : Int) n = false := by
          show (decide ((0 : Int) ≤ n) && decide (n ≤ 1)) = false
          rw [Bool.eq_false_iff]
          simp only [ne_eq, Bool.and_eq_true, decide_eq_true_eq]
          omega
        rw [hI]
        go_enter Tryd.func50, Tryd.ntmps50
        go_wp2_with fail
        go_ret
        exact ⟨congrArg (fun b => Ending.returned (.bool b)) (by simp [h1, h2] : (n == 0 || n == 1) = false), HB.out⟩
  | 5, _ =>
    have hI : inK p ((5 : Nat) : Int) n = (decide ((-1073741824 : Int) ≤ n) && decide (n ≤ (1073741824 : Int))) := by
      first
        | rfl
        | (show (decide (_ ≤ n) && decide (n ≤ _)) = _
           congr 1
           rw [decide_eq_decide]
           show n ≤ _ - 1 ↔ _
           omega)
    rw [hI]
    clear hI
    show Calls _ _ #[_, .int .i64 5, _] _ _
    by_cases h1 : (-1073741824 : Int) ≤ n
    · rw [decide_eq_true h1]
      by_cases h2 : n ≤ (1073741824 : Int)
      · rw [decide_eq_true h2]
        go_enter Tryd.func50, Tryd.ntmps50
        go_wp2_with fail
        go_ret
        exact ⟨rfl, HB.out⟩
      · rw [decide_eq_false h2]
        go_enter Tryd.func50, Tryd.ntmps50
        go_wp2_with fail
        go_ret
        exact ⟨rfl, HB.out⟩
    · rw [decide_eq_false h1]
      go_enter Tryd.func50, Tryd.ntmps50
      go_wp2_with fail
      go_ret
      exact ⟨rfl, HB.out⟩
  | 6, _ =>
    show Calls _ _ #[_, .int .i64 6, _] _ _
    by_cases h1 : n = 0
    · subst h1
      have hI : inK p ((6 : Nat) : Int) 0 = true := rfl
      rw [hI]
      go_enter Tryd.func50, Tryd.ntmps50
      go_wp2_with fail
      go_ret
      exact ⟨rfl, HB.out⟩
    · by_cases h2 : n = 1
      · subst h2
        have hI : inK p ((6 : Nat) : Int) 1 = true := rfl
        rw [hI]
        go_enter Tryd.func50, Tryd.ntmps50
        go_wp2_with fail
        go_ret
        exact ⟨rfl, HB.out⟩
      · have hI : inK p ((6 : Nat) : Int) n = false := by
          show (decide ((0 : Int) ≤ n) && decide (n ≤ 1)) = false
          rw [Bool.eq_false_iff]
          simp only [ne_eq, Bool.and_eq_true, decide_eq_true_eq]
          omega
        rw [hI]
        go_enter Tryd.func50, Tryd.ntmps50
        go_wp2_with fail
        go_ret
        exact ⟨congrArg (fun b => Ending.returned (.bool b)) (by simp [h1, h2] : (n == 0 || n == 1) = false), HB.out⟩
  | 7, _ =>
    have hI : inK p ((7 : Nat) : Int) n = (decide ((0 : Int) ≤ n) && decide (n ≤ (4194304 : Int))) := by
      first
        | rfl
        | (show (decide (_ ≤ n) && decide (n ≤ _)) = _
           congr 1
           rw [decide_eq_decide]
           show n ≤ _ - 1 ↔ _
           omega)
    rw [hI]
    clear hI
    show Calls _ _ #[_, .int .i64 7, _] _ _
    by_cases h1 : (0 : Int) ≤ n
    · rw [decide_eq_true h1]
      by_cases h2 : n ≤ (4194304 : Int)
      · rw [decide_eq_true h2]
        go_enter Tryd.func50, Tryd.ntmps50
        go_wp2_with fail
        go_ret
        exact ⟨rfl, HB.out⟩
      · rw [decide_eq_false h2]
        go_enter Tryd.func50, Tryd.ntmps50
        go_wp2_with fail
        go_ret
        exact ⟨rfl, HB.out⟩
    · rw [decide_eq_false h1]
      go_enter Tryd.func50, Tryd.ntmps50
      go_wp2_with fail
      go_ret
      exact ⟨rfl, HB.out⟩
  | 8, _ =>
    have hI : inK p ((8 : Nat) : Int) n = (decide ((0 : Int) ≤ n) && decide (n < (p.cd.length : Int))) := by
      first
        | rfl
        | (show (decide (_ ≤ n) && decide (n ≤ _)) = _
           congr 1
           rw [decide_eq_decide]
           show n ≤ _ - 1 ↔ _
           omega)
    rw [hI]
    clear hI
    show Calls _ _ #[_, .int .i64 8, _] _ _
    by_cases h1 : (0 : Int) ≤ n
    · rw [decide_eq_true h1]
      by_cases h2 : n < (p.cd.length : Int)
      · rw [decide_eq_true h2]
        go_enter Tryd.func50, Tryd.ntmps50
        go_wp2_with fail
        go_ret
        exact ⟨rfl, HB.out⟩
      · rw [decide_eq_false h2]
        go_enter Tryd.func50, Tryd.ntmps50
        go_wp2_with fail
        go_ret
        exact ⟨rfl, HB.out⟩
    · rw [decide_eq_false h1]
      go_enter Tryd.func50, Tryd.ntmps50
      go_wp2_with fail
      go_ret
      exact ⟨rfl, HB.out⟩
  | _ + 9, h => exact absurd h (by omega)
end Go.Proofs.YtelbakkgobkdaaaDoor.Vf

namespace Go.Proofs.YtelbakkgobkdaaaDoor.Cd
open Go.RowKit

/-- the first k of the numbers, then 0 -/
def pk (l : Nat → Int) (k j : Nat) : Int := if j < k then l j else 0
/-- a row of the reference's table -/
def rowC (nm : ByteArray) (l : Nat → Int) (k : Nat) : Array Value := #[.string nm, .int .i64 (pk l k 0), .int .i64 (pk l k 1), .int .i64 (pk l k 2), .int .i64 (pk l k 3)]
theorem rowC_zero (nm : ByteArray) (l : Nat → Int) : rowC nm l 0 = #[.string nm, .int .i64 0, .int .i64 0, .int .i64 0, .int .i64 0] := rfl
theorem rowC_next (nm : ByteArray) (l : Nat → Int) (k : Nat) (hk : k < 4) : (rowC nm l k).setIfInBounds (1 + k) (.int .i64 (l k)) = rowC nm l (k + 1) := by
  have h : k = 0 ∨ k = 1 ∨ k = 2 ∨ k = 3 := by omega
  rcases h with rfl | rfl | rfl | rfl <;> rfl
set_option maxHeartbeats 6400000 in
set_option maxRecDepth 100000 in
/-- the reference's row -/
theorem crow {w : World} {nm : ByteArray} {so : Option Addr} {n cap : Nat} {l : Nat → Int} (hn : n ≤ 4) (hl : ∀ k, k < n → ∃ g o, so = some ⟨g, o, none⟩ ∧ g < w.heap.size ∧ w.cell? ⟨g, o + k, none⟩ = some (.int .i64 (l k))) :
    Calls Tryd.prog 74 #[.string nm, .slice so n cap] w fun e w' => e = .returned (.agg #[.string nm, .int .i64 (pk l n 0), .int .i64 (pk l n 1), .int .i64 (pk l n 2), .int .i64 (pk l n 3)]) ∧ Below w.heap.size w w' := by
  have HN : Hid (n ≤ 4) := hn
  have HL := show Hid _ from hl
  clear hn hl
  go_enter Tryd.func74, Tryd.ntmps74
  go_wp2_with fail
  have HB : Hid (Below w.heap.size w ((w.alloc (.cells #[.string ⟨#[]⟩, .int .i64 0, .int .i64 0, .int .i64 0, .int .i64 0] 114)).alloc (.cells #[.string nm, .int .i64 0, .int .i64 0, .int .i64 0, .int .i64 0] 114)) ∧ ((w.alloc (.cells #[.string ⟨#[]⟩, .int .i64 0, .int .i64 0, .int .i64 0, .int .i64 0] 114)).alloc (.cells #[.string nm, .int .i64 0, .int .i64 0, .int .i64 0, .int .i64 0] 114)).heap[w.heap.size]? = some (.cells #[.string ⟨#[]⟩, .int .i64 0, .int .i64 0, .int .i64 0, .int .i64 0] 114 (0, 0)) ∧ ((w.alloc (.cells #[.string ⟨#[]⟩, .int .i64 0, .int .i64 0, .int .i64 0, .int .i64 0] 114)).alloc (.cells #[.string nm, .int .i64 0, .int .i64 0, .int .i64 0, .int .i64 0] 114)).heap[w.heap.size + 1]? = some (.cells #[.string nm, .int .i64 0, .int .i64 0, .int .i64 0, .int .i64 0] 114 (0, 0))) := by
    refine ⟨((Below.refl _ w).alloc (Nat.le_refl _) _).alloc (by simp) _, ?_, ?_⟩
    · rw [Below.heap_alloc _ _ _ (by simp)]
      exact heap_alloc_new w _
    · have := heap_alloc_new (w.alloc (.cells #[.string ⟨#[]⟩, .int .i64 0, .int .i64 0, .int .i64 0, .int .i64 0] 114)) (.cells #[.string nm, .int .i64 0, .int .i64 0, .int .i64 0, .int .i64 0] 114)
      simpa using this
  generalize ((w.alloc (.cells #[.string ⟨#[]⟩, .int .i64 0, .int .i64 0, .int .i64 0, .int .i64 0] 114)).alloc (.cells #[.string nm, .int .i64 0, .int .i64 0, .int .i64 0, .int .i64 0] 114)) = w2 at *
  go_loopg [6] n (fun gq c wr => ∃ k : Nat, k ≤ n ∧ gq = n - k ∧ c = .int .i64 (k : Int) ∧ Below w.heap.size w wr ∧ wr.heap[w.heap.size]? = some (.cells #[.string ⟨#[]⟩, .int .i64 0, .int .i64 0, .int .i64 0, .int .i64 0] 114 (0, 0)) ∧ wr.heap[w.heap.size + 1]? = some (.cells (rowC nm l k) 114 (0, 0)))
  case atStart => exact ⟨0, Nat.zero_le _, rfl, rfl, HB.out.1, HB.out.2.1, HB.out.2.2⟩
  case round =>
    obtain ⟨k, hk, hgk, rfl, hb, h0, h1⟩ := hrel
    have HG : Hid (gk = n - k ∧ Below w.heap.size w wr ∧ wr.heap[w.heap.size]? = some (.cells #[.string ⟨#[]⟩, .int .i64 0, .int .i64 0, .int .i64 0, .int .i64 0] 114 (0, 0)) ∧ wr.heap[w.heap.size + 1]? = some (.cells (rowC nm l k) 114 (0, 0))) := ⟨hgk, hb, h0, h1⟩
    clear hgk hb h0 h1 HB
    have c0 : ∀ j, wr.cell? ⟨w.heap.size + 1, j, none⟩ = (rowC nm l k)[j]? := fun j => by simp only [World.cell?, HG.out.2.2.2]; rfl
    have f1 : ∀ j, wr.frozen? ⟨w.heap.size + 1, j, none⟩ = false := fun j => frozen_of_row wr _ j _ _ HG.out.2.2.2
    have f0 : ∀ j, wr.frozen? ⟨w.heap.size, j, none⟩ = false := fun j => frozen_of_row wr _ j _ _ HG.out.2.2.1
    by_cases hkn : k < n
    · have hkn' : (k : Int) < (n : Int) := by omega
      have hk4 : k < 4 := by have := HN.out; omega
      have hk4' : (k : Int) < 4 := by omega
      obtain ⟨g, o, rfl, hg, hc⟩ := HL.out k hkn
      have hc' : wr.cell? ⟨g, o + k, none⟩ = some (.int .i64 (l k)) := (HG.out.2.1.cell (p := ⟨g, o + k, none⟩) hg).trans hc
      have cz : ∃ x, wr.cell? ⟨w.heap.size + 1, 1 + k, none⟩ = some x := by
        rw [c0]
        have h : k = 0 ∨ k = 1 ∨ k = 2 ∨ k = 3 := by omega
        rcases h with rfl | rfl | rfl | rfl <;> exact ⟨_, rfl⟩
      obtain ⟨x, cz⟩ := cz
      have fz := f1 (1 + k)
      clear c0 f1 f0 hg hc
      go_wp2_with fail
      go_roundg (n - (k + 1))
      case measure => have := HG.out.1; omega
      case rel =>
        have e := heap_setCell_same wr (w.heap.size + 1) (1 + k) _ _ (.int .i64 (l k)) HG.out.2.2.2
        rw [rowC_next nm l k hk4] at e
        exact ⟨k + 1, by omega, rfl, by go_num, HG.out.2.1.setCell (p := ⟨w.heap.size + 1, 1 + k, none⟩) (by simp) _, (heap_setCell_other wr ⟨w.heap.size + 1, 1 + k, none⟩ w.heap.size _ (by simp)).trans HG.out.2.2.1, e⟩
    · have hkn' : ¬ (k : Int) < (n : Int) := by omega
      obtain rfl : k = n := by omega
      have e0 := c0 0
      have e1 := c0 1
      have e2 := c0 2
      have e3 := c0 3
      have e4 := c0 4
      simp only [rowC, List.getElem?_toArray, List.getElem?_cons_zero, List.getElem?_cons_succ] at e0 e1 e2 e3 e4
      have zc : ∀ j, wr.cell? ⟨w.heap.size, j, none⟩ = (#[Value.string ⟨#[]⟩, .int .i64 0, .int .i64 0, .int .i64 0, .int .i64 0] : Array Value)[j]? := fun j => by simp only [World.cell?, HG.out.2.2.1]; rfl
      have z0 := zc 0
      have z1 := zc 1
      have z2 := zc 2
      have z3 := zc 3
      have z4 := zc 4
      simp only [List.getElem?_toArray, List.getElem?_cons_zero, List.getElem?_cons_succ] at z0 z1 z2 z3 z4
      clear c0 f1 zc
      go_wp2_with fail
      have q : (((((wr.setCell ⟨w.heap.size, 0, none⟩ (.string nm)).setCell ⟨w.heap.size, 1, none⟩ (.int .i64 (pk l k 0))).setCell ⟨w.heap.size, 2, none⟩ (.int .i64 (pk l k 1))).setCell ⟨w.heap.size, 3, none⟩ (.int .i64 (pk l k 2))).setCell ⟨w.heap.size, 4, none⟩ (.int .i64 (pk l k 3))).heap[w.heap.size]? = some (.cells (rowC nm l k) 114 (0, 0)) := heap_setCell_same _ _ 4 _ _ _ (heap_setCell_same _ _ 3 _ _ _ (heap_setCell_same _ _ 2 _ _ _ (heap_setCell_same _ _ 1 _ _ _ (heap_setCell_same wr _ 0 _ _ _ HG.out.2.2.1))))
      have bq : Below w.heap.size w (((((wr.setCell ⟨w.heap.size, 0, none⟩ (.string nm)).setCell ⟨w.heap.size, 1, none⟩ (.int .i64 (pk l k 0))).setCell ⟨w.heap.size, 2, none⟩ (.int .i64 (pk l k 1))).setCell ⟨w.heap.size, 3, none⟩ (.int .i64 (pk l k 2))).setCell ⟨w.heap.size, 4, none⟩ (.int .i64 (pk l k 3))) := ((((HG.out.2.1.setCell (p := ⟨w.heap.size, 0, none⟩) (Nat.le_refl _) _).setCell (p := ⟨w.heap.size, 1, none⟩) (Nat.le_refl _) _).setCell (p := ⟨w.heap.size, 2, none⟩) (Nat.le_refl _) _).setCell (p := ⟨w.heap.size, 3, none⟩) (Nat.le_refl _) _).setCell (p := ⟨w.heap.size, 4, none⟩) (Nat.le_refl _) _
      clear e0 e1 e2 e3 e4 z0 z1 z2 z3 z4 f0
      generalize (((((wr.setCell ⟨w.heap.size, 0, none⟩ (.string nm)).setCell ⟨w.heap.size, 1, none⟩ (.int .i64 (pk l k 0))).setCell ⟨w.heap.size, 2, none⟩ (.int .i64 (pk l k 1))).setCell ⟨w.heap.size, 3, none⟩ (.int .i64 (pk l k 2))).setCell ⟨w.heap.size, 4, none⟩ (.int .i64 (pk l k 3))) = wx at *
      have zc : ∀ j, wx.cell? ⟨w.heap.size, j, none⟩ = (rowC nm l k)[j]? := fun j => by simp only [World.cell?, q]; rfl
      have z0 := zc 0
      have z1 := zc 1
      have z2 := zc 2
      have z3 := zc 3
      have z4 := zc 4
      simp only [rowC, List.getElem?_toArray, List.getElem?_cons_zero, List.getElem?_cons_succ] at z0 z1 z2 z3 z4
      refine bodyPost_ret (v := .agg #[.string nm, .int .i64 (pk l k 0), .int .i64 (pk l k 1), .int .i64 (pk l k 2), .int .i64 (pk l k 3)]) (by simp [results, Tryd.results74, go_sem, z0, z1, z2, z3, z4]) rfl ?_
      exact ⟨rfl, bq⟩
end Go.Proofs.YtelbakkgobkdaaaDoor.Cd

namespace Go.Proofs.YtelbakkgobkdaaaDoor.Vf
open Go.RowKit

theorem info_partsR {P : Program} {T : TypeId} {z : Value} {s b : Nat} (h : (P.info? T).map (fun i => (i.zero, i.size, i.bytes)) = some (some z, s, b)) : ∃ i, P.info? T = some i ∧ i.zero = some z ∧ i.size = s ∧ i.bytes = b := by
  cases hi : P.info? T with
  | none => rw [hi] at h; cases h
  | some i =>
    rw [hi] at h
    simp only [Option.map_some, Option.some.injEq, Prod.mk.injEq] at h
    exact ⟨i, rfl, h.1, h.2.1, h.2.2⟩
theorem infoCrR : (Tryd.prog.info? 114).map (fun i => (i.zero, i.size, i.bytes)) = some (some (.agg #[.string ⟨#[]⟩, .int .i64 0, .int .i64 0, .int .i64 0, .int .i64 0]), 5, 48) := by kernel_rfl
theorem rrow0 (w : World) (nm : ByteArray) : Calls Tryd.prog 74 #[.string nm, .slice none 0 0] w fun e w' => e = .returned (.agg #[.string nm, .int .i64 0, .int .i64 0, .int .i64 0, .int .i64 0]) ∧ Below w.heap.size w w' :=
  Calls.mono (Cd.crow (n := 0) (l := fun _ => 0) (by omega) (fun k h => absurd h (by omega))) fun _ _ h => ⟨h.1, h.2⟩
theorem rrow1 (w : World) (nm : ByteArray) (x0 : Int) : Calls Tryd.prog 74 #[.string nm, .slice (some ⟨w.heap.size, 0, none⟩) 1 1] (w.alloc (.cells #[.int .i64 x0] 3)) fun e w' => e = .returned (.agg #[.string nm, .int .i64 x0, .int .i64 0, .int .i64 0, .int .i64 0]) ∧ Below w.heap.size w w' :=
  Calls.mono (Cd.crow (n := 1) (l := fun k => ([x0] : List Int).getD k 0) (by omega) (fun k h => ⟨_, _, rfl, by simp, by
    have e := heap_alloc_new w (.cells #[.int .i64 x0] 3)
    simp only [World.cell?, e]
    have : k = 0 := by omega
    rcases this with rfl <;> rfl⟩)) fun _ _ h => ⟨h.1, ((Below.refl _ w).alloc (Nat.le_refl _) _).trans (h.2.mono (by simp))⟩
theorem rrow2 (w : World) (nm : ByteArray) (x0 x1 : Int) : Calls Tryd.prog 74 #[.string nm, .slice (some ⟨w.heap.size, 0, none⟩) 2 2] (w.alloc (.cells #[.int .i64 x0, .int .i64 x1] 3)) fun e w' => e = .returned (.agg #[.string nm, .int .i64 x0, .int .i64 x1, .int .i64 0, .int .i64 0]) ∧ Below w.heap.size w w' :=
  Calls.mono (Cd.crow (n := 2) (l := fun k => ([x0, x1] : List Int).getD k 0) (by omega) (fun k h => ⟨_, _, rfl, by simp, by
    have e := heap_alloc_new w (.cells #[.int .i64 x0, .int .i64 x1] 3)
    simp only [World.cell?, e]
    have : k = 0 ∨ k = 1 := by omega
    rcases this with rfl | rfl <;> rfl⟩)) fun _ _ h => ⟨h.1, ((Below.refl _ w).alloc (Nat.le_refl _) _).trans (h.2.mono (by simp))⟩
theorem rrow3 (w : World) (nm : ByteArray) (x0 x1 x2 : Int) : Calls Tryd.prog 74 #[.string nm, .slice (some ⟨w.heap.size, 0, none⟩) 3 3] (w.alloc (.cells #[.int .i64 x0, .int .i64 x1, .int .i64 x2] 3)) fun e w' => e = .returned (.agg #[.string nm, .int .i64 x0, .int .i64 x1, .int .i64 x2, .int .i64 0]) ∧ Below w.heap.size w w' :=
  Calls.mono (Cd.crow (n := 3) (l := fun k => ([x0, x1, x2] : List Int).getD k 0) (by omega) (fun k h => ⟨_, _, rfl, by simp, by
    have e := heap_alloc_new w (.cells #[.int .i64 x0, .int .i64 x1, .int .i64 x2] 3)
    simp only [World.cell?, e]
    have : k = 0 ∨ k = 1 ∨ k = 2 := by omega
    rcases this with rfl | rfl | rfl <;> rfl⟩)) fun _ _ h => ⟨h.1, ((Below.refl _ w).alloc (Nat.le_refl _) _).trans (h.2.mono (by simp))⟩
theorem rrow4 (w : World) (nm : ByteArray) (x0 x1 x2 x3 : Int) : Calls Tryd.prog 74 #[.string nm, .slice (some ⟨w.heap.size, 0, none⟩) 4 4] (w.alloc (.cells #[.int .i64 x0, .int .i64 x1, .int .i64 x2, .int .i64 x3] 3)) fun e w' => e = .returned (.agg #[.string nm, .int .i64 x0, .int .i64 x1, .int .i64 x2, .int .i64 x3]) ∧ Below w.heap.size w w' :=
  Calls.mono (Cd.crow (n := 4) (l := fun k => ([x0, x1, x2, x3] : List Int).getD k 0) (by omega) (fun k h => ⟨_, _, rfl, by simp, by
    have e := heap_alloc_new w (.cells #[.int .i64 x0, .int .i64 x1, .int .i64 x2, .int .i64 x3] 3)
    simp only [World.cell?, e]
    have : k = 0 ∨ k = 1 ∨ k = 2 ∨ k = 3 := by omega
    rcases this with rfl | rfl | rfl | rfl <;> rfl⟩)) fun _ _ h => ⟨h.1, ((Below.refl _ w).alloc (Nat.le_refl _) _).trans (h.2.mono (by simp))⟩
/-- the names of the instructions -/
def nmT : List ByteArray := [⟨#[101, 110, 100]⟩, ⟨#[110, 117, 109]⟩, ⟨#[98, 111, 111, 108]⟩, ⟨#[118, 97, 114]⟩, ⟨#[108, 101, 110]⟩, ⟨#[99, 97, 112]⟩, ⟨#[115, 105, 122, 101]⟩, ⟨#[116, 111, 116, 97, 108]⟩, ⟨#[97, 116]⟩, ⟨#[116, 97, 103, 120]⟩, ⟨#[116, 97, 103, 101, 110, 100]⟩, ⟨#[109, 105, 110]⟩, ⟨#[109, 97, 120]⟩, ⟨#[110, 101, 103]⟩, ⟨#[110, 111, 116]⟩, ⟨#[109, 117, 108]⟩, ⟨#[100, 105, 118]⟩, ⟨#[97, 100, 100]⟩, ⟨#[115, 117, 98]⟩, ⟨#[101, 113]⟩, ⟨#[108, 116]⟩, ⟨#[108, 101]⟩, ⟨#[106, 117, 109, 112]⟩, ⟨#[101, 108, 115, 101]⟩, ⟨#[108, 111, 111, 112]⟩, ⟨#[116, 117, 114, 110]⟩, ⟨#[113, 117, 105, 116]⟩, ⟨#[97, 103, 97, 105, 110]⟩, ⟨#[115, 101, 116]⟩, ⟨#[109, 97, 114, 107, 120]⟩, ⟨#[109, 97, 114, 107, 101, 110, 100]⟩, ⟨#[105, 110, 115, 101, 114, 116]⟩, ⟨#[109, 111, 118, 101]⟩, ⟨#[102, 111, 114, 103, 101, 116]⟩, ⟨#[116, 97, 107, 101]⟩, ⟨#[103, 105, 118, 101]⟩, ⟨#[116, 101, 108, 108]⟩, ⟨#[108, 111, 111, 115, 101]⟩, ⟨#[115, 104, 105, 102, 116]⟩, ⟨#[115, 112, 105, 108, 108]⟩, ⟨#[101, 118, 105, 99, 116]⟩, ⟨#[100, 114, 111, 112]⟩]
def rowT (op : Nat) : List Value := [.string (nmT.getD op ⟨#[]⟩), .int .i64 (kd4 op).1, .int .i64 (kd4 op).2.1, .int .i64 (kd4 op).2.2.1, .int .i64 (kd4 op).2.2.2]
def tabC : List Value := (List.range 42).flatMap rowT
theorem rowT_len (op : Nat) : (rowT op).length = 5 := rfl
theorem flat5 {α : Type} (f : α → List Value) (hf : ∀ x, (f x).length = 5) : ∀ (l : List α) (k i : Nat) (h : k < l.length), i < 5 → (l.flatMap f)[k * 5 + i]? = (f l[k])[i]?
  | [], _, _, h, _ => absurd h (by simp)
  | x :: l, 0, i, _, hi => by
    rw [List.flatMap_cons, List.getElem?_append_left (by rw [hf]; omega)]
    simp
  | x :: l, k + 1, i, h, hi => by
    rw [List.flatMap_cons, List.getElem?_append_right (by rw [hf]; omega), hf, show (k + 1) * 5 + i - 5 = k * 5 + i by omega, flat5 f hf l k i (by simpa using h) hi]
    rfl
theorem tabC_at {op i : Nat} (h : op < 42) (hi : i < 5) : tabC[op * 5 + i]? = (rowT op)[i]? := by
  unfold tabC
  rw [flat5 _ rowT_len _ _ _ (by simpa using h) hi]
  simp
set_option maxHeartbeats 12800000 in
set_option maxRecDepth 100000 in
/-- the reference's table -/
theorem rtab_any (w : World) : Calls Tryd.prog 48 #[] w fun e w' => ∃ g, e = .returned (.slice (some ⟨g, 0, none⟩) 42 42) ∧ w.heap.size ≤ g ∧ w'.heap[g]? = some (.cells tabC.toArray 114 (0, 0)) ∧ Below w.heap.size w w' := by
  have H0 : Hid (Below w.heap.size w w) := Below.refl _ w
  go_enter Tryd.func48, Tryd.ntmps48
  go_wp2_with fail
  refine Calls.mono (rrow0 _ _) ?_
  rintro e w1 ⟨rfl, hb⟩
  have H1 : Hid (Below w.heap.size w w1) := H0.out.trans (hb.mono H0.out.size)
  clear hb H0
  go_wp2_with fail
  refine Calls.mono (rrow1 _ _ _) ?_
  rintro e w2 ⟨rfl, hb⟩
  have H2 : Hid (Below w.heap.size w w2) := H1.out.trans (hb.mono H1.out.size)
  clear hb H1
  go_wp2_with fail
  refine Calls.mono (rrow1 _ _ _) ?_
  rintro e w3 ⟨rfl, hb⟩
  have H3 : Hid (Below w.heap.size w w3) := H2.out.trans (hb.mono H2.out.size)
  clear hb H2
  go_wp2_with fail
  refine Calls.mono (rrow1 _ _ _) ?_
  rintro e w4 ⟨rfl, hb⟩
  have H4 : Hid (Below w.heap.size w w4) := H3.out.trans (hb.mono H3.out.size)
  clear hb H3
  go_wp2_with fail
  refine Calls.mono (rrow1 _ _ _) ?_
  rintro e w5 ⟨rfl, hb⟩
  have H5 : Hid (Below w.heap.size w w5) := H4.out.trans (hb.mono H4.out.size)
  clear hb H4
  go_wp2_with fail
  refine Calls.mono (rrow1 _ _ _) ?_
  rintro e w6 ⟨rfl, hb⟩
  have H6 : Hid (Below w.heap.size w w6) := H5.out.trans (hb.mono H5.out.size)
  clear hb H5
  go_wp2_with fail
  refine Calls.mono (rrow0 _ _) ?_
  rintro e w7 ⟨rfl, hb⟩
  have H7 : Hid (Below w.heap.size w w7) := H6.out.trans (hb.mono H6.out.size)
  clear hb H6
  go_wp2_with fail
  refine Calls.mono (rrow0 _ _) ?_
  rintro e w8 ⟨rfl, hb⟩
  have H8 : Hid (Below w.heap.size w w8) := H7.out.trans (hb.mono H7.out.size)
  clear hb H7
  go_wp2_with fail
  refine Calls.mono (rrow1 _ _ _) ?_
  rintro e w9 ⟨rfl, hb⟩
  have H9 : Hid (Below w.heap.size w w9) := H8.out.trans (hb.mono H8.out.size)
  clear hb H8
  go_wp2_with fail
  refine Calls.mono (rrow1 _ _ _) ?_
  rintro e w10 ⟨rfl, hb⟩
  have H10 : Hid (Below w.heap.size w w10) := H9.out.trans (hb.mono H9.out.size)
  clear hb H9
  go_wp2_with fail
  refine Calls.mono (rrow3 _ _ _ _ _) ?_
  rintro e w11 ⟨rfl, hb⟩
  have H11 : Hid (Below w.heap.size w w11) := H10.out.trans (hb.mono H10.out.size)
  clear hb H10
  go_wp2_with fail
  refine Calls.mono (rrow0 _ _) ?_
  rintro e w12 ⟨rfl, hb⟩
  have H12 : Hid (Below w.heap.size w w12) := H11.out.trans (hb.mono H11.out.size)
  clear hb H11
  go_wp2_with fail
  refine Calls.mono (rrow0 _ _) ?_
  rintro e w13 ⟨rfl, hb⟩
  have H13 : Hid (Below w.heap.size w w13) := H12.out.trans (hb.mono H12.out.size)
  clear hb H12
  go_wp2_with fail
  refine Calls.mono (rrow0 _ _) ?_
  rintro e w14 ⟨rfl, hb⟩
  have H14 : Hid (Below w.heap.size w w14) := H13.out.trans (hb.mono H13.out.size)
  clear hb H13
  go_wp2_with fail
  refine Calls.mono (rrow0 _ _) ?_
  rintro e w15 ⟨rfl, hb⟩
  have H15 : Hid (Below w.heap.size w w15) := H14.out.trans (hb.mono H14.out.size)
  clear hb H14
  go_wp2_with fail
  refine Calls.mono (rrow0 _ _) ?_
  rintro e w16 ⟨rfl, hb⟩
  have H16 : Hid (Below w.heap.size w w16) := H15.out.trans (hb.mono H15.out.size)
  clear hb H15
  go_wp2_with fail
  refine Calls.mono (rrow0 _ _) ?_
  rintro e w17 ⟨rfl, hb⟩
  have H17 : Hid (Below w.heap.size w w17) := H16.out.trans (hb.mono H16.out.size)
  clear hb H16
  go_wp2_with fail
  refine Calls.mono (rrow0 _ _) ?_
  rintro e w18 ⟨rfl, hb⟩
  have H18 : Hid (Below w.heap.size w w18) := H17.out.trans (hb.mono H17.out.size)
  clear hb H17
  go_wp2_with fail
  refine Calls.mono (rrow0 _ _) ?_
  rintro e w19 ⟨rfl, hb⟩
  have H19 : Hid (Below w.heap.size w w19) := H18.out.trans (hb.mono H18.out.size)
  clear hb H18
  go_wp2_with fail
  refine Calls.mono (rrow0 _ _) ?_
  rintro e w20 ⟨rfl, hb⟩
  have H20 : Hid (Below w.heap.size w w20) := H19.out.trans (hb.mono H19.out.size)
  clear hb H19
  go_wp2_with fail
  refine Calls.mono (rrow0 _ _) ?_
  rintro e w21 ⟨rfl, hb⟩
  have H21 : Hid (Below w.heap.size w w21) := H20.out.trans (hb.mono H20.out.size)
  clear hb H20
  go_wp2_with fail
  refine Calls.mono (rrow0 _ _) ?_
  rintro e w22 ⟨rfl, hb⟩
  have H22 : Hid (Below w.heap.size w w22) := H21.out.trans (hb.mono H21.out.size)
  clear hb H21
  go_wp2_with fail
  refine Calls.mono (rrow1 _ _ _) ?_
  rintro e w23 ⟨rfl, hb⟩
  have H23 : Hid (Below w.heap.size w w23) := H22.out.trans (hb.mono H22.out.size)
  clear hb H22
  go_wp2_with fail
  refine Calls.mono (rrow1 _ _ _) ?_
  rintro e w24 ⟨rfl, hb⟩
  have H24 : Hid (Below w.heap.size w w24) := H23.out.trans (hb.mono H23.out.size)
  clear hb H23
  go_wp2_with fail
  refine Calls.mono (rrow1 _ _ _) ?_
  rintro e w25 ⟨rfl, hb⟩
  have H25 : Hid (Below w.heap.size w w25) := H24.out.trans (hb.mono H24.out.size)
  clear hb H24
  go_wp2_with fail
  refine Calls.mono (rrow1 _ _ _) ?_
  rintro e w26 ⟨rfl, hb⟩
  have H26 : Hid (Below w.heap.size w w26) := H25.out.trans (hb.mono H25.out.size)
  clear hb H25
  go_wp2_with fail
  refine Calls.mono (rrow1 _ _ _) ?_
  rintro e w27 ⟨rfl, hb⟩
  have H27 : Hid (Below w.heap.size w w27) := H26.out.trans (hb.mono H26.out.size)
  clear hb H26
  go_wp2_with fail
  refine Calls.mono (rrow1 _ _ _) ?_
  rintro e w28 ⟨rfl, hb⟩
  have H28 : Hid (Below w.heap.size w w28) := H27.out.trans (hb.mono H27.out.size)
  clear hb H27
  go_wp2_with fail
  refine Calls.mono (rrow1 _ _ _) ?_
  rintro e w29 ⟨rfl, hb⟩
  have H29 : Hid (Below w.heap.size w w29) := H28.out.trans (hb.mono H28.out.size)
  clear hb H28
  go_wp2_with fail
  refine Calls.mono (rrow1 _ _ _) ?_
  rintro e w30 ⟨rfl, hb⟩
  have H30 : Hid (Below w.heap.size w w30) := H29.out.trans (hb.mono H29.out.size)
  clear hb H29
  go_wp2_with fail
  refine Calls.mono (rrow3 _ _ _ _ _) ?_
  rintro e w31 ⟨rfl, hb⟩
  have H31 : Hid (Below w.heap.size w w31) := H30.out.trans (hb.mono H30.out.size)
  clear hb H30
  go_wp2_with fail
  refine Calls.mono (rrow2 _ _ _ _) ?_
  rintro e w32 ⟨rfl, hb⟩
  have H32 : Hid (Below w.heap.size w w32) := H31.out.trans (hb.mono H31.out.size)
  clear hb H31
  go_wp2_with fail
  refine Calls.mono (rrow2 _ _ _ _) ?_
  rintro e w33 ⟨rfl, hb⟩
  have H33 : Hid (Below w.heap.size w w33) := H32.out.trans (hb.mono H32.out.size)
  clear hb H32
  go_wp2_with fail
  refine Calls.mono (rrow0 _ _) ?_
  rintro e w34 ⟨rfl, hb⟩
  have H34 : Hid (Below w.heap.size w w34) := H33.out.trans (hb.mono H33.out.size)
  clear hb H33
  go_wp2_with fail
  refine Calls.mono (rrow2 _ _ _ _) ?_
  rintro e w35 ⟨rfl, hb⟩
  have H35 : Hid (Below w.heap.size w w35) := H34.out.trans (hb.mono H34.out.size)
  clear hb H34
  go_wp2_with fail
  refine Calls.mono (rrow2 _ _ _ _) ?_
  rintro e w36 ⟨rfl, hb⟩
  have H36 : Hid (Below w.heap.size w w36) := H35.out.trans (hb.mono H35.out.size)
  clear hb H35
  go_wp2_with fail
  refine Calls.mono (rrow0 _ _) ?_
  rintro e w37 ⟨rfl, hb⟩
  have H37 : Hid (Below w.heap.size w w37) := H36.out.trans (hb.mono H36.out.size)
  clear hb H36
  go_wp2_with fail
  refine Calls.mono (rrow0 _ _) ?_
  rintro e w38 ⟨rfl, hb⟩
  have H38 : Hid (Below w.heap.size w w38) := H37.out.trans (hb.mono H37.out.size)
  clear hb H37
  go_wp2_with fail
  refine Calls.mono (rrow4 _ _ _ _ _ _) ?_
  rintro e w39 ⟨rfl, hb⟩
  have H39 : Hid (Below w.heap.size w w39) := H38.out.trans (hb.mono H38.out.size)
  clear hb H38
  go_wp2_with fail
  refine Calls.mono (rrow4 _ _ _ _ _ _) ?_
  rintro e w40 ⟨rfl, hb⟩
  have H40 : Hid (Below w.heap.size w w40) := H39.out.trans (hb.mono H39.out.size)
  clear hb H39
  go_wp2_with fail
  refine Calls.mono (rrow2 _ _ _ _) ?_
  rintro e w41 ⟨rfl, hb⟩
  have H41 : Hid (Below w.heap.size w w41) := H40.out.trans (hb.mono H40.out.size)
  clear hb H40
  go_wp2_with fail
  refine Calls.mono (rrow2 _ _ _ _) ?_
  rintro e w42 ⟨rfl, hb⟩
  have H42 : Hid (Below w.heap.size w w42) := H41.out.trans (hb.mono H41.out.size)
  clear hb H41
  obtain ⟨j0, hj, hj0, hj1, hj2⟩ := info_partsR infoCrR
  go_wp2_with fail
  refine wp_buildSlice 108 114 42 _ rfl #[.string ⟨#[101, 110, 100]⟩, .int .i64 0, .int .i64 0, .int .i64 0, .int .i64 0, .string ⟨#[110, 117, 109]⟩, .int .i64 5, .int .i64 0, .int .i64 0, .int .i64 0, .string ⟨#[98, 111, 111, 108]⟩, .int .i64 6, .int .i64 0, .int .i64 0, .int .i64 0, .string ⟨#[118, 97, 114]⟩, .int .i64 2, .int .i64 0, .int .i64 0, .int .i64 0, .string ⟨#[108, 101, 110]⟩, .int .i64 1, .int .i64 0, .int .i64 0, .int .i64 0, .string ⟨#[99, 97, 112]⟩, .int .i64 1, .int .i64 0, .int .i64 0, .int .i64 0, .string ⟨#[115, 105, 122, 101]⟩, .int .i64 0, .int .i64 0, .int .i64 0, .int .i64 0, .string ⟨#[116, 111, 116, 97, 108]⟩, .int .i64 0, .int .i64 0, .int .i64 0, .int .i64 0, .string ⟨#[97, 116]⟩, .int .i64 1, .int .i64 0, .int .i64 0, .int .i64 0, .string ⟨#[116, 97, 103, 120]⟩, .int .i64 3, .int .i64 0, .int .i64 0, .int .i64 0, .string ⟨#[116, 97, 103, 101, 110, 100]⟩, .int .i64 1, .int .i64 4, .int .i64 3, .int .i64 0, .string ⟨#[109, 105, 110]⟩, .int .i64 0, .int .i64 0, .int .i64 0, .int .i64 0, .string ⟨#[109, 97, 120]⟩, .int .i64 0, .int .i64 0, .int .i64 0, .int .i64 0, .string ⟨#[110, 101, 103]⟩, .int .i64 0, .int .i64 0, .int .i64 0, .int .i64 0, .string ⟨#[110, 111, 116]⟩, .int .i64 0, .int .i64 0, .int .i64 0, .int .i64 0, .string ⟨#[109, 117, 108]⟩, .int .i64 0, .int .i64 0, .int .i64 0, .int .i64 0, .string ⟨#[100, 105, 118]⟩, .int .i64 0, .int .i64 0, .int .i64 0, .int .i64 0, .string ⟨#[97, 100, 100]⟩, .int .i64 0, .int .i64 0, .int .i64 0, .int .i64 0, .string ⟨#[115, 117, 98]⟩, .int .i64 0, .int .i64 0, .int .i64 0, .int .i64 0, .string ⟨#[101, 113]⟩, .int .i64 0, .int .i64 0, .int .i64 0, .int .i64 0, .string ⟨#[108, 116]⟩, .int .i64 0, .int .i64 0, .int .i64 0, .int .i64 0, .string ⟨#[108, 101]⟩, .int .i64 0, .int .i64 0, .int .i64 0, .int .i64 0, .string ⟨#[106, 117, 109, 112]⟩, .int .i64 8, .int .i64 0, .int .i64 0, .int .i64 0, .string ⟨#[101, 108, 115, 101]⟩, .int .i64 8, .int .i64 0, .int .i64 0, .int .i64 0, .string ⟨#[108, 111, 111, 112]⟩, .int .i64 7, .int .i64 0, .int .i64 0, .int .i64 0, .string ⟨#[116, 117, 114, 110]⟩, .int .i64 8, .int .i64 0, .int .i64 0, .int .i64 0, .string ⟨#[113, 117, 105, 116]⟩, .int .i64 8, .int .i64 0, .int .i64 0, .int .i64 0, .string ⟨#[97, 103, 97, 105, 110]⟩, .int .i64 8, .int .i64 0, .int .i64 0, .int .i64 0, .string ⟨#[115, 101, 116]⟩, .int .i64 2, .int .i64 0, .int .i64 0, .int .i64 0, .string ⟨#[109, 97, 114, 107, 120]⟩, .int .i64 3, .int .i64 0, .int .i64 0, .int .i64 0, .string ⟨#[109, 97, 114, 107, 101, 110, 100]⟩, .int .i64 1, .int .i64 4, .int .i64 3, .int .i64 0, .string ⟨#[105, 110, 115, 101, 114, 116]⟩, .int .i64 1, .int .i64 4, .int .i64 0, .int .i64 0, .string ⟨#[109, 111, 118, 101]⟩, .int .i64 1, .int .i64 4, .int .i64 0, .int .i64 0, .string ⟨#[102, 111, 114, 103, 101, 116]⟩, .int .i64 0, .int .i64 0, .int .i64 0, .int .i64 0, .string ⟨#[116, 97, 107, 101]⟩, .int .i64 1, .int .i64 4, .int .i64 0, .int .i64 0, .string ⟨#[103, 105, 118, 101]⟩, .int .i64 1, .int .i64 4, .int .i64 0, .int .i64 0, .string ⟨#[116, 101, 108, 108]⟩, .int .i64 0, .int .i64 0, .int .i64 0, .int .i64 0, .string ⟨#[108, 111, 111, 115, 101]⟩, .int .i64 0, .int .i64 0, .int .i64 0, .int .i64 0, .string ⟨#[115, 104, 105, 102, 116]⟩, .int .i64 1, .int .i64 4, .int .i64 1, .int .i64 4, .string ⟨#[115, 112, 105, 108, 108]⟩, .int .i64 1, .int .i64 4, .int .i64 1, .int .i64 4, .string ⟨#[101, 118, 105, 99, 116]⟩, .int .i64 1, .int .i64 4, .int .i64 0, .int .i64 0, .string ⟨#[100, 114, 111, 112]⟩, .int .i64 1, .int .i64 4, .int .i64 0, .int .i64 0] j0 (.agg #[.string ⟨#[]⟩, .int .i64 0, .int .i64 0, .int .i64 0, .int .i64 0]) Tryd.underlying108 hj hj0 (by rw [hj1]; decide) (by rw [hj1]; decide) (by rw [hj1]; kernel_rfl) ?_
  go_wp2
  go_ret
  exact ⟨_, rfl, H42.out.size, heap_alloc_new _ _, H42.out.alloc H42.out.size _⟩
end Go.Proofs.YtelbakkgobkdaaaDoor.Vf

namespace Go.Proofs.YtelbakkgobkdaaaDoor.Vf
open Go.RowKit Go.Proofs.YtelbakkgobkdaaaDoor.Nm
/-- which kind an instruction's k-th operand has; the operand -/
def kdN (op : Nat) (k : Nat) : Int := ([(kd4 op).1, (kd4 op).2.1, (kd4 op).2.2.1, (kd4 op).2.2.2] : List Int).getD k 0
def opN (x : Ins) (k : Nat) : Int := ([x.a, x.b, x.c, x.d] : List Int).getD k 0
theorem kdN_lt (op : Nat) (h : op < 42) (k : Nat) (hk : k < 4) : ∃ q : Nat, q < 9 ∧ kdN op k = (q : Int) := by
  have : ∀ o, o < 42 → ∀ j, j < 4 → (kdN o j).toNat < 9 ∧ 0 ≤ kdN o j := by decide
  obtain ⟨h1, h2⟩ := this op h k hk
  exact ⟨(kdN op k).toNat, h1, by omega⟩
theorem tabC_kd {op k : Nat} (h : op < 42) (hk : k < 4) : tabC[op * 5 + 1 + k]? = some (.int .i64 (kdN op k)) := by
  rw [show op * 5 + 1 + k = op * 5 + (1 + k) by omega, tabC_at h (by omega)]
  match k, hk with
  | 0, _ => rfl
  | 1, _ => rfl
  | 2, _ => rfl
  | 3, _ => rfl
theorem insF_of {p : Pg} {x : Ins} (h0 : 0 ≤ x.op) (h1 : x.op < 42) (h : ∀ k, k < 4 → inK p (kdN x.op.toNat k) (opN x k) = true) : insF p x = 0 := by
  unfold insF
  rw [decide_eq_true h0, decide_eq_true h1]
  have a0 := h 0 (by omega)
  have a1 := h 1 (by omega)
  have a2 := h 2 (by omega)
  have a3 := h 3 (by omega)
  show (if _ then (if inK p (kdN x.op.toNat 0) (opN x 0) && (inK p (kdN x.op.toNat 1) (opN x 1) && (inK p (kdN x.op.toNat 2) (opN x 2) && inK p (kdN x.op.toNat 3) (opN x 3))) then 0 else 92) else 91) = 0
  rw [a0, a1, a2, a3]
  rfl
theorem insF_not {p : Pg} {x : Ins} (h0 : 0 ≤ x.op) (h1 : x.op < 42) {k : Nat} (hk : k < 4) (h : inK p (kdN x.op.toNat k) (opN x k) = false) : insF p x = 92 := by
  unfold insF
  rw [decide_eq_true h0, decide_eq_true h1]
  show (if _ then (if inK p (kdN x.op.toNat 0) (opN x 0) && (inK p (kdN x.op.toNat 1) (opN x 1) && (inK p (kdN x.op.toNat 2) (opN x 2) && inK p (kdN x.op.toNat 3) (opN x 3))) then 0 else 92) else 91) = 92
  have hf : (inK p (kdN x.op.toNat 0) (opN x 0) && (inK p (kdN x.op.toNat 1) (opN x 1) && (inK p (kdN x.op.toNat 2) (opN x 2) && inK p (kdN x.op.toNat 3) (opN x 3)))) = false := by
    match k, hk with
    | 0, _ => rw [h]; rfl
    | 1, _ => rw [h]; simp
    | 2, _ => rw [h]; simp
    | 3, _ => rw [h]; simp
  rw [hf]
  rfl
theorem insF_op {p : Pg} {x : Ins} (h : x.op < 0 ∨ 42 ≤ x.op) : insF p x = 91 := by
  unfold insF
  have : (decide (0 ≤ x.op) && decide (x.op < 42)) = false := by
    rw [Bool.eq_false_iff]
    simp only [ne_eq, Bool.and_eq_true, decide_eq_true_eq]
    omega
  rw [this]
  rfl
/-- a box of the program -/
abbrev bxP (v : PV) (p : Pg) : Obj := .cells #[.slice v.qo p.gh.length v.qc, .slice v.vo p.vs.length v.vc, .slice v.to p.ts.length v.tc, .slice v.oo p.on.length v.oc, .int .i64 p.miss, .slice v.co p.cd.length v.cc] 27 (0, 0)
theorem chk_85 {p : Pg} (h : (tabF p && plcF p) = false) : chk p = 85 := by unfold chk; rw [h]; rfl
theorem chk_go {p : Pg} (h : (tabF p && plcF p) = true) : chk p = firstE (insF p) p.cd := by unfold chk; rw [h]; rfl
set_option maxHeartbeats 12800000 in
set_option maxRecDepth 100000 in
/-- the reference's Check -/
theorem rchk_any (v : PV) (p : Pg) (w : World) (hP : IsPg w v p) : Calls Tryd.prog 29 #[.agg (pvC v p)] w fun e w' => e = .returned (.int .i64 (chk p : Int)) ∧ Below w.heap.size w w' := by
  have n1 : (p.gh.length : Int) ≤ 1000000000000000 := by have := hP.lgh; omega
  have n2 : (p.vs.length : Int) ≤ 1000000000000000 := by have := hP.lvs; omega
  have n3 : (p.ts.length : Int) ≤ 1000000000000000 := by have := hP.lts; omega
  have n4 : (p.on.length : Int) ≤ 1000000000000000 := by have := hP.lon; omega
  have n5 : (p.cd.length : Int) ≤ 1000000000000000 := by have := hP.lcd; omega
  have HV : Hid (∀ W, Below w.heap.size w W → Calls Tryd.prog 46 #[.slice v.vo p.vs.length v.vc] W fun e w' => e = .returned (.bool (p.vs.all varF)) ∧ Below W.heap.size W w') := fun W hb => rvars_any _ _ _ W (hP.below hb).vs (by omega)
  have HT : Hid (∀ W, Below w.heap.size w W → Calls Tryd.prog 47 #[.slice v.to p.ts.length v.tc] W fun e w' => e = .returned (.bool (p.ts.all tagF)) ∧ w' = W) := fun W hb => rtags_any _ _ _ W (hP.below hb).ts (by omega)
  have HF : Hid (∀ (k : Nat) (n : Int) W, k < 9 → Calls Tryd.prog 50 #[.agg (pvC v p), .int .i64 (k : Int), .int .i64 n] W fun e w' => e = .returned (.bool (inK p (k : Int) n)) ∧ Below W.heap.size W w') := fun k n W hk => rfitsK v p k hk n W (by omega) (by omega) (by omega) (by omega)
  have HP : Hid (IsPg w v p) := hP
  have hb0 : Below w.heap.size w (w.alloc (.cells (pvC v p) 27)) := (Below.refl _ w).alloc (Nat.le_refl _) _
  have hx0 : (w.alloc (.cells (pvC v p) 27)).heap[w.heap.size]? = some (.cells (pvC v p) 27 (0, 0)) := heap_alloc_new _ _
  obtain ⟨qo, qc, vo, vc, tto, tc, oo, oc, co, cc⟩ := v
  show Calls _ _ #[.agg #[.slice qo p.gh.length qc, .slice vo p.vs.length vc, .slice tto p.ts.length tc, .slice oo p.on.length oc, .int .i64 p.miss, .slice co p.cd.length cc]] _ _
  have HB : Hid (Below w.heap.size w (w.alloc (.cells #[.slice qo p.gh.length qc, .slice vo p.vs.length vc, .slice tto p.ts.length tc, .slice oo p.on.length oc, .int .i64 p.miss, .slice co p.cd.length cc] 27)) ∧ (w.alloc (.cells #[.slice qo p.gh.length qc, .slice vo p.vs.length vc, .slice tto p.ts.length tc, .slice oo p.on.length oc, .int .i64 p.miss, .slice co p.cd.length cc] 27)).heap[w.heap.size]? = some (.cells #[.slice qo p.gh.length qc, .slice vo p.vs.length vc, .slice tto p.ts.length tc, .slice oo p.on.length oc, .int .i64 p.miss, .slice co p.cd.length cc] 27 (0, 0))) := ⟨hb0, hx0⟩
  clear hb0 hx0 hP
  by_cases h1 : 16 < (p.gh.length : Int)
  · have hr : chk p = 85 := chk_85 (by unfold tabF; rw [decide_eq_false (by omega), Bool.false_and, Bool.false_and])
    rw [hr]
    go_enter Tryd.func29, Tryd.ntmps29
    go_wp2_with fail
    go_ret
    exact ⟨rfl, HB.out.1⟩
  by_cases h2 : 16 < (p.vs.length : Int)
  · have hr : chk p = 85 := chk_85 (by unfold tabF; rw [decide_eq_false (p := p.vs.length ≤ 16) (by omega), Bool.false_and, Bool.and_false, Bool.false_and])
    rw [hr]
    go_enter Tryd.func29, Tryd.ntmps29
    go_wp2_with fail
    go_ret
    exact ⟨rfl, HB.out.1⟩
  by_cases h3 : 4 < (p.ts.length : Int)
  · have hr : chk p = 85 := chk_85 (by unfold tabF; rw [decide_eq_false (p := p.ts.length ≤ 4) (by omega), Bool.false_and, Bool.and_false, Bool.and_false, Bool.false_and])
    rw [hr]
    go_enter Tryd.func29, Tryd.ntmps29
    go_wp2_with fail
    go_ret
    exact ⟨rfl, HB.out.1⟩
  have HTf : Hid (tabF p = (p.vs.all varF && p.ts.all tagF)) := by
    unfold tabF
    rw [decide_eq_true (p := p.gh.length ≤ 16) (by omega), decide_eq_true (p := p.vs.length ≤ 16) (by omega), decide_eq_true (p := p.ts.length ≤ 4) (by omega)]
    rfl
  go_enter Tryd.func29, Tryd.ntmps29
  go_wp2_with fail
  generalize w.alloc (.cells #[.slice qo p.gh.length qc, .slice vo p.vs.length vc, .slice tto p.ts.length tc, .slice oo p.on.length oc, .int .i64 p.miss, .slice co p.cd.length cc] 27) = W0 at *
  refine (HV.out _ HB.out.1).mono ?_
  rintro e w1 ⟨rfl, hb1⟩
  have HB1 : Hid (Below w.heap.size w w1 ∧ w1.heap[w.heap.size]? = some (.cells #[.slice qo p.gh.length qc, .slice vo p.vs.length vc, .slice tto p.ts.length tc, .slice oo p.on.length oc, .int .i64 p.miss, .slice co p.cd.length cc] 27 (0, 0))) := ⟨HB.out.1.trans (hb1.mono HB.out.1.size), (hb1.block _ (blk_lt HB.out.2)).trans HB.out.2⟩
  obtain ⟨i0, i1, i2, i3, i4, i5⟩ := cells6 HB1.out.2
  clear hb1 HB HV
  cases hv : p.vs.all varF
  · have HR : Hid (chk p = 85) := chk_85 (by rw [HTf.out, hv]; rfl)
    clear hv
    go_wp2_with fail
    go_ret
    exact ⟨by rw [HR.out]; rfl, HB1.out.1⟩
  have HTg : Hid (tabF p = p.ts.all tagF) := by rw [HTf.out, hv]; rfl
  clear hv HTf
  go_wp2_with fail
  refine (HT.out _ HB1.out.1).mono ?_
  rintro e w2 ⟨rfl, rfl⟩
  cases ht : p.ts.all tagF
  · have HR : Hid (chk p = 85) := chk_85 (by rw [HTg.out, ht]; rfl)
    clear ht
    go_wp2_with fail
    go_ret
    exact ⟨by rw [HR.out]; rfl, HB1.out.1⟩
  have HTt : Hid (tabF p = true) := HTg.out.trans ht
  clear ht HTg HT
  by_cases h4 : (p.on.length : Int) = (p.gh.length : Int)
  rotate_left
  · have HR : Hid (chk p = 85) := chk_85 (by unfold plcF; rw [decide_eq_false (p := p.on.length = p.gh.length) (by omega)]; simp)
    go_wp2_with fail
    go_ret
    exact ⟨by rw [HR.out]; rfl, HB1.out.1⟩
  by_cases h5 : 262144 < (p.cd.length : Int)
  · have HR : Hid (chk p = 85) := chk_85 (by unfold plcF; rw [decide_eq_false (p := p.cd.length ≤ 262144) (by omega)]; simp)
    go_wp2_with fail
    go_ret
    exact ⟨by rw [HR.out]; rfl, HB1.out.1⟩
  by_cases h6 : p.miss < -1
  · have HR : Hid (chk p = 85) := chk_85 (by unfold plcF plcI; rw [decide_eq_false (p := -1 ≤ p.miss) (by omega)]; simp)
    go_wp2_with fail
    go_ret
    exact ⟨by rw [HR.out]; rfl, HB1.out.1⟩
  by_cases h7 : (p.cd.length : Int) ≤ p.miss
  · have HR : Hid (chk p = 85) := chk_85 (by unfold plcF plcI; rw [decide_eq_false (p := p.miss < (p.cd.length : Int)) (by omega)]; simp)
    go_wp2_with fail
    go_ret
    exact ⟨by rw [HR.out]; rfl, HB1.out.1⟩
  have HPf : Hid (plcF p = p.on.all (plcI p)) := by
    show plcF p = _
    unfold plcF
    rw [decide_eq_true (p := p.on.length = p.gh.length) (by omega), decide_eq_true (p := p.cd.length ≤ 262144) (by omega), show plcI p p.miss = true by unfold plcI; rw [decide_eq_true (p := -1 ≤ p.miss) (by omega), decide_eq_true (p := p.miss < (p.cd.length : Int)) (by omega)]; rfl]
    simp
  clear h1 h2 h3
  go_wp2_with fail
  go_loopg [3] p.on.length (fun gq x wr => ∃ j : Nat, j ≤ p.on.length ∧ gq = p.on.length - j ∧ x = .int .i64 (j : Int) ∧ (p.on.take j).all (plcI p) = true ∧ Below w.heap.size w wr ∧ wr.heap[w.heap.size]? = some (.cells #[.slice qo p.gh.length qc, .slice vo p.vs.length vc, .slice tto p.ts.length tc, .slice oo p.on.length oc, .int .i64 p.miss, .slice co p.cd.length cc] 27 (0, 0)))
  case atStart => exact ⟨0, Nat.zero_le _, rfl, rfl, rfl, HB1.out.1, HB1.out.2⟩
  case round =>
    obtain ⟨j, hj, hgk, rfl, ha, hb, hx⟩ := hrel
    have HG : Hid (gk = p.on.length - j ∧ (p.on.take j).all (plcI p) = true ∧ Below w.heap.size w wr ∧ wr.heap[w.heap.size]? = some (.cells #[.slice qo p.gh.length qc, .slice vo p.vs.length vc, .slice tto p.ts.length tc, .slice oo p.on.length oc, .int .i64 p.miss, .slice co p.cd.length cc] 27 (0, 0))) := ⟨hgk, ha, hb, hx⟩
    have HD : Hid (∀ n, Below w.heap.size w (wr.drewN n) ∧ (wr.drewN n).heap[w.heap.size]? = some (.cells #[.slice qo p.gh.length qc, .slice vo p.vs.length vc, .slice tto p.ts.length tc, .slice oo p.on.length oc, .int .i64 p.miss, .slice co p.cd.length cc] 27 (0, 0))) := fun n => ⟨hb.trans ((drN _ n).mono hb.size), ((drN _ n).block _ (blk_lt hx)).trans hx⟩
    clear i0 i1 i2 i3 i4 i5
    obtain ⟨i0, i1, i2, i3, i4, i5⟩ := cells6 hx
    clear hgk ha hb hx HB1
    by_cases hlt : j < p.on.length
    · have hlt' : (j : Int) < (p.on.length : Int) := by omega
      obtain ⟨g, f, hvo, hg, d0⟩ := rd_int (HP.out.on.below HG.out.2.2.1) hlt
      obtain rfl : oo = some ⟨g, f, none⟩ := hvo
      have HLt : Hid (j < p.on.length) := hlt
      by_cases hv : plcI p p.on[j] = true
      · have HA : Hid ((p.on.take (j + 1)).all (plcI p) = true) := all_take hlt HG.out.2.1 hv
        unfold plcI at hv
        simp only [Bool.and_eq_true, decide_eq_true_eq] at hv
        obtain ⟨v1, v2⟩ := hv
        generalize p.on[j] = y0 at *
        have k1 : decide (y0 < -1) = false := decide_eq_false (by omega)
        have k2 : decide ((p.cd.length : Int) ≤ y0) = false := decide_eq_false (by omega)
        clear hlt hg v1 v2
        go_wp2_with fail
        go_quiet (fail)
        go_wp2_with fail
        go_roundg (p.on.length - (j + 1))
        case measure => have h1 := HG.out.1; have := HLt.out; omega
        case rel => exact ⟨j + 1, HLt.out, rfl, by go_num, HA.out, (HD.out _).1, (HD.out _).2⟩
      · have hr : p.on.all (plcI p) = false := all_not hlt (Bool.eq_false_iff.2 hv)
        have HR : Hid (chk p = 85) := chk_85 (by rw [HPf.out, hr]; simp)
        unfold plcI at hv
        simp only [Bool.and_eq_true, decide_eq_true_eq] at hv
        generalize p.on[j] = y0 at *
        have hw : (decide (y0 < -1) = true) ∨ (decide (y0 < -1) = false ∧ decide ((p.cd.length : Int) ≤ y0) = true) := by
          simp only [decide_eq_true_eq, decide_eq_false_iff_not]
          omega
        clear hlt hg hv hr
        rcases hw with k1 | ⟨k1, k2⟩
        all_goals
          go_wp2_with fail
          go_quiet (fail)
          go_wp2_with fail
          go_ret
          exact ⟨by rw [HR.out]; rfl, (HD.out _).1⟩
    · have hlt' : ¬ (j : Int) < (p.on.length : Int) := by omega
      obtain rfl : j = p.on.length := by omega
      have HC : Hid (chk p = firstE (insF p) p.cd) := chk_go (by
        have h9 : p.on.all (plcI p) = true := by have := HG.out.2.1; rwa [List.take_length] at this
        rw [HTt.out, HPf.out, h9]
        rfl)
      have HB2 : Hid (Below w.heap.size w wr ∧ wr.heap[w.heap.size]? = some (.cells #[.slice qo p.gh.length qc, .slice vo p.vs.length vc, .slice tto p.ts.length tc, .slice oo p.on.length oc, .int .i64 p.miss, .slice co p.cd.length cc] 27 (0, 0))) := HG.out.2.2
      clear hlt hj HG HPf HTt HD h4 h5 h6 h7
      obtain ⟨w2, rfl⟩ : ∃ w2, w2 = wr := ⟨_, rfl⟩
      go_wp2_with fail
      refine (rtab_any _).mono ?_
      rintro e w5 ⟨tg, rfl, ht0, ht1, htb⟩
      have HB5 : Hid (Below w.heap.size w w5 ∧ w5.heap[w.heap.size]? = some (.cells #[.slice qo p.gh.length qc, .slice vo p.vs.length vc, .slice tto p.ts.length tc, .slice oo p.on.length oc, .int .i64 p.miss, .slice co p.cd.length cc] 27 (0, 0)) ∧ w5.heap[tg]? = some (.cells tabC.toArray 114 (0, 0))) := ⟨HB2.out.1.trans (htb.mono HB2.out.1.size), (htb.block _ (blk_lt HB2.out.2)).trans HB2.out.2, ht1⟩
      clear i0 i1 i2 i3 i4 i5 ht0 ht1 htb HB2
      obtain ⟨i0, i1, i2, i3, i4, i5⟩ := cells6 HB5.out.2.1
      go_wp2_with fail
      go_loopg [5] p.cd.length (fun gq x wr => ∃ j : Nat, j ≤ p.cd.length ∧ gq = p.cd.length - j ∧ x = .int .i64 (j : Int) ∧ (∀ x ∈ p.cd.take j, insF p x = 0) ∧ Below w5.heap.size w5 wr)
      case atStart => exact ⟨0, Nat.zero_le _, rfl, rfl, by simp, Below.refl _ _⟩
      case round =>
        obtain ⟨j, hj, hgk, rfl, ha, hb⟩ := hrel
        have HG : Hid (gk = p.cd.length - j ∧ (∀ x ∈ p.cd.take j, insF p x = 0) ∧ Below w5.heap.size w5 wr) := ⟨hgk, ha, hb⟩
        clear i0 i1 i2 i3 i4 i5
        obtain ⟨i0, i1, i2, i3, i4, i5⟩ := cells6 ((hb.block _ (blk_lt HB5.out.2.1)).trans HB5.out.2.1)
        clear hgk ha hb
        by_cases hlt : j < p.cd.length
        · have hlt' : (j : Int) < (p.cd.length : Int) := by omega
          have hbw : Below w.heap.size w wr := HB5.out.1.trans (HG.out.2.2.mono HB5.out.1.size)
          obtain ⟨g, f, hvo, hg, d0, d1, d2, d3, d4⟩ := rd_ins (HP.out.cd.below hbw) hlt
          obtain rfl : co = some ⟨g, f, none⟩ := hvo
          have HE : Hid (∀ x : Ins, insF p p.cd[j] ≠ 0 → chk p = insF p p.cd[j]) := fun _ hx => HC.out.trans (firstE_take hlt HG.out.2.1 hlt hx)
          have HA : Hid (insF p p.cd[j] = 0 → ∀ x ∈ p.cd.take (j + 1), insF p x = 0) := fun hx y hy => by
            rw [List.take_succ_eq_append_getElem hlt, List.mem_append, List.mem_singleton] at hy
            rcases hy with hy | rfl
            · exact HG.out.2.1 y hy
            · exact hx
          have HLt : Hid (j < p.cd.length) := hlt
          have hg1 : ¬ g = wr.heap.size := by omega
          have hw1 : ¬ w.heap.size = wr.heap.size := by have := blk_lt HB5.out.2.1; have := HG.out.2.2.size; omega
          generalize p.cd[j] = x at *
          obtain ⟨xo, xa, xb, xc, xd⟩ := x
          dsimp only at d0 d1 d2 d3 d4
          clear hbw hlt hg
          by_cases ho : xo < 0 ∨ 42 ≤ xo
          · have HR : Hid (chk p = 91) := (HE.out Ins.zero (by rw [insF_op ho]; decide)).trans (insF_op ho)
            have HN : Hid (Below w.heap.size w (wr.alloc (.cells #[.int .i64 xo, .int .i64 xa, .int .i64 xb, .int .i64 xc, .int .i64 xd] 54))) := HB5.out.1.trans ((HG.out.2.2.alloc HG.out.2.2.size _).mono HB5.out.1.size)
            rcases ho with ho | ho
            · go_wp2_with fail
              go_ret
              exact ⟨by rw [HR.out]; rfl, HN.out⟩
            · have ho0 : ¬ xo < 0 := by omega
              go_wp2_with fail
              go_ret
              exact ⟨by rw [HR.out]; rfl, HN.out⟩
          have ho0 : ¬ xo < 0 := by omega
          have ho1 : ¬ 42 ≤ xo := by omega
          obtain ⟨op, rfl⟩ : ∃ op : Nat, xo = (op : Int) := ⟨xo.toNat, by omega⟩
          have hop : op < 42 := by omega
          have hop' : (op : Int) < 42 := by omega
          have HI : Hid (∀ k, k < 4 → inK p (kdN op k) (opN ⟨(op : Int), xa, xb, xc, xd⟩ k) = false → chk p = 92) := fun k hk h9 => by
            have e9 := insF_not (x := ⟨(op : Int), xa, xb, xc, xd⟩) (by simp) hop' hk h9
            rw [HE.out Ins.zero (by rw [e9]; decide), e9]
          have HI2 : Hid ((∀ k, k < 4 → inK p (kdN op k) (opN ⟨(op : Int), xa, xb, xc, xd⟩ k) = true) → ∀ x ∈ p.cd.take (j + 1), insF p x = 0) := fun h9 => HA.out (insF_of (x := ⟨(op : Int), xa, xb, xc, xd⟩) (by simp) hop' h9)
          clear HE HA
          have hbA : Below w5.heap.size w5 (wr.alloc (.cells #[.int .i64 (op : Int), .int .i64 xa, .int .i64 xb, .int .i64 xc, .int .i64 xd] 54)) := HG.out.2.2.alloc HG.out.2.2.size _
          have HX : Hid (Below w5.heap.size w5 (wr.alloc (.cells #[.int .i64 (op : Int), .int .i64 xa, .int .i64 xb, .int .i64 xc, .int .i64 xd] 54)) ∧ (wr.alloc (.cells #[.int .i64 (op : Int), .int .i64 xa, .int .i64 xb, .int .i64 xc, .int .i64 xd] 54)).heap[wr.heap.size]? = some (.cells #[.int .i64 (op : Int), .int .i64 xa, .int .i64 xb, .int .i64 xc, .int .i64 xd] 54 (0, 0)) ∧ w5.heap.size ≤ wr.heap.size) := ⟨hbA, heap_alloc_new _ _, HG.out.2.2.size⟩
          clear hbA
          have ho2 : ¬ (op : Int) < 0 := by omega
          have ho3 : ¬ 42 ≤ (op : Int) := by omega
          go_wp2_with fail
          generalize wr.alloc (.cells #[.int .i64 (op : Int), .int .i64 xa, .int .i64 xb, .int .i64 xc, .int .i64 xd] 54) = w6 at *
          generalize wr.heap.size = ib at *
          refine (ropers_any ⟨(op : Int), xa, xb, xc, xd⟩ _).mono ?_
          rintro e w7 ⟨rfl, hb7⟩
          dsimp only
          have hbB : Below w5.heap.size w5 (w7.alloc (.cells #[.int .i64 xa, .int .i64 xb, .int .i64 xc, .int .i64 xd] 110)) := (HX.out.1.trans (hb7.mono HX.out.1.size)).alloc (Nat.le_trans HX.out.1.size hb7.size) _
          have hi7 : (w7.alloc (.cells #[.int .i64 xa, .int .i64 xb, .int .i64 xc, .int .i64 xd] 110)).heap[ib]? = some (.cells #[.int .i64 (op : Int), .int .i64 xa, .int .i64 xb, .int .i64 xc, .int .i64 xd] 54 (0, 0)) := (((Below.refl _ w7).alloc (Nat.le_refl _) _).block _ (Nat.lt_of_lt_of_le (blk_lt HX.out.2.1) hb7.size)).trans ((hb7.block _ (blk_lt HX.out.2.1)).trans HX.out.2.1)
          have HY : Hid (Below w5.heap.size w5 (w7.alloc (.cells #[.int .i64 xa, .int .i64 xb, .int .i64 xc, .int .i64 xd] 110)) ∧ (w7.alloc (.cells #[.int .i64 xa, .int .i64 xb, .int .i64 xc, .int .i64 xd] 110)).heap[ib]? = some (.cells #[.int .i64 (op : Int), .int .i64 xa, .int .i64 xb, .int .i64 xc, .int .i64 xd] 54 (0, 0)) ∧ (w7.alloc (.cells #[.int .i64 xa, .int .i64 xb, .int .i64 xc, .int .i64 xd] 110)).heap[w7.heap.size]? = some (.cells #[.int .i64 xa, .int .i64 xb, .int .i64 xc, .int .i64 xd] 110 (0, 0))) := ⟨hbB, hi7, heap_alloc_new _ _⟩
          clear hbB hi7 hb7 HX
          go_wp2_with fail
          generalize w7.alloc (.cells #[.int .i64 xa, .int .i64 xb, .int .i64 xc, .int .i64 xd] 110) = w8 at *
          generalize w7.heap.size = ab at *
          have HSS : Hid (∀ X k, Below w8.heap.size w8 X → k < 4 → (fun w' : World => w'.cell? ⟨w.heap.size, 0, none⟩ = some (.slice qo p.gh.length qc) ∧ w'.cell? ⟨w.heap.size, 1, none⟩ = some (.slice vo p.vs.length vc) ∧ w'.cell? ⟨w.heap.size, 2, none⟩ = some (.slice tto p.ts.length tc) ∧ w'.cell? ⟨w.heap.size, 3, none⟩ = some (.slice oo p.on.length oc) ∧ w'.cell? ⟨w.heap.size, 4, none⟩ = some (.int .i64 p.miss) ∧ w'.cell? ⟨w.heap.size, 5, none⟩ = some (.slice (some ⟨g, f, none⟩) p.cd.length cc) ∧ w'.cell? ⟨ib, 0, none⟩ = some (.int .i64 (op : Int)) ∧ w'.cell? ⟨tg, op * 5 + 1 + k, none⟩ = some (.int .i64 (kdN op k)) ∧ w'.cell? ⟨ab, k, none⟩ = some (.int .i64 (opN ⟨(op : Int), xa, xb, xc, xd⟩ k))) X) := fun X k hX hk => by
            have e5 : Below w5.heap.size w5 X := HY.out.1.trans (hX.mono HY.out.1.size)
            obtain ⟨s0, s1, s2, s3, s4, s5⟩ := cells6 ((e5.block _ (blk_lt HB5.out.2.1)).trans HB5.out.2.1)
            refine ⟨s0, s1, s2, s3, s4, s5, cell_of (cs := [.int .i64 (op : Int), .int .i64 xa, .int .i64 xb, .int .i64 xc, .int .i64 xd]) ((hX.block _ (blk_lt HY.out.2.1)).trans HY.out.2.1) rfl, cell_of ((e5.block _ (blk_lt HB5.out.2.2)).trans HB5.out.2.2) (tabC_kd hop hk), ?_⟩
            have e9 := (hX.block _ (blk_lt HY.out.2.2)).trans HY.out.2.2
            match k, hk with
            | 0, _ => exact cell_of (cs := [.int .i64 xa, .int .i64 xb, .int .i64 xc, .int .i64 xd]) e9 rfl
            | 1, _ => exact cell_of (cs := [.int .i64 xa, .int .i64 xb, .int .i64 xc, .int .i64 xd]) e9 rfl
            | 2, _ => exact cell_of (cs := [.int .i64 xa, .int .i64 xb, .int .i64 xc, .int .i64 xd]) e9 rfl
            | 3, _ => exact cell_of (cs := [.int .i64 xa, .int .i64 xb, .int .i64 xc, .int .i64 xd]) e9 rfl
          have HB8 : Hid (∀ X, Below w8.heap.size w8 X → Below w.heap.size w X ∧ Below w5.heap.size w5 X) := fun X hX => by
            have e5 : Below w5.heap.size w5 X := HY.out.1.trans (hX.mono HY.out.1.size)
            exact ⟨HB5.out.1.trans (e5.mono HB5.out.1.size), e5⟩
          clear HY i0 i1 i2 i3 i4 i5 d0 d1 d2 d3 d4 hg1 hw1 ho ho0 ho1 ho2 ho3
          go_loopg [8] 4 (fun gq x wr => ∃ k : Nat, k ≤ 4 ∧ gq = 4 - k ∧ x = .int .i64 (k : Int) ∧ (∀ q, q < k → inK p (kdN op q) (opN ⟨(op : Int), xa, xb, xc, xd⟩ q) = true) ∧ Below w8.heap.size w8 wr)
          case atStart => exact ⟨0, Nat.zero_le _, rfl, rfl, fun q hq => absurd hq (by omega), Below.refl _ _⟩
          case round =>
            obtain ⟨k, hk, hgk, rfl, ha, hb⟩ := hrel
            have HK : Hid (gk = 4 - k ∧ (∀ q, q < k → inK p (kdN op q) (opN ⟨(op : Int), xa, xb, xc, xd⟩ q) = true) ∧ Below w8.heap.size w8 wr) := ⟨hgk, ha, hb⟩
            clear hgk ha hb
            by_cases hk4 : k < 4
            · have hk4' : (k : Int) < 4 := by omega
              obtain ⟨q, hq9, hqe⟩ := kdN_lt op hop k hk4
              have HQ : Hid (q < 9 ∧ kdN op k = (q : Int) ∧ k < 4) := ⟨hq9, hqe, hk4⟩
              have HS2 : Hid (∀ X, Below w8.heap.size w8 X → (fun w' : World => w'.cell? ⟨w.heap.size, 0, none⟩ = some (.slice qo p.gh.length qc) ∧ w'.cell? ⟨w.heap.size, 1, none⟩ = some (.slice vo p.vs.length vc) ∧ w'.cell? ⟨w.heap.size, 2, none⟩ = some (.slice tto p.ts.length tc) ∧ w'.cell? ⟨w.heap.size, 3, none⟩ = some (.slice oo p.on.length oc) ∧ w'.cell? ⟨w.heap.size, 4, none⟩ = some (.int .i64 p.miss) ∧ w'.cell? ⟨w.heap.size, 5, none⟩ = some (.slice (some ⟨g, f, none⟩) p.cd.length cc) ∧ w'.cell? ⟨ib, 0, none⟩ = some (.int .i64 (op : Int)) ∧ w'.cell? ⟨tg, op * 5 + 1 + k, none⟩ = some (.int .i64 (q : Int)) ∧ w'.cell? ⟨ab, k, none⟩ = some (.int .i64 (opN ⟨(op : Int), xa, xb, xc, xd⟩ k))) X) := fun X hX => by rw [← hqe]; exact HSS.out X k hX hk4
              have HIk : Hid (inK p (q : Int) (opN ⟨(op : Int), xa, xb, xc, xd⟩ k) = false → chk p = 92) := fun h9 => HI.out k hk4 (by rw [hqe]; exact h9)
              have HIt : Hid (inK p (q : Int) (opN ⟨(op : Int), xa, xb, xc, xd⟩ k) = true → ∀ q, q < k + 1 → inK p (kdN op q) (opN ⟨(op : Int), xa, xb, xc, xd⟩ q) = true) := fun h9 q' hq' => by
                by_cases e : q' = k
                · subst e; rw [hqe]; exact h9
                · exact HK.out.2.1 q' (by omega)
              clear hk hk4 hq9 hqe hop
              go_upto_region 19 with fail
              refine wp_region_held (S := fun w' : World => w'.cell? ⟨w.heap.size, 0, none⟩ = some (.slice qo p.gh.length qc) ∧ w'.cell? ⟨w.heap.size, 1, none⟩ = some (.slice vo p.vs.length vc) ∧ w'.cell? ⟨w.heap.size, 2, none⟩ = some (.slice tto p.ts.length tc) ∧ w'.cell? ⟨w.heap.size, 3, none⟩ = some (.slice oo p.on.length oc) ∧ w'.cell? ⟨w.heap.size, 4, none⟩ = some (.int .i64 p.miss) ∧ w'.cell? ⟨w.heap.size, 5, none⟩ = some (.slice (some ⟨g, f, none⟩) p.cd.length cc) ∧ w'.cell? ⟨ib, 0, none⟩ = some (.int .i64 (op : Int)) ∧ w'.cell? ⟨tg, op * 5 + 1 + k, none⟩ = some (.int .i64 (q : Int)) ∧ w'.cell? ⟨ab, k, none⟩ = some (.int .i64 (opN ⟨(op : Int), xa, xb, xc, xd⟩ k))) (by kernel_rfl) ?_
              change wpAnyH _ _ _ _ _ _ _ _ wr.drew
              have hbd : Below w8.heap.size w8 wr.drew := HK.out.2.2.drew
              have hS := HS2.out wr.drew hbd
              have HBd : Hid (Below w8.heap.size w8 wr.drew) := hbd
              clear hbd
              generalize wr.drew = wd at *
              generalize opN ⟨(op : Int), xa, xb, xc, xd⟩ k = y at *
              refine tqA 0 rfl hS ?_
              refine tqA 1 rfl hS ?_
              refine tqA 2 rfl hS ?_
              refine tqA 3 rfl hS ?_
              refine tqA 4 rfl hS ?_
              refine tqA 5 rfl hS ?_
              refine tqA 6 rfl hS ?_
              refine tqA 7 rfl hS ?_
              refine tqA 8 rfl hS ?_
              refine tqA 9 rfl hS ?_
              refine tqA 10 rfl hS ?_
              refine tqA 11 rfl hS ?_
              refine wpAnyH_ready (rs := [12]) (by kernel_rfl) (by simp) ?_
              refine AllReadyH.cons rfl (fun K hK => ?_) AllReadyH.nil
              go_simp
              refine Calls.mono (HF.out q y _ HQ.out.1) ?_
              rintro e w9 ⟨rfl, hb9⟩
              have hb99 : Below w8.heap.size w8 w9 := HBd.out.trans (hb9.mono HBd.out.size)
              refine hK.out _ _ (HS2.out _ hb99) (fun hS => ?_)
              have HB9 : Hid (Below w8.heap.size w8 w9) := hb99
              clear hK K hb99 hb9 HBd HS2 HSS
              refine tqA 13 rfl hS ?_
              refine wpAnyH_done (by kernel_rfl) ?_ _
              clear hS
              have HN9 : Hid (Below w.heap.size w w9) := (HB8.out _ HB9.out).1
              go_simp
              cases hv : inK p (q : Int) y
              · go_wp2_with fail
                go_ret
                exact ⟨by rw [HIk.out hv]; rfl, HN9.out⟩
              · go_wp2_with fail
                go_roundg (4 - (k + 1))
                case measure => have h1 := HK.out.1; have := HQ.out.2.2; omega
                case rel => exact ⟨k + 1, HQ.out.2.2, rfl, by go_num, HIt.out hv, HB9.out⟩
            · have hk4' : ¬ (k : Int) < 4 := by omega
              obtain rfl : k = 4 := by omega
              clear hk4 hk
              go_wp2_with fail
              go_roundg (p.cd.length - (j + 1))
              case measure => have h1 := HG.out.1; have := HLt.out; omega
              case rel => exact ⟨j + 1, HLt.out, rfl, by go_num, HI2.out HK.out.2.1, (HB8.out _ HK.out.2.2).2⟩
        · have hlt' : ¬ (j : Int) < (p.cd.length : Int) := by omega
          obtain rfl : j = p.cd.length := by omega
          have HR : Hid (chk p = 0) := HC.out.trans (firstE_all (fun x hx => HG.out.2.1 x (by rwa [List.take_length])))
          have HN : Hid (Below w.heap.size w wr) := HB5.out.1.trans (HG.out.2.2.mono HB5.out.1.size)
          clear hlt hj
          go_wp2_with fail
          go_ret
          exact ⟨by rw [HR.out]; rfl, HN.out⟩
end Go.Proofs.YtelbakkgobkdaaaDoor.Vf

namespace Go.Proofs.YtelbakkgobkdaaaDoor.Vf
open Go.RowKit Go.Proofs.YtelbakkgobkdaaaDoor.Nm
set_option maxHeartbeats 1600000 in
/-- the reference's Sum -/
theorem rsum_any (a b : Int) (ha : 0 ≤ a) (ha2 : a ≤ 4611686018427387904) (hb : 0 ≤ b) (hb2 : b ≤ 4611686018427387904) (w : World) :
    Calls Tryd.prog 31 #[.int .i64 a, .int .i64 b] w fun e w' => e = .returned (.int .i64 (sm a b)) ∧ w' = w := by
  unfold sm
  by_cases h : 4611686018427387904 - b < a
  · rw [if_pos h]
    go_enter Tryd.func31, Tryd.ntmps31
    go_wp2_with fail
    go_ret
    exact ⟨rfl, rfl⟩
  · rw [if_neg h]
    have h2 : a + b ≤ 4611686018427387904 := by omega
    go_enter Tryd.func31, Tryd.ntmps31
    go_wp2_with fail
    go_ret
    exact ⟨rfl, rfl⟩
set_option maxHeartbeats 1600000 in
/-- the reference's Times -/
theorem rtimes_any (a b : Int) (ha : 0 ≤ a) (ha2 : a ≤ 4611686018427387904) (hb : 0 ≤ b) (_hb2 : b ≤ 4611686018427387904) (w : World) :
    Calls Tryd.prog 32 #[.int .i64 a, .int .i64 b] w fun e w' => e = .returned (.int .i64 (tm a b)) ∧ w' = w := by
  have hm := tm_le ha hb
  unfold tm at *
  by_cases h0 : 0 < a
  · have h00 : ¬ a = 0 := by omega
    by_cases h : 4611686018427387904 / a < b
    · rw [if_pos ⟨h0, h⟩]
      clear hm
      go_enter Tryd.func32, Tryd.ntmps32
      go_wp2_with fail
      go_ret
      exact ⟨rfl, rfl⟩
    · rw [if_neg (fun e => h e.2)] at hm ⊢
      obtain ⟨m1, m2⟩ := hm
      generalize hq : a * b = ab at *
      go_enter Tryd.func32, Tryd.ntmps32
      go_wp2_with fail
      go_ret
      exact ⟨rfl, rfl⟩
  · obtain rfl : a = 0 := by omega
    rw [if_neg (fun e => h0 e.1)]
    clear hm
    go_enter Tryd.func32, Tryd.ntmps32
    go_wp2_with fail
    go_ret
    exact ⟨by simp, rfl⟩
end Go.Proofs.YtelbakkgobkdaaaDoor.Vf

namespace Go.Proofs.YtelbakkgobkdaaaDoor.Vf
open Go.RowKit Go.Proofs.YtelbakkgobkdaaaDoor.Nm
set_option maxHeartbeats 12800000 in
set_option maxRecDepth 100000 in
/-- the reference's Fuel -/
theorem rfuel_any (co : Option Addr) (cc : Nat) (p : Pg) (w : World) (hc : Rd w co (cC p.cd)) (hl : p.cd.length ≤ 262144) (ho : ∀ i, i < p.cd.length → FuOk p i) :
    Calls Tryd.prog 21 #[.slice co p.cd.length cc] w fun e w' => ∃ fb, e = .returned (.slice (some ⟨fb, 0, none⟩) p.cd.length p.cd.length) ∧ w.heap.size ≤ fb ∧ w'.heap[fb]? = some (.cells (fuC p.cd.length (fuel p)).toArray 3 (0, 0)) ∧ Below w.heap.size w w' := by
  have hmk := mk_ints p.cd.length (by omega)
  have hl' : (p.cd.length : Int) ≤ 262144 := by omega
  have H0 : Hid (Below w.heap.size w (w.alloc (.cells (fuC p.cd.length (fun _ => 0)).toArray 3)) ∧ (w.alloc (.cells (fuC p.cd.length (fun _ => 0)).toArray 3)).heap[w.heap.size]? = some (.cells (fuC p.cd.length (fun _ => 0)).toArray 3 (0, 0))) := ⟨(Below.refl _ w).alloc (Nat.le_refl _) _, heap_alloc_new _ _⟩
  have HO : Hid (∀ i, i < p.cd.length → FuOk p i) := ho
  have HC : Hid (Rd w co (cC p.cd)) := hc
  have HL : Hid (p.cd.length ≤ 262144) := hl
  clear hc ho hl
  go_enter Tryd.func21, Tryd.ntmps21
  go_wp2_with fail
  generalize w.alloc (.cells (fuC p.cd.length (fun _ => 0)).toArray 3) = W0 at *
  go_loopg [4] p.cd.length (fun gq x wr => ∃ j : Nat, j ≤ p.cd.length ∧ gq = p.cd.length - j ∧ x = .int .i64 ((p.cd.length : Int) - 1 - (j : Int)) ∧ Below w.heap.size w wr ∧ wr.heap[w.heap.size]? = some (.cells (fuC p.cd.length (fuR p j)).toArray 3 (0, 0)))
  case atStart => exact ⟨0, Nat.zero_le _, rfl, by simp, H0.out.1, H0.out.2⟩
  case round =>
    obtain ⟨j, hj, hgk, rfl, hb, hx⟩ := hrel
    have HG : Hid (gk = p.cd.length - j ∧ Below w.heap.size w wr ∧ wr.heap[w.heap.size]? = some (.cells (fuC p.cd.length (fuR p j)).toArray 3 (0, 0))) := ⟨hgk, hb, hx⟩
    clear hgk hb hx
    by_cases hlt : j < p.cd.length
    · obtain ⟨i, hi⟩ : ∃ i, p.cd.length = i + j + 1 := ⟨p.cd.length - 1 - j, by omega⟩
      have hii : (p.cd.length : Int) - 1 - (j : Int) = (i : Int) := by omega
      have hi0 : i < p.cd.length := by omega
      have hi' : (i : Int) < (p.cd.length : Int) := by omega
      have hin : (0 : Int) ≤ (i : Int) := by omega
      have HE : Hid (p.cd.length - 1 - j = i ∧ j < p.cd.length) := ⟨by omega, hlt⟩
      have hb := fuR_le HO.out j (by omega)
      obtain ⟨s1, s2⟩ := fuB_le (i := i) hb (HO.out i hi0)
      have HSm : Hid (∀ W, Calls Tryd.prog 31 #[.int .i64 1, .int .i64 (fuB p (fuR p j) i)] W fun e w' => e = .returned (.int .i64 (sm 1 (fuB p (fuR p j) i))) ∧ w' = W) := fun W => rsum_any 1 _ (by omega) (by omega) s1 s2 W
      have HFr : Hid (∀ k, fuR p (j + 1) k = if k = i then sm 1 (fuB p (fuR p j) i) else fuR p j k) := fun k => by
        show (if k = p.cd.length - 1 - j then sm 1 (fuB p (fuR p j) (p.cd.length - 1 - j)) else fuR p j k) = _
        rw [HE.out.1]
      obtain ⟨cg, cf, rfl, hcg, d0, d1, d2, d3, d4⟩ := rd_ins (HC.out.below HG.out.2.1) hi0
      obtain ⟨R, hR⟩ : ∃ R, R = fuB p (fuR p j) i := ⟨_, rfl⟩
      rw [← hR] at HSm HFr
      unfold fuB at hR
      have hx : p.at i = p.cd[i] := at_eq hi0
      have hoj := (HO.out i hi0).j
      have hoe := (HO.out i hi0).e
      have hol := (HO.out i hi0).l
      have hoo := (HO.out i hi0).o
      rw [hx] at hR hoj hoe hol hoo
      obtain ⟨x, hxx⟩ : ∃ x, x = p.cd[i] := ⟨_, rfl⟩
      obtain ⟨y0, y1, y2, y3, y4⟩ := x
      simp only [← hxx] at hR hoj hoe hol hoo d0 d1 d2 d3 d4
      generalize hsv : sm 1 R = sv at *
      have hbA : Below wr.heap.size wr (wr.alloc (.cells #[.int .i64 y0, .int .i64 y1, .int .i64 y2, .int .i64 y3, .int .i64 y4] 54)) := (Below.refl _ wr).alloc (Nat.le_refl _) _
      have hbW : Below w.heap.size w (wr.alloc (.cells #[.int .i64 y0, .int .i64 y1, .int .i64 y2, .int .i64 y3, .int .i64 y4] 54)) := HG.out.2.1.trans (hbA.mono HG.out.2.1.size)
      have hfA : (wr.alloc (.cells #[.int .i64 y0, .int .i64 y1, .int .i64 y2, .int .i64 y3, .int .i64 y4] 54)).heap[w.heap.size]? = some (.cells (fuC p.cd.length (fuR p j)).toArray 3 (0, 0)) := (hbA.block _ (blk_lt HG.out.2.2)).trans HG.out.2.2
      have HN : Hid (∀ X, Below (wr.alloc (.cells #[.int .i64 y0, .int .i64 y1, .int .i64 y2, .int .i64 y3, .int .i64 y4] 54)).heap.size (wr.alloc (.cells #[.int .i64 y0, .int .i64 y1, .int .i64 y2, .int .i64 y3, .int .i64 y4] 54)) X → X.cell? ⟨w.heap.size, i, none⟩ = some (.int .i64 (fuR p j i)) ∧ X.frozen? ⟨w.heap.size, i, none⟩ = false) := fun X hX => by
        have e := (hX.block _ (blk_lt hfA)).trans hfA
        exact ⟨cell_of e (fuC_at hi0), by simp only [World.frozen?, e]; rfl⟩
      have HN2 : Hid (∀ X, Below (wr.alloc (.cells #[.int .i64 y0, .int .i64 y1, .int .i64 y2, .int .i64 y3, .int .i64 y4] 54)).heap.size (wr.alloc (.cells #[.int .i64 y0, .int .i64 y1, .int .i64 y2, .int .i64 y3, .int .i64 y4] 54)) X → Below w.heap.size w (X.setCell ⟨w.heap.size, i, none⟩ (.int .i64 sv)) ∧ (X.setCell ⟨w.heap.size, i, none⟩ (.int .i64 sv)).heap[w.heap.size]? = some (.cells (fuC p.cd.length (fuR p (j + 1))).toArray 3 (0, 0))) := fun X hX => by
        have e := (hX.block _ (blk_lt hfA)).trans hfA
        refine ⟨(hbW.trans (hX.mono hbW.size)).setCell (p := ⟨w.heap.size, i, none⟩) (Nat.le_refl _) _, ?_⟩
        rw [heap_setCell_same X w.heap.size i _ _ _ e, fuC_set sv hi0]
        rw [show (fun k => if k = i then sv else fuR p j k) = fuR p (j + 1) from funext fun k => (HFr.out k).symm]
      have HF : Hid (∀ k, k < p.cd.length → (wr.alloc (.cells #[.int .i64 y0, .int .i64 y1, .int .i64 y2, .int .i64 y3, .int .i64 y4] 54)).cell? ⟨w.heap.size, k, none⟩ = some (.int .i64 (fuR p j k))) := fun k hk => cell_of hfA (fuC_at hk)
      have HCd : Hid (Rd (wr.alloc (.cells #[.int .i64 y0, .int .i64 y1, .int .i64 y2, .int .i64 y3, .int .i64 y4] 54)) (some ⟨cg, cf, none⟩) (cC p.cd)) := HC.out.below hbW
      have HX : Hid ((wr.alloc (.cells #[.int .i64 y0, .int .i64 y1, .int .i64 y2, .int .i64 y3, .int .i64 y4] 54)).heap[wr.heap.size]? = some (.cells #[.int .i64 y0, .int .i64 y1, .int .i64 y2, .int .i64 y3, .int .i64 y4] 54 (0, 0))) := heap_alloc_new _ _
      have HR : Hid _ := hR
      generalize fuR p j = f at *
      rw [hii]
      clear hi hlt s1 s2 hj hbA hbW hfA hx hxx hR hcg HO HFr hsv
      go_upto_region 6 with fail
      obtain ⟨i0, i1, i2, i3, i4⟩ := cells5 HX.out
      generalize wr.alloc (.cells #[.int .i64 y0, .int .i64 y1, .int .i64 y2, .int .i64 y3, .int .i64 y4] 54) = W1 at *
      have hR := HR.out
      clear HR HX d0 d1 d2 d3 d4
      by_cases o0 : y0 = 0 ∨ y0 = 27
      · have hr : R = 0 := by rw [hR]; rcases o0 with rfl | rfl <;> rfl
        clear hR hoj hoe hol hoo
        subst hr
        rcases o0 with rfl | rfl
        all_goals
          go_wp2_with fail
          refine Calls.mono (HSm.out _) ?_
          rintro e w3 ⟨rfl, hw3⟩
          have hb3 : Below W1.heap.size W1 w3 := by rw [hw3]; exact Below.refl _ _
          clear hw3
          obtain ⟨c0, fz⟩ := HN.out w3 hb3
          have HX3 := show Hid _ from HN2.out w3 hb3
          clear hb3
          go_wp2_with fail
          go_roundg (p.cd.length - (j + 1))
          case measure => have h1 := HG.out.1; have := HE.out.2; omega
          case rel => exact ⟨j + 1, HE.out.2, rfl, by rw [← hii]; go_num, HX3.out.1, HX3.out.2⟩
      have o1 : ¬ y0 = 0 := fun e => o0 (Or.inl e)
      have o2 : ¬ y0 = 27 := fun e => o0 (Or.inr e)
      simp only [o1, o2, decide_false, Bool.or_self, Bool.false_eq_true, if_false] at hR
      clear o0
      by_cases o22 : y0 = 22
      · subst o22
        obtain ⟨n, rfl, hn⟩ : ∃ n : Nat, y1 = (n : Int) ∧ n < p.cd.length := ⟨y1.toNat, by have := hoj rfl; omega, by have := hoj rfl; omega⟩
        have hn' : (n : Int) < (p.cd.length : Int) := by omega
        have k0 := HF.out n hn
        simp only [if_true, Int.toNat_natCast] at hR
        rw [← hR] at k0
        clear hR hoj hoe hol hoo hn
        go_wp2_with fail
        refine Calls.mono (HSm.out _) ?_
        rintro e w3 ⟨rfl, hw3⟩
        have hb3 : Below W1.heap.size W1 w3 := by rw [hw3]; exact Below.refl _ _
        clear hw3
        obtain ⟨c0, fz⟩ := HN.out w3 hb3
        have HX3 := show Hid _ from HN2.out w3 hb3
        clear hb3
        go_wp2_with fail
        go_roundg (p.cd.length - (j + 1))
        case measure => have h1 := HG.out.1; have := HE.out.2; omega
        case rel => exact ⟨j + 1, HE.out.2, rfl, by rw [← hii]; go_num, HX3.out.1, HX3.out.2⟩
      simp only [o22, if_false] at hR
      by_cases o23 : y0 = 23
      · subst o23
        obtain ⟨n, rfl, hn⟩ : ∃ n : Nat, y1 = (n : Int) ∧ n < p.cd.length := ⟨y1.toNat, by have := hoe rfl; omega, by have := hoe rfl; omega⟩
        have hn' : (n : Int) < (p.cd.length : Int) := by omega
        have hi1 := (hoe rfl).1
        have hi1' : (i : Int) + 1 < (p.cd.length : Int) := by omega
        have k0 := HF.out n hn
        have k1 := HF.out (i + 1) hi1
        simp only [if_true, Int.toNat_natCast] at hR
        clear hoj hoe hol hoo hn hi1 hb
        generalize f (i + 1) = f1 at *
        generalize f n = f2 at *
        by_cases hm : f1 < f2
        · have hr : R = f2 := by omega
          subst hr
          clear hR
          go_wp2_with fail
          refine Calls.mono (HSm.out _) ?_
          rintro e w3 ⟨rfl, hw3⟩
          have hb3 : Below W1.heap.size W1 w3 := by rw [hw3]; exact Below.refl _ _
          clear hw3
          obtain ⟨c0, fz⟩ := HN.out w3 hb3
          have HX3 := show Hid _ from HN2.out w3 hb3
          clear hb3
          go_wp2_with fail
          go_roundg (p.cd.length - (j + 1))
          case measure => have h1 := HG.out.1; have := HE.out.2; omega
          case rel => exact ⟨j + 1, HE.out.2, rfl, by rw [← hii]; go_num, HX3.out.1, HX3.out.2⟩
        · have hr : R = f1 := by omega
          subst hr
          clear hR
          go_wp2_with fail
          refine Calls.mono (HSm.out _) ?_
          rintro e w3 ⟨rfl, hw3⟩
          have hb3 : Below W1.heap.size W1 w3 := by rw [hw3]; exact Below.refl _ _
          clear hw3
          obtain ⟨c0, fz⟩ := HN.out w3 hb3
          have HX3 := show Hid _ from HN2.out w3 hb3
          clear hb3
          go_wp2_with fail
          go_roundg (p.cd.length - (j + 1))
          case measure => have h1 := HG.out.1; have := HE.out.2; omega
          case rel => exact ⟨j + 1, HE.out.2, rfl, by rw [← hii]; go_num, HX3.out.1, HX3.out.2⟩
      simp only [o23, if_false] at hR
      by_cases o24 : y0 = 24
      · subst o24
        obtain ⟨q1, q2, q3, q4, q5⟩ := hol rfl
        have hi1 : i + 1 < p.cd.length := by omega
        have hi1' : (i : Int) + 1 < (p.cd.length : Int) := by omega
        have hi2' : (i : Int) + 2 < (p.cd.length : Int) := by omega
        have hw1 : IntKind.i64.wrap ((i : Int) + 1) = (i : Int) + 1 := by rw [IntKind.wrap_i64]; omega
        have hw2 : IntKind.i64.wrap ((i : Int) + 2) = (i : Int) + 2 := by rw [IntKind.wrap_i64]; omega
        have hz1 : (0 : Int) ≤ (i : Int) + 1 := by omega
        have hz2 : (0 : Int) ≤ (i : Int) + 2 := by omega
        have ht1 : ((i : Int) + 1).toNat = i + 1 := by omega
        have ht2 : ((i : Int) + 2).toNat = i + 2 := by omega
        have k2 := HF.out (i + 2) q1
        obtain ⟨cg2, cf2, hco2, -, -, e1, -⟩ := rd_ins HCd.out hi1
        obtain ⟨rfl, rfl⟩ : cg = cg2 ∧ cf = cf2 := by cases hco2; exact ⟨rfl, rfl⟩
        have hx1 : (p.at (i + 1)).a = p.cd[i + 1].a := by rw [at_eq hi1]
        rw [hx1] at q4 q5
        obtain ⟨n, hn0, hn⟩ : ∃ n : Nat, p.cd[i + 1].a = (n : Int) ∧ n < p.cd.length := ⟨p.cd[i + 1].a.toNat, by omega, by omega⟩
        have hn' : (n : Int) < (p.cd.length : Int) := by omega
        have k0 := HF.out n hn
        have e1' : W1.cell? ⟨cg, cf + (i + 1) * 5 + 1, none⟩ = some (.int .i64 (n : Int)) := e1.trans (congrArg (fun z => some (Value.int .i64 z)) hn0)
        simp only [if_true] at hR
        rw [hx1, show p.cd[i + 1].a.toNat = n by omega] at hR
        obtain ⟨b1, b2⟩ := hb (i + 2)
        obtain ⟨b3, b4⟩ := hb n
        obtain ⟨s1, s2⟩ := sm_le (a := 1) (b := f (i + 2)) (by omega) b1
        obtain ⟨s3, s4⟩ := tm_le (a := y1) (b := sm 1 (f (i + 2))) q2 s1
        obtain ⟨s5, s6⟩ := sm_le (a := 1) (b := f n) (by omega) b3
        have H1 : Hid (∀ W, Calls Tryd.prog 31 #[.int .i64 1, .int .i64 (f (i + 2))] W fun e w' => e = .returned (.int .i64 (sm 1 (f (i + 2)))) ∧ w' = W) := fun W => rsum_any 1 (f (i + 2)) (by omega) (by omega) b1 b2 W
        have H2 : Hid (∀ W, Calls Tryd.prog 32 #[.int .i64 y1, .int .i64 (sm 1 (f (i + 2)))] W fun e w' => e = .returned (.int .i64 (tm y1 (sm 1 (f (i + 2))))) ∧ w' = W) := fun W => rtimes_any y1 _ q2 q3 s1 s2 W
        have H3 : Hid (∀ W, Calls Tryd.prog 31 #[.int .i64 1, .int .i64 (f n)] W fun e w' => e = .returned (.int .i64 (sm 1 (f n))) ∧ w' = W) := fun W => rsum_any 1 (f n) (by omega) (by omega) b3 b4 W
        have H4 : Hid (∀ W, Calls Tryd.prog 31 #[.int .i64 (tm y1 (sm 1 (f (i + 2)))), .int .i64 (sm 1 (f n))] W fun e w' => e = .returned (.int .i64 (sm (tm y1 (sm 1 (f (i + 2)))) (sm 1 (f n)))) ∧ w' = W) := fun W => rsum_any _ _ s3 s4 s5 s6 W
        generalize sm (tm y1 (sm 1 (f (i + 2)))) (sm 1 (f n)) = r4 at *
        generalize tm y1 (sm 1 (f (i + 2))) = r2 at *
        generalize sm 1 (f (i + 2)) = r1 at *
        generalize sm 1 (f n) = r3 at *
        subst hR
        clear hoj hoe hol hoo hn hi1 hb e1 hx1 hn0 q4 q5 hco2 s1 s2 s3 s4 s5 s6 b1 b2 b3 b4
        go_wp2_with fail
        refine wp_region_held (S := fun w' : World => w'.cell? ⟨wr.heap.size, 1, none⟩ = some (.int .i64 y1) ∧ w'.cell? ⟨w.heap.size, i + 2, none⟩ = some (.int .i64 (f (i + 2))) ∧ w'.cell? ⟨w.heap.size, n, none⟩ = some (.int .i64 (f n)) ∧ w'.cell? ⟨cg, cf + (i + 1) * 5 + 1, none⟩ = some (.int .i64 (n : Int))) (by kernel_rfl) ?_
        change wpAnyH _ _ _ _ _ _ _ _ W1.drew
        have hS : (fun w' : World => w'.cell? ⟨wr.heap.size, 1, none⟩ = some (.int .i64 y1) ∧ w'.cell? ⟨w.heap.size, i + 2, none⟩ = some (.int .i64 (f (i + 2))) ∧ w'.cell? ⟨w.heap.size, n, none⟩ = some (.int .i64 (f n)) ∧ w'.cell? ⟨cg, cf + (i + 1) * 5 + 1, none⟩ = some (.int .i64 (n : Int))) W1.drew := ⟨i1, k2, k0, e1'⟩
        have HDr : Hid (Below W1.heap.size W1 W1.drew) := (Below.refl _ W1).drew
        clear i0 i1 i2 i3 i4 k2 k0 e1'
        generalize W1.drew = wd at *
        refine tqA 0 rfl hS ?_
        refine tqA 1 rfl hS ?_
        refine tqA 2 rfl hS ?_
        refine tqA 3 rfl hS ?_
        refine tqA (v := .int .i64 ((i : Int) + 2)) 4 rfl hS ?_
        refine tqA 5 rfl hS ?_
        refine tqA 6 rfl hS ?_
        refine tqA 9 rfl hS ?_
        refine tqA 10 rfl hS ?_
        refine tqA 11 rfl hS ?_
        refine tqA (v := .int .i64 ((i : Int) + 1)) 12 rfl hS ?_
        refine tqA 13 rfl hS ?_
        refine tqA 14 rfl hS ?_
        refine tqA 15 rfl hS ?_
        refine tqA 16 rfl hS ?_
        refine tqA 17 rfl hS ?_
        go_simp
        refine wpAnyH_ready (rs := [7]) (by kernel_rfl) (by simp) ?_
        refine AllReadyH.cons rfl (fun K hK => ?_) AllReadyH.nil
        go_simp
        refine Calls.mono (H1.out _) ?_
        rintro e wq ⟨rfl, hwq⟩
        rw [hwq]
        clear hwq wq
        refine hK.out _ _ hS (fun hS => ?_)
        clear hK K
        go_simp
        refine wpAnyH_ready (rs := [8]) (by kernel_rfl) (by simp) ?_
        refine AllReadyH.cons rfl (fun K hK => ?_) AllReadyH.nil
        go_simp
        refine Calls.mono (H2.out _) ?_
        rintro e wq ⟨rfl, hwq⟩
        rw [hwq]
        clear hwq wq
        refine hK.out _ _ hS (fun hS => ?_)
        clear hK K
        go_simp
        refine wpAnyH_ready (rs := [18]) (by kernel_rfl) (by simp) ?_
        refine AllReadyH.cons rfl (fun K hK => ?_) AllReadyH.nil
        go_simp
        refine Calls.mono (H3.out _) ?_
        rintro e wq ⟨rfl, hwq⟩
        rw [hwq]
        clear hwq wq
        refine hK.out _ _ hS (fun hS => ?_)
        clear hK K
        go_simp
        refine wpAnyH_ready (rs := [19]) (by kernel_rfl) (by simp) ?_
        refine AllReadyH.cons rfl (fun K hK => ?_) AllReadyH.nil
        go_simp
        refine Calls.mono (H4.out _) ?_
        rintro e wq ⟨rfl, hwq⟩
        rw [hwq]
        clear hwq wq
        refine hK.out _ _ hS (fun hS => ?_)
        clear hK K
        go_simp
        refine tqA 20 rfl hS ?_
        refine wpAnyH_done (by kernel_rfl) ?_ _
        clear hS
        go_simp
        go_wp2_with fail
        refine Calls.mono (HSm.out _) ?_
        rintro e w3 ⟨rfl, hw3⟩
        have hb3 : Below W1.heap.size W1 w3 := by rw [hw3]; exact HDr.out
        clear hw3
        obtain ⟨c0, fz⟩ := HN.out w3 hb3
        have HX3 := show Hid _ from HN2.out w3 hb3
        clear hb3
        go_wp2_with fail
        go_roundg (p.cd.length - (j + 1))
        case measure => have h1 := HG.out.1; have := HE.out.2; omega
        case rel => exact ⟨j + 1, HE.out.2, rfl, by rw [← hii]; go_num, HX3.out.1, HX3.out.2⟩
      simp only [o24, if_false] at hR
      have hi1 := hoo o1 o2 o22
      have hi1' : (i : Int) + 1 < (p.cd.length : Int) := by omega
      have k1 := HF.out (i + 1) hi1
      rw [← hR] at k1
      clear hR hoj hoe hol hoo hi1
      go_wp2_with fail
      refine Calls.mono (HSm.out _) ?_
      rintro e w3 ⟨rfl, hw3⟩
      have hb3 : Below W1.heap.size W1 w3 := by rw [hw3]; exact Below.refl _ _
      clear hw3
      obtain ⟨c0, fz⟩ := HN.out w3 hb3
      have HX3 := show Hid _ from HN2.out w3 hb3
      clear hb3
      go_wp2_with fail
      go_roundg (p.cd.length - (j + 1))
      case measure => have h1 := HG.out.1; have := HE.out.2; omega
      case rel => exact ⟨j + 1, HE.out.2, rfl, by rw [← hii]; go_num, HX3.out.1, HX3.out.2⟩
    · obtain rfl : j = p.cd.length := by omega
      have hii : (p.cd.length : Int) - 1 - (p.cd.length : Int) = -1 := by omega
      rw [hii]
      clear hlt hj
      go_wp2_with fail
      go_ret
      exact ⟨_, rfl, Nat.le_refl _, HG.out.2.2, HG.out.2.1⟩
end Go.Proofs.YtelbakkgobkdaaaDoor.Vf
