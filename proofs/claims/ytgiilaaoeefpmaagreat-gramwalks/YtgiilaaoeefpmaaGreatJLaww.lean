import Derived.Test.YtgiilaaoeefpmaaGreatJKnown
import Derived.Test.YtgiilaaoeefpmaaGreatJCheck
import Derived.Test.YtgiilaaoeefpmaaGreatJWalk
import Derived.Test.YtgiilaaoeefpmaaGreatLxBase
import Derived.ProofKit
import Derived.OpenShut
import Derived.ShutString
import Derived.ChangeOld
import Derived.Below
import Derived.JoinedCond
import Derived.SizedLaws
import Derived.SliceStrings
import Derived.ChangeMaps5
import Derived.Test.YtgiilaaoeefpmaaGreatJKind
import Derived.Deep.Slices
import Derived.ChangeSame
namespace Go.Proofs.YtgiilaaoeefpmaaGreat.gramWalks
open Go.RowKit Go.Shelf Go.Proofs.YtgiilaaoeefpmaaGreat.Sp Go.Proofs.YtgiilaaoeefpmaaGreat.Lx Go.Proofs.YtgiilaaoeefpmaaGreat.Gr
attribute [local go_sem] Oper.semAt_some

theorem chk_cases (l : List Rz) : ((chk l).1 ≠ 0) ∨ (chk l = (0, 0) ∧ (wrong [ab1] 0 l).2 = false) := by
  unfold chk
  split
  · left; simp
  · rename_i h
    split
    · left; simp
    · right; exact ⟨rfl, by simpa using h⟩


theorem loop_by {F : Fence} {n : Nat} {P : Program} {c : Code} {Q : Exit → Act → World → Prop} (m : Nat) (I : Nat → Act → World → Prop) (h : ∀ k a w, I k a w → k < m → c.wpIn F n P (Exit.then (fun a' w' => I (k + 1) a' w' ∧ k + 1 < m) Q) a w) (a : Act) (w : World) (h0 : I 0 a w) (hm : 0 < m) :
    (Code.loop c).wpIn F n P Q a w := by
  have key : ∀ j k a w, k + j + 1 = m → I k a w → Code.roundsIn F n P c Q (j + 1) a w := by
    intro j
    induction j with
    | zero =>
      intro k a w e hi
      rw [roundsIn_succ]
      refine wpIn_mono (h k a w hi (by omega)) ?_
      intro e a w hp
      cases e with
      | normal => exact absurd hp.2 (by omega)
      | _ => exact hp
    | succ j ih =>
      intro k a w e hi
      rw [roundsIn_succ]
      refine wpIn_mono (h k a w hi (by omega)) ?_
      intro e a w hp
      cases e with
      | normal => exact ih (k + 1) a w (by omega) hp.1
      | _ => exact hp
  exact wpIn_loop_rounds (m - 1 + 1) (key (m - 1) 0 a w (by omega) h0)

theorem frozen_below {n : Nat} {A B : World} (h : Below n A B) (p : Nat) (hp : p < n) : B.frozen? ⟨p, 0, none⟩ = A.frozen? ⟨p, 0, none⟩ := by
  rw [World.frozen?, World.frozen?, h.block p hp]

theorem cell_below {n : Nat} {A B : World} (h : Below n A B) {p j : Nat} {v : Value} (hv : A.cell? ⟨p, j, none⟩ = some v) (hp : p < n) : B.cell? ⟨p, j, none⟩ = some v := (h.cell (p := ⟨p, j, none⟩) hp).trans hv

/-- the marks of the turns so far -/
def Mk (n : Nat) (k : Nat) (ds : List Deferred) (W : World) : Prop :=
  (k = 0 ∧ ds = []) ∨ (k = 1 ∧ ∃ D : Nat, n ≤ D ∧ ds = [{ target := .collected D, args := #[] }] ∧ W.heap[D]? = some (.deferred (some []))) ∨
  (k = 2 ∧ ∃ D D' : Nat, n ≤ D ∧ D < D' ∧ ds = [{ target := .collected D', args := #[] }, { target := .collected D, args := #[] }] ∧ W.heap[D]? = some (.deferred (some [])) ∧ W.heap[D']? = some (.deferred (some [])))

theorem Mk.step {n k : Nat} {ds : List Deferred} {W W' : World} {D : Nat} (h : Mk n k ds W) (hk : k < 2) (hn : n ≤ W.heap.size) (hb : Below W.heap.size W W') (hD : W.heap.size ≤ D) (hd : W'.heap[D]? = some (.deferred (some []))) :
    Mk n (k + 1) ({ target := .collected D, args := #[] } :: ds) W' := by
  rcases h with ⟨rfl, rfl⟩ | ⟨rfl, E, e1, rfl, e2⟩ | ⟨rfl, _⟩
  · exact .inr (.inl ⟨rfl, D, by omega, rfl, hd⟩)
  · have hE := (Array.getElem?_eq_some_iff.1 e2).1
    exact .inr (.inr ⟨rfl, E, D, e1, by omega, rfl, (hb.block E hE).trans e2, hd⟩)
  · omega

set_option maxHeartbeats 12800000 in
set_option maxRecDepth 100000 in
theorem walk (ao : Option Addr) (l : List Rz) (cap : Nat) (st : Int) (w : World) (h : IsRz w ao l) (hn : l.length ≤ 2932031007317) (hkd : ∀ r ∈ l, r.kids ≤ 9223372036854775807 ∧ r.name.size ≤ 4611686018427387000) :
    Calls Tryz.prog 4 #[.slice ao l.length cap, .int .i64 st] w fun e w' => e = .returned (.bool true) ∧ Below w.heap.size w w' := by
  have HI : Hid (IsRz w ao l) := h
  have HKd : Hid (∀ r ∈ l, r.kids ≤ 9223372036854775807 ∧ r.name.size ≤ 4611686018427387000) := hkd
  have HN : Hid (l.length ≤ 2932031007317) := hn
  have hnil : ∀ (cp : Array Value) (u : World), (binOp BinOp.eql 39 (.func (.func 43) #[] cp) .nilFunc).run Tryz.prog u = .ok (.bool false) u := fun _ _ => rfl
  have hln : (l.length : Int) ≤ 2932031007317 := by omega
  clear h hkd hn
  refine (callsIn_wide (n := 9)).1 ?_
  refine callsIn_of_wp_marks Tryz.func4 rfl trivial ?_ rfl
  simp only [Tryz.ntmps4, List.size_toArray, List.length_cons, List.length_nil, Nat.reduceAdd, Nat.reduceSub, Array.replicate_succ, Array.replicate_zero, List.push_toArray, List.append_toArray, List.nil_append, List.cons_append]
  gi_wp2
  refine ⟨trivial, (callsIn_wide.2 (known_any _)).mono ?_⟩
  rintro e w1 ⟨rfl, hB1⟩
  have hz1 : w.heap.size + 2 ≤ w1.heap.size := by have := hB1.size; simpa using this
  have hk3 : w1.heap[w.heap.size]? = some (.cells #[.int .i64 st] 3 (0, 0)) := (hB1.block w.heap.size (by simp; omega)).trans ((Below.heap_alloc _ _ _ (by simp)).trans (heap_alloc_new w _))
  have hk4 : w1.heap[w.heap.size + 1]? = some (.cells #[.bool false] 4 (0, 0)) := (hB1.block (w.heap.size + 1) (by simp)).trans (by have := heap_alloc_new (w.alloc (.cells #[.int .i64 st] 3)) (.cells #[.bool false] 4); rw [World.size_alloc] at this; exact this)
  have hW1 : Below w.heap.size w w1 := (((Below.refl _ w).alloc (Nat.le_refl _) _).alloc (by simp) _).trans (hB1.mono (by simp; omega))
  have c4 : w1.cell? ⟨w.heap.size + 1, 0, none⟩ = some (.bool false) := by rw [World.cell?, hk4]; rfl
  have f4 : w1.frozen? ⟨w.heap.size + 1, 0, none⟩ = false := by rw [World.frozen?, hk4]; rfl
  clear hB1
  by_cases h200 : (200 : Int) < (l.length : Int)
  · gi_wp2
    refine ⟨trivial, ?_⟩
    gi_wp2
    refine ⟨.bool true, ?_, rfl, hW1.setCell (p := ⟨w.heap.size + 1, 0, none⟩) (by simp) _⟩
    have hc5 := World.cell?_setCell_same' w1 ⟨w.heap.size + 1, 0, none⟩ (.bool true) (by rw [c4]; rfl)
    simp [results, Tryz.f4, go_sem, hc5]
  · have h200' : ¬ 200 < l.length := by omega
    gi_wp2
    refine ⟨trivial, (callsIn_wide.2 (refCheck_any ao l cap w1 (HI.out.below hW1) HN.out HKd.out)).mono ?_⟩
    rintro e w2 ⟨rfl, hB2⟩
    have hW2 : Below w.heap.size w w2 := hW1.trans (hB2.mono hW1.size)
    have hm3 : w2.heap[w.heap.size]? = some (.cells #[.int .i64 st] 3 (0, 0)) := (hB2.block w.heap.size (by omega)).trans hk3
    have hm4 : w2.heap[w.heap.size + 1]? = some (.cells #[.bool false] 4 (0, 0)) := (hB2.block (w.heap.size + 1) (by omega)).trans hk4
    have hz2 := hB2.size
    have d4 : w2.cell? ⟨w.heap.size + 1, 0, none⟩ = some (.bool false) := by rw [World.cell?, hm4]; rfl
    have g4 : w2.frozen? ⟨w.heap.size + 1, 0, none⟩ = false := by rw [World.frozen?, hm4]; rfl
    clear c4 f4
    rcases chk_cases l with hc | ⟨hc, hwr⟩
    · have hb : (((chk l).1 : Int) != 0) = true := by simp; omega
      have hb2 : (((chk l).1 : Int) == 0) = false := by simp; omega
      gi_wp2
      refine ⟨.bool true, ?_, rfl, hW2.setCell (p := ⟨w.heap.size + 1, 0, none⟩) (by simp) _⟩
      have hc5 := World.cell?_setCell_same' w2 ⟨w.heap.size + 1, 0, none⟩ (.bool true) (by rw [d4]; rfl)
      simp [results, Tryz.f4, go_sem, hc5]
    · obtain ⟨hT, h0⟩ := tree_of hwr
      rw [hc]
      have HTr : Hid (TreeZ l) := hT
      clear hT hwr
      gi_wp2
      refine ⟨trivial, (callsIn_wide.2 (refDepths_any ao l cap w2 (HI.out.below hW2) HN.out HTr.out h0)).mono ?_⟩
      rintro e w3 ⟨gd, rfl, hgd, hRd, hB3⟩
      have hW3 : Below w.heap.size w w3 := hW2.trans (hB3.mono hW2.size)
      have hz3 := hB3.size
      have hW4 : Below w.heap.size w (w3.alloc (.cells #[.slice (some ⟨gd, 0, none⟩) l.length l.length] 30)) := hW3.alloc hW3.size _
      gi_wp2
      refine ⟨trivial, (callsIn_wide.2 (walk_any ao l cap _ (HI.out.below hW4) HN.out h0)).mono ?_⟩
      rintro e w5 ⟨Bs, b, c, rfl, hBs, hbw, hBl, hcB, hcb, hB5⟩
      have hz4 : (w3.alloc (.cells #[.slice (some ⟨gd, 0, none⟩) l.length l.length] 30)).heap.size = w3.heap.size + 1 := World.size_alloc _ _
      rw [hz4] at hB5 hBl
      have hz5 := hB5.size
      rw [hz4] at hz5
      have hW5 : Below w.heap.size w w5 := hW4.trans (hB5.mono (by omega))
      have q3 : w5.heap[w.heap.size]? = some (.cells #[.int .i64 st] 3 (0, 0)) := (hB5.block _ (by omega)).trans ((Below.heap_alloc _ _ _ (by omega)).trans ((hB3.block _ (by omega)).trans hm3))
      have q4 : w5.heap[w.heap.size + 1]? = some (.cells #[.bool false] 4 (0, 0)) := (hB5.block _ (by omega)).trans ((Below.heap_alloc _ _ _ (by omega)).trans ((hB3.block _ (by omega)).trans hm4))
      have q5 : w5.heap[w3.heap.size]? = some (.cells #[.slice (some ⟨gd, 0, none⟩) l.length l.length] 30 (0, 0)) := (hB5.block _ (by omega)).trans (heap_alloc_new _ _)
      have hgl := hRd.lt
      have qd : ∀ j, j < l.length → w5.cell? ⟨gd, j, none⟩ = some (.int .i64 (dep l j : Int)) := fun j hj => (hB5.cell (p := ⟨gd, j, none⟩) (by show gd < _; omega)).trans ((World.cell?_of_block (a := ⟨gd, j, none⟩) (Below.heap_alloc w3 _ gd hgl)).trans (hRd.cell hj))
      clear hm3 hm4 d4 g4 hk3 hk4 hB2 hB3 hB5 hW1 hW2 hW3 hW4 HTr HI HKd
      obtain ⟨w6, hw6⟩ : ∃ w6, w6 = w5.alloc (.cells #[.func (.func 43) #[] #[.pointer (some ⟨Bs, 0, none⟩)]] 39) := ⟨_, rfl⟩
      have hz6 : w6.heap.size = w5.heap.size + 1 := by rw [hw6]; simp
      have hB6 : Below w5.heap.size w5 w6 := by rw [hw6]; exact (Below.refl _ _).alloc (Nat.le_refl _) _
      have q6 : w6.heap[w5.heap.size]? = some (.cells #[.func (.func 43) #[] #[.pointer (some ⟨Bs, 0, none⟩)]] 39 (0, 0)) := by rw [hw6]; exact heap_alloc_new _ _
      have r3 := (hB6.block _ (by omega)).trans q3
      have r4 := (hB6.block _ (by omega)).trans q4
      have r5 := (hB6.block _ (by omega)).trans q5
      have rd : Hid (∀ j, j < l.length → w6.cell? ⟨gd, j, none⟩ = some (.int .i64 (dep l j : Int))) := fun j hj => (hB6.cell (p := ⟨gd, j, none⟩) (by show gd < _; omega)).trans (qd j hj)
      have rb : Hid (∀ j, j < l.length → w6.cell? ⟨b, j, none⟩ = some (.int .i64 (dep l j : Int))) := fun j hj => (hB6.cell (p := ⟨b, j, none⟩) hbw).trans (hcb j hj)
      have rB : Hid (w6.cell? ⟨Bs, 0, none⟩ = some (.slice (some ⟨b, 0, none⟩) l.length c)) := (hB6.cell (p := ⟨Bs, 0, none⟩) hBs).trans hcB
      have hW6 : Below w.heap.size w w6 := hW5.trans (hB6.mono (by omega))
      clear q3 q4 q5 qd hcb hcB hRd hB6
      gi_wp2
      rw [← hw6]
      refine loop_by 3 (fun k a W => ∃ B7 x8 x31 x32 x33 x34 x35 x77 x78 x79 x80 x81 x82 x83 x84 x85 ds, a = { tmps := #[Value.slice ao l.length cap, Value.int .i64 st, undef, Value.pointer (some ⟨w.heap.size, 0, none⟩), Value.pointer (some ⟨w.heap.size + 1, 0, none⟩), Value.pointer (some ⟨w3.heap.size, 0, none⟩), Value.pointer (some ⟨w5.heap.size, 0, none⟩), Value.pointer (some ⟨B7, 0, none⟩), x8, undef, undef, undef, undef, undef, Value.bool true, Value.bool false, Value.slice ao l.length cap, Value.int .i64 (l.length : Int), Value.bool (decide ((200 : Int) < (l.length : Int))), Value.bool (decide ((200 : Int) < (l.length : Int))), Value.slice ao l.length cap, Value.agg #[Value.int .i64 0, Value.int .i64 0], Value.agg #[Value.int .i64 0, Value.int .i64 0], Value.bool false, Value.bool (decide ((200 : Int) < (l.length : Int))), Value.slice ao l.length cap, Value.slice (some ⟨gd, 0, none⟩) l.length l.length, Value.slice ao l.length cap, Value.func (Fn.func 43) #[] #[Value.pointer (some ⟨Bs, 0, none⟩)], Value.func (Fn.func 43) #[] #[Value.pointer (some ⟨Bs, 0, none⟩)], Value.bool false, x31, x32, x33, x34, x35, undef, undef, undef, undef, undef, undef, undef, undef, undef, undef, undef, undef, undef, undef, undef, undef, undef, undef, undef, undef, undef, undef, undef, undef, undef, undef, undef, undef, undef, undef, undef, undef, undef, undef, undef, undef, undef, undef, undef, undef, undef, x77, x78, x79, x80, x81, x82, x83, x84, x85], defers := ds } ∧ Below w6.heap.size w6 W ∧ w6.heap.size ≤ B7 ∧ B7 < W.heap.size ∧ W.cell? ⟨B7, 0, none⟩ = some (.int .i64 (k : Int)) ∧ W.frozen? ⟨B7, 0, none⟩ = false ∧ Mk w6.heap.size k ds W) ?round _ _ ?start (by omega)
      case start =>
        refine ⟨w5.heap.size + 1, _, _, _, _, _, _, _, _, _, _, _, _, _, _, _, [], rfl, (Below.refl _ _).alloc (Nat.le_refl _) _, by omega, by simp; omega, ?_, ?_, .inl ⟨rfl, rfl⟩⟩
        · rw [← hz6, World.cell?, heap_alloc_new]; rfl
        · rw [← hz6, World.frozen?, heap_alloc_new]; rfl
      case round =>
        rintro k a W ⟨B7, x8, x31, x32, x33, x34, x35, x77, x78, x79, x80, x81, x82, x83, x84, x85, ds, rfl, hB, hB7, hB7', c7, f7, hmk⟩ hk
        have hzW := hB.size
        have s3 : W.cell? ⟨w.heap.size, 0, none⟩ = some (.int .i64 st) := by rw [World.cell?, hB.block w.heap.size (by omega), r3]; rfl
        have s4 : W.cell? ⟨w.heap.size + 1, 0, none⟩ = some (.bool false) := by rw [World.cell?, hB.block (w.heap.size + 1) (by omega), r4]; rfl
        have t4 : W.frozen? ⟨w.heap.size + 1, 0, none⟩ = false := by rw [World.frozen?, hB.block (w.heap.size + 1) (by omega), r4]; rfl
        have s5 : W.cell? ⟨w3.heap.size, 0, none⟩ = some (.slice (some ⟨gd, 0, none⟩) l.length l.length) := by rw [World.cell?, hB.block w3.heap.size (by omega), r5]; rfl
        have s6 : W.cell? ⟨w5.heap.size, 0, none⟩ = some (.func (.func 43) #[] #[.pointer (some ⟨Bs, 0, none⟩)]) := by rw [World.cell?, hB.block w5.heap.size (by omega), q6]; rfl
        by_cases hk2 : k = 2
        · subst hk2
          rcases hmk with ⟨e, _⟩ | ⟨e, _⟩ | ⟨_, D, D', hD, hDD, rfl, hd, hd'⟩
          · omega
          · omega
          · gi_wp2
            have hK1 := (KeepsOthers.setCell W ⟨w.heap.size + 1, 0, none⟩ (.bool true)).same D _ hd rfl
            have hK2 := (KeepsOthers.setCell W ⟨w.heap.size + 1, 0, none⟩ (.bool true)).same D' _ hd' rfl
            have hK3 : ((W.setCell ⟨w.heap.size + 1, 0, none⟩ (.bool true)).putObj D' (.deferred none)).heap[D]? = some (.deferred (some [])) := (World.putObj_heap_other (by omega)).trans hK1
            refine ⟨by simp, .inl ⟨_, _, rfl, run_takeDeferred hK2, by simp, .inl ⟨_, _, rfl, run_takeDeferred hK3, ?_⟩⟩⟩
            have hc4 := cell_kept (World.cell?_setCell_same' W ⟨w.heap.size + 1, 0, none⟩ (.bool true) (by rw [s4]; rfl)) (grownBy_putObj' _ D' (.deferred none)) (fun r e => by cases e; exact ⟨_, hK2, rfl⟩)
            have hc5 := cell_kept hc4 (grownBy_putObj' _ D (.deferred none)) (fun r e => by cases e; exact ⟨_, hK3, rfl⟩)
            refine ⟨.bool true, ?_, rfl, ((hW6.trans (hB.mono (by omega))).setCell (p := ⟨w.heap.size + 1, 0, none⟩) (by simp) _).trans ((belowK_b (w := w) (Nat.le_refl _) _ D' _ _ (by omega) hK2 rfl rfl).trans (belowK_b (w := w) (Nat.le_refl _) _ D _ _ (by omega) hK3 rfl rfl))⟩
            simp [results, Tryz.f4, go_sem, hc5]
        · have hk1 : (k : Int) < 2 := by omega
          have hzN : (W.alloc (.cells #[.int .i64 0] 3)).heap.size = W.heap.size + 1 := World.size_alloc _ _
          have bN := Boxed.new W 3 (.int .i64 0)
          have hWN : Below W.heap.size W (W.alloc (.cells #[.int .i64 0] 3)) := (Below.refl _ W).alloc (Nat.le_refl _) _
          have u6 := cell_below hWN s6 (by omega)
          have sB := cell_below hB rB.out (by omega)
          have sb : Hid (∀ j, j < l.length → W.cell? ⟨b, j, none⟩ = some (.int .i64 (dep l j : Int))) := fun j hj => cell_below hB (rb.out j hj) (by omega)
          have sd : Hid (∀ j, j < l.length → W.cell? ⟨gd, j, none⟩ = some (.int .i64 (dep l j : Int))) := fun j hj => cell_below hB (rd.out j hj) (by omega)
          have vB := cell_below hWN sB (by omega)
          gi_wp2
          refine wpIn_rangeFunc_ownH rfl (by omega) (gf := 43) (lb := #[.pointer (some ⟨Bs, 0, none⟩)]) rfl trivial (enters_of Tryz.func43 (by kernel_rfl) rfl)
            (all_stops Fence.wide 8 trivial rfl (by omega) Bs W.heap.size b l.length c (fun j => (dep l j : Int)) (by omega) (W.alloc (.cells #[.int .i64 0] 3)) (by omega) (by omega) (by omega) vB (fun j hj => cell_below hWN (sb.out j hj) (by omega))) belowK_t (belowK_b (by omega)) (Below.refl _ _) (fun _ => rfl)
            (fun pre W' => (W'.cell? ⟨W.heap.size, 0, none⟩ = some (.int .i64 (pre.length : Int)) ∧ W'.frozen? ⟨W.heap.size, 0, none⟩ = false) ∧ Below W.heap.size W W')
            (fun (cc : Code) (pre : List (Nat × Int)) (W' : World) => (cc = Code.ret ∧ ∃ (ini : List (Nat × Int)) (last : Nat × Int), pre = ini ++ [last] ∧ ¬ ((last.1 : Int) = (ini.length : Int) ∧ last.2 = (dep l ini.length : Int))) ∨ (cc = Code.exit 2 ∧ k = 0 ∧ Below W.heap.size W W'))
            (OwnFrom.and (Own.from (fun s A B row hs hg hr => ⟨cell_kept hs.1 hg hr, (frozen_kept hs.1 hg hr).trans hs.2⟩) _) (ownFrom_below (Nat.le_refl _) (by omega)))
            (fun cc s A B row hs hg hr => hs.imp id (fun h => ⟨h.1, h.2.1, ownFrom_below (β := List (Nat × Int)) (Nat.le_refl _) (by omega) s A B row h.2.2 hg hr⟩))
            ⟨⟨bN.cell, bN.frozen⟩, hWN⟩
            (fun x a' _ => a' = { tmps := #[Value.slice ao l.length cap, Value.int .i64 st, undef, Value.pointer (some ⟨w.heap.size, 0, none⟩), Value.pointer (some ⟨w.heap.size + 1, 0, none⟩), Value.pointer (some ⟨w3.heap.size, 0, none⟩), Value.pointer (some ⟨w5.heap.size, 0, none⟩), Value.pointer (some ⟨B7, 0, none⟩), Value.pointer (some ⟨W.heap.size, 0, none⟩), .int .i64 (x.1 : Int), .int .i64 x.2, undef, undef, undef, Value.bool true, Value.bool false, Value.slice ao l.length cap, Value.int .i64 (l.length : Int), Value.bool (decide ((200 : Int) < (l.length : Int))), Value.bool (decide ((200 : Int) < (l.length : Int))), Value.slice ao l.length cap, Value.agg #[Value.int .i64 0, Value.int .i64 0], Value.agg #[Value.int .i64 0, Value.int .i64 0], Value.bool false, Value.bool (decide ((200 : Int) < (l.length : Int))), Value.slice ao l.length cap, Value.slice (some ⟨gd, 0, none⟩) l.length l.length, Value.slice ao l.length cap, Value.func (Fn.func 43) #[] #[Value.pointer (some ⟨Bs, 0, none⟩)], Value.func (Fn.func 43) #[] #[Value.pointer (some ⟨Bs, 0, none⟩)], Value.bool false, .int .i64 (k : Int), Value.bool true, x33, x34, Value.func (Fn.func 43) #[] #[Value.pointer (some ⟨Bs, 0, none⟩)], .int .i64 (x.1 : Int), .int .i64 x.2, undef, undef, undef, undef, undef, undef, undef, undef, undef, undef, undef, undef, undef, undef, undef, undef, undef, undef, undef, undef, undef, undef, undef, undef, undef, undef, undef, undef, undef, undef, undef, undef, undef, undef, undef, undef, undef, undef, undef, x77, x78, x79, x80, x81, x82, x83, x84, x85], defers := [] }) (fun _ _ _ _ _ _ hs _ _ => hs) ?assign ?body ?done ?stop
          case assign =>
            intro q pre x W' K hI hK
            gi_wp2
            exact hK _ _ (KeepsFrom.refl _ _) (Below.refl _ _) hI rfl
          case body =>
            rintro q pre ⟨x1, x2⟩ a' W' hq ⟨rr, hrr⟩ ⟨⟨kn, gn⟩, hB'⟩ rfl hlt
            rw [hzN] at hq ⊢
            have hlt' : (pre.length : Int) < (l.length : Int) := by omega
            have hpl : (pre.length : Int) ≤ 2932031007317 := by omega
            have hzW' := hB'.size
            have k4 := cell_below hB' s4 (by omega)
            have g4 := (frozen_below hB' (w.heap.size + 1) (by omega)).trans t4
            have k5 := cell_below hB' s5 (by omega)
            have kdp := cell_below hB' (sd.out pre.length hlt) (by omega)
            simp only at *
            by_cases e1 : (x1 : Int) = (pre.length : Int)
            · have q1 : ((x1 : Int) != (pre.length : Int)) = false := by simp; omega
              by_cases e2 : x2 = (dep l pre.length : Int)
              · have q2 : (x2 != (dep l pre.length : Int)) = false := by simp [e2]
                obtain ⟨W1, hW1⟩ : ∃ W1, W1 = W'.setCell ⟨W.heap.size, 0, none⟩ (.int .i64 ((pre.length : Int) + 1)) := ⟨_, rfl⟩
                have hBW1 : Below W.heap.size W' W1 := by rw [hW1]; exact (Below.refl _ _).setCell (p := ⟨W.heap.size, 0, none⟩) (Nat.le_refl _) _
                have hKW1 : KeepsFrom (W.heap.size + 1) W' W1 := by rw [hW1]; exact (KeepsOthers.setCell _ _ _).from _
                have hW1b := hB'.trans hBW1
                have hz1 := hW1b.size
                have hzE : W1.heap.size = W'.heap.size := by rw [hW1]; simp
                have j1 : W1.cell? ⟨W.heap.size, 0, none⟩ = some (.int .i64 ((pre.length : Int) + 1)) := by rw [hW1]; exact World.cell?_setCell_same' _ _ _ (by rw [kn]; rfl)
                have j1f : W1.frozen? ⟨W.heap.size, 0, none⟩ = false := by rw [hW1, World.frozen?_setCell]; exact gn
                have hn1 : W.heap.size < W'.heap.size := by
                  have := (Array.getElem?_eq_some_iff.1 hrr).1
                  omega
                have hrr1 := hKW1.same q _ hq hrr rfl
                have hM : Below W'.heap.size W1 (W1.alloc (.cells #[.int .i64 0] 3)) := by rw [← hzE]; exact (Below.refl _ W1).alloc (Nat.le_refl _) _
                have hzM : (W1.alloc (.cells #[.int .i64 0] 3)).heap.size = W'.heap.size + 1 := by rw [World.size_alloc, hzE]
                have m6 := cell_below hM (cell_below hW1b s6 (by omega)) (by omega)
                have mB := cell_below hM (cell_below hW1b sB (by omega)) (by omega)
                have bM := Boxed.new W1 3 (.int .i64 0)
                rw [hzE] at bM
                have hrr2 : (W1.alloc (.cells #[.int .i64 0] 3)).heap[q]? = some (.loop rr) := (Below.heap_alloc W1 _ q (Array.getElem?_eq_some_iff.1 hrr1).1).trans hrr1
                have m6' := m6
                rw [hW1] at m6
                gi_wp2
                rw [← hW1]
                clear m6 hW1
                refine wpIn_rangeFunc_ownN (l₀ := q) (r₀ := rr) rfl hrr2 (by omega) (gf := 43) (lb := #[.pointer (some ⟨Bs, 0, none⟩)]) rfl trivial (enters_of Tryz.func43 (by kernel_rfl) rfl)
                  ((all_stops Fence.wide 6 trivial rfl (by omega) Bs W'.heap.size b l.length c (fun j => (dep l j : Int)) (by omega) (W1.alloc (.cells #[.int .i64 0] 3)) (by omega) (by omega) (by omega) mB (fun j hj => cell_below hM (cell_below hW1b (sb.out j hj) (by omega)) (by omega))).inRound q) belowK_t (belowK_b (by omega)) (Below.refl _ _) (fun _ => rfl)
                  (fun pre' V => (V.cell? ⟨W'.heap.size, 0, none⟩ = some (.int .i64 (pre'.length : Int)) ∧ V.frozen? ⟨W'.heap.size, 0, none⟩ = false) ∧ (Below W'.heap.size W1 V ∧ KeepsFrom (W.heap.size + 1) W1 V))
                  (fun (cc : Code) (pre : List (Nat × Int)) (V : World) => (cc = Code.ret ∧ ∃ (ini : List (Nat × Int)) (last : Nat × Int), pre = ini ++ [last] ∧ ¬ ((last.1 : Int) = (ini.length : Int) ∧ last.2 = (dep l ini.length : Int))) ∨ (cc = Code.exit 4 ∧ (Below W'.heap.size W1 V ∧ KeepsFrom (W.heap.size + 1) W1 V)))
                  (OwnFrom.and (Own.from (fun s A B row hs hg hr => ⟨cell_kept hs.1 hg hr, (frozen_kept hs.1 hg hr).trans hs.2⟩) _) (OwnFrom.and (ownFrom_below (by omega) (by omega)) (ownFrom_keepsFrom (by omega))))
                  (fun cc s A B row hs hg hr => hs.imp id (fun h => ⟨h.1, ownFrom_below (β := List (Nat × Int)) (by omega) (by omega) s A B row h.2.1 hg hr, ownFrom_keepsFrom (β := List (Nat × Int)) (by omega) s A B row h.2.2 hg hr⟩))
                  ⟨⟨bM.cell, bM.frozen⟩, hM, (KeepsOthers.alloc _ _).from _⟩
                  (fun y a'' _ => ∃ y9 y10 y36 y37 y38 y39 y40 y41 y42 y43 y44 y45 y46 y47 y48 y49 y50, a'' = { tmps := #[Value.slice ao l.length cap, Value.int .i64 st, undef, Value.pointer (some ⟨w.heap.size, 0, none⟩), Value.pointer (some ⟨w.heap.size + 1, 0, none⟩), Value.pointer (some ⟨w3.heap.size, 0, none⟩), Value.pointer (some ⟨w5.heap.size, 0, none⟩), Value.pointer (some ⟨B7, 0, none⟩), Value.pointer (some ⟨W.heap.size, 0, none⟩), y9, y10, Value.pointer (some ⟨W'.heap.size, 0, none⟩), .int .i64 (y.1 : Int), .int .i64 y.2, Value.bool true, Value.bool false, Value.slice ao l.length cap, Value.int .i64 (l.length : Int), Value.bool (decide ((200 : Int) < (l.length : Int))), Value.bool (decide ((200 : Int) < (l.length : Int))), Value.slice ao l.length cap, Value.agg #[Value.int .i64 0, Value.int .i64 0], Value.agg #[Value.int .i64 0, Value.int .i64 0], Value.bool false, Value.bool (decide ((200 : Int) < (l.length : Int))), Value.slice ao l.length cap, Value.slice (some ⟨gd, 0, none⟩) l.length l.length, Value.slice ao l.length cap, Value.func (Fn.func 43) #[] #[Value.pointer (some ⟨Bs, 0, none⟩)], Value.func (Fn.func 43) #[] #[Value.pointer (some ⟨Bs, 0, none⟩)], Value.bool false, .int .i64 (k : Int), Value.bool true, x33, x34, Value.func (Fn.func 43) #[] #[Value.pointer (some ⟨Bs, 0, none⟩)], y36, y37, y38, y39, y40, y41, y42, y43, y44, y45, y46, y47, y48, y49, y50, Value.func (Fn.func 43) #[] #[Value.pointer (some ⟨Bs, 0, none⟩)], .int .i64 (y.1 : Int), .int .i64 y.2, undef, undef, undef, undef, undef, undef, undef, undef, undef, undef, undef, undef, undef, undef, undef, undef, undef, undef, undef, undef, undef, undef, undef, x77, x78, x79, x80, x81, x82, x83, x84, x85], defers := [] }) (fun _ _ _ _ _ _ hs _ _ => hs) ?assign2 ?body2 ?done2 ?stop2
                case assign2 =>
                  intro q2' pre' y V K hI hK
                  gi_wp2
                  exact hK _ _ (KeepsFrom.refl _ _) (Below.refl _ _) hI ⟨_, _, _, _, _, _, _, _, _, _, _, _, _, _, _, _, _, rfl⟩
                case body2 =>
                  rintro l2 pre' ⟨v1, v2⟩ a'' V _ _ ⟨⟨km, gm⟩, hBV, hKF⟩ ⟨y9, y10, y36, y37, y38, y39, y40, y41, y42, y43, y44, y45, y46, y47, y48, y49, y50, rfl⟩ hlt2
                  have hlt2' : (pre'.length : Int) < (l.length : Int) := by omega
                  have hpl2 : (pre'.length : Int) ≤ 2932031007317 := by omega
                  have hBVW := hW1b.trans (hBV.mono (by omega))
                  have z3 := cell_below hBVW s3 (by omega)
                  have z4 := cell_below hBVW s4 (by omega)
                  have zg4 := (frozen_below hBVW (w.heap.size + 1) (by omega)).trans t4
                  have z5 := cell_below hBVW s5 (by omega)
                  have zd := cell_below hBVW (sd.out pre'.length hlt2) (by omega)
                  simp only at *
                  by_cases f1 : (v1 : Int) = (pre'.length : Int)
                  · have p1 : ((v1 : Int) != (pre'.length : Int)) = false := by simp; omega
                    by_cases f2 : v2 = (dep l pre'.length : Int)
                    · have p2 : (v2 != (dep l pre'.length : Int)) = false := by simp [f2]
                      have cM : ∀ V', V' = V.setCell ⟨W'.heap.size, 0, none⟩ (.int .i64 ((pre'.length : Int) + 1)) → V'.cell? ⟨W'.heap.size, 0, none⟩ = some (.int .i64 ((pre'.length : Int) + 1)) ∧ V'.cell? ⟨w.heap.size, 0, none⟩ = some (.int .i64 st) ∧ V'.frozen? ⟨W'.heap.size, 0, none⟩ = false ∧ Below W'.heap.size V V' ∧ KeepsFrom (W.heap.size + 1) V V' := fun V' e => by
                        have hb : Below W'.heap.size V V' := by rw [e]; exact (Below.refl _ _).setCell (p := ⟨W'.heap.size, 0, none⟩) (Nat.le_refl _) _
                        refine ⟨?_, cell_below hb z3 (by omega), ?_, hb, ?_⟩
                        · rw [e]; exact World.cell?_setCell_same' _ _ _ (by rw [km]; rfl)
                        · rw [e, World.frozen?_setCell]; exact gm
                        · rw [e]; exact (KeepsOthers.setCell _ _ _).from _
                      obtain ⟨cm1, cm3, cmf, cmB, cmK⟩ := cM _ rfl
                      by_cases hst : st < (pre'.length : Int) + 1
                      · gi_wp2
                        exact ⟨(KeepsOthers.setCell _ _ _).from _, .inr ⟨rfl, hBV.trans cmB, hKF.trans cmK⟩⟩
                      · have hst' : (pre'.length : Int) + 1 ≤ st := by omega
                        gi_wp2
                        exact ⟨(KeepsOthers.setCell _ _ _).from _, cmB, ⟨by rw [cm1]; simp, cmf⟩, hBV.trans cmB, hKF.trans cmK⟩
                    · have p2 : (v2 != (dep l pre'.length : Int)) = true := by simp [f2]
                      gi_wp2
                      exact ⟨(KeepsOthers.setCell _ _ _).from _, .inl ⟨rfl, pre', (v1, v2), rfl, fun h => f2 h.2⟩⟩
                  · have p1 : ((v1 : Int) != (pre'.length : Int)) = true := by simp; omega
                    gi_wp2
                    exact ⟨(KeepsOthers.setCell _ _ _).from _, .inl ⟨rfl, pre', (v1, v2), rfl, fun h => f1 h.1⟩⟩
                case done2 =>
                  rintro zs V rfl ⟨⟨km, gm⟩, hBV, hKF⟩
                  have hBV' : Below W.heap.size W' V := hBW1.trans (hBV.mono (by omega))
                  have hKV : KeepsFrom (W.heap.size + 1) W' V := hKW1.trans hKF
                  have hBVW := hB'.trans hBV'
                  have z3 := cell_below hBVW s3 (by omega)
                  have z7 := cell_below hBVW c7 hB7'
                  have zn := cell_below hBV j1 (by omega)
                  have zf := (frozen_below hBV W.heap.size (by omega)).trans j1f
                  by_cases hk0 : k = 0
                  · have hk0' : ((k : Int) == 0) = true := by simp [hk0]
                    by_cases hst : st < (pre.length : Int) + 1
                    · gi_wp2
                      exact ⟨hKV, .inr ⟨rfl, hk0, hBVW⟩⟩
                    · have hst' : (pre.length : Int) + 1 ≤ st := by omega
                      gi_wp2
                      exact ⟨hKV, hBV', ⟨by rw [zn]; simp, zf⟩, hBVW⟩
                  · have hk0' : ((k : Int) == 0) = false := by simp [hk0]
                    gi_wp2
                    exact ⟨hKV, hBV', ⟨by rw [zn]; simp, zf⟩, hBVW⟩

                case stop2 =>
                  rintro cc pre' V ⟨j, hj, rfl⟩ (⟨rfl, ini, last, e1, e2⟩ | ⟨rfl, hBV, hKF⟩)
                  · exfalso
                    cases j with
                    | zero => simp [upto] at e1
                    | succ j =>
                      rw [upto_succ] at e1
                      obtain ⟨h1, h2⟩ := List.append_inj' e1 rfl
                      have h3 : (j, (dep l j : Int)) = last := by simpa using h2
                      have h4 : ini.length = j := by rw [← h1, upto_length]
                      rw [← h3, h4] at e2
                      exact e2 ⟨rfl, rfl⟩

                  · have hBV' : Below W.heap.size W' V := hBW1.trans (hBV.mono (by omega))
                    have hKV : KeepsFrom (W.heap.size + 1) W' V := hKW1.trans hKF
                    have hBVW := hB'.trans hBV'
                    have z3 := cell_below hBVW s3 (by omega)
                    have z7 := cell_below hBVW c7 hB7'
                    have zn := cell_below hBV j1 (by omega)
                    have zf := (frozen_below hBV W.heap.size (by omega)).trans j1f
                    by_cases hk0 : k = 0
                    · have hk0' : ((k : Int) == 0) = true := by simp [hk0]
                      by_cases hst : st < (pre.length : Int) + 1
                      · gi_wp2
                        exact ⟨hKV, .inr ⟨rfl, hk0, hBVW⟩⟩
                      · have hst' : (pre.length : Int) + 1 ≤ st := by omega
                        gi_wp2
                        exact ⟨hKV, hBV', ⟨by rw [zn]; simp, zf⟩, hBVW⟩
                    · have hk0' : ((k : Int) == 0) = false := by simp [hk0]
                      gi_wp2
                      exact ⟨hKV, hBV', ⟨by rw [zn]; simp, zf⟩, hBVW⟩

              · have q2 : (x2 != (dep l pre.length : Int)) = true := by simp [e2]
                gi_wp2
                exact ⟨(KeepsOthers.setCell _ _ _).from _, .inl ⟨rfl, pre, (x1, x2), rfl, fun h => e2 h.2⟩⟩
            · have q1 : ((x1 : Int) != (pre.length : Int)) = true := by simp; omega
              gi_wp2
              exact ⟨(KeepsOthers.setCell _ _ _).from _, .inl ⟨rfl, pre, (x1, x2), rfl, fun h => e1 h.1⟩⟩
          case done =>
            rintro D zs V hD rfl ⟨⟨kn, gn⟩, hBV⟩ hdK
            rw [hzN] at hD
            rw [upto_length] at kn
            have z7 := cell_below hBV c7 hB7'
            have hcase : k = 0 ∨ k = 1 := by omega
            rcases hcase with rfl | rfl
            · gi_wp2
              have hzV := hBV.size
              have hBV2 : Below W.heap.size W (V.alloc (.cells #[.int .i64 1] 3)) := hBV.alloc hzV _
              refine ⟨⟨V.heap.size, _, _, _, _, _, _, _, _, _, _, _, _, _, _, _, _, rfl, hB.trans (hBV2.mono hzW), by omega, by simp, ?_, ?_, hmk.step (by omega) hzW hBV2 (by omega) ((Below.heap_alloc V _ D (Array.getElem?_eq_some_iff.1 hdK).1).trans hdK)⟩, by omega⟩
              · rw [World.cell?, heap_alloc_new]; rfl
              · rw [World.frozen?, heap_alloc_new]; rfl

            · gi_wp2
              have hzV := hBV.size
              have hBV2 : Below W.heap.size W (V.alloc (.cells #[.int .i64 2] 3)) := hBV.alloc hzV _
              refine ⟨⟨V.heap.size, _, _, _, _, _, _, _, _, _, _, _, _, _, _, _, _, rfl, hB.trans (hBV2.mono hzW), by omega, by simp, ?_, ?_, hmk.step (by omega) hzW hBV2 (by omega) ((Below.heap_alloc V _ D (Array.getElem?_eq_some_iff.1 hdK).1).trans hdK)⟩, by omega⟩
              · rw [World.cell?, heap_alloc_new]; rfl
              · rw [World.frozen?, heap_alloc_new]; rfl

          case stop =>
            rintro D cc pre V hD ⟨j, hj, rfl⟩ (⟨rfl, ini, last, e1, e2⟩ | ⟨rfl, hk0, hBV⟩) hdK
            · exfalso
              cases j with
              | zero => simp [upto] at e1
              | succ j =>
                rw [upto_succ] at e1
                obtain ⟨h1, h2⟩ := List.append_inj' e1 rfl
                have h3 : (j, (dep l j : Int)) = last := by simpa using h2
                have h4 : ini.length = j := by rw [← h1, upto_length]
                rw [← h3, h4] at e2
                exact e2 ⟨rfl, rfl⟩

            · rw [hzN] at hD
              have z7 := cell_below hBV c7 hB7'
              subst hk0
              gi_wp2
              have hzV := hBV.size
              have hBV2 : Below W.heap.size W (V.alloc (.cells #[.int .i64 1] 3)) := hBV.alloc hzV _
              refine ⟨⟨V.heap.size, _, _, _, _, _, _, _, _, _, _, _, _, _, _, _, _, rfl, hB.trans (hBV2.mono hzW), by omega, by simp, ?_, ?_, hmk.step (by omega) hzW hBV2 (by omega) ((Below.heap_alloc V _ D (Array.getElem?_eq_some_iff.1 hdK).1).trans hdK)⟩, by omega⟩
              · rw [World.cell?, heap_alloc_new]; rfl
              · rw [World.frozen?, heap_alloc_new]; rfl

end Go.Proofs.YtgiilaaoeefpmaaGreat.gramWalks

namespace Go.Proofs.YtgiilaaoeefpmaaGreat.Lx
open Go.ChangeShapes Go.WideShapes Go.ChangeAt Go.RowKit Go.Proofs.YtgiilaaoeefpmaaGreat.Sp

theorem own : ownKnob Tryz.prog.godebug = none := by kernel_rfl
theorem laidOut : laidOutB Tryz.prog = true := by kernel_rfl
theorem bytes5 : Tryz.prog.bytesOf 5 = 1 := by kernel_rfl

theorem open_bytes {H : Type} {enc : TypeId × Value → H} {W : World} {a : Option Addr} {len cap : Nat} {d : DataW H} {p : List MemPlace} (h : DataW.Trod enc Tryz.prog W 0 (fun _ => true) true 44 (.slice a len cap) d p) :
    ∃ s : ByteArray, s.size = len ∧ len ≤ cap ∧ IsBytes W a s ∧ (len = 0 ∨ ∃ el sp, d = .slice el sp ∧ el.length = len) := by
  obtain ⟨fuel, hf⟩ := h
  rcases open_ints Tryz.underlying44 Tryz.underlying5 (by kernel_rfl) hf with ⟨hcs, hx⟩ | ⟨x, l, c, zs, hcs, _, hl, hm, hz, hx, hcell, hwz⟩
  · simp [Value.cells] at hcs
    obtain ⟨rfl, rfl, rfl⟩ := hcs
    exact ⟨ByteArray.empty, rfl, Nat.le_refl _, fun i hi => absurd hi (Nat.not_lt_zero _), Or.inl rfl⟩
  · simp [Value.cells] at hcs
    obtain ⟨rfl, rfl, rfl⟩ := hcs
    simp at hz hx
    obtain ⟨rfl, rfl⟩ := hx
    have hsz : (strOfNums (zs.take len)).size = len := by rw [strOfNums_size]; simp; omega
    refine ⟨strOfNums (zs.take len), hsz, hl, fun i hi => ?_, Or.inr ⟨_, _, rfl, by simp [lits]; omega⟩⟩
    obtain ⟨b, off, spot⟩ := x
    have h0 := hcell 0 (by omega)
    have hspot : spot = none := by simpa [Addr.add] using World.cell?_spot h0
    subst hspot
    have hB : Lib.Bytes W b off (strOfNums (zs.take len)) := Lib.bytes_of_nums (n := len) (by simp; omega) (fun x hx => by
      have hx := bounds_u8 (hwz x (List.mem_of_mem_take hx))
      omega) (fun j hj => by
        have := hcell j (by omega)
        rw [Lib.addr_add] at this
        rw [this]
        simp [List.getD, List.getElem?_take_of_lt hj])
    have hc := hB i hi
    refine ⟨b, off, rfl, World.block_lt_of_cell? W _ hc, ?_⟩
    rw [hc, nb_get _ i hi]
theorem bytes_reach {H : Type} {ts : List TypeId} {ds : List (DataW H)} (hsz : (DataW.weightsEach Tryz.prog ts ds).all (· ≤ reachBytes) = true) {j len : Nat} {d : DataW H} (ht : ts[j]? = some 44) (hd : ds[j]? = some d) (h : len = 0 ∨ ∃ el sp, d = .slice el sp ∧ el.length = len) : len ≤ 140737488351232 := by
  rcases h with rfl | ⟨el, sp, rfl, rfl⟩
  · omega
  · have := sized_slice hsz ht hd Tryz.underlying44
    rw [bytes5] at this
    simp only [reachBytes] at this
    omega
end Go.Proofs.YtgiilaaoeefpmaaGreat.Lx

namespace Go.Proofs.YtgiilaaoeefpmaaGreat.Gr
open Go.ChangeShapes Go.WideShapes Go.ChangeAt Go.RowKit Go.Deep Go.Proofs.YtgiilaaoeefpmaaGreat.Sp Go.Proofs.YtgiilaaoeefpmaaGreat.Lx

theorem bytes46 : Tryz.prog.bytesOf 46 = 48 := by kernel_rfl
theorem cells46 : Tryz.prog.cellsOf 46 = 5 := by kernel_rfl
theorem cells3 : Tryz.prog.cellsOf 3 = 1 := by kernel_rfl
theorem cells9 : Tryz.prog.cellsOf 9 = 1 := by kernel_rfl
instance : Inhabited Rz := ⟨rz0⟩
/-- a row's datum -/
def dz {H : Type} (r : Rz) : DataW H := .agg [.lit (.int .i64 r.kind), .lit (.string r.name.data.toList), .lit (.int .i64 r.stop), .lit (.int .i64 r.n), .lit (.int .i64 r.kids)]
theorem wf_le {n : Int} (h : (Lit.int .i64 n).wf = true) : n ≤ 9223372036854775807 := by
  simp [Lit.wf] at h
  omega
theorem five {α : Type} {l : List α} (h : l.length = 5) : ∃ a b c d e, l = [a, b, c, d, e] := by
  match l, h with
  | [a, b, c, d, e], _ => exact ⟨a, b, c, d, e, rfl⟩
theorem open_one {H : Type} {enc : TypeId × Value → H} {W : World} {base n : Nat} {sp : Nat → Bool} {hd : Bool} {cs : List Value} {d : DataW H} {pl : List MemPlace} (h : DataW.trod enc Tryz.prog W base sp hd n 46 cs = some (d, pl)) :
    ∃ r : Rz, cs = [.int .i64 r.kind, .string r.name, .int .i64 r.stop, .int .i64 r.n, .int .i64 r.kids] ∧ d = dz r ∧ r.kids ≤ 9223372036854775807 := by
  obtain ⟨xs, k, hk, hxy, hl, hxl, hf⟩ := DataW.trod_struct Tryz.underlying46 h
  rw [cells46] at hl
  have hxl5 : xs.length = 5 := hxl
  obtain ⟨y0, y1, y2, y3, y4, rfl⟩ := five hxl5
  obtain ⟨v0, v1, v2, v3, v4, rfl⟩ := five hl
  have g0 := hf 0 _ rfl
  have g1 := hf 1 _ rfl
  have g2 := hf 2 _ rfl
  have g3 := hf 3 _ rfl
  have g4 := hf 4 _ rfl
  simp [cells3, cells9] at g0 g1 g2 g3 g4
  obtain ⟨a0, e0, f0, _⟩ := DataW.trod_int Tryz.underlying3 g0
  obtain ⟨a1, e1, f1, _⟩ := DataW.trod_string Tryz.underlying9 g1
  obtain ⟨a2, e2, f2, _⟩ := DataW.trod_int Tryz.underlying3 g2
  obtain ⟨a3, e3, f3, _⟩ := DataW.trod_int Tryz.underlying3 g3
  obtain ⟨a4, e4, f4, w4⟩ := DataW.trod_int Tryz.underlying3 g4
  simp only [List.cons.injEq, and_true] at e0 e1 e2 e3 e4
  subst e0 e1 e2 e3 e4 f0 f1 f2 f3 f4
  simp only [Prod.mk.injEq] at hxy
  exact ⟨⟨a0, a1, a2, a3, a4⟩, rfl, by simpa [dz] using hxy.1, wf_le w4⟩
theorem open_rowsZ {H : Type} {enc : TypeId × Value → H} {W : World} {a : Option Addr} {len cap : Nat} {d : DataW H} {p : List MemPlace} (h : DataW.Trod enc Tryz.prog W 0 (fun _ => true) true 22 (.slice a len cap) d p) :
    ∃ l : List Rz, l.length = len ∧ len ≤ cap ∧ IsRz W a l ∧ (∀ r ∈ l, r.kids ≤ 9223372036854775807) ∧ (l = [] ∨ ∃ sp, d = .slice (l.map dz) sp) := by
  obtain ⟨fuel, hf⟩ := h
  rcases open_slice Tryz.underlying22 hf with ⟨hcs, _⟩ | ⟨x, l, c, m, n, D, Pl, hcs, _, hl, hm, hmm, hx, hcell⟩
  · simp [Value.cells] at hcs
    obtain ⟨rfl, rfl, rfl⟩ := hcs
    exact ⟨[], rfl, Nat.le_refl _, fun i x hx => (by simp at hx), fun r hr => (by cases hr), Or.inl rfl⟩
  · simp [Value.cells] at hcs
    obtain ⟨rfl, rfl, rfl⟩ := hcs
    simp only [if_true] at hmm
    subst hmm
    simp only [Prod.mk.injEq] at hx
    have each : ∀ i, i < len → ∃ r : Rz, W.cells? 0 (x.add (i * 5)) 5 = some [.int .i64 r.kind, .string r.name, .int .i64 r.stop, .int .i64 r.n, .int .i64 r.kids] ∧ D i = dz r ∧ r.kids ≤ 9223372036854775807 := by
      intro i hi
      obtain ⟨cs', h1, h2⟩ := hcell i (by omega)
      obtain ⟨r, rfl, h4, h5⟩ := open_one h2
      rw [cells46] at h1
      exact ⟨r, h1, h4, h5⟩
    obtain ⟨q, hq⟩ := choose_lt each
    refine ⟨(List.range len).map q, by simp, hl, fun i r hr => ?_, fun r hr => ?_, Or.inr ⟨(List.range (m - len)).map fun j => D (len + j), ?_⟩⟩
    · have hi : i < len := by
        have := (List.getElem?_eq_some_iff.1 hr).1
        simpa using this
      have hri : q i = r := by simpa [hi] using hr
      obtain ⟨h1, _, _⟩ := hq i hi
      rw [hri] at h1
      obtain ⟨_, hlen, hc⟩ := World.cells?_some h1
      have e0 := hc 0 (by omega)
      have e1 := hc 1 (by omega)
      have e2 := hc 2 (by omega)
      have e3 := hc 3 (by omega)
      have e4 := hc 4 (by omega)
      rw [add_add] at e0 e1 e2 e3 e4
      simp at e0 e1 e2 e3 e4
      obtain ⟨b, off, spot⟩ := x
      have hspot : spot = none := by
        obtain ⟨g1, _, _⟩ := hq 0 (by omega)
        obtain ⟨_, _, gc⟩ := World.cells?_some g1
        have g0 := gc 0 (by omega)
        simp [Addr.add] at g0
        simpa [Addr.add] using World.cell?_spot g0
      subst hspot
      rw [Lib.addr_add] at e0 e1 e2 e3 e4
      refine ⟨b, off, rfl, World.block_lt_of_cell? W _ e0, e0, ?_, ?_, ?_, ?_⟩
      · rw [Nat.add_assoc]; exact e1
      · rw [Nat.add_assoc]; exact e2
      · rw [Nat.add_assoc]; exact e3
      · rw [Nat.add_assoc]; exact e4
    · obtain ⟨i, hi, rfl⟩ := List.mem_map.1 hr
      exact (hq i (List.mem_range.1 hi)).2.2
    · rw [hx.1]
      congr 1
      rw [List.map_map]
      exact List.map_congr_left fun i hi => (hq i (List.mem_range.1 hi)).2.1
theorem weights_all {H : Type} {P : Program} {e : TypeId} {d : DataW H} {l : List (DataW H)} (h : d ∈ l) : ∀ n ∈ d.weights P e, n ∈ DataW.weightsAll P e l := by
  induction l with
  | nil => cases h
  | cons x r ih =>
    intro n hn
    simp only [DataW.weightsAll, List.mem_append]
    rcases List.mem_cons.1 h with rfl | h1
    · exact Or.inl hn
    · exact Or.inr (ih h1 n hn)
theorem rows_reach {H : Type} {ts : List TypeId} {ds : List (DataW H)} (hsz : (DataW.weightsEach Tryz.prog ts ds).all (· ≤ reachBytes) = true) {j : Nat} {l : List Rz} {d : DataW H} (ht : ts[j]? = some 22) (hd : ds[j]? = some d) (h : l = [] ∨ ∃ sp, d = .slice (l.map dz) sp) :
    l.length ≤ 2932031007317 ∧ ∀ r ∈ l, r.name.size ≤ 140737488351232 := by
  rcases h with rfl | ⟨sp, rfl⟩
  · exact ⟨by simp, fun x hx => by cases hx⟩
  · refine ⟨?_, fun x hx => ?_⟩
    · have := sized_slice hsz ht hd Tryz.underlying22
      rw [bytes46] at this
      simp only [reachBytes, List.length_map] at this
      omega
    · have h1 : (dz x : DataW H) ∈ l.map dz := List.mem_map.2 ⟨x, hx, rfl⟩
      have h2 := weights_all (P := Tryz.prog) (e := 46) h1 x.name.data.toList.length (by simp [dz, DataW.weights, Tryz.underlying46, DataW.weightsEach])
      have h3 := List.all_eq_true.1 hsz _ (DataW.weights_mem_each ht hd x.name.data.toList.length (by
        simp only [DataW.weights, Tryz.underlying22]
        exact List.mem_cons_of_mem _ (List.mem_append_left _ h2)))
      have h4 := of_decide_eq_true h3
      simpa [reachBytes] using h4
end Go.Proofs.YtgiilaaoeefpmaaGreat.Gr

namespace Go.Proofs.YtgiilaaoeefpmaaGreat.gramWalks
open Go.ChangeShapes Go.WideShapes Go.ChangeAt Go.RowKit
open Go.Proofs.YtgiilaaoeefpmaaGreat.Sp Go.Proofs.YtgiilaaoeefpmaaGreat.Lx Go.Proofs.YtgiilaaoeefpmaaGreat.Gr

set_option maxRecDepth 100000 in
theorem contractF (H : Type) (enc : TypeId × Value → H) (W : World) (base : Nat) (args : Array Value) (ds gs : List (DataW H)) (before : List MemPlace)
    (hval : ∀ (j : Nat) t v, Tryz.f4.params[j]? = some t → args[j]? = some v → Value.okWide Tryz.prog W .any base t v)
    (hW : DataW.Whole enc Tryz.prog Tryz.f4.params.toList Rows.gramWalksSpec.vars false W args.toList ds gs before)
    (hsz : (DataW.weightsEach Tryz.prog (Tryz.f4.params.toList ++ Rows.gramWalksSpec.plain.varTypes Tryz.prog) (ds ++ gs)).all (· ≤ reachBytes) = true) :
    Calls Tryz.prog 4 args W fun e W' => ∃ v, e = .returned v ∧ Rows.gramWalksSpec.post enc Tryz.prog Tryz.f4 false true false false W args v W' := by
  have hW' := hW
  obtain ⟨p, q, hA0, hV, rfl, hfz, hnd⟩ := hW
  have hA : DataW.TrodAll enc Tryz.prog W 0 (fun _ => true) true Tryz.f4.params.toList args.toList ds p := hA0
  rw [Tryz.params4] at hA hval hsz
  obtain ⟨v0, vs0, d0, ds0, p0, q0, hargs, rfl, rfl, h0, r0⟩ := trodAll_cons hA
  obtain ⟨v1, vs1, d1, ds1, p1, q1, rfl, rfl, rfl, h1, r1⟩ := trodAll_cons r0
  obtain ⟨rfl, rfl, rfl⟩ := trodAll_nil r1
  obtain rfl : args = #[v0, v1] := by cases args; simp_all
  obtain ⟨rfl, rfl⟩ := trodVars_none hV
  obtain ⟨a0, len0, cap0, rfl⟩ := okWide_slice Tryz.underlying22 (hval 0 22 v0 rfl rfl)
  have lt0 : ∀ x ∈ p0, x.block < W.heap.size := by obtain ⟨m, hm⟩ := h0; exact DataW.trod_lt m _ _ _ hm
  obtain ⟨s0, rfl, cl0, ib0, kb0, dd0⟩ := open_rowsZ h0
  obtain ⟨a1, rfl, rfl, rfl, w1⟩ := open_int Tryz.underlying3 (hval 1 3 v1 rfl rfl) h1
  refine (walk a0 s0 cap0 a1 W ib0 (rows_reach hsz (j := 0) rfl rfl dd0).1 (fun r hr => ⟨kb0 r hr, by have := (rows_reach hsz (j := 0) rfl rfl dd0).2 r hr; omega⟩)).mono fun e W2 ⟨he, bel⟩ => ?_
  subst he
  exact ⟨_, rfl, _, _, _, [], _, [], hW', trodAll_mk1 (shut_bool Tryz.underlying4 _), (trodAll_cons_mk (Below.trod laidOut (by kernel_rfl) (of_decide_eq_true (by kernel_rfl)) h0 bel lt0) (trodAll_cons_mk (shut_int Tryz.underlying3 w1) trodAll_mk0)), rfl, bel.frame _, fun h => by cases h⟩

set_option maxRecDepth 100000 in
theorem liftedF (os : Os) (started : os.Started) (H : Type) (enc : TypeId × Value → H) :
    ReturnsInHanded {} Tryz.checked os 4 .any (Rows.gramWalksSpec.pre6 enc Tryz.prog Tryz.f4 Rows.gramWalksRow.domain false) (Rows.gramWalksSpec.post enc Tryz.prog Tryz.f4 false true false false) := by
  refine returnsInHanded_of_change_sized (C := Tryz.checked) own started (by kernel_rfl) Tryz.func4
    (ChangeSpec.witness6 (enc := enc) (C := Tryz.checked) false ⟨#[], #[.slice none 0 0, .int .i64 0], []⟩ 8 (by kernel_rfl) (by kernel_rfl) (by kernel_rfl) (by kernel_rfl)) ?_
  intro W base args ds gs before hval hW _ hsz _
  exact contractF H enc W base args ds gs before hval hW hsz

theorem provedF : Rows.GramWalksSaid :=
  OpenClaim.holds_of_wide 4 Tryz.f4 rfl rfl rfl rfl rfl rfl rfl ⟨rfl, rfl, rfl, rfl, rfl⟩ rfl rfl rfl rfl rfl (by kernel_rfl) Tryz.func4 (by kernel_rfl)
    (of_decide_eq_true (by kernel_rfl)) (by unfold Func.isWrapper; first | (rw [if_pos (by decide +kernel)]; kernel_rfl) | (rw [if_neg (by decide +kernel)]; exact ⟨rfl, rfl⟩))
    (fun os started H enc _ => liftedF os started H enc)
end Go.Proofs.YtgiilaaoeefpmaaGreat.gramWalks
