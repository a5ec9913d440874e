import Derived.Test.YtenhjebiokegkaaNmRows
import Derived.Deep.LoopGhost
namespace Go.Proofs.Ytenhjebiokegkaa.Nm
open Go.RowKit Go.Maps Go.Proofs.Ytenhjebiokegkaa.Sp Go.Proofs.Ytenhjebiokegkaa.Lx Go.Proofs.Ytenhjebiokegkaa.Gr

set_option maxHeartbeats 1600000 in
set_option maxRecDepth 100000 in
/-- most -/
theorem most_any (k : Nat) (h : k ≤ 4) (w : World) : Calls Try.prog 33 #[.int .i64 (k : Int)] w fun e w' => e = .returned (.int .i64 (mst k : Nat)) ∧ w' = w := by
  have hix : ∀ u, (Instr.index 92 (.agg #[.int .i64 0, .int .i64 16, .int .i64 16, .int .i64 4, .int .i64 64]) (.int .i64 (k : Int))).run Try.prog u = .ok (.int .i64 (mst k : Nat)) u := by
    obtain rfl | rfl | rfl | rfl | rfl : k = 0 ∨ k = 1 ∨ k = 2 ∨ k = 3 ∨ k = 4 := by omega
    all_goals
      intro u
      kernel_rfl
  generalize mst k = z at *
  · go_enter Try.func33, Try.ntmps33
    go_wp2
    go_ret
    exact ⟨rfl, rfl⟩
/-- of the first n blocks only those of F have turned -/
structure Fb (F : List Nat) (n : Nat) (w w' : World) : Prop where
  os : w'.os = w.os
  tape : w'.tape = w.tape
  output : w'.output = w.output
  size : w.heap.size ≤ w'.heap.size
  block : ∀ k, k < n → k ∉ F → w'.heap[k]? = w.heap[k]?
theorem Fb.trans {F : List Nat} {n : Nat} {a b c : World} (h : Fb F n a b) (k : Fb F n b c) : Fb F n a c := ⟨k.os.trans h.os, k.tape.trans h.tape, k.output.trans h.output, Nat.le_trans h.size k.size, fun x hx hn => (k.block x hx hn).trans (h.block x hx hn)⟩
theorem Fb.mono {F : List Nat} {n m : Nat} {a b : World} (h : Fb F n a b) (hm : m ≤ n) : Fb F m a b := ⟨h.os, h.tape, h.output, h.size, fun x hx hn => h.block x (Nat.lt_of_lt_of_le hx hm) hn⟩
theorem Fb.of_below {F : List Nat} {n : Nat} {w w' : World} (h : Below n w w') : Fb F n w w' := ⟨h.os, h.tape, h.output, h.size, fun k hk _ => h.block k hk⟩
theorem Fr.fb {F : List Nat} {n : Nat} {w w' : World} (h : Fr F w w') (hn : n ≤ w.heap.size) : Fb F n w w' := ⟨h.os, h.tape, h.output, h.size, fun k hk hk2 => h.block k (Nat.lt_of_lt_of_le hk hn) hk2⟩
theorem Fb.set {F : List Nat} {n : Nat} (w : World) {g : Nat} (i : Nat) (v : Value) (hg : n ≤ g) : Fb F n w (w.setCell ⟨g, i, none⟩ v) := ⟨rfl, rfl, rfl, by simp [World.setCell], fun k hk _ => Below.heap_setCell w _ v k (fun e => by have e2 : k = g := e; omega)⟩
end Go.Proofs.Ytenhjebiokegkaa.Nm
namespace Go.Proofs.Ytenhjebiokegkaa.Nm
open Go.RowKit Go.Maps Go.Proofs.Ytenhjebiokegkaa.Sp Go.Proofs.Ytenhjebiokegkaa.Lx Go.Proofs.Ytenhjebiokegkaa.Gr

set_option maxHeartbeats 6400000 in
set_option maxRecDepth 100000 in
/-- all of each row asked, from the first row on -/
theorem inOrder_inv {w : World} {ao : Option Addr} {n cap ab acap : Nat} (F : List Nat) (St : Nat → Nat → World → Prop) (Er : Nat → Nat → Prop) (Inv : World → Prop) (fs : Nat → Nat) (cs : Nat → Array Value) (hn : n ≤ 2932031007317) (hF : ∀ k ∈ F, k < w.heap.size)
    (hent : ∀ j, j < 3 → ∀ (args : Array Value) (u : World), (callFunc (fs j) args).run Try.prog u = .ok (.enter (fs j) args) u)
    (hask : ∀ i j W, j < 3 → St i j W → W.cell? ⟨ab, j, none⟩ = some (.func (.func (fs j)) #[] (cs j)))
    (hstep : ∀ i j W, i < n → j < 3 → w.heap.size < W.heap.size → St i j W → Calls Try.prog (fs j) (#[.int .i64 (i : Int)] ++ cs j) W fun e w' => Fb F (w.heap.size + 1) W w' ∧ ((e = .returned (.int .i64 0) ∧ St i (j + 1) w') ∨ ∃ c : Nat, 0 < c ∧ c ≤ 1000 ∧ e = .returned (.int .i64 (c : Int)) ∧ Er i c ∧ Inv w')) (hinv : ∀ W (q : Nat) v, Inv W → Inv (W.setCell ⟨w.heap.size, q, none⟩ v))
    (hnext : ∀ i W, St i 3 W → St (i + 1) 0 W) (hset : ∀ i j W (q : Nat) v, St i j W → St i j (W.setCell ⟨w.heap.size, q, none⟩ v)) (h0 : St 0 0 (w.alloc (.cells #[.int .i64 0, .int .i64 0] 37))) :
    Calls Try.prog 20 #[.slice ao n cap, .slice (some ⟨ab, 0, none⟩) 3 acap] w fun e w' => (e = .returned (.agg #[.int .i64 0, .int .i64 0]) ∧ St n 0 w' ∧ Fb F w.heap.size w w') ∨ (∃ i c : Nat, i < n ∧ 0 < c ∧ e = .returned (.agg #[.int .i64 (c : Int), .int .i64 (i : Int)]) ∧ Er i c ∧ Inv w' ∧ Fb F w.heap.size w w') := by
  have hn' : (n : Int) ≤ 2932031007317 := by omega
  have HS0 : Hid (St 0 0 (w.alloc (.cells #[.int .i64 0, .int .i64 0] 37)) ∧ Fb F w.heap.size w (w.alloc (.cells #[.int .i64 0, .int .i64 0] 37)) ∧ (w.alloc (.cells #[.int .i64 0, .int .i64 0] 37)).heap[w.heap.size]? = some (.cells #[.int .i64 0, .int .i64 0] 37 (0, 0))) :=
    ⟨h0, Fb.of_below ((Below.refl _ w).alloc (Nat.le_refl _) _), heap_alloc_new w _⟩
  have HAsk := show Hid _ from hask
  have HStep := show Hid _ from hstep
  have HNext := show Hid _ from hnext
  have HSet := show Hid _ from hset
  have HInv := show Hid _ from hinv
  have HF := show Hid _ from hF
  clear hask hstep hnext hset h0 hn hF hinv
  go_enter Try.func20, Try.ntmps20
  go_wp2_with fail
  generalize w.alloc (.cells #[.int .i64 0, .int .i64 0] 37) = w1 at *
  go_loopg [11] n (fun r vi wr => ∃ i : Nat, i + r = n ∧ vi = .int .i64 (i : Int) ∧ St i 0 wr ∧ Fb F w.heap.size w wr ∧ wr.heap[w.heap.size]? = some (.cells #[.int .i64 0, .int .i64 0] 37 (0, 0)))
  case atStart => exact ⟨0, by omega, rfl, HS0.out.1, HS0.out.2.1, HS0.out.2.2⟩
  case round =>
    obtain ⟨i, hir, rfl, hSt, hFr, hbx⟩ := hrel
    have HI : Hid (i + gk = n ∧ St i 0 wr ∧ Fb F w.heap.size w wr ∧ wr.heap[w.heap.size]? = some (.cells #[.int .i64 0, .int .i64 0] 37 (0, 0))) := ⟨hir, hSt, hFr, hbx⟩
    clear hSt hFr hbx hir HS0
    by_cases hi : i < n
    · have hi' : (i : Int) < (n : Int) := by omega
      have HIn : Hid (i < n) := hi
      have hi2 : (i : Int) ≤ 2932031007317 := by omega
      clear hi
      go_wp2_with fail
      go_loopg [16] 3 (fun r vj wq => ∃ j : Nat, j + r = 3 ∧ vj = .int .i64 (j : Int) ∧ St i j wq ∧ Fb F w.heap.size w wq ∧ wq.heap[w.heap.size]? = some (.cells #[.int .i64 0, .int .i64 0] 37 (0, 0)))
      case atStart => exact ⟨0, by omega, rfl, HI.out.2.1, HI.out.2.2.1, HI.out.2.2.2⟩
      case round =>
        obtain ⟨j, hjr, rfl, hSt, hFr, hbx⟩ := hrel
        have HJ : Hid (j + gk = 3 ∧ St i j wr ∧ Fb F w.heap.size w wr ∧ wr.heap[w.heap.size]? = some (.cells #[.int .i64 0, .int .i64 0] 37 (0, 0))) := ⟨hjr, hSt, hFr, hbx⟩
        by_cases hj : j < 3
        · have hj' : (j : Int) < 3 := by omega
          have hc := HAsk.out i j wr hj hSt
          have he := hent j hj
          have HC := show Hid _ from HStep.out i j wr HIn.out hj (Array.getElem?_eq_some_iff.1 hbx).1 hSt
          clear hSt hFr hbx hjr hj
          go_wp2_with fail
          refine Calls.mono HC.out ?_
          rintro e w3 ⟨hf, ⟨rfl, hs3⟩ | ⟨c, hc0, hc1, rfl, her, hiv⟩⟩
          · have H3 : Hid (St i (j + 1) w3 ∧ Fb F w.heap.size w w3 ∧ w3.heap[w.heap.size]? = some (.cells #[.int .i64 0, .int .i64 0] 37 (0, 0))) := ⟨hs3, HJ.out.2.2.1.trans (hf.mono (Nat.le_succ _)), (hf.block w.heap.size (Nat.lt_succ_self _) (fun hm => by have := HF.out _ hm; omega)).trans HJ.out.2.2.2⟩
            clear hf hs3 HC
            go_wp2_with fail
            go_roundg (3 - (j + 1))
            case measure => have := HJ.out.1; omega
            case rel => exact ⟨j + 1, by have := HJ.out.1; omega, by go_num, H3.out.1, H3.out.2.1, H3.out.2.2⟩
          · have hb3 : w3.heap[w.heap.size]? = some (.cells #[.int .i64 0, .int .i64 0] 37 (0, 0)) := (hf.block w.heap.size (Nat.lt_succ_self _) (fun hm => by have := HF.out _ hm; omega)).trans HJ.out.2.2.2
            have HX : Hid (w3.heap[w.heap.size]? = some (.cells #[.int .i64 0, .int .i64 0] 37 (0, 0)) ∧ Fb F w.heap.size w w3 ∧ 0 < c ∧ Er i c ∧ Inv w3) := ⟨hb3, HJ.out.2.2.1.trans (hf.mono (Nat.le_succ _)), hc0, her, hiv⟩
            have x0 : w3.cell? ⟨w.heap.size, 0, none⟩ = some (.int .i64 0) := by rw [World.cell?, hb3]; rfl
            have x1 : w3.cell? ⟨w.heap.size, 1, none⟩ = some (.int .i64 0) := by rw [World.cell?, hb3]; rfl
            have x2 : w3.frozen? ⟨w.heap.size, 0, none⟩ = false := by rw [World.frozen?, hb3]; rfl
            have x3 : w3.frozen? ⟨w.heap.size, 1, none⟩ = false := by rw [World.frozen?, hb3]; rfl
            have hcn : ((c : Int) != 0) = true := by simp; omega
            have hc1' : (c : Int) ≤ 1000 := by omega
            clear hf hc0 her hiv hb3 HC hc1
            go_wp2_with fail
            obtain ⟨q0, q1⟩ := two_cells (.int .i64 (c : Int)) (.int .i64 (i : Int)) HX.out.1
            exact bodyPost_ret (v := .agg #[.int .i64 (c : Int), .int .i64 (i : Int)]) (by simp [results, Try.results20, go_sem, q0, q1]) rfl (Or.inr ⟨i, c, HIn.out, HX.out.2.2.1, rfl, HX.out.2.2.2.1, HInv.out _ _ _ (HInv.out _ _ _ HX.out.2.2.2.2), (HX.out.2.1.trans (Fb.set _ _ _ (Nat.le_refl _))).trans (Fb.set _ _ _ (Nat.le_refl _))⟩)
        · obtain rfl : j = 3 := by have := HJ.out.1; omega
          have hS4 := HNext.out i wr hSt
          have H4 : Hid (St (i + 1) 0 wr ∧ Fb F w.heap.size w wr ∧ wr.heap[w.heap.size]? = some (.cells #[.int .i64 0, .int .i64 0] 37 (0, 0))) := ⟨hS4, hFr, hbx⟩
          clear hS4 hSt hFr hbx hjr hj
          go_wp2_with fail
          go_roundg (n - (i + 1))
          case measure => have := HI.out.1; have := HIn.out; omega
          case rel => exact ⟨i + 1, by have := HIn.out; omega, by go_num, H4.out.1, H4.out.2.1, H4.out.2.2⟩
    · have hi' : decide ((i : Int) < (n : Int)) = false := by simp; omega
      obtain rfl : i = n := by have := HI.out.1; omega
      have x0 : wr.cell? ⟨w.heap.size, 0, none⟩ = some (.int .i64 0) := by rw [World.cell?, HI.out.2.2.2]; rfl
      have x1 : wr.cell? ⟨w.heap.size, 1, none⟩ = some (.int .i64 0) := by rw [World.cell?, HI.out.2.2.2]; rfl
      have x2 : wr.frozen? ⟨w.heap.size, 0, none⟩ = false := by rw [World.frozen?, HI.out.2.2.2]; rfl
      have x3 : wr.frozen? ⟨w.heap.size, 1, none⟩ = false := by rw [World.frozen?, HI.out.2.2.2]; rfl
      go_wp2_with fail
      obtain ⟨q0, q1⟩ := two_cells (.int .i64 0) (.int .i64 0) HI.out.2.2.2
      exact bodyPost_ret (v := .agg #[.int .i64 0, .int .i64 0]) (by simp [results, Try.results20, go_sem, q0, q1]) rfl (Or.inl ⟨rfl, HSet.out _ _ _ _ _ (HSet.out _ _ _ _ _ HI.out.2.1), (HI.out.2.2.1.trans (Fb.set _ _ _ (Nat.le_refl _))).trans (Fb.set _ _ _ (Nat.le_refl _))⟩)
end Go.Proofs.Ytenhjebiokegkaa.Nm
