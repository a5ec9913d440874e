import Derived.Test.YtkekmmomdhdegaaIxKnown
namespace Go.Proofs.Ytkekmmomdhdegaa.Rx
open Go.RowKit Go.Proofs.Ytkekmmomdhdegaa.Ix Go.Proofs.Ytkekmmomdhdegaa.Ii

/-- where the document's index lies -/
structure Ro where
  r : Nat
  bi : Nat
  bk : Nat
  bv : Nat
def Ro.foot (q : Ro) : List Nat := [q.r, q.bi, q.bk, q.bv]
abbrev rblk (q : Ro) (n most bits len : Nat) : Array Value := #[I most, I bits, .slice (some ⟨q.bi, 0, none⟩) n n, .slice (some ⟨q.bk, 0, none⟩) n n, .slice (some ⟨q.bv, 0, none⟩) n n, I len]
structure Rm (w : World) (q : Ro) (n most bits len : Nat) (t : Tb Int) : Prop where
  blk : w.heap[q.r]? = some (.cells (rblk q n most bits len) 33 (0, 0))
  is : ∃ cs, w.heap[q.bi]? = some (.cells cs 4 (0, 0)) ∧ ∀ p, p < n → cs[p]? = some (.bool (t p).isSome)
  ks : ∃ cs, w.heap[q.bk]? = some (.cells cs 22 (0, 0)) ∧ ∀ p, p < n → ∃ k, cs[p]? = some (U k) ∧ ∀ e, t p = some e → e.1 = k
  vs : ∃ cs, w.heap[q.bv]? = some (.cells cs 3 (0, 0)) ∧ ∀ p, p < n → ∃ v, cs[p]? = some (I v) ∧ ∀ e, t p = some e → e.2 = v
section
variable {w w' : World} {q : Ro} {n most bits len : Nat} {t : Tb Int}
theorem Rm.lt (h : Rm w q n most bits len t) : ∀ k ∈ q.foot, k < w.heap.size := by
  obtain ⟨_, h2, _⟩ := h.is
  obtain ⟨_, h3, _⟩ := h.ks
  obtain ⟨_, h4, _⟩ := h.vs
  intro k hk
  simp only [Ro.foot, List.mem_cons, List.not_mem_nil, or_false] at hk
  rcases hk with rfl | rfl | rfl | rfl
  · exact (Array.getElem?_eq_some_iff.1 h.blk).1
  · exact (Array.getElem?_eq_some_iff.1 h2).1
  · exact (Array.getElem?_eq_some_iff.1 h3).1
  · exact (Array.getElem?_eq_some_iff.1 h4).1
theorem Rm.kept {F : List Nat} (h : Rm w q n most bits len t) (m : Fr F w w') (hF : ∀ k ∈ q.foot, k ∉ F) : Rm w' q n most bits len t := by
  have hl := h.lt
  have hb : ∀ k ∈ q.foot, w'.heap[k]? = w.heap[k]? := fun k hk => m.block k (hl k hk) (hF k hk)
  obtain ⟨h1, ⟨c2, h2, k2⟩, ⟨c3, h3, k3⟩, ⟨c4, h4, k4⟩⟩ := h
  exact ⟨(hb _ (by simp [Ro.foot])).trans h1, ⟨c2, (hb _ (by simp [Ro.foot])).trans h2, k2⟩, ⟨c3, (hb _ (by simp [Ro.foot])).trans h3, k3⟩, ⟨c4, (hb _ (by simp [Ro.foot])).trans h4, k4⟩⟩
theorem Rm.below (h : Rm w q n most bits len t) (hb : Below w.heap.size w w') : Rm w' q n most bits len t := h.kept (F := []) (Fr.of_below hb) (fun _ _ => by simp)
theorem Rm.cellsR (h : Rm w q n most bits len t) : w.cell? ⟨q.r, 0, none⟩ = some (I most) ∧ w.cell? ⟨q.r, 1, none⟩ = some (I bits) ∧ w.cell? ⟨q.r, 2, none⟩ = some (.slice (some ⟨q.bi, 0, none⟩) n n) ∧ w.cell? ⟨q.r, 3, none⟩ = some (.slice (some ⟨q.bk, 0, none⟩) n n) ∧ w.cell? ⟨q.r, 4, none⟩ = some (.slice (some ⟨q.bv, 0, none⟩) n n) ∧ w.cell? ⟨q.r, 5, none⟩ = some (I len) ∧ ∀ j, w.frozen? ⟨q.r, j, none⟩ = false :=
  ⟨by simp [World.cell?, h.blk], by simp [World.cell?, h.blk], by simp [World.cell?, h.blk], by simp [World.cell?, h.blk], by simp [World.cell?, h.blk], by simp [World.cell?, h.blk], fun j => by simp [World.frozen?, h.blk]⟩
end

theorem infob : (Try.prog.info? 4).map (fun i => (i.zero, i.size, i.bytes)) = some (some (.bool false), 1, 1) := by kernel_rfl
theorem infou : (Try.prog.info? 22).map (fun i => (i.zero, i.size, i.bytes)) = some (some (.int .u64 0), 1, 8) := by kernel_rfl
theorem infoi : (Try.prog.info? 3).map (fun i => (i.zero, i.size, i.bytes)) = some (some (.int .i64 0), 1, 8) := by kernel_rfl
/-- make, of elements of one cell -/
theorem mk_row {T e : TypeId} {z : Value} {by_ : Nat} (hT : Try.prog.underlying T = some (.slice e)) (hi : (Try.prog.info? e).map (fun i => (i.zero, i.size, i.bytes)) = some (some z, 1, by_)) (hz : z.cells = #[z]) (hb : by_ ≤ 8) (n : Nat) (hn : n ≤ 8388608) : ∃ M : Array Value, (∀ u : World, (Instr.makeSlice T (.int .i64 (n : Int)) (.int .i64 (n : Int))).run Try.prog u = .ok (.slice (some ⟨u.heap.size, 0, none⟩) n n) (u.alloc (.cells M e))) ∧ ∀ j, j < n → M[j]? = some z := by
  obtain ⟨i0, hi, hz0, hz1, hz2⟩ := info_parts hi
  refine ⟨madeCells z.cells (n * 1), fun u => ?_, fun j hj => ?_⟩
  · have h := run_make (P := Try.prog) u T e i0 z hT hi hz0 .i64 .i64 (n : Int) (n : Int) (by omega) (Int.le_refl _) (by rw [hz2]; have h8 : n * by_ ≤ n * 8 := Nat.mul_le_mul_left _ hb; have h9 : (by_ : Int) * (n : Int) = ((n * by_ : Nat) : Int) := (by rw [Int.natCast_mul, Int.mul_comm]); omega) (by omega)
    have e : (n : Int).toNat = n := by omega
    rw [e, hz1] at h
    exact h
  · rw [hz]
    simp [madeCells, hj, Nat.mod_one]
/-- a new row, and a field that points to it -/
theorem stage {W : World} {r n0 : Nat} {cs M : Array Value} {e : TypeId} (hr : W.heap[r]? = some (.cells cs 33 (0, 0))) (hn : n0 ≤ r) (j : Nat) (v : Value) :
    ((W.alloc (.cells M e)).setCell ⟨r, j, none⟩ v).heap[r]? = some (.cells (cs.setIfInBounds j v) 33 (0, 0)) ∧ ((W.alloc (.cells M e)).setCell ⟨r, j, none⟩ v).heap[W.heap.size]? = some (.cells M e (0, 0)) ∧ Fr [r] W ((W.alloc (.cells M e)).setCell ⟨r, j, none⟩ v) ∧ (W.alloc (.cells M e)).cell? ⟨r, j, none⟩ = cs[j]? ∧ (∀ i, (W.alloc (.cells M e)).frozen? ⟨r, i, none⟩ = false) ∧ n0 ≤ W.heap.size := by
  have hl := (Array.getElem?_eq_some_iff.1 hr).1
  have h1 : (W.alloc (.cells M e)).heap[r]? = some (.cells cs 33 (0, 0)) := (alloc_other hl).trans hr
  refine ⟨set_blk h1, ?_, (Fr.of_below ((Below.refl _ W).alloc (Nat.le_refl _) _)).trans (Fr.set _ _ _ (by simp)) (fun _ h => Or.inl h), by simp [World.cell?, h1], fun i => by simp [World.frozen?, h1], by omega⟩
  rw [set_other (by omega)]
  exact alloc_at _ _ _
set_option maxHeartbeats 1600000 in
theorem rnew_no (m : Int) (hm : m < 0 ∨ 4194304 < m) (w : World) : Calls Try.prog 32 #[I m] w fun e w' => e = .returned (.tuple #[.pointer none, I 1]) ∧ w' = w := by
  by_cases h0 : m < 0
  · go_enter Try.func32, Try.ntmps32
    go_wp2
    go_ret2
    exact ⟨rfl, rfl⟩
  · have h1 : 4194304 < m := by omega
    have h2 : decide (m < 0) = false := decide_eq_false h0
    go_enter Try.func32, Try.ntmps32
    go_wp2
    go_ret2
    exact ⟨rfl, rfl⟩
set_option maxHeartbeats 1600000 in
set_option maxRecDepth 100000 in
theorem rnew_ok (m : Nat) (hm : m ≤ 4194304) (w : World) : Calls Try.prog 32 #[I m] w fun e w' => ∃ q, e = .returned (.tuple #[.pointer (some ⟨q.r, 0, none⟩), I 0]) ∧ Rm w' q (2 * 2 ^ dbl m) m (dbl m + 1) 0 (fun _ => none) ∧ Below w.heap.size w w' ∧ ∀ k ∈ q.foot, w.heap.size ≤ k := by
  have h0 : ¬ (m : Int) < 0 := by omega
  have h1 : (m : Int) ≤ 4194304 := by omega
  have HD : Hid (dbl m ≤ 22 ∧ m ≤ 2 ^ dbl m ∧ ∀ i, i < dbl m → 2 ^ i < m) := ⟨dbl_le hm, dbl_ub hm, fun i hi => dbl_lb hm hi⟩
  generalize dbl m = b at *
  go_enter Try.func32, Try.ntmps32
  go_wp2_with fail
  go_loopg [5] b (fun r vn wr => ∃ i : Nat, i + r = b ∧ vn = I (2 * 2 ^ i : Nat) ∧ wr.heap[w.heap.size]? = some (.cells #[I m, I (i + 1 : Nat), .slice none 0 0, .slice none 0 0, .slice none 0 0, I 0] 33 (0, 0)) ∧ Below w.heap.size w wr)
  case atStart => exact ⟨0, by omega, rfl, heap_alloc_new _ _, (Below.refl _ w).alloc (Nat.le_refl _) _⟩
  case round =>
    obtain ⟨i, hi, rfl, hblk, hB⟩ := hrel
    have c1 : wr.cell? ⟨w.heap.size, 1, none⟩ = some (I (i + 1 : Nat)) := by simp [World.cell?, hblk]
    have fr : ∀ j, wr.frozen? ⟨w.heap.size, j, none⟩ = false := fun j => by simp [World.frozen?, hblk]
    have HBk := show Hid _ from hblk
    have HB := show Hid _ from hB
    obtain ⟨d1, d2, d3⟩ := HD.out
    have hp := Nat.pow_le_pow_right (n := 2) (by omega) (show i ≤ 22 by omega)
    have hN8 : ((2 * 2 ^ i : Nat) : Int) ≤ 8388608 := by omega
    have hN0 : (0 : Int) ≤ ((2 * 2 ^ i : Nat) : Int) := by omega
    have hi22 : (i : Int) ≤ 22 := by omega
    by_cases hlt : i < b
    · have hlt2 : ((2 * 2 ^ i : Nat) : Int) < 2 * (m : Int) := by have := d3 i hlt; omega
      have HN : Hid (2 * (2 * 2 ^ i) = 2 * 2 ^ (i + 1)) := by show _ = _; rw [Nat.pow_succ]; omega
      clear hblk hB d1 d2 d3 hp
      generalize 2 * 2 ^ i = N at *
      go_wp2_with fail
      go_roundg (b - (i + 1))
      case measure => omega
      case rel =>
        refine ⟨i + 1, by omega, by rw [← HN.out]; go_num, ?_, HB.out.setCell (Nat.le_refl _) _⟩
        rw [set_blk HBk.out]
        rfl
    · obtain rfl : i = b := by omega
      have hlt2 : ¬ ((2 * 2 ^ i : Nat) : Int) < 2 * (m : Int) := by omega
      obtain ⟨M1, mk1, hM1⟩ := mk_row (T := 29) (e := 4) Try.underlying29 infob rfl (by omega) (2 * 2 ^ i) (by omega)
      obtain ⟨M2, mk2, hM2⟩ := mk_row (T := 30) (e := 22) Try.underlying30 infou rfl (by omega) (2 * 2 ^ i) (by omega)
      obtain ⟨M3, mk3, hM3⟩ := mk_row (T := 31) (e := 3) Try.underlying31 infoi rfl (by omega) (2 * 2 ^ i) (by omega)
      have HMs := show Hid _ from And.intro hM1 (And.intro hM2 hM3)
      obtain ⟨a1, a2, a3, a4, a5, a6⟩ := stage (M := M1) (e := 4) hblk (Nat.le_refl w.heap.size) 2 (.slice (some ⟨wr.heap.size, 0, none⟩) (2 * 2 ^ i) (2 * 2 ^ i))
      change _ = some (Value.slice none 0 0) at a4
      have HA := show Hid _ from And.intro a1 (And.intro a2 (And.intro a3 a6))
      clear hblk hB d1 d2 d3 hp hM1 hM2 hM3 a1 a2 a3 a6
      generalize hNe : 2 * 2 ^ i = N at *
      have HNe := show Hid _ from hNe
      clear hNe
      go_upto_region 9 with fail
      generalize (wr.alloc (.cells M1 4)).setCell ⟨w.heap.size, 2, none⟩ (.slice (some ⟨wr.heap.size, 0, none⟩) N N) = wa at *
      obtain ⟨b1, b2, b3, b4, b5, b6⟩ := stage (M := M2) (e := 22) HA.out.1 (Nat.le_refl w.heap.size) 3 (.slice (some ⟨wa.heap.size, 0, none⟩) N N)
      change _ = some (Value.slice none 0 0) at b4
      have HA2 := show Hid _ from And.intro b1 (And.intro b2 (And.intro b3 b6))
      clear b1 b2 b3 b6 a4 a5 c1 fr mk1
      go_upto_region 10 with fail
      generalize (wa.alloc (.cells M2 22)).setCell ⟨w.heap.size, 3, none⟩ (.slice (some ⟨wa.heap.size, 0, none⟩) N N) = wb at *
      obtain ⟨b1, b2, b3, b6, b7, b8⟩ := stage (M := M3) (e := 3) HA2.out.1 (Nat.le_refl w.heap.size) 4 (.slice (some ⟨wb.heap.size, 0, none⟩) N N)
      change _ = some (Value.slice none 0 0) at b6
      have HA3 := show Hid _ from And.intro b1 (And.intro b2 (And.intro b3 b8))
      clear b1 b2 b3 b8 b4 b5 mk2
      go_upto_region 11 with fail
      generalize (wb.alloc (.cells M3 3)).setCell ⟨w.heap.size, 4, none⟩ (.slice (some ⟨wb.heap.size, 0, none⟩) N N) = wc at *
      clear b6 b7 mk3
      go_wp2
      go_ret2
      have hNe := HNe.out
      clear HNe
      subst hNe
      obtain ⟨x1, x2, x3, x4⟩ := HA.out
      obtain ⟨y1, y2, y3, y4⟩ := HA2.out
      obtain ⟨z1, z2, z3, z4⟩ := HA3.out
      obtain ⟨m1, m2, m3⟩ := HMs.out
      have lt2 := (Array.getElem?_eq_some_iff.1 x2).1
      have lty := (Array.getElem?_eq_some_iff.1 y2).1
      have hr1 := (Array.getElem?_eq_some_iff.1 HBk.out).1
      have sz1 := x3.size
      have sz2 := y3.size
      have f2 : wc.heap[wr.heap.size]? = some (.cells M1 4 (0, 0)) := (z3.block _ (by omega) (by simp; omega)).trans ((y3.block _ lt2 (by simp; omega)).trans x2)
      have f3 : wc.heap[wa.heap.size]? = some (.cells M2 22 (0, 0)) := (z3.block _ lty (by simp; omega)).trans y2
      refine ⟨⟨w.heap.size, wr.heap.size, wa.heap.size, wb.heap.size⟩, rfl, ⟨z1, ⟨M1, f2, m1⟩, ⟨M2, f3, fun p hp => ⟨0, m2 p hp, fun e he => by cases he⟩⟩, ⟨M3, z2, fun p hp => ⟨0, m3 p hp, fun e he => by cases he⟩⟩⟩, ?_, fun k hk => ?_⟩
      · have q1 := fr_below x3 HB.out (by simp) (Nat.le_refl _)
        have q2 := fr_below y3 q1 (by simp) (Nat.le_refl _)
        exact fr_below z3 q2 (by simp) (Nat.le_refl _)
      · simp only [Ro.foot, List.mem_cons, List.not_mem_nil, or_false] at hk
        omega
set_option maxHeartbeats 1600000 in
theorem rhome_any {w : World} {q : Ro} {n most len b : Nat} {t : Tb Int} (h : Rm w q n most (b + 1) len t) (hb : b ≤ 22) (k : Nat) : Calls Try.prog 12 #[.pointer (some ⟨q.r, 0, none⟩), U k] w fun e w' => e = .returned (I (hm b k : Nat)) ∧ w' = w := by
  obtain ⟨_, a1, _⟩ := h.cellsR
  have q1 := home_eq (k := k) hb
  have e1 : (64 : Int) - ((b + 1 : Nat) : Int) = 63 - (b : Int) := by omega
  have e2 : 64 - (b + 1) = 63 - b := by omega
  clear h
  go_enter Try.func12, Try.ntmps12
  go_wp2
  trace_state
  go_ret
  exact ⟨congrArg (fun z => Ending.returned (I z)) q1, rfl⟩
end Go.Proofs.Ytkekmmomdhdegaa.Rx
