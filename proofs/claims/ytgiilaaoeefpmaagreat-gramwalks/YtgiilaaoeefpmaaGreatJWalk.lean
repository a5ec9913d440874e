import Derived.Test.YtgiilaaoeefpmaaGreatTrOwn
import Derived.Test.YtgiilaaoeefpmaaGreatJKind
import Derived.Deep.DeepCutAuto
import Derived.Deep.CutBlock
import Derived.Test.YtgiilaaoeefpmaaGreatGrBase
import Derived.Deep.Onto
import Derived.RangeFuncNested
import Derived.RangeFuncBound
import Derived.RangeFuncCalls
import Derived.RangeFuncBox
import Derived.RangeFuncLeaves
import Derived.Shelf.Abstract
import Derived.Shelf.RegionOpen
import Derived.OwnWalkIn
import Derived.TacticsInMore
import Derived.LoopNIn
import Derived.LoopIn
namespace Go.Proofs.YtgiilaaoeefpmaaGreat.Gr
open Go.RowKit Go.Proofs.YtgiilaaoeefpmaaGreat.Sp Go.Proofs.YtgiilaaoeefpmaaGreat.Lx

/-- numbers in a block of their own -/
def RowI (w : World) (g n : Nat) (f : Nat → Int) : Prop := w.heap[g]? = some (.cells ((List.range n).map (fun i => Value.int .i64 (f i))).toArray 3 (0, 0))
theorem RowI.lt {w : World} {g n : Nat} {f : Nat → Int} (h : RowI w g n f) : g < w.heap.size := (Array.getElem?_eq_some_iff.1 h).1
theorem RowI.cell {w : World} {g n : Nat} {f : Nat → Int} (h : RowI w g n f) {j : Nat} (hj : j < n) : w.cell? ⟨g, j, none⟩ = some (.int .i64 (f j)) := by
  rw [World.cell?, h]
  simp [hj]
theorem RowI.frozen {w : World} {g n : Nat} {f : Nat → Int} (h : RowI w g n f) (j : Nat) : w.frozen? ⟨g, j, none⟩ = false := by
  rw [World.frozen?, h]
  simp
theorem RowI.ext {w : World} {g n : Nat} {f f' : Nat → Int} (h : RowI w g n f) (e : ∀ i, i < n → f i = f' i) : RowI w g n f' := by
  have : (List.range n).map (fun i => Value.int .i64 (f i)) = (List.range n).map (fun i => Value.int .i64 (f' i)) := by
    refine List.map_congr_left fun i hi => ?_
    rw [e i (List.mem_range.1 hi)]
  unfold RowI
  rw [← this]
  exact h
theorem RowI.of_block {w w' : World} {g n : Nat} {f : Nat → Int} (h : RowI w g n f) (e : w'.heap[g]? = w.heap[g]?) : RowI w' g n f := e.trans h
theorem RowI.below {w w' : World} {g n : Nat} {f : Nat → Int} (h : RowI w g n f) {b : Nat} (hb : Below b w w') (hg : g < b) : RowI w' g n f := h.of_block (hb.block g hg)
theorem RowI.other {w : World} {g n : Nat} {f : Nat → Int} (h : RowI w g n f) {a : Addr} (ha : g ≠ a.block) (v : Value) : RowI (w.setCell a v) g n f := h.of_block (Below.heap_setCell w a v g ha)
theorem RowI.set {w : World} {g n : Nat} {f : Nat → Int} (h : RowI w g n f) (k : Nat) (x : Int) : RowI (w.setCell ⟨g, k, none⟩ (.int .i64 x)) g n (fun i => if i = k then x else f i) := by
  have h1 : (w.setCell ⟨g, k, none⟩ (.int .i64 x)).heap[g]? = some (.cells (((List.range n).map (fun i => Value.int .i64 (f i))).toArray.setIfInBounds k (.int .i64 x)) 3 (0, 0)) := heap_setCell_same w g k _ _ _ h
  have h2 : ((List.range n).map (fun i => Value.int .i64 (f i))).toArray.setIfInBounds k (.int .i64 x) = ((List.range n).map (fun i => Value.int .i64 (if i = k then x else f i))).toArray := by
    apply Array.ext'
    rw [Array.toList_setIfInBounds]
    apply List.ext_getElem?
    intro i
    by_cases hi : i < n
    · by_cases hk : i = k
      · subst hk; simp [hi]
      · rw [List.getElem?_set_ne (fun e => hk e.symm)]
        simp [hi, hk]
    · rw [List.getElem?_eq_none (by simp; omega), List.getElem?_eq_none (by simp; omega)]
  unfold RowI
  rw [h1, h2]
/-- make([]int, n) -/
theorem mk_ints (n : Nat) (hn : n ≤ 2932031007317) : ∃ M : Array Value, (∀ u : World, (Instr.makeSlice 30 (.int .i64 (n : Int)) (.int .i64 (n : Int))).run Tryz.prog u = .ok (.slice (some ⟨u.heap.size, 0, none⟩) n n) (u.alloc (.cells M 3))) ∧
    ∀ u : World, RowI (u.alloc (.cells M 3)) u.heap.size n (fun _ => 0) := by
  obtain ⟨i0, hi, hz0, hz1, hz2⟩ := info_parts info3
  refine ⟨madeCells (Value.int .i64 0).cells ((n : Int).toNat * i0.size), fun u => ?_, fun u => ?_⟩
  · have h := run_make (P := Tryz.prog) u 30 3 i0 (.int .i64 0) Tryz.underlying30 hi hz0 .i64 .i64 (n : Int) (n : Int) (by omega) (Int.le_refl _) (by rw [hz2]; omega) (by omega)
    have e : (n : Int).toNat = n := by omega
    rw [e] at h ⊢
    exact h
  · have e : madeCells (Value.int .i64 0).cells ((n : Int).toNat * i0.size) = ((List.range n).map (fun _ => Value.int .i64 0)).toArray := by
      apply Array.ext'
      have e1 : (Value.int .i64 0).cells = #[.int .i64 0] := rfl
      rw [e1, toList_madeCells_one, hz1]
      apply List.ext_getElem?
      intro j
      have e2 : (n : Int).toNat * 1 = n := by omega
      rw [e2]
      by_cases hj : j < n
      · simp [hj]
      · simp [hj]
    rw [e]
    exact heap_alloc_new u _
end Go.Proofs.YtgiilaaoeefpmaaGreat.Gr

namespace Go.Proofs.YtgiilaaoeefpmaaGreat.Gr
open Go.RowKit Go.Proofs.YtgiilaaoeefpmaaGreat.Sp Go.Proofs.YtgiilaaoeefpmaaGreat.Lx

theorem rows_at {w : World} {ao : Option Addr} {l : List Rz} (h : IsRz w ao l) {k : Nat} (hk : k < l.length) : ∃ r g o, l.drop k = r :: l.drop (k + 1) ∧ l[k]? = some r ∧ ao = some ⟨g, o, none⟩ ∧ g < w.heap.size ∧
    w.cell? ⟨g, o + k * 5, none⟩ = some (.int .i64 r.kind) ∧ w.cell? ⟨g, o + k * 5 + 1, none⟩ = some (.string r.name) ∧ w.cell? ⟨g, o + k * 5 + 2, none⟩ = some (.int .i64 r.stop) ∧ w.cell? ⟨g, o + k * 5 + 3, none⟩ = some (.int .i64 r.n) ∧ w.cell? ⟨g, o + k * 5 + 4, none⟩ = some (.int .i64 r.kids) := by
  obtain ⟨r, h1, h2, _⟩ := drop_at hk
  obtain ⟨g, o, e, hg, c0, c1, c2, c3, c4⟩ := h k r h1
  exact ⟨r, g, o, h2, h1, e, hg, c0, c1, c2, c3, c4⟩
theorem wrong_no {t : List Ab} {i : Nat} {r : Rz} {l : List Rz} (h : (t.isEmpty || !(mayStand (top t).kind (top t).seen (top t).kid r.kind && filled r)) = true) : wrong t i (r :: l) = (i, true) := by
  rw [wrong, if_pos h]
theorem wrong_go {t : List Ab} {i : Nat} {r : Rz} {l : List Rz} (h : (t.isEmpty || !(mayStand (top t).kind (top t).seen (top t).kid r.kind && filled r)) = false) : wrong t i (r :: l) = wrong (past t r 0) (i + 1) l := by
  rw [wrong, if_neg (by rw [h]; simp)]

set_option maxHeartbeats 12800000 in
set_option maxRecDepth 100000 in
theorem firstWrong_any (ao : Option Addr) (l : List Rz) (cap : Nat) (w : World) (h : IsRz w ao l) (hn : l.length ≤ 2932031007317) :
    Calls Tryz.prog 23 #[.slice ao l.length cap] w fun e w' => e = .returned (.tuple #[.int .i64 ((wrong [ab1] 0 l).1 : Nat), .bool (wrong [ab1] 0 l).2]) ∧ Below w.heap.size w w' := by
  have HI : Hid (IsRz w ao l) := h
  have HN : Hid (l.length ≤ 2932031007317) := hn
  have hO : OwnT (w.alloc (.cells #[.int .i64 0, .int .i64 1, .int .i64 0, .int .i64 0, .int .i64 0] 53)) w.heap.size (.slice (some ⟨w.heap.size, 0, none⟩) 1 1) [ab1] :=
    World.ownsRow_lit w #[.int .i64 0, .int .i64 1, .int .i64 0, .int .i64 0, .int .i64 0] 1 (Nat.le_refl _) (by unfold maxLen; omega) rfl
  have HO : Hid (OwnT (w.alloc (.cells #[.int .i64 0, .int .i64 1, .int .i64 0, .int .i64 0, .int .i64 0] 53)) w.heap.size (.slice (some ⟨w.heap.size, 0, none⟩) 1 1) [ab1]) := hO
  have HB0 : Hid (Below w.heap.size w (w.alloc (.cells #[.int .i64 0, .int .i64 1, .int .i64 0, .int .i64 0, .int .i64 0] 53))) := (Below.refl _ w).alloc (Nat.le_refl _) _
  have hln : (l.length : Int) ≤ 2932031007317 := by omega
  clear h hn hO
  go_enter Tryz.func23, Tryz.ntmps23
  go_wp2_with fail
  go_loopg [4, 11] l.length (fun gq x i wr => ∃ (k : Nat) (v : Value) (t : List Ab), v = x ∧ i = .int .i64 k ∧ gq = l.length - k ∧ k ≤ l.length ∧ OwnT wr w.heap.size v t ∧ Below w.heap.size w wr ∧ t.length ≤ k + 1 ∧ SeenLe k t ∧ wrong t k (l.drop k) = wrong [ab1] 0 l)
  case atStart => exact ⟨0, _, [ab1], rfl, rfl, rfl, Nat.zero_le _, HO.out, HB0.out, Nat.le_refl _, fun a ha => by simp only [List.mem_singleton] at ha; subst ha; exact Nat.le_refl _, rfl⟩
  case round =>
    obtain ⟨k, v, t, rfl, rfl, hgk, hk, hOw, hBr, htl, hsn, hwr⟩ := hrel
    have HG : Hid (gk = l.length - k) := hgk
    have HOr : Hid (OwnT wr w.heap.size v t) := hOw
    have HBr : Hid (Below w.heap.size w wr) := hBr
    have HTL : Hid (t.length ≤ k + 1 ∧ SeenLe k t ∧ k ≤ l.length ∧ l.length ≤ 2932031007317) := ⟨htl, hsn, hk, HN.out⟩
    have HWr : Hid (wrong t k (l.drop k) = wrong [ab1] 0 l) := hwr
    clear hgk hOw hBr htl hsn hwr
    by_cases hlt : k < l.length
    · have hlt' : (k : Int) < (l.length : Int) := by omega
      obtain ⟨r, g, o, hdr, hlk, rfl, hg, c0, c1, c2, c3, c4⟩ := rows_at (HI.out.below HBr.out) hlt
      have HDr : Hid (l.drop k = r :: l.drop (k + 1)) := hdr
      have HB1 : Hid (Below wr.heap.size wr (wr.alloc (.cells #[.int .i64 r.kind, .string r.name, .int .i64 r.stop, .int .i64 r.n, .int .i64 r.kids] 46))) := (Below.refl _ wr).alloc (Nat.le_refl _) _
      have hne : Nonempty (Kin (wr.alloc (.cells #[.int .i64 r.kind, .string r.name, .int .i64 r.stop, .int .i64 r.n, .int .i64 r.kids] 46))) := Kin.there _
      have hc : ∀ j u, ([.int .i64 r.kind, .string r.name, .int .i64 r.stop, .int .i64 r.n, .int .i64 r.kids] : List Value)[j]? = some u → ∀ y : Kin (wr.alloc (.cells #[.int .i64 r.kind, .string r.name, .int .i64 r.stop, .int .i64 r.n, .int .i64 r.kids] 46)), y.u.cell? ⟨wr.heap.size, j, none⟩ = some u := fun j u hu y =>
        y.cell (a := ⟨wr.heap.size, j, none⟩) (by simp) (by rw [World.cell?, heap_alloc_new]; simpa using hu)
      have y0 := hc 0 _ rfl
      have y1 := hc 1 _ rfl
      have y2 := hc 2 _ rfl
      have y3 := hc 3 _ rfl
      have y4 := hc 4 _ rfl
      have H3 : Hid (∀ w, Calls Tryz.prog 37 #[.agg #[.int .i64 r.kind, .string r.name, .int .i64 r.stop, .int .i64 r.n, .int .i64 r.kids]] w fun e w' => e = .returned (.bool (filled r)) ∧ Below w.heap.size w w') := fun w => filled_any r w
      have HPst : Hid (∀ W, Below wr.heap.size wr W → Calls Tryz.prog 27 #[v, .agg #[.int .i64 r.kind, .string r.name, .int .i64 r.stop, .int .i64 r.n, .int .i64 r.kids], .int .i64 0] W fun e w' => ∃ v', e = .returned v' ∧ OwnT w' w.heap.size v' (past t r 0) ∧ Went W v w' v') := fun W hW =>
        past_any t r 0 w.heap.size v W (own_below HOr.out hW) (Nat.le_trans HBr.out.size hW.size) (fun a ha => by have h1 := HTL.out.2.1 a ha; have h2 := HTL.out.2.2; omega) (by have h1 := HTL.out; omega)
      have HV : Hid (∀ j, v.ownBlock = some j → w.heap.size ≤ j) := fun j hj => (World.ownsRow.lt HOr.out j hj).1
      clear hc hdr hlk hlt
      cases t with
      | nil =>
        obtain ⟨bo, bc, rfl⟩ := own_form HOr.out
        simp only [List.length_nil] at *
        have H1 : Hid (∀ y : Kin (wr.alloc (.cells #[.int .i64 r.kind, .string r.name, .int .i64 r.stop, .int .i64 r.n, .int .i64 r.kids] 46)), Calls Tryz.prog 25 #[.slice bo 0 bc] y.u fun e w' => e = .returned (agb ab0) ∧ Below y.u.heap.size y.u w') := fun y => last_any [] w.heap.size _ y.u (own_below HOr.out (HB1.out.trans (y.ok.mono HB1.out.size))) (by simp)
        have H2 : Hid (∀ w, Calls Tryz.prog 36 #[agb ab0, .int .i64 r.kind] w fun e w' => e = .returned (.bool (mayStand 0 0 0 r.kind)) ∧ Below w.heap.size w w') := fun w => mayStand_any ab0 r.kind w
        go_wp2_with fail
        refine wp_region_kin (by kernel_rfl) (by kernel_rfl) ?_
        iterate 6 quiet_step (exact kin_of (H1.out _))
        iterate 3 quiet_step (exact kin_of (H2.out _))
        iterate 5 quiet_step (exact kin_of (H3.out _))
        iterate 2 quiet_step (fail)
        refine wpQuiet_nil ?_
        rintro _ ⟨z, rfl⟩
        have HZ : Hid (Below wr.heap.size wr z.u) := HB1.out.trans (z.ok.mono HB1.out.size)
        have z0 := y0 z
        have z1 := y1 z
        have z2 := y2 z
        have z3 := y3 z
        have z4 := y4 z
        clear y0 y1 y2 y3 y4
        generalize z.u = wz at *
        go_wp2_with fail
        go_ret2
        refine ⟨?_, HBr.out.trans (HZ.out.mono HBr.out.size)⟩
        rw [← HWr.out, HDr.out]
        rw [wrong_no rfl]
        rfl
      | cons a t =>
        obtain ⟨ga, capa, rfl, _, _, _, _⟩ := own_top HOr.out
        have htl : (t.length : Int) ≤ 2932031007317 := by have := HTL.out; simp only [List.length_cons] at this; omega
        have H1 : Hid (∀ y : Kin (wr.alloc (.cells #[.int .i64 r.kind, .string r.name, .int .i64 r.stop, .int .i64 r.n, .int .i64 r.kids] 46)), Calls Tryz.prog 25 #[.slice (some ⟨ga, 0, none⟩) (t.length + 1) capa] y.u fun e w' => e = .returned (.agg #[.int .i64 a.kind, .int .i64 a.kids, .int .i64 a.seen, .int .i64 a.kid, .int .i64 a.levels]) ∧ Below y.u.heap.size y.u w') := fun y => last_any (a :: t) w.heap.size _ y.u (own_below HOr.out (HB1.out.trans (y.ok.mono HB1.out.size))) (by simp only [List.length_cons]; omega)
        have H2 : Hid (∀ w, Calls Tryz.prog 36 #[.agg #[.int .i64 a.kind, .int .i64 a.kids, .int .i64 a.seen, .int .i64 a.kid, .int .i64 a.levels], .int .i64 r.kind] w fun e w' => e = .returned (.bool (mayStand a.kind a.seen a.kid r.kind)) ∧ Below w.heap.size w w') := fun w => mayStand_any a r.kind w
        have HQ : Hid ((a :: t).isEmpty = false ∧ top (a :: t) = a) := ⟨rfl, rfl⟩
        cases hb1 : mayStand a.kind a.seen a.kid r.kind
        · have HX : Hid (((a :: t).isEmpty || !(mayStand (top (a :: t)).kind (top (a :: t)).seen (top (a :: t)).kid r.kind && filled r)) = true) := by show _ = _; rw [HQ.out.1, HQ.out.2, hb1]; rfl
          rw [hb1] at H2
          clear hb1
          go_wp2_with fail
          refine wp_region_kin (by kernel_rfl) (by kernel_rfl) ?_
          iterate 6 quiet_step (exact kin_of (H1.out _))
          iterate 3 quiet_step (exact kin_of (H2.out _))
          iterate 5 quiet_step (exact kin_of (H3.out _))
          iterate 2 quiet_step (fail)
          refine wpQuiet_nil ?_
          rintro _ ⟨z, rfl⟩
          have HZ : Hid (Below wr.heap.size wr z.u) := HB1.out.trans (z.ok.mono HB1.out.size)
          have z0 := y0 z
          have z1 := y1 z
          have z2 := y2 z
          have z3 := y3 z
          have z4 := y4 z
          clear y0 y1 y2 y3 y4
          generalize z.u = wz at *
          go_wp2_with fail
          go_ret2
          refine ⟨?_, HBr.out.trans (HZ.out.mono HBr.out.size)⟩
          rw [← HWr.out, HDr.out]
          rw [wrong_no HX.out]
          rfl
        · cases hb2 : filled r
          · have HX : Hid (((a :: t).isEmpty || !(mayStand (top (a :: t)).kind (top (a :: t)).seen (top (a :: t)).kid r.kind && filled r)) = true) := by show _ = _; rw [HQ.out.1, HQ.out.2, hb1, hb2]; rfl
            rw [hb1] at H2
            rw [hb2] at H3
            clear hb1 hb2
            go_wp2_with fail
            refine wp_region_kin (by kernel_rfl) (by kernel_rfl) ?_
            iterate 6 quiet_step (exact kin_of (H1.out _))
            iterate 3 quiet_step (exact kin_of (H2.out _))
            iterate 5 quiet_step (exact kin_of (H3.out _))
            iterate 2 quiet_step (fail)
            refine wpQuiet_nil ?_
            rintro _ ⟨z, rfl⟩
            have HZ : Hid (Below wr.heap.size wr z.u) := HB1.out.trans (z.ok.mono HB1.out.size)
            have z0 := y0 z
            have z1 := y1 z
            have z2 := y2 z
            have z3 := y3 z
            have z4 := y4 z
            clear y0 y1 y2 y3 y4
            generalize z.u = wz at *
            go_wp2_with fail
            go_ret2
            refine ⟨?_, HBr.out.trans (HZ.out.mono HBr.out.size)⟩
            rw [← HWr.out, HDr.out]
            rw [wrong_no HX.out]
            rfl
          · have HX : Hid (((a :: t).isEmpty || !(mayStand (top (a :: t)).kind (top (a :: t)).seen (top (a :: t)).kid r.kind && filled r)) = false) := by show _ = _; rw [HQ.out.1, HQ.out.2, hb1, hb2]; rfl
            rw [hb1] at H2
            rw [hb2] at H3
            clear hb1 hb2
            go_wp2_with fail
            refine wp_region_kin (by kernel_rfl) (by kernel_rfl) ?_
            iterate 6 quiet_step (exact kin_of (H1.out _))
            iterate 3 quiet_step (exact kin_of (H2.out _))
            iterate 5 quiet_step (exact kin_of (H3.out _))
            iterate 2 quiet_step (fail)
            refine wpQuiet_nil ?_
            rintro _ ⟨z, rfl⟩
            have HZ : Hid (Below wr.heap.size wr z.u) := HB1.out.trans (z.ok.mono HB1.out.size)
            have z0 := y0 z
            have z1 := y1 z
            have z2 := y2 z
            have z3 := y3 z
            have z4 := y4 z
            clear y0 y1 y2 y3 y4
            generalize z.u = wz at *
            go_wp2_with fail
            refine (HPst.out wz HZ.out).mono ?_
            rintro e w8 ⟨v8, rfl, hO8, hW8⟩
            have HO8 : Hid (OwnT w8 w.heap.size v8 (past (a :: t) r 0)) := hO8
            have HB8 : Hid (Below w.heap.size w w8) := (HBr.out.trans (HZ.out.mono HBr.out.size)).trans (hW8.low HV.out (Nat.le_trans HBr.out.size HZ.out.size))
            obtain ⟨bo8, bc8, rfl⟩ := own_form hO8
            clear hO8 hW8
            go_wp2_with fail
            go_roundg (l.length - (k + 1))
            case measure => have := HG.out; omega
            case rel =>
              refine ⟨k + 1, _, past (a :: t) r 0, rfl, by go_num, rfl, by omega, HO8.out, HB8.out, ?_, seen_past HTL.out.2.1 r 0, ?_⟩
              · have h1 := past_len (a :: t) r 0
                have h2 := HTL.out.1
                omega
              · rw [← HWr.out, HDr.out, wrong_go HX.out]
    · have hlt' : ¬ ((k : Int) < (l.length : Int)) := by omega
      have hke : k = l.length := by have := HTL.out; omega
      obtain ⟨bo, bc, rfl⟩ := own_form HOr.out
      have htl : (t.length : Int) ≤ 2932031007318 := by have := HTL.out; omega
      have HE : Hid (wrong [ab1] 0 l = (l.length, decide (0 < t.length))) := by
        show _ = _
        rw [← HWr.out, List.drop_eq_nil_of_le (by omega), wrong, hke]
        cases t <;> simp
      clear hlt hke
      go_wp2_with fail
      go_ret2
      refine ⟨?_, HBr.out⟩
      rw [HE.out]
      rfl
end Go.Proofs.YtgiilaaoeefpmaaGreat.Gr

namespace Go.Proofs.YtgiilaaoeefpmaaGreat.Gr
open Go.RowKit Go.Proofs.YtgiilaaoeefpmaaGreat.Sp Go.Proofs.YtgiilaaoeefpmaaGreat.Lx

/-- one tree, whose rows have as many kids as they say -/
structure TreeZ (l : List Rz) : Prop where
  whole : Whole l
  kids : ∀ i, i < l.length → (rat l i).kids = (km l i : Int)
/-- a row's kids' number, in memory -/
theorem kids_at {w : World} {ao : Option Addr} {l : List Rz} (h : IsRz w ao l) (hT : TreeZ l) {k : Nat} (hk : k < l.length) : ∃ g o, ao = some ⟨g, o, none⟩ ∧ g < w.heap.size ∧ w.cell? ⟨g, o + k * 5, none⟩ = some (.int .i64 (rat l k).kind) ∧ w.cell? ⟨g, o + k * 5 + 4, none⟩ = some (.int .i64 (km l k : Int)) := by
  obtain ⟨g, o, e, hg, c0, _, _, _, c4⟩ := h k _ (some_rat hk)
  rw [hT.kids k hk] at c4
  exact ⟨g, o, e, hg, c0, c4⟩

set_option maxHeartbeats 6400000 in
set_option maxRecDepth 100000 in
theorem ends_any (ao : Option Addr) (l : List Rz) (cap : Nat) (w : World) (h : IsRz w ao l) (hn : l.length ≤ 2932031007317) (hT : TreeZ l) :
    Calls Tryz.prog 10 #[.slice ao l.length cap] w fun e w' => ∃ g, e = .returned (.slice (some ⟨g, 0, none⟩) l.length l.length) ∧ w.heap.size ≤ g ∧ RowI w' g l.length (fun i => (endp l i : Int)) ∧ Below w.heap.size w w' := by
  obtain ⟨M, hmk, hM⟩ := mk_ints l.length hn
  have HI : Hid (IsRz w ao l) := h
  have HN : Hid (l.length ≤ 2932031007317) := hn
  have HT : Hid (TreeZ l) := hT
  have HA : Hid (RowI (w.alloc (.cells M 3)) w.heap.size l.length (fun i => if l.length ≤ i then (endp l i : Int) else 0)) := (hM w).ext fun i hi => by rw [if_neg (by omega)]
  have HB0 : Hid (Below w.heap.size w (w.alloc (.cells M 3))) := (Below.refl _ w).alloc (Nat.le_refl _) _
  have hln : (l.length : Int) ≤ 2932031007317 := by omega
  clear h hn hT hM
  go_enter Tryz.func10, Tryz.ntmps10
  go_wp2_with fail
  go_loopg [4] l.length (fun gq i wr => ∃ m : Nat, m ≤ l.length ∧ gq = m ∧ i = .int .i64 ((m : Int) - 1) ∧ RowI wr w.heap.size l.length (fun i => if m ≤ i then (endp l i : Int) else 0) ∧ Below w.heap.size w wr)
  case atStart => exact ⟨l.length, Nat.le_refl _, rfl, by go_num, HA.out, HB0.out⟩
  case round =>
    obtain ⟨m, hm, hgk, rfl, hR, hB⟩ := hrel
    have HG : Hid (gk = m) := hgk
    have HR : Hid (RowI wr w.heap.size l.length (fun i => if m ≤ i then (endp l i : Int) else 0)) := hR
    have HB : Hid (Below w.heap.size w wr) := hB
    clear hgk hR hB hmk
    cases m with
    | zero =>
      go_wp2_with fail
      go_ret
      exact ⟨w.heap.size, rfl, Nat.le_refl _, HR.out.ext fun i _ => by rw [if_pos (Nat.zero_le _)], HB.out⟩
    | succ m =>
      have hml : m < l.length := by omega
      have hmi : (((m + 1 : Nat) : Int) - 1) = (m : Int) := by omega
      rw [hmi]
      obtain ⟨g, o, rfl, hg, c0, c4⟩ := kids_at (HI.out.below HB.out) HT.out hml
      have hml' : (m : Int) < (l.length : Int) := by omega
      have hm0 : (m : Int) ≤ 2932031007317 := by omega
      clear hm hmi
      generalize wr = W1 at *
      go_wp2_with fail
      go_loopg [5, 6] (km l m) (fun gq nx kk wr' => ∃ k : Nat, k ≤ km l m ∧ gq = km l m - k ∧ nx = .int .i64 (kidp l m k : Int) ∧ kk = .int .i64 k ∧ wr' = W1)
      case atStart => exact ⟨0, Nat.zero_le _, rfl, by rw [kid_zero]; go_num, rfl, rfl⟩
      case round =>
        obtain ⟨k, hk, hgk, rfl, rfl, hw⟩ := hrel
        have HG2 : Hid (gk = km l m - k) := hgk
        rw [hw]
        clear hgk hw
        have HK : Hid (k ≤ km l m) := hk
        have hkl : (kidp l m k : Int) ≤ 2932031007317 := by have h1 := kid_le HT.out.whole hml hk; have h2 := HN.out; omega
        have HKe : Hid (km l m ≤ kidp l m (km l m)) := by
          show _ ≤ _
          have : ∀ j, j ≤ km l m → j ≤ kidp l m j := by
            intro j
            induction j with
            | zero => intro _; omega
            | succ j ih =>
              intro hj
              obtain ⟨h1, h2, h3⟩ := kid_at HT.out.whole hml (k := j) (by omega)
              have h4 := (end_kid HT.out.whole h1).2.1
              have := ih (by omega)
              omega
          exact this _ (Nat.le_refl _)
        have hkm : (km l m : Int) ≤ 2932031007317 := by have h1 := HKe.out; have h2 := kid_le HT.out.whole hml (Nat.le_refl _); have h3 := HN.out; omega
        by_cases hlt : k < km l m
        · obtain ⟨h1, h2, h3⟩ := kid_at HT.out.whole hml hlt
          have hc := HR.out.cell h1
          rw [if_pos (by omega)] at hc
          have hlt' : (k : Int) < (km l m : Int) := by omega
          have hkl' : (kidp l m k : Int) < (l.length : Int) := by omega
          have HN2 : Hid (kidp l m (k + 1) = endp l (kidp l m k)) := h2
          clear h1 h2 h3 hlt hk
          go_wp2_with fail
          go_roundg (km l m - (k + 1))
          case measure => have h1 := HG2.out; have h2 := HK.out; omega
          case rel => exact ⟨k + 1, by omega, rfl, by rw [HN2.out], by go_num, rfl⟩
        · have hlt' : ¬ ((k : Int) < (km l m : Int)) := by omega
          have hke : k = km l m := by omega
          have HE : Hid (kidp l m k = endp l m) := by show _ = _; rw [hke]; exact (end_kid HT.out.whole hml).1.symm
          have hc := HR.out.cell hml
          have hf := HR.out.frozen m
          generalize (if m + 1 ≤ m then (endp l m : Int) else 0) = y at hc
          have HS : Hid (RowI (W1.setCell ⟨w.heap.size, m, none⟩ (.int .i64 (kidp l m k : Int))) w.heap.size l.length (fun i => if i = m then (kidp l m k : Int) else if m + 1 ≤ i then (endp l i : Int) else 0)) := HR.out.set m (kidp l m k : Int)
          have HB2 : Hid (Below w.heap.size w (W1.setCell ⟨w.heap.size, m, none⟩ (.int .i64 (kidp l m k : Int)))) := HB.out.trans ((Below.refl w.heap.size W1).setCell (p := ⟨w.heap.size, m, none⟩) (Nat.le_refl _) _)
          clear hke hlt hk
          go_wp2_with fail
          go_roundg m
          case measure => have := HG.out; omega
          case rel =>
            refine ⟨m, by omega, rfl, by go_num, HS.out.ext fun i _ => ?_, HB2.out⟩
            by_cases e : i = m
            · subst e; rw [if_pos rfl, if_pos (Nat.le_refl _), HE.out]
            · rw [if_neg e]
              by_cases e2 : m + 1 ≤ i
              · rw [if_pos e2, if_pos (by omega)]
              · rw [if_neg e2, if_neg (by omega)]
end Go.Proofs.YtgiilaaoeefpmaaGreat.Gr

namespace Go.Proofs.YtgiilaaoeefpmaaGreat.Gr
open Go.RowKit Go.Proofs.YtgiilaaoeefpmaaGreat.Sp Go.Proofs.YtgiilaaoeefpmaaGreat.Lx

def fu (l : List Rz) (i k p : Nat) : Int := if p = 0 then -1 else if up l p < i ∨ (up l p = i ∧ wh l p < k) then (up l p : Int) else 0
def fw (l : List Rz) (i k p : Nat) : Int := if p = 0 then 0 else if up l p < i ∨ (up l p = i ∧ wh l p < k) then (wh l p : Int) else 0
theorem f_iff {l : List Rz} (h : Whole l) {i k q : Nat} (h0 : 0 < q) (hq : q < l.length) (hne : q ≠ kidp l i k) : (up l q < i ∨ (up l q = i ∧ wh l q < k + 1)) ↔ (up l q < i ∨ (up l q = i ∧ wh l q < k)) := by
  have h1 := (up_at h h0 hq).1
  constructor
  · rintro (h2 | ⟨h2, h3⟩)
    · exact Or.inl h2
    · refine Or.inr ⟨h2, ?_⟩
      rcases Nat.lt_or_ge (wh l q) k with h4 | h4
      · exact h4
      · have : wh l q = k := by omega
        rw [h2, this] at h1
        exact absurd h1.symm hne
  · rintro (h2 | ⟨h2, h3⟩)
    · exact Or.inl h2
    · exact Or.inr ⟨h2, by omega⟩
theorem fu_step {l : List Rz} (h : Whole l) {i k : Nat} (hi : i < l.length) (hk : k < km l i) (q : Nat) (hq : q < l.length) : (if q = kidp l i k then (i : Int) else fu l i k q) = fu l i (k + 1) q := by
  obtain ⟨e1, e2⟩ := up_kid h hi hk
  have h3 := (kid_at h hi hk).2.2
  by_cases e : q = kidp l i k
  · rw [if_pos e]
    unfold fu
    rw [if_neg (by omega), if_pos (Or.inr ⟨by rw [e]; exact e1, by rw [e, e2]; omega⟩), e, e1]
  · rw [if_neg e]
    unfold fu
    by_cases h0 : q = 0
    · rw [if_pos h0, if_pos h0]
    · rw [if_neg h0, if_neg h0]
      simp only [f_iff h (by omega) hq e]
theorem fw_step {l : List Rz} (h : Whole l) {i k : Nat} (hi : i < l.length) (hk : k < km l i) (q : Nat) (hq : q < l.length) : (if q = kidp l i k then (k : Int) else fw l i k q) = fw l i (k + 1) q := by
  obtain ⟨e1, e2⟩ := up_kid h hi hk
  have h3 := (kid_at h hi hk).2.2
  by_cases e : q = kidp l i k
  · rw [if_pos e]
    unfold fw
    rw [if_neg (by omega), if_pos (Or.inr ⟨by rw [e]; exact e1, by rw [e, e2]; omega⟩), e, e2]
  · rw [if_neg e]
    unfold fw
    by_cases h0 : q = 0
    · rw [if_pos h0, if_pos h0]
    · rw [if_neg h0, if_neg h0]
      simp only [f_iff h (by omega) hq e]
theorem f_done {l : List Rz} (h : Whole l) {i q : Nat} (h0 : 0 < q) (hq : q < l.length) : (up l q < i ∨ (up l q = i ∧ wh l q < km l i)) ↔ (up l q < i + 1 ∨ (up l q = i + 1 ∧ wh l q < 0)) := by
  have h1 := (up_at h h0 hq).2.1
  constructor
  · rintro (h2 | ⟨h2, h3⟩) <;> left <;> omega
  · rintro (h2 | ⟨h2, h3⟩)
    · rcases Nat.lt_or_ge (up l q) i with h4 | h4
      · exact Or.inl h4
      · have : up l q = i := by omega
        rw [this] at h1
        exact Or.inr ⟨this, h1⟩
    · omega
theorem fu_done {l : List Rz} (h : Whole l) {i q : Nat} (hq : q < l.length) : fu l i (km l i) q = fu l (i + 1) 0 q := by
  unfold fu
  by_cases h0 : q = 0
  · rw [if_pos h0, if_pos h0]
  · rw [if_neg h0, if_neg h0]
    simp only [f_done h (by omega) hq]
theorem fw_done {l : List Rz} (h : Whole l) {i q : Nat} (hq : q < l.length) : fw l i (km l i) q = fw l (i + 1) 0 q := by
  unfold fw
  by_cases h0 : q = 0
  · rw [if_pos h0, if_pos h0]
  · rw [if_neg h0, if_neg h0]
    simp only [f_done h (by omega) hq]
def upv (l : List Rz) (p : Nat) : Int := if p = 0 then -1 else (up l p : Int)
theorem fu_all {l : List Rz} (h : Whole l) {q : Nat} (hq : q < l.length) : fu l l.length 0 q = upv l q := by
  unfold fu upv
  by_cases h0 : q = 0
  · rw [if_pos h0, if_pos h0]
  · have := (up_at h (by omega) hq).2.2.1
    rw [if_neg h0, if_neg h0, if_pos (Or.inl (by omega))]
theorem fw_all {l : List Rz} (h : Whole l) {q : Nat} (hq : q < l.length) : fw l l.length 0 q = (wh l q : Int) := by
  unfold fw
  by_cases h0 : q = 0
  · rw [if_pos h0, h0]; rfl
  · have := (up_at h (by omega) hq).2.2.1
    rw [if_neg h0, if_pos (Or.inl (by omega))]
theorem km_le {l : List Rz} (h : Whole l) {m : Nat} (hm : m < l.length) : km l m ≤ l.length := by
  have : ∀ j, j ≤ km l m → j ≤ kidp l m j := by
    intro j
    induction j with
    | zero => intro _; omega
    | succ j ih =>
      intro hj
      obtain ⟨h1, h2, h3⟩ := kid_at h hm (k := j) (by omega)
      have h4 := (end_kid h h1).2.1
      have := ih (by omega)
      omega
  have h1 := this _ (Nat.le_refl _)
  have h2 := kid_le h hm (Nat.le_refl _)
  omega
/-- the three rows of numbers -/
structure Par3 (w0 : World) (l : List Rz) (ge i k : Nat) (wr : World) : Prop where
  u : RowI wr w0.heap.size l.length (fu l i k)
  v : RowI wr (w0.heap.size + 1) l.length (fw l i k)
  e : RowI wr ge l.length (fun i => (endp l i : Int))
  b : Below w0.heap.size w0 wr

set_option maxHeartbeats 6400000 in
set_option maxRecDepth 100000 in
theorem parents_any (ao : Option Addr) (l : List Rz) (cap : Nat) (w : World) (h : IsRz w ao l) (hn : l.length ≤ 2932031007317) (hT : TreeZ l) (h0 : 0 < l.length) :
    Calls Tryz.prog 28 #[.slice ao l.length cap] w fun e w' => e = .returned (.tuple #[.slice (some ⟨w.heap.size, 0, none⟩) l.length l.length, .slice (some ⟨w.heap.size + 1, 0, none⟩) l.length l.length]) ∧
      RowI w' w.heap.size l.length (upv l) ∧ RowI w' (w.heap.size + 1) l.length (fun p => (wh l p : Int)) ∧ Below w.heap.size w w' := by
  obtain ⟨M, hmk, hM⟩ := mk_ints l.length hn
  have hb1 : Below w.heap.size w (w.alloc (.cells M 3)) := (Below.refl _ w).alloc (Nat.le_refl _) _
  have hb2 : Below w.heap.size w ((w.alloc (.cells M 3)).alloc (.cells M 3)) := hb1.alloc hb1.size _
  have HE := show Hid (Calls Tryz.prog 10 #[.slice ao l.length cap] ((w.alloc (.cells M 3)).alloc (.cells M 3)) fun e w' => ∃ g, e = .returned (.slice (some ⟨g, 0, none⟩) l.length l.length) ∧ ((w.alloc (.cells M 3)).alloc (.cells M 3)).heap.size ≤ g ∧ RowI w' g l.length (fun i => (endp l i : Int)) ∧ Below ((w.alloc (.cells M 3)).alloc (.cells M 3)).heap.size ((w.alloc (.cells M 3)).alloc (.cells M 3)) w') from
    ends_any ao l cap _ (h.below hb2) hn hT
  have HU : Hid (RowI ((w.alloc (.cells M 3)).alloc (.cells M 3)) w.heap.size l.length (fun _ => 0)) := (hM w).of_block (Below.heap_alloc _ _ _ (by simp))
  have HV : Hid (RowI ((w.alloc (.cells M 3)).alloc (.cells M 3)) (w.heap.size + 1) l.length (fun _ => 0)) := by
    have := hM (w.alloc (.cells M 3))
    rw [World.size_alloc] at this
    exact this
  have HB2 : Hid (Below w.heap.size w ((w.alloc (.cells M 3)).alloc (.cells M 3))) := hb2
  have hz2 : ((w.alloc (.cells M 3)).alloc (.cells M 3)).heap.size = w.heap.size + 2 := by simp
  have HZ2 : Hid (((w.alloc (.cells M 3)).alloc (.cells M 3)).heap.size = w.heap.size + 2) := hz2
  have HI : Hid (IsRz w ao l) := h
  have HN : Hid (l.length ≤ 2932031007317) := hn
  have HT : Hid (TreeZ l) := hT
  have hln : (l.length : Int) ≤ 2932031007317 := by omega
  have h0' : (0 : Int) < (l.length : Int) := by omega
  clear h hn hT hM hb1 hb2 hz2
  go_enter Tryz.func28, Tryz.ntmps28
  go_wp2_with fail
  refine HE.out.mono ?_
  rintro e w3 ⟨ge, rfl, hge, hRe, hB3⟩
  rw [HZ2.out] at hge hB3
  have hU3 := HU.out.below hB3 (by omega)
  have hV3 := HV.out.below hB3 (by omega)
  have hc := hU3.cell h0
  have hf := hU3.frozen 0
  have hP0 : Par3 w l ge 0 0 (w3.setCell ⟨w.heap.size, 0, none⟩ (.int .i64 (-1))) := by
    refine ⟨(hU3.set 0 (-1)).ext fun i _ => ?_, (hV3.other (by simp) _).ext fun i _ => ?_, hRe.other (by show ge ≠ w.heap.size; omega) _, (HB2.out.trans (hB3.mono (by omega))).setCell (p := ⟨w.heap.size, 0, none⟩) (Nat.le_refl _) _⟩
    · unfold fu
      by_cases e : i = 0
      · rw [if_pos e, if_pos e]
      · rw [if_neg e, if_neg e, if_neg (by omega)]
    · unfold fw
      by_cases e : i = 0
      · rw [if_pos e]
      · rw [if_neg e, if_neg (by omega)]
  have HP0 : Hid (Par3 w l ge 0 0 (w3.setCell ⟨w.heap.size, 0, none⟩ (.int .i64 (-1)))) := hP0
  have HGe : Hid (w.heap.size + 2 ≤ ge) := hge
  clear hRe hB3 hU3 hV3 hP0 hge hmk
  go_wp2_with fail
  go_loopg [7] l.length (fun gq x wr => ∃ i : Nat, i ≤ l.length ∧ gq = l.length - i ∧ x = .int .i64 i ∧ Par3 w l ge i 0 wr)
  case atStart => exact ⟨0, Nat.zero_le _, rfl, rfl, HP0.out⟩
  case round =>
    obtain ⟨i, hi, hgk, rfl, hP⟩ := hrel
    have HG : Hid (gk = l.length - i) := hgk
    have HP : Hid (Par3 w l ge i 0 wr) := hP
    clear hgk hP hc hf
    by_cases hlt : i < l.length
    · have hlt' : (i : Int) < (l.length : Int) := by omega
      have HKm : Hid (km l i ≤ l.length) := km_le HT.out.whole hlt
      have hkm : (km l i : Int) ≤ 2932031007317 := by have h1 := HKm.out; have h2 := HN.out; omega
      go_wp2_with fail
      go_loopg [8, 9] (km l i) (fun gq nx kk wr => ∃ k : Nat, k ≤ km l i ∧ gq = km l i - k ∧ nx = .int .i64 (kidp l i k : Int) ∧ kk = .int .i64 k ∧ Par3 w l ge i k wr)
      case atStart => exact ⟨0, Nat.zero_le _, rfl, by rw [kid_zero]; go_num, rfl, HP.out⟩
      case round =>
        obtain ⟨k, hk, hgk, rfl, rfl, hP⟩ := hrel
        have HG2 : Hid (gk = km l i - k) := hgk
        have HP2 : Hid (Par3 w l ge i k wr) := hP
        clear hgk hP
        have hkl : (kidp l i k : Int) ≤ 2932031007317 := by have h1 := kid_le HT.out.whole hlt hk; have h2 := HN.out; omega
        obtain ⟨g, o, rfl, hg, c0, c4⟩ := kids_at (HI.out.below HP2.out.b) HT.out hlt
        by_cases hlk : k < km l i
        · obtain ⟨h1, h2, h3⟩ := kid_at HT.out.whole hlt hlk
          have hlk' : (k : Int) < (km l i : Int) := by omega
          have h1' : (kidp l i k : Int) < (l.length : Int) := by omega
          have hr1 := HP2.out.u.set (kidp l i k) i
          have hr2 := HP2.out.v.other (a := ⟨w.heap.size, kidp l i k, none⟩) (by simp) (.int .i64 i)
          have hr3 := HP2.out.e.other (a := ⟨w.heap.size, kidp l i k, none⟩) (by show ge ≠ w.heap.size; have := HGe.out; omega) (.int .i64 i)
          have hs1 := hr1.other (a := ⟨w.heap.size + 1, kidp l i k, none⟩) (by simp) (.int .i64 k)
          have hs2 := hr2.set (kidp l i k) k
          have hs3 := hr3.other (a := ⟨w.heap.size + 1, kidp l i k, none⟩) (by show ge ≠ w.heap.size + 1; have := HGe.out; omega) (.int .i64 k)
          have a1 := HP2.out.u.cell h1
          have a2 := HP2.out.u.frozen (kidp l i k)
          have a3 := hr2.cell h1
          have a4 := hr2.frozen (kidp l i k)
          have a5 := hs3.cell h1
          have HP3 : Hid (Par3 w l ge i (k + 1) ((wr.setCell ⟨w.heap.size, kidp l i k, none⟩ (.int .i64 i)).setCell ⟨w.heap.size + 1, kidp l i k, none⟩ (.int .i64 k))) :=
            ⟨hs1.ext fun q hq => fu_step HT.out.whole hlt hlk q hq, hs2.ext fun q hq => fw_step HT.out.whole hlt hlk q hq, hs3, (HP2.out.b.setCell (p := ⟨w.heap.size, kidp l i k, none⟩) (Nat.le_refl _) _).setCell (p := ⟨w.heap.size + 1, kidp l i k, none⟩) (Nat.le_succ _) _⟩
          have HN2 : Hid (kidp l i (k + 1) = endp l (kidp l i k)) := h2
          have hge1 : ge < wr.heap.size := HP2.out.e.lt
          clear hr1 hr2 hr3 hs1 hs2 hs3 h1 h2 h3 hlk hk
          generalize fu l i k (kidp l i k) = y1 at a1
          generalize fw l i k (kidp l i k) = y2 at a3
          go_wp2_with fail
          go_roundg (km l i - (k + 1))
          case measure => have h1 := HG2.out; omega
          case rel => exact ⟨k + 1, by omega, rfl, by rw [HN2.out], by go_num, HP3.out⟩
        · have hlk' : ¬ ((k : Int) < (km l i : Int)) := by omega
          have hke : k = km l i := by omega
          have HP3 : Hid (Par3 w l ge (i + 1) 0 wr) := by
            obtain ⟨q1, q2, q3, q4⟩ := HP2.out
            rw [hke] at q1 q2
            exact ⟨q1.ext fun q hq => fu_done HT.out.whole hq, q2.ext fun q hq => fw_done HT.out.whole hq, q3, q4⟩
          clear hke hlk hk
          go_wp2_with fail
          go_roundg (l.length - (i + 1))
          case measure => have h1 := HG.out; omega
          case rel => exact ⟨i + 1, by omega, rfl, by go_num, HP3.out⟩
    · have hlt' : ¬ ((i : Int) < (l.length : Int)) := by omega
      have hie : i = l.length := by omega
      have HF : Hid (Par3 w l ge l.length 0 wr) := by rw [hie] at HP; exact HP
      clear hie hlt
      go_wp2_with fail
      go_ret2
      exact ⟨rfl, HF.out.u.ext fun q hq => fu_all HT.out.whole hq, HF.out.v.ext fun q hq => fw_all HT.out.whole hq, HF.out.b⟩
end Go.Proofs.YtgiilaaoeefpmaaGreat.Gr

namespace Go.Proofs.YtgiilaaoeefpmaaGreat.Gr
open Go.RowKit Go.Proofs.YtgiilaaoeefpmaaGreat.Sp Go.Proofs.YtgiilaaoeefpmaaGreat.Lx

/-- bounds of a trail behind k rows -/
def LvLe (n : Nat) (t : List Ab) : Prop := ∀ a ∈ t, 0 ≤ a.levels ∧ a.levels ≤ n
theorem lv_pop {n : Nat} {t : List Ab} (h : LvLe n t) : LvLe n (pop t) := by
  induction t with
  | nil => exact h
  | cons a t ih =>
    simp only [pop]
    split
    · exact ih fun b hb => h b (List.mem_cons_of_mem _ hb)
    · exact h
theorem lv_past {n : Nat} {t : List Ab} (h : LvLe n t) (r : Rz) (v : Int) (h0 : 0 ≤ v) (h1 : v ≤ n + 2) : LvLe (n + 2) (past t r v) := by
  refine lv_pop fun a ha => ?_
  rcases List.mem_cons.1 ha with rfl | ha
  · exact ⟨h0, h1⟩
  · cases t with
    | nil => cases ha
    | cons b t =>
      rcases List.mem_cons.1 ha with rfl | ha
      · have := h b (List.mem_cons_self ..); exact ⟨this.1, by show b.levels ≤ _; omega⟩
      · have := h a (List.mem_cons_of_mem _ ha); omega
theorem opn_two (k : Int) : 0 ≤ opn k ∧ opn k ≤ 1 := by unfold opn; split <;> simp
def Fits (l : List Rz) (k : Nat) : Prop := (ast opn loose l k).length ≤ k ∧ SeenLe k (ast opn loose l k) ∧ LvLe (2 * k) (ast opn loose l k) ∧ 0 ≤ mx opn loose l k ∧ mx opn loose l k ≤ 2 * k
theorem top_lv {n : Nat} {t : List Ab} (h : LvLe n t) : 0 ≤ (top t).levels ∧ (top t).levels ≤ n := by
  cases t with
  | nil => exact ⟨Int.le_refl _, by show (0 : Int) ≤ _; omega⟩
  | cons a t => exact h a (List.mem_cons_self ..)
theorem lev_le {l : List Rz} {k : Nat} (h : Fits l k) : 0 ≤ lev opn loose l k ∧ lev opn loose l k ≤ 2 * k + 2 := by
  have h1 := top_lv h.2.2.1
  have h2 := opn_two (rat l k).kind
  show 0 ≤ (top (ast opn loose l k)).levels + opn (rat l k).kind + _ ∧ (top (ast opn loose l k)).levels + opn (rat l k).kind + _ ≤ _
  split <;> omega
theorem fits_zero (l : List Rz) : Fits l 0 := ⟨Nat.le_refl _, fun _ h => (by cases h), fun _ h => (by cases h), Int.le_refl _, (by show (0 : Int) ≤ _; omega)⟩
theorem fits_succ (l : List Rz) {k : Nat} (h : Fits l k) : Fits l (k + 1) := by
  have h1 := lev_le h
  obtain ⟨a1, a2, a3, a4, a5⟩ := h
  refine ⟨?_, seen_past a2 _ _, ?_, ?_⟩
  · have := past_len (ast opn loose l k) (rat l k) (lvl opn loose (ast opn loose l k) (rat l k))
    show (past _ _ _).length ≤ _
    omega
  · have := lv_past a3 (rat l k) (lev opn loose l k) h1.1 (by omega)
    rw [show 2 * (k + 1) = 2 * k + 2 by omega]
    exact this
  · show 0 ≤ (if mx opn loose l k < lev opn loose l k then lev opn loose l k else mx opn loose l k) ∧ (if mx opn loose l k < lev opn loose l k then lev opn loose l k else mx opn loose l k) ≤ _
    split <;> omega
theorem mx_succ (l : List Rz) (k : Nat) : mx opn loose l (k + 1) = if mx opn loose l k < lev opn loose l k then lev opn loose l k else mx opn loose l k := rfl
theorem ast_succ (l : List Rz) (k : Nat) : ast opn loose l (k + 1) = past (ast opn loose l k) (rat l k) (lev opn loose l k) := rfl
theorem lev_max (a b : Int) : Value.int .i64 (max a b) = Value.int .i64 (if a < b then b else a) := by
  congr 1
  split <;> omega

end Go.Proofs.YtgiilaaoeefpmaaGreat.Gr

namespace Go.Proofs.YtgiilaaoeefpmaaGreat.Gr
open Go.RowKit Go.Proofs.YtgiilaaoeefpmaaGreat.Sp Go.Proofs.YtgiilaaoeefpmaaGreat.Lx

theorem fits_all (l : List Rz) (k : Nat) : Fits l k := by
  induction k with
  | zero => exact fits_zero l
  | succ k ih => exact fits_succ l ih
def lev0 (l : List Rz) (i : Nat) : Int := if i = 0 then 0 else lev opn loose l (up l i) + if loose (rat l (up l i)).kind (wh l i) (rat l i).kind then 1 else 0
theorem lev_parts {l : List Rz} (h : Whole l) {i : Nat} (hi : i < l.length) : lev opn loose l i = lev0 l i + opn (rat l i).kind := by
  unfold lev0
  by_cases h0 : i = 0
  · subst h0
    rw [if_pos rfl, lev_zero]
    have : loose 0 0 (rat l 0).kind = false := by unfold loose; rw [if_pos (by decide)]
    rw [this]
    simp
  · rw [if_neg h0, lev_up opn loose h (by omega) hi]
    omega
structure Lev3 (w0 : World) (l : List Rz) (go i : Nat) (wr : World) : Prop where
  u : RowI wr w0.heap.size l.length (upv l)
  v : RowI wr (w0.heap.size + 1) l.length (fun p => (wh l p : Int))
  d : RowI wr go l.length (fun p => if p < i then lev opn loose l p else 0)
  b : Below w0.heap.size w0 wr
theorem Lev3.below {w0 : World} {l : List Rz} {go i : Nat} {wr wx : World} (h : Lev3 w0 l go i wr) (hb : Below wr.heap.size wr wx) : Lev3 w0 l go i wx :=
  ⟨h.u.below hb h.u.lt, h.v.below hb h.v.lt, h.d.below hb h.d.lt, h.b.trans (hb.mono h.b.size)⟩

set_option maxHeartbeats 12800000 in
set_option maxRecDepth 100000 in
theorem refLevels_any (ao : Option Addr) (l : List Rz) (cap : Nat) (w : World) (h : IsRz w ao l) (hn : l.length ≤ 2932031007317) (hT : TreeZ l) (h0 : 0 < l.length) :
    Calls Tryz.prog 16 #[.slice ao l.length cap] w fun e w' => e = .returned (.int .i64 (mx opn loose l l.length)) ∧ Below w.heap.size w w' := by
  obtain ⟨M, hmk, hM⟩ := mk_ints l.length hn
  have HM : Hid (∀ u : World, RowI (u.alloc (.cells M 3)) u.heap.size l.length (fun _ => 0)) := hM
  have HN : Hid (l.length ≤ 2932031007317) := hn
  have HT : Hid (TreeZ l) := hT
  have HI : Hid (IsRz w ao l) := h
  have HP := show Hid (Calls Tryz.prog 28 #[.slice ao l.length cap] w fun e w' => e = .returned (.tuple #[.slice (some ⟨w.heap.size, 0, none⟩) l.length l.length, .slice (some ⟨w.heap.size + 1, 0, none⟩) l.length l.length]) ∧
      RowI w' w.heap.size l.length (upv l) ∧ RowI w' (w.heap.size + 1) l.length (fun p => (wh l p : Int)) ∧ Below w.heap.size w w') from parents_any ao l cap w h hn hT h0
  have hln : (l.length : Int) ≤ 2932031007317 := by omega
  clear h hn hT hM
  go_enter Tryz.func16, Tryz.ntmps16
  go_wp2_with fail
  refine HP.out.mono ?_
  rintro e w1 ⟨rfl, hU, hV, hB⟩
  have hD : Lev3 w l w1.heap.size 0 (w1.alloc (.cells M 3)) :=
    ⟨hU.of_block (Below.heap_alloc _ _ _ hU.lt), hV.of_block (Below.heap_alloc _ _ _ hV.lt), (HM.out w1).ext fun i _ => by rw [if_neg (by omega)], hB.alloc hB.size _⟩
  have HD : Hid (Lev3 w l w1.heap.size 0 (w1.alloc (.cells M 3))) := hD
  have HB1 : Hid (w.heap.size + 1 < w1.heap.size) := hV.lt
  clear hU hV hB hD
  go_wp2_with fail
  generalize w1.heap.size = gd at *
  go_loopg [6, 7] l.length (fun gq mo x wr => ∃ i : Nat, i ≤ l.length ∧ gq = l.length - i ∧ mo = .int .i64 (mx opn loose l i) ∧ x = .int .i64 i ∧ Lev3 w l gd i wr)
  case atStart => exact ⟨0, Nat.zero_le _, rfl, rfl, rfl, HD.out⟩
  case round =>
    obtain ⟨i, hi, hgk, rfl, rfl, hP⟩ := hrel
    have HG : Hid (gk = l.length - i) := hgk
    have HP2 : Hid (Lev3 w l gd i wr) := hP
    clear hgk hP hmk
    by_cases hlt : i < l.length
    · have hlt' : (i : Int) < (l.length : Int) := by omega
      have HL : Hid (lev opn loose l i = lev0 l i + opn (rat l i).kind ∧ 0 ≤ lev opn loose l i ∧ lev opn loose l i ≤ 2 * i + 2) := ⟨lev_parts HT.out.whole hlt, lev_le (fits_all l i)⟩
      have a1 := HP2.out.u.cell hlt
      obtain ⟨g, o, rfl, hg, c0, _⟩ := kids_at (HI.out.below HP2.out.b) HT.out hlt
      go_upto_if 27 with fail
      go_cut [8] (fun c wx => c = .int .i64 (lev0 l i) ∧ Below wr.heap.size wr wx)
      case first =>
        by_cases hi0 : i = 0
        · subst hi0
          unfold upv at a1
          rw [if_pos rfl] at a1
          go_wp2_with fail
          go_meet
          exact ⟨rfl, Below.refl _ _⟩
        · have hq : (0 : Int) ≤ upv l i := by unfold upv; rw [if_neg hi0]; omega
          unfold upv at a1
          rw [if_neg hi0] at a1
          have hup := (up_at HT.out.whole (Nat.pos_of_ne_zero hi0) hlt).2.2.1
          have hul : up l i < l.length := by omega
          have hul' : (up l i : Int) < (l.length : Int) := by omega
          have hu0 : (0 : Int) ≤ (up l i : Int) := by omega
          have a2 := HP2.out.d.cell hul
          rw [if_pos hup] at a2
          have a3 := HP2.out.v.cell hlt
          obtain ⟨g', o', he, _, c1, _⟩ := kids_at (HI.out.below HP2.out.b) HT.out hul
          cases he
          have y1 : ∀ y : Kin wr, y.u.cell? ⟨w.heap.size, i, none⟩ = some (.int .i64 (up l i : Int)) := fun y => y.cell (a := ⟨w.heap.size, i, none⟩) HP2.out.u.lt a1
          have y2 : ∀ y : Kin wr, y.u.cell? ⟨g, o + up l i * 5, none⟩ = some (.int .i64 (rat l (up l i)).kind) := fun y => y.cell (a := ⟨g, o + up l i * 5, none⟩) hg c1
          have y3 : ∀ y : Kin wr, y.u.cell? ⟨w.heap.size + 1, i, none⟩ = some (.int .i64 (wh l i : Int)) := fun y => y.cell (a := ⟨w.heap.size + 1, i, none⟩) HP2.out.v.lt a3
          have y4 : ∀ y : Kin wr, y.u.cell? ⟨g, o + i * 5, none⟩ = some (.int .i64 (rat l i).kind) := fun y => y.cell (a := ⟨g, o + i * 5, none⟩) hg c0
          have hne : Nonempty (Kin wr) := Kin.there _
          have HLo : Hid (∀ w, Calls Tryz.prog 29 #[.int .i64 (rat l (up l i)).kind, .int .i64 (wh l i : Int), .int .i64 (rat l i).kind] w fun e w' => e = .returned (.bool (loose (rat l (up l i)).kind (wh l i) (rat l i).kind)) ∧ w' = w) := fun w => refLoose_any _ _ _ w
          have HL0 : Hid (lev0 l i = lev opn loose l (up l i) + if loose (rat l (up l i)).kind (wh l i) (rat l i).kind then 1 else 0) := by show _ = _; unfold lev0; rw [if_neg hi0]
          have hlu : 0 ≤ lev opn loose l (up l i) ∧ lev opn loose l (up l i) ≤ 5864062014640 := by have h1 := lev_le (fits_all l (up l i)); have h2 := HN.out; omega
          clear hup hul hi0 c0 c1
          generalize loose (rat l (up l i)).kind (wh l i) (rat l i).kind = lb at *
          generalize lev opn loose l (up l i) = lu at *
          generalize (rat l (up l i)).kind = ku at *
          generalize (rat l i).kind = ki at *
          go_wp2_with fail
          refine wp_region_kin (by kernel_rfl) (by kernel_rfl) ?_
          iterate 17 quiet_step (fail)
          iterate 1 quiet_step (exact kin_same (HLo.out _))
          refine wpQuiet_nil ?_
          rintro _ ⟨z, rfl⟩
          have HZ : Hid (Below wr.heap.size wr z.u) := z.ok
          generalize z.u = wz at *
          clear y1 y2 y3 y4 hne a1 a2 a3
          cases lb
          all_goals go_wp2_with fail
          all_goals go_meet
          all_goals exact ⟨by rw [HL0.out]; simp, HZ.out⟩
      case rest =>
        obtain ⟨rfl, hBc⟩ := hcut
        have HP3 : Hid (Lev3 w l gd i wc) := HP2.out.below hBc
        have d0 : wc.cell? ⟨g, o + i * 5, none⟩ = some (.int .i64 (rat l i).kind) := (hBc.cell (p := ⟨g, o + i * 5, none⟩) hg).trans c0
        have hb0 : 0 ≤ lev0 l i ∧ lev0 l i ≤ 5864062014640 := by
          have h1 := HL.out
          have h2 := opn_two (rat l i).kind
          have h3 := HN.out
          have h4 : 0 ≤ lev0 l i := by
            unfold lev0
            split
            · exact Int.le_refl _
            · have h5 := lev_le (fits_all l (up l i)); split <;> omega
          omega
        have HKo : Hid (opn (rat l i).kind = if (rat l i).kind = 1 ∨ (rat l i).kind = 11 ∨ (rat l i).kind = 26 ∨ (rat l i).kind = 38 ∨ (rat l i).kind = 39 ∨ (rat l i).kind = 40 ∨ (rat l i).kind = 41 ∨ (rat l i).kind = 42 ∨ (rat l i).kind = 31 ∨ (rat l i).kind = 32 ∨ (rat l i).kind = 35 ∨ (rat l i).kind = 36 ∨ (rat l i).kind = 37 then 1 else 0) := rfl
        clear hBc a1 c0
        generalize (rat l i).kind = ki at *
        generalize opn ki = ok at *
        generalize lev0 l i = l0 at *
        go_upto_block 2 with fail
        go_cut [8] (fun c wx => c = .int .i64 (lev opn loose l i) ∧ wx = wc)
        case first =>
          go_wp2_with fail
          all_goals go_meet
          all_goals refine ⟨?_, rfl⟩
          all_goals rw [HL.out.1, HKo.out]
          all_goals simp only [beq_iff_eq, beq_eq_false_iff_ne, ne_eq] at *
          all_goals simp [*]
        case rest =>
          obtain ⟨rfl, hw⟩ := hcut
          subst hw
          have HL2 : Hid (0 ≤ lev opn loose l i ∧ lev opn loose l i ≤ 2 * i + 2) := HL.out.2
          have HM2 : Hid (mx opn loose l (i + 1) = if mx opn loose l i < lev opn loose l i then lev opn loose l i else mx opn loose l i) := rfl
          have HS : Hid (Lev3 w l gd (i + 1) (wc.setCell ⟨gd, i, none⟩ (.int .i64 (lev opn loose l i)))) := by
            refine ⟨HP3.out.u.other (by show w.heap.size ≠ gd; have := HB1.out; omega) _, HP3.out.v.other (by show w.heap.size + 1 ≠ gd; have := HB1.out; omega) _, (HP3.out.d.set i _).ext fun q hq => ?_, HP3.out.b.setCell (p := ⟨gd, i, none⟩) (by have := HB1.out; show w.heap.size ≤ gd; omega) _⟩
            by_cases e : q = i
            · subst e
              rw [if_pos rfl, if_pos (by omega)]
            · rw [if_neg e]
              by_cases e2 : q < i
              · rw [if_pos e2, if_pos (by omega)]
              · rw [if_neg e2, if_neg (by omega)]
          have a3 := HP3.out.d.cell hlt
          have a4 := HP3.out.d.frozen i
          generalize (if i < i then lev opn loose l i else 0) = y at a3
          clear HL HKo hb0 d0
          generalize lev opn loose l i = lv at *
          generalize mx opn loose l i = mo at *
          clear hlt
          by_cases hm : mo < lv
          · rw [if_pos hm] at HM2
            go_wp2_with fail
            go_roundg (l.length - (i + 1))
            case measure => have h1 := HG.out; omega
            case rel => exact ⟨i + 1, by omega, rfl, by rw [HM2.out], by go_num, HS.out⟩
          · rw [if_neg hm] at HM2
            go_wp2_with fail
            go_roundg (l.length - (i + 1))
            case measure => have h1 := HG.out; omega
            case rel => exact ⟨i + 1, by omega, rfl, by rw [HM2.out], by go_num, HS.out⟩
    · have hlt' : ¬ ((i : Int) < (l.length : Int)) := by omega
      have hie : i = l.length := by omega
      have HB9 : Hid (Below w.heap.size w wr) := HP2.out.b
      clear hlt
      subst hie
      go_wp2_with fail
      go_ret
      exact ⟨rfl, HB9.out⟩
end Go.Proofs.YtgiilaaoeefpmaaGreat.Gr

namespace Go.Proofs.YtgiilaaoeefpmaaGreat.Gr
open Go.RowKit Go.Proofs.YtgiilaaoeefpmaaGreat.Sp Go.Proofs.YtgiilaaoeefpmaaGreat.Lx

set_option maxHeartbeats 12800000 in
set_option maxRecDepth 100000 in
theorem levels_any (ao : Option Addr) (l : List Rz) (cap : Nat) (w : World) (h : IsRz w ao l) (hn : l.length ≤ 2932031007317) :
    Calls Tryz.prog 15 #[.slice ao l.length cap] w fun e w' => e = .returned (.int .i64 (mx opn loose l l.length)) ∧ Below w.heap.size w w' := by
  have HI : Hid (IsRz w ao l) := h
  have HN : Hid (l.length ≤ 2932031007317) := hn
  have hln : (l.length : Int) ≤ 2932031007317 := by omega
  clear h hn
  go_enter Tryz.func15, Tryz.ntmps15
  go_wp2_with fail
  go_loopg [3, 4, 11] l.length (fun gq mo x i wr => ∃ (k : Nat) (v : Value), v = x ∧ mo = .int .i64 (mx opn loose l k) ∧ i = .int .i64 k ∧ gq = l.length - k ∧ k ≤ l.length ∧ OwnT wr w.heap.size v (ast opn loose l k) ∧ Below w.heap.size w wr ∧ Fits l k)
  case atStart => exact ⟨0, _, rfl, rfl, rfl, rfl, Nat.zero_le _, World.ownsRow_nil _ _ _ _, Below.refl _ _, fits_zero l⟩
  case round =>
    obtain ⟨k, v, rfl, rfl, rfl, hgk, hk, hOw, hBr, hft⟩ := hrel
    have HG : Hid (gk = l.length - k) := hgk
    have HOr : Hid (OwnT wr w.heap.size v (ast opn loose l k)) := hOw
    have HBr : Hid (Below w.heap.size w wr) := hBr
    have HFt : Hid (Fits l k) := hft
    clear hgk hOw hBr hft
    by_cases hlt : k < l.length
    · have hlt' : (k : Int) < (l.length : Int) := by omega
      obtain ⟨r, g, o, hdr, hlk, rfl, hg, c0, c1, c2, c3, c4⟩ := rows_at (HI.out.below HBr.out) hlt
      have HRt : Hid (rat l k = r) := rat_some hlk
      have HB1 : Hid (Below wr.heap.size wr (wr.alloc (.cells #[.int .i64 r.kind, .string r.name, .int .i64 r.stop, .int .i64 r.n, .int .i64 r.kids] 46))) := (Below.refl _ wr).alloc (Nat.le_refl _) _
      have HPst : Hid (∀ (lv : Int) (W : World), Below wr.heap.size wr W → Calls Tryz.prog 27 #[v, .agg #[.int .i64 r.kind, .string r.name, .int .i64 r.stop, .int .i64 r.n, .int .i64 r.kids], .int .i64 lv] W fun e w' => ∃ v', e = .returned v' ∧ OwnT w' w.heap.size v' (past (ast opn loose l k) r lv) ∧ Went W v w' v') := fun lv W hW =>
        past_any (ast opn loose l k) r lv w.heap.size v W (own_below HOr.out hW) (Nat.le_trans HBr.out.size hW.size) (fun a ha => by have h1 := HFt.out.2.1 a ha; have h2 := HN.out; omega) (by have h1 := HFt.out.1; have h2 := HN.out; omega)
      have HV : Hid (∀ j, v.ownBlock = some j → w.heap.size ≤ j) := fun j hj => (World.ownsRow.lt HOr.out j hj).1
      obtain ⟨a, hta⟩ : ∃ a, top (ast opn loose l k) = a := ⟨_, rfl⟩
      have HTp : Hid (top (ast opn loose l k) = a) := hta
      have hal := top_lv HFt.out.2.2.1
      rw [hta] at hal
      have hop := opn_two r.kind
      have hb1 : 0 ≤ a.levels + opn r.kind ∧ a.levels + opn r.kind ≤ 5864062014640 := by have := HN.out; omega
      have HLs : Hid (∀ W, Below wr.heap.size wr W → Calls Tryz.prog 25 #[v] W fun e w' => e = .returned (.agg #[.int .i64 a.kind, .int .i64 a.kids, .int .i64 a.seen, .int .i64 a.kid, .int .i64 a.levels]) ∧ Below W.heap.size W w') := fun W hW => by
        have := last_any (ast opn loose l k) w.heap.size v W (own_below HOr.out hW) (by have h1 := HFt.out.1; have h2 := HN.out; omega)
        rw [hta] at this
        exact this
      have hb2 : a.levels + opn r.kind + 1 ≤ 5864062014641 := by omega
      clear hta hdr hlk hlt hop hal
      obtain ⟨bo, bc, rfl⟩ := own_form HOr.out
      go_wp2_with fail
      cases hlz : loose a.kind a.seen r.kind
      · skip
        have HLz : Hid (∀ w, Calls Tryz.prog 22 #[.int .i64 a.kind, .int .i64 a.seen, .int .i64 r.kind] w fun e w' => e = .returned (.bool false) ∧ w' = w) := fun w => by
          have := loose_any a.kind a.seen r.kind w
          rw [hlz] at this
          exact this
        have HE : Hid (lev opn loose l k = (a.levels + opn r.kind)) := by
          show lvl opn loose (ast opn loose l k) (rat l k) = _
          rw [HRt.out]
          show (top (ast opn loose l k)).levels + opn r.kind + (if loose (top (ast opn loose l k)).kind (top (ast opn loose l k)).seen r.kind then 1 else 0) = _
          rw [HTp.out, hlz]
          simp
        clear hlz
        refine (HLs.out _ HB1.out).mono ?_
        rintro e w2 ⟨rfl, hB2⟩
        have hB3 : Below wr.heap.size wr w2 := HB1.out.trans (hB2.mono HB1.out.size)
        have hz2 : wr.heap.size + 1 ≤ w2.heap.size := by have := hB2.size; simpa using this
        have HB4 : Hid (Below wr.heap.size wr (w2.alloc (.cells #[.int .i64 a.kind, .int .i64 a.kids, .int .i64 a.seen, .int .i64 a.kid, .int .i64 a.levels] 53))) := hB3.alloc hB3.size _
        have hne : Nonempty (Kin (w2.alloc (.cells #[.int .i64 a.kind, .int .i64 a.kids, .int .i64 a.seen, .int .i64 a.kid, .int .i64 a.levels] 53))) := Kin.there _
        have hcr : ∀ j u, ([.int .i64 r.kind, .string r.name, .int .i64 r.stop, .int .i64 r.n, .int .i64 r.kids] : List Value)[j]? = some u → ∀ y : Kin (w2.alloc (.cells #[.int .i64 a.kind, .int .i64 a.kids, .int .i64 a.seen, .int .i64 a.kid, .int .i64 a.levels] 53)), y.u.cell? ⟨wr.heap.size, j, none⟩ = some u := fun j u hu y =>
          y.cell (a := ⟨wr.heap.size, j, none⟩) (by simp; omega) ((World.cell?_of_block (a := ⟨wr.heap.size, j, none⟩) (Below.heap_alloc _ _ _ (by show wr.heap.size < _; omega))).trans ((hB2.cell (p := ⟨wr.heap.size, j, none⟩) (by simp)).trans (by rw [World.cell?, heap_alloc_new]; simpa using hu)))
        have hca : ∀ j u, ([.int .i64 a.kind, .int .i64 a.kids, .int .i64 a.seen, .int .i64 a.kid, .int .i64 a.levels] : List Value)[j]? = some u → ∀ y : Kin (w2.alloc (.cells #[.int .i64 a.kind, .int .i64 a.kids, .int .i64 a.seen, .int .i64 a.kid, .int .i64 a.levels] 53)), y.u.cell? ⟨w2.heap.size, j, none⟩ = some u := fun j u hu y =>
          y.cell (a := ⟨w2.heap.size, j, none⟩) (by simp) (by rw [World.cell?, heap_alloc_new]; simpa using hu)
        have y0 := hcr 0 _ rfl
        have y1 := hcr 1 _ rfl
        have y2 := hcr 2 _ rfl
        have y3 := hcr 3 _ rfl
        have y4 := hcr 4 _ rfl
        have x0 := hca 0 _ rfl
        have x2 := hca 2 _ rfl
        have x4 := hca 4 _ rfl
        have HOP : Hid (∀ w, Calls Tryz.prog 26 #[.int .i64 r.kind] w fun e w' => e = .returned (.int .i64 (opn r.kind)) ∧ w' = w) := fun w => opn_any r.kind w
        clear hcr hca hB2 hB3
        go_wp2_with fail
        refine wp_region_kin (by kernel_rfl) (by kernel_rfl) ?_
        iterate 5 quiet_step (exact kin_same (HOP.out _))
        iterate 2 quiet_step (fail)
        refine wpQuiet_nil ?_
        rintro _ ⟨z, rfl⟩
        have HZ : Hid (Below wr.heap.size wr z.u) := HB4.out.trans (z.ok.mono HB4.out.size)
        have z0 := y0 z
        have z1 := y1 z
        have z2 := y2 z
        have z3 := y3 z
        have z4 := y4 z
        have t0 := x0 z
        have t2 := x2 z
        clear y0 y1 y2 y3 y4 x0 x2 x4 hne
        generalize z.u = wz at *
        go_wp2_with fail
        refine (HLz.out wz).mono ?_
        intro e w' hh
        obtain ⟨rfl, hw⟩ := hh
        rw [hw]
        clear hw w'
        go_wp2_with fail
        refine (HPst.out (a.levels + opn r.kind) wz HZ.out).mono ?_
        rintro e w8 ⟨v8, rfl, hO8, hW8⟩
        have HO8 : Hid (OwnT w8 w.heap.size v8 (past (ast opn loose l k) r (a.levels + opn r.kind))) := hO8
        have HB8 : Hid (Below w.heap.size w w8) := (HBr.out.trans (HZ.out.mono HBr.out.size)).trans (hW8.low HV.out (Nat.le_trans HBr.out.size HZ.out.size))
        obtain ⟨bo8, bc8, rfl⟩ := own_form hO8
        clear hO8 hW8
        go_wp2_with fail
        go_roundg (l.length - (k + 1))
        case measure => have := HG.out; omega
        case rel =>
          have q1 : Value.int .i64 (max (mx opn loose l k) (a.levels + opn r.kind)) = Value.int .i64 (mx opn loose l (k + 1)) := by rw [mx_succ, HE.out]; exact lev_max _ _
          have q2 : OwnT w8 w.heap.size (.slice bo8 (past (ast opn loose l k) r (a.levels + opn r.kind)).length bc8) (ast opn loose l (k + 1)) := by rw [ast_succ, HE.out, HRt.out]; exact HO8.out
          have q3 : Fits l (k + 1) := fits_succ l HFt.out
          exact ⟨k + 1, _, rfl, q1, by go_num, rfl, by omega, q2, HB8.out, q3⟩
      · skip
        have HLz : Hid (∀ w, Calls Tryz.prog 22 #[.int .i64 a.kind, .int .i64 a.seen, .int .i64 r.kind] w fun e w' => e = .returned (.bool true) ∧ w' = w) := fun w => by
          have := loose_any a.kind a.seen r.kind w
          rw [hlz] at this
          exact this
        have HE : Hid (lev opn loose l k = (a.levels + opn r.kind + 1)) := by
          show lvl opn loose (ast opn loose l k) (rat l k) = _
          rw [HRt.out]
          show (top (ast opn loose l k)).levels + opn r.kind + (if loose (top (ast opn loose l k)).kind (top (ast opn loose l k)).seen r.kind then 1 else 0) = _
          rw [HTp.out, hlz]
          simp
        clear hlz
        refine (HLs.out _ HB1.out).mono ?_
        rintro e w2 ⟨rfl, hB2⟩
        have hB3 : Below wr.heap.size wr w2 := HB1.out.trans (hB2.mono HB1.out.size)
        have hz2 : wr.heap.size + 1 ≤ w2.heap.size := by have := hB2.size; simpa using this
        have HB4 : Hid (Below wr.heap.size wr (w2.alloc (.cells #[.int .i64 a.kind, .int .i64 a.kids, .int .i64 a.seen, .int .i64 a.kid, .int .i64 a.levels] 53))) := hB3.alloc hB3.size _
        have hne : Nonempty (Kin (w2.alloc (.cells #[.int .i64 a.kind, .int .i64 a.kids, .int .i64 a.seen, .int .i64 a.kid, .int .i64 a.levels] 53))) := Kin.there _
        have hcr : ∀ j u, ([.int .i64 r.kind, .string r.name, .int .i64 r.stop, .int .i64 r.n, .int .i64 r.kids] : List Value)[j]? = some u → ∀ y : Kin (w2.alloc (.cells #[.int .i64 a.kind, .int .i64 a.kids, .int .i64 a.seen, .int .i64 a.kid, .int .i64 a.levels] 53)), y.u.cell? ⟨wr.heap.size, j, none⟩ = some u := fun j u hu y =>
          y.cell (a := ⟨wr.heap.size, j, none⟩) (by simp; omega) ((World.cell?_of_block (a := ⟨wr.heap.size, j, none⟩) (Below.heap_alloc _ _ _ (by show wr.heap.size < _; omega))).trans ((hB2.cell (p := ⟨wr.heap.size, j, none⟩) (by simp)).trans (by rw [World.cell?, heap_alloc_new]; simpa using hu)))
        have hca : ∀ j u, ([.int .i64 a.kind, .int .i64 a.kids, .int .i64 a.seen, .int .i64 a.kid, .int .i64 a.levels] : List Value)[j]? = some u → ∀ y : Kin (w2.alloc (.cells #[.int .i64 a.kind, .int .i64 a.kids, .int .i64 a.seen, .int .i64 a.kid, .int .i64 a.levels] 53)), y.u.cell? ⟨w2.heap.size, j, none⟩ = some u := fun j u hu y =>
          y.cell (a := ⟨w2.heap.size, j, none⟩) (by simp) (by rw [World.cell?, heap_alloc_new]; simpa using hu)
        have y0 := hcr 0 _ rfl
        have y1 := hcr 1 _ rfl
        have y2 := hcr 2 _ rfl
        have y3 := hcr 3 _ rfl
        have y4 := hcr 4 _ rfl
        have x0 := hca 0 _ rfl
        have x2 := hca 2 _ rfl
        have x4 := hca 4 _ rfl
        have HOP : Hid (∀ w, Calls Tryz.prog 26 #[.int .i64 r.kind] w fun e w' => e = .returned (.int .i64 (opn r.kind)) ∧ w' = w) := fun w => opn_any r.kind w
        clear hcr hca hB2 hB3
        go_wp2_with fail
        refine wp_region_kin (by kernel_rfl) (by kernel_rfl) ?_
        iterate 5 quiet_step (exact kin_same (HOP.out _))
        iterate 2 quiet_step (fail)
        refine wpQuiet_nil ?_
        rintro _ ⟨z, rfl⟩
        have HZ : Hid (Below wr.heap.size wr z.u) := HB4.out.trans (z.ok.mono HB4.out.size)
        have z0 := y0 z
        have z1 := y1 z
        have z2 := y2 z
        have z3 := y3 z
        have z4 := y4 z
        have t0 := x0 z
        have t2 := x2 z
        clear y0 y1 y2 y3 y4 x0 x2 x4 hne
        generalize z.u = wz at *
        go_wp2_with fail
        refine (HLz.out wz).mono ?_
        intro e w' hh
        obtain ⟨rfl, hw⟩ := hh
        rw [hw]
        clear hw w'
        go_wp2_with fail
        refine (HPst.out (a.levels + opn r.kind + 1) wz HZ.out).mono ?_
        rintro e w8 ⟨v8, rfl, hO8, hW8⟩
        have HO8 : Hid (OwnT w8 w.heap.size v8 (past (ast opn loose l k) r (a.levels + opn r.kind + 1))) := hO8
        have HB8 : Hid (Below w.heap.size w w8) := (HBr.out.trans (HZ.out.mono HBr.out.size)).trans (hW8.low HV.out (Nat.le_trans HBr.out.size HZ.out.size))
        obtain ⟨bo8, bc8, rfl⟩ := own_form hO8
        clear hO8 hW8
        go_wp2_with fail
        go_roundg (l.length - (k + 1))
        case measure => have := HG.out; omega
        case rel =>
          have q1 : Value.int .i64 (max (mx opn loose l k) (a.levels + opn r.kind + 1)) = Value.int .i64 (mx opn loose l (k + 1)) := by rw [mx_succ, HE.out]; exact lev_max _ _
          have q2 : OwnT w8 w.heap.size (.slice bo8 (past (ast opn loose l k) r (a.levels + opn r.kind + 1)).length bc8) (ast opn loose l (k + 1)) := by rw [ast_succ, HE.out, HRt.out]; exact HO8.out
          have q3 : Fits l (k + 1) := fits_succ l HFt.out
          exact ⟨k + 1, _, rfl, q1, by go_num, rfl, by omega, q2, HB8.out, q3⟩
    · have hlt' : ¬ ((k : Int) < (l.length : Int)) := by omega
      have hke : k = l.length := by omega
      subst hke
      go_wp2_with fail
      go_ret
      exact ⟨rfl, HBr.out⟩
end Go.Proofs.YtgiilaaoeefpmaaGreat.Gr

namespace Go.Proofs.YtgiilaaoeefpmaaGreat.Gr
open Go.RowKit Go.Proofs.YtgiilaaoeefpmaaGreat.Sp Go.Proofs.YtgiilaaoeefpmaaGreat.Lx

/-- rows that are missing yet -/
def Mis (l : List Rz) (E m j : Nat) : Prop := ∃ x, sz (l.drop j) m = some x ∧ E = j + x
theorem mis_start {l : List Rz} (h : Whole l) {i : Nat} (hi : i < l.length) : Mis l (endp l i) 1 i := by
  obtain ⟨x, h1, h2, h3⟩ := one_at h hi
  exact ⟨x + 1, h2, by unfold endp; rw [h2]; rfl⟩
theorem mis_step {l : List Rz} {E m j : Nat} (h : Mis l E (m + 1) j) : j < l.length ∧ Mis l E (m + km l j) (j + 1) := by
  obtain ⟨x, h1, h2⟩ := h
  have h3 := sz_pos (by omega) h1
  rw [List.length_drop] at h3
  have hj : j < l.length := by omega
  obtain ⟨r, _, h5, h6⟩ := drop_at hj
  rw [h5] at h1
  obtain ⟨h7, h8⟩ := sz_cons (by omega) h1
  refine ⟨hj, x - 1, ?_, by omega⟩
  rw [h6, ← h8]
  congr 1
theorem mis_done {l : List Rz} {E j : Nat} (h : Mis l E 0 j) : E = j := by
  obtain ⟨x, h1, h2⟩ := h
  rw [sz_zero] at h1
  have := Option.some.inj h1
  omega
theorem mis_le : ∀ (l' : List Rz) (m x : Nat), sz l' m = some x → m ≤ l'.length := by
  intro l'
  induction l' with
  | nil => intro m x h; simp only [sz] at h; split at h <;> simp_all
  | cons r t ih =>
    intro m x h
    by_cases hm : m = 0
    · omega
    · have := ih _ _ (sz_cons (by omega) h).2
      simp only [List.length_cons]; omega

set_option maxHeartbeats 3200000 in
set_option maxRecDepth 100000 in
theorem end_any (ao : Option Addr) (l : List Rz) (cap i : Nat) (w : World) (h : IsRz w ao l) (hn : l.length ≤ 2932031007317) (hT : TreeZ l) (hi : i < l.length) :
    Calls Tryz.prog 11 #[.slice ao l.length cap, .int .i64 i] w fun e w' => e = .returned (.int .i64 (endp l i : Nat)) ∧ w' = w := by
  have HI : Hid (IsRz w ao l) := h
  have HT : Hid (TreeZ l) := hT
  have HN : Hid (l.length ≤ 2932031007317) := hn
  have HM : Hid (Mis l (endp l i) 1 i) := mis_start hT.whole hi
  have hln : (l.length : Int) ≤ 2932031007317 := by omega
  have hi2 : (i : Int) ≤ 2932031007317 := by omega
  clear h hn hT
  go_enter Tryz.func11, Tryz.ntmps11
  go_wp2_with fail
  go_loopg [1, 5] (l.length - i) (fun gq x y wr => ∃ j m : Nat, j ≤ l.length ∧ gq = l.length - j ∧ x = .int .i64 j ∧ y = .int .i64 m ∧ Mis l (endp l i) m j ∧ wr = w)
  case atStart => exact ⟨i, 1, by omega, rfl, rfl, rfl, HM.out, rfl⟩
  case round =>
    obtain ⟨j, m, hj, hgk, rfl, rfl, hMs, hw⟩ := hrel
    have HG : Hid (gk = l.length - j) := hgk
    have HMs : Hid (Mis l (endp l i) m j) := hMs
    rw [hw]
    clear hgk hMs hw
    have hj2 : (j : Int) ≤ 2932031007317 := by omega
    have hm2 : (m : Int) ≤ 2932031007317 := by
      obtain ⟨x, h1, _⟩ := HMs.out
      have := mis_le _ _ _ h1
      rw [List.length_drop] at this
      omega
    cases m with
    | zero =>
      have HE := show Hid _ from mis_done HMs.out
      go_wp2_with fail
      go_ret
      exact ⟨by rw [HE.out]; rfl, rfl⟩
    | succ m =>
      obtain ⟨hjl, hnx⟩ := mis_step HMs.out
      have HNx : Hid (Mis l (endp l i) (m + km l j) (j + 1)) := hnx
      have hjl' : (j : Int) < (l.length : Int) := by omega
      obtain ⟨g, o, rfl, hg, _, c4⟩ := kids_at HI.out HT.out hjl
      have hkm : (km l j : Int) ≤ 2932031007317 := by have := km_le HT.out.whole hjl; omega
      have hmp : (0 : Int) < ((m + 1 : Nat) : Int) := by omega
      have hcast : ((m + 1 : Nat) : Int) = (m : Int) + 1 := by omega
      rw [hcast] at hm2 hmp ⊢
      clear hnx hjl hj hcast
      go_wp2_with fail
      go_roundg (l.length - (j + 1))
      case measure => have h1 := HG.out; omega
      case rel => exact ⟨j + 1, m + km l j, by omega, rfl, by go_num, by go_num, HNx.out, rfl⟩
end Go.Proofs.YtgiilaaoeefpmaaGreat.Gr

namespace Go.Proofs.YtgiilaaoeefpmaaGreat.Gr
open Go.RowKit Go.Proofs.YtgiilaaoeefpmaaGreat.Sp Go.Proofs.YtgiilaaoeefpmaaGreat.Lx

/-- the kids that have come -/
def kl (l : List Rz) (i k : Nat) : List Nat := (List.range k).map (kidp l i)
theorem kl_succ (l : List Rz) (i k : Nat) : kl l i (k + 1) = kl l i k ++ [kidp l i k] := by simp [kl, List.range_succ]
theorem kl_len (l : List Rz) (i k : Nat) : (kl l i k).length = k := by simp [kl]

set_option maxHeartbeats 3200000 in
set_option maxRecDepth 100000 in
theorem kids_any (ao : Option Addr) (l : List Rz) (cap i : Nat) (w : World) (h : IsRz w ao l) (hn : l.length ≤ 2932031007317) (hT : TreeZ l) (hi : i < l.length) :
    Calls Tryz.prog 13 #[.slice ao l.length cap, .int .i64 i] w fun e w' => ∃ v, e = .returned v ∧ w'.ownsRow w.heap.size 3 1 v (km l i) ((kl l i (km l i)).map nc) ∧ Below w.heap.size w w' := by
  obtain ⟨j0, hj, hj0, hj1, hj2⟩ := info_parts info3
  have HI : Hid (IsRz w ao l) := h
  have HT : Hid (TreeZ l) := hT
  have HN : Hid (l.length ≤ 2932031007317) := hn
  have HE : Hid (∀ (j : Nat) (W : World), Below w.heap.size w W → j < l.length → Calls Tryz.prog 11 #[.slice ao l.length cap, .int .i64 j] W fun e w' => e = .returned (.int .i64 (endp l j : Nat)) ∧ w' = W) := fun j W hW hj => end_any ao l cap j W (h.below hW) hn hT hj
  have hln : (l.length : Int) ≤ 2932031007317 := by omega
  have hi1 : (i : Int) < (l.length : Int) := by omega
  have hnl : decide (l.length ≤ i) = false := by simp; omega
  have hnl2 : ¬ l.length ≤ i := by omega
  obtain ⟨g, o, rfl, hg, _, c4⟩ := kids_at h hT hi
  have hkm : (km l i : Int) ≤ 2932031007317 := by have := km_le hT.whole hi; omega
  have HKm : Hid (km l i ≤ 2932031007317) := by show _ ≤ _; omega
  clear h hn hT
  go_enter Tryz.func13, Tryz.ntmps13
  go_wp2_with fail
  go_loopg [5, 6, 22] (km l i) (fun gq x nx ix wr => ∃ (k : Nat) (v : Value), k ≤ km l i ∧ gq = km l i - k ∧ v = x ∧ nx = .int .i64 (kidp l i k : Int) ∧ ix = .int .i64 k ∧ wr.ownsRow w.heap.size 3 1 v k ((kl l i k).map nc) ∧ Below w.heap.size w wr)
  case atStart => exact ⟨0, _, Nat.zero_le _, rfl, rfl, by rw [kid_zero]; go_num, rfl, World.ownsRow_nil _ _ _ _, Below.refl _ _⟩
  case round =>
    obtain ⟨k, v, hk, hgk, rfl, rfl, rfl, hO, hB⟩ := hrel
    have HG : Hid (gk = km l i - k) := hgk
    have HO : Hid (wr.ownsRow w.heap.size 3 1 v k ((kl l i k).map nc)) := hO
    have HBr : Hid (Below w.heap.size w wr) := hB
    have HKl : Hid (k ≤ 2932031007317) := by have := HKm.out; show _ ≤ _; omega
    clear hgk hO hB
    by_cases hlk : k < km l i
    · obtain ⟨h1, h2, h3⟩ := kid_at HT.out.whole hi hlk
      have hlk' : (k : Int) < (km l i : Int) := by omega
      have h1' : (kidp l i k : Int) < (l.length : Int) := by omega
      have HNx : Hid (kidp l i (k + 1) = endp l (kidp l i k)) := h2
      have HKp : Hid (kidp l i k < l.length) := h1
      have HO2 : Hid ((wr.alloc (.cells #[.int .i64 (kidp l i k : Int)] 3)).ownsRow w.heap.size 3 1 v k ((kl l i k).map nc)) := own_below HO.out ((Below.refl _ wr).alloc (Nat.le_refl _) _)
      obtain ⟨bo, bc, rfl⟩ := own_form HO.out
      clear h1 h2 h3 hlk hk
      go_wp2_with (at_builtin; refine append_gone _ rfl _ _ 30 rfl w.heap.size 3 j0 (.int .i64 0) 1 8 Tryz.underlying30 hj hj0 hj1 hj2 rfl (by decide) (.slice bo k bc) k ((kl l i k).map nc) rfl HO2.out ⟨wr.heap.size, 0, none⟩ 1 1 [nc (kidp l i k)] rfl rfl ?c1 ?c2 ?c3 ?c4 ?c5 ?c6 ?_)
      case c1 => exact cell_one wr _ _
      case c2 => intro u hu; simp only [nc, List.mem_cons, List.not_mem_nil, or_false] at hu; subst hu; rfl
      case c3 => have := HKl.out; unfold maxLen; omega
      case c4 => have := HKl.out; omega
      case c5 => have h1 := HBr.out.size; rw [World.size_alloc]; omega
      case c6 => decide
      intro v4 w4 ho hG
      have HO4 : Hid (w4.ownsRow w.heap.size 3 1 v4 (k + 1) ((kl l i (k + 1)).map nc)) := by
        show w4.ownsRow w.heap.size 3 1 v4 (k + 1) ((kl l i (k + 1)).map nc)
        rw [kl_succ]
        simpa using ho
      have hb4 : Below w.heap.size (wr.alloc (.cells #[.int .i64 (kidp l i k : Int)] 3)) w4 := (Went.gone hG).low (fun j hj => (World.ownsRow.lt HO2.out j hj).1) (by have h1 := HBr.out.size; rw [World.size_alloc]; omega)
      have HB4 : Hid (Below w.heap.size w w4) := (HBr.out.alloc HBr.out.size _).trans hb4
      obtain ⟨bo4, bc4, rfl⟩ := own_form ho
      clear ho hG hb4
      go_wp2_with fail
      refine (HE.out (kidp l i k) w4 HB4.out HKp.out).mono ?_
      intro e w' hh
      obtain ⟨rfl, hw⟩ := hh
      rw [hw]
      clear hw w'
      go_wp2_with fail
      go_roundg (km l i - (k + 1))
      case measure => have h1 := HG.out; omega
      case rel => exact ⟨k + 1, _, by omega, rfl, rfl, by rw [HNx.out], by go_num, HO4.out, HB4.out⟩
    · have hlk' : ¬ ((k : Int) < (km l i : Int)) := by omega
      have hke : k = km l i := by omega
      have HF : Hid (wr.ownsRow w.heap.size 3 1 v (km l i) ((kl l i (km l i)).map nc)) := by rw [hke] at HO; exact HO
      clear hke hlk hk
      go_wp2_with fail
      go_ret
      exact ⟨_, rfl, HF.out, HBr.out⟩

set_option maxHeartbeats 3200000 in
set_option maxRecDepth 100000 in
theorem refKids_any (ao : Option Addr) (l : List Rz) (cap i : Nat) (w : World) (h : IsRz w ao l) (hn : l.length ≤ 2932031007317) (hT : TreeZ l) (hi : i < l.length) :
    Calls Tryz.prog 14 #[.slice ao l.length cap, .int .i64 i] w fun e w' => ∃ v, e = .returned v ∧ w'.ownsRow w.heap.size 3 1 v (km l i) ((kl l i (km l i)).map nc) ∧ Below w.heap.size w w' := by
  obtain ⟨j0, hj, hj0, hj1, hj2⟩ := info_parts info3
  have HI : Hid (IsRz w ao l) := h
  have HT : Hid (TreeZ l) := hT
  have HN : Hid (l.length ≤ 2932031007317) := hn
  have HE := show Hid (Calls Tryz.prog 10 #[.slice ao l.length cap] w fun e w' => ∃ g, e = .returned (.slice (some ⟨g, 0, none⟩) l.length l.length) ∧ w.heap.size ≤ g ∧ RowI w' g l.length (fun i => (endp l i : Int)) ∧ Below w.heap.size w w') from ends_any ao l cap w h hn hT
  have hln : (l.length : Int) ≤ 2932031007317 := by omega
  have hi1 : (i : Int) < (l.length : Int) := by omega
  have hkm : (km l i : Int) ≤ 2932031007317 := by have := km_le hT.whole hi; omega
  have HKm : Hid (km l i ≤ 2932031007317) := by show _ ≤ _; omega
  clear h hn hT
  go_enter Tryz.func14, Tryz.ntmps14
  go_wp2_with fail
  refine HE.out.mono ?_
  rintro e w1 ⟨ge, rfl, hge, hR1, hB1⟩
  have HR1 : Hid (RowI w1 ge l.length (fun i => (endp l i : Int)) ∧ w.heap.size ≤ ge) := ⟨hR1, hge⟩
  have HB1 : Hid (Below w.heap.size w w1) := hB1
  clear hR1 hB1 hge
  go_wp2_with fail
  go_loopg [6, 7, 8] (km l i) (fun gq x nx ix wr => ∃ (k : Nat) (v : Value), k ≤ km l i ∧ gq = km l i - k ∧ v = x ∧ nx = .int .i64 (kidp l i k : Int) ∧ ix = .int .i64 k ∧ wr.ownsRow w1.heap.size 3 1 v k ((kl l i k).map nc) ∧ Below w1.heap.size w1 wr)
  case atStart => exact ⟨0, _, Nat.zero_le _, rfl, rfl, by rw [kid_zero]; go_num, rfl, World.ownsRow_nil _ _ _ _, Below.refl _ _⟩
  case round =>
    obtain ⟨k, v, hk, hgk, rfl, rfl, rfl, hO, hB⟩ := hrel
    have HG : Hid (gk = km l i - k) := hgk
    have HO : Hid (wr.ownsRow w1.heap.size 3 1 v k ((kl l i k).map nc)) := hO
    have HBr : Hid (Below w1.heap.size w1 wr) := hB
    have HKl : Hid (k ≤ 2932031007317) := by have := HKm.out; show _ ≤ _; omega
    clear hgk hO hB
    obtain ⟨g, o, rfl, hg, _, c4⟩ := kids_at (HI.out.below (HB1.out.trans (HBr.out.mono HB1.out.size))) HT.out hi
    by_cases hlk : k < km l i
    · obtain ⟨h1, h2, h3⟩ := kid_at HT.out.whole hi hlk
      have hlk' : (k : Int) < (km l i : Int) := by omega
      have h1' : (kidp l i k : Int) < (l.length : Int) := by omega
      have HNx : Hid (kidp l i (k + 1) = endp l (kidp l i k)) := h2
      have HKp : Hid (kidp l i k < l.length) := h1
      have HO2 : Hid ((wr.alloc (.cells #[.int .i64 (kidp l i k : Int)] 3)).ownsRow w1.heap.size 3 1 v k ((kl l i k).map nc)) := own_below HO.out ((Below.refl _ wr).alloc (Nat.le_refl _) _)
      obtain ⟨bo, bc, rfl⟩ := own_form HO.out
      clear h1 h2 h3 hlk hk
      go_wp2_with (at_builtin; refine append_gone _ rfl _ _ 30 rfl w1.heap.size 3 j0 (.int .i64 0) 1 8 Tryz.underlying30 hj hj0 hj1 hj2 rfl (by decide) (.slice bo k bc) k ((kl l i k).map nc) rfl HO2.out ⟨wr.heap.size, 0, none⟩ 1 1 [nc (kidp l i k)] rfl rfl ?c1 ?c2 ?c3 ?c4 ?c5 ?c6 ?_)
      case c1 => exact cell_one wr _ _
      case c2 => intro u hu; simp only [nc, List.mem_cons, List.not_mem_nil, or_false] at hu; subst hu; rfl
      case c3 => have := HKl.out; unfold maxLen; omega
      case c4 => have := HKl.out; omega
      case c5 => have h1 := HBr.out.size; rw [World.size_alloc]; omega
      case c6 => decide
      intro v4 w4 ho hG
      have HO4 : Hid (w4.ownsRow w1.heap.size 3 1 v4 (k + 1) ((kl l i (k + 1)).map nc)) := by
        show w4.ownsRow w1.heap.size 3 1 v4 (k + 1) ((kl l i (k + 1)).map nc)
        rw [kl_succ]
        simpa using ho
      have hb4 : Below w1.heap.size (wr.alloc (.cells #[.int .i64 (kidp l i k : Int)] 3)) w4 := (Went.gone hG).low (fun j hj => (World.ownsRow.lt HO2.out j hj).1) (by have h1 := HBr.out.size; rw [World.size_alloc]; omega)
      have HB4 : Hid (Below w1.heap.size w1 w4) := (HBr.out.alloc HBr.out.size _).trans hb4
      obtain ⟨bo4, bc4, rfl⟩ := own_form ho
      have a5 := (HR1.out.1.below HB4.out HR1.out.1.lt).cell HKp.out
      clear ho hG hb4
      go_wp2_with fail
      go_roundg (km l i - (k + 1))
      case measure => have h1 := HG.out; omega
      case rel => exact ⟨k + 1, _, by omega, rfl, rfl, by rw [HNx.out], by go_num, HO4.out, HB4.out⟩
    · have hlk' : ¬ ((k : Int) < (km l i : Int)) := by omega
      have hke : k = km l i := by omega
      have HF : Hid (wr.ownsRow w.heap.size 3 1 v (km l i) ((kl l i (km l i)).map nc)) := by rw [hke] at HO; exact World.ownsRow.mono HO.out HB1.out.size
      clear hke hlk hk
      go_wp2_with fail
      go_ret
      exact ⟨_, rfl, HF.out, HB1.out.trans (HBr.out.mono HB1.out.size)⟩
end Go.Proofs.YtgiilaaoeefpmaaGreat.Gr

namespace Go.Proofs.YtgiilaaoeefpmaaGreat.Gr
open Go.RowKit Go.Proofs.YtgiilaaoeefpmaaGreat.Sp Go.Proofs.YtgiilaaoeefpmaaGreat.Lx

/-- the depths that have come -/
def dl (l : List Rz) (k : Nat) : List Nat := (List.range k).map (dep l)
theorem dl_succ (l : List Rz) (k : Nat) : dl l (k + 1) = dl l k ++ [dep l k] := by simp [dl, List.range_succ]
theorem rst_len_le (l : List Rz) (k : Nat) : (rst (fun _ => 0) l k).length ≤ k ∧ SeenLe k (rst (fun _ => 0) l k) := by
  induction k with
  | zero => exact ⟨Nat.le_refl _, fun _ h => (by cases h)⟩
  | succ k ih =>
    refine ⟨?_, seen_past ih.2 _ _⟩
    have := past_len (rst (fun _ => 0) l k) (rat l k) 0
    exact Nat.le_trans this (by have := ih.1; omega)

set_option maxHeartbeats 6400000 in
set_option maxRecDepth 100000 in
theorem depths_any (ao : Option Addr) (l : List Rz) (cap : Nat) (w : World) (h : IsRz w ao l) (hn : l.length ≤ 2932031007317) :
    Calls Tryz.prog 31 #[.slice ao l.length cap] w fun e w' => ∃ v, e = .returned v ∧ w'.ownsRow w.heap.size 3 1 v l.length ((dl l l.length).map nc) ∧ Below w.heap.size w w' := by
  obtain ⟨j0, hj, hj0, hj1, hj2⟩ := info_parts info3
  have HI : Hid (IsRz w ao l) := h
  have HN : Hid (l.length ≤ 2932031007317) := hn
  have hln : (l.length : Int) ≤ 2932031007317 := by omega
  clear h hn
  go_enter Tryz.func31, Tryz.ntmps31
  go_wp2_with fail
  go_loopg [3, 4, 9] l.length (fun gq x y ix wr => ∃ (k : Nat) (v u : Value), k ≤ l.length ∧ gq = l.length - k ∧ v = x ∧ u = y ∧ ix = .int .i64 k ∧ wr.ownsRow w.heap.size 3 1 v k ((dl l k).map nc) ∧ OwnT wr w.heap.size u (rst (fun _ => 0) l k) ∧ (v.ownBlock = none ∨ v.ownBlock ≠ u.ownBlock) ∧ Below w.heap.size w wr)
  case atStart => exact ⟨0, _, _, Nat.zero_le _, rfl, rfl, rfl, rfl, World.ownsRow_nil _ _ _ _, World.ownsRow_nil _ _ _ _, Or.inl rfl, Below.refl _ _⟩
  case round =>
    obtain ⟨k, v, u, hk, hgk, rfl, rfl, rfl, hO, hU, hA, hB⟩ := hrel
    have HG : Hid (gk = l.length - k) := hgk
    have HO : Hid (wr.ownsRow w.heap.size 3 1 v k ((dl l k).map nc)) := hO
    have HU : Hid (OwnT wr w.heap.size u (rst (fun _ => 0) l k)) := hU
    have HA : Hid (v.ownBlock = none ∨ v.ownBlock ≠ u.ownBlock) := hA
    have HBr : Hid (Below w.heap.size w wr) := hB
    have HKl : Hid (k ≤ 2932031007317) := by have := HN.out; show _ ≤ _; omega
    clear hgk hO hU hA hB
    by_cases hlt : k < l.length
    · have hlt' : (k : Int) < (l.length : Int) := by omega
      obtain ⟨r, g, o, hdr, hlk, rfl, hg, c0, c1, c2, c3, c4⟩ := rows_at (HI.out.below HBr.out) hlt
      have HRt : Hid (rat l k = r) := rat_some hlk
      have hlen := (rst_len (fun _ => 0) l k)
      have hbA : Below wr.heap.size wr ((wr.alloc (.cells #[.int .i64 r.kind, .string r.name, .int .i64 r.stop, .int .i64 r.n, .int .i64 r.kids] 46)).alloc (.cells #[.int .i64 (dep l k : Int)] 3)) := ((Below.refl _ wr).alloc (Nat.le_refl _) _).alloc (by simp) _
      have HO2 : Hid (((wr.alloc (.cells #[.int .i64 r.kind, .string r.name, .int .i64 r.stop, .int .i64 r.n, .int .i64 r.kids] 46)).alloc (.cells #[.int .i64 (dep l k : Int)] 3)).ownsRow w.heap.size 3 1 v k ((dl l k).map nc)) := own_below HO.out hbA
      have HU2 : Hid (OwnT ((wr.alloc (.cells #[.int .i64 r.kind, .string r.name, .int .i64 r.stop, .int .i64 r.n, .int .i64 r.kids] 46)).alloc (.cells #[.int .i64 (dep l k : Int)] 3)) w.heap.size u (rst (fun _ => 0) l k)) := own_below HU.out hbA
      have HB2 : Hid (Below w.heap.size w ((wr.alloc (.cells #[.int .i64 r.kind, .string r.name, .int .i64 r.stop, .int .i64 r.n, .int .i64 r.kids] 46)).alloc (.cells #[.int .i64 (dep l k : Int)] 3))) := HBr.out.trans (hbA.mono HBr.out.size)
      have HC1 : Hid (∀ j x, [nc (dep l k)][j]? = some x → ((wr.alloc (.cells #[.int .i64 r.kind, .string r.name, .int .i64 r.stop, .int .i64 r.n, .int .i64 r.kids] 46)).alloc (.cells #[.int .i64 (dep l k : Int)] 3)).cell? ((⟨wr.heap.size + 1, 0, none⟩ : Addr).add j) = some x) := fun j x hx => by
        have := cell_one (wr.alloc (.cells #[.int .i64 r.kind, .string r.name, .int .i64 r.stop, .int .i64 r.n, .int .i64 r.kids] 46)) 3 (.int .i64 (dep l k : Int)) j x hx
        rw [World.size_alloc] at this
        exact this
      have hrow : ∀ W : World, W.heap[wr.heap.size]? = some (.cells #[.int .i64 r.kind, .string r.name, .int .i64 r.stop, .int .i64 r.n, .int .i64 r.kids] 46 (0, 0)) → W.cell? ⟨wr.heap.size, 0, none⟩ = some (.int .i64 r.kind) ∧ W.cell? ⟨wr.heap.size, 1, none⟩ = some (.string r.name) ∧ W.cell? ⟨wr.heap.size, 2, none⟩ = some (.int .i64 r.stop) ∧ W.cell? ⟨wr.heap.size, 3, none⟩ = some (.int .i64 r.n) ∧ W.cell? ⟨wr.heap.size, 4, none⟩ = some (.int .i64 r.kids) := fun W hW => by
        refine ⟨?_, ?_, ?_, ?_, ?_⟩ <;> rw [World.cell?, hW] <;> rfl
      have HRow : Hid (((wr.alloc (.cells #[.int .i64 r.kind, .string r.name, .int .i64 r.stop, .int .i64 r.n, .int .i64 r.kids] 46)).alloc (.cells #[.int .i64 (dep l k : Int)] 3)).heap[wr.heap.size]? = some (.cells #[.int .i64 r.kind, .string r.name, .int .i64 r.stop, .int .i64 r.n, .int .i64 r.kids] 46 (0, 0))) := (Below.heap_alloc _ _ _ (by simp)).trans (heap_alloc_new wr _)
      obtain ⟨bo, bc, rfl⟩ := own_form HO.out
      obtain ⟨bu, bcu, hueq⟩ := own_form HU.out
      rw [hlen] at hueq
      subst hueq
      clear hdr hlk hlen hbA hlt
      go_wp2_with (at_builtin; refine append_gone _ rfl _ _ 30 rfl w.heap.size 3 j0 (.int .i64 0) 1 8 Tryz.underlying30 hj hj0 hj1 hj2 rfl (by decide) (.slice bo k bc) k ((dl l k).map nc) rfl HO2.out ⟨wr.heap.size + 1, 0, none⟩ 1 1 [nc (dep l k)] rfl rfl ?c1 ?c2 ?c3 ?c4 ?c5 ?c6 ?_)
      case c1 => exact HC1.out
      case c2 => intro u hu; simp only [nc, List.mem_cons, List.not_mem_nil, or_false] at hu; subst hu; rfl
      case c3 => have := HKl.out; unfold maxLen; omega
      case c4 => have := HKl.out; omega
      case c5 => exact HB2.out.size
      case c6 => decide
      intro v4 w4 ho hG
      have HO4 : Hid (w4.ownsRow w.heap.size 3 1 v4 (k + 1) ((dl l (k + 1)).map nc)) := by
        show w4.ownsRow w.heap.size 3 1 v4 (k + 1) ((dl l (k + 1)).map nc)
        rw [dl_succ]
        simpa using ho
      have hWt := Went.gone hG
      have HB4 : Hid (Below w.heap.size w w4) := HB2.out.trans (hWt.low (fun j hj => (World.ownsRow.lt HO2.out j hj).1) HB2.out.size)
      have hne1 : (Value.slice bu (dep l k) bcu).ownBlock = none ∨ (Value.slice bu (dep l k) bcu).ownBlock ≠ (Value.slice bo k bc).ownBlock := by
        rcases HA.out with e | e
        · cases hx : (Value.slice bu (dep l k) bcu).ownBlock with
          | none => exact Or.inl rfl
          | some y => rw [e]; exact Or.inr (by simp)
        · exact Or.inr fun e2 => e e2.symm
      have HU4 : Hid (OwnT w4 w.heap.size (.slice bu (dep l k) bcu) (rst (fun _ => 0) l k)) := World.ownsRow.kept HU2.out hWt.by_ hne1
      have hrw : w4.heap[wr.heap.size]? = some (.cells #[.int .i64 r.kind, .string r.name, .int .i64 r.stop, .int .i64 r.n, .int .i64 r.kids] 46 (0, 0)) := by
        refine (hWt.by_.block wr.heap.size (by simp; omega) fun e => ?_).trans HRow.out
        have := (World.ownsRow.lt HO.out _ e.symm).2
        omega
      obtain ⟨z0, z1, z2, z3, z4⟩ := hrow w4 hrw
      have HA4 : Hid (v4.ownBlock = none ∨ v4.ownBlock ≠ (Value.slice bu (dep l k) bcu).ownBlock) := by
        rcases hWt.own with e | e
        · rw [e]; exact HA.out
        · cases hx : v4.ownBlock with
          | none => exact Or.inl rfl
          | some y =>
            refine Or.inr fun e2 => ?_
            have h1 := e y hx
            have h2 := (World.ownsRow.lt HU2.out y e2.symm).2
            omega
      obtain ⟨bo4, bc4, rfl⟩ := own_form ho
      have HPst : Hid (Calls Tryz.prog 27 #[.slice bu (dep l k) bcu, .agg #[.int .i64 r.kind, .string r.name, .int .i64 r.stop, .int .i64 r.n, .int .i64 r.kids], .int .i64 0] w4 fun e w' => ∃ v', e = .returned v' ∧ OwnT w' w.heap.size v' (past (rst (fun _ => 0) l k) r 0) ∧ Went w4 (.slice bu (dep l k) bcu) w' v') :=
        past_any (rst (fun _ => 0) l k) r 0 w.heap.size _ w4 HU4.out HB4.out.size (fun a ha => by have h1 := (rst_len_le l k).2 a ha; have h2 := HKl.out; omega) (by have h1 := (rst_len_le l k).1; have h2 := HKl.out; omega)
      clear ho hG hWt hne1 hrw hrow
      go_wp2_with fail
      refine HPst.out.mono ?_
      rintro e w8 ⟨v8, rfl, hO8, hW8⟩
      have HB8 : Hid (Below w.heap.size w w8) := HB4.out.trans (hW8.low (fun j hj => (World.ownsRow.lt HU4.out j hj).1) HB4.out.size)
      have HO8 : Hid (w8.ownsRow w.heap.size 3 1 (.slice bo4 (k + 1) bc4) (k + 1) ((dl l (k + 1)).map nc)) := World.ownsRow.kept HO4.out hW8.by_ HA4.out
      have HU8 : Hid (OwnT w8 w.heap.size v8 (rst (fun _ => 0) l (k + 1))) := by
        show OwnT w8 w.heap.size v8 (past (rst (fun _ => 0) l k) (rat l k) 0)
        rw [HRt.out]
        exact hO8
      have HA8 : Hid ((Value.slice bo4 (k + 1) bc4).ownBlock = none ∨ (Value.slice bo4 (k + 1) bc4).ownBlock ≠ v8.ownBlock) := by
        rcases hW8.own with e | e
        · rw [e]; exact HA4.out
        · cases hx : (Value.slice bo4 (k + 1) bc4).ownBlock with
          | none => exact Or.inl rfl
          | some y =>
            refine Or.inr fun e2 => ?_
            have h1 := e y e2.symm
            have h2 := (World.ownsRow.lt HO4.out y hx).2
            omega
      obtain ⟨bo8, bc8, rfl⟩ := own_form hO8
      clear hO8 hW8 z0 z1 z2 z3 z4
      go_wp2_with fail
      go_roundg (l.length - (k + 1))
      case measure => have h1 := HG.out; omega
      case rel => exact ⟨k + 1, _, _, by omega, rfl, rfl, rfl, by go_num, HO8.out, HU8.out, HA8.out, HB8.out⟩
    · have hlt' : ¬ ((k : Int) < (l.length : Int)) := by omega
      have hke : k = l.length := by omega
      have HF : Hid (wr.ownsRow w.heap.size 3 1 v l.length ((dl l l.length).map nc)) := by rw [hke] at HO; exact HO
      clear hke hlt
      go_wp2_with fail
      go_ret
      exact ⟨_, rfl, HF.out, HBr.out⟩
end Go.Proofs.YtgiilaaoeefpmaaGreat.Gr

namespace Go.Proofs.YtgiilaaoeefpmaaGreat.Gr
open Go.RowKit Go.Shelf Go.Proofs.YtgiilaaoeefpmaaGreat.Sp Go.Proofs.YtgiilaaoeefpmaaGreat.Lx

attribute [local go_sem] Oper.semAt_some

/-- what has come when k rounds are over -/
def upto (f : Nat → Nat × Int) (k : Nat) : List (Nat × Int) := (List.range k).map f
theorem upto_succ (f : Nat → Nat × Int) (k : Nat) : upto f (k + 1) = upto f k ++ [f k] := by simp [upto, List.range_succ]
theorem upto_length (f : Nat → Nat × Int) (k : Nat) : (upto f k).length = k := by simp [upto]

set_option maxRecDepth 100000 in
set_option maxHeartbeats 2000000 in
theorem all1_in (F : Fence) (n : Nat) (h8 : F.fn 43) (hro : F.round = none) (hn : 1 ≤ n) (l Bs n₀ b len cap : Nat) (z : Nat → Int) (hreach : len * 8 ≤ 140737488351232) (hb : b < n₀) (J Jx : List (Nat × Int) → World → Prop)
    (hY : ∀ pre x W, J pre W → pre.length < len → YieldAt F (n - 1) Tryz.prog l #[.int .i64 (x.1 : Int), .int .i64 x.2] W fun e W' =>
      (e = .returned (.bool true) ∧ J (pre ++ [x]) W' ∧ Below n₀ W W') ∨ (e = .returned (.bool false) ∧ Jx (pre ++ [x]) W'))
    (W : World) (hBs : W.cell? ⟨Bs, 0, none⟩ = some (.slice (some ⟨b, 0, none⟩) len cap)) (hc : ∀ j, j < len → W.cell? ⟨b, j, none⟩ = some (.int .i64 (z j))) (h0 : J [] W) :
    CallsIn F n Tryz.prog 43 #[.func (.yield l) #[] #[], .pointer (some ⟨Bs, 0, none⟩)] W fun e W' => (∃ v, e = .returned v) ∧
      ((∃ ys, ys = upto (fun j => (j, z j)) len ∧ J ys W') ∨ (∃ pre, (∃ k, k ≤ len ∧ pre = upto (fun j => (j, z j)) k) ∧ Jx pre W')) := by
  refine callsIn_of_wp Tryz.func43 rfl h8 ?_ hro
  simp only [Tryz.ntmps43, List.size_toArray, List.length_cons, List.length_nil, Nat.reduceAdd, Nat.reduceSub, Array.replicate_succ, Array.replicate_zero, List.push_toArray, List.append_toArray, List.nil_append, List.cons_append]
  gi_wp2
  gi_loopw [7] (fun i wr => ∃ k : Nat, k ≤ len ∧ i = .int .i64 k ∧ J (upto (fun j => (j, z j)) k) wr ∧ Below n₀ W wr)
    (fun i _ => len - (intOf i).toNat)
  case atStart => exact ⟨0, Nat.zero_le _, rfl, h0, Below.refl _ _⟩
  case round =>
    obtain ⟨k, hk, rfl, hJs, hnx⟩ := hrel
    have hcx : k < len → wr.cell? ⟨b, k, none⟩ = some (.int .i64 (z k)) := fun h => (hnx.cell (p := ⟨b, k, none⟩) hb).trans (hc k h)
    by_cases hlt : k < len
    · obtain ⟨fn, tmps, assign, body, hy, hR⟩ := hY _ (k, z k) wr hJs (by rw [upto_length]; exact hlt)
      dsimp only at hy
      have hcx' := hcx hlt
      gi_wp2
      refine hR.mono ?_
      rintro e W3 (⟨rfl, hJ3, hk3⟩ | ⟨rfl, hJx3⟩)
      · gi_wp2
        go_roundw
        case rel => exact ⟨k + 1, by omega, by simp, by rw [upto_succ]; exact hJ3, hnx.trans hk3⟩
        case measure => simp [intOf]; omega
      · gi_wp2
        refine bodyPost_ret (results_none rfl _ _ _) rfl ?_
        exact ⟨⟨_, rfl⟩, .inr ⟨_, ⟨k + 1, by omega, (upto_succ _ _).symm⟩, hJx3⟩⟩
    · obtain rfl : k = len := by omega
      gi_wp2
      go_end0
      exact ⟨⟨_, rfl⟩, .inl ⟨_, rfl, hJs⟩⟩

set_option maxHeartbeats 1000000 in
theorem sall_any (a : Option Addr) (len cap : Nat) (w : World) :
    Calls Tryz.prog 30 #[.slice a len cap] w fun e w' => e = .returned (.func (.func 43) #[] #[.pointer (some ⟨w.heap.size, 0, none⟩)]) ∧ w' = w.alloc (.cells #[.slice a len cap] 30) := by
  have hmf : ∀ (fn : Fn) (first cap : Array Value) (w : World), (Instr.makeFunc fn first cap).run Tryz.prog w = .ok (.func fn first cap) w := fun _ _ _ _ => rfl
  go_enter Tryz.func30, Tryz.ntmps30
  go_wp2
  go_ret
  exact ⟨rfl, rfl⟩

theorem all_stops (F : Fence) (n : Nat) (h8 : F.fn 43) (hro : F.round = none) (hn : 1 ≤ n) (Bs n₀ b len cap : Nat) (z : Nat → Int) (hreach : len * 8 ≤ 140737488351232) (w : World) (hBs : Bs < w.heap.size) (hn₀ : n₀ ≤ w.heap.size) (hb : b < n₀)
    (hc : w.cell? ⟨Bs, 0, none⟩ = some (.slice (some ⟨b, 0, none⟩) len cap)) (hI : ∀ j, j < len → w.cell? ⟨b, j, none⟩ = some (.int .i64 (z j))) :
    SeqStopsK F n Tryz.prog 43 #[.pointer (some ⟨Bs, 0, none⟩)] (fun x : Nat × Int => #[Value.int .i64 (x.1 : Int), Value.int .i64 x.2]) (Below n₀) (fun ys => ys = upto (fun j => (j, z j)) len)
      (fun pre => ∃ k, k ≤ len ∧ pre = upto (fun j => (j, z j)) k) len w := fun l J Jx W hW _ _ hY h0 =>
  all1_in F n h8 hro hn l Bs n₀ b len cap z hreach hb J Jx hY W ((hW.cell (p := ⟨Bs, 0, none⟩) hBs).trans hc) (fun j hj => ((hW.mono hn₀).cell (p := ⟨b, j, none⟩) hb).trans (hI j hj)) h0

set_option maxHeartbeats 1000000 in
/-- gram.Walk -/
theorem walk_any (ao : Option Addr) (l : List Rz) (cap : Nat) (w : World) (h : IsRz w ao l) (hn : l.length ≤ 2932031007317) (h0 : 0 < l.length) :
    Calls Tryz.prog 19 #[.slice ao l.length cap] w fun e w' => ∃ Bs b c, e = .returned (.func (.func 43) #[] #[.pointer (some ⟨Bs, 0, none⟩)]) ∧ Bs < w'.heap.size ∧ b < w'.heap.size ∧ w.heap.size ≤ Bs ∧
      w'.cell? ⟨Bs, 0, none⟩ = some (.slice (some ⟨b, 0, none⟩) l.length c) ∧ (∀ j, j < l.length → w'.cell? ⟨b, j, none⟩ = some (.int .i64 (dep l j : Int))) ∧ Below w.heap.size w w' := by
  have HD := show Hid (Calls Tryz.prog 31 #[.slice ao l.length cap] w fun e w' => ∃ v, e = .returned v ∧ w'.ownsRow w.heap.size 3 1 v l.length ((dl l l.length).map nc) ∧ Below w.heap.size w w') from depths_any ao l cap w h hn
  clear h hn
  go_enter Tryz.func19, Tryz.ntmps19
  go_wp2_with fail
  refine HD.out.mono ?_
  rintro e w1 ⟨v, rfl, hO, hB⟩
  obtain ⟨b, c, cur, rfl, hb1, hb2, _, _, _, _⟩ := own_block hO h0
  have HB : Hid (Below w.heap.size w w1 ∧ b < w1.heap.size ∧ ∀ j, j < l.length → w1.cell? ⟨b, j, none⟩ = some (.int .i64 (dep l j : Int))) := ⟨hB, (Array.getElem?_eq_some_iff.1 hb2).1, fun j hj => by
    rw [hO.cellAt j (by omega)]
    simp [dl, nc, hj]⟩
  clear hO hB hb1 hb2
  go_wp2_with fail
  refine (sall_any _ _ _ w1).mono ?_
  rintro e w' ⟨rfl, rfl⟩
  go_wp2_with fail
  go_ret
  refine ⟨w1.heap.size, b, c, rfl, by simp, by have := HB.out.2.1; simp; omega, HB.out.1.size, ?_, fun j hj => ?_, HB.out.1.alloc HB.out.1.size _⟩
  · rw [World.cell?, heap_alloc_new]; rfl
  · rw [World.cell?_of_block (a := ⟨b, j, none⟩) (Below.heap_alloc w1 _ b HB.out.2.1)]
    exact HB.out.2.2 j hj
end Go.Proofs.YtgiilaaoeefpmaaGreat.Gr

namespace Go.Proofs.YtgiilaaoeefpmaaGreat.Gr
open Go.RowKit Go.Shelf Go.Proofs.YtgiilaaoeefpmaaGreat.Sp Go.Proofs.YtgiilaaoeefpmaaGreat.Lx

attribute [local go_sem] Oper.semAt_some

set_option maxRecDepth 100000 in
set_option maxHeartbeats 6400000 in
theorem walks_any (ao : Option Addr) (l : List Rz) (cap gd : Nat) (w : World) (h : IsRz w ao l) (hn : l.length ≤ 2932031007317) (h0 : 0 < l.length) (hR : RowI w gd l.length (fun p => (dep l p : Int))) :
    Calls Tryz.prog 17 #[.slice ao l.length cap, .slice (some ⟨gd, 0, none⟩) l.length l.length] w fun e w' => e = .returned (.bool true) ∧ Below w.heap.size w w' := by
  have hb1 : Below w.heap.size w ((w.alloc (.cells #[.slice (some ⟨gd, 0, none⟩) l.length l.length] 30)).alloc (.cells #[.bool false] 4)) := ((Below.refl _ w).alloc (Nat.le_refl _) _).alloc (by simp) _
  have hz1 : ((w.alloc (.cells #[.slice (some ⟨gd, 0, none⟩) l.length l.length] 30)).alloc (.cells #[.bool false] 4)).heap.size = w.heap.size + 2 := by simp
  have HW := show Hid (Calls Tryz.prog 19 #[.slice ao l.length cap] ((w.alloc (.cells #[.slice (some ⟨gd, 0, none⟩) l.length l.length] 30)).alloc (.cells #[.bool false] 4)) fun e w' => ∃ Bs b c, e = .returned (.func (.func 43) #[] #[.pointer (some ⟨Bs, 0, none⟩)]) ∧ Bs < w'.heap.size ∧ b < w'.heap.size ∧ ((w.alloc (.cells #[.slice (some ⟨gd, 0, none⟩) l.length l.length] 30)).alloc (.cells #[.bool false] 4)).heap.size ≤ Bs ∧
      w'.cell? ⟨Bs, 0, none⟩ = some (.slice (some ⟨b, 0, none⟩) l.length c) ∧ (∀ j, j < l.length → w'.cell? ⟨b, j, none⟩ = some (.int .i64 (dep l j : Int))) ∧ Below ((w.alloc (.cells #[.slice (some ⟨gd, 0, none⟩) l.length l.length] 30)).alloc (.cells #[.bool false] 4)).heap.size ((w.alloc (.cells #[.slice (some ⟨gd, 0, none⟩) l.length l.length] 30)).alloc (.cells #[.bool false] 4)) w') from
    walk_any ao l cap _ (h.below hb1) hn h0
  have hnil : ∀ (cp : Array Value) (u : World), (binOp BinOp.eql 39 (.func (.func 43) #[] cp) .nilFunc).run Tryz.prog u = .ok (.bool false) u := fun _ _ => rfl
  refine (callsIn_wide (n := 5)).1 ?_
  refine callsIn_of_wp_marks Tryz.func17 rfl trivial ?_ rfl
  simp only [Tryz.ntmps17, List.size_toArray, List.length_cons, List.length_nil, Nat.reduceAdd, Nat.reduceSub, Array.replicate_succ, Array.replicate_zero, List.push_toArray, List.append_toArray, List.nil_append, List.cons_append]
  gi_wp2
  refine ⟨trivial, (callsIn_wide.2 HW.out).mono ?_⟩
  rintro e w2 ⟨Bs, b, c, rfl, hBs, hbw, hBl, hcB, hcb, hB2⟩
  rw [hz1] at hBl hB2
  have hz2 : w.heap.size + 2 ≤ w2.heap.size := by have := hB2.size; rw [hz1] at this; exact this
  have hW2 : Below w.heap.size w w2 := hb1.trans (hB2.mono (by omega))
  have hW3 : Below w.heap.size w (w2.alloc (.cells #[.int .i64 0] 3)) := hW2.alloc hW2.size _
  have hx : ∀ (B : Nat) (u : Value) (T : TypeId), B < w.heap.size + 2 → ((w.alloc (.cells #[.slice (some ⟨gd, 0, none⟩) l.length l.length] 30)).alloc (.cells #[.bool false] 4)).heap[B]? = some (.cells #[u] T (0, 0)) → (w2.alloc (.cells #[.int .i64 0] 3)).cell? ⟨B, 0, none⟩ = some u ∧ (w2.alloc (.cells #[.int .i64 0] 3)).frozen? ⟨B, 0, none⟩ = false := fun B u T hB hu => by
    have e : (w2.alloc (.cells #[.int .i64 0] 3)).heap[B]? = some (.cells #[u] T (0, 0)) := ((Below.heap_alloc _ _ _ (by omega)).trans (hB2.block B hB)).trans hu
    exact ⟨by rw [World.cell?, e]; rfl, by rw [World.frozen?, e]; rfl⟩
  obtain ⟨c3, _⟩ := hx w.heap.size _ 30 (by omega) ((Below.heap_alloc _ _ _ (by simp)).trans (heap_alloc_new w _))
  obtain ⟨c4, f4⟩ := hx (w.heap.size + 1) _ 4 (by omega) (by have := heap_alloc_new (w.alloc (.cells #[.slice (some ⟨gd, 0, none⟩) l.length l.length] 30)) (.cells #[.bool false] 4); rw [World.size_alloc] at this; exact this)
  have bN := Boxed.new w2 3 (.int .i64 0)
  have cd : ∀ j, j < l.length → (w2.alloc (.cells #[.int .i64 0] 3)).cell? ⟨gd, j, none⟩ = some (.int .i64 (dep l j : Int)) := fun j hj => (hW3.cell (p := ⟨gd, j, none⟩) hR.lt).trans (hR.cell hj)
  have cB : (w2.alloc (.cells #[.int .i64 0] 3)).cell? ⟨Bs, 0, none⟩ = some (.slice (some ⟨b, 0, none⟩) l.length c) := (World.cell?_of_block (a := ⟨Bs, 0, none⟩) (Below.heap_alloc w2 _ Bs hBs)).trans hcB
  have cb : ∀ j, j < l.length → (w2.alloc (.cells #[.int .i64 0] 3)).cell? ⟨b, j, none⟩ = some (.int .i64 (dep l j : Int)) := fun j hj => (World.cell?_of_block (a := ⟨b, j, none⟩) (Below.heap_alloc w2 _ b hbw)).trans (hcb j hj)
  clear hx hcB hcb hb1
  gi_wp2
  refine wpIn_rangeFunc_ownG rfl (by omega) (gf := 43) (lb := #[.pointer (some ⟨Bs, 0, none⟩)]) rfl trivial (enters_of Tryz.func43 (by kernel_rfl) rfl)
    (all_stops Fence.wide 4 trivial rfl (by omega) Bs w2.heap.size b l.length c (fun j => (dep l j : Int)) (by omega) (w2.alloc (.cells #[.int .i64 0] 3)) (by simp; omega) (by simp) hbw cB cb) belowK_t (belowK_b (by simp)) (Below.refl _ _) (fun _ => rfl)
    (fun pre W => (W.cell? ⟨w2.heap.size, 0, none⟩ = some (.int .i64 (pre.length : Int)) ∧ W.frozen? ⟨w2.heap.size, 0, none⟩ = false ∧ W.cell? ⟨w.heap.size, 0, none⟩ = some (.slice (some ⟨gd, 0, none⟩) l.length l.length) ∧ W.cell? ⟨w.heap.size + 1, 0, none⟩ = some (.bool false) ∧ W.frozen? ⟨w.heap.size + 1, 0, none⟩ = false ∧ ∀ j, j < l.length → W.cell? ⟨gd, j, none⟩ = some (.int .i64 (dep l j : Int))) ∧ Below w.heap.size w W)
    (fun (cc : Code) (pre : List (Nat × Int)) (_ : World) => cc = Code.ret ∧ ∃ (ini : List (Nat × Int)) (last : Nat × Int), pre = ini ++ [last] ∧ ¬ ((last.1 : Int) = (ini.length : Int) ∧ last.2 = (dep l ini.length : Int)))
    (OwnFrom.and (Own.from (fun s A B row hs hg hr => ⟨cell_kept hs.1 hg hr, (frozen_kept hs.1 hg hr).trans hs.2.1, cell_kept hs.2.2.1 hg hr, cell_kept hs.2.2.2.1 hg hr, (frozen_kept hs.2.2.2.1 hg hr).trans hs.2.2.2.2.1, fun j hj => cell_kept (hs.2.2.2.2.2 j hj) hg hr⟩) _) (ownFrom_below (Nat.le_refl _) (by simp; omega)))
    (fun cc s A B row hs _ _ => hs)
    ⟨⟨bN.cell, bN.frozen, c3, c4, f4, cd⟩, hW3⟩
    (fun x => { tmps := #[Value.slice ao l.length cap, Value.slice (some ⟨gd, 0, none⟩) l.length l.length, undef, Value.pointer (some ⟨w.heap.size, 0, none⟩), Value.pointer (some ⟨w.heap.size + 1, 0, none⟩), Value.func (Fn.func 43) #[] #[Value.pointer (some ⟨Bs, 0, none⟩)], Value.pointer (some ⟨w2.heap.size, 0, none⟩), .int .i64 (x.1 : Int), .int .i64 x.2, Value.slice ao l.length cap, Value.func (Fn.func 43) #[] #[Value.pointer (some ⟨Bs, 0, none⟩)], Value.func (Fn.func 43) #[] #[Value.pointer (some ⟨Bs, 0, none⟩)], Value.bool false, Value.func (Fn.func 43) #[] #[Value.pointer (some ⟨Bs, 0, none⟩)], .int .i64 (x.1 : Int), .int .i64 x.2, undef, undef, undef, undef, undef, undef, undef, undef, undef, undef, undef, undef, undef, undef, undef, undef, undef, undef, undef, undef, undef, undef, undef], defers := [] }) ?assign ?body ?done ?stop
  case assign =>
    intro q x W K hK
    gi_wp2
    exact hK
  case body =>
    rintro q pre x W ⟨⟨k6, g6, k3, k4, g4, kd⟩, hB⟩ hlt
    have hlt' : (pre.length : Int) < (l.length : Int) := by omega
    have hpl : (pre.length : Int) ≤ 2932031007317 := by omega
    have kdp := kd pre.length hlt
    have HKd : Hid (∀ j, j < l.length → W.cell? ⟨gd, j, none⟩ = some (.int .i64 (dep l j : Int))) := kd
    clear kd
    obtain ⟨x1, x2⟩ := x
    simp only at *
    by_cases e1 : (x1 : Int) = (pre.length : Int)
    · have q1 : ((x1 : Int) != (pre.length : Int)) = false := by simp; omega
      by_cases e2 : x2 = (dep l pre.length : Int)
      · have q2 : (x2 != (dep l pre.length : Int)) = false := by simp [e2]
        gi_wp2
        refine ⟨(KeepsOthers.setCell _ _ _).from _, (Below.refl w2.heap.size W).setCell (p := ⟨w2.heap.size, 0, none⟩) (Nat.le_refl _) _, ⟨?_, ?_, ?_, ?_, ?_, ?_⟩, hB.setCell (p := ⟨w2.heap.size, 0, none⟩) (by show w.heap.size ≤ w2.heap.size; omega) _⟩
        · rw [List.length_append]
          exact World.cell?_setCell_same' _ _ _ (by rw [k6]; rfl)
        · rw [World.frozen?_setCell]; exact g6
        · exact (World.cell?_of_block (a := ⟨w.heap.size, 0, none⟩) (Below.heap_setCell W _ _ w.heap.size (by show w.heap.size ≠ w2.heap.size; omega))).trans k3
        · exact (World.cell?_of_block (a := ⟨w.heap.size + 1, 0, none⟩) (Below.heap_setCell W _ _ (w.heap.size + 1) (by show w.heap.size + 1 ≠ w2.heap.size; omega))).trans k4
        · rw [World.frozen?_setCell]; exact g4
        · exact fun j hj => (World.cell?_of_block (a := ⟨gd, j, none⟩) (Below.heap_setCell W _ _ gd (by show gd ≠ w2.heap.size; have := hR.lt; omega))).trans (HKd.out j hj)
      · have q2 : (x2 != (dep l pre.length : Int)) = true := by simp [e2]
        gi_wp2
        exact ⟨(KeepsOthers.setCell _ _ _).from _, rfl, pre, (x1, x2), rfl, fun h => e2 h.2⟩
    · have q1 : ((x1 : Int) != (pre.length : Int)) = true := by simp; omega
      gi_wp2
      exact ⟨(KeepsOthers.setCell _ _ _).from _, rfl, pre, (x1, x2), rfl, fun h => e1 h.1⟩
  case done =>
    rintro D ys W hD rfl ⟨⟨k6, g6, k3, k4, g4, kd⟩, hB⟩ hK
    rw [upto_length] at k6
    clear kd
    gi_wp2
    have hK' := (KeepsOthers.setCell W ⟨w.heap.size + 1, 0, none⟩ (.bool true)).same D _ hK rfl
    refine ⟨by simp, .inl ⟨_, _, rfl, run_takeDeferred hK', ?_⟩⟩
    have hc5 := cell_kept (World.cell?_setCell_same' W ⟨w.heap.size + 1, 0, none⟩ (.bool true) (by rw [k4]; rfl)) (grownBy_putObj' _ D (.deferred none)) (fun r e => by cases e; exact ⟨_, hK', rfl⟩)
    refine ⟨.bool true, ?_, rfl, (hB.setCell (p := ⟨w.heap.size + 1, 0, none⟩) (by simp) _).trans (belowK_b (w := w) (Nat.le_refl _) _ D _ _ (by simp at hD; omega) hK' rfl rfl)⟩
    simp [results, Tryz.f17, go_sem, hc5]
  case stop =>
    rintro D cc pre W hD ⟨k, hk, rfl⟩ ⟨rfl, ini, last, e1, e2⟩ hK
    exfalso
    cases k with
    | zero => simp [upto] at e1
    | succ k =>
      rw [upto_succ] at e1
      obtain ⟨h1, h2⟩ := List.append_inj' e1 rfl
      have h3 : (k, (dep l k : Int)) = last := by simpa using h2
      have h4 : ini.length = k := by rw [← h1, upto_length]
      rw [← h3, h4] at e2
      exact e2 ⟨rfl, rfl⟩
end Go.Proofs.YtgiilaaoeefpmaaGreat.Gr

namespace Go.Proofs.YtgiilaaoeefpmaaGreat.Gr
open Go.RowKit Go.Proofs.YtgiilaaoeefpmaaGreat.Sp Go.Proofs.YtgiilaaoeefpmaaGreat.Lx

theorem dep_le {l : List Rz} (h : Whole l) (p : Nat) (hp : p < l.length) : dep l p ≤ p := by
  induction p using Nat.strongRecOn with
  | _ p ih =>
    by_cases h0 : p = 0
    · subst h0; exact Nat.le_refl _
    · have h1 := (up_at h (by omega) hp).2.2.1
      rw [dep_up h (by omega) hp]
      have := ih _ h1 (by omega)
      omega
structure Dep2 (w0 : World) (l : List Rz) (gd i : Nat) (wr : World) : Prop where
  u : RowI wr w0.heap.size l.length (upv l)
  d : RowI wr gd l.length (fun p => if p < i then (dep l p : Int) else 0)
  b : Below w0.heap.size w0 wr

set_option maxHeartbeats 6400000 in
set_option maxRecDepth 100000 in
theorem refDepths_any (ao : Option Addr) (l : List Rz) (cap : Nat) (w : World) (h : IsRz w ao l) (hn : l.length ≤ 2932031007317) (hT : TreeZ l) (h0 : 0 < l.length) :
    Calls Tryz.prog 18 #[.slice ao l.length cap] w fun e w' => ∃ g, e = .returned (.slice (some ⟨g, 0, none⟩) l.length l.length) ∧ w.heap.size ≤ g ∧ RowI w' g l.length (fun p => (dep l p : Int)) ∧ Below w.heap.size w w' := by
  obtain ⟨M, hmk, hM⟩ := mk_ints l.length hn
  have HM : Hid (∀ u : World, RowI (u.alloc (.cells M 3)) u.heap.size l.length (fun _ => 0)) := hM
  have HN : Hid (l.length ≤ 2932031007317) := hn
  have HT : Hid (TreeZ l) := hT
  have HP := show Hid (Calls Tryz.prog 28 #[.slice ao l.length cap] w fun e w' => e = .returned (.tuple #[.slice (some ⟨w.heap.size, 0, none⟩) l.length l.length, .slice (some ⟨w.heap.size + 1, 0, none⟩) l.length l.length]) ∧
      RowI w' w.heap.size l.length (upv l) ∧ RowI w' (w.heap.size + 1) l.length (fun p => (wh l p : Int)) ∧ Below w.heap.size w w') from parents_any ao l cap w h hn hT h0
  have hln : (l.length : Int) ≤ 2932031007317 := by omega
  clear h hn hT hM
  go_enter Tryz.func18, Tryz.ntmps18
  go_wp2_with fail
  refine HP.out.mono ?_
  rintro e w1 ⟨rfl, hU, hV, hB⟩
  have hD : Dep2 w l w1.heap.size 1 (w1.alloc (.cells M 3)) := by
    refine ⟨hU.of_block (Below.heap_alloc _ _ _ hU.lt), (HM.out w1).ext fun i _ => ?_, hB.alloc hB.size _⟩
    by_cases e : i < 1
    · obtain rfl : i = 0 := by omega
      rw [if_pos e]; rfl
    · rw [if_neg e]
  have HD : Hid (Dep2 w l w1.heap.size 1 (w1.alloc (.cells M 3))) := hD
  have HB1 : Hid (Below w.heap.size w w1 ∧ w.heap.size < w1.heap.size) := ⟨hB, hU.lt⟩
  clear hU hV hB hD
  go_wp2_with fail
  generalize w1.heap.size = gd at *
  go_loopg [6] (l.length - 1) (fun gq x wr => ∃ i : Nat, 1 ≤ i ∧ i ≤ l.length ∧ gq = l.length - i ∧ x = .int .i64 i ∧ Dep2 w l gd i wr)
  case atStart => exact ⟨1, Nat.le_refl _, h0, rfl, rfl, HD.out⟩
  case round =>
    obtain ⟨i, h1, hi, hgk, rfl, hP⟩ := hrel
    have HG : Hid (gk = l.length - i) := hgk
    have HP2 : Hid (Dep2 w l gd i wr) := hP
    clear hgk hP hmk
    by_cases hlt : i < l.length
    · have hlt' : (i : Int) < (l.length : Int) := by omega
      have hup := (up_at HT.out.whole h1 hlt).2.2.1
      have hu0 : (up l i : Int) < (l.length : Int) := by omega
      have a1 := HP2.out.u.cell hlt
      unfold upv at a1
      rw [if_neg (by omega)] at a1
      have a2 := HP2.out.d.cell (j := up l i) (by omega)
      rw [if_pos hup] at a2
      have a3 := HP2.out.d.cell hlt
      have a4 := HP2.out.d.frozen i
      generalize (if i < i then (dep l i : Int) else 0) = y at a3
      have hdl : (dep l (up l i) : Int) ≤ 2932031007317 := by have h2 := dep_le HT.out.whole (up l i) (by omega); have h3 := HN.out; omega
      have HP3 : Hid (Dep2 w l gd (i + 1) (wr.setCell ⟨gd, i, none⟩ (.int .i64 ((dep l (up l i) : Int) + 1)))) := by
        refine ⟨HP2.out.u.other (by show w.heap.size ≠ gd; have := HB1.out.2; omega) _, (HP2.out.d.set i _).ext fun q hq => ?_, HP2.out.b.setCell (p := ⟨gd, i, none⟩) (by have := HB1.out.2; show w.heap.size ≤ gd; omega) _⟩
        by_cases e : q = i
        · subst e
          rw [if_pos rfl, if_pos (by omega), dep_up HT.out.whole h1 hlt]
          omega
        · rw [if_neg e]
          by_cases e2 : q < i
          · rw [if_pos e2, if_pos (by omega)]
          · rw [if_neg e2, if_neg (by omega)]
      clear hup hlt
      go_wp2_with fail
      go_roundg (l.length - (i + 1))
      case measure => have h1 := HG.out; omega
      case rel => exact ⟨i + 1, by omega, by omega, rfl, by go_num, HP3.out⟩
    · have hlt' : ¬ ((i : Int) < (l.length : Int)) := by omega
      have hie : i = l.length := by omega
      have HF : Hid (Dep2 w l gd l.length wr) := by rw [hie] at HP2; exact HP2
      clear hie hlt
      go_wp2_with fail
      go_ret
      exact ⟨gd, rfl, by have := HB1.out.2; omega, HF.out.d.ext fun q hq => by rw [if_pos hq], HF.out.b⟩
end Go.Proofs.YtgiilaaoeefpmaaGreat.Gr
