import Derived.Test.YtjbpbgdhooggeaaJTree
import Derived.Test.YtjbpbgdhooggeaaJFill
namespace Go.Proofs.Ytjbpbgdhooggeaa.Gr
open Go.RowKit Go.Proofs.Ytjbpbgdhooggeaa.Sp Go.Proofs.Ytjbpbgdhooggeaa.Lx

/-- rows that are read -/
def IsRz (w : World) (ao : Option Addr) (l : List Rz) : Prop := ∀ (i : Nat) (x : Rz), l[i]? = some x → ∃ g o, ao = some ⟨g, o, none⟩ ∧ g < w.heap.size ∧
  w.cell? ⟨g, o + i * 5, none⟩ = some (.int .i64 x.kind) ∧ w.cell? ⟨g, o + i * 5 + 1, none⟩ = some (.string x.name) ∧ w.cell? ⟨g, o + i * 5 + 2, none⟩ = some (.int .i64 x.stop) ∧ w.cell? ⟨g, o + i * 5 + 3, none⟩ = some (.int .i64 x.n) ∧ w.cell? ⟨g, o + i * 5 + 4, none⟩ = some (.int .i64 x.kids)
theorem IsRz.below {w w' : World} {ao : Option Addr} {l : List Rz} (h : IsRz w ao l) (hb : Below w.heap.size w w') : IsRz w' ao l := by
  intro i x hx
  obtain ⟨g, o, e, hg, h1, h2, h3, h4, h5⟩ := h i x hx
  have hc : ∀ j, w'.cell? ⟨g, j, none⟩ = w.cell? ⟨g, j, none⟩ := fun j => hb.cell (p := ⟨g, j, none⟩) hg
  exact ⟨g, o, e, Nat.lt_of_lt_of_le hg hb.size, (hc _).trans h1, (hc _).trans h2, (hc _).trans h3, (hc _).trans h4, (hc _).trans h5⟩

/-- the first row that is not as it must be -/
def wrong : List Ab → Nat → List Rz → Nat × Bool
  | t, i, [] => (i, !t.isEmpty)
  | t, i, r :: l => if t.isEmpty || !(mayStand (top t).kind (top t).seen (top t).kid r.kind && filled r) then (i, true) else wrong (past t r 0) (i + 1) l
def ab1 : Ab := ⟨0, 1, 0, 0, 0⟩
end Go.Proofs.Ytjbpbgdhooggeaa.Gr

namespace Go.Proofs.Ytjbpbgdhooggeaa.Gr
open Go.RowKit Go.Proofs.Ytjbpbgdhooggeaa.Sp Go.Proofs.Ytjbpbgdhooggeaa.Lx

theorem rows_at {w : World} {ao : Option Addr} {l : List Rz} (h : IsRz w ao l) {k : Nat} (hk : k < l.length) : ∃ r g o, l.drop k = r :: l.drop (k + 1) ∧ l[k]? = some r ∧ ao = some ⟨g, o, none⟩ ∧ g < w.heap.size ∧
    w.cell? ⟨g, o + k * 5, none⟩ = some (.int .i64 r.kind) ∧ w.cell? ⟨g, o + k * 5 + 1, none⟩ = some (.string r.name) ∧ w.cell? ⟨g, o + k * 5 + 2, none⟩ = some (.int .i64 r.stop) ∧ w.cell? ⟨g, o + k * 5 + 3, none⟩ = some (.int .i64 r.n) ∧ w.cell? ⟨g, o + k * 5 + 4, none⟩ = some (.int .i64 r.kids) := by
  obtain ⟨r, h1, h2, _⟩ := drop_at hk
  obtain ⟨g, o, e, hg, c0, c1, c2, c3, c4⟩ := h k r h1
  exact ⟨r, g, o, h2, h1, e, hg, c0, c1, c2, c3, c4⟩
theorem wrong_no {t : List Ab} {i : Nat} {r : Rz} {l : List Rz} (h : (t.isEmpty || !(mayStand (top t).kind (top t).seen (top t).kid r.kind && filled r)) = true) : wrong t i (r :: l) = (i, true) := by
  rw [wrong, if_pos h]
theorem wrong_go {t : List Ab} {i : Nat} {r : Rz} {l : List Rz} (h : (t.isEmpty || !(mayStand (top t).kind (top t).seen (top t).kid r.kind && filled r)) = false) : wrong t i (r :: l) = wrong (past t r 0) (i + 1) l := by
  rw [wrong, if_neg (by rw [h]; simp)]

set_option maxHeartbeats 12800000 in
set_option maxRecDepth 100000 in
theorem firstWrong_any (ao : Option Addr) (l : List Rz) (cap : Nat) (w : World) (h : IsRz w ao l) (hn : l.length ≤ 2932031007317) :
    Calls Try.prog 32 #[.slice ao l.length cap] w fun e w' => e = .returned (.tuple #[.int .i64 ((wrong [ab1] 0 l).1 : Nat), .bool (wrong [ab1] 0 l).2]) ∧ Below w.heap.size w w' := by
  have HI : Hid (IsRz w ao l) := h
  have HN : Hid (l.length ≤ 2932031007317) := hn
  have hO : OwnT (w.alloc (.cells #[.int .i64 0, .int .i64 1, .int .i64 0, .int .i64 0, .int .i64 0] 81)) w.heap.size (.slice (some ⟨w.heap.size, 0, none⟩) 1 1) [ab1] :=
    World.ownsRow_lit w #[.int .i64 0, .int .i64 1, .int .i64 0, .int .i64 0, .int .i64 0] 1 (Nat.le_refl _) (by unfold maxLen; omega) rfl
  have HO : Hid (OwnT (w.alloc (.cells #[.int .i64 0, .int .i64 1, .int .i64 0, .int .i64 0, .int .i64 0] 81)) w.heap.size (.slice (some ⟨w.heap.size, 0, none⟩) 1 1) [ab1]) := hO
  have HB0 : Hid (Below w.heap.size w (w.alloc (.cells #[.int .i64 0, .int .i64 1, .int .i64 0, .int .i64 0, .int .i64 0] 81))) := (Below.refl _ w).alloc (Nat.le_refl _) _
  have hln : (l.length : Int) ≤ 2932031007317 := by omega
  clear h hn hO
  go_enter Try.func32, Try.ntmps32
  go_wp2_with fail
  go_loopg [4, 11] l.length (fun gq x i wr => ∃ (k : Nat) (v : Value) (t : List Ab), v = x ∧ i = .int .i64 k ∧ gq = l.length - k ∧ k ≤ l.length ∧ OwnT wr w.heap.size v t ∧ Below w.heap.size w wr ∧ t.length ≤ k + 1 ∧ SeenLe k t ∧ wrong t k (l.drop k) = wrong [ab1] 0 l)
  case atStart => exact ⟨0, _, [ab1], rfl, rfl, rfl, Nat.zero_le _, HO.out, HB0.out, Nat.le_refl _, fun a ha => by simp only [List.mem_singleton] at ha; subst ha; exact Nat.le_refl _, rfl⟩
  case round =>
    obtain ⟨k, v, t, rfl, rfl, hgk, hk, hOw, hBr, htl, hsn, hwr⟩ := hrel
    have HG : Hid (gk = l.length - k) := hgk
    have HOr : Hid (OwnT wr w.heap.size v t) := hOw
    have HBr : Hid (Below w.heap.size w wr) := hBr
    have HTL : Hid (t.length ≤ k + 1 ∧ SeenLe k t ∧ k ≤ l.length ∧ l.length ≤ 2932031007317) := ⟨htl, hsn, hk, HN.out⟩
    have HWr : Hid (wrong t k (l.drop k) = wrong [ab1] 0 l) := hwr
    clear hgk hOw hBr htl hsn hwr
    by_cases hlt : k < l.length
    · have hlt' : (k : Int) < (l.length : Int) := by omega
      obtain ⟨r, g, o, hdr, hlk, rfl, hg, c0, c1, c2, c3, c4⟩ := rows_at (HI.out.below HBr.out) hlt
      have HDr : Hid (l.drop k = r :: l.drop (k + 1)) := hdr
      have HB1 : Hid (Below wr.heap.size wr (wr.alloc (.cells #[.int .i64 r.kind, .string r.name, .int .i64 r.stop, .int .i64 r.n, .int .i64 r.kids] 40))) := (Below.refl _ wr).alloc (Nat.le_refl _) _
      have hne : Nonempty (Kin (wr.alloc (.cells #[.int .i64 r.kind, .string r.name, .int .i64 r.stop, .int .i64 r.n, .int .i64 r.kids] 40))) := Kin.there _
      have hc : ∀ j u, ([.int .i64 r.kind, .string r.name, .int .i64 r.stop, .int .i64 r.n, .int .i64 r.kids] : List Value)[j]? = some u → ∀ y : Kin (wr.alloc (.cells #[.int .i64 r.kind, .string r.name, .int .i64 r.stop, .int .i64 r.n, .int .i64 r.kids] 40)), y.u.cell? ⟨wr.heap.size, j, none⟩ = some u := fun j u hu y =>
        y.cell (a := ⟨wr.heap.size, j, none⟩) (by simp) (by rw [World.cell?, heap_alloc_new]; simpa using hu)
      have y0 := hc 0 _ rfl
      have y1 := hc 1 _ rfl
      have y2 := hc 2 _ rfl
      have y3 := hc 3 _ rfl
      have y4 := hc 4 _ rfl
      have H3 : Hid (∀ w, Calls Try.prog 49 #[.agg #[.int .i64 r.kind, .string r.name, .int .i64 r.stop, .int .i64 r.n, .int .i64 r.kids]] w fun e w' => e = .returned (.bool (filled r)) ∧ Below w.heap.size w w') := fun w => filled_any r w
      have HPst : Hid (∀ W, Below wr.heap.size wr W → Calls Try.prog 50 #[v, .agg #[.int .i64 r.kind, .string r.name, .int .i64 r.stop, .int .i64 r.n, .int .i64 r.kids], .int .i64 0] W fun e w' => ∃ v', e = .returned v' ∧ OwnT w' w.heap.size v' (past t r 0) ∧ Went W v w' v') := fun W hW =>
        past_any t r 0 w.heap.size v W (own_below HOr.out hW) (Nat.le_trans HBr.out.size hW.size) (fun a ha => by have h1 := HTL.out.2.1 a ha; have h2 := HTL.out.2.2; omega) (by have h1 := HTL.out; omega)
      have HV : Hid (∀ j, v.ownBlock = some j → w.heap.size ≤ j) := fun j hj => (World.ownsRow.lt HOr.out j hj).1
      clear hc hdr hlk hlt
      cases t with
      | nil =>
        obtain ⟨bo, bc, rfl⟩ := own_form HOr.out
        simp only [List.length_nil] at *
        have H1 : Hid (∀ y : Kin (wr.alloc (.cells #[.int .i64 r.kind, .string r.name, .int .i64 r.stop, .int .i64 r.n, .int .i64 r.kids] 40)), Calls Try.prog 48 #[.slice bo 0 bc] y.u fun e w' => e = .returned (agb ab0) ∧ Below y.u.heap.size y.u w') := fun y => last_any [] w.heap.size _ y.u (own_below HOr.out (HB1.out.trans (y.ok.mono HB1.out.size))) (by simp)
        have H2 : Hid (∀ w, Calls Try.prog 47 #[agb ab0, .int .i64 r.kind] w fun e w' => e = .returned (.bool (mayStand 0 0 0 r.kind)) ∧ Below w.heap.size w w') := fun w => mayStand_any ab0 r.kind w
        go_wp2_with fail
        refine wp_region_kin (by kernel_rfl) (by kernel_rfl) ?_
        iterate 6 quiet_step (exact kin_of (H1.out _))
        iterate 3 quiet_step (exact kin_of (H2.out _))
        iterate 5 quiet_step (exact kin_of (H3.out _))
        iterate 2 quiet_step (fail)
        refine wpQuiet_nil ?_
        rintro _ ⟨z, rfl⟩
        have HZ : Hid (Below wr.heap.size wr z.u) := HB1.out.trans (z.ok.mono HB1.out.size)
        have z0 := y0 z
        have z1 := y1 z
        have z2 := y2 z
        have z3 := y3 z
        have z4 := y4 z
        clear y0 y1 y2 y3 y4
        generalize z.u = wz at *
        go_wp2_with fail
        go_ret2
        refine ⟨?_, HBr.out.trans (HZ.out.mono HBr.out.size)⟩
        rw [← HWr.out, HDr.out]
        rw [wrong_no rfl]
        rfl
      | cons a t =>
        obtain ⟨ga, capa, rfl, _, _, _, _⟩ := own_top HOr.out
        have htl : (t.length : Int) ≤ 2932031007317 := by have := HTL.out; simp only [List.length_cons] at this; omega
        have H1 : Hid (∀ y : Kin (wr.alloc (.cells #[.int .i64 r.kind, .string r.name, .int .i64 r.stop, .int .i64 r.n, .int .i64 r.kids] 40)), Calls Try.prog 48 #[.slice (some ⟨ga, 0, none⟩) (t.length + 1) capa] y.u fun e w' => e = .returned (.agg #[.int .i64 a.kind, .int .i64 a.kids, .int .i64 a.seen, .int .i64 a.kid, .int .i64 a.levels]) ∧ Below y.u.heap.size y.u w') := fun y => last_any (a :: t) w.heap.size _ y.u (own_below HOr.out (HB1.out.trans (y.ok.mono HB1.out.size))) (by simp only [List.length_cons]; omega)
        have H2 : Hid (∀ w, Calls Try.prog 47 #[.agg #[.int .i64 a.kind, .int .i64 a.kids, .int .i64 a.seen, .int .i64 a.kid, .int .i64 a.levels], .int .i64 r.kind] w fun e w' => e = .returned (.bool (mayStand a.kind a.seen a.kid r.kind)) ∧ Below w.heap.size w w') := fun w => mayStand_any a r.kind w
        have HQ : Hid ((a :: t).isEmpty = false ∧ top (a :: t) = a) := ⟨rfl, rfl⟩
        cases hb1 : mayStand a.kind a.seen a.kid r.kind
        · have HX : Hid (((a :: t).isEmpty || !(mayStand (top (a :: t)).kind (top (a :: t)).seen (top (a :: t)).kid r.kind && filled r)) = true) := by show _ = _; rw [HQ.out.1, HQ.out.2, hb1]; rfl
          rw [hb1] at H2
          clear hb1
          go_wp2_with fail
          refine wp_region_kin (by kernel_rfl) (by kernel_rfl) ?_
          iterate 6 quiet_step (exact kin_of (H1.out _))
          iterate 3 quiet_step (exact kin_of (H2.out _))
          iterate 5 quiet_step (exact kin_of (H3.out _))
          iterate 2 quiet_step (fail)
          refine wpQuiet_nil ?_
          rintro _ ⟨z, rfl⟩
          have HZ : Hid (Below wr.heap.size wr z.u) := HB1.out.trans (z.ok.mono HB1.out.size)
          have z0 := y0 z
          have z1 := y1 z
          have z2 := y2 z
          have z3 := y3 z
          have z4 := y4 z
          clear y0 y1 y2 y3 y4
          generalize z.u = wz at *
          go_wp2_with fail
          go_ret2
          refine ⟨?_, HBr.out.trans (HZ.out.mono HBr.out.size)⟩
          rw [← HWr.out, HDr.out]
          rw [wrong_no HX.out]
          rfl
        · cases hb2 : filled r
          · have HX : Hid (((a :: t).isEmpty || !(mayStand (top (a :: t)).kind (top (a :: t)).seen (top (a :: t)).kid r.kind && filled r)) = true) := by show _ = _; rw [HQ.out.1, HQ.out.2, hb1, hb2]; rfl
            rw [hb1] at H2
            rw [hb2] at H3
            clear hb1 hb2
            go_wp2_with fail
            refine wp_region_kin (by kernel_rfl) (by kernel_rfl) ?_
            iterate 6 quiet_step (exact kin_of (H1.out _))
            iterate 3 quiet_step (exact kin_of (H2.out _))
            iterate 5 quiet_step (exact kin_of (H3.out _))
            iterate 2 quiet_step (fail)
            refine wpQuiet_nil ?_
            rintro _ ⟨z, rfl⟩
            have HZ : Hid (Below wr.heap.size wr z.u) := HB1.out.trans (z.ok.mono HB1.out.size)
            have z0 := y0 z
            have z1 := y1 z
            have z2 := y2 z
            have z3 := y3 z
            have z4 := y4 z
            clear y0 y1 y2 y3 y4
            generalize z.u = wz at *
            go_wp2_with fail
            go_ret2
            refine ⟨?_, HBr.out.trans (HZ.out.mono HBr.out.size)⟩
            rw [← HWr.out, HDr.out]
            rw [wrong_no HX.out]
            rfl
          · have HX : Hid (((a :: t).isEmpty || !(mayStand (top (a :: t)).kind (top (a :: t)).seen (top (a :: t)).kid r.kind && filled r)) = false) := by show _ = _; rw [HQ.out.1, HQ.out.2, hb1, hb2]; rfl
            rw [hb1] at H2
            rw [hb2] at H3
            clear hb1 hb2
            go_wp2_with fail
            refine wp_region_kin (by kernel_rfl) (by kernel_rfl) ?_
            iterate 6 quiet_step (exact kin_of (H1.out _))
            iterate 3 quiet_step (exact kin_of (H2.out _))
            iterate 5 quiet_step (exact kin_of (H3.out _))
            iterate 2 quiet_step (fail)
            refine wpQuiet_nil ?_
            rintro _ ⟨z, rfl⟩
            have HZ : Hid (Below wr.heap.size wr z.u) := HB1.out.trans (z.ok.mono HB1.out.size)
            have z0 := y0 z
            have z1 := y1 z
            have z2 := y2 z
            have z3 := y3 z
            have z4 := y4 z
            clear y0 y1 y2 y3 y4
            generalize z.u = wz at *
            go_wp2_with fail
            refine (HPst.out wz HZ.out).mono ?_
            rintro e w8 ⟨v8, rfl, hO8, hW8⟩
            have HO8 : Hid (OwnT w8 w.heap.size v8 (past (a :: t) r 0)) := hO8
            have HB8 : Hid (Below w.heap.size w w8) := (HBr.out.trans (HZ.out.mono HBr.out.size)).trans (hW8.low HV.out (Nat.le_trans HBr.out.size HZ.out.size))
            obtain ⟨bo8, bc8, rfl⟩ := own_form hO8
            clear hO8 hW8
            go_wp2_with fail
            go_roundg (l.length - (k + 1))
            case measure => have := HG.out; omega
            case rel =>
              refine ⟨k + 1, _, past (a :: t) r 0, rfl, by go_num, rfl, by omega, HO8.out, HB8.out, ?_, seen_past HTL.out.2.1 r 0, ?_⟩
              · have h1 := past_len (a :: t) r 0
                have h2 := HTL.out.1
                omega
              · rw [← HWr.out, HDr.out, wrong_go HX.out]
    · have hlt' : ¬ ((k : Int) < (l.length : Int)) := by omega
      have hke : k = l.length := by have := HTL.out; omega
      obtain ⟨bo, bc, rfl⟩ := own_form HOr.out
      have htl : (t.length : Int) ≤ 2932031007318 := by have := HTL.out; omega
      have HE : Hid (wrong [ab1] 0 l = (l.length, decide (0 < t.length))) := by
        show _ = _
        rw [← HWr.out, List.drop_eq_nil_of_le (by omega), wrong, hke]
        cases t <;> simp
      clear hlt hke
      go_wp2_with fail
      go_ret2
      refine ⟨?_, HBr.out⟩
      rw [HE.out]
      rfl
end Go.Proofs.Ytjbpbgdhooggeaa.Gr

namespace Go.Proofs.Ytjbpbgdhooggeaa.Gr
open Go.RowKit Go.Proofs.Ytjbpbgdhooggeaa.Sp Go.Proofs.Ytjbpbgdhooggeaa.Lx

/-- bounds of a trail behind k rows -/
def LvLe (n : Nat) (t : List Ab) : Prop := ∀ a ∈ t, 0 ≤ a.levels ∧ a.levels ≤ n
theorem lv_pop {n : Nat} {t : List Ab} (h : LvLe n t) : LvLe n (pop t) := by
  induction t with
  | nil => exact h
  | cons a t ih =>
    simp only [pop]
    split
    · exact ih fun b hb => h b (List.mem_cons_of_mem _ hb)
    · exact h
theorem lv_past {n : Nat} {t : List Ab} (h : LvLe n t) (r : Rz) (v : Int) (h0 : 0 ≤ v) (h1 : v ≤ n + 2) : LvLe (n + 2) (past t r v) := by
  refine lv_pop fun a ha => ?_
  rcases List.mem_cons.1 ha with rfl | ha
  · exact ⟨h0, h1⟩
  · cases t with
    | nil => cases ha
    | cons b t =>
      rcases List.mem_cons.1 ha with rfl | ha
      · have := h b (List.mem_cons_self ..); exact ⟨this.1, by show b.levels ≤ _; omega⟩
      · have := h a (List.mem_cons_of_mem _ ha); omega
theorem opn_two (k : Int) : 0 ≤ opn k ∧ opn k ≤ 1 := by unfold opn; split <;> simp
def Fits (l : List Rz) (k : Nat) : Prop := (ast opn loose l k).length ≤ k ∧ SeenLe k (ast opn loose l k) ∧ LvLe (2 * k) (ast opn loose l k) ∧ 0 ≤ mx opn loose l k ∧ mx opn loose l k ≤ 2 * k
theorem top_lv {n : Nat} {t : List Ab} (h : LvLe n t) : 0 ≤ (top t).levels ∧ (top t).levels ≤ n := by
  cases t with
  | nil => exact ⟨Int.le_refl _, by show (0 : Int) ≤ _; omega⟩
  | cons a t => exact h a (List.mem_cons_self ..)
theorem lev_le {l : List Rz} {k : Nat} (h : Fits l k) : 0 ≤ lev opn loose l k ∧ lev opn loose l k ≤ 2 * k + 2 := by
  have h1 := top_lv h.2.2.1
  have h2 := opn_two (rat l k).kind
  show 0 ≤ (top (ast opn loose l k)).levels + opn (rat l k).kind + _ ∧ (top (ast opn loose l k)).levels + opn (rat l k).kind + _ ≤ _
  split <;> omega
theorem fits_zero (l : List Rz) : Fits l 0 := ⟨Nat.le_refl _, fun _ h => (by cases h), fun _ h => (by cases h), Int.le_refl _, (by show (0 : Int) ≤ _; omega)⟩
theorem fits_succ (l : List Rz) {k : Nat} (h : Fits l k) : Fits l (k + 1) := by
  have h1 := lev_le h
  obtain ⟨a1, a2, a3, a4, a5⟩ := h
  refine ⟨?_, seen_past a2 _ _, ?_, ?_⟩
  · have := past_len (ast opn loose l k) (rat l k) (lvl opn loose (ast opn loose l k) (rat l k))
    show (past _ _ _).length ≤ _
    omega
  · have := lv_past a3 (rat l k) (lev opn loose l k) h1.1 (by omega)
    rw [show 2 * (k + 1) = 2 * k + 2 by omega]
    exact this
  · show 0 ≤ (if mx opn loose l k < lev opn loose l k then lev opn loose l k else mx opn loose l k) ∧ (if mx opn loose l k < lev opn loose l k then lev opn loose l k else mx opn loose l k) ≤ _
    split <;> omega
theorem mx_succ (l : List Rz) (k : Nat) : mx opn loose l (k + 1) = if mx opn loose l k < lev opn loose l k then lev opn loose l k else mx opn loose l k := rfl
theorem ast_succ (l : List Rz) (k : Nat) : ast opn loose l (k + 1) = past (ast opn loose l k) (rat l k) (lev opn loose l k) := rfl
theorem lev_max (a b : Int) : Value.int .i64 (max a b) = Value.int .i64 (if a < b then b else a) := by
  congr 1
  split <;> omega

end Go.Proofs.Ytjbpbgdhooggeaa.Gr

namespace Go.Proofs.Ytjbpbgdhooggeaa.Gr
open Go.RowKit Go.Proofs.Ytjbpbgdhooggeaa.Sp Go.Proofs.Ytjbpbgdhooggeaa.Lx

set_option maxHeartbeats 12800000 in
set_option maxRecDepth 100000 in
theorem levels_any (ao : Option Addr) (l : List Rz) (cap : Nat) (w : World) (h : IsRz w ao l) (hn : l.length ≤ 2932031007317) :
    Calls Try.prog 33 #[.slice ao l.length cap] w fun e w' => e = .returned (.int .i64 (mx opn loose l l.length)) ∧ Below w.heap.size w w' := by
  have HI : Hid (IsRz w ao l) := h
  have HN : Hid (l.length ≤ 2932031007317) := hn
  have hln : (l.length : Int) ≤ 2932031007317 := by omega
  clear h hn
  go_enter Try.func33, Try.ntmps33
  go_wp2_with fail
  go_loopg [3, 4, 11] l.length (fun gq mo x i wr => ∃ (k : Nat) (v : Value), v = x ∧ mo = .int .i64 (mx opn loose l k) ∧ i = .int .i64 k ∧ gq = l.length - k ∧ k ≤ l.length ∧ OwnT wr w.heap.size v (ast opn loose l k) ∧ Below w.heap.size w wr ∧ Fits l k)
  case atStart => exact ⟨0, _, rfl, rfl, rfl, rfl, Nat.zero_le _, World.ownsRow_nil _ _ _ _, Below.refl _ _, fits_zero l⟩
  case round =>
    obtain ⟨k, v, rfl, rfl, rfl, hgk, hk, hOw, hBr, hft⟩ := hrel
    have HG : Hid (gk = l.length - k) := hgk
    have HOr : Hid (OwnT wr w.heap.size v (ast opn loose l k)) := hOw
    have HBr : Hid (Below w.heap.size w wr) := hBr
    have HFt : Hid (Fits l k) := hft
    clear hgk hOw hBr hft
    by_cases hlt : k < l.length
    · have hlt' : (k : Int) < (l.length : Int) := by omega
      obtain ⟨r, g, o, hdr, hlk, rfl, hg, c0, c1, c2, c3, c4⟩ := rows_at (HI.out.below HBr.out) hlt
      have HRt : Hid (rat l k = r) := rat_some hlk
      have HB1 : Hid (Below wr.heap.size wr (wr.alloc (.cells #[.int .i64 r.kind, .string r.name, .int .i64 r.stop, .int .i64 r.n, .int .i64 r.kids] 40))) := (Below.refl _ wr).alloc (Nat.le_refl _) _
      have HPst : Hid (∀ (lv : Int) (W : World), Below wr.heap.size wr W → Calls Try.prog 50 #[v, .agg #[.int .i64 r.kind, .string r.name, .int .i64 r.stop, .int .i64 r.n, .int .i64 r.kids], .int .i64 lv] W fun e w' => ∃ v', e = .returned v' ∧ OwnT w' w.heap.size v' (past (ast opn loose l k) r lv) ∧ Went W v w' v') := fun lv W hW =>
        past_any (ast opn loose l k) r lv w.heap.size v W (own_below HOr.out hW) (Nat.le_trans HBr.out.size hW.size) (fun a ha => by have h1 := HFt.out.2.1 a ha; have h2 := HN.out; omega) (by have h1 := HFt.out.1; have h2 := HN.out; omega)
      have HV : Hid (∀ j, v.ownBlock = some j → w.heap.size ≤ j) := fun j hj => (World.ownsRow.lt HOr.out j hj).1
      obtain ⟨a, hta⟩ : ∃ a, top (ast opn loose l k) = a := ⟨_, rfl⟩
      have HTp : Hid (top (ast opn loose l k) = a) := hta
      have hal := top_lv HFt.out.2.2.1
      rw [hta] at hal
      have hop := opn_two r.kind
      have hb1 : 0 ≤ a.levels + opn r.kind ∧ a.levels + opn r.kind ≤ 5864062014640 := by have := HN.out; omega
      have HLs : Hid (∀ W, Below wr.heap.size wr W → Calls Try.prog 48 #[v] W fun e w' => e = .returned (.agg #[.int .i64 a.kind, .int .i64 a.kids, .int .i64 a.seen, .int .i64 a.kid, .int .i64 a.levels]) ∧ Below W.heap.size W w') := fun W hW => by
        have := last_any (ast opn loose l k) w.heap.size v W (own_below HOr.out hW) (by have h1 := HFt.out.1; have h2 := HN.out; omega)
        rw [hta] at this
        exact this
      have hb2 : a.levels + opn r.kind + 1 ≤ 5864062014641 := by omega
      clear hta hdr hlk hlt hop hal
      obtain ⟨bo, bc, rfl⟩ := own_form HOr.out
      go_wp2_with fail
      cases hlz : loose a.kind a.seen r.kind
      · skip
        have HLz : Hid (∀ w, Calls Try.prog 52 #[.int .i64 a.kind, .int .i64 a.seen, .int .i64 r.kind] w fun e w' => e = .returned (.bool false) ∧ w' = w) := fun w => by
          have := loose_any a.kind a.seen r.kind w
          rw [hlz] at this
          exact this
        have HE : Hid (lev opn loose l k = (a.levels + opn r.kind)) := by
          show lvl opn loose (ast opn loose l k) (rat l k) = _
          rw [HRt.out]
          show (top (ast opn loose l k)).levels + opn r.kind + (if loose (top (ast opn loose l k)).kind (top (ast opn loose l k)).seen r.kind then 1 else 0) = _
          rw [HTp.out, hlz]
          simp
        clear hlz
        refine (HLs.out _ HB1.out).mono ?_
        rintro e w2 ⟨rfl, hB2⟩
        have hB3 : Below wr.heap.size wr w2 := HB1.out.trans (hB2.mono HB1.out.size)
        have hz2 : wr.heap.size + 1 ≤ w2.heap.size := by have := hB2.size; simpa using this
        have HB4 : Hid (Below wr.heap.size wr (w2.alloc (.cells #[.int .i64 a.kind, .int .i64 a.kids, .int .i64 a.seen, .int .i64 a.kid, .int .i64 a.levels] 81))) := hB3.alloc hB3.size _
        have hne : Nonempty (Kin (w2.alloc (.cells #[.int .i64 a.kind, .int .i64 a.kids, .int .i64 a.seen, .int .i64 a.kid, .int .i64 a.levels] 81))) := Kin.there _
        have hcr : ∀ j u, ([.int .i64 r.kind, .string r.name, .int .i64 r.stop, .int .i64 r.n, .int .i64 r.kids] : List Value)[j]? = some u → ∀ y : Kin (w2.alloc (.cells #[.int .i64 a.kind, .int .i64 a.kids, .int .i64 a.seen, .int .i64 a.kid, .int .i64 a.levels] 81)), y.u.cell? ⟨wr.heap.size, j, none⟩ = some u := fun j u hu y =>
          y.cell (a := ⟨wr.heap.size, j, none⟩) (by simp; omega) ((World.cell?_of_block (a := ⟨wr.heap.size, j, none⟩) (Below.heap_alloc _ _ _ (by show wr.heap.size < _; omega))).trans ((hB2.cell (p := ⟨wr.heap.size, j, none⟩) (by simp)).trans (by rw [World.cell?, heap_alloc_new]; simpa using hu)))
        have hca : ∀ j u, ([.int .i64 a.kind, .int .i64 a.kids, .int .i64 a.seen, .int .i64 a.kid, .int .i64 a.levels] : List Value)[j]? = some u → ∀ y : Kin (w2.alloc (.cells #[.int .i64 a.kind, .int .i64 a.kids, .int .i64 a.seen, .int .i64 a.kid, .int .i64 a.levels] 81)), y.u.cell? ⟨w2.heap.size, j, none⟩ = some u := fun j u hu y =>
          y.cell (a := ⟨w2.heap.size, j, none⟩) (by simp) (by rw [World.cell?, heap_alloc_new]; simpa using hu)
        have y0 := hcr 0 _ rfl
        have y1 := hcr 1 _ rfl
        have y2 := hcr 2 _ rfl
        have y3 := hcr 3 _ rfl
        have y4 := hcr 4 _ rfl
        have x0 := hca 0 _ rfl
        have x2 := hca 2 _ rfl
        have x4 := hca 4 _ rfl
        have HOP : Hid (∀ w, Calls Try.prog 51 #[.int .i64 r.kind] w fun e w' => e = .returned (.int .i64 (opn r.kind)) ∧ w' = w) := fun w => opn_any r.kind w
        clear hcr hca hB2 hB3
        go_wp2_with fail
        refine wp_region_kin (by kernel_rfl) (by kernel_rfl) ?_
        iterate 5 quiet_step (exact kin_same (HOP.out _))
        iterate 2 quiet_step (fail)
        refine wpQuiet_nil ?_
        rintro _ ⟨z, rfl⟩
        have HZ : Hid (Below wr.heap.size wr z.u) := HB4.out.trans (z.ok.mono HB4.out.size)
        have z0 := y0 z
        have z1 := y1 z
        have z2 := y2 z
        have z3 := y3 z
        have z4 := y4 z
        have t0 := x0 z
        have t2 := x2 z
        clear y0 y1 y2 y3 y4 x0 x2 x4 hne
        generalize z.u = wz at *
        go_wp2_with fail
        refine (HLz.out wz).mono ?_
        intro e w' hh
        obtain ⟨rfl, hw⟩ := hh
        rw [hw]
        clear hw w'
        go_wp2_with fail
        refine (HPst.out (a.levels + opn r.kind) wz HZ.out).mono ?_
        rintro e w8 ⟨v8, rfl, hO8, hW8⟩
        have HO8 : Hid (OwnT w8 w.heap.size v8 (past (ast opn loose l k) r (a.levels + opn r.kind))) := hO8
        have HB8 : Hid (Below w.heap.size w w8) := (HBr.out.trans (HZ.out.mono HBr.out.size)).trans (hW8.low HV.out (Nat.le_trans HBr.out.size HZ.out.size))
        obtain ⟨bo8, bc8, rfl⟩ := own_form hO8
        clear hO8 hW8
        go_wp2_with fail
        go_roundg (l.length - (k + 1))
        case measure => have := HG.out; omega
        case rel =>
          have q1 : Value.int .i64 (max (mx opn loose l k) (a.levels + opn r.kind)) = Value.int .i64 (mx opn loose l (k + 1)) := by rw [mx_succ, HE.out]; exact lev_max _ _
          have q2 : OwnT w8 w.heap.size (.slice bo8 (past (ast opn loose l k) r (a.levels + opn r.kind)).length bc8) (ast opn loose l (k + 1)) := by rw [ast_succ, HE.out, HRt.out]; exact HO8.out
          have q3 : Fits l (k + 1) := fits_succ l HFt.out
          exact ⟨k + 1, _, rfl, q1, by go_num, rfl, by omega, q2, HB8.out, q3⟩
      · skip
        have HLz : Hid (∀ w, Calls Try.prog 52 #[.int .i64 a.kind, .int .i64 a.seen, .int .i64 r.kind] w fun e w' => e = .returned (.bool true) ∧ w' = w) := fun w => by
          have := loose_any a.kind a.seen r.kind w
          rw [hlz] at this
          exact this
        have HE : Hid (lev opn loose l k = (a.levels + opn r.kind + 1)) := by
          show lvl opn loose (ast opn loose l k) (rat l k) = _
          rw [HRt.out]
          show (top (ast opn loose l k)).levels + opn r.kind + (if loose (top (ast opn loose l k)).kind (top (ast opn loose l k)).seen r.kind then 1 else 0) = _
          rw [HTp.out, hlz]
          simp
        clear hlz
        refine (HLs.out _ HB1.out).mono ?_
        rintro e w2 ⟨rfl, hB2⟩
        have hB3 : Below wr.heap.size wr w2 := HB1.out.trans (hB2.mono HB1.out.size)
        have hz2 : wr.heap.size + 1 ≤ w2.heap.size := by have := hB2.size; simpa using this
        have HB4 : Hid (Below wr.heap.size wr (w2.alloc (.cells #[.int .i64 a.kind, .int .i64 a.kids, .int .i64 a.seen, .int .i64 a.kid, .int .i64 a.levels] 81))) := hB3.alloc hB3.size _
        have hne : Nonempty (Kin (w2.alloc (.cells #[.int .i64 a.kind, .int .i64 a.kids, .int .i64 a.seen, .int .i64 a.kid, .int .i64 a.levels] 81))) := Kin.there _
        have hcr : ∀ j u, ([.int .i64 r.kind, .string r.name, .int .i64 r.stop, .int .i64 r.n, .int .i64 r.kids] : List Value)[j]? = some u → ∀ y : Kin (w2.alloc (.cells #[.int .i64 a.kind, .int .i64 a.kids, .int .i64 a.seen, .int .i64 a.kid, .int .i64 a.levels] 81)), y.u.cell? ⟨wr.heap.size, j, none⟩ = some u := fun j u hu y =>
          y.cell (a := ⟨wr.heap.size, j, none⟩) (by simp; omega) ((World.cell?_of_block (a := ⟨wr.heap.size, j, none⟩) (Below.heap_alloc _ _ _ (by show wr.heap.size < _; omega))).trans ((hB2.cell (p := ⟨wr.heap.size, j, none⟩) (by simp)).trans (by rw [World.cell?, heap_alloc_new]; simpa using hu)))
        have hca : ∀ j u, ([.int .i64 a.kind, .int .i64 a.kids, .int .i64 a.seen, .int .i64 a.kid, .int .i64 a.levels] : List Value)[j]? = some u → ∀ y : Kin (w2.alloc (.cells #[.int .i64 a.kind, .int .i64 a.kids, .int .i64 a.seen, .int .i64 a.kid, .int .i64 a.levels] 81)), y.u.cell? ⟨w2.heap.size, j, none⟩ = some u := fun j u hu y =>
          y.cell (a := ⟨w2.heap.size, j, none⟩) (by simp) (by rw [World.cell?, heap_alloc_new]; simpa using hu)
        have y0 := hcr 0 _ rfl
        have y1 := hcr 1 _ rfl
        have y2 := hcr 2 _ rfl
        have y3 := hcr 3 _ rfl
        have y4 := hcr 4 _ rfl
        have x0 := hca 0 _ rfl
        have x2 := hca 2 _ rfl
        have x4 := hca 4 _ rfl
        have HOP : Hid (∀ w, Calls Try.prog 51 #[.int .i64 r.kind] w fun e w' => e = .returned (.int .i64 (opn r.kind)) ∧ w' = w) := fun w => opn_any r.kind w
        clear hcr hca hB2 hB3
        go_wp2_with fail
        refine wp_region_kin (by kernel_rfl) (by kernel_rfl) ?_
        iterate 5 quiet_step (exact kin_same (HOP.out _))
        iterate 2 quiet_step (fail)
        refine wpQuiet_nil ?_
        rintro _ ⟨z, rfl⟩
        have HZ : Hid (Below wr.heap.size wr z.u) := HB4.out.trans (z.ok.mono HB4.out.size)
        have z0 := y0 z
        have z1 := y1 z
        have z2 := y2 z
        have z3 := y3 z
        have z4 := y4 z
        have t0 := x0 z
        have t2 := x2 z
        clear y0 y1 y2 y3 y4 x0 x2 x4 hne
        generalize z.u = wz at *
        go_wp2_with fail
        refine (HLz.out wz).mono ?_
        intro e w' hh
        obtain ⟨rfl, hw⟩ := hh
        rw [hw]
        clear hw w'
        go_wp2_with fail
        refine (HPst.out (a.levels + opn r.kind + 1) wz HZ.out).mono ?_
        rintro e w8 ⟨v8, rfl, hO8, hW8⟩
        have HO8 : Hid (OwnT w8 w.heap.size v8 (past (ast opn loose l k) r (a.levels + opn r.kind + 1))) := hO8
        have HB8 : Hid (Below w.heap.size w w8) := (HBr.out.trans (HZ.out.mono HBr.out.size)).trans (hW8.low HV.out (Nat.le_trans HBr.out.size HZ.out.size))
        obtain ⟨bo8, bc8, rfl⟩ := own_form hO8
        clear hO8 hW8
        go_wp2_with fail
        go_roundg (l.length - (k + 1))
        case measure => have := HG.out; omega
        case rel =>
          have q1 : Value.int .i64 (max (mx opn loose l k) (a.levels + opn r.kind + 1)) = Value.int .i64 (mx opn loose l (k + 1)) := by rw [mx_succ, HE.out]; exact lev_max _ _
          have q2 : OwnT w8 w.heap.size (.slice bo8 (past (ast opn loose l k) r (a.levels + opn r.kind + 1)).length bc8) (ast opn loose l (k + 1)) := by rw [ast_succ, HE.out, HRt.out]; exact HO8.out
          have q3 : Fits l (k + 1) := fits_succ l HFt.out
          exact ⟨k + 1, _, rfl, q1, by go_num, rfl, by omega, q2, HB8.out, q3⟩
    · have hlt' : ¬ ((k : Int) < (l.length : Int)) := by omega
      have hke : k = l.length := by omega
      subst hke
      go_wp2_with fail
      go_ret
      exact ⟨rfl, HBr.out⟩
end Go.Proofs.Ytjbpbgdhooggeaa.Gr

namespace Go.Proofs.Ytjbpbgdhooggeaa.Gr
open Go.RowKit Go.Proofs.Ytjbpbgdhooggeaa.Sp Go.Proofs.Ytjbpbgdhooggeaa.Lx

/-- what Check tells -/
def chk (l : List Rz) : Nat × Nat := if (wrong [ab1] 0 l).2 then (23, (wrong [ab1] 0 l).1) else if 64 < mx opn loose l l.length then (22, 0) else (0, 0)
theorem two_cells {u : World} {B : Nat} {T : TypeId} {x y : Value} (a b : Value) (h : u.heap[B]? = some (.cells #[x, y] T (0, 0))) : ((u.setCell ⟨B, 0, none⟩ a).setCell ⟨B, 1, none⟩ b).cell? ⟨B, 0, none⟩ = some a ∧ ((u.setCell ⟨B, 0, none⟩ a).setCell ⟨B, 1, none⟩ b).cell? ⟨B, 1, none⟩ = some b := by
  have h1 := heap_setCell_same u B 0 #[x, y] T a h
  have h2 := heap_setCell_same _ B 1 _ T b h1
  constructor
  · rw [World.cell?, h2]; rfl
  · rw [World.cell?, h2]; rfl

set_option maxHeartbeats 3200000 in
set_option maxRecDepth 100000 in
theorem check_any (ao : Option Addr) (l : List Rz) (cap : Nat) (w : World) (h : IsRz w ao l) (hn : l.length ≤ 2932031007317) :
    Calls Try.prog 13 #[.slice ao l.length cap] w fun e w' => e = .returned (.agg #[.int .i64 ((chk l).1 : Nat), .int .i64 ((chk l).2 : Nat)]) ∧ Below w.heap.size w w' := by
  have hb1 : Below w.heap.size w (w.alloc (.cells #[.int .i64 0, .int .i64 0] 32)) := (Below.refl _ w).alloc (Nat.le_refl _) _
  have HF := show Hid (Calls Try.prog 32 #[.slice ao l.length cap] (w.alloc (.cells #[.int .i64 0, .int .i64 0] 32)) fun e w' => e = .returned (.tuple #[.int .i64 ((wrong [ab1] 0 l).1 : Nat), .bool (wrong [ab1] 0 l).2]) ∧ Below (w.alloc (.cells #[.int .i64 0, .int .i64 0] 32)).heap.size (w.alloc (.cells #[.int .i64 0, .int .i64 0] 32)) w') from
    firstWrong_any ao l cap _ (h.below hb1) hn
  have HL : Hid (∀ W, Below w.heap.size w W → Calls Try.prog 33 #[.slice ao l.length cap] W fun e w' => e = .returned (.int .i64 (mx opn loose l l.length)) ∧ Below W.heap.size W w') := fun W hW => levels_any ao l cap W (h.below hW) hn
  have HC : Hid (chk l = if (wrong [ab1] 0 l).2 then (23, (wrong [ab1] 0 l).1) else if 64 < mx opn loose l l.length then (22, 0) else (0, 0)) := rfl
  have HB1 : Hid (Below w.heap.size w (w.alloc (.cells #[.int .i64 0, .int .i64 0] 32))) := hb1
  clear h hn hb1
  generalize chk l = C at *
  generalize wrong [ab1] 0 l = F at *
  generalize mx opn loose l l.length = X at *
  obtain ⟨f1, f2⟩ := F
  go_enter Try.func13, Try.ntmps13
  go_wp2_with fail
  refine HF.out.mono ?_
  rintro e w1 ⟨rfl, hB1⟩
  have hz := hB1.size
  rw [World.size_alloc] at hz
  have hT1 : w1.heap[w.heap.size]? = some (.cells #[.int .i64 0, .int .i64 0] 32 (0, 0)) := (hB1.block w.heap.size (by simp)).trans (heap_alloc_new w _)
  have HB2 : Hid (Below w.heap.size w w1) := HB1.out.trans (hB1.mono HB1.out.size)
  have hgz : w.heap.size < w1.heap.size := by omega
  clear hB1 hz
  cases f2
  · go_wp2_with fail
    refine (HL.out w1 HB2.out).mono ?_
    rintro e w2 ⟨rfl, hB3⟩
    have HT2 : Hid (w2.heap[w.heap.size]? = some (.cells #[.int .i64 0, .int .i64 0] 32 (0, 0))) := (hB3.block w.heap.size hgz).trans hT1
    have d0 : w2.cell? ⟨w.heap.size, 0, none⟩ = some (.int .i64 0) := by rw [World.cell?, HT2.out]; rfl
    have d1 : w2.cell? ⟨w.heap.size, 1, none⟩ = some (.int .i64 0) := by rw [World.cell?, HT2.out]; rfl
    have hf2 : ∀ j, w2.frozen? ⟨w.heap.size, j, none⟩ = false := fun j => by rw [World.frozen?, HT2.out]; rfl
    have HB4 : Hid (Below w.heap.size w w2) := HB2.out.trans (hB3.mono HB2.out.size)
    clear hB3 hT1
    by_cases hx : 64 < X
    · have HC2 : Hid (C = (22, 0)) := by show _ = _; rw [HC.out]; simp [hx]
      clear HC
      go_wp2_with fail
      obtain ⟨q0, q1⟩ := two_cells (.int .i64 22) (.int .i64 0) HT2.out
      exact bodyPost_ret (v := .agg #[.int .i64 22, .int .i64 0]) (by simp [results, Try.results13, go_sem, q0, q1]) rfl ⟨by rw [HC2.out]; rfl, (HB4.out.setCell (p := ⟨w.heap.size, 0, none⟩) (Nat.le_refl _) _).setCell (p := ⟨w.heap.size, 1, none⟩) (Nat.le_refl _) _⟩
    · have HC2 : Hid (C = (0, 0)) := by show _ = _; rw [HC.out]; simp [hx]
      clear HC
      go_wp2_with fail
      obtain ⟨q0, q1⟩ := two_cells (.int .i64 0) (.int .i64 0) HT2.out
      exact bodyPost_ret (v := .agg #[.int .i64 0, .int .i64 0]) (by simp [results, Try.results13, go_sem, q0, q1]) rfl ⟨by rw [HC2.out]; rfl, (HB4.out.setCell (p := ⟨w.heap.size, 0, none⟩) (Nat.le_refl _) _).setCell (p := ⟨w.heap.size, 1, none⟩) (Nat.le_refl _) _⟩
  · have HC2 : Hid (C = (23, f1)) := by show _ = _; rw [HC.out]; simp
    clear HC
    have HT2 : Hid (w1.heap[w.heap.size]? = some (.cells #[.int .i64 0, .int .i64 0] 32 (0, 0))) := hT1
    have d0 : w1.cell? ⟨w.heap.size, 0, none⟩ = some (.int .i64 0) := by rw [World.cell?, HT2.out]; rfl
    have d1 : w1.cell? ⟨w.heap.size, 1, none⟩ = some (.int .i64 0) := by rw [World.cell?, HT2.out]; rfl
    have hf2 : ∀ j, w1.frozen? ⟨w.heap.size, j, none⟩ = false := fun j => by rw [World.frozen?, HT2.out]; rfl
    clear hT1
    go_wp2_with fail
    obtain ⟨q0, q1⟩ := two_cells (.int .i64 23) (.int .i64 (f1 : Int)) HT2.out
    exact bodyPost_ret (v := .agg #[.int .i64 23, .int .i64 f1]) (by simp [results, Try.results13, go_sem, q0, q1]) rfl ⟨by rw [HC2.out]; rfl, (HB2.out.setCell (p := ⟨w.heap.size, 0, none⟩) (Nat.le_refl _) _).setCell (p := ⟨w.heap.size, 1, none⟩) (Nat.le_refl _) _⟩
end Go.Proofs.Ytjbpbgdhooggeaa.Gr

namespace Go.Proofs.Ytjbpbgdhooggeaa.Gr
open Go.RowKit Go.Proofs.Ytjbpbgdhooggeaa.Sp Go.Proofs.Ytjbpbgdhooggeaa.Lx

theorem filled_kids {r : Rz} (h : filled r = true) : 0 ≤ r.kids := by
  unfold filled wtn at h
  simp at h
  omega
/-- no row is wrong: one tree -/
def mis : List Ab → Nat
  | [] => 0
  | a :: t => (a.kids - a.seen).toNat + mis t
theorem mis_pop (t : List Ab) : mis (pop t) = mis t := by
  induction t with
  | nil => rfl
  | cons a t ih =>
    simp only [pop]
    split
    · rw [ih]; simp only [mis]; omega
    · rfl
theorem wrong_whole (l : List Rz) : ∀ (t : List Ab) (i : Nat), (t = [] ∨ ∃ a r, t = a :: r ∧ (a.seen : Int) < a.kids) → (wrong t i l).2 = false → sz l (mis t) = some l.length := by
  induction l with
  | nil =>
    intro t i _ h
    cases t with
    | nil => rfl
    | cons a t => cases h
  | cons r l ih =>
    intro t i ht h
    simp only [wrong] at h
    split at h
    · cases h
    · rename_i hc
      rcases ht with rfl | ⟨a, t, rfl, hlt⟩
      · simp at hc
      · simp only [List.isEmpty_cons, Bool.false_or, Bool.not_eq_true', Bool.not_eq_false, Bool.and_eq_true] at hc
        have hk := filled_kids hc.2
        have hp : past (a :: t) r 0 = [] ∨ ∃ b q, past (a :: t) r 0 = b :: q ∧ (b.seen : Int) < b.kids := by
          have : ∀ x : List Ab, pop x = [] ∨ ∃ b q, pop x = b :: q ∧ (b.seen : Int) < b.kids := by
            intro x
            induction x with
            | nil => exact Or.inl rfl
            | cons c x ihx =>
              simp only [pop]
              split
              · exact ihx
              · exact Or.inr ⟨c, x, rfl, by omega⟩
          exact this _
        have h1 := ih _ _ hp h
        have hm : mis (past (a :: t) r 0) = mis (a :: t) - 1 + r.m := by
          show mis (pop _) = _
          rw [mis_pop]
          simp only [mis, bump, Rz.m]
          omega
        rw [hm] at h1
        exact sz_mk (by simp only [mis]; omega) h1
theorem whole_of {l : List Rz} (h : (wrong [ab1] 0 l).2 = false) : Whole l := wrong_whole l [ab1] 0 (Or.inr ⟨ab1, [], rfl, by show (0 : Int) < 1; omega⟩) h
/-- one tree, whose rows have as many kids as they say -/
structure TreeZ (l : List Rz) : Prop where
  whole : Whole l
  kids : ∀ i, i < l.length → (rat l i).kids = (km l i : Int)
/-- a row's kids' number, in memory -/
theorem kids_at {w : World} {ao : Option Addr} {l : List Rz} (h : IsRz w ao l) (hT : TreeZ l) {k : Nat} (hk : k < l.length) : ∃ g o, ao = some ⟨g, o, none⟩ ∧ g < w.heap.size ∧ w.cell? ⟨g, o + k * 5, none⟩ = some (.int .i64 (rat l k).kind) ∧ w.cell? ⟨g, o + k * 5 + 4, none⟩ = some (.int .i64 (km l k : Int)) := by
  obtain ⟨g, o, e, hg, c0, _, _, _, c4⟩ := h k _ (some_rat hk)
  rw [hT.kids k hk] at c4
  exact ⟨g, o, e, hg, c0, c4⟩
theorem wrong_all (l : List Rz) : ∀ (t : List Ab) (i : Nat), (wrong t i l).2 = false → ∀ r ∈ l, filled r = true := by
  induction l with
  | nil => intro _ _ _ r hr; cases hr
  | cons x l ih =>
    intro t i h r hr
    simp only [wrong] at h
    split at h
    · cases h
    · rename_i hc
      rcases List.mem_cons.1 hr with rfl | hr
      · cases hf : filled r
        · rw [hf] at hc; simp at hc
        · rfl
      · exact ih _ _ h r hr
theorem tree_of {l : List Rz} (h : (wrong [ab1] 0 l).2 = false) : TreeZ l ∧ 0 < l.length := by
  have hW := whole_of h
  refine ⟨⟨hW, fun i hi => ?_⟩, ?_⟩
  · have hm : rat l i ∈ l := List.mem_of_getElem? (some_rat hi)
    have := filled_kids (wrong_all l _ _ h _ hm)
    rw [km_rat]
    unfold Rz.m
    omega
  · have := (sz_pos (Nat.le_refl 1) hW).2
    omega
theorem km_le {l : List Rz} (h : Whole l) {m : Nat} (hm : m < l.length) : km l m ≤ l.length := by
  have : ∀ j, j ≤ km l m → j ≤ kidp l m j := by
    intro j
    induction j with
    | zero => intro _; omega
    | succ j ih =>
      intro hj
      obtain ⟨h1, h2, h3⟩ := kid_at h hm (k := j) (by omega)
      have h4 := (end_kid h h1).2.1
      have := ih (by omega)
      omega
  have h1 := this _ (Nat.le_refl _)
  have h2 := kid_le h hm (Nat.le_refl _)
  omega
/-- rows that are missing yet -/
def Mis (l : List Rz) (E m j : Nat) : Prop := ∃ x, sz (l.drop j) m = some x ∧ E = j + x
theorem mis_start {l : List Rz} (h : Whole l) {i : Nat} (hi : i < l.length) : Mis l (endp l i) 1 i := by
  obtain ⟨x, h1, h2, h3⟩ := one_at h hi
  exact ⟨x + 1, h2, by unfold endp; rw [h2]; rfl⟩
theorem mis_step {l : List Rz} {E m j : Nat} (h : Mis l E (m + 1) j) : j < l.length ∧ Mis l E (m + km l j) (j + 1) := by
  obtain ⟨x, h1, h2⟩ := h
  have h3 := sz_pos (by omega) h1
  rw [List.length_drop] at h3
  have hj : j < l.length := by omega
  obtain ⟨r, _, h5, h6⟩ := drop_at hj
  rw [h5] at h1
  obtain ⟨h7, h8⟩ := sz_cons (by omega) h1
  refine ⟨hj, x - 1, ?_, by omega⟩
  rw [h6, ← h8]
  congr 1
theorem mis_done {l : List Rz} {E j : Nat} (h : Mis l E 0 j) : E = j := by
  obtain ⟨x, h1, h2⟩ := h
  rw [sz_zero] at h1
  have := Option.some.inj h1
  omega
theorem mis_le : ∀ (l' : List Rz) (m x : Nat), sz l' m = some x → m ≤ l'.length := by
  intro l'
  induction l' with
  | nil => intro m x h; simp only [sz] at h; split at h <;> simp_all
  | cons r t ih =>
    intro m x h
    by_cases hm : m = 0
    · omega
    · have := ih _ _ (sz_cons (by omega) h).2
      simp only [List.length_cons]; omega

set_option maxHeartbeats 3200000 in
set_option maxRecDepth 100000 in
theorem end_any (ao : Option Addr) (l : List Rz) (cap i : Nat) (w : World) (h : IsRz w ao l) (hn : l.length ≤ 2932031007317) (hT : TreeZ l) (hi : i < l.length) :
    Calls Try.prog 30 #[.slice ao l.length cap, .int .i64 i] w fun e w' => e = .returned (.int .i64 (endp l i : Nat)) ∧ w' = w := by
  have HI : Hid (IsRz w ao l) := h
  have HT : Hid (TreeZ l) := hT
  have HN : Hid (l.length ≤ 2932031007317) := hn
  have HM : Hid (Mis l (endp l i) 1 i) := mis_start hT.whole hi
  have hln : (l.length : Int) ≤ 2932031007317 := by omega
  have hi2 : (i : Int) ≤ 2932031007317 := by omega
  clear h hn hT
  go_enter Try.func30, Try.ntmps30
  go_wp2_with fail
  go_loopg [1, 5] (l.length - i) (fun gq x y wr => ∃ j m : Nat, j ≤ l.length ∧ gq = l.length - j ∧ x = .int .i64 j ∧ y = .int .i64 m ∧ Mis l (endp l i) m j ∧ wr = w)
  case atStart => exact ⟨i, 1, by omega, rfl, rfl, rfl, HM.out, rfl⟩
  case round =>
    obtain ⟨j, m, hj, hgk, rfl, rfl, hMs, hw⟩ := hrel
    have HG : Hid (gk = l.length - j) := hgk
    have HMs : Hid (Mis l (endp l i) m j) := hMs
    rw [hw]
    clear hgk hMs hw
    have hj2 : (j : Int) ≤ 2932031007317 := by omega
    have hm2 : (m : Int) ≤ 2932031007317 := by
      obtain ⟨x, h1, _⟩ := HMs.out
      have := mis_le _ _ _ h1
      rw [List.length_drop] at this
      omega
    cases m with
    | zero =>
      have HE := show Hid _ from mis_done HMs.out
      go_wp2_with fail
      go_ret
      exact ⟨by rw [HE.out]; rfl, rfl⟩
    | succ m =>
      obtain ⟨hjl, hnx⟩ := mis_step HMs.out
      have HNx : Hid (Mis l (endp l i) (m + km l j) (j + 1)) := hnx
      have hjl' : (j : Int) < (l.length : Int) := by omega
      obtain ⟨g, o, rfl, hg, _, c4⟩ := kids_at HI.out HT.out hjl
      have hkm : (km l j : Int) ≤ 2932031007317 := by have := km_le HT.out.whole hjl; omega
      have hmp : (0 : Int) < ((m + 1 : Nat) : Int) := by omega
      have hcast : ((m + 1 : Nat) : Int) = (m : Int) + 1 := by omega
      rw [hcast] at hm2 hmp ⊢
      clear hnx hjl hj hcast
      go_wp2_with fail
      go_roundg (l.length - (j + 1))
      case measure => have h1 := HG.out; omega
      case rel => exact ⟨j + 1, m + km l j, by omega, rfl, by go_num, by go_num, HNx.out, rfl⟩
end Go.Proofs.Ytjbpbgdhooggeaa.Gr
