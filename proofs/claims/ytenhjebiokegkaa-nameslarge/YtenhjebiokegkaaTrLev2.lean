import Derived.Test.YtenhjebiokegkaaTrLev
namespace Go.Proofs.Ytenhjebiokegkaa.Gr
open Go.RowKit Go.Proofs.Ytenhjebiokegkaa.Sp Go.Proofs.Ytenhjebiokegkaa.Lx

set_option maxHeartbeats 12800000 in
set_option maxRecDepth 100000 in
theorem levels_any (ao : Option Addr) (l : List Rz) (cap : Nat) (w : World) (h : IsRz w ao l) (hn : l.length ≤ 2932031007317) :
    Calls Try.prog 30 #[.slice ao l.length cap] w fun e w' => e = .returned (.int .i64 (mx opn loose l l.length)) ∧ Below w.heap.size w w' := by
  have HI : Hid (IsRz w ao l) := h
  have HN : Hid (l.length ≤ 2932031007317) := hn
  have hln : (l.length : Int) ≤ 2932031007317 := by omega
  clear h hn
  go_enter Try.func30, Try.ntmps30
  go_wp2_with fail
  go_loopg [3, 4, 11] l.length (fun gq mo x i wr => ∃ (k : Nat) (v : Value), v = x ∧ mo = .int .i64 (mx opn loose l k) ∧ i = .int .i64 k ∧ gq = l.length - k ∧ k ≤ l.length ∧ OwnT wr w.heap.size v (ast opn loose l k) ∧ Below w.heap.size w wr ∧ Fits l k)
  case atStart => exact ⟨0, _, rfl, rfl, rfl, rfl, Nat.zero_le _, World.ownsRow_nil _ _ _ _, Below.refl _ _, fits_zero l⟩
  case round =>
    obtain ⟨k, v, rfl, rfl, rfl, hgk, hk, hOw, hBr, hft⟩ := hrel
    have HG : Hid (gk = l.length - k) := hgk
    have HOr : Hid (OwnT wr w.heap.size v (ast opn loose l k)) := hOw
    have HBr : Hid (Below w.heap.size w wr) := hBr
    have HFt : Hid (Fits l k) := hft
    clear hgk hOw hBr hft
    by_cases hlt : k < l.length
    · have hlt' : (k : Int) < (l.length : Int) := by omega
      obtain ⟨r, g, o, hdr, hlk, rfl, hg, c0, c1, c2, c3, c4⟩ := rows_at (HI.out.below HBr.out) hlt
      have HRt : Hid (rat l k = r) := rat_some hlk
      have HB1 : Hid (Below wr.heap.size wr (wr.alloc (.cells #[.int .i64 r.kind, .string r.name, .int .i64 r.stop, .int .i64 r.n, .int .i64 r.kids] 27))) := (Below.refl _ wr).alloc (Nat.le_refl _) _
      have HPst : Hid (∀ (lv : Int) (W : World), Below wr.heap.size wr W → Calls Try.prog 50 #[v, .agg #[.int .i64 r.kind, .string r.name, .int .i64 r.stop, .int .i64 r.n, .int .i64 r.kids], .int .i64 lv] W fun e w' => ∃ v', e = .returned v' ∧ OwnT w' w.heap.size v' (past (ast opn loose l k) r lv) ∧ Went W v w' v') := fun lv W hW =>
        past_any (ast opn loose l k) r lv w.heap.size v W (own_below HOr.out hW) (Nat.le_trans HBr.out.size hW.size) (fun a ha => by have h1 := HFt.out.2.1 a ha; have h2 := HN.out; omega) (by have h1 := HFt.out.1; have h2 := HN.out; omega)
      have HV : Hid (∀ j, v.ownBlock = some j → w.heap.size ≤ j) := fun j hj => (World.ownsRow.lt HOr.out j hj).1
      obtain ⟨a, hta⟩ : ∃ a, top (ast opn loose l k) = a := ⟨_, rfl⟩
      have HTp : Hid (top (ast opn loose l k) = a) := hta
      have hal := top_lv HFt.out.2.2.1
      rw [hta] at hal
      have hop := opn_two r.kind
      have hb1 : 0 ≤ a.levels + opn r.kind ∧ a.levels + opn r.kind ≤ 5864062014640 := by have := HN.out; omega
      have HLs : Hid (∀ W, Below wr.heap.size wr W → Calls Try.prog 48 #[v] W fun e w' => e = .returned (.agg #[.int .i64 a.kind, .int .i64 a.kids, .int .i64 a.seen, .int .i64 a.kid, .int .i64 a.levels]) ∧ Below W.heap.size W w') := fun W hW => by
        have := last_any (ast opn loose l k) w.heap.size v W (own_below HOr.out hW) (by have h1 := HFt.out.1; have h2 := HN.out; omega)
        rw [hta] at this
        exact this
      have hb2 : a.levels + opn r.kind + 1 ≤ 5864062014641 := by omega
      clear hta hdr hlk hlt hop hal
      obtain ⟨bo, bc, rfl⟩ := own_form HOr.out
      go_wp2_with fail
      cases hlz : loose a.kind a.seen r.kind
      · skip
        have HLz : Hid (∀ w, Calls Try.prog 52 #[.int .i64 a.kind, .int .i64 a.seen, .int .i64 r.kind] w fun e w' => e = .returned (.bool false) ∧ w' = w) := fun w => by
          have := loose_any a.kind a.seen r.kind w
          rw [hlz] at this
          exact this
        have HE : Hid (lev opn loose l k = (a.levels + opn r.kind)) := by
          show lvl opn loose (ast opn loose l k) (rat l k) = _
          rw [HRt.out]
          show (top (ast opn loose l k)).levels + opn r.kind + (if loose (top (ast opn loose l k)).kind (top (ast opn loose l k)).seen r.kind then 1 else 0) = _
          rw [HTp.out, hlz]
          simp
        clear hlz
        refine (HLs.out _ HB1.out).mono ?_
        rintro e w2 ⟨rfl, hB2⟩
        have hB3 : Below wr.heap.size wr w2 := HB1.out.trans (hB2.mono HB1.out.size)
        have hz2 : wr.heap.size + 1 ≤ w2.heap.size := by have := hB2.size; simpa using this
        have HB4 : Hid (Below wr.heap.size wr (w2.alloc (.cells #[.int .i64 a.kind, .int .i64 a.kids, .int .i64 a.seen, .int .i64 a.kid, .int .i64 a.levels] 84))) := hB3.alloc hB3.size _
        have hne : Nonempty (Kin (w2.alloc (.cells #[.int .i64 a.kind, .int .i64 a.kids, .int .i64 a.seen, .int .i64 a.kid, .int .i64 a.levels] 84))) := Kin.there _
        have hcr : ∀ j u, ([.int .i64 r.kind, .string r.name, .int .i64 r.stop, .int .i64 r.n, .int .i64 r.kids] : List Value)[j]? = some u → ∀ y : Kin (w2.alloc (.cells #[.int .i64 a.kind, .int .i64 a.kids, .int .i64 a.seen, .int .i64 a.kid, .int .i64 a.levels] 84)), y.u.cell? ⟨wr.heap.size, j, none⟩ = some u := fun j u hu y =>
          y.cell (a := ⟨wr.heap.size, j, none⟩) (by simp; omega) ((World.cell?_of_block (a := ⟨wr.heap.size, j, none⟩) (Below.heap_alloc _ _ _ (by show wr.heap.size < _; omega))).trans ((hB2.cell (p := ⟨wr.heap.size, j, none⟩) (by simp)).trans (by rw [World.cell?, heap_alloc_new]; simpa using hu)))
        have hca : ∀ j u, ([.int .i64 a.kind, .int .i64 a.kids, .int .i64 a.seen, .int .i64 a.kid, .int .i64 a.levels] : List Value)[j]? = some u → ∀ y : Kin (w2.alloc (.cells #[.int .i64 a.kind, .int .i64 a.kids, .int .i64 a.seen, .int .i64 a.kid, .int .i64 a.levels] 84)), y.u.cell? ⟨w2.heap.size, j, none⟩ = some u := fun j u hu y =>
          y.cell (a := ⟨w2.heap.size, j, none⟩) (by simp) (by rw [World.cell?, heap_alloc_new]; simpa using hu)
        have y0 := hcr 0 _ rfl
        have y1 := hcr 1 _ rfl
        have y2 := hcr 2 _ rfl
        have y3 := hcr 3 _ rfl
        have y4 := hcr 4 _ rfl
        have x0 := hca 0 _ rfl
        have x2 := hca 2 _ rfl
        have x4 := hca 4 _ rfl
        have HOP : Hid (∀ w, Calls Try.prog 51 #[.int .i64 r.kind] w fun e w' => e = .returned (.int .i64 (opn r.kind)) ∧ w' = w) := fun w => opn_any r.kind w
        clear hcr hca hB2 hB3
        go_wp2_with fail
        refine wp_region_kin (by kernel_rfl) (by kernel_rfl) ?_
        iterate 5 quiet_step (exact kin_same (HOP.out _))
        iterate 2 quiet_step (fail)
        refine wpQuiet_nil ?_
        rintro _ ⟨z, rfl⟩
        have HZ : Hid (Below wr.heap.size wr z.u) := HB4.out.trans (z.ok.mono HB4.out.size)
        have z0 := y0 z
        have z1 := y1 z
        have z2 := y2 z
        have z3 := y3 z
        have z4 := y4 z
        have t0 := x0 z
        have t2 := x2 z
        clear y0 y1 y2 y3 y4 x0 x2 x4 hne
        generalize z.u = wz at *
        go_wp2_with fail
        refine (HLz.out wz).mono ?_
        intro e w' hh
        obtain ⟨rfl, hw⟩ := hh
        rw [hw]
        clear hw w'
        go_wp2_with fail
        refine (HPst.out (a.levels + opn r.kind) wz HZ.out).mono ?_
        rintro e w8 ⟨v8, rfl, hO8, hW8⟩
        have HO8 : Hid (OwnT w8 w.heap.size v8 (past (ast opn loose l k) r (a.levels + opn r.kind))) := hO8
        have HB8 : Hid (Below w.heap.size w w8) := (HBr.out.trans (HZ.out.mono HBr.out.size)).trans (hW8.low HV.out (Nat.le_trans HBr.out.size HZ.out.size))
        obtain ⟨bo8, bc8, rfl⟩ := own_form hO8
        clear hO8 hW8
        go_wp2_with fail
        go_roundg (l.length - (k + 1))
        case measure => have := HG.out; omega
        case rel =>
          have q1 : Value.int .i64 (max (mx opn loose l k) (a.levels + opn r.kind)) = Value.int .i64 (mx opn loose l (k + 1)) := by rw [mx_succ, HE.out]; exact lev_max _ _
          have q2 : OwnT w8 w.heap.size (.slice bo8 (past (ast opn loose l k) r (a.levels + opn r.kind)).length bc8) (ast opn loose l (k + 1)) := by rw [ast_succ, HE.out, HRt.out]; exact HO8.out
          have q3 : Fits l (k + 1) := fits_succ l HFt.out
          exact ⟨k + 1, _, rfl, q1, by go_num, rfl, by omega, q2, HB8.out, q3⟩
      · skip
        have HLz : Hid (∀ w, Calls Try.prog 52 #[.int .i64 a.kind, .int .i64 a.seen, .int .i64 r.kind] w fun e w' => e = .returned (.bool true) ∧ w' = w) := fun w => by
          have := loose_any a.kind a.seen r.kind w
          rw [hlz] at this
          exact this
        have HE : Hid (lev opn loose l k = (a.levels + opn r.kind + 1)) := by
          show lvl opn loose (ast opn loose l k) (rat l k) = _
          rw [HRt.out]
          show (top (ast opn loose l k)).levels + opn r.kind + (if loose (top (ast opn loose l k)).kind (top (ast opn loose l k)).seen r.kind then 1 else 0) = _
          rw [HTp.out, hlz]
          simp
        clear hlz
        refine (HLs.out _ HB1.out).mono ?_
        rintro e w2 ⟨rfl, hB2⟩
        have hB3 : Below wr.heap.size wr w2 := HB1.out.trans (hB2.mono HB1.out.size)
        have hz2 : wr.heap.size + 1 ≤ w2.heap.size := by have := hB2.size; simpa using this
        have HB4 : Hid (Below wr.heap.size wr (w2.alloc (.cells #[.int .i64 a.kind, .int .i64 a.kids, .int .i64 a.seen, .int .i64 a.kid, .int .i64 a.levels] 84))) := hB3.alloc hB3.size _
        have hne : Nonempty (Kin (w2.alloc (.cells #[.int .i64 a.kind, .int .i64 a.kids, .int .i64 a.seen, .int .i64 a.kid, .int .i64 a.levels] 84))) := Kin.there _
        have hcr : ∀ j u, ([.int .i64 r.kind, .string r.name, .int .i64 r.stop, .int .i64 r.n, .int .i64 r.kids] : List Value)[j]? = some u → ∀ y : Kin (w2.alloc (.cells #[.int .i64 a.kind, .int .i64 a.kids, .int .i64 a.seen, .int .i64 a.kid, .int .i64 a.levels] 84)), y.u.cell? ⟨wr.heap.size, j, none⟩ = some u := fun j u hu y =>
          y.cell (a := ⟨wr.heap.size, j, none⟩) (by simp; omega) ((World.cell?_of_block (a := ⟨wr.heap.size, j, none⟩) (Below.heap_alloc _ _ _ (by show wr.heap.size < _; omega))).trans ((hB2.cell (p := ⟨wr.heap.size, j, none⟩) (by simp)).trans (by rw [World.cell?, heap_alloc_new]; simpa using hu)))
        have hca : ∀ j u, ([.int .i64 a.kind, .int .i64 a.kids, .int .i64 a.seen, .int .i64 a.kid, .int .i64 a.levels] : List Value)[j]? = some u → ∀ y : Kin (w2.alloc (.cells #[.int .i64 a.kind, .int .i64 a.kids, .int .i64 a.seen, .int .i64 a.kid, .int .i64 a.levels] 84)), y.u.cell? ⟨w2.heap.size, j, none⟩ = some u := fun j u hu y =>
          y.cell (a := ⟨w2.heap.size, j, none⟩) (by simp) (by rw [World.cell?, heap_alloc_new]; simpa using hu)
        have y0 := hcr 0 _ rfl
        have y1 := hcr 1 _ rfl
        have y2 := hcr 2 _ rfl
        have y3 := hcr 3 _ rfl
        have y4 := hcr 4 _ rfl
        have x0 := hca 0 _ rfl
        have x2 := hca 2 _ rfl
        have x4 := hca 4 _ rfl
        have HOP : Hid (∀ w, Calls Try.prog 51 #[.int .i64 r.kind] w fun e w' => e = .returned (.int .i64 (opn r.kind)) ∧ w' = w) := fun w => opn_any r.kind w
        clear hcr hca hB2 hB3
        go_wp2_with fail
        refine wp_region_kin (by kernel_rfl) (by kernel_rfl) ?_
        iterate 5 quiet_step (exact kin_same (HOP.out _))
        iterate 2 quiet_step (fail)
        refine wpQuiet_nil ?_
        rintro _ ⟨z, rfl⟩
        have HZ : Hid (Below wr.heap.size wr z.u) := HB4.out.trans (z.ok.mono HB4.out.size)
        have z0 := y0 z
        have z1 := y1 z
        have z2 := y2 z
        have z3 := y3 z
        have z4 := y4 z
        have t0 := x0 z
        have t2 := x2 z
        clear y0 y1 y2 y3 y4 x0 x2 x4 hne
        generalize z.u = wz at *
        go_wp2_with fail
        refine (HLz.out wz).mono ?_
        intro e w' hh
        obtain ⟨rfl, hw⟩ := hh
        rw [hw]
        clear hw w'
        go_wp2_with fail
        refine (HPst.out (a.levels + opn r.kind + 1) wz HZ.out).mono ?_
        rintro e w8 ⟨v8, rfl, hO8, hW8⟩
        have HO8 : Hid (OwnT w8 w.heap.size v8 (past (ast opn loose l k) r (a.levels + opn r.kind + 1))) := hO8
        have HB8 : Hid (Below w.heap.size w w8) := (HBr.out.trans (HZ.out.mono HBr.out.size)).trans (hW8.low HV.out (Nat.le_trans HBr.out.size HZ.out.size))
        obtain ⟨bo8, bc8, rfl⟩ := own_form hO8
        clear hO8 hW8
        go_wp2_with fail
        go_roundg (l.length - (k + 1))
        case measure => have := HG.out; omega
        case rel =>
          have q1 : Value.int .i64 (max (mx opn loose l k) (a.levels + opn r.kind + 1)) = Value.int .i64 (mx opn loose l (k + 1)) := by rw [mx_succ, HE.out]; exact lev_max _ _
          have q2 : OwnT w8 w.heap.size (.slice bo8 (past (ast opn loose l k) r (a.levels + opn r.kind + 1)).length bc8) (ast opn loose l (k + 1)) := by rw [ast_succ, HE.out, HRt.out]; exact HO8.out
          have q3 : Fits l (k + 1) := fits_succ l HFt.out
          exact ⟨k + 1, _, rfl, q1, by go_num, rfl, by omega, q2, HB8.out, q3⟩
    · have hlt' : ¬ ((k : Int) < (l.length : Int)) := by omega
      have hke : k = l.length := by omega
      subst hke
      go_wp2_with fail
      go_ret
      exact ⟨rfl, HBr.out⟩
end Go.Proofs.Ytenhjebiokegkaa.Gr
