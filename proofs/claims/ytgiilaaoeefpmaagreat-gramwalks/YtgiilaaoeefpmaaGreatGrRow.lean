import Derived.Test.YtgiilaaoeefpmaaGreatGrLay2
namespace Go.Proofs.YtgiilaaoeefpmaaGreat.Gr
open Go.RowKit Go.Proofs.YtgiilaaoeefpmaaGreat.Sp Go.Proofs.YtgiilaaoeefpmaaGreat.Lx

def row00 : Rw := ⟨0, ⟨#[]⟩, 0, 0, 0⟩
def PS.setR (s : PS) (i : Nat) (f : Rw → Rw) : PS := { s with rows := s.rows.set i (f (s.rows.getD i row00)) }

theorem rc_len (r : Rw) : (rc r).length = 5 := rfl
theorem flat_len (l : List Rw) : (l.flatMap rc).length = l.length * 5 := by
  induction l with
  | nil => rfl
  | cons r l ih => rw [List.flatMap_cons, List.length_append, ih, rc_len, List.length_cons]; omega
theorem flat_at (l : List Rw) (i j : Nat) (r : Rw) (h : l[i]? = some r) (hj : j < 5) : (l.flatMap rc)[i * 5 + j]? = (rc r)[j]? := by
  induction l generalizing i with
  | nil => simp at h
  | cons y l ih =>
    rw [List.flatMap_cons]
    cases i with
    | zero =>
      simp at h
      subst h
      rw [List.getElem?_append_left (by rw [rc_len]; omega)]
      simp
    | succ i =>
      rw [List.getElem?_append_right (by rw [rc_len]; omega), rc_len, show (i + 1) * 5 + j - 5 = i * 5 + j by omega]
      exact ih i (by simpa using h)
theorem flat_set (l : List Rw) (i j : Nat) (r r' : Rw) (v : Value) (h : l[i]? = some r) (hj : j < 5) (e : rc r' = (rc r).set j v) : (l.set i r').flatMap rc = (l.flatMap rc).set (i * 5 + j) v := by
  induction l generalizing i with
  | nil => simp at h
  | cons y l ih =>
    cases i with
    | zero =>
      simp at h
      subst h
      rw [List.set_cons_zero, List.flatMap_cons, List.flatMap_cons, e, List.set_append_left _ _ (by rw [rc_len]; omega)]
      simp
    | succ i =>
      rw [List.set_cons_succ, List.flatMap_cons, List.flatMap_cons, List.set_append_right _ _ (by rw [rc_len]; omega), rc_len, show (i + 1) * 5 + j - 5 = i * 5 + j by omega, ih i (by simpa using h)]
theorem get_of_lt {l : List Rw} {i : Nat} (h : i < l.length) : l[i]? = some (l.getD i row00) := by
  rw [List.getD_eq_getElem?_getD, List.getElem?_eq_getElem h]; rfl

section
variable {E : Env} {w : World} {rv pv : Value} {s : PS}
/-- a row of the parser's, its cells -/
theorem Par.row (h : Par w E rv pv s) {i : Nat} (hi : i < s.rows.length) : ∃ gr cap, rv = .slice (some ⟨gr, 0, none⟩) s.rows.length cap ∧ gr < w.heap.size ∧ E.w0.heap.size ≤ gr ∧
    (∀ j, w.frozen? ⟨gr, j, none⟩ = false) ∧ ∀ W, Mv1 E w W → E.g < E.w0.heap.size → ∀ j, j < 5 → W.cell? ⟨gr, i * 5 + j, none⟩ = (rc (s.rows.getD i row00))[j]? := by
  rcases h.rows.2 with ⟨_, h0⟩ | ⟨g, cap, cur, rfl, hb, hg, h3, h4, h5, h6⟩
  · omega
  · have hlt := (Array.getElem?_eq_some_iff.1 hg).1
    refine ⟨g, cap, rfl, hlt, hb, fun j => by simp [World.frozen?, hg], fun W hW hgl j hj => ?_⟩
    rw [← flat_at s.rows i j _ (get_of_lt hi) hj, ← h6]
    have hk : i * 5 + j < s.rows.length * 5 := by omega
    rw [List.getElem?_take_of_lt hk]
    have hWg : W.heap[g]? = some (.cells cur 46 (0, 0)) := (hW.block g hlt (by omega)).trans hg
    simp [World.cell?, hWg]

/-- a cell of a row is written -/
theorem Par.setRow (ok : E.Ok) {gr cap : Nat} (h : Par w E (.slice (some ⟨gr, 0, none⟩) s.rows.length cap) pv s) {i j : Nat} (hi : i < s.rows.length) (hj : j < 5) (v : Value) (f : Rw → Rw)
    (e : rc (f (s.rows.getD i row00)) = (rc (s.rows.getD i row00)).set j v) :
    Par (w.setCell ⟨gr, i * 5 + j, none⟩ v) E (.slice (some ⟨gr, 0, none⟩) s.rows.length cap) pv (s.setR i f) ∧
    Mv E w (.slice (some ⟨gr, 0, none⟩) s.rows.length cap) pv (w.setCell ⟨gr, i * 5 + j, none⟩ v) (.slice (some ⟨gr, 0, none⟩) s.rows.length cap) pv := by
  rcases h.rows.2 with ⟨h0, _⟩ | ⟨g, cp, cur, heq, hb, hg, h3, h4, h5, h6⟩
  · cases h0
  · cases heq
    have hgl := ok.gl
    have hlt := (Array.getElem?_eq_some_iff.1 hg).1
    have hoth : ∀ k, k ≠ gr → (w.setCell ⟨gr, i * 5 + j, none⟩ v).heap[k]? = w.heap[k]? := fun k hk => Below.heap_setCell w _ v k hk
    have hsz : (w.setCell ⟨gr, i * 5 + j, none⟩ v).heap.size = w.heap.size := by simp [World.setCell]
    have hlen : (s.setR i f).rows.length = s.rows.length := by simp [PS.setR]
    refine ⟨⟨?_, ?_, ?_, ?_, ?_, h.nx, h.lev, by rw [hlen]; exact h.cr, h.cp⟩, ?_⟩
    · refine ⟨h.fix.os, h.fix.tape, h.fix.output, by rw [hsz]; exact h.fix.size, fun k h1 h2 => ?_⟩
      rw [hoth k (by omega)]
      exact h.fix.block k h1 h2
    · rw [hoth _ (by omega)]
      exact h.blk
    · refine ⟨by rw [flat_len], Or.inr ⟨gr, cap, cur.setIfInBounds (i * 5 + j) v, by rw [hlen], hb, set_blk hg, by rw [hlen]; exact h3, h4, by simpa using h5, ?_⟩⟩
      rw [hlen]
      show _ = (s.rows.set i _).flatMap rc
      rw [flat_set s.rows i j _ _ v (get_of_lt hi) hj e, ← h6]
      simp [List.take_set]
    · have hp := h.places
      refine World.ownsRow.kept hp (row := some gr) ⟨rfl, rfl, rfl, by rw [hsz]; exact Nat.le_refl _, fun k _ hk => hoth k (fun e => hk (by rw [e]))⟩ ?_
      cases hv : pv.ownBlock with
      | none => exact Or.inl rfl
      | some k =>
        refine Or.inr fun e2 => ?_
        rcases h.apart with e3 | e3
        · cases e3
        · exact e3 (by rw [hv]; exact e2.symm)
    · exact h.apart
    · exact ⟨rfl, rfl, rfl, by rw [hsz]; exact Nat.le_refl _, fun k _ _ hk _ => hoth k (fun e => hk (by rw [e]; rfl)), Or.inl rfl, Or.inl rfl⟩
end

def number (E : Env) (s : PS) : R Unit := (begin E 27 s).bind fun i s' => .ok () (s'.setR i fun r => { r with n := (E.tok s).n })

section
variable (E : Env) (ok : E.Ok) (w : World) (rv pv : Value) (s : PS) (h : Par w E rv pv s)
include ok h

set_option maxHeartbeats 800000 in
set_option maxRecDepth 100000 in
theorem begin_ok (k : Nat) (hb : E.bad s = false) (hr : s.rows.length ≤ s.next) (hp : s.places.length ≤ s.next) (hn : s.next + 1 < E.ts.length) :
    Calls Tryz.prog 116 #[.pointer (some ⟨E.g, 0, none⟩), .int .i64 k] w fun e w' => Post E w rv pv (fun n => .int .i64 (n : Nat)) (begin E k s) e w' := by
  have HP0 : Hid (Par w E rv pv s) := h
  have HL := lay_ok E ok w rv pv s h k hb hr hp
  have hl : lay E k s = .ok s.rows.length { s with rows := s.rows ++ [row0 k], places := s.places ++ [(E.tok s).at_] } := by unfold lay; rw [if_neg (by simp [hb])]
  have HN : Hid (begin E k s = .ok s.rows.length (PS.skip { s with rows := s.rows ++ [row0 k], places := s.places ++ [(E.tok s).at_] })) := by show _ = _; unfold begin; rw [hl]; rfl
  rw [hl] at HL
  generalize hs1 : ({ s with rows := s.rows ++ [row0 k], places := s.places ++ [(E.tok s).at_] } : PS) = s1 at *
  have hn1 : s1.next + 1 < E.ts.length := by rw [← hs1]; exact hn
  clear h hb hr hp hl hs1 hn
  go_enter Tryz.func116, Tryz.ntmps116
  go_wp2_with fail
  refine HL.mono ?_
  rintro e w1 ⟨rfl, rv1, pv1, hP, hM⟩
  have HP : Hid (Par w1 E rv1 pv1 s1 ∧ Mv E w rv pv w1 rv1 pv1) := ⟨hP, hM⟩
  clear hP hM
  go_wp2_with fail
  refine (skip_any E ok w1 rv1 pv1 s1 HP.out.1 hn1).mono ?_
  rintro e w2 ⟨rfl, rfl⟩
  go_wp2
  go_ret
  rw [HN.out]
  exact ⟨rfl, rv1, pv1, skipped E ok w1 rv1 pv1 s1 HP.out.1 hn1, HP.out.2.trans (Mv.of1 _ _ (Mv1.set E w1 _ _))⟩

set_option maxHeartbeats 1600000 in
set_option maxRecDepth 100000 in
theorem number_any (hk : (E.tok s).kind = 3) (hr : s.rows.length ≤ s.next) (hp : s.places.length ≤ s.next) :
    Calls Tryz.prog 138 #[.pointer (some ⟨E.g, 0, none⟩)] w fun e w' => Post E w rv pv (fun _ => .tuple #[]) (number E s) e w' := by
  have HP0 : Hid (Par w E rv pv s) := h
  have hb : E.bad s = false := by simp [Env.bad, hk]
  have HK : Hid ((E.tok s).kind ≠ 0 ∨ E.ce = 0) := bad_not hb
  have hn : s.next + 1 < E.ts.length := by
    rcases ok.fin _ _ (Env.tok_at h.nx) with ⟨_, h2, _⟩ | ⟨h1, _⟩
    · omega
    · exact h1
  have hl : begin E 27 s = .ok s.rows.length (PS.skip { s with rows := s.rows ++ [row0 27], places := s.places ++ [(E.tok s).at_] }) := by unfold begin lay; rw [if_neg (by simp [hb])]; rfl
  have HB : Hid (∀ w1, Par w1 E rv pv s → Calls Tryz.prog 116 #[.pointer (some ⟨E.g, 0, none⟩), .int .i64 (27 : Nat)] w1 fun e w' => Post E w1 rv pv (fun n => .int .i64 (n : Nat)) (.ok s.rows.length (PS.skip { s with rows := s.rows ++ [row0 27], places := s.places ++ [(E.tok s).at_] })) e w') := fun w1 h1 => by
    have := begin_ok E ok w1 rv pv s h1 27 hb hr hp hn
    rw [hl] at this
    exact this
  have HN : Hid (number E s = .ok () ((PS.skip { s with rows := s.rows ++ [row0 27], places := s.places ++ [(E.tok s).at_] }).setR s.rows.length fun r => { r with n := (E.tok s).n })) := by show _ = _; unfold number; rw [hl]; rfl
  have hlen : s.rows.length < (PS.skip { s with rows := s.rows ++ [row0 27], places := s.places ++ [(E.tok s).at_] }).rows.length := by simp [PS.skip]
  generalize hs1 : (PS.skip { s with rows := s.rows ++ [row0 27], places := s.places ++ [(E.tok s).at_] } : PS) = s1 at *
  have hf3 := fld3
  clear h hb hr hp hl hs1 hn hk
  go_enter Tryz.func138, Tryz.ntmps138
  go_wp2_with fail
  refine (token_ok E ok w rv pv s HP0.out _ (Env.tok_at HP0.out.nx) HK.out).mono ?_
  rintro e w1 ⟨rfl, hB⟩
  have HB1 : Hid (Below w.heap.size w w1) := hB
  clear hB
  go_wp2_with fail
  refine (HB.out w1 (HP0.out.below HB1.out)).mono ?_
  rintro e w2 ⟨rfl, rv2, pv2, hP, hM⟩
  obtain ⟨gr, cap, rfl, h1, h2, h3, h4⟩ := hP.row hlen
  have hcell := h4 w2 (Mv1.refl _ _) ok.gl 3 (by omega)
  simp only [rc, List.getElem?_cons_succ, List.getElem?_cons_zero] at hcell
  have hfro := h3 (s.rows.length * 5 + 3)
  have c6 := hP.cells.2.2.2.2.2.2.1
  have hset := hP.setRow ok hlen (j := 3) (by omega) (.int .i64 (E.tok s).n) (fun r => { r with n := (E.tok s).n }) rfl
  have HP2 : Hid (Par (w2.setCell ⟨gr, s.rows.length * 5 + 3, none⟩ (.int .i64 (E.tok s).n)) E (.slice (some ⟨gr, 0, none⟩) s1.rows.length cap) pv2 (s1.setR s.rows.length fun r => { r with n := (E.tok s).n }) ∧ Mv E w rv pv (w2.setCell ⟨gr, s.rows.length * 5 + 3, none⟩ (.int .i64 (E.tok s).n)) (.slice (some ⟨gr, 0, none⟩) s1.rows.length cap) pv2) :=
    ⟨hset.1, ((Mv.of1 rv pv (Mv1.of_below HB1.out)).trans hM).trans hset.2⟩
  have hlt : (s.rows.length : Int) < (s1.rows.length : Int) := by omega
  clear hset hP hM h1 h2 h3 h4
  go_wp2_with fail
  go_end0
  rw [HN.out]
  exact ⟨rfl, _, _, HP2.out⟩
end
end Go.Proofs.YtgiilaaoeefpmaaGreat.Gr
