import Derived.Test.YtcicifcnffacpaaDoorCeRc
import Derived.Test.YtcicifcnffacpaaDoorJK
import Derived.Deep.DeepCutAuto
set_option linter.unusedSimpArgs false
namespace Go.Proofs.YtcicifcnffacpaaDoor.Cd
open Go.RowKit Go.Proofs.YtcicifcnffacpaaDoor.Nm Go.Proofs.YtcicifcnffacpaaDoor.Vf

/-! the whole, in the reference's order -/
def qFin (p : Pg) (i : Nat) (t : List Nat) : Rs Pg := if t = [] then .ok p i t else .die 84 i
def qK6 (gh : List Bool) (vs : List (Int × Int × Int)) (ts on : List Int) (ms : Int) (cd : List Ins) : Nat → List Nat → Rs Pg := qFin ⟨gh, vs, ts, on, ms, cd⟩
def qK5 (gh : List Bool) (vs : List (Int × Int × Int)) (ts on : List Int) (ms : Int) (i : Nat) (t : List Nat) : Rs Pg := (cnt 262144 i t).bind fun n i t => (lisR insR n [] i t).bind (qK6 gh vs ts on ms)
def qK4 (gh : List Bool) (vs : List (Int × Int × Int)) (ts on : List Int) (i : Nat) (t : List Nat) : Rs Pg := (num i t).bind fun u i t => qK5 gh vs ts on ((u : Int) - 1) i t
def qK3 (n : Nat) (gh : List Bool) (vs : List (Int × Int × Int)) (ts : List Int) (i : Nat) (t : List Nat) : Rs Pg := (lisR rpl n [] i t).bind (qK4 gh vs ts)
def qK2b (n : Nat) (gh : List Bool) (vs : List (Int × Int × Int)) (i : Nat) (t : List Nat) : Rs Pg := (cnt 4 i t).bind fun m i t => (lisR rnu m [] i t).bind (qK3 n gh vs)
def qK2a (n : Nat) (gh : List Bool) (i : Nat) (t : List Nat) : Rs Pg := (cnt 16 i t).bind fun m i t => (lisR var m [] i t).bind (qK2b n gh)
def qK1 (i : Nat) (t : List Nat) : Rs Pg := (cnt 16 i t).bind fun n i t => (lisR gho n [] i t).bind fun gh i t => qK2a gh.length gh i t
theorem rpl_bind {β : Type} (i : Nat) (t : List Nat) (g : Int → Nat → List Nat → Rs β) : (rpl i t).bind g = (num i t).bind fun u i t => g ((u : Int) - 1) i t := by
  unfold rpl
  rw [rs_assoc]
  rfl
theorem who_eq (s : List Nat) : whoR s = (tagR 0 s).bind fun _ i t => qK1 i t := by
  unfold whoR prgR tabR qK1 qK2a qK2b qK3 qK4 qK5 qK6 qFin
  simp only [rs_assoc, rpl_bind]
  rfl
theorem lisR_len {α : Type} {f : Nat → List Nat → Rs α} : ∀ (n : Nat) (l : List α) (i : Nat) (t : List Nat) (l' : List α) (j : Nat) (t' : List Nat), lisR f n l i t = .ok l' j t' → l'.length = l.length + n
  | 0, l, i, t, l', j, t', h => by
    cases h
    rfl
  | n + 1, l, i, t, l', j, t', h => by
    obtain ⟨a, i1, t1, h1, h2⟩ := bind_ok h
    have := lisR_len n _ _ _ _ _ _ h2
    rw [this, List.length_append]
    simp
    omega
theorem gho_K1 (n i : Nat) (t : List Nat) : ((lisR gho n [] i t).bind fun gh i t => qK2a gh.length gh i t) = (lisR gho n [] i t).bind fun gh i t => qK2a n gh i t := by
  cases h : lisR gho n [] i t with
  | die er k => rfl
  | ok l j t' =>
    have := lisR_len n [] i t l j t' h
    show qK2a l.length l j t' = qK2a n l j t'
    rw [this]
    simp
section
variable {W w w0 w1 : World} {b pb n sz lb j : Nat} {bo : Option Addr} {bc : Nat} {s : List Nat} {R : Rs Pg} {K K2 : Nat → List Nat → Rs Pg} {C : Value → Array Value} {A : Array Value} {L : List Ent} {T : TypeId} {xs : List Value} {v u : Value}
theorem Lq.setA (h : Lq w0 b pb C T sz n xs v w) (hne : ∀ k, v.ownBlock = some k → k ≠ lb) (hge : w0.heap.size ≤ lb) : Lq w0 b pb C T sz n xs v (w.setCell ⟨lb, j, none⟩ u) := by
  have hl := h.lt
  have hset : ∀ k, k ≠ lb → (w.setCell ⟨lb, j, none⟩ u).heap[k]? = w.heap[k]? := fun k hk => Below.heap_setCell w _ u k (fun e => hk e)
  have hsz : (w.setCell ⟨lb, j, none⟩ u).heap.size = w.heap.size := by simp [World.setCell]
  exact ⟨⟨h.fr.os, h.fr.tape, h.fr.output, by rw [hsz]; exact h.fr.size, fun k hk hn => (hset k (by omega)).trans (h.fr.block k hk hn)⟩, (hset pb (by omega)).trans h.hb, own_keepB h.ow fun k e => hset k (hne k e), hl⟩
/-- the reference's Decode at work since W -/
structure Qs (W w : World) (b pb : Nat) (bo : Option Addr) (bc : Nat) (s : List Nat) (R : Rs Pg) (K : Nat → List Nat → Rs Pg) (A : Array Value) (L : List Ent) : Prop where
  bel : Below W.heap.size W w
  zp : w.heap[W.heap.size]? = some (.cells zP 27 (0, 0))
  zf : w.heap[W.heap.size + 1]? = some (.cells #[.int .i64 0, .int .i64 0] 46 (0, 0))
  hb : w.heap[pb]? = some (.cells A 27 (0, 0))
  ct : Ctn w b bo bc s R K
  ow : Ows w pb L
  lt : W.heap.size + 1 < b ∧ b < pb
theorem Qs.fg (h : Qs W w b pb bo bc s R K A L) (hf : Fg b w w1) (hc : Ctn w1 b bo bc s R K2) : Qs W w1 b pb bo bc s R K2 A L := by
  have hl := h.lt
  have hs := h.bel.size
  exact ⟨⟨hf.os.trans h.bel.os, hf.tape.trans h.bel.tape, hf.output.trans h.bel.output, Nat.le_trans hs hf.size, fun k hk => (hf.block k (by omega) (by omega)).trans (h.bel.block k hk)⟩, (hf.block _ (blk_lt h.zp) (by omega)).trans h.zp, (hf.block _ (blk_lt h.zf) (by omega)).trans h.zf, (hf.block _ (blk_lt h.hb) (by omega)).trans h.hb, hc, h.ow.fg hf (by omega), hl⟩
theorem Qs.lq (h : Qs W w0 b pb bo bc s R K A L) (hl : Lq w0 b pb C T sz n xs v w) (hc : Ctn w b bo bc s R K2) : Qs W w b pb bo bc s R K2 (C v) (L ++ [⟨w0.heap.size, T, sz, v, n, xs⟩]) := by
  have hlt := h.lt
  have hs := h.bel.size
  have hf := hl.fr
  have h1 := h.ow.fb hf (by omega)
  refine ⟨⟨hf.os.trans h.bel.os, hf.tape.trans h.bel.tape, hf.output.trans h.bel.output, Nat.le_trans hs hf.size, fun k hk => (hf.block k (by omega) (by simp; omega)).trans (h.bel.block k hk)⟩, (hf.block _ (blk_lt h.zp) (by simp; omega)).trans h.zp, (hf.block _ (blk_lt h.zf) (by simp; omega)).trans h.zf, hl.hb, hc, ⟨fun x hx => ?_, ?_⟩, hlt⟩
  · rcases List.mem_append.1 hx with hx | hx
    · exact h1.ow x hx
    · obtain rfl : x = ⟨w0.heap.size, T, sz, v, n, xs⟩ := by simpa using hx
      exact ⟨hl.lt.2, hl.ow⟩
  · rw [List.pairwise_append]
    refine ⟨h.ow.ap, by simp, fun x hx y hy k e e2 => ?_⟩
    obtain rfl : y = ⟨w0.heap.size, T, sz, v, n, xs⟩ := by simpa using hy
    have q1 := (World.ownsRow.lt (h.ow.ow x hx).2 k e).2
    have q2 := (World.ownsRow.lt hl.ow k e2).1
    omega
theorem Qs.imp (h : Qs W w b pb bo bc s R K A L) (hK : ∀ i, R = K i (s.drop i) → R = K2 i (s.drop i)) : Qs W w b pb bo bc s R K2 A L := ⟨h.bel, h.zp, h.zf, h.hb, h.ct.imp hK, h.ow, h.lt⟩
theorem Qs.put (h : Qs W w b pb bo bc s R K A L) (j : Nat) (u : Value) : Qs W (w.setCell ⟨pb, j, none⟩ u) b pb bo bc s R K (A.setIfInBounds j u) L := by
  have hlt := h.lt
  have hs := h.bel.size
  have hset : ∀ k, k ≠ pb → (w.setCell ⟨pb, j, none⟩ u).heap[k]? = w.heap[k]? := fun k hk => Below.heap_setCell w _ u k (fun e => hk e)
  exact ⟨h.bel.setCell (p := ⟨pb, j, none⟩) (by show _ ≤ pb; omega) u, (hset _ (by omega)).trans h.zp, (hset _ (by omega)).trans h.zf, heap_setCell_same w pb j _ _ u h.hb, h.ct.keep (fun k hk => hset k (by omega)) (by simp [World.setCell]), h.ow.set u, hlt⟩
end
/-- the first byte -/
theorem qtag_any {W : World} {b : Nat} {bo : Option Addr} {bc : Nat} {s : List Nat} (h : Rn W b bo bc s 0 0 0) : Calls Tryd.prog 44 #[.pointer (some ⟨b, 0, none⟩)] W fun e W' => ∃ x i er k : Nat, e = .returned (.int .i64 (x : Int)) ∧ Rn W' b bo bc s i er k ∧ Fg b W W' ∧ ((er = 0 ∧ k = 0 ∧ x = 87 ∧ whoR s = qK1 i (s.drop i)) ∨ (er = 0 ∧ k = 0 ∧ x ≠ 87 ∧ whoR s = .die 83 0) ∨ (er ≠ 0 ∧ whoR s = .die er k)) := by
  by_cases hi : 0 < s.length
  · refine (qbyte_ok h hi).mono ?_
    rintro e W' ⟨rfl, h1, h2⟩
    refine ⟨s[0], 1, 0, 0, rfl, h1, h2, ?_⟩
    have hd : s = s[0] :: s.drop 1 := by
      have := drop_at hi
      rwa [List.drop_zero] at this
    by_cases hx : s[0] = 87
    · refine Or.inl ⟨rfl, rfl, hx, ?_⟩
      rw [who_eq]
      conv => lhs; rw [hd]
      show (if s[0] = 87 then _ else _ : Rs Unit).bind _ = _
      rw [if_pos hx]
      rfl
    · refine Or.inr (Or.inl ⟨rfl, rfl, hx, ?_⟩)
      rw [who_eq, hd]
      show (if s[0] = 87 then _ else _ : Rs Unit).bind _ = _
      rw [if_neg hx]
      rfl
  · have hs : s = [] := List.eq_nil_of_length_eq_zero (by omega)
    refine (qbyte_end h (by omega)).mono ?_
    rintro e W' ⟨rfl, h1, h2⟩
    refine ⟨0, 0, 81, 0, rfl, h1, h2, Or.inr (Or.inr ⟨by decide, ?_⟩)⟩
    rw [hs]
    rfl
theorem isPg_nil (W : World) : IsPg W ⟨none, 0, none, 0, none, 0, none, 0, none, 0⟩ pg0 := by
  refine ⟨?_, ?_, ?_, ?_, ?_, by decide, by decide, by decide, by decide, by decide⟩
  all_goals
    intro k x hx
    simp [pg0, Vf.bC, Vf.vC, Vf.iC, Vf.cC] at hx
set_option maxHeartbeats 102400000 in
set_option maxRecDepth 100000 in
/-- the reference's Decode -/
theorem qdec_any {W : World} {bo : Option Addr} {bc : Nat} {s : List Nat} {p : Pg} {er i : Nat} (hd : decR s = (p, er, i)) (hr : Cd.Rd W bo W.heap.size (u8L s)) (hs : s.length ≤ 1000000000) (hb : byts s) :
    Calls Tryd.prog 20 #[.slice bo s.length bc] W fun e W' => ∃ u : PV, e = .returned (.tuple #[.agg (pvC u p), .agg #[.int .i64 (er : Int), .int .i64 (i : Int)]]) ∧ IsPg W' u p ∧ Below W.heap.size W W' := by
  obtain ⟨R, hR⟩ : ∃ R, R = whoR s := ⟨_, rfl⟩
  have HDc : Hid (R = whoR s ∧ decR s = (p, er, i) ∧ s.length ≤ 1000000000 ∧ byts s) := ⟨hR, hd, hs, hb⟩
  have HB0 : Hid (Below W.heap.size W (((W.alloc (.cells #[.slice none 0 0, .slice none 0 0, .slice none 0 0, .slice none 0 0, .int .i64 0, .slice none 0 0] 27)).alloc (.cells #[.int .i64 0, .int .i64 0] 46)).alloc (.cells #[.slice bo s.length bc, .int .i64 0, .int .i64 0, .int .i64 0] 95)) ∧ (((W.alloc (.cells #[.slice none 0 0, .slice none 0 0, .slice none 0 0, .slice none 0 0, .int .i64 0, .slice none 0 0] 27)).alloc (.cells #[.int .i64 0, .int .i64 0] 46)).alloc (.cells #[.slice bo s.length bc, .int .i64 0, .int .i64 0, .int .i64 0] 95)).heap[W.heap.size]? = some (.cells #[.slice none 0 0, .slice none 0 0, .slice none 0 0, .slice none 0 0, .int .i64 0, .slice none 0 0] 27 (0, 0)) ∧ (((W.alloc (.cells #[.slice none 0 0, .slice none 0 0, .slice none 0 0, .slice none 0 0, .int .i64 0, .slice none 0 0] 27)).alloc (.cells #[.int .i64 0, .int .i64 0] 46)).alloc (.cells #[.slice bo s.length bc, .int .i64 0, .int .i64 0, .int .i64 0] 95)).heap[W.heap.size + 1]? = some (.cells #[.int .i64 0, .int .i64 0] 46 (0, 0)) ∧ Rn (((W.alloc (.cells #[.slice none 0 0, .slice none 0 0, .slice none 0 0, .slice none 0 0, .int .i64 0, .slice none 0 0] 27)).alloc (.cells #[.int .i64 0, .int .i64 0] 46)).alloc (.cells #[.slice bo s.length bc, .int .i64 0, .int .i64 0, .int .i64 0] 95)) (W.heap.size + 1 + 1) bo bc s 0 0 0) := by
    obtain ⟨hw, hb2⟩ := two_new W #[.slice none 0 0, .slice none 0 0, .slice none 0 0, .slice none 0 0, .int .i64 0, .slice none 0 0] #[.int .i64 0, .int .i64 0]
    have hb3 : Below ((W.alloc (.cells #[.slice none 0 0, .slice none 0 0, .slice none 0 0, .slice none 0 0, .int .i64 0, .slice none 0 0] 27)).alloc (.cells #[.int .i64 0, .int .i64 0] 46)).heap.size ((W.alloc (.cells #[.slice none 0 0, .slice none 0 0, .slice none 0 0, .slice none 0 0, .int .i64 0, .slice none 0 0] 27)).alloc (.cells #[.int .i64 0, .int .i64 0] 46)) (((W.alloc (.cells #[.slice none 0 0, .slice none 0 0, .slice none 0 0, .slice none 0 0, .int .i64 0, .slice none 0 0] 27)).alloc (.cells #[.int .i64 0, .int .i64 0] 46)).alloc (.cells #[.slice bo s.length bc, .int .i64 0, .int .i64 0, .int .i64 0] 95)) := (Below.refl _ _).alloc (Nat.le_refl _) _
    have hsz : ((W.alloc (.cells #[.slice none 0 0, .slice none 0 0, .slice none 0 0, .slice none 0 0, .int .i64 0, .slice none 0 0] 27)).alloc (.cells #[.int .i64 0, .int .i64 0] 46)).heap.size = W.heap.size + 1 + 1 := by simp
    have hn := heap_alloc_new ((W.alloc (.cells #[.slice none 0 0, .slice none 0 0, .slice none 0 0, .slice none 0 0, .int .i64 0, .slice none 0 0] 27)).alloc (.cells #[.int .i64 0, .int .i64 0] 46)) (.cells #[.slice bo s.length bc, .int .i64 0, .int .i64 0, .int .i64 0] 95)
    rw [hsz] at hn
    refine ⟨hb2.trans (hb3.mono hb2.size), (hb3.block _ (blk_lt hw.p)).trans hw.p, (hb3.block _ (blk_lt hw.f)).trans hw.f, hn, ?_, Nat.zero_le _, hs, hb⟩
    exact rd_mono (hr.below (hb2.trans (hb3.mono hb2.size))) (by omega)
  clear hd hr hs hb hR
  go_enter Tryd.func20, Tryd.ntmps20
  go_upto_region 2 with fail
  generalize (((W.alloc (.cells #[.slice none 0 0, .slice none 0 0, .slice none 0 0, .slice none 0 0, .int .i64 0, .slice none 0 0] 27)).alloc (.cells #[.int .i64 0, .int .i64 0] 46)).alloc (.cells #[.slice bo s.length bc, .int .i64 0, .int .i64 0, .int .i64 0] 95)) = w0 at *
  obtain ⟨b, hbb⟩ : ∃ b, b = W.heap.size + 1 + 1 := ⟨_, rfl⟩
  rw [← hbb] at HB0 ⊢
  have HBb : Hid (b = W.heap.size + 1 + 1) := hbb
  clear hbb
  go_wp2_with fail
  refine (qtag_any HB0.out.2.2.2).mono ?_
  rintro e w1 ⟨x, i1, e1, k1, rfl, hrn, hf, hcase⟩
  have HB1 : Hid (Below W.heap.size W w1 ∧ w1.heap[W.heap.size]? = some (.cells #[.slice none 0 0, .slice none 0 0, .slice none 0 0, .slice none 0 0, .int .i64 0, .slice none 0 0] 27 (0, 0)) ∧ w1.heap[W.heap.size + 1]? = some (.cells #[.int .i64 0, .int .i64 0] 46 (0, 0)) ∧ Rn w1 b bo bc s i1 e1 k1) := by
    obtain ⟨q1, q2, q3, q4⟩ := HB0.out
    have h9 := HBb.out
    have hs9 := q1.size
    exact ⟨⟨hf.os.trans q1.os, hf.tape.trans q1.tape, hf.output.trans q1.output, Nat.le_trans hs9 hf.size, fun k hk => (hf.block k (by omega) (by omega)).trans (q1.block k hk)⟩, (hf.block _ (blk_lt q2) (by omega)).trans q2, (hf.block _ (blk_lt q3) (by omega)).trans q3, hrn⟩
  have HCs : Hid ((e1 = 0 ∧ k1 = 0 ∧ x = 87 ∧ R = qK1 i1 (s.drop i1)) ∨ (e1 = 0 ∧ k1 = 0 ∧ x ≠ 87 ∧ R = .die 83 0) ∨ (e1 ≠ 0 ∧ R = .die e1 k1)) := by
    rw [HDc.out.1]
    exact hcase
  have HBd := show Hid _ from qbad_any hrn
  clear hrn hf hcase HB0
  go_upto_region 3 with fail
  go_cut [34] (fun c wx => ∃ r3 : Bool, c = .bool r3 ∧ w1 = wx ∧ (r3 = true → e1 = 0 ∧ k1 = 0 ∧ R = .die 83 0) ∧ (r3 = false → (e1 = 0 ∧ k1 = 0 ∧ R = qK1 i1 (s.drop i1)) ∨ (e1 ≠ 0 ∧ R = .die e1 k1)))
  case first =>
    as_aux_lemma =>
      rcases HCs.out with ⟨h1, h2, h3, h4⟩ | ⟨h1, h2, h3, h4⟩ | ⟨h1, h2⟩
      · have HF : Hid (R = qK1 i1 (s.drop i1)) := h4
        subst h1
        subst h2
        have hx1 : ((x : Int) != 87) = false := by subst h3; rfl
        have hx2 : ((x : Int) == 87) = true := by subst h3; rfl
        clear h3 h4
        go_wp2_with fail
        refine Calls.mono HBd.out ?_
        rintro e _ ⟨rfl, rfl⟩
        go_wp2_with fail
        go_meet
        exact ⟨false, rfl, rfl, fun h => by (cases h), fun _ => Or.inl ⟨by trivial, by trivial, HF.out⟩⟩
      · have HF : Hid (R = .die 83 0) := h4
        subst h1
        subst h2
        have hx1 : ((x : Int) != 87) = true := by rw [bne_iff_ne]; omega
        have hx2 : ((x : Int) == 87) = false := by rw [beq_eq_false_iff_ne]; omega
        clear h3 h4
        go_wp2_with fail
        refine Calls.mono HBd.out ?_
        rintro e _ ⟨rfl, rfl⟩
        go_wp2_with fail
        go_meet
        exact ⟨true, rfl, rfl, fun _ => ⟨by trivial, by trivial, HF.out⟩, fun h => by (cases h)⟩
      · have HF : Hid (e1 ≠ 0 ∧ R = .die e1 k1) := ⟨h1, h2⟩
        have he2 : ((e1 : Int) != 0) = true := by rw [bne_iff_ne]; omega
        rw [he2] at HBd
        clear h1 h2 he2
        go_wp2_with fail
        refine Calls.mono HBd.out ?_
        rintro e _ ⟨rfl, rfl⟩
        go_wp2_with fail
        go_meet
        exact ⟨false, rfl, rfl, fun h => by (cases h), fun _ => Or.inr HF.out⟩
  case rest =>
    obtain ⟨r3, rfl, rfl, hp1, hp2⟩ := hcut
    have HP : Hid ((r3 = true → e1 = 0 ∧ k1 = 0 ∧ R = .die 83 0) ∧ (r3 = false → (e1 = 0 ∧ k1 = 0 ∧ R = qK1 i1 (s.drop i1)) ∨ (e1 ≠ 0 ∧ R = .die e1 k1))) := ⟨hp1, hp2⟩
    clear hp1 hp2 HCs HBd
    go_upto_if 34 with fail
    go_cut [] (fun wx => Ctn wx b bo bc s R qK1 ∧ Fg b w1 wx)
    case first =>
      as_aux_lemma =>
        cases r3
        case false =>
          have HF : Hid (Ctn w1 b bo bc s R qK1) := ⟨i1, e1, k1, HB1.out.2.2.2, HP.out.2 (by trivial)⟩
          go_wp2_with fail
          go_meet
          exact ⟨HF.out, Fg.refl _ _⟩
        case true =>
          obtain ⟨h1, h2, h3⟩ := HP.out.1 (by trivial)
          subst h1
          subst h2
          have HF : Hid (R = .die 83 0) := h3
          clear h3
          go_wp2_with fail
          refine (qfail_new HB1.out.2.2.2 83 0).mono ?_
          rintro e w2 ⟨rfl, hw, hf⟩
          have HG : Hid (Ctn w2 b bo bc s R qK1 ∧ Fg b w1 w2) := ⟨⟨i1, 83, 0, hw, Or.inr ⟨by decide, HF.out⟩⟩, hf⟩
          clear hw hf
          go_wp2_with fail
          go_meet
          exact HG.out
    case rest =>
      obtain ⟨hct, hf⟩ := hcut
      have HQ0 : Hid (Qs W (wc.alloc (.cells #[.slice none 0 0, .slice none 0 0, .slice none 0 0, .slice none 0 0, .int .i64 0, .slice none 0 0] 27)) b wc.heap.size bo bc s R qK1 #[.slice none 0 0, .slice none 0 0, .slice none 0 0, .slice none 0 0, .int .i64 0, .slice none 0 0] []) := by
        obtain ⟨q1, q2, q3, q4⟩ := HB1.out
        have h9 := HBb.out
        have hs9 := q1.size
        have hb9 : Below wc.heap.size wc (wc.alloc (.cells #[.slice none 0 0, .slice none 0 0, .slice none 0 0, .slice none 0 0, .int .i64 0, .slice none 0 0] 27)) := (Below.refl _ wc).alloc (Nat.le_refl _) _
        have hbw : Below W.heap.size W wc := ⟨hf.os.trans q1.os, hf.tape.trans q1.tape, hf.output.trans q1.output, Nat.le_trans hs9 hf.size, fun k hk => (hf.block k (by omega) (by omega)).trans (q1.block k hk)⟩
        have hz1 := (hf.block _ (blk_lt q2) (by omega)).trans q2
        have hz2 := (hf.block _ (blk_lt q3) (by omega)).trans q3
        exact ⟨hbw.trans (hb9.mono hbw.size), (hb9.block _ (blk_lt hz1)).trans hz1, (hb9.block _ (blk_lt hz2)).trans hz2, heap_alloc_new _ _, hct.below hb9, ⟨fun x hx => absurd hx (by simp), List.Pairwise.nil⟩, by omega, hct.blt⟩
      clear hct hf HB1 HP
      go_upto_region 6 with fail
      generalize (wc.alloc (.cells #[.slice none 0 0, .slice none 0 0, .slice none 0 0, .slice none 0 0, .int .i64 0, .slice none 0 0] 27)) = a0 at *
      generalize wc.heap.size = pb at *
      obtain ⟨ia, hia, hia0, hia1, hia2⟩ := info_parts infoBo
      obtain ⟨ib, hib, hib0, hib1, hib2⟩ := info_parts infoVa
      obtain ⟨ic, hic, hic0, hic1, hic2⟩ := info_parts infoIn
      have HIa : Hid (Tryd.prog.info? 4 = some ia ∧ ia.zero = some (.bool false) ∧ ia.size = 1 ∧ ia.bytes = 1) := ⟨hia, hia0, hia1, hia2⟩
      have HIb : Hid (Tryd.prog.info? 77 = some ib ∧ ib.zero = some (.agg #[.int .i64 0, .int .i64 0, .int .i64 0]) ∧ ib.size = 3 ∧ ib.bytes = 24) := ⟨hib, hib0, hib1, hib2⟩
      have HIc : Hid (Tryd.prog.info? 3 = some ic ∧ ic.zero = some (.int .i64 0) ∧ ic.size = 1 ∧ ic.bytes = 8) := ⟨hic, hic0, hic1, hic2⟩
      clear hia hia0 hia1 hia2 hib hib0 hib1 hib2 hic hic0 hic1 hic2
      go_wp2_with fail
      refine (ctn_many (by decide) HQ0.out.ct).mono ?_
      rintro e a1 ⟨hf, q1, rfl, hct, hq1⟩
      have HQ1 : Hid (Qs W a1 b pb bo bc s R (fun i t => (lisR gho q1 [] i t).bind (qK2a q1)) #[.slice none 0 0, .slice none 0 0, .slice none 0 0, .slice none 0 0, .int .i64 0, .slice none 0 0] []) := (HQ0.out.fg hf hct).imp fun i h => by
        rw [h]
        exact gho_K1 q1 i (s.drop i)
      have HN1 : Hid (q1 ≤ 16) := hq1
      have hn1 : (q1 : Int) ≤ 16 := by omega
      clear hf hct hq1 HQ0
      go_wp2_with fail
      go_loopg [8] q1 (fun gq x wr => ∃ (k : Nat) (l : List Bool) (v : Value), k + gq = q1 ∧ x = .int .i64 (k : Int) ∧ l.length = k ∧ Lq a1 b pb (fun v : Value => #[v, .slice none 0 0, .slice none 0 0, .slice none 0 0, .int .i64 0, .slice none 0 0]) 4 1 l.length (bC l) v wr ∧ Ctn wr b bo bc s R fun i t => (lisR gho (q1 - k) l i t).bind (qK2a q1))
      case atStart => exact ⟨0, [], .slice none 0 0, by omega, rfl, rfl, Lq.start HQ1.out.hb HQ1.out.lt.2, HQ1.out.ct⟩
      case round =>
        obtain ⟨k, l, gv, hkg, rfl, hkl, hL, hct⟩ := hrel
        obtain ⟨bgv, cgv, egv⟩ := own_form hL.ow
        subst egv
        have HT : Hid (Lq a1 b pb (fun v : Value => #[v, .slice none 0 0, .slice none 0 0, .slice none 0 0, .int .i64 0, .slice none 0 0]) 4 1 l.length (bC l) (.slice bgv l.length cgv) wr ∧ Ctn wr b bo bc s R (fun i t => (lisR gho (q1 - k) l i t).bind (qK2a q1)) ∧ l.length = k ∧ k + gk = q1) := ⟨hL, hct, hkl, hkg⟩
        clear hkg hkl hL hct
        go_upto_region 8 with fail
        go_cut [47] (fun c wx => ∃ r : Bool, c = .bool r ∧ wr = wx ∧ (r = true → k < q1 ∧ ∃ i, Rn wr b bo bc s i 0 0 ∧ R = (gho i (s.drop i)).bind fun a i t => (lisR gho (q1 - (k + 1)) (l ++ [a]) i t).bind (qK2a q1)) ∧ (r = false → Ctn wr b bo bc s R ((qK2a q1) l)))
        case first =>
          as_aux_lemma =>
            by_cases hkm : k < q1
            case neg =>
              have hk1 : ¬ (k : Int) < (q1 : Int) := by omega
              have HE : Hid (Ctn wr b bo bc s R ((qK2a q1) l)) := HT.out.2.1.imp fun i h => by
                rw [h, show q1 - k = 0 by omega]
                rfl
              have hk2 : decide (k < q1) = false := decide_eq_false hkm
              clear hkm
              go_wp2_with fail
              go_meet
              exact ⟨false, rfl, rfl, fun h => by (cases h), fun _ => HE.out⟩
            case pos =>
              have hk1 : (k : Int) < (q1 : Int) := by omega
              have HKm : Hid (k < q1) := hkm
              clear hkm
              go_wp2_with fail
              refine (ctn_bad HT.out.2.1).mono ?_
              rintro e _ ⟨r, rfl, rfl, hr1, hr2⟩
              have HRr : Hid ((r = false → ∃ i, Rn wr b bo bc s i 0 0 ∧ R = (lisR gho (q1 - k) l i (s.drop i)).bind (qK2a q1)) ∧ (r = true → ∃ i er k, Rn wr b bo bc s i er k ∧ er ≠ 0 ∧ R = .die er k)) := ⟨hr1, hr2⟩
              clear hr1 hr2
              cases r
              case false =>
                go_wp2_with fail
                go_meet
                refine ⟨true, rfl, rfl, fun _ => ⟨HKm.out, ?_⟩, fun h => by (cases h)⟩
                obtain ⟨i, h1, h2⟩ := HRr.out.1 (by trivial)
                exact ⟨i, h1, by rw [h2, show q1 - k = (q1 - (k + 1)) + 1 by have := HKm.out; omega, lisR_bind]⟩
              case true =>
                go_wp2_with fail
                go_meet
                refine ⟨false, rfl, rfl, fun h => by (cases h), fun _ => ?_⟩
                obtain ⟨i, er, q, h1, h2, h3⟩ := HRr.out.2 (by trivial)
                exact ⟨i, er, q, h1, Or.inr ⟨h2, h3⟩⟩
        case rest =>
          obtain ⟨r, rfl, rfl, hr1, hr2⟩ := hcut
          have HRr : Hid ((r = true → k < q1 ∧ ∃ i, Rn wr b bo bc s i 0 0 ∧ R = (gho i (s.drop i)).bind fun a i t => (lisR gho (q1 - (k + 1)) (l ++ [a]) i t).bind (qK2a q1)) ∧ (r = false → Ctn wr b bo bc s R ((qK2a q1) l))) := ⟨hr1, hr2⟩
          clear hr1 hr2
          cases r
          case true =>
            as_aux_lemma =>
              obtain ⟨hkm, i0, hrn, hRR⟩ := HRr.out.1 (by trivial)
              have HKm : Hid (k < q1) := hkm
              have hk3 : (k : Int) < 1000000 := by have := HN1.out; omega
              have HG : Hid (Rn wr b bo bc s i0 0 0 ∧ R = (gho i0 (s.drop i0)).bind fun a i t => (lisR gho (q1 - (k + 1)) (l ++ [a]) i t).bind (qK2a q1)) := ⟨hrn, hRR⟩
              have HLl : Hid (l.length ≤ 1000000) := by
                have h1 := HT.out.2.2.1
                have h2 := HN1.out
                exact (by omega : l.length ≤ 1000000)
              clear hkm hrn hRR HRr
              obtain ⟨c0, c1, c2, c3, f1, f2, f3⟩ := HG.out.1.cells
              by_cases hi : i0 < s.length
              case pos =>
                have HN := show Hid _ from qbyte_ok HG.out.1 hi
                obtain ⟨x, hx0⟩ : ∃ x, s[i0] = x := ⟨_, rfl⟩
                rw [hx0] at HN
                have hRx : R = (gho i0 (x :: s.drop (i0 + 1))).bind fun a i t => (lisR gho (q1 - (k + 1)) (l ++ [a]) i t).bind (qK2a q1) := by rw [HG.out.2, drop_at hi, hx0]
                have HRx := show Hid _ from hRx
                clear hRx hx0 hi
                go_wp2_with fail
                refine Calls.mono HN.out ?_
                rintro e w3 ⟨rfl, hw, hf⟩
                have HW3 : Hid (Rn w3 b bo bc s (i0 + 1) 0 0 ∧ Lq a1 b pb (fun v : Value => #[v, .slice none 0 0, .slice none 0 0, .slice none 0 0, .int .i64 0, .slice none 0 0]) 4 1 l.length (bC l) (.slice bgv l.length cgv) w3) := ⟨hw, HT.out.1.fg hf⟩
                have HBd : Hid (Calls Tryd.prog 45 #[.pointer (some ⟨b, 0, none⟩)] w3 fun e W' => e = .returned (.bool false) ∧ w3 = W') := qbad_any hw
                clear hw hf HN c0 c1 c2 c3 f1 f2 f3
                go_wp2_with fail
                refine Calls.mono HBd.out ?_
                rintro e _ ⟨rfl, rfl⟩
                by_cases hx : 1 < x
                case pos =>
                  have hx1 : (1 : Int) < (x : Int) := by omega
                  have hx2 : decide (1 < x) = true := decide_eq_true hx
                  have hx3 : ((x : Int) == 1) = false := by rw [beq_eq_false_iff_ne]; omega
                  have hrr : R = .die 82 i0 := by
                    rw [HRx.out]
                    show (if 1 < x then Rs.die 82 i0 else _ : Rs Bool).bind _ = _
                    rw [if_pos hx]
                    rfl
                  have HRr := show Hid _ from hrr
                  clear hx hrr
                  go_wp2_with fail
                  refine (qfail_new HW3.out.1 82 i0).mono ?_
                  rintro e w4 ⟨rfl, hw, hf⟩
                  have HLC : Hid (Lq a1 b pb (fun v : Value => #[v, .slice none 0 0, .slice none 0 0, .slice none 0 0, .int .i64 0, .slice none 0 0]) 4 1 l.length (bC l) (.slice bgv l.length cgv) w4 ∧ Ctn w4 b bo bc s R (fun i t => (lisR gho (q1 - (k + 1)) (l ++ [(false : Bool)]) i t).bind (qK2a q1))) := ⟨HW3.out.2.fg hf, ⟨i0 + 1, 82, i0, hw, Or.inr ⟨by decide, HRr.out⟩⟩⟩
                  clear hw hf HW3 HBd hx1 hx2
                  have HY : Hid (Lq a1 b pb (fun v : Value => #[v, .slice none 0 0, .slice none 0 0, .slice none 0 0, .int .i64 0, .slice none 0 0]) 4 1 l.length (bC l) (.slice bgv l.length cgv) (w4.alloc (.cells #[.bool false] 4)) ∧ Ctn (w4.alloc (.cells #[.bool false] 4)) b bo bc s R (fun i t => (lisR gho (q1 - (k + 1)) (l ++ [(false : Bool)]) i t).bind (qK2a q1))) := by
                    have hb9 : Below w4.heap.size w4 (w4.alloc (.cells #[.bool false] 4)) := (Below.refl _ w4).alloc (Nat.le_refl _) _
                    exact ⟨HLC.out.1.below hb9, HLC.out.2.below hb9⟩
                  have c5 : w4.cell? ⟨pb, 0, none⟩ = some (.slice bgv l.length cgv) := HLC.out.1.cell rfl
                  have c6 : (w4.alloc (.cells #[.bool false] 4)).cell? ⟨pb, 0, none⟩ = some (.slice bgv l.length cgv) := HY.out.1.cell rfl
                  go_wp2_with (at_builtin; refine append_gone _ rfl _ _ 22 rfl a1.heap.size 4 ia (.bool false) 1 1 Tryd.underlying22 HIa.out.1 HIa.out.2.1 HIa.out.2.2.1 HIa.out.2.2.2 rfl (by decide) (.slice bgv l.length cgv) _ (bC l) rfl HY.out.1.ow ⟨w4.heap.size, 0, none⟩ 1 1 [.bool false] rfl rfl (cell_one w4 _ _) (by intro u hu; simp only [List.mem_cons, List.not_mem_nil, or_false] at hu; subst hu; rfl) (by have := HLl.out; unfold maxLen; omega) (by have := HLl.out; omega) HY.out.1.fr.size (by decide) ?_)
                  intro v4 w5 ho hG
                  have ho2 : w5.ownsRow a1.heap.size 4 1 v4 (l ++ [(false : Bool)]).length (bC l ++ [.bool false]) := by rw [List.length_append]; exact ho
                  obtain ⟨bv4, cv4, ev4⟩ := own_form ho
                  subst ev4
                  obtain ⟨hcell, hfro⟩ := HY.out.1.at4 hG (ix := 0) rfl
                  have HL4 : Hid (Lq a1 b pb (fun v : Value => #[v, .slice none 0 0, .slice none 0 0, .slice none 0 0, .int .i64 0, .slice none 0 0]) 4 1 (l ++ [(false : Bool)]).length (bC (l ++ [(false : Bool)])) (.slice bv4 (l.length + 1) cv4) (w5.setCell ⟨pb, 0, none⟩ (.slice bv4 (l.length + 1) cv4)) ∧ Ctn (w5.setCell ⟨pb, 0, none⟩ (.slice bv4 (l.length + 1) cv4)) b bo bc s R (fun i t => (lisR gho (q1 - (k + 1)) (l ++ [(false : Bool)]) i t).bind (qK2a q1))) := by
                    refine ⟨?_, HY.out.1.appC (ix := 0) HY.out.2 hG⟩
                    have h9 := HY.out.1.app (ix := 0) ho2 hG rfl
                    have e9 : bC (l ++ [(false : Bool)]) = bC l ++ [.bool false] := by simp [bC]
                    rw [e9]
                    exact h9
                  clear ho ho2 hG HY c5 c6
                  go_wp2_with fail
                  go_roundg (q1 - (k + 1))
                  case measure => have := HT.out.2.2.2; have := HKm.out; omega
                  case rel => exact ⟨k + 1, _, _, by have := HKm.out; omega, by go_num, by have := HT.out.2.2.1; simp; omega, HL4.out.1, HL4.out.2⟩
                case neg =>
                  have hx1 : decide ((1 : Int) < (x : Int)) = false := decide_eq_false (by omega)
                  have hx2 : decide (1 < x) = false := decide_eq_false hx
                  obtain ⟨gb, hgb⟩ : ∃ gb, ((x : Int) == 1) = gb := ⟨_, rfl⟩
                  have hgb2 : decide (x = 1) = gb := by
                    rw [← hgb]
                    by_cases h1 : x = 1
                    · subst h1; rfl
                    · rw [decide_eq_false h1]
                      symm
                      rw [beq_eq_false_iff_ne]
                      omega
                  have hrr : R = (lisR gho (q1 - (k + 1)) (l ++ [gb]) (i0 + 1) (s.drop (i0 + 1))).bind (qK2a q1) := by
                    rw [HRx.out]
                    show (if 1 < x then Rs.die 82 i0 else .ok (decide (x = 1)) (i0 + 1) (s.drop (i0 + 1)) : Rs Bool).bind _ = _
                    rw [if_neg hx, hgb2]
                    rfl
                  have HLC : Hid (Lq a1 b pb (fun v : Value => #[v, .slice none 0 0, .slice none 0 0, .slice none 0 0, .int .i64 0, .slice none 0 0]) 4 1 l.length (bC l) (.slice bgv l.length cgv) w3 ∧ Ctn w3 b bo bc s R (fun i t => (lisR gho (q1 - (k + 1)) (l ++ [(gb : Bool)]) i t).bind (qK2a q1))) := ⟨HW3.out.2, ⟨i0 + 1, 0, 0, HW3.out.1, Or.inl ⟨rfl, rfl, hrr⟩⟩⟩
                  clear hx hrr hgb2 HW3 HBd
                  have HY : Hid (Lq a1 b pb (fun v : Value => #[v, .slice none 0 0, .slice none 0 0, .slice none 0 0, .int .i64 0, .slice none 0 0]) 4 1 l.length (bC l) (.slice bgv l.length cgv) (w3.alloc (.cells #[.bool gb] 4)) ∧ Ctn (w3.alloc (.cells #[.bool gb] 4)) b bo bc s R (fun i t => (lisR gho (q1 - (k + 1)) (l ++ [(gb : Bool)]) i t).bind (qK2a q1))) := by
                    have hb9 : Below w3.heap.size w3 (w3.alloc (.cells #[.bool gb] 4)) := (Below.refl _ w3).alloc (Nat.le_refl _) _
                    exact ⟨HLC.out.1.below hb9, HLC.out.2.below hb9⟩
                  have c5 : w3.cell? ⟨pb, 0, none⟩ = some (.slice bgv l.length cgv) := HLC.out.1.cell rfl
                  have c6 : (w3.alloc (.cells #[.bool gb] 4)).cell? ⟨pb, 0, none⟩ = some (.slice bgv l.length cgv) := HY.out.1.cell rfl
                  go_wp2_with (at_builtin; refine append_gone _ rfl _ _ 22 rfl a1.heap.size 4 ia (.bool false) 1 1 Tryd.underlying22 HIa.out.1 HIa.out.2.1 HIa.out.2.2.1 HIa.out.2.2.2 rfl (by decide) (.slice bgv l.length cgv) _ (bC l) rfl HY.out.1.ow ⟨w3.heap.size, 0, none⟩ 1 1 [.bool gb] rfl rfl (cell_one w3 _ _) (by intro u hu; simp only [List.mem_cons, List.not_mem_nil, or_false] at hu; subst hu; rfl) (by have := HLl.out; unfold maxLen; omega) (by have := HLl.out; omega) HY.out.1.fr.size (by decide) ?_)
                  intro v4 w5 ho hG
                  have ho2 : w5.ownsRow a1.heap.size 4 1 v4 (l ++ [(gb : Bool)]).length (bC l ++ [.bool gb]) := by rw [List.length_append]; exact ho
                  obtain ⟨bv4, cv4, ev4⟩ := own_form ho
                  subst ev4
                  obtain ⟨hcell, hfro⟩ := HY.out.1.at4 hG (ix := 0) rfl
                  have HL4 : Hid (Lq a1 b pb (fun v : Value => #[v, .slice none 0 0, .slice none 0 0, .slice none 0 0, .int .i64 0, .slice none 0 0]) 4 1 (l ++ [(gb : Bool)]).length (bC (l ++ [(gb : Bool)])) (.slice bv4 (l.length + 1) cv4) (w5.setCell ⟨pb, 0, none⟩ (.slice bv4 (l.length + 1) cv4)) ∧ Ctn (w5.setCell ⟨pb, 0, none⟩ (.slice bv4 (l.length + 1) cv4)) b bo bc s R (fun i t => (lisR gho (q1 - (k + 1)) (l ++ [(gb : Bool)]) i t).bind (qK2a q1))) := by
                    refine ⟨?_, HY.out.1.appC (ix := 0) HY.out.2 hG⟩
                    have h9 := HY.out.1.app (ix := 0) ho2 hG rfl
                    have e9 : bC (l ++ [(gb : Bool)]) = bC l ++ [.bool gb] := by simp [bC]
                    rw [e9]
                    exact h9
                  clear ho ho2 hG HY c5 c6
                  go_wp2_with fail
                  go_roundg (q1 - (k + 1))
                  case measure => have := HT.out.2.2.2; have := HKm.out; omega
                  case rel => exact ⟨k + 1, _, _, by have := HKm.out; omega, by go_num, by have := HT.out.2.2.1; simp; omega, HL4.out.1, HL4.out.2⟩
              case neg =>
                have hie : i0 = s.length := by have := HG.out.1.le; omega
                have HN := show Hid _ from qbyte_end HG.out.1 hie
                have hrr : R = .die 81 i0 := by
                  rw [HG.out.2, drop_end hie]
                  rfl
                have HRr := show Hid _ from hrr
                clear hrr hi hie
                go_wp2_with fail
                refine Calls.mono HN.out ?_
                rintro e w4 ⟨rfl, hw, hf⟩
                have HLC : Hid (Lq a1 b pb (fun v : Value => #[v, .slice none 0 0, .slice none 0 0, .slice none 0 0, .int .i64 0, .slice none 0 0]) 4 1 l.length (bC l) (.slice bgv l.length cgv) w4 ∧ Ctn w4 b bo bc s R (fun i t => (lisR gho (q1 - (k + 1)) (l ++ [(false : Bool)]) i t).bind (qK2a q1))) := ⟨HT.out.1.fg hf, ⟨i0, 81, i0, hw, Or.inr ⟨by decide, HRr.out⟩⟩⟩
                have HBd : Hid (Calls Tryd.prog 45 #[.pointer (some ⟨b, 0, none⟩)] w4 fun e W' => e = .returned (.bool true) ∧ w4 = W') := qbad_any hw
                clear hw hf HN c0 c1 c2 c3 f1 f2 f3
                go_wp2_with fail
                refine Calls.mono HBd.out ?_
                rintro e _ ⟨rfl, rfl⟩
                clear HBd
                have HY : Hid (Lq a1 b pb (fun v : Value => #[v, .slice none 0 0, .slice none 0 0, .slice none 0 0, .int .i64 0, .slice none 0 0]) 4 1 l.length (bC l) (.slice bgv l.length cgv) (w4.alloc (.cells #[.bool false] 4)) ∧ Ctn (w4.alloc (.cells #[.bool false] 4)) b bo bc s R (fun i t => (lisR gho (q1 - (k + 1)) (l ++ [(false : Bool)]) i t).bind (qK2a q1))) := by
                  have hb9 : Below w4.heap.size w4 (w4.alloc (.cells #[.bool false] 4)) := (Below.refl _ w4).alloc (Nat.le_refl _) _
                  exact ⟨HLC.out.1.below hb9, HLC.out.2.below hb9⟩
                have c5 : w4.cell? ⟨pb, 0, none⟩ = some (.slice bgv l.length cgv) := HLC.out.1.cell rfl
                have c6 : (w4.alloc (.cells #[.bool false] 4)).cell? ⟨pb, 0, none⟩ = some (.slice bgv l.length cgv) := HY.out.1.cell rfl
                go_wp2_with (at_builtin; refine append_gone _ rfl _ _ 22 rfl a1.heap.size 4 ia (.bool false) 1 1 Tryd.underlying22 HIa.out.1 HIa.out.2.1 HIa.out.2.2.1 HIa.out.2.2.2 rfl (by decide) (.slice bgv l.length cgv) _ (bC l) rfl HY.out.1.ow ⟨w4.heap.size, 0, none⟩ 1 1 [.bool false] rfl rfl (cell_one w4 _ _) (by intro u hu; simp only [List.mem_cons, List.not_mem_nil, or_false] at hu; subst hu; rfl) (by have := HLl.out; unfold maxLen; omega) (by have := HLl.out; omega) HY.out.1.fr.size (by decide) ?_)
                intro v4 w5 ho hG
                have ho2 : w5.ownsRow a1.heap.size 4 1 v4 (l ++ [(false : Bool)]).length (bC l ++ [.bool false]) := by rw [List.length_append]; exact ho
                obtain ⟨bv4, cv4, ev4⟩ := own_form ho
                subst ev4
                obtain ⟨hcell, hfro⟩ := HY.out.1.at4 hG (ix := 0) rfl
                have HL4 : Hid (Lq a1 b pb (fun v : Value => #[v, .slice none 0 0, .slice none 0 0, .slice none 0 0, .int .i64 0, .slice none 0 0]) 4 1 (l ++ [(false : Bool)]).length (bC (l ++ [(false : Bool)])) (.slice bv4 (l.length + 1) cv4) (w5.setCell ⟨pb, 0, none⟩ (.slice bv4 (l.length + 1) cv4)) ∧ Ctn (w5.setCell ⟨pb, 0, none⟩ (.slice bv4 (l.length + 1) cv4)) b bo bc s R (fun i t => (lisR gho (q1 - (k + 1)) (l ++ [(false : Bool)]) i t).bind (qK2a q1))) := by
                  refine ⟨?_, HY.out.1.appC (ix := 0) HY.out.2 hG⟩
                  have h9 := HY.out.1.app (ix := 0) ho2 hG rfl
                  have e9 : bC (l ++ [(false : Bool)]) = bC l ++ [.bool false] := by simp [bC]
                  rw [e9]
                  exact h9
                clear ho ho2 hG HY c5 c6
                go_wp2_with fail
                go_roundg (q1 - (k + 1))
                case measure => have := HT.out.2.2.2; have := HKm.out; omega
                case rel => exact ⟨k + 1, _, _, by have := HKm.out; omega, by go_num, by have := HT.out.2.2.1; simp; omega, HL4.out.1, HL4.out.2⟩
          case false =>
            have HEd : Hid (Ctn wr b bo bc s R ((qK2a q1) l)) := HRr.out.2 (by trivial)
            obtain ⟨g1, hg1⟩ : ∃ g, g = Value.slice bgv l.length cgv := ⟨_, rfl⟩
            obtain ⟨l1, hl1⟩ : ∃ q, q = l := ⟨_, rfl⟩
            rw [← hg1] at HT
            rw [← hl1] at HT HEd
            clear hg1 hl1 HRr
            have HU1 : Hid (Qs W wr b pb bo bc s R ((qK2a q1) l1) #[g1, .slice none 0 0, .slice none 0 0, .slice none 0 0, .int .i64 0, .slice none 0 0] [(en1 a1.heap.size g1 l1)]) := HQ1.out.lq HT.out.1 HEd.out
            clear HT HEd HQ1
            go_wp2_with fail
            refine (ctn_many (most := 16) (by decide) HU1.out.ct).mono ?_
            rintro e a2 ⟨hf, q2, rfl, hct, hq⟩
            have HQ2 : Hid (Qs W a2 b pb bo bc s R (fun i t => (lisR var q2 [] i t).bind (qK2b q1 l1)) #[g1, .slice none 0 0, .slice none 0 0, .slice none 0 0, .int .i64 0, .slice none 0 0] [(en1 a1.heap.size g1 l1)]) := HU1.out.fg hf hct
            have HN2 : Hid (q2 ≤ 16) := hq
            have hn2 : (q2 : Int) ≤ 16 := by omega
            clear hf hct hq HU1
            go_wp2_with fail
            go_loopg [12] q2 (fun gq x wr => ∃ (k : Nat) (l : List (Int × Int × Int)) (v : Value), k + gq = q2 ∧ x = .int .i64 (k : Int) ∧ l.length = k ∧ Lq a2 b pb (fun v : Value => #[g1, v, .slice none 0 0, .slice none 0 0, .int .i64 0, .slice none 0 0]) 77 3 l.length (vC l) v wr ∧ Ctn wr b bo bc s R fun i t => (lisR var (q2 - k) l i t).bind (qK2b q1 l1))
            case atStart => exact ⟨0, [], .slice none 0 0, by omega, rfl, rfl, Lq.start HQ2.out.hb HQ2.out.lt.2, HQ2.out.ct⟩
            case round =>
              obtain ⟨k, l, gv, hkg, rfl, hkl, hL, hct⟩ := hrel
              obtain ⟨bgv, cgv, egv⟩ := own_form hL.ow
              subst egv
              have HT : Hid (Lq a2 b pb (fun v : Value => #[g1, v, .slice none 0 0, .slice none 0 0, .int .i64 0, .slice none 0 0]) 77 3 l.length (vC l) (.slice bgv l.length cgv) wr ∧ Ctn wr b bo bc s R (fun i t => (lisR var (q2 - k) l i t).bind (qK2b q1 l1)) ∧ l.length = k ∧ k + gk = q2) := ⟨hL, hct, hkl, hkg⟩
              clear hkg hkl hL hct
              go_upto_region 17 with fail
              go_cut [82] (fun c wx => ∃ r : Bool, c = .bool r ∧ wr = wx ∧ (r = true → k < q2 ∧ ∃ i, Rn wr b bo bc s i 0 0 ∧ R = (var i (s.drop i)).bind fun a i t => (lisR var (q2 - (k + 1)) (l ++ [a]) i t).bind (qK2b q1 l1)) ∧ (r = false → Ctn wr b bo bc s R ((qK2b q1 l1) l)))
              case first =>
                as_aux_lemma =>
                  by_cases hkm : k < q2
                  case neg =>
                    have hk1 : ¬ (k : Int) < (q2 : Int) := by omega
                    have HE : Hid (Ctn wr b bo bc s R ((qK2b q1 l1) l)) := HT.out.2.1.imp fun i h => by
                      rw [h, show q2 - k = 0 by omega]
                      rfl
                    have hk2 : decide (k < q2) = false := decide_eq_false hkm
                    clear hkm
                    go_wp2_with fail
                    go_meet
                    exact ⟨false, rfl, rfl, fun h => by (cases h), fun _ => HE.out⟩
                  case pos =>
                    have hk1 : (k : Int) < (q2 : Int) := by omega
                    have HKm : Hid (k < q2) := hkm
                    clear hkm
                    go_wp2_with fail
                    refine (ctn_bad HT.out.2.1).mono ?_
                    rintro e _ ⟨r, rfl, rfl, hr1, hr2⟩
                    have HRr : Hid ((r = false → ∃ i, Rn wr b bo bc s i 0 0 ∧ R = (lisR var (q2 - k) l i (s.drop i)).bind (qK2b q1 l1)) ∧ (r = true → ∃ i er k, Rn wr b bo bc s i er k ∧ er ≠ 0 ∧ R = .die er k)) := ⟨hr1, hr2⟩
                    clear hr1 hr2
                    cases r
                    case false =>
                      go_wp2_with fail
                      go_meet
                      refine ⟨true, rfl, rfl, fun _ => ⟨HKm.out, ?_⟩, fun h => by (cases h)⟩
                      obtain ⟨i, h1, h2⟩ := HRr.out.1 (by trivial)
                      exact ⟨i, h1, by rw [h2, show q2 - k = (q2 - (k + 1)) + 1 by have := HKm.out; omega, lisR_bind]⟩
                    case true =>
                      go_wp2_with fail
                      go_meet
                      refine ⟨false, rfl, rfl, fun h => by (cases h), fun _ => ?_⟩
                      obtain ⟨i, er, q, h1, h2, h3⟩ := HRr.out.2 (by trivial)
                      exact ⟨i, er, q, h1, Or.inr ⟨h2, h3⟩⟩
              case rest =>
                obtain ⟨r, rfl, rfl, hr1, hr2⟩ := hcut
                have HRr : Hid ((r = true → k < q2 ∧ ∃ i, Rn wr b bo bc s i 0 0 ∧ R = (var i (s.drop i)).bind fun a i t => (lisR var (q2 - (k + 1)) (l ++ [a]) i t).bind (qK2b q1 l1)) ∧ (r = false → Ctn wr b bo bc s R ((qK2b q1 l1) l))) := ⟨hr1, hr2⟩
                clear hr1 hr2
                cases r
                case true =>
                  as_aux_lemma =>
                    obtain ⟨hkm, i0, hrn, hRR⟩ := HRr.out.1 (by trivial)
                    have HKm : Hid (k < q2) := hkm
                    have hk3 : (k : Int) < 1000000 := by have := HN2.out; omega
                    have HG : Hid (Rn wr b bo bc s i0 0 0 ∧ R = (var i0 (s.drop i0)).bind fun a i t => (lisR var (q2 - (k + 1)) (l ++ [a]) i t).bind (qK2b q1 l1)) := ⟨hrn, hRR⟩
                    have HLl : Hid (l.length ≤ 1000000) := by
                      have h1 := HT.out.2.2.1
                      have h2 := HN2.out
                      exact (by omega : l.length ≤ 1000000)
                    clear hkm hrn hRR HRr
                    have HCt : Hid (Ctn wr b bo bc s R fun i t => (rsg i t).bind fun x1 i t => (rsg i t).bind fun x2 i t => (rsg i t).bind fun x3 i t => (lisR var (q2 - (k + 1)) (l ++ [(x1, x2, x3)]) i t).bind (qK2b q1 l1)) := by
                      refine ⟨i0, 0, 0, HG.out.1, Or.inl ⟨rfl, rfl, ?_⟩⟩
                      rw [HG.out.2]
                      unfold var
                      simp only [rs_assoc]
                      rfl
                    go_wp2_with fail
                    refine (ctn_int HCt.out).mono ?_
                    rintro e w3 ⟨hf, x1, rfl, hct⟩
                    have HV1 : Hid (Lq a2 b pb (fun v : Value => #[g1, v, .slice none 0 0, .slice none 0 0, .int .i64 0, .slice none 0 0]) 77 3 l.length (vC l) (.slice bgv l.length cgv) (w3.alloc (.cells #[.int .i64 x1, .int .i64 0, .int .i64 0] 77)) ∧ Ctn (w3.alloc (.cells #[.int .i64 x1, .int .i64 0, .int .i64 0] 77)) b bo bc s R (fun i t => (rsg i t).bind fun x2 i t => (rsg i t).bind fun x3 i t => (lisR var (q2 - (k + 1)) (l ++ [(x1, x2, x3)]) i t).bind (qK2b q1 l1)) ∧ (w3.alloc (.cells #[.int .i64 x1, .int .i64 0, .int .i64 0] 77)).heap[w3.heap.size]? = some (.cells #[.int .i64 x1, .int .i64 0, .int .i64 0] 77 (0, 0)) ∧ a2.heap.size ≤ w3.heap.size ∧ ∀ k, (Value.slice bgv l.length cgv).ownBlock = some k → k ≠ w3.heap.size) := by
                      have hb9 : Below w3.heap.size w3 (w3.alloc (.cells #[.int .i64 x1, .int .i64 0, .int .i64 0] 77)) := (Below.refl _ w3).alloc (Nat.le_refl _) _
                      have hq := HT.out.1.fg hf
                      exact ⟨hq.below hb9, hct.below hb9, heap_alloc_new _ _, hq.fr.size, fun k e => by have := (World.ownsRow.lt hq.ow k e).2; omega⟩
                    clear hf hct HCt HG
                    go_upto_region 20 with fail
                    generalize w3.alloc (.cells #[.int .i64 x1, .int .i64 0, .int .i64 0] 77) = w4 at *
                    generalize w3.heap.size = vb at *
                    go_wp2_with fail
                    refine (ctn_int HV1.out.2.1).mono ?_
                    rintro e w6 ⟨hf, x2, rfl, hct⟩
                    have HV2 : Hid (Lq a2 b pb (fun v : Value => #[g1, v, .slice none 0 0, .slice none 0 0, .int .i64 0, .slice none 0 0]) 77 3 l.length (vC l) (.slice bgv l.length cgv) (w6.setCell ⟨vb, 1, none⟩ (.int .i64 x2)) ∧ Ctn (w6.setCell ⟨vb, 1, none⟩ (.int .i64 x2)) b bo bc s R (fun i t => (rsg i t).bind fun x3 i t => (lisR var (q2 - (k + 1)) (l ++ [(x1, x2, x3)]) i t).bind (qK2b q1 l1)) ∧ (w6.setCell ⟨vb, 1, none⟩ (.int .i64 x2)).heap[vb]? = some (.cells #[.int .i64 x1, .int .i64 x2, .int .i64 0] 77 (0, 0)) ∧ a2.heap.size ≤ vb ∧ (∀ k, (Value.slice bgv l.length cgv).ownBlock = some k → k ≠ vb) ∧ w6.heap[vb]? = some (.cells #[.int .i64 x1, .int .i64 0, .int .i64 0] 77 (0, 0))) := by
                      obtain ⟨q1', q2', q3', q4', q5'⟩ := HV1.out
                      have hl9 := q1'.lt
                      have hv := (hf.block vb (blk_lt q3') (by omega)).trans q3'
                      refine ⟨(q1'.fg hf).setA q5' q4', hct.keep (fun k' hk' => Below.heap_setCell w6 _ _ k' (fun e => by have e' : k' = vb := e; omega)) (by simp [World.setCell]), ?_, q4', q5', hv⟩
                      rw [heap_setCell_same w6 vb 1 _ _ _ hv]
                      rfl
                    have d1 : w6.cell? ⟨vb, 1, none⟩ = some (.int .i64 0) := by
                      have h9 := HV2.out.2.2.2.2.2
                      simp only [World.cell?, h9]
                      rfl
                    have z1 := fzb HV2.out.2.2.2.2.2 1
                    clear hf hct HV1
                    go_upto_region 21 with fail
                    clear d1 z1
                    generalize w6.setCell ⟨vb, 1, none⟩ (.int .i64 x2) = w7 at *
                    have HV2b : Hid (Lq a2 b pb (fun v : Value => #[g1, v, .slice none 0 0, .slice none 0 0, .int .i64 0, .slice none 0 0]) 77 3 l.length (vC l) (.slice bgv l.length cgv) w7 ∧ Ctn w7 b bo bc s R (fun i t => (rsg i t).bind fun x3 i t => (lisR var (q2 - (k + 1)) (l ++ [(x1, x2, x3)]) i t).bind (qK2b q1 l1)) ∧ w7.heap[vb]? = some (.cells #[.int .i64 x1, .int .i64 x2, .int .i64 0] 77 (0, 0)) ∧ a2.heap.size ≤ vb ∧ (∀ k, (Value.slice bgv l.length cgv).ownBlock = some k → k ≠ vb)) := ⟨HV2.out.1, HV2.out.2.1, HV2.out.2.2.1, HV2.out.2.2.2.1, HV2.out.2.2.2.2.1⟩
                    clear HV2
                    go_wp2_with fail
                    refine (ctn_int HV2b.out.2.1).mono ?_
                    rintro e w8 ⟨hf, x3, rfl, hct⟩
                    have HV3 : Hid ((Lq a2 b pb (fun v : Value => #[g1, v, .slice none 0 0, .slice none 0 0, .int .i64 0, .slice none 0 0]) 77 3 l.length (vC l) (.slice bgv l.length cgv) (w8.setCell ⟨vb, 2, none⟩ (.int .i64 x3)) ∧ Ctn (w8.setCell ⟨vb, 2, none⟩ (.int .i64 x3)) b bo bc s R (fun i t => (lisR var (q2 - (k + 1)) (l ++ [((x1, x2, x3) : (Int × Int × Int))]) i t).bind (qK2b q1 l1))) ∧ (w8.setCell ⟨vb, 2, none⟩ (.int .i64 x3)).heap[vb]? = some (.cells #[.int .i64 x1, .int .i64 x2, .int .i64 x3] 77 (0, 0)) ∧ w8.heap[vb]? = some (.cells #[.int .i64 x1, .int .i64 x2, .int .i64 0] 77 (0, 0))) := by
                      obtain ⟨q1', q2', q3', q4', q5'⟩ := HV2b.out
                      have hl9 := q1'.lt
                      have hv := (hf.block vb (blk_lt q3') (by omega)).trans q3'
                      refine ⟨⟨(q1'.fg hf).setA q5' q4', hct.keep (fun k' hk' => Below.heap_setCell w8 _ _ k' (fun e => by have e' : k' = vb := e; omega)) (by simp [World.setCell])⟩, ?_, hv⟩
                      rw [heap_setCell_same w8 vb 2 _ _ _ hv]
                      rfl
                    have d1 : w8.cell? ⟨vb, 2, none⟩ = some (.int .i64 0) := by
                      have h9 := HV3.out.2.2
                      simp only [World.cell?, h9]
                      rfl
                    have z1 := fzb HV3.out.2.2 2
                    clear hf hct HV2b
                    go_upto_region 22 with fail
                    clear d1 z1
                    generalize w8.setCell ⟨vb, 2, none⟩ (.int .i64 x3) = w9 at *
                    have HLC : Hid (Lq a2 b pb (fun v : Value => #[g1, v, .slice none 0 0, .slice none 0 0, .int .i64 0, .slice none 0 0]) 77 3 l.length (vC l) (.slice bgv l.length cgv) w9 ∧ Ctn w9 b bo bc s R (fun i t => (lisR var (q2 - (k + 1)) (l ++ [((x1, x2, x3) : (Int × Int × Int))]) i t).bind (qK2b q1 l1))) := HV3.out.1
                    have d0 : w9.cell? ⟨vb, 0, none⟩ = some (.int .i64 x1) := by
                      have h9 := HV3.out.2.1
                      simp only [World.cell?, h9]
                      rfl
                    have d1 : w9.cell? ⟨vb, 1, none⟩ = some (.int .i64 x2) := by
                      have h9 := HV3.out.2.1
                      simp only [World.cell?, h9]
                      rfl
                    have d2 : w9.cell? ⟨vb, 2, none⟩ = some (.int .i64 x3) := by
                      have h9 := HV3.out.2.1
                      simp only [World.cell?, h9]
                      rfl
                    clear HV3
                    have HY : Hid (Lq a2 b pb (fun v : Value => #[g1, v, .slice none 0 0, .slice none 0 0, .int .i64 0, .slice none 0 0]) 77 3 l.length (vC l) (.slice bgv l.length cgv) (w9.alloc (.cells #[.int .i64 x1, .int .i64 x2, .int .i64 x3] 77)) ∧ Ctn (w9.alloc (.cells #[.int .i64 x1, .int .i64 x2, .int .i64 x3] 77)) b bo bc s R (fun i t => (lisR var (q2 - (k + 1)) (l ++ [((x1, x2, x3) : (Int × Int × Int))]) i t).bind (qK2b q1 l1))) := by
                      have hb9 : Below w9.heap.size w9 (w9.alloc (.cells #[.int .i64 x1, .int .i64 x2, .int .i64 x3] 77)) := (Below.refl _ w9).alloc (Nat.le_refl _) _
                      exact ⟨HLC.out.1.below hb9, HLC.out.2.below hb9⟩
                    have c5 : w9.cell? ⟨pb, 1, none⟩ = some (.slice bgv l.length cgv) := HLC.out.1.cell rfl
                    have c6 : (w9.alloc (.cells #[.int .i64 x1, .int .i64 x2, .int .i64 x3] 77)).cell? ⟨pb, 1, none⟩ = some (.slice bgv l.length cgv) := HY.out.1.cell rfl
                    go_wp2_with (at_builtin; refine append_gone _ rfl _ _ 23 rfl a2.heap.size 77 ib (.agg #[.int .i64 0, .int .i64 0, .int .i64 0]) 3 24 Tryd.underlying23 HIb.out.1 HIb.out.2.1 HIb.out.2.2.1 HIb.out.2.2.2 rfl (by decide) (.slice bgv l.length cgv) _ (vC l) rfl HY.out.1.ow ⟨w9.heap.size, 0, none⟩ 1 1 [.int .i64 x1, .int .i64 x2, .int .i64 x3] rfl rfl (cells_new3 w9 _ _ _ _) (by intro u hu; simp only [List.mem_cons, List.not_mem_nil, or_false] at hu; rcases hu with rfl | rfl | rfl <;> rfl) (by have := HLl.out; unfold maxLen; omega) (by have := HLl.out; omega) HY.out.1.fr.size (by decide) ?_)
                    intro v4 w5 ho hG
                    have ho2 : w5.ownsRow a2.heap.size 77 3 v4 (l ++ [((x1, x2, x3) : (Int × Int × Int))]).length (vC l ++ [.int .i64 x1, .int .i64 x2, .int .i64 x3]) := by rw [List.length_append]; exact ho
                    obtain ⟨bv4, cv4, ev4⟩ := own_form ho
                    subst ev4
                    obtain ⟨hcell, hfro⟩ := HY.out.1.at4 hG (ix := 1) rfl
                    have HL4 : Hid (Lq a2 b pb (fun v : Value => #[g1, v, .slice none 0 0, .slice none 0 0, .int .i64 0, .slice none 0 0]) 77 3 (l ++ [((x1, x2, x3) : (Int × Int × Int))]).length (vC (l ++ [((x1, x2, x3) : (Int × Int × Int))])) (.slice bv4 (l.length + 1) cv4) (w5.setCell ⟨pb, 1, none⟩ (.slice bv4 (l.length + 1) cv4)) ∧ Ctn (w5.setCell ⟨pb, 1, none⟩ (.slice bv4 (l.length + 1) cv4)) b bo bc s R (fun i t => (lisR var (q2 - (k + 1)) (l ++ [((x1, x2, x3) : (Int × Int × Int))]) i t).bind (qK2b q1 l1))) := by
                      refine ⟨?_, HY.out.1.appC (ix := 1) HY.out.2 hG⟩
                      have h9 := HY.out.1.app (ix := 1) ho2 hG rfl
                      have e9 : vC (l ++ [((x1, x2, x3) : (Int × Int × Int))]) = vC l ++ [.int .i64 x1, .int .i64 x2, .int .i64 x3] := by simp [vC]
                      rw [e9]
                      exact h9
                    clear ho ho2 hG HY c5 c6
                    go_wp2_with fail
                    go_roundg (q2 - (k + 1))
                    case measure => have := HT.out.2.2.2; have := HKm.out; omega
                    case rel => exact ⟨k + 1, _, _, by have := HKm.out; omega, by go_num, by have := HT.out.2.2.1; simp; omega, HL4.out.1, HL4.out.2⟩
                case false =>
                  have HEd : Hid (Ctn wr b bo bc s R ((qK2b q1 l1) l)) := HRr.out.2 (by trivial)
                  obtain ⟨g2, hg2⟩ : ∃ g, g = Value.slice bgv l.length cgv := ⟨_, rfl⟩
                  obtain ⟨l2, hl2⟩ : ∃ q, q = l := ⟨_, rfl⟩
                  rw [← hg2] at HT
                  rw [← hl2] at HT HEd
                  clear hg2 hl2 HRr
                  have HU2 : Hid (Qs W wr b pb bo bc s R ((qK2b q1 l1) l2) #[g1, g2, .slice none 0 0, .slice none 0 0, .int .i64 0, .slice none 0 0] [(en1 a1.heap.size g1 l1), (en2 a2.heap.size g2 l2)]) := HQ2.out.lq HT.out.1 HEd.out
                  clear HT HEd HQ2
                  go_wp2_with fail
                  refine (ctn_many (most := 4) (by decide) HU2.out.ct).mono ?_
                  rintro e a3 ⟨hf, q3, rfl, hct, hq⟩
                  have HQ3 : Hid (Qs W a3 b pb bo bc s R (fun i t => (lisR rnu q3 [] i t).bind (qK3 q1 l1 l2)) #[g1, g2, .slice none 0 0, .slice none 0 0, .int .i64 0, .slice none 0 0] [(en1 a1.heap.size g1 l1), (en2 a2.heap.size g2 l2)]) := HU2.out.fg hf hct
                  have HN3 : Hid (q3 ≤ 4) := hq
                  have hn3 : (q3 : Int) ≤ 4 := by omega
                  clear hf hct hq HU2
                  go_wp2_with fail
                  go_loopg [15] q3 (fun gq x wr => ∃ (k : Nat) (l : List Int) (v : Value), k + gq = q3 ∧ x = .int .i64 (k : Int) ∧ l.length = k ∧ Lq a3 b pb (fun v : Value => #[g1, g2, v, .slice none 0 0, .int .i64 0, .slice none 0 0]) 3 1 l.length (iC l) v wr ∧ Ctn wr b bo bc s R fun i t => (lisR rnu (q3 - k) l i t).bind (qK3 q1 l1 l2))
                  case atStart => exact ⟨0, [], .slice none 0 0, by omega, rfl, rfl, Lq.start HQ3.out.hb HQ3.out.lt.2, HQ3.out.ct⟩
                  case round =>
                    obtain ⟨k, l, gv, hkg, rfl, hkl, hL, hct⟩ := hrel
                    obtain ⟨bgv, cgv, egv⟩ := own_form hL.ow
                    subst egv
                    have HT : Hid (Lq a3 b pb (fun v : Value => #[g1, g2, v, .slice none 0 0, .int .i64 0, .slice none 0 0]) 3 1 l.length (iC l) (.slice bgv l.length cgv) wr ∧ Ctn wr b bo bc s R (fun i t => (lisR rnu (q3 - k) l i t).bind (qK3 q1 l1 l2)) ∧ l.length = k ∧ k + gk = q3) := ⟨hL, hct, hkl, hkg⟩
                    clear hkg hkl hL hct
                    go_upto_region 25 with fail
                    go_cut [109] (fun c wx => ∃ r : Bool, c = .bool r ∧ wr = wx ∧ (r = true → k < q3 ∧ ∃ i, Rn wr b bo bc s i 0 0 ∧ R = (rnu i (s.drop i)).bind fun a i t => (lisR rnu (q3 - (k + 1)) (l ++ [a]) i t).bind (qK3 q1 l1 l2)) ∧ (r = false → Ctn wr b bo bc s R ((qK3 q1 l1 l2) l)))
                    case first =>
                      as_aux_lemma =>
                        by_cases hkm : k < q3
                        case neg =>
                          have hk1 : ¬ (k : Int) < (q3 : Int) := by omega
                          have HE : Hid (Ctn wr b bo bc s R ((qK3 q1 l1 l2) l)) := HT.out.2.1.imp fun i h => by
                            rw [h, show q3 - k = 0 by omega]
                            rfl
                          have hk2 : decide (k < q3) = false := decide_eq_false hkm
                          clear hkm
                          go_wp2_with fail
                          go_meet
                          exact ⟨false, rfl, rfl, fun h => by (cases h), fun _ => HE.out⟩
                        case pos =>
                          have hk1 : (k : Int) < (q3 : Int) := by omega
                          have HKm : Hid (k < q3) := hkm
                          clear hkm
                          go_wp2_with fail
                          refine (ctn_bad HT.out.2.1).mono ?_
                          rintro e _ ⟨r, rfl, rfl, hr1, hr2⟩
                          have HRr : Hid ((r = false → ∃ i, Rn wr b bo bc s i 0 0 ∧ R = (lisR rnu (q3 - k) l i (s.drop i)).bind (qK3 q1 l1 l2)) ∧ (r = true → ∃ i er k, Rn wr b bo bc s i er k ∧ er ≠ 0 ∧ R = .die er k)) := ⟨hr1, hr2⟩
                          clear hr1 hr2
                          cases r
                          case false =>
                            go_wp2_with fail
                            go_meet
                            refine ⟨true, rfl, rfl, fun _ => ⟨HKm.out, ?_⟩, fun h => by (cases h)⟩
                            obtain ⟨i, h1, h2⟩ := HRr.out.1 (by trivial)
                            exact ⟨i, h1, by rw [h2, show q3 - k = (q3 - (k + 1)) + 1 by have := HKm.out; omega, lisR_bind]⟩
                          case true =>
                            go_wp2_with fail
                            go_meet
                            refine ⟨false, rfl, rfl, fun h => by (cases h), fun _ => ?_⟩
                            obtain ⟨i, er, q, h1, h2, h3⟩ := HRr.out.2 (by trivial)
                            exact ⟨i, er, q, h1, Or.inr ⟨h2, h3⟩⟩
                    case rest =>
                      obtain ⟨r, rfl, rfl, hr1, hr2⟩ := hcut
                      have HRr : Hid ((r = true → k < q3 ∧ ∃ i, Rn wr b bo bc s i 0 0 ∧ R = (rnu i (s.drop i)).bind fun a i t => (lisR rnu (q3 - (k + 1)) (l ++ [a]) i t).bind (qK3 q1 l1 l2)) ∧ (r = false → Ctn wr b bo bc s R ((qK3 q1 l1 l2) l))) := ⟨hr1, hr2⟩
                      clear hr1 hr2
                      cases r
                      case true =>
                        as_aux_lemma =>
                          obtain ⟨hkm, i0, hrn, hRR⟩ := HRr.out.1 (by trivial)
                          have HKm : Hid (k < q3) := hkm
                          have hk3 : (k : Int) < 1000000 := by have := HN3.out; omega
                          have HG : Hid (Rn wr b bo bc s i0 0 0 ∧ R = (rnu i0 (s.drop i0)).bind fun a i t => (lisR rnu (q3 - (k + 1)) (l ++ [a]) i t).bind (qK3 q1 l1 l2)) := ⟨hrn, hRR⟩
                          have HLl : Hid (l.length ≤ 1000000) := by
                            have h1 := HT.out.2.2.1
                            have h2 := HN3.out
                            exact (by omega : l.length ≤ 1000000)
                          clear hkm hrn hRR HRr
                          have HCt : Hid (Ctn wr b bo bc s R fun i t => (num i t).bind fun vn i t => (lisR rnu (q3 - (k + 1)) (l ++ [(vn : Int)]) i t).bind (qK3 q1 l1 l2)) := by
                            refine ⟨i0, 0, 0, HG.out.1, Or.inl ⟨rfl, rfl, ?_⟩⟩
                            rw [HG.out.2]
                            unfold rnu
                            rw [rs_assoc]
                            rfl
                          go_wp2_with fail
                          refine (ctn_num HCt.out).mono ?_
                          rintro e w3 ⟨hf, vn, at_, rfl, hct, hvn⟩
                          obtain ⟨vu, hvu⟩ : ∃ vu : Int, (vn : Int) = vu := ⟨_, rfl⟩
                          have ev : IntKind.i64.wrap vu = vu := by rw [IntKind.wrap_i64]; omega
                          rw [hvu] at hct ⊢
                          have HLC : Hid (Lq a3 b pb (fun v : Value => #[g1, g2, v, .slice none 0 0, .int .i64 0, .slice none 0 0]) 3 1 l.length (iC l) (.slice bgv l.length cgv) w3 ∧ Ctn w3 b bo bc s R (fun i t => (lisR rnu (q3 - (k + 1)) (l ++ [(vu : Int)]) i t).bind (qK3 q1 l1 l2))) := ⟨HT.out.1.fg hf, hct⟩
                          clear hf hct hvn hvu  HCt HG
                          have HY : Hid (Lq a3 b pb (fun v : Value => #[g1, g2, v, .slice none 0 0, .int .i64 0, .slice none 0 0]) 3 1 l.length (iC l) (.slice bgv l.length cgv) (w3.alloc (.cells #[.int .i64 vu] 3)) ∧ Ctn (w3.alloc (.cells #[.int .i64 vu] 3)) b bo bc s R (fun i t => (lisR rnu (q3 - (k + 1)) (l ++ [(vu : Int)]) i t).bind (qK3 q1 l1 l2))) := by
                            have hb9 : Below w3.heap.size w3 (w3.alloc (.cells #[.int .i64 vu] 3)) := (Below.refl _ w3).alloc (Nat.le_refl _) _
                            exact ⟨HLC.out.1.below hb9, HLC.out.2.below hb9⟩
                          have c5 : w3.cell? ⟨pb, 2, none⟩ = some (.slice bgv l.length cgv) := HLC.out.1.cell rfl
                          have c6 : (w3.alloc (.cells #[.int .i64 vu] 3)).cell? ⟨pb, 2, none⟩ = some (.slice bgv l.length cgv) := HY.out.1.cell rfl
                          go_wp2_with (at_builtin; refine append_gone _ rfl _ _ 24 rfl a3.heap.size 3 ic (.int .i64 0) 1 8 Tryd.underlying24 HIc.out.1 HIc.out.2.1 HIc.out.2.2.1 HIc.out.2.2.2 rfl (by decide) (.slice bgv l.length cgv) _ (iC l) rfl HY.out.1.ow ⟨w3.heap.size, 0, none⟩ 1 1 [.int .i64 vu] rfl rfl (cell_one w3 _ _) (by intro u hu; simp only [List.mem_cons, List.not_mem_nil, or_false] at hu; subst hu; rfl) (by have := HLl.out; unfold maxLen; omega) (by have := HLl.out; omega) HY.out.1.fr.size (by decide) ?_)
                          intro v4 w5 ho hG
                          have ho2 : w5.ownsRow a3.heap.size 3 1 v4 (l ++ [(vu : Int)]).length (iC l ++ [.int .i64 vu]) := by rw [List.length_append]; exact ho
                          obtain ⟨bv4, cv4, ev4⟩ := own_form ho
                          subst ev4
                          obtain ⟨hcell, hfro⟩ := HY.out.1.at4 hG (ix := 2) rfl
                          have HL4 : Hid (Lq a3 b pb (fun v : Value => #[g1, g2, v, .slice none 0 0, .int .i64 0, .slice none 0 0]) 3 1 (l ++ [(vu : Int)]).length (iC (l ++ [(vu : Int)])) (.slice bv4 (l.length + 1) cv4) (w5.setCell ⟨pb, 2, none⟩ (.slice bv4 (l.length + 1) cv4)) ∧ Ctn (w5.setCell ⟨pb, 2, none⟩ (.slice bv4 (l.length + 1) cv4)) b bo bc s R (fun i t => (lisR rnu (q3 - (k + 1)) (l ++ [(vu : Int)]) i t).bind (qK3 q1 l1 l2))) := by
                            refine ⟨?_, HY.out.1.appC (ix := 2) HY.out.2 hG⟩
                            have h9 := HY.out.1.app (ix := 2) ho2 hG rfl
                            have e9 : iC (l ++ [(vu : Int)]) = iC l ++ [.int .i64 vu] := by simp [iC]
                            rw [e9]
                            exact h9
                          clear ho ho2 hG HY c5 c6
                          go_wp2_with fail
                          go_roundg (q3 - (k + 1))
                          case measure => have := HT.out.2.2.2; have := HKm.out; omega
                          case rel => exact ⟨k + 1, _, _, by have := HKm.out; omega, by go_num, by have := HT.out.2.2.1; simp; omega, HL4.out.1, HL4.out.2⟩
                      case false =>
                        have HEd : Hid (Ctn wr b bo bc s R ((qK3 q1 l1 l2) l)) := HRr.out.2 (by trivial)
                        obtain ⟨g3, hg3⟩ : ∃ g, g = Value.slice bgv l.length cgv := ⟨_, rfl⟩
                        obtain ⟨l3, hl3⟩ : ∃ q, q = l := ⟨_, rfl⟩
                        rw [← hg3] at HT
                        rw [← hl3] at HT HEd
                        clear hg3 hl3 HRr
                        have HU3 : Hid (Qs W wr b pb bo bc s R ((qK3 q1 l1 l2) l3) #[g1, g2, g3, .slice none 0 0, .int .i64 0, .slice none 0 0] [(en1 a1.heap.size g1 l1), (en2 a2.heap.size g2 l2), (en3 a3.heap.size g3 l3)]) := HQ3.out.lq HT.out.1 HEd.out
                        clear HT HEd HQ3
                        obtain ⟨a4, ha4⟩ : ∃ a, a = wr := ⟨_, rfl⟩
                        have HQ4 : Hid (Qs W a4 b pb bo bc s R (fun i t => (lisR rpl q1 [] i t).bind (qK4 l1 l2 l3)) #[g1, g2, g3, .slice none 0 0, .int .i64 0, .slice none 0 0] [(en1 a1.heap.size g1 l1), (en2 a2.heap.size g2 l2), (en3 a3.heap.size g3 l3)]) := ha4 ▸ HU3.out
                        rw [← ha4]
                        clear HU3 ha4
                        go_wp2_with fail
                        go_loopg [18] q1 (fun gq x wr => ∃ (k : Nat) (l : List Int) (v : Value), k + gq = q1 ∧ x = .int .i64 (k : Int) ∧ l.length = k ∧ Lq a4 b pb (fun v : Value => #[g1, g2, g3, v, .int .i64 0, .slice none 0 0]) 3 1 l.length (iC l) v wr ∧ Ctn wr b bo bc s R fun i t => (lisR rpl (q1 - k) l i t).bind (qK4 l1 l2 l3))
                        case atStart => exact ⟨0, [], .slice none 0 0, by omega, rfl, rfl, Lq.start HQ4.out.hb HQ4.out.lt.2, HQ4.out.ct⟩
                        case round =>
                          obtain ⟨k, l, gv, hkg, rfl, hkl, hL, hct⟩ := hrel
                          obtain ⟨bgv, cgv, egv⟩ := own_form hL.ow
                          subst egv
                          have HT : Hid (Lq a4 b pb (fun v : Value => #[g1, g2, g3, v, .int .i64 0, .slice none 0 0]) 3 1 l.length (iC l) (.slice bgv l.length cgv) wr ∧ Ctn wr b bo bc s R (fun i t => (lisR rpl (q1 - k) l i t).bind (qK4 l1 l2 l3)) ∧ l.length = k ∧ k + gk = q1) := ⟨hL, hct, hkl, hkg⟩
                          clear hkg hkl hL hct
                          go_upto_region 30 with fail
                          go_cut [131] (fun c wx => ∃ r : Bool, c = .bool r ∧ wr = wx ∧ (r = true → k < q1 ∧ ∃ i, Rn wr b bo bc s i 0 0 ∧ R = (rpl i (s.drop i)).bind fun a i t => (lisR rpl (q1 - (k + 1)) (l ++ [a]) i t).bind (qK4 l1 l2 l3)) ∧ (r = false → Ctn wr b bo bc s R ((qK4 l1 l2 l3) l)))
                          case first =>
                            as_aux_lemma =>
                              by_cases hkm : k < q1
                              case neg =>
                                have hk1 : ¬ (k : Int) < (q1 : Int) := by omega
                                have HE : Hid (Ctn wr b bo bc s R ((qK4 l1 l2 l3) l)) := HT.out.2.1.imp fun i h => by
                                  rw [h, show q1 - k = 0 by omega]
                                  rfl
                                have hk2 : decide (k < q1) = false := decide_eq_false hkm
                                clear hkm
                                go_wp2_with fail
                                go_meet
                                exact ⟨false, rfl, rfl, fun h => by (cases h), fun _ => HE.out⟩
                              case pos =>
                                have hk1 : (k : Int) < (q1 : Int) := by omega
                                have HKm : Hid (k < q1) := hkm
                                clear hkm
                                go_wp2_with fail
                                refine (ctn_bad HT.out.2.1).mono ?_
                                rintro e _ ⟨r, rfl, rfl, hr1, hr2⟩
                                have HRr : Hid ((r = false → ∃ i, Rn wr b bo bc s i 0 0 ∧ R = (lisR rpl (q1 - k) l i (s.drop i)).bind (qK4 l1 l2 l3)) ∧ (r = true → ∃ i er k, Rn wr b bo bc s i er k ∧ er ≠ 0 ∧ R = .die er k)) := ⟨hr1, hr2⟩
                                clear hr1 hr2
                                cases r
                                case false =>
                                  go_wp2_with fail
                                  go_meet
                                  refine ⟨true, rfl, rfl, fun _ => ⟨HKm.out, ?_⟩, fun h => by (cases h)⟩
                                  obtain ⟨i, h1, h2⟩ := HRr.out.1 (by trivial)
                                  exact ⟨i, h1, by rw [h2, show q1 - k = (q1 - (k + 1)) + 1 by have := HKm.out; omega, lisR_bind]⟩
                                case true =>
                                  go_wp2_with fail
                                  go_meet
                                  refine ⟨false, rfl, rfl, fun h => by (cases h), fun _ => ?_⟩
                                  obtain ⟨i, er, q, h1, h2, h3⟩ := HRr.out.2 (by trivial)
                                  exact ⟨i, er, q, h1, Or.inr ⟨h2, h3⟩⟩
                          case rest =>
                            obtain ⟨r, rfl, rfl, hr1, hr2⟩ := hcut
                            have HRr : Hid ((r = true → k < q1 ∧ ∃ i, Rn wr b bo bc s i 0 0 ∧ R = (rpl i (s.drop i)).bind fun a i t => (lisR rpl (q1 - (k + 1)) (l ++ [a]) i t).bind (qK4 l1 l2 l3)) ∧ (r = false → Ctn wr b bo bc s R ((qK4 l1 l2 l3) l))) := ⟨hr1, hr2⟩
                            clear hr1 hr2
                            cases r
                            case true =>
                              as_aux_lemma =>
                                obtain ⟨hkm, i0, hrn, hRR⟩ := HRr.out.1 (by trivial)
                                have HKm : Hid (k < q1) := hkm
                                have hk3 : (k : Int) < 1000000 := by have := HN1.out; omega
                                have HG : Hid (Rn wr b bo bc s i0 0 0 ∧ R = (rpl i0 (s.drop i0)).bind fun a i t => (lisR rpl (q1 - (k + 1)) (l ++ [a]) i t).bind (qK4 l1 l2 l3)) := ⟨hrn, hRR⟩
                                have HLl : Hid (l.length ≤ 1000000) := by
                                  have h1 := HT.out.2.2.1
                                  have h2 := HN1.out
                                  exact (by omega : l.length ≤ 1000000)
                                clear hkm hrn hRR HRr
                                have HCt : Hid (Ctn wr b bo bc s R fun i t => (num i t).bind fun vn i t => (lisR rpl (q1 - (k + 1)) (l ++ [(vn : Int) - 1]) i t).bind (qK4 l1 l2 l3)) := by
                                  refine ⟨i0, 0, 0, HG.out.1, Or.inl ⟨rfl, rfl, ?_⟩⟩
                                  rw [HG.out.2]
                                  rw [rpl_bind]
                                go_wp2_with fail
                                refine (ctn_num HCt.out).mono ?_
                                rintro e w3 ⟨hf, vn, at_, rfl, hct, hvn⟩
                                obtain ⟨vu, hvu⟩ : ∃ vu : Int, (vn : Int) = vu := ⟨_, rfl⟩
                                have ev : IntKind.i64.wrap vu = vu := by rw [IntKind.wrap_i64]; omega
                                obtain ⟨vv, hvv⟩ : ∃ vv : Int, vu - 1 = vv := ⟨_, rfl⟩
                                have ew : IntKind.i64.wrap (vu - 1) = vv := by rw [IntKind.wrap_i64]; omega
                                rw [hvu] at hct ⊢
                                rw [hvv] at hct
                                have HLC : Hid (Lq a4 b pb (fun v : Value => #[g1, g2, g3, v, .int .i64 0, .slice none 0 0]) 3 1 l.length (iC l) (.slice bgv l.length cgv) w3 ∧ Ctn w3 b bo bc s R (fun i t => (lisR rpl (q1 - (k + 1)) (l ++ [(vv : Int)]) i t).bind (qK4 l1 l2 l3))) := ⟨HT.out.1.fg hf, hct⟩
                                clear hf hct hvn hvu hvv HCt HG
                                have HY : Hid (Lq a4 b pb (fun v : Value => #[g1, g2, g3, v, .int .i64 0, .slice none 0 0]) 3 1 l.length (iC l) (.slice bgv l.length cgv) (w3.alloc (.cells #[.int .i64 vv] 3)) ∧ Ctn (w3.alloc (.cells #[.int .i64 vv] 3)) b bo bc s R (fun i t => (lisR rpl (q1 - (k + 1)) (l ++ [(vv : Int)]) i t).bind (qK4 l1 l2 l3))) := by
                                  have hb9 : Below w3.heap.size w3 (w3.alloc (.cells #[.int .i64 vv] 3)) := (Below.refl _ w3).alloc (Nat.le_refl _) _
                                  exact ⟨HLC.out.1.below hb9, HLC.out.2.below hb9⟩
                                have c5 : w3.cell? ⟨pb, 3, none⟩ = some (.slice bgv l.length cgv) := HLC.out.1.cell rfl
                                have c6 : (w3.alloc (.cells #[.int .i64 vv] 3)).cell? ⟨pb, 3, none⟩ = some (.slice bgv l.length cgv) := HY.out.1.cell rfl
                                go_wp2_with (at_builtin; refine append_gone _ rfl _ _ 24 rfl a4.heap.size 3 ic (.int .i64 0) 1 8 Tryd.underlying24 HIc.out.1 HIc.out.2.1 HIc.out.2.2.1 HIc.out.2.2.2 rfl (by decide) (.slice bgv l.length cgv) _ (iC l) rfl HY.out.1.ow ⟨w3.heap.size, 0, none⟩ 1 1 [.int .i64 vv] rfl rfl (cell_one w3 _ _) (by intro u hu; simp only [List.mem_cons, List.not_mem_nil, or_false] at hu; subst hu; rfl) (by have := HLl.out; unfold maxLen; omega) (by have := HLl.out; omega) HY.out.1.fr.size (by decide) ?_)
                                intro v4 w5 ho hG
                                have ho2 : w5.ownsRow a4.heap.size 3 1 v4 (l ++ [(vv : Int)]).length (iC l ++ [.int .i64 vv]) := by rw [List.length_append]; exact ho
                                obtain ⟨bv4, cv4, ev4⟩ := own_form ho
                                subst ev4
                                obtain ⟨hcell, hfro⟩ := HY.out.1.at4 hG (ix := 3) rfl
                                have HL4 : Hid (Lq a4 b pb (fun v : Value => #[g1, g2, g3, v, .int .i64 0, .slice none 0 0]) 3 1 (l ++ [(vv : Int)]).length (iC (l ++ [(vv : Int)])) (.slice bv4 (l.length + 1) cv4) (w5.setCell ⟨pb, 3, none⟩ (.slice bv4 (l.length + 1) cv4)) ∧ Ctn (w5.setCell ⟨pb, 3, none⟩ (.slice bv4 (l.length + 1) cv4)) b bo bc s R (fun i t => (lisR rpl (q1 - (k + 1)) (l ++ [(vv : Int)]) i t).bind (qK4 l1 l2 l3))) := by
                                  refine ⟨?_, HY.out.1.appC (ix := 3) HY.out.2 hG⟩
                                  have h9 := HY.out.1.app (ix := 3) ho2 hG rfl
                                  have e9 : iC (l ++ [(vv : Int)]) = iC l ++ [.int .i64 vv] := by simp [iC]
                                  rw [e9]
                                  exact h9
                                clear ho ho2 hG HY c5 c6
                                go_wp2_with fail
                                go_roundg (q1 - (k + 1))
                                case measure => have := HT.out.2.2.2; have := HKm.out; omega
                                case rel => exact ⟨k + 1, _, _, by have := HKm.out; omega, by go_num, by have := HT.out.2.2.1; simp; omega, HL4.out.1, HL4.out.2⟩
                            case false =>
                              have HEd : Hid (Ctn wr b bo bc s R ((qK4 l1 l2 l3) l)) := HRr.out.2 (by trivial)
                              obtain ⟨g4, hg4⟩ : ∃ g, g = Value.slice bgv l.length cgv := ⟨_, rfl⟩
                              obtain ⟨l4, hl4⟩ : ∃ q, q = l := ⟨_, rfl⟩
                              rw [← hg4] at HT
                              rw [← hl4] at HT HEd
                              clear hg4 hl4 HRr
                              have HU4 : Hid (Qs W wr b pb bo bc s R ((qK4 l1 l2 l3) l4) #[g1, g2, g3, g4, .int .i64 0, .slice none 0 0] [(en1 a1.heap.size g1 l1), (en2 a2.heap.size g2 l2), (en3 a3.heap.size g3 l3), (en3 a4.heap.size g4 l4)]) := HQ4.out.lq HT.out.1 HEd.out
                              clear HT HEd HQ4
                              have HCt : Hid (Ctn wr b bo bc s R fun i t => (num i t).bind fun u i t => qK5 l1 l2 l3 l4 ((u : Int) - 1) i t) := HU4.out.ct.imp fun i h => h
                              go_wp2_with fail
                              refine (ctn_num HCt.out).mono ?_
                              rintro e w3 ⟨hf, vn, at_, rfl, hct, hvn⟩
                              obtain ⟨vu, hvu⟩ : ∃ vu : Int, (vn : Int) = vu := ⟨_, rfl⟩
                              have ev : IntKind.i64.wrap vu = vu := by rw [IntKind.wrap_i64]; omega
                              obtain ⟨ms, hms⟩ : ∃ ms : Int, vu - 1 = ms := ⟨_, rfl⟩
                              have ew : IntKind.i64.wrap (vu - 1) = ms := by rw [IntKind.wrap_i64]; omega
                              rw [hvu] at hct ⊢
                              rw [hms] at hct
                              have HU5 : Hid (Qs W w3 b pb bo bc s R (qK5 l1 l2 l3 l4 ms) #[g1, g2, g3, g4, .int .i64 0, .slice none 0 0] [(en1 a1.heap.size g1 l1), (en2 a2.heap.size g2 l2), (en3 a3.heap.size g3 l3), (en3 a4.heap.size g4 l4)]) := HU4.out.fg hf hct
                              have HU6 : Hid (Qs W (w3.setCell ⟨pb, 4, none⟩ (.int .i64 ms)) b pb bo bc s R (qK5 l1 l2 l3 l4 ms) #[g1, g2, g3, g4, .int .i64 ms, .slice none 0 0] [(en1 a1.heap.size g1 l1), (en2 a2.heap.size g2 l2), (en3 a3.heap.size g3 l3), (en3 a4.heap.size g4 l4)]) := HU5.out.put 4 (.int .i64 ms)
                              have d4 : w3.cell? ⟨pb, 4, none⟩ = some (.int .i64 0) := by
                                have h9 := HU5.out.hb
                                simp only [World.cell?, h9]
                                rfl
                              have z4 := fzb HU5.out.hb 4
                              clear hf hct hvn hvu hms HCt HU4 HU5
                              go_upto_region 36 with fail
                              clear d4 z4 ev ew
                              generalize w3.setCell ⟨pb, 4, none⟩ (.int .i64 ms) = w4 at *
                              have HCd : Hid (Ctn w4 b bo bc s R fun i t => (cnt 262144 i t).bind fun n i t => (lisR insR n [] i t).bind (qK6 l1 l2 l3 l4 ms)) := HU6.out.ct.imp fun i h => h
                              go_wp2_with fail
                              refine (qcode_any HCd.out HU6.out.hb HU6.out.lt.2).mono ?_
                              rintro e w5 ⟨rfl, hfb, cd, g5, hb5, ho5, hct⟩
                              have HU7 : Hid (Qs W w5 b pb bo bc s R (qK6 l1 l2 l3 l4 ms cd) #[g1, g2, g3, g4, .int .i64 ms, g5] ([(en1 a1.heap.size g1 l1), (en2 a2.heap.size g2 l2), (en3 a3.heap.size g3 l3), (en3 a4.heap.size g4 l4)] ++ [⟨w4.heap.size, 53, 5, g5, cd.length, Vf.cC cd⟩])) := by
                                have hq : Lq w4 b pb (fun v : Value => #[g1, g2, g3, g4, .int .i64 ms, v]) 53 5 cd.length (Vf.cC cd) g5 w5 := ⟨hfb, hb5, ho5, HU6.out.lt.2, blk_lt HU6.out.hb⟩
                                exact HU6.out.lq hq hct
                              clear hfb hb5 ho5 hct HCd HU6
                              obtain ⟨b1, k1, e1⟩ := own_form (HU7.out.ow.ow (en1 a1.heap.size g1 l1) (by simp)).2
                              obtain ⟨b2, k2, e2⟩ := own_form (HU7.out.ow.ow (en2 a2.heap.size g2 l2) (by simp)).2
                              obtain ⟨b3, k3, e3⟩ := own_form (HU7.out.ow.ow (en3 a3.heap.size g3 l3) (by simp)).2
                              obtain ⟨b4, k4, e4⟩ := own_form (HU7.out.ow.ow (en3 a4.heap.size g4 l4) (by simp)).2
                              obtain ⟨b5, k5, e5⟩ := own_form (HU7.out.ow.ow (en5 w4.heap.size g5 cd) (List.mem_append_right _ (List.mem_singleton.2 rfl))).2
                              change g1 = .slice b1 l1.length k1 at e1
                              change g2 = .slice b2 l2.length k2 at e2
                              change g3 = .slice b3 l3.length k3 at e3
                              change g4 = .slice b4 l4.length k4 at e4
                              change g5 = .slice b5 cd.length k5 at e5
                              subst e1 e2 e3 e4 e5
                              have HIs : Hid (∀ w', (∀ k, pb < k → k < w5.heap.size → w'.heap[k]? = w5.heap[k]?) → ∀ i t, R = .ok (⟨l1, l2, l3, l4, ms, cd⟩ : Pg) i t → IsPg w' ⟨b1, k1, b2, k2, b3, k3, b4, k4, b5, k5⟩ (⟨l1, l2, l3, l4, ms, cd⟩ : Pg)) := fun w' hk i t hR => by
                                have hl := who_len HDc.out.2.2.2 HDc.out.2.2.1 (HDc.out.1.symm.trans hR)
                                have ho := HU7.out.ow.keep hk
                                exact ⟨own_rdV (ho.ow (en1 a1.heap.size (.slice b1 l1.length k1) l1) (by simp)).2, own_rdV (ho.ow (en2 a2.heap.size (.slice b2 l2.length k2) l2) (by simp)).2, own_rdV (ho.ow (en3 a3.heap.size (.slice b3 l3.length k3) l3) (by simp)).2, own_rdV (ho.ow (en3 a4.heap.size (.slice b4 l4.length k4) l4) (by simp)).2, own_rdV (ho.ow (en5 w4.heap.size (.slice b5 cd.length k5) cd) (List.mem_append_right _ (List.mem_singleton.2 rfl))).2, by omega, by omega, by omega, by omega, by omega⟩
                              obtain ⟨i6, e6, k6, hrn, hcs⟩ := HU7.out.ct
                              have HCs6 : Hid (Rn w5 b bo bc s i6 e6 k6 ∧ ((e6 = 0 ∧ k6 = 0 ∧ R = qFin (⟨l1, l2, l3, l4, ms, cd⟩ : Pg) i6 (s.drop i6)) ∨ (e6 ≠ 0 ∧ R = .die e6 k6))) := ⟨hrn, hcs⟩
                              have HBd := show Hid _ from qbad_any hrn
                              clear hrn hcs
                              go_upto_region 37 with fail
                              go_cut [169] (fun c wx => ∃ r : Bool, c = .bool r ∧ w5 = wx ∧ (r = true → e6 = 0 ∧ k6 = 0 ∧ R = .die 84 i6) ∧ (r = false → (e6 = 0 ∧ k6 = 0 ∧ ∃ j t, R = .ok (⟨l1, l2, l3, l4, ms, cd⟩ : Pg) j t) ∨ (e6 ≠ 0 ∧ R = .die e6 k6)))
                              case first =>
                                as_aux_lemma =>
                                  obtain ⟨hrn, ⟨h1, h2, h3⟩ | ⟨h1, h2⟩⟩ := HCs6.out
                                  · subst h1
                                    subst h2
                                    obtain ⟨c0, c1, c2, c3, f1, f2, f3⟩ := hrn.cells
                                    by_cases hi : i6 < s.length
                                    · have hi1 : (i6 : Int) < (s.length : Int) := by omega
                                      have HF : Hid (R = .die 84 i6) := by
                                        rw [h3]
                                        unfold qFin
                                        exact if_neg (fun e => by rw [drop_at hi] at e; cases e)
                                      clear hi h3 hrn
                                      go_wp2_with fail
                                      refine Calls.mono HBd.out ?_
                                      rintro e _ ⟨rfl, rfl⟩
                                      go_wp2_with fail
                                      go_meet
                                      exact ⟨true, rfl, rfl, fun _ => ⟨by trivial, by trivial, HF.out⟩, fun h => by (cases h)⟩
                                    · have hi1 : decide ((i6 : Int) < (s.length : Int)) = false := decide_eq_false (by omega)
                                      have hi2 : decide (i6 < s.length) = false := decide_eq_false hi
                                      have HF : Hid (∃ j t, R = .ok (⟨l1, l2, l3, l4, ms, cd⟩ : Pg) j t) := by
                                        refine ⟨i6, s.drop i6, ?_⟩
                                        rw [h3]
                                        unfold qFin
                                        exact if_pos (List.drop_eq_nil_of_le (by omega))
                                      clear hi h3 hrn
                                      go_wp2_with fail
                                      refine Calls.mono HBd.out ?_
                                      rintro e _ ⟨rfl, rfl⟩
                                      go_wp2_with fail
                                      go_meet
                                      exact ⟨false, rfl, rfl, fun h => by (cases h), fun _ => Or.inl ⟨by trivial, by trivial, HF.out⟩⟩
                                  · have HF : Hid (e6 ≠ 0 ∧ R = .die e6 k6) := ⟨h1, h2⟩
                                    have he2 : ((e6 : Int) != 0) = true := by rw [bne_iff_ne]; omega
                                    rw [he2] at HBd
                                    clear h1 h2 he2 hrn
                                    go_wp2_with fail
                                    refine Calls.mono HBd.out ?_
                                    rintro e _ ⟨rfl, rfl⟩
                                    go_wp2_with fail
                                    go_meet
                                    exact ⟨false, rfl, rfl, fun h => by (cases h), fun _ => Or.inr HF.out⟩
                              case rest =>
                                obtain ⟨r4, rfl, rfl, hp1, hp2⟩ := hcut
                                have HP4 : Hid ((r4 = true → e6 = 0 ∧ k6 = 0 ∧ R = .die 84 i6) ∧ (r4 = false → (e6 = 0 ∧ k6 = 0 ∧ ∃ j t, R = .ok (⟨l1, l2, l3, l4, ms, cd⟩ : Pg) j t) ∨ (e6 ≠ 0 ∧ R = .die e6 k6)) ∧ Rn w5 b bo bc s i6 e6 k6) := ⟨hp1, hp2, HCs6.out.1⟩
                                clear hp1 hp2 HCs6 HBd
                                go_upto_if 169 with fail
                                go_cut [] (fun wx => Fg b w5 wx ∧ ∃ i er k, Rn wx b bo bc s i er k ∧ ((er = 0 ∧ k = 0 ∧ ∃ j t, R = .ok (⟨l1, l2, l3, l4, ms, cd⟩ : Pg) j t) ∨ (er ≠ 0 ∧ R = .die er k)))
                                case first =>
                                  as_aux_lemma =>
                                    cases r4
                                    case false =>
                                      go_wp2_with fail
                                      go_meet
                                      exact ⟨Fg.refl _ _, i6, e6, k6, HP4.out.2.2, HP4.out.2.1 (by trivial)⟩
                                    case true =>
                                      obtain ⟨h1, h2, h3⟩ := HP4.out.1 (by trivial)
                                      subst h1
                                      subst h2
                                      have HF : Hid (R = .die 84 i6) := h3
                                      clear h3
                                      obtain ⟨c0, c1, c2, c3, f1, f2, f3⟩ := HP4.out.2.2.cells
                                      go_wp2_with fail
                                      refine (qfail_new HP4.out.2.2 84 i6).mono ?_
                                      rintro e w6 ⟨rfl, hw, hf⟩
                                      have HG : Hid (Fg b w5 w6 ∧ Rn w6 b bo bc s i6 84 i6) := ⟨hf, hw⟩
                                      clear hw hf c0 c1 c2 c3 f1 f2 f3
                                      go_wp2_with fail
                                      go_meet
                                      exact ⟨HG.out.1, i6, 84, i6, HG.out.2, Or.inr ⟨by decide, HF.out⟩⟩
                                case rest =>
                                  focus
                                    obtain ⟨hf, i7, e7, k7, hrn, hcs⟩ := hcut
                                    have HU8 : Hid (Qs W wc b pb bo bc s R (fun _ _ => R) #[.slice b1 l1.length k1, .slice b2 l2.length k2, .slice b3 l3.length k3, .slice b4 l4.length k4, .int .i64 ms, .slice b5 cd.length k5] ([(en1 a1.heap.size (.slice b1 l1.length k1) l1), (en2 a2.heap.size (.slice b2 l2.length k2) l2), (en3 a3.heap.size (.slice b3 l3.length k3) l3), (en3 a4.heap.size (.slice b4 l4.length k4) l4)] ++ [⟨w4.heap.size, 53, 5, .slice b5 cd.length k5, cd.length, Vf.cC cd⟩])) := by
                                      refine HU7.out.fg hf ⟨i7, e7, k7, hrn, ?_⟩
                                      rcases hcs with ⟨h1, h2, -⟩ | h
                                      · exact Or.inl ⟨h1, h2, rfl⟩
                                      · exact Or.inr h
                                    have HFg : Hid (∀ w', Below wc.heap.size wc w' → ∀ k, pb < k → k < w5.heap.size → w'.heap[k]? = w5.heap[k]?) := fun w' hb k h1 h2 => by
                                      have h3 := HU7.out.lt
                                      have h4 := hf.size
                                      exact (hb.block k (by omega)).trans (hf.block k h2 (by omega))
                                    have HRn : Hid (Rn wc b bo bc s i7 e7 k7) := hrn
                                    have HBd := show Hid _ from qbad_any hrn
                                    rcases hcs with ⟨h1, h2, j, t, h3⟩ | ⟨h1, h2⟩
                                    case inr =>
                                      have he2 : ((e7 : Int) != 0) = true := by rw [bne_iff_ne]; omega
                                      rw [he2] at HBd
                                      have HDie : Hid (R = .die e7 k7) := h2
                                      have HBl : Hid (Below W.heap.size W wc ∧ wc.heap[W.heap.size]? = some (.cells #[.slice none 0 0, .slice none 0 0, .slice none 0 0, .slice none 0 0, .int .i64 0, .slice none 0 0] 27 (0, 0)) ∧ wc.heap[W.heap.size + 1]? = some (.cells #[.int .i64 0, .int .i64 0] 46 (0, 0))) := ⟨HU8.out.bel, HU8.out.zp, HU8.out.zf⟩
                                      clear h1 h2 he2 hrn hf HU7 HP4
                                      go_wp2_with fail
                                      refine Calls.mono HBd.out ?_
                                      rintro e _ ⟨rfl, rfl⟩
                                      go_wp2_with fail
                                      refine Calls.mono HBd.out ?_
                                      rintro e _ ⟨rfl, rfl⟩
                                      obtain ⟨c0, c1, c2, c3, f1, f2, f3⟩ := HRn.out.cells
                                      have hbx : W.heap.size + 1 < b := HU8.out.lt.1
                                      have HWv : Hid (Wv W.heap.size wc #[.slice none 0 0, .slice none 0 0, .slice none 0 0, .slice none 0 0, .int .i64 0, .slice none 0 0] #[.int .i64 0, .int .i64 0]) := ⟨HBl.out.2.1, HBl.out.2.2⟩
                                      have y0 : wc.cell? ⟨W.heap.size, 0, none⟩ = some (.slice none 0 0) := HWv.out.cp rfl
                                      have y1 : wc.cell? ⟨W.heap.size, 1, none⟩ = some (.slice none 0 0) := HWv.out.cp rfl
                                      have y2 : wc.cell? ⟨W.heap.size, 2, none⟩ = some (.slice none 0 0) := HWv.out.cp rfl
                                      have y3 : wc.cell? ⟨W.heap.size, 3, none⟩ = some (.slice none 0 0) := HWv.out.cp rfl
                                      have y4 : wc.cell? ⟨W.heap.size, 4, none⟩ = some (.int .i64 0) := HWv.out.cp rfl
                                      have y5 : wc.cell? ⟨W.heap.size, 5, none⟩ = some (.slice none 0 0) := HWv.out.cp rfl
                                      have y6 : wc.cell? ⟨W.heap.size + 1, 0, none⟩ = some (.int .i64 0) := HWv.out.cf rfl
                                      have y7 : wc.cell? ⟨W.heap.size + 1, 1, none⟩ = some (.int .i64 0) := HWv.out.cf rfl
                                      have z0 := HWv.out.zp 0
                                      have z1 := HWv.out.zp 1
                                      have z2 := HWv.out.zp 2
                                      have z3 := HWv.out.zp 3
                                      have z4 := HWv.out.zp 4
                                      have z5 := HWv.out.zp 5
                                      have z6 := HWv.out.zf 0
                                      have z7 := HWv.out.zf 1
                                      have H9 : Hid (Wv W.heap.size ((((((((wc.setCell ⟨W.heap.size, 0, none⟩ (.slice none 0 0)).setCell ⟨W.heap.size, 1, none⟩ (.slice none 0 0)).setCell ⟨W.heap.size, 2, none⟩ (.slice none 0 0)).setCell ⟨W.heap.size, 3, none⟩ (.slice none 0 0)).setCell ⟨W.heap.size, 4, none⟩ (.int .i64 0)).setCell ⟨W.heap.size, 5, none⟩ (.slice none 0 0)).setCell ⟨W.heap.size + 1, 0, none⟩ (.int .i64 (e7 : Int))).setCell ⟨W.heap.size + 1, 1, none⟩ (.int .i64 (k7 : Int))).drew #[.slice none 0 0, .slice none 0 0, .slice none 0 0, .slice none 0 0, .int .i64 0, .slice none 0 0] #[.int .i64 (e7 : Int), .int .i64 (k7 : Int)] ∧ Fv W.heap.size wc ((((((((wc.setCell ⟨W.heap.size, 0, none⟩ (.slice none 0 0)).setCell ⟨W.heap.size, 1, none⟩ (.slice none 0 0)).setCell ⟨W.heap.size, 2, none⟩ (.slice none 0 0)).setCell ⟨W.heap.size, 3, none⟩ (.slice none 0 0)).setCell ⟨W.heap.size, 4, none⟩ (.int .i64 0)).setCell ⟨W.heap.size, 5, none⟩ (.slice none 0 0)).setCell ⟨W.heap.size + 1, 0, none⟩ (.int .i64 (e7 : Int))).setCell ⟨W.heap.size + 1, 1, none⟩ (.int .i64 (k7 : Int))).drew) := HWv.out.putD (.slice none 0 0) (.slice none 0 0) (.slice none 0 0) (.slice none 0 0) (.int .i64 0) (.slice none 0 0) (.int .i64 (e7 : Int)) (.int .i64 (k7 : Int))
                                      go_wp2_with fail
                                      go_region
                                      go_wp2_with fail
                                      clear y0 y1 y2 y3 y4 y5 y6 y7 z0 z1 z2 z3 z4 z5 z6 z7 c0 c1 c2 c3 f1 f2 f3
                                      generalize ((((((((wc.setCell ⟨W.heap.size, 0, none⟩ (.slice none 0 0)).setCell ⟨W.heap.size, 1, none⟩ (.slice none 0 0)).setCell ⟨W.heap.size, 2, none⟩ (.slice none 0 0)).setCell ⟨W.heap.size, 3, none⟩ (.slice none 0 0)).setCell ⟨W.heap.size, 4, none⟩ (.int .i64 0)).setCell ⟨W.heap.size, 5, none⟩ (.slice none 0 0)).setCell ⟨W.heap.size + 1, 0, none⟩ (.int .i64 (e7 : Int))).setCell ⟨W.heap.size + 1, 1, none⟩ (.int .i64 (k7 : Int))).drew = wf at *
                                      have d0 : wf.cell? ⟨W.heap.size, 0, none⟩ = some (.slice none 0 0) := H9.out.1.cp rfl
                                      have d1 : wf.cell? ⟨W.heap.size, 1, none⟩ = some (.slice none 0 0) := H9.out.1.cp rfl
                                      have d2 : wf.cell? ⟨W.heap.size, 2, none⟩ = some (.slice none 0 0) := H9.out.1.cp rfl
                                      have d3 : wf.cell? ⟨W.heap.size, 3, none⟩ = some (.slice none 0 0) := H9.out.1.cp rfl
                                      have d4 : wf.cell? ⟨W.heap.size, 4, none⟩ = some (.int .i64 0) := H9.out.1.cp rfl
                                      have d5 : wf.cell? ⟨W.heap.size, 5, none⟩ = some (.slice none 0 0) := H9.out.1.cp rfl
                                      have f0 : wf.cell? ⟨W.heap.size + 1, 0, none⟩ = some (.int .i64 (e7 : Int)) := H9.out.1.cf rfl
                                      have f1 : wf.cell? ⟨W.heap.size + 1, 1, none⟩ = some (.int .i64 (k7 : Int)) := H9.out.1.cf rfl
                                      refine bodyPost_ret (v := .tuple #[.agg #[.slice none 0 0, .slice none 0 0, .slice none 0 0, .slice none 0 0, .int .i64 0, .slice none 0 0], .agg #[.int .i64 (e7 : Int), .int .i64 (k7 : Int)]]) (by simp [results, Tryd.results20, go_sem, d0, d1, d2, d3, d4, d5, f0, f1]) rfl ?_
                                      have hde : decR s = (pg0, e7, k7) := by unfold decR; rw [← HDc.out.1, HDie.out]
                                      have h3 := HDc.out.2.1.symm.trans hde
                                      have h4 := (Prod.mk.inj h3).1
                                      have h5 := Prod.mk.inj (Prod.mk.inj h3).2
                                      refine ⟨⟨none, 0, none, 0, none, 0, none, 0, none, 0⟩, ?_, ?_, ?_⟩
                                      · rw [h4, h5.1, h5.2]
                                        rfl
                                      · rw [h4]
                                        exact isPg_nil wf
                                      · have hs9 := HBl.out.1.size
                                        exact ⟨H9.out.2.os.trans HBl.out.1.os, H9.out.2.tape.trans HBl.out.1.tape, H9.out.2.output.trans HBl.out.1.output, Nat.le_trans hs9 H9.out.2.size, fun k hk => (H9.out.2.block k (by omega) (by omega) (by omega)).trans (HBl.out.1.block k hk)⟩
                                    case inl =>
                                      subst h1
                                      subst h2
                                      have HOk : Hid (R = .ok (⟨l1, l2, l3, l4, ms, cd⟩ : Pg) j t) := h3
                                      have HPg : Hid (IsPg wc ⟨b1, k1, b2, k2, b3, k3, b4, k4, b5, k5⟩ (⟨l1, l2, l3, l4, ms, cd⟩ : Pg)) := HIs.out wc (HFg.out wc (Below.refl _ _)) j t h3
                                      have HCk : Hid (Calls Tryd.prog 16 #[.agg #[.slice b1 l1.length k1, .slice b2 l2.length k2, .slice b3 l3.length k3, .slice b4 l4.length k4, .int .i64 ms, .slice b5 cd.length k5]] wc fun e w' => e = .returned (.int .i64 (chk (⟨l1, l2, l3, l4, ms, cd⟩ : Pg) : Int)) ∧ Below wc.heap.size wc w') := Vf.rchk_any ⟨b1, k1, b2, k2, b3, k3, b4, k4, b5, k5⟩ (⟨l1, l2, l3, l4, ms, cd⟩ : Pg) wc HPg.out
                                      have HDd : Hid (decR s = if chk (⟨l1, l2, l3, l4, ms, cd⟩ : Pg) = 0 then ((⟨l1, l2, l3, l4, ms, cd⟩ : Pg), 0, 0) else (pg0, chk (⟨l1, l2, l3, l4, ms, cd⟩ : Pg), 0)) := by
                                        show decR s = _
                                        unfold decR
                                        rw [← HDc.out.1, HOk.out]
                                      clear h3 hrn hf HP4
                                      obtain ⟨p0, p1, p2, p3, p4, p5⟩ := cells6 HU8.out.hb
                                      go_wp2_with fail
                                      refine Calls.mono HBd.out ?_
                                      rintro e _ ⟨rfl, rfl⟩
                                      go_wp2_with fail
                                      refine Calls.mono HCk.out ?_
                                      rintro e w8 ⟨rfl, hb⟩
                                      have HU9 : Hid (Qs W w8 b pb bo bc s R (fun _ _ => R) #[.slice b1 l1.length k1, .slice b2 l2.length k2, .slice b3 l3.length k3, .slice b4 l4.length k4, .int .i64 ms, .slice b5 cd.length k5] ([(en1 a1.heap.size (.slice b1 l1.length k1) l1), (en2 a2.heap.size (.slice b2 l2.length k2) l2), (en3 a3.heap.size (.slice b3 l3.length k3) l3), (en3 a4.heap.size (.slice b4 l4.length k4) l4)] ++ [⟨w4.heap.size, 53, 5, .slice b5 cd.length k5, cd.length, Vf.cC cd⟩]) ∧ Rn w8 b bo bc s i7 0 0 ∧ Below wc.heap.size wc w8) := ⟨HU8.out.fg (Fg.of_below hb) (HU8.out.ct.below hb), HRn.out.below hb, hb⟩
                                      clear hb HCk HBd p0 p1 p2 p3 p4 p5 HRn HU8
                                      obtain ⟨ck, hck⟩ : ∃ ck, ck = chk (⟨l1, l2, l3, l4, ms, cd⟩ : Pg) := ⟨_, rfl⟩
                                      rw [← hck] at HDd ⊢
                                      have HCk2 : Hid (ck = chk (⟨l1, l2, l3, l4, ms, cd⟩ : Pg)) := hck
                                      clear hck
                                      go_wp2_with fail
                                      refine (qfail_new HU9.out.2.1 ck 0).mono ?_
                                      rintro e w9 ⟨rfl, hw, hf⟩
                                      have HU10 : Hid (Qs W w9 b pb bo bc s R (fun _ _ => R) #[.slice b1 l1.length k1, .slice b2 l2.length k2, .slice b3 l3.length k3, .slice b4 l4.length k4, .int .i64 ms, .slice b5 cd.length k5] ([(en1 a1.heap.size (.slice b1 l1.length k1) l1), (en2 a2.heap.size (.slice b2 l2.length k2) l2), (en3 a3.heap.size (.slice b3 l3.length k3) l3), (en3 a4.heap.size (.slice b4 l4.length k4) l4)] ++ [⟨w4.heap.size, 53, 5, .slice b5 cd.length k5, cd.length, Vf.cC cd⟩]) ∨ ck ≠ 0) := by
                                        by_cases h0 : ck = 0
                                        · subst h0
                                          exact Or.inl (HU9.out.1.fg hf ⟨i7, 0, 0, hw, Or.inl ⟨rfl, rfl, rfl⟩⟩)
                                        · exact Or.inr h0
                                      have HRn : Hid (Rn w9 b bo bc s i7 ck 0 ∧ Fg b w8 w9) := ⟨hw, hf⟩
                                      have HB9 : Hid (Below W.heap.size W w9 ∧ w9.heap[W.heap.size]? = some (.cells #[.slice none 0 0, .slice none 0 0, .slice none 0 0, .slice none 0 0, .int .i64 0, .slice none 0 0] 27 (0, 0)) ∧ w9.heap[W.heap.size + 1]? = some (.cells #[.int .i64 0, .int .i64 0] 46 (0, 0)) ∧ w9.heap[pb]? = some (.cells #[.slice b1 l1.length k1, .slice b2 l2.length k2, .slice b3 l3.length k3, .slice b4 l4.length k4, .int .i64 ms, .slice b5 cd.length k5] 27 (0, 0))) := by
                                        obtain ⟨q1', q2', q3', q4', -, -, q7'⟩ := HU9.out.1
                                        have hs9 := q1'.size
                                        exact ⟨⟨hf.os.trans q1'.os, hf.tape.trans q1'.tape, hf.output.trans q1'.output, Nat.le_trans hs9 hf.size, fun k hk => (hf.block k (by omega) (by omega)).trans (q1'.block k hk)⟩, (hf.block _ (blk_lt q2') (by omega)).trans q2', (hf.block _ (blk_lt q3') (by omega)).trans q3', (hf.block _ (blk_lt q4') (by omega)).trans q4'⟩
                                      have HBd := show Hid _ from qbad_any hw
                                      clear hw hf
                                      by_cases hck : ck = 0
                                      case neg =>
                                        have he2 : ((ck : Int) != 0) = true := by rw [bne_iff_ne]; omega
                                        rw [he2] at HBd
                                        have HNe : Hid (ck ≠ 0) := hck
                                        have HBl : Hid (Below W.heap.size W w9 ∧ w9.heap[W.heap.size]? = some (.cells #[.slice none 0 0, .slice none 0 0, .slice none 0 0, .slice none 0 0, .int .i64 0, .slice none 0 0] 27 (0, 0)) ∧ w9.heap[W.heap.size + 1]? = some (.cells #[.int .i64 0, .int .i64 0] 46 (0, 0))) := ⟨HB9.out.1, HB9.out.2.1, HB9.out.2.2.1⟩
                                        have HDz : Hid (decR s = (pg0, ck, 0)) := HDd.out.trans (if_neg hck)
                                        clear hck he2
                                        go_wp2_with fail
                                        refine Calls.mono HBd.out ?_
                                        rintro e _ ⟨rfl, rfl⟩
                                        obtain ⟨c0, c1, c2, c3, f1, f2, f3⟩ := HRn.out.1.cells
                                        have hbx : W.heap.size + 1 < b := HU9.out.1.lt.1
                                        have HWv : Hid (Wv W.heap.size w9 #[.slice none 0 0, .slice none 0 0, .slice none 0 0, .slice none 0 0, .int .i64 0, .slice none 0 0] #[.int .i64 0, .int .i64 0]) := ⟨HBl.out.2.1, HBl.out.2.2⟩
                                        have y0 : w9.cell? ⟨W.heap.size, 0, none⟩ = some (.slice none 0 0) := HWv.out.cp rfl
                                        have y1 : w9.cell? ⟨W.heap.size, 1, none⟩ = some (.slice none 0 0) := HWv.out.cp rfl
                                        have y2 : w9.cell? ⟨W.heap.size, 2, none⟩ = some (.slice none 0 0) := HWv.out.cp rfl
                                        have y3 : w9.cell? ⟨W.heap.size, 3, none⟩ = some (.slice none 0 0) := HWv.out.cp rfl
                                        have y4 : w9.cell? ⟨W.heap.size, 4, none⟩ = some (.int .i64 0) := HWv.out.cp rfl
                                        have y5 : w9.cell? ⟨W.heap.size, 5, none⟩ = some (.slice none 0 0) := HWv.out.cp rfl
                                        have y6 : w9.cell? ⟨W.heap.size + 1, 0, none⟩ = some (.int .i64 0) := HWv.out.cf rfl
                                        have y7 : w9.cell? ⟨W.heap.size + 1, 1, none⟩ = some (.int .i64 0) := HWv.out.cf rfl
                                        have z0 := HWv.out.zp 0
                                        have z1 := HWv.out.zp 1
                                        have z2 := HWv.out.zp 2
                                        have z3 := HWv.out.zp 3
                                        have z4 := HWv.out.zp 4
                                        have z5 := HWv.out.zp 5
                                        have z6 := HWv.out.zf 0
                                        have z7 := HWv.out.zf 1
                                        have H9 : Hid (Wv W.heap.size ((((((((w9.setCell ⟨W.heap.size, 0, none⟩ (.slice none 0 0)).setCell ⟨W.heap.size, 1, none⟩ (.slice none 0 0)).setCell ⟨W.heap.size, 2, none⟩ (.slice none 0 0)).setCell ⟨W.heap.size, 3, none⟩ (.slice none 0 0)).setCell ⟨W.heap.size, 4, none⟩ (.int .i64 0)).setCell ⟨W.heap.size, 5, none⟩ (.slice none 0 0)).setCell ⟨W.heap.size + 1, 0, none⟩ (.int .i64 (ck : Int))).setCell ⟨W.heap.size + 1, 1, none⟩ (.int .i64 ((0 : Nat) : Int))).drew #[.slice none 0 0, .slice none 0 0, .slice none 0 0, .slice none 0 0, .int .i64 0, .slice none 0 0] #[.int .i64 (ck : Int), .int .i64 ((0 : Nat) : Int)] ∧ Fv W.heap.size w9 ((((((((w9.setCell ⟨W.heap.size, 0, none⟩ (.slice none 0 0)).setCell ⟨W.heap.size, 1, none⟩ (.slice none 0 0)).setCell ⟨W.heap.size, 2, none⟩ (.slice none 0 0)).setCell ⟨W.heap.size, 3, none⟩ (.slice none 0 0)).setCell ⟨W.heap.size, 4, none⟩ (.int .i64 0)).setCell ⟨W.heap.size, 5, none⟩ (.slice none 0 0)).setCell ⟨W.heap.size + 1, 0, none⟩ (.int .i64 (ck : Int))).setCell ⟨W.heap.size + 1, 1, none⟩ (.int .i64 ((0 : Nat) : Int))).drew) := HWv.out.putD (.slice none 0 0) (.slice none 0 0) (.slice none 0 0) (.slice none 0 0) (.int .i64 0) (.slice none 0 0) (.int .i64 (ck : Int)) (.int .i64 ((0 : Nat) : Int))
                                        go_wp2_with fail
                                        go_region
                                        go_wp2_with fail
                                        clear y0 y1 y2 y3 y4 y5 y6 y7 z0 z1 z2 z3 z4 z5 z6 z7 c0 c1 c2 c3 f1 f2 f3
                                        generalize ((((((((w9.setCell ⟨W.heap.size, 0, none⟩ (.slice none 0 0)).setCell ⟨W.heap.size, 1, none⟩ (.slice none 0 0)).setCell ⟨W.heap.size, 2, none⟩ (.slice none 0 0)).setCell ⟨W.heap.size, 3, none⟩ (.slice none 0 0)).setCell ⟨W.heap.size, 4, none⟩ (.int .i64 0)).setCell ⟨W.heap.size, 5, none⟩ (.slice none 0 0)).setCell ⟨W.heap.size + 1, 0, none⟩ (.int .i64 (ck : Int))).setCell ⟨W.heap.size + 1, 1, none⟩ (.int .i64 ((0 : Nat) : Int))).drew = wf at *
                                        have d0 : wf.cell? ⟨W.heap.size, 0, none⟩ = some (.slice none 0 0) := H9.out.1.cp rfl
                                        have d1 : wf.cell? ⟨W.heap.size, 1, none⟩ = some (.slice none 0 0) := H9.out.1.cp rfl
                                        have d2 : wf.cell? ⟨W.heap.size, 2, none⟩ = some (.slice none 0 0) := H9.out.1.cp rfl
                                        have d3 : wf.cell? ⟨W.heap.size, 3, none⟩ = some (.slice none 0 0) := H9.out.1.cp rfl
                                        have d4 : wf.cell? ⟨W.heap.size, 4, none⟩ = some (.int .i64 0) := H9.out.1.cp rfl
                                        have d5 : wf.cell? ⟨W.heap.size, 5, none⟩ = some (.slice none 0 0) := H9.out.1.cp rfl
                                        have f0 : wf.cell? ⟨W.heap.size + 1, 0, none⟩ = some (.int .i64 (ck : Int)) := H9.out.1.cf rfl
                                        have f1 : wf.cell? ⟨W.heap.size + 1, 1, none⟩ = some (.int .i64 ((0 : Nat) : Int)) := H9.out.1.cf rfl
                                        refine bodyPost_ret (v := .tuple #[.agg #[.slice none 0 0, .slice none 0 0, .slice none 0 0, .slice none 0 0, .int .i64 0, .slice none 0 0], .agg #[.int .i64 (ck : Int), .int .i64 ((0 : Nat) : Int)]]) (by simp [results, Tryd.results20, go_sem, d0, d1, d2, d3, d4, d5, f0, f1]) rfl ?_
                                        have hde : decR s = (pg0, ck, (0 : Nat)) := HDz.out
                                        have h3 := HDc.out.2.1.symm.trans hde
                                        have h4 := (Prod.mk.inj h3).1
                                        have h5 := Prod.mk.inj (Prod.mk.inj h3).2
                                        refine ⟨⟨none, 0, none, 0, none, 0, none, 0, none, 0⟩, ?_, ?_, ?_⟩
                                        · rw [h4, h5.1, h5.2]
                                          rfl
                                        · rw [h4]
                                          exact isPg_nil wf
                                        · have hs9 := HBl.out.1.size
                                          exact ⟨H9.out.2.os.trans HBl.out.1.os, H9.out.2.tape.trans HBl.out.1.tape, H9.out.2.output.trans HBl.out.1.output, Nat.le_trans hs9 H9.out.2.size, fun k hk => (H9.out.2.block k (by omega) (by omega) (by omega)).trans (HBl.out.1.block k hk)⟩
                                      case pos =>
                                        subst hck
                                        have HDz : Hid (decR s = ((⟨l1, l2, l3, l4, ms, cd⟩ : Pg), 0, 0)) := HDd.out.trans (if_pos rfl)
                                        have HBl : Hid (Below W.heap.size W w9 ∧ w9.heap[W.heap.size]? = some (.cells #[.slice none 0 0, .slice none 0 0, .slice none 0 0, .slice none 0 0, .int .i64 0, .slice none 0 0] 27 (0, 0)) ∧ w9.heap[W.heap.size + 1]? = some (.cells #[.int .i64 0, .int .i64 0] 46 (0, 0))) := ⟨HB9.out.1, HB9.out.2.1, HB9.out.2.2.1⟩
                                        go_wp2_with fail
                                        refine Calls.mono HBd.out ?_
                                        rintro e _ ⟨rfl, rfl⟩
                                        obtain ⟨p0, p1, p2, p3, p4, p5⟩ := cells6 HB9.out.2.2.2
                                        have hpb : W.heap.size + 1 < pb := by have := HU9.out.1.lt; omega
                                        have hpb1 : pb ≠ W.heap.size := by omega
                                        have hpb2 : pb ≠ W.heap.size + 1 := by omega
                                        have HWv : Hid (Wv W.heap.size w9 #[.slice none 0 0, .slice none 0 0, .slice none 0 0, .slice none 0 0, .int .i64 0, .slice none 0 0] #[.int .i64 0, .int .i64 0]) := ⟨HBl.out.2.1, HBl.out.2.2⟩
                                        have y0 : w9.cell? ⟨W.heap.size, 0, none⟩ = some (.slice none 0 0) := HWv.out.cp rfl
                                        have y1 : w9.cell? ⟨W.heap.size, 1, none⟩ = some (.slice none 0 0) := HWv.out.cp rfl
                                        have y2 : w9.cell? ⟨W.heap.size, 2, none⟩ = some (.slice none 0 0) := HWv.out.cp rfl
                                        have y3 : w9.cell? ⟨W.heap.size, 3, none⟩ = some (.slice none 0 0) := HWv.out.cp rfl
                                        have y4 : w9.cell? ⟨W.heap.size, 4, none⟩ = some (.int .i64 0) := HWv.out.cp rfl
                                        have y5 : w9.cell? ⟨W.heap.size, 5, none⟩ = some (.slice none 0 0) := HWv.out.cp rfl
                                        have y6 : w9.cell? ⟨W.heap.size + 1, 0, none⟩ = some (.int .i64 0) := HWv.out.cf rfl
                                        have y7 : w9.cell? ⟨W.heap.size + 1, 1, none⟩ = some (.int .i64 0) := HWv.out.cf rfl
                                        have z0 := HWv.out.zp 0
                                        have z1 := HWv.out.zp 1
                                        have z2 := HWv.out.zp 2
                                        have z3 := HWv.out.zp 3
                                        have z4 := HWv.out.zp 4
                                        have z5 := HWv.out.zp 5
                                        have z6 := HWv.out.zf 0
                                        have z7 := HWv.out.zf 1
                                        have H9 : Hid (Wv W.heap.size ((((((((w9.setCell ⟨W.heap.size, 0, none⟩ (.slice b1 l1.length k1)).setCell ⟨W.heap.size, 1, none⟩ (.slice b2 l2.length k2)).setCell ⟨W.heap.size, 2, none⟩ (.slice b3 l3.length k3)).setCell ⟨W.heap.size, 3, none⟩ (.slice b4 l4.length k4)).setCell ⟨W.heap.size, 4, none⟩ (.int .i64 ms)).setCell ⟨W.heap.size, 5, none⟩ (.slice b5 cd.length k5)).setCell ⟨W.heap.size + 1, 0, none⟩ (.int .i64 0)).setCell ⟨W.heap.size + 1, 1, none⟩ (.int .i64 0)) #[.slice b1 l1.length k1, .slice b2 l2.length k2, .slice b3 l3.length k3, .slice b4 l4.length k4, .int .i64 ms, .slice b5 cd.length k5] #[.int .i64 0, .int .i64 0] ∧ Fv W.heap.size w9 ((((((((w9.setCell ⟨W.heap.size, 0, none⟩ (.slice b1 l1.length k1)).setCell ⟨W.heap.size, 1, none⟩ (.slice b2 l2.length k2)).setCell ⟨W.heap.size, 2, none⟩ (.slice b3 l3.length k3)).setCell ⟨W.heap.size, 3, none⟩ (.slice b4 l4.length k4)).setCell ⟨W.heap.size, 4, none⟩ (.int .i64 ms)).setCell ⟨W.heap.size, 5, none⟩ (.slice b5 cd.length k5)).setCell ⟨W.heap.size + 1, 0, none⟩ (.int .i64 0)).setCell ⟨W.heap.size + 1, 1, none⟩ (.int .i64 0))) := HWv.out.put (.slice b1 l1.length k1) (.slice b2 l2.length k2) (.slice b3 l3.length k3) (.slice b4 l4.length k4) (.int .i64 ms) (.slice b5 cd.length k5) (.int .i64 0) (.int .i64 0)
                                        go_wp2_with fail
                                        clear y0 y1 y2 y3 y4 y5 y6 y7 z0 z1 z2 z3 z4 z5 z6 z7 p0 p1 p2 p3 p4 p5
                                        generalize ((((((((w9.setCell ⟨W.heap.size, 0, none⟩ (.slice b1 l1.length k1)).setCell ⟨W.heap.size, 1, none⟩ (.slice b2 l2.length k2)).setCell ⟨W.heap.size, 2, none⟩ (.slice b3 l3.length k3)).setCell ⟨W.heap.size, 3, none⟩ (.slice b4 l4.length k4)).setCell ⟨W.heap.size, 4, none⟩ (.int .i64 ms)).setCell ⟨W.heap.size, 5, none⟩ (.slice b5 cd.length k5)).setCell ⟨W.heap.size + 1, 0, none⟩ (.int .i64 0)).setCell ⟨W.heap.size + 1, 1, none⟩ (.int .i64 0)) = wf at *
                                        have d0 : wf.cell? ⟨W.heap.size, 0, none⟩ = some (.slice b1 l1.length k1) := H9.out.1.cp rfl
                                        have d1 : wf.cell? ⟨W.heap.size, 1, none⟩ = some (.slice b2 l2.length k2) := H9.out.1.cp rfl
                                        have d2 : wf.cell? ⟨W.heap.size, 2, none⟩ = some (.slice b3 l3.length k3) := H9.out.1.cp rfl
                                        have d3 : wf.cell? ⟨W.heap.size, 3, none⟩ = some (.slice b4 l4.length k4) := H9.out.1.cp rfl
                                        have d4 : wf.cell? ⟨W.heap.size, 4, none⟩ = some (.int .i64 ms) := H9.out.1.cp rfl
                                        have d5 : wf.cell? ⟨W.heap.size, 5, none⟩ = some (.slice b5 cd.length k5) := H9.out.1.cp rfl
                                        have f0 : wf.cell? ⟨W.heap.size + 1, 0, none⟩ = some (.int .i64 0) := H9.out.1.cf rfl
                                        have f1 : wf.cell? ⟨W.heap.size + 1, 1, none⟩ = some (.int .i64 0) := H9.out.1.cf rfl
                                        refine bodyPost_ret (v := .tuple #[.agg #[.slice b1 l1.length k1, .slice b2 l2.length k2, .slice b3 l3.length k3, .slice b4 l4.length k4, .int .i64 ms, .slice b5 cd.length k5], .agg #[.int .i64 0, .int .i64 0]]) (by simp [results, Tryd.results20, go_sem, d0, d1, d2, d3, d4, d5, f0, f1]) rfl ?_
                                        have h3 := HDc.out.2.1.symm.trans HDz.out
                                        have h4 := (Prod.mk.inj h3).1
                                        have h5 := Prod.mk.inj (Prod.mk.inj h3).2
                                        refine ⟨⟨b1, k1, b2, k2, b3, k3, b4, k4, b5, k5⟩, ?_, ?_, ?_⟩
                                        · rw [h4, h5.1, h5.2]
                                          rfl
                                        · rw [h4]
                                          refine HIs.out wf (fun k h1 h2 => ?_) j t HOk.out
                                          have h6 := HU9.out.1.lt
                                          have h7 := HU9.out.2.2.size
                                          have h8 := HRn.out.2.size
                                          have h9 := HFg.out w8 HU9.out.2.2 k h1 h2
                                          have hz := blk_lt HU9.out.1.hb
                                          have hk9 : k < w8.heap.size := by
                                            by_cases hq : k < w8.heap.size
                                            · exact hq
                                            · exfalso
                                              have hn : w8.heap[k]? = none := Array.getElem?_eq_none (by omega)
                                              rw [hn] at h9
                                              have := Array.getElem?_eq_none_iff.1 h9.symm
                                              omega
                                          exact (H9.out.2.block k (by omega) (by omega) (by omega)).trans ((HRn.out.2.block k hk9 (by omega)).trans h9)
                                        · have hs9 := HBl.out.1.size
                                          exact ⟨H9.out.2.os.trans HBl.out.1.os, H9.out.2.tape.trans HBl.out.1.tape, H9.out.2.output.trans HBl.out.1.output, Nat.le_trans hs9 H9.out.2.size, fun k hk => (H9.out.2.block k (by omega) (by omega) (by omega)).trans (HBl.out.1.block k hk)⟩
end Go.Proofs.YtcicifcnffacpaaDoor.Cd
