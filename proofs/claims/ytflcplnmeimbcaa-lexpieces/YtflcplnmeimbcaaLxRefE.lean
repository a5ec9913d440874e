import Derived.Test.YtflcplnmeimbcaaLxRefD
import Derived.Test.YtflcplnmeimbcaaLxScan
namespace Go.Proofs.Ytflcplnmeimbcaa.Lx
open Go.RowKit Go.Proofs.Ytflcplnmeimbcaa.Sp

/-- the worlds of the reference's round -/
structure Rr (w wr : World) (s : ByteArray) (ts : List Tok) (i : Nat) (v : Value) : Prop where
  size : w.heap.size + 1 ≤ wr.heap.size
  fault : wr.heap[w.heap.size]? = some (.cells #[.int .i64 0, .int .i64 0] 28 (0, 0))
  row : TokRow wr (w.heap.size + 1) v ts
  bel : Below w.heap.size w wr
  le : i ≤ s.size
  cnt : ts.length ≤ 65536
  sum : sc s 0 0 = (sc s i ts.length).pre ts

theorem Rr.first (w : World) (s : ByteArray) : Rr w (w.alloc (.cells #[.int .i64 0, .int .i64 0] 28)) s [] 0 (.slice none 0 0) :=
  ⟨by simp, heap_alloc_new _ _, World.ownsRow_nil _ _ _ _, (Below.refl _ w).alloc (Nat.le_refl _) _, Nat.zero_le _, by simp, (Res.pre_nil _).symm⟩
theorem Rr.push {w wr w1 : World} {s : ByteArray} {ts : List Tok} {i : Nat} {v v' : Value} {o : Obj} {x : Tok} (h : Rr w wr s ts i v)
    (hs : sc s i ts.length = (sc s x.stop (ts.length + 1)).cons x) (hx : x.stop ≤ s.size) (hn : ts.length ≠ 65536)
    (hown : w1.ownsRow (w.heap.size + 1) 40 4 v' (ts.length + 1) (ts.flatMap tc ++ tc x)) (hg : (wr.alloc o).grownBy w1 v.ownBlock) :
    Rr w w1 s (ts ++ [x]) x.stop v' := by
  have h1 := h.size
  have h3 := hg.size
  simp only [World.size_alloc] at h3
  have hlt := World.ownsRow.lt h.row
  have hbk : ∀ k, k < wr.heap.size → some k ≠ v.ownBlock → w1.heap[k]? = wr.heap[k]? := fun k hk hne => by
    rw [hg.block k (by simp; omega) hne, Below.heap_alloc _ _ _ (by omega)]
  refine ⟨by omega, ?_, ?_, ?_, hx, by have := h.cnt; simp; omega, ?_⟩
  · rw [hbk _ (by omega) (fun e => by have := (hlt _ e.symm).1; omega)]; exact h.fault
  · unfold TokRow
    rw [flat_push, List.length_append]
    exact hown
  · refine ⟨hg.os.trans h.bel.os, hg.tape.trans h.bel.tape, hg.output.trans h.bel.output, by have := h.bel.size; omega, fun k hk => ?_⟩
    rw [hbk k (by omega) (fun e => by have := (hlt _ e.symm).1; omega)]
    exact h.bel.block k hk
  · rw [h.sum, hs, Res.pre_cons, List.length_append]
    rfl
theorem Rr.last {w wr w1 : World} {s : ByteArray} {ts : List Tok} {i : Nat} {v v' : Value} {o : Obj} {x : Tok} (h : Rr w wr s ts i v) (hs : sc s i ts.length = .ok [x])
    (hown : w1.ownsRow (w.heap.size + 1) 40 4 v' (ts.length + 1) (ts.flatMap tc ++ tc x)) (hg : (wr.alloc o).grownBy w1 v.ownBlock) :
    w.heap.size < w1.heap.size ∧ w1.cell? ⟨w.heap.size, 0, none⟩ = some (.int .i64 0) ∧ w1.cell? ⟨w.heap.size, 1, none⟩ = some (.int .i64 0) ∧ (∀ i, w1.frozen? ⟨w.heap.size, i, none⟩ = false) ∧
      ∀ er i, Told (sc s 0 0) w.heap.size ((w1.setCell ⟨w.heap.size, 0, none⟩ er).setCell ⟨w.heap.size, 1, none⟩ i) (.returned (.tuple #[v', .agg #[.int .i64 0, .int .i64 0]])) ∧ Below w.heap.size w ((w1.setCell ⟨w.heap.size, 0, none⟩ er).setCell ⟨w.heap.size, 1, none⟩ i) := by
  have h1 := h.size
  have h3 := hg.size
  simp only [World.size_alloc] at h3
  have hlt := World.ownsRow.lt h.row
  have hbk : ∀ k, k < wr.heap.size → some k ≠ v.ownBlock → w1.heap[k]? = wr.heap[k]? := fun k hk hne => by
    rw [hg.block k (by simp; omega) hne, Below.heap_alloc _ _ _ (by omega)]
  have hf : w1.heap[w.heap.size]? = some (.cells #[.int .i64 0, .int .i64 0] 28 (0, 0)) := by
    rw [hbk _ (by omega) (fun e => by have := (hlt _ e.symm).1; omega)]; exact h.fault
  have hrow : TokRow w1 (w.heap.size + 1) v' (ts ++ [x]) := by
    unfold TokRow
    rw [flat_push, List.length_append]
    exact hown
  refine ⟨by omega, by simp [World.cell?, hf], by simp [World.cell?, hf], fun i => by simp [World.frozen?, hf], fun er i => ⟨?_, ?_⟩⟩
  · rw [h.sum, hs]
    exact ⟨v', rfl, hrow.two (by omega) (by omega)⟩
  · refine Below.trans ?_ (below_two _ _ _ _)
    refine ⟨hg.os.trans h.bel.os, hg.tape.trans h.bel.tape, hg.output.trans h.bel.output, by have := h.bel.size; omega, fun k hk => ?_⟩
    rw [hbk k (by omega) (fun e => by have := (hlt _ e.symm).1; omega)]
    exact h.bel.block k hk
theorem Rr.told {w wr w2 : World} {s : ByteArray} {ts : List Tok} {i er j : Nat} {v : Value} (h : Rr w wr s ts i v) (hs : sc s i ts.length = .fault er j) : Told (sc s 0 0) w.heap.size w2 (.returned (.tuple #[.slice none 0 0, .agg #[.int .i64 er, .int .i64 j]])) := by
  rw [h.sum, hs]
  exact rfl
theorem digits_in {s : ByteArray} {a i : Nat} (hi : i < ru isD s a - a) : 48 ≤ nb (s.extract a (ru isD s a)) i ∧ nb (s.extract a (ru isD s a)) i ≤ 57 := digit_in hi

set_option maxHeartbeats 16000000 in
set_option maxRecDepth 100000 in
theorem refScan_short (ao : Option Addr) (s : ByteArray) (cap : Nat) (w : World) (h : IsBytes w ao s) (hc : s.size ≤ cap) (hs : s.size ≤ 1048576) :
    Calls Try.prog 12 #[.slice ao s.size cap] w fun e w' => Told (sc s 0 0) w.heap.size w' e ∧ Below w.heap.size w w' := by
  have HB : Hid (IsBytes w ao s) := h
  clear h
  obtain ⟨i0, hi, hz0, hz1, hz2⟩ := info_parts info40
  have hd0 : decide ((1048576 : Int) < (s.size : Int)) = false := by simp; omega
  go_enter Try.func12, Try.ntmps12
  go_wp2_with fail
  refine (blank_any ao s cap 0 _ (HB.out.below (Rr.first w s).bel) (Nat.zero_le _) (by omega)).mono ?_
  rintro e w' ⟨rfl, rfl⟩
  go_wp2_with fail
  clear hd0
  go_loopw [4, 5] (fun l i wr => ∃ (ts : List Tok) (k a : Nat) (bo : Option Addr) (bc : Nat), i = .int .i64 a ∧ a = bl s k ∧ l = .slice bo ts.length bc ∧ Rr w wr s ts k (.slice bo ts.length bc)) (fun _ i _ => s.size - (intOf i).toNat)
  case atStart => exact ⟨[], 0, _, none, 0, rfl, rfl, rfl, Rr.first w s⟩
  case round =>
    obtain ⟨ts, k, a, bo, bc, rfl, ha0, rfl, hR⟩ := hrel
    have HA : Hid (a = bl s k) := ha0
    have HR : Hid (Rr w wr s ts k (.slice bo ts.length bc)) := hR
    have hk := hR.le
    have hbg := bl_ge hk
    have hbl := bl_le s k
    rw [← ha0] at hbg hbl
    have hz := hR.size
    have hlen := hR.cnt
    have hf0 : wr.cell? ⟨w.heap.size, 0, none⟩ = some (.int .i64 0) := by simp [World.cell?, hR.fault]
    have hf1 : wr.cell? ⟨w.heap.size, 1, none⟩ = some (.int .i64 0) := by simp [World.cell?, hR.fault]
    have hfz0 : wr.frozen? ⟨w.heap.size, 0, none⟩ = false := by simp [World.frozen?, hR.fault]
    have hfz1 : wr.frozen? ⟨w.heap.size, 1, none⟩ = false := by simp [World.frozen?, hR.fault]
    have HQ : Hid (IsBytes wr ao s) := HB.out.below hR.bel
    clear hR ha0
    by_cases hend : a = s.size
    · have HS : Hid (sc s k ts.length = .ok [⟨0, s.size, s.size, 0⟩]) := sc_end (k := ts.length) hk (show bl s k = s.size by rw [← HA.out]; exact hend)
      have hd : ¬ a < s.size := by omega
      clear hend
      go_wp2_with (at_builtin; refine wpList_append_own _ rfl _ _ 25 rfl (w.heap.size + 1) 40 i0 (.agg #[.int .i64 0, .int .i64 0, .int .i64 0, .int .i64 0]) 4 32 Try.underlying25 hi hz0 hz1 hz2 rfl (by decide) _ _ _ rfl (HR.out.row.alloc _) ⟨wr.heap.size, 0, none⟩ 1 1 (tc ⟨0, s.size, s.size, 0⟩) rfl rfl ?c1 ?c2 ?c3 ?c4 ?c5 ?_)
      case c1 => exact cell_four' _ _ _ _ _ _ _ (by simp)
      case c2 => intro u hu; simp [tc] at hu; rcases hu with rfl | rfl | rfl | rfl <;> rfl
      case c3 => unfold maxLen; omega
      case c4 => omega
      case c5 => simp; omega
      intro v' w1 hown' hgrow _
      obtain ⟨q1, q2, q3, q4, q5⟩ := HR.out.last (x := ⟨0, s.size, s.size, 0⟩) HS.out hown' hgrow
      have HL : Hid (∀ er i, Told (sc s 0 0) w.heap.size ((w1.setCell ⟨w.heap.size, 0, none⟩ er).setCell ⟨w.heap.size, 1, none⟩ i) (.returned (.tuple #[v', .agg #[.int .i64 0, .int .i64 0]])) ∧ Below w.heap.size w ((w1.setCell ⟨w.heap.size, 0, none⟩ er).setCell ⟨w.heap.size, 1, none⟩ i)) := q5
      clear hown' hgrow hf0 hf1 hfz0 hfz1 q5
      have hfz0 := q4 0
      have hfz1 := q4 1
      go_wp2
      refine bodyPost_ret (v := .tuple #[v', .agg #[.int .i64 0, .int .i64 0]]) (by simp [results, Try.results12, go_sem, q2, q3]) rfl (HL.out _ _)
    · have ha : a < s.size := by omega
      have hlt : (a : Int) < (s.size : Int) := by omega
      by_cases hmany : ts.length = 65536
      · have hm : ((ts.length : Int) == 65536) = true := by simp; omega
        have HS : Hid (sc s k ts.length = .fault 3 a) := by
          have := sc_many hk (show bl s k < s.size by rw [← HA.out]; exact ha) hmany
          rw [← HA.out] at this
          exact this
        go_wp2
        refine bodyPost_ret (v := .tuple #[.slice none 0 0, .agg #[.int .i64 (3 : Nat), .int .i64 a]]) (by simp [results, Try.results12, go_sem, hf0, hf1]) rfl ⟨HR.out.told HS.out, HR.out.bel.trans (below_two _ _ _ _)⟩
      · have hm : ((ts.length : Int) == 65536) = false := by simp; omega
        by_cases hl : isL (nb s a) = true
        · obtain ⟨e1, e2⟩ := ru_gt (p := isW) ha (isL_W _ hl)
          by_cases hkp : kp (tx (s.extract a (ru isW s a))) = true
          · have HS : Hid (sc s k ts.length = (sc s (ru isW s a) (ts.length + 1)).cons ⟨5, a, ru isW s a, 0⟩) := sc_kept hk HA.out.symm ha hmany hl hkp
            have HP : Hid (∀ W, IsBytes W ao s → Calls Try.prog 24 #[.slice ao s.size cap, .int .i64 a] W fun e w' => e = .returned (.tuple #[.int .i64 (5 : Nat), .int .i64 (ru isW s a : Nat)]) ∧ w' = W) := fun W hb => refWord ao s cap a W hb hc ha (by omega) 5 hl (Or.inl ⟨rfl, hkp⟩)
            generalize ru isW s a = q at *
            clear hkp
            go_wp2_with fail
            refine (HP.out _ HQ.out).mono ?_
            rintro e w' ⟨rfl, rfl⟩
            go_wp2_with (at_builtin; refine wpList_append_own _ rfl _ _ 25 rfl (w.heap.size + 1) 40 i0 (.agg #[.int .i64 0, .int .i64 0, .int .i64 0, .int .i64 0]) 4 32 Try.underlying25 hi hz0 hz1 hz2 rfl (by decide) _ _ _ rfl (HR.out.row.alloc _) ⟨w'.heap.size, 0, none⟩ 1 1 (tc ⟨5, a, q, 0⟩) rfl rfl ?c1 ?c2 ?c3 ?c4 ?c5 ?_)
            case c1 => exact cell_four' _ _ _ _ _ _ _ (by simp)
            case c2 => intro u hu; simp [tc] at hu; rcases hu with rfl | rfl | rfl | rfl <;> rfl
            case c3 => unfold maxLen; omega
            case c4 => omega
            case c5 => simp; omega
            intro v' w1 hown' hgrow _
            have hR' := HR.out.push (x := ⟨5, a, q, 0⟩) HS.out e2 hmany hown' hgrow
            obtain ⟨bo', bc', hv'⟩ := hR'.row.form
            rw [hv'] at hR' ⊢
            have HR' : Hid (Rr w w1 s (ts ++ [(⟨5, a, q, 0⟩ : Tok)]) (q) (.slice bo' (ts ++ [(⟨5, a, q, 0⟩ : Tok)]).length bc')) := hR'
            clear hR' hown' hgrow hv' hf0 hf1 hfz0 hfz1
            generalize ts ++ [(⟨5, a, q, 0⟩ : Tok)] = ts' at *
            go_wp2_with fail
            refine (blank_any ao s cap (q) _ (HB.out.below HR'.out.bel) e2 (by omega)).mono ?_
            rintro e w'' ⟨rfl, rfl⟩
            have hge := bl_ge (s := s) (i := q) e2
            go_wp2
            go_roundw
            case rel => exact ⟨ts', q, bl s (q), bo', bc', rfl, rfl, rfl, HR'.out⟩
            case measure => simp [intOf]; omega
          · have hkp : kp (tx (s.extract a (ru isW s a))) = false := by simpa using hkp
            have HP : Hid (∀ W, IsBytes W ao s → Calls Try.prog 24 #[.slice ao s.size cap, .int .i64 a] W fun e w' => e = .returned (.tuple #[.int .i64 (2 : Nat), .int .i64 (ru isW s a : Nat)]) ∧ w' = W) := fun W hb => refWord ao s cap a W hb hc ha (by omega) 2 hl (Or.inr ⟨rfl, hkp⟩)
            by_cases h64 : 64 < ru isW s a - a
            · have HS : Hid (sc s k ts.length = .fault 13 a) := sc_long hk HA.out.symm ha hmany hl hkp h64
              generalize ru isW s a = q at *
              have h65 : (64 : Int) < (q : Int) - (a : Int) := by omega
              clear hkp
              go_wp2_with fail
              refine (HP.out _ HQ.out).mono ?_
              rintro e w' ⟨rfl, rfl⟩
              go_wp2
              refine bodyPost_ret (v := .tuple #[.slice none 0 0, .agg #[.int .i64 (13 : Nat), .int .i64 a]]) (by simp [results, Try.results12, go_sem, hf0, hf1]) rfl ⟨HR.out.told HS.out, HR.out.bel.trans (below_two _ _ _ _)⟩
            · have HS : Hid (sc s k ts.length = (sc s (ru isW s a) (ts.length + 1)).cons ⟨2, a, ru isW s a, 0⟩) := sc_named hk HA.out.symm ha hmany hl hkp (by omega)
              generalize ru isW s a = q at *
              have h65 : decide ((64 : Int) < (q : Int) - (a : Int)) = false := by simp; omega
              clear hkp
              go_wp2_with fail
              refine (HP.out _ HQ.out).mono ?_
              rintro e w' ⟨rfl, rfl⟩
              go_wp2_with (at_builtin; refine wpList_append_own _ rfl _ _ 25 rfl (w.heap.size + 1) 40 i0 (.agg #[.int .i64 0, .int .i64 0, .int .i64 0, .int .i64 0]) 4 32 Try.underlying25 hi hz0 hz1 hz2 rfl (by decide) _ _ _ rfl (HR.out.row.alloc _) ⟨w'.heap.size, 0, none⟩ 1 1 (tc ⟨2, a, q, 0⟩) rfl rfl ?c1 ?c2 ?c3 ?c4 ?c5 ?_)
              case c1 => exact cell_four' _ _ _ _ _ _ _ (by simp)
              case c2 => intro u hu; simp [tc] at hu; rcases hu with rfl | rfl | rfl | rfl <;> rfl
              case c3 => unfold maxLen; omega
              case c4 => omega
              case c5 => simp; omega
              intro v' w1 hown' hgrow _
              have hR' := HR.out.push (x := ⟨2, a, q, 0⟩) HS.out e2 hmany hown' hgrow
              obtain ⟨bo', bc', hv'⟩ := hR'.row.form
              rw [hv'] at hR' ⊢
              have HR' : Hid (Rr w w1 s (ts ++ [(⟨2, a, q, 0⟩ : Tok)]) (q) (.slice bo' (ts ++ [(⟨2, a, q, 0⟩ : Tok)]).length bc')) := hR'
              clear hR' hown' hgrow hv' hf0 hf1 hfz0 hfz1
              generalize ts ++ [(⟨2, a, q, 0⟩ : Tok)] = ts' at *
              go_wp2_with fail
              refine (blank_any ao s cap (q) _ (HB.out.below HR'.out.bel) e2 (by omega)).mono ?_
              rintro e w'' ⟨rfl, rfl⟩
              have hge := bl_ge (s := s) (i := q) e2
              go_wp2
              go_roundw
              case rel => exact ⟨ts', q, bl s (q), bo', bc', rfl, rfl, rfl, HR'.out⟩
              case measure => simp [intOf]; omega
        · have hl : isL (nb s a) = false := by simpa using hl
          by_cases hdg : isD (nb s a) = true
          · obtain ⟨e1, e2⟩ := ru_gt (p := isD) ha hdg
            obtain ⟨A, C, hsl, hA, hC, hzz⟩ := cut_any Try.underlying22 ao s cap a (ru isD s a) hc (by omega) e2
            have HP : Hid (∀ W, IsBytes W ao s → Calls Try.prog 24 #[.slice ao s.size cap, .int .i64 a] W fun e w' => e = .returned (.tuple #[.int .i64 (3 : Nat), .int .i64 (ru isD s a : Nat)]) ∧ w' = W) := fun W hb => refNum ao s cap a W hb ha (by omega) hl hdg
            have HV : Hid (∀ W, IsBytes W ao s → Calls Try.prog 25 #[.slice A (ru isD s a - a) C] W fun e w' => e = .returned (.int .i64 (val 0 (tx (s.extract a (ru isD s a))) : Nat)) ∧ w' = W) := fun W hb => by
              rw [← hzz]
              exact value_any A _ C W (hA W hb) (by omega) (fun i hi => digits_in (by omega))
            by_cases hv : 1073741824 < val 0 (tx (s.extract a (ru isD s a)))
            · have HS : Hid (sc s k ts.length = .fault 12 a) := sc_big hk HA.out.symm ha hmany hl hdg hv
              generalize val 0 (tx (s.extract a (ru isD s a))) = n at *
              generalize ru isD s a = q at *
              clear hA hzz
              go_wp2_with fail
              refine (HP.out _ HQ.out).mono ?_
              rintro e w' ⟨rfl, rfl⟩
              go_wp2_with fail
              refine (HV.out _ HQ.out).mono ?_
              rintro e w' ⟨rfl, rfl⟩
              go_wp2
              refine bodyPost_ret (v := .tuple #[.slice none 0 0, .agg #[.int .i64 (12 : Nat), .int .i64 a]]) (by simp [results, Try.results12, go_sem, hf0, hf1]) rfl ⟨HR.out.told HS.out, HR.out.bel.trans (below_two _ _ _ _)⟩
            · have HS : Hid (sc s k ts.length = (sc s (ru isD s a) (ts.length + 1)).cons ⟨3, a, ru isD s a, val 0 (tx (s.extract a (ru isD s a)))⟩) := sc_num hk HA.out.symm ha hmany hl hdg (by omega)
              generalize val 0 (tx (s.extract a (ru isD s a))) = n at *
              generalize ru isD s a = q at *
              clear hA hzz
              have hv2 : ¬ ((1073741824 : Int) < (n : Int)) := by omega
              go_wp2_with fail
              refine (HP.out _ HQ.out).mono ?_
              rintro e w' ⟨rfl, rfl⟩
              go_wp2_with fail
              refine (HV.out _ HQ.out).mono ?_
              rintro e w' ⟨rfl, rfl⟩
              go_wp2_with (at_builtin; refine wpList_append_own _ rfl _ _ 25 rfl (w.heap.size + 1) 40 i0 (.agg #[.int .i64 0, .int .i64 0, .int .i64 0, .int .i64 0]) 4 32 Try.underlying25 hi hz0 hz1 hz2 rfl (by decide) _ _ _ rfl (HR.out.row.alloc _) ⟨w'.heap.size, 0, none⟩ 1 1 (tc ⟨3, a, q, n⟩) rfl rfl ?c1 ?c2 ?c3 ?c4 ?c5 ?_)
              case c1 => exact cell_four' _ _ _ _ _ _ _ (by simp)
              case c2 => intro u hu; simp [tc] at hu; rcases hu with rfl | rfl | rfl | rfl <;> rfl
              case c3 => unfold maxLen; omega
              case c4 => omega
              case c5 => simp; omega
              intro v' w1 hown' hgrow _
              have hR' := HR.out.push (x := ⟨3, a, q, n⟩) HS.out e2 hmany hown' hgrow
              obtain ⟨bo', bc', hv'⟩ := hR'.row.form
              rw [hv'] at hR' ⊢
              have HR' : Hid (Rr w w1 s (ts ++ [(⟨3, a, q, n⟩ : Tok)]) (q) (.slice bo' (ts ++ [(⟨3, a, q, n⟩ : Tok)]).length bc')) := hR'
              clear hR' hown' hgrow hv' hf0 hf1 hfz0 hfz1
              generalize ts ++ [(⟨3, a, q, n⟩ : Tok)] = ts' at *
              go_wp2_with fail
              refine (blank_any ao s cap (q) _ (HB.out.below HR'.out.bel) e2 (by omega)).mono ?_
              rintro e w'' ⟨rfl, rfl⟩
              have hge := bl_ge (s := s) (i := q) e2
              go_wp2
              go_roundw
              case rel => exact ⟨ts', q, bl s (q), bo', bc', rfl, rfl, rfl, HR'.out⟩
              case measure => simp [intOf]; omega
          · have hdg : isD (nb s a) = false := by simpa using hdg
            have HP : Hid (∀ W, IsBytes W ao s → Calls Try.prog 24 #[.slice ao s.size cap, .int .i64 a] W fun e w' => e = .returned (.tuple (if a + 1 < s.size ∧ s2 (nb s a) (nb s (a + 1)) = true then #[.int .i64 4, .int .i64 (a + 2 : Nat)] else if s1 (nb s a) = true then #[.int .i64 4, .int .i64 (a + 1 : Nat)] else #[.int .i64 (-1), .int .i64 a])) ∧ w' = W) := fun W hb => refSign ao s cap a W hb hc ha (by omega) hl hdg
            have tail : Hid ((∃ q, q ≤ s.size ∧ a < q ∧ sc s k ts.length = (sc s q (ts.length + 1)).cons ⟨4, a, q, 0⟩ ∧ ∀ W, IsBytes W ao s → Calls Try.prog 24 #[.slice ao s.size cap, .int .i64 a] W fun e w' => e = .returned (.tuple #[.int .i64 (4 : Nat), .int .i64 (q : Nat)]) ∧ w' = W) ∨ (sc s k ts.length = .fault 11 a ∧ ∀ W, IsBytes W ao s → Calls Try.prog 24 #[.slice ao s.size cap, .int .i64 a] W fun e w' => e = .returned (.tuple #[.int .i64 (-1), .int .i64 a]) ∧ w' = W)) := by
              by_cases h2 : a + 1 < s.size ∧ s2 (nb s a) (nb s (a + 1)) = true
              · refine Or.inl ⟨a + 2, by omega, by omega, sc_two hk HA.out.symm ha hmany hl hdg h2.1 h2.2, fun W hb => ?_⟩
                have := HP.out W hb
                rw [if_pos h2] at this
                exact this
              · have h3 : a + 1 < s.size → s2 (nb s a) (nb s (a + 1)) = false := fun h4 => by
                  cases h5 : s2 (nb s a) (nb s (a + 1)) with
                  | false => rfl
                  | true => exact absurd ⟨h4, h5⟩ h2
                by_cases h1 : s1 (nb s a) = true
                · refine Or.inl ⟨a + 1, by omega, by omega, sc_one hk HA.out.symm ha hmany hl hdg h3 h1, fun W hb => ?_⟩
                  have := HP.out W hb
                  rw [if_neg h2, if_pos h1] at this
                  exact this
                · refine Or.inr ⟨sc_none hk HA.out.symm ha hmany hl hdg h3 (by simpa using h1), fun W hb => ?_⟩
                  have := HP.out W hb
                  rw [if_neg h2, if_neg h1] at this
                  exact this
            obtain ⟨q, e2, e1, hS, hP⟩ | ⟨hS, hP⟩ := tail.out
            · have HS : Hid (sc s k ts.length = (sc s q (ts.length + 1)).cons ⟨4, a, q, 0⟩) := hS
              have HP2 : Hid (∀ W, IsBytes W ao s → Calls Try.prog 24 #[.slice ao s.size cap, .int .i64 a] W fun e w' => e = .returned (.tuple #[.int .i64 (4 : Nat), .int .i64 (q : Nat)]) ∧ w' = W) := hP
              clear hS hP tail HP
              go_wp2_with fail
              refine (HP2.out _ HQ.out).mono ?_
              rintro e w' ⟨rfl, rfl⟩
              go_wp2_with (at_builtin; refine wpList_append_own _ rfl _ _ 25 rfl (w.heap.size + 1) 40 i0 (.agg #[.int .i64 0, .int .i64 0, .int .i64 0, .int .i64 0]) 4 32 Try.underlying25 hi hz0 hz1 hz2 rfl (by decide) _ _ _ rfl (HR.out.row.alloc _) ⟨w'.heap.size, 0, none⟩ 1 1 (tc ⟨4, a, q, 0⟩) rfl rfl ?c1 ?c2 ?c3 ?c4 ?c5 ?_)
              case c1 => exact cell_four' _ _ _ _ _ _ _ (by simp)
              case c2 => intro u hu; simp [tc] at hu; rcases hu with rfl | rfl | rfl | rfl <;> rfl
              case c3 => unfold maxLen; omega
              case c4 => omega
              case c5 => simp; omega
              intro v' w1 hown' hgrow _
              have hR' := HR.out.push (x := ⟨4, a, q, 0⟩) HS.out e2 hmany hown' hgrow
              obtain ⟨bo', bc', hv'⟩ := hR'.row.form
              rw [hv'] at hR' ⊢
              have HR' : Hid (Rr w w1 s (ts ++ [(⟨4, a, q, 0⟩ : Tok)]) (q) (.slice bo' (ts ++ [(⟨4, a, q, 0⟩ : Tok)]).length bc')) := hR'
              clear hR' hown' hgrow hv' hf0 hf1 hfz0 hfz1
              generalize ts ++ [(⟨4, a, q, 0⟩ : Tok)] = ts' at *
              go_wp2_with fail
              refine (blank_any ao s cap (q) _ (HB.out.below HR'.out.bel) e2 (by omega)).mono ?_
              rintro e w'' ⟨rfl, rfl⟩
              have hge := bl_ge (s := s) (i := q) e2
              go_wp2
              go_roundw
              case rel => exact ⟨ts', q, bl s (q), bo', bc', rfl, rfl, rfl, HR'.out⟩
              case measure => simp [intOf]; omega
            · have HS : Hid (sc s k ts.length = .fault 11 a) := hS
              have HP2 : Hid (∀ W, IsBytes W ao s → Calls Try.prog 24 #[.slice ao s.size cap, .int .i64 a] W fun e w' => e = .returned (.tuple #[.int .i64 (-1), .int .i64 a]) ∧ w' = W) := hP
              clear hS hP tail HP
              go_wp2_with fail
              refine (HP2.out _ HQ.out).mono ?_
              rintro e w' ⟨rfl, rfl⟩
              go_wp2
              refine bodyPost_ret (v := .tuple #[.slice none 0 0, .agg #[.int .i64 (11 : Nat), .int .i64 a]]) (by simp [results, Try.results12, go_sem, hf0, hf1]) rfl ⟨HR.out.told HS.out, HR.out.bel.trans (below_two _ _ _ _)⟩

theorem refScan_any (ao : Option Addr) (s : ByteArray) (cap : Nat) (w : World) (h : IsBytes w ao s) (hc : s.size ≤ cap) :
    Calls Try.prog 12 #[.slice ao s.size cap] w fun e w' => Told (full s) w.heap.size w' e ∧ Below w.heap.size w w' := by
  by_cases hs : 1048576 < s.size
  · rw [full_long hs]
    clear h
    go_enter Try.func12, Try.ntmps12
    go_wp2
    refine bodyPost_ret (v := .tuple #[.slice none 0 0, .agg #[.int .i64 2, .int .i64 0]]) (by simp [results, Try.results12, go_sem]) rfl ⟨rfl, (Below.refl _ w).alloc (Nat.le_refl _) _⟩
  · rw [full_short (by omega)]
    exact refScan_short ao s cap w h hc (by omega)
end Go.Proofs.Ytflcplnmeimbcaa.Lx
