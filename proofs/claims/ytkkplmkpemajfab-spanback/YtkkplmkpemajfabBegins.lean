import Derived.Test.YtkkplmkpemajfabOpen
import Derived.Test.YtkkplmkpemajfabPureBack
import Derived.Lib.OthersKept
namespace Go.Proofs.Ytkkplmkpemajfab.Sp
open Go.RowKit

theorem info4 : (Try.prog.info? 4).map (fun i => (i.zero, i.size, i.bytes)) = some (some (.bool false), 1, 1) := by kernel_rfl

/-- block g is a row of n bools, the i-th of them f i -/
def RowB (w : World) (g n : Nat) (f : Nat → Bool) : Prop := ∃ cur : Array Value, w.heap[g]? = some (.cells cur 4 (0, 0)) ∧ cur.size = n ∧ ∀ i, i < n → cur[i]? = some (.bool (f i))
theorem RowB.lt {w : World} {g n : Nat} {f : Nat → Bool} (h : RowB w g n f) : g < w.heap.size := by
  obtain ⟨cur, h1, _⟩ := h
  exact (Array.getElem?_eq_some_iff.1 h1).1
theorem RowB.cell {w : World} {g n : Nat} {f : Nat → Bool} (h : RowB w g n f) {i : Nat} (hi : i < n) : w.cell? ⟨g, i, none⟩ = some (.bool (f i)) := by
  obtain ⟨cur, h1, h2, h3⟩ := h
  have hc := Lib.cells_of_row h1 cur.size i _ (by rw [List.take_of_length_le (by simp), Array.getElem?_toList]; exact h3 i hi)
  rw [Lib.addr_add] at hc
  simpa using hc
theorem RowB.frozen {w : World} {g n : Nat} {f : Nat → Bool} (h : RowB w g n f) (i : Nat) : w.frozen? ⟨g, i, none⟩ = false := by
  obtain ⟨cur, h1, h2, h3⟩ := h
  simp [World.frozen?, h1]
theorem RowB.keep {w w' : World} {g n : Nat} {f : Nat → Bool} (h : RowB w g n f) (hb : w'.heap[g]? = w.heap[g]?) : RowB w' g n f := by
  obtain ⟨cur, h1, h2⟩ := h
  exact ⟨cur, hb.trans h1, h2⟩
theorem RowB.set {w : World} {g n : Nat} {f : Nat → Bool} (h : RowB w g n f) (i : Nat) (v : Bool) : RowB (w.setCell ⟨g, i, none⟩ (.bool v)) g n (fun j => if j = i then v else f j) := by
  obtain ⟨cur, h1, h2, h3⟩ := h
  refine ⟨cur.setIfInBounds i (.bool v), ?_, by simpa using h2, fun j hj => ?_⟩
  · simp [World.setCell, Array.getElem?_modify, h1]
  · rw [Array.getElem?_setIfInBounds]
    by_cases e : i = j
    · subst e; simp; omega
    · have e' : ¬ j = i := fun x => e x.symm
      simp only [e, e', if_false]; exact h3 j hj
theorem RowB.ext {w : World} {g n : Nat} {f f' : Nat → Bool} (h : RowB w g n f) (e : ∀ i, i < n → f i = f' i) : RowB w g n f' := by
  obtain ⟨cur, h1, h2, h3⟩ := h
  exact ⟨cur, h1, h2, fun i hi => by rw [h3 i hi, e i hi]⟩

/-- what the inner rounds keep -/
structure BIn (w wi : World) (s t : ByteArray) (K fr pos f : Nat) : Prop where
  row : RowB wi w.heap.size (s.size + 1) (fun p => if p < fr then bg s p else (decide (p - fr < pos) && isSt t (p - fr)))
  it : wi.heap[K]? = some (.stringIter t pos)
  kg : w.heap.size < K
  bel : Below w.heap.size w wi
  sts : ∀ q, pos ≤ q → isSt t q = stF t f pos q
  fuel : t.size ≤ pos + f
theorem BIn.next {w wi : World} {s t : ByteArray} {K fr pos f : Nat} (h : BIn w wi s t K fr pos (f + 1)) (hp : pos < t.size) :
    BIn w ((wi.iterAt K t (pos + wd t pos)).setCell ⟨w.heap.size, fr + pos, none⟩ (.bool true)) s t K fr (pos + wd t pos) f := by
  have hw := wd_pos t pos hp
  have hi := Lib.iterAt_heap wi K t pos (pos + wd t pos) h.it
  have hs : isSt t pos = true := by rw [h.sts pos (Nat.le_refl _)]; simp [stF, hp]
  have hst : ∀ q, pos < q → isSt t q = stF t f (pos + wd t pos) q := fun q hq => by
    rw [h.sts q (by omega)]
    simp only [stF, hp, if_true]
    have : ¬ pos = q := by omega
    simp [this]
  have hrow := (h.row.keep (w' := wi.iterAt K t (pos + wd t pos)) (Lib.iterAt_other _ _ _ _ _ (by have := h.kg; omega))).set (fr + pos) true
  refine ⟨hrow.ext fun p _ => ?_, ?_, h.kg, (Lib.below_iterAt h.bel (by have := h.kg; omega) _ _).setCell (Nat.le_refl _) _, fun q hq => hst q (by omega), by have := h.fuel; omega⟩
  · by_cases hf : p < fr
    · have : ¬ p = fr + pos := by omega
      simp [hf, this]
    · by_cases he : p = fr + pos
      · subst he
        have e1 : fr + pos - fr = pos := by omega
        have e2 : ¬ fr + pos < fr := by omega
        have e3 : pos < pos + wd t pos := by omega
        simp only [e1, e2, e3, hs, if_true, if_false, decide_true, Bool.and_self]
      · simp only [he, hf, if_false]
        by_cases h1 : p - fr < pos
        · have h2 : p - fr < pos + wd t pos := by omega
          simp [h1, h2]
        · by_cases h2 : p - fr < pos + wd t pos
          · rw [hst (p - fr) (by omega), stF_low _ _ _ h2]
            simp
          · simp [h1, h2]
  · rw [Below.heap_setCell _ _ _ _ (by have := h.kg; simp; omega)]
    exact hi

theorem BIn.rowAt {w wi : World} {s t : ByteArray} {K fr pos f : Nat} (h : BIn w wi s t K fr pos f) (p' : Nat) : RowB (wi.iterAt K t p') w.heap.size (s.size + 1) (fun p => if p < fr then bg s p else (decide (p - fr < pos) && isSt t (p - fr))) :=
  h.row.keep (Lib.iterAt_other _ _ _ _ _ (by have := h.kg; omega))

/-- what the outer rounds keep -/
structure BOut (w wr : World) (s : ByteArray) (i fr : Nat) : Prop where
  row : RowB wr w.heap.size (s.size + 1) (fun p => if p < fr then bg s p else false)
  bel : Below w.heap.size w wr
  lt : w.heap.size < wr.heap.size
  fr1 : i ≤ s.size → fr = st s (spL s i)
  fr2 : i = s.size + 1 → fr = s.size + 1
  le : i ≤ s.size + 1
theorem BOut.skip {w wr : World} {s : ByteArray} {i fr : Nat} (h : BOut w wr s i fr) (hi : i < s.size) (hn : ¬ bt s i = 10) : BOut w wr s (i + 1) fr := by
  refine ⟨h.row, h.bel, h.lt, fun _ => ?_, fun e => by omega, by omega⟩
  rw [h.fr1 (by omega)]
  unfold spL
  rw [brk_no hn]
theorem line_end (s : ByteArray) (i : Nat) (hi : i ≤ s.size) (he : i = s.size ∨ bt s i = 10) : en s (spL s i) = i := by
  by_cases hs : i = s.size
  · subst hs
    have : spL s s.size = nl s := rfl
    unfold en
    rw [if_pos this]
  · have ht : bt s i = 10 := by
      rcases he with h | h
      · exact absurd h hs
      · exact h
    obtain ⟨b1, b2⟩ := B_at s i (by omega) ht
    unfold en
    rw [if_neg (by unfold spL nl; omega), show spL s i - 1 = (brk s i).length from rfl]
    exact b1
theorem BOut.enter {w wr : World} {s : ByteArray} {i fr : Nat} (h : BOut w wr s i fr) (t : ByteArray) : BIn w (wr.iter t 0) s t wr.heap.size fr 0 t.size := by
  refine ⟨(h.row.keep (w' := wr.iter t 0) (Below.heap_alloc _ _ _ h.lt)).ext fun p _ => ?_, World.iter_heap _ _ _, h.lt, h.bel.alloc (by have := h.lt; omega) _, fun q _ => rfl, by omega⟩
  by_cases hf : p < fr <;> simp [hf]
theorem BIn.leave {w wr wi : World} {s : ByteArray} {i fr K pos f : Nat} (h0 : BOut w wr s i fr) (hi : i ≤ s.size) (he : i = s.size ∨ bt s i = 10) (h : BIn w wi s (ln s (spL s i)) K fr pos f) (hp : ¬ pos < (ln s (spL s i)).size) :
    BOut w (wi.setCell ⟨w.heap.size, i, none⟩ (.bool true)) s (i + 1) (i + 1) := by
  have hen := line_end s i hi he
  obtain ⟨k0, k3, k5, k4, k8, kc⟩ := off_facts s i hi
  have hfr := h0.fr1 hi
  have hK : K < wi.heap.size := (Array.getElem?_eq_some_iff.1 h.it).1
  refine ⟨(h.row.set i true).ext fun p hpn => ?_, h.bel.setCell (Nat.le_refl _) _, by have := h.kg; simp [World.setCell]; omega, fun h1 => ?_, fun e => by omega, by omega⟩
  · by_cases hpi : p = i
    · subst hpi
      have : bg s p = true := by
        unfold bg bgT
        have : p - st s (spL s p) = (ln s (spL s p)).size := by omega
        simp [this]
      simp [this]
    · by_cases hf : p < fr
      · have : p < i + 1 := by omega
        simp [hpi, hf, this]
      · by_cases hlt : p < i
        · have h1 : p < i + 1 := by omega
          have hL := spL_of s (spL s i) p k0 k3 (by omega) (by omega)
          have hb : bg s p = isSt (ln s (spL s i)) (p - fr) := by
            unfold bg bgT
            rw [hL, ← hfr]
            have : ¬ p - fr = (ln s (spL s i)).size := by omega
            simp [this]
          have h2 : p - fr < pos := by omega
          simp [hpi, hf, h1, hb, h2]
        · have h1 : ¬ p < i + 1 := by omega
          have hn : isSt (ln s (spL s i)) (p - fr) = false := by
            cases hx : isSt (ln s (spL s i)) (p - fr) with
            | false => rfl
            | true => have := stF_lt _ _ _ hx; omega
          simp [hpi, hf, h1, hn]
  · have ht : bt s i = 10 := by
      rcases he with h | h
      · omega
      · exact h
    have hb := B_below s (i + 1) h1 (brk s i).length (by rw [brk_yes ht]; simp)
    have e1 : spL s (i + 1) = spL s i + 1 := by unfold spL; rw [brk_yes ht]; simp
    unfold st
    rw [e1, if_neg (by omega), show spL s i + 1 - 2 = (brk s i).length by unfold spL; omega, hb, brk_yes ht]
    simp [List.getD]

set_option maxHeartbeats 3200000 in
set_option maxRecDepth 100000 in
theorem begins_any (ao : Option Addr) (s : ByteArray) (cap : Nat) (w : World) (h : IsBytes w ao s) (hc : s.size ≤ cap) (hs : s.size ≤ 2097152) :
    Calls Try.prog 10 #[.slice ao s.size cap] w fun e w' => e = .returned (.slice (some ⟨w.heap.size, 0, none⟩) (s.size + 1) (s.size + 1)) ∧ RowB w' w.heap.size (s.size + 1) (bg s) ∧ Below w.heap.size w w' := by
  obtain ⟨i0, hi, hz0, hz1, hz2⟩ := info_parts info4
  obtain ⟨M, hM⟩ : ∃ M, M = madeCells (Value.bool false).cells (((s.size : Int) + 1).toNat * i0.size) := ⟨_, rfl⟩
  have hMs : M.size = s.size + 1 := by rw [hM, size_madeCells, hz1]; omega
  have hMi : ∀ i, i < s.size + 1 → M[i]? = some (.bool false) := fun i hi => by
    have e : (Value.bool false).cells = #[.bool false] := rfl
    rw [← Array.getElem?_toList, hM, e, toList_madeCells_one, List.getElem?_replicate, if_pos (by rw [hz1]; omega)]
  have hmk : ∀ u : World, (Instr.makeSlice 27 (.int .i64 ((s.size : Int) + 1)) (.int .i64 ((s.size : Int) + 1))).run Try.prog u = .ok (.slice (some ⟨u.heap.size, 0, none⟩) (s.size + 1) (s.size + 1)) (u.alloc (.cells M 4)) := fun u => by
    have h := run_make (P := Try.prog) u 27 4 i0 (.bool false) Try.underlying27 hi hz0 .i64 .i64 ((s.size : Int) + 1) ((s.size : Int) + 1) (by omega) (Int.le_refl _) (by rw [hz2]; omega) (by omega)
    rw [← hM] at h
    have e : ((s.size : Int) + 1).toNat = s.size + 1 := by omega
    rw [e] at h
    exact h
  clear hM
  have H0 : Hid (BOut w (w.alloc (.cells M 4)) s 0 0) := by
    refine ⟨⟨M, heap_alloc_new w _, hMs, fun i hi => by rw [hMi i hi]; simp⟩, (Below.refl _ w).alloc (Nat.le_refl _) _, by simp, fun _ => by simp [spL, brk, st], fun e => by omega, by omega⟩
  have HI : Hid (IsBytes w ao s) := h
  clear hMi hMs h
  go_enter Try.func10, Try.ntmps10
  go_wp2
  clear hmk
  go_loopw [4, 5] (fun fr i wr => ∃ k f : Nat, k ≤ s.size + 1 ∧ i = .int .i64 k ∧ fr = .int .i64 f ∧ BOut w wr s k f) (fun _ i _ => s.size + 1 - (intOf i).toNat)
  case atStart => exact ⟨0, 0, by omega, rfl, rfl, H0.out⟩
  case round =>
    obtain ⟨k, fr, hk, rfl, rfl, hO⟩ := hrel
    have HO : Hid (BOut w wr s k fr) := hO
    clear hO
    by_cases hle : k ≤ s.size
    · by_cases hskip : k < s.size ∧ ¬ bt s k = 10
      · obtain ⟨hlt, hn⟩ := hskip
        obtain ⟨g, o, rfl, hg, hcl⟩ := HI.out k hlt
        have hcw : wr.cell? ⟨g, o + k, none⟩ = some (.int .u8 (bt s k)) := (HO.out.bel.cell (p := ⟨g, o + k, none⟩) hg).trans hcl
        have hq : (bt s k != 10) = true := by simp [hn]
        have HN : Hid (BOut w wr s (k + 1) fr) := HO.out.skip hlt hn
        clear hcl hn
        go_wp2
        go_roundw
        case rel => exact ⟨k + 1, fr, by omega, by go_num, rfl, HN.out⟩
        case measure => simp [intOf]; omega
      · have he : k = s.size ∨ bt s k = 10 := by
          by_cases h1 : k = s.size
          · exact Or.inl h1
          · refine Or.inr ?_
            by_cases h2 : bt s k = 10
            · exact h2
            · exact absurd ⟨by omega, h2⟩ hskip
        have HE : Hid (k = s.size ∨ bt s k = 10) := he
        clear he hskip
        obtain ⟨k0, k3, k5, k4, k8, -⟩ := off_facts s k hle
        have HL := line_end s k hle HE.out
        have hfr := HO.out.fr1 hle
        obtain ⟨A, C, hcut, hcv⟩ := cut_any ao s cap fr k wr (HI.out.below HO.out.bel) hc (by omega) hle
        have HT : Hid (s.extract fr k = ln s (spL s k)) := by show _ = _; unfold ln; rw [HL, ← hfr]
        rw [HT.out] at hcv
        have htz : fr + (ln s (spL s k)).size = k := by omega
        have HTZ : Hid (fr + (ln s (spL s k)).size = k) := htz
        have hfk : fr ≤ k := by omega
        have HB : Hid (BIn w (wr.iter (ln s (spL s k)) 0) s (ln s (spL s k)) wr.heap.size fr 0 (ln s (spL s k)).size) := HO.out.enter _
        have HV : Hid (∀ wi pos f, BIn w wi s (ln s (spL s k)) wr.heap.size fr pos f → ¬ pos < (ln s (spL s k)).size → BOut w (wi.setCell ⟨w.heap.size, k, none⟩ (.bool true)) s (k + 1) (k + 1)) := fun wi pos f h1 h2 => BIn.leave HO.out hle HE.out h1 h2
        have hgd : k < s.size → (∃ g o, ao = some ⟨g, o, none⟩ ∧ wr.cell? ⟨g, o + k, none⟩ = some (.int .u8 10)) := fun hlt => by
          obtain ⟨g, o, e, hg, hcl⟩ := HI.out k hlt
          refine ⟨g, o, e, ((HO.out.bel.cell (p := ⟨g, o + k, none⟩) hg).trans hcl).trans ?_⟩
          rcases HE.out with h | h
          · omega
          · rw [h]
        have HG : Hid _ := hgd
        have hlz : (ln s (spL s k)).size ≤ s.size := by omega
        clear HL hfr k5 k4 k8 htz hgd k0 k3
        generalize ln s (spL s k) = t at *
        have HCASE : k < s.size ∨ k = s.size := by omega
        rcases HCASE with hlt | heq
        · obtain ⟨g, o, rfl, hcell⟩ := HG.out hlt
          go_wp2
          clear hcut hcv hcell
          go_loopw [6] (fun _ wi => ∃ pos f : Nat, BIn w wi s t wr.heap.size fr pos f) (fun _ wi => t.size - wi.iterPos wr.heap.size)
          case atStart => exact ⟨0, _, HB.out⟩
          case round =>
            obtain ⟨pos, f, hI⟩ := hrel
            have HQ : Hid _ := hI
            have htz := HTZ.out
            by_cases hp : pos < t.size
            · have hwd := wd_pos t pos hp
              obtain ⟨f, rfl⟩ : ∃ f', f = f' + 1 := ⟨f - 1, by have := hI.fuel; omega⟩
              have hnx : ∀ ty, (Instr.next (.pointer (some ⟨_, 0, none⟩)) true ty).run Try.prog wr = _ := fun ty => Lib.run_next_any_at wr _ t pos ty hI.it hp
              have hR := hI.rowAt (pos + (Utf8.decode t pos).2)
              have hcx := hR.cell (i := fr + pos) (by omega)
              have hfx := hR.frozen (fr + pos)
              have HX : Hid _ := hI.next hp
              generalize (if fr + pos < fr then bg s (fr + pos) else decide (fr + pos - fr < pos) && isSt t (fr + pos - fr)) = y at hcx
              have hb1 : (fr : Int) + (pos : Int) < (s.size : Int) + 1 := by omega
              clear hR hI htz
              go_wp2
              go_roundw
              case rel => exact ⟨_, f, HX.out⟩
              case measure =>
                have e1 := HQ.out.it
                have e2 := HX.out.it
                unfold wd at e2 hwd
                unfold World.iterPos
                rw [e1, e2]
                simp only []
                omega
            · have hnx : ∀ ty, (Instr.next (.pointer (some ⟨_, 0, none⟩)) true ty).run Try.prog wr = _ := fun ty => Lib.run_next_end_at wr _ t pos ty hI.it hp
              have hcx := hI.row.cell (i := k) (by omega)
              have hfx := hI.row.frozen k
              have HX : Hid _ := HV.out _ _ _ hI hp
              generalize (if k < fr then bg s k else decide (k - fr < pos) && isSt t (k - fr)) = y at hcx
              have hb1 : (k : Int) < (s.size : Int) + 1 := by omega
              clear hI htz
              go_wp2
              go_roundw
              case rel => exact ⟨k + 1, k + 1, by omega, by go_num, by go_num, HX.out⟩
              case measure => simp [intOf]; omega
        · have hd : decide ((k : Int) < (s.size : Int)) = false := by simp; omega
          have hsk : s.size ≤ k := by omega
          clear heq
          go_wp2
          clear hcut hcv
          go_loopw [6] (fun _ wi => ∃ pos f : Nat, BIn w wi s t wr.heap.size fr pos f) (fun _ wi => t.size - wi.iterPos wr.heap.size)
          case atStart => exact ⟨0, _, HB.out⟩
          case round =>
            obtain ⟨pos, f, hI⟩ := hrel
            have HQ : Hid _ := hI
            have htz := HTZ.out
            by_cases hp : pos < t.size
            · have hwd := wd_pos t pos hp
              obtain ⟨f, rfl⟩ : ∃ f', f = f' + 1 := ⟨f - 1, by have := hI.fuel; omega⟩
              have hnx : ∀ ty, (Instr.next (.pointer (some ⟨_, 0, none⟩)) true ty).run Try.prog wr = _ := fun ty => Lib.run_next_any_at wr _ t pos ty hI.it hp
              have hR := hI.rowAt (pos + (Utf8.decode t pos).2)
              have hcx := hR.cell (i := fr + pos) (by omega)
              have hfx := hR.frozen (fr + pos)
              have HX : Hid _ := hI.next hp
              generalize (if fr + pos < fr then bg s (fr + pos) else decide (fr + pos - fr < pos) && isSt t (fr + pos - fr)) = y at hcx
              have hb1 : (fr : Int) + (pos : Int) < (s.size : Int) + 1 := by omega
              clear hR hI htz
              go_wp2
              go_roundw
              case rel => exact ⟨_, f, HX.out⟩
              case measure =>
                have e1 := HQ.out.it
                have e2 := HX.out.it
                unfold wd at e2 hwd
                unfold World.iterPos
                rw [e1, e2]
                simp only []
                omega
            · have hnx : ∀ ty, (Instr.next (.pointer (some ⟨_, 0, none⟩)) true ty).run Try.prog wr = _ := fun ty => Lib.run_next_end_at wr _ t pos ty hI.it hp
              have hcx := hI.row.cell (i := k) (by omega)
              have hfx := hI.row.frozen k
              have HX : Hid _ := HV.out _ _ _ hI hp
              generalize (if k < fr then bg s k else decide (k - fr < pos) && isSt t (k - fr)) = y at hcx
              have hb1 : (k : Int) < (s.size : Int) + 1 := by omega
              clear hI htz
              go_wp2
              go_roundw
              case rel => exact ⟨k + 1, k + 1, by omega, by go_num, by go_num, HX.out⟩
              case measure => simp [intOf]; omega
    · have hk2 : k = s.size + 1 := by omega
      go_wp2
      go_ret
      refine ⟨rfl, HO.out.row.ext fun p hp => ?_, HO.out.bel⟩
      rw [HO.out.fr2 hk2, if_pos hp]
end Go.Proofs.Ytkkplmkpemajfab.Sp
