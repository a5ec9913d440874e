import Derived.Test.YtelbakkgobkdaaaDoorVfEv
import Derived.Test.YtelbakkgobkdaaaDoorVfSame
import Derived.Test.YtelbakkgobkdaaaDoorVfBehS
namespace Go.Proofs.YtelbakkgobkdaaaDoor.Vf
open Go.RowKit Go.Proofs.YtelbakkgobkdaaaDoor.Nm

theorem infoS : (Tryd.prog.info? 71).map (fun i => (i.zero, i.size, i.bytes)) = some (some (.agg #[.int .i64 0, .int .u64 0, .int .u64 0, .int .u64 0, .int .u64 0, .bool false, .int .i64 0, .int .i64 0]), 8, 64) := by kernel_rfl
theorem mk_stands (n : Nat) (hn : n ≤ 1000000000) : ∀ u : World, (Instr.makeSlice 58 (.int .i64 (n : Int)) (.int .i64 (n : Int))).run Tryd.prog u = .ok (.slice (some ⟨u.heap.size, 0, none⟩) n n) (u.alloc (.cells (gotC n (fun _ => none)).toArray 71)) := fun u => by
  obtain ⟨i0, hi, hz0, hz1, hz2⟩ := info_parts infoS
  have h := run_make (P := Tryd.prog) u 58 71 i0 (.agg #[.int .i64 0, .int .u64 0, .int .u64 0, .int .u64 0, .int .u64 0, .bool false, .int .i64 0, .int .i64 0]) Tryd.underlying58 hi hz0 .i64 .i64 (n : Int) (n : Int) (by omega) (Int.le_refl _) (by rw [hz2]; omega) (by omega)
  rw [hz1] at h
  have e : madeCells (Value.agg #[.int .i64 0, .int .u64 0, .int .u64 0, .int .u64 0, .int .u64 0, .bool false, .int .i64 0, .int .i64 0]).cells (n * 8) = (gotC n (fun _ => none)).toArray := by
    apply Array.ext'
    apply List.ext_getElem?
    intro j
    have e1 : (Value.agg #[.int .i64 0, .int .u64 0, .int .u64 0, .int .u64 0, .int .u64 0, .bool false, .int .i64 0, .int .i64 0]).cells = #[.int .i64 0, .int .u64 0, .int .u64 0, .int .u64 0, .int .u64 0, .bool false, .int .i64 0, .int .i64 0] := rfl
    rw [e1]
    by_cases hj : j < n * 8
    · have h2 := gotC_at (n := n) (k := j / 8) (i := j % 8) (g := fun _ => none) (by omega) (by omega)
      rw [show j / 8 * 8 + j % 8 = j by omega] at h2
      rw [List.toList_toArray, h2, Array.getElem?_toList]
      simp only [madeCells]
      have hm : j % 8 < 8 := by omega
      simp [hj]
      generalize j % 8 = m at hm
      match m, hm with
      | 0, _ => rfl
      | 1, _ => rfl
      | 2, _ => rfl
      | 3, _ => rfl
      | 4, _ => rfl
      | 5, _ => rfl
      | 6, _ => rfl
      | 7, _ => rfl
    · rw [List.getElem?_eq_none (by rw [Array.length_toList, size_madeCells]; omega), List.getElem?_eq_none (by rw [List.toList_toArray, gotC_len]; omega)]
  rw [h]
  simp only [Int.toNat_natCast, e]
theorem gotC_set {n k : Nat} {g : Nat → Option Sd} (s : Sd) (h : k < n) : (((((((((gotC n g).toArray.setIfInBounds (k * 8) (.int .i64 (s.ty.length : Int))).setIfInBounds (k * 8 + 1) (.int .u64 (wd s.ty 0 : Int))).setIfInBounds (k * 8 + 2) (.int .u64 (wd s.ty 1 : Int))).setIfInBounds (k * 8 + 3) (.int .u64 (wd s.ty 2 : Int))).setIfInBounds (k * 8 + 4) (.int .u64 (wd s.ty 3 : Int))).setIfInBounds (k * 8 + 5) (.bool true)).setIfInBounds (k * 8 + 6) (.int .i64 (s.hand : Int))).setIfInBounds (k * 8 + 7) (.int .i64 s.turn)) = (gotC n (upd g k s)).toArray := by
  simp only [List.setIfInBounds_toArray]
  congr 1
  refine List.ext_getElem? fun j => ?_
  by_cases hj : j < n * 8
  · have hq : j / 8 < n := by omega
    have hm : j % 8 < 8 := by omega
    have hl : (gotC n g).length = n * 8 := gotC_len n g
    have h2 := gotC_at (g := upd g k s) hq hm
    have h1 := gotC_at (g := g) hq hm
    rw [show j / 8 * 8 + j % 8 = j by omega] at h1 h2
    rw [h2]
    by_cases hk : j / 8 = k
    · have hs : upd g k s (j / 8) = some s := by unfold upd; rw [if_pos hk]
      rw [hs]
      simp only [List.getElem?_set, List.length_set, hl]
      have hj8 : j = k * 8 + j % 8 := by omega
      generalize j % 8 = m at *
      subst hj8
      match m, hm with
      | 0, _ => simp [sdC]; omega
      | 1, _ => simp [sdC]; omega
      | 2, _ => simp [sdC]; omega
      | 3, _ => simp [sdC]; omega
      | 4, _ => simp [sdC]; omega
      | 5, _ => simp [sdC]; omega
      | 6, _ => simp [sdC]; omega
      | 7, _ => simp [sdC]; omega
    · have hs : upd g k s (j / 8) = g (j / 8) := by unfold upd; rw [if_neg hk]
      rw [hs, ← h1]
      simp only [List.getElem?_set, List.length_set, hl]
      repeat rw [if_neg (by omega)]
  · have hl : ∀ f, (gotC n f).length = n * 8 := fun f => gotC_len n f
    rw [List.getElem?_eq_none (by simp only [List.length_set, hl]; omega), List.getElem?_eq_none (by rw [hl]; omega)]
/-- a standing is laid -/
abbrev put8 (W : World) (b k : Nat) (s : Sd) : World := (((((((W.setCell ⟨b, k * 8, none⟩ (.int .i64 (s.ty.length : Int))).setCell ⟨b, k * 8 + 1, none⟩ (.int .u64 (wd s.ty 0 : Int))).setCell ⟨b, k * 8 + 2, none⟩ (.int .u64 (wd s.ty 1 : Int))).setCell ⟨b, k * 8 + 3, none⟩ (.int .u64 (wd s.ty 2 : Int))).setCell ⟨b, k * 8 + 4, none⟩ (.int .u64 (wd s.ty 3 : Int))).setCell ⟨b, k * 8 + 5, none⟩ (.bool true)).setCell ⟨b, k * 8 + 6, none⟩ (.int .i64 (s.hand : Int))).setCell ⟨b, k * 8 + 7, none⟩ (.int .i64 s.turn)
theorem put8_got {W : World} {b n k : Nat} {g : Nat → Option Sd} (s : Sd) (h : W.heap[b]? = some (.cells (gotC n g).toArray 71 (0, 0))) (hk : k < n) : (put8 W b k s).heap[b]? = some (.cells (gotC n (upd g k s)).toArray 71 (0, 0)) := by
  rw [← gotC_set s hk]
  exact set_in (set_in (set_in (set_in (set_in (set_in (set_in (set_in h _) _) _) _) _) _) _) _
theorem put8_old {W : World} {b k j : Nat} {s : Sd} (h : j ≠ b) : (put8 W b k s).heap[j]? = W.heap[j]? := by
  unfold put8
  rw [Below.heap_setCell _ _ _ _ h, Below.heap_setCell _ _ _ _ h, Below.heap_setCell _ _ _ _ h, Below.heap_setCell _ _ _ _ h, Below.heap_setCell _ _ _ _ h, Below.heap_setCell _ _ _ _ h, Below.heap_setCell _ _ _ _ h, Below.heap_setCell _ _ _ _ h]
theorem put8_below {n : Nat} {w W : World} {b k : Nat} {s : Sd} (h : Below n w W) (hb : n ≤ b) : Below n w (put8 W b k s) :=
  (((((((h.setCell (p := ⟨b, k * 8, none⟩) hb _).setCell (p := ⟨b, k * 8 + 1, none⟩) hb _).setCell (p := ⟨b, k * 8 + 2, none⟩) hb _).setCell (p := ⟨b, k * 8 + 3, none⟩) hb _).setCell (p := ⟨b, k * 8 + 4, none⟩) hb _).setCell (p := ⟨b, k * 8 + 5, none⟩) hb _).setCell (p := ⟨b, k * 8 + 6, none⟩) hb _).setCell (p := ⟨b, k * 8 + 7, none⟩) hb _
/-- the walker, apart from what was -/
structure Wa (w W : World) (wb gb : Nat) (v : PV) (p : Pg) (eo : Option Addr) (ec gc : Nat) (g : Nat → Option Sd) : Prop where
  wk : Wk W wb gb v p eo ec gc g
  pg : IsPg w v p
  bel : Below w.heap.size w W
  lw : w.heap.size ≤ wb
  lg : w.heap.size ≤ gb
  ne : wb ≠ gb
  en : ∀ b o, eo = some ⟨b, o, none⟩ → b ≠ gb
theorem Wa.below {w W W' : World} {wb gb : Nat} {v : PV} {p : Pg} {eo : Option Addr} {ec gc : Nat} {g : Nat → Option Sd} (h : Wa w W wb gb v p eo ec gc g) (hb : Below W.heap.size W W') : Wa w W' wb gb v p eo ec gc g :=
  ⟨h.wk.below hb, h.pg, h.bel.trans (hb.mono h.bel.size), h.lw, h.lg, h.ne, h.en⟩
theorem Wa.put {w W : World} {wb gb : Nat} {v : PV} {p : Pg} {eo : Option Addr} {ec gc : Nat} {g : Nat → Option Sd} (h : Wa w W wb gb v p eo ec gc g) {k : Nat} (hk : k < p.cd.length) (s : Sd) : Wa w (put8 W gb k s) wb gb v p eo ec gc (upd g k s) :=
  ⟨⟨(put8_old h.ne).trans h.wk.hw, h.pg.below (put8_below h.bel h.lg), fun j x hx => by
      obtain ⟨b, f, e, hl, hc⟩ := h.wk.ev j x hx
      have hn := h.en b f e
      have hs : (put8 W gb k s).heap[b]? = W.heap[b]? := put8_old hn
      refine ⟨b, f, e, ?_, (World.cell?_of_block (a := ⟨b, f + j, none⟩) hs).trans hc⟩
      have h1 := Array.getElem?_eq_getElem hl
      rw [h1] at hs
      exact blk_lt hs, put8_got s h.wk.gt hk⟩, h.pg, put8_below h.bel h.lg, h.lw, h.lg, h.ne, h.en⟩
/-- what newWalker tells -/
structure NwP (w : World) (v : PV) (p : Pg) (r : Ending) (w' : World) : Prop where
  ex : ∃ wb gb eo ec, r = .returned (.pointer (some ⟨wb, 0, none⟩)) ∧ Wa w w' wb gb v p eo ec p.cd.length (got0 p)
end Go.Proofs.YtelbakkgobkdaaaDoor.Vf
