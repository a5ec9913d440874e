import Derived.Test.YtelbakkgobkdaaaDoorVfFuel
import Derived.Deep.LoopGhost
namespace Go.Proofs.YtelbakkgobkdaaaDoor.Vf
open Go.RowKit Go.Proofs.YtelbakkgobkdaaaDoor.Nm

theorem info_parts {P : Program} {T : TypeId} {z : Value} {s b : Nat} (h : (P.info? T).map (fun i => (i.zero, i.size, i.bytes)) = some (some z, s, b)) : ∃ i, P.info? T = some i ∧ i.zero = some z ∧ i.size = s ∧ i.bytes = b := by
  cases hi : P.info? T with
  | none => rw [hi] at h; cases h
  | some i =>
    rw [hi] at h
    simp only [Option.map_some, Option.some.injEq, Prod.mk.injEq] at h
    exact ⟨i, rfl, h.1, h.2.1, h.2.2⟩
theorem infoI : (Tryd.prog.info? 3).map (fun i => (i.zero, i.size, i.bytes)) = some (some (.int .i64 0), 1, 8) := by kernel_rfl
theorem mk_ints (n : Nat) (hn : n ≤ 1000000000) : ∀ u : World, (Instr.makeSlice 24 (.int .i64 (n : Int)) (.int .i64 (n : Int))).run Tryd.prog u = .ok (.slice (some ⟨u.heap.size, 0, none⟩) n n) (u.alloc (.cells (fuC n (fun _ => 0)).toArray 3)) := fun u => by
  obtain ⟨i0, hi, hz0, hz1, hz2⟩ := info_parts infoI
  have h := run_make (P := Tryd.prog) u 24 3 i0 (.int .i64 0) Tryd.underlying24 hi hz0 .i64 .i64 (n : Int) (n : Int) (by omega) (Int.le_refl _) (by rw [hz2]; omega) (by omega)
  rw [hz1] at h
  have e : madeCells (Value.int .i64 0).cells (n * 1) = (fuC n (fun _ => 0)).toArray := by
    rw [Nat.mul_one]
    apply Array.ext
    · simp [madeCells, fuC]
    · intro k h1 h2
      simp [madeCells, Value.cells, Nat.mod_one, fuC]
  rw [h]
  simp only [Int.toNat_natCast, e]
theorem fuC_set {n k : Nat} {f : Nat → Int} (v : Int) (h : k < n) : (fuC n f).toArray.setIfInBounds k (.int .i64 v) = (fuC n (fun j => if j = k then v else f j)).toArray := by
  rw [List.setIfInBounds_toArray]
  congr 1
  refine List.ext_getElem? fun j => ?_
  by_cases hj : j < n
  · rw [fuC_at hj, List.getElem?_set]
    by_cases e : k = j
    · subst e
      have hl : (fuC n f).length = n := by unfold fuC; simp
      rw [if_pos rfl, if_pos (by omega), if_pos rfl]
    · rw [if_neg e, fuC_at hj, if_neg (fun x => e x.symm)]
  · have hl : ∀ g, (fuC n g).length = n := fun g => by unfold fuC; simp
    rw [List.getElem?_eq_none (by rw [List.length_set, hl]; omega), List.getElem?_eq_none (by rw [hl]; omega)]
theorem fuB_le {p : Pg} {f : Nat → Int} {i : Nat} (hb : ∀ k, 0 ≤ f k ∧ f k ≤ 4611686018427387904) (ho : FuOk p i) : 0 ≤ fuB p f i ∧ fuB p f i ≤ 4611686018427387904 := by
  unfold fuB
  dsimp only
  split
  · omega
  · split
    · exact hb _
    · split
      · have h1 := hb (i + 1)
        have h2 := hb (p.at i).a.toNat
        omega
      · split
        · rename_i h24
          obtain ⟨-, q2, -⟩ := ho.l h24
          exact sm_le (tm_le q2 (sm_le (by omega) (hb _).1).1).1 (sm_le (by omega) (hb _).1).1
        · exact hb _
theorem fuR_le {p : Pg} (ho : ∀ i, i < p.cd.length → FuOk p i) : ∀ j, j ≤ p.cd.length → ∀ k, 0 ≤ fuR p j k ∧ fuR p j k ≤ 4611686018427387904
  | 0, _, k => by show 0 ≤ (0 : Int) ∧ (0 : Int) ≤ _; omega
  | j + 1, hj, k => by
    show 0 ≤ (if k = p.cd.length - 1 - j then sm 1 (fuB p (fuR p j) (p.cd.length - 1 - j)) else fuR p j k) ∧ (if k = p.cd.length - 1 - j then sm 1 (fuB p (fuR p j) (p.cd.length - 1 - j)) else fuR p j k) ≤ _
    have h := fuR_le ho j (by omega)
    split
    · exact sm_le (by omega) (fuB_le h (ho _ (by omega))).1
    · exact h k
set_option maxHeartbeats 6400000 in
set_option maxRecDepth 100000 in
/-- fuelOf -/
theorem fuelOf_any (co : Option Addr) (cc : Nat) (p : Pg) (w : World) (hc : Rd w co (cC p.cd)) (hl : p.cd.length ≤ 262144) (ho : ∀ i, i < p.cd.length → FuOk p i) :
    Calls Tryd.prog 45 #[.slice co p.cd.length cc] w fun e w' => ∃ fb, e = .returned (.slice (some ⟨fb, 0, none⟩) p.cd.length p.cd.length) ∧ w.heap.size ≤ fb ∧ w'.heap[fb]? = some (.cells (fuC p.cd.length (fuel p)).toArray 3 (0, 0)) ∧ Below w.heap.size w w' := by
  have hmk := mk_ints p.cd.length (by omega)
  have hl' : (p.cd.length : Int) ≤ 262144 := by omega
  have H0 : Hid (Below w.heap.size w (w.alloc (.cells (fuC p.cd.length (fun _ => 0)).toArray 3)) ∧ (w.alloc (.cells (fuC p.cd.length (fun _ => 0)).toArray 3)).heap[w.heap.size]? = some (.cells (fuC p.cd.length (fun _ => 0)).toArray 3 (0, 0))) := ⟨(Below.refl _ w).alloc (Nat.le_refl _) _, heap_alloc_new _ _⟩
  have HO : Hid (∀ i, i < p.cd.length → FuOk p i) := ho
  have HC : Hid (Rd w co (cC p.cd)) := hc
  have HL : Hid (p.cd.length ≤ 262144) := hl
  clear hc ho hl
  go_enter Tryd.func45, Tryd.ntmps45
  go_wp2_with fail
  generalize w.alloc (.cells (fuC p.cd.length (fun _ => 0)).toArray 3) = W0 at *
  go_loopg [4] p.cd.length (fun gq x wr => ∃ j : Nat, j ≤ p.cd.length ∧ gq = p.cd.length - j ∧ x = .int .i64 ((p.cd.length : Int) - 1 - (j : Int)) ∧ Below w.heap.size w wr ∧ wr.heap[w.heap.size]? = some (.cells (fuC p.cd.length (fuR p j)).toArray 3 (0, 0)))
  case atStart => exact ⟨0, Nat.zero_le _, rfl, by simp, H0.out.1, H0.out.2⟩
  case round =>
    obtain ⟨j, hj, hgk, rfl, hb, hx⟩ := hrel
    have HG : Hid (gk = p.cd.length - j ∧ Below w.heap.size w wr ∧ wr.heap[w.heap.size]? = some (.cells (fuC p.cd.length (fuR p j)).toArray 3 (0, 0))) := ⟨hgk, hb, hx⟩
    clear hgk hb hx
    by_cases hlt : j < p.cd.length
    · obtain ⟨i, hi⟩ : ∃ i, p.cd.length = i + j + 1 := ⟨p.cd.length - 1 - j, by omega⟩
      have hii : (p.cd.length : Int) - 1 - (j : Int) = (i : Int) := by omega
      have hi0 : i < p.cd.length := by omega
      have hi' : (i : Int) < (p.cd.length : Int) := by omega
      have HE : Hid (p.cd.length - 1 - j = i ∧ j < p.cd.length) := ⟨by omega, hlt⟩
      have hbd := fuR_le HO.out j (by omega)
      obtain ⟨s1, s2⟩ := fuB_le (i := i) hbd (HO.out i hi0)
      have HFb : Hid (Calls Tryd.prog 72 #[.slice co p.cd.length cc, .slice (some ⟨w.heap.size, 0, none⟩) p.cd.length p.cd.length, .int .i64 (i : Int)] wr fun e w' => e = .returned (.int .i64 (fuB p (fuR p j) i)) ∧ Below wr.heap.size wr w') := fuB_any co cc w.heap.size p.cd.length p (fuR p j) i wr (HC.out.below HG.out.2.1) (by have := HL.out; omega) hi0 HG.out.2.2 hbd (HO.out i hi0)
      have HSm : Hid (∀ W, Calls Tryd.prog 71 #[.int .i64 1, .int .i64 (fuB p (fuR p j) i)] W fun e w' => e = .returned (.int .i64 (sm 1 (fuB p (fuR p j) i))) ∧ w' = W) := fun W => sum_any 1 _ (by omega) (by omega) s1 s2 W
      have HFr : Hid (∀ k, fuR p (j + 1) k = if k = i then sm 1 (fuB p (fuR p j) i) else fuR p j k) := fun k => by
        show (if k = p.cd.length - 1 - j then sm 1 (fuB p (fuR p j) (p.cd.length - 1 - j)) else fuR p j k) = _
        rw [HE.out.1]
      generalize fuB p (fuR p j) i = fv at *
      generalize sm 1 fv = sv at *
      rw [hii]
      clear hi hlt hbd s1 s2 hj
      go_wp2_with fail
      refine Calls.mono HFb.out ?_
      rintro e w2 ⟨rfl, hb2⟩
      have HX2 : Hid (Below w.heap.size w w2 ∧ w2.heap[w.heap.size]? = some (.cells (fuC p.cd.length (fuR p j)).toArray 3 (0, 0))) := ⟨HG.out.2.1.trans (hb2.mono HG.out.2.1.size), (hb2.block _ (blk_lt HG.out.2.2)).trans HG.out.2.2⟩
      clear hb2 HFb
      go_wp2_with fail
      refine Calls.mono (HSm.out _) ?_
      rintro e w3 ⟨rfl, rfl⟩
      have c0 := cell_of HX2.out.2 (fuC_at (f := fuR p j) hi0)
      have fz : ∀ j, w3.frozen? ⟨w.heap.size, j, none⟩ = false := fun j => by have := HX2.out.2; simp only [World.frozen?, this]; rfl
      have HX3 : Hid (Below w.heap.size w (w3.setCell ⟨w.heap.size, i, none⟩ (.int .i64 sv)) ∧ (w3.setCell ⟨w.heap.size, i, none⟩ (.int .i64 sv)).heap[w.heap.size]? = some (.cells (fuC p.cd.length (fuR p (j + 1))).toArray 3 (0, 0))) := ⟨HX2.out.1.setCell (p := ⟨w.heap.size, i, none⟩) (Nat.le_refl _) _, by
        rw [heap_setCell_same w3 w.heap.size i _ _ _ HX2.out.2, fuC_set sv hi0]
        rw [show (fun k => if k = i then sv else fuR p j k) = fuR p (j + 1) from funext fun k => (HFr.out k).symm]⟩
      go_wp2_with fail
      go_roundg (p.cd.length - (j + 1))
      case measure => have h1 := HG.out.1; have := HE.out.2; omega
      case rel => exact ⟨j + 1, HE.out.2, rfl, by rw [← hii]; go_num, HX3.out.1, HX3.out.2⟩
    · obtain rfl : j = p.cd.length := by omega
      have hii : (p.cd.length : Int) - 1 - (p.cd.length : Int) = -1 := by omega
      rw [hii]
      clear hlt hj
      go_wp2_with fail
      go_ret
      exact ⟨_, rfl, Nat.le_refl _, HG.out.2.2, HG.out.2.1⟩
end Go.Proofs.YtelbakkgobkdaaaDoor.Vf
