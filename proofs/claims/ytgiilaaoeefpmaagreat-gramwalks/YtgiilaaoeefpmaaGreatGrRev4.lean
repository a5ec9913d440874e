import Derived.Test.YtgiilaaoeefpmaaGreatGrRev2
namespace Go.Proofs.YtgiilaaoeefpmaaGreat.Gr
open Go.RowKit Go.Proofs.YtgiilaaoeefpmaaGreat.Sp Go.Proofs.YtgiilaaoeefpmaaGreat.Lx

theorem int_at {w : World} {g i : Nat} {l : List Nat} {R : List Value} {T : TypeId} {f : Nat × Nat} {r : Nat} (h : w.heap[g]? = some (.cells (l.map nc ++ R).toArray T f)) (hr : l[i]? = some r) : w.cell? ⟨g, i, none⟩ = some (.int .i64 r) := by
  have hi : i < l.length := (List.getElem?_eq_some_iff.1 hr).1
  simp only [World.cell?, h]
  simp only [Option.isSome_none, Bool.false_eq_true, if_false, List.getElem?_toArray]
  rw [List.getElem?_append_left (by simp; omega), List.getElem?_map, hr]
  rfl
theorem int_row {w : World} {g i : Nat} {l : List Nat} {R : List Value} {T : TypeId} {f : Nat × Nat} (r : Nat) (hi : i < l.length) (h : w.heap[g]? = some (.cells (l.map nc ++ R).toArray T f)) :
    (w.setCell ⟨g, i, none⟩ (.int .i64 r)).heap[g]? = some (.cells ((l.set i r).map nc ++ R).toArray T f) := by
  rw [set_row h, List.set_append_left _ _ (by simp; omega), List.map_set]
  rfl
theorem swap_ints {w wr : World} {h k j : Nat} {l l' : List Nat} {R : List Value} {T : TypeId} {a b : Nat} (hb : wr.heap[h]? = some (.cells (l.map nc ++ R).toArray T (0, 0))) (hg : w.grownBy wr (some h)) (hk : k < l.length) (hj : j < l.length) (hs : (l.set k b).set j a = l') :
    ((wr.setCell ⟨h, k, none⟩ (.int .i64 b)).setCell ⟨h, j, none⟩ (.int .i64 a)).drew.heap[h]? = some (.cells (l'.map nc ++ R).toArray T (0, 0)) ∧ w.grownBy ((wr.setCell ⟨h, k, none⟩ (.int .i64 b)).setCell ⟨h, j, none⟩ (.int .i64 a)).drew (some h) := by
  have e1 := int_row (w := wr) b hk hb
  have e2 := int_row a (show j < (l.set k b).length by rw [List.length_set]; exact hj) e1
  have e3 := (hg.trans (set_only wr h k (.int .i64 b))).trans (set_only _ h j (.int .i64 a))
  rw [hs] at e2
  generalize (wr.setCell ⟨h, k, none⟩ (.int .i64 b)).setCell ⟨h, j, none⟩ (.int .i64 a) = W at *
  exact ⟨by rw [heap_drew]; exact e2, grown_drew e3⟩
set_option maxHeartbeats 4000000 in
set_option maxRecDepth 100000 in
theorem revint (acc : List Nat) (R : List Value) (h vc : Nat) (w : World) (hh : w.heap[h]? = some (.cells (acc.map nc ++ R).toArray 3 (0, 0))) (hsm : acc.length ≤ 1000000) :
    Calls Tryz.prog 141 #[.slice (some ⟨h, 0, none⟩) acc.length vc] w fun e w' =>
      e = .returned (.tuple #[]) ∧ w'.heap[h]? = some (.cells (acc.reverse.map nc ++ R).toArray 3 (0, 0)) ∧ w.grownBy w' (some h) := by
  have HH : Hid (w.heap[h]? = some (.cells (acc.map nc ++ R).toArray 3 (0, 0))) := hh
  clear hh
  go_enter Tryz.func141, Tryz.ntmps141
  go_wp2
  go_loopw [2, 3] (fun i j wr => ∃ (k : Nat) (J : Int), i = .int .i64 k ∧ j = .int .i64 J ∧ J = (acc.length : Int) - 1 - k ∧ 2 * k ≤ acc.length ∧ wr.heap[h]? = some (.cells ((turned acc k).map nc ++ R).toArray 3 (0, 0)) ∧ w.grownBy wr (some h)) (fun i _ _ => acc.length - (intOf i).toNat)
  case atStart => exact ⟨0, _, rfl, rfl, by omega, by omega, by rw [turned_zero]; exact HH.out, ⟨rfl, rfl, rfl, Nat.le_refl _, fun _ _ _ => rfl⟩⟩
  case round =>
    obtain ⟨k, J, rfl, rfl, hJ, hk, hb, hg⟩ := hrel
    by_cases hlt : 2 * k + 1 < acc.length
    · obtain ⟨j, rfl⟩ : ∃ j : Nat, J = (j : Int) := ⟨acc.length - 1 - k, by omega⟩
      have hj : j = acc.length - 1 - k := by omega
      have hka := List.getElem?_eq_getElem (show k < acc.length by omega)
      have hja := List.getElem?_eq_getElem (show acc.length - 1 - k < acc.length by omega)
      generalize acc[k]'(by omega) = a at hka
      generalize acc[acc.length - 1 - k]'(by omega) = b at hja
      have tk : (turned acc k)[k]? = some a := by rw [turned_get acc k k hk (by omega), if_pos (by omega), hka]
      have tj : (turned acc k)[j]? = some b := by rw [turned_get acc k j hk (by omega), if_pos (by omega), hj, hja]
      have tl := turned_len acc k hk
      have hstep := turned_step acc k a b hlt hka hja
      rw [← hj] at hstep
      have p0 := int_at hb tk
      have q0 := int_at hb tj
      have fz : ∀ i, wr.frozen? ⟨h, i, none⟩ = false := fun i => by simp [World.frozen?, hb]
      have HF : Hid (((wr.setCell ⟨h, k, none⟩ (.int .i64 b)).setCell ⟨h, j, none⟩ (.int .i64 a)).drew.heap[h]? = some (.cells ((turned acc (k + 1)).map nc ++ R).toArray 3 (0, 0)) ∧ w.grownBy ((wr.setCell ⟨h, k, none⟩ (.int .i64 b)).setCell ⟨h, j, none⟩ (.int .i64 a)).drew (some h)) := swap_ints hb hg (by omega) (by omega) hstep
      have hkj : (k : Int) < (j : Int) := by omega
      have hki : (k : Int) < (acc.length : Int) := by omega
      have hji : (j : Int) < (acc.length : Int) := by omega
      have n0 : ¬ (k = j) := by omega
      have m0 : ¬ (j = k) := by omega
      have HJ : Hid (j = acc.length - 1 - k ∧ 2 * k + 1 < acc.length) := ⟨hj, hlt⟩
      clear tk tj tl hstep hka hja hb hg hJ hk hj hlt
      go_wp2_with fail
      go_region
      go_wp2_with fail
      go_roundw
      case rel =>
        refine ⟨k + 1, (j : Int) - 1, by go_num, rfl, ?_, ?_, HF.out⟩
        · have := HJ.out; omega
        · have := HJ.out; omega
      case measure => have := HJ.out; simp [intOf]; omega
    · have hd : ¬ ((k : Int) < J) := by omega
      have HF : Hid ((turned acc k) = acc.reverse) := turned_full acc k hk (by omega)
      have HB : Hid (wr.heap[h]? = some (.cells ((turned acc k).map nc ++ R).toArray 3 (0, 0)) ∧ w.grownBy wr (some h)) := ⟨hb, hg⟩
      clear hb hg hJ hk hlt
      go_wp2
      go_end0
      refine ⟨rfl, ?_⟩
      have := HB.out
      rw [HF.out, List.map_reverse] at this
      exact this
end Go.Proofs.YtgiilaaoeefpmaaGreat.Gr
