import Derived.Test.YtgiilaaoeefpmaaGreatGrRev2
namespace Go.Proofs.YtgiilaaoeefpmaaGreat.Gr
open Go.RowKit Go.Proofs.YtgiilaaoeefpmaaGreat.Sp Go.Proofs.YtgiilaaoeefpmaaGreat.Lx

set_option maxHeartbeats 4000000 in
set_option maxRecDepth 100000 in
theorem revrow (acc : List Rw) (R : List Value) (h vc : Nat) (w : World) (hh : w.heap[h]? = some (.cells (acc.flatMap rc ++ R).toArray 46 (0, 0))) (hsm : acc.length ≤ 1000000) :
    Calls Tryz.prog 140 #[.slice (some ⟨h, 0, none⟩) acc.length vc] w fun e w' =>
      e = .returned (.tuple #[]) ∧ w'.heap[h]? = some (.cells (acc.reverse.flatMap rc ++ R).toArray 46 (0, 0)) ∧ w.grownBy w' (some h) := by
  have HH : Hid (w.heap[h]? = some (.cells (acc.flatMap rc ++ R).toArray 46 (0, 0))) := hh
  clear hh
  go_enter Tryz.func140, Tryz.ntmps140
  go_wp2
  go_loopw [2, 3] (fun i j wr => ∃ (k : Nat) (J : Int), i = .int .i64 k ∧ j = .int .i64 J ∧ J = (acc.length : Int) - 1 - k ∧ 2 * k ≤ acc.length ∧ wr.heap[h]? = some (.cells ((turned acc k).flatMap rc ++ R).toArray 46 (0, 0)) ∧ w.grownBy wr (some h)) (fun i _ _ => acc.length - (intOf i).toNat)
  case atStart => exact ⟨0, _, rfl, rfl, by omega, by omega, by rw [turned_zero]; exact HH.out, ⟨rfl, rfl, rfl, Nat.le_refl _, fun _ _ _ => rfl⟩⟩
  case round =>
    obtain ⟨k, J, rfl, rfl, hJ, hk, hb, hg⟩ := hrel
    by_cases hlt : 2 * k + 1 < acc.length
    · obtain ⟨j, rfl⟩ : ∃ j : Nat, J = (j : Int) := ⟨acc.length - 1 - k, by omega⟩
      have hj : j = acc.length - 1 - k := by omega
      have hka := List.getElem?_eq_getElem (show k < acc.length by omega)
      have hja := List.getElem?_eq_getElem (show acc.length - 1 - k < acc.length by omega)
      generalize acc[k]'(by omega) = a at hka
      generalize acc[acc.length - 1 - k]'(by omega) = b at hja
      have tk : (turned acc k)[k]? = some a := by rw [turned_get acc k k hk (by omega), if_pos (by omega), hka]
      have tj : (turned acc k)[j]? = some b := by rw [turned_get acc k j hk (by omega), if_pos (by omega), hj, hja]
      have tl := turned_len acc k hk
      have hstep := turned_step acc k a b hlt hka hja
      rw [← hj] at hstep
      have p0 : ∀ c, c < 5 → wr.cell? ⟨h, k * 5 + c, none⟩ = (rc a)[c]? := fun c hc => row_at hb tk hc
      have q0 : ∀ c, c < 5 → wr.cell? ⟨h, j * 5 + c, none⟩ = (rc b)[c]? := fun c hc => row_at hb tj hc
      have pa := p0 0 (by omega)
      have qa := q0 0 (by omega)
      have pb := p0 1 (by omega)
      have qb := q0 1 (by omega)
      have pc := p0 2 (by omega)
      have qc := q0 2 (by omega)
      have pd := p0 3 (by omega)
      have qd := q0 3 (by omega)
      have pe := p0 4 (by omega)
      have qe := q0 4 (by omega)
      simp only [rc, List.getElem?_cons_succ, List.getElem?_cons_zero, Nat.add_zero] at pa pb pc pd pe qa qb qc qd qe
      have fz : ∀ i, wr.frozen? ⟨h, i, none⟩ = false := fun i => by simp [World.frozen?, hb]
      have HF : Hid ((put5 (put5 wr h (k * 5) b) h (j * 5) a).drew.heap[h]? = some (.cells ((turned acc (k + 1)).flatMap rc ++ R).toArray 46 (0, 0)) ∧ w.grownBy (put5 (put5 wr h (k * 5) b) h (j * 5) a).drew (some h)) := swap_rows hb hg (by omega) (by omega) hstep
      unfold Hid at HF
      simp only [put5] at HF
      replace HF := (show Hid _ from HF)
      have hkj : (k : Int) < (j : Int) := by omega
      have hki : (k : Int) < (acc.length : Int) := by omega
      have hji : (j : Int) < (acc.length : Int) := by omega
      have n00 : ¬ (k * 5 = j * 5) := by omega
      have m00 : ¬ (j * 5 = k * 5) := by omega
      have n01 : ¬ (k * 5 = j * 5 + 1) := by omega
      have m01 : ¬ (j * 5 + 1 = k * 5) := by omega
      have n02 : ¬ (k * 5 = j * 5 + 2) := by omega
      have m02 : ¬ (j * 5 + 2 = k * 5) := by omega
      have n03 : ¬ (k * 5 = j * 5 + 3) := by omega
      have m03 : ¬ (j * 5 + 3 = k * 5) := by omega
      have n04 : ¬ (k * 5 = j * 5 + 4) := by omega
      have m04 : ¬ (j * 5 + 4 = k * 5) := by omega
      have n10 : ¬ (k * 5 + 1 = j * 5) := by omega
      have m10 : ¬ (j * 5 = k * 5 + 1) := by omega
      have n11 : ¬ (k * 5 + 1 = j * 5 + 1) := by omega
      have m11 : ¬ (j * 5 + 1 = k * 5 + 1) := by omega
      have n12 : ¬ (k * 5 + 1 = j * 5 + 2) := by omega
      have m12 : ¬ (j * 5 + 2 = k * 5 + 1) := by omega
      have n13 : ¬ (k * 5 + 1 = j * 5 + 3) := by omega
      have m13 : ¬ (j * 5 + 3 = k * 5 + 1) := by omega
      have n14 : ¬ (k * 5 + 1 = j * 5 + 4) := by omega
      have m14 : ¬ (j * 5 + 4 = k * 5 + 1) := by omega
      have n20 : ¬ (k * 5 + 2 = j * 5) := by omega
      have m20 : ¬ (j * 5 = k * 5 + 2) := by omega
      have n21 : ¬ (k * 5 + 2 = j * 5 + 1) := by omega
      have m21 : ¬ (j * 5 + 1 = k * 5 + 2) := by omega
      have n22 : ¬ (k * 5 + 2 = j * 5 + 2) := by omega
      have m22 : ¬ (j * 5 + 2 = k * 5 + 2) := by omega
      have n23 : ¬ (k * 5 + 2 = j * 5 + 3) := by omega
      have m23 : ¬ (j * 5 + 3 = k * 5 + 2) := by omega
      have n24 : ¬ (k * 5 + 2 = j * 5 + 4) := by omega
      have m24 : ¬ (j * 5 + 4 = k * 5 + 2) := by omega
      have n30 : ¬ (k * 5 + 3 = j * 5) := by omega
      have m30 : ¬ (j * 5 = k * 5 + 3) := by omega
      have n31 : ¬ (k * 5 + 3 = j * 5 + 1) := by omega
      have m31 : ¬ (j * 5 + 1 = k * 5 + 3) := by omega
      have n32 : ¬ (k * 5 + 3 = j * 5 + 2) := by omega
      have m32 : ¬ (j * 5 + 2 = k * 5 + 3) := by omega
      have n33 : ¬ (k * 5 + 3 = j * 5 + 3) := by omega
      have m33 : ¬ (j * 5 + 3 = k * 5 + 3) := by omega
      have n34 : ¬ (k * 5 + 3 = j * 5 + 4) := by omega
      have m34 : ¬ (j * 5 + 4 = k * 5 + 3) := by omega
      have n40 : ¬ (k * 5 + 4 = j * 5) := by omega
      have m40 : ¬ (j * 5 = k * 5 + 4) := by omega
      have n41 : ¬ (k * 5 + 4 = j * 5 + 1) := by omega
      have m41 : ¬ (j * 5 + 1 = k * 5 + 4) := by omega
      have n42 : ¬ (k * 5 + 4 = j * 5 + 2) := by omega
      have m42 : ¬ (j * 5 + 2 = k * 5 + 4) := by omega
      have n43 : ¬ (k * 5 + 4 = j * 5 + 3) := by omega
      have m43 : ¬ (j * 5 + 3 = k * 5 + 4) := by omega
      have n44 : ¬ (k * 5 + 4 = j * 5 + 4) := by omega
      have m44 : ¬ (j * 5 + 4 = k * 5 + 4) := by omega
      have HJ : Hid (j = acc.length - 1 - k ∧ 2 * k + 1 < acc.length) := ⟨hj, hlt⟩
      clear p0 q0 tk tj tl hstep hka hja hb hg hJ hk hj hlt
      go_wp2_with fail
      go_region
      go_wp2_with fail
      go_roundw
      case rel =>
        refine ⟨k + 1, (j : Int) - 1, by go_num, rfl, ?_, ?_, HF.out⟩
        · have := HJ.out; omega
        · have := HJ.out; omega
      case measure => have := HJ.out; simp [intOf]; omega
    · have hd : ¬ ((k : Int) < J) := by omega
      have HF : Hid ((turned acc k) = acc.reverse) := turned_full acc k hk (by omega)
      have HB : Hid (wr.heap[h]? = some (.cells ((turned acc k).flatMap rc ++ R).toArray 46 (0, 0)) ∧ w.grownBy wr (some h)) := ⟨hb, hg⟩
      clear hb hg hJ hk hlt
      go_wp2
      go_end0
      refine ⟨rfl, ?_⟩
      have := HB.out
      rw [HF.out] at this
      exact this
end Go.Proofs.YtgiilaaoeefpmaaGreat.Gr
