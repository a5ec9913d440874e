import Derived.Test.YtkkplmkpemajfabBuild
import Derived.Test.YtkkplmkpemajfabFaces
namespace Go.Proofs.Ytkkplmkpemajfab.Sp
open Go.RowKit

theorem IsB.iterAt {w : World} {b base : Nat} {l : List UInt8} (h : IsB w b base l) {k : Nat} (hk : k < base) (hkb : k ≠ b) (t : ByteArray) (pos : Nat) : IsB (w.iterAt k t pos) b base l := by
  obtain ⟨hlt, hle, p, v, hp, hbk, hown, hnil⟩ := h
  refine ⟨hlt, by rw [Lib.iterAt_size]; exact hle, p, v, hp, (Lib.iterAt_other _ _ _ _ _ (fun e => hkb e.symm)).trans hbk, ⟨hown.1, ?_⟩, hnil⟩
  rcases hown.2 with h0 | ⟨g, cap, cur, hv, hb, hg, r⟩
  · exact Or.inl h0
  · exact Or.inr ⟨g, cap, cur, hv, hb, (Lib.iterAt_other _ _ _ _ _ (by omega)).trans hg, r⟩

theorem IsB.fresh (w : World) (t : ByteArray) : IsB ((w.alloc (.cells #[.pointer none, .slice none 0 0] 65)).iter t 0) w.heap.size (w.heap.size + 2) [] := by
  refine ⟨by omega, by simp [World.iter], .pointer none, .slice none 0 0, Or.inl rfl, ?_, World.ownsRow_nil _ _ _ _, fun _ => rfl⟩
  unfold World.iter
  rw [Below.heap_alloc _ _ _ (by simp)]
  exact heap_alloc_new w _

/-- what holds in the round of indent's loop -/
structure InR (w wr : World) (t : ByteArray) (c : Int) (pos f k : Nat) (acc : List UInt8) : Prop where
  isb : IsB wr w.heap.size (w.heap.size + 2) acc
  it : wr.heap[w.heap.size + 1]? = some (.stringIter t pos)
  bel : Below w.heap.size w wr
  eq : acc ++ inF t c f pos (k : Int) = ind t c
  fuel : t.size ≤ pos + f
  len : acc.length + 1 = k

theorem InR.le {w wr : World} {t : ByteArray} {c : Int} {pos f k : Nat} {acc : List UInt8} (h : InR w wr t c pos f k acc) : acc.length ≤ t.size := by
  have h1 := ind_len t c
  rw [← h.eq, List.length_append] at h1
  omega

theorem InR.next {w wr w2 : World} {t : ByteArray} {c : Int} {pos f k : Nat} {acc : List UInt8} (h : InR w wr t c pos (f + 1) k acc) (hp : pos < t.size) (hk : ¬ (k : Int) = c)
    (h1 : IsB w2 w.heap.size (w.heap.size + 2) (acc ++ [mkb t pos])) (h2 : Keep w.heap.size (w.heap.size + 2) (wr.iterAt (w.heap.size + 1) t (pos + wd t pos)) w2) : InR w w2 t c (pos + wd t pos) f (k + 1) (acc ++ [mkb t pos]) := by
  refine ⟨h1, ?_, ?_, ?_, ?_, by rw [List.length_append, ← h.len]; rfl⟩
  · rw [h2.block _ (by omega) (by omega)]
    exact Lib.iterAt_heap _ _ _ pos _ h.it
  · exact (Lib.below_iterAt h.bel (by omega) _ _).trans (below_of_keep h2 (Nat.le_refl _) (by omega))
  · rw [← h.eq, inF_on hp hk, List.append_assoc]
    rfl
  · have := wd_pos t pos hp
    have := h.fuel
    omega

set_option maxHeartbeats 1600000 in
set_option maxRecDepth 100000 in
theorem indent_any (t : ByteArray) (c : Int) (w : World) (ht : t.size ≤ 2097152) :
    Calls Try.prog 29 #[.string t, .int .i64 c] w fun e w' => e = .returned (.string ⟨(ind t c).toArray⟩) ∧ Below w.heap.size w w' := by
  go_enter Try.func29, Try.ntmps29
  go_wp2
  go_loopw [6] (fun i wr => ∃ (pos f k : Nat) (acc : List UInt8), i = .int .i64 k ∧ InR w wr t c pos f k acc) (fun _ wr => t.size - wr.iterPos (w.heap.size + 1))
  case atStart => exact ⟨0, t.size, 1, [], rfl, IsB.fresh w t, by
      have := World.iter_heap (w.alloc (.cells #[.pointer none, .slice none 0 0] 65)) t 0
      simpa using this, ((Below.refl _ w).alloc (Nat.le_refl _) _).trans ((below_iter _ _ _).mono (by simp)), rfl, by omega, rfl⟩
  case round =>
    obtain ⟨pos, f, k, acc, rfl, hR⟩ := hrel
    have HR : Hid (InR w wr t c pos f k acc) := hR
    have hkl : k ≤ t.size + 1 := by have := hR.le; have := hR.len; omega
    have hit := hR.it
    have hfu := hR.fuel
    clear hR
    by_cases hp : pos < t.size
    · have hnx : ∀ ty, (Instr.next (.pointer (some ⟨w.heap.size + 1, 0, none⟩)) true ty).run Try.prog wr = _ := fun ty => Lib.run_next_any_at wr (w.heap.size + 1) t pos ty hit hp
      have hwd := wd_pos t pos hp
      by_cases he : (k : Int) = c
      · have hq : ((k : Int) == c) = true := by simp [he]
        have HE : Hid ((k : Int) = c) := he
        clear he
        go_wp2_with fail
        have HS := (HR.out.isb.iterAt (k := w.heap.size + 1) (by omega) (by omega) t (pos + wd t pos))
        refine (str_any _ _ w.heap.size acc _ HS (by omega) (by have := HR.out.le; omega)).mono ?_
        rintro e w2 ⟨rfl, hB⟩
        go_wp2
        go_ret
        have h2 := HR.out.eq
        rw [inF_stop HE.out, List.append_nil] at h2
        exact ⟨by rw [← h2]; rfl, (Lib.below_iterAt HR.out.bel (by omega) _ _).trans hB⟩
      · have hq : ((k : Int) == c) = false := by simp [he]
        obtain ⟨f, rfl⟩ : ∃ f', f = f' + 1 := ⟨f - 1, by omega⟩
        by_cases h9 : rn t pos = 9
        · have hr : (((Utf8.decode t pos).1 : Int) == 9) = true := by simpa [rn] using h9
          have HM : Hid (mkb t pos = 9) := by show _ = _; simp [mkb, h9]
          clear h9
          go_wp2_with fail
          have HS := (HR.out.isb.iterAt (k := w.heap.size + 1) (by omega) (by omega) t (pos + wd t pos))
          refine (wb_any _ _ acc (mkb t pos) _ _ HS (by have := HR.out.le; omega) (by rw [HM.out]; rfl)).mono ?_
          rintro e w2 ⟨rfl, h1, h2⟩
          have HN : Hid (InR w w2 t c (pos + wd t pos) f (k + 1) (acc ++ [mkb t pos])) := HR.out.next hp he h1 h2
          clear h1 h2 HS hit hnx
          go_wp2
          go_roundw
          case rel => exact ⟨_, f, k + 1, _, by go_num, HN.out⟩
          case measure =>
            have e1 : wr.iterPos (w.heap.size + 1) = pos := by unfold World.iterPos; rw [HR.out.it]
            have e2 : w2.iterPos (w.heap.size + 1) = pos + wd t pos := by unfold World.iterPos; rw [HN.out.it]
            rw [e1, e2]
            omega
        · have hr : (((Utf8.decode t pos).1 : Int) == 9) = false := by simpa [rn] using h9
          have HM : Hid (mkb t pos = 32) := by show _ = _; simp [mkb, h9]
          clear h9
          go_wp2_with fail
          have HS := (HR.out.isb.iterAt (k := w.heap.size + 1) (by omega) (by omega) t (pos + wd t pos))
          refine (wb_any _ _ acc (mkb t pos) _ _ HS (by have := HR.out.le; omega) (by rw [HM.out]; rfl)).mono ?_
          rintro e w2 ⟨rfl, h1, h2⟩
          have HN : Hid (InR w w2 t c (pos + wd t pos) f (k + 1) (acc ++ [mkb t pos])) := HR.out.next hp he h1 h2
          clear h1 h2 HS hit hnx
          go_wp2
          go_roundw
          case rel => exact ⟨_, f, k + 1, _, by go_num, HN.out⟩
          case measure =>
            have e1 : wr.iterPos (w.heap.size + 1) = pos := by unfold World.iterPos; rw [HR.out.it]
            have e2 : w2.iterPos (w.heap.size + 1) = pos + wd t pos := by unfold World.iterPos; rw [HN.out.it]
            rw [e1, e2]
            omega
    · have hnx : ∀ ty, (Instr.next (.pointer (some ⟨w.heap.size + 1, 0, none⟩)) true ty).run Try.prog wr = _ := fun ty => Lib.run_next_end_at wr (w.heap.size + 1) t pos ty hit hp
      go_wp2_with fail
      refine (str_any _ _ w.heap.size acc _ HR.out.isb (by omega) (by have := HR.out.le; omega)).mono ?_
      rintro e w2 ⟨rfl, hB⟩
      go_wp2
      go_ret
      have h2 := HR.out.eq
      rw [inF_end hp, List.append_nil] at h2
      exact ⟨by rw [← h2]; rfl, HR.out.bel.trans hB⟩

theorem str_eq {s s' : ByteArray} (h : s.data.toList = s'.data.toList) : s = s' := by
  apply ByteArray.ext
  exact Array.toList_inj.1 h

set_option maxHeartbeats 800000 in
theorem mark_any (b : Nat) (s : ByteArray) (a : Int) (w : World) (h : IsText w b s) :
    Calls Try.prog 16 #[.pointer (some ⟨b, 0, none⟩), .int .i64 a] w fun e w' => e = .returned (.tuple #[.string (MV s a), .int .i64 (SE s a)]) ∧ Below w.heap.size w w' := by
  have hs := h.hs
  by_cases hin : inB s a = true
  · obtain ⟨a, rfl⟩ : ∃ k : Nat, a = k := ⟨a.toNat, by simp [inB] at hin; omega⟩
    have ha : a ≤ s.size := by simp [inB] at hin; omega
    have k3 := spL_le s a ha
    have k0 : 1 ≤ spL s a := by unfold spL; omega
    have k6 := st_le s (spL s a) k0 k3
    have k7 := en_le s (spL s a) k0 k3
    have k8 := ln_size s (spL s a) k0 k3
    have lz : (ln s (spL s a)).size ≤ 2097152 := by omega
    have il : (ind (ln s (spL s a)) (spC s a : Nat)).length ≤ 2097152 := by have := ind_len (ln s (spL s a)) (spC s a : Nat); omega
    have HM : Hid (MV s a = ⟨(MB s a).toArray⟩ ∧ SE s a = 0 ∧ SL s a = (spL s a : Nat) ∧ SC s a = (spC s a : Nat)) := by
      refine ⟨?_, ?_, ?_, ?_⟩ <;> simp [MV, SE, SL, SC, hin]
    clear hin k8
    go_enter Try.func16, Try.ntmps16
    go_wp2_with fail
    refine (spot_any b s a _ h).mono ?_
    rintro e w1 ⟨rfl, hB1⟩
    rw [HM.out.2.1, HM.out.2.2.1, HM.out.2.2.2]
    go_wp2_with fail
    refine (line_any b s (spL s a) _ (h.below hB1) k0 k3).mono ?_
    rintro e w2 ⟨rfl, hB2⟩
    have HB : Hid (Below w.heap.size w w2) := hB1.trans (hB2.mono hB1.size)
    clear hB1 hB2
    go_wp2_with fail
    refine (indent_any (ln s (spL s a)) _ _ lz).mono ?_
    rintro e w3 ⟨rfl, hB3⟩
    have HB3 : Hid (Below w.heap.size w w3) := HB.out.trans (hB3.mono HB.out.size)
    clear hB3
    go_wp2
    go_ret2
    refine ⟨ret_si ?_ HM.out.2.1.symm, HB3.out⟩
    rw [HM.out.1]
    apply str_eq
    simp [MB]
  · have hin : inB s a = false := by simpa using hin
    have HM : Hid (MV s a = ByteArray.empty ∧ SE s a = 1 ∧ SL s a = 0 ∧ SC s a = 0) := by
      refine ⟨?_, ?_, ?_, ?_⟩ <;> simp [MV, SE, SL, SC, hin]
    clear hin
    go_enter Try.func16, Try.ntmps16
    go_wp2_with fail
    refine (spot_any b s a _ h).mono ?_
    rintro e w1 ⟨rfl, hB1⟩
    rw [HM.out.2.1, HM.out.2.2.1, HM.out.2.2.2]
    go_wp2
    go_ret2
    exact ⟨ret_si (by rw [HM.out.1]; rfl) HM.out.2.1.symm, hB1⟩
end Go.Proofs.Ytkkplmkpemajfab.Sp
