import Derived.Test.YtelbakkgobkdaaaDoorVfSame
import Derived.Test.YtelbakkgobkdaaaDoorVfHold
namespace Go.Proofs.YtelbakkgobkdaaaDoor.Vf
open Go.RowKit Go.Proofs.YtelbakkgobkdaaaDoor.Nm

set_option maxHeartbeats 3200000 in
set_option maxRecDepth 100000 in
/-- same -/
theorem same_any (s t : Sd) (ht : t.ty.length ≤ 256) (w : World) :
    Calls Tryd.prog 44 #[.agg (sdV s), .agg (sdV t)] w fun e w' => e = .returned (.bool (sameS s t)) ∧ Below w.heap.size w w' := by
  obtain ⟨ty, hd, tn⟩ := s
  obtain ⟨ty2, hd2, tn2⟩ := t
  have HA : Hid (∀ W, Calls Tryd.prog 70 #[.agg (opV ty).toArray, .agg (opV ty2).toArray] W fun e w' => e = .returned (.bool (decide (ty = ty2))) ∧ Below W.heap.size W w') := fun W => alike_any ty ty2 ht W
  have hr : sameS ⟨ty, hd, tn⟩ ⟨ty2, hd2, tn2⟩ = (decide (hd = hd2) && (decide (tn = tn2) && decide (ty = ty2))) := rfl
  rw [hr]
  unfold sdV
  dsimp only
  unfold opV at HA
  generalize decide (ty = ty2) = r at *
  clear hr
  by_cases h1 : hd = hd2
  · subst h1
    by_cases h2 : tn = tn2
    · subst h2
      rw [decide_eq_true rfl, decide_eq_true rfl, Bool.true_and, Bool.true_and]
      go_enter Tryd.func44, Tryd.ntmps44
      go_wp2_with fail
      refine Calls.mono (HA.out _) ?_
      rintro e w1 ⟨rfl, hb1⟩
      have HB1 : Hid _ := hb1
      clear hb1 HA
      go_wp2_with fail
      go_ret
      exact ⟨rfl, (((Below.refl _ w).alloc (Nat.le_refl _) _).alloc (by simp) _).trans (HB1.out.mono (by simp; omega))⟩
    · have h2' : (tn == tn2) = false := by simpa using h2
      rw [decide_eq_false h2, Bool.false_and, Bool.and_false]
      go_enter Tryd.func44, Tryd.ntmps44
      go_wp2_with fail
      go_ret
      exact ⟨by simp, ((Below.refl _ w).alloc (Nat.le_refl _) _).alloc (by simp) _⟩
  · have h1' : ((hd : Int) == (hd2 : Int)) = false := by simp; omega
    have h1'' : ¬ (hd : Int) = (hd2 : Int) := by omega
    rw [decide_eq_false h1, Bool.false_and]
    go_enter Tryd.func44, Tryd.ntmps44
    go_wp2_with fail
    go_ret
    exact ⟨by simp, ((Below.refl _ w).alloc (Nat.le_refl _) _).alloc (by simp) _⟩
def CtB (k : Int) (l : List Int) (n : Int) : Prop := decide (0 ≤ k) = l.contains n
theorem contains_take {l : List Int} {j : Nat} {n : Int} (hj : j < l.length) (h : (l.take j).contains n = false) (hn : ¬ n = l[j]) : (l.take (j + 1)).contains n = false := by
  rw [List.take_add_one, List.getElem?_eq_getElem hj]
  simp only [List.contains_eq_mem, decide_eq_false_iff_not, List.mem_append] at h ⊢
  rintro (h1 | h1)
  · exact h h1
  · exact hn (List.mem_singleton.1 h1)
set_option maxHeartbeats 3200000 in
set_option maxRecDepth 100000 in
/-- Index -/
theorem index_any (o : Option Addr) (l : List Int) (c : Nat) (n : Int) (w : World) (h : Rd w o (iC l)) (hl : l.length ≤ 1000000000000001) :
    Calls Tryd.prog 100 #[.slice o l.length c, .int .i64 n] w fun e w' => ∃ k : Int, e = .returned (.int .i64 k) ∧ CtB k l n ∧ w' = w := by
  have n3 : (l.length : Int) ≤ 1000000000000001 := by omega
  have HR : Hid (Rd w o (iC l)) := h
  clear h hl
  go_enter Tryd.func100, Tryd.ntmps100
  go_wp2_with fail
  go_loopg [8] l.length (fun gq x wr => ∃ j : Nat, j ≤ l.length ∧ gq = l.length - j ∧ x = .int .i64 (j : Int) ∧ (l.take j).contains n = false ∧ wr = w)
  case atStart => exact ⟨0, Nat.zero_le _, rfl, rfl, rfl, rfl⟩
  case round =>
    obtain ⟨j, hj, hgk, rfl, ha, rfl⟩ := hrel
    have HG : Hid (gk = l.length - j ∧ (l.take j).contains n = false) := ⟨hgk, ha⟩
    clear hgk ha
    by_cases hlt : j < l.length
    · have hlt' : (j : Int) < (l.length : Int) := by omega
      obtain ⟨g, f, hvo, hg, d0⟩ := rd_int HR.out hlt
      have HLt : Hid (j < l.length) := hlt
      by_cases hv : n = l[j]
      · have HR2 : Hid (l.contains n = true) := by show _ = _; rw [List.contains_eq_mem, decide_eq_true_iff, hv]; exact List.getElem_mem hlt
        obtain rfl : o = some ⟨g, f, none⟩ := hvo
        have d1 : wr.cell? ⟨g, f + j, none⟩ = some (.int .i64 n) := d0.trans (congrArg (fun z => some (Value.int .i64 z)) hv.symm)
        clear hlt hg hv d0
        go_wp2_with fail
        go_ret
        exact ⟨_, rfl, (decide_eq_true (by omega)).trans HR2.out.symm, rfl⟩
      · have HA : Hid ((l.take (j + 1)).contains n = false) := contains_take hlt HG.out.2 hv
        obtain rfl : o = some ⟨g, f, none⟩ := hvo
        generalize l[j] = y0 at *
        have hv' : (n == y0) = false := by simpa using hv
        clear hlt hg
        go_wp2_with fail
        go_roundg (l.length - (j + 1))
        case measure => have h1 := HG.out.1; have := HLt.out; omega
        case rel => exact ⟨j + 1, HLt.out, rfl, by go_num, HA.out, rfl⟩
    · have hlt' : ¬ (j : Int) < (l.length : Int) := by omega
      obtain rfl : j = l.length := by omega
      have hva : l.contains n = false := by have := HG.out.2; rwa [List.take_length] at this
      have HR2 : Hid (l.contains n = false) := hva
      clear hva hlt hj
      go_wp2_with fail
      go_ret
      exact ⟨_, rfl, (decide_eq_false (by omega)).trans HR2.out.symm, rfl⟩
set_option maxHeartbeats 3200000 in
set_option maxRecDepth 100000 in
/-- Contains -/
theorem contains_any (o : Option Addr) (l : List Int) (c : Nat) (n : Int) (w : World) (h : Rd w o (iC l)) (hl : l.length ≤ 1000000000000001) :
    Calls Tryd.prog 91 #[.slice o l.length c, .int .i64 n] w fun e w' => e = .returned (.bool (l.contains n)) ∧ w' = w := by
  have HI : Hid (Calls Tryd.prog 100 #[.slice o l.length c, .int .i64 n] w fun e w' => ∃ k : Int, e = .returned (.int .i64 k) ∧ CtB k l n ∧ w' = w) := index_any o l c n w h hl
  clear h hl
  go_enter Tryd.func91, Tryd.ntmps91
  go_wp2_with fail
  refine Calls.mono HI.out ?_
  rintro e w1 ⟨k, rfl, HK, rfl⟩
  clear HI
  go_wp2_with fail
  go_ret
  refine ⟨?_, rfl⟩
  rw [← (show decide (0 ≤ k) = l.contains n from HK)]
  rfl
end Go.Proofs.YtelbakkgobkdaaaDoor.Vf
