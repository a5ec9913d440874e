import Derived.Test.YtnededkmjmbioabDoorVfCp
import Derived.Test.YtnededkmjmbioabDoorVfEv
namespace Go.Proofs.YtnededkmjmbioabDoor.Vf
open Go.RowKit Go.Proofs.YtnededkmjmbioabDoor.Nm
set_option maxHeartbeats 3200000 in
set_option maxRecDepth 100000 in
/-- numbers lent -/
theorem lendI_any (w : World) (ao : Option Addr) (l : List Int) (cap : Nat) (h : Rd w ao (iC l)) (hn : l.length ≤ 1000) :
    Calls Tryd.prog 19 #[.slice ao l.length cap] w fun e w' => e = .returned (.slice (some ⟨w.heap.size, 0, none⟩) l.length (l.length + 5)) ∧ Bk w' w.heap.size 3 (iC l) 5 ∧ Below w.heap.size w w' := by
  have hmk : ∀ u : World, (Instr.makeSlice 24 (.int .i64 ((l.length : Int) + 5)) (.int .i64 ((l.length : Int) + 5))).run Tryd.prog u = .ok (.slice (some ⟨u.heap.size, 0, none⟩) (l.length + 5) (l.length + 5)) (u.alloc (.cells (madeCells (Value.int .i64 0).cells ((l.length + 5) * 1)) 3)) := fun u => by
    have := mk_row Tryd.underlying24 infoI (l.length + 5) (by omega) (by omega) u
    rw [show ((l.length + 5 : Nat) : Int) = (l.length : Int) + 5 by omega] at this
    exact this
  obtain ⟨W2, hcp, hR, hB⟩ := copied Tryd.underlying24 infoI (by decide) l.length 5 cap ao (iC l) (iC_len l) (iC_one l) w h
  have H0 : Hid (Bk W2 w.heap.size 3 (iC l) 5 ∧ Below w.heap.size w W2) := ⟨hR, hB⟩
  have hln : (l.length : Int) ≤ 1000 := by omega
  have hil : (iC l).length = l.length := by unfold iC; simp
  have HIl : Hid ((iC l).length = l.length) := hil
  generalize madeCells (Value.int .i64 0).cells ((l.length + 5) * 1) = M at hmk hcp
  clear h hn hR hB hil
  go_enter Tryd.func19, Tryd.ntmps19
  go_wp2_with fail
  go_loopg [4] 5 (fun gq i wr => ∃ k : Nat, k ≤ 5 ∧ gq = 5 - k ∧ i = .int .i64 ((l.length : Int) + k) ∧ Bk wr w.heap.size 3 (iC l) 5 ∧ Below w.heap.size w wr)
  case atStart => exact ⟨0, by omega, rfl, by go_num, H0.out.1, H0.out.2⟩
  case round =>
    obtain ⟨k, hk, hgk, rfl, hR, hB⟩ := hrel
    have HG : Hid (gk = 5 - k) := hgk
    have HR : Hid (Bk wr w.heap.size 3 (iC l) 5 ∧ Below w.heap.size w wr) := ⟨hR, hB⟩
    have hk3 : (k : Int) ≤ 5 := by omega
    clear hgk hB
    by_cases hlt : k < 5
    · have hlt' : (l.length : Int) + (k : Int) < (l.length : Int) + 5 := by omega
      obtain ⟨v0, c0⟩ := hR.cell (j := l.length + k) (by have := HIl.out; omega)
      have hf := hR.frozen
      have hcast : ((l.length + k : Nat) : Int) = (l.length : Int) + (k : Int) := by omega
      have HS : Hid (Bk (wr.setCell ⟨w.heap.size, l.length + k, none⟩ (.int .i64 (-77 - ((l.length + k : Nat) : Int)))) w.heap.size 3 (iC l) 5) := hR.set (by have := HIl.out; omega) _
      have htn : ((l.length : Int) + (k : Int)).toNat = l.length + k := by omega
      clear hR hlt
      rw [← hcast] at hlt' ⊢
      go_wp2_with fail
      go_roundg (5 - (k + 1))
      case measure => have h1 := HG.out; omega
      case rel => exact ⟨k + 1, by omega, rfl, by go_num, HS.out, HR.out.2.setCell (p := ⟨w.heap.size, l.length + k, none⟩) (Nat.le_refl _) _⟩
    · have hlt' : ¬ ((l.length : Int) + (k : Int) < (l.length : Int) + 5) := by omega
      clear hR hlt
      go_wp2_with fail
      go_ret
      exact ⟨rfl, HR.out⟩
end Go.Proofs.YtnededkmjmbioabDoor.Vf
