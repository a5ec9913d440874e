import Derived.Test.YtjcbpejplnaakaaGreatMiMem
import Derived.Deep.CutBlock
namespace Go.Proofs.YtjcbpejplnaakaaGreat.Mi
open Go.RowKit Go.Maps Go.Proofs.YtjcbpejplnaakaaGreat.Md

section
variable {w w0 : World} {g o : Nat} {F : List Nat} {L : Lo} {c : Rs} {hd : Nat → Nat} {m : Nat → Option Int} {k n : Nat}
set_option maxRecDepth 100000 in
theorem has_any (h : Mem w g o L c hd m k) {x : Nat} (hx : x < 18446744073709551616) : Calls Tryz.prog 97 #[.pointer (some ⟨g, o, none⟩), U x] w fun e w' => e = .returned (.bool (m x).isSome) ∧ w' = w := by
  obtain ⟨_, a1, _, _⟩ := h.cellsR
  have hl := h.book.lookOk hx
  clear h
  go_enter Tryz.func97, Tryz.ntmps97
  go_wp2
  go_ret
  exact ⟨rfl, rfl⟩
set_option maxRecDepth 100000 in
theorem count_any (h : Mem w g o L c hd m k) : Calls Tryz.prog 102 #[.pointer (some ⟨g, o, none⟩)] w fun e w' => e = .returned (I k) ∧ w' = w := by
  obtain ⟨_, a1, _, _⟩ := h.cellsR
  have hl := fun ty => h.book.len ty
  clear h
  go_enter Tryz.func102, Tryz.ntmps102
  go_wp2
  go_ret
  exact ⟨rfl, rfl⟩
set_option maxRecDepth 100000 in
theorem last_any (h : Mem w g o L c hd m k) (h0 : 0 < c.n) (h1 : c.ah 0 < c.n) : Calls Tryz.prog 107 #[.pointer (some ⟨g, o, none⟩)] w fun e w' => e = .returned (.pointer (some ⟨L.nb, c.ah 0 * 4, none⟩)) ∧ ∃ n, w' = w.drewN n := by
  obtain ⟨a0, _, _, _⟩ := h.cellsR
  obtain ⟨_, sh, n1, _, _⟩ := h.cellsN h0
  rw [Nat.zero_mul] at n1
  have h0' : (0 : Int) < (c.n : Int) := by omega
  have h1' : ((c.ah 0 : Nat) : Int) < (c.n : Int) := by omega
  clear h
  go_enter Tryz.func107, Tryz.ntmps107
  go_wp2_with fail
  go_quiet (fail)
  go_wp2
  go_ret
  exact ⟨rfl, _, rfl⟩
set_option maxHeartbeats 800000 in
set_option maxRecDepth 100000 in
theorem link_any (h : Mf w0 w g o F L c hd m k) {x : Nat} (hx : x < c.n) (h0 : 0 < c.n) (hb : c.be 0 < c.n) : Calls Tryz.prog 113 #[.pointer (some ⟨g, o, none⟩), I x] w fun e w' => e = .returned (.tuple #[]) ∧ Mf w0 w' g o F L (c.link x) hd m k := by
  have hx' : (x : Int) < (c.n : Int) := by omega
  have h0' : (0 : Int) < (c.n : Int) := by omega
  have hb' : ((c.be 0 : Nat) : Int) < (c.n : Int) := by omega
  obtain ⟨a0, _, _, _⟩ := h.mem.cellsR
  obtain ⟨_, sh, _, n2, _⟩ := h.mem.cellsN h0
  rw [Nat.zero_mul] at n2
  have H : Hid (Mf w0 w g o F L c hd m k) := h
  clear h
  go_enter Tryz.func113, Tryz.ntmps113
  go_upto_region 1 with fail
  clear n2
  obtain ⟨_, sh, s1, s2, sf⟩ := H.out.mem.cellsN hx
  go_region
  have H1 : Hid (Mf w0 ((w.setCell ⟨L.nb, x * 4 + 2, none⟩ (I 0)).setCell ⟨L.nb, x * 4 + 3, none⟩ (I (c.be 0))).drew g o F L _ _ m k) := ((H.out.putAh x 0).putBe x (c.be 0)).drew
  generalize ((w.setCell ⟨L.nb, x * 4 + 2, none⟩ (I 0)).setCell ⟨L.nb, x * 4 + 3, none⟩ (I (c.be 0))).drew = w1 at *
  clear H s1 s2 sf a0
  obtain ⟨a0, _, _, _⟩ := H1.out.mem.cellsR
  obtain ⟨_, sh, s1, _, sf⟩ := H1.out.mem.cellsN hb
  go_upto_region 3 with fail
  have H2 : Hid (Mf w0 (w1.setCell ⟨L.nb, c.be 0 * 4 + 2, none⟩ (I x)) g o F L _ _ m k) := H1.out.putAh (c.be 0) x
  generalize w1.setCell ⟨L.nb, c.be 0 * 4 + 2, none⟩ (I x) = w2 at *
  clear H1 s1 sf a0
  obtain ⟨a0, _, _, _⟩ := H2.out.mem.cellsR
  obtain ⟨_, sh, _, s2, sf⟩ := H2.out.mem.cellsN h0
  rw [Nat.zero_mul] at s2
  go_wp2
  go_end0
  refine ⟨rfl, ?_⟩
  have := H2.out.putBe 0 x
  rw [Nat.zero_mul] at this
  exact this
set_option maxHeartbeats 800000 in
set_option maxRecDepth 100000 in
theorem unlink_any (h : Mf w0 w g o F L c hd m k) {x : Nat} (hx : x < c.n) (ha : c.ah x < c.n) (hb : c.be x < c.n) : Calls Tryz.prog 116 #[.pointer (some ⟨g, o, none⟩), I x] w fun e w' => e = .returned (.tuple #[]) ∧ Mf w0 w' g o F L (c.unlink x) hd m k := by
  have hx' : (x : Int) < (c.n : Int) := by omega
  have ha' : ((c.ah x : Nat) : Int) < (c.n : Int) := by omega
  have hb' : ((c.be x : Nat) : Int) < (c.n : Int) := by omega
  obtain ⟨a0, _, _, _⟩ := h.mem.cellsR
  obtain ⟨_, sh, n1, n2, _⟩ := h.mem.cellsN hx
  have H : Hid (Mf w0 w g o F L c hd m k) := h
  clear h
  go_enter Tryz.func116, Tryz.ntmps116
  go_wp2_with fail
  go_quiet (fail)
  have H1 : Hid (Mf w0 (w.drewN nq) g o F L c hd m k) := H.out.drewN nq
  generalize w.drewN nq = w1 at *
  clear H a0 n1 n2
  obtain ⟨a0, _, _, _⟩ := H1.out.mem.cellsR
  obtain ⟨_, sh, _, s2, sf⟩ := H1.out.mem.cellsN ha
  go_upto_region 2 with fail
  have H2 : Hid (Mf w0 (w1.setCell ⟨L.nb, c.ah x * 4 + 3, none⟩ (I (c.be x))) g o F L _ _ m k) := H1.out.putBe (c.ah x) (c.be x)
  generalize w1.setCell ⟨L.nb, c.ah x * 4 + 3, none⟩ (I (c.be x)) = w2 at *
  clear H1 s2 sf a0
  obtain ⟨a0, _, _, _⟩ := H2.out.mem.cellsR
  obtain ⟨_, sh, s1, _, sf⟩ := H2.out.mem.cellsN hb
  go_wp2
  go_end0
  exact ⟨rfl, H2.out.putAh (c.be x) (c.ah x)⟩
end
end Go.Proofs.YtjcbpejplnaakaaGreat.Mi
