import Derived.Test.YtoeioppmlnognaaArMove
import Derived.Test.YtoeioppmlnognaaArNew
import Derived.Test.YtoeioppmlnognaaArNodes
namespace Go.Proofs.Ytoeioppmlnognaa.Ar
open Go.RowKit

/-- an arena in memory made since w -/
def Mine (n0 : Nat) (w W : World) (g : Nat) (o : Lo) (a : As) : Prop := IsAr W g o a ∧ Below n0 w W ∧ (∀ k ∈ o.foot g a.nl, n0 ≤ k) ∧ n0 ≤ w.heap.size
theorem Fr.below {F : List Nat} {n0 : Nat} {w W W' : World} (h : Fr F W W') (hb : Below n0 w W) (hf : ∀ k ∈ F, n0 ≤ k) (hn : n0 ≤ w.heap.size) : Below n0 w W' :=
  hb.trans ⟨h.os, h.tape, h.output, h.size, fun k hk => h.block k (Nat.lt_of_lt_of_le hk (Nat.le_trans hn hb.size)) (fun hm => by have := hf k hm; omega)⟩
theorem Mine.turn {n0 : Nat} {w W W' : World} {g : Nat} {o : Lo} {a a' : As} (h : Mine n0 w W g o a) (hG : Goes W g o a' W') (hl : a'.nl = a.nl) : ∃ o', Mine n0 w W' g o' a' := by
  obtain ⟨h1, h2, h3, h4⟩ := h
  obtain ⟨o', k1, k2, k3⟩ := hG
  rw [hl] at k2 k3
  refine ⟨o', k1, k2.below h2 h3 h4, fun k hk => ?_, h4⟩
  rw [hl] at hk
  rcases k3 k hk with e | e
  · exact h3 k e
  · exact Nat.le_trans h4 (Nat.le_trans h2.size e)
theorem Mine.below {n0 : Nat} {w W W' : World} {g : Nat} {o : Lo} {a : As} (h : Mine n0 w W g o a) (hb : Below W.heap.size W W') : Mine n0 w W' g o a :=
  ⟨h.1.below hb, h.2.1.trans (hb.mono (Nat.le_trans h.2.2.2 h.2.1.size)), h.2.2.1, h.2.2.2⟩
theorem Born.mine {w w' : World} {a : As} {g : Nat} (h : Born w a g w') : ∃ o, Mine w.heap.size w w' g o a := by
  obtain ⟨o, h1, h2, h3⟩ := h
  exact ⟨o, h1, h2, h3, Nat.le_refl _⟩

set_option maxHeartbeats 3200000 in
set_option maxRecDepth 100000 in
/-- known -/
theorem known_any (w : World) : Calls Try.prog 8 #[] w fun r w' => r = .returned (.bool true) ∧ Below w.heap.size w w' := by
  have hnil : ∀ (cp : Array Value) (u : World), (binOp BinOp.eql 57 (.func (.func 59) #[] cp) .nilFunc).run Try.prog u = .ok (.bool false) u := fun _ _ => rfl
  go_enter Try.func8, Try.ntmps8
  go_wp2_with fail
  refine Calls.mono (new_ok w 2 1 ⟨⟨by omega, by omega⟩, by omega, by omega⟩) ?_
  rintro r w1 ⟨g, rfl, hB⟩
  obtain ⟨o, h1⟩ := hB.mine
  have H1 := show Hid _ from h1
  clear h1 hB
  go_wp2_with fail
  refine Calls.mono (all_seq H1.out.1 0 0) ?_
  rintro r w2 ⟨q, rfl, -, -, hb2⟩
  have H2 := show Hid _ from Mine.below H1.out hb2
  clear hb2
  go_wp2_with fail
  refine Calls.mono (push_any H2.out.1 0 1 7) ?_
  rintro r w3 ⟨rfl, hG⟩
  have e3 : ((As.new (2 : Int).toNat (1 : Int).toNat).push 0 1 7).1 = 0 ∧ ((As.new (2 : Int).toNat (1 : Int).toNat).push 0 1 7).2.1 = 0 := ⟨by kernel_rfl, by kernel_rfl⟩
  have e4 : (((As.new (2 : Int).toNat (1 : Int).toNat).push 0 1 7).2.2.get 0) = (7, 0) := by kernel_rfl
  have e5 : (((As.new (2 : Int).toNat (1 : Int).toNat).push 0 1 7).2.2.len 0) = 1 := by kernel_rfl
  have e6 : (((As.new (2 : Int).toNat (1 : Int).toNat).push 0 1 7).2.2.free) = 1 := by kernel_rfl
  obtain ⟨o3, h3⟩ := Mine.turn H2.out hG (As.push_nl _ _ _ _).1
  rw [e3.1, e3.2]
  generalize ((As.new (2 : Int).toNat (1 : Int).toNat).push 0 1 7).2.2 = a3 at *
  have HG := show Hid _ from get_any h3.1 0
  have HL := show Hid _ from len_any h3.1 0
  have HF := show Hid _ from free_any h3.1
  rw [e4] at HG
  rw [e5] at HL
  rw [e6] at HF
  have H3 := show Hid _ from h3.2.1
  clear e3 e4 e5 e6 h3 hG
  go_wp2_with fail
  refine Calls.mono HG.out ?_
  rintro r w4 ⟨rfl, rfl⟩
  go_wp2_with fail
  refine Calls.mono HL.out ?_
  rintro r w4 ⟨rfl, rfl⟩
  go_wp2_with fail
  refine Calls.mono HF.out ?_
  rintro r w4 ⟨rfl, rfl⟩
  go_wp2
  go_ret
  exact ⟨rfl, H3.out⟩

set_option maxHeartbeats 1600000 in
/-- open -/
theorem open_ok (w : World) (n l : Int) (h : okA n l) (h2 : n ≤ 2000) : Calls Try.prog 14 #[I n, I l] w fun r w' => ∃ g, r = .returned (.pointer (some ⟨g, 0, none⟩)) ∧ Born w (As.new n.toNat l.toNat) g w' := by
  have q : decide ((2000 : Int) < n) = false := by simp; omega
  have HN := show Hid _ from new_ok w n l h
  clear h h2
  go_enter Try.func14, Try.ntmps14
  go_wp2_with fail
  refine Calls.mono HN.out ?_
  rintro r w1 ⟨g, rfl, hB⟩
  have HB := show Hid _ from hB
  clear hB
  go_wp2
  go_ret
  exact ⟨g, rfl, HB.out⟩
set_option maxHeartbeats 1600000 in
theorem open_no (w : World) (n l : Int) (h : ¬ (okA n l ∧ n ≤ 2000)) : Calls Try.prog 14 #[I n, I l] w fun r w' => r = .returned (.pointer none) ∧ w' = w := by
  by_cases h2 : 2000 < n
  · clear h
    go_enter Try.func14, Try.ntmps14
    go_wp2
    go_ret
    exact ⟨rfl, rfl⟩
  · have q : decide ((2000 : Int) < n) = false := by simp; omega
    have HN := show Hid _ from new_no w n l (fun hk => h ⟨hk, by omega⟩)
    clear h h2
    go_enter Try.func14, Try.ntmps14
    go_wp2_with fail
    refine Calls.mono HN.out ?_
    rintro r w1 ⟨rfl, rfl⟩
    go_wp2
    go_ret
    exact ⟨rfl, rfl⟩
end Go.Proofs.Ytoeioppmlnognaa.Ar
