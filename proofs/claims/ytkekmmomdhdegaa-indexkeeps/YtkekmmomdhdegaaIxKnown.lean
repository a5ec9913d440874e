import Derived.Test.YtkekmmomdhdegaaIxNew
namespace Go.Proofs.Ytkekmmomdhdegaa.Ii
open Go.RowKit Go.Proofs.Ytkekmmomdhdegaa.Ix

/-- an index in memory made since w -/
def Mine (n0 : Nat) (w W : World) (g : Nat) (o : Lo) (a : Ix El) : Prop := IsIx W g o a ∧ Below n0 w W ∧ (∀ k ∈ o.foot g, n0 ≤ k) ∧ n0 ≤ w.heap.size
theorem fr_below {F : List Nat} {n0 : Nat} {w W W' : World} (h : Fr F W W') (hb : Below n0 w W) (hf : ∀ k ∈ F, n0 ≤ k) (hn : n0 ≤ w.heap.size) : Below n0 w W' :=
  hb.trans ⟨h.os, h.tape, h.output, h.size, fun k hk => h.block k (Nat.lt_of_lt_of_le hk (Nat.le_trans hn hb.size)) (fun hm => by have := hf k hm; omega)⟩
theorem Mine.turn {n0 : Nat} {w W W' : World} {g : Nat} {o : Lo} {a a' : Ix El} (h : Mine n0 w W g o a) (hG : Goes W g o a' W') : ∃ o', Mine n0 w W' g o' a' := by
  obtain ⟨h1, h2, h3, h4⟩ := h
  obtain ⟨o', k1, k2, k3⟩ := hG
  refine ⟨o', k1, fr_below k2 h2 h3 h4, fun k hk => ?_, h4⟩
  rcases k3 k hk with e | e
  · exact h3 k e
  · exact Nat.le_trans h4 (Nat.le_trans h2.size e)
theorem Mine.below {n0 : Nat} {w W W' : World} {g : Nat} {o : Lo} {a : Ix El} (h : Mine n0 w W g o a) (hb : Below W.heap.size W W') : Mine n0 w W' g o a :=
  ⟨h.1.below hb, h.2.1.trans (hb.mono (Nat.le_trans h.2.2.2 h.2.1.size)), h.2.2.1, h.2.2.2⟩
theorem Born.mine {w w' : World} {a : Ix El} {g : Nat} (h : Born w a g w') : ∃ o, Mine w.heap.size w w' g o a := by
  obtain ⟨o, h1, h2, h3⟩ := h
  exact ⟨o, h1, h2, h3, Nat.le_refl _⟩

set_option maxHeartbeats 1600000 in
theorem news_no (w : World) : Calls Try.prog 29 #[I (-1)] w fun e w' => e = .returned (.tuple #[.pointer none, I 1]) ∧ w' = w := by
  go_enter Try.func29, Try.ntmps29
  go_wp2
  go_ret2
  exact ⟨rfl, rfl⟩
def k0 : Ix El := Ix.new (dbl 3) 3
def k1 : Ix El := (k0.put 1 7).2
theorem k1_facts : (k0.put 1 7).1 = 0 ∧ k1.get 1 = some 7 ∧ k1.find 1 = 4 ∧ k1.get 2 = none ∧ k1.count = 1 ∧ k1.b = 2 ∧ hm 2 1 = 4 := ⟨by kernel_rfl, by kernel_rfl, by kernel_rfl, by kernel_rfl, by kernel_rfl, by kernel_rfl, by kernel_rfl⟩
set_option maxHeartbeats 3200000 in
set_option maxRecDepth 100000 in
/-- known -/
theorem known_any (w : World) : Calls Try.prog 8 #[] w fun r w' => r = .returned (.bool true) ∧ Below w.heap.size w w' := by
  have HN : Hid (Calls Try.prog 23 #[I 3] w fun e w' => ∃ g, e = .returned (.tuple #[.pointer (some ⟨g, 0, none⟩), I 0]) ∧ Born w k0 g w') := new_ok 3 (by omega) w
  obtain ⟨f1, f2, f3, f4, f5, f6, f7⟩ := k1_facts
  go_enter Try.func8, Try.ntmps8
  go_wp2_with fail
  refine Calls.mono HN.out ?_
  rintro r w1 ⟨g, rfl, hB⟩
  obtain ⟨o, h1⟩ := hB.mine
  have H1 := show Hid _ from h1
  clear h1 hB
  go_wp2_with fail
  refine Calls.mono (news_no w1) ?_
  rintro r w2 ⟨rfl, rfl⟩
  have HP : Hid (Calls Try.prog 28 #[.pointer (some ⟨g, 0, none⟩), .int .u64 1, .int .i64 7] w2 fun e w' => e = .returned (I 0) ∧ Goes w2 g o k1 w') := by
    have := put_any H1.out.1 (k := 1) (by omega) 7
    rw [f1] at this
    exact this
  go_wp2_with fail
  refine Calls.mono HP.out ?_
  rintro r w3 ⟨rfl, hG⟩
  obtain ⟨o3, h3⟩ := Mine.turn H1.out hG
  have HG1 : Hid (Calls Try.prog 30 #[.pointer (some ⟨g, 0, none⟩), .int .u64 1] w3 fun e w' => e = .returned (.tuple #[.int .i64 7, .bool true]) ∧ w' = w3) := by
    have := get_any h3.1 1
    rw [f2] at this
    exact this
  have HS1 : Hid (Calls Try.prog 31 #[.pointer (some ⟨g, 0, none⟩), .int .u64 1] w3 fun e w' => e = .returned (.tuple #[.int .i64 4, .bool true]) ∧ w' = w3) := by
    have := slot_any h3.1 1
    rw [f2, f3] at this
    exact this
  have HG2 : Hid (Calls Try.prog 30 #[.pointer (some ⟨g, 0, none⟩), .int .u64 2] w3 fun e w' => e = .returned (.tuple #[.int .i64 0, .bool false]) ∧ w' = w3) := by
    have := get_any h3.1 2
    rw [f4] at this
    exact this
  have HL : Hid (Calls Try.prog 13 #[.pointer (some ⟨g, 0, none⟩)] w3 fun e w' => e = .returned (.int .i64 1) ∧ w' = w3) := by
    have := len_any h3.1.1
    rw [f5] at this
    exact this
  have HSl : Hid (Calls Try.prog 10 #[.pointer (some ⟨g, 0, none⟩)] w3 fun e w' => e = .returned (.int .i64 8) ∧ w' = w3) := by
    have := slots_any (n := 8) h3.1.1 h3.1.2.b (by rw [f6])
    exact this
  have HH : Hid (Calls Try.prog 11 #[.pointer (some ⟨g, 0, none⟩), .int .u64 1] w3 fun e w' => e = .returned (.int .i64 4) ∧ w' = w3) := by
    have := home_any h3.1.1 h3.1.2.b 1
    rw [f6, f7] at this
    exact this
  have H3 := show Hid _ from h3.2.1
  clear f1 f2 f3 f4 f5 f6 f7 h3 hG
  go_wp2_with fail
  refine Calls.mono HG1.out ?_
  rintro r w4 ⟨rfl, rfl⟩
  go_wp2_with fail
  refine Calls.mono HS1.out ?_
  rintro r w4 ⟨rfl, rfl⟩
  go_wp2_with fail
  refine Calls.mono HG2.out ?_
  rintro r w4 ⟨rfl, rfl⟩
  go_wp2_with fail
  refine Calls.mono HSl.out ?_
  rintro r w4 ⟨rfl, rfl⟩
  go_wp2_with fail
  refine Calls.mono HH.out ?_
  rintro r w4 ⟨rfl, rfl⟩
  go_wp2_with fail
  refine Calls.mono HL.out ?_
  rintro r w4 ⟨rfl, rfl⟩
  go_wp2
  go_ret
  exact ⟨rfl, H3.out⟩
end Go.Proofs.Ytkekmmomdhdegaa.Ii
