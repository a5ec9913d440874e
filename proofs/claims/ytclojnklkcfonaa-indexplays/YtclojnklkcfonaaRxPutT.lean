import Derived.Test.YtclojnklkcfonaaRxTold
import Derived.Deep.RegionHeld3
namespace Go.Proofs.Ytclojnklkcfonaa.Rx
open Go.RowKit Go.Proofs.Ytclojnklkcfonaa.Ix Go.Proofs.Ytclojnklkcfonaa.Ii

/-- the condition that is held may be turned on the way -/
theorem wpAnyH_mono {P : Program} {md : Region.Mode} {ops : Array Oper} {Q : Exit → Act → World → Prop} {S S' : World → Prop} (hSS : ∀ w, S' w → S w) : ∀ (fuel : Nat) (listed : Array Bool) (a : Act) (w : World), wpAnyH P md ops Q S' fuel listed a w → wpAnyH P md ops Q S fuel listed a w
  | 0, _, _, _, h => h
  | fuel + 1, _, _, _, h => ⟨h.1, fun i hi => wpOp_mono (fun a' w' h' => ⟨hSS _ h'.1, wpAnyH_mono hSS fuel _ a' w' h'.2⟩) (h.2 i hi)⟩
set_option maxHeartbeats 6400000 in
set_option maxRecDepth 100000 in
theorem told_put {n0 : Nat} {w W : World} {g : Nat} {q : Ro} {a : Ix Int} (h : Jn n0 w W g q a) (n : Int) {key : Nat} (hk : key < 18446744073709551616) : Calls Try.prog 15 #[.pointer (some ⟨g, 0, none⟩), .pointer (some ⟨q.r, 0, none⟩), .agg #[I 1, I n, U key]] W fun r W' => r = .returned (.bool true) ∧ Jn n0 w W' g q (a.put key n).2 := by
  obtain ⟨_, b1, n1⟩ := alloc_facts W #[I 1, I n, U key] 38
  have c0 : (W.alloc (.cells #[I 1, I n, U key] 38)).cell? ⟨W.heap.size, 0, none⟩ = some (I 1) := by simp only [World.cell?, n1]; rfl
  have c1 : (W.alloc (.cells #[I 1, I n, U key] 38)).cell? ⟨W.heap.size, 1, none⟩ = some (I n) := by simp only [World.cell?, n1]; rfl
  have c2 : (W.alloc (.cells #[I 1, I n, U key] 38)).cell? ⟨W.heap.size, 2, none⟩ = some (U key) := by simp only [World.cell?, n1]; rfl
  have HP := show Hid _ from put_held h n hk _ rfl
  have HOk : Hid (Ok a ∧ W.heap.size ∉ q.foot) := ⟨Jg.ok h, fun hm => by obtain ⟨_, _, hR, _⟩ := h; have := hR.lt _ hm; omega⟩
  have HL : Hid (∀ W3 j, Hid (Jg n0 w W3 g q (a.put key n).2 (a.put key n).2) → Calls Try.prog 13 #[.pointer (some ⟨g, 0, none⟩)] (W3.drewN j) fun r W' => r = .returned (I (a.put key n).2.count) ∧ W' = W3.drewN j) := fun W3 j hJ => by
    obtain ⟨o, ho, _⟩ := hJ.out.turn
    exact len_any (ho.1.drewN j)
  clear n1 b1 h
  go_enter Try.func15, Try.ntmps15
  go_wp2_with fail
  refine wp_region_held (S := fun w' => w'.cell? ⟨W.heap.size, 1, none⟩ = some (I n) ∧ w'.cell? ⟨W.heap.size, 2, none⟩ = some (U key)) (by kernel_rfl) ?_
  have hS : (fun w' : World => w'.cell? ⟨W.heap.size, 1, none⟩ = some (I n) ∧ w'.cell? ⟨W.heap.size, 2, none⟩ = some (U key)) (W.alloc (.cells #[I 1, I n, U key] 38)).drew := ⟨c1, c2⟩
  change wpAnyH _ _ _ _ _ _ _ _ (W.alloc (.cells #[I 1, I n, U key] 38)).drew
  refine wpAnyH_take (i := 0) (v := ?v0) rfl (by kernel_rfl) (by kernel_rfl) (by kernel_rfl) (fun _ _ _ h => h) (Or.inl ⟨by rfl, ?y0⟩) hS ?r0
  case y0 =>
    intro w hSw
    try dsimp only at hSw
    first
      | (go_simp; done)
      | (go_simp; with_reducible rfl)
  refine wpAnyH_take (i := 1) (v := ?v1) rfl (by kernel_rfl) (by kernel_rfl) (by kernel_rfl) (fun _ _ _ h => h) (Or.inl ⟨by rfl, ?y1⟩) hS ?r1
  case y1 =>
    intro w hSw
    try dsimp only at hSw
    first
      | (go_simp; done)
      | (go_simp; with_reducible rfl)
  refine wpAnyH_take (i := 2) (v := ?v2) rfl (by kernel_rfl) (by kernel_rfl) (by kernel_rfl) (fun _ _ _ h => h) (Or.inl ⟨by rfl, ?y2⟩) hS ?r2
  case y2 =>
    intro w hSw
    try dsimp only at hSw
    first
      | (go_simp; done)
      | (go_simp; with_reducible rfl)
  refine wpAnyH_take (i := 3) (v := ?v3) rfl (by kernel_rfl) (by kernel_rfl) (by kernel_rfl) (fun _ _ _ h => h) (Or.inl ⟨by rfl, ?y3⟩) hS ?r3
  case y3 =>
    intro w hSw
    try dsimp only at hSw
    first
      | (go_simp; done)
      | (go_simp; with_reducible rfl)
  refine wpAnyH_take (i := 4) (v := ?v4) rfl (by kernel_rfl) (by kernel_rfl) (by kernel_rfl) (fun _ _ _ h => h) (Or.inl ⟨by rfl, ?y4⟩) hS ?r4
  case y4 =>
    intro w hSw
    try dsimp only at hSw
    first
      | (go_simp; done)
      | (go_simp; with_reducible rfl)
  refine wpAnyH_take (i := 6) (v := ?v5) rfl (by kernel_rfl) (by kernel_rfl) (by kernel_rfl) (fun _ _ _ h => h) (Or.inl ⟨by rfl, ?y5⟩) hS ?r5
  case y5 =>
    intro w hSw
    try dsimp only at hSw
    first
      | (go_simp; done)
      | (go_simp; with_reducible rfl)
  refine wpAnyH_take (i := 7) (v := ?v6) rfl (by kernel_rfl) (by kernel_rfl) (by kernel_rfl) (fun _ _ _ h => h) (Or.inl ⟨by rfl, ?y6⟩) hS ?r6
  case y6 =>
    intro w hSw
    try dsimp only at hSw
    first
      | (go_simp; done)
      | (go_simp; with_reducible rfl)
  refine wpAnyH_take (i := 8) (v := ?v7) rfl (by kernel_rfl) (by kernel_rfl) (by kernel_rfl) (fun _ _ _ h => h) (Or.inl ⟨by rfl, ?y7⟩) hS ?r7
  case y7 =>
    intro w hSw
    try dsimp only at hSw
    first
      | (go_simp; done)
      | (go_simp; with_reducible rfl)
  refine wpAnyH_take (i := 9) (v := ?v8) rfl (by kernel_rfl) (by kernel_rfl) (by kernel_rfl) (fun _ _ _ h => h) (Or.inl ⟨by rfl, ?y8⟩) hS ?r8
  case y8 =>
    intro w hSw
    try dsimp only at hSw
    first
      | (go_simp; done)
      | (go_simp; with_reducible rfl)
  refine wpAnyH_take (i := 10) (v := ?v9) rfl (by kernel_rfl) (by kernel_rfl) (by kernel_rfl) (fun _ _ _ h => h) (Or.inl ⟨by rfl, ?y9⟩) hS ?r9
  case y9 =>
    intro w hSw
    try dsimp only at hSw
    first
      | (go_simp; done)
      | (go_simp; with_reducible rfl)
  refine wpAnyH_ready (rs := [5]) (by kernel_rfl) (by simp) ?_
  refine AllReadyH.cons rfl (fun K hK => ?_) AllReadyH.nil
  go_simp
  refine Calls.mono HP.out ?_
  rintro e w2 ⟨rfl, hJ2, e1, e2⟩
  refine hK.out _ _ ⟨e1, e2⟩ (fun hS => ?_)
  refine wpAnyH_ready (rs := [11]) (by kernel_rfl) (by simp) ?_
  refine AllReadyH.cons rfl (fun K hK => ?_) AllReadyH.nil
  go_simp
  refine Calls.mono (rput_held hJ2.out HOk.out.1 e1 e2 HOk.out.2) ?_
  rintro e w3 ⟨rfl, hJ3, e3, e4, e5⟩
  refine hK.out _ _ ⟨e3, e4⟩ (fun hS => ?_)
  refine wpAnyH_mono (S' := fun w' => w'.cell? ⟨q.r, 5, none⟩ = some (I (a.put key n).2.count) ∧ w'.cell? ⟨W.heap.size, 1, none⟩ = some (I n) ∧ w'.cell? ⟨W.heap.size, 2, none⟩ = some (U key)) (fun _ h => h.2) _ _ _ _ ?_
  clear hS
  have hS : (fun w' : World => w'.cell? ⟨q.r, 5, none⟩ = some (I (a.put key n).2.count) ∧ w'.cell? ⟨W.heap.size, 1, none⟩ = some (I n) ∧ w'.cell? ⟨W.heap.size, 2, none⟩ = some (U key)) w3 := ⟨e5, e3, e4⟩
  refine wpAnyH_take (i := 12) (v := ?v10) rfl (by kernel_rfl) (by kernel_rfl) (by kernel_rfl) (fun _ _ _ h => h) (Or.inl ⟨by rfl, ?y10⟩) hS ?r10
  case y10 =>
    intro w hSw
    try dsimp only at hSw
    first
      | (go_simp; done)
      | (go_simp; with_reducible rfl)
  refine wpAnyH_take (i := 13) (v := ?v11) rfl (by kernel_rfl) (by kernel_rfl) (by kernel_rfl) (fun _ _ _ h => h) (Or.inl ⟨by rfl, ?y11⟩) hS ?r11
  case y11 =>
    intro w hSw
    try dsimp only at hSw
    first
      | (go_simp; done)
      | (go_simp; with_reducible rfl)
  refine wpAnyH_take (i := 14) (v := ?v12) rfl (by kernel_rfl) (by kernel_rfl) (by kernel_rfl) (fun _ _ _ h => h) (Or.inl ⟨by rfl, ?y12⟩) hS ?r12
  case y12 =>
    intro w hSw
    try dsimp only at hSw
    first
      | (go_simp; done)
      | (go_simp; with_reducible rfl)
  refine wpAnyH_take (i := 16) (v := ?v13) rfl (by kernel_rfl) (by kernel_rfl) (by kernel_rfl) (fun _ _ _ h => h) (Or.inl ⟨by rfl, ?y13⟩) hS ?r13
  case y13 =>
    intro w hSw
    try dsimp only at hSw
    first
      | (go_simp; done)
      | (go_simp; with_reducible rfl)
  refine wpAnyH_take (i := 17) (v := ?v14) rfl (by kernel_rfl) (by kernel_rfl) (by kernel_rfl) (fun _ _ _ h => h) (Or.inl ⟨by rfl, ?y14⟩) hS ?r14
  case y14 =>
    intro w hSw
    try dsimp only at hSw
    first
      | (go_simp; done)
      | (go_simp; with_reducible rfl)
  refine wpAnyH_take (i := 18) (v := ?v15) rfl (by kernel_rfl) (by kernel_rfl) (by kernel_rfl) (fun _ _ _ h => h) (Or.inl ⟨by rfl, ?y15⟩) hS ?r15
  case y15 =>
    intro w hSw
    try dsimp only at hSw
    first
      | (go_simp; done)
      | (go_simp; with_reducible rfl)
  refine wpAnyH_take (i := 19) (v := ?v16) rfl (by kernel_rfl) (by kernel_rfl) (by kernel_rfl) (fun _ _ _ h => h) (Or.inl ⟨by rfl, ?y16⟩) hS ?r16
  case y16 =>
    intro w hSw
    try dsimp only at hSw
    first
      | (go_simp; done)
      | (go_simp; with_reducible rfl)
  refine wpAnyH_ready (rs := [15]) (by kernel_rfl) (by simp) ?_
  refine AllReadyH.cons rfl (fun K hK => ?_) AllReadyH.nil
  go_simp
  refine Calls.mono (HL.out _ 0 hJ3) ?_
  rintro e w4 ⟨rfl, rfl⟩
  refine hK.out _ _ ⟨e5, e3, e4⟩ (fun hS => ?_)
  refine wpAnyH_take (i := 20) (v := ?v17) rfl (by kernel_rfl) (by kernel_rfl) (by kernel_rfl) (fun _ _ _ h => h) (Or.inl ⟨by rfl, ?y17⟩) hS ?r17
  case y17 =>
    intro w hSw
    try dsimp only at hSw
    first
      | (go_simp; done)
      | (go_simp; with_reducible rfl)
  refine wpAnyH_take (i := 21) (v := ?v18) rfl (by kernel_rfl) (by kernel_rfl) (by kernel_rfl) (fun _ _ _ h => h) (Or.inl ⟨by rfl, ?y18⟩) hS ?r18
  case y18 =>
    intro w hSw
    try dsimp only at hSw
    first
      | (go_simp; done)
      | (go_simp; with_reducible rfl)
  refine wpAnyH_take (i := 22) (v := ?v19) rfl (by kernel_rfl) (by kernel_rfl) (by kernel_rfl) (fun _ _ _ h => h) (Or.inl ⟨by rfl, ?y19⟩) hS ?r19
  case y19 =>
    intro w hSw
    try dsimp only at hSw
    first
      | (go_simp; done)
      | (go_simp; with_reducible rfl)
  refine wpAnyH_done (by kernel_rfl) ?_ _
  go_wp2
  go_ret
  exact ⟨rfl, hJ3.out⟩
end Go.Proofs.Ytclojnklkcfonaa.Rx
