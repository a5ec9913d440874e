import Derived.Test.YtjcbpejplnaakaaGreatMdArf
import Derived.Test.YtjcbpejplnaakaaGreatMdTwb
import Derived.Test.YtjcbpejplnaakaaGreatMdKs
namespace Go.Proofs.YtjcbpejplnaakaaGreat.Md
open Go.RowKit Go.Maps Go.Proofs.YtjcbpejplnaakaaGreat.Nm

section
variable {w w' w0 u : World} {g o1 o2 size p : Nat} {F F1 F2 ka kb k1 k2 k3 k4 : List Nat}
theorem keys2 (h1 : Rw w w g o1 F1 ka) (h2 : Rw w w g o2 F2 kb) (hl : ka.length + kb.length ≤ 1000000000) (hb : Below w.heap.size w u) {pb : Nat} (hp0 : u.cell? ⟨pb, 0, none⟩ = some (.pointer (some ⟨g, o1, none⟩))) (hp1 : u.cell? ⟨pb, 1, none⟩ = some (.pointer (some ⟨g, o2, none⟩))) (hpb : pb < u.heap.size) : Calls Tryz.prog 66 #[.slice (some ⟨pb, 0, none⟩) 2 2] u fun e w' => ∃ v, e = .returned v ∧ w'.ownsRow w.heap.size 33 1 v (ka.length + kb.length) ((ka ++ kb).map U) ∧ Below w.heap.size w w' := by
  obtain ⟨L1, c1, m1, ns1, fr1, a1, a2, a3, rfl, a5⟩ := h1
  obtain ⟨L2, c2, m2, ns2, fr2, b1, b2, b3, rfl, b5⟩ := h2
  rw [List.length_map, List.length_map] at hl
  have two : ∀ i, i < 2 → i = 0 ∨ i = 1 := fun i hi => by omega
  have hs := hb.size
  refine (keysOf_all (N := 2) (o := fun i => if i = 0 then o1 else o2) (L := fun i => if i = 0 then L1 else L2) (c := fun i => if i = 0 then c1 else c2) (m := fun i => if i = 0 then m1 else m2) (ns := fun i => if i = 0 then ns1 else ns2) (fr := fun i => if i = 0 then fr1 else fr2) (g := g) (w := u) ?_ ?_ ?_ (by omega) (pb := pb) ?_ hpb).mono ?_
  · intro i hi
    rcases two i hi with rfl | rfl
    · exact a1.mem.below hb
    · exact b1.mem.below hb
  · intro i hi
    rcases two i hi with rfl | rfl
    · exact a2
    · exact b2
  · show 0 + ns1.length + ns2.length ≤ _
    omega
  · intro i hi
    rcases two i hi with rfl | rfl
    · exact hp0
    · exact hp1
  · rintro _ w' ⟨v, rfl, q1, q2⟩
    refine ⟨v, rfl, ?_, hb.trans (q2.mono hs)⟩
    have e1 : sumL (fun i => if i = 0 then ns1 else ns2) 2 = (ns1.map c1.key).length + (ns2.map c2.key).length := by
      show 0 + ns1.length + ns2.length = _
      rw [List.length_map, List.length_map]
      omega
    have e2 : keyL (fun i => if i = 0 then c1 else c2) (fun i => if i = 0 then ns1 else ns2) 2 = ns1.map c1.key ++ ns2.map c2.key := by
      show [] ++ ns1.map c1.key ++ ns2.map c2.key = _
      rw [List.nil_append]
    rw [e1, e2] at q1
    obtain ⟨q1, q3⟩ := q1
    refine ⟨q1, q3.imp id ?_⟩
    rintro ⟨b, cap, cur, r1, r2, r3⟩
    exact ⟨b, cap, cur, r1, Nat.le_trans hs r2, r3⟩
set_option maxHeartbeats 1600000 in
set_option maxRecDepth 100000 in
theorem Q4.keys (h : Q4 w0 w g F size p k1 k2 k3 k4) (hl : k1.length + k2.length ≤ 1000000000) : Calls Tryz.prog 118 #[.pointer (some ⟨g, 0, none⟩)] w fun e w' => ∃ v, e = .returned v ∧ w'.ownsRow w.heap.size 33 1 v (k1.length + k2.length) ((k1 ++ k2).map U) ∧ Below w.heap.size w w' := by
  obtain ⟨F1, r1, _⟩ := h.r1
  obtain ⟨F2, r2, _⟩ := h.r2
  have H : Hid (Rw w w g 2 F1 k1 ∧ Rw w w g 5 F2 k2 ∧ k1.length + k2.length ≤ 1000000000) := ⟨r1, r2, hl⟩
  clear h r1 r2 hl
  go_enter Tryz.func118, Tryz.ntmps118
  go_wp2_with fail
  go_region_with (go_at_call 66; refine (keys2 H.out.1 H.out.2.1 H.out.2.2 ((Below.refl _ w).alloc (Nat.le_refl _) _).drew (by show World.cell? (w.alloc _) _ = _; unfold World.cell?; rw [heap_alloc_new]; rfl) (by show World.cell? (w.alloc _) _ = _; unfold World.cell?; rw [heap_alloc_new]; rfl) (by show w.heap.size < (w.alloc _).heap.size; simp)).mono ?_; rintro _ w2 ⟨v, rfl, h2⟩)
  all_goals (have H2 := show Hid _ from h2)
  all_goals clear h2
  all_goals (go_wp2; go_ret; exact ⟨_, rfl, H2.out.1, H2.out.2⟩)
set_option maxHeartbeats 1600000 in
set_option maxRecDepth 100000 in
theorem Q3.keys (h : Q3 w0 w g F size k1 k2 k3) (hl : k1.length + k2.length ≤ 1000000000) : Calls Tryz.prog 91 #[.pointer (some ⟨g, 0, none⟩)] w fun e w' => ∃ v, e = .returned v ∧ w'.ownsRow w.heap.size 33 1 v (k1.length + k2.length) ((k1 ++ k2).map U) ∧ Below w.heap.size w w' := by
  obtain ⟨F1, r1, _⟩ := h.r1
  obtain ⟨F2, r2, _⟩ := h.r2
  have H : Hid (Rw w w g 1 F1 k1 ∧ Rw w w g 4 F2 k2 ∧ k1.length + k2.length ≤ 1000000000) := ⟨r1, r2, hl⟩
  clear h r1 r2 hl
  go_enter Tryz.func91, Tryz.ntmps91
  go_wp2_with fail
  go_region_with (go_at_call 66; refine (keys2 H.out.1 H.out.2.1 H.out.2.2 ((Below.refl _ w).alloc (Nat.le_refl _) _).drew (by show World.cell? (w.alloc _) _ = _; unfold World.cell?; rw [heap_alloc_new]; rfl) (by show World.cell? (w.alloc _) _ = _; unfold World.cell?; rw [heap_alloc_new]; rfl) (by show w.heap.size < (w.alloc _).heap.size; simp)).mono ?_; rintro _ w2 ⟨v, rfl, h2⟩)
  all_goals (have H2 := show Hid _ from h2)
  all_goals clear h2
  all_goals (go_wp2; go_ret; exact ⟨_, rfl, H2.out.1, H2.out.2⟩)
end
end Go.Proofs.YtjcbpejplnaakaaGreat.Md
