import Derived.Test.YtjcbpejplnaakaaGreatMbPush
namespace Go.Proofs.YtjcbpejplnaakaaGreat.Mb
open Go.RowKit Go.Maps Go.Proofs.YtjcbpejplnaakaaGreat.Nm Go.Proofs.YtjcbpejplnaakaaGreat.Md

section
variable {w w' w0 : World} {g o : Nat} {F : List Nat} {L : Lo} {c : Rs} {hd : Nat → Bool} {m : Nat → Option Int} {k n : Nat} {ns fr : List Nat} {ps : List (Nat × Bool)}
theorem prs_app (c : Rs) (hd : Nat → Bool) (p s : List Nat) (n : Nat) : prs c hd (p ++ n :: s) = prs c hd p ++ (c.key n, hd n) :: prs c hd s := by simp [prs]
/-- what a key holds is turned -/
theorem Rw.hold {p s : List Nat} {u : World} (h1 : Mf w0 u g o F L c hd m (p ++ n :: s).length) (h2 : Inv c (p ++ n :: s) fr []) (h3 : Mp m c (p ++ n :: s)) (h5 : ∀ x ∈ prs c hd (p ++ n :: s), x.1 < 18446744073709551616) (v : Bool) :
    Rw w0 (u.setCell ⟨L.nb, n * 4 + 1, none⟩ (Value.bool (v))) g o F (prs c hd p ++ (c.key n, v) :: prs c hd s) := by
  have hnd := (List.nodup_append.1 (List.nodup_cons.1 h2.nd).2).1
  have hp : n ∉ p := fun e => (List.nodup_append.1 hnd).2.2 n e n (by simp) rfl
  have hs : n ∉ s := (List.nodup_cons.1 (List.nodup_append.1 hnd).2.1).1
  have e : prs c (upH hd n v) (p ++ n :: s) = prs c hd p ++ (c.key n, v) :: prs c hd s := by
    rw [prs_app, upH_same, prs_congr (c' := c) (hd' := upH hd n v) (ns := p) (fun i hi => ⟨rfl, upH_ne (by rintro rfl; exact hp hi)⟩), prs_congr (c' := c) (hd' := upH hd n v) (ns := s) (fun i hi => ⟨rfl, upH_ne (by rintro rfl; exact hs hi)⟩)]
  refine ⟨L, c, upH hd n v, m, p ++ n :: s, fr, h1.putHd n v, h2, h3, e.symm, fun x hx => ?_⟩
  rw [prs_app] at h5
  rcases List.mem_append.1 hx with e | e
  · exact h5 x (List.mem_append_left _ e)
  · rcases List.mem_cons.1 e with e | e
    · rw [e]; exact h5 (c.key n, hd n) (by simp)
    · exact h5 x (by simp [e])
theorem Rw.last {hv : Bool} {l : List (Nat × Bool)} (h : Rw w0 w g o F (l ++ [(k, hv)])) : Calls Tryz.prog 80 #[.pointer (some ⟨g, o, none⟩)] w fun e w' => ∃ b x d, e = .returned (.pointer (some ⟨b, x * 4, none⟩)) ∧ w' = w.drewN d ∧ w'.cell? ⟨b, x * 4, none⟩ = some (U k) ∧ w'.cell? ⟨b, x * 4 + 1, none⟩ = some (Value.bool (hv)) ∧ w'.frozen? ⟨b, x * 4 + 1, none⟩ = false ∧ ∀ v : Bool, Rw w0 (w'.setCell ⟨b, x * 4 + 1, none⟩ (Value.bool (v))) g o F (l ++ [(k, v)]) := by
  obtain ⟨L, c, hd, m, ns, fr, h1, h2, h3, h4, h5⟩ := h
  obtain ⟨p, q, rfl, rfl, h7⟩ := List.map_eq_append_iff.1 h4.symm
  obtain ⟨n, q2, rfl, h6, h8⟩ := List.map_eq_cons_iff.1 h7
  rw [List.map_eq_nil_iff] at h8
  subst h8
  cases h6
  have hlast : c.ah 0 = n := by
    rw [h2.seg.last]
    simp
  refine (last_any h1.mem h2.pos h2.ah0).mono ?_
  rw [hlast]
  rintro _ w1 ⟨rfl, d, rfl⟩
  obtain ⟨s0, sh, _, _, sf⟩ := (h1.drewN d).mem.cellsN h2.nx
  refine ⟨L.nb, n, d, rfl, rfl, s0, sh, sf _, fun v => ?_⟩
  have := Rw.hold (s := []) (h1.drewN d) h2 h3 (by intro x hx; rw [prs_app] at hx; exact h5 x hx) v
  exact this
set_option maxRecDepth 100000 in
theorem at_any {x : Nat} (h : Mem w g o L c hd m k) (hx : x < 18446744073709551616) (hm : m x = some (n : Int)) (hn : n < c.n) : Calls Tryz.prog 78 #[.pointer (some ⟨g, o, none⟩), U x] w fun e w' => e = .returned (.pointer (some ⟨L.nb, n * 4, none⟩)) ∧ ∃ d, w' = w.drewN d := by
  obtain ⟨a0, a1, _, _⟩ := h.cellsR
  have hn' : (n : Int) < (c.n : Int) := by omega
  have hl : ∀ d, (Instr.lookup 57 (.map (some L.mb)) (U x) false).run Tryz.prog (w.drewN d) = .ok (I (n : Int)) (w.drewN d) := fun d => by
    have := ((h.below (Go.Proofs.YtjcbpejplnaakaaGreat.Nm.below_drewN w d)).book.look hx)
    rw [hm] at this
    exact this
  clear h
  go_enter Tryz.func78, Tryz.ntmps78
  go_wp2_with fail
  go_quiet (fail)
  go_wp2
  go_ret
  exact ⟨rfl, _, rfl⟩
theorem Rw.at_ {hv : Bool} {l r : List (Nat × Bool)} (h : Rw w0 w g o F (l ++ (k, hv) :: r)) : Calls Tryz.prog 78 #[.pointer (some ⟨g, o, none⟩), U k] w fun e w' => ∃ b x d, e = .returned (.pointer (some ⟨b, x * 4, none⟩)) ∧ w' = w.drewN d ∧ w'.cell? ⟨b, x * 4 + 1, none⟩ = some (Value.bool (hv)) ∧ w'.frozen? ⟨b, x * 4 + 1, none⟩ = false ∧ ∀ v : Bool, Rw w0 (w'.setCell ⟨b, x * 4 + 1, none⟩ (Value.bool (v))) g o F (l ++ (k, v) :: r) := by
  obtain ⟨L, c, hd, m, ns, fr, h1, h2, h3, h4, h5⟩ := h
  obtain ⟨p, q, rfl, rfl, h7⟩ := List.map_eq_append_iff.1 h4.symm
  obtain ⟨n, q2, rfl, h6, rfl⟩ := List.map_eq_cons_iff.1 h7
  cases h6
  have hk : c.key n < 18446744073709551616 := h5 (c.key n, hd n) (by simp)
  refine (at_any h1.mem hk ((h3 _ _).2 ⟨n, by simp, rfl, rfl⟩) h2.nx).mono ?_
  rintro _ w1 ⟨rfl, d, rfl⟩
  obtain ⟨_, sh, _, _, sf⟩ := (h1.drewN d).mem.cellsN h2.nx
  exact ⟨L.nb, n, d, rfl, rfl, sh, sf _, fun v => Rw.hold (h1.drewN d) h2 h3 (by intro x hx; rw [prs_app] at hx; exact h5 x hx) v⟩
end
end Go.Proofs.YtjcbpejplnaakaaGreat.Mb
