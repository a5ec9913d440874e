import Derived.Test.YtoeioppmlnognaaArKnown
import Derived.Test.YtoeioppmlnognaaArTwin
namespace Go.Proofs.Ytoeioppmlnognaa.Ar
open Go.RowKit

/-- so many arenas, apart from one another, in memory made since w -/
def Ms (n n0 : Nat) (w W : World) (gs : Nat → Nat) (A : Nat → As) : Prop := ∃ os : Nat → Lo, (∀ i, i < n → IsAr W (gs i) (os i) (A i)) ∧ (∀ i, i < n → ∀ k ∈ (os i).foot (gs i) (A i).nl, n0 ≤ k) ∧
  (∀ i j, i < n → j < n → i ≠ j → ∀ k ∈ (os i).foot (gs i) (A i).nl, k ∉ (os j).foot (gs j) (A j).nl) ∧ Below n0 w W ∧ n0 ≤ w.heap.size
section
variable {n n0 : Nat} {w W W' : World} {gs : Nat → Nat} {A : Nat → As}
theorem IsAr.kept {W W' : World} {g : Nat} {o : Lo} {a : As} {F : List Nat} (h : IsAr W g o a) (m : Fr F W W') (hF : ∀ k ∈ o.foot g a.nl, k ∉ F) : IsAr W' g o a := by
  obtain ⟨c, hm, hi⟩ := h
  exact ⟨c, hm.kept m hF, hi⟩
theorem IsAr.foot_lt {W : World} {g : Nat} {o : Lo} {a : As} (h : IsAr W g o a) : ∀ k ∈ o.foot g a.nl, k < W.heap.size := by
  obtain ⟨c, hm, _⟩ := h
  exact hm.foot_lt
theorem Ms.be (h : Ms n n0 w W gs A) : Below n0 w W := by
  obtain ⟨os, _, _, _, h4, _⟩ := h
  exact h4
theorem Ms.step (h : Ms n n0 w W gs A) {i : Nat} (hi : i < n) : ∃ o, IsAr W (gs i) o (A i) ∧ ∀ a' W', Goes W (gs i) o a' W' → a'.nl = (A i).nl → Ms n n0 w W' gs (up A i a') := by
  obtain ⟨os, h1, h2, h3, h4, h5⟩ := h
  refine ⟨os i, h1 i hi, fun a' W' hG hl => ?_⟩
  obtain ⟨o', k1, k2, k3⟩ := hG
  rw [hl] at k2 k3
  have hsz := k2.size
  have el : ∀ j, (up A i a' j).nl = (A j).nl := fun j => by
    unfold up
    split
    · rename_i e; rw [hl, e]
    · rfl
  have hfoot : ∀ j, j < n → ∀ k ∈ (up os i o' j).foot (gs j) (up A i a' j).nl, k ∈ (os j).foot (gs j) (A j).nl ∨ (j = i ∧ W.heap.size ≤ k) := fun j hj k hk => by
    rw [el] at hk
    by_cases e : j = i
    · subst e
      rw [up_self] at hk
      exact (k3 k hk).imp id (fun h => ⟨rfl, h⟩)
    · rw [up_ne _ _ e] at hk
      exact Or.inl hk
  refine ⟨up os i o', fun j hj => ?_, fun j hj k hk => ?_, fun j m hj hm hjm k hk hk' => ?_, k2.below h4 (h2 i hi) h5, h5⟩
  · by_cases e : j = i
    · subst e
      rw [up_self, up_self]
      exact k1
    · rw [up_ne _ _ e, up_ne _ _ e]
      exact (h1 j hj).kept k2 (fun k hk hk' => h3 j i hj hi e k hk hk')
  · rcases hfoot j hj k hk with h | ⟨_, h⟩
    · exact h2 j hj k h
    · exact Nat.le_trans h5 (Nat.le_trans h4.size h)
  · rcases hfoot j hj k hk with h | ⟨e1, h⟩
    · rcases hfoot m hm k hk' with h' | ⟨e2, h'⟩
      · exact h3 j m hj hm hjm k h h'
      · have := (h1 j hj).foot_lt k h
        omega
    · rcases hfoot m hm k hk' with h' | ⟨e2, h'⟩
      · have := (h1 m hm).foot_lt k h'
        omega
      · exact hjm (e1.trans e2.symm)
theorem Ms.add (h : Ms n n0 w W gs A) {a : As} {g : Nat} (hB : Born W a g W') : Ms (n + 1) n0 w W' (up gs n g) (up A n a) := by
  obtain ⟨os, h1, h2, h3, h4, h5⟩ := h
  obtain ⟨o, k1, k2, k3⟩ := hB
  refine ⟨up os n o, fun j hj => ?_, fun j hj k hk => ?_, fun j m hj hm hjm k hk hk' => ?_, h4.trans (k2.mono (Nat.le_trans h5 h4.size)), h5⟩
  · by_cases e : j = n
    · subst e
      rw [up_self, up_self, up_self]
      exact k1
    · rw [up_ne _ _ e, up_ne _ _ e, up_ne _ _ e]
      exact (h1 j (by omega)).below k2
  · by_cases e : j = n
    · subst e
      rw [up_self, up_self, up_self] at hk
      exact Nat.le_trans (Nat.le_trans h5 h4.size) (k3 k hk)
    · rw [up_ne _ _ e, up_ne _ _ e, up_ne _ _ e] at hk
      exact h2 j (by omega) k hk
  · by_cases e : j = n
    · subst e
      rw [up_self, up_self, up_self] at hk
      rw [up_ne _ _ hjm.symm, up_ne _ _ hjm.symm, up_ne _ _ hjm.symm] at hk'
      have := (h1 m (by omega)).foot_lt k hk'
      have := k3 k hk
      omega
    · rw [up_ne _ _ e, up_ne _ _ e, up_ne _ _ e] at hk
      by_cases e' : m = n
      · subst e'
        rw [up_self, up_self, up_self] at hk'
        have := (h1 j (by omega)).foot_lt k hk
        have := k3 k hk'
        omega
      · rw [up_ne _ _ e', up_ne _ _ e', up_ne _ _ e'] at hk'
        exact h3 j m (by omega) (by omega) hjm k hk hk'
theorem Ms.below (h : Ms n n0 w W gs A) (hb : Below W.heap.size W W') : Ms n n0 w W' gs A := by
  obtain ⟨os, h1, h2, h3, h4, h5⟩ := h
  exact ⟨os, fun j hj => (h1 j hj).below hb, h2, h3, h4.trans (hb.mono (Nat.le_trans h5 h4.size)), h5⟩
theorem Ms.ar (h : Ms n n0 w W gs A) {i : Nat} (hi : i < n) : ∃ o, IsAr W (gs i) o (A i) := by
  obtain ⟨os, h1, _⟩ := h
  exact ⟨os i, h1 i hi⟩
theorem Ms.one {a : As} {g : Nat} (h : Born w a g W) : Ms 1 w.heap.size w W (fun _ => g) (fun _ => a) := by
  obtain ⟨o, k1, k2, k3⟩ := h
  exact ⟨fun _ => o, fun _ _ => k1, fun _ _ => k3, fun i j hi hj hij => by omega, k2, Nat.le_refl _⟩
end

/-- a row of nodes that is read -/
def Rw (W : World) (v : Value) (l : List Nat) : Prop := ∃ ao c, v = .slice ao l.length c ∧ ∀ (j x : Nat), l[j]? = some x → ∃ b, ao = some ⟨b, 0, none⟩ ∧ b < W.heap.size ∧ W.cell? ⟨b, j, none⟩ = some (I x)
theorem Rw.of {W : World} {base n : Nat} {v : Value} {l : List Nat} (h : W.ownsRow base 3 1 v n (l.map fun x : Nat => I x)) (hn : n = l.length) : Rw W v l := by
  subst hn
  obtain ⟨ao, c, e⟩ := own_form h
  refine ⟨ao, c, e, fun j x hx => ?_⟩
  have hj : j < l.length := (List.getElem?_eq_some_iff.1 hx).1
  obtain ⟨b, c', cur, e1, _, hh, _⟩ := own_block h (by omega)
  rw [e] at e1
  cases e1
  refine ⟨b, rfl, (Array.getElem?_eq_some_iff.1 hh).1, ?_⟩
  subst e
  rw [h.cellAt j (by simpa using hj)]
  simp [hx]
theorem Rw.below {W W' : World} {v : Value} {l : List Nat} (h : Rw W v l) (hb : Below W.heap.size W W') : Rw W' v l := by
  obtain ⟨ao, c, e, h1⟩ := h
  refine ⟨ao, c, e, fun j x hx => ?_⟩
  obtain ⟨b, k1, k2, k3⟩ := h1 j x hx
  exact ⟨b, k1, Nat.lt_of_lt_of_le k2 hb.size, (World.cell?_of_block (a := ⟨b, j, none⟩) (hb.block b k2)).trans k3⟩

set_option maxHeartbeats 1600000 in
set_option maxRecDepth 100000 in
/-- same, of two rows that are -/
theorem same_any (W : World) (v u : Value) (l : List Nat) (hv : Rw W v l) (hu : Rw W u l) (hl : l.length ≤ 4194304) : Calls Try.prog 22 #[v, u] W fun r w' => r = .returned (.bool true) ∧ Below W.heap.size W w' := by
  have HV : Hid (Rw W v l) := hv
  have HU : Hid (Rw W u l) := hu
  obtain ⟨ao, c, rfl, _⟩ := hv
  obtain ⟨bo, d, rfl, _⟩ := hu
  have hl1 : (l.length : Int) ≤ 4194304 := by omega
  go_enter Try.func22, Try.ntmps22
  go_wp2_with fail
  go_loopg [5] l.length (fun r vi wr => ∃ k : Nat, k + r = l.length ∧ vi = I k ∧ Below W.heap.size W wr)
  case atStart => exact ⟨0, by omega, rfl, Below.refl _ _⟩
  case round =>
    obtain ⟨k, hk, rfl, hB⟩ := hrel
    have HB := show Hid _ from hB
    by_cases hlt : k < l.length
    · obtain ⟨x, hx⟩ : ∃ x, l[k]? = some x := ⟨_, List.getElem?_eq_getElem hlt⟩
      obtain ⟨_, _, e1, h1⟩ := HV.out.below hB
      obtain ⟨_, _, e2, h2⟩ := HU.out.below hB
      cases e1
      cases e2
      obtain ⟨b1, rfl, _, c1⟩ := h1 k x hx
      obtain ⟨b2, rfl, _, c2⟩ := h2 k x hx
      have hlt2 : (k : Int) < (l.length : Int) := by omega
      clear h1 h2 hB hx
      go_wp2_with fail
      go_quiet (fail)
      have HB2 := show Hid _ from HB.out.trans ((below_drewN wr nq).mono HB.out.size)
      generalize wr.drewN nq = w2 at *
      go_wp2_with fail
      go_roundg (l.length - (k + 1))
      case measure => omega
      case rel => exact ⟨k + 1, by omega, by go_num, HB2.out⟩
    · obtain rfl : k = l.length := by omega
      clear hB
      go_wp2
      go_ret
      exact ⟨rfl, HB.out⟩

/-- a row without a node -/
def wo (l : List Nat) (n : Int) : List Nat := l.filter fun x => decide ((x : Int) ≠ n)
theorem wo_len (l : List Nat) (n : Int) : (wo l n).length ≤ l.length := List.length_filter_le _ _
theorem wo_snoc (l : List Nat) (n : Int) (x : Nat) : wo (l ++ [x]) n = if (x : Int) = n then wo l n else wo l n ++ [x] := by
  unfold wo
  rw [List.filter_append]
  by_cases h : (x : Int) = n
  · simp [h]
  · simp [h]
set_option maxHeartbeats 1600000 in
set_option maxRecDepth 100000 in
/-- without -/
theorem without_any (W : World) (v : Value) (l : List Nat) (n : Int) (hv : Rw W v l) (hl : l.length ≤ 4194304) : Calls Try.prog 23 #[v, I n] W fun r w' => ∃ u, r = .returned u ∧ w'.ownsRow W.heap.size 3 1 u (wo l n).length ((wo l n).map fun x : Nat => I x) ∧ Below W.heap.size W w' := by
  have HV : Hid (Rw W v l) := hv
  obtain ⟨ao, c, rfl, _⟩ := hv
  have hl1 : (l.length : Int) ≤ 4194304 := by omega
  obtain ⟨j0, hj, hj0, hj1, hj2⟩ := info_parts info3
  have HL : Hid (l.length ≤ 4194304) := hl
  clear hl
  go_enter Try.func23, Try.ntmps23
  go_wp2_with fail
  go_loopg [5, 6] l.length (fun r vo vi wr => ∃ k : Nat, k + r = l.length ∧ vi = I k ∧ Below W.heap.size W wr ∧ wr.ownsRow W.heap.size 3 1 vo (wo (l.take k) n).length ((wo (l.take k) n).map fun x : Nat => I x))
  case atStart => exact ⟨0, by omega, rfl, Below.refl _ _, ⟨rfl, Or.inl ⟨rfl, rfl⟩⟩⟩
  case round =>
    obtain ⟨k, hk, rfl, hB, hO⟩ := hrel
    have HB := show Hid (Below W.heap.size W wr ∧ _) from And.intro hB hO
    obtain ⟨uo, uc, rfl⟩ := own_form hO
    by_cases hlt : k < l.length
    · obtain ⟨x, hx⟩ : ∃ x, l[k]? = some x := ⟨_, List.getElem?_eq_getElem hlt⟩
      obtain ⟨_, _, e1, h1⟩ := HV.out.below hB
      cases e1
      obtain ⟨b1, rfl, hb1, c1⟩ := h1 k x hx
      have hlt2 : (k : Int) < (l.length : Int) := by omega
      have HT : Hid (wo (l.take (k + 1)) n = if (x : Int) = n then wo (l.take k) n else wo (l.take k) n ++ [x]) := by
        show wo (l.take (k + 1)) n = _
        rw [← wo_snoc, List.take_add_one, hx]
        rfl
      have HWl : Hid ((wo (l.take k) n).length ≤ 4194304) := by
        have h1 := wo_len (l.take k) n
        have h2 := HL.out
        show _ ≤ _
        rw [List.length_take] at h1
        omega
      have c1' : (wr.alloc (.cells #[I x] 3)).cell? ⟨b1, k, none⟩ = some (I x) := (World.cell?_of_block (a := ⟨b1, k, none⟩) (Below.heap_alloc wr _ b1 hb1)).trans c1
      have HO2 : Hid ((wr.alloc (.cells #[I x] 3)).ownsRow W.heap.size 3 1 (.slice uo (wo (l.take k) n).length uc) (wo (l.take k) n).length ((wo (l.take k) n).map fun x : Nat => I x)) := own_below hO ((Below.refl _ wr).alloc (Nat.le_refl _) _)
      clear h1 hB hO hx
      generalize wo (l.take k) n = wk at *
      by_cases hxn : (x : Int) = n
      · have q : ((x : Int) != n) = false := by simp [hxn]
        go_wp2_with fail
        go_roundg (l.length - (k + 1))
        case measure => omega
        case rel => exact ⟨k + 1, by omega, by go_num, HB.out.1, by rw [HT.out, if_pos hxn]; exact HB.out.2⟩
      · have q : ((x : Int) != n) = true := by simp [hxn]
        go_wp2_with (at_builtin; refine wpList_append_own _ rfl _ _ 31 rfl W.heap.size 3 j0 (.int .i64 0) 1 8 Try.underlying31 hj hj0 hj1 hj2 rfl (by decide) (.slice uo wk.length uc) wk.length (wk.map fun x : Nat => I x) rfl HO2.out ⟨wr.heap.size, 0, none⟩ 1 1 [I x] rfl rfl ?c1 ?c2 ?c3 ?c4 ?c5 ?_)
        case c1 => exact cell_one wr _ _
        case c2 => intro u hu; simp only [List.mem_cons, List.not_mem_nil, or_false] at hu; subst hu; rfl
        case c3 => have := HWl.out; unfold maxLen; omega
        case c4 => have := HWl.out; omega
        case c5 => have := HB.out.1.size; simp; omega
        intro v' w2 ho hg _
        have HR : Hid (w2.ownsRow W.heap.size 3 1 v' (wk.length + 1) ((wk.map fun x : Nat => I x) ++ [I x]) ∧ Below W.heap.size W w2) := ⟨ho, (HB.out.1.alloc HB.out.1.size _).grown hg (by simp; have := HB.out.1.size; omega) (fun k e => (World.ownsRow.lt HO2.out k e).1)⟩
        obtain ⟨bo, bc, rfl⟩ := own_form ho
        clear ho hg
        go_wp2_with fail
        go_roundg (l.length - (k + 1))
        case measure => omega
        case rel => exact ⟨k + 1, by omega, by go_num, HR.out.2, by rw [HT.out, if_neg hxn]; simpa using HR.out.1⟩
    · obtain rfl : k = l.length := by omega
      rw [List.take_length] at HB hO
      have e : l.take l.length = l := List.take_length
      rw [e]
      clear hB hO
      go_wp2
      go_ret
      exact ⟨_, rfl, HB.out.2, HB.out.1⟩
end Go.Proofs.Ytoeioppmlnognaa.Ar
