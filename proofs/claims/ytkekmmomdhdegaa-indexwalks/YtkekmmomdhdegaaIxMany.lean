import Derived.Test.YtkekmmomdhdegaaIxTwin
import Derived.Test.YtkekmmomdhdegaaIxOpen
namespace Go.Proofs.Ytkekmmomdhdegaa.Ii
open Go.RowKit Go.Proofs.Ytkekmmomdhdegaa.Ix

/-- a step of a script -/
def act (a : Ix El) (s : St) : Ix El := if s.k = 1 then (a.put s.key s.n).2 else if s.k = 3 then a.drop s.key else a
def acts (a : Ix El) (l : List St) : Ix El := l.foldl act a
theorem acts_more (a : Ix El) {l : List St} {i : Nat} {st : St} (h : l[i]? = some st) : acts a (l.take (i + 1)) = act (acts a (l.take i)) st := by
  rw [List.take_add_one, h]
  simp [acts]
theorem acts_past (a : Ix El) {l : List St} {i : Nat} (h : l.length ≤ i) : acts a (l.take (i + 1)) = acts a (l.take i) := by
  rw [List.take_of_length_le (by omega), List.take_of_length_le h]
theorem acts_all (a : Ix El) {l : List St} {i : Nat} (h : l.length ≤ i) : acts a (l.take i) = acts a l := by
  rw [List.take_of_length_le h]
theorem Goes.after {w w1 w' : World} {g : Nat} {o : Lo} {a : Ix El} (hb : Below w.heap.size w w1) (h : Goes w1 g o a w') : Goes w g o a w' := by
  obtain ⟨o', h1, h2, h3⟩ := h
  exact ⟨o', h1, (Fr.of_below hb).trans h2 (fun _ h => Or.inl h), fun k hk => (h3 k hk).imp id (fun h => Nat.le_trans hb.size h)⟩
set_option maxHeartbeats 1600000 in
set_option maxRecDepth 100000 in
/-- do -/
theorem do_any {w : World} {g : Nat} {o : Lo} {a : Ix El} (h : IsIx w g o a) (s : St) : Calls Try.prog 24 #[.pointer (some ⟨g, 0, none⟩), .agg #[I s.k, I s.n, U s.key]] w fun r w' => r = .returned (.tuple #[]) ∧ Goes w g o (act a s) w' := by
  have hb : Below w.heap.size w (w.alloc (.cells #[I s.k, I s.n, U s.key] 38)) := (Below.refl _ w).alloc (Nat.le_refl _) _
  have n1 := alloc_at w #[I s.k, I s.n, U s.key] 38
  have c0 : (w.alloc (.cells #[I s.k, I s.n, U s.key] 38)).cell? ⟨w.heap.size, 0, none⟩ = some (I s.k) := by simp only [World.cell?, n1]; rfl
  have c1 : (w.alloc (.cells #[I s.k, I s.n, U s.key] 38)).cell? ⟨w.heap.size, 1, none⟩ = some (I s.n) := by simp only [World.cell?, n1]; rfl
  have c2 : (w.alloc (.cells #[I s.k, I s.n, U s.key] 38)).cell? ⟨w.heap.size, 2, none⟩ = some (U s.key) := by simp only [World.cell?, n1]; rfl
  have HB := show Hid _ from hb
  have HI : Hid (IsIx (w.alloc (.cells #[I s.k, I s.n, U s.key] 38)) g o a) := h.below hb
  obtain ⟨k, n, key, lt⟩ := s
  dsimp only at *
  unfold act
  clear hb n1
  by_cases h1 : k = 1
  · subst h1
    have HP := show Hid _ from put_any HI.out lt n
    rw [if_pos rfl]
    clear h
    go_enter Try.func24, Try.ntmps24
    go_wp2_with fail
    refine Calls.mono HP.out ?_
    rintro r w2 ⟨rfl, hG⟩
    have HG := show Hid _ from Goes.after HB.out hG
    clear hG
    go_wp2
    go_end0
    exact ⟨rfl, HG.out⟩
  · have h1' : (k == 1) = false := by simp [h1]
    rw [if_neg h1]
    by_cases h3 : k = 3
    · subst h3
      have HD := show Hid _ from drop_any HI.out key
      rw [if_pos rfl]
      clear h h1
      go_enter Try.func24, Try.ntmps24
      go_wp2_with fail
      refine Calls.mono HD.out ?_
      rintro r w2 ⟨rfl, hG⟩
      have HG := show Hid _ from Goes.after HB.out hG
      clear hG
      go_wp2
      go_end0
      exact ⟨rfl, HG.out⟩
    · have h3' : (k == 3) = false := by simp [h3]
      rw [if_neg h3]
      have HGo : Hid (Goes w g o a (w.alloc (.cells #[I k, I n, U key] 38))) := h.goes HB.out
      clear h
      by_cases h2 : k = 2
      · subst h2
        have HG := show Hid _ from get_any HI.out key
        clear h1 h3
        go_enter Try.func24, Try.ntmps24
        go_wp2_with fail
        refine Calls.mono HG.out ?_
        rintro r w2 ⟨rfl, rfl⟩
        go_wp2
        go_end0
        exact ⟨rfl, HGo.out⟩
      · have h2' : (k == 2) = false := by simp [h2]
        by_cases h4 : k = 4
        · subst h4
          have HG := show Hid _ from slot_any HI.out key
          clear h1 h2 h3
          go_enter Try.func24, Try.ntmps24
          go_wp2_with fail
          refine Calls.mono HG.out ?_
          rintro r w2 ⟨rfl, rfl⟩
          go_wp2
          all_goals
            go_end0
            exact ⟨rfl, HGo.out⟩
        · have h4' : (k == 4) = false := by simp [h4]
          clear h1 h2 h3 h4
          go_enter Try.func24, Try.ntmps24
          go_wp2
          go_end0
          exact ⟨rfl, HGo.out⟩

def upf {β : Type} (f : Nat → β) (i : Nat) (x : β) : Nat → β := fun j => if j = i then x else f j
theorem upf_self {β : Type} (f : Nat → β) (i : Nat) (x : β) : upf f i x i = x := by simp [upf]
theorem upf_ne {β : Type} (f : Nat → β) {i j : Nat} (x : β) (h : j ≠ i) : upf f i x j = f j := by simp [upf, h]
/-- so many indexes, apart from one another, in memory made since w -/
def Ms (n n0 : Nat) (w W : World) (gs : Nat → Nat) (A : Nat → Ix El) : Prop := ∃ os : Nat → Lo, (∀ i, i < n → IsIx W (gs i) (os i) (A i)) ∧ (∀ i, i < n → ∀ k ∈ (os i).foot (gs i), n0 ≤ k) ∧
  (∀ i j, i < n → j < n → i ≠ j → ∀ k ∈ (os i).foot (gs i), k ∉ (os j).foot (gs j)) ∧ Below n0 w W ∧ n0 ≤ w.heap.size
section
variable {n n0 : Nat} {w W W' : World} {gs : Nat → Nat} {A : Nat → Ix El}
theorem Ms.be (h : Ms n n0 w W gs A) : Below n0 w W := by
  obtain ⟨os, _, _, _, h4, _⟩ := h
  exact h4
theorem Ms.step (h : Ms n n0 w W gs A) {i : Nat} (hi : i < n) : ∃ o, IsIx W (gs i) o (A i) ∧ ∀ a' W', Goes W (gs i) o a' W' → Ms n n0 w W' gs (upf A i a') := by
  obtain ⟨os, h1, h2, h3, h4, h5⟩ := h
  refine ⟨os i, h1 i hi, fun a' W' hG => ?_⟩
  obtain ⟨o', k1, k2, k3⟩ := hG
  have hfoot : ∀ j, j < n → ∀ k ∈ (upf os i o' j).foot (gs j), k ∈ (os j).foot (gs j) ∨ (j = i ∧ W.heap.size ≤ k) := fun j hj k hk => by
    by_cases e : j = i
    · subst e
      rw [upf_self] at hk
      exact (k3 k hk).imp id (fun h => ⟨rfl, h⟩)
    · rw [upf_ne _ _ e] at hk
      exact Or.inl hk
  refine ⟨upf os i o', fun j hj => ?_, fun j hj k hk => ?_, fun j m hj hm hjm k hk hk' => ?_, fr_below k2 h4 (h2 i hi) h5, h5⟩
  · by_cases e : j = i
    · subst e
      rw [upf_self, upf_self]
      exact k1
    · rw [upf_ne _ _ e, upf_ne _ _ e]
      exact (h1 j hj).kept k2 (fun k hk hk' => h3 j i hj hi e k hk hk')
  · rcases hfoot j hj k hk with h | ⟨_, h⟩
    · exact h2 j hj k h
    · exact Nat.le_trans h5 (Nat.le_trans h4.size h)
  · rcases hfoot j hj k hk with h | ⟨e1, h⟩
    · rcases hfoot m hm k hk' with h' | ⟨e2, h'⟩
      · exact h3 j m hj hm hjm k h h'
      · have := (h1 j hj).1.foot_lt k h
        omega
    · rcases hfoot m hm k hk' with h' | ⟨e2, h'⟩
      · have := (h1 m hm).1.foot_lt k h'
        omega
      · exact hjm (e1.trans e2.symm)
theorem Ms.add (h : Ms n n0 w W gs A) {a : Ix El} {g : Nat} (hB : Born W a g W') : Ms (n + 1) n0 w W' (upf gs n g) (upf A n a) := by
  obtain ⟨os, h1, h2, h3, h4, h5⟩ := h
  obtain ⟨o, k1, k2, k3⟩ := hB
  refine ⟨upf os n o, fun j hj => ?_, fun j hj k hk => ?_, fun j m hj hm hjm k hk hk' => ?_, h4.trans (k2.mono (Nat.le_trans h5 h4.size)), h5⟩
  · by_cases e : j = n
    · subst e
      rw [upf_self, upf_self, upf_self]
      exact k1
    · rw [upf_ne _ _ e, upf_ne _ _ e, upf_ne _ _ e]
      exact (h1 j (by omega)).below k2
  · by_cases e : j = n
    · subst e
      rw [upf_self, upf_self] at hk
      exact Nat.le_trans (Nat.le_trans h5 h4.size) (k3 k hk)
    · rw [upf_ne _ _ e, upf_ne _ _ e] at hk
      exact h2 j (by omega) k hk
  · by_cases e : j = n
    · subst e
      rw [upf_self, upf_self] at hk
      rw [upf_ne _ _ hjm.symm, upf_ne _ _ hjm.symm] at hk'
      have := (h1 m (by omega)).1.foot_lt k hk'
      have := k3 k hk
      omega
    · rw [upf_ne _ _ e, upf_ne _ _ e] at hk
      by_cases e' : m = n
      · subst e'
        rw [upf_self, upf_self] at hk'
        have := (h1 j (by omega)).1.foot_lt k hk
        have := k3 k hk'
        omega
      · rw [upf_ne _ _ e', upf_ne _ _ e'] at hk'
        exact h3 j m (by omega) (by omega) hjm k hk hk'
theorem Ms.below (h : Ms n n0 w W gs A) (hb : Below W.heap.size W W') : Ms n n0 w W' gs A := by
  obtain ⟨os, h1, h2, h3, h4, h5⟩ := h
  exact ⟨os, fun j hj => (h1 j hj).below hb, h2, h3, h4.trans (hb.mono (Nat.le_trans h5 h4.size)), h5⟩
theorem Ms.ix (h : Ms n n0 w W gs A) {i : Nat} (hi : i < n) : ∃ o, IsIx W (gs i) o (A i) := by
  obtain ⟨os, h1, _⟩ := h
  exact ⟨os i, h1 i hi⟩
theorem Ms.one {a : Ix El} {g : Nat} (h : Born w a g W) : Ms 1 w.heap.size w W (fun _ => g) (fun _ => a) := by
  obtain ⟨o, k1, k2, k3⟩ := h
  exact ⟨fun _ => o, fun _ _ => k1, fun _ _ => k3, fun i j hi hj hij => by omega, k2, Nat.le_refl _⟩
end
/-- five of them -/
def G5 {β : Type} (x0 x1 x2 x3 x4 : β) : Nat → β
  | 0 => x0
  | 1 => x1
  | 2 => x2
  | 3 => x3
  | _ => x4
theorem Ms.congr {n n0 : Nat} {w W : World} {gs gs' : Nat → Nat} {A A' : Nat → Ix El} (h : Ms n n0 w W gs A) (hg : ∀ i, i < n → gs' i = gs i) (hA : ∀ i, i < n → A' i = A i) : Ms n n0 w W gs' A' := by
  obtain ⟨os, h1, h2, h3, h4, h5⟩ := h
  refine ⟨os, fun i hi => ?_, fun i hi => ?_, fun i j hi hj hij => ?_, h4, h5⟩
  · rw [hg i hi, hA i hi]; exact h1 i hi
  · rw [hg i hi]; exact h2 i hi
  · rw [hg i hi, hg j hj]; exact h3 i j hi hj hij
end Go.Proofs.Ytkekmmomdhdegaa.Ii
