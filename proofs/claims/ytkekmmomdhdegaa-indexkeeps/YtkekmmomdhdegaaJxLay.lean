import Derived.Test.YtkekmmomdhdegaaIxMem
namespace Go.Proofs.Ytkekmmomdhdegaa.Ij
open Go.RowKit Go.Proofs.Ytkekmmomdhdegaa.Ix

abbrev El := Option Addr × Nat × Nat
abbrev ev (x : El) : Value := .slice x.1 x.2.1 x.2.2
abbrev ez : El := (none, 0, 0)
abbrev zv : Value := .slice none 0 0

/-- where an index lies -/
structure Lo where
  pb : Nat
  np : Nat
  pc : Nat
  ps : Nat → Option Nat
def ptr : Option Nat → Value
  | none => .pointer none
  | some p => .pointer (some ⟨p, 0, none⟩)
def Lo.pv (o : Lo) : Value := if o.np = 0 then .slice none 0 0 else .slice (some ⟨o.pb, 0, none⟩) o.np o.pc
/-- what lies in a place's memory -/
def Slt (cs : Array Value) (j : Nat) (x : Option (Nat × El)) : Prop := ∃ (k : Nat) (v : El) (b : Bool), cs[j * 3]? = some (U k) ∧ cs[j * 3 + 1]? = some (ev v) ∧ cs[j * 3 + 2]? = some (.bool b) ∧ x = if b then some (k, v) else none
abbrev xblk (o : Lo) (b most count : Nat) : Array Value := #[o.pv, I most, I count, I b]

/-- an index in memory -/
structure Mem (w : World) (g : Nat) (o : Lo) (b most count : Nat) (t : Tb El) : Prop where
  blk : w.heap[g]? = some (.cells (xblk o b most count) 85 (0, 0))
  np : o.np = 0 ∨ o.np = (2 * 2 ^ b + 31) / 32
  pg : 0 < o.np → ∃ cs, w.heap[o.pb]? = some (.cells cs 113 (0, 0)) ∧ ∀ k, k < o.np → cs[k]? = some (ptr (o.ps k))
  pp : ∀ k p, o.ps k = some p → k < o.np ∧ ∃ cs, w.heap[p]? = some (.cells cs 115 (0, 0)) ∧ cs.size = 96 ∧ ∀ j, j < 32 → Slt cs j (t (k * 32 + j))
  inj : ∀ k k' p, o.ps k = some p → o.ps k' = some p → k = k'
  no : ∀ k, o.ps k = none → ∀ j, j < 32 → t (k * 32 + j) = none

/-- its blocks -/
def Lo.foot (o : Lo) (g : Nat) : List Nat := g :: ((if 0 < o.np then [o.pb] else []) ++ (List.range o.np).filterMap o.ps)
theorem Lo.mem_foot {o : Lo} {g x : Nat} : x ∈ o.foot g ↔ x = g ∨ (0 < o.np ∧ x = o.pb) ∨ ∃ k, k < o.np ∧ o.ps k = some x := by
  unfold Lo.foot
  simp only [List.mem_cons, List.mem_append, List.mem_filterMap, List.mem_range]
  constructor
  · rintro (h | h | h)
    · exact Or.inl h
    · split at h
      · rename_i h0; exact Or.inr (Or.inl ⟨h0, by simpa using h⟩)
      · cases h
    · exact Or.inr (Or.inr h)
  · rintro (h | ⟨h0, h⟩ | h)
    · exact Or.inl h
    · exact Or.inr (Or.inl (by simp [h0, h]))
    · exact Or.inr (Or.inr h)

section
variable {w w' : World} {g : Nat} {o : Lo} {b most count : Nat} {t : Tb El}
theorem Mem.g_lt (h : Mem w g o b most count t) : g < w.heap.size := (Array.getElem?_eq_some_iff.1 h.blk).1
theorem Mem.foot_blk (h : Mem w g o b most count t) : ∀ k ∈ o.foot g, ∃ cs T f, w.heap[k]? = some (.cells cs T f) := by
  intro k hk
  rcases Lo.mem_foot.1 hk with rfl | ⟨h0, rfl⟩ | ⟨i, _, hi⟩
  · exact ⟨_, _, _, h.blk⟩
  · obtain ⟨cs, h1, _⟩ := h.pg h0
    exact ⟨_, _, _, h1⟩
  · obtain ⟨_, cs, h1, _⟩ := h.pp i k hi
    exact ⟨_, _, _, h1⟩
theorem Mem.foot_lt (h : Mem w g o b most count t) : ∀ k ∈ o.foot g, k < w.heap.size := by
  intro k hk
  obtain ⟨_, _, _, h1⟩ := h.foot_blk k hk
  exact (Array.getElem?_eq_some_iff.1 h1).1
theorem Mem.kept {F : List Nat} (h : Mem w g o b most count t) (m : Fr F w w') (hF : ∀ k ∈ o.foot g, k ∉ F) : Mem w' g o b most count t := by
  have hin := h.foot_lt
  have hb : ∀ k ∈ o.foot g, w'.heap[k]? = w.heap[k]? := fun k hk => m.block k (hin k hk) (hF k hk)
  refine ⟨(hb g (by simp [Lo.foot])).trans h.blk, h.np, fun h0 => ?_, fun k p hk => ?_, h.inj, h.no⟩
  · obtain ⟨cs, h1, h2⟩ := h.pg h0
    exact ⟨cs, (hb o.pb (by simp [Lo.foot, h0])).trans h1, h2⟩
  · obtain ⟨hk0, cs, h1, h2⟩ := h.pp k p hk
    exact ⟨hk0, cs, (hb p (Lo.mem_foot.2 (Or.inr (Or.inr ⟨k, hk0, hk⟩)))).trans h1, h2⟩
theorem Mem.below (h : Mem w g o b most count t) (hb : Below w.heap.size w w') : Mem w' g o b most count t :=
  h.kept (F := []) (Fr.of_below hb) (fun _ _ => by simp)
theorem Mem.drewN (h : Mem w g o b most count t) (n : Nat) : Mem (w.drewN n) g o b most count t := h.below (bel_drewN w n)
theorem Mem.cellsX (h : Mem w g o b most count t) : w.cell? ⟨g, 0, none⟩ = some o.pv ∧ w.cell? ⟨g, 1, none⟩ = some (I most) ∧ w.cell? ⟨g, 2, none⟩ = some (I count) ∧ w.cell? ⟨g, 3, none⟩ = some (I b) ∧ ∀ j, w.frozen? ⟨g, j, none⟩ = false :=
  ⟨by simp [World.cell?, h.blk], by simp [World.cell?, h.blk], by simp [World.cell?, h.blk], by simp [World.cell?, h.blk], fun j => by simp [World.frozen?, h.blk]⟩
/-- the number of keys is written -/
theorem Mem.putC (h : Mem w g o b most count t) (c : Nat) : Mem (w.setCell ⟨g, 2, none⟩ (I c)) g o b most c t := by
  refine ⟨by rw [set_blk h.blk]; rfl, h.np, fun h0 => ?_, fun k p hk => ?_, h.inj, h.no⟩
  · obtain ⟨cs, h1, h2⟩ := h.pg h0
    exact ⟨cs, by rw [set_other (ne_of_type h1 h.blk (by decide))]; exact h1, h2⟩
  · obtain ⟨hk0, cs, h1, h2⟩ := h.pp k p hk
    exact ⟨hk0, cs, by rw [set_other (ne_of_type h1 h.blk (by decide))]; exact h1, h2⟩
/-- the memory of a place is written -/
theorem Mem.putS (h : Mem w g o b most count t) {x p : Nat} (hp : o.ps (x / 32) = some p) {w' : World} {cs cs' : Array Value} (hc : w.heap[p]? = some (.cells cs 115 (0, 0))) (hw : w'.heap[p]? = some (.cells cs' 115 (0, 0))) (hf : Fr [p] w w') (hs : cs'.size = cs.size) (he : ∀ j, j / 3 ≠ x % 32 → cs'[j]? = cs[j]?) (v : Option (Nat × El)) (hv : Slt cs' (x % 32) v) : Mem w' g o b most count (up t x v) := by
  have ho : ∀ k, k < w.heap.size → k ≠ p → w'.heap[k]? = w.heap[k]? := fun k hk hn => hf.block k hk (by simpa using hn)
  refine ⟨by rw [ho g h.g_lt (ne_of_type h.blk hc (by decide))]; exact h.blk, h.np, fun h0 => ?_, fun k q hk => ?_, h.inj, fun k hk j hj => ?_⟩
  · obtain ⟨cs, h1, h2⟩ := h.pg h0
    exact ⟨cs, by rw [ho _ ((Array.getElem?_eq_some_iff.1 h1).1) (ne_of_type h1 hc (by decide))]; exact h1, h2⟩
  · obtain ⟨hk0, cq, h1, h2, h3⟩ := h.pp k q hk
    by_cases hq : q = p
    · subst hq
      have hkx := h.inj _ _ _ hk hp
      rw [hc] at h1
      cases h1
      refine ⟨hk0, cs', hw, hs.trans h2, fun j hj => ?_⟩
      by_cases hjx : j = x % 32
      · subst hjx
        rw [show k * 32 + x % 32 = x by omega, up_at]
        exact hv
      · rw [up_ne (by omega)]
        obtain ⟨k', v', b', s1, s2, s3, s4⟩ := h3 j hj
        exact ⟨k', v', b', by rw [he _ (by omega)]; exact s1, by rw [he _ (by omega)]; exact s2, by rw [he _ (by omega)]; exact s3, s4⟩
    · refine ⟨hk0, cq, by rw [ho q ((Array.getElem?_eq_some_iff.1 h1).1) hq]; exact h1, h2, fun j hj => ?_⟩
      have : k ≠ x / 32 := by rintro rfl; rw [hp] at hk; cases hk; exact hq rfl
      rw [up_ne (by omega)]
      exact h3 j hj
  · have : k ≠ x / 32 := by rintro rfl; rw [hp] at hk; cases hk
    rw [up_ne (by omega)]
    exact h.no k hk j hj
/-- a place's memory, where there is some -/
theorem Mem.slot (h : Mem w g o b most count t) {x p : Nat} (hp : o.ps (x / 32) = some p) : ∃ (k : Nat) (v : El) (b : Bool), w.cell? ⟨p, x % 32 * 3, none⟩ = some (U k) ∧ w.cell? ⟨p, x % 32 * 3 + 1, none⟩ = some (ev v) ∧ w.cell? ⟨p, x % 32 * 3 + 2, none⟩ = some (.bool b) ∧ (t x = if b then some (k, v) else none) ∧ ∀ j, w.frozen? ⟨p, j, none⟩ = false := by
  obtain ⟨_, cs, h1, h2, h3⟩ := h.pp _ _ hp
  obtain ⟨k, v, b, s1, s2, s3, s4⟩ := h3 (x % 32) (by omega)
  rw [show x / 32 * 32 + x % 32 = x by omega] at s4
  exact ⟨k, v, b, by simp [World.cell?, h1, s1], by simp [World.cell?, h1, s2], by simp [World.cell?, h1, s3], s4, fun j => by simp [World.frozen?, h1]⟩
/-- what lies at a place -/
theorem Mem.taken (h : Mem w g o b most count t) {x : Nat} {e : Nat × El} (he : t x = some e) : ∃ p, o.ps (x / 32) = some p ∧ w.cell? ⟨p, x % 32 * 3, none⟩ = some (U e.1) ∧ w.cell? ⟨p, x % 32 * 3 + 1, none⟩ = some (ev e.2) ∧ w.cell? ⟨p, x % 32 * 3 + 2, none⟩ = some (.bool true) ∧ ∀ j, w.frozen? ⟨p, j, none⟩ = false := by
  cases hp : o.ps (x / 32) with
  | none =>
    have := h.no _ hp (x % 32) (by omega)
    rw [show x / 32 * 32 + x % 32 = x by omega, he] at this
    cases this
  | some p =>
    obtain ⟨k, v, b, s1, s2, s3, s4, s5⟩ := h.slot hp
    cases b with
    | false => rw [he] at s4; cases s4
    | true =>
      rw [he] at s4
      cases s4
      exact ⟨p, rfl, s1, s2, s3, s5⟩
/-- the pages' slice -/
theorem Mem.page (h : Mem w g o b most count t) {k : Nat} (hk : k < o.np) : o.pv = .slice (some ⟨o.pb, 0, none⟩) o.np o.pc ∧ w.cell? ⟨o.pb, k, none⟩ = some (ptr (o.ps k)) ∧ ∀ j, w.frozen? ⟨o.pb, j, none⟩ = false := by
  obtain ⟨cs, h1, h2⟩ := h.pg (by omega)
  refine ⟨by unfold Lo.pv; rw [if_neg (by omega)], ?_, fun j => by simp [World.frozen?, h1]⟩
  simp [World.cell?, h1, h2 k hk]
end
theorem Lo.pv_nil {o : Lo} (h : o.np = 0) : o.pv = .slice none 0 0 := by unfold Lo.pv; rw [if_pos h]

def IsIx (w : World) (g : Nat) (o : Lo) (a : Ix El) : Prop := Mem w g o a.b a.most a.count a.t ∧ Ok a
/-- what a call leaves -/
def Goes (w : World) (g : Nat) (o : Lo) (a' : Ix El) (w' : World) : Prop := ∃ o', IsIx w' g o' a' ∧ Fr (o.foot g) w w' ∧ ∀ k ∈ o'.foot g, k ∈ o.foot g ∨ w.heap.size ≤ k
theorem IsIx.below {w w' : World} {g : Nat} {o : Lo} {a : Ix El} (h : IsIx w g o a) (hb : Below w.heap.size w w') : IsIx w' g o a := ⟨h.1.below hb, h.2⟩
theorem IsIx.kept {w w' : World} {g : Nat} {o : Lo} {a : Ix El} {F : List Nat} (h : IsIx w g o a) (m : Fr F w w') (hF : ∀ k ∈ o.foot g, k ∉ F) : IsIx w' g o a := ⟨h.1.kept m hF, h.2⟩
theorem IsIx.goes {w w' : World} {g : Nat} {o : Lo} {a : Ix El} (h : IsIx w g o a) (hb : Below w.heap.size w w') : Goes w g o a w' := ⟨o, h.below hb, Fr.of_below hb, fun _ h => Or.inl h⟩
end Go.Proofs.Ytkekmmomdhdegaa.Ij
