import Derived.Test.YtkekmmomdhdegaaJxKp
import Derived.Sort.CutIn
import Derived.Stop.RegionWithIn
import Derived.Laws.EntriesVeiled
namespace Go.Proofs.Ytkekmmomdhdegaa.Ij
open Go.RowKit Go.Proofs.Ytkekmmomdhdegaa.Ix Go.Maps Go.Shelf

theorem infob : (Try.prog.info? 4).map (fun i => (i.zero, i.size, i.bytes)) = some (some (.bool false), 1, 1) := by kernel_rfl
theorem mk_bools (n : Nat) (hn : n ≤ 8388608) : ∃ M : Array Value, (∀ u : World, (Instr.makeSlice 29 (.int .i64 (n : Int)) (.int .i64 (n : Int))).run Try.prog u = .ok (.slice (some ⟨u.heap.size, 0, none⟩) n n) (u.alloc (.cells M 4))) ∧ ∀ j, j < n → M[j]? = some (.bool false) := by
  obtain ⟨i0, hi, hz0, hz1, hz2⟩ := info_parts infob
  refine ⟨madeCells (Value.bool false).cells (n * 1), fun u => ?_, fun j hj => ?_⟩
  · have h := run_make (P := Try.prog) u 29 4 i0 (.bool false) Try.underlying29 hi hz0 .i64 .i64 (n : Int) (n : Int) (by omega) (Int.le_refl _) (by rw [hz2]; omega) (by omega)
    have e : (n : Int).toNat = n := by omega
    rw [e, hz1] at h
    exact h
  · have e1 : (Value.bool false).cells = #[.bool false] := rfl
    rw [e1]
    simp [madeCells, hj, Nat.mod_one]
abbrev Mem' (d : List (Nat × El)) := {x : Nat × El // x ∈ d}
/-- the places of those that came -/
def Tkn (a : Ix El) {d : List (Nat × El)} (pre : List (Mem' d)) (p : Nat) : Bool := pre.any fun x => decide (a.find x.1.1 = p)
def lastK {d : List (Nat × El)} (pre : List (Mem' d)) : Nat := (pre.getLast?.map (·.1.1)).getD 0
theorem Tkn_snoc (a : Ix El) {d : List (Nat × El)} (pre : List (Mem' d)) (x : Mem' d) (p : Nat) : Tkn a (pre ++ [x]) p = (Tkn a pre p || decide (a.find x.1.1 = p)) := by simp [Tkn]
theorem lastK_snoc {d : List (Nat × El)} (pre : List (Mem' d)) (x : Mem' d) : lastK (pre ++ [x]) = x.1.1 := by simp [lastK]
/-- what the first range keeps -/
structure Li (w9 : World) (n tb b7 b8 : Nat) (f : Nat → Bool) (c l : Nat) (W : World) : Prop where
  fr : Fr [tb, b7, b8] w9 W
  tk : ∃ cs, W.heap[tb]? = some (.cells cs 4 (0, 0)) ∧ ∀ p, p < n → cs[p]? = some (.bool (f p))
  ct : W.heap[b7]? = some (.cells #[I c] 3 (0, 0))
  la : W.heap[b8]? = some (.cells #[U l] 22 (0, 0))
section
variable {w9 W : World} {n tb b7 b8 : Nat} {f : Nat → Bool} {c l : Nat}
theorem Li.cells (h : Li w9 n tb b7 b8 f c l W) : (∀ p, p < n → W.cell? ⟨tb, p, none⟩ = some (.bool (f p))) ∧ (∀ i, W.frozen? ⟨tb, i, none⟩ = false) ∧ W.cell? ⟨b7, 0, none⟩ = some (I c) ∧ W.frozen? ⟨b7, 0, none⟩ = false ∧ W.cell? ⟨b8, 0, none⟩ = some (U l) ∧ W.frozen? ⟨b8, 0, none⟩ = false := by
  obtain ⟨cs, h1, h2⟩ := h.tk
  exact ⟨fun p hp => by simp [World.cell?, h1, h2 p hp], fun i => by simp [World.frozen?, h1], (box_cell h.ct).1, (box_cell h.ct).2, (box_cell h.la).1, (box_cell h.la).2⟩
theorem Li.ne (h : Li w9 n tb b7 b8 f c l W) : tb ≠ b7 ∧ tb ≠ b8 ∧ b7 ≠ b8 := by
  obtain ⟨cs, h1, _⟩ := h.tk
  exact ⟨ne_of_type h1 h.ct (by decide), ne_of_type h1 h.la (by decide), ne_of_type h.ct h.la (by decide)⟩
theorem Li.put (h : Li w9 n tb b7 b8 f c l W) {p : Nat} (hp : p < n) (k : Nat) {f' : Nat → Bool} (hf : ∀ q, f' q = (f q || decide (p = q))) :
    Li w9 n tb b7 b8 f' (c + 1) k (((W.setCell ⟨tb, p, none⟩ (.bool true)).setCell ⟨b8, 0, none⟩ (U k)).setCell ⟨b7, 0, none⟩ (I ((c : Int) + 1))) := by
  obtain ⟨n1, n2, n3⟩ := h.ne
  obtain ⟨cs, h1, h2⟩ := h.tk
  refine ⟨((h.fr.trans (Fr.set (F := [tb, b7, b8]) _ _ _ (by simp)) (fun _ hx => Or.inl hx)).trans (Fr.set (F := [tb, b7, b8]) _ _ _ (by simp)) (fun _ hx => Or.inl hx)).trans (Fr.set (F := [tb, b7, b8]) _ _ _ (by simp)) (fun _ hx => Or.inl hx), ⟨cs.setIfInBounds p (.bool true), ?_, fun q hq => ?_⟩, ?_, ?_⟩
  · rw [set_other n1, set_other n2, set_blk h1]
  · rw [hf, Array.getElem?_setIfInBounds]
    by_cases e : p = q
    · subst e
      have := (Array.getElem?_eq_some_iff.1 (h2 p hp)).1
      simp [this]
    · rw [if_neg e, h2 q hq]
      simp [e]
  · rw [set_blk (by rw [set_other n3, set_other (Ne.symm n1)]; exact h.ct)]
    rfl
  · rw [set_other (Ne.symm n3), set_blk (by rw [set_other (Ne.symm n2)]; exact h.la)]
    rfl
end
theorem Li.from {w9 : World} {n tb b7 b8 B : Nat} {β : Type} (f : β → Nat → Bool) (c l : β → Nat) (hB : w9.heap.size ≤ B) : OwnFrom B (fun (s : β) W => Li w9 n tb b7 b8 (f s) (c s) (l s) W) := fun s A C row hs hg hr => by
  have hne : ∀ k cs T ff, A.heap[k]? = some (.cells cs T ff) → some k ≠ row := fun k cs T ff hk e => by
    obtain ⟨_, ob, h1, h2⟩ := hr k e.symm
    rw [hk] at h1
    cases h1
    cases h2
  have hlt : ∀ {k : Nat} {ob : Obj}, A.heap[k]? = some ob → k < A.heap.size := fun h => (Array.getElem?_eq_some_iff.1 h).1
  obtain ⟨cs, h1, h2⟩ := hs.tk
  exact ⟨⟨hg.os.trans hs.fr.os, hg.tape.trans hs.fr.tape, hg.output.trans hs.fr.output, Nat.le_trans hs.fr.size hg.size, fun k hk hn => (hg.block k (Nat.lt_of_lt_of_le hk hs.fr.size) (fun e => by have := (hr k e.symm).1; omega)).trans (hs.fr.block k hk hn)⟩, ⟨cs, (hg.block tb (hlt h1) (hne _ _ _ _ h1)).trans h1, h2⟩, (hg.block b7 (hlt hs.ct) (hne _ _ _ _ hs.ct)).trans hs.ct, (hg.block b8 (hlt hs.la) (hne _ _ _ _ hs.la)).trans hs.la⟩
/-- those that came are in order -/
def Ord {d : List (Nat × El)} (pre : List (Mem' d)) : Prop := (pre.map (·.1)).Pairwise fun x y => x.1 < y.1
theorem Ord.last {d : List (Nat × El)} {pre : List (Mem' d)} {x : Mem' d} (h : Ord (pre ++ [x])) (h0 : 0 < pre.length) : lastK pre < x.1.1 := by
  unfold Ord at h
  rw [List.map_append, List.pairwise_append] at h
  unfold lastK
  cases hl : pre.getLast? with
  | none =>
    rw [List.getLast?_eq_none_iff] at hl
    rw [hl] at h0
    simp at h0
  | some y =>
    have := h.2.2 y.1 (List.mem_map.2 ⟨y, List.mem_of_getLast? hl, rfl⟩) x.1 (by simp)
    simpa using this
theorem Ord.tk {a : Ix El} (ha : Ok a) {d : List (Nat × El)} (hd : ∀ x ∈ d, a.get x.1 = some x.2) {pre : List (Mem' d)} {x : Mem' d} (h : Ord (pre ++ [x])) : Tkn a pre (a.find x.1.1) = false := by
  unfold Ord at h
  rw [List.map_append, List.pairwise_append] at h
  unfold Tkn
  rw [List.any_eq_false]
  intro y hy
  have h1 := h.2.2 y.1 (List.mem_map.2 ⟨y, hy, rfl⟩) x.1 (by simp)
  have h2 := ha.at_some (hd y.1 y.2)
  have h3 := ha.at_some (hd x.1 x.2)
  simp only [decide_eq_true_eq]
  intro e
  rw [e, h3] at h2
  have h4 := (Prod.mk.inj (Option.some.inj h2)).1
  omega
/-- between a key's home and its place no place is empty -/
theorem between {a : Ix El} (ha : Ok a) {d : List (Nat × El)} (hd : ∀ x, x ∈ d ↔ a.get x.1 = some x.2) {ys : List (Mem' d)} (hy : ys.map (·.1) = d) {k j : Nat} (hj : j < fi a.t a.n (hm a.b k) k) : Tkn a ys (pl a.n (hm a.b k) j) = true := by
  have h1 := fi_before hj
  unfold stp at h1
  split at h1
  · cases h1
  · rename_i e he
    have hf := ha.find_of he
    have hg : a.get e.1 = some e.2 := by
      unfold Ix.get
      rw [hf, he]
      rfl
    have hm' : e ∈ d := (hd e).2 hg
    unfold Tkn
    rw [List.any_eq_true]
    rw [← hy] at hm'
    obtain ⟨y, hy1, hy2⟩ := List.mem_map.1 hm'
    exact ⟨y, hy1, by rw [hy2]; simpa using hf⟩
end Go.Proofs.Ytkekmmomdhdegaa.Ij
