import Derived.Test.YtkekmmomdhdegaaIxRange
import Derived.Test.YtkekmmomdhdegaaIxMany
import Derived.Test.YtkekmmomdhdegaaIxKnown
namespace Go.Proofs.Ytkekmmomdhdegaa.Ii
open Go.RowKit Go.Shelf Go.Proofs.Ytkekmmomdhdegaa.Ix

/-- an index in memory made since w, apart from so many blocks -/
def Ixx (K : List Nat) (n0 : Nat) (w W : World) (g : Nat) (a : Ix El) : Prop := ∃ o, Mine n0 w W g o a ∧ (∀ k ∈ o.foot g, k ∉ K) ∧ ∀ k ∈ K, ∃ cs T f, W.heap[k]? = some (.cells cs T f)
section
variable {K : List Nat} {n0 : Nat} {w W W' : World} {g : Nat} {a : Ix El}
theorem Ixx.lt (h : Ixx K n0 w W g a) : ∀ k ∈ K, k < W.heap.size := by
  obtain ⟨o, _, _, h3⟩ := h
  intro k hk
  obtain ⟨cs, T, f, e⟩ := h3 k hk
  exact (Array.getElem?_eq_some_iff.1 e).1
theorem Ixx.be (h : Ixx K n0 w W g a) : Below n0 w W := by
  obtain ⟨o, h1, _⟩ := h
  exact h1.2.1
theorem Ixx.base (h : Ixx K n0 w W g a) : n0 ≤ w.heap.size := by
  obtain ⟨o, h1, _⟩ := h
  exact h1.2.2.2
theorem Ixx.step (h : Ixx K n0 w W g a) : ∃ o, IsIx W g o a ∧ ∀ a' W', Goes W g o a' W' → Ixx K n0 w W' g a' ∧ Kq K W W' ∧ ∀ B, KeepsFrom B W W' := by
  have hlt := h.lt
  obtain ⟨o, h1, h2, h3⟩ := h
  refine ⟨o, h1.1, fun a' W' hG => ?_⟩
  obtain ⟨o', k1, k2, k3⟩ := hG
  have hK : Kq K W W' := ⟨k2.size, fun k hk => k2.block k (hlt k hk) (fun hm => h2 k hm hk)⟩
  refine ⟨⟨o', ⟨k1, fr_below k2 h1.2.1 h1.2.2.1 h1.2.2.2, fun k hk => ?_, h1.2.2.2⟩, fun k hk hkK => ?_, fun k hk => ?_⟩, hK, fun B => ⟨k2.size, fun i ob _ hi hc => ?_⟩⟩
  · rcases k3 k hk with e | e
    · exact h1.2.2.1 k e
    · exact Nat.le_trans h1.2.2.2 (Nat.le_trans h1.2.1.size e)
  · rcases k3 k hk with e | e
    · exact h2 k e hkK
    · have := hlt k hkK
      omega
  · rw [hK.2 k hk]
    exact h3 k hk
  · rw [k2.block i (Array.getElem?_eq_some_iff.1 hi).1 (fun hm => ?_)]
    · exact hi
    · obtain ⟨cs, T, f, e⟩ := h1.1.1.foot_blk i hm
      rw [hi] at e
      cases e
      cases hc
theorem Ixx.below (h : Ixx K n0 w W g a) (hb : Below W.heap.size W W') : Ixx K n0 w W' g a := by
  have hlt := h.lt
  obtain ⟨o, h1, h2, h3⟩ := h
  refine ⟨o, h1.below hb, h2, fun k hk => ?_⟩
  rw [hb.block k (hlt k hk)]
  exact h3 k hk
theorem Ixx.own (h : Ixx K n0 w W g a) {row : Option Nat} (hg : W.grownBy W' row) (hr : ∀ r, row = some r → n0 ≤ r ∧ ∃ ob : Obj, W.heap[r]? = some ob ∧ ob.isCells = false) : Ixx K n0 w W' g a ∧ Kq K W W' := by
  have hlt := h.lt
  obtain ⟨o, h1, h2, h3⟩ := h
  have hne : ∀ k, (∃ cs T f, W.heap[k]? = some (.cells cs T f)) → row ≠ some k := fun k ⟨cs, T, f, e⟩ er => by
    obtain ⟨_, ob, ho, hc⟩ := hr k er
    rw [e] at ho
    cases ho
    cases hc
  have hK : Kq K W W' := ⟨hg.size, fun k hk => hg.block k (hlt k hk) (fun e => hne k (h3 k hk) e.symm)⟩
  have hf : Fr row.toList W W' := ⟨hg.os, hg.tape, hg.output, hg.size, fun k hk hn => hg.block k hk (fun e => hn (by simp [← e]))⟩
  refine ⟨⟨o, ⟨h1.1.kept hf (fun k hk hm => hne k (h1.1.1.foot_blk k hk) (by simpa using hm)), h1.2.1.grown hg (Nat.le_trans h1.2.2.2 h1.2.1.size) (fun k e => (hr k e).1), h1.2.2.1, h1.2.2.2⟩, h2, fun k hk => ?_⟩, hK⟩
  rw [hK.2 k hk]
  exact h3 k hk
theorem Ixx.set (h : Ixx K n0 w W g a) {k : Nat} (hk : k ∈ K) (hn : n0 ≤ k) (i : Nat) (v : Value) : Ixx K n0 w (W.setCell ⟨k, i, none⟩ v) g a := by
  obtain ⟨o, h1, h2, h3⟩ := h
  refine ⟨o, ⟨h1.1.kept (Fr.set W i v (F := [k]) (by simp)) (fun m hm hmk => ?_), h1.2.1.setCell hn _, h1.2.2.1, h1.2.2.2⟩, h2, fun m hm => ?_⟩
  · have : m = k := by simpa using hmk
    subst this
    exact h2 m hm hk
  · by_cases e : m = k
    · subst e
      obtain ⟨cs, T, f, e⟩ := h3 m hm
      exact ⟨_, _, _, set_blk e⟩
    · rw [set_other e]
      exact h3 m hm
/-- blocks that are new -/
theorem Ixx.more (h : Ixx K n0 w W g a) (hb : Below W.heap.size W W') {S : List Nat} (hS : ∀ k ∈ S, W.heap.size ≤ k ∧ ∃ cs T f, W'.heap[k]? = some (.cells cs T f)) : Ixx (S ++ K) n0 w W' g a := by
  have hb' := h.below hb
  obtain ⟨o, h1, h2, h3⟩ := h
  have hlt := h1.1.1.foot_lt
  obtain ⟨o', h1', h2', h3'⟩ := hb'
  refine ⟨o, h1.below hb, fun k hk hm => ?_, fun k hk => ?_⟩
  · rcases List.mem_append.1 hm with hm | hm
    · have := (hS k hm).1
      have := hlt k hk
      omega
    · exact h2 k hk hm
  · rcases List.mem_append.1 hk with hm | hm
    · exact (hS k hm).2
    · exact h3' k hm
theorem Ixx.mono (h : Ixx K n0 w W g a) {K' : List Nat} (hK : ∀ k ∈ K', k ∈ K) : Ixx K' n0 w W g a := by
  obtain ⟨o, h1, h2, h3⟩ := h
  exact ⟨o, h1, fun k hk hm => h2 k hk (hK k hm), fun k hk => h3 k (hK k hk)⟩
end
theorem cells_cell {W : World} {b i : Nat} {v : Value} (h : W.cell? ⟨b, i, none⟩ = some v) : ∃ cs T f, W.heap[b]? = some (.cells cs T f) := by
  obtain ⟨o, h1, h2⟩ := cells_of_cell h
  cases o with
  | cells cs T f => exact ⟨cs, T, f, h1⟩
  | _ => cases h2
theorem take_last {d ini : List (Nat × Int)} {k : Nat} {last : Nat × Int} (h : d.take k = ini ++ [last]) : d[ini.length]? = some last := by
  have h1 : (d.take k)[ini.length]? = some last := by rw [h]; simp
  rw [List.getElem?_take] at h1
  split at h1
  · exact h1
  · cases h1
/-- a box of one's own that counts -/
def Inn (B : Nat) (V0 : World) (k : Nat) (V : World) : Prop := (V.cell? ⟨V0.heap.size, 0, none⟩ = some (I k) ∧ V.frozen? ⟨V0.heap.size, 0, none⟩ = false) ∧ (Below V0.heap.size V0 V ∧ KeepsFrom B V0 V)
theorem keeps_own {B Bn : Nat} {V0 : World} {β : Type} (h : V0.heap.size ≤ Bn) : OwnFrom Bn (fun (_ : β) V => KeepsFrom B V0 V) := by
  intro s V V' row hs hg hr
  refine ⟨Nat.le_trans hs.size hg.size, fun i o hB hi ho => ?_⟩
  have h1 := hs.same i o hB hi ho
  rw [hg.block i (Array.getElem?_eq_some_iff.1 h1).1 (fun e => ?_)]
  · exact h1
  · have h2 := (hr i e.symm).1
    have := (Array.getElem?_eq_some_iff.1 hi).1
    omega
theorem Inn.from {B Bn : Nat} {V0 : World} (h : V0.heap.size ≤ Bn) {β : Type} (f : β → Nat) : OwnFrom Bn (fun (s : β) V => Inn B V0 (f s) V) :=
  OwnFrom.and (Own.from (fun _ _ _ _ hs hg hr => ⟨cell_kept hs.1 hg hr, (frozen_kept hs.1 hg hr).trans hs.2⟩) _) (OwnFrom.and (ownFrom_below (Nat.le_refl _) h) (keeps_own h))
theorem Inn.put {B k : Nat} {V0 V : World} (h : Inn B V0 k V) (m : Nat) : Inn B V0 m (V.setCell ⟨V0.heap.size, 0, none⟩ (I m)) :=
  ⟨⟨World.cell?_setCell_same' _ _ _ (by rw [h.1.1]; rfl), by rw [World.frozen?_setCell]; exact h.1.2⟩, h.2.1.setCell (Nat.le_refl _) _, h.2.2.trans ((KeepsOthers.setCell _ _ _).from _)⟩
theorem Inn.new (B : Nat) (V0 : World) : Inn B V0 0 (V0.alloc (.cells #[I 0] 3)) := by
  obtain ⟨_, h2, h3⟩ := alloc_facts V0 #[I 0] 3
  exact ⟨box_cell h3, h2, (KeepsOthers.alloc _ _).from _⟩
theorem Inn.round {B Bn k : Nat} {V0 V : World} {S : List Nat} (h : Inn B V0 k V) (hS : ∀ x ∈ S, x < V0.heap.size) :
    KeepsFrom Bn V (V.setCell ⟨V0.heap.size, 0, none⟩ (.int .i64 ((k : Int) + 1))) ∧ Kq S V (V.setCell ⟨V0.heap.size, 0, none⟩ (.int .i64 ((k : Int) + 1))) ∧ Inn B V0 (k + 1) (V.setCell ⟨V0.heap.size, 0, none⟩ (.int .i64 ((k : Int) + 1))) :=
  ⟨(KeepsOthers.setCell _ _ _).from _, ⟨by simp [World.setCell], fun x hx => set_other (by have := hS x hx; omega)⟩, h.put (k + 1)⟩
end Go.Proofs.Ytkekmmomdhdegaa.Ii
