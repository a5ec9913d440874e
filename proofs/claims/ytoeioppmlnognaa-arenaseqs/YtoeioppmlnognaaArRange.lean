import Derived.Test.YtoeioppmlnognaaArCx
namespace Go.Proofs.Ytoeioppmlnognaa.Ar
open Go.RowKit Go.Shelf

theorem rangeH {F : Fence} {n : Nat} {P : Program} {α : Type} {g : Operand} {ps : Array Tmp} {assign body : Code} {Q : Exit → Act → World → Prop} {a : Act} {w : World}
    (hro : F.round = none) (h1 : 1 ≤ n) {gf : Nat} {lb : Array Value} (hg : a.eval g = .func (.func gf) #[] lb) (hFg : F.fn gf) (eg : ∀ args w, (callFunc gf args).run P w = .ok (.enter gf args) w)
    {encs : α → Array Value} {Kp : World → World → Prop} {S Sp : List α → Prop} {N : Nat} {w0 : World} (hseq : SeqStopsK F (n - 1) P gf lb encs Kp S Sp N w0) (hKr : ∀ W, Kp W W)
    (hKt : ∀ {A B C : World}, Kp A B → Kp B C → Kp A C) (hKb : ∀ (W : World) (l : Nat) (o o' : Obj), w.heap.size ≤ l → W.heap[l]? = some o → o.isCells = false → o.isWalk = false → Kp W (W.putObj l o')) (hb0 : Below w0.heap.size w0 w) (hps : ∀ x, (encs x).size = ps.size)
    (I : List α → World → Prop) (Ix : Code → List α → World → Prop) (hI : OwnFrom w.heap.size I) (hIx : ∀ c, OwnFrom w.heap.size (Ix c)) (h0 : I [] w)
    (H : ∃ a₁ : α → Act, (∀ (l : Nat) (x : α) (W : World) (K : Act → World → Prop), K (a₁ x) W → assign.wpIn (F.inRound l) (n - 1 - 1) P (Exit.then K (fun _ _ _ => False)) { tmps := (ps.zip (encs x)).foldl (fun t (p, v) => t.setIfInBounds p v) a.tmps, defers := [] } W) ∧
      (∀ (l : Nat) (pre : List α) (x : α) (W : World), w.heap.size ≤ l → (∃ r, W.heap[l]? = some (.loop r)) → I pre W → pre.length < N → body.wpIn (F.inRound l) (n - 1 - 1) P (ownPostG w.heap.size Kp I Ix (pre ++ [x]) W) (a₁ x) W))
    (hdone : ∀ (D : Nat) (xs : List α) (W : World), w.heap.size ≤ D → S xs → I xs W → W.heap[D]? = some (.deferred (some [])) → Q .normal { a with defers := { target := .collected D, args := #[] } :: a.defers } W)
    (hstop : ∀ (D : Nat) (c : Code) (pre : List α) (W : World), w.heap.size ≤ D → Sp pre → Ix c pre W → W.heap[D]? = some (.deferred (some [])) → c.wpIn F n P Q { a with defers := { target := .collected D, args := #[] } :: a.defers } W) :
    (Code.rangeFunc g ps assign body).wpIn F n P Q a w := by
  obtain ⟨a₁, k1, k2⟩ := H
  exact wpIn_rangeFunc_ownH hro h1 hg hFg eg hseq hKt hKb hb0 hps I Ix hI hIx h0 (fun x a' _ => a' = a₁ x) (fun _ _ _ _ _ _ hs _ _ => hs)
    (fun l pre x W K hi hK => k1 l x W K (hK _ _ (KeepsFrom.refl _ _) (hKr W) hi rfl)) (fun l pre x a' W hl hr hi e hlt => by subst e; exact k2 l pre x W hl hr hi hlt) hdone hstop
theorem rangeN {F : Fence} {n : Nat} {P : Program} {α : Type} {g : Operand} {ps : Array Tmp} {assign body : Code} {Q : Exit → Act → World → Prop} {a : Act} {w : World}
    {l₀ : Nat} {r₀ : Loop} (hro : F.round = some l₀) (hl₀ : w.heap[l₀]? = some (.loop r₀)) (h1 : 1 ≤ n) {gf : Nat} {lb : Array Value} (hg : a.eval g = .func (.func gf) #[] lb) (hFg : F.fn gf) (eg : ∀ args w, (callFunc gf args).run P w = .ok (.enter gf args) w)
    {encs : α → Array Value} {Kp : World → World → Prop} {S Sp : List α → Prop} {N : Nat} {w0 : World} (hseq : SeqStopsK F (n - 1) P gf lb encs Kp S Sp N w0) (hKr : ∀ W, Kp W W)
    (hKt : ∀ {A B C : World}, Kp A B → Kp B C → Kp A C) (hKb : ∀ (W : World) (l : Nat) (o o' : Obj), w.heap.size ≤ l → W.heap[l]? = some o → o.isCells = false → o.isWalk = false → Kp W (W.putObj l o')) (hb0 : Below w0.heap.size w0 w) (hps : ∀ x, (encs x).size = ps.size)
    (I : List α → World → Prop) (Ix : Code → List α → World → Prop) (hI : OwnFrom w.heap.size I) (hIx : ∀ c, OwnFrom w.heap.size (Ix c)) (h0 : I [] w)
    (H : ∃ a₁ : α → Act, (∀ (l : Nat) (x : α) (W : World) (K : Act → World → Prop), K (a₁ x) W → assign.wpIn (F.inRound l) (n - 1 - 1) P (Exit.then K (fun _ _ _ => False)) { tmps := (ps.zip (encs x)).foldl (fun t (p, v) => t.setIfInBounds p v) a.tmps, defers := [] } W) ∧
      (∀ (l : Nat) (pre : List α) (x : α) (W : World), I pre W → pre.length < N → body.wpIn (F.inRound l) (n - 1 - 1) P (ownPostG w.heap.size Kp I Ix (pre ++ [x]) W) (a₁ x) W))
    (hdone : ∀ (xs : List α) (W : World), S xs → I xs W → Q .normal a W)
    (hstop : ∀ (c : Code) (pre : List α) (W : World), Sp pre → Ix c pre W → c.wpIn F n P Q a W) :
    (Code.rangeFunc g ps assign body).wpIn F n P Q a w := by
  obtain ⟨a₁, k1, k2⟩ := H
  exact wpIn_rangeFunc_ownN hro hl₀ h1 hg hFg eg hseq hKt hKb hb0 hps I Ix hI hIx h0 (fun x a' _ => a' = a₁ x) (fun _ _ _ _ _ _ hs _ _ => hs)
    (fun l pre x W K hi hK => k1 l x W K (hK _ _ (KeepsFrom.refl _ _) (hKr W) hi rfl)) (fun l pre x a' W _ _ hi e hlt => by subst e; exact k2 l pre x W hi hlt) hdone hstop
theorem take_last {d ini : List (Nat × Int)} {k : Nat} {last : Nat × Int} (h : d.take k = ini ++ [last]) : d[ini.length]? = some last := by
  have h1 : (d.take k)[ini.length]? = some last := by rw [h]; simp
  rw [List.getElem?_take] at h1
  split at h1
  · exact h1
  · cases h1
/-- a round of the counter's -/
theorem Cx.Live.round {C : Cx} {n0 : Nat} {w W W4 : World} {Ds : List Nat} {kk B : Nat} (L : C.Live n0 w Ds kk W4) (F : KeepsFrom B W W4) (K : Kq C.K W W4) :
    KeepsFrom B W (W4.setCell ⟨C.b19, 0, none⟩ (.int .i64 ((kk : Int) + 2))) ∧ Kq C.q1.S W (W4.setCell ⟨C.b19, 0, none⟩ (.int .i64 ((kk : Int) + 2))) ∧ C.Live n0 w Ds (kk + 2) (W4.setCell ⟨C.b19, 0, none⟩ (.int .i64 ((kk : Int) + 2))) := by
  have h5 := L.2.2.2.1
  refine ⟨F.trans ((KeepsOthers.setCell _ _ _).from _), ⟨by have := K.1; simpa [World.setCell] using this, fun k hk => ?_⟩, L.set (kk + 2)⟩
  rw [set_other (fun e => h5 (by rw [← e]; simp [Cx.K', hk]))]
  exact K.2 k (by simp [Cx.K, Cx.K', hk])
/-- a box of one's own that counts -/
def Inn (B : Nat) (V0 : World) (k : Nat) (V : World) : Prop := (V.cell? ⟨V0.heap.size, 0, none⟩ = some (I k) ∧ V.frozen? ⟨V0.heap.size, 0, none⟩ = false) ∧ (Below V0.heap.size V0 V ∧ KeepsFrom B V0 V)
theorem keeps_own {B Bn : Nat} {V0 : World} {β : Type} (h : V0.heap.size ≤ Bn) : OwnFrom Bn (fun (_ : β) V => KeepsFrom B V0 V) := by
  intro s V V' row hs hg hr
  refine ⟨Nat.le_trans hs.size hg.size, fun i o hB hi ho => ?_⟩
  have h1 := hs.same i o hB hi ho
  rw [hg.block i (Array.getElem?_eq_some_iff.1 h1).1 (fun e => ?_)]
  · exact h1
  · have h2 := (hr i e.symm).1
    have := (Array.getElem?_eq_some_iff.1 hi).1
    omega
theorem Inn.from {B Bn : Nat} {V0 : World} (h : V0.heap.size ≤ Bn) {β : Type} (f : β → Nat) : OwnFrom Bn (fun (s : β) V => Inn B V0 (f s) V) :=
  OwnFrom.and (Own.from (fun _ _ _ _ hs hg hr => ⟨cell_kept hs.1 hg hr, (frozen_kept hs.1 hg hr).trans hs.2⟩) _) (OwnFrom.and (ownFrom_below (Nat.le_refl _) h) (keeps_own h))
theorem Inn.put {B k : Nat} {V0 V : World} (h : Inn B V0 k V) (m : Nat) : Inn B V0 m (V.setCell ⟨V0.heap.size, 0, none⟩ (I m)) :=
  ⟨⟨World.cell?_setCell_same' _ _ _ (by rw [h.1.1]; rfl), by rw [World.frozen?_setCell]; exact h.1.2⟩, h.2.1.setCell (Nat.le_refl _) _, h.2.2.trans ((KeepsOthers.setCell _ _ _).from _)⟩
theorem Inn.new (B : Nat) (V0 : World) : Inn B V0 0 (V0.alloc (.cells #[I 0] 3)) := by
  obtain ⟨_, h2, h3⟩ := alloc_facts V0 #[I 0] 3
  exact ⟨box_cell h3, h2, (KeepsOthers.alloc _ _).from _⟩
theorem Inn.round {B Bn k : Nat} {V0 V : World} {S : List Nat} (h : Inn B V0 k V) (hS : ∀ x ∈ S, x < V0.heap.size) :
    KeepsFrom Bn V (V.setCell ⟨V0.heap.size, 0, none⟩ (.int .i64 ((k : Int) + 2))) ∧ Kq S V (V.setCell ⟨V0.heap.size, 0, none⟩ (.int .i64 ((k : Int) + 2))) ∧ Inn B V0 (k + 2) (V.setCell ⟨V0.heap.size, 0, none⟩ (.int .i64 ((k : Int) + 2))) :=
  ⟨(KeepsOthers.setCell _ _ _).from _, ⟨by simp [World.setCell], fun x hx => set_other (by have := hS x hx; omega)⟩, h.put (k + 2)⟩
end Go.Proofs.Ytoeioppmlnognaa.Ar
