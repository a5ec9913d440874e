import Derived.Test.YtjcbpejplnaakaaGreatMdTwc
import Derived.Test.YtjcbpejplnaakaaGreatMiHeld
import Derived.Test.YtjcbpejplnaakaaGreatMiKeys
namespace Go.Proofs.YtjcbpejplnaakaaGreat
open Go.RowKit Go.Maps Go.Proofs.YtjcbpejplnaakaaGreat.Nm Go.Proofs.YtjcbpejplnaakaaGreat.Md

section
variable {w w' : World} {g o : Nat} {F : List Nat}
/-- a row stays where its blocks and its cells stay -/
theorem Md.Rw.sta {ks : List Nat} (h : Md.Rw w w g o F ks) (hx : ∀ x ∈ F, x ≠ g → w'.heap[x]? = w.heap[x]?) (hg : ∃ cs T, w'.heap[g]? = some (.cells cs T (0, 0))) (hc : ∀ j, j < 3 → w'.cell? ⟨g, o + j, none⟩ = w.cell? ⟨g, o + j, none⟩) : Md.Rw w' w' g o F ks := by
  obtain ⟨L, c, m, ns, fr, h1, h2⟩ := h
  have hft : ∀ x ∈ foot g L, x ∈ F := fun x hx => (h1.inF x hx).elim id (fun e => absurd (h1.mem.lt x hx) (by omega))
  obtain ⟨cs, T, q1, q2, q3, q4⟩ := h1.mem.row
  obtain ⟨cs', T', p1⟩ := hg
  obtain ⟨cs2, q5, q6⟩ := h1.mem.nds
  have hnb : w'.heap[L.nb]? = w.heap[L.nb]? := hx _ (hft _ (by simp [foot])) h1.mem.ne.symm
  have hmb : w'.heap[L.mb]? = w.heap[L.mb]? := hx _ (hft _ (by simp [foot])) h1.mem.gm.symm
  have hcell : ∀ j, j < 3 → cs'[o + j]? = cs[o + j]? := fun j hj => by
    have := hc j hj
    simp only [World.cell?, p1, q1] at this
    exact this
  refine ⟨L, c, m, ns, fr, ⟨⟨⟨cs', T', p1, ?_, ?_, ?_⟩, ⟨cs2, hnb.trans q5, q6⟩, h1.mem.book.same hmb, h1.mem.ne, h1.mem.cap, h1.mem.capm⟩, Fr.refl _ _, fun _ _ => rfl, fun x hx => Or.inl (hft x hx)⟩, h2⟩
  · exact (hcell 0 (by omega)).trans q2
  · exact (hcell 1 (by omega)).trans q3
  · exact (hcell 2 (by omega)).trans q4
theorem Md.Rw.moved {ks : List Nat} (h : Md.Rw w w' g o F ks) : Fr F w w' ∧ (∃ cs T, w'.heap[g]? = some (.cells cs T (0, 0))) ∧ (∀ j, (j < o ∨ o + 3 ≤ j) → w'.cell? ⟨g, j, none⟩ = w.cell? ⟨g, j, none⟩) ∧ ∃ F', Md.Rw w' w' g o F' ks ∧ ∀ x ∈ F', x < w'.heap.size ∧ (x ∈ F ∨ w.heap.size ≤ x) := by
  obtain ⟨L, c, m, ns, fr, h1, h2⟩ := h
  obtain ⟨cs, T, q1, _⟩ := h1.mem.row
  exact ⟨h1.fr, ⟨cs, T, q1⟩, h1.rest, foot g L, ⟨L, c, m, ns, fr, ⟨h1.mem, Fr.refl _ _, fun _ _ => rfl, fun x hx => Or.inl hx⟩, h2⟩, fun x hx => ⟨h1.mem.lt x hx, h1.inF x hx⟩⟩
/-- a row stays where its blocks and its cells stay -/
theorem Mi.Rw.sta {ks : List (Nat × Nat)} (h : Mi.Rw w w g o F ks) (hx : ∀ x ∈ F, x ≠ g → w'.heap[x]? = w.heap[x]?) (hg : ∃ cs T, w'.heap[g]? = some (.cells cs T (0, 0))) (hc : ∀ j, j < 3 → w'.cell? ⟨g, o + j, none⟩ = w.cell? ⟨g, o + j, none⟩) : Mi.Rw w' w' g o F ks := by
  obtain ⟨L, c, hd, m, ns, fr, h1, h2⟩ := h
  have hft : ∀ x ∈ foot g L, x ∈ F := fun x hx => (h1.inF x hx).elim id (fun e => absurd (h1.mem.lt x hx) (by omega))
  obtain ⟨cs, T, q1, q2, q3, q4⟩ := h1.mem.row
  obtain ⟨cs', T', p1⟩ := hg
  obtain ⟨cs2, q5, q6⟩ := h1.mem.nds
  have hnb : w'.heap[L.nb]? = w.heap[L.nb]? := hx _ (hft _ (by simp [foot])) h1.mem.ne.symm
  have hmb : w'.heap[L.mb]? = w.heap[L.mb]? := hx _ (hft _ (by simp [foot])) h1.mem.gm.symm
  have hcell : ∀ j, j < 3 → cs'[o + j]? = cs[o + j]? := fun j hj => by
    have := hc j hj
    simp only [World.cell?, p1, q1] at this
    exact this
  refine ⟨L, c, hd, m, ns, fr, ⟨⟨⟨cs', T', p1, ?_, ?_, ?_⟩, ⟨cs2, hnb.trans q5, q6⟩, h1.mem.book.same hmb, h1.mem.ne, h1.mem.cap, h1.mem.capm⟩, Fr.refl _ _, fun _ _ => rfl, fun x hx => Or.inl (hft x hx)⟩, h2⟩
  · exact (hcell 0 (by omega)).trans q2
  · exact (hcell 1 (by omega)).trans q3
  · exact (hcell 2 (by omega)).trans q4
theorem Mi.Rw.moved {ks : List (Nat × Nat)} (h : Mi.Rw w w' g o F ks) : Fr F w w' ∧ (∃ cs T, w'.heap[g]? = some (.cells cs T (0, 0))) ∧ (∀ j, (j < o ∨ o + 3 ≤ j) → w'.cell? ⟨g, j, none⟩ = w.cell? ⟨g, j, none⟩) ∧ ∃ F', Mi.Rw w' w' g o F' ks ∧ ∀ x ∈ F', x < w'.heap.size ∧ (x ∈ F ∨ w.heap.size ≤ x) := by
  obtain ⟨L, c, hd, m, ns, fr, h1, h2⟩ := h
  obtain ⟨cs, T, q1, _⟩ := h1.mem.row
  exact ⟨h1.fr, ⟨cs, T, q1⟩, h1.rest, foot g L, ⟨L, c, hd, m, ns, fr, ⟨h1.mem, Fr.refl _ _, fun _ _ => rfl, fun x hx => Or.inl hx⟩, h2⟩, fun x hx => ⟨h1.mem.lt x hx, h1.inF x hx⟩⟩
end
end Go.Proofs.YtjcbpejplnaakaaGreat
namespace Go.Proofs.YtjcbpejplnaakaaGreat.Md
open Go.RowKit Go.Maps Go.Proofs.YtjcbpejplnaakaaGreat.Nm

/-- an S3-FIFO at work since w0, and what was evicted so far -/
structure S5 (w0 w : World) (g : Nat) (F : List Nat) (size : Nat) (ps pm : List (Nat × Nat)) (ks : List Nat) (v : Value) (out : List Nat) (F1 F2 F3 : List Nat) : Prop where
  r1 : Mi.Rw w w g 1 F1 ps
  r2 : Mi.Rw w w g 4 F2 pm
  r3 : Md.Rw w w g 7 F3 ks
  lt : ∀ x, (x ∈ F1 ∨ x ∈ F2 ∨ x ∈ F3) → x < w.heap.size ∧ (x ∈ F ∨ w0.heap.size ≤ x)
  a12 : ∀ x ∈ F1, x ∈ F2 → x = g
  a13 : ∀ x ∈ F1, x ∈ F3 → x = g
  a23 : ∀ x ∈ F2, x ∈ F3 → x = g
  fr : Fr F w0 w
  sz : w.cell? ⟨g, 0, none⟩ = some (I size)
  own : w.ownsRow w0.heap.size 33 1 v out.length (out.map U)
  ap : ∀ b, v.ownBlock = some b → b ∉ F1 ∧ b ∉ F2 ∧ b ∉ F3
section
variable {w0 w w' : World} {g size : Nat} {F F1 F2 F3 ks out ks' : List Nat} {ps pm ps' : List (Nat × Nat)} {v : Value}
theorem own_same {B : Nat} {xs : List Value} {n : Nat} (h : w.ownsRow B 33 1 v n xs) (hb : ∀ b, v.ownBlock = some b → w'.heap[b]? = w.heap[b]?) : w'.ownsRow B 33 1 v n xs := by
  obtain ⟨q1, q2⟩ := h
  refine ⟨q1, q2.imp id ?_⟩
  rintro ⟨b, cap, cur, rfl, r2, r3, r4⟩
  exact ⟨b, cap, cur, rfl, r2, (hb b rfl).trans r3, r4⟩
theorem S5.s1 (h : S5 w0 w g F size ps pm ks v out F1 F2 F3) (hr : Mi.Rw w w' g 1 F1 ps') : ∃ F', S5 w0 w' g F size ps' pm ks v out F' F2 F3 := by
  obtain ⟨m1, m2, m3, F', q1, q2⟩ := hr.moved
  have z0 := h.fr.size
  have z1 := m1.size
  have hb : ∀ b, v.ownBlock = some b → b < w.heap.size := fun b e => (World.ownsRow.lt h.own b e).2
  refine ⟨F', q1, (h.r2).sta (fun x hx hn => m1.block x (h.lt x (Or.inr (Or.inl hx))).1 fun e => hn (h.a12 x e hx)) m2 (fun q hq => m3 _ (by omega)), (h.r3).sta (fun x hx hn => m1.block x (h.lt x (Or.inr (Or.inr hx))).1 fun e => hn (h.a13 x e hx)) m2 (fun q hq => m3 _ (by omega)), fun x hx => ?_, fun x hx hx2 => (q2 x hx).2.elim (fun e => h.a12 x e hx2) (fun e => absurd (h.lt x (Or.inr (Or.inl hx2))).1 (by omega)), fun x hx hx2 => (q2 x hx).2.elim (fun e => h.a13 x e hx2) (fun e => absurd (h.lt x (Or.inr (Or.inr hx2))).1 (by omega)), h.a23, h.fr.trans m1 (fun x hx => (h.lt x (Or.inl hx)).2), (m3 0 (by omega)).trans h.sz, own_same h.own fun b e => m1.block b (hb b e) (h.ap b e).1, fun b e => ?_⟩
  · rcases hx with e | e | e
    · exact ⟨(q2 x e).1, (q2 x e).2.elim (fun q => (h.lt x (Or.inl q)).2) (fun q => Or.inr (by omega))⟩
    · have := h.lt x (Or.inr (Or.inl e)); exact ⟨by omega, this.2⟩
    · have := h.lt x (Or.inr (Or.inr e)); exact ⟨by omega, this.2⟩
  · have z := hb b e
    obtain ⟨p1, p2, p3⟩ := h.ap b e
    exact ⟨fun q => (q2 b q).2.elim p1 (by omega), p2, p3⟩
theorem S5.s2 (h : S5 w0 w g F size ps pm ks v out F1 F2 F3) (hr : Mi.Rw w w' g 4 F2 ps') : ∃ F', S5 w0 w' g F size ps ps' ks v out F1 F' F3 := by
  obtain ⟨m1, m2, m3, F', q1, q2⟩ := hr.moved
  have z0 := h.fr.size
  have z1 := m1.size
  have hb : ∀ b, v.ownBlock = some b → b < w.heap.size := fun b e => (World.ownsRow.lt h.own b e).2
  refine ⟨F', (h.r1).sta (fun x hx hn => m1.block x (h.lt x (Or.inl hx)).1 fun e => hn (h.a12 x hx e)) m2 (fun q hq => m3 _ (by omega)), q1, (h.r3).sta (fun x hx hn => m1.block x (h.lt x (Or.inr (Or.inr hx))).1 fun e => hn (h.a23 x e hx)) m2 (fun q hq => m3 _ (by omega)), fun x hx => ?_, fun x hx hx2 => (q2 x hx2).2.elim (fun e => h.a12 x hx e) (fun e => absurd (h.lt x (Or.inl hx)).1 (by omega)), h.a13, fun x hx hx2 => (q2 x hx).2.elim (fun e => h.a23 x e hx2) (fun e => absurd (h.lt x (Or.inr (Or.inr hx2))).1 (by omega)), h.fr.trans m1 (fun x hx => (h.lt x (Or.inr (Or.inl hx))).2), (m3 0 (by omega)).trans h.sz, own_same h.own fun b e => m1.block b (hb b e) (h.ap b e).2.1, fun b e => ?_⟩
  · rcases hx with e | e | e
    · have := h.lt x (Or.inl e); exact ⟨by omega, this.2⟩
    · exact ⟨(q2 x e).1, (q2 x e).2.elim (fun q => (h.lt x (Or.inr (Or.inl q))).2) (fun q => Or.inr (by omega))⟩
    · have := h.lt x (Or.inr (Or.inr e)); exact ⟨by omega, this.2⟩
  · have z := hb b e
    obtain ⟨p1, p2, p3⟩ := h.ap b e
    exact ⟨p1, fun q => (q2 b q).2.elim p2 (by omega), p3⟩
theorem S5.s3 (h : S5 w0 w g F size ps pm ks v out F1 F2 F3) (hr : Md.Rw w w' g 7 F3 ks') : ∃ F', S5 w0 w' g F size ps pm ks' v out F1 F2 F' := by
  obtain ⟨m1, m2, m3, F', q1, q2⟩ := hr.moved
  have z0 := h.fr.size
  have z1 := m1.size
  have hb : ∀ b, v.ownBlock = some b → b < w.heap.size := fun b e => (World.ownsRow.lt h.own b e).2
  refine ⟨F', (h.r1).sta (fun x hx hn => m1.block x (h.lt x (Or.inl hx)).1 fun e => hn (h.a13 x hx e)) m2 (fun q hq => m3 _ (by omega)), (h.r2).sta (fun x hx hn => m1.block x (h.lt x (Or.inr (Or.inl hx))).1 fun e => hn (h.a23 x hx e)) m2 (fun q hq => m3 _ (by omega)), q1, fun x hx => ?_, h.a12, fun x hx hx2 => (q2 x hx2).2.elim (fun e => h.a13 x hx e) (fun e => absurd (h.lt x (Or.inl hx)).1 (by omega)), fun x hx hx2 => (q2 x hx2).2.elim (fun e => h.a23 x hx e) (fun e => absurd (h.lt x (Or.inr (Or.inl hx))).1 (by omega)), h.fr.trans m1 (fun x hx => (h.lt x (Or.inr (Or.inr hx))).2), (m3 0 (by omega)).trans h.sz, own_same h.own fun b e => m1.block b (hb b e) (h.ap b e).2.2, fun b e => ?_⟩
  · rcases hx with e | e | e
    · have := h.lt x (Or.inl e); exact ⟨by omega, this.2⟩
    · have := h.lt x (Or.inr (Or.inl e)); exact ⟨by omega, this.2⟩
    · exact ⟨(q2 x e).1, (q2 x e).2.elim (fun q => (h.lt x (Or.inr (Or.inr q))).2) (fun q => Or.inr (by omega))⟩
  · have z := hb b e
    obtain ⟨p1, p2, p3⟩ := h.ap b e
    exact ⟨p1, p2, fun q => (q2 b q).2.elim p3 (by omega)⟩
theorem S5.below (h : S5 w0 w g F size ps pm ks v out F1 F2 F3) (hb : Below w.heap.size w w') : S5 w0 w' g F size ps pm ks v out F1 F2 F3 := by
  have z := hb.size
  have hg : g < w.heap.size := (h.lt g (Or.inr (Or.inr h.r3.gF))).1
  have hbl : ∀ x, (x ∈ F1 ∨ x ∈ F2 ∨ x ∈ F3) → w'.heap[x]? = w.heap[x]? := fun x hx => hb.block x (h.lt x hx).1
  have hgb : ∃ cs T, w'.heap[g]? = some (.cells cs T (0, 0)) := by
    obtain ⟨_, ⟨cs, T, e⟩, _⟩ := h.r3.moved
    exact ⟨cs, T, (hb.block g hg).trans e⟩
  have hc : ∀ j, w'.cell? ⟨g, j, none⟩ = w.cell? ⟨g, j, none⟩ := fun j => cell_blk (hb.block g hg) j
  exact ⟨h.r1.sta (fun x hx _ => hbl x (Or.inl hx)) hgb fun j _ => hc _, h.r2.sta (fun x hx _ => hbl x (Or.inr (Or.inl hx))) hgb fun j _ => hc _, h.r3.sta (fun x hx _ => hbl x (Or.inr (Or.inr hx))) hgb fun j _ => hc _, fun x hx => ⟨by have := (h.lt x hx).1; omega, (h.lt x hx).2⟩, h.a12, h.a13, h.a23, h.fr.trans (F' := []) (Fr.of_below hb) (by simp), (hc 0).trans h.sz, own_same h.own fun b e => hb.block b (World.ownsRow.lt h.own b e).2, h.ap⟩
end
end Go.Proofs.YtjcbpejplnaakaaGreat.Md

namespace Go.Proofs.YtjcbpejplnaakaaGreat.Md
open Go.RowKit Go.Maps Go.Proofs.YtjcbpejplnaakaaGreat.Nm

/-- how a row of pairs turns until its last one holds none -/
inductive RotI : List (Nat × Nat) → List (Nat × Nat) → Prop
  | stop (l : List (Nat × Nat)) (x : Nat) : RotI (l ++ [(x, 0)]) (l ++ [(x, 0)])
  | step (l : List (Nat × Nat)) (x n : Nat) (r : List (Nat × Nat)) : RotI ((x, n) :: l) r → RotI (l ++ [(x, n + 1)]) r
def sumH (l : List (Nat × Nat)) : Nat := (l.map Prod.snd).sum
theorem sumH_snoc (l : List (Nat × Nat)) (x n : Nat) : sumH (l ++ [(x, n)]) = sumH l + n := by simp [sumH]
theorem sumH_cons (l : List (Nat × Nat)) (x n : Nat) : sumH ((x, n) :: l) = n + sumH l := by simp [sumH]
theorem snocP {l : List (Nat × Nat)} (h : l ≠ []) : ∃ a x n, l = a ++ [(x, n)] := ⟨l.dropLast, (l.getLast h).1, (l.getLast h).2, (List.dropLast_concat_getLast _).symm⟩
section
variable {w0 w w' wr w4 : World} {g size x n : Nat} {F F1 F2 F3 ks out ks' : List Nat} {ps pm ps' : List (Nat × Nat)} {v v4 : Value}
/-- a key more was evicted -/
theorem S5.app (h : S5 w0 w g F size ps pm ks v out F1 F2 F3) (hG : Gone (w.alloc (.cells #[U x] 33)) v w4 v4) (ho : w4.ownsRow w0.heap.size 33 1 v4 (out.length + 1) (out.map U ++ [U x])) : S5 w0 w4 g F size ps pm ks v4 (out ++ [x]) F1 F2 F3 := by
  have h1 := h.below ((Below.refl _ w).alloc (Nat.le_refl _) (.cells #[U x] 33))
  obtain ⟨g1, g2⟩ := hG
  have z0 := h.fr.size
  have z1 : w.heap.size ≤ (w.alloc (.cells #[U x] 33)).heap.size := by simp
  have z2 := g1.size
  have hbl : ∀ y, (y ∈ F1 ∨ y ∈ F2 ∨ y ∈ F3) → w4.heap[y]? = (w.alloc (.cells #[U x] 33)).heap[y]? := fun y hy => g1.block y (h1.lt y hy).1 fun e => by
    obtain ⟨p1, p2, p3⟩ := h.ap y e.symm
    rcases hy with q | q | q
    · exact p1 q
    · exact p2 q
    · exact p3 q
  have hg : g ∈ F3 := h.r3.gF
  have hgb : ∃ cs T, w4.heap[g]? = some (.cells cs T (0, 0)) := by
    obtain ⟨_, ⟨cs, T, e⟩, _⟩ := h1.r3.moved
    exact ⟨cs, T, (hbl g (Or.inr (Or.inr hg))).trans e⟩
  have hc : ∀ j, w4.cell? ⟨g, j, none⟩ = (w.alloc (.cells #[U x] 33)).cell? ⟨g, j, none⟩ := fun j => cell_blk (hbl g (Or.inr (Or.inr hg))) j
  refine ⟨h1.r1.sta (fun x hx _ => hbl x (Or.inl hx)) hgb fun j _ => hc _, h1.r2.sta (fun x hx _ => hbl x (Or.inr (Or.inl hx))) hgb fun j _ => hc _, h1.r3.sta (fun x hx _ => hbl x (Or.inr (Or.inr hx))) hgb fun j _ => hc _, fun x hx => ⟨by have := (h1.lt x hx).1; omega, (h1.lt x hx).2⟩, h.a12, h.a13, h.a23, ?_, (hc 0).trans h1.sz, by rw [List.length_append, List.map_append]; exact ho, fun b e => ?_⟩
  · have q := h1.fr
    refine ⟨g1.os.trans q.os, g1.tape.trans q.tape, g1.output.trans q.output, Nat.le_trans q.size z2, fun y hy hF => ?_⟩
    rw [g1.block y (by omega) fun e => ?_]
    · exact q.block y hy hF
    · have := (World.ownsRow.lt h.own y e.symm).1
      omega
  · rcases g2 with ⟨b', e1, e2⟩ | ⟨_, e2⟩
    · obtain rfl : b = b' := Option.some.inj (e.symm.trans e2)
      exact h.ap b e1
    · have z3 := e2 b e
      exact ⟨fun q => absurd (h1.lt b (Or.inl q)).1 (by omega), fun q => absurd (h1.lt b (Or.inr (Or.inl q))).1 (by omega), fun q => absurd (h1.lt b (Or.inr (Or.inr q))).1 (by omega)⟩
set_option maxHeartbeats 1600000 in
set_option maxRecDepth 100000 in
/-- fromMain: a key of M goes -/
theorem fm_any (h : S5 w0 w g F size ps pm ks v out F1 F2 F3) (hne : pm ≠ []) (hh : ∀ q ∈ pm, q.2 ≤ 3) (hl : pm.length ≤ 1000000000) (hlo : out.length ≤ 1000000000) : Calls Tryz.prog 104 #[.pointer (some ⟨g, 0, none⟩), v] w fun e w' => ∃ v' G1 G2 G3 l x, e = .returned v' ∧ RotI pm (l ++ [(x, 0)]) ∧ S5 w0 w' g F size ps l ks v' (out ++ [x]) G1 G2 G3 := by
  obtain ⟨bo, bc, rfl⟩ := own_form h.own
  have H : Hid (S5 w0 w g F size ps pm ks (.slice bo out.length bc) out F1 F2 F3 ∧ pm.length ≤ 1000000000 ∧ 0 < pm.length ∧ out.length ≤ 1000000000) := ⟨h, hl, List.length_pos_iff.2 hne, hlo⟩
  obtain ⟨j0, hj, hj0, hj1, hj2⟩ := info_parts info33
  have HH : Hid (∀ q ∈ pm, q.2 ≤ 3) := hh
  clear h hne hl hlo hh
  go_enter Tryz.func104, Tryz.ntmps104
  go_wp2_with fail
  go_loopg [] (sumH pm) (fun gq wr => ∃ qs G1 G2 G3, S5 w0 wr g F size ps qs ks (.slice bo out.length bc) out G1 G2 G3 ∧ (∀ r, RotI qs r → RotI pm r) ∧ gq = sumH qs ∧ qs.length = pm.length ∧ ∀ q ∈ qs, q.2 ≤ 3)
  case atStart => exact ⟨pm, F1, F2, F3, H.out.1, fun _ q => q, rfl, rfl, HH.out⟩
  case round =>
    obtain ⟨qs, G1, G2, G3, hs, hr, hgk, hln, hle⟩ := hrel
    obtain ⟨l, x, n, rfl⟩ := snocP (l := qs) (by rintro rfl; have := H.out.2.2.1; simp at hln; omega)
    have HQ : Hid (S5 w0 wr g F size ps (l ++ [(x, n)]) ks (.slice bo out.length bc) out G1 G2 G3 ∧ (∀ r, RotI (l ++ [(x, n)]) r → RotI pm r) ∧ gk = sumH (l ++ [(x, n)]) ∧ (l ++ [(x, n)]).length = pm.length ∧ ∀ q ∈ l ++ [(x, n)], q.2 ≤ 3) := ⟨hs, hr, hgk, hln, hle⟩
    have hcn : (0 : Int) < ((l ++ [(x, n)]).length : Int) := by simp
    have hn3 : n ≤ 3 := hle (x, n) (by simp)
    clear hs hr hgk hln hle
    go_wp2_with fail
    refine HQ.out.1.r2.count.mono ?_
    rintro _ wr ⟨rfl, rfl⟩
    go_wp2_with fail
    refine HQ.out.1.r2.last.mono ?_
    rintro _ w2 ⟨b1, x1, d, rfl, hw2, q0, q1, q2, q3⟩
    have HR2 : Hid (S5 w0 w2 g F size ps (l ++ [(x, n)]) ks (.slice bo out.length bc) out G1 G2 G3) := by rw [hw2]; exact HQ.out.1.below (Go.Proofs.YtjcbpejplnaakaaGreat.Nm.below_drewN wr d)
    clear hw2 q0 q2 q3
    cases n with
    | succ n =>
      have hn1 : (0 : Int) < ((n + 1 : Nat) : Int) := by omega
      go_wp2_with fail
      refine HR2.out.r2.last.mono ?_
      rintro _ w3 ⟨b2, x2, d2, rfl, hw3, q0', q1', q2', q3'⟩
      obtain ⟨G2', h3⟩ := HR2.out.s2 (q3' n)
      have HR3 : Hid (S5 w0 (w3.setCell ⟨b2, x2 * 4 + 1, none⟩ (I ((n : Nat) : Int))) g F size ps (l ++ [(x, n)]) ks (.slice bo out.length bc) out G1 G2' G3) := h3
      have hwn : IntKind.i64.wrap (((n + 1 : Nat) : Int) - 1) = (n : Int) := by rw [IntKind.wrap_i64]; omega
      clear h3 q3' q1 hw3 q0' hn1
      generalize n + 1 = m at q1' hwn
      go_wp2_with fail
      refine HR3.out.r2.turn.mono ?_
      rintro _ w4 ⟨rfl, h4⟩
      obtain ⟨G2'', h4⟩ := HR3.out.s2 h4
      have HR4 : Hid (S5 w0 w4 g F size ps ((x, n) :: l) ks (.slice bo out.length bc) out G1 G2'' G3) := h4
      clear h4 HR3 HR2 q1' q2'
      go_wp2_with fail
      go_roundg (sumH ((x, n) :: l))
      case measure => have h1 := HQ.out.2.2.1; rw [sumH_snoc] at h1; rw [sumH_cons]; omega
      case rel =>
        refine ⟨_, _, _, _, HR4.out, fun r hr => HQ.out.2.1 r (RotI.step l x n r hr), rfl, ?_, fun q hq => ?_⟩
        · have := HQ.out.2.2.2.1
          simp at this ⊢
          exact this
        · rcases List.mem_cons.1 hq with e | e
          · rw [e]
            show n ≤ 3
            omega
          · exact HQ.out.2.2.2.2 q (by simp [e])
    | zero =>
      go_wp2_with fail
      refine HR2.out.r2.count.mono ?_
      rintro _ w2 ⟨rfl, rfl⟩
      go_wp2_with fail
      refine HR2.out.r2.pop.mono ?_
      rintro _ w3 ⟨rfl, h3⟩
      obtain ⟨G2', h3⟩ := HR2.out.s2 h3
      have HR3 : Hid (S5 w0 w3 g F size ps l ks (.slice bo out.length bc) out G1 G2' G3) := h3
      have HO : Hid ((w3.alloc (.cells #[U x] 33)).ownsRow w0.heap.size 33 1 (.slice bo out.length bc) out.length (out.map U) ∧ w0.heap.size ≤ (w3.alloc (.cells #[U x] 33)).heap.size) := ⟨own_below h3.own ((Below.refl _ w3).alloc (Nat.le_refl _) _), Nat.le_trans h3.fr.size (by simp)⟩
      clear h3 q1 HR2
      go_wp2_with (at_builtin; refine append_gone _ rfl _ _ 22 rfl w0.heap.size 33 j0 (.int .u64 0) 1 8 Tryz.underlying22 hj hj0 hj1 hj2 rfl (by decide) (.slice bo out.length bc) out.length (out.map U) rfl HO.out.1 ⟨w3.heap.size, 0, none⟩ 1 1 [U x] rfl rfl ?c1 ?c2 ?c3 ?c4 ?c5 ?c6 ?_)
      case c1 => exact cells_new w3 33 [U x]
      case c2 => simp [Value.oneCell']
      case c3 => have := H.out.2.2.2; unfold maxLen; omega
      case c4 => have := H.out.2.2.2; omega
      case c5 => exact HO.out.2
      case c6 => decide
      intro v4 w4 ho hG
      have HR4 : Hid (S5 w0 w4 g F size ps l ks v4 (out ++ [x]) G1 G2' G3) := HR3.out.app hG ho
      clear ho hG HO HR3
      go_wp2
      go_ret
      exact ⟨_, _, _, _, l, x, rfl, HQ.out.2.1 _ (RotI.stop l x), HR4.out⟩
end
end Go.Proofs.YtjcbpejplnaakaaGreat.Md

namespace Go.Proofs.YtjcbpejplnaakaaGreat.Md
open Go.RowKit Go.Maps Go.Proofs.YtjcbpejplnaakaaGreat.Nm

/-- how many keys M and G have at most -/
def mMost (size : Nat) : Nat := size - size / 10
section
variable {w0 w w' : World} {g size k n : Nat} {F F1 F2 F3 ks out l : List Nat} {ps pm lp : List (Nat × Nat)} {v : Value}
set_option maxRecDepth 100000 in
theorem mainMost_nat (w : World) (n : Nat) (h2 : n ≤ 1048576) : Calls Tryz.prog 109 #[I n] w fun e w' => e = .returned (I (mMost n : Nat)) ∧ w' = w := by
  have h2' : (n : Int) ≤ 1048576 := by omega
  have hw : IntKind.i64.wrap ((n : Int) - (n : Int) / 10) = ((mMost n : Nat) : Int) := by unfold mMost; rw [IntKind.wrap_i64]; omega
  have hq : (n : Int) - (n : Int) / 10 = ((mMost n : Nat) : Int) := by unfold mMost; omega
  go_enter Tryz.func109, Tryz.ntmps109
  go_wp2
  go_ret
  refine ⟨?_, rfl⟩
  first | rfl | rw [hw] | rw [hq]
set_option maxHeartbeats 1600000 in
set_option maxRecDepth 100000 in
theorem isFull3 (h : S5 w0 w g F size ps pm ks v out F1 F2 F3) (hl : ps.length + pm.length ≤ 1048576) : Calls Tryz.prog 96 #[.pointer (some ⟨g, 0, none⟩)] w fun e w' => e = .returned (.bool (decide (ps.length + pm.length = size))) ∧ S5 w0 w' g F size ps pm ks v out F1 F2 F3 := by
  have H : Hid (S5 w0 w g F size ps pm ks v out F1 F2 F3) := h
  have HC1 : Hid (∀ j, Calls Tryz.prog 102 #[.pointer (some ⟨g, 1, none⟩)] (w.drewN j) fun e w' => e = .returned (I (ps.length : Nat)) ∧ w' = w.drewN j) := fun j => (h.below (Go.Proofs.YtjcbpejplnaakaaGreat.Nm.below_drewN _ _)).r1.count
  have HC2 : Hid (∀ j, Calls Tryz.prog 102 #[.pointer (some ⟨g, 4, none⟩)] (w.drewN j) fun e w' => e = .returned (I (pm.length : Nat)) ∧ w' = w.drewN j) := fun j => (h.below (Go.Proofs.YtjcbpejplnaakaaGreat.Nm.below_drewN _ _)).r2.count
  have hs := h.sz
  have hw : IntKind.i64.wrap ((ps.length : Int) + (pm.length : Int)) = ((ps.length + pm.length : Nat) : Int) := by rw [IntKind.wrap_i64]; omega
  have hd : ((((ps.length + pm.length : Nat) : Int)) == (size : Int)) = decide (ps.length + pm.length = size) := by
    by_cases e : ps.length + pm.length = size
    · rw [decide_eq_true e, beq_iff_eq]; omega
    · rw [decide_eq_false e, beq_eq_false_iff_ne]; omega
  generalize decide (ps.length + pm.length = size) = bb at *
  generalize ps.length + pm.length = n3 at *
  generalize ps.length = n1 at *
  generalize pm.length = n2 at *
  clear h hl
  go_enter Tryz.func96, Tryz.ntmps96
  go_wp2_with fail
  go_quiet (first | (go_at_call_of 102 (Value.pointer (some ⟨g, 1, none⟩)); exact Calls.quiet_of_same (HC1.out _)) | (go_at_call_of 102 (Value.pointer (some ⟨g, 4, none⟩)); exact Calls.quiet_of_same (HC2.out _)))
  go_wp2
  go_ret
  exact ⟨rfl, H.out.below (Go.Proofs.YtjcbpejplnaakaaGreat.Nm.below_drewN _ nq)⟩
set_option maxHeartbeats 1600000 in
set_option maxRecDepth 100000 in
theorem mainFull3 (h : S5 w0 w g F size ps pm ks v out F1 F2 F3) (hz : size ≤ 1048576) : Calls Tryz.prog 106 #[.pointer (some ⟨g, 0, none⟩)] w fun e w' => e = .returned (.bool (decide (pm.length = mMost size))) ∧ S5 w0 w' g F size ps pm ks v out F1 F2 F3 := by
  have H : Hid (S5 w0 w g F size ps pm ks v out F1 F2 F3) := h
  have HC2 : Hid (∀ j, Calls Tryz.prog 102 #[.pointer (some ⟨g, 4, none⟩)] (w.drewN j) fun e w' => e = .returned (I (pm.length : Nat)) ∧ w' = w.drewN j) := fun j => (h.below (Go.Proofs.YtjcbpejplnaakaaGreat.Nm.below_drewN _ _)).r2.count
  have HM : Hid (∀ u : World, Calls Tryz.prog 109 #[I size] u fun e w' => e = .returned (I (mMost size : Nat)) ∧ w' = u) := fun u => mainMost_nat u size hz
  have hs := h.sz
  have hd : ((pm.length : Int) == ((mMost size : Nat) : Int)) = decide (pm.length = mMost size) := by
    by_cases e : pm.length = mMost size
    · rw [decide_eq_true e, beq_iff_eq]; omega
    · rw [decide_eq_false e, beq_eq_false_iff_ne]; omega
  generalize decide (pm.length = mMost size) = bb at *
  generalize pm.length = n2 at *
  generalize mMost size = n3 at *
  clear h hz
  go_enter Tryz.func106, Tryz.ntmps106
  go_wp2_with fail
  go_quiet (first | (go_at_call 102; exact Calls.quiet_of_same (HC2.out _)) | (go_at_call 109; exact Calls.quiet_of_same (HM.out _)))
  go_wp2
  go_ret
  exact ⟨rfl, H.out.below (Go.Proofs.YtjcbpejplnaakaaGreat.Nm.below_drewN _ nq)⟩
set_option maxRecDepth 100000 in
theorem spill3 (h : S5 w0 w g F size (lp ++ [(k, n)]) pm ks v out F1 F2 F3) (hk : k ∉ ks) (hk2 : k < 18446744073709551616) (hl : ks.length ≤ 1000000000) : Calls Tryz.prog 110 #[.pointer (some ⟨g, 1, none⟩), .pointer (some ⟨g, 7, none⟩)] w fun e w' => e = .returned (U k) ∧ ∃ G1 G3, S5 w0 w' g F size lp pm (k :: ks) v out G1 F2 G3 := by
  have H : Hid (S5 w0 w g F size (lp ++ [(k, n)]) pm ks v out F1 F2 F3 ∧ k ∉ ks ∧ k < 18446744073709551616 ∧ ks.length ≤ 1000000000) := ⟨h, hk, hk2, hl⟩
  clear h hk hk2 hl
  go_enter Tryz.func110, Tryz.ntmps110
  go_wp2_with fail
  refine H.out.1.r1.pop.mono ?_
  rintro _ w1 ⟨rfl, h1⟩
  obtain ⟨G1, h1⟩ := H.out.1.s1 h1
  have H1 : Hid (S5 w0 w1 g F size lp pm ks v out G1 F2 F3) := h1
  clear h1
  go_wp2_with fail
  refine (H1.out.r3.push H.out.2.1 H.out.2.2.1 H.out.2.2.2).mono ?_
  rintro _ w2 ⟨rfl, h2⟩
  obtain ⟨G3, h2⟩ := H1.out.s3 h2
  have H2 : Hid (S5 w0 w2 g F size lp pm (k :: ks) v out G1 F2 G3) := h2
  clear h2
  go_wp2
  go_ret
  exact ⟨rfl, G1, G3, H2.out⟩
end
end Go.Proofs.YtjcbpejplnaakaaGreat.Md

namespace Go.Proofs.YtjcbpejplnaakaaGreat.Md
open Go.RowKit Go.Maps Go.Proofs.YtjcbpejplnaakaaGreat.Nm

def fs (l : List (Nat × Nat)) : List Nat := l.map Prod.fst
/-- an S3-FIFO's rows -/
structure S3k (size : Nat) (ps pm : List (Nat × Nat)) (ks : List Nat) : Prop where
  nd : ∀ a, ct a (fs ps) + ct a (fs pm) + ct a ks ≤ 1
  main : pm.length ≤ mMost size
  gone : ks.length ≤ mMost size
  hs : ∀ q ∈ ps, q.2 ≤ 3
  hm : ∀ q ∈ pm, q.2 ≤ 3
theorem fs_snoc (l : List (Nat × Nat)) (x n a : Nat) : ct a (fs (l ++ [(x, n)])) = ct a (fs l) + one a x := by
  unfold fs
  rw [List.map_append, ct_app]
  show _ + ct a [x] = _
  rw [ct_cons, ct_nil]
  omega
theorem fs_cons (l : List (Nat × Nat)) (x n a : Nat) : ct a (fs ((x, n) :: l)) = ct a (fs l) + one a x := by
  unfold fs
  rw [List.map_cons, ct_cons]
theorem RotI.cts {pm r : List (Nat × Nat)} (h : RotI pm r) : (∀ a, ct a (fs r) = ct a (fs pm)) ∧ r.length = pm.length ∧ ((∀ q ∈ pm, q.2 ≤ 3) → ∀ q ∈ r, q.2 ≤ 3) := by
  induction h with
  | stop l x => exact ⟨fun _ => rfl, rfl, fun q => q⟩
  | step l x n r _ ih =>
    obtain ⟨i1, i2, i3⟩ := ih
    refine ⟨fun a => ?_, ?_, fun hq => i3 fun q hm => ?_⟩
    · rw [i1, fs_cons, fs_snoc]
    · rw [i2]; simp
    · rcases List.mem_cons.1 hm with e | e
      · have := hq (x, n + 1) (by simp)
        rw [e]
        show n ≤ 3
        have h9 : n + 1 ≤ 3 := this
        omega
      · exact hq q (by simp [e])
/-- fromSmall -/
inductive FsR (size : Nat) (ks : List Nat) : List (Nat × Nat) → List (Nat × Nat) → List Nat → List (Nat × Nat) → List (Nat × Nat) → List Nat → List Nat → Prop
  | none (pm : List (Nat × Nat)) (out : List Nat) : FsR size ks [] pm out [] pm ks out
  | out (l pm : List (Nat × Nat)) (out : List Nat) (x n : Nat) : n ≤ 1 → FsR size ks (l ++ [(x, n)]) pm out l pm (x :: (if ks.length = mMost size then ks.dropLast else ks)) (out ++ [x])
  | mv (l pm : List (Nat × Nat)) (out : List Nat) (x n : Nat) (a b : List (Nat × Nat)) (c d : List Nat) : 1 < n → pm.length ≠ mMost size → FsR size ks l ((x, 0) :: pm) out a b c d → FsR size ks (l ++ [(x, n)]) pm out a b c d
  | mf (l pm q : List (Nat × Nat)) (out : List Nat) (x n y : Nat) (a b : List (Nat × Nat)) (c d : List Nat) : 1 < n → pm.length = mMost size → RotI pm (q ++ [(y, 0)]) → FsR size ks l ((x, 0) :: q) (out ++ [y]) a b c d → FsR size ks (l ++ [(x, n)]) pm out a b c d
theorem S3k.mv {size : Nat} {l pm : List (Nat × Nat)} {ks : List Nat} {x n : Nat} (h : S3k size (l ++ [(x, n)]) pm ks) (hm : pm.length ≠ mMost size) : S3k size l ((x, 0) :: pm) ks ∧ x ∉ fs pm := by
  obtain ⟨nd, h1, h2, h3, h4⟩ := h
  refine ⟨⟨fun a => ?_, by simp; omega, h2, fun q hq => h3 q (by simp [hq]), fun q hq => ?_⟩, ct_no ?_⟩
  · have := nd a
    rw [fs_snoc] at this
    rw [fs_cons]
    omega
  · rcases List.mem_cons.1 hq with e | e
    · rw [e]; show 0 ≤ 3; omega
    · exact h4 q e
  · have := nd x
    rw [fs_snoc, one_same] at this
    omega
theorem S3k.mf {size : Nat} {l pm q : List (Nat × Nat)} {ks : List Nat} {x n y : Nat} (h : S3k size (l ++ [(x, n)]) pm ks) (hr : RotI pm (q ++ [(y, 0)])) : S3k size (l ++ [(x, n)]) q ks ∧ q.length + 1 = pm.length := by
  obtain ⟨r1, r2, r3⟩ := hr.cts
  obtain ⟨nd, h1, h2, h3, h4⟩ := h
  have e : q.length + 1 = pm.length := by rw [← r2]; simp
  refine ⟨⟨fun a => ?_, by omega, h2, h3, fun z hz => r3 h4 z (by simp [hz])⟩, e⟩
  have := nd a
  have := r1 a
  rw [fs_snoc] at this
  omega
section
variable {w0 w w' : World} {g size k n : Nat} {F F1 F2 F3 ks out l : List Nat} {ps pm lp : List (Nat × Nat)} {v : Value}
theorem Mi_lt {o : Nat} (h : Mi.Rw w0 w g o F ps) : ∀ x ∈ ps, x.1 < 18446744073709551616 := by
  obtain ⟨L, c, hd, m, ns, fr, h1, h2, h3, h4, h5⟩ := h
  exact h5
/-- fromSmall under way: slot 1 holds what was evicted -/
def Fsw (w0 wr : World) (g : Nat) (F : List Nat) (size : Nat) (ps pm : List (Nat × Nat)) (ks out : List Nat) (gq : Nat) (x : Value) : Prop := ∃ ps1 pm1 out1 G1 G2 G3, S5 w0 wr g F size ps1 pm1 ks x out1 G1 G2 G3 ∧ S3k size ps1 pm1 ks ∧ (∀ a b c d, FsR size ks ps1 pm1 out1 a b c d → FsR size ks ps pm out a b c d) ∧ gq = ps1.length ∧ out1.length + ps1.length ≤ out.length + ps.length
end
end Go.Proofs.YtjcbpejplnaakaaGreat.Md

namespace Go.Proofs.YtjcbpejplnaakaaGreat.Md
open Go.RowKit Go.Maps Go.Proofs.YtjcbpejplnaakaaGreat.Nm

section
variable {w0 w w' : World} {g size k n : Nat} {F F1 F2 F3 ks out l : List Nat} {ps pm lp : List (Nat × Nat)} {v : Value}
set_option maxHeartbeats 1600000 in
set_option maxRecDepth 100000 in
theorem fs_any (h : S5 w0 w g F size ps pm ks v out F1 F2 F3) (ok : S3k size ps pm ks) (hz : 10 ≤ size ∧ size ≤ 1048576) (hl : ps.length ≤ 1048576) (hlo : out.length ≤ 1048576) : Calls Tryz.prog 103 #[.pointer (some ⟨g, 0, none⟩), v] w fun e w' => ∃ v' G1 G2 G3 a b c d, e = .returned v' ∧ FsR size ks ps pm out a b c d ∧ S5 w0 w' g F size a b c v' d G1 G2 G3 := by
  have H : Hid (S5 w0 w g F size ps pm ks v out F1 F2 F3 ∧ S3k size ps pm ks ∧ (10 ≤ size ∧ size ≤ 1048576) ∧ ps.length ≤ 1048576 ∧ out.length ≤ 1048576) := ⟨h, ok, hz, hl, hlo⟩
  obtain ⟨j0, hj, hj0, hj1, hj2⟩ := info_parts info33
  clear h ok hz hl hlo
  go_enter Tryz.func103, Tryz.ntmps103
  go_wp2_with fail
  go_loopg [1] ps.length (fun gq x wr => Fsw w0 wr g F size ps pm ks out gq x)
  case atStart => exact ⟨ps, pm, out, F1, F2, F3, H.out.1, H.out.2.1, fun _ _ _ _ q => q, rfl, Nat.le_refl _⟩
  case round =>
    obtain ⟨ps1, pm1, out1, G1, G2, G3, hs, hk, hr, hgk, hln⟩ := hrel
    by_cases hps : ps1 = []
    · subst hps
      have HQ : Hid (S5 w0 wr g F size [] pm1 ks u1 out1 G1 G2 G3 ∧ ∀ a b c d, FsR size ks [] pm1 out1 a b c d → FsR size ks ps pm out a b c d) := ⟨hs, hr⟩
      clear hs hk hr hgk hln
      go_wp2_with fail
      refine HQ.out.1.r1.count.mono ?_
      rintro _ wr ⟨rfl, rfl⟩
      go_wp2_with fail
      refine HQ.out.1.r1.count.mono ?_
      rintro _ wr ⟨rfl, rfl⟩
      go_wp2
      go_ret
      exact ⟨_, _, _, _, _, _, _, _, rfl, HQ.out.2 _ _ _ _ (FsR.none pm1 out1), HQ.out.1⟩
    · obtain ⟨lp, x, n, rfl⟩ := snocP hps
      have HQ : Hid (S5 w0 wr g F size (lp ++ [(x, n)]) pm1 ks u1 out1 G1 G2 G3 ∧ S3k size (lp ++ [(x, n)]) pm1 ks ∧ (∀ a b c d, FsR size ks (lp ++ [(x, n)]) pm1 out1 a b c d → FsR size ks ps pm out a b c d) ∧ gk = (lp ++ [(x, n)]).length ∧ out1.length + (lp ++ [(x, n)]).length ≤ out.length + ps.length) := ⟨hs, hk, hr, hgk, hln⟩
      have hcn : (0 : Int) < ((lp ++ [(x, n)]).length : Int) := by simp
      have HX : Hid (x < 18446744073709551616) := Mi_lt hs.r1 (x, n) (by simp)
      clear hs hk hr hgk hln hps
      go_wp2_with fail
      refine HQ.out.1.r1.count.mono ?_
      rintro _ wr ⟨rfl, rfl⟩
      go_wp2_with fail
      refine HQ.out.1.r1.last.mono ?_
      rintro _ w2 ⟨b1, x1, d, rfl, hw2, q0, q1, q2, q3⟩
      have HR2 : Hid (S5 w0 w2 g F size (lp ++ [(x, n)]) pm1 ks u1 out1 G1 G2 G3) := by rw [hw2]; exact HQ.out.1.below (Go.Proofs.YtjcbpejplnaakaaGreat.Nm.below_drewN wr d)
      clear hw2 q0 q2 q3
      by_cases hn : 1 < n
      · have hn1 : (1 : Int) < (n : Int) := by omega
        have HN : Hid (1 < n) := hn
        clear hn
        go_wp2_with fail
        refine (mainFull3 HR2.out H.out.2.2.1.2).mono ?_
        rintro _ w3 ⟨rfl, h3⟩
        have HR3 : Hid (S5 w0 w3 g F size (lp ++ [(x, n)]) pm1 ks u1 out1 G1 G2 G3) := h3
        clear h3 HR2 q1
        by_cases hmf : pm1.length = mMost size
        · rw [decide_eq_true hmf]
          have HF : Hid (pm1 ≠ [] ∧ pm1.length ≤ 1000000000 ∧ out1.length ≤ 1000000000 ∧ pm1.length = mMost size) := ⟨by rintro rfl; have := H.out.2.2.1; unfold mMost at hmf; simp at hmf; omega, by have := H.out.2.2.1; unfold mMost at hmf; omega, by have := H.out.2.2.2; have := HQ.out.2.2.2.2; omega, hmf⟩
          clear hmf
          go_wp2_with fail
          refine (fm_any HR3.out HF.out.1 HQ.out.2.1.hm HF.out.2.1 HF.out.2.2.1).mono ?_
          rintro _ w4 ⟨v4, G14, G24, G34, q4, y4, rfl, hrot, h4⟩
          have HR4 : Hid (S5 w0 w4 g F size (lp ++ [(x, n)]) q4 ks v4 (out1 ++ [y4]) G14 G24 G34 ∧ RotI pm1 (q4 ++ [(y4, 0)])) := ⟨h4, hrot⟩
          have HM : Hid (S3k size lp ((x, 0) :: q4) ks ∧ x ∉ fs q4 ∧ q4.length ≠ mMost size ∧ q4.length ≤ 1000000000) := by
            obtain ⟨a1, a2⟩ := HQ.out.2.1.mf hrot
            have a3 := HF.out.2.2.2
            have a4 := HF.out.2.1
            obtain ⟨b1, b2⟩ := a1.mv (by omega)
            exact ⟨b1, b2, by omega, by omega⟩
          have HR4' : Hid (S5 w0 w4 g F size (lp ++ [(x, n)]) q4 ks v4 (out1 ++ [y4]) G14 G24 G34) := h4
          clear h4 hrot
          go_wp2_with fail
          go_region_with (first | (go_at_call 108; refine ((HR4'.out.below (Below.refl _ w4).drew).r1.pop).mono ?_; rintro _ w5 ⟨rfl, h5⟩; obtain ⟨G5, h5⟩ := (HR4'.out.below (Below.refl _ w4).drew).s1 h5) | (go_at_call 105; refine (h5.r2.push (hv := 0) HM.out.2.1 HX.out HM.out.2.2.2).mono ?_; rintro _ w6 ⟨rfl, h6⟩; obtain ⟨G6, h6⟩ := h5.s2 h6))
          all_goals (have HR6 : Hid (S5 w0 w6 g F size lp ((x, 0) :: q4) ks v4 (out1 ++ [y4]) G5 G6 G34) := h6)
          all_goals clear h5 h6
          all_goals (
            go_wp2_with fail
            go_roundg lp.length
            case measure => have := HQ.out.2.2.2.1; simp at this; omega
            case rel => exact ⟨lp, (x, 0) :: q4, (out1 ++ [y4]), _, _, _, HR6.out, HM.out.1, fun a b c d q => HQ.out.2.2.1 a b c d (FsR.mf lp pm1 q4 out1 x n y4 a b c d HN.out HF.out.2.2.2 HR4.out.2 q), rfl, by have := HQ.out.2.2.2.2; simp at this ⊢; omega⟩)
        · rw [decide_eq_false hmf]
          have HM : Hid (S3k size lp ((x, 0) :: pm1) ks ∧ x ∉ fs pm1 ∧ pm1.length ≠ mMost size ∧ pm1.length ≤ 1000000000) := ⟨(HQ.out.2.1.mv hmf).1, (HQ.out.2.1.mv hmf).2, hmf, by have := HQ.out.2.1.main; have := H.out.2.2.1; unfold mMost at *; omega⟩
          clear hmf
          go_wp2_with fail
          go_region_with (first | (go_at_call 108; refine ((HR3.out.below (Below.refl _ w3).drew).r1.pop).mono ?_; rintro _ w5 ⟨rfl, h5⟩; obtain ⟨G5, h5⟩ := (HR3.out.below (Below.refl _ w3).drew).s1 h5) | (go_at_call 105; refine (h5.r2.push (hv := 0) HM.out.2.1 HX.out HM.out.2.2.2).mono ?_; rintro _ w6 ⟨rfl, h6⟩; obtain ⟨G6, h6⟩ := h5.s2 h6))
          all_goals (have HR6 : Hid (S5 w0 w6 g F size lp ((x, 0) :: pm1) ks u1 out1 G5 G6 G3) := h6)
          all_goals clear h5 h6
          all_goals (
            go_wp2_with fail
            go_roundg lp.length
            case measure => have := HQ.out.2.2.2.1; simp at this; omega
            case rel => exact ⟨lp, (x, 0) :: pm1, out1, _, _, _, HR6.out, HM.out.1, fun a b c d q => HQ.out.2.2.1 a b c d (FsR.mv lp pm1 out1 x n a b c d HN.out HM.out.2.2.1 q), rfl, by have := HQ.out.2.2.2.2; simp at this ⊢; omega⟩)
      · have hn1 : ¬ (1 : Int) < (n : Int) := by omega
        have HN : Hid (n ≤ 1) := by show n ≤ 1; omega
        have HKL : Hid (ks.length ≤ 1000000000 ∧ size ≤ 1048576 ∧ out1.length ≤ 1000000000 ∧ x ∉ ks) := ⟨by have := HQ.out.2.1.gone; have := H.out.2.2.1; unfold mMost at *; omega, H.out.2.2.1.2, by have := H.out.2.2.2; have := HQ.out.2.2.2.2; omega, ct_no (by have := HQ.out.2.1.nd x; rw [fs_snoc, one_same] at this; omega)⟩
        obtain ⟨bo, bc, rfl⟩ := own_form HR2.out.own
        have hz0 : (((lp ++ [(x, n)]).length : Int) == 0) = false := by rw [beq_eq_false_iff_ne]; omega
        clear hn
        go_wp2_with fail
        refine HR2.out.r1.count.mono ?_
        rintro _ w2 ⟨rfl, rfl⟩
        have hs2 := HR2.out.sz
        have HC3 : Hid (∀ j, Calls Tryz.prog 63 #[.pointer (some ⟨g, 7, none⟩)] (w2.drewN j) fun e w' => e = .returned (I (ks.length : Nat)) ∧ w' = w2.drewN j) := fun j => (HR2.out.below (Go.Proofs.YtjcbpejplnaakaaGreat.Nm.below_drewN _ _)).r3.count
        have HMM : Hid (∀ u : World, Calls Tryz.prog 109 #[I size] u fun e w' => e = .returned (I (mMost size : Nat)) ∧ w' = u) := fun u => mainMost_nat u size HKL.out.2.1
        go_wp2_with fail
        go_quiet (first | (go_at_call 63; exact Calls.quiet_of_same (HC3.out _)) | (go_at_call 109; exact Calls.quiet_of_same (HMM.out _)))
        have HR5 : Hid (S5 w0 (w2.drewN nq) g F size (lp ++ [(x, n)]) pm1 ks (.slice bo out1.length bc) out1 G1 G2 G3) := HR2.out.below (Go.Proofs.YtjcbpejplnaakaaGreat.Nm.below_drewN _ nq)
        generalize w2.drewN nq = w7 at *
        clear HC3 HMM hs2 q1 hn1 hcn hz0 HR2
        by_cases hkm : ks.length = mMost size
        · have hkd : ((ks.length : Int) == ((mMost size : Nat) : Int)) = true := by rw [beq_iff_eq]; omega
          obtain ⟨lk, y, hky⟩ := snocN (l := ks) (by rintro rfl; have := H.out.2.2.1; unfold mMost at hkm; simp at hkm; omega)
          have HKE : Hid (x :: (if ks.length = mMost size then ks.dropLast else ks) = x :: lk ∧ ks = lk ++ [y]) := ⟨by rw [if_pos hkm, hky, List.dropLast_concat], hky⟩
          have HKL : Hid (lk.length ≤ 1000000000 ∧ size ≤ 1048576 ∧ out1.length ≤ 1000000000 ∧ x ∉ lk) := ⟨by have := HKL.out.1; rw [hky] at this; simp at this; omega, HKL.out.2.1, HKL.out.2.2.1, fun e => HKL.out.2.2.2 (by rw [hky]; exact List.mem_append_left _ e)⟩
          have HR5' : Hid (S5 w0 w7 g F size (lp ++ [(x, n)]) pm1 (lk ++ [y]) (.slice bo out1.length bc) out1 G1 G2 G3) := by rw [← hky]; exact HR5.out
          clear hkm hky HR5
          go_wp2_with fail
          refine HR5'.out.r3.pop.mono ?_
          rintro _ wz ⟨rfl, hz⟩
          obtain ⟨G3', hz⟩ := HR5'.out.s3 hz
          have HR5 : Hid (S5 w0 wz g F size (lp ++ [(x, n)]) pm1 lk (.slice bo out1.length bc) out1 G1 G2 G3') := hz
          clear hz HR5' hkd
          go_wp2_with fail
          go_region_law (first | (go_simp; go_at_call 110; refine (spill3 (HR5.out.below (Below.refl _ wz).drew) HKL.out.2.2.2 HX.out HKL.out.1).mono ?_; rintro _ w8 ⟨rfl, G8, G9, h8⟩) | (refine step_gone _ (by rfl) _ _ 22 (by rfl) w0.heap.size 33 j0 (.int .u64 0) 1 8 Tryz.underlying22 hj hj0 hj1 hj2 rfl (by decide) (.slice bo out1.length bc) out1.length (out1.map U) (by simp [Act.eval]) (own_below h8.own ((Below.refl _ w8).alloc (Nat.le_refl _) _)) ⟨w8.heap.size, 0, none⟩ 1 1 [U x] (by simp [Act.eval]) rfl (cells_new w8 33 [U x]) (by simp [Value.oneCell']) (by have := HKL.out.2.2.1; unfold maxLen; omega) (by have := HKL.out.2.2.1; omega) (Nat.le_trans h8.fr.size (by simp)) (by decide) ?_; intro v9 w9 ho9 hg9))
          all_goals (have HR9 : Hid (S5 w0 w9 g F size lp pm1 (x :: lk) v9 (out1 ++ [x]) G8 G2 G9) := h8.app hg9 ho9)
          all_goals clear h8 hg9 ho9
          all_goals (
            go_wp2
            go_ret
            refine ⟨_, G8, G2, G9, lp, pm1, _, out1 ++ [x], rfl, HQ.out.2.2.1 _ _ _ _ (FsR.out lp pm1 out1 x n HN.out), ?_⟩
            rw [HKE.out.1]
            exact HR9.out)
        · have hkd : ((ks.length : Int) == ((mMost size : Nat) : Int)) = false := by rw [beq_eq_false_iff_ne]; omega
          have HKE : Hid (x :: (if ks.length = mMost size then ks.dropLast else ks) = x :: ks) := by rw [if_neg hkm]; exact rfl
          clear hkm
          go_wp2_with fail
          go_region_law (first | (go_simp; go_at_call 110; refine (spill3 (HR5.out.below (Below.refl _ w7).drew) HKL.out.2.2.2 HX.out HKL.out.1).mono ?_; rintro _ w8 ⟨rfl, G8, G9, h8⟩) | (refine step_gone _ (by rfl) _ _ 22 (by rfl) w0.heap.size 33 j0 (.int .u64 0) 1 8 Tryz.underlying22 hj hj0 hj1 hj2 rfl (by decide) (.slice bo out1.length bc) out1.length (out1.map U) (by simp [Act.eval]) (own_below h8.own ((Below.refl _ w8).alloc (Nat.le_refl _) _)) ⟨w8.heap.size, 0, none⟩ 1 1 [U x] (by simp [Act.eval]) rfl (cells_new w8 33 [U x]) (by simp [Value.oneCell']) (by have := HKL.out.2.2.1; unfold maxLen; omega) (by have := HKL.out.2.2.1; omega) (Nat.le_trans h8.fr.size (by simp)) (by decide) ?_; intro v9 w9 ho9 hg9))
          all_goals (have HR9 : Hid (S5 w0 w9 g F size lp pm1 (x :: ks) v9 (out1 ++ [x]) G8 G2 G9) := h8.app hg9 ho9)
          all_goals clear h8 hg9 ho9
          all_goals (
            go_wp2
            go_ret
            refine ⟨_, G8, G2, G9, lp, pm1, _, out1 ++ [x], rfl, HQ.out.2.2.1 _ _ _ _ (FsR.out lp pm1 out1 x n HN.out), ?_⟩
            rw [HKE.out]
            exact HR9.out)
end
end Go.Proofs.YtjcbpejplnaakaaGreat.Md

namespace Go.Proofs.YtjcbpejplnaakaaGreat.Md
open Go.RowKit Go.Maps Go.Proofs.YtjcbpejplnaakaaGreat.Nm

/-- reclaim -/
def RcR (size : Nat) (ks : List Nat) (ps pm : List (Nat × Nat)) (out : List Nat) (a b : List (Nat × Nat)) (c d : List Nat) : Prop := (size / 10 ≤ ps.length ∧ FsR size ks ps pm out a b c d) ∨ (ps.length < size / 10 ∧ a = ps ∧ c = ks ∧ ∃ y, RotI pm (b ++ [(y, 0)]) ∧ d = out ++ [y])
section
variable {w0 w w' : World} {g size k n : Nat} {F F1 F2 F3 ks out l : List Nat} {ps pm lp : List (Nat × Nat)} {v : Value}
set_option maxHeartbeats 1600000 in
set_option maxRecDepth 100000 in
theorem rc3_any (h : S5 w0 w g F size ps pm ks v out F1 F2 F3) (ok : S3k size ps pm ks) (hz : 10 ≤ size ∧ size ≤ 1048576) (hl : ps.length ≤ 1048576) (hlo : out.length ≤ 1048576) (hne : ps.length < size / 10 → pm ≠ []) : Calls Tryz.prog 99 #[.pointer (some ⟨g, 0, none⟩), v] w fun e w' => ∃ v' G1 G2 G3 a b c d, e = .returned v' ∧ RcR size ks ps pm out a b c d ∧ S5 w0 w' g F size a b c v' d G1 G2 G3 := by
  have H : Hid (S5 w0 w g F size ps pm ks v out F1 F2 F3 ∧ S3k size ps pm ks ∧ (10 ≤ size ∧ size ≤ 1048576) ∧ ps.length ≤ 1048576 ∧ out.length ≤ 1048576 ∧ (ps.length < size / 10 → pm ≠ []) ∧ pm.length ≤ 1000000000) := ⟨h, ok, hz, hl, hlo, hne, by have := ok.main; unfold mMost at this; omega⟩
  have HC1 : Hid (∀ j, Calls Tryz.prog 102 #[.pointer (some ⟨g, 1, none⟩)] (w.drewN j) fun e w' => e = .returned (I (ps.length : Nat)) ∧ w' = w.drewN j) := fun j => (h.below (Go.Proofs.YtjcbpejplnaakaaGreat.Nm.below_drewN _ _)).r1.count
  have hs := h.sz
  have hz2 : (size : Int) ≤ 1048576 := by omega
  by_cases hb : size / 10 ≤ ps.length
  · have hb1 : (size : Int) / 10 ≤ (ps.length : Int) := by omega
    have HB : Hid (size / 10 ≤ ps.length) := hb
    clear h ok hz hl hlo hne hb
    go_enter Tryz.func99, Tryz.ntmps99
    go_wp2_with fail
    go_quiet ((go_at_call 102; exact Calls.quiet_of_same (HC1.out _)))
    have H1 : Hid (S5 w0 (w.drewN nq) g F size ps pm ks v out F1 F2 F3) := H.out.1.below (Go.Proofs.YtjcbpejplnaakaaGreat.Nm.below_drewN _ nq)
    generalize w.drewN nq = w1 at *
    go_wp2_with fail
    refine (fs_any H1.out H.out.2.1 H.out.2.2.1 H.out.2.2.2.1 H.out.2.2.2.2.1).mono ?_
    rintro _ w2 ⟨v', G1, G2, G3, a, b, c, d, rfl, hr, h2⟩
    have H2 : Hid (FsR size ks ps pm out a b c d ∧ S5 w0 w2 g F size a b c v' d G1 G2 G3) := ⟨hr, h2⟩
    clear hr h2
    go_wp2
    go_ret
    exact ⟨_, _, _, _, _, _, _, _, rfl, Or.inl ⟨HB.out, H2.out.1⟩, H2.out.2⟩
  · have hb1 : ¬ (size : Int) / 10 ≤ (ps.length : Int) := by omega
    have HB : Hid (ps.length < size / 10) := by show ps.length < size / 10; omega
    clear h ok hz hl hlo hne hb
    go_enter Tryz.func99, Tryz.ntmps99
    go_wp2_with fail
    go_quiet ((go_at_call 102; exact Calls.quiet_of_same (HC1.out _)))
    have H1 : Hid (S5 w0 (w.drewN nq) g F size ps pm ks v out F1 F2 F3) := H.out.1.below (Go.Proofs.YtjcbpejplnaakaaGreat.Nm.below_drewN _ nq)
    generalize w.drewN nq = w1 at *
    go_wp2_with fail
    refine (fm_any H1.out (H.out.2.2.2.2.2.1 HB.out) H.out.2.1.hm H.out.2.2.2.2.2.2 (by have := H.out.2.2.2.2.1; omega)).mono ?_
    rintro _ w2 ⟨v', G1, G2, G3, q, y, rfl, hr, h2⟩
    have H2 : Hid (RotI pm (q ++ [(y, 0)]) ∧ S5 w0 w2 g F size ps q ks v' (out ++ [y]) G1 G2 G3) := ⟨hr, h2⟩
    clear hr h2
    go_wp2
    go_ret
    exact ⟨_, _, _, _, _, _, _, _, rfl, Or.inr ⟨HB.out, rfl, rfl, y, H2.out.1, rfl⟩, H2.out.2⟩
end
end Go.Proofs.YtjcbpejplnaakaaGreat.Md

namespace Go.Proofs.YtjcbpejplnaakaaGreat.Md
open Go.RowKit Go.Maps Go.Proofs.YtjcbpejplnaakaaGreat.Nm

/-- admit -/
def AdR (size k : Nat) (ks : List Nat) (ps pm : List (Nat × Nat)) (out : List Nat) (a b : List (Nat × Nat)) (c d : List Nat) : Prop := (k ∉ ks ∧ a = (k, 0) :: ps ∧ b = pm ∧ c = ks ∧ d = out) ∨ (k ∈ ks ∧ pm.length ≠ mMost size ∧ a = ps ∧ b = (k, 0) :: pm ∧ c = ks.erase k ∧ d = out) ∨ (k ∈ ks ∧ pm.length = mMost size ∧ a = ps ∧ c = ks.erase k ∧ ∃ q y, RotI pm (q ++ [(y, 0)]) ∧ b = (k, 0) :: q ∧ d = out ++ [y])
section
variable {w0 w w' : World} {g size k n : Nat} {F F1 F2 F3 ks out l : List Nat} {ps pm lp : List (Nat × Nat)} {v : Value}
set_option maxHeartbeats 1600000 in
set_option maxRecDepth 100000 in
theorem ad3_any (h : S5 w0 w g F size ps pm ks v out F1 F2 F3) (ok : S3k size ps pm ks) (hz : 10 ≤ size ∧ size ≤ 1048576) (hl : ps.length ≤ 1048576) (hlo : out.length ≤ 1048576) (h1 : k ∉ fs ps) (h2 : k ∉ fs pm) (hk : k < 18446744073709551616) : Calls Tryz.prog 100 #[.pointer (some ⟨g, 0, none⟩), U k, v] w fun e w' => ∃ v' G1 G2 G3 a b c d, e = .returned v' ∧ AdR size k ks ps pm out a b c d ∧ S5 w0 w' g F size a b c v' d G1 G2 G3 := by
  have hmm : pm.length ≤ 1000000000 := by have := ok.main; unfold mMost at this; omega
  have H : Hid (S5 w0 w g F size ps pm ks v out F1 F2 F3 ∧ S3k size ps pm ks ∧ (10 ≤ size ∧ size ≤ 1048576) ∧ ps.length ≤ 1000000000 ∧ out.length ≤ 1000000000 ∧ pm.length ≤ 1000000000 ∧ k ∉ fs ps ∧ k ∉ fs pm ∧ k < 18446744073709551616) := ⟨h, ok, hz, by omega, by omega, hmm, h1, h2, hk⟩
  by_cases hks : k ∈ ks
  · have HK : Hid (k ∈ ks ∧ decide (k ∈ ks) = true) := ⟨hks, decide_eq_true hks⟩
    clear h ok hz hl hlo h1 h2 hk hmm hks
    go_enter Tryz.func100, Tryz.ntmps100
    go_wp2_with fail
    refine (H.out.1.r3.has H.out.2.2.2.2.2.2.2.2).mono ?_
    rw [HK.out.2]
    rintro _ w ⟨rfl, rfl⟩
    go_wp2_with fail
    refine (mainFull3 H.out.1 H.out.2.2.1.2).mono ?_
    rintro _ w3 ⟨rfl, h3⟩
    have H3 : Hid (S5 w0 w3 g F size ps pm ks v out F1 F2 F3) := h3
    clear h3
    by_cases hmf : pm.length = mMost size
    · rw [decide_eq_true hmf]
      have HF : Hid (pm ≠ [] ∧ pm.length = mMost size) := ⟨by rintro rfl; have := H.out.2.2.1; unfold mMost at hmf; simp at hmf; omega, hmf⟩
      clear hmf
      go_wp2_with fail
      refine (fm_any H3.out HF.out.1 H.out.2.1.hm H.out.2.2.2.2.2.1 H.out.2.2.2.2.1).mono ?_
      rintro _ w4 ⟨v4, G14, G24, G34, q, y, rfl, hrot, h4⟩
      have H4 : Hid (S5 w0 w4 g F size ps q ks v4 (out ++ [y]) G14 G24 G34 ∧ RotI pm (q ++ [(y, 0)]) ∧ k ∉ fs q ∧ q.length ≤ 1000000000) := by
        obtain ⟨r1, r2, _⟩ := hrot.cts
        refine ⟨h4, hrot, ct_no ?_, ?_⟩
        · have e1 := r1 k
          have e2 := ct_zero H.out.2.2.2.2.2.2.2.1
          rw [fs_snoc] at e1
          omega
        · have := H.out.2.2.2.2.2.1
          simp at r2
          omega
      clear h4 hrot
      go_wp2_with fail
      refine (H4.out.1.r2.push (hv := 0) H4.out.2.2.1 H.out.2.2.2.2.2.2.2.2 H4.out.2.2.2).mono ?_
      rintro _ w5 ⟨rfl, h5⟩
      obtain ⟨G25, h5⟩ := H4.out.1.s2 h5
      have H5 : Hid (S5 w0 w5 g F size ps ((k, 0) :: q) ks v4 (out ++ [y]) G14 G25 G34) := h5
      clear h5
      go_wp2_with fail
      refine (H5.out.r3.dodrop HK.out.1).mono ?_
      rintro _ w6 ⟨rfl, h6⟩
      obtain ⟨G36, h6⟩ := H5.out.s3 h6
      have H6 : Hid (S5 w0 w6 g F size ps ((k, 0) :: q) (ks.erase k) v4 (out ++ [y]) G14 G25 G36) := h6
      clear h6
      go_wp2
      go_ret
      exact ⟨_, G14, G25, G36, ps, (k, 0) :: q, ks.erase k, out ++ [y], rfl, Or.inr (Or.inr ⟨HK.out.1, HF.out.2, rfl, rfl, q, y, H4.out.2.1, rfl, rfl⟩), H6.out⟩
    · rw [decide_eq_false hmf]
      have HF : Hid (pm.length ≠ mMost size) := hmf
      clear hmf
      go_wp2_with fail
      refine (H3.out.r2.push (hv := 0) H.out.2.2.2.2.2.2.2.1 H.out.2.2.2.2.2.2.2.2 H.out.2.2.2.2.2.1).mono ?_
      rintro _ w5 ⟨rfl, h5⟩
      obtain ⟨G25, h5⟩ := H3.out.s2 h5
      have H5 : Hid (S5 w0 w5 g F size ps ((k, 0) :: pm) ks v out F1 G25 F3) := h5
      clear h5
      go_wp2_with fail
      refine (H5.out.r3.dodrop HK.out.1).mono ?_
      rintro _ w6 ⟨rfl, h6⟩
      obtain ⟨G36, h6⟩ := H5.out.s3 h6
      have H6 : Hid (S5 w0 w6 g F size ps ((k, 0) :: pm) (ks.erase k) v out F1 G25 G36) := h6
      clear h6
      go_wp2
      go_ret
      exact ⟨_, F1, G25, G36, ps, (k, 0) :: pm, ks.erase k, out, rfl, Or.inr (Or.inl ⟨HK.out.1, HF.out, rfl, rfl, rfl, rfl⟩), H6.out⟩
  · have HK : Hid (k ∉ ks ∧ decide (k ∈ ks) = false) := ⟨hks, decide_eq_false hks⟩
    clear h ok hz hl hlo h1 h2 hk hmm hks
    go_enter Tryz.func100, Tryz.ntmps100
    go_wp2_with fail
    refine (H.out.1.r3.has H.out.2.2.2.2.2.2.2.2).mono ?_
    rw [HK.out.2]
    rintro _ w ⟨rfl, rfl⟩
    go_wp2_with fail
    refine (H.out.1.r1.push (hv := 0) H.out.2.2.2.2.2.2.1 H.out.2.2.2.2.2.2.2.2 H.out.2.2.2.1).mono ?_
    rintro _ w5 ⟨rfl, h5⟩
    obtain ⟨G15, h5⟩ := H.out.1.s1 h5
    have H5 : Hid (S5 w0 w5 g F size ((k, 0) :: ps) pm ks v out G15 F2 F3) := h5
    clear h5
    go_wp2
    go_ret
    exact ⟨_, G15, F2, F3, (k, 0) :: ps, pm, ks, out, rfl, Or.inl ⟨HK.out.1, rfl, rfl, rfl, rfl⟩, H5.out⟩
end
end Go.Proofs.YtjcbpejplnaakaaGreat.Md

namespace Go.Proofs.YtjcbpejplnaakaaGreat.Md
open Go.RowKit Go.Maps Go.Proofs.YtjcbpejplnaakaaGreat.Nm

section
variable {size k : Nat} {ks out c d : List Nat} {ps pm a b : List (Nat × Nat)}
/-- what a step of an S3-FIFO keeps -/
structure Kp3 (size : Nat) (ps pm : List (Nat × Nat)) (out : List Nat) (a b : List (Nat × Nat)) (c d : List Nat) : Prop where
  ok : S3k size a b c
  sum : ∀ z, ct z (fs a) + ct z (fs b) + ct z d = ct z (fs ps) + ct z (fs pm) + ct z out
  len : a.length + b.length + d.length = ps.length + pm.length + out.length
theorem dl_ct (l : List Nat) (z : Nat) : ct z l.dropLast ≤ ct z l := by
  by_cases h : l = []
  · rw [h]; exact Nat.le_refl _
  · have e := List.dropLast_concat_getLast h
    have : ct z l = ct z l.dropLast + ct z [l.getLast h] := by rw [← ct_app, e]
    omega
theorem FsR.keep (h : FsR size ks ps pm out a b c d) (h0 : 0 < mMost size) : S3k size ps pm ks → Kp3 size ps pm out a b c d ∧ (a = [] ∨ out.length < d.length) := by
  induction h with
  | none pm out => exact fun ok => ⟨⟨ok, fun _ => rfl, rfl⟩, Or.inl rfl⟩
  | out l pm out x n hn =>
    rintro ⟨nd, h1, h2, h3, h4⟩
    refine ⟨⟨⟨fun z => ?_, h1, ?_, fun q hq => h3 q (by simp [hq]), h4⟩, fun z => ?_, by simp; omega⟩, Or.inr (by simp)⟩
    · have := nd z
      rw [fs_snoc] at this
      rw [ct_cons]
      split
      · have := dl_ct ks z
        omega
      · omega
    · split
      · simp; omega
      · simp; omega
    · rw [fs_snoc, ct_app, ct_cons, ct_nil]
      omega
  | mv l pm out x n a b c d hn hm _ ih =>
    intro ok
    obtain ⟨⟨i1, i2, i3⟩, i4⟩ := ih (ok.mv hm).1
    refine ⟨⟨i1, fun z => ?_, by rw [i3]; simp; omega⟩, i4⟩
    rw [i2, fs_cons, fs_snoc]
    omega
  | mf l pm q out x n y a b c d hn hm hr _ ih =>
    intro ok
    obtain ⟨o1, o2⟩ := ok.mf hr
    obtain ⟨r1, r2, _⟩ := hr.cts
    obtain ⟨⟨i1, i2, i3⟩, i4⟩ := ih (o1.mv (by omega)).1
    refine ⟨⟨i1, fun z => ?_, by rw [i3]; simp; omega⟩, ?_⟩
    · have := r1 z
      rw [fs_snoc] at this
      rw [i2, fs_cons, fs_snoc, ct_app, ct_cons, ct_nil]
      omega
    · rcases i4 with e | e
      · exact Or.inl e
      · refine Or.inr ?_
        simp at e
        omega
theorem RotI.keep {q : List (Nat × Nat)} {y : Nat} (h : RotI pm (q ++ [(y, 0)])) (ok : S3k size ps pm ks) : Kp3 size ps pm out ps q ks (out ++ [y]) := by
  obtain ⟨r1, r2, r3⟩ := h.cts
  obtain ⟨nd, h1, h2, h3, h4⟩ := ok
  have e : q.length + 1 = pm.length := by rw [← r2]; simp
  refine ⟨⟨fun z => ?_, by omega, h2, h3, fun p hp => r3 h4 p (by simp [hp])⟩, fun z => ?_, by simp; omega⟩
  · have := nd z
    have := r1 z
    rw [fs_snoc] at this
    omega
  · have := r1 z
    rw [fs_snoc] at this
    rw [ct_app, ct_cons, ct_nil]
    omega
/-- admit keeps it, with the key more -/
theorem AdR.keep (h : AdR size k ks ps pm out a b c d) (h1 : k ∉ fs ps) (h2 : k ∉ fs pm) (ok : S3k size ps pm ks) : S3k size a b c ∧ (∀ z, ct z (fs a) + ct z (fs b) + ct z d = ct z (fs ps) + ct z (fs pm) + ct z out + one z k) ∧ a.length + b.length + d.length = ps.length + pm.length + out.length + 1 ∧ k ∈ fs a ++ fs b ∧ out.length ≤ d.length := by
  have c1 := ct_zero h1
  have c2 := ct_zero h2
  rcases h with ⟨hk, rfl, rfl, rfl, rfl⟩ | ⟨hk, hm, rfl, rfl, rfl, rfl⟩ | ⟨hk, hm, rfl, rfl, q, y, hr, rfl, rfl⟩
  · have c3 := ct_zero hk
    obtain ⟨nd, g1, g2, g3, g4⟩ := ok
    refine ⟨⟨fun z => ?_, g1, g2, fun q hq => ?_, g4⟩, fun z => ?_, by simp; omega, by simp [fs], Nat.le_refl _⟩
    · have := nd z
      rw [fs_cons]
      by_cases e : k = z
      · subst e
        rw [one_same]
        omega
      · rw [one_ne e]
        omega
    · rcases List.mem_cons.1 hq with e | e
      · rw [e]; show 0 ≤ 3; omega
      · exact g3 q e
    · rw [fs_cons]
      omega
  · obtain ⟨nd, g1, g2, g3, g4⟩ := ok
    refine ⟨⟨fun z => ?_, by simp; omega, Nat.le_trans List.length_erase_le g2, g3, fun q hq => ?_⟩, fun z => ?_, by simp; omega, by simp [fs], Nat.le_refl _⟩
    · have := nd z
      have := er_ct hk z
      rw [fs_cons]
      omega
    · rcases List.mem_cons.1 hq with e | e
      · rw [e]; show 0 ≤ 3; omega
      · exact g4 q e
    · rw [fs_cons]
      omega
  · obtain ⟨⟨nd, g1, g2, g3, g4⟩, s1, s2⟩ := hr.keep (out := out) ok
    obtain ⟨_, r2, _⟩ := hr.cts
    have e : q.length + 1 = pm.length := by rw [← r2]; simp
    refine ⟨⟨fun z => ?_, by simp; omega, Nat.le_trans List.length_erase_le g2, g3, fun q hq => ?_⟩, fun z => ?_, by simp at s2 ⊢; omega, by simp [fs], by simp⟩
    · have := nd z
      have := er_ct hk z
      rw [fs_cons]
      omega
    · rcases List.mem_cons.1 hq with e | e
      · rw [e]; show 0 ≤ 3; omega
      · exact g4 q e
    · have := s1 z
      rw [fs_cons]
      omega
/-- a reclaim of a full one makes room -/
theorem RcR.keep (h : RcR size ks ps pm out a b c d) (hz : 10 ≤ size) (ok : S3k size ps pm ks) : Kp3 size ps pm out a b c d ∧ (ps.length + pm.length = size → out.length < d.length) := by
  have h0 : 0 < mMost size ∧ mMost size < size := by unfold mMost; omega
  rcases h with ⟨_, hr⟩ | ⟨_, rfl, rfl, y, hr, rfl⟩
  · obtain ⟨k1, k2⟩ := hr.keep h0.1 ok
    refine ⟨k1, fun hf => ?_⟩
    rcases k2 with e | e
    · have h9 := k1.len
      rw [e] at h9
      simp at h9
      have := k1.ok.main
      omega
    · exact e
  · exact ⟨hr.keep ok, fun _ => by simp⟩
end
end Go.Proofs.YtjcbpejplnaakaaGreat.Md

namespace Go.Proofs.YtjcbpejplnaakaaGreat.Md
open Go.RowKit Go.Maps Go.Proofs.YtjcbpejplnaakaaGreat.Nm

/-- the two turns of reclaim -/
inductive Lp3 (size : Nat) (ps pm : List (Nat × Nat)) (ks : List Nat) : Nat → List (Nat × Nat) → List (Nat × Nat) → List Nat → List Nat → Prop
  | z : Lp3 size ps pm ks 0 ps pm ks []
  | f (i : Nat) (a b a' b' : List (Nat × Nat)) (c d c' d' : List Nat) : Lp3 size ps pm ks i a b c d → a.length + b.length = size → RcR size c a b d a' b' c' d' → Lp3 size ps pm ks (i + 1) a' b' c' d'
  | n (i : Nat) (a b : List (Nat × Nat)) (c d : List Nat) : Lp3 size ps pm ks i a b c d → a.length + b.length ≠ size → Lp3 size ps pm ks (i + 1) a b c d
section
variable {w0 w w' : World} {g size k n : Nat} {F F1 F2 F3 ks out l : List Nat} {ps pm lp : List (Nat × Nat)} {v : Value}
theorem Lp3.keep {i : Nat} {a b : List (Nat × Nat)} {c d : List Nat} (h : Lp3 size ps pm ks i a b c d) (hz : 10 ≤ size) (ok : S3k size ps pm ks) (hl : ps.length + pm.length ≤ size) : Kp3 size ps pm [] a b c d ∧ a.length + b.length ≤ size ∧ (0 < i → a.length + b.length < size) := by
  induction h with
  | z => exact ⟨⟨ok, fun _ => rfl, rfl⟩, hl, fun q => absurd q (by omega)⟩
  | f i a b a' b' c d c' d' _ hf hr ih =>
    obtain ⟨⟨i1, i2, i3⟩, i4, i5⟩ := ih
    obtain ⟨⟨k1, k2, k3⟩, k4⟩ := hr.keep hz i1
    have := k4 hf
    refine ⟨⟨k1, fun z => by rw [k2, i2], by rw [k3, i3]⟩, by omega, fun _ => by omega⟩
  | n i a b c d _ hf ih =>
    obtain ⟨i1, i4, i5⟩ := ih
    exact ⟨i1, i4, fun _ => by omega⟩
set_option maxHeartbeats 3200000 in
set_option maxRecDepth 100000 in
theorem s3_miss (h : S5 w w g F size ps pm ks (.slice none 0 0) [] F1 F2 F3) (ok : S3k size ps pm ks) (hz : 10 ≤ size ∧ size ≤ 1048576) (hl : ps.length + pm.length ≤ size) (h1 : k ∉ fs ps) (h2 : k ∉ fs pm) (hk : k < 18446744073709551616) : Calls Tryz.prog 94 #[.pointer (some ⟨g, 0, none⟩), U k] w fun e w' => ∃ v' G1 G2 G3 a b c d a' b' c' d', e = .returned (.tuple #[.bool false, v']) ∧ Lp3 size ps pm ks 2 a b c d ∧ AdR size k c a b d a' b' c' d' ∧ S5 w w' g F size a' b' c' v' d' G1 G2 G3 := by
  have H : Hid (S5 w w g F size ps pm ks (.slice none 0 0) [] F1 F2 F3 ∧ S3k size ps pm ks ∧ (10 ≤ size ∧ size ≤ 1048576) ∧ ps.length + pm.length ≤ size ∧ k ∉ fs ps ∧ k ∉ fs pm ∧ k < 18446744073709551616) := ⟨h, ok, hz, hl, h1, h2, hk⟩
  clear h ok hz hl h1 h2 hk
  go_enter Tryz.func94, Tryz.ntmps94
  go_wp2_with fail
  go_region
  have HW : Hid (S5 w ((w.alloc (.cells #[.pointer (some ⟨g, 1, none⟩), .pointer (some ⟨g, 4, none⟩)] 132)).drew) g F size ps pm ks (.slice none 0 0) [] F1 F2 F3) := H.out.1.below ((Below.refl _ w).alloc (Nat.le_refl _) _).drew
  have hp0 : ((w.alloc (.cells #[.pointer (some ⟨g, 1, none⟩), .pointer (some ⟨g, 4, none⟩)] 132)).drew).cell? ⟨w.heap.size, 0, none⟩ = some (.pointer (some ⟨g, 1, none⟩)) := by show World.cell? (w.alloc _) _ = _; unfold World.cell?; rw [heap_alloc_new]; rfl
  have hp1 : ((w.alloc (.cells #[.pointer (some ⟨g, 1, none⟩), .pointer (some ⟨g, 4, none⟩)] 132)).drew).cell? ⟨w.heap.size, 1, none⟩ = some (.pointer (some ⟨g, 4, none⟩)) := by show World.cell? (w.alloc _) _ = _; unfold World.cell?; rw [heap_alloc_new]; rfl
  have HD : Hid (decide (k ∈ ps.map Prod.fst) = false ∧ decide (k ∈ pm.map Prod.fst) = false) := ⟨decide_eq_false H.out.2.2.2.2.1, decide_eq_false H.out.2.2.2.2.2.1⟩
  generalize (w.alloc (.cells #[.pointer (some ⟨g, 1, none⟩), .pointer (some ⟨g, 4, none⟩)] 132)).drew = W1 at *
  go_wp2_with fail
  go_loopg [5, 17] 2 (fun gq x y wr => W1 = wr ∧ x = .slice none 0 0 ∧ ∃ i, i ≤ 2 ∧ gq = 2 - i ∧ y = I (i : Nat))
  case atStart => exact ⟨rfl, rfl, 0, by omega, rfl, rfl⟩
  case round =>
    obtain ⟨rfl, rfl, i, hi, hgk, rfl⟩ := hrel
    obtain rfl | rfl | rfl : i = 0 ∨ i = 1 ∨ i = 2 := by omega
    · go_wp2_with (go_at_call 97; refine (HW.out.r1.has H.out.2.2.2.2.2.2).mono ?_; rw [HD.out.1]; rintro _ _ ⟨rfl, rfl⟩)
      go_roundg 1
      case measure => omega
      case rel => exact ⟨rfl, rfl, 1, by omega, rfl, rfl⟩
    · go_wp2_with (go_at_call 97; refine (HW.out.r2.has H.out.2.2.2.2.2.2).mono ?_; rw [HD.out.2]; rintro _ _ ⟨rfl, rfl⟩)
      go_roundg 0
      case measure => omega
      case rel => exact ⟨rfl, rfl, 2, by omega, rfl, rfl⟩
    · clear hgk hi hp0 hp1 HD
      go_wp2_with fail
      go_loopg [5, 37] 2 (fun gq x y wr => ∃ i a b c d G1 G2 G3, i ≤ 2 ∧ gq = 2 - i ∧ y = I (i : Nat) ∧ Lp3 size ps pm ks i a b c d ∧ S5 w wr g F size a b c x d G1 G2 G3)
      case atStart => exact ⟨0, ps, pm, ks, [], F1, F2, F3, by omega, rfl, rfl, Lp3.z, HW.out⟩
      case round =>
        obtain ⟨i, a, b, c, d, G1, G2, G3, hi, hgk, rfl, hlp, hs⟩ := hrel
        have HQ : Hid (Lp3 size ps pm ks i a b c d ∧ S5 w wr g F size a b c u5 d G1 G2 G3 ∧ gk = 2 - i ∧ i ≤ 2) := ⟨hlp, hs, hgk, hi⟩
        have HK : Hid (Kp3 size ps pm [] a b c d ∧ a.length + b.length ≤ 1048576 ∧ d.length ≤ 1048576 ∧ (0 < i → a.length + b.length < size)) := by
          obtain ⟨k1, k2, k3⟩ := hlp.keep H.out.2.2.1.1 H.out.2.1 H.out.2.2.2.1
          have e := k1.len
          have e1 := H.out.2.2.1.2
          have e2 := H.out.2.2.2.1
          simp at e
          exact ⟨k1, by omega, by omega, k3⟩
        clear hlp hs hgk
        by_cases h2 : i < 2
        · have h2' : (i : Int) < 2 := by omega
          clear h2 hi
          go_wp2_with fail
          refine (isFull3 HQ.out.2.1 HK.out.2.1).mono ?_
          rintro _ w3 ⟨rfl, h3⟩
          have H3 : Hid (S5 w w3 g F size a b c u5 d G1 G2 G3) := h3
          clear h3
          by_cases hf : a.length + b.length = size
          · rw [decide_eq_true hf]
            have HF : Hid (a.length + b.length = size ∧ (a.length < size / 10 → b ≠ [])) := ⟨hf, by rintro q rfl; simp at hf; omega⟩
            clear hf
            go_wp2_with fail
            refine (rc3_any H3.out HK.out.1.ok H.out.2.2.1 (by have := HK.out.2.1; omega) HK.out.2.2.1 HF.out.2).mono ?_
            rintro _ w4 ⟨v4, G14, G24, G34, a4, b4, c4, d4, rfl, hr, h4⟩
            have H4 : Hid (RcR size c a b d a4 b4 c4 d4 ∧ S5 w w4 g F size a4 b4 c4 v4 d4 G14 G24 G34) := ⟨hr, h4⟩
            clear hr h4
            go_wp2_with fail
            go_roundg (2 - (i + 1))
            case measure => have := HQ.out.2.2; omega
            case rel => exact ⟨i + 1, a4, b4, c4, d4, G14, G24, G34, by omega, rfl, by first | rfl | go_num, Lp3.f i a b a4 b4 c d c4 d4 HQ.out.1 HF.out.1 H4.out.1, H4.out.2⟩
          · rw [decide_eq_false hf]
            have HF : Hid (a.length + b.length ≠ size) := hf
            clear hf
            go_wp2_with fail
            go_roundg (2 - (i + 1))
            case measure => have := HQ.out.2.2; omega
            case rel => exact ⟨i + 1, a, b, c, d, G1, G2, G3, by omega, rfl, by first | rfl | go_num, Lp3.n i a b c d HQ.out.1 HF.out, H3.out⟩
        · obtain rfl : i = 2 := by omega
          clear h2 hi
          go_wp2_with fail
          refine (isFull3 HQ.out.2.1 HK.out.2.1).mono ?_
          rw [decide_eq_false (by have := HK.out.2.2.2 (by omega); omega)]
          rintro _ w3 ⟨rfl, h3⟩
          have H3 : Hid (S5 w w3 g F size a b c u5 d G1 G2 G3) := h3
          have HN : Hid (k ∉ fs a ∧ k ∉ fs b) := by
            have e1 := HK.out.1.sum k
            have e2 := ct_zero H.out.2.2.2.2.1
            have e3 := ct_zero H.out.2.2.2.2.2.1
            rw [ct_nil] at e1
            exact ⟨ct_no (by omega), ct_no (by omega)⟩
          clear h3
          go_wp2_with fail
          refine (ad3_any H3.out HK.out.1.ok H.out.2.2.1 (by have := HK.out.2.1; omega) HK.out.2.2.1 HN.out.1 HN.out.2 H.out.2.2.2.2.2.2).mono ?_
          rintro _ w4 ⟨v4, G14, G24, G34, a4, b4, c4, d4, rfl, hr, h4⟩
          have H4 : Hid (AdR size k c a b d a4 b4 c4 d4 ∧ S5 w w4 g F size a4 b4 c4 v4 d4 G14 G24 G34) := ⟨hr, h4⟩
          clear hr h4
          go_wp2
          go_ret2
          exact ⟨_, G14, G24, G34, a, b, c, d, a4, b4, c4, d4, rfl, HQ.out.1, H4.out.1, H4.out.2⟩
end
end Go.Proofs.YtjcbpejplnaakaaGreat.Md

namespace Go.Proofs.YtjcbpejplnaakaaGreat.Md
open Go.RowKit Go.Maps Go.Proofs.YtjcbpejplnaakaaGreat.Nm

section
variable {w0 w w' : World} {g size k hv : Nat} {F F1 F2 F3 ks : List Nat} {ps pm l r : List (Nat × Nat)}
set_option maxHeartbeats 3200000 in
set_option maxRecDepth 100000 in
theorem s3_hit1 (h : S5 w w g F size (l ++ (k, hv) :: r) pm ks (.slice none 0 0) [] F1 F2 F3) (h3 : hv ≤ 3) (hk : k < 18446744073709551616) : Calls Tryz.prog 94 #[.pointer (some ⟨g, 0, none⟩), U k] w fun e w' => ∃ G1, e = .returned (.tuple #[.bool true, .slice none 0 0]) ∧ S5 w w' g F size (l ++ (k, min (hv + 1) 3) :: r) pm ks (.slice none 0 0) [] G1 F2 F3 := by
  have H : Hid (S5 w w g F size (l ++ (k, hv) :: r) pm ks (.slice none 0 0) [] F1 F2 F3 ∧ k < 18446744073709551616 ∧ decide (k ∈ (l ++ (k, hv) :: r).map Prod.fst) = true) := ⟨h, hk, decide_eq_true (by simp)⟩
  have hv3 : (hv : Int) ≤ 3 := by omega
  have hv0 : (0 : Int) ≤ (hv : Int) := by omega
  have hm1 : (if (3 : Int) < (hv : Int) + 1 then (3 : Int) else (hv : Int) + 1) = ((min (hv + 1) 3 : Nat) : Int) := by split <;> omega
  have hm2 : (if (hv : Int) + 1 < 3 then (hv : Int) + 1 else (3 : Int)) = ((min (hv + 1) 3 : Nat) : Int) := by split <;> omega
  have hm3 : min ((hv : Int) + 1) 3 = ((min (hv + 1) 3 : Nat) : Int) := by omega
  generalize min (hv + 1) 3 = hn at *
  clear h hk h3
  go_enter Tryz.func94, Tryz.ntmps94
  go_wp2_with fail
  go_region
  have HW : Hid (S5 w ((w.alloc (.cells #[.pointer (some ⟨g, 1, none⟩), .pointer (some ⟨g, 4, none⟩)] 132)).drew) g F size (l ++ (k, hv) :: r) pm ks (.slice none 0 0) [] F1 F2 F3) := H.out.1.below ((Below.refl _ w).alloc (Nat.le_refl _) _).drew
  have hp0 : ((w.alloc (.cells #[.pointer (some ⟨g, 1, none⟩), .pointer (some ⟨g, 4, none⟩)] 132)).drew).cell? ⟨w.heap.size, 0, none⟩ = some (.pointer (some ⟨g, 1, none⟩)) := by show World.cell? (w.alloc _) _ = _; unfold World.cell?; rw [heap_alloc_new]; rfl
  generalize (w.alloc (.cells #[.pointer (some ⟨g, 1, none⟩), .pointer (some ⟨g, 4, none⟩)] 132)).drew = W1 at *
  go_wp2_with fail
  go_loopg [5, 17] 2 (fun gq x y wr => W1 = wr ∧ x = .slice none 0 0 ∧ gq = 2 ∧ y = I 0)
  case atStart => exact ⟨rfl, rfl, rfl, rfl⟩
  case round =>
    obtain ⟨rfl, rfl, hgk, rfl⟩ := hrel
    clear hgk
    go_wp2_with (go_at_call 97; refine (HW.out.r1.has H.out.2.1).mono ?_; rw [H.out.2.2]; rintro _ W1 ⟨rfl, rfl⟩)
    refine HW.out.r1.at_.mono ?_
    rintro _ w1 ⟨b, x, d, rfl, hw1, h2, h3, h4⟩
    have H1 : Hid (Mi.Rw W1 (w1.setCell ⟨b, x * 4 + 1, none⟩ (I ((hn : Nat) : Int))) g 1 F1 (l ++ (k, hn) :: r)) := h4 hn
    clear h4 hw1
    go_wp2
    go_ret2
    obtain ⟨G1, hs⟩ := HW.out.s1 H1.out
    exact ⟨G1, rfl, hs⟩
set_option maxHeartbeats 3200000 in
set_option maxRecDepth 100000 in
theorem s3_hit2 (h : S5 w w g F size ps (l ++ (k, hv) :: r) ks (.slice none 0 0) [] F1 F2 F3) (hn1 : k ∉ fs ps) (h3 : hv ≤ 3) (hk : k < 18446744073709551616) : Calls Tryz.prog 94 #[.pointer (some ⟨g, 0, none⟩), U k] w fun e w' => ∃ G1, e = .returned (.tuple #[.bool true, .slice none 0 0]) ∧ S5 w w' g F size ps (l ++ (k, min (hv + 1) 3) :: r) ks (.slice none 0 0) [] F1 G1 F3 := by
  have H : Hid (S5 w w g F size ps (l ++ (k, hv) :: r) ks (.slice none 0 0) [] F1 F2 F3 ∧ k < 18446744073709551616 ∧ decide (k ∈ (l ++ (k, hv) :: r).map Prod.fst) = true ∧ decide (k ∈ ps.map Prod.fst) = false) := ⟨h, hk, decide_eq_true (by simp), decide_eq_false hn1⟩
  have hv3 : (hv : Int) ≤ 3 := by omega
  have hv0 : (0 : Int) ≤ (hv : Int) := by omega
  have hm1 : (if (3 : Int) < (hv : Int) + 1 then (3 : Int) else (hv : Int) + 1) = ((min (hv + 1) 3 : Nat) : Int) := by split <;> omega
  have hm2 : (if (hv : Int) + 1 < 3 then (hv : Int) + 1 else (3 : Int)) = ((min (hv + 1) 3 : Nat) : Int) := by split <;> omega
  have hm3 : min ((hv : Int) + 1) 3 = ((min (hv + 1) 3 : Nat) : Int) := by omega
  generalize min (hv + 1) 3 = hn at *
  clear h hk h3 hn1
  go_enter Tryz.func94, Tryz.ntmps94
  go_wp2_with fail
  go_region
  have HW : Hid (S5 w ((w.alloc (.cells #[.pointer (some ⟨g, 1, none⟩), .pointer (some ⟨g, 4, none⟩)] 132)).drew) g F size ps (l ++ (k, hv) :: r) ks (.slice none 0 0) [] F1 F2 F3) := H.out.1.below ((Below.refl _ w).alloc (Nat.le_refl _) _).drew
  have hp0 : ((w.alloc (.cells #[.pointer (some ⟨g, 1, none⟩), .pointer (some ⟨g, 4, none⟩)] 132)).drew).cell? ⟨w.heap.size, 0, none⟩ = some (.pointer (some ⟨g, 1, none⟩)) := by show World.cell? (w.alloc _) _ = _; unfold World.cell?; rw [heap_alloc_new]; rfl
  have hp1 : ((w.alloc (.cells #[.pointer (some ⟨g, 1, none⟩), .pointer (some ⟨g, 4, none⟩)] 132)).drew).cell? ⟨w.heap.size, 1, none⟩ = some (.pointer (some ⟨g, 4, none⟩)) := by show World.cell? (w.alloc _) _ = _; unfold World.cell?; rw [heap_alloc_new]; rfl
  generalize (w.alloc (.cells #[.pointer (some ⟨g, 1, none⟩), .pointer (some ⟨g, 4, none⟩)] 132)).drew = W1 at *
  go_wp2_with fail
  go_loopg [5, 17] 2 (fun gq x y wr => W1 = wr ∧ x = .slice none 0 0 ∧ ∃ i, i ≤ 1 ∧ gq = 2 - i ∧ y = I (i : Nat))
  case atStart => exact ⟨rfl, rfl, 0, by omega, rfl, rfl⟩
  case round =>
    obtain ⟨rfl, rfl, i, hi, hgk, rfl⟩ := hrel
    obtain rfl | rfl : i = 0 ∨ i = 1 := by omega
    · go_wp2_with (go_at_call 97; refine (HW.out.r1.has H.out.2.1).mono ?_; rw [H.out.2.2.2]; rintro _ _ ⟨rfl, rfl⟩)
      go_roundg 1
      case measure => omega
      case rel => exact ⟨rfl, rfl, 1, by omega, rfl, rfl⟩
    · clear hgk hi hp0
      go_wp2_with (go_at_call 97; refine (HW.out.r2.has H.out.2.1).mono ?_; rw [H.out.2.2.1]; rintro _ W1 ⟨rfl, rfl⟩)
      refine HW.out.r2.at_.mono ?_
      rintro _ w1 ⟨b, x, d, rfl, hw1, h2, h3, h4⟩
      have H1 : Hid (Mi.Rw W1 (w1.setCell ⟨b, x * 4 + 1, none⟩ (I ((hn : Nat) : Int))) g 4 F2 (l ++ (k, hn) :: r)) := h4 hn
      clear h4 hw1
      go_wp2
      go_ret2
      obtain ⟨G1, hs⟩ := HW.out.s2 H1.out
      exact ⟨G1, rfl, hs⟩
end
end Go.Proofs.YtjcbpejplnaakaaGreat.Md
