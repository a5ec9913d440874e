import Derived.Test.YtjcbpejplnaakaaGreatProg
namespace Go.Proofs.YtjcbpejplnaakaaGreat.Md

/-- a function, turned at one place -/
def up (f : Nat → Nat) (i v : Nat) : Nat → Nat := fun j => if j = i then v else f j
theorem up_same (f : Nat → Nat) (i v : Nat) : up f i v i = v := by simp [up]
theorem up_ne {f : Nat → Nat} {i v j : Nat} (h : j ≠ i) : up f i v j = f j := by simp [up, h]

/-- from x by the nodes of l to y, and back -/
def Seg (ah be : Nat → Nat) : Nat → List Nat → Nat → Prop
  | x, [], y => be x = y ∧ ah y = x
  | x, z :: l, y => be x = z ∧ ah z = x ∧ Seg ah be z l y
theorem Seg.frame {ah be ah' be' : Nat → Nat} : ∀ {l : List Nat} {x y : Nat}, Seg ah be x l y → (∀ i ∈ x :: l, be' i = be i) → (∀ i, i ∈ l ∨ i = y → ah' i = ah i) → Seg ah' be' x l y
  | [], x, y, h, hb, ha => ⟨(hb x (by simp)).trans h.1, (ha y (Or.inr rfl)).trans h.2⟩
  | z :: l, x, y, h, hb, ha => ⟨(hb x (by simp)).trans h.1, (ha z (Or.inl (by simp))).trans h.2.1, h.2.2.frame (fun i hi => hb i (List.mem_cons_of_mem _ hi)) fun i hi => ha i (hi.imp (List.mem_cons_of_mem _) id)⟩
theorem Seg.ahm {ah be : Nat → Nat} : ∀ {p : List Nat} {x n y : Nat} {s : List Nat}, Seg ah be x (p ++ n :: s) y → ah n ∈ x :: p
  | [], x, n, y, s, h => by rw [h.2.1]; simp
  | z :: p, x, n, y, s, h => List.mem_cons_of_mem _ (h.2.2.ahm)
theorem Seg.bem {ah be : Nat → Nat} : ∀ {p : List Nat} {x n y : Nat} {s : List Nat}, Seg ah be x (p ++ n :: s) y → be n ∈ s ∨ be n = y
  | [], x, n, y, [], h => Or.inr h.2.2.1
  | [], x, n, y, z :: s, h => Or.inl (by rw [h.2.2.1]; simp)
  | z :: p, x, n, y, s, h => h.2.2.bem
theorem Seg.cut {ah be : Nat → Nat} : ∀ {p : List Nat} {x n y : Nat} {s : List Nat}, Seg ah be x (p ++ n :: s) y → (x :: (p ++ n :: s)).Nodup → y ∉ p ++ n :: s → Seg (up ah (be n) (ah n)) (up be (ah n) (be n)) x (p ++ s) y
  | [], x, n, y, [], h, hd, hy => by
    obtain ⟨h1, h2, h3, h4⟩ := h
    rw [h2, h3]
    exact ⟨up_same _ _ _, up_same _ _ _⟩
  | [], x, n, y, z :: s, h, hd, hy => by
    obtain ⟨h1, h2, h3, h4, h5⟩ := h
    rw [h2, h3]
    simp only [List.nil_append, List.nodup_cons, List.mem_cons, not_or] at hd hy
    refine ⟨up_same _ _ _, up_same _ _ _, h5.frame (fun i hi => up_ne ?_) fun i hi => up_ne ?_⟩
    · rintro rfl
      rcases List.mem_cons.1 hi with e | e
      · exact hd.1.2.1 e
      · exact hd.1.2.2 e
    · rintro rfl
      rcases hi with e | e
      · exact hd.2.2.1 e
      · exact hy.2.1 e.symm
  | u :: p, x, n, y, s, h, hd, hy => by
    obtain ⟨h1, h2, h3⟩ := h
    have hd2 := hd
    simp only [List.cons_append, List.nodup_cons, List.mem_cons, List.mem_append, not_or] at hd hy
    have ha := h3.ahm
    have hb := h3.bem
    have hcut := h3.cut (List.nodup_cons.1 hd2).2 (by simp only [List.mem_append, List.mem_cons, not_or]; exact hy.2)
    refine ⟨(up_ne ?_).trans h1, (up_ne ?_).trans h2, hcut⟩
    · intro e
      rw [← e] at ha
      rcases List.mem_cons.1 ha with e | e
      · exact hd.1.1 e
      · exact hd.1.2.1 e
    · intro e
      rw [← e] at hb
      rcases hb with e | e
      · exact hd.2.1.2.2 e
      · exact hy.1 e.symm
theorem Seg.link {ah be : Nat → Nat} {n : Nat} : ∀ {l : List Nat}, Seg ah be 0 l 0 → (0 :: l).Nodup → n ∉ 0 :: l → Seg (up (up ah n 0) (be 0) n) (up (up be n (be 0)) 0 n) 0 (n :: l) 0
  | [], h, hd, hn => by
    obtain ⟨h1, h2⟩ := h
    simp only [List.mem_cons, List.not_mem_nil, or_false] at hn
    rw [h1]
    exact ⟨up_same _ _ _, (up_ne hn).trans (up_same _ _ _), (up_ne hn).trans (up_same _ _ _), up_same _ _ _⟩
  | y :: l, h, hd, hn => by
    obtain ⟨h1, h2, h3⟩ := h
    simp only [List.mem_cons, not_or] at hn
    simp only [List.nodup_cons, List.mem_cons, not_or] at hd
    rw [h1]
    refine ⟨up_same _ _ _, (up_ne hn.2.1).trans (up_same _ _ _), (up_ne hn.1).trans (up_same _ _ _), up_same _ _ _, h3.frame (fun i hi => (up_ne ?_).trans (up_ne ?_)) fun i hi => (up_ne ?_).trans (up_ne ?_)⟩
    · rintro rfl
      rcases List.mem_cons.1 hi with e | e
      · exact hd.1.1 e
      · exact hd.1.2 e
    · rintro rfl
      rcases List.mem_cons.1 hi with e | e
      · exact hn.2.1 e
      · exact hn.2.2 e
    · rintro rfl
      rcases hi with e | e
      · exact hd.2.1 e
      · exact hd.1.1 e.symm
    · rintro rfl
      rcases hi with e | e
      · exact hn.2.2 e
      · exact hn.1 e

/-- the nodes that were freed -/
def Fre (ah : Nat → Nat) : Nat → List Nat → Prop
  | x, [] => x = 0
  | x, y :: l => x = y ∧ Fre ah (ah y) l
theorem Fre.frame {ah ah' : Nat → Nat} : ∀ {l : List Nat} {x : Nat}, Fre ah x l → (∀ i ∈ l, ah' i = ah i) → Fre ah' x l
  | [], _, h, _ => h
  | y :: l, x, h, ha => ⟨h.1, by rw [ha y (by simp)]; exact h.2.frame fun i hi => ha i (List.mem_cons_of_mem _ hi)⟩

/-- what lies in a row's nodes -/
structure Rs where
  key : Nat → Nat
  ah : Nat → Nat
  be : Nat → Nat
  n : Nat
  freed : Nat
/-- a row: its nodes from the front to the back, the freed ones; aw: nodes that are nowhere -/
structure Inv (c : Rs) (ns fr aw : List Nat) : Prop where
  seg : Seg c.ah c.be 0 ns 0
  nd : (0 :: (ns ++ (fr ++ aw))).Nodup
  lt : ∀ x ∈ 0 :: (ns ++ (fr ++ aw)), x < c.n
  fre : Fre c.ah c.freed fr
  kd : (ns.map c.key).Nodup
  cnt : c.n = 1 + (ns ++ (fr ++ aw)).length

/-- what the calls do -/
def Rs.put (c : Rs) : Rs := { c with key := up c.key c.n 0, ah := up c.ah c.n 0, be := up c.be c.n 0, n := c.n + 1 }
def Rs.take (c : Rs) : Rs := { c with freed := c.ah c.freed }
def Rs.named (c : Rs) (n k : Nat) : Rs := { c with key := up c.key n k }
def Rs.link (c : Rs) (n : Nat) : Rs := { c with ah := up (up c.ah n 0) (c.be 0) n, be := up (up c.be n (c.be 0)) 0 n }
def Rs.unlink (c : Rs) (n : Nat) : Rs := { c with ah := up c.ah (c.be n) (c.ah n), be := up c.be (c.ah n) (c.be n) }
def Rs.free (c : Rs) (n : Nat) : Rs := { c with key := up c.key n 0, ah := up c.ah n c.freed, be := up c.be n 0, freed := n }

section
variable {c : Rs} {ns fr aw : List Nat} {n k : Nat}
theorem Inv.put (h : Inv c ns fr []) (h0 : fr = []) : Inv c.put ns [] [c.n] := by
  subst h0
  have hl := h.lt
  have hd := h.nd
  simp only [List.append_nil] at hl hd
  refine ⟨h.seg.frame (fun i hi => up_ne (Nat.ne_of_lt (hl i hi))) fun i hi => up_ne (Nat.ne_of_lt (hl i ?_)), ?_, ?_, h.fre, ?_, ?_⟩
  · rcases hi with e | rfl
    · exact List.mem_cons_of_mem _ e
    · simp
  · rw [List.nil_append, show (0 :: (ns ++ [c.n])) = (0 :: ns) ++ [c.n] from rfl, List.nodup_append]
    refine ⟨hd, by simp, fun a ha b hb => ?_⟩
    rw [List.mem_singleton] at hb
    subst hb
    exact Nat.ne_of_lt (hl a ha)
  · intro x hx
    show x < c.n + 1
    rw [List.nil_append, ← List.cons_append, List.mem_append] at hx
    rcases hx with e | e
    · exact Nat.lt_succ_of_lt (hl x e)
    · rw [List.mem_singleton] at e
      omega
  · have : ns.map c.put.key = ns.map c.key := List.map_congr_left fun i hi => up_ne (Nat.ne_of_lt (hl i (List.mem_cons_of_mem _ hi)))
    rw [this]
    exact h.kd
  · have := h.cnt
    simp only [List.length_append, List.length_nil, List.length_cons] at this ⊢
    show c.n + 1 = _
    omega
theorem Inv.freed0 (h : Inv c ns fr aw) : c.freed = 0 ↔ fr = [] := by
  cases fr with
  | nil => exact ⟨fun _ => rfl, fun _ => h.fre⟩
  | cons y l =>
    have h1 := h.fre.1
    have := (List.nodup_cons.1 h.nd).1
    simp only [List.mem_append, List.mem_cons, not_or] at this
    simp only [reduceCtorEq, iff_false]
    intro e
    exact this.2.1.1 (by omega)
theorem Inv.take (h : Inv c ns fr []) (h0 : c.freed ≠ 0) : ∃ l, fr = c.freed :: l ∧ Inv c.take ns l [c.freed] := by
  cases fr with
  | nil => exact absurd h.fre h0
  | cons y l =>
    obtain ⟨h1, h2⟩ := h.fre
    refine ⟨l, by rw [h1], h.seg, ?_, ?_, ?_, h.kd, ?_⟩
    · have hp : (0 :: (ns ++ (y :: l ++ []))).Perm (0 :: (ns ++ (l ++ [y]))) := by
        refine List.Perm.cons _ (List.Perm.append_left _ ?_)
        simpa using (List.perm_append_singleton y l).symm
      rw [h1]
      exact hp.nodup_iff.1 h.nd
    · intro x hx
      refine h.lt x ?_
      rw [h1] at hx
      simp only [List.mem_cons, List.mem_append, List.not_mem_nil, or_false] at hx ⊢
      rcases hx with e | e | e | e
      · exact Or.inl e
      · exact Or.inr (Or.inl e)
      · exact Or.inr (Or.inr (Or.inr e))
      · exact Or.inr (Or.inr (Or.inl e))
    · show Fre c.ah (c.ah c.freed) l
      rw [h1]
      exact h2
    · have := h.cnt
      simp only [List.length_append, List.length_nil, List.length_cons] at this ⊢
      show c.n = _
      omega
theorem Inv.named (h : Inv c ns fr [n]) (k : Nat) : Inv (c.named n k) ns fr [n] := by
  refine ⟨h.seg, h.nd, h.lt, h.fre, ?_, h.cnt⟩
  have : ns.map (c.named n k).key = ns.map c.key := List.map_congr_left fun i hi => up_ne ?_
  · rw [this]
    exact h.kd
  · rintro rfl
    have := (List.nodup_append.1 (List.nodup_cons.1 h.nd).2).2.2 i hi i (by simp)
    exact this rfl
theorem Inv.link (h : Inv c ns fr [n]) (hk : c.key n ∉ ns.map c.key) : Inv (c.link n) (n :: ns) fr [] := by
  have hd := h.nd
  have hp : (0 :: (ns ++ (fr ++ [n]))).Perm (0 :: (n :: ns ++ (fr ++ []))) := by
    refine List.Perm.cons _ ?_
    rw [List.append_nil, ← List.append_assoc]
    exact List.perm_append_singleton n (ns ++ fr)
  have hd2 := hp.nodup_iff.1 hd
  simp only [List.append_nil, List.cons_append, List.nodup_cons, List.mem_cons, List.mem_append, not_or, List.nodup_append] at hd2
  obtain ⟨⟨q1, q2, q3⟩, ⟨q4, q5⟩, q6, q7, q8⟩ := hd2
  have hns : (0 :: ns).Nodup := List.nodup_cons.2 ⟨q2, q6⟩
  refine ⟨h.seg.link hns (by simp only [List.mem_cons, not_or]; exact ⟨fun e => q1 e.symm, q4⟩), hp.nodup_iff.1 hd, fun x hx => h.lt x (hp.mem_iff.2 hx), h.fre.frame fun i hi => ?_, ?_, h.cnt.trans (by have := hp.length_eq; simp only [List.length_cons, List.length_append] at this ⊢; omega)⟩
  · refine (up_ne ?_).trans (up_ne ?_)
    · have hb : c.be 0 ∈ ns ∨ c.be 0 = 0 := by
        cases hn : ns with
        | nil => exact Or.inr (by have := h.seg; rw [hn] at this; exact this.1)
        | cons z l => exact Or.inl (by have := h.seg; rw [hn] at this; rw [this.1]; simp)
      rintro rfl
      rcases hb with e | e
      · exact q8 _ e _ hi rfl
      · rw [e] at hi
        exact q3 hi
    · rintro rfl
      exact q5 hi
  · exact List.nodup_cons.2 ⟨hk, h.kd⟩
theorem Inv.unlink {p s : List Nat} (h : Inv c (p ++ n :: s) fr aw) : Inv (c.unlink n) (p ++ s) fr (aw ++ [n]) := by
  have hp : (0 :: (p ++ n :: s ++ (fr ++ aw))).Perm (0 :: (p ++ s ++ (fr ++ (aw ++ [n])))) := by
    refine List.Perm.cons _ ?_
    have : (p ++ n :: s ++ (fr ++ aw)).Perm (n :: (p ++ s ++ (fr ++ aw))) := by
      simp only [List.append_assoc, List.cons_append]
      exact List.perm_middle
    refine this.trans ?_
    have e := (List.perm_append_singleton n (p ++ s ++ (fr ++ aw))).symm
    simp only [List.append_assoc] at e ⊢
    exact e
  have hd := h.nd
  have hd2 := h.nd
  simp only [List.nodup_cons, List.mem_append, not_or] at hd2
  have hn : (0 :: (p ++ n :: s)).Nodup := by
    rw [← List.cons_append] at hd
    exact (List.nodup_append.1 hd).1
  have h0 : 0 ∉ p ++ n :: s := (List.nodup_cons.1 hn).1
  have hbe := h.seg.bem
  refine ⟨h.seg.cut hn h0, hp.nodup_iff.1 hd, fun x hx => h.lt x (hp.mem_iff.2 hx), h.fre.frame fun i hi => up_ne ?_, ?_, h.cnt.trans (by have := hp.length_eq; simp only [List.length_cons, List.length_append] at this ⊢; omega)⟩
  · rintro rfl
    rcases hbe with e | e
    · have := (List.nodup_append.1 (List.nodup_cons.1 hd).2).2.2 (c.be n) (by simp [e]) (c.be n) (by simp [hi])
      exact this rfl
    · rw [e] at hi
      exact hd2.1.2.1 hi
  · have hk := h.kd
    show ((p ++ s).map c.key).Nodup
    refine hk.sublist (List.Sublist.map _ ?_)
    exact List.Sublist.append (List.Sublist.refl _) (List.sublist_cons_self _ _)
theorem Inv.free (h : Inv c ns fr [n]) : Inv (c.free n) ns (n :: fr) [] := by
  have hp : (0 :: (ns ++ (fr ++ [n]))).Perm (0 :: (ns ++ (n :: fr ++ []))) := by
    refine List.Perm.cons _ (List.Perm.append_left _ ?_)
    rw [List.append_nil]
    exact List.perm_append_singleton n fr
  have hd := hp.nodup_iff.1 h.nd
  have hd2 := hd
  simp only [List.append_nil, List.nodup_cons, List.mem_cons, List.mem_append, not_or, List.nodup_append] at hd2
  obtain ⟨⟨q1, q2, q3⟩, q4, ⟨q5, q6⟩, q7⟩ := hd2
  have hn : n ∉ ns := fun e => q7 n e n (Or.inl rfl) rfl
  refine ⟨h.seg.frame (fun i hi => up_ne ?_) fun i hi => up_ne ?_, hd, fun x hx => h.lt x (hp.mem_iff.2 hx), ⟨rfl, ?_⟩, ?_, h.cnt.trans (by have := hp.length_eq; simp only [List.length_cons, List.length_append] at this ⊢; omega)⟩
  · rintro rfl
    rcases List.mem_cons.1 hi with e | e
    · exact q2 e.symm
    · exact hn e
  · rintro rfl
    rcases hi with e | e
    · exact hn e
    · exact q2 e.symm
  · show Fre (up c.ah n c.freed) (up c.ah n c.freed n) fr
    rw [up_same]
    refine h.fre.frame fun i hi => up_ne ?_
    rintro rfl
    exact q5 hi
  · have : ns.map (c.free n).key = ns.map c.key := List.map_congr_left fun i hi => up_ne ?_
    · rw [this]
      exact h.kd
    · rintro rfl
      exact hn hi
theorem Seg.last {ah be : Nat → Nat} : ∀ {l : List Nat} {x y : Nat}, Seg ah be x l y → ah y = l.getLast?.getD x
  | [], _, _, h => h.2
  | z :: l, x, y, h => by
    rw [h.2.2.last, List.getLast?_cons]
    rfl
theorem Seg.beAt {ah be : Nat → Nat} : ∀ {l : List Nat} {x y : Nat}, Seg ah be x l y → ∀ (j : Nat) (z : Nat), (x :: l)[j]? = some z → be z = l[j]?.getD y
  | [], x, y, h, 0, z, hz => by
    simp only [List.getElem?_cons_zero, Option.some.injEq] at hz
    subst hz
    exact h.1
  | [], x, y, h, j + 1, z, hz => by simp at hz
  | u :: l, x, y, h, 0, z, hz => by
    simp only [List.getElem?_cons_zero, Option.some.injEq] at hz
    subst hz
    exact h.1
  | u :: l, x, y, h, j + 1, z, hz => by
    rw [List.getElem?_cons_succ] at hz ⊢
    exact h.2.2.beAt j z hz
theorem Inv.be0 (h : Inv c ns fr aw) : c.be 0 < c.n := by
  have hs := h.seg
  cases hn : ns with
  | nil =>
    rw [hn] at hs
    rw [hs.1]
    exact h.lt 0 (by simp)
  | cons z l =>
    rw [hn] at hs
    rw [hs.1]
    exact h.lt z (by simp [hn])
theorem Inv.pos (h : Inv c ns fr aw) : 0 < c.n := h.lt 0 (by simp)
theorem Inv.ah0 (h : Inv c ns fr aw) : c.ah 0 < c.n := by
  rw [h.seg.last]
  cases hn : ns.getLast? with
  | none => exact h.pos
  | some z => exact h.lt z (by simp [List.mem_of_getLast? hn])
theorem Inv.ahx {p s : List Nat} (h : Inv c (p ++ n :: s) fr aw) : c.ah n < c.n := by
  have := h.seg.ahm
  refine h.lt _ ?_
  simp only [List.mem_cons, List.mem_append] at this ⊢
  rcases this with e | e
  · exact Or.inl e
  · exact Or.inr (Or.inl (Or.inl e))
theorem Inv.bex {p s : List Nat} (h : Inv c (p ++ n :: s) fr aw) : c.be n < c.n := by
  have := h.seg.bem
  refine h.lt _ ?_
  simp only [List.mem_cons, List.mem_append]
  rcases this with e | e
  · exact Or.inr (Or.inl (Or.inr (Or.inr e)))
  · exact Or.inl e
theorem Inv.nx {p s : List Nat} (h : Inv c (p ++ n :: s) fr aw) : n < c.n := h.lt n (by simp)
/-- what the map tells -/
def Mp (m : Nat → Option Int) (c : Rs) (ns : List Nat) : Prop := ∀ k x, m k = some x ↔ ∃ n ∈ ns, c.key n = k ∧ x = (n : Int)
theorem Mp.none {m : Nat → Option Int} (h : Mp m c ns) : m k = none ↔ k ∉ ns.map c.key := by
  constructor
  · intro e hk
    obtain ⟨n, h1, h2⟩ := List.mem_map.1 hk
    have := (h k n).2 ⟨n, h1, h2, rfl⟩
    rw [e] at this
    cases this
  · intro hk
    cases e : m k with
    | none => rfl
    | some x =>
      obtain ⟨n, h1, h2, _⟩ := (h k x).1 e
      exact absurd (List.mem_map.2 ⟨n, h1, h2⟩) hk
theorem Mp.isSome {m : Nat → Option Int} (h : Mp m c ns) : (m k).isSome = decide (k ∈ ns.map c.key) := by
  by_cases hk : k ∈ ns.map c.key
  · rw [decide_eq_true hk]
    cases e : m k with
    | none => exact absurd hk (h.none.1 e)
    | some x => rfl
  · rw [decide_eq_false hk, h.none.2 hk]
    rfl
end
end Go.Proofs.YtjcbpejplnaakaaGreat.Md
