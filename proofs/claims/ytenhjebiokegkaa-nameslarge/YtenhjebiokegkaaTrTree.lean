import Derived.Test.YtenhjebiokegkaaTrChk
namespace Go.Proofs.Ytenhjebiokegkaa.Gr
open Go.RowKit Go.Proofs.Ytenhjebiokegkaa.Sp Go.Proofs.Ytenhjebiokegkaa.Lx

theorem filled_kids {r : Rz} (h : filled r = true) : 0 ≤ r.kids := by
  unfold filled wtn at h
  simp at h
  omega
/-- no row is wrong: one tree -/
def mis : List Ab → Nat
  | [] => 0
  | a :: t => (a.kids - a.seen).toNat + mis t
theorem mis_pop (t : List Ab) : mis (pop t) = mis t := by
  induction t with
  | nil => rfl
  | cons a t ih =>
    simp only [pop]
    split
    · rw [ih]; simp only [mis]; omega
    · rfl
theorem wrong_whole (l : List Rz) : ∀ (t : List Ab) (i : Nat), (t = [] ∨ ∃ a r, t = a :: r ∧ (a.seen : Int) < a.kids) → (wrong t i l).2 = false → sz l (mis t) = some l.length := by
  induction l with
  | nil =>
    intro t i _ h
    cases t with
    | nil => rfl
    | cons a t => cases h
  | cons r l ih =>
    intro t i ht h
    simp only [wrong] at h
    split at h
    · cases h
    · rename_i hc
      rcases ht with rfl | ⟨a, t, rfl, hlt⟩
      · simp at hc
      · simp only [List.isEmpty_cons, Bool.false_or, Bool.not_eq_true', Bool.not_eq_false, Bool.and_eq_true] at hc
        have hk := filled_kids hc.2
        have hp : past (a :: t) r 0 = [] ∨ ∃ b q, past (a :: t) r 0 = b :: q ∧ (b.seen : Int) < b.kids := by
          have : ∀ x : List Ab, pop x = [] ∨ ∃ b q, pop x = b :: q ∧ (b.seen : Int) < b.kids := by
            intro x
            induction x with
            | nil => exact Or.inl rfl
            | cons c x ihx =>
              simp only [pop]
              split
              · exact ihx
              · exact Or.inr ⟨c, x, rfl, by omega⟩
          exact this _
        have h1 := ih _ _ hp h
        have hm : mis (past (a :: t) r 0) = mis (a :: t) - 1 + r.m := by
          show mis (pop _) = _
          rw [mis_pop]
          simp only [mis, bump, Rz.m]
          omega
        rw [hm] at h1
        exact sz_mk (by simp only [mis]; omega) h1
theorem whole_of {l : List Rz} (h : (wrong [ab1] 0 l).2 = false) : Whole l := wrong_whole l [ab1] 0 (Or.inr ⟨ab1, [], rfl, by show (0 : Int) < 1; omega⟩) h
/-- one tree, whose rows have as many kids as they say -/
structure TreeZ (l : List Rz) : Prop where
  whole : Whole l
  kids : ∀ i, i < l.length → (rat l i).kids = (km l i : Int)
/-- a row's kids' number, in memory -/
theorem kids_at {w : World} {ao : Option Addr} {l : List Rz} (h : IsRz w ao l) (hT : TreeZ l) {k : Nat} (hk : k < l.length) : ∃ g o, ao = some ⟨g, o, none⟩ ∧ g < w.heap.size ∧ w.cell? ⟨g, o + k * 5, none⟩ = some (.int .i64 (rat l k).kind) ∧ w.cell? ⟨g, o + k * 5 + 4, none⟩ = some (.int .i64 (km l k : Int)) := by
  obtain ⟨g, o, e, hg, c0, _, _, _, c4⟩ := h k _ (some_rat hk)
  rw [hT.kids k hk] at c4
  exact ⟨g, o, e, hg, c0, c4⟩
theorem wrong_all (l : List Rz) : ∀ (t : List Ab) (i : Nat), (wrong t i l).2 = false → ∀ r ∈ l, filled r = true := by
  induction l with
  | nil => intro _ _ _ r hr; cases hr
  | cons x l ih =>
    intro t i h r hr
    simp only [wrong] at h
    split at h
    · cases h
    · rename_i hc
      rcases List.mem_cons.1 hr with rfl | hr
      · cases hf : filled r
        · rw [hf] at hc; simp at hc
        · rfl
      · exact ih _ _ h r hr
theorem tree_of {l : List Rz} (h : (wrong [ab1] 0 l).2 = false) : TreeZ l ∧ 0 < l.length := by
  have hW := whole_of h
  refine ⟨⟨hW, fun i hi => ?_⟩, ?_⟩
  · have hm : rat l i ∈ l := List.mem_of_getElem? (some_rat hi)
    have := filled_kids (wrong_all l _ _ h _ hm)
    rw [km_rat]
    unfold Rz.m
    omega
  · have := (sz_pos (Nat.le_refl 1) hW).2
    omega
theorem km_le {l : List Rz} (h : Whole l) {m : Nat} (hm : m < l.length) : km l m ≤ l.length := by
  have : ∀ j, j ≤ km l m → j ≤ kidp l m j := by
    intro j
    induction j with
    | zero => intro _; omega
    | succ j ih =>
      intro hj
      obtain ⟨h1, h2, h3⟩ := kid_at h hm (k := j) (by omega)
      have h4 := (end_kid h h1).2.1
      have := ih (by omega)
      omega
  have h1 := this _ (Nat.le_refl _)
  have h2 := kid_le h hm (Nat.le_refl _)
  omega
/-- rows that are missing yet -/
def Mis (l : List Rz) (E m j : Nat) : Prop := ∃ x, sz (l.drop j) m = some x ∧ E = j + x
theorem mis_start {l : List Rz} (h : Whole l) {i : Nat} (hi : i < l.length) : Mis l (endp l i) 1 i := by
  obtain ⟨x, h1, h2, h3⟩ := one_at h hi
  exact ⟨x + 1, h2, by unfold endp; rw [h2]; rfl⟩
theorem mis_step {l : List Rz} {E m j : Nat} (h : Mis l E (m + 1) j) : j < l.length ∧ Mis l E (m + km l j) (j + 1) := by
  obtain ⟨x, h1, h2⟩ := h
  have h3 := sz_pos (by omega) h1
  rw [List.length_drop] at h3
  have hj : j < l.length := by omega
  obtain ⟨r, _, h5, h6⟩ := drop_at hj
  rw [h5] at h1
  obtain ⟨h7, h8⟩ := sz_cons (by omega) h1
  refine ⟨hj, x - 1, ?_, by omega⟩
  rw [h6, ← h8]
  congr 1
theorem mis_done {l : List Rz} {E j : Nat} (h : Mis l E 0 j) : E = j := by
  obtain ⟨x, h1, h2⟩ := h
  rw [sz_zero] at h1
  have := Option.some.inj h1
  omega
theorem mis_le : ∀ (l' : List Rz) (m x : Nat), sz l' m = some x → m ≤ l'.length := by
  intro l'
  induction l' with
  | nil => intro m x h; simp only [sz] at h; split at h <;> simp_all
  | cons r t ih =>
    intro m x h
    by_cases hm : m = 0
    · omega
    · have := ih _ _ (sz_cons (by omega) h).2
      simp only [List.length_cons]; omega

set_option maxHeartbeats 3200000 in
set_option maxRecDepth 100000 in
theorem end_any (ao : Option Addr) (l : List Rz) (cap i : Nat) (w : World) (h : IsRz w ao l) (hn : l.length ≤ 2932031007317) (hT : TreeZ l) (hi : i < l.length) :
    Calls Try.prog 34 #[.slice ao l.length cap, .int .i64 i] w fun e w' => e = .returned (.int .i64 (endp l i : Nat)) ∧ w' = w := by
  have HI : Hid (IsRz w ao l) := h
  have HT : Hid (TreeZ l) := hT
  have HN : Hid (l.length ≤ 2932031007317) := hn
  have HM : Hid (Mis l (endp l i) 1 i) := mis_start hT.whole hi
  have hln : (l.length : Int) ≤ 2932031007317 := by omega
  have hi2 : (i : Int) ≤ 2932031007317 := by omega
  clear h hn hT
  go_enter Try.func34, Try.ntmps34
  go_wp2_with fail
  go_loopg [1, 5] (l.length - i) (fun gq x y wr => ∃ j m : Nat, j ≤ l.length ∧ gq = l.length - j ∧ x = .int .i64 j ∧ y = .int .i64 m ∧ Mis l (endp l i) m j ∧ wr = w)
  case atStart => exact ⟨i, 1, by omega, rfl, rfl, rfl, HM.out, rfl⟩
  case round =>
    obtain ⟨j, m, hj, hgk, rfl, rfl, hMs, hw⟩ := hrel
    have HG : Hid (gk = l.length - j) := hgk
    have HMs : Hid (Mis l (endp l i) m j) := hMs
    rw [hw]
    clear hgk hMs hw
    have hj2 : (j : Int) ≤ 2932031007317 := by omega
    have hm2 : (m : Int) ≤ 2932031007317 := by
      obtain ⟨x, h1, _⟩ := HMs.out
      have := mis_le _ _ _ h1
      rw [List.length_drop] at this
      omega
    cases m with
    | zero =>
      have HE := show Hid _ from mis_done HMs.out
      go_wp2_with fail
      go_ret
      exact ⟨by rw [HE.out]; rfl, rfl⟩
    | succ m =>
      obtain ⟨hjl, hnx⟩ := mis_step HMs.out
      have HNx : Hid (Mis l (endp l i) (m + km l j) (j + 1)) := hnx
      have hjl' : (j : Int) < (l.length : Int) := by omega
      obtain ⟨g, o, rfl, hg, _, c4⟩ := kids_at HI.out HT.out hjl
      have hkm : (km l j : Int) ≤ 2932031007317 := by have := km_le HT.out.whole hjl; omega
      have hmp : (0 : Int) < ((m + 1 : Nat) : Int) := by omega
      have hcast : ((m + 1 : Nat) : Int) = (m : Int) + 1 := by omega
      rw [hcast] at hm2 hmp ⊢
      clear hnx hjl hj hcast
      go_wp2_with fail
      go_roundg (l.length - (j + 1))
      case measure => have h1 := HG.out; omega
      case rel => exact ⟨j + 1, m + km l j, by omega, rfl, by go_num, by go_num, HNx.out, rfl⟩
end Go.Proofs.Ytenhjebiokegkaa.Gr
