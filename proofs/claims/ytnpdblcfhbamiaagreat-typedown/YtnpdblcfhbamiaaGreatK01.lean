import Derived.Test.YtnpdblcfhbamiaaGreatK00
namespace Go.Proofs.YtnpdblcfhbamiaaGreat.Lx
theorem blk_split (f : Bool) (l : List Nat) : ∃ p, l = p ++ blk f l ∧ btw f p = true := by
  induction l generalizing f with
  | nil => exact ⟨[], by cases f <;> simp [blk], by cases f <;> rfl⟩
  | cons c r ih =>
    cases f
    · simp only [blk]
      split
      · rename_i h
        obtain ⟨p, h1, h2⟩ := ih false
        exact ⟨c :: p, by rw [List.cons_append, ← h1], by simp [btw, h, h2]⟩
      · rename_i h
        split
        · rename_i h3
          obtain ⟨p, h1, h2⟩ := ih true
          exact ⟨c :: p, by rw [List.cons_append, ← h1], by simp only [btw, if_neg h, if_pos h3, h2]⟩
        · exact ⟨[], rfl, rfl⟩
    · simp only [blk]
      obtain ⟨p, h1, h2⟩ := ih (c != 10)
      exact ⟨c :: p, by rw [List.cons_append, ← h1], by simp only [btw, h2]⟩
theorem blk_front (f : Bool) (l : List Nat) (q : Nat) : blk f (l.take q) = (blk f l).take (q - (l.length - (blk f l).length)) := by
  induction l generalizing f q with
  | nil => simp [blk]
  | cons c r ih =>
    cases q with
    | zero => simp [blk]
    | succ q =>
      rw [List.take_succ_cons]
      cases f
      · simp only [blk]
        split
        · have hl := blk_len false r
          rw [ih, List.length_cons]; congr 1; omega
        · split
          · have hl := blk_len true r
            rw [ih, List.length_cons]; congr 1; omega
          · simp
      · simp only [blk]
        have hl := blk_len (c != 10) r
        rw [ih, List.length_cons]; congr 1; omega
def shaped : List Nat → Bool
  | [] => false
  | c :: r => isL c && r.all isW
def isName (t : List Nat) : Bool := decide (t.length ≤ 64) && shaped t && !kept.contains t
theorem kept_shaped : kept.all (fun t => shaped t && decide (t.length ≤ 20)) = true := by decide +kernel
theorem shaped_of_kept {t : List Nat} (h : kept.contains t = true) : shaped t = true ∧ t.length ≤ 20 := by
  have h1 := List.all_eq_true.1 kept_shaped t (by simpa using h)
  simpa using h1
/-- what is known of a token by its bytes -/
structure Alone (t : List Nat) (x : Tok) : Prop where
  first : piece t = some (x.kind, t.length)
  short : ¬ (x.kind = 2 ∧ 64 < t.length)
  value : num x.kind t = x.n
  small : ¬ 1073741824 < x.n
  word : (x.kind = 5) ↔ kept.contains t = true
  name : (x.kind = 2) ↔ isName t = true
theorem piece_kinds {c : Nat} {r : List Nat} {k n : Nat} (h : piece (c :: r) = some (k, n)) :
    (isL c = true ∧ n = (r.takeWhile isW).length + 1 ∧ ((k = 5 ∧ kept.contains (c :: r.takeWhile isW) = true) ∨ (k = 2 ∧ kept.contains (c :: r.takeWhile isW) = false))) ∨ (isL c = false ∧ (k = 3 ∨ k = 4)) := by
  simp only [piece] at h
  split at h
  · rename_i h1
    refine Or.inl ⟨h1, ?_⟩
    split at h
    · rename_i h2; simp only [Option.some.injEq, Prod.mk.injEq] at h; exact ⟨h.2.symm, Or.inl ⟨h.1.symm, h2⟩⟩
    · rename_i h2; simp only [Option.some.injEq, Prod.mk.injEq] at h; exact ⟨h.2.symm, Or.inr ⟨h.1.symm, by simpa using h2⟩⟩
  · rename_i h1
    refine Or.inr ⟨by simpa using h1, ?_⟩
    split at h
    · simp at h; omega
    · split at h
      · simp at h; omega
      · split at h <;> simp at h
        omega
theorem alone_of {m : List Nat} {p k n : Nat} (h : piece m = some (k, n)) (hn : ¬ (k = 2 ∧ 64 < n)) (hv : ¬ 1073741824 < num k (m.take n)) : Alone (m.take n) ⟨k, p, p + n, num k (m.take n)⟩ := by
  have hl := piece_len h
  have hp := piece_pos h
  have e : (m.take n).length = n := by simp; omega
  cases m with
  | nil => simp [piece] at h
  | cons c r =>
    have hk := piece_kinds h
    obtain ⟨n, rfl⟩ : ∃ x, n = x + 1 := ⟨n - 1, by omega⟩
    have et : (c :: r).take (n + 1) = c :: r.take n := rfl
    refine ⟨by rw [e]; exact piece_front h (Nat.le_refl _), by rw [e]; exact hn, rfl, hv, ?_, ?_⟩
    · rcases hk with ⟨h1, h2, h3⟩ | ⟨h1, h2⟩
      · have e2 : r.take n = r.takeWhile isW := by
          have := takeWhile_take (p := isW) r
          rw [← this]; congr 1; omega
        rw [et, e2]
        rcases h3 with ⟨h3, h4⟩ | ⟨h3, h4⟩
        · simp only [h3, h4]
        · subst h3; rw [h4]; simp
      · rw [et]
        constructor
        · intro hx; simp only at hx; omega
        · intro hx
          have := (shaped_of_kept hx).1
          simp [shaped, h1] at this
    · rcases hk with ⟨h1, h2, h3⟩ | ⟨h1, h2⟩
      · have e2 : r.take n = r.takeWhile isW := by
          have := takeWhile_take (p := isW) r
          rw [← this]; congr 1; omega
        have e3 : shaped (c :: r.takeWhile isW) = true := by
          simp only [shaped, h1, Bool.true_and, List.all_eq_true]
          exact fun x hx => takeWhile_mem x hx
        rw [et, e2]
        rcases h3 with ⟨h3, h4⟩ | ⟨h3, h4⟩
        · subst h3; simp only [isName, e3, h4]; simp
        · subst h3
          have h5 : (c :: r.takeWhile isW).length ≤ 64 := by simp; omega
          simp only [isName, e3, h4, decide_eq_true h5]; simp
      · rw [et]
        constructor
        · intro hx; simp only at hx; omega
        · intro hx
          simp [isName, shaped, h1] at hx
theorem Alone.scanned {t : List Nat} {x : Tok} (h : Alone t x) : scan t 0 0 = .ok [⟨x.kind, 0, t.length, x.n⟩, ⟨0, t.length, t.length, 0⟩] := by
  have h1 := h.first
  cases t with
  | nil => simp [piece] at h1
  | cons c r =>
    have hb := blk_head (r := r) (piece_head h1)
    have hv := h.small
    rw [← h.value] at hv
    rw [scan_tok hb (by simp) (by decide) h1 h.short (by rw [List.take_length]; exact hv), List.take_length, List.drop_length, scan_nil (by rfl)]
    simp [Res.cons, h.value]
def slice (w : List Nat) (a b : Nat) : List Nat := (w.drop a).take (b - a)
inductive Cov (w : List Nat) : Nat → List Tok → Prop
  | last (a : Nat) : a ≤ w.length → btw false (w.drop a) = true → Cov w a [⟨0, w.length, w.length, 0⟩]
  | tok (a : Nat) (x : Tok) (ts : List Tok) : a ≤ x.at_ → x.at_ < x.stop → x.stop ≤ w.length → btw false (slice w a x.at_) = true → Alone (slice w x.at_ x.stop) x → Cov w x.stop ts → Cov w a (x :: ts)
theorem Cov.pos {w : List Nat} {a : Nat} {ts : List Tok} (h : Cov w a ts) : ts ≠ [] := by cases h <;> simp
theorem covers (w : List Nat) : ∀ (N : Nat) (l : List Nat) (p k : Nat) (ts : List Tok), l.length ≤ N → w.drop p = l → p ≤ w.length → scan l p k = .ok ts → Cov w p ts := by
  intro N
  induction N with
  | zero =>
    intro l p k ts hN hw hp hs
    obtain rfl : l = [] := List.length_eq_zero_iff.1 (by omega)
    have e : p = w.length := by have := congrArg List.length hw; simp at this; omega
    rw [scan_nil rfl] at hs
    injection hs with hs
    subst hs
    simp only [List.length_nil, Nat.add_zero]
    rw [e]
    exact Cov.last _ (Nat.le_refl _) (by rw [List.drop_length]; rfl)
  | succ N ih =>
    intro l p k ts hN hw hp hs
    have hlen : l.length = w.length - p := by rw [← hw]; simp
    obtain ⟨b, hb1, hb2⟩ := blk_split false l
    by_cases hm : blk false l = []
    · rw [scan_nil hm] at hs
      injection hs with hs
      subst hs
      have e : p + l.length = w.length := by omega
      rw [e]
      refine Cov.last _ hp ?_
      rw [hw, hb1, hm, List.append_nil]; exact hb2
    · by_cases hk : k = 65536
      · rw [scan_many rfl hm hk] at hs; cases hs
      · cases hpc : piece (blk false l) with
        | none => rw [scan_byte rfl hm hk hpc] at hs; cases hs
        | some y =>
          obtain ⟨kd, n⟩ := y
          by_cases hn : kd = 2 ∧ 64 < n
          · obtain ⟨rfl, hn⟩ := hn
            rw [scan_name rfl hm hk hpc hn] at hs; cases hs
          · by_cases hv : 1073741824 < num kd ((blk false l).take n)
            · rw [scan_number rfl hm hk hpc hn hv] at hs; cases hs
            · rw [scan_tok rfl hm hk hpc hn hv] at hs
              have h1 := piece_pos hpc
              have h2 := piece_len hpc
              have h3 := blk_len false l
              have hbl : b.length = l.length - (blk false l).length := by have := congrArg List.length hb1; simp at this; omega
              have e1 : w.drop (p + b.length) = blk false l := by
                rw [← List.drop_drop, hw, hb1]
                have : (b ++ blk false l).drop b.length = blk false l := by simp
                rw [← hb1]
                rw [← hb1] at this
                exact this
              cases hr : scan ((blk false l).drop n) (p + (l.length - (blk false l).length) + n) (k + 1) with
              | fault e i => rw [hr] at hs; cases hs
              | ok ts' =>
                rw [hr] at hs
                injection hs with hs
                subst hs
                rw [← hbl] at hr ⊢
                refine Cov.tok _ _ _ (by simp) (by simp; omega) (by simp; omega) ?_ ?_ ?_
                · simp only [slice]
                  rw [hw, show p + b.length - p = b.length by omega, hb1]
                  have : (b ++ blk false l).take b.length = b := by simp
                  rw [← hb1]
                  rw [← hb1] at this
                  rw [this]; exact hb2
                · simp only [slice]
                  rw [e1, show p + b.length + n - (p + b.length) = n by omega]
                  exact alone_of hpc hn hv
                · exact ih _ _ (k + 1) _ (by simp; omega) (by rw [← List.drop_drop, e1]) (by simp; omega) hr
theorem count : ∀ (N : Nat) (l : List Nat) (p k : Nat) (ts : List Tok), l.length ≤ N → k ≤ 65536 → scan l p k = .ok ts → ts.length + k ≤ 65537 := by
  intro N
  induction N with
  | zero =>
    intro l p k ts hN hk hs
    obtain rfl : l = [] := List.length_eq_zero_iff.1 (by omega)
    rw [scan_nil rfl] at hs
    injection hs with hs
    subst hs; simp; omega
  | succ N ih =>
    intro l p k ts hN hk0 hs
    by_cases hm : blk false l = []
    · rw [scan_nil hm] at hs
      injection hs with hs
      subst hs; simp; omega
    · by_cases hk : k = 65536
      · rw [scan_many rfl hm hk] at hs; cases hs
      · cases hpc : piece (blk false l) with
        | none => rw [scan_byte rfl hm hk hpc] at hs; cases hs
        | some y =>
          obtain ⟨kd, n⟩ := y
          by_cases hn : kd = 2 ∧ 64 < n
          · obtain ⟨rfl, hn⟩ := hn
            rw [scan_name rfl hm hk hpc hn] at hs; cases hs
          · by_cases hv : 1073741824 < num kd ((blk false l).take n)
            · rw [scan_number rfl hm hk hpc hn hv] at hs; cases hs
            · rw [scan_tok rfl hm hk hpc hn hv] at hs
              have h1 := piece_pos hpc
              have h3 := blk_len false l
              have h4 : (blk false l).length ≠ 0 := fun h => hm (List.length_eq_zero_iff.1 h)
              cases hr : scan ((blk false l).drop n) (p + (l.length - (blk false l).length) + n) (k + 1) with
              | fault e i => rw [hr] at hs; cases hs
              | ok ts' =>
                rw [hr] at hs
                injection hs with hs
                subst hs
                have := ih _ _ (k + 1) _ (by simp; omega) (by omega) hr
                simp; omega
/-- tokens' bytes, a filling ahead of each -/
def weave (F : Nat → List Nat) (w : List Nat) : Nat → List Tok → List Nat
  | _, [] => []
  | i, x :: ts => F i ++ (slice w x.at_ x.stop ++ weave F w (i + 1) ts)
def wants (F : Nat → List Nat) : Nat → Nat → List Tok → List Tok
  | _, _, [] => []
  | i, q, x :: ts => ⟨x.kind, q + (F i).length, q + (F i).length + (x.stop - x.at_), x.n⟩ :: wants F (i + 1) (q + (F i).length + (x.stop - x.at_)) ts
/-- a filling: blanks and remarks that end, at least one byte -/
structure Fills (f : List Nat) : Prop where
  skip : ∀ m, blk false (f ++ m) = blk false m
  head : ∃ c r, f = c :: r ∧ isS c = true
theorem blanks {F : Nat → List Nat} (hF : ∀ i, Fills (F i)) {w : List Nat} {a : Nat} {ts : List Tok} (h : Cov w a ts) : ∀ (i q k : Nat), ts.length + k ≤ 65537 → scan (weave F w i ts) q k = .ok (wants F i q ts) := by
  induction h with
  | last a h1 h2 =>
    intro i q k hk
    have e : weave F w i [⟨0, w.length, w.length, 0⟩] = F i := by simp [weave, slice]
    have hb : blk false (F i) = [] := by have := (hF i).skip []; rw [List.append_nil] at this; rw [this]; rfl
    rw [e, scan_nil hb]
    simp [wants]
  | tok a x ts h1 h2 h3 h4 h5 h6 ih =>
    intro i q k hk
    have hl : (slice w x.at_ x.stop).length = x.stop - x.at_ := by simp [slice]; omega
    have hne : ts.length ≠ 0 := fun h => h6.pos (List.length_eq_zero_iff.1 h)
    simp only [List.length_cons] at hk
    have hr : ∀ c ∈ (weave F w (i + 1) ts).head?, isS c = true := by
      cases ts with
      | nil => simp [weave]
      | cons y ts =>
        obtain ⟨c, r, e, hc⟩ := (hF (i + 1)).head
        simp [weave, e, hc]
    have hp := piece_more h5.first hr
    have hm : blk false (F i ++ (slice w x.at_ x.stop ++ weave F w (i + 1) ts)) = slice w x.at_ x.stop ++ weave F w (i + 1) ts := by
      rw [(hF i).skip]
      cases hs : slice w x.at_ x.stop with
      | nil => rw [hs] at hl; simp at hl; omega
      | cons c r =>
        rw [hs, List.cons_append] at hp
        rw [List.cons_append, blk_head (piece_head hp)]
    have ht : (slice w x.at_ x.stop ++ weave F w (i + 1) ts).take (slice w x.at_ x.stop).length = slice w x.at_ x.stop := by simp
    have hd : (slice w x.at_ x.stop ++ weave F w (i + 1) ts).drop (slice w x.at_ x.stop).length = weave F w (i + 1) ts := by simp
    simp only [weave, wants]
    rw [scan_tok hm (by intro h; rw [(List.append_eq_nil_iff.1 h).1] at hl; simp at hl; omega) (by omega) hp h5.short (by rw [ht, h5.value]; exact h5.small), hd, ht, h5.value]
    have e : q + ((F i ++ (slice w x.at_ x.stop ++ weave F w (i + 1) ts)).length - (slice w x.at_ x.stop ++ weave F w (i + 1) ts).length) = q + (F i).length := by simp
    rw [e, hl, ih (i + 1) _ (k + 1) (by omega)]
    rfl
theorem fills_of {f : List Nat} (h : f ∈ [[32], [9], [10], [13, 10], [32, 32, 9], [32, 35, 32, 120, 32, 125, 32, 34, 10], [35, 10]]) : Fills f := by
  simp only [List.mem_cons, List.not_mem_nil, or_false] at h
  rcases h with rfl | rfl | rfl | rfl | rfl | rfl | rfl <;> exact ⟨fun m => by simp [blk, isB], _, _, rfl, by decide⟩
theorem val_over (n : Nat) (h : 1073741824 < n) (l : List Nat) : 1073741824 < val n l := by
  induction l generalizing n with
  | nil => rw [val_nil]; exact h
  | cons d r ih =>
    rw [val_cons]
    refine ih _ ?_
    unfold capd
    split
    · omega
    · omega
theorem val_append (n : Nat) (a b : List Nat) : val n (a ++ b) = val (val n a) b := by
  induction a generalizing n with
  | nil => rw [List.nil_append, val_nil]
  | cons d r ih => rw [List.cons_append, val_cons, val_cons, ih]
theorem val_front {l : List Nat} (q : Nat) (h : ¬ 1073741824 < val 0 l) : ¬ 1073741824 < val 0 (l.take q) := by
  intro h1
  have e := val_append 0 (l.take q) (l.drop q)
  rw [List.take_append_drop] at e
  have := val_over _ h1 (l.drop q)
  rw [← e] at this
  exact h this
/-- a token that is cut: what stands there then is a token that has no fault, or no token (half a sign) -/
theorem piece_cut {m : List Nat} {kd n q : Nat} (h : piece m = some (kd, n)) (hn : ¬ (kd = 2 ∧ 64 < n)) (hv : ¬ 1073741824 < num kd (m.take n)) (h1 : 1 ≤ q) (hq : q < n) :
    (piece (m.take q) = none ∧ q = 1) ∨ ∃ kd', piece (m.take q) = some (kd', q) ∧ ¬ (kd' = 2 ∧ 64 < q) ∧ ¬ 1073741824 < num kd' (m.take q) := by
  have hl := piece_len h
  cases m with
  | nil => simp [piece] at h
  | cons c r =>
    obtain ⟨q, rfl⟩ : ∃ x, q = x + 1 := ⟨q - 1, by omega⟩
    have e0 : (c :: r).take (q + 1) = c :: r.take q := rfl
    have hs := h
    simp only [piece] at h
    split at h
    · rename_i h2
      have hlen : n = (r.takeWhile isW).length + 1 := by split at h <;> (simp at h; omega)
      have e1 : ((r.take q).takeWhile isW).length = q := by rw [takeWhile_front, List.length_take]; omega
      have h64 : n ≤ 64 := by
        split at h
        · rename_i h3
          have := (shaped_of_kept h3).2
          simp at this; omega
        · simp at h; omega
      refine Or.inr ?_
      rw [e0]
      simp only [piece]
      rw [if_pos h2, e1]
      split
      · exact ⟨5, rfl, by omega, by simp [num]⟩
      · exact ⟨2, rfl, by omega, by simp [num]⟩
    · rename_i h2
      split at h
      · rename_i h3
        simp only [Option.some.injEq, Prod.mk.injEq] at h
        have e1 : ((r.take q).takeWhile isD).length = q := by rw [takeWhile_front, List.length_take]; omega
        refine Or.inr ⟨3, ?_, by omega, ?_⟩
        · rw [e0]
          simp only [piece]
          rw [if_neg h2, if_pos h3, e1]
        · obtain ⟨rfl, rfl⟩ := h
          simp only [num, if_true] at hv ⊢
          have := val_front (q + 1) hv
          rw [List.take_take, Nat.min_eq_left (by omega)] at this
          exact this
      · rename_i h3
        have hn2 : n ≤ 2 := by
          split at h
          · simp at h; omega
          · split at h <;> simp at h
            omega
        obtain rfl : q = 0 := by omega
        rw [e0]
        simp only [piece, List.take_zero, List.take_nil]
        rw [if_neg h2, if_neg h3, if_neg (by rw [sign2_one]; decide)]
        split
        · exact Or.inr ⟨4, rfl, by omega, by simp [num]⟩
        · exact Or.inl (by simp)
def Res.upTo (q p len : Nat) : Res → Prop
  | .ok _ => q ≤ len
  | .fault _ e => p + q ≤ e
theorem fronts : ∀ (N : Nat) (l : List Nat) (p k q : Nat), l.length ≤ N → (scan l p k).upTo q p l.length → (∃ ts, scan (l.take q) p k = .ok ts) ∨ (1 ≤ q ∧ scan (l.take q) p k = .fault 11 (p + q - 1)) := by
  intro N
  induction N with
  | zero =>
    intro l p k q hN _
    obtain rfl : l = [] := List.length_eq_zero_iff.1 (by omega)
    exact Or.inl ⟨_, by rw [List.take_nil]; exact scan_nil rfl⟩
  | succ N ih =>
    intro l p k q hN hq
    have h3 := blk_len false l
    have hbf := blk_front false l q
    by_cases hd : q ≤ l.length - (blk false l).length
    · rw [Nat.sub_eq_zero_of_le hd, List.take_zero] at hbf
      exact Or.inl ⟨_, scan_nil hbf⟩
    · have hne : blk false l ≠ [] := by
        intro hm
        rw [scan_nil hm] at hq
        rw [hm] at hd
        simp only [Res.upTo, List.length_nil] at hq hd
        omega
      by_cases hk : k = 65536
      · rw [scan_many rfl hne hk] at hq; simp only [Res.upTo] at hq; omega
      · cases hpc : piece (blk false l) with
        | none => rw [scan_byte rfl hne hk hpc] at hq; simp only [Res.upTo] at hq; omega
        | some y =>
          obtain ⟨kd, n⟩ := y
          by_cases hn : kd = 2 ∧ 64 < n
          · obtain ⟨rfl, hn⟩ := hn
            rw [scan_name rfl hne hk hpc hn] at hq; simp only [Res.upTo] at hq; omega
          · by_cases hv : 1073741824 < num kd ((blk false l).take n)
            · rw [scan_number rfl hne hk hpc hn hv] at hq; simp only [Res.upTo] at hq; omega
            · rw [scan_tok rfl hne hk hpc hn hv] at hq
              have h1 := piece_pos hpc
              have h2 := piece_len hpc
              have hll : (l.take q).length - ((blk false l).take (q - (l.length - (blk false l).length))).length = l.length - (blk false l).length := by
                simp only [List.length_take]; omega
              have hne2 : (blk false l).take (q - (l.length - (blk false l).length)) ≠ [] := by
                intro h
                have := congrArg List.length h
                simp only [List.length_take, List.length_nil] at this
                omega
              by_cases hc : n ≤ q - (l.length - (blk false l).length)
              · have hp2 := piece_front hpc hc
                have ht : ((blk false l).take (q - (l.length - (blk false l).length))).take n = (blk false l).take n := by rw [List.take_take]; congr 1; omega
                have hdr : ((blk false l).take (q - (l.length - (blk false l).length))).drop n = ((blk false l).drop n).take (q - (l.length - (blk false l).length) - n) := by rw [List.drop_take]
                rw [scan_tok hbf hne2 hk hp2 hn (by rw [ht]; exact hv), hll, hdr, ht]
                have hq2 : (scan ((blk false l).drop n) (p + (l.length - (blk false l).length) + n) (k + 1)).upTo (q - (l.length - (blk false l).length) - n) (p + (l.length - (blk false l).length) + n) ((blk false l).drop n).length := by
                  cases hr : scan ((blk false l).drop n) (p + (l.length - (blk false l).length) + n) (k + 1) with
                  | ok ts => rw [hr] at hq; simp only [Res.cons, Res.upTo, List.length_drop] at hq ⊢; omega
                  | fault e i => rw [hr] at hq; simp only [Res.cons, Res.upTo] at hq ⊢; omega
                rcases ih _ _ (k + 1) _ (by simp only [List.length_drop]; omega) hq2 with ⟨ts, hts⟩ | ⟨g1, g2⟩
                · exact Or.inl ⟨_, by rw [hts]; rfl⟩
                · refine Or.inr ⟨by omega, ?_⟩
                  rw [g2]
                  simp only [Res.cons]
                  congr 1
                  omega
              · rcases piece_cut hpc hn hv (by omega) (Nat.lt_of_not_le hc) with ⟨g1, g2⟩ | ⟨kd', g1, g2, g3⟩
                · refine Or.inr ⟨by omega, ?_⟩
                  rw [scan_byte hbf hne2 hk g1, hll]
                  congr 1
                  omega
                · have ht : ((blk false l).take (q - (l.length - (blk false l).length))).take (q - (l.length - (blk false l).length)) = (blk false l).take (q - (l.length - (blk false l).length)) := by rw [List.take_take, Nat.min_self]
                  left
                  rw [scan_tok hbf hne2 hk g1 g2 (by rw [ht]; exact g3), scan_nil (by rw [List.drop_eq_nil_of_le (by simp only [List.length_take]; omega)]; rfl)]
                  exact ⟨_, rfl⟩
theorem front_ok : ∀ (N : Nat) (l : List Nat) (p k e i : Nat), l.length ≤ N → scan l p k = .fault e i → p ≤ i ∧ i < p + l.length ∧ ∃ ts, scan (l.take (i - p)) p k = .ok ts := by
  intro N
  induction N with
  | zero =>
    intro l p k e i hN hs
    obtain rfl : l = [] := List.length_eq_zero_iff.1 (by omega)
    rw [scan_nil rfl] at hs
    cases hs
  | succ N ih =>
    intro l p k e i hN hs
    have h3 := blk_len false l
    by_cases hm : blk false l = []
    · rw [scan_nil hm] at hs; cases hs
    · have h4 : (blk false l).length ≠ 0 := fun h => hm (List.length_eq_zero_iff.1 h)
      have here : ∀ j, j = p + (l.length - (blk false l).length) → p ≤ j ∧ j < p + l.length ∧ ∃ ts, scan (l.take (j - p)) p k = .ok ts := by
        intro j hj
        refine ⟨by omega, by omega, _, scan_nil ?_⟩
        rw [blk_front, Nat.sub_eq_zero_of_le (by omega), List.take_zero]
      by_cases hk : k = 65536
      · rw [scan_many rfl hm hk] at hs; injection hs with _ h; exact here i h.symm
      · cases hpc : piece (blk false l) with
        | none => rw [scan_byte rfl hm hk hpc] at hs; injection hs with _ h; exact here i h.symm
        | some y =>
          obtain ⟨kd, n⟩ := y
          by_cases hn : kd = 2 ∧ 64 < n
          · obtain ⟨rfl, hn⟩ := hn
            rw [scan_name rfl hm hk hpc hn] at hs; injection hs with _ h; exact here i h.symm
          · by_cases hv : 1073741824 < num kd ((blk false l).take n)
            · rw [scan_number rfl hm hk hpc hn hv] at hs; injection hs with _ h; exact here i h.symm
            · rw [scan_tok rfl hm hk hpc hn hv] at hs
              have h1 := piece_pos hpc
              have h2 := piece_len hpc
              cases hr : scan ((blk false l).drop n) (p + (l.length - (blk false l).length) + n) (k + 1) with
              | ok ts => rw [hr] at hs; cases hs
              | fault e' i' =>
                rw [hr] at hs
                injection hs with hs1 hs2
                subst hs1; subst hs2
                obtain ⟨g1, g2, ts, g3⟩ := ih _ _ (k + 1) _ _ (by simp only [List.length_drop]; omega) hr
                simp only [List.length_drop] at g2
                refine ⟨by omega, by omega, ?_⟩
                have hbf := blk_front false l (i' - p)
                have hll : (l.take (i' - p)).length - ((blk false l).take (i' - p - (l.length - (blk false l).length))).length = l.length - (blk false l).length := by
                  simp only [List.length_take]; omega
                have hne2 : (blk false l).take (i' - p - (l.length - (blk false l).length)) ≠ [] := by
                  intro h
                  have := congrArg List.length h
                  simp only [List.length_take, List.length_nil] at this
                  omega
                have hp2 := piece_front (q := i' - p - (l.length - (blk false l).length)) hpc (by omega)
                have ht : ((blk false l).take (i' - p - (l.length - (blk false l).length))).take n = (blk false l).take n := by rw [List.take_take]; congr 1; omega
                have hdr : ((blk false l).take (i' - p - (l.length - (blk false l).length))).drop n = ((blk false l).drop n).take (i' - (p + (l.length - (blk false l).length) + n)) := by rw [List.drop_take]; congr 1; omega
                rw [scan_tok hbf hne2 hk hp2 hn (by rw [ht]; exact hv), hll, hdr, ht, g3]
                exact ⟨_, rfl⟩
end Go.Proofs.YtnpdblcfhbamiaaGreat.Lx
