import Derived.Test.YtjcbpejplnaakaaGreatJB
import Derived.Test.YtjcbpejplnaakaaGreatJC
import Derived.Test.YtjcbpejplnaakaaGreatJD
import Derived.Test.YtjcbpejplnaakaaGreatJE
import Derived.Test.YtjcbpejplnaakaaGreatJF
namespace Go.Proofs.YtjcbpejplnaakaaGreat.Mr
open Go.RowKit Go.Maps Go.Proofs.YtjcbpejplnaakaaGreat.Nm Go.Proofs.YtjcbpejplnaakaaGreat.Md

/-- what was told is the caller's own -/
def Tz (w w' : World) (F' : List Nat) (v : Value) (out : List Nat) : Prop := KRd w' v out ∧ w'.ownsRow w.heap.size 33 1 v out.length (out.map U) ∧ ∀ b, v.ownBlock = some b → b ∉ F'
theorem tz_nil (w w' : World) (F' : List Nat) : Tz w w' F' (.slice none 0 0) [] := ⟨(krc_nil w').1, World.ownsRow_nil _ _ _ _, fun b e => by cases e⟩
theorem Tz.of {w w' : World} {F' out : List Nat} {v : Value} (h : Tld w w' F' v out) : Tz w w' F' v out := by
  have hk := h.krd.1
  rcases h with ⟨rfl, rfl⟩ | ⟨x, b, c, rfl, rfl, h1, h2, h3, h4⟩
  · exact tz_nil _ _ _
  · refine ⟨hk, h1.own h2, fun b' e => ?_⟩
    cases e
    exact h4
/-- what a kind of cache promises, and the reference's of that kind beside it: σ what both are -/
structure Kz (T fa fk kd size : Nat) (σ : Type) (s0 : σ) (key : σ → List Nat) (Sp : σ → Nat → Bool → σ → List Nat → Prop) (P : World → Nat → List Nat → σ → Prop) (inv : σ → Prop) (rel : σ → St → Prop) : Prop where
  acc : ∀ {w : World} {g : Nat} {F : List Nat} {s : σ} {k : Nat}, P w g F s → k < 18446744073709551616 → Calls Tryz.prog fa #[.pointer (some ⟨g, 0, none⟩), U k] w fun e w' => ∃ v F' s' out hit, e = .returned (.tuple #[.bool hit, v]) ∧ P w' g F' s' ∧ Fr F w w' ∧ (∀ x ∈ F', x ∈ F ∨ w.heap.size ≤ x) ∧ Tz w w' F' v out ∧ Sp s k hit s' out
  keys : ∀ {w : World} {g : Nat} {F : List Nat} {s : σ}, P w g F s → Calls Tryz.prog fk #[.pointer (some ⟨g, 0, none⟩)] w fun e w' => ∃ v, e = .returned v ∧ w'.ownsRow w.heap.size 33 1 v (key s).length ((key s).map U) ∧ Below w.heap.size w w'
  below : ∀ {w w' : World} {g : Nat} {F : List Nat} {s : σ}, P w g F s → Below w.heap.size w w' → ∃ F', P w' g F' s ∧ ∀ x ∈ F', x ∈ F
  lt : ∀ {w : World} {g : Nat} {F : List Nat} {s : σ}, P w g F s → ∀ x ∈ F, x < w.heap.size
  keep : ∀ {w w' : World} {g : Nat} {F G : List Nat} {s : σ}, P w g F s → Fr G w w' → (∀ x ∈ F, x ∉ G) → P w' g F s
  iv : ∀ {w : World} {g : Nat} {F : List Nat} {s : σ}, P w g F s → inv s
  le : ∀ {s : σ}, inv s → (key s).length ≤ 1048576
  ol : ∀ {s s' : σ} {k : Nat} {hit : Bool} {out : List Nat}, inv s → Sp s k hit s' out → out.length ≤ 1000000000
  rkey : ∀ {s : σ} {t : St}, rel s t → t.A ++ t.B = key s
  rel0 : rel s0 st0
  racc : ∀ {w : World} {g m : Nat} {X : List Nat} {V : Vs} {s s' : σ} {t : St} {k : Nat} {hit : Bool} {out : List Nat}, Rz w g m kd size X V t → inv s → rel s t → Sp s k hit s' out → k < 18446744073709551616 → t.n ≤ 1000000000 → Calls Tryz.prog 7 #[.pointer (some ⟨g, 0, none⟩), U k] w fun e w' => ∃ v V' t', e = .returned (.tuple #[.bool hit, v]) ∧ Rz w' g m kd size X V' t' ∧ rel s' t' ∧ t'.n ≤ t.n + 1 ∧ Fr [g, m] w w' ∧ KRd w' v out
theorem ncnt_le (N : Nat → Option Nat) (n x : Nat) : ncnt N n x ≤ n + 1 := by unfold ncnt; split <;> omega
theorem wo_nd {l : List Nat} {x : Nat} (h : l.Nodup) : wo l x = l.erase x := by
  unfold wo
  rw [List.Nodup.erase_eq_filter h]
section
variable {w w' w0 : World} {g size k p kd m : Nat} {F ks ks' out a o X : List Nat} {v : Value} {V : Vs} {t : St} {hit : Bool}
theorem krd_nil (w : World) : KRd w (.slice none 0 0) [] := (krc_nil w).1
/-- FIFO, a step -/
inductive Sp0 (size : Nat) : List Nat → Nat → Bool → List Nat → List Nat → Prop
  | hit (ks : List Nat) (k : Nat) : k ∈ ks → Sp0 size ks k true ks []
  | new (ks : List Nat) (k : Nat) : k ∉ ks → ks.length < size → Sp0 size ks k false (k :: ks) []
  | full (l : List Nat) (x k : Nat) : k ∉ l ++ [x] → (l ++ [x]).length = size → Sp0 size (l ++ [x]) k false (k :: l) [x]
inductive Sp1 (size : Nat) : List Nat → Nat → Bool → List Nat → List Nat → Prop
  | hit (ks : List Nat) (k : Nat) : k ∈ ks → Sp1 size ks k true (k :: ks.erase k) []
  | new (ks : List Nat) (k : Nat) : k ∉ ks → ks.length < size → Sp1 size ks k false (k :: ks) []
  | full (l : List Nat) (x k : Nat) : k ∉ l ++ [x] → (l ++ [x]).length = size → Sp1 size (l ++ [x]) k false (k :: l) [x]
def inv1 (size : Nat) (ks : List Nat) : Prop := ks.Nodup ∧ ks.length ≤ size ∧ size ≤ 1048576
/-- the reference has the keys in A -/
def rel1 (ks : List Nat) (t : St) : Prop := t.A = ks ∧ t.B = [] ∧ t.G = [] ∧ t.H = []
/-- the reference's miss of FIFO and LRU, where there is room -/
theorem one_new (h : Rz w g m kd size X V t) (hkd : kd < 3) (hr : rel1 ks t) (hi : inv1 size ks) (hk : k ∉ ks) (hl : ks.length < size) (hk2 : k < 18446744073709551616) (hn : t.n ≤ 1000000000) : Calls Tryz.prog 7 #[.pointer (some ⟨g, 0, none⟩), U k] w fun e w' => ∃ v V' t', e = .returned (.tuple #[.bool false, v]) ∧ Rz w' g m kd size X V' t' ∧ (rel1 (k :: ks) t' ∧ t'.N = nset t.N k 0) ∧ t'.n ≤ t.n + 1 ∧ Fr [g, m] w w' ∧ KRd w' v [] := by
  obtain ⟨r1, r2, r3, r4⟩ := hr
  obtain ⟨i1, i2, i3⟩ := hi
  obtain ⟨tA, tB, tG, tH, tN, tn, tp, tO⟩ := t
  simp only at r1 r2 r3 r4 hn
  subst r1 r2 r3 r4
  refine (acc_1 (Q := fun s' => (rel1 (k :: tA) s' ∧ s'.N = nset tN k 0) ∧ s'.n ≤ tn + 1 ∧ s'.O = []) h ⟨hk, by simp⟩ ⟨by show tA.length ≤ _; omega, by simp⟩ hkd (fun w1 V1 h1 => ?_)).mono ?_
  · refine (one_n h1 (by simp; omega) hk2 (by show tn < maxLen; unfold maxLen; omega) (by simp; omega)).mono ?_
    rintro _ w2 ⟨rfl, V2, h2⟩
    exact ⟨rfl, V2, ⟨k :: tA, [], [], [], nset tN k 0, ncnt tN tn k, tp, []⟩, ⟨⟨⟨rfl, rfl, rfl, rfl⟩, rfl⟩, ncnt_le _ _ _, rfl⟩, h2⟩
  · rintro _ w2 ⟨V2, s2, rfl, ⟨q1, q2, q3⟩, q4, q5, q6⟩
    rw [q3] at q6
    exact ⟨_, V2, s2, rfl, q4, q1, q2, q5, q6⟩
theorem one_full {l : List Nat} {x : Nat} (h : Rz w g m kd size X V t) (hkd : kd < 2) (hr : rel1 (l ++ [x]) t) (hi : inv1 size (l ++ [x])) (hk : k ∉ l ++ [x]) (hl : (l ++ [x]).length = size) (hk2 : k < 18446744073709551616) (hn : t.n ≤ 1000000000) : Calls Tryz.prog 7 #[.pointer (some ⟨g, 0, none⟩), U k] w fun e w' => ∃ v V' t', e = .returned (.tuple #[.bool false, v]) ∧ Rz w' g m kd size X V' t' ∧ rel1 (k :: l) t' ∧ t'.n ≤ t.n + 1 ∧ Fr [g, m] w w' ∧ KRd w' v [x] := by
  obtain ⟨r1, r2, r3, r4⟩ := hr
  obtain ⟨i1, i2, i3⟩ := hi
  obtain ⟨tA, tB, tG, tH, tN, tn, tp, tO⟩ := t
  simp only at r1 r2 r3 r4 hn
  subst r1 r2 r3 r4
  refine (acc_1 (Q := fun s' => rel1 (k :: l) s' ∧ s'.n ≤ tn + 1 ∧ s'.O = [x]) h ⟨hk, by simp⟩ ⟨by show (l ++ [x]).length ≤ _; omega, by simp⟩ (by omega) (fun w1 V1 h1 => ?_)).mono ?_
  · refine (one_f h1 (by simp at i2 ⊢; omega) (by omega) hk2 (by show tn < maxLen; unfold maxLen; omega) (by simp at hl ⊢; omega)).mono ?_
    rintro _ w2 ⟨rfl, V2, h2⟩
    exact ⟨rfl, V2, ⟨k :: l, [], [], [], nset tN k 0, ncnt tN tn k, tp, [] ++ [x]⟩, ⟨⟨rfl, rfl, rfl, rfl⟩, ncnt_le _ _ _, rfl⟩, h2⟩
  · rintro _ w2 ⟨V2, s2, rfl, ⟨q1, q2, q3⟩, q4, q5, q6⟩
    rw [q3] at q6
    exact ⟨_, V2, s2, rfl, q4, q1, q2, q5, q6⟩
/-- FIFO -/
theorem kzFifo (h0 : 0 < size) (hz : size ≤ 1048576) : Kz 44 60 61 0 size (List Nat) [] id (Sp0 size) (fun w g F ks => Ca w g size F ks ∧ ks.length ≤ size) (inv1 size) rel1 where
  acc := by
    rintro w g F ks k ⟨h, hl⟩ hk
    by_cases hm : k ∈ ks
    · refine (fifo_hit h.rw hm hk).mono ?_
      rintro _ w' ⟨rfl, rfl⟩
      exact ⟨_, F, ks, [], true, rfl, ⟨h, hl⟩, Fr.refl _ _, fun x hx => Or.inl hx, tz_nil _ _ _, .hit ks k hm⟩
    · by_cases hf : ks.length = size
      · obtain ⟨l, x, rfl⟩ : ∃ l x, ks = l ++ [x] := ⟨ks.dropLast, ks.getLast (by rintro rfl; simp at hf; omega), (List.dropLast_concat_getLast _).symm⟩
        refine (fifo_full h.rw hm hk h.sz hf (by omega)).mono ?_
        rintro _ w' ⟨b, c, F', rfl, q1, q2, q3, q4, q5, q6, q7⟩
        exact ⟨_, F', k :: l, [x], false, rfl, ⟨⟨q5, (q1.rest (by omega)).trans h.sz, fun x hx => (q7 x hx).1⟩, by simp at hf ⊢; omega⟩, q1.fr_, fun x hx => (q7 x hx).2, Tz.of (w := w) (F' := F') (Or.inr ⟨x, b, c, rfl, rfl, q4, q2, q3, q6⟩), .full l x k hm hf⟩
      · refine (fifo_miss h.rw hm hk h.sz (by omega) (by omega)).mono ?_
        rintro _ w' ⟨rfl, q1⟩
        obtain ⟨F5, c1, c2, c3⟩ := h.reb q1
        exact ⟨_, F5, k :: ks, [], false, rfl, ⟨c1, by simp; omega⟩, c2, c3, tz_nil _ _ _, .new ks k hm (by omega)⟩
  keys := fun h => h.1.keys (by have := h.2; omega)
  below := fun h hb => ⟨_, ⟨h.1.below hb, h.2⟩, fun x hx => hx⟩
  lt := fun h => h.1.lt
  keep := fun h hf hd => ⟨h.1.keep hf hd, h.2⟩
  iv := fun h => ⟨h.1.rw.nodup, h.2, hz⟩
  le := fun h => Nat.le_trans h.2.1 h.2.2
  ol := fun _ h => by cases h <;> simp
  rkey := fun h => by rw [h.1, h.2.1, List.append_nil]; rfl
  rel0 := ⟨rfl, rfl, rfl, rfl⟩
  racc := by
    intro w g m X V s s' t k hit out h hi hr hs hk hn
    cases hs with
    | hit _ _ hm =>
      refine (acc_hitA (Q := fun u => rel1 s u ∧ u.n ≤ t.n + 1) h (by rw [hr.1]; exact hm) ⟨by rw [hr.1]; have := hi.2; omega, by rw [hr.2.1]; simp⟩ (fun w1 V1 h1 => ?_)).mono ?_
      · refine (hit0 h1 (by rw [hr.1, hr.2.1, hr.2.2.1, hr.2.2.2]; have := hi.2; simp; omega) rfl).mono ?_
        rintro _ w2 ⟨rfl, V2, h2⟩
        exact ⟨rfl, V2, ⟨t.A, t.B, t.G, t.H, t.N, t.n, t.p, []⟩, ⟨hr, Nat.le_succ _⟩, h2⟩
      · rintro _ w2 ⟨rfl, V2, s2, ⟨q1, q2⟩, q3, q4⟩
        exact ⟨_, V2, s2, rfl, q3, q1, q2, q4, krd_nil _⟩
    | new _ _ hm hl =>
      refine (one_new h (by omega) hr hi hm hl hk hn).mono ?_
      rintro _ w2 ⟨v, V2, s2, rfl, q1, q2, q3⟩
      exact ⟨v, V2, s2, rfl, q1, q2.1, q3⟩
    | full l x _ hm hl => exact one_full h (by omega) hr hi hm hl hk hn
/-- LRU -/
theorem kzLru (h0 : 0 < size) (hz : size ≤ 1048576) : Kz 46 72 61 1 size (List Nat) [] id (Sp1 size) (fun w g F ks => Ca w g size F ks ∧ ks.length ≤ size) (inv1 size) rel1 where
  acc := by
    rintro w g F ks k ⟨h, hl⟩ hk
    refine (lru_any h hk hl (by omega) h0).mono ?_
    rintro _ w' ⟨v, F', rfl, q1, q2, q3, q4⟩
    have hs : Sp1 size ks k (decide (k ∈ ks)) (lruNext size ks k) (lruOut size ks k) ∧ (lruNext size ks k).length ≤ size := by
      by_cases hm : k ∈ ks
      · have e1 : lruNext size ks k = k :: ks.erase k := if_pos hm
        have e2 : lruOut size ks k = [] := if_pos hm
        rw [e1, e2, decide_eq_true hm]
        have e := List.length_erase_of_mem hm
        have hp := List.length_pos_of_mem hm
        exact ⟨.hit ks k hm, by simp; omega⟩
      · by_cases hf : ks.length = size
        · obtain ⟨l, x, rfl⟩ : ∃ l x, ks = l ++ [x] := ⟨ks.dropLast, ks.getLast (by rintro rfl; simp at hf; omega), (List.dropLast_concat_getLast _).symm⟩
          have e1 : lruNext size (l ++ [x]) k = k :: l := by unfold lruNext; rw [if_neg hm, if_pos hf, List.dropLast_concat]
          have e2 : lruOut size (l ++ [x]) k = [x] := by unfold lruOut; rw [if_neg hm, if_pos hf]; simp
          rw [e1, e2, decide_eq_false hm]
          exact ⟨.full l x k hm hf, by simp at hf ⊢; omega⟩
        · have e1 : lruNext size ks k = k :: ks := by unfold lruNext; rw [if_neg hm, if_neg hf]
          have e2 : lruOut size ks k = [] := by unfold lruOut; rw [if_neg hm, if_neg hf]
          rw [e1, e2, decide_eq_false hm]
          exact ⟨.new ks k hm (by omega), by simp; omega⟩
    exact ⟨v, F', _, _, _, rfl, ⟨q1, hs.2⟩, q2, q3, Tz.of q4, hs.1⟩
  keys := fun h => h.1.keys (by have := h.2; omega)
  below := fun h hb => ⟨_, ⟨h.1.below hb, h.2⟩, fun x hx => hx⟩
  lt := fun h => h.1.lt
  keep := fun h hf hd => ⟨h.1.keep hf hd, h.2⟩
  iv := fun h => ⟨h.1.rw.nodup, h.2, hz⟩
  le := fun h => Nat.le_trans h.2.1 h.2.2
  ol := fun _ h => by cases h <;> simp
  rkey := fun h => by rw [h.1, h.2.1, List.append_nil]; rfl
  rel0 := ⟨rfl, rfl, rfl, rfl⟩
  racc := by
    intro w g m X V s s' t k hit out h hi hr hs hk hn
    cases hs with
    | hit _ _ hm =>
      refine (acc_hitA (Q := fun u => rel1 (k :: s.erase k) u ∧ u.n ≤ t.n + 1) h (by rw [hr.1]; exact hm) ⟨by rw [hr.1]; have := hi.2; omega, by rw [hr.2.1]; simp⟩ (fun w1 V1 h1 => ?_)).mono ?_
      · refine (hit1 h1 (by rw [hr.1, hr.2.1, hr.2.2.1, hr.2.2.2]; have := hi.2; simp; omega) rfl (by rw [hr.1]; exact hm)).mono ?_
        rintro _ w2 ⟨rfl, V2, h2⟩
        refine ⟨rfl, V2, ⟨k :: wo t.A k, t.B, t.G, t.H, t.N, t.n, t.p, []⟩, ⟨⟨?_, hr.2⟩, Nat.le_succ _⟩, h2⟩
        show k :: wo t.A k = _
        rw [hr.1, wo_nd hi.1]
      · rintro _ w2 ⟨rfl, V2, s2, ⟨q1, q2⟩, q3, q4⟩
        exact ⟨_, V2, s2, rfl, q3, q1, q2, q4, krd_nil _⟩
    | new _ _ hm hl =>
      refine (one_new h (by omega) hr hi hm hl hk hn).mono ?_
      rintro _ w2 ⟨v, V2, s2, rfl, q1, q2, q3⟩
      exact ⟨v, V2, s2, rfl, q1, q2.1, q3⟩
    | full l x _ hm hl => exact one_full h (by omega) hr hi hm hl hk hn
end
end Go.Proofs.YtjcbpejplnaakaaGreat.Mr

namespace Go.Proofs.YtjcbpejplnaakaaGreat.Mr
open Go.RowKit Go.Maps Go.Proofs.YtjcbpejplnaakaaGreat.Nm Go.Proofs.YtjcbpejplnaakaaGreat.Md

section
variable {w w' w0 : World} {g size k p kd m : Nat} {F ks ks' out a o X : List Nat} {v : Value} {V : Vs} {t : St} {hit : Bool} {ps qs : List (Nat × Bool)}
/-- CLOCK, a step -/
inductive Spc (size : Nat) : List (Nat × Bool) → Nat → Bool → List (Nat × Bool) → List Nat → Prop
  | hit (ps : List (Nat × Bool)) (k : Nat) : k ∈ fb ps → Spc size ps k true (Mb.setB ps k true) []
  | new (ps : List (Nat × Bool)) (k : Nat) : k ∉ fb ps → ps.length < size → Spc size ps k false ((k, false) :: ps) []
  | full (ps l : List (Nat × Bool)) (x k : Nat) : k ∉ fb ps → ps.length = size → Mb.rot ps = l ++ [(x, false)] → Spc size ps k false ((k, false) :: l) [x]
def Pc (size : Nat) (w : World) (g : Nat) (F : List Nat) (ps : List (Nat × Bool)) : Prop := Mb.Rw w w g 1 F ps ∧ w.cell? ⟨g, 0, none⟩ = some (I size) ∧ (∀ x ∈ F, x < w.heap.size) ∧ ps.length ≤ size
theorem Pc.reb {qs : List (Nat × Bool)} (hs : w.cell? ⟨g, 0, none⟩ = some (I size)) (hr : Mb.Rw w w' g 1 F qs) (hl : qs.length ≤ size) : ∃ F', Pc size w' g F' qs ∧ Fr F w w' ∧ ∀ x ∈ F', x ∈ F ∨ w.heap.size ≤ x := by
  obtain ⟨F5, hR5, hF5⟩ := hr.rebase (Below.refl _ _)
  exact ⟨F5, ⟨hR5, (hr.rest (by omega)).trans hs, fun x hx => (hF5 x hx).1, hl⟩, hr.fr_, fun x hx => (hF5 x hx).2⟩
def invc (size : Nat) (ps : List (Nat × Bool)) : Prop := (fb ps).Nodup ∧ ps.length ≤ size ∧ size ≤ 1048576 ∧ 0 < size ∧ ∀ q ∈ ps, q.1 < 18446744073709551616
def relc (ps : List (Nat × Bool)) (t : St) : Prop := rel1 (fb ps) t ∧ Agr t.N ps
theorem Agr.set1 {N : Nat → Option Nat} (h : Agr N ps) : Agr (nset N k 1) (Mb.setB ps k true) := fun q hq => by
  obtain ⟨r, hr, rfl⟩ := List.mem_map.1 hq
  by_cases e : r.1 = k
  · rw [if_pos e]
    simp [nset, e]
  · rw [if_neg e]
    unfold nset
    rw [if_neg e]
    exact h r hr
theorem Agr.add {N : Nat → Option Nat} (h : Agr N ps) (hk : k ∉ fb ps) : Agr (nset N k 0) ((k, false) :: ps) := fun q hq => by
  rcases List.mem_cons.1 hq with e | e
  · rw [e]; simp [nset]
  · unfold nset
    rw [if_neg fun e2 => hk (by rw [← e2]; exact List.mem_map.2 ⟨q, e, rfl⟩)]
    exact h q e
theorem Mb_lt {o : Nat} (h : Mb.Rw w0 w g o F ps) : ∀ x ∈ ps, x.1 < 18446744073709551616 := by
  obtain ⟨L, c, hd, m, ns, fr, h1, h2, h3, h4, h5⟩ := h
  exact h5
theorem Mb_keep {o : Nat} {G : List Nat} (h : Mb.Rw w w g o F ps) (hf : Fr G w w') (hd : ∀ x ∈ F, x ∉ G) : Mb.Rw w' w' g o F ps ∧ g ∈ F := by
  obtain ⟨L, c, hh, m, ns, fr, h1, h2⟩ := h
  have hft : ∀ x ∈ foot g L, x ∈ F := fun x hx => (h1.inF x hx).elim id (fun e => absurd (h1.mem.lt x hx) (by omega))
  exact ⟨⟨L, c, hh, m, ns, fr, ⟨h1.mem.kept hf fun x hx => hd x (hft x hx), Fr.refl _ _, fun _ _ => rfl, fun x hx => Or.inl (hft x hx)⟩, h2⟩, hft g (by simp [foot])⟩
theorem kzClock (h0 : 0 < size) (hz : size ≤ 1048576) : Kz 48 75 76 2 size (List (Nat × Bool)) [] fb (Spc size) (Pc size) (invc size) relc where
  acc := by
    rintro w g F ps k ⟨h, hsz, hlt, hl⟩ hk
    by_cases hm : k ∈ ps.map Prod.fst
    · refine (Mb.clock_hit h hm hk).mono ?_
      rintro _ w' ⟨rfl, q1⟩
      obtain ⟨F5, c1, c2, c3⟩ := Pc.reb hsz q1 (by unfold Mb.setB; rw [List.length_map]; exact hl)
      exact ⟨_, F5, _, [], true, rfl, c1, c2, c3, tz_nil _ _ _, .hit ps k hm⟩
    · by_cases hf : ps.length = size
      · refine (Mb.clock_full h hm hk hsz hf (by omega) h0).mono ?_
        rintro _ w' ⟨b, c, F', l, x, hr, rfl, q1, q2, q3, q4, q5, q6, q7⟩
        have hp : ((l ++ [(x, false)]).map Prod.fst).Perm (ps.map Prod.fst) := by rw [← hr]; exact Mb.rotF_perm _ _
        have hl2 := hp.length_eq
        rw [List.length_map, List.length_map, List.length_append] at hl2
        simp only [List.length_cons, List.length_nil] at hl2
        exact ⟨_, F', (k, false) :: l, [x], false, rfl, ⟨q5, (q1.rest (by omega)).trans hsz, fun x hx => (q7 x hx).1, by simp; omega⟩, q1.fr_, fun x hx => (q7 x hx).2, Tz.of (w := w) (F' := F') (Or.inr ⟨x, b, c, rfl, rfl, q4, q2, q3, q6⟩), .full ps l x k hm hf hr⟩
      · refine (Mb.clock_miss h hm hk hsz (by omega) (by omega)).mono ?_
        rintro _ w' ⟨rfl, q1⟩
        obtain ⟨F5, c1, c2, c3⟩ := Pc.reb hsz q1 (by simp; omega)
        exact ⟨_, F5, _, [], false, rfl, c1, c2, c3, tz_nil _ _ _, .new ps k hm (by omega)⟩
  keys := by
    rintro w g F ps ⟨h, hsz, hlt, hl⟩
    exact h.ckeys (by omega)
  below := by
    rintro w w' g F ps ⟨h, hsz, hlt, hl⟩ hb
    obtain ⟨F', q1, q2⟩ := h.rebase hb
    exact ⟨F', ⟨q1, (cell_blk (hb.block g h.glt) 0).trans hsz, fun x hx => Nat.lt_of_lt_of_le (q2 x hx).1 hb.size, hl⟩, fun x hx => (q2 x hx).2.elim id (fun e => absurd (q2 x hx).1 (by omega))⟩
  lt := fun h => h.2.2.1
  keep := fun h hf hd => by
    obtain ⟨k1, k2⟩ := Mb_keep h.1 hf hd
    exact ⟨k1, (cell_blk (hf.block _ h.1.glt (hd _ k2)) 0).trans h.2.1, fun x hx => Nat.lt_of_lt_of_le (h.2.2.1 x hx) hf.size, h.2.2.2⟩
  iv := fun h => ⟨h.1.nodup, h.2.2.2, hz, h0, Mb_lt h.1⟩
  le := fun h => by rw [fb_len]; exact Nat.le_trans h.2.1 h.2.2.1
  ol := fun _ h => by cases h <;> simp
  rkey := fun h => by rw [h.1.1, h.1.2.1, List.append_nil]
  rel0 := ⟨⟨rfl, rfl, rfl, rfl⟩, fun q hq => by simp at hq⟩
  racc := by
    intro w g m X V s s' t k hit out h hi hr hs hk hn
    have hi1 : inv1 size (fb s) := ⟨hi.1, by rw [fb_len]; exact hi.2.1, hi.2.2.1⟩
    cases hs with
    | hit _ hm =>
      refine (acc_hitA (Q := fun u => relc (Mb.setB s k true) u ∧ u.n ≤ t.n + 1) h (by rw [hr.1.1]; exact hm) ⟨by rw [hr.1.1]; have := hi1.2; omega, by rw [hr.1.2.1]; simp⟩ (fun w1 V1 h1 => ?_)).mono ?_
      · refine (hit2 h1 (by rw [hr.1.1, hr.1.2.1, hr.1.2.2.1, hr.1.2.2.2]; have := hi1.2; simp only [List.length_nil]; omega) rfl hk (by show t.n < maxLen; unfold maxLen; omega)).mono ?_
        rintro _ w2 ⟨rfl, V2, h2⟩
        refine ⟨rfl, V2, ⟨t.A, t.B, t.G, t.H, nset t.N k 1, ncnt t.N t.n k, t.p, []⟩, ⟨⟨⟨?_, hr.1.2⟩, hr.2.set1⟩, ncnt_le _ _ _⟩, h2⟩
        exact hr.1.1.trans (Mb.setB_fst s k true).symm
      · rintro _ w2 ⟨rfl, V2, s2, ⟨q1, q2⟩, q3, q4⟩
        exact ⟨_, V2, s2, rfl, q3, q1, q2, q4, krd_nil _⟩
    | new _ hm hl =>
      refine (one_new h (by omega) hr.1 hi1 hm (by rw [fb_len]; exact hl) hk hn).mono ?_
      rintro _ w2 ⟨v, V2, s2, rfl, q1, q2, q3⟩
      exact ⟨v, V2, s2, rfl, q1, ⟨q2.1, by rw [q2.2]; exact hr.2.add hm⟩, q3⟩
    | full l x _ hm hf hro =>
      obtain ⟨⟨r1, r2, r3, r4⟩, r5⟩ := hr
      obtain ⟨tA, tB, tG, tH, tN, tn, tp, tO⟩ := t
      simp only at r1 r2 r3 r4 r5 hn
      subst r1 r2 r3 r4
      have hlen := fb_len s
      have hi2 := hi.2
      refine (acc_1 (Q := fun u => relc ((k, false) :: l) u ∧ u.n ≤ tn + 1 ∧ u.O = [x]) h ⟨hm, by simp⟩ ⟨by show (fb s).length ≤ _; omega, by simp⟩ (by omega) (fun w1 V1 h1 => ?_)).mono ?_
      · refine (one_c h1 (by simp only [List.length_nil]; omega) rfl hk (by show tn < maxLen; unfold maxLen; omega) (by simp only [List.length_nil]; omega) r5 hi.1 hi.2.2.2.2 hro (by omega)).mono ?_
        rintro _ w2 ⟨rfl, V2, M, h2, h3⟩
        refine ⟨rfl, V2, ⟨k :: fb l, [], [], [], nset M k 0, ncnt M tn k, tp, [] ++ [x]⟩, ⟨⟨⟨rfl, rfl, rfl, rfl⟩, h3.add ?_⟩, ncnt_le _ _ _, rfl⟩, h2⟩
        intro e
        have hp : ((l ++ [(x, false)]).map Prod.fst).Perm (s.map Prod.fst) := by rw [← hro]; exact Mb.rotF_perm _ _
        exact hm (hp.mem_iff.1 (by rw [List.map_append]; exact List.mem_append_left _ e))
      · rintro _ w2 ⟨V2, s2, rfl, ⟨q1, q2, q3⟩, q4, q5, q6⟩
        rw [q3] at q6
        exact ⟨_, V2, s2, rfl, q4, q1, q2, q5, q6⟩
end
end Go.Proofs.YtjcbpejplnaakaaGreat.Mr

namespace Go.Proofs.YtjcbpejplnaakaaGreat.Mr
open Go.RowKit Go.Maps Go.Proofs.YtjcbpejplnaakaaGreat.Nm Go.Proofs.YtjcbpejplnaakaaGreat.Md

theorem wo_no {l : List Nat} {x : Nat} (h : x ∉ l) : wo l x = l := by
  unfold wo
  rw [List.filter_eq_self]
  intro y hy
  rw [bne_iff_ne]
  rintro rfl
  exact h hy
theorem wo_ct {x : Nat} : ∀ {l : List Nat}, ct x l ≤ 1 → wo l x = l.erase x := by
  intro l
  induction l with
  | nil => intro _; rfl
  | cons y l ih =>
    intro h
    rw [ct_cons] at h
    by_cases e : y = x
    · subst e
      rw [one_same] at h
      rw [List.erase_cons_head]
      have : wo (y :: l) y = wo l y := by simp [wo]
      rw [this]
      exact wo_no (ct_no (by omega))
    · rw [one_ne e] at h
      rw [List.erase_cons_tail (by simp [e]), ← ih (by omega)]
      simp [wo, e]
abbrev L3 := List Nat × List Nat × List Nat
section
variable {w w' w0 : World} {g size k p kd x : Nat} {F ks ks' out a m o X : List Nat} {v : Value} {V : Vs} {t : St} {hit : Bool}
/-- 2Q, a step -/
inductive Sp2 (size : Nat) : L3 → Nat → Bool → L3 → List Nat → Prop
  | hitA (a m o : List Nat) (k : Nat) : k ∈ a → Sp2 size (a, m, o) k true (a, m, o) []
  | hitM (a m o : List Nat) (k : Nat) : k ∉ a → k ∈ m → Sp2 size (a, m, o) k true (a, k :: m.erase k, o) []
  | outN (a m o : List Nat) (k : Nat) : k ∉ a → k ∉ m → k ∈ o → a.length + m.length < size → Sp2 size (a, m, o) k false (a, k :: m, o.erase k) []
  | newN (a m o : List Nat) (k : Nat) : k ∉ a → k ∉ m → k ∉ o → a.length + m.length < size → Sp2 size (a, m, o) k false (k :: a, m, o) []
  | outF (a m o a1 m1 o1 : List Nat) (x k : Nat) : k ∉ a → k ∉ m → k ∈ o → a.length + m.length = size → Rcl size a m o x a1 m1 o1 → Sp2 size (a, m, o) k false (a1, k :: m1, o1.erase k) [x]
  | newF (a m o a1 m1 o1 : List Nat) (x k : Nat) : k ∉ a → k ∉ m → k ∉ o → a.length + m.length = size → Rcl size a m o x a1 m1 o1 → Sp2 size (a, m, o) k false (k :: a1, m1, o1) [x]
theorem two_stp (h : Q3 w w g F size a m o) (ok : Twk size a m o) (hk2 : k < 18446744073709551616) (hz : 2 ≤ size ∧ size ≤ 1048576) : Calls Tryz.prog 90 #[.pointer (some ⟨g, 0, none⟩), U k] w fun e w' => ∃ v F' hit out a' m' o', e = .returned (.tuple #[.bool hit, v]) ∧ Tq w w' g F F' size a' m' o' v out ∧ Twk size a' m' o' ∧ Sp2 size (a, m, o) k hit (a', m', o') out := by
  obtain ⟨nd, h1, h2⟩ := ok
  have ok : Twk size a m o := ⟨nd, h1, h2⟩
  by_cases e1 : k ∈ a
  · refine (two_hitA h e1 hk2).mono ?_
    rintro _ w' ⟨rfl, rfl⟩
    obtain ⟨F', q⟩ := tq_nil h
    exact ⟨_, F', true, [], a, m, o, rfl, q, ok, .hitA a m o k e1⟩
  · by_cases e2 : k ∈ m
    · refine (two_hitM h e1 e2 hk2).mono ?_
      rintro _ w' ⟨rfl, q⟩
      obtain ⟨F', q⟩ := tq_nil q
      have hl := List.length_erase_of_mem e2
      have hp := List.length_pos_of_mem e2
      refine ⟨_, F', true, [], a, k :: m.erase k, o, rfl, q, ⟨fun z => ?_, by simp; omega, h2⟩, .hitM a m o k e1 e2⟩
      have := nd z
      have := er_ct e2 z
      rw [ct_cons]
      omega
    · have c1 := ct_zero e1
      have c2 := ct_zero e2
      by_cases hf : a.length + m.length = size
      · obtain ⟨_, r1, _⟩ := h.r1
        obtain ⟨x, a1, m1, o1, hr, hc⟩ := recl_any ok hz hf r1.ltU
        obtain ⟨s1, s2, s3, s4⟩ := hr.cts h2
        have hxk : one k x = 0 := by have := s1 k; omega
        by_cases e3 : k ∈ o
        · refine (two_outF h e1 e2 e3 hk2 hz.2 hf (fun u hu => hc w u g F hu) (ct_no (by have := s1 k; omega)) (by omega)).mono ?_
          rintro _ w' ⟨v, F', rfl, q⟩
          refine ⟨v, F', false, [x], a1, k :: m1, o1.erase k, rfl, q, ⟨fun z => ?_, by simp; omega, Nat.le_trans List.length_erase_le s4⟩, .outF a m o a1 m1 o1 x k e1 e2 e3 hf hr⟩
          have := nd z
          have := s1 z
          have := s2 z
          rw [ct_cons, ct_erase]
          by_cases ez : k = z
          · subst ez
            rw [one_same]
            omega
          · rw [one_ne ez]
            omega
        · have c3 := ct_zero e3
          refine (two_newF h e1 e2 e3 hk2 hz.2 hf (fun u hu => hc w u g F hu) (ct_no (by have := s1 k; omega)) (by omega)).mono ?_
          rintro _ w' ⟨v, F', rfl, q⟩
          refine ⟨v, F', false, [x], k :: a1, m1, o1, rfl, q, ⟨fun z => ?_, by simp; omega, s4⟩, .newF a m o a1 m1 o1 x k e1 e2 e3 hf hr⟩
          have := nd z
          have := s1 z
          have := s2 z
          rw [ct_cons]
          by_cases ez : k = z
          · subst ez
            rw [one_same]
            omega
          · rw [one_ne ez]
            omega
      · by_cases e3 : k ∈ o
        · refine (two_out h e1 e2 e3 hk2 hz.2 (by omega)).mono ?_
          rintro _ w' ⟨v, F', rfl, q⟩
          refine ⟨v, F', false, [], a, k :: m, o.erase k, rfl, q, ⟨fun z => ?_, by simp; omega, Nat.le_trans List.length_erase_le h2⟩, .outN a m o k e1 e2 e3 (by omega)⟩
          have := nd z
          have := er_ct e3 z
          rw [ct_cons]
          omega
        · have c3 := ct_zero e3
          refine (two_new h e1 e2 e3 hk2 hz.2 (by omega)).mono ?_
          rintro _ w' ⟨v, F', rfl, q⟩
          refine ⟨v, F', false, [], k :: a, m, o, rfl, q, ⟨fun z => ?_, by simp; omega, h2⟩, .newN a m o k e1 e2 e3 (by omega)⟩
          have := nd z
          rw [ct_cons]
          by_cases ez : k = z
          · subst ez
            rw [one_same]
            omega
          · rw [one_ne ez]
            omega
def P2 (size : Nat) (w : World) (g : Nat) (F : List Nat) (s : L3) : Prop := Q3 w w g F size s.1 s.2.1 s.2.2 ∧ Twk size s.1 s.2.1 s.2.2 ∧ ∀ x ∈ F, x < w.heap.size
def inv2 (size : Nat) (s : L3) : Prop := Twk size s.1 s.2.1 s.2.2 ∧ 2 ≤ size ∧ size ≤ 1048576
def rel2 (s : L3) (t : St) : Prop := t.A = s.1 ∧ t.B = s.2.1 ∧ t.G = s.2.2 ∧ t.H = []
theorem Qs_keep {rs : List (Nat × List Nat × List Nat)} {G : List Nat} (h : Qs w w g F rs) (hf : Fr G w w') (hd : ∀ x ∈ F, x ∉ G) : Qs w' w' g F rs := by
  have hin : ∀ r ∈ rs, ∀ x ∈ r.2.1, x ∈ F := fun r hr x hx => (h.inF r hr x hx).elim id (fun e => absurd (h.rows.lt r hr x hx) (by omega))
  exact ⟨⟨fun r hr => (h.rows.row r hr).keep hf fun x hx => hd x (hin r hr x hx), h.rows.ap, fun r hr x hx => Nat.lt_of_lt_of_le (h.rows.lt r hr x hx) hf.size⟩, Fr.refl _ _, fun r hr x hx => Or.inl (hin r hr x hx)⟩
theorem Qs_gF {r : Nat × List Nat × List Nat} {rs : List (Nat × List Nat × List Nat)} (h : Qs w w g F rs) (hr : r ∈ rs) : g ∈ F ∧ g < w.heap.size :=
  ⟨(h.inF r hr g (h.rows.row r hr).gF).elim id (fun e => absurd (h.rows.lt r hr g (h.rows.row r hr).gF) (by omega)), h.rows.lt r hr g (h.rows.row r hr).gF⟩
/-- a miss, by what twoQ does -/
theorem two_acc {mm : Nat} {a' m' o' : List Nat} {N : Nat → Option Nat} {n p : Nat} {O : List Nat} (h : Rz w g mm 3 size X V ⟨a, m, o, [], N, n, p, O⟩) (hka : k ∉ a) (hkm : k ∉ m) (hl : a.length ≤ 1048576 ∧ m.length ≤ 1048576) (hh : ∀ w1 V1, Rc w w1 g mm 3 size X V1 ⟨a, m, o, [], N, n, p, []⟩ → Calls Tryz.prog 23 #[.pointer (some ⟨g, 0, none⟩), U k] w1 fun e w' => e = .returned (.tuple #[]) ∧ ∃ V', Rc w w' g mm 3 size X V' ⟨a', m', o', [], N, n, p, out⟩) : Calls Tryz.prog 7 #[.pointer (some ⟨g, 0, none⟩), U k] w fun e w' => ∃ v V' t', e = .returned (.tuple #[.bool false, v]) ∧ Rz w' g mm 3 size X V' t' ∧ rel2 (a', m', o') t' ∧ t'.n ≤ n + 1 ∧ Fr [g, mm] w w' ∧ KRd w' v out := by
  refine (acc_3 (Q := fun u => rel2 (a', m', o') u ∧ u.n ≤ n + 1 ∧ u.O = out) h ⟨hka, hkm⟩ ⟨by show a.length ≤ _; omega, by show m.length ≤ _; omega⟩ rfl (fun w1 V1 h1 => ?_)).mono ?_
  · refine (hh w1 V1 h1).mono ?_
    rintro _ w2 ⟨rfl, V2, h2⟩
    exact ⟨rfl, V2, ⟨a', m', o', [], N, n, p, out⟩, ⟨⟨rfl, rfl, rfl, rfl⟩, Nat.le_succ _, rfl⟩, h2⟩
  · rintro _ w2 ⟨V2, s2, rfl, ⟨q1, q2, q3⟩, q4, q5, q6⟩
    rw [q3] at q6
    exact ⟨_, V2, s2, rfl, q4, q1, q2, q5, q6⟩
theorem kzTwo (hz : 2 ≤ size ∧ size ≤ 1048576) : Kz 50 90 91 3 size L3 ([], [], []) (fun s => s.1 ++ s.2.1) (Sp2 size) (P2 size) (inv2 size) rel2 where
  acc := by
    rintro w g F ⟨a, m, o⟩ k ⟨h, ok, hlt⟩ hk
    refine (two_stp h ok hk hz).mono ?_
    rintro _ w' ⟨v, F', hit, out, a', m', o', rfl, ⟨q1, q2, q3, q4, q5⟩, ok', hs⟩
    exact ⟨v, F', (a', m', o'), out, hit, rfl, ⟨q1, ok', q4⟩, q2, q3, Tz.of q5, hs⟩
  keys := by
    rintro w g F ⟨a, m, o⟩ ⟨h, ok, hlt⟩
    have hh : a.length + m.length ≤ size := ok.held
    show Calls Tryz.prog _ _ w fun e w' => ∃ v, e = .returned v ∧ w'.ownsRow w.heap.size 33 1 v (a ++ m).length ((a ++ m).map U) ∧ Below w.heap.size w w'
    rw [List.length_append]
    exact h.keys (by show a.length + m.length ≤ _; omega)
  below := by
    rintro w w' g F ⟨a, m, o⟩ ⟨h, ok, hlt⟩ hb
    obtain ⟨F', q1, q2⟩ := h.rebase hb
    exact ⟨F', ⟨q1, ok, fun x hx => Nat.lt_of_lt_of_le (q2 x hx).1 hb.size⟩, fun x hx => (q2 x hx).2.elim id (fun e => absurd (q2 x hx).1 (by omega))⟩
  lt := fun h => h.2.2
  keep := by
    rintro w w' g F G ⟨a, m, o⟩ ⟨⟨F1, F2, F3, hq, hc⟩, ok, hlt⟩ hf hd
    obtain ⟨g1, g2⟩ := Qs_gF hq (r := (1, F1, a)) (by simp)
    exact ⟨⟨F1, F2, F3, Qs_keep hq hf hd, (cell_blk (hf.block g g2 (hd g g1)) 0).trans hc⟩, ok, fun x hx => Nat.lt_of_lt_of_le (hlt x hx) hf.size⟩
  iv := fun h => ⟨h.2.1, hz⟩
  le := by
    intro s h
    have := h.1.held
    have := h.2
    rw [List.length_append]
    omega
  ol := fun _ h => by cases h <;> simp
  rkey := fun h => by rw [h.1, h.2.1]
  rel0 := ⟨rfl, rfl, rfl, rfl⟩
  racc := by
    intro w g mm X V s s' t k hit out h hi hr hs hk hn
    obtain ⟨tA, tB, tG, tH, tN, tn, tp, tO⟩ := t
    obtain ⟨a, m, o⟩ := s
    obtain ⟨r1, r2, r3, r4⟩ := hr
    simp only at r1 r2 r3 r4 hn
    subst r1 r2 r3 r4
    obtain ⟨⟨nd, hh, ho⟩, hz1, hz2⟩ := hi
    simp only at nd hh ho
    have hom := oMost_le hz2
    have hl : tA.length ≤ 1048576 ∧ tB.length ≤ 1048576 := ⟨by omega, by omega⟩
    have hsum : ∀ q : Nat, q ≤ 100 → tA.length + tB.length + tG.length + ([] : List Nat).length + ([] : List Nat).length ≤ 100000000 - q := fun q hq => by simp only [List.length_nil]; omega
    have hs0 := hsum 0 (by omega)
    cases hs with
    | hitA _ _ _ _ hm =>
      have hb : k ∉ tB := ct_no (by have := ct_pos hm; have := nd k; omega)
      refine (acc_hitA (Q := fun u => rel2 (tA, tB, tG) u ∧ u.n ≤ tn + 1) h hm ⟨by show tA.length ≤ _; omega, by show tB.length ≤ _; omega⟩ (fun w1 V1 h1 => ?_)).mono ?_
      · refine (hit3a h1 hs0 rfl hb).mono ?_
        rintro _ w2 ⟨rfl, V2, h2⟩
        exact ⟨rfl, V2, ⟨tA, tB, tG, [], tN, tn, tp, []⟩, ⟨⟨rfl, rfl, rfl, rfl⟩, Nat.le_succ _⟩, h2⟩
      · rintro _ w2 ⟨rfl, V2, s2, ⟨q1, q2⟩, q3, q4⟩
        exact ⟨_, V2, s2, rfl, q3, q1, q2, q4, krd_nil _⟩
    | hitM _ _ _ _ hka hm =>
      refine (acc_hitB (Q := fun u => rel2 (tA, k :: tB.erase k, tG) u ∧ u.n ≤ tn + 1) h ⟨hka, hm⟩ ⟨by show tA.length ≤ _; omega, by show tB.length ≤ _; omega⟩ (fun w1 V1 h1 => ?_)).mono ?_
      · refine (hit3b h1 hs0 rfl hm hka).mono ?_
        rintro _ w2 ⟨rfl, V2, h2⟩
        refine ⟨rfl, V2, ⟨tA, k :: wo tB k, tG, [], tN, tn, tp, []⟩, ⟨⟨rfl, ?_, rfl, rfl⟩, Nat.le_succ _⟩, h2⟩
        show k :: wo tB k = _
        rw [wo_ct (by have := nd k; omega)]
      · rintro _ w2 ⟨rfl, V2, s2, ⟨q1, q2⟩, q3, q4⟩
        exact ⟨_, V2, s2, rfl, q3, q1, q2, q4, krd_nil _⟩
    | outN _ _ _ _ hka hkm hko hf =>
      rw [← wo_ct (l := tG) (x := k) (by have := nd k; omega)]
      exact two_acc h hka hkm hl fun w1 V1 h1 => two_nk h1 hs0 hko (by omega)
    | newN _ _ _ _ hka hkm hko hf => exact two_acc h hka hkm hl fun w1 V1 h1 => two_nn h1 hs0 hko (by omega)
    | outF _ _ _ a1 m1 o1 x _ hka hkm hko hf hr =>
      obtain ⟨s1, s2, s3, s4⟩ := hr.cts ho
      have c1 := ct_zero hka
      have c2 := ct_zero hkm
      rw [← wo_ct (l := o1) (x := k) (by have := nd k; have := s1 k; have := s2 k; omega)]
      rcases hr with ⟨hq, rfl, rfl, rfl⟩ | ⟨hq, rfl, rfl, rfl⟩
      · by_cases ht : oMost size < (x :: tG).length
        · obtain ⟨kk, z, hkk⟩ := snocN (l := x :: tG) (by simp)
          have et : trim size (x :: tG) = kk := by unfold trim; rw [if_pos ht, hkk, List.dropLast_concat]
          rw [et]
          exact two_acc h hka hkm hl fun w1 V1 h1 => two_fkt h1 hs0 hz2 hko hf hq ht hkk
        · have et : trim size (x :: tG) = x :: tG := by unfold trim; rw [if_neg ht]
          rw [et]
          exact two_acc h hka hkm hl fun w1 V1 h1 => two_fk h1 hs0 hz2 hko hf hq (by unfold oMost at ht; omega)
      · exact two_acc h hka hkm hl fun w1 V1 h1 => two_mk h1 hs0 hz2 hko hf hq
    | newF _ _ _ a1 m1 o1 x _ hka hkm hko hf hr =>
      rcases hr with ⟨hq, rfl, rfl, rfl⟩ | ⟨hq, rfl, rfl, rfl⟩
      · by_cases ht : oMost size < (x :: tG).length
        · obtain ⟨kk, z, hkk⟩ := snocN (l := x :: tG) (by simp)
          have et : trim size (x :: tG) = kk := by unfold trim; rw [if_pos ht, hkk, List.dropLast_concat]
          rw [et]
          exact two_acc h hka hkm hl fun w1 V1 h1 => two_fnt h1 hs0 hz2 hko hf hq ht hkk
        · have et : trim size (x :: tG) = x :: tG := by unfold trim; rw [if_neg ht]
          rw [et]
          exact two_acc h hka hkm hl fun w1 V1 h1 => two_fn h1 hs0 hz2 hko hf hq (by unfold oMost at ht; omega)
      · exact two_acc h hka hkm hl fun w1 V1 h1 => two_mn h1 hs0 hz2 hko hf hq
end
end Go.Proofs.YtjcbpejplnaakaaGreat.Mr

namespace Go.Proofs.YtjcbpejplnaakaaGreat.Mr
open Go.RowKit Go.Maps Go.Proofs.YtjcbpejplnaakaaGreat.Nm Go.Proofs.YtjcbpejplnaakaaGreat.Md

abbrev L5 := Nat × List Nat × List Nat × List Nat × List Nat
section
variable {w w' w0 : World} {g size k p kd x mm : Nat} {F k1 k2 k3 k4 out X : List Nat} {v : Value} {V : Vs} {t : St}
/-- ARC, a step -/
inductive Sp5 (size : Nat) : L5 → Nat → Bool → L5 → List Nat → Prop
  | hit1 (p : Nat) (k1 k2 k3 k4 : List Nat) (k : Nat) : k ∈ k1 → k ∉ k2 → Sp5 size (p, k1, k2, k3, k4) k true (p, k1.erase k, k :: k2, k3, k4) []
  | hit2 (p : Nat) (k1 k2 k3 k4 : List Nat) (k : Nat) : k ∉ k1 → k ∈ k2 → Sp5 size (p, k1, k2, k3, k4) k true (p, k1, k :: k2.erase k, k3, k4) []
  | b1 (p : Nat) (k1 k2 k3 k4 j1 j2 j3 j4 : List Nat) (x k : Nat) : k ∉ k1 → k ∉ k2 → k ∈ k3 → Rep (pUp size p k3.length k4.length) false k1 k2 k3 k4 x j1 j2 j3 j4 → Sp5 size (p, k1, k2, k3, k4) k false (pUp size p k3.length k4.length, j1, k :: j2, j3.erase k, j4) [x]
  | b2 (p : Nat) (k1 k2 k3 k4 j1 j2 j3 j4 : List Nat) (x k : Nat) : k ∉ k1 → k ∉ k2 → k ∉ k3 → k ∈ k4 → Rep (pDn p k3.length k4.length) true k1 k2 k3 k4 x j1 j2 j3 j4 → Sp5 size (p, k1, k2, k3, k4) k false (pDn p k3.length k4.length, j1, k :: j2, j3, j4.erase k) [x]
  | new (p : Nat) (k1 k2 k3 k4 j1 j2 j3 j4 out : List Nat) (k : Nat) : k ∉ k1 → k ∉ k2 → k ∉ k3 → k ∉ k4 → Mkr size p k1 k2 k3 k4 out j1 j2 j3 j4 → Sp5 size (p, k1, k2, k3, k4) k false (p, k :: j1, j2, j3, j4) out
theorem arc_stp (h : Q4 w w g F size p k1 k2 k3 k4) (ok : Ark size p k1 k2 k3 k4) (hk2 : k < 18446744073709551616) (hz : size ≤ 1048576) (h0 : 0 < size) : Calls Tryz.prog 117 #[.pointer (some ⟨g, 0, none⟩), U k] w fun e w' => ∃ v F' hit p' out j1 j2 j3 j4, e = .returned (.tuple #[.bool hit, v]) ∧ Aq w w' g F F' size p' j1 j2 j3 j4 v out ∧ Ark size p' j1 j2 j3 j4 ∧ Sp5 size (p, k1, k2, k3, k4) k hit (p', j1, j2, j3, j4) out := by
  obtain ⟨nd, h1, h2, h3, h4, h5⟩ := ok
  have ok : Ark size p k1 k2 k3 k4 := ⟨nd, h1, h2, h3, h4, h5⟩
  by_cases e1 : k ∈ k1
  · have e2 : k ∉ k2 := ct_no (by have := ct_pos e1; have := nd k; omega)
    refine (arc_hit1 h e1 e2 hk2 (by omega)).mono ?_
    rintro _ w' ⟨rfl, q⟩
    obtain ⟨F', q'⟩ := aq_nil q
    exact ⟨_, F', true, p, [], _, _, _, _, rfl, q', (ok.hit1 e1).1, .hit1 p k1 k2 k3 k4 k e1 e2⟩
  · by_cases e2 : k ∈ k2
    · refine (arc_hit2 h e1 e2 hk2 (by omega)).mono ?_
      rintro _ w' ⟨rfl, q⟩
      obtain ⟨F', q'⟩ := aq_nil q
      exact ⟨_, F', true, p, [], _, _, _, _, rfl, q', (ok.hit2 e2).1, .hit2 p k1 k2 k3 k4 k e1 e2⟩
    · by_cases e3 : k ∈ k3
      · have hp := List.length_pos_of_mem e3
        have hg := h5 (by omega)
        refine (arc_b1 h e1 e2 e3 hk2 hz h4 (by omega) (by omega) (by omega) (by omega) ok.d13 ok.d24 (fun _ => by rintro rfl; simp at hg; omega)).mono ?_
        rintro _ w' ⟨v, F', x, j1, j2, j3, j4, rfl, hr, q⟩
        obtain ⟨r1, _⟩ := ok.back3 e1 e2 e3 (by unfold pUp; omega) hr
        exact ⟨_, F', false, _, [x], _, _, _, _, rfl, q, r1, .b1 p k1 k2 k3 k4 j1 j2 j3 j4 x k e1 e2 e3 hr⟩
      · by_cases e4 : k ∈ k4
        · have hp := List.length_pos_of_mem e4
          have hg := h5 (by omega)
          have hpd : pDn p k3.length k4.length ≤ p := by unfold pDn; omega
          refine (arc_b2 h e1 e2 e3 e4 hk2 hz h4 (by omega) (by omega) (by omega) (by omega) ok.d13 ok.d24 (fun q => ?_)).mono ?_
          · rintro rfl
            simp at hg
            exact q ⟨by omega, by
              by_cases t : pDn p k3.length k4.length < k1.length
              · exact Or.inl t
              · exact Or.inr ⟨by omega, rfl⟩⟩
          · rintro _ w' ⟨v, F', x, j1, j2, j3, j4, rfl, hr, q⟩
            obtain ⟨r1, _⟩ := ok.back4 e1 e2 e4 (by omega) hr
            exact ⟨_, F', false, _, [x], _, _, _, _, rfl, q, r1, .b2 p k1 k2 k3 k4 j1 j2 j3 j4 x k e1 e2 e3 e4 hr⟩
        · refine (arc_new h ok e1 e2 e3 e4 hk2 hz h0).mono ?_
          rintro _ w' ⟨v, F', out, j1, j2, j3, j4, rfl, hm, q⟩
          obtain ⟨r1, _⟩ := ok.new_ h0 e1 e2 e3 e4 hm
          exact ⟨_, F', false, _, out, _, _, _, _, rfl, q, r1, .new p k1 k2 k3 k4 j1 j2 j3 j4 out k e1 e2 e3 e4 hm⟩
def P5 (size : Nat) (w : World) (g : Nat) (F : List Nat) (s : L5) : Prop := Q4 w w g F size s.1 s.2.1 s.2.2.1 s.2.2.2.1 s.2.2.2.2 ∧ Ark size s.1 s.2.1 s.2.2.1 s.2.2.2.1 s.2.2.2.2 ∧ ∀ x ∈ F, x < w.heap.size
def inv5 (size : Nat) (s : L5) : Prop := Ark size s.1 s.2.1 s.2.2.1 s.2.2.2.1 s.2.2.2.2 ∧ 0 < size ∧ size ≤ 1048576
def rel5 (s : L5) (t : St) : Prop := t.p = s.1 ∧ t.A = s.2.1 ∧ t.B = s.2.2.1 ∧ t.G = s.2.2.2.1 ∧ t.H = s.2.2.2.2
/-- a miss, by what arc does -/
theorem arc_acc {j1 j2 j3 j4 : List Nat} {N : Nat → Option Nat} {n p' : Nat} {O : List Nat} (h : Rz w g mm 5 size X V ⟨k1, k2, k3, k4, N, n, p, O⟩) (hka : k ∉ k1) (hkm : k ∉ k2) (hl : k1.length ≤ 1048576 ∧ k2.length ≤ 1048576) (hh : ∀ w1 V1, Rc w w1 g mm 5 size X V1 ⟨k1, k2, k3, k4, N, n, p, []⟩ → Calls Tryz.prog 25 #[.pointer (some ⟨g, 0, none⟩), U k] w1 fun e w' => e = .returned (.tuple #[]) ∧ ∃ V', Rc w w' g mm 5 size X V' ⟨j1, j2, j3, j4, N, n, p', out⟩) : Calls Tryz.prog 7 #[.pointer (some ⟨g, 0, none⟩), U k] w fun e w' => ∃ v V' t', e = .returned (.tuple #[.bool false, v]) ∧ Rz w' g mm 5 size X V' t' ∧ rel5 (p', j1, j2, j3, j4) t' ∧ t'.n ≤ n + 1 ∧ Fr [g, mm] w w' ∧ KRd w' v out := by
  refine (acc_5 (Q := fun u => rel5 (p', j1, j2, j3, j4) u ∧ u.n ≤ n + 1 ∧ u.O = out) h ⟨hka, hkm⟩ ⟨by show k1.length ≤ _; omega, by show k2.length ≤ _; omega⟩ rfl (fun w1 V1 h1 => ?_)).mono ?_
  · refine (hh w1 V1 h1).mono ?_
    rintro _ w2 ⟨rfl, V2, h2⟩
    exact ⟨rfl, V2, ⟨j1, j2, j3, j4, N, n, p', out⟩, ⟨⟨rfl, rfl, rfl, rfl, rfl⟩, Nat.le_succ _, rfl⟩, h2⟩
  · rintro _ w2 ⟨V2, s2, rfl, ⟨q1, q2, q3⟩, q4, q5, q6⟩
    rw [q3] at q6
    exact ⟨_, V2, s2, rfl, q4, q1, q2, q5, q6⟩
theorem kzArc (h0 : 0 < size) (hz : size ≤ 1048576) : Kz 54 117 118 5 size L5 (0, [], [], [], []) (fun s => s.2.1 ++ s.2.2.1) (Sp5 size) (P5 size) (inv5 size) rel5 where
  acc := by
    rintro w g F ⟨p, k1, k2, k3, k4⟩ k ⟨h, ok, hlt⟩ hk
    refine (arc_stp h ok hk hz h0).mono ?_
    rintro _ w' ⟨v, F', hit, p', out, j1, j2, j3, j4, rfl, ⟨q1, q2, q3, q4, q5⟩, ok', hs⟩
    exact ⟨v, F', (p', j1, j2, j3, j4), out, hit, rfl, ⟨q1, ok', q4⟩, q2, q3, Tz.of q5, hs⟩
  keys := by
    rintro w g F ⟨p, k1, k2, k3, k4⟩ ⟨h, ok, hlt⟩
    have hh : k1.length + k2.length ≤ size := ok.held
    show Calls Tryz.prog _ _ w fun e w' => ∃ v, e = .returned v ∧ w'.ownsRow w.heap.size 33 1 v (k1 ++ k2).length ((k1 ++ k2).map U) ∧ Below w.heap.size w w'
    rw [List.length_append]
    exact h.keys (by show k1.length + k2.length ≤ _; omega)
  below := by
    rintro w w' g F ⟨p, k1, k2, k3, k4⟩ ⟨h, ok, hlt⟩ hb
    obtain ⟨F', q1, q2⟩ := h.rebase hb
    exact ⟨F', ⟨q1, ok, fun x hx => Nat.lt_of_lt_of_le (q2 x hx).1 hb.size⟩, fun x hx => (q2 x hx).2.elim id (fun e => absurd (q2 x hx).1 (by omega))⟩
  lt := fun h => h.2.2
  keep := by
    rintro w w' g F G ⟨p, k1, k2, k3, k4⟩ ⟨⟨F1, F2, F3, F4, hq, hc, hp⟩, ok, hlt⟩ hf hd
    obtain ⟨g1, g2⟩ := Qs_gF hq (r := (2, F1, k1)) (by simp)
    have hb := hf.block g g2 (hd g g1)
    exact ⟨⟨F1, F2, F3, F4, Qs_keep hq hf hd, (cell_blk hb 0).trans hc, (cell_blk hb 1).trans hp⟩, ok, fun x hx => Nat.lt_of_lt_of_le (hlt x hx) hf.size⟩
  iv := fun h => ⟨h.2.1, h0, hz⟩
  le := by
    intro s h
    have := h.1.held
    have := h.2
    rw [List.length_append]
    omega
  ol := fun _ h => by
    cases h with
    | hit1 => simp
    | hit2 => simp
    | b1 => simp
    | b2 => simp
    | new _ _ _ _ _ _ _ _ _ _ _ _ _ _ _ hm => cases hm <;> simp
  rkey := fun h => by rw [h.2.1, h.2.2.1]
  rel0 := ⟨rfl, rfl, rfl, rfl, rfl⟩
  racc := by
    intro w g mm X V s s' t k hit out h hi hr hs hk hn
    obtain ⟨tA, tB, tG, tH, tN, tn, tp, tO⟩ := t
    obtain ⟨p, k1, k2, k3, k4⟩ := s
    obtain ⟨r1, r2, r3, r4, r5⟩ := hr
    simp only at r1 r2 r3 r4 r5 hn
    subst r1 r2 r3 r4 r5
    obtain ⟨⟨nd, i1, i2, i3, i4, i5⟩, hz1, hz2⟩ := hi
    simp only at nd i1 i2 i3 i4 i5
    have hl : tA.length ≤ 1048576 ∧ tB.length ≤ 1048576 := ⟨by omega, by omega⟩
    have hs0 : tA.length + tB.length + tG.length + tH.length + ([] : List Nat).length ≤ 90000000 := by simp only [List.length_nil]; omega
    have hs1 : tA.length + tB.length + tG.length + tH.length + ([] : List Nat).length ≤ 100000000 := by omega
    cases hs with
    | hit1 _ _ _ _ _ _ hm hb =>
      refine (acc_hitA (Q := fun u => rel5 (tp, tA.erase k, k :: tB, tG, tH) u ∧ u.n ≤ tn + 1) h hm ⟨by show tA.length ≤ _; omega, by show tB.length ≤ _; omega⟩ (fun w1 V1 h1 => ?_)).mono ?_
      · refine (hit5 h1 hs1 rfl).mono ?_
        rintro _ w2 ⟨rfl, V2, h2⟩
        refine ⟨rfl, V2, ⟨wo tA k, k :: wo tB k, tG, tH, tN, tn, tp, []⟩, ⟨⟨rfl, ?_, ?_, rfl, rfl⟩, Nat.le_succ _⟩, h2⟩
        · exact wo_ct (by have := nd k; omega)
        · show k :: wo tB k = _
          rw [wo_no hb]
      · rintro _ w2 ⟨rfl, V2, s2, ⟨q1, q2⟩, q3, q4⟩
        exact ⟨_, V2, s2, rfl, q3, q1, q2, q4, krd_nil _⟩
    | hit2 _ _ _ _ _ _ hka hm =>
      refine (acc_hitB (Q := fun u => rel5 (tp, tA, k :: tB.erase k, tG, tH) u ∧ u.n ≤ tn + 1) h ⟨hka, hm⟩ ⟨by show tA.length ≤ _; omega, by show tB.length ≤ _; omega⟩ (fun w1 V1 h1 => ?_)).mono ?_
      · refine (hit5 h1 hs1 rfl).mono ?_
        rintro _ w2 ⟨rfl, V2, h2⟩
        refine ⟨rfl, V2, ⟨wo tA k, k :: wo tB k, tG, tH, tN, tn, tp, []⟩, ⟨⟨rfl, wo_no hka, ?_, rfl, rfl⟩, Nat.le_succ _⟩, h2⟩
        show k :: wo tB k = _
        rw [wo_ct (by have := nd k; omega)]
      · rintro _ w2 ⟨rfl, V2, s2, ⟨q1, q2⟩, q3, q4⟩
        exact ⟨_, V2, s2, rfl, q3, q1, q2, q4, krd_nil _⟩
    | b1 _ _ _ _ _ j1 j2 j3 j4 x _ hka hkm hkg hr =>
      have hkh : k ∉ tH := ct_no (by have := ct_pos hkg; have := nd k; omega)
      rw [← wo_ct (l := j3) (x := k) (by have := hr.cts; have h1 := this.1 k; have h2 := this.2.1 k; have := nd k; have := ct_zero hka; have := ct_zero hkm; omega)]
      exact arc_acc h hka hkm hl fun w1 V1 h1 => arc_1 h1 hs0 ⟨hz2, i4⟩ hkg hkh hr
    | b2 _ _ _ _ _ j1 j2 j3 j4 x _ hka hkm hkg hkh hr =>
      rw [← wo_ct (l := j4) (x := k) (by have := hr.cts; have h1 := this.1 k; have h2 := this.2.1 k; have := nd k; have := ct_zero hka; have := ct_zero hkm; omega)]
      exact arc_acc h hka hkm hl fun w1 V1 h1 => arc_2 h1 hs0 ⟨hz2, i4⟩ hkg hkh hr
    | new _ _ _ _ _ j1 j2 j3 j4 out _ hka hkm hkg hkh hm =>
      cases hm with
      | a x l q1 q2 =>
        subst q2
        exact arc_acc h hka hkm hl fun w1 V1 h1 => arc_a h1 hs0 hz2 hkg hkh q1 (by omega)
      | b x y c j1 j2 j3 j4 q1 q2 q3 q4 =>
        subst q3
        exact arc_acc h hka hkm hl fun w1 V1 h1 => arc_b h1 hs0 hz2 hkg hkh q1 q2 q4
      | c q1 q2 => exact arc_acc h hka hkm hl fun w1 V1 h1 => arc_c h1 hs0 hz2 hkg hkh q2
      | d x y c j1 j2 j3 j4 q1 q2 q3 q4 q5 =>
        subst q4
        exact arc_acc h hka hkm hl fun w1 V1 h1 => arc_d h1 hs0 hz2 hkg hkh q1 q3 q5
      | e x j1 j2 j3 j4 q1 q2 q3 q4 => exact arc_acc h hka hkm hl fun w1 V1 h1 => arc_e h1 hs0 hz2 hkg hkh q1 q2 q3 q4
end
end Go.Proofs.YtjcbpejplnaakaaGreat.Mr

namespace Go.Proofs.YtjcbpejplnaakaaGreat.Mr
open Go.RowKit Go.Maps Go.Proofs.YtjcbpejplnaakaaGreat.Nm Go.Proofs.YtjcbpejplnaakaaGreat.Md

abbrev L4 := List (Nat × Nat) × List (Nat × Nat) × List Nat
section
variable {w w' w0 : World} {g size k p kd x mm : Nat} {F F1 F2 F3 ks out X : List Nat} {v : Value} {V : Vs} {t : St} {ps pm : List (Nat × Nat)}
/-- S3-FIFO, a step -/
inductive Sp4 (size : Nat) : L4 → Nat → Bool → L4 → List Nat → Prop
  | hit1 (l r pm : List (Nat × Nat)) (ks : List Nat) (k n : Nat) : Sp4 size (l ++ (k, n) :: r, pm, ks) k true (l ++ (k, min (n + 1) 3) :: r, pm, ks) []
  | hit2 (ps l r : List (Nat × Nat)) (ks : List Nat) (k n : Nat) : k ∉ fs ps → Sp4 size (ps, l ++ (k, n) :: r, ks) k true (ps, l ++ (k, min (n + 1) 3) :: r, ks) []
  | miss (ps pm a b a' b' : List (Nat × Nat)) (ks c d c' d' : List Nat) (k : Nat) : k ∉ fs ps → k ∉ fs pm → Lp3 size ps pm ks 2 a b c d → AdR size k c a b d a' b' c' d' → Sp4 size (ps, pm, ks) k false (a', b', c') d'
def P4 (size : Nat) (w : World) (g : Nat) (F : List Nat) (s : L4) : Prop := ∃ F1 F2 F3, S5 w w g F size s.1 s.2.1 s.2.2 (.slice none 0 0) [] F1 F2 F3 ∧ S3k size s.1 s.2.1 s.2.2 ∧ s.1.length + s.2.1.length ≤ size ∧ ∀ x ∈ F, x < w.heap.size
theorem P4.reb {v : Value} {out : List Nat} (h : S5 w w' g F size ps pm ks v out F1 F2 F3) (ok : S3k size ps pm ks) (hl : ps.length + pm.length ≤ size) : ∃ F', P4 size w' g F' (ps, pm, ks) ∧ Fr F w w' ∧ (∀ x ∈ F', x ∈ F ∨ w.heap.size ≤ x) ∧ Tz w w' F' v out := by
  refine ⟨F1 ++ (F2 ++ F3), ⟨F1, F2, F3, ⟨h.r1, h.r2, h.r3, fun x hx => ⟨(h.lt x hx).1, Or.inl ?_⟩, h.a12, h.a13, h.a23, Fr.refl _ _, h.sz, World.ownsRow_nil _ _ _ _, fun b e => by cases e⟩, ok, hl, fun x hx => (h.lt x ?_).1⟩, h.fr, fun x hx => (h.lt x ?_).2, (KRc.own h.own).1, h.own, fun b e q => ?_⟩
  · simp only [List.mem_append]; exact hx
  · simp only [List.mem_append] at hx; exact hx
  · simp only [List.mem_append] at hx; exact hx
  · obtain ⟨p1, p2, p3⟩ := h.ap b e
    simp only [List.mem_append] at q
    rcases q with q | q | q
    · exact p1 q
    · exact p2 q
    · exact p3 q
def inv4 (size : Nat) (s : L4) : Prop := S3k size s.1 s.2.1 s.2.2 ∧ s.1.length + s.2.1.length ≤ size ∧ 10 ≤ size ∧ size ≤ 1048576 ∧ (∀ q ∈ s.1, q.1 < 18446744073709551616) ∧ ∀ q ∈ s.2.1, q.1 < 18446744073709551616
def rel4 (s : L4) (t : St) : Prop := t.A = fs s.1 ∧ t.B = fs s.2.1 ∧ t.G = s.2.2 ∧ t.H = [] ∧ AgN t.N s.1 ∧ AgN t.N s.2.1
theorem fs_mid {l r : List (Nat × Nat)} {k n n' : Nat} : fs (l ++ (k, n') :: r) = fs (l ++ (k, n) :: r) := by simp [fs]
theorem AgN.mid {N : Nat → Option Nat} {l r : List (Nat × Nat)} {n n' : Nat} (h : AgN N (l ++ (k, n) :: r)) (hk : ct k (fs (l ++ (k, n) :: r)) ≤ 1) : AgN (nset N k n') (l ++ (k, n') :: r) := by
  have e : fs (l ++ (k, n) :: r) = fs l ++ k :: fs r := by simp [fs]
  rw [e, ct_app, ct_cons, one_same] at hk
  have n1 : k ∉ fs l := ct_no (by omega)
  have n2 : k ∉ fs r := ct_no (by omega)
  intro q hq
  rcases List.mem_append.1 hq with q1 | q1
  · exact AgN.other (fun q hq => h q (by simp [hq])) n1 q q1
  · rcases List.mem_cons.1 q1 with q1 | q1
    · rw [q1]; simp [nset]
    · exact AgN.other (fun q hq => h q (by simp [hq])) n2 q q1
theorem AgN.mid3 {N : Nat → Option Nat} {l r : List (Nat × Nat)} (h : AgN N (l ++ (k, 3) :: r)) : AgN N (l ++ (k, min (3 + 1) 3) :: r) := h
theorem Mi_keep {o : Nat} {G : List Nat} {qs : List (Nat × Nat)} (h : Mi.Rw w w g o F qs) (hf : Fr G w w') (hd : ∀ x ∈ F, x ∉ G) : Mi.Rw w' w' g o F qs := by
  obtain ⟨L, c, hh, m, ns, fr, h1, h2⟩ := h
  have hft : ∀ x ∈ foot g L, x ∈ F := fun x hx => (h1.inF x hx).elim id (fun e => absurd (h1.mem.lt x hx) (by omega))
  exact ⟨L, c, hh, m, ns, fr, ⟨h1.mem.kept hf fun x hx => hd x (hft x hx), Fr.refl _ _, fun _ _ => rfl, fun x hx => Or.inl (hft x hx)⟩, h2⟩
theorem kzS3 (hz : 10 ≤ size ∧ size ≤ 1048576) : Kz 52 94 95 4 size L4 ([], [], []) (fun s => fs s.1 ++ fs s.2.1) (Sp4 size) (P4 size) (inv4 size) rel4 where
  acc := by
    rintro w g F ⟨ps, pm, kk⟩ k ⟨F1, F2, F3, h, ok, hl, hlt⟩ hk
    simp only at h ok hl
    by_cases e1 : k ∈ fs ps
    · obtain ⟨⟨k', hv⟩, hm, rfl⟩ := List.mem_map.1 e1
      obtain ⟨l, r, rfl⟩ := List.append_of_mem hm
      have h3 := ok.hs (k', hv) hm
      obtain ⟨ok', ef⟩ := ok.up
      refine (s3_hit1 h h3 hk).mono ?_
      rintro _ w' ⟨G1, rfl, q⟩
      obtain ⟨F', c1, c2, c3, c4⟩ := P4.reb q ok' (by simp at hl ⊢; exact hl)
      exact ⟨_, F', _, [], true, rfl, c1, c2, c3, c4, .hit1 l r pm kk k' hv⟩
    · by_cases e2 : k ∈ fs pm
      · obtain ⟨⟨k', hv⟩, hm, rfl⟩ := List.mem_map.1 e2
        obtain ⟨l, r, rfl⟩ := List.append_of_mem hm
        have h3 := ok.hm (k', hv) hm
        obtain ⟨ok', ef⟩ := ok.up2
        refine (s3_hit2 h e1 h3 hk).mono ?_
        rintro _ w' ⟨G1, rfl, q⟩
        obtain ⟨F', c1, c2, c3, c4⟩ := P4.reb q ok' (by simp at hl ⊢; exact hl)
        exact ⟨_, F', _, [], true, rfl, c1, c2, c3, c4, .hit2 ps l r kk k' hv e1⟩
      · refine (s3_miss h ok hz hl e1 e2 hk).mono ?_
        rintro _ w' ⟨v', G1, G2, G3, a, b, c, d, a', b', c', d', rfl, hp, ha, q⟩
        obtain ⟨⟨k1, k2, k3⟩, k4, k5⟩ := hp.keep hz.1 ok hl
        have n1 : k ∉ fs a ∧ k ∉ fs b := by
          have i1 := k2 k
          have i2 := ct_zero e1
          have i3 := ct_zero e2
          rw [ct_nil] at i1
          exact ⟨ct_no (by omega), ct_no (by omega)⟩
        obtain ⟨j1, j2, j3, j4, j5⟩ := ha.keep n1.1 n1.2 k1
        have k6 := k5 (by omega)
        obtain ⟨F', c1, c2, c3, c4⟩ := P4.reb q j1 (by omega)
        exact ⟨_, F', _, d', false, rfl, c1, c2, c3, c4, .miss ps pm a b a' b' kk c d c' d' k e1 e2 hp ha⟩
  keys := by
    rintro w g F ⟨ps, pm, kk⟩ ⟨F1, F2, F3, h, ok, hl, hlt⟩
    have hl : ps.length + pm.length ≤ size := hl
    show Calls Tryz.prog _ _ w fun e w' => ∃ v, e = .returned v ∧ w'.ownsRow w.heap.size 33 1 v (fs ps ++ fs pm).length ((fs ps ++ fs pm).map U) ∧ Below w.heap.size w w'
    rw [List.length_append, fs_len, fs_len]
    exact h.keys (by show ps.length + pm.length ≤ _; omega)
  below := by
    rintro w w' g F ⟨ps, pm, kk⟩ ⟨F1, F2, F3, h, ok, hl, hlt⟩ hb
    have h2 := h.below hb
    refine ⟨F1 ++ (F2 ++ F3), ⟨F1, F2, F3, ⟨h2.r1, h2.r2, h2.r3, fun x hx => ⟨(h2.lt x hx).1, Or.inl ?_⟩, h2.a12, h2.a13, h2.a23, Fr.refl _ _, h2.sz, World.ownsRow_nil _ _ _ _, fun b e => by cases e⟩, ok, hl, fun x hx => (h2.lt x ?_).1⟩, fun x hx => ?_⟩
    · simp only [List.mem_append]; exact hx
    · simp only [List.mem_append] at hx; exact hx
    · simp only [List.mem_append] at hx
      exact (h.lt x hx).2.elim id (fun e => absurd (h.lt x hx).1 (by omega))
  lt := by
    rintro w g F s ⟨F1, F2, F3, h, ok, hl, hlt⟩
    exact hlt
  keep := by
    rintro w w' g F G ⟨ps, pm, kk⟩ ⟨F1, F2, F3, h, ok, hl, hlt⟩ hf hd
    have hin : ∀ x, (x ∈ F1 ∨ x ∈ F2 ∨ x ∈ F3) → x ∈ F := fun x hx => (h.lt x hx).2.elim id (fun e => absurd (h.lt x hx).1 (by omega))
    have hg := hin g (Or.inr (Or.inr h.r3.gF))
    refine ⟨F1, F2, F3, ⟨Mi_keep h.r1 hf fun x hx => hd x (hin x (Or.inl hx)), Mi_keep h.r2 hf fun x hx => hd x (hin x (Or.inr (Or.inl hx))), h.r3.keep hf fun x hx => hd x (hin x (Or.inr (Or.inr hx))), fun x hx => ⟨Nat.lt_of_lt_of_le (h.lt x hx).1 hf.size, Or.inl (hin x hx)⟩, h.a12, h.a13, h.a23, Fr.refl _ _, (cell_blk (hf.block g (hlt g hg) (hd g hg)) 0).trans h.sz, World.ownsRow_nil _ _ _ _, fun b e => by cases e⟩, ok, hl, fun x hx => Nat.lt_of_lt_of_le (hlt x hx) hf.size⟩
  iv := by
    rintro w g F s ⟨F1, F2, F3, h, ok, hl, hlt⟩
    exact ⟨ok, hl, hz.1, hz.2, Mi_lt h.r1, Mi_lt h.r2⟩
  le := by
    intro s h
    have := h.2.1
    have := h.2.2.2.1
    rw [List.length_append, fs_len, fs_len]
    omega
  ol := by
    intro s s' k hit out hi h
    cases h with
    | hit1 => simp
    | hit2 => simp
    | miss ps pm a b a' b' ks c d c' d' _ e1 e2 hp ha =>
      obtain ⟨ok, hl, hz1, hz2, _⟩ := hi
      simp only at ok hl
      obtain ⟨⟨k1, k2, k3⟩, k4, k5⟩ := hp.keep hz1 ok hl
      have n1 : k ∉ fs a ∧ k ∉ fs b := by
        have i1 := k2 k
        have i2 := ct_zero e1
        have i3 := ct_zero e2
        rw [ct_nil] at i1
        exact ⟨ct_no (by omega), ct_no (by omega)⟩
      obtain ⟨j1, j2, j3, j4, j5⟩ := ha.keep n1.1 n1.2 k1
      simp only [List.length_nil] at k3
      omega
  rkey := fun h => by rw [h.1, h.2.1]
  rel0 := ⟨rfl, rfl, rfl, rfl, fun q hq => by simp at hq, fun q hq => by simp at hq⟩
  racc := by
    intro w g mm X V s s' t k hit out h hi hr hs hk hn
    obtain ⟨tA, tB, tG, tH, tN, tn, tp, tO⟩ := t
    obtain ⟨ps, pm, kk⟩ := s
    obtain ⟨r1, r2, r3, r4, r5, r6⟩ := hr
    simp only at r1 r2 r3 r4 r5 r6 hn
    subst r1 r2 r3 r4
    obtain ⟨ok, hl, hz1, hz2, hu1, hu2⟩ := hi
    simp only at ok hl hu1 hu2
    have hg := ok.gone
    have hf1 := fs_len ps
    have hf2 := fs_len pm
    have hlb : (fs ps).length ≤ 1000000000 ∧ (fs pm).length ≤ 1000000000 := ⟨by omega, by omega⟩
    have hs0 : (fs ps).length + (fs pm).length + tG.length + ([] : List Nat).length + ([] : List Nat).length ≤ 100000000 := by unfold mMost at hg; simp only [List.length_nil]; omega
    have hnm : tn < maxLen := by unfold maxLen; omega
    cases hs with
    | hit1 l r _ _ _ nv =>
      have hm : k ∈ fs (l ++ (k, nv) :: r) := List.mem_map.2 ⟨(k, nv), by simp, rfl⟩
      have hv : tN k = some nv := r5 (k, nv) (by simp)
      have h3 : nv ≤ 3 := ok.hs (k, nv) (by simp)
      have hnd := ok.nd k
      have hkm : k ∉ fs pm := ct_no (by have := ct_pos hm; omega)
      refine (acc_hitA (Q := fun u => rel4 (l ++ (k, min (nv + 1) 3) :: r, pm, tG) u ∧ u.n ≤ tn + 1) h hm hlb (fun w1 V1 h1 => ?_)).mono ?_
      · by_cases e3 : nv = 3
        · refine (hit4b h1 hs0 rfl hk hnm hv e3).mono ?_
          rintro _ w2 ⟨rfl, V2, h2⟩
          subst e3
          exact ⟨rfl, V2, ⟨fs (l ++ (k, 3) :: r), fs pm, tG, [], tN, tn, tp, []⟩, ⟨⟨fs_mid, rfl, rfl, rfl, r5, r6⟩, Nat.le_succ _⟩, h2⟩
        · refine (hit4a h1 hs0 rfl hk hnm hv (by omega)).mono ?_
          rintro _ w2 ⟨rfl, V2, h2⟩
          have em : min (nv + 1) 3 = nv + 1 := by omega
          rw [em]
          exact ⟨rfl, V2, ⟨fs (l ++ (k, nv) :: r), fs pm, tG, [], nset tN k (nv + 1), ncnt tN tn k, tp, []⟩, ⟨⟨fs_mid, rfl, rfl, rfl, AgN.mid r5 (by omega), AgN.other r6 hkm⟩, ncnt_le _ _ _⟩, h2⟩
      · rintro _ w2 ⟨rfl, V2, s2, ⟨q1, q2⟩, q3, q4⟩
        exact ⟨_, V2, s2, rfl, q3, q1, q2, q4, krd_nil _⟩
    | hit2 _ l r _ _ nv hka =>
      have hm : k ∈ fs (l ++ (k, nv) :: r) := List.mem_map.2 ⟨(k, nv), by simp, rfl⟩
      have hv : tN k = some nv := r6 (k, nv) (by simp)
      have h3 : nv ≤ 3 := ok.hm (k, nv) (by simp)
      have hnd := ok.nd k
      refine (acc_hitB (Q := fun u => rel4 (ps, l ++ (k, min (nv + 1) 3) :: r, tG) u ∧ u.n ≤ tn + 1) h ⟨hka, hm⟩ hlb (fun w1 V1 h1 => ?_)).mono ?_
      · by_cases e3 : nv = 3
        · refine (hit4b h1 hs0 rfl hk hnm hv e3).mono ?_
          rintro _ w2 ⟨rfl, V2, h2⟩
          subst e3
          exact ⟨rfl, V2, ⟨fs ps, fs (l ++ (k, 3) :: r), tG, [], tN, tn, tp, []⟩, ⟨⟨rfl, fs_mid, rfl, rfl, r5, r6⟩, Nat.le_succ _⟩, h2⟩
        · refine (hit4a h1 hs0 rfl hk hnm hv (by omega)).mono ?_
          rintro _ w2 ⟨rfl, V2, h2⟩
          have em : min (nv + 1) 3 = nv + 1 := by omega
          rw [em]
          exact ⟨rfl, V2, ⟨fs ps, fs (l ++ (k, nv) :: r), tG, [], nset tN k (nv + 1), ncnt tN tn k, tp, []⟩, ⟨⟨rfl, fs_mid, rfl, rfl, AgN.other r5 hka, AgN.mid r6 (by omega)⟩, ncnt_le _ _ _⟩, h2⟩
      · rintro _ w2 ⟨rfl, V2, s2, ⟨q1, q2⟩, q3, q4⟩
        exact ⟨_, V2, s2, rfl, q3, q1, q2, q4, krd_nil _⟩
    | miss _ _ a b a' b' _ c d c' d' _ e1 e2 hp ha =>
      refine (acc_4 (Q := fun u => rel4 (a', b', c') u ∧ u.n ≤ tn + 1 ∧ u.O = out) h ⟨e1, e2⟩ hlb rfl (fun w1 V1 h1 => ?_)).mono ?_
      · refine (s3r_any h1 ⟨hz1, hz2⟩ ok ⟨hl, by simp⟩ hnm ⟨r5, r6⟩ ⟨hu1, hu2⟩ hk e1 e2 hp ha).mono ?_
        rintro _ w2 ⟨rfl, V2, M, n', hn', h2, h3, h4⟩
        exact ⟨rfl, V2, ⟨fs a', fs b', c', [], M, n', tp, out⟩, ⟨⟨rfl, rfl, rfl, rfl, h3, h4⟩, hn', rfl⟩, h2⟩
      · rintro _ w2 ⟨V2, s2, rfl, ⟨q1, q2, q3⟩, q4, q5, q6⟩
        rw [q3] at q6
        exact ⟨_, V2, s2, rfl, q4, q1, q2, q5, q6⟩
end
end Go.Proofs.YtjcbpejplnaakaaGreat.Mr

namespace Go.Proofs.YtjcbpejplnaakaaGreat.Mr
open Go.RowKit Go.Maps Go.Proofs.YtjcbpejplnaakaaGreat.Nm Go.Proofs.YtjcbpejplnaakaaGreat.Md

/-- a new cache -/
def Nz (w w' : World) (Q : World → Nat → List Nat → Prop) (g : Nat) : Prop := ∃ F, Q w' g F ∧ Below w.heap.size w w' ∧ ∀ x ∈ F, w.heap.size ≤ x
set_option maxHeartbeats 1600000 in
set_option maxRecDepth 100000 in
theorem nTwoz (w : World) (n : Nat) : Calls Tryz.prog 17 #[I n] w fun e w' => ∃ g : Nat, e = .returned (.pointer (some ⟨g, 0, none⟩)) ∧ Nz w w' (fun w g F => P2 n w g F ([], [], [])) g := by
  go_enter Tryz.func17, Tryz.ntmps17
  go_wp2_with fail
  refine (newRow_any _).mono ?_
  rintro _ w1 ⟨L1, rfl, h1, h2, h3, h4, h5⟩
  have H1 : Hid (Below w.heap.size w w1 ∧ Md.Nr w1 L1 ∧ At w.heap.size w1.heap.size L1) := ⟨h1, ⟨h2, h3⟩, ⟨h4, blk_lt h2⟩, ⟨h5, h3.lt⟩⟩
  clear h1 h2 h3 h4 h5
  go_wp2_with fail
  refine (newRow_any _).mono ?_
  rintro _ w2 ⟨L2, rfl, h1, h2, h3, h4, h5⟩
  have H2 : Hid (Below w1.heap.size w1 w2 ∧ Md.Nr w2 L2 ∧ At w1.heap.size w2.heap.size L2) := ⟨h1, ⟨h2, h3⟩, ⟨h4, blk_lt h2⟩, ⟨h5, h3.lt⟩⟩
  clear h1 h2 h3 h4 h5
  go_wp2_with fail
  refine (newRow_any _).mono ?_
  rintro _ w3 ⟨L3, rfl, h1, h2, h3, h4, h5⟩
  have H3 : Hid (Below w2.heap.size w2 w3 ∧ Md.Nr w3 L3 ∧ At w2.heap.size w3.heap.size L3) := ⟨h1, ⟨h2, h3⟩, ⟨h4, blk_lt h2⟩, ⟨h5, h3.lt⟩⟩
  clear h1 h2 h3 h4 h5
  go_wp2
  go_ret
  obtain ⟨a1, b1, c1⟩ := H1.out
  obtain ⟨a2, b2, c2⟩ := H2.out
  obtain ⟨a3, b3, c3⟩ := H3.out
  have s1 := a1.size
  have s2 := a2.size
  have s3 := a3.size
  obtain ⟨W, hW⟩ : ∃ W, W = w3.alloc (.cells #[I n, .slice (some ⟨L1.nb, 0, none⟩) 1 1, .map (some L1.mb), I 0, .slice (some ⟨L2.nb, 0, none⟩) 1 1, .map (some L2.mb), I 0, .slice (some ⟨L3.nb, 0, none⟩) 1 1, .map (some L3.mb), I 0] 81) := ⟨_, rfl⟩
  have hb : Below w3.heap.size w3 W := by rw [hW]; exact (Below.refl _ w3).alloc (Nat.le_refl _) _
  have hg : W.heap[w3.heap.size]? = some (.cells #[I n, .slice (some ⟨L1.nb, 0, none⟩) 1 1, .map (some L1.mb), I 0, .slice (some ⟨L2.nb, 0, none⟩) 1 1, .map (some L2.mb), I 0, .slice (some ⟨L3.nb, 0, none⟩) 1 1, .map (some L3.mb), I 0] 81 (0, 0)) := by rw [hW]; exact heap_alloc_new _ _
  have hsz : W.heap.size = w3.heap.size + 1 := by rw [hW]; simp
  have n1 := ((b1.below a2).below a3).below hb
  have n2 := (b2.below a3).below hb
  have n3 := b3.below hb
  have hlt : ∀ (a b : Nat) (L : Lo), At a b L → w.heap.size ≤ a → b ≤ w3.heap.size → ∀ x ∈ [w3.heap.size, L.nb, L.mb], x < W.heap.size ∧ w.heap.size ≤ x := fun a b L h q1 q2 x hx => by
    rcases h.mem hx with e | e <;> omega
  have hc : W.cell? ⟨w3.heap.size, 0, none⟩ = some (I n) := by unfold World.cell?; rw [hg]; rfl
  have hbw : Below w.heap.size w W := (a1.trans ((a2.trans ((a3.trans (hb.mono s3)).mono s2)).mono s1))
  obtain ⟨F, q1, q2⟩ := qs_new (w := W) (w0 := w) (g := w3.heap.size) (rs := [(1, [w3.heap.size, L1.nb, L1.mb], []), (4, [w3.heap.size, L2.nb, L2.mb], []), (7, [w3.heap.size, L3.nb, L3.mb], [])]) (by
    intro r hr
    simp only [List.mem_cons, List.not_mem_nil, or_false] at hr
    rcases hr with rfl | rfl | rfl
    · exact n1.rw hg rfl rfl rfl (by have := c1.nb; omega)
    · exact n2.rw hg rfl rfl rfl (by have := c2.nb; omega)
    · exact n3.rw hg rfl rfl rfl (by have := c3.nb; omega)) (by
    refine List.Pairwise.cons ?_ (List.Pairwise.cons ?_ (List.Pairwise.cons (by simp) List.Pairwise.nil))
    · intro r hr
      simp only [List.mem_cons, List.not_mem_nil, or_false] at hr
      rcases hr with rfl | rfl
      · exact ⟨by show (1 : Nat) + 3 ≤ 4; omega, c1.ap c2 (by omega)⟩
      · exact ⟨by show (1 : Nat) + 3 ≤ 7; omega, c1.ap c3 (by omega)⟩
    · intro r hr
      simp only [List.mem_cons, List.not_mem_nil, or_false] at hr
      obtain rfl := hr
      exact ⟨by show (4 : Nat) + 3 ≤ 7; omega, c2.ap c3 (by omega)⟩) (by
    intro r hr
    simp only [List.mem_cons, List.not_mem_nil, or_false] at hr
    rcases hr with rfl | rfl | rfl
    · exact hlt _ _ L1 c1 (by omega) (by omega)
    · exact hlt _ _ L2 c2 (by omega) (by omega)
    · exact hlt _ _ L3 c3 (by omega) (by omega))
  rw [← hW]
  exact ⟨w3.heap.size, rfl, F, ⟨⟨_, _, _, q1, hc⟩, ⟨fun x => by simp [ct_nil], by simp, by simp⟩, fun x hx => (q2 x hx).1⟩, hbw, fun x hx => (q2 x hx).2⟩
set_option maxHeartbeats 1600000 in
set_option maxRecDepth 100000 in
theorem nArcz (w : World) (n : Nat) : Calls Tryz.prog 19 #[I n] w fun e w' => ∃ g : Nat, e = .returned (.pointer (some ⟨g, 0, none⟩)) ∧ Nz w w' (fun w g F => P5 n w g F (0, [], [], [], [])) g := by
  go_enter Tryz.func19, Tryz.ntmps19
  go_wp2_with fail
  refine (newRow_any _).mono ?_
  rintro _ w1 ⟨L1, rfl, h1, h2, h3, h4, h5⟩
  have H1 : Hid (Below w.heap.size w w1 ∧ Md.Nr w1 L1 ∧ At w.heap.size w1.heap.size L1) := ⟨h1, ⟨h2, h3⟩, ⟨h4, blk_lt h2⟩, ⟨h5, h3.lt⟩⟩
  clear h1 h2 h3 h4 h5
  go_wp2_with fail
  refine (newRow_any _).mono ?_
  rintro _ w2 ⟨L2, rfl, h1, h2, h3, h4, h5⟩
  have H2 : Hid (Below w1.heap.size w1 w2 ∧ Md.Nr w2 L2 ∧ At w1.heap.size w2.heap.size L2) := ⟨h1, ⟨h2, h3⟩, ⟨h4, blk_lt h2⟩, ⟨h5, h3.lt⟩⟩
  clear h1 h2 h3 h4 h5
  go_wp2_with fail
  refine (newRow_any _).mono ?_
  rintro _ w3 ⟨L3, rfl, h1, h2, h3, h4, h5⟩
  have H3 : Hid (Below w2.heap.size w2 w3 ∧ Md.Nr w3 L3 ∧ At w2.heap.size w3.heap.size L3) := ⟨h1, ⟨h2, h3⟩, ⟨h4, blk_lt h2⟩, ⟨h5, h3.lt⟩⟩
  clear h1 h2 h3 h4 h5
  go_wp2_with fail
  refine (newRow_any _).mono ?_
  rintro _ w4 ⟨L4, rfl, h1, h2, h3, h4, h5⟩
  have H4 : Hid (Below w3.heap.size w3 w4 ∧ Md.Nr w4 L4 ∧ At w3.heap.size w4.heap.size L4) := ⟨h1, ⟨h2, h3⟩, ⟨h4, blk_lt h2⟩, ⟨h5, h3.lt⟩⟩
  clear h1 h2 h3 h4 h5
  go_wp2
  go_ret
  obtain ⟨a1, b1, c1⟩ := H1.out
  obtain ⟨a2, b2, c2⟩ := H2.out
  obtain ⟨a3, b3, c3⟩ := H3.out
  obtain ⟨a4, b4, c4⟩ := H4.out
  have s1 := a1.size
  have s2 := a2.size
  have s3 := a3.size
  have s4 := a4.size
  obtain ⟨W, hW⟩ : ∃ W, W = w4.alloc (.cells #[I n, I 0, .slice (some ⟨L1.nb, 0, none⟩) 1 1, .map (some L1.mb), I 0, .slice (some ⟨L2.nb, 0, none⟩) 1 1, .map (some L2.mb), I 0, .slice (some ⟨L3.nb, 0, none⟩) 1 1, .map (some L3.mb), I 0, .slice (some ⟨L4.nb, 0, none⟩) 1 1, .map (some L4.mb), I 0] 89) := ⟨_, rfl⟩
  have hb : Below w4.heap.size w4 W := by rw [hW]; exact (Below.refl _ w4).alloc (Nat.le_refl _) _
  have hg : W.heap[w4.heap.size]? = some (.cells #[I n, I 0, .slice (some ⟨L1.nb, 0, none⟩) 1 1, .map (some L1.mb), I 0, .slice (some ⟨L2.nb, 0, none⟩) 1 1, .map (some L2.mb), I 0, .slice (some ⟨L3.nb, 0, none⟩) 1 1, .map (some L3.mb), I 0, .slice (some ⟨L4.nb, 0, none⟩) 1 1, .map (some L4.mb), I 0] 89 (0, 0)) := by rw [hW]; exact heap_alloc_new _ _
  have hsz : W.heap.size = w4.heap.size + 1 := by rw [hW]; simp
  have n1 := (((b1.below a2).below a3).below a4).below hb
  have n2 := ((b2.below a3).below a4).below hb
  have n3 := (b3.below a4).below hb
  have n4 := b4.below hb
  have hlt : ∀ (a b : Nat) (L : Lo), At a b L → w.heap.size ≤ a → b ≤ w4.heap.size → ∀ x ∈ [w4.heap.size, L.nb, L.mb], x < W.heap.size ∧ w.heap.size ≤ x := fun a b L h q1 q2 x hx => by
    rcases h.mem hx with e | e <;> omega
  have hc : W.cell? ⟨w4.heap.size, 0, none⟩ = some (I n) := by unfold World.cell?; rw [hg]; rfl
  have hbw : Below w.heap.size w W := (a1.trans ((a2.trans ((a3.trans ((a4.trans (hb.mono s4)).mono s3)).mono s2)).mono s1))
  obtain ⟨F, q1, q2⟩ := qs_new (w := W) (w0 := w) (g := w4.heap.size) (rs := [(2, [w4.heap.size, L1.nb, L1.mb], []), (5, [w4.heap.size, L2.nb, L2.mb], []), (8, [w4.heap.size, L3.nb, L3.mb], []), (11, [w4.heap.size, L4.nb, L4.mb], [])]) (by
    intro r hr
    simp only [List.mem_cons, List.not_mem_nil, or_false] at hr
    rcases hr with rfl | rfl | rfl | rfl
    · exact n1.rw hg rfl rfl rfl (by have := c1.nb; omega)
    · exact n2.rw hg rfl rfl rfl (by have := c2.nb; omega)
    · exact n3.rw hg rfl rfl rfl (by have := c3.nb; omega)
    · exact n4.rw hg rfl rfl rfl (by have := c4.nb; omega)) (by
    refine List.Pairwise.cons ?_ (List.Pairwise.cons ?_ (List.Pairwise.cons ?_ (List.Pairwise.cons (by simp) List.Pairwise.nil)))
    · intro r hr
      simp only [List.mem_cons, List.not_mem_nil, or_false] at hr
      rcases hr with rfl | rfl | rfl
      · exact ⟨by show (2 : Nat) + 3 ≤ 5; omega, c1.ap c2 (by omega)⟩
      · exact ⟨by show (2 : Nat) + 3 ≤ 8; omega, c1.ap c3 (by omega)⟩
      · exact ⟨by show (2 : Nat) + 3 ≤ 11; omega, c1.ap c4 (by omega)⟩
    · intro r hr
      simp only [List.mem_cons, List.not_mem_nil, or_false] at hr
      rcases hr with rfl | rfl
      · exact ⟨by show (5 : Nat) + 3 ≤ 8; omega, c2.ap c3 (by omega)⟩
      · exact ⟨by show (5 : Nat) + 3 ≤ 11; omega, c2.ap c4 (by omega)⟩
    · intro r hr
      simp only [List.mem_cons, List.not_mem_nil, or_false] at hr
      obtain rfl := hr
      exact ⟨by show (8 : Nat) + 3 ≤ 11; omega, c3.ap c4 (by omega)⟩) (by
    intro r hr
    simp only [List.mem_cons, List.not_mem_nil, or_false] at hr
    rcases hr with rfl | rfl | rfl | rfl
    · exact hlt _ _ L1 c1 (by omega) (by omega)
    · exact hlt _ _ L2 c2 (by omega) (by omega)
    · exact hlt _ _ L3 c3 (by omega) (by omega)
    · exact hlt _ _ L4 c4 (by omega) (by omega))
  rw [← hW]
  have hp : W.cell? ⟨w4.heap.size, 1, none⟩ = some (I 0) := by unfold World.cell?; rw [hg]; rfl
  exact ⟨w4.heap.size, rfl, F, ⟨⟨_, _, _, _, q1, hc, hp⟩, ⟨fun x => by simp [ct_nil], by simp, by simp, by simp, by omega, fun q => by simp at q⟩, fun x hx => (q2 x hx).1⟩, hbw, fun x hx => (q2 x hx).2⟩
set_option maxHeartbeats 1600000 in
set_option maxRecDepth 100000 in
theorem nS3z (w : World) (n : Nat) : Calls Tryz.prog 18 #[I n] w fun e w' => ∃ g : Nat, e = .returned (.pointer (some ⟨g, 0, none⟩)) ∧ Nz w w' (fun w g F => P4 n w g F ([], [], [])) g := by
  go_enter Tryz.func18, Tryz.ntmps18
  go_wp2_with fail
  refine (Mi.newRow_any _).mono ?_
  rintro _ w1 ⟨L1, rfl, h1, h2, h3, h4, h5⟩
  have H1 : Hid (Below w.heap.size w w1 ∧ Mi.Nr w1 L1 ∧ At w.heap.size w1.heap.size L1) := ⟨h1, ⟨h2, h3⟩, ⟨h4, blk_lt h2⟩, ⟨h5, h3.lt⟩⟩
  clear h1 h2 h3 h4 h5
  go_wp2_with fail
  refine (Mi.newRow_any _).mono ?_
  rintro _ w2 ⟨L2, rfl, h1, h2, h3, h4, h5⟩
  have H2 : Hid (Below w1.heap.size w1 w2 ∧ Mi.Nr w2 L2 ∧ At w1.heap.size w2.heap.size L2) := ⟨h1, ⟨h2, h3⟩, ⟨h4, blk_lt h2⟩, ⟨h5, h3.lt⟩⟩
  clear h1 h2 h3 h4 h5
  go_wp2_with fail
  refine (newRow_any _).mono ?_
  rintro _ w3 ⟨L3, rfl, h1, h2, h3, h4, h5⟩
  have H3 : Hid (Below w2.heap.size w2 w3 ∧ Md.Nr w3 L3 ∧ At w2.heap.size w3.heap.size L3) := ⟨h1, ⟨h2, h3⟩, ⟨h4, blk_lt h2⟩, ⟨h5, h3.lt⟩⟩
  clear h1 h2 h3 h4 h5
  go_wp2
  go_ret
  obtain ⟨a1, b1, c1⟩ := H1.out
  obtain ⟨a2, b2, c2⟩ := H2.out
  obtain ⟨a3, b3, c3⟩ := H3.out
  have s1 := a1.size
  have s2 := a2.size
  have s3 := a3.size
  obtain ⟨W, hW⟩ : ∃ W, W = w3.alloc (.cells #[I n, .slice (some ⟨L1.nb, 0, none⟩) 1 1, .map (some L1.mb), I 0, .slice (some ⟨L2.nb, 0, none⟩) 1 1, .map (some L2.mb), I 0, .slice (some ⟨L3.nb, 0, none⟩) 1 1, .map (some L3.mb), I 0] 87) := ⟨_, rfl⟩
  have hb : Below w3.heap.size w3 W := by rw [hW]; exact (Below.refl _ w3).alloc (Nat.le_refl _) _
  have hg : W.heap[w3.heap.size]? = some (.cells #[I n, .slice (some ⟨L1.nb, 0, none⟩) 1 1, .map (some L1.mb), I 0, .slice (some ⟨L2.nb, 0, none⟩) 1 1, .map (some L2.mb), I 0, .slice (some ⟨L3.nb, 0, none⟩) 1 1, .map (some L3.mb), I 0] 87 (0, 0)) := by rw [hW]; exact heap_alloc_new _ _
  have hsz : W.heap.size = w3.heap.size + 1 := by rw [hW]; simp
  have n1 := ((b1.below a2).below a3).below hb
  have n2 := (b2.below a3).below hb
  have n3 := b3.below hb
  have hlt : ∀ (a b : Nat) (L : Lo), At a b L → w.heap.size ≤ a → b ≤ w3.heap.size → ∀ x ∈ [w3.heap.size, L.nb, L.mb], x < W.heap.size ∧ w.heap.size ≤ x := fun a b L h q1 q2 x hx => by
    rcases h.mem hx with e | e <;> omega
  have hc : W.cell? ⟨w3.heap.size, 0, none⟩ = some (I n) := by unfold World.cell?; rw [hg]; rfl
  have hbw : Below w.heap.size w W := (a1.trans ((a2.trans ((a3.trans (hb.mono s3)).mono s2)).mono s1))

  rw [← hW]
  have r1 := n1.rw (o := 1) hg rfl rfl rfl (by have := c1.nb; omega)
  have r2 := n2.rw (o := 4) hg rfl rfl rfl (by have := c2.nb; omega)
  have r3 := n3.rw (o := 7) hg rfl rfl rfl (by have := c3.nb; omega)
  have l1 := hlt _ _ L1 c1 (by omega) (by omega)
  have l2 := hlt _ _ L2 c2 (by omega) (by omega)
  have l3 := hlt _ _ L3 c3 (by omega) (by omega)
  refine ⟨w3.heap.size, rfl, [w3.heap.size, L1.nb, L1.mb] ++ ([w3.heap.size, L2.nb, L2.mb] ++ [w3.heap.size, L3.nb, L3.mb]), ⟨[w3.heap.size, L1.nb, L1.mb], [w3.heap.size, L2.nb, L2.mb], [w3.heap.size, L3.nb, L3.mb], ⟨r1, r2, r3, fun x hx => ⟨?_, Or.inl ?_⟩, c1.ap c2 (by omega), c1.ap c3 (by omega), c2.ap c3 (by omega), Fr.refl _ _, hc, World.ownsRow_nil _ _ _ _, fun b e => by cases e⟩, ⟨fun x => by simp [fs, ct_nil], by simp, by simp, by simp, by simp⟩, by simp, fun x hx => ?_⟩, hbw, fun x hx => ?_⟩
  · rcases hx with e | e | e
    · exact (l1 x e).1
    · exact (l2 x e).1
    · exact (l3 x e).1
  · rw [List.mem_append, List.mem_append]
    exact hx
  · rw [List.mem_append, List.mem_append] at hx
    rcases hx with e | e | e
    · exact (l1 x e).1
    · exact (l2 x e).1
    · exact (l3 x e).1
  · rw [List.mem_append, List.mem_append] at hx
    rcases hx with e | e | e
    · exact (l1 x e).2
    · exact (l2 x e).2
    · exact (l3 x e).2
set_option maxHeartbeats 800000 in
set_option maxRecDepth 100000 in
theorem newz3 (w : World) (n : Nat) (h1 : lN 3 ≤ n) (h2 : n ≤ 1048576) : Calls Tryz.prog 5 #[I 3, I n] w fun e w' => ∃ g : Nat, e = .returned (.tuple #[.iface 50 (.pointer (some ⟨g, 0, none⟩)), I 0]) ∧ Nz w w' (fun w g F => P2 n w g F ([], [], [])) g := by
  have H : Hid (∀ u : World, Calls Tryz.prog 13 #[I 3, I n] u fun e w' => e = .returned (.bool true) ∧ w' = u) := fun u => by
    have := isSize_any u 3 n
    rw [decide_eq_true (show ((0 : Int) ≤ 3 ∧ (3 : Int) < 6) ∧ lst 3 ≤ n ∧ (n : Int) ≤ 1048576 from ⟨by decide, by show (2 : Int) ≤ n; have : 2 ≤ n := h1; omega, by omega⟩)] at this
    exact this
  clear h1 h2
  go_enter Tryz.func5, Tryz.ntmps5
  go_wp2_with (go_at_call 13; refine (H.out _).mono ?_; rintro _ w ⟨rfl, rfl⟩)
  refine (nTwoz _ _).mono ?_
  rintro _ w1 ⟨g, rfl, q1⟩
  have H1 : Hid (Nz w w1 (fun w g F => P2 n w g F ([], [], [])) g) := q1
  clear q1
  go_wp2
  go_ret2
  exact ⟨g, rfl, H1.out⟩
set_option maxHeartbeats 800000 in
set_option maxRecDepth 100000 in
theorem newz4 (w : World) (n : Nat) (h1 : lN 4 ≤ n) (h2 : n ≤ 1048576) : Calls Tryz.prog 5 #[I 4, I n] w fun e w' => ∃ g : Nat, e = .returned (.tuple #[.iface 52 (.pointer (some ⟨g, 0, none⟩)), I 0]) ∧ Nz w w' (fun w g F => P4 n w g F ([], [], [])) g := by
  have H : Hid (∀ u : World, Calls Tryz.prog 13 #[I 4, I n] u fun e w' => e = .returned (.bool true) ∧ w' = u) := fun u => by
    have := isSize_any u 4 n
    rw [decide_eq_true (show ((0 : Int) ≤ 4 ∧ (4 : Int) < 6) ∧ lst 4 ≤ n ∧ (n : Int) ≤ 1048576 from ⟨by decide, by show (10 : Int) ≤ n; have : 10 ≤ n := h1; omega, by omega⟩)] at this
    exact this
  clear h1 h2
  go_enter Tryz.func5, Tryz.ntmps5
  go_wp2_with (go_at_call 13; refine (H.out _).mono ?_; rintro _ w ⟨rfl, rfl⟩)
  refine (nS3z _ _).mono ?_
  rintro _ w1 ⟨g, rfl, q1⟩
  have H1 : Hid (Nz w w1 (fun w g F => P4 n w g F ([], [], [])) g) := q1
  clear q1
  go_wp2
  go_ret2
  exact ⟨g, rfl, H1.out⟩
set_option maxHeartbeats 800000 in
set_option maxRecDepth 100000 in
theorem newz5 (w : World) (n : Nat) (h1 : lN 5 ≤ n) (h2 : n ≤ 1048576) : Calls Tryz.prog 5 #[I 5, I n] w fun e w' => ∃ g : Nat, e = .returned (.tuple #[.iface 54 (.pointer (some ⟨g, 0, none⟩)), I 0]) ∧ Nz w w' (fun w g F => P5 n w g F (0, [], [], [], [])) g := by
  have H : Hid (∀ u : World, Calls Tryz.prog 13 #[I 5, I n] u fun e w' => e = .returned (.bool true) ∧ w' = u) := fun u => by
    have := isSize_any u 5 n
    rw [decide_eq_true (show ((0 : Int) ≤ 5 ∧ (5 : Int) < 6) ∧ lst 5 ≤ n ∧ (n : Int) ≤ 1048576 from ⟨by decide, by show (1 : Int) ≤ n; have : 1 ≤ n := h1; omega, by omega⟩)] at this
    exact this
  clear h1 h2
  go_enter Tryz.func5, Tryz.ntmps5
  go_wp2_with (go_at_call 13; refine (H.out _).mono ?_; rintro _ w ⟨rfl, rfl⟩)
  refine (nArcz _ _).mono ?_
  rintro _ w1 ⟨g, rfl, q1⟩
  have H1 : Hid (Nz w w1 (fun w g F => P5 n w g F (0, [], [], [], [])) g) := q1
  clear q1
  go_wp2
  go_ret2
  exact ⟨g, rfl, H1.out⟩


/-- New of every kind: what is told can be held against the reference -/
theorem newz_all (w : World) (k n : Nat) (hk : k < 6) (h1 : lN k ≤ n) (h2 : n ≤ 1048576) : Calls Tryz.prog 5 #[I (k : Nat), I n] w fun e w' => ∃ (T fa fk : Nat) (σ : Type) (s0 : σ) (key : σ → List Nat) (Sp : σ → Nat → Bool → σ → List Nat → Prop) (P : World → Nat → List Nat → σ → Prop) (inv : σ → Prop) (rel : σ → St → Prop) (g : Nat), e = .returned (.tuple #[.iface T (.pointer (some ⟨g, 0, none⟩)), I 0]) ∧ Nz w w' (fun w g F => P w g F s0) g ∧ Kz T fa fk k n σ s0 key Sp P inv rel ∧ Ifc T fa fk := by
  obtain rfl | rfl | rfl | rfl | rfl | rfl : k = 0 ∨ k = 1 ∨ k = 2 ∨ k = 3 ∨ k = 4 ∨ k = 5 := by omega
  · have h3 : 1 ≤ n := h1
    refine (new0 w n h1 h2).mono ?_
    rintro _ w' ⟨g, rfl, q⟩
    exact ⟨_, _, _, List Nat, [], id, Sp0 n, (fun w g F ks => Ca w g n F ks ∧ ks.length ≤ n), inv1 n, rel1, g, rfl, q, kzFifo h3 h2, ifc0⟩
  · have h3 : 1 ≤ n := h1
    refine (new1 w n h1 h2).mono ?_
    rintro _ w' ⟨g, rfl, q⟩
    exact ⟨_, _, _, List Nat, [], id, Sp1 n, (fun w g F ks => Ca w g n F ks ∧ ks.length ≤ n), inv1 n, rel1, g, rfl, q, kzLru h3 h2, ifc1⟩
  · have h3 : 1 ≤ n := h1
    refine (new2 w n h1 h2).mono ?_
    rintro _ w' ⟨g, rfl, F, ⟨ps, hp, q1, q2, q3, q4⟩, q5⟩
    have hp : ps = [] := by
      cases ps with
      | nil => rfl
      | cons a l => simp at hp
    subst hp
    exact ⟨_, _, _, _, _, _, _, _, _, _, g, rfl, ⟨F, ⟨q1, q2, q3, q4⟩, q5⟩, kzClock h3 h2, ifc2⟩
  · have h3 : 2 ≤ n := h1
    refine (newz3 w n h1 h2).mono ?_
    rintro _ w' ⟨g, rfl, q⟩
    exact ⟨_, _, _, _, _, _, _, _, _, _, g, rfl, q, kzTwo ⟨h3, h2⟩, ifc3⟩
  · have h3 : 10 ≤ n := h1
    refine (newz4 w n h1 h2).mono ?_
    rintro _ w' ⟨g, rfl, q⟩
    exact ⟨_, _, _, _, _, _, _, _, _, _, g, rfl, q, kzS3 ⟨h3, h2⟩, ifc4⟩
  · have h3 : 1 ≤ n := h1
    refine (newz5 w n h1 h2).mono ?_
    rintro _ w' ⟨g, rfl, q⟩
    exact ⟨_, _, _, _, _, _, _, _, _, _, g, rfl, q, kzArc h3 h2, ifc5⟩
/-- a kind and a size that may be -/
def okN (k n : Int) : Prop := (0 ≤ k ∧ k < 6) ∧ lst k ≤ n ∧ n ≤ 1048576
theorem lst_nat (kn : Nat) : lst (kn : Int) = ((lN kn : Nat) : Int) := by
  unfold lst lN
  by_cases e3 : kn = 3
  · subst e3; rfl
  · by_cases e4 : kn = 4
    · subst e4; rfl
    · rw [if_neg (by omega), if_neg (by omega), if_neg e3, if_neg e4]; rfl
theorem okN_nat {a b : Int} (h : okN a b) : ∃ kd n : Nat, a = (kd : Int) ∧ b = (n : Int) ∧ kd < 6 ∧ lN kd ≤ n ∧ n ≤ 1048576 := by
  obtain ⟨⟨h1, h2⟩, h3, h4⟩ := h
  obtain ⟨kn, rfl⟩ : ∃ kn : Nat, a = (kn : Int) := ⟨a.toNat, by omega⟩
  rw [lst_nat] at h3
  exact ⟨kn, b.toNat, rfl, by omega, by omega, by omega, by omega⟩
set_option maxHeartbeats 800000 in
set_option maxRecDepth 100000 in
theorem newz_no (w : World) (k n : Int) (h : ¬ okN k n) : Calls Tryz.prog 5 #[I k, I n] w fun e w' => e = .returned (.tuple #[.nilIface, I 1]) ∧ w' = w := by
  have H : Hid (∀ u : World, Calls Tryz.prog 13 #[I k, I n] u fun e w' => e = .returned (.bool false) ∧ w' = u) := fun u => by
    have := isSize_any u k n
    rw [decide_eq_false (show ¬ ((0 ≤ k ∧ k < 6) ∧ lst k ≤ n ∧ n ≤ 1048576) from h)] at this
    exact this
  clear h
  go_enter Tryz.func5, Tryz.ntmps5
  go_wp2_with (go_at_call 13; refine (H.out _).mono ?_; rintro _ w ⟨rfl, rfl⟩)
  go_ret2
  exact ⟨rfl, rfl⟩
set_option maxHeartbeats 800000 in
set_option maxRecDepth 100000 in
theorem rnew_no (w : World) (k n : Int) (h : ¬ okN k n) : Calls Tryz.prog 6 #[I k, I n] w fun e w' => e = .returned (.tuple #[.pointer none, I 1]) ∧ w' = w := by
  by_cases h0 : 0 ≤ k
  · by_cases h1 : k < 6
    · obtain ⟨kn, rfl⟩ : ∃ kn : Nat, k = (kn : Int) := ⟨k.toNat, by omega⟩
      have hl := lst_nat kn
      by_cases h2 : ((lN kn : Nat) : Int) ≤ n
      · have h3 : ¬ (n ≤ 1048576) := fun e => h ⟨⟨h0, h1⟩, by rw [hl]; exact h2, e⟩
        have h5 : (kn : Int) ≤ 5 := by omega
        clear h hl h1
        go_enter Tryz.func6, Tryz.ntmps6
        go_wp2_with fail
        refine (least_any w kn).mono ?_
        rintro _ w ⟨rfl, rfl⟩
        go_wp2
        go_ret2
        exact ⟨rfl, rfl⟩
      · have h5 : (kn : Int) ≤ 5 := by omega
        clear h hl h1
        go_enter Tryz.func6, Tryz.ntmps6
        go_wp2_with fail
        refine (least_any w kn).mono ?_
        rintro _ w ⟨rfl, rfl⟩
        go_wp2
        go_ret2
        exact ⟨rfl, rfl⟩
    · have h5 : 5 < k := by omega
      clear h h1
      go_enter Tryz.func6, Tryz.ntmps6
      go_wp2
      go_ret2
      exact ⟨rfl, rfl⟩
  · clear h
    go_enter Tryz.func6, Tryz.ntmps6
    go_wp2
    go_ret2
    exact ⟨rfl, rfl⟩
end Go.Proofs.YtjcbpejplnaakaaGreat.Mr

namespace Go.Proofs.YtjcbpejplnaakaaGreat.Mr
open Go.RowKit Go.Maps Go.Proofs.YtjcbpejplnaakaaGreat.Nm Go.Proofs.YtjcbpejplnaakaaGreat.Md

section
variable {w w' w0 W : World} {g gr mr size k kd c i T fa fk : Nat} {F F' X l out : List Nat} {v : Value} {V V' : Vs} {t t' : St} {σ : Type} {s0 s s' : σ} {key : σ → List Nat} {Sp : σ → Nat → Bool → σ → List Nat → Prop} {P : World → Nat → List Nat → σ → Prop} {inv : σ → Prop} {rel : σ → St → Prop}
/-- a list of keys stays where only the reference's own blocks have turned -/
theorem krd_fr (h : KRd w v l) (hz : Rz w gr mr kd c X V t) (hf : Fr [gr, mr] w w') : KRd w' v l := by
  obtain ⟨b, cc, e, h2⟩ := h
  refine ⟨b, cc, e, fun j x hx => ?_⟩
  obtain ⟨b1, e1, l1, c1⟩ := h2 j x hx
  have h0 : ∃ y, l[0]? = some y := by
    cases l with
    | nil => simp at hx
    | cons y l => exact ⟨y, rfl⟩
  obtain ⟨y, hy⟩ := h0
  obtain ⟨b2, e2, l2, c2⟩ := h2 0 y hy
  rw [e1] at e2
  cases e2
  have n1 : b1 ≠ gr := by
    rintro rfl
    have := hz.cell 0
    rw [c2] at this
    cases this
  have n2 : b1 ≠ mr := by
    rintro rfl
    obtain ⟨es, cz, hb⟩ := hz.bk.blk
    simp [World.cell?, hb] at c2
  have hb := hf.block b1 l1 (by simp [n1, n2])
  exact ⟨b1, e1, Nat.lt_of_lt_of_le l1 hf.size, (cell_blk hb j).trans c1⟩
/-- a cache and the reference's beside it, at work since W -/
structure Jt (W w : World) (P : World → Nat → List Nat → σ → Prop) (rel : σ → St → Prop) (g gr mr kd size : Nat) (F : List Nat) (V : Vs) (s s' : σ) (t : St) (i : Nat) : Prop where
  bel : Below W.heap.size W w
  p : P w g F s
  new : ∀ x ∈ F, W.heap.size ≤ x
  rz : Rz w gr mr kd size F V t
  rl : rel s' t
  cn : t.n ≤ i
  ng : gr ∉ F ∧ mr ∉ F
  rn : W.heap.size ≤ gr ∧ W.heap.size ≤ mr
theorem Jt.below (K : Kz T fa fk kd size σ s0 key Sp P inv rel) (h : Jt W w P rel g gr mr kd size F V s s' t i) (hb : Below w.heap.size w w') : ∃ F', Jt W w' P rel g gr mr kd size F' V s s' t i := by
  obtain ⟨F', p1, p2⟩ := K.below h.p hb
  exact ⟨F', h.bel.trans (hb.mono h.bel.size), p1, fun x hx => h.new x (p2 x hx), h.rz.move (K := []) (Fr.of_below hb) (by simp) (by simp) (by simp) fun x hx => ⟨Nat.lt_of_lt_of_le (K.lt h.p x (p2 x hx)) hb.size, Or.inl (p2 x hx)⟩, h.rl, h.cn, ⟨fun e => h.ng.1 (p2 _ e), fun e => h.ng.2 (p2 _ e)⟩, h.rn⟩
/-- the cache was asked -/
theorem Jt.one (K : Kz T fa fk kd size σ s0 key Sp P inv rel) {s2 : σ} (h : Jt W w P rel g gr mr kd size F V s s' t i) (h1 : P w' g F' s2) (h2 : Fr F w w') (h3 : ∀ x ∈ F', x ∈ F ∨ w.heap.size ≤ x) : Jt W w' P rel g gr mr kd size F' V s2 s' t i := by
  have hg := h.rz.gl
  have hm := h.rz.bk.lt
  exact ⟨fr_below h.bel h.new h2, h1, new_F h.bel h.new h3, h.rz.move (K := F) h2 (fun x hx => Or.inl hx) h.ng.1 h.ng.2 fun x hx => ⟨K.lt h1 x hx, h3 x hx⟩, h.rl, h.cn, ⟨fun e => (h3 _ e).elim h.ng.1 (by omega), fun e => (h3 _ e).elim h.ng.2 (by omega)⟩, h.rn⟩
/-- the reference was asked -/
theorem Jt.two (K : Kz T fa fk kd size σ s0 key Sp P inv rel) {s2 : σ} {j : Nat} (h : Jt W w P rel g gr mr kd size F V s s' t i) (h1 : Rz w' gr mr kd size F V' t') (h2 : rel s2 t') (h3 : t'.n ≤ j) (h4 : Fr [gr, mr] w w') : Jt W w' P rel g gr mr kd size F V' s s2 t' j := by
  refine ⟨?_, K.keep h.p h4 fun x hx e => ?_, h.new, h1, h2, h3, h.ng, h.rn⟩
  · refine fr_below (F := [gr, mr]) h.bel (fun x hx => ?_) h4
    simp only [List.mem_cons, List.not_mem_nil, or_false] at hx
    rcases hx with rfl | rfl
    · exact h.rn.1
    · exact h.rn.2
  · simp only [List.mem_cons, List.not_mem_nil, or_false] at e
    rcases e with rfl | rfl
    · exact h.ng.1 hx
    · exact h.ng.2 hx
end
end Go.Proofs.YtjcbpejplnaakaaGreat.Mr
