import Derived.Test.YtkekmmomdhdegaaIxTaken
import Derived.Deep.WholeRow
namespace Go.Proofs.Ytkekmmomdhdegaa.Ii
open Go.RowKit Go.Proofs.Ytkekmmomdhdegaa.Ix

theorem own_mk {w : World} {base : Nat} {e : TypeId} {size n g cap : Nat} {cur xs : List Value} (hx : xs.length = n * size) (h2 : base ≤ g) (h3 : w.heap[g]? = some (.cells cur.toArray e (0, 0))) (h4 : n ≤ cap) (h5 : cap ≤ maxLen) (h6 : cur.length = cap * size) (h7 : cur.take (n * size) = xs) :
    w.ownsRow base e size (.slice (some ⟨g, 0, none⟩) n cap) n xs := ⟨hx, Or.inr ⟨g, cap, cur.toArray, rfl, h2, h3, h4, h5, by simpa using h6, by simpa using h7⟩⟩
set_option maxHeartbeats 1600000 in
set_option maxRecDepth 100000 in
theorem clone_any (w : World) (b n c : Nat) (xs : List Value) (hl : xs.length = n * 1) (hc : ∀ j u, xs[j]? = some u → w.cell? ⟨b, j, none⟩ = some u) (h1 : ∀ u ∈ xs, u.oneCell' = true) (hn : n ≤ 4194304) :
    Calls Try.prog 33 #[.slice (some ⟨b, 0, none⟩) n c] w fun r w' => ∃ ad c', r = .returned (.slice (some ⟨ad, 0, none⟩) n c') ∧ w'.ownsRow w.heap.size 73 1 (.slice (some ⟨ad, 0, none⟩) n c') n xs ∧ Below w.heap.size w w' := by
  have hnil : ∀ u : World, (binOp BinOp.eql 69 (.slice (some ⟨b, 0, none⟩) n c) (.slice none 0 0)).run Try.prog u = .ok (.bool false) u := fun u => eql_nil u 69 73 (some ⟨b, 0, none⟩) n c Try.underlying69
  obtain ⟨i0, hi, hz0, hz1, hz2⟩ := info_parts info73
  have hb1 : Below w.heap.size w (w.alloc (.cells #[] 73)) := (Below.refl _ w).alloc (Nat.le_refl _) _
  have HB : Hid (Below w.heap.size w (w.alloc (.cells #[] 73))) := hb1
  have HO : Hid ((w.alloc (.cells #[] 73)).ownsRow w.heap.size 73 1 (.slice (some ⟨w.heap.size, 0, none⟩) 0 0) 0 []) := own_mk (cur := []) rfl (Nat.le_refl _) (heap_alloc_new w _) (Nat.le_refl _) (Nat.zero_le _) rfl rfl
  have HC : Hid ((∀ j u, xs[j]? = some u → (w.alloc (.cells #[] 73)).cell? ((⟨b, 0, none⟩ : Addr).add j) = some u) ∧ (∀ u ∈ xs, u.oneCell' = true) ∧ xs.length = n * 1 ∧ n ≤ 4194304) := by
    refine ⟨fun j u hu => ?_, h1, hl, hn⟩
    have e := hc j u hu
    have hlt := World.block_lt_of_cell? w _ e
    rw [Lib.addr_add]
    simp only [Nat.zero_add]
    rw [World.cell?_of_block (a := ⟨b, j, none⟩) (Below.heap_alloc w _ b hlt)]
    exact e
  clear hl hc h1 hn hb1
  go_enter Try.func33, Try.ntmps33
  go_wp2_with (at_builtin; refine wpList_append_own _ rfl _ _ 69 rfl w.heap.size 73 i0 (.pointer none) 1 8 Try.underlying69 hi hz0 hz1 hz2 rfl (by decide) (.slice (some ⟨w.heap.size, 0, none⟩) 0 0) 0 [] rfl HO.out ⟨b, 0, none⟩ n c xs rfl HC.out.2.2.1 HC.out.1 HC.out.2.1 ?c3 ?c4 ?c5 ?_)
  case c3 => have := HC.out.2.2.2; unfold maxLen; omega
  case c4 => have := HC.out.2.2.2; omega
  case c5 => exact HB.out.size
  intro v' w2 ho hg hiff
  have HR : Hid (w2.ownsRow w.heap.size 73 1 v' n xs ∧ Below w.heap.size w w2) := ⟨by simpa using ho, HB.out.grown hg HB.out.size (fun k e => by cases e; exact Nat.le_refl _)⟩
  have hform : ∃ ad c', v' = .slice (some ⟨ad, 0, none⟩) n c' := by
    rcases HR.out.1.2 with ⟨e1, _⟩ | ⟨g, cap, cur, e1, _⟩
    · exact absurd e1 (by simpa using hiff)
    · exact ⟨g, cap, e1⟩
  obtain ⟨ad, c', rfl⟩ := hform
  clear ho hg hiff
  go_wp2
  go_ret
  exact ⟨ad, c', rfl, HR.out.1, HR.out.2⟩
set_option maxHeartbeats 800000 in
theorem clone_nil (w : World) : Calls Try.prog 33 #[.slice none 0 0] w fun r w' => r = .returned (.slice none 0 0) ∧ w' = w := by
  have hnil : ∀ u : World, (binOp BinOp.eql 69 (.slice none 0 0) (.slice none 0 0)).run Try.prog u = .ok (.bool true) u := fun u => eql_nil u 69 73 none 0 0 Try.underlying69
  go_enter Try.func33, Try.ntmps33
  go_wp2
  go_ret
  exact ⟨rfl, rfl⟩
/-- a page that is copied -/
theorem Mem.pageRow {w W : World} {g : Nat} {o : Lo} {b most count : Nat} {t : Tb El} (h : Mem w g o b most count t) {k p : Nat} (hp : o.ps k = some p) (hb : Below w.heap.size w W) : ∃ cs : Array Value, cs.size = 96 ∧ (∀ j, j < 32 → Slt cs j (t (k * 32 + j))) ∧ W.heap[p]? = some (.cells cs 77 (0, 0)) ∧ (∀ v ∈ cs.toList, v.oneCell' = true) := by
  obtain ⟨_, cs, h1, h2, h3⟩ := h.pp k p hp
  refine ⟨cs, h2, h3, (hb.block p ((Array.getElem?_eq_some_iff.1 h1).1)).trans h1, fun v hv => ?_⟩
  obtain ⟨i, hi, e⟩ := List.getElem_of_mem hv
  have hi' : i < cs.size := by simpa using hi
  have e' : cs[i]? = some v := by rw [Array.getElem?_eq_getElem hi']; simpa using e
  obtain ⟨k', v', b', s1, s2, s3, _⟩ := h3 (i / 3) (by omega)
  have h4 : i % 3 = 0 ∨ i % 3 = 1 ∨ i % 3 = 2 := by omega
  rcases h4 with h4 | h4 | h4
  · rw [show i / 3 * 3 = i by omega, e'] at s1; cases s1; rfl
  · rw [show i / 3 * 3 + 1 = i by omega, e'] at s2; cases s2; rfl
  · rw [show i / 3 * 3 + 2 = i by omega, e'] at s3; cases s3; rfl
/-- the twin so far -/
structure Tw (w : World) (o : Lo) (b most count : Nat) (t : Tb El) (g1 pb1 pc1 k : Nat) (qs : Nat → Option Nat) (W : World) : Prop where
  be : Below w.heap.size w W
  blk : W.heap[g1]? = some (.cells #[.slice (some ⟨pb1, 0, none⟩) o.np pc1, I most, I count, I b] 71 (0, 0))
  row : ∃ cs, W.heap[pb1]? = some (.cells cs 73 (0, 0)) ∧ ∀ i, i < o.np → cs[i]? = some (ptr (if i < k then qs i else o.ps i))
  g1 : w.heap.size ≤ g1
  p1 : w.heap.size ≤ pb1
  no : ∀ i, i < k → (o.ps i = none ↔ qs i = none)
  nk : ∀ i, k ≤ i → qs i = none
  pg : ∀ i p, qs i = some p → i < k ∧ w.heap.size ≤ p ∧ ∃ cs, W.heap[p]? = some (.cells cs 77 (0, 0)) ∧ cs.size = 96 ∧ ∀ j, j < 32 → Slt cs j (t (i * 32 + j))
  inj : ∀ i i' p, qs i = some p → qs i' = some p → i = i'
set_option maxHeartbeats 1600000 in
set_option maxRecDepth 100000 in
theorem twin_nil {w : World} {g : Nat} {o : Lo} {a : Ix El} (h : IsIx w g o a) (h0 : o.np = 0) : Calls Try.prog 14 #[.pointer (some ⟨g, 0, none⟩)] w fun r w' => ∃ g', r = .returned (.pointer (some ⟨g', 0, none⟩)) ∧ Born w a g' w' := by
  obtain ⟨hm, hk⟩ := h
  obtain ⟨a0, a1, a2, a3, a5⟩ := hm.cellsX
  rw [Lo.pv_nil h0] at a0
  have hb1 : Below w.heap.size w (w.alloc (.cells #[.slice none 0 0, I a.most, I a.count, I a.b] 71)) := (Below.refl _ w).alloc (Nat.le_refl _) _
  have hM1 := hm.below hb1
  obtain ⟨b0, _⟩ := hM1.cellsX
  rw [Lo.pv_nil h0] at b0
  have n1 : (w.alloc (.cells #[.slice none 0 0, I a.most, I a.count, I a.b] 71)).heap[w.heap.size]? = some (.cells #[.slice none 0 0, I a.most, I a.count, I a.b] 71 (0, 0)) := alloc_at _ _ _
  have hno : ∀ k, o.ps k = none := fun k => by
    cases hp : o.ps k with
    | none => rfl
    | some p => have := (hm.pp k p hp).1; omega
  have HT0 : Hid (∀ k j, j < 32 → a.t (k * 32 + j) = none) := fun k j hj => hm.no k (hno k) j hj
  have HK : Hid (Ok a) := hk
  clear hm hM1 hk hno
  go_enter Try.func14, Try.ntmps14
  go_upto_region 2 with fail
  have e1 : w.alloc (.cells #[.slice none 0 0, .int .i64 a.most, .int .i64 a.count, .int .i64 a.b] 71) = w.alloc (.cells #[.slice none 0 0, I a.most, I a.count, I a.b] 71) := rfl
  clear e1
  generalize w.alloc (.cells #[.slice none 0 0, I a.most, I a.count, I a.b] 71) = w1 at *
  have c1 : w1.cell? ⟨w.heap.size, 0, none⟩ = some (.slice none 0 0) := by simp [World.cell?, n1]
  have c2 : ∀ j, w1.frozen? ⟨w.heap.size, j, none⟩ = false := fun j => by simp [World.frozen?, n1]
  have n2 : (w1.setCell ⟨w.heap.size, 0, none⟩ (.slice none 0 0)).heap[w.heap.size]? = some (.cells #[.slice none 0 0, I a.most, I a.count, I a.b] 71 (0, 0)) := by rw [set_blk n1]; rfl
  have b2 : (w1.setCell ⟨w.heap.size, 0, none⟩ (.slice none 0 0)).cell? ⟨g, 0, none⟩ = some (.slice none 0 0) := by
    have hg := World.block_lt_of_cell? w _ a0
    rw [World.cell?_of_block (a := ⟨g, 0, none⟩) (set_other (by dsimp only at hg ⊢; omega))]
    exact b0
  have HB : Hid (Below w.heap.size w (w1.setCell ⟨w.heap.size, 0, none⟩ (.slice none 0 0))) := hb1.setCell (Nat.le_refl _) _
  have HN2 := show Hid _ from n2
  clear n1 n2 hb1
  go_wp2_with fail
  refine Calls.mono (clone_nil w1) ?_
  rintro e w2 ⟨rfl, rfl⟩
  go_wp2_with fail
  go_loopg [21] 0 (fun r vi wr => vi = I 0 ∧ wr = w2.setCell ⟨w.heap.size, 0, none⟩ (.slice none 0 0))
  case atStart => exact ⟨rfl, rfl⟩
  case round =>
    obtain ⟨rfl, rfl⟩ := hrel
    go_wp2
    go_ret
    refine ⟨w.heap.size, rfl, ⟨0, 0, 0, fun _ => none⟩, ⟨⟨HN2.out, Or.inl rfl, fun h => absurd h (Nat.lt_irrefl 0), fun k p hk => absurd hk (by simp), fun k k' p hk => absurd hk (by simp), fun k _ j hj => HT0.out k j hj⟩, HK.out⟩, HB.out, fun k hk => ?_⟩
    rcases Lo.mem_foot.1 hk with rfl | ⟨h, _⟩ | ⟨i, h, _⟩
    · exact Nat.le_refl _
    · exact absurd h (Nat.lt_irrefl 0)
    · exact absurd h (Nat.not_lt_zero i)
theorem Tw.start {w w2 : World} {g : Nat} {o : Lo} {b most count : Nat} {t : Tb El} (_h : Mem w g o b most count t) {v : Value} {ad c' : Nat}
    (hb : Below (w.alloc (.cells #[v, I most, I count, I b] 71)).heap.size (w.alloc (.cells #[v, I most, I count, I b] 71)) w2)
    (ho : w2.ownsRow (w.alloc (.cells #[v, I most, I count, I b] 71)).heap.size 73 1 (.slice (some ⟨ad, 0, none⟩) o.np c') o.np ((List.range o.np).map fun i => ptr (o.ps i))) :
    Tw w o b most count t w.heap.size ad c' 0 (fun _ => none) (w2.setCell ⟨w.heap.size, 0, none⟩ (.slice (some ⟨ad, 0, none⟩) o.np c')) ∧ w2.cell? ⟨w.heap.size, 0, none⟩ = some v ∧ ∀ j, w2.frozen? ⟨w.heap.size, j, none⟩ = false := by
  have hsz : (w.alloc (.cells #[v, I most, I count, I b] 71)).heap.size = w.heap.size + 1 := by simp
  have n1 : w2.heap[w.heap.size]? = some (.cells #[v, I most, I count, I b] 71 (0, 0)) := (hb.block _ (by omega)).trans (alloc_at _ _ _)
  rcases ho.2 with ⟨h0, _⟩ | ⟨g', cap, cur, e, hbase, hg, hn, hm, hs, ht⟩
  · cases h0
  · cases e
    rw [hsz] at hbase
    have hB : Below w.heap.size w w2 := ((Below.refl _ w).alloc (Nat.le_refl _) _).trans (hb.mono (by omega))
    refine ⟨⟨hB.setCell (Nat.le_refl _) _, by rw [set_blk n1]; rfl, ⟨cur, by rw [set_other (by omega)]; exact hg, fun i hi => ?_⟩, Nat.le_refl _, by omega, fun i hi => absurd hi (Nat.not_lt_zero i), fun _ _ => rfl, fun i p hp => absurd hp (by simp), fun i i' p hp => absurd hp (by simp)⟩, by simp [World.cell?, n1], fun j => by simp [World.frozen?, n1]⟩
    rw [if_neg (Nat.not_lt_zero i)]
    have h1 : (cur.toList.take (o.np * 1))[i]? = some (ptr (o.ps i)) := by rw [ht]; simp [hi]
    rw [List.getElem?_take, if_pos (by omega), Array.getElem?_toList] at h1
    exact h1
theorem Tw.skip {w W : World} {o : Lo} {b most count : Nat} {t : Tb El} {g1 pb1 pc1 k : Nat} {qs : Nat → Option Nat} (h : Tw w o b most count t g1 pb1 pc1 k qs W) (hp : o.ps k = none) : Tw w o b most count t g1 pb1 pc1 (k + 1) qs W := by
  obtain ⟨cs, r1, r2⟩ := h.row
  refine ⟨h.be, h.blk, ⟨cs, r1, fun i hi => ?_⟩, h.g1, h.p1, fun i hi => ?_, fun i hi => h.nk i (by omega), fun i p hq => ?_, h.inj⟩
  · rw [r2 i hi]
    by_cases e : i = k
    · subst e; rw [if_neg (Nat.lt_irrefl i), if_pos (by omega), hp, h.nk i (Nat.le_refl _)]
    · by_cases h1 : i < k
      · rw [if_pos h1, if_pos (by omega)]
      · rw [if_neg h1, if_neg (by omega)]
  · by_cases e : i = k
    · subst e; exact ⟨fun _ => h.nk i (Nat.le_refl _), fun _ => hp⟩
    · exact h.no i (by omega)
  · obtain ⟨h1, h2⟩ := h.pg i p hq
    exact ⟨by omega, h2⟩
/-- a page is copied -/
theorem Tw.page {w W : World} {o : Lo} {b most count : Nat} {t : Tb El} {g1 pb1 pc1 k : Nat} {qs : Nat → Option Nat} (h : Tw w o b most count t g1 pb1 pc1 k qs W) (hk : k < o.np) {p0 : Nat} (hp0 : o.ps k = some p0) {cs : Array Value} (hcs : cs.size = 96) (hsl : ∀ j, j < 32 → Slt cs j (t (k * 32 + j))) :
    Tw w o b most count t g1 pb1 pc1 (k + 1) (fun i => if i = k then some W.heap.size else qs i) ((W.alloc (.cells cs 77)).setCell ⟨pb1, k, none⟩ (.pointer (some ⟨W.heap.size, 0, none⟩))) ∧ (∃ v, (W.alloc (.cells cs 77)).cell? ⟨pb1, k, none⟩ = some v) ∧ (W.alloc (.cells cs 77)).cell? ⟨g1, 0, none⟩ = some (.slice (some ⟨pb1, 0, none⟩) o.np pc1) ∧ ∀ j, (W.alloc (.cells cs 77)).frozen? ⟨pb1, j, none⟩ = false := by
  obtain ⟨rw_, r1, r2⟩ := h.row
  have l1 := (Array.getElem?_eq_some_iff.1 r1).1
  have l2 := (Array.getElem?_eq_some_iff.1 h.blk).1
  have a1 : (W.alloc (.cells cs 77)).heap[pb1]? = some (.cells rw_ 73 (0, 0)) := (alloc_other l1).trans r1
  have a2 : (W.alloc (.cells cs 77)).heap[g1]? = _ := (alloc_other l2).trans h.blk
  have hqs : ∀ i p, qs i = some p → p < W.heap.size := fun i p hp => by
    obtain ⟨_, _, cq, e, _⟩ := h.pg i p hp
    exact (Array.getElem?_eq_some_iff.1 e).1
  have hws := h.be.size
  refine ⟨⟨(h.be.alloc hws _).setCell h.p1 _, ?_, ⟨_, set_blk a1, fun i hi => ?_⟩, h.g1, h.p1, fun i hi => ?_, fun i hi => ?_, fun i p hq => ?_, fun i i' p hq hq' => ?_⟩, ⟨ptr (o.ps k), by simp [World.cell?, a1, r2 k hk]⟩, by simp [World.cell?, a2], fun j => by simp [World.frozen?, a1]⟩
  · rw [set_other (ne_of_type h.blk r1 (by decide))]; exact a2
  · rw [set_get (r2 i hi)]
    by_cases e : i = k
    · subst e; rw [if_pos rfl, if_pos (by omega), if_pos rfl]; rfl
    · rw [if_neg (Ne.symm e), if_neg e]
      by_cases h1 : i < k
      · rw [if_pos h1, if_pos (by omega)]
      · rw [if_neg h1, if_neg (by omega)]
  · by_cases e : i = k
    · subst e; rw [if_pos rfl, hp0]; simp
    · rw [if_neg e]; exact h.no i (by omega)
  · rw [if_neg (by omega)]; exact h.nk i (by omega)
  · by_cases e : i = k
    · subst e
      rw [if_pos rfl] at hq
      cases hq
      exact ⟨by omega, hws, cs, by rw [set_other (by omega)]; exact alloc_at _ _ _, hcs, hsl⟩
    · rw [if_neg e] at hq
      obtain ⟨h1, h2, cq, h3, h4⟩ := h.pg i p hq
      exact ⟨by omega, h2, cq, by rw [set_other (ne_of_type h3 r1 (by decide)), alloc_other (hqs i p hq)]; exact h3, h4⟩
  · by_cases e : i = k <;> by_cases e' : i' = k
    · omega
    · rw [if_pos e] at hq; rw [if_neg e'] at hq'
      cases hq
      have := hqs _ _ hq'
      omega
    · rw [if_neg e] at hq; rw [if_pos e'] at hq'
      cases hq'
      have := hqs _ _ hq
      omega
    · rw [if_neg e] at hq; rw [if_neg e'] at hq'
      exact h.inj _ _ _ hq hq'
theorem Tw.done {w W : World} {g : Nat} {o : Lo} {a : Ix El} {g1 pb1 pc1 : Nat} {qs : Nat → Option Nat} (hx : IsIx w g o a) (h0 : o.np ≠ 0) (h : Tw w o a.b a.most a.count a.t g1 pb1 pc1 o.np qs W) : Born w a g1 W := by
  obtain ⟨cs, r1, r2⟩ := h.row
  have e1 : (⟨pb1, o.np, pc1, qs⟩ : Lo).pv = .slice (some ⟨pb1, 0, none⟩) o.np pc1 := by unfold Lo.pv; rw [if_neg h0]
  refine ⟨⟨pb1, o.np, pc1, qs⟩, ⟨⟨?_, hx.1.np, fun _ => ⟨cs, r1, fun k hk => ?_⟩, fun k p hq => ?_, h.inj, fun k hq j hj => ?_⟩, hx.2⟩, h.be, fun k hk => ?_⟩
  · show _ = some (Obj.cells #[(⟨pb1, o.np, pc1, qs⟩ : Lo).pv, I a.most, I a.count, I a.b] 71 (0, 0))
    rw [e1]; exact h.blk
  · rw [r2 k hk, if_pos hk]
  · obtain ⟨h1, _, h2⟩ := h.pg k p hq
    exact ⟨h1, h2⟩
  · refine hx.1.no k ?_ j hj
    by_cases hk : k < o.np
    · exact (h.no k hk).2 hq
    · cases hp : o.ps k with
      | none => rfl
      | some p => exact absurd (hx.1.pp k p hp).1 hk
  · rcases Lo.mem_foot.1 hk with rfl | ⟨_, rfl⟩ | ⟨i, _, hi⟩
    · exact h.g1
    · exact h.p1
    · exact (h.pg i k hi).2.1
set_option maxHeartbeats 1600000 in
set_option maxRecDepth 100000 in
theorem twin_some {w : World} {g : Nat} {o : Lo} {a : Ix El} (h : IsIx w g o a) (h0 : o.np ≠ 0) : Calls Try.prog 14 #[.pointer (some ⟨g, 0, none⟩)] w fun r w' => ∃ g', r = .returned (.pointer (some ⟨g', 0, none⟩)) ∧ Born w a g' w' := by
  have HX : Hid (IsIx w g o a) := h
  obtain ⟨hm, hk⟩ := h
  obtain ⟨a0, a1, a2, a3, a5⟩ := hm.cellsX
  obtain ⟨epv, _, _⟩ := hm.page (k := 0) (by omega)
  rw [epv] at a0
  have hnp : o.np ≤ 262144 := by
    have := Nat.pow_le_pow_right (n := 2) (by omega) hk.b
    rcases hm.np with h | h <;> omega
  have hnp8 : (o.np : Int) ≤ 262144 := by omega
  have hb1 : Below w.heap.size w (w.alloc (.cells #[.slice (some ⟨o.pb, 0, none⟩) o.np o.pc, I a.most, I a.count, I a.b] 71)) := (Below.refl _ w).alloc (Nat.le_refl _) _
  have hM1 := hm.below hb1
  obtain ⟨b0, _⟩ := hM1.cellsX
  rw [epv] at b0
  have HC := show Hid _ from clone_any (w.alloc (.cells #[.slice (some ⟨o.pb, 0, none⟩) o.np o.pc, I a.most, I a.count, I a.b] 71)) o.pb o.np o.pc ((List.range o.np).map fun i => ptr (o.ps i)) (by simp) (fun j u hu => by
    have hj : j < o.np := by have := (List.getElem?_eq_some_iff.1 hu).1; simpa using this
    have eu : u = ptr (o.ps j) := by simp [hj] at hu; exact hu.symm
    rw [eu]
    exact (hM1.page hj).2.1) (fun u hu => by
    simp only [List.mem_map, List.mem_range] at hu
    obtain ⟨i, _, rfl⟩ := hu
    unfold ptr
    split <;> rfl) (by omega)
  have HTw := show Hid _ from fun (w2 : World) (ad c' : Nat) => Tw.start (w2 := w2) (ad := ad) (c' := c') (v := .slice (some ⟨o.pb, 0, none⟩) o.np o.pc) hm
  have HM : Hid (Mem w g o a.b a.most a.count a.t) := hm
  clear hm hM1 hk epv
  go_enter Try.func14, Try.ntmps14
  go_upto_region 2 with fail
  generalize w.alloc (.cells #[.slice (some ⟨o.pb, 0, none⟩) o.np o.pc, I a.most, I a.count, I a.b] 71) = w1 at *
  go_wp2_with fail
  refine Calls.mono HC.out ?_
  rintro e w2 ⟨ad, c', rfl, ho, hb2⟩
  obtain ⟨t1, t2, t3⟩ := HTw.out w2 ad c' hb2 ho
  have HT1 := show Hid _ from t1
  have b2 := (HM.out.below t1.be).cellsX.1
  have epv := (HM.out.page (k := 0) (by omega)).1
  rw [epv] at b2
  clear ho hb2 t1 epv
  go_upto_region 3 with fail
  generalize w2.setCell ⟨w.heap.size, 0, none⟩ (.slice (some ⟨ad, 0, none⟩) o.np c') = w3 at *
  go_wp2_with fail
  go_loopg [21] o.np (fun r vi wr => ∃ (k : Nat) (qs : Nat → Option Nat), k + r = o.np ∧ vi = I k ∧ Tw w o a.b a.most a.count a.t w.heap.size ad c' k qs wr)
  case atStart => exact ⟨0, _, by omega, rfl, HT1.out⟩
  case round =>
    obtain ⟨k, qs, hk, rfl, hT⟩ := hrel
    have HT : Hid (Tw w o a.b a.most a.count a.t w.heap.size ad c' k qs wr) := hT
    by_cases hlt : k < o.np
    · have hlt2 : (k : Int) < (o.np : Int) := by omega
      obtain ⟨_, e2, _⟩ := (HM.out.below hT.be).page hlt
      cases hp : o.ps k with
      | none =>
        rw [hp] at e2
        unfold ptr at e2
        have HS := show Hid _ from hT.skip hp
        clear hT hp
        go_wp2_with fail
        go_roundg (o.np - (k + 1))
        case measure => omega
        case rel => exact ⟨k + 1, qs, by omega, by go_num, HS.out⟩
      | some p =>
        rw [hp] at e2
        unfold ptr at e2
        dsimp only at e2
        obtain ⟨cs, p1, p2, p3, p4⟩ := HM.out.pageRow hp hT.be
        obtain ⟨q1, q2, q3, q4⟩ := hT.page hlt hp p1 p2
        have HQ := show Hid _ from q1
        obtain ⟨v0, q2⟩ := q2
        have hi77 : (Try.prog.info? 77).map (·.size) = some cs.size := by rw [p1]; kernel_rfl
        have hall : cs.all (·.oneCell') = true := by
          rw [Array.all_eq_true]
          intro i hi
          exact p4 _ (by simp)
        have HP := show Hid _ from And.intro p3 (And.intro hi77 (And.intro hall p1))
        have hsc : (storeCells ⟨wr.heap.size, 0, none⟩ cs.toList 0).run Try.prog (wr.alloc (.cells Try.zeroCells77 77)) = .ok () (wr.alloc (.cells cs 77)) := run_storeCells_new wr 77 Try.zeroCells77 cs hi77 (by rw [p1]; exact page_size) hall
        clear q1 hT hp p2 p3 p4 hi77 hall
        go_wp2_with fail
        refine wp_load_row 77 _ rfl p rfl 77 cs (0, 0) _ HP.out.1 Try.underlying77 rfl HP.out.2.1 ?_
        rename_i hKK
        refine hKK _ _ ?_
        clear hKK
        go_upto_region 9 with fail
        generalize (wr.alloc (.cells cs 77)).setCell ⟨ad, k, none⟩ (.pointer (some ⟨wr.heap.size, 0, none⟩)) = w5 at *
        clear hsc q2 q3 q4
        go_wp2_with fail
        go_roundg (o.np - (k + 1))
        case measure => omega
        case rel => exact ⟨k + 1, _, by omega, by go_num, HQ.out⟩
    · obtain rfl : k = o.np := by omega
      have HB : Hid (Born w a w.heap.size wr) := Tw.done HX.out h0 hT
      clear hT
      go_wp2
      go_ret
      exact ⟨_, rfl, HB.out⟩
theorem twin_any {w : World} {g : Nat} {o : Lo} {a : Ix El} (h : IsIx w g o a) : Calls Try.prog 14 #[.pointer (some ⟨g, 0, none⟩)] w fun r w' => ∃ g', r = .returned (.pointer (some ⟨g', 0, none⟩)) ∧ Born w a g' w' := by
  by_cases h0 : o.np = 0
  · exact twin_nil h h0
  · exact twin_some h h0
end Go.Proofs.Ytkekmmomdhdegaa.Ii
