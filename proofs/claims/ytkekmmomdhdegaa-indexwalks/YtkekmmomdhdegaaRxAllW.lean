import Derived.Test.YtkekmmomdhdegaaRxAll
import Derived.Test.YtkekmmomdhdegaaIxTaken
namespace Go.Proofs.Ytkekmmomdhdegaa.Rx
open Go.RowKit Go.Proofs.Ytkekmmomdhdegaa.Ix Go.Proofs.Ytkekmmomdhdegaa.Ii

abbrev kU (l : List (Nat × Int)) : List Value := l.map fun e => U e.1
abbrev vI (l : List (Nat × Int)) : List Value := l.map fun e => I e.2
/-- the two rows so far -/
structure Al (w : World) (kv vv : Value) (l : List (Nat × Int)) (W : World) : Prop where
  be : Below w.heap.size w W
  ks : W.ownsRow w.heap.size 22 1 kv l.length (kU l)
  vs : W.ownsRow w.heap.size 3 1 vv l.length (vI l)
theorem Al.below {w W W' : World} {kv vv : Value} {l : List (Nat × Int)} (h : Al w kv vv l W) (hb : Below W.heap.size W W') : Al w kv vv l W' := ⟨h.be.trans (hb.mono h.be.size), own_below h.ks hb, own_below h.vs hb⟩
theorem own_form {W : World} {base n : Nat} {T : TypeId} {v : Value} {xs : List Value} (h : W.ownsRow base T 1 v n xs) : ∃ p c, v = .slice p n c ∧ (0 < n → ∃ g, p = some ⟨g, 0, none⟩) := by
  rcases h.2 with ⟨e, h0⟩ | ⟨g, c, _, e, _⟩
  · exact ⟨none, 0, by rw [e, h0], fun h => absurd h (by omega)⟩
  · exact ⟨_, c, e, fun _ => ⟨g, rfl⟩⟩
theorem rows_ne {W : World} {b b' n n' : Nat} {T T' : TypeId} {v v' : Value} {xs xs' : List Value} (h : W.ownsRow b T 1 v n xs) (h' : W.ownsRow b' T' 1 v' n' xs') (hT : T ≠ T') : v.ownBlock = none ∨ v.ownBlock ≠ v'.ownBlock := by
  rcases h.2 with ⟨rfl, _⟩ | ⟨g, c, cur, rfl, _, hg, _⟩
  · exact Or.inl rfl
  · rcases h'.2 with ⟨rfl, _⟩ | ⟨g', c', cur', rfl, _, hg', _⟩
    · exact Or.inr (by simp [Value.ownBlock])
    · refine Or.inr (fun e => hT ?_)
      simp only [Value.ownBlock, Option.some.injEq] at e
      subst e
      rw [hg] at hg'
      cases hg'
      rfl
theorem cell_one (w : World) (T : TypeId) (a : Value) : ∀ j u, [a][j]? = some u → (w.alloc (.cells #[a] T)).cell? ((⟨w.heap.size, 0, none⟩ : Addr).add j) = some u := by
  intro j u h
  exact Lib.cells_of_row (heap_alloc_new w (.cells #[a] T)) 1 j u (by simpa using h)
theorem own_some {W : World} {base n : Nat} {T : TypeId} {v : Value} {xs : List Value} (h : W.ownsRow base T 1 v (n + 1) xs) : ∃ g c, v = .slice (some ⟨g, 0, none⟩) (n + 1) c := by
  rcases h.2 with ⟨_, h0⟩ | ⟨g, c, _, e, _⟩
  · exact absurd h0 (Nat.succ_ne_zero _)
  · exact ⟨g, c, e⟩
/-- the rows while a place is made -/
structure Sh (w : World) (gk ck gv cv : Nat) (l : List (Nat × Int)) (k : Nat) (W : World) : Prop where
  be : Below w.heap.size w W
  ks : W.ownsRow w.heap.size 22 1 (.slice (some ⟨gk, 0, none⟩) (l.length + 1) ck) (l.length + 1) (Xs (kU l) (U 0) k)
  vs : W.ownsRow w.heap.size 3 1 (.slice (some ⟨gv, 0, none⟩) (l.length + 1) cv) (l.length + 1) (Xs (vI l) (I 0) k)
section
variable {w W : World} {gk ck gv cv k p at_ : Nat} {l : List (Nat × Int)} {x e : Nat × Int}
theorem Sh.put (h : Sh w gk ck gv cv l k W) (u1 u2 : Value) {j : Nat} (hk : k ≤ l.length) (hj : j ≤ l.length) :
    (∃ u, W.cell? ⟨gk, j, none⟩ = some u) ∧ (∀ i, W.frozen? ⟨gk, i, none⟩ = false) ∧ (∃ u, (W.setCell ⟨gk, j, none⟩ u1).cell? ⟨gv, j, none⟩ = some u) ∧ (∀ i, (W.setCell ⟨gk, j, none⟩ u1).frozen? ⟨gv, i, none⟩ = false) ∧ Below w.heap.size w (W.setCell ⟨gk, j, none⟩ u1) ∧ Below w.heap.size w ((W.setCell ⟨gk, j, none⟩ u1).setCell ⟨gv, j, none⟩ u2) ∧ ((W.setCell ⟨gk, j, none⟩ u1).setCell ⟨gv, j, none⟩ u2).ownsRow w.heap.size 22 1 (.slice (some ⟨gk, 0, none⟩) (l.length + 1) ck) (l.length + 1) ((Xs (kU l) (U 0) k).set j u1) ∧ ((W.setCell ⟨gk, j, none⟩ u1).setCell ⟨gv, j, none⟩ u2).ownsRow w.heap.size 3 1 (.slice (some ⟨gv, 0, none⟩) (l.length + 1) cv) (l.length + 1) ((Xs (vI l) (I 0) k).set j u2) ∧ ∀ i, (W.setCell ⟨gk, j, none⟩ u1).cell? ⟨gv, i, none⟩ = W.cell? ⟨gv, i, none⟩ := by
  obtain ⟨a1, a2, a3, a4, cur, a5⟩ := own_put (j := j) (v := u1) h.ks (by omega)
  obtain ⟨_, _, _, b4, cur2, b5⟩ := own_put (j := j) (v := u2) h.vs (by omega)
  have hne : gv ≠ gk := ne_of_type b5 a5 (by decide)
  have hk1 : (W.setCell ⟨gk, j, none⟩ u1).heap[gv]? = W.heap[gv]? := set_other hne
  have v1 := own_keep h.vs hk1
  obtain ⟨c1, c2, c3, c4, cur3, c5⟩ := own_put (j := j) (v := u2) v1 (by omega)
  have hk2 : ((W.setCell ⟨gk, j, none⟩ u1).setCell ⟨gv, j, none⟩ u2).heap[gk]? = (W.setCell ⟨gk, j, none⟩ u1).heap[gk]? := set_other (Ne.symm hne)
  have hB := h.be.setCell (p := ⟨gk, j, none⟩) a4 u1
  refine ⟨⟨_, a2.trans (List.getElem?_eq_getElem (by rw [Xs_len _ _ (by simpa using hk)]; simp; omega))⟩, a3, ⟨_, c2.trans (List.getElem?_eq_getElem (by rw [Xs_len _ _ (by simpa using hk)]; simp; omega))⟩, c3, hB, hB.setCell (p := ⟨gv, j, none⟩) b4 u2, own_keep a1 hk2, c1, fun i => World.cell?_of_block hk1⟩
theorem Sh.get (h : Sh w gk ck gv cv l k W) (hk : k = p + 1) (hp : p + 1 ≤ l.length) (hx : l[p]? = some x) : W.cell? ⟨gk, p, none⟩ = some (U x.1) ∧ W.cell? ⟨gv, p, none⟩ = some (I x.2) := by
  subst hk
  refine ⟨(own_at h.ks (by omega)).trans ?_, (own_at h.vs (by omega)).trans ?_⟩
  · rw [Xs_get (by simpa using hp) (by omega), List.getElem?_map, hx]; rfl
  · rw [Xs_get (by simpa using hp) (by omega), List.getElem?_map, hx]; rfl
theorem Sh.next (h : Sh w gk ck gv cv l k W) (hk : k = p + 1) (hp : p + 1 ≤ l.length) (hx : l[p]? = some x) : Sh w gk ck gv cv l p ((W.setCell ⟨gk, k, none⟩ (U x.1)).setCell ⟨gv, k, none⟩ (I x.2)) := by
  obtain ⟨_, _, _, _, _, h1, h2, h3, _⟩ := h.put (U x.1) (I x.2) (j := k) (by omega) (by omega)
  subst hk
  rw [Xs_step (by simpa using hp) (by rw [List.getElem?_map, hx]; rfl)] at h2 h3
  exact ⟨h1, h2, h3⟩
theorem ins_len (l : List (Nat × Int)) {at_ : Nat} (e : Nat × Int) (h : at_ ≤ l.length) : (ins l at_ e).length = l.length + 1 := by
  unfold ins
  simp
  omega
theorem Sh.last (h : Sh w gk ck gv cv l k W) (hk : k ≤ l.length) (e : Nat × Int) : Al w (.slice (some ⟨gk, 0, none⟩) (l.length + 1) ck) (.slice (some ⟨gv, 0, none⟩) (l.length + 1) cv) (ins l k e) ((W.setCell ⟨gk, k, none⟩ (U e.1)).setCell ⟨gv, k, none⟩ (I e.2)) := by
  obtain ⟨_, _, _, _, _, h1, h2, h3, _⟩ := h.put (U e.1) (I e.2) (j := k) hk hk
  rw [Xs_end (by simpa using hk)] at h2 h3
  refine ⟨h1, ?_, ?_⟩
  · rw [ins_len _ _ hk, show kU (ins l k e) = (kU l).take k ++ U e.1 :: (kU l).drop k by simp [ins, kU, List.map_take, List.map_drop]]
    exact h2
  · rw [ins_len _ _ hk, show vI (ins l k e) = (vI l).take k ++ I e.2 :: (vI l).drop k by simp [ins, vI, List.map_take, List.map_drop]]
    exact h3
end
set_option maxHeartbeats 6400000 in
set_option maxRecDepth 100000 in
theorem rall_any {w : World} {q : Ro} {a : Ix Int} (hm : Rm w q a.n a.most (a.b + 1) a.count a.t) (hk : Ok a) : Calls Try.prog 38 #[.pointer (some ⟨q.r, 0, none⟩)] w fun e w' => ∃ kv vv l, e = .returned (.tuple #[kv, vv]) ∧ Al w kv vv l w' ∧ IsAll a l := by
  have hn := (Ix.n_le hk.b).1
  have HM : Hid (Rm w q a.n a.most (a.b + 1) a.count a.t ∧ Ok a ∧ a.n ≤ 8388608) := ⟨hm, hk, by have := Ix.n_le hk.b; omega⟩
  have hn8 : (a.n : Int) ≤ 8388608 := by have := HM.out.2.2; omega
  obtain ⟨iu, hiu, hiu0, hiu1, hiu2⟩ := info_parts infou
  obtain ⟨ii, hii, hii0, hii1, hii2⟩ := info_parts infoi
  have H0 : Hid (Al w (.slice none 0 0) (.slice none 0 0) [] w) := ⟨Below.refl _ _, ⟨rfl, Or.inl ⟨rfl, rfl⟩⟩, ⟨rfl, Or.inl ⟨rfl, rfl⟩⟩⟩
  clear hm hk hn
  generalize hN : a.n = N at *
  have HN : Hid (a.n = N) := hN
  clear hN
  go_enter Try.func38, Try.ntmps38
  go_wp2_with fail
  go_loopg [4, 5, 6] N (fun r vk vv vi wr => ∃ (i : Nat) (l : List (Nat × Int)) (pk : Option Addr) (ck : Nat) (pv : Option Addr) (cv : Nat), i + r = N ∧ vi = I i ∧ vk = .slice pk l.length ck ∧ vv = .slice pv l.length cv ∧ Al w (.slice pk l.length ck) (.slice pv l.length cv) l wr ∧ l.Perm (en a.t i) ∧ l.Pairwise fun x y => x.1 ≤ y.1)
  case atStart => exact ⟨0, [], none, 0, none, 0, by omega, rfl, rfl, rfl, H0.out, List.Perm.refl _, List.Pairwise.nil⟩
  case round =>
    obtain ⟨i, l, pk, ck, pv, cv, hir, rfl, rfl, rfl, hA, hP, hS⟩ := hrel
    have HA : Hid (Al w (.slice pk l.length ck) (.slice pv l.length cv) l wr ∧ l.Perm (en a.t i) ∧ l.Pairwise fun x y => x.1 ≤ y.1) := ⟨hA, hP, hS⟩
    have hrm := HM.out.1.below hA.be
    obtain ⟨_, _, c2, c3, c4, _⟩ := hrm.cellsR
    clear hA hP hS
    by_cases hlt : i < N
    · have hlt1 : (i : Int) < (N : Int) := by omega
      obtain ⟨d1, _⟩ := hrm.isAt hlt
      obtain ⟨k, d2, d2e, _⟩ := hrm.keyAt hlt
      obtain ⟨v, d3, d3e, _⟩ := hrm.valAt hlt
      cases he : a.t i with
      | none =>
        rw [he] at d1
        simp only [Option.isSome_none] at d1
        have HE : Hid (en a.t (i + 1) = en a.t i) := by show _ = _; simp [en, he]
        clear hrm d2e d3e he
        go_wp2_with fail
        go_roundg (N - (i + 1))
        case measure => omega
        case rel => exact ⟨i + 1, l, pk, ck, pv, cv, by omega, by go_num, rfl, rfl, HA.out.1, by rw [HE.out]; exact HA.out.2.1, HA.out.2.2⟩
      | some e =>
        rw [he] at d1
        simp only [Option.isSome_some] at d1
        obtain rfl : e.1 = k := d2e e he
        obtain rfl : e.2 = v := d3e e he
        have HE : Hid (en a.t (i + 1) = en a.t i ++ [e] ∧ l.length ≤ 8388608 ∧ a.t i = some e) := ⟨by simp [en, he], by
          have h1 := HA.out.2.1.length_eq
          have h2 := en_len_le a.t i
          have h3 := HM.out.2.2
          omega, he⟩
        have hl8 : (l.length : Int) ≤ 8388608 := by have := HE.out.2.1; omega
        clear hrm d2e d3e he
        generalize wr = wo at *
        go_wp2_with fail
        go_loopg [7] l.length (fun r va wq => ∃ at_ : Nat, at_ = r ∧ va = I at_ ∧ Pos l e.1 at_ ∧ Below wo.heap.size wo wq)
        case atStart => exact ⟨_, rfl, rfl, ⟨Nat.le_refl _, fun i x h1 h2 => by rw [List.getElem?_eq_none h1] at h2; cases h2⟩, Below.refl _ _⟩
        case round =>
          obtain ⟨at_, rfl, rfl, hPos, hB⟩ := hrel
          have HPos : Hid (Pos l e.1 at_ ∧ Below wo.heap.size wo wr) := ⟨hPos, hB⟩
          have hle := hPos.le
          have hrm := HM.out.1.below (HA.out.1.below hB).be
          clear c2 c3 c4 d1 d2 d3
          obtain ⟨_, _, c2, c3, c4, _⟩ := hrm.cellsR
          obtain ⟨d1, _⟩ := hrm.isAt hlt
          obtain ⟨k, d2, d2e, _⟩ := hrm.keyAt hlt
          obtain ⟨v, d3, d3e, _⟩ := hrm.valAt hlt
          obtain rfl : e.1 = k := d2e e HE.out.2.2
          obtain rfl : e.2 = v := d3e e HE.out.2.2
          clear hrm d2e d3e hPos hB
          by_cases hgo : ∃ p x, at_ = p + 1 ∧ l[p]? = some x ∧ e.1 < x.1
          · obtain ⟨p, x, hp, hx, hgt⟩ := hgo
            obtain ⟨g, rfl⟩ : ∃ g, pk = some ⟨g, 0, none⟩ := by
              obtain ⟨_, _, e1, e2⟩ := own_form HA.out.1.ks
              cases e1
              exact e2 (by omega)
            have hc : wr.cell? ⟨g, p, none⟩ = some (U x.1) := by
              rw [own_at (HA.out.1.below HPos.out.2).ks (by omega), List.getElem?_map, hx]
              rfl
            have hp1 : ((at_ : Nat) : Int) - 1 = (p : Int) := by omega
            have hat0 : (0 : Int) < (at_ : Int) := by omega
            have hpl : (p : Int) < (l.length : Int) := by omega
            have hgt2 : (e.1 : Int) < (x.1 : Int) := by omega
            have HX : Hid (Pos l e.1 p) := ⟨by omega, fun j y h1 h2 => by
              by_cases h3 : j = p
              · subst h3
                rw [hx] at h2
                cases h2
                exact hgt
              · exact HPos.out.1.gt j y (by omega) h2⟩
            clear hx
            go_wp2_with fail
            go_quiet (fail)
            have HB := show Hid _ from bel_drewN wr nq
            generalize wr.drewN nq = w2 at *
            go_wp2_with fail
            go_roundg p
            case measure => omega
            case rel => exact ⟨p, rfl, rfl, HX.out, HPos.out.2.trans (HB.out.mono HPos.out.2.size)⟩
          · have HNo : Hid (∀ x, at_ ≠ 0 → l[at_ - 1]? = some x → x.1 ≤ e.1) := fun x h0 hx => by
              cases Nat.lt_or_ge e.1 x.1 with
              | inl h => exact absurd ⟨at_ - 1, x, by omega, hx, h⟩ hgo
              | inr h => exact h
            by_cases hz : at_ = 0
            case' pos =>
              have hat0 : decide ((0 : Int) < (at_ : Int)) = false := by simp; omega
              have hat1 : decide (0 < at_) = false := by simp; omega
              clear hgo hz
              go_wp2_with fail
              go_quiet (fail)
            case' neg =>
              obtain ⟨x, hx⟩ : ∃ x, l[at_ - 1]? = some x := ⟨_, List.getElem?_eq_getElem (by omega)⟩
              obtain ⟨g, rfl⟩ : ∃ g, pk = some ⟨g, 0, none⟩ := by
                obtain ⟨_, _, e1, e2⟩ := own_form HA.out.1.ks
                cases e1
                exact e2 (by omega)
              have hc : wr.cell? ⟨g, at_ - 1, none⟩ = some (U x.1) := by
                rw [own_at (HA.out.1.below HPos.out.2).ks (by omega), List.getElem?_map, hx]
                rfl
              have hgt2 : ¬ (e.1 : Int) < (x.1 : Int) := by have := HNo.out x hz hx; omega
              clear hx hgo
              obtain ⟨p, hp⟩ : ∃ p, at_ = p + 1 := ⟨at_ - 1, by omega⟩
              rw [show at_ - 1 = p by omega] at hc
              have hp1 : ((at_ : Nat) : Int) - 1 = (p : Int) := by omega
              have hat0 : decide ((0 : Int) < (at_ : Int)) = true := by simp; omega
              have hat1 : decide (0 < at_) = true := by simp; omega
              have hpl : (p : Int) < (l.length : Int) := by omega
              have hw1 : IntKind.i64.wrap (((at_ : Nat) : Int) - 1) = (p : Int) := by rw [hp1, IntKind.wrap_i64]; omega
              clear hp hz
              go_wp2_with fail
              go_quiet (fail)
              generalize (some (⟨g, 0, none⟩ : Addr)) = pk at *
            all_goals
              have HB := show Hid _ from bel_drewN wr nq
              generalize wr.drewN nq = w2 at *
              have HA2 : Hid (Al w (.slice pk l.length ck) (.slice pv l.length cv) l w2) := (HA.out.1.below HPos.out.2).below HB.out
              clear c2 c3 c4 d1 d2 d3
              have HO1 : Hid ((w2.alloc (.cells #[.int .u64 0] 22)).ownsRow w.heap.size 22 1 (.slice pk l.length ck) l.length (kU l)) := HA2.out.ks.alloc _
              go_wp2_with (at_builtin; refine wpList_append_own _ rfl _ _ 30 rfl w.heap.size 22 iu (.int .u64 0) 1 8 Try.underlying30 hiu hiu0 hiu1 hiu2 rfl (by decide) (.slice pk l.length ck) l.length (kU l) rfl HO1.out ⟨w2.heap.size, 0, none⟩ 1 1 [.int .u64 0] rfl rfl ?c1 ?c2 ?c3 ?c4 ?c5 ?_)
              case c1 => exact cell_one w2 _ _
              case c2 => intro u hu; simp only [List.mem_cons, List.not_mem_nil, or_false] at hu; rcases hu with rfl; rfl
              case c3 => have := HE.out.2.1; unfold maxLen; omega
              case c4 => have := HE.out.2.1; omega
              case c5 => have := HA2.out.be.size; simp; omega
              intro v3 w3 ho hg _
              obtain ⟨kb, ck, rfl⟩ := own_some ho
              have HK3 : Hid (Below w.heap.size w w3 ∧ w3.ownsRow w.heap.size 22 1 (.slice (some ⟨kb, 0, none⟩) (l.length + 1) ck) (l.length + 1) (kU l ++ [U 0]) ∧ w3.ownsRow w.heap.size 3 1 (.slice pv l.length cv) l.length (vI l)) := ⟨(HA2.out.be.alloc HA2.out.be.size _).grown hg (by simp; have := HA2.out.be.size; omega) (fun k e => (World.ownsRow.lt HO1.out k e).1), ho, (HA2.out.vs.alloc _).kept hg (rows_ne (HA2.out.vs.alloc _) HO1.out (by decide))⟩
              have HO4 : Hid ((w3.alloc (.cells #[.int .i64 0] 3)).ownsRow w.heap.size 3 1 (.slice pv l.length cv) l.length (vI l)) := HK3.out.2.2.alloc _
              clear ho hg
              go_wp2_with (at_builtin; refine wpList_append_own _ rfl _ _ 31 rfl w.heap.size 3 ii (.int .i64 0) 1 8 Try.underlying31 hii hii0 hii1 hii2 rfl (by decide) (.slice pv l.length cv) l.length (vI l) rfl HO4.out ⟨w3.heap.size, 0, none⟩ 1 1 [.int .i64 0] rfl rfl ?d1 ?d2 ?d3 ?d4 ?d5 ?_)
              case d1 => exact cell_one w3 _ _
              case d2 => intro u hu; simp only [List.mem_cons, List.not_mem_nil, or_false] at hu; rcases hu with rfl; rfl
              case d3 => have := HE.out.2.1; unfold maxLen; omega
              case d4 => have := HE.out.2.1; omega
              case d5 => have := HK3.out.1.size; simp; omega
              intro v4 w4 ho hg _
              obtain ⟨vb, cv, rfl⟩ := own_some ho
              have HS4 : Hid (Sh w kb ck vb cv l l.length w4) := ⟨(HK3.out.1.alloc HK3.out.1.size _).grown hg (by simp; have := HK3.out.1.size; omega) (fun k e => (World.ownsRow.lt HO4.out k e).1), by rw [show l.length = (kU l).length by simp, Xs_start]; simpa using (HK3.out.2.1.alloc _).kept hg (rows_ne (HK3.out.2.1.alloc _) HO4.out (by decide)), by rw [show l.length = (vI l).length by simp, Xs_start]; simpa using ho⟩
              clear ho hg HO1 HO4 HK3 HA2
              have HP2 : Hid (Pos l e.1 at_) := HPos.out.1
              clear HPos HB hat0 hat1
              go_wp2_with fail
              go_loopg [8] (l.length - at_) (fun r va wq => ∃ k : Nat, k = at_ + r ∧ k ≤ l.length ∧ va = I k ∧ Sh w kb ck vb cv l k wq)
              case atStart => exact ⟨_, by omega, Nat.le_refl _, rfl, HS4.out⟩
              case round =>
                obtain ⟨k, hkr, hkl, rfl, hS⟩ := hrel
                have HKr : Hid (k = at_ + gk) := hkr
                clear hkr
                have hkl1 : (k : Int) < (l.length : Int) + 1 := by omega
                have hkl8 : (k : Int) ≤ 8388608 := by omega
                by_cases hka : at_ < k
                · have hka1 : (at_ : Int) < (k : Int) := by omega
                  obtain ⟨p, hp⟩ : ∃ p, k = p + 1 := ⟨k - 1, by omega⟩
                  have HPp : Hid (k = p + 1) := hp
                  obtain ⟨x, hx⟩ : ∃ x, l[p]? = some x := ⟨_, List.getElem?_eq_getElem (by omega)⟩
                  obtain ⟨c1, c2⟩ := hS.get hp (by omega) hx
                  obtain ⟨⟨_, d1⟩, f1, ⟨_, d2⟩, f2, _, _, _, _, hcv⟩ := hS.put (U x.1) (I x.2) (j := k) hkl hkl
                  have c2' := (hcv p).trans c2
                  have HN5 := show Hid _ from hS.next hp (by omega) hx
                  have hp1 : ((k : Nat) : Int) - 1 = (p : Int) := by omega
                  have hpl : (p : Int) < (l.length : Int) + 1 := by omega
                  have hw1 : IntKind.i64.wrap (((k : Nat) : Int) - 1) = (p : Int) := by rw [hp1, IntKind.wrap_i64]; omega
                  clear hx hp hS hcv c2
                  go_wp2_with fail
                  go_roundg (p - at_)
                  case measure => have := HPp.out; have := HKr.out; omega
                  case rel => exact ⟨p, by have := HPp.out; omega, by have := HPp.out; omega, rfl, HN5.out⟩
                · obtain rfl : k = at_ := by have := HKr.out; omega
                  obtain ⟨⟨_, d1⟩, f1, ⟨_, d2⟩, f2, hb1, _⟩ := hS.put (U e.1) (I e.2) (j := k) hkl hkl
                  have HL := show Hid _ from hS.last hkl e
                  have hrm := HM.out.1.below hS.be
                  obtain ⟨_, _, _, c3, _, _⟩ := hrm.cellsR
                  obtain ⟨k1, e2, d2e, _⟩ := hrm.keyAt hlt
                  obtain rfl : e.1 = k1 := d2e e HE.out.2.2
                  have hrm := HM.out.1.below hb1
                  obtain ⟨_, _, _, _, c4, _⟩ := hrm.cellsR
                  obtain ⟨v, e3, d3e, _⟩ := hrm.valAt hlt
                  obtain rfl : e.2 = v := d3e e HE.out.2.2
                  have HI : Hid ((ins l k e).Perm (en a.t (i + 1)) ∧ (ins l k e).Pairwise (fun x y => x.1 ≤ y.1) ∧ (ins l k e).length = l.length + 1) := ⟨(ins_perm l k e).trans (by rw [HE.out.1]; exact HA.out.2.1.append_right _), ins_sorted HA.out.2.2 HP2.out HNo.out, ins_len _ _ hkl⟩
                  clear hrm hS hb1 d2e d3e
                  go_wp2_with fail
                  go_roundg (N - (i + 1))
                  case measure => omega
                  case rel =>
                    refine ⟨i + 1, ins l k e, some ⟨kb, 0, none⟩, ck, some ⟨vb, 0, none⟩, cv, by omega, by go_num, by rw [HI.out.2.2], by rw [HI.out.2.2], ?_, HI.out.1, HI.out.2.1⟩
                    rw [HI.out.2.2]
                    exact HL.out
    · obtain rfl : i = N := by omega
      have hlt1 : ¬ (i : Int) < (i : Int) := by omega
      clear hrm
      go_wp2
      go_ret2
      exact ⟨.slice pk l.length ck, .slice pv l.length cv, rfl, l, HA.out.1, IsAll.of HM.out.2.1 (by rw [HN.out]; exact HA.out.2.1) HA.out.2.2⟩
end Go.Proofs.Ytkekmmomdhdegaa.Rx
