import Derived.Test.YtjcbpejplnaakaaGreatJG
import Derived.Deep.DeepCutAuto
namespace Go.Proofs.YtjcbpejplnaakaaGreat.Mr
open Go.RowKit Go.Maps Go.Proofs.YtjcbpejplnaakaaGreat.Nm Go.Proofs.YtjcbpejplnaakaaGreat.Md

/-- an append behind a list leaves the list as it was -/
theorem run_append_both {P : Program} (w : World) (base : Nat) (t ty e : TypeId) (i : TypeInfo) (z : Value) (bytes : Nat) (ht : P.underlying t = some (.slice e)) (hi : P.info? e = some i) (hz : i.zero = some z)
    (hsize : i.size = 1) (hby : i.bytes = bytes) (hzs : z.cells.size = 1)
    (v : Value) (n : Nat) (xs : List Value) (hown : w.ownsRow base e 1 v n xs)
    (a : Addr) (m c : Nat) (news : List Value) (hl : news.length = m * 1) (hnews : ∀ j u, news[j]? = some u → w.cell? (a.add j) = some u) (h1 : ∀ u ∈ news, u.oneCell' = true)
    (h63 : n + m ≤ maxLen) (hbytes : (n + m) * bytes ≤ 140737488355328) (hbase : base ≤ w.heap.size) (hm : 0 < m) :
    ∃ v' w', (Builtin.append_ #[t, t] ty #[v, .slice (some a) m c]).run P w = .ok v' w' ∧ w'.ownsRow base e 1 v' (n + m) (xs ++ news) ∧ w'.ownsRow base e 1 v n xs ∧ Gone w v w' v' := by
  obtain ⟨v', w', hr, h2, h3, h4⟩ := run_append_keep (P := P) w base t ty e i z 1 bytes ht hi hz hsize hby hzs (by decide) v n xs hown a m c news hl hnews h1 h63 hbytes hbase hm
  refine ⟨v', w', hr, h2, ?_, h3, h4⟩
  have hxl := hown.1
  rcases hown.2 with ⟨rfl, rfl⟩ | ⟨g, cap, cur, rfl, hbg, hg, hnc, hcm, hcs, htake⟩
  · exact ⟨hxl, Or.inl ⟨rfl, rfl⟩⟩
  · by_cases hroom : n + m ≤ cap
    · have hfit : n * i.size + news.length ≤ cur.size := by rw [hsize, hl, hcs]; omega
      have hr2 := run_append_room (P := P) w t ty e i ht hi g n cap cur hg a m c news (by rw [hsize]; exact hl) hnews h1 hroom hfit
      rw [hr2] at hr
      have hv := (Result.ok.inj hr).1
      rcases h2.2 with ⟨e1, _⟩ | ⟨g', cap', cur', e1, q1, q2, q3, q4, q5, q6⟩
      · rw [← hv] at e1
        cases e1
      · rw [← hv] at e1
        cases e1
        refine ⟨hxl, Or.inr ⟨g, cap, cur', rfl, q1, q2, hnc, q4, q5, ?_⟩⟩
        have h5 : (cur'.toList.take ((n + m) * 1)).take (n * 1) = (xs ++ news).take (n * 1) := by rw [q6]
        rw [List.take_take, Nat.min_eq_left (by omega), ← hxl, List.take_left] at h5
        rw [hxl] at h5
        exact h5
    · have hb : w'.heap[g]? = w.heap[g]? := by
        rcases h4 with ⟨g', e1, e2⟩ | ⟨h5, _⟩
        · exfalso
          have holds : ∀ j u, xs[j]? = some u → w.cell? ((⟨g, 0, none⟩ : Addr).add j) = some u := hown.cells (g := g) rfl
          have hr2 := run_append_grow (P := P) w t ty e i z ht hi hz ⟨g, 0, none⟩ n cap xs (by rw [hsize]; exact hown.1) holds a m c news (by rw [hsize]; exact hl) hnews (by omega) (by unfold maxLen at h63; omega) (by rw [hby]; exact growslice_fits (by unfold maxLen at h63; omega) hbytes)
          rw [hr2] at hr
          have hv := (Result.ok.inj hr).1
          rw [← hv] at e2
          simp only [Value.ownBlock, Option.some.injEq] at e1 e2
          have := blk_lt hg
          have : (w.drew).heap.size = w.heap.size := rfl
          omega
        · exact h5 g (blk_lt hg)
      exact ⟨hxl, Or.inr ⟨g, cap, cur, rfl, hbg, hb.trans hg, hnc, hcm, hcs, htake⟩⟩
theorem append_both {P : Program} (w : World) {ops : Array Oper} {rest : List Oper} {o : Oper} {a : Act} {Q : Exit → Act → World → Prop} (hgd : o.guard = none) (s x : Operand) (t : TypeId)
    (ho : o.op = .call { callee := .builtin .append, args := #[s, x], argTypes := #[t, t] })
    (base : Nat) (e : TypeId) (i : TypeInfo) (z : Value) (bytes : Nat) (ht : P.underlying t = some (.slice e)) (hi : P.info? e = some i) (hz : i.zero = some z)
    (hsize : i.size = 1) (hby : i.bytes = bytes) (hzs : z.cells.size = 1)
    (v : Value) (n : Nat) (xs : List Value) (hs : a.eval s = v) (hown : w.ownsRow base e 1 v n xs)
    (ad : Addr) (m c : Nat) (news : List Value) (hx : a.eval x = .slice (some ad) m c) (hl : news.length = m * 1) (hnews : ∀ j u, news[j]? = some u → w.cell? (ad.add j) = some u) (h1 : ∀ u ∈ news, u.oneCell' = true)
    (h63 : n + m ≤ maxLen) (hbytes : (n + m) * bytes ≤ 140737488355328) (hbase : base ≤ w.heap.size) (hm : 0 < m)
    (h : ∀ v' w', w'.ownsRow base e 1 v' (n + m) (xs ++ news) → w'.ownsRow base e 1 v n xs → Gone w v w' v' → wpList P ops Q rest (a.put o.dst v') w') : wpList P ops Q (o :: rest) a w := by
  refine wpList_plain hgd fun K hK => ?_
  obtain ⟨v', w', hr, h2, h3, h4⟩ := run_append_both (P := P) w base t o.type e i z bytes ht hi hz hsize hby hzs v n xs hown ad m c news hl hnews h1 h63 hbytes hbase hm
  unfold Oper.wp execOp
  simp only [ho, resolve, invoke, builtin, Sem.run_bind, Sem.run_pure, Result.andThen_ok, List.map_toArray, List.map_cons, List.map_nil, hs, hx, hr]
  exact hK _ _ (h v' w' h2 h3 h4)
/-- a cell of a list is written -/
theorem own_put {w : World} {base n g c k : Nat} {xs : List Value} {u : Value} (h : w.ownsRow base 33 1 (.slice (some ⟨g, 0, none⟩) n c) n xs) : (w.setCell ⟨g, k, none⟩ u).ownsRow base 33 1 (.slice (some ⟨g, 0, none⟩) n c) n (xs.set k u) := by
  obtain ⟨q1, q2⟩ := h
  rcases q2 with ⟨e, _⟩ | ⟨g', cap, cur, e, r1, r2, r3, r4, r5, r6⟩
  · cases e
  · cases e
    refine ⟨by rw [List.length_set]; exact q1, Or.inr ⟨g, c, cur.setIfInBounds k u, rfl, r1, set_blk r2, r3, r4, by simpa using r5, ?_⟩⟩
    rw [Array.toList_setIfInBounds, List.take_set, r6]
/-- a cell behind a list is written -/
theorem own_past {w : World} {base n g c k : Nat} {xs : List Value} {u : Value} (h : w.ownsRow base 33 1 (.slice (some ⟨g, 0, none⟩) n c) n xs) (hk : n ≤ k) : (w.setCell ⟨g, k, none⟩ u).ownsRow base 33 1 (.slice (some ⟨g, 0, none⟩) n c) n xs := by
  obtain ⟨q1, q2⟩ := h
  rcases q2 with ⟨e, _⟩ | ⟨g', cap, cur, e, r1, r2, r3, r4, r5, r6⟩
  · cases e
  · cases e
    refine ⟨q1, Or.inr ⟨g, c, cur.setIfInBounds k u, rfl, r1, set_blk r2, r3, r4, by simpa using r5, ?_⟩⟩
    rw [Array.toList_setIfInBounds, List.take_set, List.set_eq_of_length_le (by rw [List.length_take]; omega), r6]
end Go.Proofs.YtjcbpejplnaakaaGreat.Mr

namespace Go.Proofs.YtjcbpejplnaakaaGreat.Mr
open Go.RowKit Go.Maps Go.Proofs.YtjcbpejplnaakaaGreat.Nm Go.Proofs.YtjcbpejplnaakaaGreat.Md

/-- blocks of lists -/
def bls (vs : List Value) : List Nat := vs.filterMap Value.ownBlock
/-- lists in blocks of their own: what each has -/
def Ez (w : World) (base : Nat) (vs : List Value) (c : Nat → List Value) : Prop := ∀ (j : Nat) (v : Value), vs[j]? = some v → w.ownsRow base 33 1 v (c j).length (c j)
def Dz (vs : List Value) : Prop := ∀ (i j : Nat) (v u : Value) (g : Nat), vs[i]? = some v → vs[j]? = some u → v.ownBlock = some g → u.ownBlock = some g → i = j
theorem bls_mem {vs : List Value} {j g : Nat} {v : Value} (h : vs[j]? = some v) (hg : v.ownBlock = some g) : g ∈ bls vs := List.mem_filterMap.2 ⟨v, List.mem_of_getElem? h, hg⟩
/-- the numbers that a list is written over with -/
def num (N i t : Nat) : Value := U (1000000 * N + 1000 * i + t)
def nums (N i n : Nat) : List Value := (List.range n).map (num N i)
theorem nums_len (N i n : Nat) : (nums N i n).length = n := by simp [nums]
def part (N i k : Nat) (xs : List Value) : List Value := nums N i k ++ xs.drop k
theorem part_len {N i k : Nat} {xs : List Value} (h : k ≤ xs.length) : (part N i k xs).length = xs.length := by simp [part, nums_len]; omega
theorem part_zero (N i : Nat) (xs : List Value) : part N i 0 xs = xs := by simp [part, nums]
theorem part_all (N i : Nat) (xs : List Value) : part N i xs.length xs = nums N i xs.length := by simp [part]
theorem part_set {N i k : Nat} {xs : List Value} (h : k < xs.length) : (part N i k xs).set k (num N i k) = part N i (k + 1) xs := by
  unfold part
  rw [List.set_append_right _ _ (by rw [nums_len]; exact Nat.le_refl _), nums_len, Nat.sub_self]
  have e : xs.drop k = xs[k] :: xs.drop (k + 1) := List.drop_eq_getElem_cons h
  rw [e, List.set_cons_zero]
  unfold nums
  rw [List.range_succ, List.map_append, List.append_assoc]
  rfl
section
variable {w w' w0 w1 : World} {base i n : Nat} {vs : List Value} {c c' : Nat → List Value} {v v' u : Value} {F : List Nat}
theorem Ez.same (h : Ez w base vs c) (hb : ∀ g ∈ bls vs, w'.heap[g]? = w.heap[g]?) : Ez w' base vs c := fun j v hv => own_blk (h j v hv) fun g e => hb g (bls_mem hv e)
theorem Ez.lt (h : Ez w base vs c) : ∀ g ∈ bls vs, g < w.heap.size := fun g hg => by
  obtain ⟨v, hv, e⟩ := List.mem_filterMap.1 hg
  obtain ⟨j, hj, rfl⟩ := List.getElem_of_mem hv
  exact (World.ownsRow.lt (h j _ (List.getElem?_eq_getElem hj)) g e).2
theorem Ez.below (h : Ez w base vs c) (hb : Below w.heap.size w w') : Ez w' base vs c := h.same fun g hg => hb.block g (h.lt g hg)
/-- a list was appended to, and the last one written over -/
theorem Ez.app (h : Ez w base vs c) (hd : Dz vs) (hv : vs[i]? = some v) (hw : w1 = w.alloc (.cells #[U 1, U 2, U 3] 33)) (hG : Gone w1 v w' v') (ho : w'.ownsRow base 33 1 v' ((c i).length + 3) (c i ++ [U 1, U 2, U 3])) (hk : w'.ownsRow base 33 1 v (c i).length (c i)) {b k : Nat} (hvb : v' = .slice (some ⟨b, 0, none⟩) ((c i).length + 3) k) (hF : Fr F w0 w) (hs : ∀ g ∈ bls vs, g ∈ F ∨ w0.heap.size ≤ g) : Ez (w'.setCell ⟨b, (c i).length + 2, none⟩ (U 4)) base vs c ∧ Fr F w0 (w'.setCell ⟨b, (c i).length + 2, none⟩ (U 4)) := by
  subst hw
  subst hvb
  have h1 := h.below ((Below.refl _ w).alloc (Nat.le_refl _) (.cells #[U 1, U 2, U 3] 33))
  obtain ⟨g1, g2⟩ := hG
  have z1 : w.heap.size ≤ (w.alloc (.cells #[U 1, U 2, U 3] 33)).heap.size := by simp
  have z2 := g1.size
  have hlt := h1.lt
  have h2 : Ez w' base vs c := fun j u hu => by
    by_cases e : j = i
    · subst e
      rw [hv] at hu
      cases hu
      exact hk
    · refine own_blk (h1 j u hu) fun g eg => g1.block g (World.ownsRow.lt (h1 j u hu) g eg).2 fun e2 => e ?_
      exact hd j i u v g hu hv eg e2.symm
  refine ⟨fun j u hu => ?_, ?_⟩
  · by_cases e : u.ownBlock = some b
    · have hj := h2 j u hu
      obtain ⟨bo, bc, rfl⟩ := own_form hj
      cases bo with
      | none => cases e
      | some ad =>
        rcases hj.2 with ⟨q, _⟩ | ⟨g', cap, cur, q, _⟩
        · cases q
        · cases q
          simp only [Value.ownBlock, Option.some.injEq] at e
          subst e
          refine own_past hj ?_
          rcases g2 with ⟨g, e1, e2⟩ | ⟨_, e2⟩
          · have : j = i := by
              cases e2
              exact hd j i _ v g' hu hv rfl e1
            subst this
            omega
          · have q1 := e2 g' rfl
            have q2 := (World.ownsRow.lt (h1 j _ hu) g' rfl).2
            omega
    · refine own_blk (h2 j u hu) fun g eg => set_other fun q => e (by rw [← q]; exact eg)
  · have hF1 : Fr F w0 w' := by
      have q := hF.trans (F' := []) (Fr.of_below ((Below.refl _ w).alloc (Nat.le_refl _) (.cells #[U 1, U 2, U 3] 33))) (by simp)
      refine ⟨g1.os.trans q.os, g1.tape.trans q.tape, g1.output.trans q.output, Nat.le_trans q.size z2, fun y hy hn => ?_⟩
      rw [g1.block y (Nat.lt_of_lt_of_le hy q.size) fun e => ?_]
      · exact q.block y hy hn
      · rcases hs y (bls_mem hv e.symm) with e | e
        · exact hn e
        · omega
    refine hF1.trans (F' := [b]) (Fr.set w' _ _ (by simp)) fun y hy => ?_
    simp only [List.mem_cons, List.not_mem_nil, or_false] at hy
    subst hy
    rcases g2 with ⟨g, e1, e2⟩ | ⟨_, e2⟩
    · cases e2
      exact hs _ (bls_mem hv e1)
    · have q1 := e2 y rfl
      have := hF.size
      right
      omega
/-- a cell of a list is written -/
theorem Ez.put {N k b cc : Nat} {xs : List Value} (h : Ez w base vs c) (hd : Dz vs) (hv : vs[i]? = some (.slice (some ⟨b, 0, none⟩) n cc)) (hc : c i = part N i k xs) (hk : k < xs.length) (hc2 : ∀ j, j ≠ i → c' j = c j) (hc3 : c' i = part N i (k + 1) xs) (hF : Fr F w0 w) (hs : ∀ g ∈ bls vs, g ∈ F ∨ w0.heap.size ≤ g) : Ez (w.setCell ⟨b, k, none⟩ (num N i k)) base vs c' ∧ Fr F w0 (w.setCell ⟨b, k, none⟩ (num N i k)) := by
  refine ⟨fun j u hu => ?_, hF.trans (F' := [b]) (Fr.set w _ _ (by simp)) fun y hy => ?_⟩
  · by_cases e : j = i
    · subst e
      rw [hv] at hu
      cases hu
      have hj := h j _ hv
      obtain ⟨bo, bc, e⟩ := own_form hj
      cases e
      rw [hc3, part_len (by omega), ← part_len (N := N) (i := j) (k := k) (xs := xs) (by omega), ← part_set hk, ← hc]
      exact own_put hj
    · rw [hc2 j e]
      refine own_blk (h j u hu) fun g eg => set_other fun q => e ?_
      subst q
      exact hd j i u _ g hu hv eg rfl
  · simp only [List.mem_cons, List.not_mem_nil, or_false] at hy
    subst hy
    exact hs _ (bls_mem hv rfl)
end
end Go.Proofs.YtjcbpejplnaakaaGreat.Mr

set_option linter.unusedSimpArgs false
namespace Go.Proofs.YtjcbpejplnaakaaGreat.Mr
open Go.RowKit Go.Maps Go.Proofs.YtjcbpejplnaakaaGreat.Nm Go.Proofs.YtjcbpejplnaakaaGreat.Md

/-- what the lists have while they are written over -/
def cut (N i k : Nat) (c : Nat → List Value) : Nat → List Value := fun j => if j < i then nums N j (c j).length else if j = i then part N i k (c j) else c j
theorem cut_zero (N : Nat) (c : Nat → List Value) : cut N 0 0 c = c := by
  funext j
  unfold cut
  rw [if_neg (by omega)]
  by_cases e : j = 0
  · rw [if_pos e, part_zero]
  · rw [if_neg e]
theorem cut_next (N i : Nat) (c : Nat → List Value) : cut N i (c i).length c = cut N (i + 1) 0 c := by
  funext j
  unfold cut
  by_cases e : j < i
  · rw [if_pos e, if_pos (by omega)]
  · rw [if_neg e]
    by_cases e2 : j = i
    · subst e2
      rw [if_pos rfl, if_pos (by omega), part_all]
    · rw [if_neg e2, if_neg (by omega)]
      by_cases e3 : j = i + 1
      · rw [if_pos e3, part_zero]
      · rw [if_neg e3]
theorem cut_end {N m : Nat} {c : Nat → List Value} {j : Nat} (h : j < m) : cut N m 0 c j = nums N j (c j).length := by
  unfold cut
  rw [if_pos h]
theorem own_spot {w : World} {base n m c k : Nat} {bo : Option Addr} {xs : List Value} (h : w.ownsRow base 33 1 (.slice bo n c) m xs) (hk : k < m) : ∃ b, bo = some ⟨b, 0, none⟩ ∧ (∃ u, w.cell? ⟨b, k, none⟩ = some u) ∧ w.frozen? ⟨b, k, none⟩ = false := by
  rcases h.2 with ⟨_, e⟩ | ⟨g, cap, cur, e, _, r2, r3, _, r5, _⟩
  · omega
  · cases e
    have hs : k < cur.size := by omega
    exact ⟨g, rfl, ⟨cur[k], by simp [World.cell?, r2, hs]⟩, by simp [World.frozen?, r2]⟩
set_option maxHeartbeats 6400000 in
set_option maxRecDepth 100000 in
theorem spoil_any {w : World} {base kb off cap N : Nat} {vs : List Value} {c : Nat → List Value} (hz : Ez w base vs c) (hd : Dz vs) (hn : vs.length = 5) (hc : ∀ j v, vs[j]? = some v → w.cell? ⟨kb, off + j, none⟩ = some v) (hkb : kb < w.heap.size ∧ kb ∉ bls vs) (hN : N ≤ 200) (hl : ∀ j, j < 5 → (c j).length ≤ 1000000000) (hb : base ≤ w.heap.size) : Calls Tryz.prog 12 #[.slice (some ⟨kb, off, none⟩) 5 cap, I N] w fun e w' => e = .returned (.tuple #[]) ∧ Ez w' base vs (fun j => nums N j (c j).length) ∧ Fr (bls vs) w w' := by
  have H : Hid (Ez w base vs c ∧ Dz vs ∧ vs.length = 5 ∧ (∀ j v, vs[j]? = some v → w.cell? ⟨kb, off + j, none⟩ = some v) ∧ (kb < w.heap.size ∧ kb ∉ bls vs) ∧ N ≤ 200 ∧ (∀ j, j < 5 → (c j).length ≤ 1000000000) ∧ base ≤ w.heap.size) := ⟨hz, hd, hn, hc, hkb, hN, hl, hb⟩
  obtain ⟨j0, hj, hj0, hj1, hj2⟩ := info_parts info33
  have hN2 : (N : Int) ≤ 200 := by omega
  clear hz hd hn hc hkb hN hl hb
  go_enter Tryz.func12, Tryz.ntmps12
  go_wp2_with fail
  go_loopg [4] 5 (fun gq x wr => ∃ i : Nat, i ≤ 5 ∧ gq = 5 - i ∧ x = I i ∧ Ez wr base vs c ∧ Fr (bls vs) w wr)
  case atStart => exact ⟨0, by omega, rfl, rfl, H.out.1, Fr.refl _ _⟩
  case round =>
    obtain ⟨i, hi, hgk, rfl, hE, hF⟩ := hrel
    by_cases hlt : i < 5
    · have hlt' : (i : Int) < 5 := by omega
      obtain ⟨v, hv⟩ : ∃ v, vs[i]? = some v := ⟨vs[i]'(by have := H.out.2.2.1; omega), List.getElem?_eq_getElem _⟩
      have ho := hE i v hv
      obtain ⟨bo, bc, rfl⟩ := own_form ho
      have ci : wr.cell? ⟨kb, off + i, none⟩ = some (.slice bo (c i).length bc) := (cell_blk (hF.block kb H.out.2.2.2.2.1.1 H.out.2.2.2.2.1.2) _).trans (H.out.2.2.2.1 i _ hv)
      have HI : Hid (Ez wr base vs c ∧ Fr (bls vs) w wr ∧ i < 5 ∧ gk = 5 - i ∧ vs[i]? = some (.slice bo (c i).length bc) ∧ (c i).length ≤ 1000000000) := ⟨hE, hF, hlt, hgk, hv, H.out.2.2.2.2.2.2.1 i hlt⟩
      have HO : Hid ((wr.alloc (.cells #[U 1, U 2, U 3] 33)).ownsRow base 33 1 (.slice bo (c i).length bc) (c i).length (c i) ∧ base ≤ (wr.alloc (.cells #[U 1, U 2, U 3] 33)).heap.size) := ⟨own_below ho ((Below.refl _ wr).alloc (Nat.le_refl _) _), Nat.le_trans (Nat.le_trans H.out.2.2.2.2.2.2.2 hF.size) (by simp)⟩
      have hcl : ((c i).length : Int) ≤ 1000000000 := by have := HI.out.2.2.2.2.2; omega
      clear hE hF hlt hgk hv ho hi
      generalize hnl : (c i).length = nl at ci hcl
      go_wp2_with (at_builtin; refine append_both _ rfl _ _ 22 rfl base 33 j0 (.int .u64 0) 8 Tryz.underlying22 hj hj0 hj1 hj2 rfl (.slice bo nl bc) nl (c i) rfl (by rw [← hnl]; exact HO.out.1) ⟨wr.heap.size, 0, none⟩ 3 3 [U 1, U 2, U 3] rfl rfl ?c1 ?c2 ?c3 ?c4 ?c5 ?c6 ?_)
      case c1 => exact cells_new wr 33 [U 1, U 2, U 3]
      case c2 => intro u hu; simp only [List.mem_cons, List.not_mem_nil, or_false] at hu; rcases hu with rfl | rfl | rfl <;> rfl
      case c3 => have := HI.out.2.2.2.2.2; unfold maxLen; omega
      case c4 => have := HI.out.2.2.2.2.2; omega
      case c5 => exact HO.out.2
      case c6 => decide
      intro v4 w4 ho4 hk4 hG
      obtain ⟨bo4, k4, rfl⟩ := own_form ho4
      obtain ⟨b4, rfl, ⟨u4, e4⟩, f4⟩ := own_spot (k := nl + 2) ho4 (by omega)
      have H4 : Hid (Ez (w4.setCell ⟨b4, nl + 2, none⟩ (U 4)) base vs c ∧ Fr (bls vs) w (w4.setCell ⟨b4, nl + 2, none⟩ (U 4))) := by
        rw [← hnl] at ho4 hk4 hG ⊢
        exact HI.out.1.app H.out.2.1 HI.out.2.2.2.2.1 rfl hG ho4 hk4 rfl HI.out.2.1 fun g hg => Or.inl hg
      have hw4 : IntKind.i64.wrap (((nl + 3 : Nat) : Int) - 1) = ((nl + 2 : Nat) : Int) := by rw [IntKind.wrap_i64]; omega
      clear ho4 hk4 hG HO hnl ci
      obtain ⟨n3, hn3⟩ : ∃ q : Nat, q = nl + 3 := ⟨_, rfl⟩
      obtain ⟨n2, hn2⟩ : ∃ q : Nat, q = nl + 2 := ⟨_, rfl⟩
      rw [← hn3, ← hn2] at hw4
      rw [← hn2] at H4 f4 e4
      have hi1 : (n2 : Int) < (n3 : Int) := by omega
      rw [← hn3]
      clear hn3 hn2
      go_wp2_with fail
      go_roundg (5 - (i + 1))
      case measure => have h1 := HI.out.2.2.1; have := HI.out.2.2.2.1; omega
      case rel => exact ⟨i + 1, HI.out.2.2.1, rfl, by go_num, H4.out.1, H4.out.2⟩
    · have HE : Hid (Ez wr base vs c ∧ Fr (bls vs) w wr) := ⟨hE, hF⟩
      have hlt' : ¬ ((i : Int) < 5) := by omega
      clear hE hF hlt hgk hi
      go_wp2_with fail
      clear hlt'
      go_loopg [6] 5 (fun gq x wr => ∃ i : Nat, i ≤ 5 ∧ gq = 5 - i ∧ x = I i ∧ Ez wr base vs (cut N i 0 c) ∧ Fr (bls vs) w wr)
      case atStart => exact ⟨0, by omega, rfl, rfl, by rw [cut_zero]; exact HE.out.1, HE.out.2⟩
      case round =>
        clear HE
        obtain ⟨i, hi, hgk, rfl, hE, hF⟩ := hrel
        by_cases hlt : i < 5
        · have hlt' : (i : Int) < 5 := by omega
          obtain ⟨v, hv⟩ : ∃ v, vs[i]? = some v := ⟨vs[i]'(by have := H.out.2.2.1; omega), List.getElem?_eq_getElem _⟩
          have hcl := H.out.2.2.2.2.2.2.1 i hlt
          have hci : cut N i 0 c i = c i := by unfold cut; rw [if_neg (by omega), if_pos rfl, part_zero]
          have ho := hE i v hv
          rw [hci] at ho
          obtain ⟨bo, bc, rfl⟩ := own_form ho
          have HI : Hid (Ez wr base vs (cut N i 0 c) ∧ Fr (bls vs) w wr ∧ i < 5 ∧ gk = 5 - i ∧ vs[i]? = some (.slice bo (c i).length bc) ∧ (c i).length ≤ 1000000000) := ⟨hE, hF, hlt, hgk, hv, hcl⟩
          have hcl2 : ((c i).length : Int) ≤ 1000000000 := by omega
          clear hE hF hlt hgk hv ho hi hcl hci
          generalize hnl : (c i).length = nl at hcl2
          go_wp2_with fail
          go_loopg [7] nl (fun gq x wr => ∃ k : Nat, k ≤ nl ∧ gq = nl - k ∧ x = I k ∧ Ez wr base vs (cut N i k c) ∧ Fr (bls vs) w wr)
          case atStart => exact ⟨0, by omega, rfl, rfl, HI.out.1, HI.out.2.1⟩
          case round =>
            obtain ⟨k, hk, hgk2, rfl, hE, hF⟩ := hrel
            have ci : wr.cell? ⟨kb, off + i, none⟩ = some (.slice bo nl bc) := by
              rw [← hnl]
              exact (cell_blk (hF.block kb H.out.2.2.2.2.1.1 H.out.2.2.2.2.1.2) _).trans (H.out.2.2.2.1 i _ HI.out.2.2.2.2.1)
            by_cases hkl : k < nl
            · have hkl' : (k : Int) < (nl : Int) := by omega
              have ho := hE i _ HI.out.2.2.2.2.1
              have hci : cut N i k c i = part N i k (c i) := by unfold cut; rw [if_neg (by omega), if_pos rfl]
              rw [hci] at ho
              obtain ⟨b1, rfl, hc1, hf1⟩ : ∃ b1, bo = some ⟨b1, 0, none⟩ ∧ (∃ u, wr.cell? ⟨b1, k, none⟩ = some u) ∧ wr.frozen? ⟨b1, k, none⟩ = false := own_spot ho (by rw [part_len (by omega)]; omega)
              obtain ⟨u1, hc1⟩ := hc1
              have HP : Hid (Ez (wr.setCell ⟨b1, k, none⟩ (num N i k)) base vs (cut N i (k + 1) c) ∧ Fr (bls vs) w (wr.setCell ⟨b1, k, none⟩ (num N i k))) := hE.put H.out.2.1 HI.out.2.2.2.2.1 hci (by omega) (fun j e => by unfold cut; by_cases e2 : j < i; (· rw [if_pos e2, if_pos e2]); (· rw [if_neg e2, if_neg e2, if_neg e, if_neg e])) (by unfold cut; rw [if_neg (by omega), if_pos rfl]) hF fun g hg => Or.inl hg
              have HK : Hid (k < nl ∧ gk = nl - k) := ⟨hkl, hgk2⟩
              obtain ⟨t1, ht1⟩ : ∃ t : Nat, t = 1000000 * N := ⟨_, rfl⟩
              obtain ⟨t2, ht2⟩ : ∃ t : Nat, t = 1000 * i := ⟨_, rfl⟩
              obtain ⟨t3, ht3⟩ : ∃ t : Nat, t = t1 + t2 := ⟨_, rfl⟩
              obtain ⟨t4, ht4⟩ : ∃ t : Nat, t = t3 + k := ⟨_, rfl⟩
              have hN3 := H.out.2.2.2.2.2.1
              have hi5 := HI.out.2.2.1
              have w1 : IntKind.i64.wrap (1000000 * (N : Int)) = (t1 : Int) := by rw [IntKind.wrap_i64]; omega
              have w2 : IntKind.i64.wrap (1000 * (i : Int)) = (t2 : Int) := by rw [IntKind.wrap_i64]; omega
              have w3 : IntKind.i64.wrap ((t1 : Int) + (t2 : Int)) = (t3 : Int) := by rw [IntKind.wrap_i64]; omega
              have w4 : IntKind.i64.wrap ((t3 : Int) + (k : Int)) = (t4 : Int) := by rw [IntKind.wrap_i64]; omega
              have w5 : (t4 : Int) ≤ 2000000000 := by omega
              have w6 : IntKind.u64.wrap (t4 : Int) = (t4 : Int) := by rw [IntKind.wrap_u64]; omega
              have hnum : num N i k = U t4 := by unfold num; congr 1; omega
              rw [hnum] at HP
              clear hE hF ho hci hkl hgk2 hk ht1 ht2 ht3 ht4 hN3 hi5 hnum
              go_wp2_with fail
              go_roundg (nl - (k + 1))
              case measure => have h1 := HK.out.1; have := HK.out.2; omega
              case rel => exact ⟨k + 1, HK.out.1, rfl, by go_num, HP.out.1, HP.out.2⟩
            · have hkl' : ¬ ((k : Int) < (nl : Int)) := by omega
              obtain rfl : k = nl := by omega
              have HP : Hid (Ez wr base vs (cut N (i + 1) 0 c) ∧ Fr (bls vs) w wr) := by
                rw [← cut_next, hnl]
                exact ⟨hE, hF⟩
              clear hE hF hkl hgk2 hk
              go_wp2_with fail
              go_roundg (5 - (i + 1))
              case measure => have h1 := HI.out.2.2.1; have := HI.out.2.2.2.1; omega
              case rel => exact ⟨i + 1, HI.out.2.2.1, rfl, by go_num, HP.out.1, HP.out.2⟩
        · obtain rfl : i = 5 := by omega
          have HP : Hid (Ez wr base vs (cut N 5 0 c) ∧ Fr (bls vs) w wr) := ⟨hE, hF⟩
          clear hE hF hlt hgk hi
          go_wp2
          go_end0
          refine ⟨rfl, fun j v hv => ?_, HP.out.2⟩
          have := HP.out.1 j v hv
          rw [cut_end (by have := (List.getElem?_eq_some_iff.1 hv).1; have := H.out.2.2.1; omega)] at this
          exact this
end Go.Proofs.YtjcbpejplnaakaaGreat.Mr

namespace Go.Proofs.YtjcbpejplnaakaaGreat.Mr
open Go.RowKit Go.Maps Go.Proofs.YtjcbpejplnaakaaGreat.Nm Go.Proofs.YtjcbpejplnaakaaGreat.Md

/-- the reference's cache with all of its blocks -/
def Rp (w : World) (g m kd c : Nat) (R : List Nat) (t : St) : Prop := ∃ V, Rz w g m kd c [] V t ∧ R = g :: m :: bls [V.a, V.b, V.g, V.h]
section
variable {w w' W : World} {g m kd c k i T fa fk size n : Nat} {F F' R R' L G X l out : List Nat} {v : Value} {V : Vs} {t t' : St} {σ : Type} {s0 s s' : σ} {key : σ → List Nat} {Sp : σ → Nat → Bool → σ → List Nat → Prop} {P : World → Nat → List Nat → σ → Prop} {inv : σ → Prop} {rel : σ → St → Prop}
theorem bls_four {a b c d : Value} {x : Nat} : x ∈ bls [a, b, c, d] ↔ a.ownBlock = some x ∨ b.ownBlock = some x ∨ c.ownBlock = some x ∨ d.ownBlock = some x := by
  unfold bls
  rw [List.mem_filterMap]
  simp
theorem Rp.mem (h : Rp w g m kd c R t) : g ∈ R ∧ m ∈ R := by
  obtain ⟨V, _, rfl⟩ := h
  exact ⟨by simp, by simp⟩
theorem Rp.lt (h : Rp w g m kd c R t) : ∀ x ∈ R, x < w.heap.size := by
  obtain ⟨V, h, rfl⟩ := h
  intro x hx
  rcases List.mem_cons.1 hx with rfl | hx
  · exact h.gl
  rcases List.mem_cons.1 hx with rfl | hx
  · exact h.bk.lt
  rcases bls_four.1 hx with e | e | e | e
  · exact h.ra.lt x e
  · exact h.rb.lt x e
  · exact h.rg.lt x e
  · exact h.rh.lt x e
theorem Rr.wide {Y : List Nat} (h : Rr w Y v l) (hX : ∀ b, v.ownBlock = some b → b ∉ X) : Rr w X v l := ⟨h.1, hX⟩
theorem Rp.rz (h : Rp w g m kd c R t) (hL : ∀ x ∈ R, x ∉ L) (hl : ∀ x ∈ L, x < w.heap.size) : ∃ V, Rz w g m kd c L V t := by
  obtain ⟨V, h, rfl⟩ := h
  have key : ∀ {r : Value} {k : List Nat}, Rr w (g :: m :: []) r k → (∀ b, r.ownBlock = some b → b ∈ bls [V.a, V.b, V.g, V.h]) → Rr w (g :: m :: L) r k := fun {r k} hr hb => ⟨hr.1, fun b e q => by
    have n1 := hr.2 b e
    simp only [List.mem_cons, List.not_mem_nil, or_false, not_or] at n1 q
    rcases q with q | q | q
    · exact n1.1 q
    · exact n1.2 q
    · exact hL b (by simp only [List.mem_cons]; exact Or.inr (Or.inr (hb b e))) q⟩
  exact ⟨V, h.blk, key h.ra fun b e => bls_four.2 (Or.inl e), key h.rb fun b e => bls_four.2 (Or.inr (Or.inl e)), key h.rg fun b e => bls_four.2 (Or.inr (Or.inr (Or.inl e))), key h.rh fun b e => bls_four.2 (Or.inr (Or.inr (Or.inr e))), h.bk, hl⟩
theorem Rp.of (h : Rz w g m kd c L V t) (hg : g ∉ L) (hm : m ∉ L) : ∃ R, Rp w g m kd c R t ∧ ∀ x ∈ R, x ∉ L := by
  have key : ∀ {r : Value} {k : List Nat}, Rr w (g :: m :: L) r k → Rr w (g :: m :: []) r k := fun {r k} hr => hr.less fun x hx => by
    simp only [List.mem_cons, List.not_mem_nil, or_false] at hx ⊢
    rcases hx with e | e
    · exact Or.inl e
    · exact Or.inr (Or.inl e)
  refine ⟨_, ⟨V, ⟨h.blk, key h.ra, key h.rb, key h.rg, key h.rh, h.bk, by simp⟩, rfl⟩, fun x hx => ?_⟩
  rcases List.mem_cons.1 hx with rfl | hx
  · exact hg
  rcases List.mem_cons.1 hx with rfl | hx
  · exact hm
  have nn : ∀ {r : Value} {k : List Nat}, Rr w (g :: m :: L) r k → r.ownBlock = some x → x ∉ L := fun {r k} hr e q => hr.2 x e (by simp [q])
  rcases bls_four.1 hx with e | e | e | e
  · exact nn h.ra e
  · exact nn h.rb e
  · exact nn h.rg e
  · exact nn h.rh e
theorem Rp.keep (h : Rp w g m kd c R t) (hf : Fr G w w') (hd : ∀ x ∈ R, x ∉ G) : Rp w' g m kd c R t := by
  obtain ⟨V, h, rfl⟩ := h
  have key : ∀ {r : Value} {k : List Nat}, Rr w (g :: m :: []) r k → (∀ b, r.ownBlock = some b → b ∈ bls [V.a, V.b, V.g, V.h]) → Rr w' (g :: m :: []) r k := fun {r k} hr hb => hr.same fun b e => hf.block b (hr.lt b e) (hd b (by simp only [List.mem_cons]; exact Or.inr (Or.inr (hb b e))))
  exact ⟨V, ⟨(hf.block g h.gl (hd g (by simp))).trans h.blk, key h.ra fun b e => bls_four.2 (Or.inl e), key h.rb fun b e => bls_four.2 (Or.inr (Or.inl e)), key h.rg fun b e => bls_four.2 (Or.inr (Or.inr (Or.inl e))), key h.rh fun b e => bls_four.2 (Or.inr (Or.inr (Or.inr e))), h.bk.same (hf.block m h.bk.lt (hd m (by simp))), by simp⟩, rfl⟩
/-- the reference's Access beside blocks L -/
theorem Rp.acc (K : Kz T fa fk kd size σ s0 key Sp P inv rel) {hit : Bool} (h : Rp w g m kd size R t) (hL : ∀ x ∈ R, x ∉ L) (hl : ∀ x ∈ L, x < w.heap.size) (hi : inv s) (hr : rel s t) (hs : Sp s k hit s' out) (hk : k < 18446744073709551616) (hn : t.n ≤ 1000000000) : Calls Tryz.prog 7 #[.pointer (some ⟨g, 0, none⟩), U k] w fun e w' => ∃ v R' t', e = .returned (.tuple #[.bool hit, v]) ∧ Rp w' g m kd size R' t' ∧ (∀ x ∈ R', x ∉ L) ∧ rel s' t' ∧ t'.n ≤ t.n + 1 ∧ Fr [g, m] w w' ∧ KRd w' v out := by
  obtain ⟨hg, hm⟩ := h.mem
  obtain ⟨V, hz⟩ := h.rz hL hl
  refine (K.racc hz hi hr hs hk hn).mono ?_
  rintro _ w' ⟨v, V', t', rfl, q1, q2, q3, q4, q5⟩
  obtain ⟨R', r1, r2⟩ := Rp.of q1 (hL g hg) (hL m hm)
  exact ⟨v, R', t', rfl, r1, r2, q2, q3, q4, q5⟩
theorem Rp.keys (h : Rp w g m kd c R t) (hl : t.A.length + t.B.length ≤ 1000000000) : Calls Tryz.prog 9 #[.pointer (some ⟨g, 0, none⟩)] w fun e w' => ∃ u, e = .returned u ∧ w'.ownsRow w.heap.size 33 1 u (t.A ++ t.B).length ((t.A ++ t.B).map U) ∧ Below w.heap.size w w' := by
  obtain ⟨V, h, _⟩ := h
  exact h.keys hl
theorem Rp.krd (h : Rp w g m kd c R t) (hk : KRd w v l) (hf : Fr [g, m] w w') : KRd w' v l := by
  obtain ⟨V, h, _⟩ := h
  exact krd_fr hk h hf
/-- footprints that are apart, all new since W -/
structure D5 (W w : World) (f : Nat → List Nat) : Prop where
  d : ∀ i j, i ≠ j → ∀ x ∈ f i, x ∉ f j
  b : ∀ i, ∀ x ∈ f i, W.heap.size ≤ x ∧ x < w.heap.size
def up (f : Nat → List Nat) (i : Nat) (F : List Nat) : Nat → List Nat := fun j => if j = i then F else f j
variable {f : Nat → List Nat}
theorem up_at (f : Nat → List Nat) (i : Nat) (F : List Nat) : up f i F i = F := if_pos rfl
theorem up_no {j : Nat} (h : j ≠ i) : up f i F j = f j := if_neg h
theorem D5.grow (h : D5 W w f) (hb : w.heap.size ≤ w'.heap.size) : D5 W w' f := ⟨h.d, fun i x hx => ⟨(h.b i x hx).1, Nat.lt_of_lt_of_le (h.b i x hx).2 hb⟩⟩
/-- a footprint that grew by new blocks, or shrank -/
theorem D5.ext (h : D5 W w f) (hW : W.heap.size ≤ w.heap.size) (hs : w.heap.size ≤ w'.heap.size) (hF : ∀ x ∈ F, x < w'.heap.size ∧ (x ∈ f i ∨ w.heap.size ≤ x)) : D5 W w' (up f i F) := by
  refine ⟨fun a b hab x hx => ?_, fun a x hx => ?_⟩
  · by_cases ea : a = i
    · subst ea
      rw [up_at] at hx
      rw [up_no (fun e => hab e.symm)]
      intro hx2
      rcases (hF x hx).2 with e | e
      · exact h.d a b hab x e hx2
      · have := (h.b b x hx2).2; omega
    · rw [up_no ea] at hx
      by_cases eb : b = i
      · subst eb
        rw [up_at]
        intro hx2
        rcases (hF x hx2).2 with e | e
        · exact h.d a b hab x hx e
        · have := (h.b a x hx).2; omega
      · rw [up_no eb]
        exact h.d a b hab x hx
  · by_cases ea : a = i
    · subst ea
      rw [up_at] at hx
      have q := hF x hx
      exact ⟨q.2.elim (fun e => (h.b a x e).1) (fun e => by omega), q.1⟩
    · rw [up_no ea] at hx
      have := h.b a x hx
      exact ⟨this.1, by omega⟩
/-- all others -/
def oth (f : Nat → List Nat) (i : Nat) : List Nat := ((List.range 5).filter (· ≠ i)).flatMap f
theorem oth_mem {x : Nat} (h : x ∈ oth f i) : ∃ j, j ≠ i ∧ x ∈ f j := by
  unfold oth at h
  obtain ⟨j, hj, hx⟩ := List.mem_flatMap.1 h
  obtain ⟨_, h2⟩ := List.mem_filter.1 hj
  exact ⟨j, by simpa using h2, hx⟩
theorem oth_of {x j : Nat} (hj : j < 5) (hji : j ≠ i) (h : x ∈ f j) : x ∈ oth f i := List.mem_flatMap.2 ⟨j, List.mem_filter.2 ⟨List.mem_range.2 hj, by simpa using hji⟩, h⟩
/-- a footprint that avoids all others -/
theorem D5.put (h : D5 W w f) (h5 : ∀ j, 5 ≤ j → f j = []) (hs : w.heap.size ≤ w'.heap.size) (hF : ∀ x ∈ F, W.heap.size ≤ x ∧ x < w'.heap.size ∧ x ∉ oth f i) : D5 W w' (up f i F) := by
  have hno : ∀ j, j ≠ i → ∀ x ∈ F, x ∉ f j := fun j hj x hx hx2 => by
    by_cases e : j < 5
    · exact (hF x hx).2.2 (oth_of e hj hx2)
    · rw [h5 j (by omega)] at hx2
      simp at hx2
  refine ⟨fun a b hab x hx => ?_, fun a x hx => ?_⟩
  · by_cases ea : a = i
    · subst ea
      rw [up_at] at hx
      rw [up_no (fun e => hab e.symm)]
      exact hno b (fun e => hab e.symm) x hx
    · rw [up_no ea] at hx
      by_cases eb : b = i
      · subst eb
        rw [up_at]
        exact fun hx2 => hno a ea x hx2 hx
      · rw [up_no eb]
        exact h.d a b hab x hx
  · by_cases ea : a = i
    · subst ea
      rw [up_at] at hx
      exact ⟨(hF x hx).1, (hF x hx).2.1⟩
    · rw [up_no ea] at hx
      have := h.b a x hx
      exact ⟨this.1, by omega⟩
end
end Go.Proofs.YtjcbpejplnaakaaGreat.Mr

namespace Go.Proofs.YtjcbpejplnaakaaGreat.Mr
open Go.RowKit Go.Maps Go.Proofs.YtjcbpejplnaakaaGreat.Nm Go.Proofs.YtjcbpejplnaakaaGreat.Md

/-- a cache and the reference's beside it -/
structure Sd {σ : Type} (P : World → Nat → List Nat → σ → Prop) (rel : σ → St → Prop) (g gr mr kd n : Nat) (s s' : σ) (t : St) (i : Nat) (w : World) (F R : List Nat) : Prop where
  p : P w g F s
  r : Rp w gr mr kd n R t
  rl : rel s' t
  cn : t.n ≤ i
/-- what stays where other blocks turn -/
def KeepS (S : World → List Nat → List Nat → Prop) : Prop := ∀ {w w' : World} {F R G : List Nat}, S w F R → Fr G w w' → (∀ x ∈ F, x ∉ G) → (∀ x ∈ R, x ∉ G) → S w' F R
theorem Sd.keepS {T fa fk kd size : Nat} {σ : Type} {s0 : σ} {key : σ → List Nat} {Sp : σ → Nat → Bool → σ → List Nat → Prop} {P : World → Nat → List Nat → σ → Prop} {inv : σ → Prop} {rel : σ → St → Prop} (K : Kz T fa fk kd size σ s0 key Sp P inv rel) (g gr mr n : Nat) (s s' : σ) (t : St) (i : Nat) : KeepS (Sd P rel g gr mr kd n s s' t i) :=
  fun h hf h1 h2 => ⟨K.keep h.p hf h1, h.r.keep hf h2, h.rl, h.cn⟩
/-- the law at work: two caches with their references, and lists that were told -/
structure Av (W w : World) (SA SB : World → List Nat → List Nat → Prop) (f : Nat → List Nat) (vs : List Value) (c : Nat → List Value) (vk : Value) (xs : List Value) : Prop where
  bel : Below W.heap.size W w
  d : D5 W w f
  z : ∀ j, 5 ≤ j → f j = []
  a : SA w (f 0) (f 1)
  b : SB w (f 2) (f 3)
  ez : Ez w W.heap.size vs c
  dz : Dz vs
  kin : ∀ x ∈ bls vs, x ∈ f 4
  ow : w.ownsRow W.heap.size 22 1 vk xs.length xs
  ok : ∀ b, vk.ownBlock = some b → b ∈ f 4 ∧ b ∉ bls vs
section
variable {W w w' w1 w4 : World} {SA SB SA' SB' : World → List Nat → List Nat → Prop} {f : Nat → List Nat} {vs : List Value} {c c' : Nat → List Value} {vk vk' v : Value} {xs news : List Value} {F' R' G : List Nat} {i : Nat}
theorem own_blk22 {base n : Nat} {ys : List Value} (h : w.ownsRow base 22 1 v n ys) (hb : ∀ b, v.ownBlock = some b → w'.heap[b]? = w.heap[b]?) : w'.ownsRow base 22 1 v n ys := by
  obtain ⟨q1, q2⟩ := h
  refine ⟨q1, q2.imp id ?_⟩
  rintro ⟨b, cap, cur, rfl, r2, r3, r4⟩
  exact ⟨b, cap, cur, rfl, r2, (hb b rfl).trans r3, r4⟩
/-- what turns in blocks of a party leaves the lists -/
theorem Av.lists (h : Av W w SA SB f vs c vk xs) (hf : Fr G w w') (hG : ∀ x ∈ G, x ∉ f 4) : Ez w' W.heap.size vs c ∧ w'.ownsRow W.heap.size 22 1 vk xs.length xs := by
  have hb : ∀ x ∈ f 4, w'.heap[x]? = w.heap[x]? := fun x hx => hf.block x (h.d.b 4 x hx).2 fun e => hG x e hx
  exact ⟨h.ez.same fun x hx => hb x (h.kin x hx), own_blk22 h.ow fun b e => hb b (h.ok b e).1⟩
theorem Av.belF (h : Av W w SA SB f vs c vk xs) (hf : Fr G w w') (hG : ∀ x ∈ G, ∃ j, x ∈ f j) : Below W.heap.size W w' := fr_below (F := G) h.bel (fun x hx => by obtain ⟨j, hj⟩ := hG x hx; exact (h.d.b j x hj).1) hf
theorem Av.a0 (h : Av W w SA SB f vs c vk xs) (kB : KeepS SB) (h1 : SA' w' F' (f 1)) (hf : Fr (f 0) w w') (hF : ∀ x ∈ F', x < w'.heap.size ∧ (x ∈ f 0 ∨ w.heap.size ≤ x)) : Av W w' SA' SB (up f 0 F') vs c vk xs := by
  obtain ⟨e1, e2⟩ := h.lists hf fun x hx => h.d.d 0 4 (by decide) x hx
  exact ⟨h.belF hf fun x hx => ⟨0, hx⟩, h.d.ext h.bel.size hf.size hF, fun j hj => by rw [up_no (by omega)]; exact h.z j hj, h1, kB h.b hf (fun x hx e => h.d.d 2 0 (by decide) x hx e) (fun x hx e => h.d.d 3 0 (by decide) x hx e), e1, h.dz, h.kin, e2, h.ok⟩
theorem Av.b0 (h : Av W w SA SB f vs c vk xs) (kA : KeepS SA) (h1 : SB' w' F' (f 3)) (hf : Fr (f 2) w w') (hF : ∀ x ∈ F', x < w'.heap.size ∧ (x ∈ f 2 ∨ w.heap.size ≤ x)) : Av W w' SA SB' (up f 2 F') vs c vk xs := by
  obtain ⟨e1, e2⟩ := h.lists hf fun x hx => h.d.d 2 4 (by decide) x hx
  exact ⟨h.belF hf fun x hx => ⟨2, hx⟩, h.d.ext h.bel.size hf.size hF, fun j hj => by rw [up_no (by omega)]; exact h.z j hj, kA h.a hf (fun x hx e => h.d.d 0 2 (by decide) x hx e) (fun x hx e => h.d.d 1 2 (by decide) x hx e), h1, e1, h.dz, h.kin, e2, h.ok⟩
theorem Av.a1 (h : Av W w SA SB f vs c vk xs) (kB : KeepS SB) (h1 : SA' w' (f 0) R') (hf : Fr G w w') (hG : ∀ x ∈ G, x ∈ f 1) (hR : ∀ x ∈ R', W.heap.size ≤ x ∧ x < w'.heap.size ∧ x ∉ oth f 1) : Av W w' SA' SB (up f 1 R') vs c vk xs := by
  obtain ⟨e1, e2⟩ := h.lists hf fun x hx => h.d.d 1 4 (by decide) x (hG x hx)
  exact ⟨h.belF hf fun x hx => ⟨1, hG x hx⟩, h.d.put h.z hf.size hR, fun j hj => by rw [up_no (by omega)]; exact h.z j hj, h1, kB h.b hf (fun x hx e => h.d.d 2 1 (by decide) x hx (hG x e)) (fun x hx e => h.d.d 3 1 (by decide) x hx (hG x e)), e1, h.dz, h.kin, e2, h.ok⟩
theorem Av.b1 (h : Av W w SA SB f vs c vk xs) (kA : KeepS SA) (h1 : SB' w' (f 2) R') (hf : Fr G w w') (hG : ∀ x ∈ G, x ∈ f 3) (hR : ∀ x ∈ R', W.heap.size ≤ x ∧ x < w'.heap.size ∧ x ∉ oth f 3) : Av W w' SA SB' (up f 3 R') vs c vk xs := by
  obtain ⟨e1, e2⟩ := h.lists hf fun x hx => h.d.d 3 4 (by decide) x (hG x hx)
  exact ⟨h.belF hf fun x hx => ⟨3, hG x hx⟩, h.d.put h.z hf.size hR, fun j hj => by rw [up_no (by omega)]; exact h.z j hj, kA h.a hf (fun x hx e => h.d.d 0 3 (by decide) x hx (hG x e)) (fun x hx e => h.d.d 1 3 (by decide) x hx (hG x e)), h1, e1, h.dz, h.kin, e2, h.ok⟩
theorem Av.below (h : Av W w SA SB f vs c vk xs) (kA : KeepS SA) (kB : KeepS SB) (hb : Below w.heap.size w w') : Av W w' SA SB f vs c vk xs := by
  obtain ⟨e1, e2⟩ := h.lists (G := []) (Fr.of_below hb) (by simp)
  exact ⟨h.bel.trans (hb.mono h.bel.size), h.d.grow hb.size, h.z, kA h.a (G := []) (Fr.of_below hb) (by simp) (by simp), kB h.b (G := []) (Fr.of_below hb) (by simp) (by simp), e1, h.dz, h.kin, e2, h.ok⟩
theorem bls_snoc (vs : List Value) (v : Value) : bls (vs ++ [v]) = bls vs ++ v.ownBlock.toList := by
  unfold bls
  rw [List.filterMap_append]
  congr 1
/-- a list more was told -/
theorem Av.tell {l : List Nat} {B : Nat} (h : Av W w SA SB f vs c vk xs) (ho : w.ownsRow B 33 1 v l.length (l.map U)) (hn : ∀ b, v.ownBlock = some b → W.heap.size ≤ b ∧ ∀ j, b ∉ f j) : Av W w SA SB (up f 4 (v.ownBlock.toList ++ f 4)) (vs ++ [v]) (fun j => if j = vs.length then l.map U else c j) vk xs := by
  have hlt : ∀ b, v.ownBlock = some b → b < w.heap.size := fun b e => (World.ownsRow.lt ho b e).2
  refine ⟨h.bel, ⟨fun a b hab x hx => ?_, fun a x hx => ?_⟩, fun j hj => by rw [up_no (by omega)]; exact h.z j hj, h.a, h.b, fun j u hu => ?_, fun a b u u' g hu hu' e e' => ?_, fun x hx => ?_, h.ow, fun b e => ?_⟩
  · by_cases ea : a = 4
    · subst ea
      rw [up_at] at hx
      rw [up_no (fun e => hab e.symm)]
      rcases List.mem_append.1 hx with e | e
      · exact (hn x (by simpa using e)).2 b
      · exact h.d.d 4 b hab x e
    · rw [up_no ea] at hx
      by_cases eb : b = 4
      · subst eb
        rw [up_at]
        intro e
        rcases List.mem_append.1 e with e | e
        · exact (hn x (by simpa using e)).2 a hx
        · exact h.d.d a 4 hab x hx e
      · rw [up_no eb]
        exact h.d.d a b hab x hx
  · by_cases ea : a = 4
    · subst ea
      rw [up_at] at hx
      rcases List.mem_append.1 hx with e | e
      · exact ⟨(hn x (by simpa using e)).1, hlt x (by simpa using e)⟩
      · exact h.d.b 4 x e
    · rw [up_no ea] at hx
      exact h.d.b a x hx
  · by_cases ej : j = vs.length
    · subst ej
      rw [List.getElem?_concat_length] at hu
      cases hu
      show w.ownsRow W.heap.size 33 1 v (if vs.length = vs.length then l.map U else c vs.length).length (if vs.length = vs.length then l.map U else c vs.length)
      rw [if_pos rfl, List.length_map]
      obtain ⟨q1, q2⟩ := ho
      refine ⟨q1, q2.imp id ?_⟩
      rintro ⟨b, cap, cur, rfl, r2, r3⟩
      exact ⟨b, cap, cur, rfl, (hn b rfl).1, r3⟩
    · have hj : j < vs.length := by
        have := (List.getElem?_eq_some_iff.1 hu).1
        simp at this
        omega
      simp only [if_neg ej]
      rw [List.getElem?_append_left hj] at hu
      exact h.ez j u hu
  · have key : ∀ {a : Nat} {u : Value}, (vs ++ [v])[a]? = some u → u.ownBlock = some g → (a < vs.length ∧ vs[a]? = some u) ∨ (a = vs.length ∧ v.ownBlock = some g) := fun {a u} hu e => by
      by_cases ej : a = vs.length
      · subst ej
        rw [List.getElem?_concat_length] at hu
        cases hu
        exact Or.inr ⟨rfl, e⟩
      · have hj : a < vs.length := by
          have := (List.getElem?_eq_some_iff.1 hu).1
          simp at this
          omega
        rw [List.getElem?_append_left hj] at hu
        exact Or.inl ⟨hj, hu⟩
    rcases key hu e with ⟨a1, a2⟩ | ⟨a1, a2⟩
    · rcases key hu' e' with ⟨b1, b2⟩ | ⟨b1, b2⟩
      · exact h.dz a b u u' g a2 b2 e e'
      · exact absurd (h.kin g (bls_mem a2 e)) ((hn g b2).2 4)
    · rcases key hu' e' with ⟨b1, b2⟩ | ⟨b1, b2⟩
      · exact absurd (h.kin g (bls_mem b2 e')) ((hn g a2).2 4)
      · omega
  · rw [bls_snoc] at hx
    rw [up_at, List.mem_append]
    rcases List.mem_append.1 hx with e | e
    · exact Or.inr (h.kin x e)
    · exact Or.inl e
  · obtain ⟨q1, q2⟩ := h.ok b e
    refine ⟨by rw [up_at, List.mem_append]; exact Or.inr q1, ?_⟩
    rw [bls_snoc, List.mem_append]
    rintro (q | q)
    · exact q2 q
    · exact (hn b (by simpa using q)).2 4 q1
/-- lists are put into the row of those that are kept -/
theorem Av.kapp {C : Array Value} (h : Av W w SA SB f vs c vk xs) (kA : KeepS SA) (kB : KeepS SB) (hG : Gone (w.alloc (.cells C 22)) vk w4 vk') (ho : w4.ownsRow W.heap.size 22 1 vk' (xs ++ news).length (xs ++ news)) : Av W w4 SA SB (up f 4 (vk'.ownBlock.toList ++ f 4)) vs c vk' (xs ++ news) := by
  have h1 := h.below kA kB ((Below.refl _ w).alloc (Nat.le_refl _) (.cells C 22))
  obtain ⟨g1, g2⟩ := hG
  have hf : Fr vk.ownBlock.toList (w.alloc (.cells C 22)) w4 := ⟨g1.os, g1.tape, g1.output, g1.size, fun x hx hn => g1.block x hx fun e => hn (by simp [← e])⟩
  have hin : ∀ x ∈ vk.ownBlock.toList, x ∈ f 4 := fun x hx => (h.ok x (by simpa using hx)).1
  have hx : ∀ x ∈ vk'.ownBlock.toList ++ f 4, x < w4.heap.size ∧ (x ∈ f 4 ∨ (w.alloc (.cells C 22)).heap.size ≤ x) := fun x hx => by
    rcases List.mem_append.1 hx with e | e
    · have e : vk'.ownBlock = some x := by simpa using e
      refine ⟨(World.ownsRow.lt ho x e).2, ?_⟩
      rcases g2 with ⟨g, e1, e2⟩ | ⟨_, e2⟩
      · rw [e] at e2
        cases e2
        exact Or.inl (h.ok x e1).1
      · exact Or.inr (e2 x e)
    · exact ⟨Nat.lt_of_lt_of_le (h1.d.b 4 x e).2 g1.size, Or.inl e⟩
  refine ⟨h1.belF hf fun x hx => ⟨4, hin x hx⟩, h1.d.ext h1.bel.size g1.size hx, fun j hj => by rw [up_no (by omega)]; exact h.z j hj, kA h1.a hf (fun x hx e => h.d.d 0 4 (by decide) x hx (hin x e)) (fun x hx e => h.d.d 1 4 (by decide) x hx (hin x e)), kB h1.b hf (fun x hx e => h.d.d 2 4 (by decide) x hx (hin x e)) (fun x hx e => h.d.d 3 4 (by decide) x hx (hin x e)), h1.ez.same fun x hx => hf.block x (h1.ez.lt x hx) fun e => (h.ok x (by simpa using e)).2 hx, h.dz, fun x hx => by rw [up_at, List.mem_append]; exact Or.inr (h.kin x hx), ho, fun b e => ⟨by rw [up_at, List.mem_append]; exact Or.inl (by simpa using e), fun q => ?_⟩⟩
  rcases g2 with ⟨g, e1, e2⟩ | ⟨_, e2⟩
  · rw [e] at e2
    cases e2
    exact (h.ok b e1).2 q
  · have q1 := e2 b e
    have q2 := h1.ez.lt b q
    omega
/-- lists were written over -/
theorem Av.over (h : Av W w SA SB f vs c vk xs) (kA : KeepS SA) (kB : KeepS SB) (hf : Fr G w w') (hG : ∀ x ∈ G, x ∈ bls vs) (hz : Ez w' W.heap.size vs c') : Av W w' SA SB f vs c' vk xs := by
  have hin : ∀ x ∈ G, x ∈ f 4 := fun x hx => h.kin x (hG x hx)
  exact ⟨h.belF hf fun x hx => ⟨4, hin x hx⟩, h.d.grow hf.size, h.z, kA h.a hf (fun x hx e => h.d.d 0 4 (by decide) x hx (hin x e)) (fun x hx e => h.d.d 1 4 (by decide) x hx (hin x e)), kB h.b hf (fun x hx e => h.d.d 2 4 (by decide) x hx (hin x e)) (fun x hx e => h.d.d 3 4 (by decide) x hx (hin x e)), hz, h.dz, h.kin, own_blk22 h.ow fun b e => hf.block b (h.d.b 4 b (h.ok b e).1).2 fun q => (h.ok b e).2 (hG b q), h.ok⟩
end
end Go.Proofs.YtjcbpejplnaakaaGreat.Mr

namespace Go.Proofs.YtjcbpejplnaakaaGreat.Mr
open Go.RowKit Go.Maps Go.Proofs.YtjcbpejplnaakaaGreat.Nm Go.Proofs.YtjcbpejplnaakaaGreat.Md

section
variable {W w w' : World} {SA SB : World → List Nat → List Nat → Prop} {f : Nat → List Nat} {vs xs : List Value} {c : Nat → List Value} {vk v : Value} {F' R' : List Nat} {i j : Nat}
variable {T fa fk kd n g gr mr : Nat} {σ : Type} {s0 s s' s2 : σ} {key : σ → List Nat} {Sp : σ → Nat → Bool → σ → List Nat → Prop} {P : World → Nat → List Nat → σ → Prop} {inv : σ → Prop} {rel : σ → St → Prop} {t t' : St} {out l : List Nat}
/-- one list more, at the end -/
def cons5 (m : Nat) (l : List Nat) (c : Nat → List Value) : Nat → List Value := fun j => if j = m then l.map U else c j
theorem Av.accA (K : Kz T fa fk kd n σ s0 key Sp P inv rel) (kB : KeepS SB) (h : Av W w (Sd P rel g gr mr kd n s s' t i) SB f vs c vk xs) (h1 : P w' g F' s2) (h2 : Fr (f 0) w w') (h3 : ∀ x ∈ F', x ∈ f 0 ∨ w.heap.size ≤ x) (h4 : Tz w w' F' v out) : ∃ f', Av W w' (Sd P rel g gr mr kd n s2 s' t i) SB f' (vs ++ [v]) (cons5 vs.length out c) vk xs := by
  have q := h.a0 (SA' := Sd P rel g gr mr kd n s2 s' t i) kB ⟨h1, h.a.r.keep h2 fun x hx e => h.d.d 1 0 (by decide) x hx e, h.a.rl, h.a.cn⟩ h2 fun x hx => ⟨K.lt h1 x hx, h3 x hx⟩
  refine ⟨_, q.tell h4.2.1 fun b e => ?_⟩
  have hb := (World.ownsRow.lt h4.2.1 b e).1
  have hW := h.bel.size
  refine ⟨by omega, fun a hx => ?_⟩
  by_cases ea : a = 0
  · subst ea
    rw [up_at] at hx
    exact h4.2.2 b e hx
  · rw [up_no ea] at hx
    have := (h.d.b a b hx).2
    omega
theorem Av.accB (K : Kz T fa fk kd n σ s0 key Sp P inv rel) (kA : KeepS SA) (h : Av W w SA (Sd P rel g gr mr kd n s s' t i) f vs c vk xs) (h1 : P w' g F' s2) (h2 : Fr (f 2) w w') (h3 : ∀ x ∈ F', x ∈ f 2 ∨ w.heap.size ≤ x) (h4 : Tz w w' F' v out) : ∃ f', Av W w' SA (Sd P rel g gr mr kd n s2 s' t i) f' (vs ++ [v]) (cons5 vs.length out c) vk xs := by
  have q := h.b0 (SB' := Sd P rel g gr mr kd n s2 s' t i) kA ⟨h1, h.b.r.keep h2 fun x hx e => h.d.d 3 2 (by decide) x hx e, h.b.rl, h.b.cn⟩ h2 fun x hx => ⟨K.lt h1 x hx, h3 x hx⟩
  refine ⟨_, q.tell h4.2.1 fun b e => ?_⟩
  have hb := (World.ownsRow.lt h4.2.1 b e).1
  have hW := h.bel.size
  refine ⟨by omega, fun a hx => ?_⟩
  by_cases ea : a = 2
  · subst ea
    rw [up_at] at hx
    exact h4.2.2 b e hx
  · rw [up_no ea] at hx
    have := (h.d.b a b hx).2
    omega
/-- blocks that a reference's new rows avoid -/
def avo (W : World) (f : Nat → List Nat) (p : Nat) : List Nat := oth f p ++ List.range W.heap.size
theorem avo_lt (h : Av W w SA SB f vs c vk xs) (p : Nat) : ∀ x ∈ avo W f p, x < w.heap.size := fun x hx => by
  rcases List.mem_append.1 hx with e | e
  · obtain ⟨a, _, ha⟩ := oth_mem e
    exact (h.d.b a x ha).2
  · have := List.mem_range.1 e
    have := h.bel.size
    omega
theorem avo_no (h : Av W w SA SB f vs c vk xs) (p : Nat) : ∀ x ∈ f p, x ∉ avo W f p := fun x hx hx2 => by
  rcases List.mem_append.1 hx2 with e | e
  · obtain ⟨a, ha, hx3⟩ := oth_mem e
    exact h.d.d p a (fun e => ha e.symm) x hx hx3
  · have := List.mem_range.1 e
    have := (h.d.b p x hx).1
    omega
theorem avo_of (p : Nat) (hl : ∀ x ∈ R', x < w'.heap.size) (h : ∀ x ∈ R', x ∉ avo W f p) : ∀ x ∈ R', W.heap.size ≤ x ∧ x < w'.heap.size ∧ x ∉ oth f p := fun x hx => by
  have n1 := h x hx
  unfold avo at n1
  rw [List.mem_append, not_or, List.mem_range] at n1
  exact ⟨by omega, hl x hx, n1.1⟩
theorem Av.refA (K : Kz T fa fk kd n σ s0 key Sp P inv rel) (kB : KeepS SB) (h : Av W w (Sd P rel g gr mr kd n s s' t i) SB f vs c vk xs) (h1 : Rp w' gr mr kd n R' t') (h2 : ∀ x ∈ R', x ∉ avo W f 1) (h3 : rel s2 t') (h4 : t'.n ≤ j) (h5 : Fr [gr, mr] w w') : ∃ f', Av W w' (Sd P rel g gr mr kd n s s2 t' j) SB f' vs c vk xs := by
  obtain ⟨m1, m2⟩ := h.a.r.mem
  have hG : ∀ x ∈ [gr, mr], x ∈ f 1 := fun x hx => by
    simp only [List.mem_cons, List.not_mem_nil, or_false] at hx
    rcases hx with rfl | rfl
    · exact m1
    · exact m2
  exact ⟨_, h.a1 kB ⟨K.keep h.a.p h5 fun x hx e => h.d.d 0 1 (by decide) x hx (hG x e), h1, h3, h4⟩ h5 hG (avo_of 1 h1.lt h2)⟩
theorem Av.refB (K : Kz T fa fk kd n σ s0 key Sp P inv rel) (kA : KeepS SA) (h : Av W w SA (Sd P rel g gr mr kd n s s' t i) f vs c vk xs) (h1 : Rp w' gr mr kd n R' t') (h2 : ∀ x ∈ R', x ∉ avo W f 3) (h3 : rel s2 t') (h4 : t'.n ≤ j) (h5 : Fr [gr, mr] w w') : ∃ f', Av W w' SA (Sd P rel g gr mr kd n s s2 t' j) f' vs c vk xs := by
  obtain ⟨m1, m2⟩ := h.b.r.mem
  have hG : ∀ x ∈ [gr, mr], x ∈ f 3 := fun x hx => by
    simp only [List.mem_cons, List.not_mem_nil, or_false] at hx
    rcases hx with rfl | rfl
    · exact m1
    · exact m2
  exact ⟨_, h.b1 kA ⟨K.keep h.b.p h5 fun x hx e => h.d.d 2 3 (by decide) x hx (hG x e), h1, h3, h4⟩ h5 hG (avo_of 3 h1.lt h2)⟩
/-- Keys were told -/
theorem Av.told (kA : KeepS SA) (kB : KeepS SB) (h : Av W w SA SB f vs c vk xs) (hb : Below w.heap.size w w') (ho : w'.ownsRow w.heap.size 33 1 v l.length (l.map U)) : ∃ f', Av W w' SA SB f' (vs ++ [v]) (cons5 vs.length l c) vk xs := by
  refine ⟨_, (h.below kA kB hb).tell ho fun b e => ?_⟩
  have h1 := (World.ownsRow.lt ho b e).1
  have hW := h.bel.size
  exact ⟨by omega, fun a hx => by have := (h.d.b a b hx).2; omega⟩
def f4 (A B C D : List Nat) : Nat → List Nat := fun j => if j = 0 then A else if j = 1 then B else if j = 2 then C else if j = 3 then D else []
theorem Av.start {FA RA FB RB : List Nat} (hb : Below W.heap.size W w) (ha : SA w FA RA) (hbb : SB w FB RB) (b0 : ∀ x ∈ FA, W.heap.size ≤ x ∧ x < w.heap.size) (b1 : ∀ x ∈ RA, W.heap.size ≤ x ∧ x < w.heap.size ∧ x ∉ FA ∧ x ∉ FB) (b2 : ∀ x ∈ FB, W.heap.size ≤ x ∧ x < w.heap.size ∧ x ∉ FA) (b3 : ∀ x ∈ RB, W.heap.size ≤ x ∧ x < w.heap.size ∧ x ∉ FA ∧ x ∉ FB ∧ x ∉ RA) : Av W w SA SB (f4 FA RA FB RB) [] (fun _ => []) (.slice none 0 0) [] := by
  have key : ∀ a b : Nat, a < b → ∀ x ∈ f4 FA RA FB RB a, x ∉ f4 FA RA FB RB b := fun a b hab x hx hx2 => by
    have hb4 : b < 4 := by
      by_cases e : b < 4
      · exact e
      · simp only [f4, show b ≠ 0 by omega, show b ≠ 1 by omega, show b ≠ 2 by omega, show b ≠ 3 by omega, if_false] at hx2
        simp at hx2
    obtain rfl | rfl | rfl : b = 1 ∨ b = 2 ∨ b = 3 := by omega
    · obtain rfl : a = 0 := by omega
      exact (b1 x hx2).2.2.1 hx
    · obtain rfl | rfl : a = 0 ∨ a = 1 := by omega
      · exact (b2 x hx2).2.2 hx
      · exact (b1 x hx).2.2.2 hx2
    · obtain rfl | rfl | rfl : a = 0 ∨ a = 1 ∨ a = 2 := by omega
      · exact (b3 x hx2).2.2.1 hx
      · exact (b3 x hx2).2.2.2.2 hx
      · exact (b3 x hx2).2.2.2.1 hx
  refine ⟨hb, ⟨fun a b hab x hx hx2 => ?_, fun a x hx => ?_⟩, fun j hj => ?_, ha, hbb, fun j v hv => by simp at hv, fun a b u u' g hu => by simp at hu, fun x hx => by simp [bls] at hx, World.ownsRow_nil _ _ _ _, fun b e => by cases e⟩
  · rcases Nat.lt_or_ge a b with e | e
    · exact key a b e x hx hx2
    · exact key b a (by omega) x hx2 hx
  · have ha4 : a < 4 := by
      by_cases e : a < 4
      · exact e
      · simp only [f4, show a ≠ 0 by omega, show a ≠ 1 by omega, show a ≠ 2 by omega, show a ≠ 3 by omega, if_false] at hx
        simp at hx
    obtain rfl | rfl | rfl | rfl : a = 0 ∨ a = 1 ∨ a = 2 ∨ a = 3 := by omega
    · exact b0 x hx
    · exact ⟨(b1 x hx).1, (b1 x hx).2.1⟩
    · exact ⟨(b2 x hx).1, (b2 x hx).2.1⟩
    · exact ⟨(b3 x hx).1, (b3 x hx).2.1⟩
  · simp only [f4, show j ≠ 0 by omega, show j ≠ 1 by omega, show j ≠ 2 by omega, show j ≠ 3 by omega, if_false]
end
end Go.Proofs.YtjcbpejplnaakaaGreat.Mr
