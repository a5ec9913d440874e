import Derived.Test.YtjcbpejplnaakaaGreatMbOps
namespace Go.Proofs.YtjcbpejplnaakaaGreat.Mb
open Go.RowKit Go.Maps Go.Proofs.YtjcbpejplnaakaaGreat.Nm Go.Proofs.YtjcbpejplnaakaaGreat.Md

theorem info124 : (Tryz.prog.info? 124).map (fun i => (i.zero, i.size, i.bytes)) = some (some (.agg #[.int .u64 0, .bool false, .int .i64 0, .int .i64 0]), 4, 32) := by kernel_rfl
section
variable {w w' w0 : World} {g o : Nat} {F : List Nat} {L : Lo} {c : Rs} {hd : Nat → Bool} {m : Nat → Option Int} {k n : Nat} {ns fr : List Nat}
/-- the nodes' cells -/
theorem Mem.own (h : Mem w g o L c hd m k) : ∃ xs, w.ownsRow 0 124 4 (.slice (some ⟨L.nb, 0, none⟩) c.n L.cap) c.n xs ∧ ∀ j, j < c.n → xs[j * 4]? = some (U (c.key j)) ∧ xs[j * 4 + 1]? = some (Value.bool (hd j)) ∧ xs[j * 4 + 2]? = some (I (c.ah j)) ∧ xs[j * 4 + 3]? = some (I (c.be j)) := by
  obtain ⟨cs, h1, h2, h3⟩ := h.nds
  have hc := h.cap
  refine ⟨cs.toList.take (c.n * 4), own_mk (cur := cs.toList) ?_ (Nat.zero_le _) (by simpa using h1) hc h.capm (by simpa using h2) rfl, fun j hj => ?_⟩
  · rw [List.length_take, Array.length_toList, h2]
    omega
  · obtain ⟨q1, qh, q2, q3⟩ := h3 j hj
    refine ⟨?_, ?_, ?_, ?_⟩
    · rw [List.getElem?_take_of_lt (by omega), Array.getElem?_toList]; exact q1
    · rw [List.getElem?_take_of_lt (by omega), Array.getElem?_toList]; exact qh
    · rw [List.getElem?_take_of_lt (by omega), Array.getElem?_toList]; exact q2
    · rw [List.getElem?_take_of_lt (by omega), Array.getElem?_toList]; exact q3
theorem Mf.grown {v' : Value} {xs : List Value} (h : Mf w0 w g o F L c hd m k) (hl : xs.length = c.n * 4) (hx : ∀ j, j < c.n → xs[j * 4]? = some (U (c.key j)) ∧ xs[j * 4 + 1]? = some (Value.bool (hd j)) ∧ xs[j * 4 + 2]? = some (I (c.ah j)) ∧ xs[j * 4 + 3]? = some (I (c.be j)))
    (ho : w'.ownsRow 0 124 4 v' (c.n + 1) (xs ++ [U 0, .bool false, I 0, I 0])) (hg : Gone w (.slice (some ⟨L.nb, 0, none⟩) c.n L.cap) w' v') :
    ∃ L', v' = .slice (some ⟨L'.nb, 0, none⟩) (c.n + 1) L'.cap ∧ (∃ u, w'.cell? ⟨g, o, none⟩ = some u) ∧ w'.frozen? ⟨g, o, none⟩ = false ∧ Mf w0 (w'.setCell ⟨g, o, none⟩ v') g o F L' c.put (upH hd c.n false) m k := by
  obtain ⟨b, cap, cur, rfl, _, hb, hc1, hc2, hc3, hc4⟩ := own_block ho (by omega)
  obtain ⟨gb, hg2⟩ := hg
  rw [ownB] at gb
  rw [ownB, ownB] at hg2
  have hblk : ∀ x, x < w.heap.size → x ≠ L.nb → w'.heap[x]? = w.heap[x]? := fun x hx hn => gb.block x hx (by simpa using hn)
  obtain ⟨cs, T, q1, q2, q3, q4⟩ := h.mem.row
  have hgl : g < w.heap.size := blk_lt q1
  have hg1 : w'.heap[g]? = some (.cells cs T (0, 0)) := (hblk g hgl h.mem.ne).trans q1
  have hm1 : w'.heap[L.mb]? = w.heap[L.mb]? := hblk L.mb h.mem.book.lt (fun e => h.mem.nm e.symm)
  have hbb : b = L.nb ∨ w.heap.size ≤ b := by
    rcases hg2 with ⟨x, e1, e2⟩ | ⟨_, e2⟩
    · left
      simp only [Option.some.injEq] at e1 e2
      rw [e1, e2]
    · right
      exact e2 b rfl
  have hgb : g ≠ b := by
    rcases hbb with e | e
    · rw [e]; exact h.mem.ne
    · omega
  refine ⟨⟨b, cap, L.mb⟩, rfl, ⟨.slice (some ⟨L.nb, 0, none⟩) c.n L.cap, by simp [World.cell?, hg1, q2]⟩, by simp [World.frozen?, hg1], ⟨⟨_, T, set_blk hg1, ?_, ?_, ?_⟩, ⟨cur.toArray, by rw [set_other (Ne.symm hgb)]; exact hb, by simpa using hc3, fun j hj => ?_⟩, ?_, hgb, hc1, hc2⟩, ?_, ?_, ?_⟩
  · rw [set_get q2, if_pos rfl]
    rfl
  · rw [set_get q3, if_neg (by omega)]
  · rw [set_get q4, if_neg (by omega)]
    rfl
  · have hat : ∀ i, i < (c.n + 1) * 4 → cur.toArray[i]? = (xs ++ [U 0, .bool false, I 0, I 0])[i]? := fun i hi => by
      rw [← hc4, List.getElem?_take_of_lt hi, List.getElem?_toArray]
    have hj' : j < c.n + 1 := hj
    rw [hat _ (by omega), hat _ (by omega), hat _ (by omega), hat _ (by omega)]
    by_cases e : j < c.n
    · obtain ⟨p1, ph, p2, p3⟩ := hx j e
      rw [List.getElem?_append_left (by omega), List.getElem?_append_left (by omega), List.getElem?_append_left (by omega), List.getElem?_append_left (by omega), p1, ph, p2, p3]
      simp only [Rs.put, up_ne (Nat.ne_of_lt e), upH_ne (Nat.ne_of_lt e)]
      exact ⟨trivial, trivial, trivial, trivial⟩
    · have e2 : j = c.n := by omega
      subst e2
      rw [List.getElem?_append_right (by omega), List.getElem?_append_right (by omega), List.getElem?_append_right (by omega), List.getElem?_append_right (by omega), hl]
      simp [Rs.put, up_same, upH_same]
  · exact h.mem.book.same ((set_other h.mem.gm.symm).trans hm1)
  · refine ⟨gb.os.trans h.fr.os, gb.tape.trans h.fr.tape, gb.output.trans h.fr.output, ?_, fun x hx hF => ?_⟩
    · have := h.fr.size
      have := gb.size
      simp only [World.setCell, Array.size_modify]
      omega
    · have hs := h.fr.size
      have hn1 : x ≠ g := by
        rintro rfl
        rcases h.inF x (by simp [foot]) with e | e
        · exact hF e
        · omega
      have hn2 : x ≠ L.nb := by
        rintro rfl
        rcases h.inF L.nb (by simp [foot]) with e | e
        · exact hF e
        · omega
      rw [set_other hn1, hblk x (by omega) hn2]
      exact h.fr.block x hx hF
  · intro j hj
    rw [set_cell_ne (by omega), cell_blk ((hblk g hgl h.mem.ne)) j]
    exact h.rest j hj
  · intro x hx
    simp only [foot, List.mem_cons, List.not_mem_nil, or_false] at hx
    have hs := h.fr.size
    rcases hx with rfl | rfl | rfl
    · exact h.inF _ (by simp [foot])
    · rcases hbb with e | e
      · rw [e]; exact h.inF _ (by simp [foot])
      · right; omega
    · exact h.inF _ (by simp [foot])

set_option maxHeartbeats 800000 in
set_option maxRecDepth 100000 in
theorem fresh_any (h : Mf w0 w g o F L c hd m k) (hi : Inv c ns fr []) (hk : ns.length ≤ 1000000000) : Calls Tryz.prog 87 #[.pointer (some ⟨g, o, none⟩)] w fun e w' => ∃ x L' c' hd' fr', e = .returned (I ((x : Nat) : Int)) ∧ Mf w0 w' g o F L' c' hd' m k ∧ Inv c' ns fr' [x] ∧ ns.map c'.key = ns.map c.key ∧ ∀ i ∈ ns, hd' i = hd i := by
  by_cases h0 : c.freed = 0
  · have hfr := hi.freed0.1 h0
    subst hfr
    obtain ⟨a0, _, a2, af⟩ := h.mem.cellsR
    rw [h0] at a2
    have H : Hid (Mf w0 (w.alloc (.cells #[.int .u64 0, .bool false, .int .i64 0, .int .i64 0] 124)) g o F L c hd m k) := h.below ((Below.refl _ w).alloc (Nat.le_refl _) _)
    obtain ⟨xs, ho, hx⟩ := H.out.mem.own
    have HO : Hid ((w.alloc (.cells #[.int .u64 0, .bool false, .int .i64 0, .int .i64 0] 124)).ownsRow 0 124 4 (.slice (some ⟨L.nb, 0, none⟩) c.n L.cap) c.n xs ∧ ∀ j, j < c.n → xs[j * 4]? = some (U (c.key j)) ∧ xs[j * 4 + 1]? = some (Value.bool (hd j)) ∧ xs[j * 4 + 2]? = some (I (c.ah j)) ∧ xs[j * 4 + 3]? = some (I (c.be j))) := ⟨ho, hx⟩
    have HI : Hid (Inv c ns [] []) := hi
    have HK : Hid (c.n ≤ 1099511627776) := by have := hi.cnt; simp only [List.append_nil] at this; show _ ≤ _; omega
    obtain ⟨j0, hj, hj0, hj1, hj2⟩ := info_parts info124
    clear h ho hx hi hk
    go_enter Tryz.func87, Tryz.ntmps87
    go_wp2_with (at_builtin; refine append_gone _ rfl _ _ 74 rfl 0 124 j0 (.agg #[.int .u64 0, .bool false, .int .i64 0, .int .i64 0]) 4 32 Tryz.underlying74 hj hj0 hj1 hj2 rfl (by decide) (.slice (some ⟨L.nb, 0, none⟩) c.n L.cap) c.n xs rfl HO.out.1 ⟨w.heap.size, 0, none⟩ 1 1 [.int .u64 0, .bool false, .int .i64 0, .int .i64 0] rfl rfl ?c1 ?c2 ?c3 ?c4 ?c5 ?c6 ?_)
    case c1 => exact cells_new w 124 [.int .u64 0, .bool false, .int .i64 0, .int .i64 0]
    case c2 => simp [Value.oneCell']
    case c3 => have := HK.out; unfold maxLen; omega
    case c4 => have := HK.out; omega
    case c5 => exact Nat.zero_le _
    case c6 => decide
    intro v4 w4 ho hG
    obtain ⟨L', rfl, ⟨u, x0⟩, x1, hm⟩ := H.out.grown HO.out.1.1 HO.out.2 ho hG
    have HM : Hid (Mf w0 (w4.setCell ⟨g, o, none⟩ (.slice (some ⟨L'.nb, 0, none⟩) (c.n + 1) L'.cap)) g o F L' c.put (upH hd c.n false) m k) := hm
    clear hm ho hG a0 a2 af
    go_upto_region 3 with fail
    generalize w4.setCell ⟨g, o, none⟩ (.slice (some ⟨L'.nb, 0, none⟩) (c.n + 1) L'.cap) = w5 at *
    clear x0 x1
    obtain ⟨a0, _⟩ := HM.out.mem.cellsR
    have a0' : w5.cell? ⟨g, o, none⟩ = some (.slice (some ⟨L'.nb, 0, none⟩) (c.n + 1) L'.cap) := a0
    clear a0
    have hk1 : (0 : Int) ≤ (c.n : Int) := by omega
    have hk2 : (c.n : Int) ≤ 1099511627776 := by have := HK.out; omega
    go_wp2
    go_ret
    have hi := HI.out
    refine ⟨c.n, L', c.put, upH hd c.n false, [], by go_num, HM.out, hi.put rfl, List.map_congr_left fun i hi2 => up_ne (Nat.ne_of_lt (hi.lt i (by simp [hi2]))), fun i hi2 => upH_ne (Nat.ne_of_lt (hi.lt i (by simp [hi2])))⟩
  · obtain ⟨l, rfl, hi2⟩ := hi.take h0
    have hf : c.freed < c.n := hi.lt _ (by simp)
    have hf' : ((c.freed : Nat) : Int) < (c.n : Int) := by omega
    have hz : ((c.freed : Nat) : Int) ≠ 0 := by omega
    obtain ⟨a0, _, a2, af⟩ := h.mem.cellsR
    obtain ⟨_, sh, n1, _, _⟩ := h.mem.cellsN hf
    have H : Hid (Mf w0 w g o F L c hd m k) := h
    have HI : Hid (Inv c.take ns l [c.freed]) := hi2
    clear h hi hi2 hk
    go_enter Tryz.func87, Tryz.ntmps87
    go_wp2
    go_ret
    exact ⟨c.freed, L, c.take, hd, l, rfl, H.out.putFreed (c.ah c.freed), HI.out, rfl, fun _ _ => rfl⟩
end
end Go.Proofs.YtjcbpejplnaakaaGreat.Mb
