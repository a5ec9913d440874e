import Derived.Test.YtoeioppmlnognaaArLink
namespace Go.Proofs.Ytoeioppmlnognaa.Ar
open Go.RowKit

theorem info96 : (Try.prog.info? 96).map (fun i => (i.zero, i.size, i.bytes)) = some (some (.agg #[.int .i64 0, .int .i64 0, .int .i64 0, .int .i64 0]), 4, 32) := by kernel_rfl
theorem info93 : (Try.prog.info? 93).map (fun i => (i.zero, i.size, i.bytes)) = some (some (.slice none 0 0), 1, 24) := by kernel_rfl
theorem mk_slot (m j : Nat) (h : j < m) : (madeCells (Value.agg #[.int .i64 0, .int .i64 0, .int .i64 0, .int .i64 0]).cells m)[j]? = some (I 0) := by
  have e1 : (Value.agg #[.int .i64 0, .int .i64 0, .int .i64 0, .int .i64 0]).cells = #[.int .i64 0, .int .i64 0, .int .i64 0, .int .i64 0] := rfl
  rw [e1]
  simp only [madeCells]
  simp [h]
  have hm : j % 4 < 4 := by omega
  generalize j % 4 = k at hm
  match k, hm with
  | 0, _ => rfl
  | 1, _ => rfl
  | 2, _ => rfl
  | 3, _ => rfl
/-- make([]slot, n) -/
theorem mk_slots (n : Nat) (hn : n ≤ 4194304) : ∃ M : Array Value, (∀ u : World, (Instr.makeSlice 93 (.int .i64 (n : Int)) (.int .i64 (n : Int))).run Try.prog u = .ok (.slice (some ⟨u.heap.size, 0, none⟩) n n) (u.alloc (.cells M 96))) ∧ ∀ j, j < n * 4 → M[j]? = some (I 0) := by
  obtain ⟨i0, hi, hz0, hz1, hz2⟩ := info_parts info96
  refine ⟨madeCells (Value.agg #[.int .i64 0, .int .i64 0, .int .i64 0, .int .i64 0]).cells (n * 4), fun u => ?_, fun j hj => mk_slot _ _ hj⟩
  have h := run_make (P := Try.prog) u 93 96 i0 (.agg #[.int .i64 0, .int .i64 0, .int .i64 0, .int .i64 0]) Try.underlying93 hi hz0 .i64 .i64 (n : Int) (n : Int) (by omega) (Int.le_refl _) (by rw [hz2]; omega) (by omega)
  have e : (n : Int).toNat = n := by omega
  rw [e, hz1] at h
  exact h

/-- what fresh leaves -/
def Fresh (w : World) (g : Nat) (o : Lo) (c : Cs) (size nl used free : Nat) (freed : Int) (w' : World) : Prop :=
  ∃ o' c', Mem w' g o' c' size nl (used + 1) free freed ∧ Fr (o.foot g nl) w w' ∧ (∀ k ∈ o'.foot g nl, k ∈ o.foot g nl ∨ w.heap.size ≤ k) ∧ c'.la = c.la ∧ c'.ct = c.ct ∧ ∀ x, x < used → (∀ e, c'.bs x e = c.bs x e) ∧ c'.li x = c.li x ∧ c'.vl x = c.vl x

theorem Mem.used1 {w : World} {g : Nat} {o : Lo} {c : Cs} {size nl used free : Nat} {freed : Int} (h : Mem w g o c size nl used free freed) (hu : used < size) (hm : used % 64 ≠ 0) : Mem (w.setCell ⟨g, 3, none⟩ (I ((used : Int) + 1))) g o c size nl (used + 1) free freed := by
  refine ⟨by rw [set_blk h.blk]; rfl, h.lo, fun h0 => ?_, own_set h.own h.blk (by decide), fun k b hk => ?_, h.nd, by rw [h.np]; omega, hu, h.sz, h.nlm, h.lo2⟩
  · obtain ⟨cs, h1, h2⟩ := h.li h0
    exact ⟨cs, by rw [set_other (ne_of_type h1 h.blk (by decide))]; exact h1, h2⟩
  · obtain ⟨cs, h1, h2⟩ := h.pg k b hk
    exact ⟨cs, by rw [set_other (ne_of_type h1 h.blk (by decide))]; exact h1, h2⟩

set_option maxHeartbeats 1600000 in
set_option maxRecDepth 100000 in
theorem fresh_old {w : World} {g : Nat} {o : Lo} {c : Cs} {size nl used free : Nat} {freed : Int} (h : Mem w g o c size nl used free freed) (hu : used < size) (hm : used % 64 ≠ 0) :
    Calls Try.prog 84 #[.pointer (some ⟨g, 0, none⟩)] w fun e w' => e = .returned (I used) ∧ Fresh w g o c size nl used free freed w' := by
  obtain ⟨_, _, _, a3, _, _⟩ := h.cellsA
  have f3 := (h.blkA 3).2
  have hsz := h.sz
  have q3 : (((used : Int) % 64) == 0) = false := by simp; omega
  have q4 : (0 : Int) ≤ (used : Int) := by omega
  have q5 : (used : Int) < 4194304 := by omega
  have HM := show Hid (Mem w g o c size nl used free freed ∧ used < size ∧ used % 64 ≠ 0) from ⟨h, hu, hm⟩
  clear h hu hm hsz
  go_enter Try.func84, Try.ntmps84
  go_wp2
  go_ret
  exact ⟨rfl, o, c, HM.out.1.used1 HM.out.2.1 HM.out.2.2, Fr.set w _ _ (by simp [Lo.foot]), fun k hk => Or.inl hk, rfl, rfl, fun x _ => ⟨fun _ => rfl, rfl, rfl⟩⟩

/-- a page more -/
theorem Mem.page1 {w w3 : World} {g : Nat} {o : Lo} {c : Cs} {size nl used free : Nat} {freed : Int} {M : Array Value} {v : Value} {wz : World} (h : Mem w g o c size nl used free freed) (hu : used < size) (hm : used % 64 = 0) (hM : ∀ j, j < plen size (used / 64) * 4 → M[j]? = some (I 0))
    (hz : Below w.heap.size w wz) (hzb : wz.heap[w.heap.size]? = some (.cells M 96 (0, 0)))
    (ho : w3.ownsRow 0 93 1 v (o.ps.length + 1) (pvals size o.pc o.ps ++ [.slice (some ⟨w.heap.size, 0, none⟩) (plen size (used / 64)) (plen size (used / 64))])) (hG : Gone wz o.pv w3 v) :
    Fresh w g o c size nl used free freed ((w3.setCell ⟨g, 0, none⟩ v).setCell ⟨g, 3, none⟩ (I ((used : Int) + 1))) := by
  have hnp : o.ps.length = used / 64 := by rw [h.np]; omega
  have hz' := h.below hz
  have kept : ∀ (k : Nat) (cs : Array Value) (T : TypeId), wz.heap[k]? = some (.cells cs T (0, 0)) → T ≠ 93 → w3.heap[k]? = some (.cells cs T (0, 0)) := fun k cs T hk hT => by
    rw [hG.1.block k (Array.getElem?_eq_some_iff.1 hk).1 ?_]
    · exact hk
    · intro e
      rcases hz'.own.2 with ⟨e1, _⟩ | ⟨g', cap, cur, e1, _, e3, _⟩
      · rw [e1] at e; cases e
      · rw [e1] at e
        simp only [Value.ownBlock, Option.some.injEq] at e
        subst e
        rw [hk] at e3
        cases e3
        exact hT rfl
  have hg3 := kept g _ _ hz'.blk (by decide)
  have hset : ∀ (k : Nat) (cs : Array Value) (T : TypeId), w3.heap[k]? = some (.cells cs T (0, 0)) → T ≠ 85 → ((w3.setCell ⟨g, 0, none⟩ v).setCell ⟨g, 3, none⟩ (I ((used : Int) + 1))).heap[k]? = some (.cells cs T (0, 0)) := fun k cs T hk hT => by
    have hne : k ≠ g := ne_of_type hk hg3 hT
    rw [set_other hne, set_other hne]
    exact hk
  have hfresh : w.heap.size ∉ o.ps := fun hm => by
    have := h.foot_lt w.heap.size (by simp [Lo.foot, hm])
    omega
  refine ⟨{ o with pv := v, ps := o.ps ++ [w.heap.size], pc := up o.pc o.ps.length (plen size (used / 64)) }, { c with bs := fun x e => if x < used then c.bs x e else 0, li := fun x => if x < used then c.li x else 0, vl := fun x => if x < used then c.vl x else 0 }, ⟨?_, h.lo, fun h0 => ?_, ?_, fun k b hk => ?_, ?_, ?_, hu, h.sz, h.nlm, h.lo2⟩, ?_, ?_, rfl, rfl, fun x hx => ?_⟩
  · rw [set_blk (set_blk hg3)]
    rfl
  · obtain ⟨cs, h1, h2⟩ := hz'.li h0
    exact ⟨cs, hset _ _ _ (kept _ _ _ h1 (by decide)) (by decide), h2⟩
  · have h1 : (w3.setCell ⟨g, 0, none⟩ v).ownsRow 0 93 1 v (o.ps.length + 1) (pvals size o.pc o.ps ++ [.slice (some ⟨w.heap.size, 0, none⟩) (plen size (used / 64)) (plen size (used / 64))]) := own_set ho hg3 (by decide)
    have h2 := own_set (i := 3) (u := I ((used : Int) + 1)) h1 (set_blk hg3) (by decide)
    have e2 := pvals_snoc size o.pc o.ps w.heap.size (plen size (used / 64))
    rw [hnp] at e2
    rw [hnp, ← e2] at h2
    simpa [hnp] using h2
  · by_cases hk' : k < o.ps.length
    · rw [List.getElem?_append_left hk'] at hk
      obtain ⟨cs, h1, h2⟩ := hz'.pg k b hk
      refine ⟨cs, hset _ _ _ (kept _ _ _ h1 (by decide)) (by decide), fun j hj => ?_⟩
      have hj64 : j < 64 := by unfold plen at hj; omega
      have hlt : k * 64 + j < used := by omega
      dsimp only
      rw [if_pos hlt, if_pos hlt, if_pos hlt, if_pos hlt]
      exact h2 j hj
    · rw [List.getElem?_append_right (by omega)] at hk
      have hk0 : k - o.ps.length = 0 := by
        have := (List.getElem?_eq_some_iff.1 hk).1
        simp at this
        omega
      rw [hk0] at hk
      simp only [List.getElem?_cons_zero, Option.some.injEq] at hk
      subst hk
      refine ⟨M, hset _ _ _ (kept _ _ _ hzb (by decide)) (by decide), fun j hj => ?_⟩
      have hkk : k = used / 64 := by omega
      rw [hkk] at hj ⊢
      have hge : ¬ (used / 64 * 64 + j < used) := by omega
      dsimp only
      rw [if_neg hge, if_neg hge, if_neg hge, if_neg hge]
      exact ⟨hM _ (by omega), hM _ (by omega), hM _ (by omega), hM _ (by omega)⟩
  · rw [List.nodup_append]
    exact ⟨h.nd, by simp, fun a ha b hb => by
      have : b = w.heap.size := by simpa using hb
      subst this
      rintro rfl
      exact hfresh ha⟩
  · simp only [List.length_append, List.length_cons, List.length_nil]
    omega
  · have f1 : Fr (o.foot g nl) w wz := Fr.of_below hz
    have f2 : Fr (o.foot g nl) wz w3 := ⟨hG.1.os, hG.1.tape, hG.1.output, hG.1.size, fun k hk hn => hG.1.block k hk (fun e => hn (by simp [Lo.foot, ← e]))⟩
    exact ((f1.trans f2 (fun _ hx => Or.inl hx)).trans (Fr.set w3 0 v (F := o.foot g nl) (by simp [Lo.foot])) (fun _ hx => Or.inl hx)).trans (Fr.set _ 3 _ (F := o.foot g nl) (by simp [Lo.foot])) (fun _ hx => Or.inl hx)
  · intro k hk
    simp only [Lo.foot, List.mem_cons, List.mem_append, Option.mem_toList] at hk ⊢
    rcases hk with rfl | hk | hk | hk | hk
    · exact Or.inl (Or.inl rfl)
    · exact Or.inl (Or.inr (Or.inl hk))
    · rcases hG.own with e | e
      · exact Or.inl (Or.inr (Or.inr (Or.inl (by rw [← e]; exact hk))))
      · exact Or.inr (Nat.le_trans hz.size (e k hk))
    · exact Or.inl (Or.inr (Or.inr (Or.inr hk)))
    · have : k = w.heap.size := by simpa using hk
      exact Or.inr (by omega)
  · dsimp only
    exact ⟨fun e => if_pos hx, if_pos hx, if_pos hx⟩

theorem Mem.app {w wz w3 : World} {g : Nat} {o : Lo} {c : Cs} {size nl used free : Nat} {freed : Int} {v : Value} (h : Mem w g o c size nl used free freed) (hz : Below w.heap.size w wz) (hG : Gone wz o.pv w3 v) : w3.heap[g]? = some (.cells (ablk o size nl used free freed) 85 (0, 0)) := by
  have hz' := h.below hz
  rw [hG.1.block g hz'.g_lt ?_]
  · exact hz'.blk
  · intro e
    rcases hz'.own.2 with ⟨e1, _⟩ | ⟨g', cap, cur, e1, _, e3, _⟩
    · rw [e1] at e; cases e
    · rw [e1] at e
      simp only [Value.ownBlock, Option.some.injEq] at e
      subst e
      exact absurd rfl (ne_of_type e3 hz'.blk (by decide))
theorem Mem.app0 {w wz w3 : World} {g : Nat} {o : Lo} {c : Cs} {size nl used free : Nat} {freed : Int} {v : Value} (h : Mem w g o c size nl used free freed) (hz : Below w.heap.size w wz) (hG : Gone wz o.pv w3 v) : w3.cell? ⟨g, 0, none⟩ = some o.pv ∧ w3.frozen? ⟨g, 0, none⟩ = false ∧ w3.cell? ⟨g, 3, none⟩ = some (I used) ∧ w3.frozen? ⟨g, 3, none⟩ = false :=
  ⟨by simp [World.cell?, h.app hz hG], by simp [World.frozen?, h.app hz hG], by simp [World.cell?, h.app hz hG], by simp [World.frozen?, h.app hz hG]⟩
theorem cell_oned (w : World) (T : TypeId) (a : Value) (b : Nat) (hb : b = w.heap.size) : ∀ j u, [a][j]? = some u → (w.alloc (.cells #[a] T)).drew.cell? ((⟨b, 0, none⟩ : Addr).add j) = some u := by
  subst hb
  exact cell_one w T a
set_option maxHeartbeats 3200000 in
set_option maxRecDepth 100000 in
theorem fresh_new {w : World} {g : Nat} {o : Lo} {c : Cs} {size nl used free : Nat} {freed : Int} (h : Mem w g o c size nl used free freed) (hu : used < size) (hm : used % 64 = 0) :
    Calls Try.prog 84 #[.pointer (some ⟨g, 0, none⟩)] w fun e w' => e = .returned (I used) ∧ Fresh w g o c size nl used free freed w' := by
  obtain ⟨a0, _, a2, a3, _, _⟩ := h.cellsA
  have f0 := (h.blkA 0).2
  have f3 := (h.blkA 3).2
  have hsz := h.sz
  have q3 : (((used : Int) % 64) == 0) = true := by simp; omega
  have q4 : (0 : Int) ≤ (used : Int) := by omega
  have q5 : (used : Int) < 4194304 := by omega
  have q6 : (used : Int) < (size : Int) := by omega
  have q7 : (size : Int) ≤ 4194304 := by omega
  obtain ⟨M, hmk, hM⟩ := mk_slots (plen size (used / 64)) (by unfold plen; omega)
  obtain ⟨i0, hi, hz0, hz1, hz2⟩ := info_parts info93
  have q9 : IntKind.i64.wrap ((size : Int) - (used : Int)) = (size : Int) - (used : Int) := by rw [IntKind.wrap_i64]; omega
  have q8 : (if (size : Int) - (used : Int) < 64 then (size : Int) - (used : Int) else 64) = ((plen size (used / 64) : Nat) : Int) := by unfold plen; split <;> omega
  have HM := show Hid (Mem w g o c size nl used free freed ∧ used < size ∧ used % 64 = 0 ∧ ∀ j, j < plen size (used / 64) * 4 → M[j]? = some (I 0)) from ⟨h, hu, hm, hM⟩
  clear h hu hm hsz hM
  go_enter Try.func84, Try.ntmps84
  go_wp2_with fail
  have hz : Below w.heap.size w (((w.alloc (.cells M 96)).alloc (.cells #[.slice (some ⟨w.heap.size, 0, none⟩) (plen size (used / 64)) (plen size (used / 64))] 93)).drew) := (((Below.refl _ w).alloc (by simp) _).alloc (by simp) _).drew
  have HZ : Hid (Below w.heap.size w (((w.alloc (.cells M 96)).alloc (.cells #[.slice (some ⟨w.heap.size, 0, none⟩) (plen size (used / 64)) (plen size (used / 64))] 93)).drew)) := hz
  have HO : Hid ((((w.alloc (.cells M 96)).alloc (.cells #[.slice (some ⟨w.heap.size, 0, none⟩) (plen size (used / 64)) (plen size (used / 64))] 93)).drew).ownsRow 0 93 1 o.pv o.ps.length (pvals size o.pc o.ps)) := (HM.out.1.below hz).own
  have e0 : (w.alloc (.cells M 96)).cell? ⟨g, 0, none⟩ = some o.pv := (HM.out.1.below ((Below.refl _ w).alloc (by simp) _)).cellsA.1
  have e1 : ((w.alloc (.cells M 96)).alloc (.cells #[.slice (some ⟨w.heap.size, 0, none⟩) (plen size (used / 64)) (plen size (used / 64))] 93)).cell? ⟨g, 0, none⟩ = some o.pv := (HM.out.1.below (((Below.refl _ w).alloc (by simp) _).alloc (by simp) _)).cellsA.1
  have HB : Hid ((((w.alloc (.cells M 96)).alloc (.cells #[.slice (some ⟨w.heap.size, 0, none⟩) (plen size (used / 64)) (plen size (used / 64))] 93)).drew).heap[w.heap.size]? = some (.cells M 96 (0, 0))) := (Below.heap_alloc (w.alloc (.cells M 96)) _ w.heap.size (by simp)).trans (heap_alloc_new w _)
  clear hz
  go_region_law (
    refine step_gone _ rfl (.tmp 15) (.tmp 24) 82 rfl 0 93 i0 (.slice none 0 0) 1 24 Try.underlying82 hi hz0 hz1 hz2 rfl (by decide) o.pv o.ps.length (pvals size o.pc o.ps) (by simp [Act.eval]) HO.out ⟨w.heap.size + 1, 0, none⟩ 1 1 [.slice (some ⟨w.heap.size, 0, none⟩) (plen size (used / 64)) (plen size (used / 64))] (by simp [Act.eval]) rfl (cell_oned (w.alloc (.cells M 96)) _ _ _ (by simp)) (by intro u hu; simp only [List.mem_cons, List.not_mem_nil, or_false] at hu; subst hu; rfl) (by have := HM.out.1.np; have := HM.out.1.us; have := HM.out.1.sz; unfold maxLen; omega) (by have := HM.out.1.np; have := HM.out.1.us; have := HM.out.1.sz; omega) (Nat.zero_le _) (by decide) ?_
    intro v3 w3 ho hG
    obtain ⟨bo, bc, rfl⟩ := own_form ho
    have HG := show Hid (_ ∧ _) from ⟨ho, hG⟩
    obtain ⟨hc0, hf0, hc3, hf3⟩ := HM.out.1.app0 HZ.out hG
    clear ho hG)
  all_goals
    go_wp2
    go_ret
    refine ⟨rfl, ?_⟩
    exact HM.out.1.page1 HM.out.2.1 HM.out.2.2.1 HM.out.2.2.2 HZ.out HB.out HG.out.1 HG.out.2
/-- fresh -/
theorem fresh_any {w : World} {g : Nat} {o : Lo} {c : Cs} {size nl used free : Nat} {freed : Int} (h : Mem w g o c size nl used free freed) (hu : used < size) :
    Calls Try.prog 84 #[.pointer (some ⟨g, 0, none⟩)] w fun e w' => e = .returned (I used) ∧ Fresh w g o c size nl used free freed w' := by
  by_cases hm : used % 64 = 0
  · exact fresh_new h hu hm
  · exact fresh_old h hu hm
end Go.Proofs.Ytoeioppmlnognaa.Ar
