import Derived.Test.YtkkplmkpemajfaaRefB
import Derived.Test.YtkkplmkpemajfaaIndent
import Derived.Lib.ConvBytes
namespace Go.Proofs.Ytkkplmkpemajfaa.Sp
open Go.RowKit

/-- the slice v owns a row that holds the bytes l first; the row may bear the mark of a conversion (behind its last cell) -/
def OwnM (w : World) (base : Nat) (v : Value) (l : List UInt8) : Prop :=
  ∃ g cap cur fz, v = .slice (some ⟨g, 0, none⟩) l.length cap ∧ base ≤ g ∧ w.heap[g]? = some (.cells cur 5 fz) ∧ (∀ j, j < cur.size → ¬ (fz.1 ≤ j ∧ j < fz.2)) ∧ l.length ≤ cap ∧ cur.size = cap ∧ cur.toList.take l.length = Lib.byteCells l

theorem OwnM.keep {w w' : World} {base : Nat} {v : Value} {l : List UInt8} (h : OwnM w base v l) (hb : ∀ g, base ≤ g → g < w.heap.size → (∃ cur fz, w.heap[g]? = some (.cells cur 5 fz)) → w'.heap[g]? = w.heap[g]?) : OwnM w' base v l := by
  obtain ⟨g, cap, cur, fz, h1, h2, h3, r⟩ := h
  exact ⟨g, cap, cur, fz, h1, h2, (hb g h2 (Array.getElem?_eq_some_iff.1 h3).1 ⟨_, _, h3⟩).trans h3, r⟩
theorem OwnM.alloc {w : World} {base : Nat} {v : Value} {l : List UInt8} (h : OwnM w base v l) (o : Obj) : OwnM (w.alloc o) base v l :=
  h.keep fun g _ hg _ => Below.heap_alloc w o g hg
theorem OwnM.iterAt {w : World} {base : Nat} {v : Value} {l : List UInt8} (h : OwnM w base v l) {k pos : Nat} {t : ByteArray} (hk : w.heap[k]? = some (.stringIter t pos)) (pos' : Nat) : OwnM (w.iterAt k t pos') base v l :=
  h.keep fun g _ _ ⟨cur, fz, hc⟩ => Lib.iterAt_other _ _ _ _ _ (fun e => by subst e; rw [hk] at hc; simp at hc)
theorem OwnM.block {w : World} {base : Nat} {v : Value} {l : List UInt8} (h : OwnM w base v l) : ∃ g, v.ownBlock = some g ∧ base ≤ g ∧ g < w.heap.size ∧ ∃ cur fz, w.heap[g]? = some (.cells cur 5 fz) := by
  obtain ⟨g, cap, cur, fz, rfl, h2, h3, r⟩ := h
  exact ⟨g, rfl, h2, (Array.getElem?_eq_some_iff.1 h3).1, _, _, h3⟩
theorem OwnM.bytes {w : World} {base : Nat} {v : Value} {l : List UInt8} (h : OwnM w base v l) : ∃ ao cap, v = .slice ao (⟨l.toArray⟩ : ByteArray).size cap ∧ IsBytes w ao ⟨l.toArray⟩ := by
  obtain ⟨g, cap, cur, fz, rfl, h2, h3, h4, h5, h6, h7⟩ := h
  refine ⟨_, cap, rfl, fun i hi => ⟨g, 0, rfl, (Array.getElem?_eq_some_iff.1 h3).1, ?_⟩⟩
  have hi' : i < l.length := hi
  have hc := Lib.cells_of_row h3 l.length i (.int .u8 (bt ⟨l.toArray⟩ i)) (by
    rw [h7]
    simp [Lib.byteCells, bt, List.getD, hi'])
  rw [Lib.addr_add] at hc
  exact hc

theorem OwnM.conv {w : World} {base : Nat} {v : Value} {l : List UInt8} (h : OwnM w base v l) : ∃ ao n cap S, v = .slice ao n cap ∧ S = (⟨l.toArray⟩ : ByteArray) ∧ (convert 24 9 (.slice ao n cap)).run Try.prog w = .ok (.string S) w := by
  obtain ⟨ao, cap, h1, h2⟩ := h.bytes
  exact ⟨ao, _, cap, _, h1, rfl, conv_any ao _ cap w h2⟩

theorem conv_own (t : ByteArray) (w : World) : ∃ v w', (convert 9 24 (.string t)).run Try.prog w = .ok v w' ∧ OwnM w' w.heap.size v t.data.toList ∧ Below w.heap.size w w' ∧ w'.heap.size = w.heap.size + 1 := by
  have hr := Lib.run_convert_string_bytes (P := Try.prog) w 9 24 5 t Try.underlying9 Try.underlying24 Try.underlying5
  have hg := grownCap_ge w t.size 0 5
  have hl : t.data.toList.length = t.size := by simp
  have hz : (Lib.bytesCells w 5 t).size = grownCap w t.size 0 5 := by
    unfold Lib.bytesCells
    have : t.data.size = t.size := rfl
    simp [this]
    omega
  refine ⟨_, _, hr, ⟨w.heap.size, _, _, _, by rw [hl], Nat.le_refl _, Lib.bytesWorld_at_new w 5 t, fun j hj => by simp; omega, by omega, hz, ?_⟩, ⟨?_, ?_, ?_, ?_, fun k hk => Lib.bytesWorld_at_old w 5 t k hk⟩, Lib.bytesWorld_size _ _ _⟩
  · rw [hl]
    unfold Lib.bytesCells Lib.byteCells
    rw [Array.toList_append, Array.toList_map, List.take_append_of_le_length (by simp), List.take_of_length_le (by simp)]
  · simp [Lib.bytesWorld, World.freeze, World.alloc, World.drew, -World.alloc_eq, -World.drew_eq]
  · simp [Lib.bytesWorld, World.freeze, World.alloc, World.drew, -World.alloc_eq, -World.drew_eq]
  · simp [Lib.bytesWorld, World.freeze, World.alloc, World.drew, -World.alloc_eq, -World.drew_eq]
  · rw [Lib.bytesWorld_size]; omega

/-- append of one byte -/
theorem wpList_append_m (w : World) {ops : Array Oper} {rest : List Oper} {o : Oper} {a : Act} {Q : Exit → Act → World → Prop} (hgd : o.guard = none) (s x : Operand)
    (ho : o.op = .call { callee := .builtin .append, args := #[s, x], argTypes := #[24, 24] }) (base : Nat) (v : Value) (l : List UInt8) (hs : a.eval s = v) (hown : OwnM w base v l)
    (ad : Addr) (cc : Nat) (c : UInt8) (C : Int) (hx : a.eval x = .slice (some ad) 1 cc) (hC : C = (c.toNat : Int)) (hnews : w.cell? ad = some (.int .u8 C)) (hl : l.length ≤ 8388608) (hbase : base ≤ w.heap.size)
    (h : ∀ v' w', OwnM w' base v' (l ++ [c]) → w.grownBy w' v.ownBlock → wpList Try.prog ops Q rest (a.put o.dst v') w') : wpList Try.prog ops Q (o :: rest) a w := by
  obtain ⟨i0, hi, hz0, hz1, hz2⟩ := info_parts info5
  obtain ⟨g, cap, cur, fz, rfl, h2, h3, h4, h5, h6, h7⟩ := hown
  have hce : Lib.byteCells [c] = [.int .u8 C] := by rw [hC]; rfl
  refine wpList_append_arg w hgd s x 24 ho 5 i0 (.int .u8 0) 1 1 Try.underlying24 hi hz0 hz1 hz2 rfl (by decide) g 0 l.length cap (Lib.byteCells l) hs (by rw [Lib.byteCells_length]; omega) ?_ ad 1 cc [.int .u8 C] hx rfl ?_ ?_ ?_ ?_ ?_ ?_ ?_
  · intro j u hj
    have := Lib.cells_of_row h3 l.length j u (by rw [h7]; exact hj)
    rw [Lib.addr_add] at this
    exact this
  · intro j u hj
    match j, hj with
    | 0, hj =>
      simp at hj
      subst hj
      have : ad.add 0 = ad := by simp [Addr.add]
      rw [this]
      exact hnews
  · intro u hu
    simp at hu
    subst hu
    rfl
  · intro hr j hj
    simp at hj
    subst hj
    refine ⟨?_, ?_⟩
    · rw [Lib.cell_of_heap h3]
      simp
      omega
    · have := h4 (0 + l.length * 1 + 0) (by omega)
      simp only [World.frozen?, h3]
      simpa using this
  · unfold maxLen; omega
  · omega
  · intro hr
    refine h _ _ ⟨g, cap, cur.setIfInBounds l.length (.int .u8 C), fz, by rw [List.length_append]; rfl, h2, ?_, by simpa using h4, by rw [List.length_append]; exact hr, by simpa using h6, ?_⟩ ?_
    · simp [World.setCells, World.setCell, Array.getElem?_modify, h3]
    · rw [Lib.byteCells_append, hce, List.length_append, Array.toList_setIfInBounds]
      have hlt : l.length < cur.toList.length := by simp; omega
      show List.take (l.length + 1) _ = _
      rw [List.take_succ_eq_append_getElem (by rw [List.length_set]; exact hlt), List.take_set_of_le (Nat.le_refl _), h7]
      simp
    · refine ⟨rfl, rfl, rfl, by simp [World.setCells, World.setCell], fun k hk hne => ?_⟩
      simp only [World.setCells]
      exact Below.heap_setCell _ _ _ _ (fun e => hne (by rw [e]; rfl))
  · intro hr v' w' hown' hg
    have hb : w.grownBy w' (Value.slice (some ⟨g, 0, none⟩) l.length cap).ownBlock := ⟨hg.os, hg.tape, hg.output, hg.size, fun k hk _ => hg.block k hk (by simp)⟩
    refine h v' w' ?_ hb
    rcases hown'.2 with ⟨_, h0⟩ | ⟨g', cap', cur', rfl, r1, r2, r3, r4, r5, r6⟩
    · omega
    · refine ⟨g', cap', cur', (0, 0), by rw [List.length_append]; rfl, by omega, r2, fun j _ hj => by simp at hj, by rw [List.length_append]; exact r3, by simpa using r5, ?_⟩
      rw [Lib.byteCells_append, hce, List.length_append]
      simpa using r6

/-- what holds in the round of the reference's loop; K: the iterator's block -/
structure MkR (w wr : World) (K : Nat) (t : ByteArray) (c : Int) (pos f k : Nat) (v : Value) (acc : List UInt8) : Prop where
  own : OwnM wr w.heap.size v acc
  it : wr.heap[K]? = some (.stringIter t pos)
  kl : w.heap.size ≤ K
  bel : Below w.heap.size w wr
  eq : acc ++ inF t c f pos (k : Int) = t.data.toList ++ [10] ++ ind t c
  fuel : t.size ≤ pos + f
  len : acc.length = t.size + k

theorem MkR.le {w wr : World} {K : Nat} {t : ByteArray} {c : Int} {pos f k : Nat} {v : Value} {acc : List UInt8} (h : MkR w wr K t c pos f k v acc) : acc.length ≤ 2 * t.size + 1 := by
  have h1 := ind_len t c
  have h2 := congrArg List.length h.eq
  simp at h2
  omega
/-- next, a new block, an append -/
theorem MkR.next {w wr w2 : World} {K : Nat} {t : ByteArray} {c : Int} {pos f k : Nat} {v v' : Value} {acc : List UInt8} {o : Obj} (h : MkR w wr K t c pos (f + 1) k v acc) (hp : pos < t.size) (hk : ¬ (k : Int) = c)
    (h1 : OwnM w2 w.heap.size v' (acc ++ [mkb t pos])) (h2 : ((wr.iterAt K t (pos + wd t pos)).alloc o).grownBy w2 v.ownBlock) : MkR w w2 K t c (pos + wd t pos) f (k + 1) v' (acc ++ [mkb t pos]) := by
  have hi := Lib.iterAt_heap wr K t pos (pos + wd t pos) h.it
  have hKs : K < (wr.iterAt K t (pos + wd t pos)).heap.size := (Array.getElem?_eq_some_iff.1 hi).1
  obtain ⟨g, hg1, hg2, hg3, cur, fz, hg4⟩ := (h.own.iterAt h.it (pos + wd t pos)).block
  refine ⟨h1, ?_, h.kl, ?_, ?_, ?_, ?_⟩
  · rw [h2.block K (by simp; omega) (fun e => ?_), Below.heap_alloc _ _ _ hKs]
    · exact hi
    · rw [hg1] at e
      simp at e
      subst e
      rw [hi] at hg4
      simp at hg4
  · have hs := h.bel.size
    have hB := Lib.below_iterAt h.bel h.kl t (pos + wd t pos)
    refine (hB.alloc hB.size o).grown h2 (by simp [Lib.iterAt_size]; omega) (fun j hj => ?_)
    rw [hg1] at hj
    simp at hj
    omega
  · rw [← h.eq, inF_on hp hk, List.append_assoc]
    rfl
  · have := wd_pos t pos hp
    have := h.fuel
    omega
  · rw [List.length_append, h.len]
    simp
    omega

set_option maxHeartbeats 3200000 in
set_option maxRecDepth 100000 in
theorem refMark_any (ao : Option Addr) (s : ByteArray) (a : Int) (cap : Nat) (w : World) (h : IsBytes w ao s) (hc : s.size ≤ cap) (hs : s.size ≤ 2097152) :
    Calls Try.prog 22 #[.slice ao s.size cap, .int .i64 a] w fun e w' => e = .returned (.tuple #[.string (MV s a), .int .i64 (SE s a)]) ∧ Below w.heap.size w w' := by
  by_cases hin : inB s a = true
  · obtain ⟨a, rfl⟩ : ∃ k : Nat, a = k := ⟨a.toNat, by simp [inB] at hin; omega⟩
    have ha : a ≤ s.size := by simp [inB] at hin; omega
    have k3 := spL_le s a ha
    have k0 : 1 ≤ spL s a := by unfold spL; omega
    have k6 := st_le s (spL s a) k0 k3
    have k7 := en_le s (spL s a) k0 k3
    have k8 := ln_size s (spL s a) k0 k3
    have lz : (ln s (spL s a)).size ≤ 2097152 := by omega
    have HM : Hid (MV s a = ⟨(MB s a).toArray⟩ ∧ SE s a = 0 ∧ SL s a = (spL s a : Nat) ∧ SC s a = (spC s a : Nat)) := by
      refine ⟨?_, ?_, ?_, ?_⟩ <;> simp [MV, SE, SL, SC, hin]
    have HL : Hid (LV s (spL s a : Nat) = ln s (spL s a) ∧ LE s (spL s a : Nat) = 0) := by
      have hh : hasB s (spL s a : Nat) = true := by simp [hasB]; omega
      refine ⟨?_, ?_⟩ <;> simp [LV, LE, hh]
    have HB : Hid (MB s a = (ln s (spL s a)).data.toList ++ [10] ++ ind (ln s (spL s a)) (spC s a : Nat) ++ [94]) := rfl
    clear hin k8
    go_enter Try.func22, Try.ntmps22
    go_wp2_with fail
    refine (refSpot_any ao s a cap _ h hc hs).mono ?_
    rintro e w1 ⟨rfl, hB1⟩
    rw [HM.out.2.1, HM.out.2.2.1, HM.out.2.2.2]
    go_wp2_with fail
    refine (refLine_any ao s _ cap _ (h.below hB1) hc hs).mono ?_
    rintro e w2 ⟨rfl, rfl⟩
    rw [HL.out.1, HL.out.2]
    generalize ln s (spL s a) = t at *
    generalize spC s a = c at *
    obtain ⟨v, w3, hcv, hO, hB3, hz3⟩ := conv_own t w2
    have H3 : Hid (OwnM w3 w.heap.size v t.data.toList ∧ Below w.heap.size w w3 ∧ t.data.toList.length = t.size) := by
      refine ⟨?_, hB1.trans (hB3.mono hB1.size), by simp⟩
      obtain ⟨g, c1, c2, c3, c4, c5, r⟩ := hO
      exact ⟨g, c1, c2, c3, c4, Nat.le_trans hB1.size c5, r⟩
    clear hO hB1 hB3 hz3
    go_wp2_with (at_builtin; refine wpList_append_m _ rfl _ _ rfl w.heap.size _ t.data.toList rfl (H3.out.1.alloc _) ⟨w3.heap.size, 0, none⟩ 1 10 10 rfl rfl ?c1 ?c2 ?c3 ?_)
    case c1 => simp
    case c2 => have := H3.out.2.2; omega
    case c3 => have := H3.out.2.1.size; simp; omega
    intro v4 w4 hO4 hg4
    have H4 : Hid (OwnM w4 w.heap.size v4 (t.data.toList ++ [10]) ∧ Below w.heap.size w w4) := by
      refine ⟨hO4, ?_⟩
      have hs3 := H3.out.2.1.size
      refine (H3.out.2.1.alloc hs3 _).grown hg4 (by simp; omega) (fun j hj => ?_)
      obtain ⟨g, e1, e2, _⟩ := H3.out.1.block
      rw [e1] at hj
      simp at hj
      omega
    clear hO4 hg4 hcv
    go_wp2
    go_loopw [11, 12] (fun o n wr => ∃ (pos f k : Nat) (acc : List UInt8), n = .int .i64 k ∧ MkR w wr w4.heap.size t (c : Int) pos f k o acc) (fun _ _ wr => t.size - wr.iterPos w4.heap.size)
    case atStart =>
      refine ⟨0, t.size, 1, t.data.toList ++ [10], rfl, H4.out.1.alloc _, World.iter_heap _ _ _, H4.out.2.size, H4.out.2.alloc H4.out.2.size _, rfl, by omega, ?_⟩
      rw [List.length_append, H3.out.2.2]
      rfl
    case round =>
      obtain ⟨pos, f, k, acc, rfl, hR⟩ := hrel
      have HR : Hid (MkR w wr w4.heap.size t (c : Int) pos f k u11 acc) := hR
      have hkl : k ≤ t.size + 1 := by have := hR.le; have := hR.len; omega
      have hit := hR.it
      have hfu := hR.fuel
      clear hR
      by_cases hp : pos < t.size
      · have hnx : ∀ ty, (Instr.next (.pointer (some ⟨w4.heap.size, 0, none⟩)) true ty).run Try.prog wr = _ := fun ty => Lib.run_next_any_at wr w4.heap.size t pos ty hit hp
        have hwd := wd_pos t pos hp
        by_cases he : (k : Int) = c
        · have hq : ((k : Int) == c) = true := by simp [he]
          have HE : Hid ((k : Int) = c) := he
          clear he
          go_wp2_with (at_builtin; refine wpList_append_m _ rfl _ _ rfl w.heap.size _ acc rfl ((HR.out.own.iterAt HR.out.it (pos + wd t pos)).alloc _) _ 1 94 94 rfl rfl ?c1 ?c2 ?c3 ?_)
          case c1 => simp
          case c2 => have := HR.out.le; omega
          case c3 => have := HR.out.bel.size; simp [Lib.iterAt_size]; omega
          intro v5 w5 hO5 hg5
          obtain ⟨ao5, n5, cap5, S5, hv5, hS5, hcv5⟩ := hO5.conv
          have HF : Hid (Below w.heap.size w w5 ∧ MV s a = S5) := by
            obtain ⟨g, hg1, hg2, hg3, _⟩ := (HR.out.own.iterAt HR.out.it (pos + wd t pos)).block
            have h2 := HR.out.eq
            rw [inF_stop HE.out, List.append_nil] at h2
            refine ⟨?_, by rw [HM.out.1, HB.out, hS5, h2]⟩
            have hB := Lib.below_iterAt HR.out.bel HR.out.kl t (pos + wd t pos)
            refine (hB.alloc hB.size _).grown hg5 (by have := hB.size; simp; omega) (fun j hj => ?_)
            rw [hg1] at hj
            simp at hj
            omega
          clear hO5 hg5 hS5
          rw [hv5]
          clear hv5
          go_wp2
          go_ret2
          exact ⟨ret_si HF.out.2.symm HM.out.2.1.symm, HF.out.1⟩
        · have hq : ((k : Int) == c) = false := by simp [he]
          obtain ⟨f, rfl⟩ : ∃ f', f = f' + 1 := ⟨f - 1, by omega⟩
          by_cases h9 : rn t pos = 9
          · have hr : (((Utf8.decode t pos).1 : Int) == 9) = true := by simpa [rn] using h9
            have HQ : Hid (mkb t pos = 9) := by show _ = _; simp [mkb, h9]
            clear h9
            go_wp2_with (at_builtin; refine wpList_append_m _ rfl _ _ rfl w.heap.size _ acc rfl ((HR.out.own.iterAt HR.out.it (pos + wd t pos)).alloc _) _ 1 (mkb t pos) 9 rfl ?c0 ?c1 ?c2 ?c3 ?_)
            case c0 => rw [HQ.out]; rfl
            case c1 => simp
            case c2 => have := HR.out.le; omega
            case c3 => have := HR.out.bel.size; simp [Lib.iterAt_size]; omega
            intro v5 w5 hO5 hg5
            have HN : Hid (MkR w w5 w4.heap.size t (c : Int) (pos + wd t pos) f (k + 1) v5 (acc ++ [mkb t pos])) := HR.out.next hp he hO5 hg5
            clear hO5 hg5 hit hnx
            go_wp2
            go_roundw
            case rel => exact ⟨_, f, k + 1, _, by go_num, HN.out⟩
            case measure =>
              have e1 : wr.iterPos w4.heap.size = pos := by unfold World.iterPos; rw [HR.out.it]
              have e2 : w5.iterPos w4.heap.size = pos + wd t pos := by unfold World.iterPos; rw [HN.out.it]
              rw [e1, e2]
              omega
          · have hr : (((Utf8.decode t pos).1 : Int) == 9) = false := by simpa [rn] using h9
            have HQ : Hid (mkb t pos = 32) := by show _ = _; simp [mkb, h9]
            clear h9
            go_wp2_with (at_builtin; refine wpList_append_m _ rfl _ _ rfl w.heap.size _ acc rfl ((HR.out.own.iterAt HR.out.it (pos + wd t pos)).alloc _) _ 1 (mkb t pos) 32 rfl ?c0 ?c1 ?c2 ?c3 ?_)
            case c0 => rw [HQ.out]; rfl
            case c1 => simp
            case c2 => have := HR.out.le; omega
            case c3 => have := HR.out.bel.size; simp [Lib.iterAt_size]; omega
            intro v5 w5 hO5 hg5
            have HN : Hid (MkR w w5 w4.heap.size t (c : Int) (pos + wd t pos) f (k + 1) v5 (acc ++ [mkb t pos])) := HR.out.next hp he hO5 hg5
            clear hO5 hg5 hit hnx
            go_wp2
            go_roundw
            case rel => exact ⟨_, f, k + 1, _, by go_num, HN.out⟩
            case measure =>
              have e1 : wr.iterPos w4.heap.size = pos := by unfold World.iterPos; rw [HR.out.it]
              have e2 : w5.iterPos w4.heap.size = pos + wd t pos := by unfold World.iterPos; rw [HN.out.it]
              rw [e1, e2]
              omega
      · have hnx : ∀ ty, (Instr.next (.pointer (some ⟨w4.heap.size, 0, none⟩)) true ty).run Try.prog wr = _ := fun ty => Lib.run_next_end_at wr w4.heap.size t pos ty hit hp
        go_wp2_with (at_builtin; refine wpList_append_m _ rfl _ _ rfl w.heap.size _ acc rfl (HR.out.own.alloc _) _ 1 94 94 rfl rfl ?c1 ?c2 ?c3 ?_)
        case c1 => simp
        case c2 => have := HR.out.le; omega
        case c3 => have := HR.out.bel.size; simp; omega
        intro v5 w5 hO5 hg5
        obtain ⟨ao5, n5, cap5, S5, hv5, hS5, hcv5⟩ := hO5.conv
        have HF : Hid (Below w.heap.size w w5 ∧ MV s a = S5) := by
          obtain ⟨g, hg1, hg2, hg3, _⟩ := HR.out.own.block
          have h2 := HR.out.eq
          rw [inF_end hp, List.append_nil] at h2
          refine ⟨?_, by rw [HM.out.1, HB.out, hS5, h2]⟩
          have hB := HR.out.bel
          refine (hB.alloc hB.size _).grown hg5 (by have := hB.size; simp; omega) (fun j hj => ?_)
          rw [hg1] at hj
          simp at hj
          omega
        clear hO5 hg5 hS5
        rw [hv5]
        clear hv5
        go_wp2
        go_ret2
        exact ⟨ret_si HF.out.2.symm HM.out.2.1.symm, HF.out.1⟩
  · have hin : inB s a = false := by simpa using hin
    have HM : Hid (MV s a = ByteArray.empty ∧ SE s a = 1 ∧ SL s a = 0 ∧ SC s a = 0) := by
      refine ⟨?_, ?_, ?_, ?_⟩ <;> simp [MV, SE, SL, SC, hin]
    clear hin
    go_enter Try.func22, Try.ntmps22
    go_wp2_with fail
    refine (refSpot_any ao s a cap _ h hc hs).mono ?_
    rintro e w1 ⟨rfl, hB1⟩
    rw [HM.out.2.1, HM.out.2.2.1, HM.out.2.2.2]
    go_wp2
    go_ret2
    exact ⟨ret_si (by rw [HM.out.1]; rfl) HM.out.2.1.symm, hB1⟩
end Go.Proofs.Ytkkplmkpemajfaa.Sp
