import Derived.Test.YtkdepeadledpnaaGrKn
namespace Go.Proofs.Ytkdepeadledpnaa.Gr
open Go.RowKit Go.Proofs.Ytkdepeadledpnaa.Sp Go.Proofs.Ytkdepeadledpnaa.Lx Go.Maps

/-- what the parser wants of tokens -/
structure TokOk (s : ByteArray) (ts : List Tok) : Prop where
  pos : 0 < ts.length
  len : ts.length ≤ 65537
  tok : ∀ (i : Nat) (x : Tok), ts[i]? = some x → x.at_ ≤ x.stop ∧ x.stop ≤ s.size ∧ x.kind ≤ 5 ∧ x.n ≤ 1073741824
  fin : ∀ (i : Nat) (x : Tok), ts[i]? = some x → (i + 1 = ts.length ∧ x.kind = 0 ∧ x.at_ = x.stop) ∨ (i + 1 < ts.length ∧ x.kind ≠ 0 ∧ x.at_ < x.stop)
theorem all_of (ts : List Tok) (P : Nat → Tok → Prop) (h : ∀ i, i < ts.length → P i (ts.getD i ⟨0, 0, 0, 0⟩)) (i : Nat) (x : Tok) (hx : ts[i]? = some x) : P i x := by
  have hi := (List.getElem?_eq_some_iff.1 hx).1
  have := h i hi
  rw [List.getD_eq_getElem?_getD, hx] at this
  exact this
theorem tokOk1 : TokOk tx1 tk1 := ⟨by decide, by decide, all_of _ _ (by decide), all_of _ _ (by decide)⟩
theorem tokOk2 : TokOk tx2 tk2 := ⟨by decide, by decide, all_of _ _ (by decide), all_of _ _ (by decide)⟩

theorem bytes_of {w W : World} {ao : Option Addr} {s : ByteArray} (h : IsBytes w ao s) (hs : w.heap.size ≤ W.heap.size) (hb : ∀ k, k < w.heap.size → W.heap[k]? = w.heap[k]?) : IsBytes W ao s := by
  intro i hi
  obtain ⟨g, o, e, hg, hc⟩ := h i hi
  exact ⟨g, o, e, Nat.lt_of_lt_of_le hg hs, (World.cell?_of_block (a := ⟨g, o + i, none⟩) (hb g hg)).trans hc⟩
theorem toks_of {w W : World} {ao : Option Addr} {ts : List Tok} (h : IsToks w ao ts) (hs : w.heap.size ≤ W.heap.size) (hb : ∀ k, k < w.heap.size → W.heap[k]? = w.heap[k]?) : IsToks W ao ts := by
  intro i x hx
  obtain ⟨g, o, e, hg, h1, h2, h3, h4⟩ := h i x hx
  have hc : ∀ j, W.cell? ⟨g, j, none⟩ = w.cell? ⟨g, j, none⟩ := fun j => World.cell?_of_block (a := ⟨g, j, none⟩) (hb g hg)
  exact ⟨g, o, e, Nat.lt_of_lt_of_le hg hs, (hc _).trans h1, (hc _).trans h2, (hc _).trans h3, (hc _).trans h4⟩

set_option maxHeartbeats 6400000 in
set_option maxRecDepth 100000 in
theorem parse_ok (ao : Option Addr) (s : ByteArray) (cap : Nat) (w : World) (h : IsBytes w ao s) (hc : s.size ≤ cap) (hs : s.size ≤ 1048576) (ts : List Tok) (hf : full s = .ok ts) (ht : TokOk s ts) (n : Nat) (r : R Unit)
    (hr : ∀ (g : Nat) (w0 : World) (ta : Option Addr) (tcap : Nat) (to : Option Addr) (toc m0 m1 m2 m3 m4 m5 : Nat), policy ⟨g, w0, s, ta, tcap, ts, to, toc, 0, 0, m0, m1, m2, m3, m4, m5⟩ n ps0 = some r) :
    Calls Try.prog 7 #[.slice ao s.size cap] w fun e w' => Tree w r e w' ∧ Below w.heap.size w w' := by
  have HI : Hid (IsBytes w ao s) := h
  have HT : Hid (TokOk s ts ∧ s.size ≤ cap ∧ s.size ≤ 1048576) := ⟨ht, hc, hs⟩
  have HR : Hid (∀ (g : Nat) (w0 : World) (ta : Option Addr) (tcap : Nat) (to : Option Addr) (toc m0 m1 m2 m3 m4 m5 : Nat), policy ⟨g, w0, s, ta, tcap, ts, to, toc, 0, 0, m0, m1, m2, m3, m4, m5⟩ n ps0 = some r) := hr
  have hB1 : Below w.heap.size w (w.alloc (.cells #[.int .i64 0, .int .i64 0] 28)) := (Below.refl _ w).alloc (Nat.le_refl _) _
  have hsc := scan_parts ao s cap (w.alloc (.cells #[.int .i64 0, .int .i64 0] 28)) (h.below hB1) hc
  rw [hf] at hsc
  have HS : Hid (Calls Try.prog 12 #[.slice ao s.size cap] (w.alloc (.cells #[.int .i64 0, .int .i64 0] 28)) fun e w' => (∃ bo bc, e = .returned (.tuple #[.slice bo ts.length bc, .agg #[.int .i64 (0 : Nat), .int .i64 (0 : Nat)]]) ∧ TokRow w' (w.alloc (.cells #[.int .i64 0, .int .i64 0] 28)).heap.size (.slice bo ts.length bc) ts) ∧ Below (w.alloc (.cells #[.int .i64 0, .int .i64 0] 28)).heap.size (w.alloc (.cells #[.int .i64 0, .int .i64 0] 28)) w') := hsc
  have HV : Hid ((w.alloc (.cells #[.int .i64 0, .int .i64 0] 28)).heap[w.heap.size]? = some (.cells #[.int .i64 0, .int .i64 0] 28 (0, 0)) ∧ Below w.heap.size w (w.alloc (.cells #[.int .i64 0, .int .i64 0] 28)) ∧ (w.alloc (.cells #[.int .i64 0, .int .i64 0] 28)).heap.size = w.heap.size + 1) := ⟨heap_alloc_new w _, hB1, by simp⟩
  clear h ht hc hs hr hsc hB1 hf
  go_enter Try.func7, Try.ntmps7
  go_wp2_with fail
  generalize w.alloc (.cells #[.int .i64 0, .int .i64 0] 28) = w1 at *
  refine HS.out.mono ?_
  rintro e w2 ⟨⟨bo, bc, rfl, hrow⟩, hB2⟩
  have hB3 : Below w1.heap.size w1 (w2.alloc (.cells #[.int .i64 0, .int .i64 0] 28)) := hB2.alloc hB2.size _
  have HW3 : Hid ((w2.alloc (.cells #[.int .i64 0, .int .i64 0] 28)).heap[w.heap.size]? = some (.cells #[.int .i64 0, .int .i64 0] 28 (0, 0)) ∧ Below w.heap.size w (w2.alloc (.cells #[.int .i64 0, .int .i64 0] 28)) ∧ IsToks (w2.alloc (.cells #[.int .i64 0, .int .i64 0] 28)) bo ts ∧ IsBytes (w2.alloc (.cells #[.int .i64 0, .int .i64 0] 28)) ao s ∧ w.heap.size < (w2.alloc (.cells #[.int .i64 0, .int .i64 0] 28)).heap.size) := by
    have hz := HV.out.2.2
    have hB := HV.out.2.1.trans (hB3.mono HV.out.2.1.size)
    refine ⟨(hB3.block _ (by omega)).trans HV.out.1, hB, (hrow.below ((Below.refl _ w2).alloc (Nat.le_refl _) _)).read, HI.out.below hB, ?_⟩
    have := hB3.size
    omega
  clear hrow hB2 hB3 HS HV HI
  go_wp2_with fail
  generalize w2.alloc (.cells #[.int .i64 0, .int .i64 0] 28) = w3 at *
  refine (new_any w3 ao s.size cap bo ts.length bc 0 0).mono ?_
  rintro e w4 ⟨rfl, m0, m1, m2, m3, m4, m5, hK, ⟨a0, b0⟩, ⟨a1, b1⟩, ⟨a2, b2⟩, ⟨a3, b3⟩, ⟨a4, b4⟩, ⟨a5, b5⟩⟩
  have hB4 := hK.bel
  have hgw := (Array.getElem?_eq_some_iff.1 hK.blk).1
  obtain ⟨E, hE⟩ : ∃ E : Env, E = ⟨w3.heap.size + 1, w4, s, ao, cap, ts, bo, bc, 0, 0, m0, m1, m2, m3, m4, m5⟩ := ⟨_, rfl⟩
  have hsame : ∀ W, E.Fix W → ∀ k, k < w3.heap.size → W.heap[k]? = w3.heap[k]? := fun W hW k hk => by
    have h1 := hW.block k (by rw [hE]; show k < w4.heap.size; have := hB4.size; omega) (by rw [hE]; show k ≠ w3.heap.size + 1; omega)
    rw [hE] at h1
    exact h1.trans (hB4.block k hk)
  have hsz : ∀ W, E.Fix W → w3.heap.size ≤ W.heap.size := fun W hW => by
    have h1 := hW.size
    rw [hE] at h1
    exact Nat.le_trans hB4.size h1
  have hmap : ∀ W, E.Fix W → ∀ b, b < w4.heap.size → b ≠ w3.heap.size + 1 → W.heap[b]? = w4.heap[b]? := fun W hW b h1 h2 => by
    have h3 := hW.block b (by rw [hE]; exact h1) (by rw [hE]; exact h2)
    rw [hE] at h3
    exact h3
  have ok : E.Ok := by
    have hT := HT.out
    refine ⟨by rw [hE]; exact hgw, fun W hW => ?_, fun W hW => ?_, by rw [hE]; exact hT.2.1, by rw [hE]; exact hT.2.2, by rw [hE]; exact hT.1.len, by rw [hE]; exact hT.1.tok, by rw [hE]; exact hT.1.fin⟩
    · have := bytes_of HW3.out.2.2.2.1 (hsz W hW) (hsame W hW)
      rw [hE]; exact this
    · have := toks_of HW3.out.2.2.1 (hsz W hW) (hsame W hW)
      rw [hE]; exact this
  have T : E.Tabs := by
    refine ⟨fun W hW => ?_, fun W hW => ?_, fun W hW => ?_, fun W hW => ?_, fun W hW => ?_, fun W hW => ?_⟩
    · have := map_of_block a0 (hmap W hW m0 (map_lt a0) b0); rw [hE]; exact this
    · have := map_of_block a1 (hmap W hW m1 (map_lt a1) b1); rw [hE]; exact this
    · have := map_of_block a2 (hmap W hW m2 (map_lt a2) b2); rw [hE]; exact this
    · have := map_of_block a3 (hmap W hW m3 (map_lt a3) b3); rw [hE]; exact this
    · have := map_of_block a4 (hmap W hW m4 (map_lt a4) b4); rw [hE]; exact this
    · have := map_of_block a5 (hmap W hW m5 (map_lt a5) b5); rw [hE]; exact this
  have hT0 := tree_any E ok T (by rw [hE]; exact HT.out.1.pos) (by rw [hE]; exact hK.blk) n r (by rw [hE]; exact HR.out _ _ _ _ _ _ _ _ _ _ _ _)
  have HTr : Hid (Calls Try.prog 14 #[.pointer (some ⟨w3.heap.size + 1, 0, none⟩)] w4 fun e w' => Tree w4 r e w' ∧ w4.heap.size ≤ w'.heap.size ∧ (w'.os = w4.os ∧ w'.tape = w4.tape ∧ w'.output = w4.output) ∧ ∀ k, k < w4.heap.size → k ≠ w3.heap.size + 1 → w'.heap[k]? = w4.heap[k]?) := by
    rw [hE] at hT0
    exact hT0.mono fun e w' hh => ⟨hh.1, hh.2.size, ⟨hh.2.os, hh.2.tape, hh.2.output⟩, hh.2.block⟩
  have HB4 : Hid (Below w3.heap.size w3 w4) := hB4
  clear hT0 T ok hmap hsz hsame hE E hK hgw a0 a1 a2 a3 a4 a5 b0 b1 b2 b3 b4 b5 hB4 HT HR
  go_wp2_with fail
  refine HTr.out.mono ?_
  rintro e w5 ⟨hTree, hz5, ⟨p1, p2, p3⟩, hk5⟩
  have hv5 : w5.heap[w.heap.size]? = some (.cells #[.int .i64 0, .int .i64 0] 28 (0, 0)) := by
    have h1 := HW3.out
    have h2 := HB4.out.size
    rw [hk5 _ (by omega) (by omega), HB4.out.block _ h1.2.2.2.2]
    exact h1.1
  have hb5 : Below w.heap.size w w5 := by
    have h1 := HW3.out
    have h2 := HB4.out.size
    have h3 := h1.2.1.trans (HB4.out.mono (by omega))
    refine h3.trans ⟨p1, p2, p3, hz5, fun k hk => hk5 k (by omega) (by omega)⟩
  have c0 : w5.cell? ⟨w.heap.size, 0, none⟩ = some (.int .i64 0) := by simp [World.cell?, hv5]
  have c1 : w5.cell? ⟨w.heap.size, 1, none⟩ = some (.int .i64 0) := by simp [World.cell?, hv5]
  have f0 : w5.frozen? ⟨w.heap.size, 0, none⟩ = false := by simp [World.frozen?, hv5]
  have f1 : w5.frozen? ⟨w.heap.size, 1, none⟩ = false := by simp [World.frozen?, hv5]
  have HB5 : Hid (Below w.heap.size w w5 ∧ w.heap.size < w4.heap.size ∧ w.heap.size ≤ w4.heap.size) := ⟨hb5, by have h1 := HW3.out.2.2.2.2; have h2 := HB4.out.size; omega, by have h1 := HW3.out.2.2.2.2; have h2 := HB4.out.size; omega⟩
  clear hv5 hb5 hk5 hz5 p1 p2 p3 HB4 HW3 HTr
  cases r with
  | die er i =>
    obtain rfl : e = .returned (.tuple #[.slice none 0 0, .slice none 0 0, .agg #[.int .i64 er, .int .i64 i]]) := hTree
    go_wp2_with fail
    refine bodyPost_ret (v := .tuple #[.slice none 0 0, .slice none 0 0, .agg #[.int .i64 er, .int .i64 i]]) (by simp [results, Try.results7, go_sem, c0, c1]) rfl ⟨rfl, ?_⟩
    exact (HB5.out.1.setCell (p := ⟨w.heap.size, 0, none⟩) (Nat.le_refl _) _).setCell (p := ⟨w.heap.size, 1, none⟩) (Nat.le_refl _) _
  | ok u st =>
    obtain ⟨a, b, rfl, ha, hb⟩ := hTree
    have HA : Hid (w5.ownsRow w4.heap.size 33 5 a st.rows.length (st.rows.flatMap rc) ∧ w5.ownsRow w4.heap.size 3 1 b st.places.length (st.places.map nc)) := ⟨ha, hb⟩
    clear ha hb
    go_wp2_with fail
    refine bodyPost_ret (v := .tuple #[a, b, .agg #[.int .i64 0, .int .i64 0]]) (by simp [results, Try.results7, go_sem, c0, c1]) rfl ⟨⟨a, b, rfl, ?_, ?_⟩, ?_⟩
    · refine own_base (own_of_block HA.out.1 fun k hk => ?_) HB5.out.2.2
      have h1 := (World.ownsRow.lt HA.out.1 k hk).1
      have h2 := HB5.out.2.1
      rw [Below.heap_setCell _ _ _ k (by show k ≠ w.heap.size; omega), Below.heap_setCell _ _ _ k (by show k ≠ w.heap.size; omega)]
    · refine own_base (own_of_block HA.out.2 fun k hk => ?_) HB5.out.2.2
      have h1 := (World.ownsRow.lt HA.out.2 k hk).1
      have h2 := HB5.out.2.1
      rw [Below.heap_setCell _ _ _ k (by show k ≠ w.heap.size; omega), Below.heap_setCell _ _ _ k (by show k ≠ w.heap.size; omega)]
    · exact (HB5.out.1.setCell (p := ⟨w.heap.size, 0, none⟩) (Nat.le_refl _) _).setCell (p := ⟨w.heap.size, 1, none⟩) (Nat.le_refl _) _
end Go.Proofs.Ytkdepeadledpnaa.Gr
