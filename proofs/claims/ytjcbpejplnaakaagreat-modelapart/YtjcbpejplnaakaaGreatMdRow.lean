import Derived.Test.YtjcbpejplnaakaaGreatMdFresh
namespace Go.Proofs.YtjcbpejplnaakaaGreat.Md
open Go.RowKit Go.Maps Go.Proofs.YtjcbpejplnaakaaGreat.Nm

/-- a row in memory, at work since w0, and its keys -/
def Rw (w0 w : World) (g o : Nat) (F : List Nat) (ks : List Nat) : Prop := ∃ L c m ns fr, Mf w0 w g o F L c m ns.length ∧ Inv c ns fr [] ∧ Mp m c ns ∧ ks = ns.map c.key ∧ ∀ x ∈ ks, x < 18446744073709551616
section
variable {w w' w0 : World} {g o : Nat} {F : List Nat} {L : Lo} {c : Rs} {m : Nat → Option Int} {k n : Nat} {ns fr ks : List Nat}
/-- the map is turned -/
theorem Mf.putBk (h : Mf w0 w g o F L c m k) {m' : Nat → Option Int} {k' : Nat} (hb : IsBk w' L.mb m' k') (hg : w.grownBy w' (some L.mb)) : Mf w0 w' g o F L c m' k' := by
  have hblk : ∀ x, x < w.heap.size → x ≠ L.mb → w'.heap[x]? = w.heap[x]? := fun x hx hn => hg.block x hx (by simpa using hn)
  obtain ⟨cs, T, q1, q2⟩ := h.mem.row
  obtain ⟨cs2, q3, q4⟩ := h.mem.nds
  have hgl := blk_lt q1
  refine ⟨⟨⟨cs, T, (hblk g hgl h.mem.gm).trans q1, q2⟩, ⟨cs2, (hblk L.nb (blk_lt q3) h.mem.nm).trans q3, q4⟩, hb, h.mem.ne, h.mem.cap, h.mem.capm⟩, ?_, fun j hj => (cell_blk (hblk g hgl h.mem.gm) j).trans (h.rest j hj), h.inF⟩
  have hs := h.fr.size
  refine ⟨hg.os.trans h.fr.os, hg.tape.trans h.fr.tape, hg.output.trans h.fr.output, Nat.le_trans hs hg.size, fun x hx hF => ?_⟩
  rw [hblk x (by omega) ?_]
  · exact h.fr.block x hx hF
  · rintro rfl
    rcases h.inF L.mb (by simp [foot]) with e | e
    · exact hF e
    · omega
theorem Rw.below (h : Rw w0 w g o F ks) (hb : Below w.heap.size w w') : Rw w0 w' g o F ks := by
  obtain ⟨L, c, m, ns, fr, h1, h2⟩ := h
  exact ⟨L, c, m, ns, fr, h1.below hb, h2⟩
theorem Rw.has (h : Rw w0 w g o F ks) (hk : k < 18446744073709551616) : Calls Tryz.prog 62 #[.pointer (some ⟨g, o, none⟩), U k] w fun e w' => e = .returned (.bool (decide (k ∈ ks))) ∧ w' = w := by
  obtain ⟨L, c, m, ns, fr, h1, h2, h3, rfl, h5⟩ := h
  have := has_any h1.mem hk
  rw [h3.isSome] at this
  exact this
theorem Rw.count (h : Rw w0 w g o F ks) : Calls Tryz.prog 63 #[.pointer (some ⟨g, o, none⟩)] w fun e w' => e = .returned (I (ks.length : Nat)) ∧ w' = w := by
  obtain ⟨L, c, m, ns, fr, h1, h2, h3, rfl, h5⟩ := h
  rw [List.length_map]
  exact count_any h1.mem

set_option maxRecDepth 100000 in
theorem toFront_any {p s : List Nat} (h : Mf w0 w g o F L c m k) (hi : Inv c (p ++ n :: s) fr []) : Calls Tryz.prog 74 #[.pointer (some ⟨g, o, none⟩), I n] w fun e w' => e = .returned (.tuple #[]) ∧ Mf w0 w' g o F L ((c.unlink n).link n) m k := by
  have H : Hid (Mf w0 w g o F L c m k ∧ Inv c (p ++ n :: s) fr []) := ⟨h, hi⟩
  clear h hi
  go_enter Tryz.func74, Tryz.ntmps74
  go_wp2_with (go_at_call 71; refine (unlink_any H.out.1 H.out.2.nx H.out.2.ahx H.out.2.bex).mono ?_; rintro _ w1 ⟨rfl, h1⟩)
  have H1 : Hid (Mf w0 w1 g o F L (c.unlink n) m k ∧ Inv (c.unlink n) (p ++ s) fr ([] ++ [n])) := ⟨h1, H.out.2.unlink⟩
  clear h1 H
  go_wp2_with (go_at_call 70; refine (link_any H1.out.1 (x := n) (H1.out.2.lt n (by simp)) H1.out.2.pos H1.out.2.be0).mono ?_; rintro _ w2 ⟨rfl, h2⟩)
  have H2 : Hid (Mf w0 w2 g o F L ((c.unlink n).link n) m k) := h2
  clear h2 H1
  go_wp2
  go_end0
  exact ⟨rfl, H2.out⟩
set_option maxRecDepth 100000 in
theorem raise_any {p s : List Nat} (h : Mf w0 w g o F L c m k) (hi : Inv c (p ++ n :: s) fr []) {x : Nat} (hx : x < 18446744073709551616) (hm : m x = some (n : Int)) : Calls Tryz.prog 73 #[.pointer (some ⟨g, o, none⟩), U x] w fun e w' => e = .returned (.tuple #[]) ∧ Mf w0 w' g o F L ((c.unlink n).link n) m k := by
  obtain ⟨_, a1, _, _⟩ := h.mem.cellsR
  have hl := h.mem.book.look hx
  rw [hm] at hl
  have hl' : (Instr.lookup 57 (.map (some L.mb)) (U x) false).run Tryz.prog w = .ok (I (n : Int)) w := hl
  have H : Hid (Mf w0 w g o F L c m k ∧ Inv c (p ++ n :: s) fr []) := ⟨h, hi⟩
  clear h hi hl
  go_enter Tryz.func73, Tryz.ntmps73
  go_wp2_with (go_at_call 74; refine (toFront_any H.out.1 H.out.2).mono ?_; rintro _ w1 ⟨rfl, h1⟩)
  have H1 : Hid (Mf w0 w1 g o F L ((c.unlink n).link n) m k) := h1
  clear h1 H
  go_wp2
  go_end0
  exact ⟨rfl, H1.out⟩
theorem Rw.raise (h : Rw w0 w g o F ks) (hk : k ∈ ks) : Calls Tryz.prog 73 #[.pointer (some ⟨g, o, none⟩), U k] w fun e w' => e = .returned (.tuple #[]) ∧ Rw w0 w' g o F (k :: ks.erase k) := by
  obtain ⟨L, c, m, ns, fr, h1, h2, h3, rfl, h5⟩ := h
  obtain ⟨n, hn, rfl⟩ := List.mem_map.1 hk
  obtain ⟨p, s, rfl⟩ := List.append_of_mem hn
  have hkd := h2.kd
  refine (raise_any h1 h2 (h5 _ hk) ((h3 _ _).2 ⟨n, hn, rfl, rfl⟩)).mono ?_
  rintro _ w' ⟨rfl, hf⟩
  have hu := h2.unlink
  rw [List.nil_append] at hu
  have hnk : c.key n ∉ (p ++ s).map c.key := by
    simp only [List.map_append, List.map_cons] at hkd ⊢
    have := (List.perm_middle (a := c.key n) (l₁ := p.map c.key) (l₂ := s.map c.key)).nodup_iff.1 hkd
    exact (List.nodup_cons.1 this).1
  have hl := hu.link hnk
  refine ⟨rfl, L, _, m, n :: (p ++ s), fr, ?_, hl, fun kk x => ?_, ?_, fun x hx => ?_⟩
  · have : (n :: (p ++ s)).length = (p ++ n :: s).length := by simp; omega
    rw [this]
    exact hf
  · rw [h3 kk x]
    simp only [List.mem_append, List.mem_cons]
    constructor
    · rintro ⟨i, hi, h⟩
      exact ⟨i, by rcases hi with e | e | e <;> simp [e], h⟩
    · rintro ⟨i, hi, h⟩
      exact ⟨i, by rcases hi with e | e | e <;> simp [e], h⟩
  · show _ = c.key n :: (p ++ s).map c.key
    congr 1
    simp only [List.map_append, List.map_cons] at hnk ⊢
    rw [List.erase_append_right _ (fun e => hnk (List.mem_append_left _ e)), List.erase_cons_head]
  · rcases List.mem_cons.1 hx with e | e
    · rw [e]; exact h5 _ hk
    · exact h5 _ (List.mem_of_mem_erase e)
end
end Go.Proofs.YtjcbpejplnaakaaGreat.Md
