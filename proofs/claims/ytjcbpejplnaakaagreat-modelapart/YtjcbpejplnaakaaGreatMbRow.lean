import Derived.Test.YtjcbpejplnaakaaGreatMbFresh
namespace Go.Proofs.YtjcbpejplnaakaaGreat.Mb
open Go.RowKit Go.Maps Go.Proofs.YtjcbpejplnaakaaGreat.Nm Go.Proofs.YtjcbpejplnaakaaGreat.Md

/-- what lies in a row: its keys, each with what it holds -/
def prs (c : Rs) (hd : Nat → Bool) (ns : List Nat) : List (Nat × Bool) := ns.map fun n => (c.key n, hd n)
theorem prs_fst (c : Rs) (hd : Nat → Bool) (ns : List Nat) : (prs c hd ns).map Prod.fst = ns.map c.key := by simp [prs, Function.comp_def]
theorem prs_congr {c c' : Rs} {hd hd' : Nat → Bool} {ns : List Nat} (h : ∀ i ∈ ns, c'.key i = c.key i ∧ hd' i = hd i) : prs c' hd' ns = prs c hd ns := List.map_congr_left fun i hi => by rw [(h i hi).1, (h i hi).2]
/-- a row in memory, at work since w0 -/
def Rw (w0 w : World) (g o : Nat) (F : List Nat) (ps : List (Nat × Bool)) : Prop := ∃ L c hd m ns fr, Mf w0 w g o F L c hd m ns.length ∧ Inv c ns fr [] ∧ Mp m c ns ∧ ps = prs c hd ns ∧ ∀ x ∈ ps, x.1 < 18446744073709551616
section
variable {w w' w0 : World} {g o : Nat} {F : List Nat} {L : Lo} {c : Rs} {hd : Nat → Bool} {m : Nat → Option Int} {k n : Nat} {ns fr : List Nat} {ps : List (Nat × Bool)}
/-- the map is turned -/
theorem Mf.putBk (h : Mf w0 w g o F L c hd m k) {m' : Nat → Option Int} {k' : Nat} (hb : IsBk w' L.mb m' k') (hg : w.grownBy w' (some L.mb)) : Mf w0 w' g o F L c hd m' k' := by
  have hblk : ∀ x, x < w.heap.size → x ≠ L.mb → w'.heap[x]? = w.heap[x]? := fun x hx hn => hg.block x hx (by simpa using hn)
  obtain ⟨cs, T, q1, q2⟩ := h.mem.row
  obtain ⟨cs2, q3, q4⟩ := h.mem.nds
  have hgl := blk_lt q1
  refine ⟨⟨⟨cs, T, (hblk g hgl h.mem.gm).trans q1, q2⟩, ⟨cs2, (hblk L.nb (blk_lt q3) h.mem.nm).trans q3, q4⟩, hb, h.mem.ne, h.mem.cap, h.mem.capm⟩, ?_, fun j hj => (cell_blk (hblk g hgl h.mem.gm) j).trans (h.rest j hj), h.inF⟩
  have hs := h.fr.size
  refine ⟨hg.os.trans h.fr.os, hg.tape.trans h.fr.tape, hg.output.trans h.fr.output, Nat.le_trans hs hg.size, fun x hx hF => ?_⟩
  rw [hblk x (by omega) ?_]
  · exact h.fr.block x hx hF
  · rintro rfl
    rcases h.inF L.mb (by simp [foot]) with e | e
    · exact hF e
    · omega
theorem Rw.below (h : Rw w0 w g o F ps) (hb : Below w.heap.size w w') : Rw w0 w' g o F ps := by
  obtain ⟨L, c, hd, m, ns, fr, h1, h2⟩ := h
  exact ⟨L, c, hd, m, ns, fr, h1.below hb, h2⟩
theorem Rw.has (h : Rw w0 w g o F ps) (hk : k < 18446744073709551616) : Calls Tryz.prog 77 #[.pointer (some ⟨g, o, none⟩), U k] w fun e w' => e = .returned (.bool (decide (k ∈ ps.map Prod.fst))) ∧ w' = w := by
  obtain ⟨L, c, hd, m, ns, fr, h1, h2, h3, rfl, h5⟩ := h
  have := has_any h1.mem hk
  rw [h3.isSome] at this
  rw [prs_fst]
  exact this
theorem Rw.count (h : Rw w0 w g o F ps) : Calls Tryz.prog 79 #[.pointer (some ⟨g, o, none⟩)] w fun e w' => e = .returned (I (ps.length : Nat)) ∧ w' = w := by
  obtain ⟨L, c, hd, m, ns, fr, h1, h2, h3, rfl, h5⟩ := h
  unfold prs
  rw [List.length_map]
  exact count_any h1.mem
set_option maxRecDepth 100000 in
theorem toFront_any {p s : List Nat} (h : Mf w0 w g o F L c hd m k) (hi : Inv c (p ++ n :: s) fr []) : Calls Tryz.prog 85 #[.pointer (some ⟨g, o, none⟩), I n] w fun e w' => e = .returned (.tuple #[]) ∧ Mf w0 w' g o F L ((c.unlink n).link n) hd m k := by
  have H : Hid (Mf w0 w g o F L c hd m k ∧ Inv c (p ++ n :: s) fr []) := ⟨h, hi⟩
  clear h hi
  go_enter Tryz.func85, Tryz.ntmps85
  go_wp2_with (go_at_call 89; refine (unlink_any H.out.1 H.out.2.nx H.out.2.ahx H.out.2.bex).mono ?_; rintro _ w1 ⟨rfl, h1⟩)
  have H1 : Hid (Mf w0 w1 g o F L (c.unlink n) hd m k ∧ Inv (c.unlink n) (p ++ s) fr ([] ++ [n])) := ⟨h1, H.out.2.unlink⟩
  clear h1 H
  go_wp2_with (go_at_call 88; refine (link_any H1.out.1 (x := n) (H1.out.2.lt n (by simp)) H1.out.2.pos H1.out.2.be0).mono ?_; rintro _ w2 ⟨rfl, h2⟩)
  have H2 : Hid (Mf w0 w2 g o F L ((c.unlink n).link n) hd m k) := h2
  clear h2 H1
  go_wp2
  go_end0
  exact ⟨rfl, H2.out⟩
set_option maxRecDepth 100000 in
theorem turn_any {p : List Nat} (h : Mf w0 w g o F L c hd m k) (hi : Inv c (p ++ [n]) fr []) : Calls Tryz.prog 81 #[.pointer (some ⟨g, o, none⟩)] w fun e w' => e = .returned (.tuple #[]) ∧ Mf w0 w' g o F L ((c.unlink n).link n) hd m k := by
  have hlast : c.ah 0 = n := by
    rw [hi.seg.last]
    simp
  have h0 := hi.pos
  have h0' : (0 : Int) < (c.n : Int) := by omega
  obtain ⟨a0, _, _, _⟩ := h.mem.cellsR
  obtain ⟨_, _, n1, _, _⟩ := h.mem.cellsN h0
  rw [Nat.zero_mul, hlast] at n1
  have H : Hid (Mf w0 w g o F L c hd m k ∧ Inv c (p ++ [n]) fr []) := ⟨h, hi⟩
  clear h hi hlast
  go_enter Tryz.func81, Tryz.ntmps81
  go_wp2_with fail
  refine (toFront_any H.out.1 H.out.2).mono ?_
  rintro _ w1 ⟨rfl, h1⟩
  have H1 : Hid (Mf w0 w1 g o F L ((c.unlink n).link n) hd m k) := h1
  clear h1 H
  go_wp2
  go_end0
  exact ⟨rfl, H1.out⟩
theorem Rw.turn {l : List (Nat × Bool)} {x : Nat × Bool} (h : Rw w0 w g o F (l ++ [x])) : Calls Tryz.prog 81 #[.pointer (some ⟨g, o, none⟩)] w fun e w' => e = .returned (.tuple #[]) ∧ Rw w0 w' g o F (x :: l) := by
  obtain ⟨L, c, hd, m, ns, fr, h1, h2, h3, h4, h5⟩ := h
  obtain ⟨p, q, rfl, rfl, h7⟩ := List.map_eq_append_iff.1 h4.symm
  obtain ⟨n, q2, rfl, rfl, h8⟩ := List.map_eq_cons_iff.1 h7
  rw [List.map_eq_nil_iff] at h8
  subst h8
  clear h7
  refine (turn_any h1 h2).mono ?_
  rintro _ w' ⟨rfl, hf⟩
  have hu := h2.unlink
  rw [List.nil_append, List.append_nil] at hu
  have hkd := h2.kd
  rw [List.map_append, List.nodup_append] at hkd
  have hnk : c.key n ∉ p.map c.key := fun e => hkd.2.2 _ e _ (by simp) rfl
  refine ⟨rfl, L, _, hd, m, n :: p, fr, ?_, hu.link hnk, fun kk x => ?_, rfl, fun y hy => h5 y ?_⟩
  · have : (n :: p).length = (p ++ [n]).length := by simp
    rw [this]
    exact hf
  · rw [h3 kk x]
    constructor
    · rintro ⟨i, hi, h⟩
      exact ⟨i, by rcases List.mem_append.1 hi with e | e <;> simp_all, h⟩
    · rintro ⟨i, hi, h⟩
      exact ⟨i, by rcases List.mem_cons.1 hi with e | e <;> simp_all, h⟩
  · rcases List.mem_cons.1 hy with e | e
    · rw [e]; simp
    · exact List.mem_append_left _ e
end
end Go.Proofs.YtjcbpejplnaakaaGreat.Mb
