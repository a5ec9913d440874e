import Derived.Test.YtenhjebiokegkaaNmEnl
namespace Go.Proofs.Ytenhjebiokegkaa.Nm
open Go.RowKit Go.Maps Go.Proofs.Ytenhjebiokegkaa.Sp Go.Proofs.Ytenhjebiokegkaa.Lx Go.Proofs.Ytenhjebiokegkaa.Gr

/-- a row's cells -/
def rz5 (r : Rz) : List Value := [.int .i64 r.kind, .string r.name, .int .i64 r.stop, .int .i64 r.n, .int .i64 r.kids]
theorem rz5_len (l : List Rz) : (l.flatMap rz5).length = l.length * 5 := by
  induction l with
  | nil => rfl
  | cons r l ih => rw [List.flatMap_cons, List.length_append, ih, List.length_cons]; show 5 + _ = _; omega
theorem rz5_at (l : List Rz) (i j : Nat) (r : Rz) (h : l[i]? = some r) (hj : j < 5) : (l.flatMap rz5)[i * 5 + j]? = (rz5 r)[j]? := by
  induction l generalizing i with
  | nil => simp at h
  | cons y l ih =>
    rw [List.flatMap_cons]
    cases i with
    | zero =>
      simp at h
      subst h
      rw [List.getElem?_append_left (by show _ < 5; omega)]
      simp
    | succ i =>
      rw [List.getElem?_append_right (by show 5 ≤ _; omega), show (i + 1) * 5 + j - (rz5 y).length = i * 5 + j by show _ - 5 = _; omega]
      exact ih i (by simpa using h)
theorem rz_cells {w : World} {ao : Option Addr} {l : List Rz} (h : IsRz w ao l) (h0 : 0 < l.length) : ∃ g o, ao = some ⟨g, o, none⟩ ∧ g < w.heap.size ∧ ∀ j u, (l.flatMap rz5)[j]? = some u → w.cell? ((⟨g, o, none⟩ : Addr).add j) = some u := by
  obtain ⟨g, o, rfl, hg, _⟩ := h 0 l[0] (List.getElem?_eq_getElem h0)
  refine ⟨g, o, rfl, hg, fun j u hu => ?_⟩
  have hj : j < l.length * 5 := by
    have := (List.getElem?_eq_some_iff.1 hu).1
    rw [rz5_len] at this
    exact this
  have hi : j / 5 < l.length := by omega
  have hx := List.getElem?_eq_getElem hi
  have hd : j = (j / 5) * 5 + j % 5 := by omega
  rw [hd, rz5_at l (j / 5) (j % 5) _ hx (by omega)] at hu
  obtain ⟨g', o', he, _, c0, c1, c2, c3, c4⟩ := h (j / 5) _ hx
  simp only [Option.some.injEq, Addr.mk.injEq, and_true] at he
  obtain ⟨rfl, rfl⟩ := he
  rw [Lib.addr_add]
  have hm : j % 5 < 5 := by omega
  generalize j % 5 = m at hu hd hm
  generalize j / 5 = q at *
  show w.cell? ⟨g, o + j, none⟩ = _
  rw [hd]
  match m, hm with
  | 0, _ => simpa [rz5, Nat.add_assoc] using c0.trans hu
  | 1, _ => rw [← Nat.add_assoc]; exact c1.trans hu
  | 2, _ => rw [← Nat.add_assoc]; exact c2.trans hu
  | 3, _ => rw [← Nat.add_assoc]; exact c3.trans hu
  | 4, _ => rw [← Nat.add_assoc]; exact c4.trans hu
theorem rz5_one (l : List Rz) : ∀ v ∈ l.flatMap rz5, v.oneCell' = true := by
  intro v hv
  rw [List.mem_flatMap] at hv
  obtain ⟨r, _, hv⟩ := hv
  simp only [rz5, List.mem_cons, List.not_mem_nil, or_false] at hv
  rcases hv with rfl | rfl | rfl | rfl | rfl <;> rfl
theorem infoRw : (Try.prog.info? 27).map (fun i => (i.zero, i.size, i.bytes)) = some (some (.agg #[.int .i64 0, .string ⟨#[]⟩, .int .i64 0, .int .i64 0, .int .i64 0]), 5, 48) := by kernel_rfl
theorem rw_of_own {w : World} {base ad c : Nat} {l : List Rz} (h : w.ownsRow base 27 5 (.slice (some ⟨ad, 0, none⟩) l.length c) l.length (l.flatMap rz5)) : Rw w ad l := by
  have hc := h.cells (g := ad) rfl
  rcases h.2 with ⟨e, _⟩ | ⟨g, cap, cur, e, h3, h4, h5⟩
  · cases e
  · cases e
    refine ⟨_, h4, fun i x hx => ?_⟩
    have hat : ∀ j, j < 5 → ∀ u, (rz5 x)[j]? = some u → w.cell? ⟨ad, i * 5 + j, none⟩ = some u := fun j hj u hu => by
      have := hc (i * 5 + j) u ((rz5_at l i j x hx hj).trans hu)
      rw [Lib.addr_add] at this
      simpa using this
    have hce : ∀ j u, w.cell? ⟨ad, j, none⟩ = some u → cur[j]? = some u := fun j u hu => by
      simp only [World.cell?, h4] at hu
      exact hu
    exact ⟨hce _ _ (hat 0 (by decide) _ rfl), hce _ _ (hat 1 (by decide) _ rfl), hce _ _ (hat 2 (by decide) _ rfl), hce _ _ (hat 3 (by decide) _ rfl), hce _ _ (hat 4 (by decide) _ rfl)⟩
set_option maxHeartbeats 1600000 in
set_option maxRecDepth 100000 in
/-- rows copied -/
theorem clone_rows (w : World) (a : Addr) (c : Nat) (l : List Rz) (h : IsRz w (some a) l) (hn : l.length ≤ 2932031007317) :
    Calls Try.prog 19 #[.slice (some a) l.length c] w fun r w' => ∃ ad c', r = .returned (.slice (some ⟨ad, 0, none⟩) l.length c') ∧ Rw w' ad l ∧ w.heap.size ≤ ad ∧ Below w.heap.size w w' := by
  have hnil : ∀ u : World, (binOp BinOp.eql 29 (.slice (some a) l.length c) (.slice none 0 0)).run Try.prog u = .ok (.bool false) u := fun _ => rfl
  obtain ⟨i0, hi, hz0, hz1, hz2⟩ := info_parts infoRw
  have hb1 : Below w.heap.size w (w.alloc (.cells #[] 27)) := (Below.refl _ w).alloc (Nat.le_refl _) _
  have HB : Hid (Below w.heap.size w (w.alloc (.cells #[] 27))) := hb1
  have HO : Hid ((w.alloc (.cells #[] 27)).ownsRow w.heap.size 27 5 (.slice (some ⟨w.heap.size, 0, none⟩) 0 0) 0 []) := own_mk (cur := []) rfl (Nat.le_refl _) (heap_alloc_new w _) (Nat.le_refl _) (Nat.zero_le _) rfl rfl
  have HC : Hid ((∀ j u, (l.flatMap rz5)[j]? = some u → (w.alloc (.cells #[] 27)).cell? (a.add j) = some u) ∧ (∀ u ∈ l.flatMap rz5, u.oneCell' = true) ∧ (l.flatMap rz5).length = l.length * 5 ∧ l.length ≤ 2932031007317) := by
    refine ⟨fun j u hu => ?_, rz5_one l, rz5_len l, hn⟩
    have h0 : 0 < l.length := by
      have := (List.getElem?_eq_some_iff.1 hu).1
      rw [rz5_len] at this
      omega
    obtain ⟨g, o, e, hg, hc⟩ := rz_cells (h.below hb1) h0
    cases e
    exact hc j u hu
  generalize hxs : l.flatMap rz5 = xs at *
  have HX : Hid (l.flatMap rz5 = xs) := hxs
  clear hxs
  clear h hn hb1
  go_enter Try.func19, Try.ntmps19
  go_wp2_with (at_builtin; refine wpList_append_own _ rfl _ _ 29 rfl w.heap.size 27 i0 (.agg #[.int .i64 0, .string ⟨#[]⟩, .int .i64 0, .int .i64 0, .int .i64 0]) 5 48 Try.underlying29 hi hz0 hz1 hz2 rfl (by decide) (.slice (some ⟨w.heap.size, 0, none⟩) 0 0) 0 [] rfl HO.out a l.length c xs rfl HC.out.2.2.1 HC.out.1 HC.out.2.1 ?c3 ?c4 ?c5 ?_)
  case c3 => have := HC.out.2.2.2; unfold maxLen; omega
  case c4 => have := HC.out.2.2.2; omega
  case c5 => exact HB.out.size
  intro v' w2 ho hg hiff
  have HR : Hid (w2.ownsRow w.heap.size 27 5 v' l.length xs ∧ Below w.heap.size w w2) := ⟨ho, HB.out.grown hg HB.out.size (fun k e => by cases e; exact Nat.le_refl _)⟩
  have hform : ∃ ad c', v' = .slice (some ⟨ad, 0, none⟩) l.length c' := by
    rcases HR.out.1.2 with ⟨e1, _⟩ | ⟨g, cap, cur, e1, _⟩
    · exact absurd e1 hiff
    · exact ⟨g, cap, e1⟩
  obtain ⟨ad, c', rfl⟩ := hform
  clear ho hg hiff
  go_wp2
  go_ret
  have ho := HR.out.1
  rw [← HX.out] at ho
  exact ⟨_, _, rfl, rw_of_own ho, (World.ownsRow.lt ho ad rfl).1, HR.out.2⟩
end Go.Proofs.Ytenhjebiokegkaa.Nm
