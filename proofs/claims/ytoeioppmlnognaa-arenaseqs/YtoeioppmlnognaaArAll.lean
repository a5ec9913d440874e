import Derived.Test.YtoeioppmlnognaaArFace
import Derived.Test.YtoeioppmlnognaaArFresh
import Derived.Deep.LoopGhost
namespace Go.Proofs.Ytoeioppmlnognaa.Ar
open Go.RowKit

/-- a list from an end on, or nothing -/
def As.seq (a : As) (l e : Int) : List Nat := if a.okL l e then dir e.toNat (a.L l.toNat) else []
theorem As.peek_seq (a : As) (l e : Int) : a.peek l e = (a.seq l e).head? := by
  unfold As.peek As.seq
  split <;> rfl
theorem IsAr.below {w w' : World} {g : Nat} {o : Lo} {a : As} (h : IsAr w g o a) (hb : Below w.heap.size w w') : IsAr w' g o a := by
  obtain ⟨c, hm, hi⟩ := h
  exact ⟨c, hm.below hb, hi⟩
theorem IsAr.seq_lt {w : World} {g : Nat} {o : Lo} {a : As} (h : IsAr w g o a) {l e : Int} : ∀ x ∈ a.seq l e, x < a.used ∧ x < a.size := by
  obtain ⟨c, hm, hi⟩ := h
  intro x hx
  unfold As.seq at hx
  split at hx
  · rename_i hk
    have := (hi.lt l.toNat (by have := hk.1; omega) x ((mem_dir _ _ _).1 hx)).1
    exact ⟨this, Nat.lt_of_lt_of_le this hm.us⟩
  · cases hx
theorem IsAr.seq_len {w : World} {g : Nat} {o : Lo} {a : As} (h : IsAr w g o a) (l e : Int) : (a.seq l e).length ≤ 4194304 := by
  obtain ⟨c, hm, hi⟩ := h
  unfold As.seq
  split
  · rename_i hk
    rw [dir_len]
    have h1 : l.toNat < a.nl := by have := hk.1; omega
    have := tl_le a.L l.toNat a.nl h1
    have := hi.tot
    have := hm.us
    have := hm.sz
    omega
  · simp
theorem IsAr.next {w : World} {g : Nat} {o : Lo} {a : As} (h : IsAr w g o a) {l e : Int} {p q : List Nat} {x : Nat} (hs : a.seq l e = p ++ x :: q) : a.next x (1 - e) = q.head? := by
  obtain ⟨c, hm, hi⟩ := h
  unfold As.seq at hs
  split at hs
  · rename_i hk
    have hl : l.toNat < a.nl := by have := hk.1; omega
    have hx : x ∈ a.L l.toNat := (mem_dir e.toNat _ _).1 (by rw [hs]; simp)
    have hw := hi.wh hl hx
    have hnd := nodup_dir (e := e.toNat) (hi.nd _ hl)
    rw [hs, List.nodup_append] at hnd
    have hxp : x ∉ p := fun hm => hnd.2.2 x hm x (by simp) rfl
    have hxq : x ∉ q := (List.nodup_cons.1 hnd.2.1).1
    unfold As.next
    rw [if_pos ⟨by omega, by have := hk.2; omega⟩, Int.toNat_natCast, hw]
    rcases hk.2 with rfl | rfl
    · have e1 : a.L l.toNat = p ++ x :: q := hs
      show nbr (a.L l.toNat) x 1 = _
      rw [e1]
      exact (nbr_mid hxp).2
    · have e1 : (a.L l.toNat).reverse = p ++ x :: q := hs
      have e2 : a.L l.toNat = q.reverse ++ x :: p.reverse := by
        have := congrArg List.reverse e1
        simpa using this
      show nbr (a.L l.toNat) x 0 = _
      rw [e2]
      have := (nbr_mid (p := q.reverse) (q := p.reverse) (x := x) (by simpa using hxq)).1
      rw [List.getLast?_reverse] at this
      exact this
  · have := congrArg List.length hs
    simp at this

theorem IsAr.held {w : World} {g : Nat} {o : Lo} {a : As} (h : IsAr w g o a) {l e : Int} {x : Nat} (hx : x ∈ a.seq l e) : ∃ b, ∀ u, Below w.heap.size w u → (Calls Try.prog 58 #[.pointer (some ⟨g, 0, none⟩), I x] u fun r w' => r = .returned (.pointer (some ⟨b, x % 64 * 4, none⟩)) ∧ w' = u) ∧ u.cell? ⟨b, x % 64 * 4 + 3, none⟩ = some (I (a.val x)) := by
  obtain ⟨h1, h2⟩ := h.seq_lt x hx
  obtain ⟨c, hm, hi⟩ := h
  obtain ⟨b, hb⟩ := hm.page h1
  refine ⟨b, fun u hu => ⟨at_any (hm.below hu) h2 hb, ?_⟩⟩
  obtain ⟨_, _, _, s3, _⟩ := (hm.below hu).cellsS h2 hb
  unfold As.seq at hx
  split at hx
  · rename_i hk
    have := (hi.lt l.toNat (by have := hk.1; omega) x ((mem_dir _ _ _).1 hx)).2.2
    rw [← this]
    exact s3
  · cases hx
theorem own_ne {W : World} {base : Nat} {e : TypeId} {sz : Nat} {v : Value} {n : Nat} {xs : List Value} {A : Nat} {cs : Array Value} {T : TypeId} {f : Nat × Nat} (h : W.ownsRow base e sz v n xs) (hA : W.heap[A]? = some (.cells cs T f)) (hT : T ≠ e) : v.ownBlock ≠ some A := by
  intro he
  rcases h.2 with ⟨e1, _⟩ | ⟨g', cap, cur, e1, _, e3, _⟩
  · rw [e1] at he; cases he
  · rw [e1] at he
    simp only [Value.ownBlock, Option.some.injEq] at he
    subst he
    exact absurd rfl (ne_of_type e3 hA hT.symm)
/-- two rows that a call has made, in two boxes -/
structure Two (w0 : World) (n0 A B : Nat) (W : World) (v1 v2 : Value) (xs ys : List Value) : Prop where
  bA : W.heap[A]? = some (.cells #[v1] 31 (0, 0))
  bB : W.heap[B]? = some (.cells #[v2] 31 (0, 0))
  o1 : W.ownsRow n0 3 1 v1 xs.length xs
  o2 : W.ownsRow n0 3 1 v2 ys.length ys
  ne : ∀ g, v1.ownBlock = some g → v2.ownBlock ≠ some g
  be : Below n0 w0 W
  hA : n0 ≤ A
  hB : n0 ≤ B
  hAB : A ≠ B
  sz : n0 ≤ w0.heap.size
section
variable {w0 : World} {n0 A B : Nat} {W W' : World} {v1 v2 : Value} {xs ys : List Value}
theorem Two.below (h : Two w0 n0 A B W v1 v2 xs ys) (hb : Below W.heap.size W W') : Two w0 n0 A B W' v1 v2 xs ys :=
  ⟨(hb.block A (Array.getElem?_eq_some_iff.1 h.bA).1).trans h.bA, (hb.block B (Array.getElem?_eq_some_iff.1 h.bB).1).trans h.bB, own_below h.o1 hb, own_below h.o2 hb, h.ne, h.be.trans (hb.mono (Nat.le_trans h.sz h.be.size)), h.hA, h.hB, h.hAB, h.sz⟩
theorem Two.cells (h : Two w0 n0 A B W v1 v2 xs ys) : W.cell? ⟨A, 0, none⟩ = some v1 ∧ W.frozen? ⟨A, 0, none⟩ = false ∧ W.cell? ⟨B, 0, none⟩ = some v2 ∧ W.frozen? ⟨B, 0, none⟩ = false :=
  ⟨by simp [World.cell?, h.bA], by simp [World.frozen?, h.bA], by simp [World.cell?, h.bB], by simp [World.frozen?, h.bB]⟩
theorem Two.gone1 (h : Two w0 n0 A B W v1 v2 xs ys) {v1' : Value} (hG : Gone W v1 W' v1') : W'.cell? ⟨A, 0, none⟩ = some v1 ∧ W'.frozen? ⟨A, 0, none⟩ = false := by
  have e := (hG.1.block A (Array.getElem?_eq_some_iff.1 h.bA).1 (fun e => own_ne h.o1 h.bA (by decide) e.symm)).trans h.bA
  exact ⟨by simp [World.cell?, e], by simp [World.frozen?, e]⟩
theorem Two.gone2 (h : Two w0 n0 A B W v1 v2 xs ys) {v2' : Value} (hG : Gone W v2 W' v2') : W'.cell? ⟨B, 0, none⟩ = some v2 ∧ W'.frozen? ⟨B, 0, none⟩ = false := by
  have e := (hG.1.block B (Array.getElem?_eq_some_iff.1 h.bB).1 (fun e => own_ne h.o2 h.bB (by decide) e.symm)).trans h.bB
  exact ⟨by simp [World.cell?, e], by simp [World.frozen?, e]⟩
theorem Two.put1 (h : Two w0 n0 A B W v1 v2 xs ys) {v1' u : Value} (hG : Gone W v1 W' v1') (ho : W'.ownsRow n0 3 1 v1' (xs.length + 1) (xs ++ [u])) : Two w0 n0 A B (W'.setCell ⟨A, 0, none⟩ v1') v1' v2 (xs ++ [u]) ys := by
  have eA := (hG.1.block A (Array.getElem?_eq_some_iff.1 h.bA).1 (fun e => own_ne h.o1 h.bA (by decide) e.symm)).trans h.bA
  have eB := (hG.1.block B (Array.getElem?_eq_some_iff.1 h.bB).1 (fun e => own_ne h.o1 h.bB (by decide) e.symm)).trans h.bB
  have o2 := own_grown h.o2 hG.1 (fun k hk e => h.ne k e hk)
  refine ⟨by rw [set_blk eA]; rfl, by rw [set_other h.hAB.symm]; exact eB, ?_, own_set o2 eA (by decide), fun g hg he => ?_, (h.be.grown hG.1 (Nat.le_trans h.sz h.be.size) (fun k e => (World.ownsRow.lt h.o1 k e).1)).setCell h.hA _, h.hA, h.hB, h.hAB, h.sz⟩
  · have := own_set (i := 0) (u := v1') ho eA (by decide)
    simpa using this
  · rcases hG.own with e | e
    · exact h.ne g (e ▸ hg) he
    · have h1 := e g hg
      have h2 := (World.ownsRow.lt h.o2 g he).2
      omega
theorem Two.put2 (h : Two w0 n0 A B W v1 v2 xs ys) {v2' u : Value} (hG : Gone W v2 W' v2') (ho : W'.ownsRow n0 3 1 v2' (ys.length + 1) (ys ++ [u])) : Two w0 n0 A B (W'.setCell ⟨B, 0, none⟩ v2') v1 v2' xs (ys ++ [u]) := by
  have eA := (hG.1.block A (Array.getElem?_eq_some_iff.1 h.bA).1 (fun e => own_ne h.o2 h.bA (by decide) e.symm)).trans h.bA
  have eB := (hG.1.block B (Array.getElem?_eq_some_iff.1 h.bB).1 (fun e => own_ne h.o2 h.bB (by decide) e.symm)).trans h.bB
  have o1 := own_grown h.o1 hG.1 (fun k hk e => h.ne k hk e)
  refine ⟨by rw [set_other h.hAB]; exact eA, by rw [set_blk eB]; rfl, own_set o1 eB (by decide), ?_, fun g hg he => ?_, (h.be.grown hG.1 (Nat.le_trans h.sz h.be.size) (fun k e => (World.ownsRow.lt h.o2 k e).1)).setCell h.hB _, h.hA, h.hB, h.hAB, h.sz⟩
  · have := own_set (i := 0) (u := v2') ho eB (by decide)
    simpa using this
  · rcases hG.own with e | e
    · exact h.ne g hg (e ▸ he)
    · have h1 := e g he
      have h2 := (World.ownsRow.lt h.o1 g hg).2
      omega
end
theorem info3 : (Try.prog.info? 3).map (fun i => (i.zero, i.size, i.bytes)) = some (some (.int .i64 0), 1, 8) := by kernel_rfl

set_option maxHeartbeats 3200000 in
set_option maxRecDepth 100000 in
theorem all_any {w : World} {g : Nat} {o : Lo} {a : As} (h : IsAr w g o a) (l e : Int) : Calls Try.prog 26 #[.pointer (some ⟨g, 0, none⟩), I l, I e] w fun r w' =>
    r = .returned (.func (.func 59) #[] #[.pointer (some ⟨w.heap.size, 0, none⟩), .pointer (some ⟨w.heap.size + 1, 0, none⟩)]) ∧ ∃ v1 v2, Two w w.heap.size w.heap.size (w.heap.size + 1) w' v1 v2 ((a.seq l e).map fun x : Nat => I x) ((a.seq l e).map fun x => I (a.val x)) := by
  have hmf : ∀ (fn : Fn) (first cap : Array Value) (w : World), (Instr.makeFunc fn first cap).run Try.prog w = .ok (.func fn first cap) w := fun _ _ _ _ => rfl
  have hb0 : Below w.heap.size w ((w.alloc (.cells #[.slice none 0 0] 31)).alloc (.cells #[.slice none 0 0] 31)) := ((Below.refl _ w).alloc (Nat.le_refl _) _).alloc (by simp) _
  have HT0 : Hid (Two w w.heap.size w.heap.size (w.heap.size + 1) ((w.alloc (.cells #[.slice none 0 0] 31)).alloc (.cells #[.slice none 0 0] 31)) (.slice none 0 0) (.slice none 0 0) [] []) :=
    ⟨(Below.heap_alloc _ _ _ (by simp)).trans (heap_alloc_new w _), by have := heap_alloc_new (w.alloc (.cells #[.slice none 0 0] 31)) (.cells #[.slice none 0 0] 31); rw [World.size_alloc] at this; exact this, ⟨rfl, Or.inl ⟨rfl, rfl⟩⟩, ⟨rfl, Or.inl ⟨rfl, rfl⟩⟩, fun g hg => (by cases hg), hb0, Nat.le_refl _, by omega, by omega, Nat.le_refl _⟩
  have HP := show Hid _ from peek_any (h.below hb0) l e
  have HX : Hid (IsAr w g o a) := h
  have HN : Hid (∀ u, Below w.heap.size w u → ∀ x : Nat, Calls Try.prog 46 #[.pointer (some ⟨g, 0, none⟩), I x, I (1 - e)] u fun r w' => r = .returned (.tuple #[I ((a.next x (1 - e)).getD 0 : Nat), .bool (a.next x (1 - e)).isSome]) ∧ w' = u) := fun u hu x => next_any (h.below hu) x (1 - e)
  obtain ⟨j0, hj, hj0, hj1, hj2⟩ := info_parts info3
  rw [a.peek_seq] at HP
  have HL : Hid ((a.seq l e).length ≤ 4194304) := h.seq_len l e
  clear h hb0
  generalize hsq : a.seq l e = d at *
  have HD : Hid (a.seq l e = d) := hsq
  clear hsq
  go_enter Try.func26, Try.ntmps26
  go_wp2_with fail
  refine Calls.mono HP.out ?_
  rintro r w1 ⟨rfl, rfl⟩
  go_wp2_with fail
  go_loopg [9, 10] d.length (fun k nd ok wr => ∃ p q : List Nat, d = p ++ q ∧ q.length = k ∧ nd = I (q.head?.getD 0 : Nat) ∧ ok = .bool q.head?.isSome ∧ ∃ v1 v2, Two w w.heap.size w.heap.size (w.heap.size + 1) wr v1 v2 (p.map fun x : Nat => I x) (p.map fun x => I (a.val x)))
  case atStart => exact ⟨[], d, rfl, rfl, rfl, rfl, _, _, HT0.out⟩
  case round =>
    obtain ⟨p, q, hd, hq, rfl, rfl, v1, v2, hT⟩ := hrel
    cases q with
    | nil =>
      have HT := show Hid _ from hT
      have HD2 : Hid (d = p) := by rw [List.append_nil] at hd; exact hd
      clear hT hd
      simp only [List.head?_nil, Option.getD_none, Option.isSome_none]
      go_wp2
      go_ret
      exact ⟨rfl, v1, v2, HD2.out ▸ HT.out⟩
    | cons x q =>
      have HT := show Hid _ from hT
      have HS : Hid (d = p ++ x :: q ∧ q.length + 1 = gk) := ⟨hd, hq⟩
      obtain ⟨c1, f1, _, _⟩ := hT.cells
      have hT1 := hT.below (W' := wr.alloc (.cells #[I x] 3)) ((Below.refl _ wr).alloc (Nat.le_refl _) _)
      have HT1 := show Hid _ from hT1
      clear hT hd hq hT1
      simp only [List.head?_cons, Option.getD_some, Option.isSome_some]
      go_wp2_with (at_builtin; refine append_gone _ rfl _ _ 31 rfl w.heap.size 3 j0 (.int .i64 0) 1 8 Try.underlying31 hj hj0 hj1 hj2 rfl (by decide) v1 _ (p.map fun x : Nat => I x) rfl HT1.out.o1 ⟨wr.heap.size, 0, none⟩ 1 1 [I x] rfl rfl ?c1 ?c2 ?c3 ?c4 ?c5 ?c6 ?_)
      case c1 => exact cell_one wr _ _
      case c2 => intro u hu; simp only [List.mem_cons, List.not_mem_nil, or_false] at hu; subst hu; rfl
      case c3 => have := HL.out; have := congrArg List.length HS.out.1; simp at this; unfold maxLen; simp; omega
      case c4 => have := HL.out; have := congrArg List.length HS.out.1; simp at this; simp; omega
      case c5 => exact HT1.out.be.size
      case c6 => decide
      intro v1' w2 ho hG
      obtain ⟨c1', f1'⟩ := HT1.out.gone1 hG
      have HT2 := show Hid _ from HT1.out.put1 hG (by rw [List.length_map]; exact ho)
      obtain ⟨bo, bc, rfl⟩ := own_form ho
      clear HT HT1 c1 f1 ho hG
      go_upto_region 7 with fail
      generalize w2.setCell ⟨w.heap.size, 0, none⟩ (.slice bo (p.length + 1) bc) = w3 at *
      clear c1' f1'
      obtain ⟨_, _, c2, f2⟩ := HT2.out.cells
      obtain ⟨b, hb⟩ := HX.out.held (l := l) (e := e) (x := x) (by rw [HD.out, HS.out.1]; simp)
      have HA := show Hid _ from (hb w3.drew HT2.out.be.drew).1
      have s3 := (hb w3 HT2.out.be).2
      have hT4 := HT2.out.below (W' := (w3.alloc (.cells #[I (a.val x)] 3)).drew) ((Below.refl _ w3).alloc (Nat.le_refl _) _).drew
      have HT4 := show Hid _ from hT4
      have c2' : (w3.alloc (.cells #[I (a.val x)] 3)).cell? ⟨w.heap.size + 1, 0, none⟩ = some v2 := (hT4.cells).2.2.1
      clear hb hT4
      go_region_law (first
        | (go_simp
           go_at_call 58
           refine Calls.mono HA.out ?_
           rintro r w4 ⟨rfl, rfl⟩)
        | (refine step_gone _ rfl (.tmp 31) (.tmp 38) 31 rfl w.heap.size 3 j0 (.int .i64 0) 1 8 Try.underlying31 hj hj0 hj1 hj2 rfl (by decide) v2 _ (p.map fun x : Nat => I (a.val x)) (by simp [Act.eval]) HT4.out.o2 ⟨w3.heap.size, 0, none⟩ 1 1 [I (a.val x)] (by simp [Act.eval]) rfl (cell_oned w3 _ _ _ rfl) (by intro u hu; simp only [List.mem_cons, List.not_mem_nil, or_false] at hu; subst hu; rfl) (by have := HL.out; have := congrArg List.length HS.out.1; simp at this; unfold maxLen; simp; omega) (by have := HL.out; have := congrArg List.length HS.out.1; simp at this; simp; omega) HT4.out.be.size (by decide) ?_
           intro v2' w5 ho hG
           obtain ⟨c5, f5⟩ := HT4.out.gone2 hG
           have HT5 := show Hid _ from HT4.out.put2 hG ho
           rw [List.length_map] at ho
           obtain ⟨po, pc, rfl⟩ := own_form ho
           clear ho hG))
      all_goals
        generalize w5.setCell ⟨w.heap.size + 1, 0, none⟩ (.slice po (p.length + 1) pc) = w6 at *
        clear HT2 HT4 HA c2 f2 c2' c5 f5 s3
        have he : 0 ≤ e ∧ e ≤ 1 := by
          have h1 := HD.out
          rw [HS.out.1] at h1
          unfold As.seq at h1
          split at h1
          · rename_i hk
            have := hk.2
            omega
          · have := congrArg List.length h1
            simp at this
        obtain ⟨he0, he1⟩ := he
        have HN6 := show Hid _ from HN.out w6 HT5.out.be x
        have hn := HX.out.next (l := l) (e := e) (p := p) (q := q) (x := x) (by rw [HD.out, HS.out.1])
        rw [hn] at HN6
        clear hn
        go_wp2_with fail
        refine Calls.mono HN6.out ?_
        rintro r w7 ⟨rfl, rfl⟩
        go_wp2_with fail
        go_roundg q.length
        case measure => have := HS.out.2; omega
        case rel => exact ⟨p ++ [x], q, by rw [HS.out.1]; simp, rfl, rfl, rfl, _, _, by simpa using HT5.out⟩
end Go.Proofs.Ytoeioppmlnognaa.Ar
