import Derived.Test.YtkekmmomdhdegaaRxAllW
import Derived.Test.YtkekmmomdhdegaaIxLike
namespace Go.Proofs.Ytkekmmomdhdegaa.Rx
open Go.RowKit Go.Shelf Go.Proofs.Ytkekmmomdhdegaa.Ix Go.Proofs.Ytkekmmomdhdegaa.Ii

attribute [local go_sem] Oper.semAt_some
open BigFrame
/-- where a key did not come as the row has it -/
def Bad (l pre : List (Nat × Int)) : Prop := ∃ (i : Nat) (x : Nat × Int), pre[i]? = some x ∧ l[i]? ≠ some x
theorem Bad.no {l : List (Nat × Int)} {k : Nat} (h : Bad l (l.take k)) : False := by
  obtain ⟨i, x, h1, h2⟩ := h
  rw [List.getElem?_take] at h1
  split at h1
  · exact h2 h1
  · cases h1
theorem Bad.snoc {l pre : List (Nat × Int)} {x : Nat × Int} (h : l[pre.length]? ≠ some x) : Bad l (pre ++ [x]) := ⟨pre.length, x, by simp, h⟩
/-- the count in its box, all else as it was -/
def Cn (nb : Nat) (w6 : World) (n : Nat) (W : World) : Prop := Fr [nb] w6 W ∧ W.heap[nb]? = some (.cells #[I n] 3 (0, 0))
theorem Cn.from {nb B : Nat} {w6 : World} {β : Type} (f : β → Nat) (hB : w6.heap.size ≤ B) : OwnFrom B (fun (s : β) W => Cn nb w6 (f s) W) := fun s A C row hs hg hr => by
  have hne : ∀ k, k < w6.heap.size → some k ≠ row := fun k hk e => by
    have := (hr k e.symm).1
    omega
  have hnb : some nb ≠ row := fun e => by
    obtain ⟨_, o, h1, h2⟩ := hr nb e.symm
    rw [hs.2] at h1
    cases h1
    cases h2
  exact ⟨⟨hg.os.trans hs.1.os, hg.tape.trans hs.1.tape, hg.output.trans hs.1.output, Nat.le_trans hs.1.size hg.size, fun k hk hn => (hg.block k (Nat.lt_of_lt_of_le hk hs.1.size) (hne k hk)).trans (hs.1.block k hk hn)⟩, (hg.block nb (Array.getElem?_eq_some_iff.1 hs.2).1 hnb).trans hs.2⟩
theorem Cn.next {nb n : Nat} {w6 W : World} (h : Cn nb w6 n W) : Cn nb w6 (n + 1) (W.setCell ⟨nb, 0, none⟩ (I ((n : Int) + 1))) := by
  refine ⟨h.1.trans (Fr.set _ _ _ (by simp)) (fun _ h => Or.inl h), ?_⟩
  rw [set_blk h.2]
  simp
theorem own_blk {W W' : World} {base n : Nat} {T : TypeId} {v : Value} {xs : List Value} (h : W.ownsRow base T 1 v n xs) (hk : ∀ k, v.ownBlock = some k → W'.heap[k]? = W.heap[k]?) : W'.ownsRow base T 1 v n xs := by
  rcases h with ⟨h1, h2 | ⟨g, cap, cur, rfl, h3, h4, h5⟩⟩
  · exact ⟨h1, Or.inl h2⟩
  · exact ⟨h1, Or.inr ⟨g, cap, cur, rfl, h3, (hk g rfl).trans h4, h5⟩⟩
set_option maxRecDepth 100000 in
set_option maxHeartbeats 6400000 in
theorem same_any {w : World} {g : Nat} {o : Lo} {q : Ro} {a : Ix Int} (h1 : IsIx w g o a) (h2 : Rm w q a.n a.most (a.b + 1) a.count a.t) : Calls Try.prog 16 #[.pointer (some ⟨g, 0, none⟩), .pointer (some ⟨q.r, 0, none⟩)] w fun r w' => r = .returned (.bool true) ∧ Below w.heap.size w w' := by
  obtain ⟨z1, b1, n1⟩ := alloc_facts w #[.bool false] 4
  generalize ew1 : w.alloc (.cells #[.bool false] 4) = w1 at *
  have HW1 : Hid (w.alloc (.cells #[.bool false] 4) = w1) := ew1
  have H1 : Hid (IsIx w1 g o a ∧ Rm w1 q a.n a.most (a.b + 1) a.count a.t ∧ Below w.heap.size w w1 ∧ w1.heap[w.heap.size]? = some (.cells #[.bool false] 4 (0, 0)) ∧ w1.heap.size = w.heap.size + 1) := ⟨h1.below b1, h2.below b1, b1, n1, z1⟩
  have HR := show Hid _ from rall_any H1.out.2.1 h1.2
  clear h1 h2 z1 b1 n1 ew1
  refine (callsIn_wide (n := 5)).1 ?_
  refine callsIn_of_wp_marks Try.func16 rfl trivial ?_ rfl
  simp only [Try.ntmps16, List.size_toArray, List.length_cons, List.length_nil, Nat.reduceAdd, Nat.reduceSub, Array.replicate_succ, Array.replicate_zero, List.push_toArray, List.append_toArray, List.nil_append, List.cons_append]
  gi_wp2
  rw [HW1.out]
  refine ⟨trivial, (callsIn_wide.2 HR.out).mono ?_⟩
  rintro r w2 ⟨kv, vv, l, rfl, hA, hL⟩
  have HA : Hid (Al w1 kv vv l w2 ∧ IsAll a l) := ⟨hA, hL⟩
  obtain ⟨pk, ck, rfl, _⟩ := own_form hA.ks
  obtain ⟨pv, cv, rfl, _⟩ := own_form hA.vs
  clear hA hL HR
  gi_wp2
  obtain ⟨z3, b3, n3⟩ := alloc_facts w2 #[.slice pk l.length ck] 30
  generalize w2.alloc (.cells #[.slice pk l.length ck] 30) = w3 at *
  obtain ⟨z4, b4, n4⟩ := alloc_facts w3 #[.slice pv l.length cv] 31
  generalize w3.alloc (.cells #[.slice pv l.length cv] 31) = w4 at *
  obtain ⟨z5, b5, n5⟩ := alloc_facts w4 #[.int .i64 0] 3
  generalize w4.alloc (.cells #[.int .i64 0] 3) = w5 at *
  have B5 : Below w2.heap.size w2 w5 := b3.trans ((b4.mono (by omega)).trans (b5.mono (by omega)))
  have H5 : Hid (Below w2.heap.size w2 w5 ∧ IsIx w5 g o a ∧ w5.heap.size = w2.heap.size + 3 ∧ w5.heap[w.heap.size]? = some (.cells #[.bool false] 4 (0, 0)) ∧ w5.heap[w2.heap.size]? = some (.cells #[.slice pk l.length ck] 30 (0, 0)) ∧ w5.heap[w2.heap.size + 1]? = some (.cells #[.slice pv l.length cv] 31 (0, 0)) ∧ w5.heap[w2.heap.size + 1 + 1]? = some (.cells #[.int .i64 0] 3 (0, 0)) ∧ Below w.heap.size w w5 ∧ w.heap.size + 1 ≤ w2.heap.size) := by
    have hb := HA.out.1.be
    obtain ⟨x1, x2, x3, x4, x5⟩ := H1.out
    have hsz := hb.size
    have hb2 : Below w.heap.size w w2 := x3.trans (hb.mono x3.size)
    refine ⟨B5, (x1.below (hb.trans (B5.mono hsz))), by omega, (B5.block _ (by omega)).trans ((hb.block _ (by omega)).trans x4), (b5.block _ (by omega)).trans ((b4.block _ (by omega)).trans n3), ?_, ?_, hb2.trans (B5.mono hb2.size), by omega⟩
    · rw [show w2.heap.size + 1 = w3.heap.size by omega]; exact (b5.block _ (by omega)).trans n4
    · rw [show w2.heap.size + 1 + 1 = w4.heap.size by omega]; exact n5
  clear z3 b3 n3 z4 b4 n4 z5 b5 n5 B5
  refine ⟨trivial, (callsIn_wide.2 (all_seq H5.out.2.1)).mono ?_⟩
  rintro r w6 ⟨qs, l', rfl, hq, hA', hB6, hS⟩
  simp only [clo]
  obtain rfl : l' = l := hA'.eq HA.out.2
  have HQ : Hid (Sq w6 qs l') := hq
  have HB6 : Hid (Below w5.heap.size w5 w6 ∧ (∀ k ∈ qs.S, w5.heap.size ≤ k) ∧ l'.length ≤ 4194304) := ⟨hB6, fun k hk => (hS k hk).1, hq.len⟩
  have HF : Hid (∀ n W, Cn (w2.heap.size + 1 + 1) w6 n W → W.heap[w.heap.size]? = some (.cells #[.bool false] 4 (0, 0)) ∧ W.heap[w2.heap.size]? = some (.cells #[.slice pk l'.length ck] 30 (0, 0)) ∧ W.heap[w2.heap.size + 1]? = some (.cells #[.slice pv l'.length cv] 31 (0, 0)) ∧ (∀ (i : Nat) (x : Nat × Int), l'[i]? = some x → ∃ gx gy, pk = some ⟨gx, 0, none⟩ ∧ pv = some ⟨gy, 0, none⟩ ∧ W.cell? ⟨gx, i, none⟩ = some (U x.1) ∧ W.cell? ⟨gy, i, none⟩ = some (I x.2)) ∧ Below w.heap.size w W) := fun n W hC => by
    obtain ⟨y1, _, y3, y4, y5, y6, y7, y8, y9⟩ := H5.out
    have hs6 := hB6.size
    have hk : ∀ k, k < w2.heap.size + 2 → W.heap[k]? = w5.heap[k]? := fun k hk => (hC.1.block k (by omega) (by simp; omega)).trans (hB6.block k (by omega))
    have hk2 : ∀ k, k < w2.heap.size → W.heap[k]? = w2.heap[k]? := fun k hk' => (hk k (by omega)).trans (y1.block k hk')
    refine ⟨(hk _ (by omega)).trans y4, (hk _ (by omega)).trans y5, (hk _ (by omega)).trans y6, fun i x hx => ?_, fr_below hC.1 (y8.trans (hB6.mono y8.size)) (by simp; omega) (Nat.le_refl _)⟩
    have o1 := own_blk (W' := W) HA.out.1.ks (fun k e => hk2 k (World.ownsRow.lt HA.out.1.ks k e).2)
    have o2 := own_blk (W' := W) HA.out.1.vs (fun k e => hk2 k (World.ownsRow.lt HA.out.1.vs k e).2)
    have hil : i < l'.length := (List.getElem?_eq_some_iff.1 hx).1
    obtain ⟨_, _, e1, e2⟩ := own_form o1
    cases e1
    obtain ⟨gx, rfl⟩ := e2 (by omega)
    obtain ⟨_, _, e1, e2⟩ := own_form o2
    cases e1
    obtain ⟨gy, rfl⟩ := e2 (by omega)
    exact ⟨gx, gy, rfl, rfl, (own_at o1 hil).trans (by rw [List.getElem?_map, hx]; rfl), (own_at o2 hil).trans (by rw [List.getElem?_map, hx]; rfl)⟩
  have HC0 : Hid (Cn (w2.heap.size + 1 + 1) w6 0 w6) := ⟨Fr.refl _ _, (hB6.block _ (by have := H5.out.2.2.1; omega)).trans H5.out.2.2.2.2.2.2.1⟩
  clear hq hA' hB6 hS
  gi_wp2
  refine rangeH rfl (by omega) (gf := 51) (lb := #[.pointer (some ⟨qs.A, 0, none⟩)]) rfl trivial (enters_of Try.func51 (by kernel_rfl) rfl)
    (seq_stops Fence.wide 4 trivial rfl (by omega) qs l' w6 HQ.out) (Kq.refl _) Kq.trans (Kq.put (fun k hk => HQ.out.lt k hk)) (Below.refl _ _) (fun _ => rfl)
    (fun pre W => Cn (w2.heap.size + 1 + 1) w6 pre.length W) (fun (cc : Code) (pre : List (Nat × El)) (_ : World) => cc = Code.ret ∧ Bad l' pre)
    (Cn.from _ (Nat.le_refl _)) (fun _ _ _ _ _ hs _ _ => hs) HC0.out ?HA1 ?done ?stop
  case HA1 =>
    apply Exists.intro
    refine ⟨?assign, ?body⟩
    case assign =>
      intro l2 x W K hK
      have HK := show Hid _ from hK
      clear hK
      gi_wp2
      exact HK.out
    case body =>
      rintro l2 pre ⟨x1, x2⟩ W hl hr hI hlt
      obtain ⟨f1, f2, f3, f4, f5⟩ := HF.out _ _ hI
      obtain ⟨c1, g1⟩ := box_cell f1
      obtain ⟨c2, _⟩ := box_cell f2
      obtain ⟨c3, _⟩ := box_cell f3
      obtain ⟨c4, g4⟩ := box_cell hI.2
      have HI : Hid (Cn (w2.heap.size + 1 + 1) w6 pre.length W) := hI
      have hll : (l'.length : Int) ≤ 4194304 := by have := HB6.out.2.2; omega
      have hn1 : (pre.length : Int) < (l'.length : Int) := by omega
      have hn2 : decide (l'.length ≤ pre.length) = false := by simp; omega
      obtain ⟨y, hy⟩ : ∃ y, l'[pre.length]? = some y := ⟨_, List.getElem?_eq_getElem hlt⟩
      obtain ⟨gx, gy, rfl, rfl, d1, d2⟩ := f4 _ _ hy
      have HY : Hid (l'[pre.length]? = some y) := hy
      have HKq : Hid (∀ v, Kq qs.S W (W.setCell ⟨w2.heap.size + 1 + 1, 0, none⟩ v)) := fun v => ⟨by simp, fun k hk => set_other (by have := HB6.out.2.1 k hk; have := H5.out.2.2.1; omega)⟩
      clear hI f1 f2 f3 f4 f5 hr hl hy
      by_cases h1 : x1 = y.1
      · have e1 : ((x1 : Int) != (y.1 : Int)) = false := by simp [h1]
        by_cases h2 : x2 = y.2
        · have e2 : ((x2 : Int) != y.2) = false := by simp [h2]
          have HN : Hid (Cn (w2.heap.size + 1 + 1) w6 (pre ++ [(x1, x2)]).length (W.setCell ⟨w2.heap.size + 1 + 1, 0, none⟩ (I ((pre.length : Int) + 1)))) := by
            rw [List.length_append]
            exact HI.out.next
          clear h1 h2
          gi_wp2
          exact ⟨(KeepsOthers.setCell _ _ _).from _, HKq.out _, HN.out⟩
        · have e2 : ((x2 : Int) != y.2) = true := by simpa using h2
          have HBd : Hid (Bad l' (pre ++ [(x1, x2)])) := Bad.snoc (by rw [HY.out]; exact fun e => h2 (by rw [Option.some.inj e]))
          clear h1 h2
          gi_wp2
          exact ⟨(KeepsOthers.setCell _ _ _).from _, rfl, HBd.out⟩
      · have e1 : ((x1 : Int) != (y.1 : Int)) = true := by simp; omega
        have HBd : Hid (Bad l' (pre ++ [(x1, x2)])) := Bad.snoc (by rw [HY.out]; exact fun e => h1 (by rw [Option.some.inj e]))
        clear h1
        gi_wp2
        exact ⟨(KeepsOthers.setCell _ _ _).from _, rfl, HBd.out⟩
  case stop =>
    rintro D cc pre W hD ⟨k, hk, rfl⟩ ⟨rfl, hb⟩ hK
    exact absurd hb (fun h => h.no)
  case done =>
    rintro D xs W hD rfl hI hK
    obtain ⟨f1, f2, f3, f4, f5⟩ := HF.out _ _ hI
    obtain ⟨c1, g1⟩ := box_cell f1
    obtain ⟨c2, _⟩ := box_cell f2
    obtain ⟨c4, g4⟩ := box_cell hI.2
    have HWw : Hid (Below w.heap.size w W) := f5
    have HDs : Hid (W.heap[D]? = some (.deferred (some [])) ∧ W.cell? ⟨w.heap.size, 0, none⟩ = some (.bool false) ∧ w.heap.size ≤ D) := ⟨hK, c1, by have := HB6.out.1.size; have := H5.out.2.2.1; have := H5.out.2.2.2.2.2.2.2.2; omega⟩
    clear hI f1 f2 f3 f4 f5 hK
    gi_wp2
    have hA3 := (KeepsOthers.setCell W ⟨w.heap.size, 0, none⟩ (.bool true)).same D _ HDs.out.1 rfl
    refine ⟨by simp, .inl ⟨_, _, rfl, run_takeDeferred hA3, ?_⟩⟩
    have hc3 := cell_kept (World.cell?_setCell_same' W ⟨w.heap.size, 0, none⟩ (.bool true) (by rw [HDs.out.2.1]; rfl)) (grownBy_putObj' _ D (.deferred none)) (fun r e => by cases e; exact ⟨_, hA3, rfl⟩)
    refine ⟨.bool true, ?_, rfl, belowK_b' (HWw.out.setCell (p := ⟨w.heap.size, 0, none⟩) (by simp) _) HDs.out.2.2 hA3⟩
    simp [results, Try.f16, go_sem, hc3]
end Go.Proofs.Ytkekmmomdhdegaa.Rx
