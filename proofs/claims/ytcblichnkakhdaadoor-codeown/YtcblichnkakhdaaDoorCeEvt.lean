import Derived.Test.YtcblichnkakhdaaDoorCeLin
set_option linter.unusedSimpArgs false
namespace Go.Proofs.YtcblichnkakhdaaDoor.Cd
open Go.RowKit Go.Proofs.YtcblichnkakhdaaDoor.Nm Go.Proofs.YtcblichnkakhdaaDoor.Vf

/-- the events that begin at an instruction -/
def onQ (on : List Int) (at_ : Nat) : Nat → List Nat
  | 0 => []
  | j + 1 => onQ on at_ j ++ (if on.getD j (-1) = (at_ : Int) then [111, 110, 32, 113] ++ (decB (j : Int) ++ [58, 10]) else [])
def misT (miss : Int) (at_ : Nat) : List Nat := if miss = (at_ : Int) then [109, 105, 115, 115, 58, 10] else []
def evT (on : List Int) (miss : Int) (at_ : Nat) : List Nat := onQ on at_ on.length ++ misT miss at_
theorem onQ_len (on : List Int) (at_ : Nat) : ∀ j : Nat, j ≤ 1000 → (onQ on at_ j).length ≤ 40 * j
  | 0, _ => Nat.le_refl _
  | j + 1, h => by
    have ih := onQ_len on at_ j (by omega)
    have hd := decB_len (j : Int) (by omega) (by omega)
    unfold onQ
    rw [List.length_append]
    split <;> simp only [List.length_append, List.length_cons, List.length_nil] <;> omega
theorem misT_len (miss : Int) (at_ : Nat) : (misT miss at_).length ≤ 6 := by
  unfold misT
  split <;> simp
section
variable {W0 W : World} {b base : Nat} {nm : Value} {xs : List Nat}
theorem Ls.rd (h : Ls W0 W b base nm xs) {o : Option Addr} {m : Nat} {ys : List Value} (hr : Cd.Rd W0 o m ys) (hm : m ≤ b) : Cd.Rd W o m ys := fun k x hx => by
  obtain ⟨g, f, e, h1, h2, h3⟩ := hr k x hx
  have hlt := h.lt
  refine ⟨g, f, e, h1, Nat.lt_of_lt_of_le h2 h.fr.size, ?_⟩
  exact (World.cell?_of_block (a := ⟨g, f + k, none⟩) (h.fr.block g (by omega) (by simp; omega))).trans h3
set_option maxHeartbeats 12800000 in
set_option maxRecDepth 100000 in
/-- the events that begin at an instruction are listed -/
theorem levn_any {m oc : Nat} {oo : Option Addr} {on : List Int} {miss : Int} {q v t c : Value} (h : Ls W0 W b base nm xs) (hT : Pw W0 b base) (ho : Cd.Rd W0 oo m (iC on)) (hm : m ≤ b) (hno : on.length ≤ 1000) (at_ : Nat) (hl : xs.length ≤ 70000000000) :
    Calls Tryd.prog 53 #[.pointer (some ⟨b, 0, none⟩), .agg #[q, v, t, .slice oo on.length oc, .int .i64 miss, c], .int .i64 (at_ : Int)] W fun e W' => e = .returned (.tuple #[]) ∧ Ls W0 W' b base nm (xs ++ evT on miss at_) ∧ Ko b W W' := by
  have HG : Hid (Pw W0 b base ∧ Cd.Rd W0 oo m (iC on) ∧ m ≤ b ∧ xs.length ≤ 70000000000 ∧ on.length ≤ 1000) := ⟨hT, ho, hm, hl, hno⟩
  have hb1 : Below W.heap.size W (W.alloc (.cells #[q, v, t, .slice oo on.length oc, .int .i64 miss, c] 29)) := (Below.refl _ W).alloc (Nat.le_refl _) _
  have H1 : Hid (Ls W0 (W.alloc (.cells #[q, v, t, .slice oo on.length oc, .int .i64 miss, c] 29)) b base nm xs ∧ Ko b W (W.alloc (.cells #[q, v, t, .slice oo on.length oc, .int .i64 miss, c] 29)) ∧ (W.alloc (.cells #[q, v, t, .slice oo on.length oc, .int .i64 miss, c] 29)).heap[W.heap.size]? = some (.cells #[q, v, t, .slice oo on.length oc, .int .i64 miss, c] 29 (0, 0)) ∧ W.heap.size ≠ b) := ⟨h.below hb1, Ko.of_below hb1, heap_alloc_new _ _, by have := h.lt; have := h.sz; omega⟩
  have hno' : (on.length : Int) ≤ 1000 := by omega
  clear h hT ho hm hl hno hb1
  obtain ⟨c0, c1, c2, c3, c4, c5⟩ := cells6 H1.out.2.2.1
  go_enter Tryd.func53, Tryd.ntmps53
  go_wp2_with fail
  clear c0 c1 c2 c3 c4 c5
  generalize (W.alloc (.cells #[q, v, t, .slice oo on.length oc, .int .i64 miss, c] 29)) = w1 at *
  generalize W.heap.size = pb at *
  go_loopg [11] on.length (fun gq x wr => ∃ j : Nat, j ≤ on.length ∧ gq = on.length - j ∧ x = .int .i64 (j : Int) ∧ Ls W0 wr b base nm (xs ++ onQ on at_ j) ∧ Ko b W wr ∧ wr.heap[pb]? = some (.cells #[q, v, t, .slice oo on.length oc, .int .i64 miss, c] 29 (0, 0)))
  case atStart => exact ⟨0, Nat.zero_le _, rfl, rfl, by show Ls W0 w1 b base nm (xs ++ []); rw [List.append_nil]; exact H1.out.1, H1.out.2.1, H1.out.2.2.1⟩
  case round =>
    obtain ⟨j, hj, hgk, rfl, hw, hk, hp⟩ := hrel
    have HT : Hid (Ls W0 wr b base nm (xs ++ onQ on at_ j) ∧ Ko b W wr ∧ wr.heap[pb]? = some (.cells #[q, v, t, .slice oo on.length oc, .int .i64 miss, c] 29 (0, 0)) ∧ gk = on.length - j ∧ j ≤ on.length) := ⟨hw, hk, hp, hgk, hj⟩
    have HL : Hid ((xs ++ onQ on at_ j).length ≤ 70000050000) := by
      have := onQ_len on at_ j (by have := HG.out.2.2.2.2; omega)
      have := HG.out.2.2.2.1
      have := HG.out.2.2.2.2
      show _ ≤ _
      rw [List.length_append]
      omega
    clear hgk hw hk hp
    by_cases hlt : j < on.length
    · have hlt' : (j : Int) < (on.length : Int) := by omega
      obtain ⟨g, f, rfl, _, _, d0⟩ := (HT.out.1.rd HG.out.2.1 HG.out.2.2.1) j (.int .i64 on[j]) (by simp [iC, hlt])
      have HQ : Hid (onQ on at_ (j + 1) = onQ on at_ j ++ (if on[j] = (at_ : Int) then [111, 110, 32, 113] ++ (decB (j : Int) ++ [58, 10]) else [])) := by
        show _ = _
        rw [onQ]
        simp only [List.getD, List.getElem?_eq_getElem hlt, Option.getD_some]
      have HLt : Hid (j < on.length) := hlt
      generalize on[j] = ov at *
      clear hlt
      by_cases hov : ov = (at_ : Int)
      · have hov' : (ov == (at_ : Int)) = true := by rw [beq_iff_eq]; exact hov
        have HO : Hid (ov = (at_ : Int)) := hov
        clear hov
        go_wp2_with fail
        clear d0
        refine (ladd_any HT.out.1 ⟨#[111, 110, 32, 113]⟩ (by have := HL.out; omega) (by decide)).mono ?_
        rintro e w2 ⟨rfl, hw, hk⟩
        have H2 : Hid (Ls W0 w2 b base nm (xs ++ onQ on at_ j ++ [111, 110, 32, 113]) ∧ Ko b W w2 ∧ w2.heap[pb]? = some (.cells #[q, v, t, .slice (some ⟨g, f, none⟩) on.length oc, .int .i64 miss, c] 29 (0, 0))) := ⟨hw, HT.out.2.1.trans hk, hk.box H1.out.2.2.2 (by decide) HT.out.2.2.1⟩
        clear hw hk
        go_wp2_with fail
        refine (ldig_any H2.out.1 HG.out.1 (j : Int) (by omega) (by omega) (by have := HL.out; rw [List.length_append]; simp only [List.length_cons, List.length_nil]; omega)).mono ?_
        rintro e w3 ⟨rfl, hw, hk⟩
        have H3 : Hid (Ls W0 w3 b base nm (xs ++ onQ on at_ j ++ [111, 110, 32, 113] ++ decB (j : Int)) ∧ Ko b W w3 ∧ w3.heap[pb]? = some (.cells #[q, v, t, .slice (some ⟨g, f, none⟩) on.length oc, .int .i64 miss, c] 29 (0, 0))) := ⟨hw, H2.out.2.1.trans hk, hk.box H1.out.2.2.2 (by decide) H2.out.2.2⟩
        clear hw hk H2
        have HD : Hid ((decB (j : Int)).length ≤ 30) := decB_len _ (by omega) (by omega)
        go_wp2_with fail
        refine (ladd_any H3.out.1 ⟨#[58, 10]⟩ (by have := HL.out; have := HD.out; rw [List.length_append, List.length_append]; simp only [List.length_cons, List.length_nil]; omega) (by decide)).mono ?_
        rintro e w4 ⟨rfl, hw, hk⟩
        have H4 : Hid (Ls W0 w4 b base nm (xs ++ onQ on at_ (j + 1)) ∧ Ko b W w4 ∧ w4.heap[pb]? = some (.cells #[q, v, t, .slice (some ⟨g, f, none⟩) on.length oc, .int .i64 miss, c] 29 (0, 0))) := ⟨by
          rw [HQ.out, if_pos HO.out]
          simp only [← List.append_assoc]
          exact hw, H3.out.2.1.trans hk, hk.box H1.out.2.2.2 (by decide) H3.out.2.2⟩
        clear hw hk H3
        go_wp2_with fail
        go_roundg (on.length - (j + 1))
        case measure => have := HLt.out; have := HT.out.2.2.2.1; omega
        case rel => exact ⟨j + 1, HLt.out, rfl, by go_num, H4.out.1, H4.out.2.1, H4.out.2.2⟩
      · have hov' : (ov == (at_ : Int)) = false := by rw [beq_eq_false_iff_ne]; exact hov
        have HO : Hid (¬ ov = (at_ : Int)) := hov
        clear hov
        go_wp2_with fail
        clear d0
        go_roundg (on.length - (j + 1))
        case measure => have := HLt.out; have := HT.out.2.2.2.1; omega
        case rel => exact ⟨j + 1, HLt.out, rfl, by go_num, by rw [HQ.out, if_neg HO.out, List.append_nil]; exact HT.out.1, HT.out.2.1, HT.out.2.2.1⟩
    · have hlt' : ¬ (j : Int) < (on.length : Int) := by omega
      obtain rfl : j = on.length := by have := HT.out.2.2.2.2; omega
      clear hlt
      obtain ⟨c0, c1, c2, c3, c4, c5⟩ := cells6 HT.out.2.2.1
      by_cases hms : miss = (at_ : Int)
      · have hms' : (miss == (at_ : Int)) = true := by rw [beq_iff_eq]; exact hms
        have HO : Hid (miss = (at_ : Int)) := hms
        clear hms
        go_wp2_with fail
        refine (ladd_any HT.out.1 ⟨#[109, 105, 115, 115, 58, 10]⟩ (by have := HL.out; omega) (by decide)).mono ?_
        rintro e w4 ⟨rfl, hw, hk⟩
        have H4 : Hid (Ls W0 w4 b base nm (xs ++ evT on miss at_) ∧ Ko b W w4) := ⟨by
          unfold evT misT
          rw [if_pos HO.out, ← List.append_assoc]
          exact hw, HT.out.2.1.trans hk⟩
        clear hw hk
        go_wp2_with fail
        go_end0
        exact ⟨rfl, H4.out.1, H4.out.2⟩
      · have hms' : (miss == (at_ : Int)) = false := by rw [beq_eq_false_iff_ne]; exact hms
        have H4 : Hid (Ls W0 wr b base nm (xs ++ evT on miss at_) ∧ Ko b W wr) := ⟨by
          unfold evT misT
          rw [if_neg hms, List.append_nil]
          exact HT.out.1, HT.out.2.1⟩
        clear hms
        go_wp2_with fail
        go_end0
        exact ⟨rfl, H4.out.1, H4.out.2⟩
end
end Go.Proofs.YtcblichnkakhdaaDoor.Cd
