import Derived.Test.YtcicifcnffacpaaDoorCeNum
import Derived.BigQuiet
import Derived.Deep.DeepCutAuto
import Derived.Test.YtcicifcnffacpaaDoorCeInv
import Derived.Test.YtcicifcnffacpaaDoorCePrg
import Derived.Test.YtcicifcnffacpaaDoorCeDec
set_option linter.unusedSimpArgs false
namespace Go.Proofs.YtcicifcnffacpaaDoor.Cd
open Go.RowKit Go.Proofs.YtcicifcnffacpaaDoor.Nm

/-- the reference's reader: at place i; its first fault -/
structure Rn (W : World) (b : Nat) (bo : Option Addr) (bc : Nat) (s : List Nat) (i er k : Nat) : Prop where
  hb : W.heap[b]? = some (.cells #[.slice bo s.length bc, .int .i64 (i : Int), .int .i64 (er : Int), .int .i64 (k : Int)] 95 (0, 0))
  rd : Rd W bo b (u8L s)
  le : i ≤ s.length
  lt : s.length ≤ 1000000000
  byt : ∀ x ∈ s, x < 256
section
variable {W W' : World} {b : Nat} {bo : Option Addr} {bc : Nat} {s : List Nat} {i er k : Nat}
theorem Rn.blt (h : Rn W b bo bc s i er k) : b < W.heap.size := blk_lt h.hb
theorem Rn.cells (h : Rn W b bo bc s i er k) : W.cell? ⟨b, 0, none⟩ = some (.slice bo s.length bc) ∧ W.cell? ⟨b, 1, none⟩ = some (.int .i64 (i : Int)) ∧ W.cell? ⟨b, 2, none⟩ = some (.int .i64 (er : Int)) ∧ W.cell? ⟨b, 3, none⟩ = some (.int .i64 (k : Int)) ∧ W.frozen? ⟨b, 1, none⟩ = false ∧ W.frozen? ⟨b, 2, none⟩ = false ∧ W.frozen? ⟨b, 3, none⟩ = false := by
  refine ⟨?_, ?_, ?_, ?_, fzb h.hb 1, fzb h.hb 2, fzb h.hb 3⟩
  all_goals
    simp only [World.cell?, h.hb]
    rfl
theorem Rn.put1 (h : Rn W b bo bc s i er k) {j : Nat} (hj : j ≤ s.length) : Rn (W.setCell ⟨b, 1, none⟩ (.int .i64 (j : Int))) b bo bc s j er k :=
  ⟨by rw [heap_setCell_same W b 1 _ _ _ h.hb]; simp, rd_other h.rd (Fg.set b 1 W _) (Nat.le_refl _), hj, h.lt, h.byt⟩
theorem Rn.putF (h : Rn W b bo bc s i er k) (e2 k2 : Nat) : Rn ((W.setCell ⟨b, 2, none⟩ (.int .i64 (e2 : Int))).setCell ⟨b, 3, none⟩ (.int .i64 (k2 : Int))) b bo bc s i e2 k2 := by
  have h1 : (W.setCell ⟨b, 2, none⟩ (.int .i64 (e2 : Int))).heap[b]? = some (.cells #[.slice bo s.length bc, .int .i64 (i : Int), .int .i64 (e2 : Int), .int .i64 (k : Int)] 95 (0, 0)) := by
    rw [heap_setCell_same W b 2 _ _ _ h.hb]
    simp
  exact ⟨by rw [heap_setCell_same _ b 3 _ _ _ h1]; simp, rd_other (rd_other h.rd (Fg.set b 2 W _) (Nat.le_refl _)) (Fg.set b 3 _ _) (Nat.le_refl _), h.le, h.lt, h.byt⟩
theorem Rn.keep (h : Rn W b bo bc s i er k) (hk : ∀ k, k ≤ b → W'.heap[k]? = W.heap[k]?) (hs : W.heap.size ≤ W'.heap.size) : Rn W' b bo bc s i er k :=
  ⟨(hk b (Nat.le_refl _)).trans h.hb, fun k x hx => by
    obtain ⟨g, f, e, h1, h2, h3⟩ := h.rd k x hx
    exact ⟨g, f, e, h1, Nat.lt_of_lt_of_le h2 hs, (World.cell?_of_block (a := ⟨g, f + k, none⟩) (hk g (by omega))).trans h3⟩, h.le, h.lt, h.byt⟩
theorem Rn.below (h : Rn W b bo bc s i er k) (hb : Below W.heap.size W W') : Rn W' b bo bc s i er k := h.keep (fun j hj => hb.block j (by have := h.blt; omega)) hb.size
theorem Rn.byte (h : Rn W b bo bc s i er k) {j : Nat} (hi : j < s.length) : ∃ g f, bo = some ⟨g, f, none⟩ ∧ W.cell? ⟨g, f + j, none⟩ = some (.int .u8 (s[j] : Int)) ∧ g < b := by
  obtain ⟨g, f, e, h1, _, h3⟩ := h.rd j (.int .u8 (s[j] : Int)) (by simp [u8L, hi])
  exact ⟨g, f, e, h3, h1⟩
set_option maxHeartbeats 3200000 in
set_option maxRecDepth 100000 in
/-- fail: the first fault -/
theorem qfail_new (h : Rn W b bo bc s i 0 0) (e2 k2 : Nat) : Calls Tryd.prog 46 #[.pointer (some ⟨b, 0, none⟩), .int .i64 (e2 : Int), .int .i64 (k2 : Int)] W fun e W' => e = .returned (.tuple #[]) ∧ Rn W' b bo bc s i e2 k2 ∧ Fg b W W' := by
  have H1 : Hid (Rn ((W.setCell ⟨b, 2, none⟩ (.int .i64 (e2 : Int))).setCell ⟨b, 3, none⟩ (.int .i64 (k2 : Int))) b bo bc s i e2 k2 ∧ Fg b W ((W.setCell ⟨b, 2, none⟩ (.int .i64 (e2 : Int))).setCell ⟨b, 3, none⟩ (.int .i64 (k2 : Int)))) := ⟨h.putF e2 k2, (Fg.set b 2 W _).trans (Fg.set b 3 _ _)⟩
  obtain ⟨c0, c1, c2, c3, f1, f2, f3⟩ := h.cells
  clear h
  go_enter Tryd.func46, Tryd.ntmps46
  go_wp2_with fail
  go_end0
  exact ⟨rfl, H1.out⟩
set_option maxHeartbeats 3200000 in
set_option maxRecDepth 100000 in
/-- fail: there is one already -/
theorem qfail_old (h : Rn W b bo bc s i er k) (he : er ≠ 0) (x y : Value) : Calls Tryd.prog 46 #[.pointer (some ⟨b, 0, none⟩), x, y] W fun e W' => e = .returned (.tuple #[]) ∧ W = W' := by
  obtain ⟨c0, c1, c2, c3, f1, f2, f3⟩ := h.cells
  have he2 : ((er : Int) == 0) = false := by rw [beq_eq_false_iff_ne]; omega
  clear h he
  go_enter Tryd.func46, Tryd.ntmps46
  go_wp2_with fail
  go_end0
  exact ⟨rfl, rfl⟩
set_option maxHeartbeats 3200000 in
set_option maxRecDepth 100000 in
/-- bad -/
theorem qbad_any (h : Rn W b bo bc s i er k) : Calls Tryd.prog 45 #[.pointer (some ⟨b, 0, none⟩)] W fun e W' => e = .returned (.bool ((er : Int) != 0)) ∧ W = W' := by
  obtain ⟨c0, c1, c2, c3, f1, f2, f3⟩ := h.cells
  clear h
  go_enter Tryd.func45, Tryd.ntmps45
  go_wp2_with fail
  go_ret
  exact ⟨rfl, rfl⟩
set_option maxHeartbeats 3200000 in
set_option maxRecDepth 100000 in
/-- byte, behind a fault -/
theorem qbyte_bad (h : Rn W b bo bc s i er k) (he : er ≠ 0) : Calls Tryd.prog 44 #[.pointer (some ⟨b, 0, none⟩)] W fun e W' => e = .returned (.int .i64 0) ∧ W = W' := by
  have HB := show Hid _ from qbad_any h
  have he2 : ((er : Int) != 0) = true := by rw [bne_iff_ne]; omega
  clear h he
  rw [he2] at HB
  go_enter Tryd.func44, Tryd.ntmps44
  go_wp2_with fail
  refine Calls.mono HB.out ?_
  rintro e _ ⟨rfl, rfl⟩
  go_wp2_with fail
  go_ret
  exact ⟨rfl, rfl⟩
set_option maxHeartbeats 6400000 in
set_option maxRecDepth 100000 in
/-- byte, at the end -/
theorem qbyte_end (h : Rn W b bo bc s i 0 0) (hi : i = s.length) : Calls Tryd.prog 44 #[.pointer (some ⟨b, 0, none⟩)] W fun e W' => e = .returned (.int .i64 0) ∧ Rn W' b bo bc s i 81 i ∧ Fg b W W' := by
  have HB : Hid (Calls Tryd.prog 45 #[.pointer (some ⟨b, 0, none⟩)] W fun e W' => e = .returned (.bool false) ∧ W = W') := qbad_any h
  have HF : Hid (∀ n, Rn (W.drewN n) b bo bc s i 0 0) := fun n => h.below (Nm.below_drewN W n)
  obtain ⟨c0, c1, c2, c3, f1, f2, f3⟩ := h.cells
  subst hi
  clear h
  go_enter Tryd.func44, Tryd.ntmps44
  go_wp2_with fail
  refine Calls.mono HB.out ?_
  rintro e _ ⟨rfl, rfl⟩
  go_wp2_with fail
  go_quiet (fail)
  have HF2 := show Hid _ from HF.out nq
  have HBl := show Hid _ from Nm.below_drewN W nq
  generalize W.drewN nq = W1 at *
  clear c0 c1 c2 c3 f1 f2 f3
  obtain ⟨c0, c1, c2, c3, f1, f2, f3⟩ := HF2.out.cells
  go_wp2_with fail
  refine (qfail_new HF2.out 81 s.length).mono ?_
  rintro e W2 ⟨rfl, hw, hf⟩
  go_wp2_with fail
  go_ret
  exact ⟨rfl, hw, (Fg.of_below HBl.out).trans hf⟩
set_option maxHeartbeats 6400000 in
set_option maxRecDepth 100000 in
/-- byte -/
theorem qbyte_ok (h : Rn W b bo bc s i 0 0) (hi : i < s.length) : Calls Tryd.prog 44 #[.pointer (some ⟨b, 0, none⟩)] W fun e W' => e = .returned (.int .i64 (s[i] : Int)) ∧ Rn W' b bo bc s (i + 1) 0 0 ∧ Fg b W W' := by
  obtain ⟨x, hx0⟩ : ∃ x, s[i] = x := ⟨_, rfl⟩
  rw [hx0]
  have hxx : Hid (s[i] = x) := hx0
  clear hx0
  have HB : Hid (Calls Tryd.prog 45 #[.pointer (some ⟨b, 0, none⟩)] W fun e W' => e = .returned (.bool false) ∧ W = W') := qbad_any h
  have HF : Hid (∀ n, Rn (W.drewN n) b bo bc s i 0 0) := fun n => h.below (Nm.below_drewN W n)
  obtain ⟨c0, c1, c2, c3, f1, f2, f3⟩ := h.cells
  have hi2 : decide (s.length ≤ i) = false := decide_eq_false (by omega)
  have hi3 : (i : Int) < 1000000000 := by have := h.lt; omega
  have HI : Hid (i < s.length) := hi
  clear h
  go_enter Tryd.func44, Tryd.ntmps44
  go_wp2_with fail
  refine Calls.mono HB.out ?_
  rintro e _ ⟨rfl, rfl⟩
  go_wp2_with fail
  go_quiet (fail)
  have HF2 := show Hid _ from HF.out nq
  have HBl := show Hid _ from Nm.below_drewN W nq
  generalize W.drewN nq = W1 at *
  clear c0 c1 c2 c3 f1 f2 f3
  obtain ⟨c0, c1, c2, c3, f1, f2, f3⟩ := HF2.out.cells
  obtain ⟨j, hj⟩ : ∃ j, j = i + 1 := ⟨_, rfl⟩
  have ew : IntKind.i64.wrap ((i : Int) + 1) = (j : Int) := by rw [IntKind.wrap_i64]; omega
  have ev : IntKind.i64.wrap ((j : Int) - 1) = (i : Int) := by rw [IntKind.wrap_i64]; omega
  have HJ : Hid (j = i + 1) := hj
  have HP : Hid (Rn (W1.setCell ⟨b, 1, none⟩ (.int .i64 (j : Int))) b bo bc s j 0 0 ∧ Fg b W1 (W1.setCell ⟨b, 1, none⟩ (.int .i64 (j : Int)))) := ⟨HF2.out.put1 (by omega), Fg.set b 1 W1 _⟩
  clear hj
  go_upto_region 7 with fail
  clear c0 c1 c2 c3 f1 f2 f3 ew
  generalize W1.setCell ⟨b, 1, none⟩ (.int .i64 (j : Int)) = W2 at *
  obtain ⟨c0, c1, c2, c3, f1, f2, f3⟩ := HP.out.1.cells
  obtain ⟨g, f, hbo, hx, -⟩ := HP.out.1.byte hi
  subst hbo
  rw [hxx.out] at hx
  have HX : Hid (x < 256) := hxx.out ▸ HP.out.1.byt _ (List.getElem_mem hi)
  have hi4 : (i : Int) < (s.length : Int) := by omega
  have ex : IntKind.i64.wrap (x : Int) = (x : Int) := by rw [IntKind.wrap_i64]; have := HX.out; omega
  clear hi2
  go_quiet (fail)
  have HE : Hid (Rn (W2.drewN nq) b (some ⟨g, f, none⟩) bc s j 0 0 ∧ Fg b W (W2.drewN nq)) := ⟨HP.out.1.below (Nm.below_drewN _ _), ((Fg.of_below HBl.out).trans HP.out.2).trans (Fg.of_below (Nm.below_drewN _ _))⟩
  go_wp2_with fail
  go_ret
  exact ⟨rfl, by rw [← HJ.out]; exact HE.out⟩
end
end Go.Proofs.YtcicifcnffacpaaDoor.Cd

set_option linter.unusedSimpArgs false
namespace Go.Proofs.YtcicifcnffacpaaDoor.Cd
open Go.RowKit Go.Proofs.YtcicifcnffacpaaDoor.Nm

/-- what a method of the reference's reader tells, from a place without a fault on -/
def PN {α : Type} (W : World) (b : Nat) (bo : Option Addr) (bc : Nat) (s : List Nat) (val : α → Value) (z : Value) (r : Rs α) (e : Ending) (W' : World) : Prop :=
  Fg b W W' ∧ match r with
  | .ok a j _ => e = .returned (val a) ∧ Rn W' b bo bc s j 0 0
  | .die er k => e = .returned z ∧ er ≠ 0 ∧ ∃ j, Rn W' b bo bc s j er k
theorem u64_add7 (acc x k : Nat) (ha : acc < 128 ^ k) (hk : k ≤ 8) : bits .or .u64 (acc : Int) (IntKind.u64.wrap ((x : Int) % 128 * 2 ^ (7 * k))) = ((acc + x % 128 * 128 ^ k : Nat) : Int) := by
  have e7 : (2 : Int) ^ (7 * k) = ((128 ^ k : Nat) : Int) := by rw [Int.pow_mul]; norm_cast
  have hp : 0 < 128 ^ k := Nat.pow_pos (by decide)
  have h8 : (128 : Nat) ^ k ≤ 128 ^ 8 := Nat.pow_le_pow_right (by decide) hk
  have h9 : x % 128 * 128 ^ k ≤ 127 * 128 ^ 8 := Nat.mul_le_mul (by omega) h8
  have e8 : (x : Int) % 128 * 2 ^ (7 * k) = ((x % 128 * 128 ^ k : Nat) : Int) := by rw [e7]; norm_cast
  have e9 : IntKind.u64.wrap ((x % 128 * 128 ^ k : Nat) : Int) = ((x % 128 * 128 ^ k : Nat) : Int) := by
    rw [IntKind.wrap_u64]
    omega
  have hm : ((x % 128 * 128 ^ k : Nat) : Int) % 2 ^ (7 * k) = 0 := by
    rw [e7]
    exact_mod_cast Nat.mul_mod_left (x % 128) (128 ^ k)
  rw [e8, e9]
  have hcomm : bits .or .u64 (acc : Int) ((x % 128 * 128 ^ k : Nat) : Int) = bits .or .u64 ((x % 128 * 128 ^ k : Nat) : Int) (acc : Int) := by simp only [bits, BitVec.or_comm]
  rw [hcomm, bits_join .u64 63 (by decide) (fun n h0 h1 => by rw [IntKind.wrap_u64]; omega) (7 * k) _ _ (by omega) hm (by omega) (by omega) (by rw [e7]; omega) (by omega)]
  omega
theorem i64_and127 (x : Nat) (h : x < 256) : bits .and .i64 (x : Int) 127 = (x : Int) % 128 := by
  have := bits_mask .i64 63 (by decide) (fun n h0 h1 => by rw [IntKind.wrap_i64]; omega) 7 (by decide) (x : Int) (by omega) (by omega)
  rw [show (127 : Int) = 2 ^ 7 - 1 by decide, this]
  omega
set_option maxHeartbeats 12800000 in
set_option maxRecDepth 100000 in
/-- num -/
theorem qnum_any {W : World} {b : Nat} {bo : Option Addr} {bc : Nat} {s : List Nat} {i : Nat} (h : Rn W b bo bc s i 0 0) : Calls Tryd.prog 49 #[.pointer (some ⟨b, 0, none⟩)] W (PN W b bo bc s (fun n : Nat => .tuple #[.int .u64 (n : Int), .int .i64 (i : Int)]) (.tuple #[.int .u64 0, .int .i64 (i : Int)]) (num i (s.drop i))) := by
  obtain ⟨r, hr⟩ : ∃ r, r = num i (s.drop i) := ⟨_, rfl⟩
  rw [← hr]
  have HR : Hid (r = num i (s.drop i)) := hr
  have H1 := show Hid _ from h
  obtain ⟨c0, c1, c2, c3, f1, f2, f3⟩ := h.cells
  clear h hr
  go_enter Tryd.func49, Tryd.ntmps49
  go_wp2_with fail
  go_loopg [5, 6] 9 (fun gq x y wr => ∃ k acc j : Nat, k ≤ 9 ∧ gq = 9 - k ∧ y = .int .i64 (k : Int) ∧ x = .int .u64 (acc : Int) ∧ Rn wr b bo bc s j 0 0 ∧ Fg b W wr ∧ r = numL i (9 - k) k acc j (s.drop j) ∧ acc < 128 ^ k)
  case atStart => exact ⟨0, 0, i, by omega, rfl, rfl, rfl, H1.out, Fg.refl _ _, HR.out, by decide⟩
  case round =>
    clear c0 c1 c2 c3 f1 f2 f3
    obtain ⟨k, acc, j, hk, hgk, rfl, rfl, hw, hf, hn, ha⟩ := hrel
    by_cases hk9 : k < 9
    · have HT : Hid (Rn wr b bo bc s j 0 0 ∧ Fg b W wr ∧ r = numL i (9 - k) k acc j (s.drop j) ∧ acc < 128 ^ k ∧ k < 9 ∧ gk = 9 - k) := ⟨hw, hf, hn, ha, hk9, hgk⟩
      have hk1 : (k : Int) < 9 := by omega
      clear hw hf hn ha hgk hk
      by_cases hj : j < s.length
      · obtain ⟨x, hx⟩ : ∃ x, x = s[j] := ⟨_, rfl⟩
        have hx2 : x < 256 := hx ▸ HT.out.1.byt _ (List.getElem_mem hj)
        have hst : r = numL i ((8 - k) + 1) k acc j (x :: s.drop (j + 1)) := by rw [HT.out.2.2.1, drop_at hj, ← hx, show 9 - k = (8 - k) + 1 by omega]
        rw [numL] at hst
        have HS : Hid ((r = if x = 0 ∧ 0 < k then .die 82 i else if x < 128 then .ok (acc + x * 128 ^ k) (j + 1) (s.drop (j + 1)) else numL i (8 - k) (k + 1) (acc + (x - 128) * 128 ^ k) (j + 1) (s.drop (j + 1))) ∧ x < 256) := ⟨hst, hx2⟩
        have HN : Hid (Calls Tryd.prog 44 #[.pointer (some ⟨b, 0, none⟩)] wr fun e W' => e = .returned (.int .i64 (x : Int)) ∧ Rn W' b bo bc s (j + 1) 0 0 ∧ Fg b wr W') := by rw [hx]; exact qbyte_ok HT.out.1 hj
        have HEq : Hid (bits .or .u64 (acc : Int) (IntKind.u64.wrap ((x : Int) % 128 * 2 ^ (7 * k))) = ((acc + x % 128 * 128 ^ k : Nat) : Int)) := u64_add7 acc x k HT.out.2.2.2.1 (by omega)
        have hx3 : (x : Int) < 256 := by omega
        have ec : bits .and .i64 (x : Int) 127 = (x : Int) % 128 := i64_and127 x hx2
        clear hst hx hx2 hj hk9
        go_wp2_with fail
        refine HN.out.mono ?_
        rintro e w1 ⟨rfl, hw, hf⟩
        have HE : Hid (Rn w1 b bo bc s (j + 1) 0 0 ∧ Fg b W w1) := ⟨hw, HT.out.2.1.trans hf⟩
        have HB : Hid (Calls Tryd.prog 45 #[.pointer (some ⟨b, 0, none⟩)] w1 fun e W' => e = .returned (.bool false) ∧ w1 = W') := qbad_any hw
        clear hw hf HN
        go_wp2_with fail
        refine HB.out.mono ?_
        rintro e _ ⟨rfl, rfl⟩
        go_upto_region 10 with fail
        rw [HEq.out]
        obtain ⟨A, hA⟩ : ∃ A, A = acc + x % 128 * 128 ^ k := ⟨_, rfl⟩
        rw [← hA]
        have HA : Hid (A = acc + x % 128 * 128 ^ k) := hA
        clear HEq ec hA HB
        by_cases hl : x < 128
        · have hl' : (x : Int) < 128 := by omega
          have hrk : r = if x = 0 ∧ 0 < k then .die 82 i else .ok A (j + 1) (s.drop (j + 1)) := by
            rw [HS.out.1, if_pos hl, HA.out, Nat.mod_eq_of_lt hl]
          have HRk : Hid (r = if x = 0 ∧ 0 < k then .die 82 i else .ok A (j + 1) (s.drop (j + 1))) := hrk
          clear hrk
          by_cases h0 : x = 0 ∧ 0 < k
          · obtain ⟨rfl, hk0⟩ := h0
            have hr : r = .die 82 i := by rw [HRk.out, if_pos ⟨rfl, hk0⟩]
            have hk0' : (0 : Int) < (k : Int) := by omega
            clear hl
            go_wp2_with fail
            refine (qfail_new HE.out.1 82 i).mono ?_
            rintro e w2 ⟨rfl, hw, hf⟩
            have HF : Hid (Rn w2 b bo bc s (j + 1) 82 i ∧ Fg b W w2) := ⟨hw, HE.out.2.trans hf⟩
            clear hw hf
            go_wp2_with fail
            go_ret2
            rw [hr]
            exact ⟨HF.out.2, rfl, by decide, j + 1, HF.out.1⟩
          · have hr : r = .ok A (j + 1) (s.drop (j + 1)) := by rw [HRk.out, if_neg h0]
            have e0 : (((x : Int) == 0) = true ∧ ¬ (0 : Int) < (k : Int)) ∨ ((x : Int) == 0) = false := by
              rcases (show (x = 0 ∧ k = 0) ∨ x ≠ 0 by omega) with ⟨rfl, rfl⟩ | h
              · exact Or.inl ⟨rfl, by omega⟩
              · exact Or.inr (by rw [beq_eq_false_iff_ne]; omega)
            clear hl h0
            rcases e0 with ⟨e0, e1⟩ | e0
            all_goals
              go_wp2_with fail
              go_ret2
              try rw [hr]
              exact ⟨HE.out.2, rfl, HE.out.1⟩
        · have hl' : ¬ (x : Int) < 128 := by omega
          have hr : r = numL i (8 - k) (k + 1) A (j + 1) (s.drop (j + 1)) := by
            rw [HS.out.1, if_neg (by omega), if_neg hl, HA.out]
            congr 2
            have := HS.out.2
            rw [show x % 128 = x - 128 by omega]
          have HA2 : Hid (A < 128 ^ (k + 1) ∧ r = numL i (8 - k) (k + 1) A (j + 1) (s.drop (j + 1))) := by
            refine ⟨?_, hr⟩
            have h1 : x % 128 ≤ 127 := by omega
            have h2 := Nat.mul_le_mul_right (128 ^ k) h1
            have h3 := HT.out.2.2.2.1
            have h4 := HA.out
            show _ < _
            rw [Nat.pow_succ]
            omega
          clear hl hr
          go_wp2_with fail
          go_roundg (9 - (k + 1))
          case measure => have := HT.out.2.2.2.2; omega
          case rel => exact ⟨k + 1, A, j + 1, by have := HT.out.2.2.2.2; omega, rfl, by go_num, rfl, HE.out.1, HE.out.2, by rw [HA2.out.2, show 9 - (k + 1) = 8 - k by omega], HA2.out.1⟩
      · have hje : j = s.length := by have := HT.out.1.le; omega
        have hr : r = .die 81 j := by
          rw [HT.out.2.2.1, drop_end hje, show 9 - k = (8 - k) + 1 by omega]
          rfl
        have HN := show Hid _ from qbyte_end HT.out.1 hje
        clear hk9 hje hj
        go_wp2_with fail
        refine Calls.mono HN.out ?_
        rintro e w1 ⟨rfl, hw, hf⟩
        have HE : Hid (Rn w1 b bo bc s j 81 j ∧ Fg b W w1) := ⟨hw, HT.out.2.1.trans hf⟩
        have HB : Hid (Calls Tryd.prog 45 #[.pointer (some ⟨b, 0, none⟩)] w1 fun e W' => e = .returned (.bool true) ∧ w1 = W') := qbad_any hw
        clear hw hf HN
        go_wp2_with fail
        refine HB.out.mono ?_
        rintro e _ ⟨rfl, rfl⟩
        go_wp2_with fail
        go_ret2
        rw [hr]
        exact ⟨HE.out.2, rfl, by decide, j, HE.out.1⟩
    · obtain rfl : k = 9 := by omega
      have hr : r = .die 82 i := hn
      have HW : Hid (Rn wr b bo bc s j 0 0 ∧ Fg b W wr) := ⟨hw, hf⟩
      clear hn ha hk hgk hk9 hw hf
      go_wp2_with fail
      refine (qfail_new HW.out.1 82 i).mono ?_
      rintro e w1 ⟨rfl, hw, hf⟩
      have HF : Hid (Rn w1 b bo bc s j 82 i ∧ Fg b W w1) := ⟨hw, HW.out.2.trans hf⟩
      clear hw hf
      go_wp2_with fail
      go_ret2
      rw [hr]
      exact ⟨HF.out.2, rfl, by decide, j, HF.out.1⟩
set_option maxHeartbeats 3200000 in
set_option maxRecDepth 100000 in
/-- num, behind a fault -/
theorem qnum_bad {W : World} {b : Nat} {bo : Option Addr} {bc : Nat} {s : List Nat} {i er k : Nat} (h : Rn W b bo bc s i er k) (he : er ≠ 0) : Calls Tryd.prog 49 #[.pointer (some ⟨b, 0, none⟩)] W fun e W' => e = .returned (.tuple #[.int .u64 0, .int .i64 (i : Int)]) ∧ W = W' := by
  have HN := show Hid _ from qbyte_bad h he
  have he2 : ((er : Int) != 0) = true := by rw [bne_iff_ne]; omega
  have HB := show Hid _ from qbad_any h
  rw [he2] at HB
  obtain ⟨c0, c1, c2, c3, f1, f2, f3⟩ := h.cells
  clear h he he2
  go_enter Tryd.func49, Tryd.ntmps49
  go_wp2_with fail
  go_loopg [5, 6] 9 (fun gq x y wr => W = wr ∧ x = .int .u64 0 ∧ y = .int .i64 0)
  case atStart => exact ⟨rfl, rfl, rfl⟩
  case round =>
    obtain ⟨rfl, rfl, rfl⟩ := hrel
    go_wp2_with fail
    refine Calls.mono HN.out ?_
    rintro e _ ⟨rfl, rfl⟩
    go_wp2_with fail
    refine Calls.mono HB.out ?_
    rintro e _ ⟨rfl, rfl⟩
    go_wp2_with fail
    go_ret2
    exact ⟨rfl, rfl⟩
theorem num_ltN {s : List Nat} (hb : byts s) {i n j : Nat} {t : List Nat} (h : num i (s.drop i) = .ok n j t) : n < 9223372036854775808 := (num_inv (fun x hx => hb x (List.mem_of_mem_drop hx)) h).2.1
set_option maxHeartbeats 6400000 in
set_option maxRecDepth 100000 in
/-- many -/
theorem qmany_any {W : World} {b : Nat} {bo : Option Addr} {bc : Nat} {s : List Nat} {i : Nat} (h : Rn W b bo bc s i 0 0) (most : Nat) (hm : most < 1000000000) : Calls Tryd.prog 47 #[.pointer (some ⟨b, 0, none⟩), .int .i64 (most : Int)] W (PN W b bo bc s (fun n : Nat => .int .i64 (n : Int)) (.int .i64 0) (cnt most i (s.drop i))) := by
  have HN := show Hid _ from qnum_any h
  have HL : Hid (∀ n j t, num i (s.drop i) = .ok n j t → n < 9223372036854775808) := fun n j t => num_ltN h.byt
  have HM : Hid (most < 1000000000) := hm
  have em : IntKind.u64.wrap (most : Int) = (most : Int) := by rw [IntKind.wrap_u64]; omega
  clear h hm
  unfold cnt
  obtain ⟨r, hr⟩ : ∃ r, num i (s.drop i) = r := ⟨_, rfl⟩
  rw [hr] at HN ⊢
  rw [hr] at HL
  clear hr
  obtain ⟨R, hR⟩ : ∃ R, R = (r.bind fun n i' t => if most < n then .die 85 i else .ok n i' t) := ⟨_, rfl⟩
  rw [← hR]
  have HR : Hid (R = (r.bind fun n i' t => if most < n then .die 85 i else .ok n i' t)) := hR
  clear hR
  go_enter Tryd.func47, Tryd.ntmps47
  go_wp2_with fail
  refine Calls.mono HN.out ?_
  rintro e w1 ⟨hf, hp⟩
  cases r with
  | ok n j t =>
    obtain ⟨rfl, hw⟩ := hp
    have hn := HL.out n j t rfl
    have en : IntKind.i64.wrap (n : Int) = (n : Int) := by rw [IntKind.wrap_i64]; omega
    have HE : Hid (Rn w1 b bo bc s j 0 0 ∧ Fg b W w1) := ⟨hw, hf⟩
    have HB : Hid (Calls Tryd.prog 45 #[.pointer (some ⟨b, 0, none⟩)] w1 fun e W' => e = .returned (.bool false) ∧ w1 = W') := qbad_any hw
    clear hf hw hn HN HL
    go_wp2_with fail
    refine Calls.mono HB.out ?_
    rintro e _ ⟨rfl, rfl⟩
    by_cases hl : most < n
    · have hl1 : (most : Int) < (n : Int) := by omega
      have hl2 : decide (most < n) = true := decide_eq_true hl
      have HLt : Hid (most < n) := hl
      clear hl
      go_wp2_with fail
      refine (qfail_new HE.out.1 85 i).mono ?_
      rintro e w2 ⟨rfl, hw, hf⟩
      have HF : Hid (Rn w2 b bo bc s j 85 i ∧ Fg b W w2) := ⟨hw, HE.out.2.trans hf⟩
      clear hw hf
      go_wp2_with fail
      go_ret
      have e9 : R = .die 85 i := by rw [HR.out]; exact if_pos HLt.out
      rw [e9]
      exact ⟨HF.out.2, rfl, by decide, j, HF.out.1⟩
    · have hl1 : decide ((most : Int) < (n : Int)) = false := decide_eq_false (by omega)
      have hl2 : decide (most < n) = false := decide_eq_false hl
      have HLt : Hid (¬ most < n) := hl
      clear hl
      go_wp2_with fail
      go_ret
      have e9 : R = .ok n j t := by rw [HR.out]; exact if_neg HLt.out
      rw [e9]
      exact ⟨HE.out.2, rfl, HE.out.1⟩
  | die er k =>
    obtain ⟨rfl, he, j, hw⟩ := hp
    have HE : Hid (Rn w1 b bo bc s j er k ∧ Fg b W w1 ∧ er ≠ 0) := ⟨hw, hf, he⟩
    have he2 : ((er : Int) != 0) = true := by rw [bne_iff_ne]; omega
    have HB := show Hid _ from qbad_any hw
    rw [he2] at HB
    clear hf hw he he2 HN HL
    go_wp2_with fail
    refine Calls.mono HB.out ?_
    rintro e _ ⟨rfl, rfl⟩
    go_wp2_with fail
    go_ret
    have e9 : R = .die er k := HR.out
    rw [e9]
    exact ⟨HE.out.2.1, rfl, HE.out.2.2, j, HE.out.1⟩
set_option maxHeartbeats 6400000 in
set_option maxRecDepth 100000 in
/-- many, behind a fault -/
theorem qmany_bad {W : World} {b : Nat} {bo : Option Addr} {bc : Nat} {s : List Nat} {i er k : Nat} (h : Rn W b bo bc s i er k) (he : er ≠ 0) (most : Nat) : Calls Tryd.prog 47 #[.pointer (some ⟨b, 0, none⟩), .int .i64 (most : Int)] W fun e W' => e = .returned (.int .i64 0) ∧ W = W' := by
  have HN := show Hid _ from qnum_bad h he
  have he2 : ((er : Int) != 0) = true := by rw [bne_iff_ne]; omega
  have HB := show Hid _ from qbad_any h
  rw [he2] at HB
  clear h he he2
  go_enter Tryd.func47, Tryd.ntmps47
  go_wp2_with fail
  refine Calls.mono HN.out ?_
  rintro e _ ⟨rfl, rfl⟩
  go_wp2_with fail
  refine Calls.mono HB.out ?_
  rintro e _ ⟨rfl, rfl⟩
  go_wp2_with fail
  go_ret
  exact ⟨rfl, rfl⟩
end Go.Proofs.YtcicifcnffacpaaDoor.Cd

set_option linter.unusedSimpArgs false
namespace Go.Proofs.YtcicifcnffacpaaDoor.Cd
open Go.RowKit Go.Proofs.YtcicifcnffacpaaDoor.Nm

theorem u64_and1 (x : Nat) (h : x < 9223372036854775808) : bits .and .u64 (x : Int) 1 = (x : Int) % 2 := by
  have := bits_mask .u64 63 (by decide) (fun n h0 h1 => by rw [IntKind.wrap_u64]; omega) 1 (by decide) (x : Int) (by omega) (by omega)
  rw [show (1 : Int) = 2 ^ 1 - 1 by decide, this]
  omega
set_option maxHeartbeats 6400000 in
set_option maxRecDepth 100000 in
/-- int -/
theorem qint_any {W : World} {b : Nat} {bo : Option Addr} {bc : Nat} {s : List Nat} {i : Nat} (h : Rn W b bo bc s i 0 0) : Calls Tryd.prog 48 #[.pointer (some ⟨b, 0, none⟩)] W (PN W b bo bc s (fun n : Int => .int .i64 n) (.int .i64 0) (rsg i (s.drop i))) := by
  have HN := show Hid _ from qnum_any h
  have HL : Hid (∀ n j t, num i (s.drop i) = .ok n j t → n < 9223372036854775808) := fun n j t => num_ltN h.byt
  clear h
  unfold rsg
  obtain ⟨r, hr⟩ : ∃ r, num i (s.drop i) = r := ⟨_, rfl⟩
  rw [hr] at HN ⊢
  rw [hr] at HL
  clear hr
  obtain ⟨R, hR⟩ : ∃ R, R = (r.bind fun n i t => .ok (nsg n) i t) := ⟨_, rfl⟩
  rw [← hR]
  have HR : Hid (R = (r.bind fun n i t => .ok (nsg n) i t)) := hR
  clear hR
  go_enter Tryd.func48, Tryd.ntmps48
  go_wp2_with fail
  refine Calls.mono HN.out ?_
  rintro e w1 ⟨hf, hp⟩
  cases r with
  | ok n j t =>
    obtain ⟨rfl, hw⟩ := hp
    have hn := HL.out n j t rfl
    have HE : Hid (Rn w1 b bo bc s j 0 0 ∧ Fg b W w1 ∧ R = .ok (nsg n) j t ∧ n < 9223372036854775808) := ⟨hw, hf, HR.out, hn⟩
    have ea := u64_and1 n hn
    clear hf hw hn HN HL HR
    rcases Nat.mod_two_eq_zero_or_one n with h2 | h2
    · have e2 : (n : Int) % 2 = 0 := by omega
      have hv : nsg n = ((n / 2 : Nat) : Int) := by unfold nsg; rw [if_neg (by omega)]
      have HV := show Hid _ from hv
      clear hv
      clear h2
      go_wp2_with fail
      go_ret
      rw [HE.out.2.2.1]
      refine ⟨HE.out.2.1, ?_, HE.out.1⟩
      have h9 := HE.out.2.2.2
      show Ending.returned (Value.int .i64 (wrap64 ((n : Int) / 2))) = .returned (.int .i64 (nsg n))
      rw [HV.out]
      congr 2
      unfold wrap64
      omega
    · have e2 : (n : Int) % 2 = 1 := by omega
      have hv : nsg n = -((n / 2 : Nat) : Int) - 1 := by unfold nsg; rw [if_pos h2]
      have HV := show Hid _ from hv
      clear hv
      clear h2
      go_wp2_with fail
      go_ret
      rw [HE.out.2.2.1]
      refine ⟨HE.out.2.1, ?_, HE.out.1⟩
      have h9 := HE.out.2.2.2
      show Ending.returned (Value.int .i64 (wrap64 (wrap64 (-wrap64 ((n : Int) / 2)) - 1))) = .returned (.int .i64 (nsg n))
      rw [HV.out]
      congr 2
      unfold wrap64
      omega
  | die er k =>
    obtain ⟨rfl, he, j, hw⟩ := hp
    have HE : Hid (Rn w1 b bo bc s j er k ∧ Fg b W w1 ∧ er ≠ 0) := ⟨hw, hf, he⟩
    have ea : bits .and .u64 0 1 = 0 := by decide
    clear hf hw he HN HL
    go_wp2_with fail
    go_ret
    have e9 : R = .die er k := HR.out
    rw [e9]
    exact ⟨HE.out.2.1, rfl, HE.out.2.2, j, HE.out.1⟩
set_option maxHeartbeats 3200000 in
set_option maxRecDepth 100000 in
/-- int, behind a fault -/
theorem qint_bad {W : World} {b : Nat} {bo : Option Addr} {bc : Nat} {s : List Nat} {i er k : Nat} (h : Rn W b bo bc s i er k) (he : er ≠ 0) : Calls Tryd.prog 48 #[.pointer (some ⟨b, 0, none⟩)] W fun e W' => e = .returned (.int .i64 0) ∧ W = W' := by
  have HN := show Hid _ from qnum_bad h he
  have ea : bits .and .u64 0 1 = 0 := by decide
  clear h he
  go_enter Tryd.func48, Tryd.ntmps48
  go_wp2_with fail
  refine Calls.mono HN.out ?_
  rintro e _ ⟨rfl, rfl⟩
  go_wp2_with fail
  go_ret
  exact ⟨rfl, rfl⟩
/-! the reader somewhere in a whole: without a fault, and K is what is still to be read; or behind its fault -/
def Ctn {β : Type} (W : World) (b : Nat) (bo : Option Addr) (bc : Nat) (s : List Nat) (R : Rs β) (K : Nat → List Nat → Rs β) : Prop :=
  ∃ i er k, Rn W b bo bc s i er k ∧ ((er = 0 ∧ k = 0 ∧ R = K i (s.drop i)) ∨ (er ≠ 0 ∧ R = .die er k))
section
variable {β : Type} {W W' : World} {b : Nat} {bo : Option Addr} {bc : Nat} {s : List Nat} {R : Rs β} {K K2 : Nat → List Nat → Rs β}
theorem Ctn.keep (h : Ctn W b bo bc s R K) (hk : ∀ k, k ≤ b → W'.heap[k]? = W.heap[k]?) (hs : W.heap.size ≤ W'.heap.size) : Ctn W' b bo bc s R K := by
  obtain ⟨i, er, k, h1, h2⟩ := h
  exact ⟨i, er, k, h1.keep hk hs, h2⟩
theorem Ctn.below (h : Ctn W b bo bc s R K) (hb : Below W.heap.size W W') : Ctn W' b bo bc s R K := by
  obtain ⟨i, er, k, h1, h2⟩ := h
  exact ⟨i, er, k, h1.below hb, h2⟩
theorem Ctn.imp (h : Ctn W b bo bc s R K) (hK : ∀ i, R = K i (s.drop i) → R = K2 i (s.drop i)) : Ctn W b bo bc s R K2 := by
  obtain ⟨i, er, k, h1, ⟨h2, h3, h4⟩ | h2⟩ := h
  · exact ⟨i, er, k, h1, Or.inl ⟨h2, h3, hK i h4⟩⟩
  · exact ⟨i, er, k, h1, Or.inr h2⟩
theorem Ctn.blt (h : Ctn W b bo bc s R K) : b < W.heap.size := by
  obtain ⟨i, er, k, h1, -⟩ := h
  exact h1.blt
theorem good_dropN {α : Type} {f : Nat → List Nat → Rs α} (hf : Good f) {i j : Nat} {a : α} {t : List Nat} (h : f i (s.drop i) = .ok a j t) : t = s.drop j := by
  obtain ⟨c, h1, h2, -, -⟩ := hf i _ a j t h
  have h3 := congrArg (List.drop c.length) h1
  rw [List.drop_drop, List.drop_left] at h3
  rw [h2]
  exact h3.symm
theorem pn_ctn {α : Type} {f : Nat → List Nat → Rs α} (hf : Good f) {g : α → Nat → List Nat → Rs β} {val : α → Value} {z : Value} {i : Nat} {e : Ending} (hR : R = (f i (s.drop i)).bind g) (h : PN W b bo bc s val z (f i (s.drop i)) e W') (a0 : α) (hz : z = val a0) : Fg b W W' ∧ ∃ a, e = .returned (val a) ∧ Ctn W' b bo bc s R (g a) ∧ ((∃ j t, f i (s.drop i) = .ok a j t) ∨ a = a0) := by
  obtain ⟨h1, h2⟩ := h
  refine ⟨h1, ?_⟩
  cases hr : f i (s.drop i) with
  | ok a j t =>
    rw [hr] at h2 hR
    obtain ⟨h3, h4⟩ := h2
    refine ⟨a, h3, ⟨j, 0, 0, h4, Or.inl ⟨rfl, rfl, ?_⟩⟩, Or.inl ⟨j, t, rfl⟩⟩
    rw [hR, good_dropN hf hr]
    rfl
  | die er k =>
    rw [hr] at h2 hR
    obtain ⟨h3, h4, j, h5⟩ := h2
    exact ⟨a0, by rw [h3, hz], ⟨j, er, k, h5, Or.inr ⟨h4, hR⟩⟩, Or.inr rfl⟩
/-- bad -/
theorem ctn_bad (h : Ctn W b bo bc s R K) : Calls Tryd.prog 45 #[.pointer (some ⟨b, 0, none⟩)] W fun e W' => ∃ r : Bool, e = .returned (.bool r) ∧ W = W' ∧ (r = false → ∃ i, Rn W b bo bc s i 0 0 ∧ R = K i (s.drop i)) ∧ (r = true → ∃ i er k, Rn W b bo bc s i er k ∧ er ≠ 0 ∧ R = .die er k) := by
  obtain ⟨i, er, k, h1, h2⟩ := h
  refine (qbad_any h1).mono ?_
  rintro e W' ⟨rfl, rfl⟩
  refine ⟨(er : Int) != 0, rfl, rfl, fun hr => ?_, fun hr => ?_⟩
  · rcases h2 with ⟨rfl, rfl, h3⟩ | ⟨h3, h4⟩
    · exact ⟨i, h1, h3⟩
    · exfalso
      rw [show ((er : Int) != 0) = true by rw [bne_iff_ne]; omega] at hr
      cases hr
  · rcases h2 with ⟨rfl, rfl, h3⟩ | ⟨h3, h4⟩
    · cases hr
    · exact ⟨i, er, k, h1, h3, h4⟩
/-- many -/
theorem ctn_many {g : Nat → Nat → List Nat → Rs β} {most : Nat} (hm : most < 1000000000) (h : Ctn W b bo bc s R fun i t => (cnt most i t).bind g) : Calls Tryd.prog 47 #[.pointer (some ⟨b, 0, none⟩), .int .i64 (most : Int)] W fun e W' => Fg b W W' ∧ ∃ a : Nat, e = .returned (.int .i64 (a : Int)) ∧ Ctn W' b bo bc s R (g a) ∧ a ≤ most := by
  obtain ⟨i, er, k, h1, ⟨rfl, rfl, h3⟩ | ⟨h3, h4⟩⟩ := h
  · refine (qmany_any h1 most hm).mono ?_
    intro e W' hp
    obtain ⟨q1, a, q2, q3, q4⟩ := pn_ctn (cnt_good most) h3 hp 0 rfl
    refine ⟨q1, a, q2, q3, ?_⟩
    rcases q4 with ⟨j, t, q4⟩ | rfl
    · unfold cnt at q4
      cases hn : num i (s.drop i) with
      | die er k => rw [hn] at q4; cases q4
      | ok n j' t' =>
        rw [hn] at q4
        change (if most < n then Rs.die 85 i else .ok n j' t') = _ at q4
        by_cases hl : most < n
        · rw [if_pos hl] at q4; cases q4
        · rw [if_neg hl] at q4
          cases q4
          omega
    · exact Nat.zero_le _
  · refine (qmany_bad h1 h3 most).mono ?_
    rintro e W' ⟨rfl, rfl⟩
    exact ⟨Fg.refl _ _, 0, rfl, ⟨i, er, k, h1, Or.inr ⟨h3, h4⟩⟩, Nat.zero_le _⟩
/-- int -/
theorem ctn_int {g : Int → Nat → List Nat → Rs β} (h : Ctn W b bo bc s R fun i t => (rsg i t).bind g) : Calls Tryd.prog 48 #[.pointer (some ⟨b, 0, none⟩)] W fun e W' => Fg b W W' ∧ ∃ a : Int, e = .returned (.int .i64 a) ∧ Ctn W' b bo bc s R (g a) := by
  obtain ⟨i, er, k, h1, ⟨rfl, rfl, h3⟩ | ⟨h3, h4⟩⟩ := h
  · refine (qint_any h1).mono ?_
    intro e W' hp
    obtain ⟨q1, a, q2, q3, -⟩ := pn_ctn rsg_good h3 hp 0 rfl
    exact ⟨q1, a, q2, q3⟩
  · refine (qint_bad h1 h3).mono ?_
    rintro e W' ⟨rfl, rfl⟩
    exact ⟨Fg.refl _ _, 0, rfl, ⟨i, er, k, h1, Or.inr ⟨h3, h4⟩⟩⟩
/-- num -/
theorem ctn_num {g : Nat → Nat → List Nat → Rs β} (h : Ctn W b bo bc s R fun i t => (num i t).bind g) : Calls Tryd.prog 49 #[.pointer (some ⟨b, 0, none⟩)] W fun e W' => Fg b W W' ∧ ∃ a at_ : Nat, e = .returned (.tuple #[.int .u64 (a : Int), .int .i64 (at_ : Int)]) ∧ Ctn W' b bo bc s R (g a) ∧ a < 9223372036854775808 := by
  obtain ⟨i, er, k, h1, ⟨rfl, rfl, h3⟩ | ⟨h3, h4⟩⟩ := h
  · refine (qnum_any h1).mono ?_
    intro e W' hp
    obtain ⟨q1, a, q2, q3, q4⟩ := pn_ctn num_good0 h3 hp 0 rfl
    refine ⟨q1, a, i, q2, q3, ?_⟩
    rcases q4 with ⟨j, t, q4⟩ | rfl
    · exact num_ltN h1.byt q4
    · omega
  · refine (qnum_bad h1 h3).mono ?_
    rintro e W' ⟨rfl, rfl⟩
    exact ⟨Fg.refl _ _, 0, i, rfl, ⟨i, er, k, h1, Or.inr ⟨h3, h4⟩⟩, by omega⟩
end
end Go.Proofs.YtcicifcnffacpaaDoor.Cd

set_option linter.unusedSimpArgs false
namespace Go.Proofs.YtcicifcnffacpaaDoor.Cd
open Go.RowKit Go.Proofs.YtcicifcnffacpaaDoor.Nm Go.Proofs.YtcicifcnffacpaaDoor.Vf

section
variable {β : Type} {W w w' w0 w1 w4 : World} {b pb n m ix sz : Nat} {bo : Option Addr} {bc : Nat} {s : List Nat} {R : Rs β} {K : Nat → List Nat → Rs β} {C : Value → Array Value} {T : TypeId} {xs news : List Value} {v v' : Value}
/-- a list of the reference's program in the making: it grows by append into the box at pb; of the older blocks only b and pb have turned since w0 -/
structure Lq (w0 : World) (b pb : Nat) (C : Value → Array Value) (T : TypeId) (sz n : Nat) (xs : List Value) (v : Value) (w : World) : Prop where
  fr : Fb [b, pb] w0.heap.size w0 w
  hb : w.heap[pb]? = some (.cells (C v) 27 (0, 0))
  ow : w.ownsRow w0.heap.size T sz v n xs
  lt : b < pb ∧ pb < w0.heap.size
theorem Lq.start (hb : w0.heap[pb]? = some (.cells (C (.slice none 0 0)) 27 (0, 0))) (hl : b < pb) : Lq w0 b pb C T sz 0 [] (.slice none 0 0) w0 :=
  ⟨Fb.refl _ _ _, hb, World.ownsRow_nil _ _ _ _, hl, blk_lt hb⟩
theorem Lq.fg (h : Lq w0 b pb C T sz n xs v w) (hf : Fg b w w1) : Lq w0 b pb C T sz n xs v w1 := by
  have h0 := h.fr.size
  exact ⟨h.fr.trans ⟨hf.os, hf.tape, hf.output, hf.size, fun k hk hn => hf.block k (by omega) (fun e => hn (by simp [e]))⟩, (hf.block pb (blk_lt h.hb) (by have := h.lt; omega)).trans h.hb, own_keepB h.ow fun k e => hf.block k (World.ownsRow.lt h.ow k e).2 (by have := (World.ownsRow.lt h.ow k e).1; have := h.lt; omega), h.lt⟩
theorem Lq.below (h : Lq w0 b pb C T sz n xs v w) (hb : Below w.heap.size w w1) : Lq w0 b pb C T sz n xs v w1 := h.fg (Fg.of_below hb)
theorem Lq.app (h : Lq w0 b pb C T sz n xs v w) (ho : w4.ownsRow w0.heap.size T sz v' m (xs ++ news)) (hG : Gone w v w4 v') (hC : (C v).setIfInBounds ix v' = C v') : Lq w0 b pb C T sz m (xs ++ news) v' (w4.setCell ⟨pb, ix, none⟩ v') := by
  have h0 := h.fr.size
  have hl := h.lt
  have hown : ∀ k, v.ownBlock = some k → w0.heap.size ≤ k := fun k e => (World.ownsRow.lt h.ow k e).1
  have key : ∀ k, k < w0.heap.size → w4.heap[k]? = w.heap[k]? := fun k hk => hG.1.block k (by omega) fun e => by have := hown k e.symm; omega
  have hb4 : w4.heap[pb]? = some (.cells (C v) 27 (0, 0)) := (key pb hl.2).trans h.hb
  have hs := hG.1.size
  have hset : ∀ k, k ≠ pb → (w4.setCell ⟨pb, ix, none⟩ v').heap[k]? = w4.heap[k]? := fun k hk => Below.heap_setCell w4 _ v' k (fun e => hk e)
  have hsz : (w4.setCell ⟨pb, ix, none⟩ v').heap.size = w4.heap.size := by simp [World.setCell]
  refine ⟨⟨hG.1.os.trans h.fr.os, hG.1.tape.trans h.fr.tape, hG.1.output.trans h.fr.output, by omega, fun k hk hn => ((hset k (fun e => hn (by simp [e]))).trans (key k hk)).trans (h.fr.block k hk hn)⟩, ?_, own_keepB ho fun k e => hset k (by have := (World.ownsRow.lt ho k e).1; omega), hl⟩
  rw [heap_setCell_same w4 pb ix _ _ v' hb4, hC]
theorem Lq.appC (h : Lq w0 b pb C T sz n xs v w) (hc : Ctn w b bo bc s R K) (hG : Gone w v w4 v') : Ctn (w4.setCell ⟨pb, ix, none⟩ v') b bo bc s R K := by
  have h0 := h.fr.size
  have hl := h.lt
  have hs := hG.1.size
  refine hc.keep (fun k hk => (Below.heap_setCell w4 _ v' k (fun e => by have e' : k = pb := e; omega)).trans (hG.1.block k (by omega) fun e => by have := (World.ownsRow.lt h.ow k e.symm).1; omega)) ?_
  simp [World.setCell]
  omega
theorem Lq.at4 (h : Lq w0 b pb C T sz n xs v w) (hG : Gone w v w4 v') {u : Value} (hc : (C v)[ix]? = some u) : w4.cell? ⟨pb, ix, none⟩ = some u ∧ w4.frozen? ⟨pb, ix, none⟩ = false := by
  have h0 := h.fr.size
  have hl := h.lt
  have hb4 : w4.heap[pb]? = some (.cells (C v) 27 (0, 0)) := (hG.1.block pb (by omega) fun e => by have := (World.ownsRow.lt h.ow pb e.symm).1; omega).trans h.hb
  exact ⟨by simp only [World.cell?, hb4]; exact hc, fzb hb4 ix⟩
theorem Lq.cell (h : Lq w0 b pb C T sz n xs v w) {u : Value} (hc : (C v)[ix]? = some u) : w.cell? ⟨pb, ix, none⟩ = some u := by
  simp only [World.cell?, h.hb]
  exact hc
/-- a block that is neither, older than the list -/
theorem Lq.old (h : Lq w0 b pb C T sz n xs v w) {k : Nat} {x : Obj} (hk : w0.heap[k]? = some x) (h1 : k ≠ b) (h2 : k ≠ pb) : w.heap[k]? = some x := (h.fr.block k (blk_lt hk) (by simp [h1, h2])).trans hk
end
end Go.Proofs.YtcicifcnffacpaaDoor.Cd
