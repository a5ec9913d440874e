import Derived.Test.YtcblichnkakhdaaDoorCeNum
import Derived.Test.YtcblichnkakhdaaDoorCeInv
set_option linter.unusedSimpArgs false
namespace Go.Proofs.YtcblichnkakhdaaDoor.Cd
open Go.RowKit Go.Proofs.YtcblichnkakhdaaDoor.Nm

/-- what a reader's method tells -/
def RP {α : Type} (W : World) (b : Nat) (bo : Option Addr) (bc : Nat) (s : List Nat) (val : α → Value) (r : Rs α) (e : Ending) (W' : World) : Prop :=
  match r with
  | .ok a j _ => e = .returned (val a) ∧ (∃ fr, Rdr W' b bo bc s j fr) ∧ Fg b W W'
  | .die er k => e = flt er k ∧ Fg b W W'
section
variable {W : World} {b : Nat} {bo : Option Addr} {bc : Nat} {s : List Nat} {i fr j er k F : Nat} {t : List Nat} {args : Array Value}
theorem RP.of_ok {α : Type} {val : α → Value} {r : Rs α} {a : α} (h : Calls Tryd.prog F args W fun e W' => RP W b bo bc s val r e W') (hr : r = .ok a j t) : Calls Tryd.prog F args W fun e W' => e = .returned (val a) ∧ (∃ fr, Rdr W' b bo bc s j fr) ∧ Fg b W W' := by subst hr; exact h
theorem RP.of_die {α : Type} {val : α → Value} {r : Rs α} (h : Calls Tryd.prog F args W fun e W' => RP W b bo bc s val r e W') (hr : r = .die er k) : Calls Tryd.prog F args W fun e W' => e = flt er k ∧ Fg b W W' := by subst hr; exact h
theorem rnum_ok {n : Nat} (h : Rdr W b bo bc s i fr) (hn : num i (s.drop i) = .ok n j t) : Calls Tryd.prog 31 #[.pointer (some ⟨b, 0, none⟩)] W fun e W' => e = .returned (.int .i64 (n : Int)) ∧ Rdr W' b bo bc s j i ∧ Fg b W W' := by
  have := rnum_any h
  rw [hn] at this
  exact this
theorem rnum_die (h : Rdr W b bo bc s i fr) (hn : num i (s.drop i) = .die er k) : Calls Tryd.prog 31 #[.pointer (some ⟨b, 0, none⟩)] W fun e W' => e = flt er k ∧ Fg b W W' := by
  have := rnum_any h
  rw [hn] at this
  exact this
theorem byts_drop (h : ∀ x ∈ s, x < 256) (i : Nat) : byts (s.drop i) := fun x hx => h x (List.mem_of_mem_drop hx)
theorem num_lt {n : Nat} (h : Rdr W b bo bc s i fr) (hn : num i (s.drop i) = .ok n j t) : n < 9223372036854775808 := (num_inv (byts_drop h.byt i) hn).2.1
set_option maxHeartbeats 6400000 in
set_option maxRecDepth 100000 in
/-- an int is read -/
theorem rsgn_any (h : Rdr W b bo bc s i fr) : Calls Tryd.prog 37 #[.pointer (some ⟨b, 0, none⟩)] W fun e W' => RP W b bo bc s (fun n : Int => .int .i64 n) (rsg i (s.drop i)) e W' := by
  unfold rsg
  cases hn : num i (s.drop i) with
  | die er k =>
    have HN : Hid (Calls Tryd.prog 31 #[.pointer (some ⟨b, 0, none⟩)] W fun e W' => e = flt er k ∧ Fg b W W') := rnum_die h hn
    clear hn h
    go_enter Tryd.func37, Tryd.ntmps37
    go_wp2_with fail
    refine HN.out.mono ?_
    rintro e w1 ⟨rfl, hf⟩
    have HF : Hid (Fg b W w1) := hf
    clear hf
    go_wp2_with fail
    exact ⟨rfl, rfl, HF.out⟩
  | ok n j t =>
    have HN : Hid (Calls Tryd.prog 31 #[.pointer (some ⟨b, 0, none⟩)] W fun e W' => e = .returned (.int .i64 (n : Int)) ∧ Rdr W' b bo bc s j i ∧ Fg b W W') := rnum_ok h hn
    have hl : (n : Int) ≤ 9223372036854775807 := by have := num_lt h hn; omega
    have HV : Hid (nsg n = if n % 2 = 1 then -((n / 2 : Nat) : Int) - 1 else ((n / 2 : Nat) : Int)) := rfl
    clear hn h
    by_cases hm : n % 2 = 1
    · have e1 : ((n : Int) % 2 == 1) = true := by rw [beq_iff_eq]; omega
      obtain ⟨q, hq⟩ : ∃ q : Nat, q = n / 2 := ⟨_, rfl⟩
      have e2 : (n : Int) / 2 = (q : Int) := by omega
      have e3 : (q : Int) ≤ 4611686018427387904 := by omega
      have HQ : Hid (nsg n = -(q : Int) - 1) := by rw [hq]; exact HV.out.trans (if_pos hm)
      clear hq hm
      go_enter Tryd.func37, Tryd.ntmps37
      go_wp2_with fail
      refine HN.out.mono ?_
      rintro e w1 ⟨rfl, hw, hf⟩
      have HF : Hid (Rdr w1 b bo bc s j i ∧ Fg b W w1) := ⟨hw, hf⟩
      clear hw hf
      go_wp2_with fail
      go_ret
      refine ⟨?_, ⟨_, HF.out.1⟩, HF.out.2⟩
      rw [HQ.out]
      first
        | rfl
        | (simp; omega)
    · have e1 : ((n : Int) % 2 == 1) = false := by rw [beq_eq_false_iff_ne]; omega
      obtain ⟨q, hq⟩ : ∃ q : Nat, q = n / 2 := ⟨_, rfl⟩
      have e2 : (n : Int) / 2 = (q : Int) := by omega
      have HQ : Hid (nsg n = (q : Int)) := by rw [hq]; exact HV.out.trans (if_neg hm)
      clear hq hm
      go_enter Tryd.func37, Tryd.ntmps37
      go_wp2_with fail
      refine HN.out.mono ?_
      rintro e w1 ⟨rfl, hw, hf⟩
      have HF : Hid (Rdr w1 b bo bc s j i ∧ Fg b W w1) := ⟨hw, hf⟩
      clear hw hf
      go_wp2_with fail
      go_ret
      refine ⟨?_, ⟨_, HF.out.1⟩, HF.out.2⟩
      rw [HQ.out]
      rfl
set_option maxHeartbeats 6400000 in
set_option maxRecDepth 100000 in
/-- how many there are -/
theorem rcnt_any (h : Rdr W b bo bc s i fr) (most : Nat) : Calls Tryd.prog 60 #[.pointer (some ⟨b, 0, none⟩), .int .i64 (most : Int)] W fun e W' => RP W b bo bc s (fun n : Nat => .int .i64 (n : Int)) (cnt most i (s.drop i)) e W' := by
  unfold cnt
  cases hn : num i (s.drop i) with
  | die er k =>
    have HN : Hid (Calls Tryd.prog 31 #[.pointer (some ⟨b, 0, none⟩)] W fun e W' => e = flt er k ∧ Fg b W W') := rnum_die h hn
    clear hn h
    go_enter Tryd.func60, Tryd.ntmps60
    go_wp2_with fail
    refine HN.out.mono ?_
    rintro e w1 ⟨rfl, hf⟩
    have HF : Hid (Fg b W w1) := hf
    clear hf
    go_wp2_with fail
    exact ⟨rfl, rfl, HF.out⟩
  | ok n j t =>
    have HN : Hid (Calls Tryd.prog 31 #[.pointer (some ⟨b, 0, none⟩)] W fun e W' => e = .returned (.int .i64 (n : Int)) ∧ Rdr W' b bo bc s j i ∧ Fg b W W') := rnum_ok h hn
    clear hn h
    show Calls _ _ _ _ fun e W' => RP W b bo bc s _ (if most < n then .die 85 i else .ok n j t) e W'
    by_cases hm : most < n
    · rw [if_pos hm]
      have hm' : (most : Int) < (n : Int) := by omega
      clear hm
      go_enter Tryd.func60, Tryd.ntmps60
      go_wp2_with fail
      refine HN.out.mono ?_
      rintro e w1 ⟨rfl, hw, hf⟩
      have HF : Hid (Rdr w1 b bo bc s j i ∧ Fg b W w1) := ⟨hw, hf⟩
      clear hw hf
      go_wp2_with fail
      refine (rfail_any HF.out.1 85).mono ?_
      rintro e w2 ⟨rfl, hf⟩
      have HG : Hid (Fg b W w2) := HF.out.2.trans hf
      clear hf
      go_wp2_with fail
      exact ⟨rfl, rfl, HG.out⟩
    · rw [if_neg hm]
      have hm' : ¬ (most : Int) < (n : Int) := by omega
      clear hm
      go_enter Tryd.func60, Tryd.ntmps60
      go_wp2_with fail
      refine HN.out.mono ?_
      rintro e w1 ⟨rfl, hw, hf⟩
      have HF : Hid (Rdr w1 b bo bc s j i ∧ Fg b W w1) := ⟨hw, hf⟩
      clear hw hf
      go_wp2_with fail
      go_ret
      exact ⟨rfl, ⟨_, HF.out.1⟩, HF.out.2⟩
set_option maxHeartbeats 6400000 in
set_option maxRecDepth 100000 in
/-- the first byte -/
theorem rtag_any (h : Rdr W b bo bc s i fr) : Calls Tryd.prog 58 #[.pointer (some ⟨b, 0, none⟩)] W fun e W' => RP W b bo bc s (fun _ : Unit => .tuple #[]) (tagR i (s.drop i)) e W' := by
  obtain ⟨c0, c1, c2, f1, f2⟩ := h.cells
  have H1 : Hid (Rdr (W.setCell ⟨b, 2, none⟩ (.int .i64 (i : Int))) b bo bc s i i ∧ Fg b W (W.setCell ⟨b, 2, none⟩ (.int .i64 (i : Int)))) := ⟨h.put2 i, Fg.set b 2 W _⟩
  by_cases hj : i < s.length
  · rw [drop_at hj]
    have HN : Hid (Calls Tryd.prog 55 #[.pointer (some ⟨b, 0, none⟩)] (W.setCell ⟨b, 2, none⟩ (.int .i64 (i : Int))) fun e W' => e = .returned (.int .u8 (s[i] : Int)) ∧ Rdr W' b bo bc s (i + 1) i ∧ Fg b (W.setCell ⟨b, 2, none⟩ (.int .i64 (i : Int))) W') := rnext_ok H1.out.1 hj
    generalize s[i] = x at *
    show Calls _ _ _ _ fun e W' => RP W b bo bc s _ (if x = 87 then .ok () (i + 1) (s.drop (i + 1)) else .die 83 i) e W'
    clear h hj
    by_cases hx : x = 87
    · rw [if_pos hx]
      subst hx
      go_enter Tryd.func58, Tryd.ntmps58
      go_wp2_with fail
      refine HN.out.mono ?_
      rintro e w1 ⟨rfl, hw, hf⟩
      have HF : Hid (Rdr w1 b bo bc s (i + 1) i ∧ Fg b W w1) := ⟨hw, H1.out.2.trans hf⟩
      clear hw hf
      go_wp2_with fail
      go_end0
      exact ⟨rfl, ⟨_, HF.out.1⟩, HF.out.2⟩
    · rw [if_neg hx]
      have hx' : ((x : Int) == 87) = false := by rw [beq_eq_false_iff_ne]; omega
      have hx2 : ((x : Int) != 87) = true := by simp only [bne, hx', Bool.not_false]
      clear hx
      go_enter Tryd.func58, Tryd.ntmps58
      go_wp2_with fail
      refine HN.out.mono ?_
      rintro e w1 ⟨rfl, hw, hf⟩
      have HF : Hid (Rdr w1 b bo bc s (i + 1) i ∧ Fg b W w1) := ⟨hw, H1.out.2.trans hf⟩
      clear hw hf
      go_wp2_with fail
      refine (rfail_any HF.out.1 83).mono ?_
      rintro e w2 ⟨rfl, hf⟩
      have HG : Hid (Fg b W w2) := HF.out.2.trans hf
      clear hf
      go_wp2_with fail
      exact ⟨rfl, rfl, HG.out⟩
  · have hje : i = s.length := by have := h.le; omega
    rw [drop_end hje]
    have HN : Hid (Calls Tryd.prog 55 #[.pointer (some ⟨b, 0, none⟩)] (W.setCell ⟨b, 2, none⟩ (.int .i64 (i : Int))) fun e W' => e = flt 81 i ∧ Fg b (W.setCell ⟨b, 2, none⟩ (.int .i64 (i : Int))) W') := rnext_die H1.out.1 hje
    clear h hj hje
    go_enter Tryd.func58, Tryd.ntmps58
    go_wp2_with fail
    refine HN.out.mono ?_
    rintro e w1 ⟨rfl, hf⟩
    have HG : Hid (Fg b W w1) := H1.out.2.trans hf
    clear hf
    go_wp2_with fail
    exact ⟨rfl, rfl, HG.out⟩
set_option maxHeartbeats 6400000 in
set_option maxRecDepth 100000 in
/-- a queue's byte -/
theorem rgho_any (h : Rdr W b bo bc s i fr) : Calls Tryd.prog 68 #[.pointer (some ⟨b, 0, none⟩)] W fun e W' => RP W b bo bc s (fun g : Bool => .bool g) (gho i (s.drop i)) e W' := by
  obtain ⟨c0, c1, c2, f1, f2⟩ := h.cells
  have H1 : Hid (Rdr (W.setCell ⟨b, 2, none⟩ (.int .i64 (i : Int))) b bo bc s i i ∧ Fg b W (W.setCell ⟨b, 2, none⟩ (.int .i64 (i : Int)))) := ⟨h.put2 i, Fg.set b 2 W _⟩
  by_cases hj : i < s.length
  · rw [drop_at hj]
    have HN : Hid (Calls Tryd.prog 55 #[.pointer (some ⟨b, 0, none⟩)] (W.setCell ⟨b, 2, none⟩ (.int .i64 (i : Int))) fun e W' => e = .returned (.int .u8 (s[i] : Int)) ∧ Rdr W' b bo bc s (i + 1) i ∧ Fg b (W.setCell ⟨b, 2, none⟩ (.int .i64 (i : Int))) W') := rnext_ok H1.out.1 hj
    generalize s[i] = x at *
    show Calls _ _ _ _ fun e W' => RP W b bo bc s _ (if 1 < x then .die 82 i else .ok (decide (x = 1)) (i + 1) (s.drop (i + 1))) e W'
    clear h hj
    by_cases hx : 1 < x
    · rw [if_pos hx]
      have hx' : (1 : Int) < (x : Int) := by omega
      clear hx
      go_enter Tryd.func68, Tryd.ntmps68
      go_wp2_with fail
      refine HN.out.mono ?_
      rintro e w1 ⟨rfl, hw, hf⟩
      have HF : Hid (Rdr w1 b bo bc s (i + 1) i ∧ Fg b W w1) := ⟨hw, H1.out.2.trans hf⟩
      clear hw hf
      go_wp2_with fail
      refine (rfail_any HF.out.1 82).mono ?_
      rintro e w2 ⟨rfl, hf⟩
      have HG : Hid (Fg b W w2) := HF.out.2.trans hf
      clear hf
      go_wp2_with fail
      exact ⟨rfl, rfl, HG.out⟩
    · rw [if_neg hx]
      have hx01 : x = 0 ∨ x = 1 := by omega
      clear hx
      rcases hx01 with rfl | rfl
      all_goals
        go_enter Tryd.func68, Tryd.ntmps68
        go_wp2_with fail
        refine HN.out.mono ?_
        rintro e w1 ⟨rfl, hw, hf⟩
        have HF : Hid (Rdr w1 b bo bc s (i + 1) i ∧ Fg b W w1) := ⟨hw, H1.out.2.trans hf⟩
        clear hw hf
        go_wp2_with fail
        go_ret
        exact ⟨rfl, ⟨_, HF.out.1⟩, HF.out.2⟩
  · have hje : i = s.length := by have := h.le; omega
    rw [drop_end hje]
    have HN : Hid (Calls Tryd.prog 55 #[.pointer (some ⟨b, 0, none⟩)] (W.setCell ⟨b, 2, none⟩ (.int .i64 (i : Int))) fun e W' => e = flt 81 i ∧ Fg b (W.setCell ⟨b, 2, none⟩ (.int .i64 (i : Int))) W') := rnext_die H1.out.1 hje
    clear h hj hje
    go_enter Tryd.func68, Tryd.ntmps68
    go_wp2_with fail
    refine HN.out.mono ?_
    rintro e w1 ⟨rfl, hf⟩
    have HG : Hid (Fg b W w1) := H1.out.2.trans hf
    clear hf
    go_wp2_with fail
    exact ⟨rfl, rfl, HG.out⟩
end
end Go.Proofs.YtcblichnkakhdaaDoor.Cd
