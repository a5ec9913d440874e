import Derived.Test.YtcblichnkakhdaaDoorCeVar
import Derived.Test.YtcblichnkakhdaaDoorCdIn2
set_option linter.unusedSimpArgs false
namespace Go.Proofs.YtcblichnkakhdaaDoor.Cd
open Go.RowKit Go.Proofs.YtcblichnkakhdaaDoor.Nm Go.Proofs.YtcblichnkakhdaaDoor.Vf

section
variable {W w w' : World} {b : Nat} {bo : Option Addr} {bc : Nat} {s : List Nat} {i fr : Nat}
set_option maxHeartbeats 1600000 in
theorem rnothing (b : Nat) (W : World) : Calls Tryd.prog 28 #[.pointer (some ⟨b, 0, none⟩)] W fun e W' => e = .returned (.int .i64 0) ∧ W' = W := by
  go_enter Tryd.func28, Tryd.ntmps28
  go_wp2_with fail
  go_ret
  exact ⟨rfl, rfl⟩
/-- what reads operands of a kind -/
theorem rfun (b : Nat) (bo : Option Addr) (bc : Nat) (s : List Nat) (k : Nat) (hk : k ≤ 8) : ∃ F : Nat, wayL[3 * k]? = some (.func (.func F) #[] #[]) ∧ (∀ (args : Array Value) (u : World), (callFunc F args).run Tryd.prog u = .ok (.enter F args) u) ∧
    ∀ (W : World) (i fr : Nat), Rdr W b bo bc s i fr → Calls Tryd.prog F #[.pointer (some ⟨b, 0, none⟩)] W fun e W' => RP W b bo bc s (fun n : Int => .int .i64 n) (opR (k : Int) i (s.drop i)) e W' := by
  have hnum : ∀ k : Nat, 1 ≤ k → k ≤ 8 → k ≠ 5 → ∀ (W : World) (i fr : Nat), Rdr W b bo bc s i fr → Calls Tryd.prog 31 #[.pointer (some ⟨b, 0, none⟩)] W fun e W' => RP W b bo bc s (fun n : Int => .int .i64 n) (opR (k : Int) i (s.drop i)) e W' := by
    intro k h1 h8 h5 W i fr hw
    unfold opR
    rw [if_neg (by omega), if_neg (by omega)]
    refine (rnum_any hw).mono ?_
    intro e W' hp
    unfold rnu
    cases hn : num i (s.drop i) with
    | die er j =>
      rw [hn] at hp
      exact hp
    | ok n j t =>
      rw [hn] at hp
      exact ⟨hp.1, ⟨_, hp.2.1⟩, hp.2.2⟩
  have h9 : k = 0 ∨ k = 1 ∨ k = 2 ∨ k = 3 ∨ k = 4 ∨ k = 5 ∨ k = 6 ∨ k = 7 ∨ k = 8 := by omega
  rcases h9 with rfl | rfl | rfl | rfl | rfl | rfl | rfl | rfl | rfl
  · refine ⟨28, rfl, fun _ _ => by kernel_rfl, fun W i fr hw => ?_⟩
    refine (rnothing b W).mono ?_
    rintro e W' ⟨rfl, rfl⟩
    exact ⟨rfl, ⟨_, hw⟩, Fg.refl _ _⟩
  · exact ⟨31, rfl, fun _ _ => by kernel_rfl, hnum 1 (by omega) (by omega) (by omega)⟩
  · exact ⟨31, rfl, fun _ _ => by kernel_rfl, hnum 2 (by omega) (by omega) (by omega)⟩
  · exact ⟨31, rfl, fun _ _ => by kernel_rfl, hnum 3 (by omega) (by omega) (by omega)⟩
  · exact ⟨31, rfl, fun _ _ => by kernel_rfl, hnum 4 (by omega) (by omega) (by omega)⟩
  · exact ⟨37, rfl, fun _ _ => by kernel_rfl, fun W i fr hw => rsgn_any hw⟩
  · exact ⟨31, rfl, fun _ _ => by kernel_rfl, hnum 6 (by omega) (by omega) (by omega)⟩
  · exact ⟨31, rfl, fun _ _ => by kernel_rfl, hnum 7 (by omega) (by omega) (by omega)⟩
  · exact ⟨31, rfl, fun _ _ => by kernel_rfl, hnum 8 (by omega) (by omega) (by omega)⟩
theorem Bx.off {vb : Nat} {C : Array Value} {T : TypeId} (h : Bx w b vb C T) {ob : Nat} (hv : vb ≠ ob) (j : Nat) (v : Value) : Bx (w.setCell ⟨ob, j, none⟩ v) b vb C T := ⟨(Below.heap_setCell w _ v vb (fun e => hv e)).trans h.h, h.ne⟩
def upd (o : Nat → Int) (j : Nat) (a : Int) : Nat → Int := fun m => if m = j then a else o m
/-- an instruction's operands, from the j-th on -/
def insC (op : Nat) (q : Nat → Nat) : Nat → Nat → (Nat → Int) → Nat → List Nat → Rs Ins
  | 0, _, o, i, t => .ok ⟨(op : Int), o 0, o 1, o 2, o 3⟩ i t
  | n + 1, j, o, i, t => (opR (q j : Int) i t).bind fun a i t => insC op q n (j + 1) (upd o j a) i t
def q4 (q0 q1 q2 q3 : Nat) (j : Nat) : Nat := if j = 0 then q0 else if j = 1 then q1 else if j = 2 then q2 else q3
theorem insC_of (op : Nat) {q0 q1 q2 q3 : Nat} (e0 : (Vf.kd4 op).1 = (q0 : Int)) (e1 : (Vf.kd4 op).2.1 = (q1 : Int)) (e2 : (Vf.kd4 op).2.2.1 = (q2 : Int)) (e3 : (Vf.kd4 op).2.2.2 = (q3 : Int)) (i : Nat) (t : List Nat) :
    ((opR (Vf.kd4 op).1 i t).bind fun a i t => (opR (Vf.kd4 op).2.1 i t).bind fun b i t => (opR (Vf.kd4 op).2.2.1 i t).bind fun c i t => (opR (Vf.kd4 op).2.2.2 i t).bind fun d i t => .ok (⟨(op : Int), a, b, c, d⟩ : Ins) i t) = insC op (q4 q0 q1 q2 q3) 4 0 (fun _ => 0) i t := by
  rw [e0, e1, e2, e3]
  rfl
def oC (o : Nat → Int) : Array Value := #[.int .i64 (o 0), .int .i64 (o 1), .int .i64 (o 2), .int .i64 (o 3)]
theorem oC_at (o : Nat → Int) {j : Nat} (h : j < 4) : (oC o)[j]? = some (.int .i64 (o j)) := by
  have : j = 0 ∨ j = 1 ∨ j = 2 ∨ j = 3 := by omega
  rcases this with rfl | rfl | rfl | rfl <;> rfl
theorem oC_set (o : Nat → Int) {j : Nat} (a : Int) (h : j < 4) : (oC o).setIfInBounds j (.int .i64 a) = oC (upd o j a) := by
  have : j = 0 ∨ j = 1 ∨ j = 2 ∨ j = 3 := by omega
  rcases this with rfl | rfl | rfl | rfl <;> rfl
theorem kd_le (op : Nat) (h : op < 42) : (0 ≤ (Vf.kd4 op).1 ∧ (Vf.kd4 op).1 ≤ 8) ∧ (0 ≤ (Vf.kd4 op).2.1 ∧ (Vf.kd4 op).2.1 ≤ 8) ∧ (0 ≤ (Vf.kd4 op).2.2.1 ∧ (Vf.kd4 op).2.2.1 ≤ 8) ∧ (0 ≤ (Vf.kd4 op).2.2.2 ∧ (Vf.kd4 op).2.2.2 ≤ 8) := by
  have : ∀ op, op < 42 → (0 ≤ (Vf.kd4 op).1 ∧ (Vf.kd4 op).1 ≤ 8) ∧ (0 ≤ (Vf.kd4 op).2.1 ∧ (Vf.kd4 op).2.1 ≤ 8) ∧ (0 ≤ (Vf.kd4 op).2.2.1 ∧ (Vf.kd4 op).2.2.1 ≤ 8) ∧ (0 ≤ (Vf.kd4 op).2.2.2 ∧ (Vf.kd4 op).2.2.2 ≤ 8) := by decide
  exact this op h
def insV (x : Ins) : Value := .agg #[.int .i64 x.op, .int .i64 x.a, .int .i64 x.b, .int .i64 x.c, .int .i64 x.d]
set_option maxHeartbeats 12800000 in
set_option maxRecDepth 100000 in
/-- an instruction is read -/
theorem rins_any (h : Rdr W b bo bc s i fr) : Calls Tryd.prog 61 #[.pointer (some ⟨b, 0, none⟩)] W fun e W' => RP W b bo bc s insV (insR i (s.drop i)) e W' := by
  obtain ⟨r, hr⟩ : ∃ r, r = insR i (s.drop i) := ⟨_, rfl⟩
  rw [← hr]
  have hbl := h.blt
  have HB : Hid (b < W.heap.size) := hbl
  have HNw : Hid (∀ (w : World) (j : Nat) (v : Value), Fg b W w → Fg b W (w.setCell ⟨W.heap.size, j, none⟩ v)) := fun w j v hf => fg_new hf (Nat.le_refl _) j v
  have hb1 : Below W.heap.size W (W.alloc (.cells #[.int .i64 0, .int .i64 0, .int .i64 0, .int .i64 0, .int .i64 0] 64)) := (Below.refl _ W).alloc (Nat.le_refl _) _
  have H0 : Hid (Rdr (W.alloc (.cells #[.int .i64 0, .int .i64 0, .int .i64 0, .int .i64 0, .int .i64 0] 64)) b bo bc s i fr ∧ Fg b W (W.alloc (.cells #[.int .i64 0, .int .i64 0, .int .i64 0, .int .i64 0, .int .i64 0] 64)) ∧ Bx (W.alloc (.cells #[.int .i64 0, .int .i64 0, .int .i64 0, .int .i64 0, .int .i64 0] 64)) b W.heap.size #[.int .i64 0, .int .i64 0, .int .i64 0, .int .i64 0, .int .i64 0] 64) := ⟨h.below hb1, Fg.of_below hb1, Bx.new hbl⟩
  unfold insR at hr
  cases hn : num i (s.drop i) with
  | die er k =>
    have HN : Hid (Calls Tryd.prog 31 #[.pointer (some ⟨b, 0, none⟩)] (W.alloc (.cells #[.int .i64 0, .int .i64 0, .int .i64 0, .int .i64 0, .int .i64 0] 64)) fun e W' => e = flt er k ∧ Fg b (W.alloc (.cells #[.int .i64 0, .int .i64 0, .int .i64 0, .int .i64 0, .int .i64 0] 64)) W') := rnum_die H0.out.1 hn
    rw [hn] at hr
    have hr2 : r = .die er k := hr
    clear hn h hr hbl hb1
    go_enter Tryd.func61, Tryd.ntmps61
    go_wp2_with fail
    refine HN.out.mono ?_
    rintro e w1 ⟨rfl, hf⟩
    have HF : Hid (Fg b W w1) := H0.out.2.1.trans hf
    clear hf
    go_wp2_with fail
    exact ⟨rfl, by rw [hr2]; exact ⟨rfl, HF.out⟩⟩
  | ok op j t =>
    have HN : Hid (Calls Tryd.prog 31 #[.pointer (some ⟨b, 0, none⟩)] (W.alloc (.cells #[.int .i64 0, .int .i64 0, .int .i64 0, .int .i64 0, .int .i64 0] 64)) fun e W' => e = .returned (.int .i64 (op : Int)) ∧ Rdr W' b bo bc s j i ∧ Fg b (W.alloc (.cells #[.int .i64 0, .int .i64 0, .int .i64 0, .int .i64 0, .int .i64 0] 64)) W') := rnum_ok H0.out.1 hn
    have ht := good_drop num_good0 hn
    subst ht
    rw [hn] at hr
    change r = (if 42 ≤ op then Rs.die 91 i else (opR (Vf.kd4 op).1 j (s.drop j)).bind fun a i t => (opR (Vf.kd4 op).2.1 i t).bind fun b i t => (opR (Vf.kd4 op).2.2.1 i t).bind fun c i t => (opR (Vf.kd4 op).2.2.2 i t).bind fun d i t => .ok (⟨(op : Int), a, b, c, d⟩ : Ins) i t) at hr
    clear hn h hbl hb1
    by_cases hop : 42 ≤ op
    · rw [if_pos hop] at hr
      have hop' : (42 : Int) ≤ (op : Int) := by omega
      clear hop
      go_enter Tryd.func61, Tryd.ntmps61
      go_wp2_with fail
      refine HN.out.mono ?_
      rintro e w1 ⟨rfl, hw, hf⟩
      have HF : Hid (Rdr w1 b bo bc s j i ∧ Fg b W w1) := ⟨hw, H0.out.2.1.trans hf⟩
      clear hw hf
      go_wp2_with fail
      refine (rfail_any HF.out.1 91).mono ?_
      rintro e w2 ⟨rfl, hf⟩
      have HG : Hid (Fg b W w2) := HF.out.2.trans hf
      clear hf
      go_wp2_with fail
      exact ⟨rfl, by rw [hr]; exact ⟨rfl, HG.out⟩⟩
    · rw [if_neg hop] at hr
      have hop2 : op < 42 := by omega
      have hop' : ¬ (42 : Int) ≤ (op : Int) := by omega
      obtain ⟨⟨a1, a2⟩, ⟨b1, b2⟩, ⟨c1, c2⟩, ⟨d1, d2⟩⟩ := kd_le op hop2
      obtain ⟨q0, f0⟩ : ∃ q : Nat, (Vf.kd4 op).1 = (q : Int) := ⟨(Vf.kd4 op).1.toNat, by omega⟩
      obtain ⟨q1, f1⟩ : ∃ q : Nat, (Vf.kd4 op).2.1 = (q : Int) := ⟨(Vf.kd4 op).2.1.toNat, by omega⟩
      obtain ⟨q2, f2⟩ : ∃ q : Nat, (Vf.kd4 op).2.2.1 = (q : Int) := ⟨(Vf.kd4 op).2.2.1.toNat, by omega⟩
      obtain ⟨q3, f3⟩ : ∃ q : Nat, (Vf.kd4 op).2.2.2 = (q : Int) := ⟨(Vf.kd4 op).2.2.2.toNat, by omega⟩
      have HR : Hid (r = insC op (q4 q0 q1 q2 q3) 4 0 (fun _ => 0) j (s.drop j) ∧ ∀ (j : Nat), j < 4 → q4 q0 q1 q2 q3 j ≤ 8) := ⟨by rw [hr]; exact insC_of op f0 f1 f2 f3 j _, fun j hj => by unfold q4; split; omega; split; omega; split; omega; omega⟩
      have HK : Hid (∀ u, Calls Tryd.prog 63 #[.int .i64 (op : Int)] u fun e w' => e = .returned (.agg #[.int .i64 q0, .int .i64 q1, .int .i64 q2, .int .i64 q3]) ∧ Below u.heap.size u w') := fun u => by rw [← f0, ← f1, ← f2, ← f3]; exact ckinds op hop2 u
      have HIx : Hid (∀ (j : Nat), j < 4 → ∀ u : World, (Instr.index 103 (.agg #[.int .i64 q0, .int .i64 q1, .int .i64 q2, .int .i64 q3]) (.int .i64 (j : Int))).run Tryd.prog u = .ok (.int .i64 (q4 q0 q1 q2 q3 j : Int)) u) := fun j hj u => by
        have : j = 0 ∨ j = 1 ∨ j = 2 ∨ j = 3 := by omega
        rcases this with rfl | rfl | rfl | rfl
        · exact idx4_0 q0 q1 q2 q3 u
        · exact idx4_1 q0 q1 q2 q3 u
        · exact idx4_2 q0 q1 q2 q3 u
        · exact idx4_3 q0 q1 q2 q3 u
      clear hr hop hop2 a1 a2 b1 b2 c1 c2 d1 d2 f0 f1 f2 f3
      go_enter Tryd.func61, Tryd.ntmps61
      go_wp2_with fail
      generalize (W.alloc (.cells #[.int .i64 0, .int .i64 0, .int .i64 0, .int .i64 0, .int .i64 0] 64)) = w0 at *
      generalize W.heap.size = ib at *
      refine HN.out.mono ?_
      rintro e w1 ⟨rfl, hw, hf⟩
      have hw1b := hw.blt
      have hb2 : Below w1.heap.size w1 (w1.alloc (.cells #[.int .i64 0, .int .i64 0, .int .i64 0, .int .i64 0] 100)) := (Below.refl _ w1).alloc (Nat.le_refl _) _
      have hbx := H0.out.2.2.fg hf
      have H1 : Hid (Rdr (w1.alloc (.cells #[.int .i64 0, .int .i64 0, .int .i64 0, .int .i64 0] 100)) b bo bc s j i ∧ Fg b W (w1.alloc (.cells #[.int .i64 0, .int .i64 0, .int .i64 0, .int .i64 0] 100)) ∧ Bx (w1.alloc (.cells #[.int .i64 0, .int .i64 0, .int .i64 0, .int .i64 0] 100)) b ib #[.int .i64 0, .int .i64 0, .int .i64 0, .int .i64 0, .int .i64 0] 64 ∧ Bx (w1.alloc (.cells #[.int .i64 0, .int .i64 0, .int .i64 0, .int .i64 0] 100)) b w1.heap.size (oC fun _ => 0) 100 ∧ (b < w1.heap.size ∧ ib < w1.heap.size)) := ⟨hw.below hb2, (H0.out.2.1.trans hf).trans (Fg.of_below hb2), hbx.fg (Fg.of_below hb2), Bx.new hw1b, hw1b, blk_lt hbx.h⟩
      have HNw2 : Hid (∀ (w : World) (j : Nat) (v : Value), Fg b W w → Fg b W (w.setCell ⟨w1.heap.size, j, none⟩ v)) := fun w j v hf2 => fg_new hf2 (by have := (H0.out.2.1.trans hf).size; exact this) j v
      clear hw hf hw1b hb2 hbx HN H0
      go_wp2_with fail
      generalize (w1.alloc (.cells #[.int .i64 0, .int .i64 0, .int .i64 0, .int .i64 0] 100)) = w2 at *
      generalize w1.heap.size = ob at *
      refine (HK.out _).mono ?_
      rintro e w3 ⟨rfl, hb3⟩
      have hf3 : Fg b w2 w3 := Fg.of_below hb3
      have H3 : Hid (Rdr w3 b bo bc s j i ∧ Fg b W w3 ∧ Bx w3 b ib #[.int .i64 0, .int .i64 0, .int .i64 0, .int .i64 0, .int .i64 0] 64 ∧ Bx w3 b ob (oC fun _ => 0) 100) := ⟨H1.out.1.below hb3, H1.out.2.1.trans hf3, H1.out.2.2.1.fg hf3, H1.out.2.2.2.1.fg hf3⟩
      clear hb3 hf3 HK
      go_wp2_with fail
      go_loopg [15] 4 (fun gq x wr => ∃ (k : Nat) (o : Nat → Int) (j fr : Nat), k ≤ 4 ∧ gq = 4 - k ∧ x = .int .i64 (k : Int) ∧ Rdr wr b bo bc s j fr ∧ Fg b W wr ∧ Bx wr b ib #[.int .i64 0, .int .i64 0, .int .i64 0, .int .i64 0, .int .i64 0] 64 ∧ Bx wr b ob (oC o) 100 ∧ r = insC op (q4 q0 q1 q2 q3) (4 - k) k o j (s.drop j))
      case atStart => exact ⟨0, fun _ => 0, j, i, by omega, rfl, rfl, H3.out.1, H3.out.2.1, H3.out.2.2.1, H3.out.2.2.2, HR.out.1⟩
      case round =>
        clear H3
        obtain ⟨k, o, j, fr, hk, hgk, rfl, hw, hf, hib, hob, hrr⟩ := hrel
        have HT : Hid (Rdr wr b bo bc s j fr ∧ Fg b W wr ∧ Bx wr b ib #[.int .i64 0, .int .i64 0, .int .i64 0, .int .i64 0, .int .i64 0] 64 ∧ Bx wr b ob (oC o) 100 ∧ r = insC op (q4 q0 q1 q2 q3) (4 - k) k o j (s.drop j) ∧ k ≤ 4 ∧ gk = 4 - k) := ⟨hw, hf, hib, hob, hrr, hk, hgk⟩
        clear hw hf hib hob hrr hk hgk
        by_cases hk4 : k < 4
        · obtain ⟨kk, hkk⟩ : ∃ kk, kk = q4 q0 q1 q2 q3 k := ⟨_, rfl⟩
          have hk8 : kk ≤ 8 := by rw [hkk]; exact HR.out.2 k hk4
          have hix := HIx.out k hk4
          rw [← hkk] at hix
          obtain ⟨F, hF, hent, hcall⟩ := rfun b bo bc s kk hk8
          have hcl := hcall wr j fr HT.out.1
          have HCl : Hid (Calls Tryd.prog F #[.pointer (some ⟨b, 0, none⟩)] wr fun e W' => RP wr b bo bc s (fun n : Int => .int .i64 n) (opR (kk : Int) j (s.drop j)) e W') := hcl
          have cw : wr.cell? ⟨b, 3 + kk * 3, none⟩ = some (.func (.func F) #[] #[]) := by rw [show 3 + kk * 3 = 3 * kk + 3 by omega]; exact (HT.out.1.way _).trans hF
          have hr4 : r = (opR (kk : Int) j (s.drop j)).bind fun a i t => insC op (q4 q0 q1 q2 q3) (3 - k) (k + 1) (upd o k a) i t := by
            rw [HT.out.2.2.2.2.1, show 4 - k = (3 - k) + 1 by omega, hkk]
            rfl
          have HRk : Hid (r = (opR (kk : Int) j (s.drop j)).bind fun a i t => insC op (q4 q0 q1 q2 q3) (3 - k) (k + 1) (upd o k a) i t) := hr4
          have hk4' : (k : Int) < 4 := by omega
          have hk9 : (kk : Int) < 9 := by omega
          have HK4 : Hid (k < 4) := hk4
          clear hcl hcall hF hkk hk8 hr4 hk4
          go_wp2_with fail
          refine HCl.out.mono ?_
          intro e w5 hp
          cases h1 : opR (kk : Int) j (s.drop j) with
          | die er m =>
            rw [h1] at hp
            obtain ⟨rfl, hf⟩ := hp
            have HF : Hid (Fg b W w5) := HT.out.2.1.trans hf
            have hr : r = .die er m := by rw [HRk.out, h1]; rfl
            clear hf h1
            go_wp2_with fail
            exact ⟨rfl, by rw [hr]; exact ⟨rfl, HF.out⟩⟩
          | ok a j2 t2 =>
            rw [h1] at hp
            obtain ⟨rfl, ⟨fr2, hw⟩, hf⟩ := hp
            have ht := good_drop (opR_good _) h1
            subst ht
            have hbo := HT.out.2.2.2.1.fg hf
            have ck := hbo.cell (oC_at o HK4.out)
            have zk := hbo.fz k
            have hbo2 := hbo.set k (.int .i64 a)
            rw [oC_set o a HK4.out] at hbo2
            have H5 : Hid (Rdr (w5.setCell ⟨ob, k, none⟩ (.int .i64 a)) b bo bc s j2 fr2 ∧ Fg b W (w5.setCell ⟨ob, k, none⟩ (.int .i64 a)) ∧ Bx (w5.setCell ⟨ob, k, none⟩ (.int .i64 a)) b ib #[.int .i64 0, .int .i64 0, .int .i64 0, .int .i64 0, .int .i64 0] 64 ∧ Bx (w5.setCell ⟨ob, k, none⟩ (.int .i64 a)) b ob (oC (upd o k a)) 100 ∧ r = insC op (q4 q0 q1 q2 q3) (3 - k) (k + 1) (upd o k a) j2 (s.drop j2)) :=
              ⟨hw.other H1.out.2.2.2.2.1 k _, HNw2.out _ k _ (HT.out.2.1.trans hf), (HT.out.2.2.1.fg hf).off (by have := H1.out.2.2.2.2.2; omega) k _, hbo2, by rw [HRk.out, h1]; rfl⟩
            clear hw hf h1 hbo hbo2
            go_wp2_with fail
            go_roundg (4 - (k + 1))
            case measure => have := HK4.out; have := HT.out.2.2.2.2.2.2; omega
            case rel => exact ⟨k + 1, upd o k a, j2, fr2, HK4.out, rfl, by go_num, H5.out.1, H5.out.2.1, H5.out.2.2.1, H5.out.2.2.2.1, by rw [H5.out.2.2.2.2, show 4 - (k + 1) = 3 - k by omega]⟩
        · obtain rfl : k = 4 := by have := HT.out.2.2.2.2.2.1; omega
          have hr : r = .ok ⟨(op : Int), o 0, o 1, o 2, o 3⟩ j (s.drop j) := HT.out.2.2.2.2.1
          have hob := HT.out.2.2.2.1
          have hib := HT.out.2.2.1
          obtain ⟨a0, ha0⟩ : ∃ a0, a0 = o 0 := ⟨_, rfl⟩
          obtain ⟨a1, ha1⟩ : ∃ a1, a1 = o 1 := ⟨_, rfl⟩
          obtain ⟨a2, ha2⟩ : ∃ a2, a2 = o 2 := ⟨_, rfl⟩
          obtain ⟨a3, ha3⟩ : ∃ a3, a3 = o 3 := ⟨_, rfl⟩
          have c0 : wr.cell? ⟨ob, 0, none⟩ = some (.int .i64 a0) := by rw [ha0]; exact hob.cell rfl
          have c1 : wr.cell? ⟨ob, 1, none⟩ = some (.int .i64 a1) := by rw [ha1]; exact hob.cell rfl
          have c2 : wr.cell? ⟨ob, 2, none⟩ = some (.int .i64 a2) := by rw [ha2]; exact hob.cell rfl
          have c3 : wr.cell? ⟨ob, 3, none⟩ = some (.int .i64 a3) := by rw [ha3]; exact hob.cell rfl
          have e0 : wr.cell? ⟨ib, 0, none⟩ = some (.int .i64 0) := hib.cell rfl
          have e1 : wr.cell? ⟨ib, 1, none⟩ = some (.int .i64 0) := hib.cell rfl
          have e2 : wr.cell? ⟨ib, 2, none⟩ = some (.int .i64 0) := hib.cell rfl
          have e3 : wr.cell? ⟨ib, 3, none⟩ = some (.int .i64 0) := hib.cell rfl
          have e4 : wr.cell? ⟨ib, 4, none⟩ = some (.int .i64 0) := hib.cell rfl
          have z0 := hib.fz 0
          have z1 := hib.fz 1
          have z2 := hib.fz 2
          have z3 := hib.fz 3
          have z4 := hib.fz 4
          have HA : Hid (o 0 = a0 ∧ o 1 = a1 ∧ o 2 = a2 ∧ o 3 = a3) := ⟨ha0.symm, ha1.symm, ha2.symm, ha3.symm⟩
          clear hob hib hk4 ha0 ha1 ha2 ha3
          have HRr : Hid (r = .ok ⟨(op : Int), o 0, o 1, o 2, o 3⟩ j (s.drop j)) := hr
          clear hr
          go_wp2_with fail
          have H4 : Hid (Rdr (((((wr.setCell ⟨ib, 0, none⟩ (.int .i64 (op : Int))).setCell ⟨ib, 1, none⟩ (.int .i64 a0)).setCell ⟨ib, 2, none⟩ (.int .i64 a1)).setCell ⟨ib, 3, none⟩ (.int .i64 a2)).setCell ⟨ib, 4, none⟩ (.int .i64 a3)) b bo bc s j fr ∧ Fg b W (((((wr.setCell ⟨ib, 0, none⟩ (.int .i64 (op : Int))).setCell ⟨ib, 1, none⟩ (.int .i64 a0)).setCell ⟨ib, 2, none⟩ (.int .i64 a1)).setCell ⟨ib, 3, none⟩ (.int .i64 a2)).setCell ⟨ib, 4, none⟩ (.int .i64 a3)) ∧ Bx (((((wr.setCell ⟨ib, 0, none⟩ (.int .i64 (op : Int))).setCell ⟨ib, 1, none⟩ (.int .i64 a0)).setCell ⟨ib, 2, none⟩ (.int .i64 a1)).setCell ⟨ib, 3, none⟩ (.int .i64 a2)).setCell ⟨ib, 4, none⟩ (.int .i64 a3)) b ib #[.int .i64 (op : Int), .int .i64 a0, .int .i64 a1, .int .i64 a2, .int .i64 a3] 64) :=
            ⟨((((HT.out.1.other HB.out 0 _).other HB.out 1 _).other HB.out 2 _).other HB.out 3 _).other HB.out 4 _, HNw.out _ 4 _ (HNw.out _ 3 _ (HNw.out _ 2 _ (HNw.out _ 1 _ (HNw.out _ 0 _ HT.out.2.1)))), ((((HT.out.2.2.1.set 0 _).set 1 _).set 2 _).set 3 _).set 4 _⟩
          generalize (((((wr.setCell ⟨ib, 0, none⟩ (.int .i64 (op : Int))).setCell ⟨ib, 1, none⟩ (.int .i64 a0)).setCell ⟨ib, 2, none⟩ (.int .i64 a1)).setCell ⟨ib, 3, none⟩ (.int .i64 a2)).setCell ⟨ib, 4, none⟩ (.int .i64 a3)) = w4 at *
          have d0 := H4.out.2.2.cell (j := 0) rfl
          have d1 := H4.out.2.2.cell (j := 1) rfl
          have d2 := H4.out.2.2.cell (j := 2) rfl
          have d3 := H4.out.2.2.cell (j := 3) rfl
          have d4 := H4.out.2.2.cell (j := 4) rfl
          refine bodyPost_ret (v := .agg #[.int .i64 (op : Int), .int .i64 a0, .int .i64 a1, .int .i64 a2, .int .i64 a3]) (by simp [results, Tryd.results61, go_sem, d0, d1, d2, d3, d4]) rfl ?_
          rw [HRr.out, HA.out.1, HA.out.2.1, HA.out.2.2.1, HA.out.2.2.2]
          exact ⟨rfl, ⟨_, H4.out.1⟩, H4.out.2.1⟩
end
end Go.Proofs.YtcblichnkakhdaaDoor.Cd
