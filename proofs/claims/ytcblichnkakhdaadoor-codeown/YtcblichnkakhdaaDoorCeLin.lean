import Derived.Test.YtcblichnkakhdaaDoorCeTel
import Derived.Deep.RegionLaw
import Derived.Deep.DeepCutAuto
set_option linter.unusedSimpArgs false
namespace Go.Proofs.YtcblichnkakhdaaDoor.Cd
open Go.RowKit Go.Proofs.YtcblichnkakhdaaDoor.Nm Go.Proofs.YtcblichnkakhdaaDoor.Vf

/-- the instructions' names -/
def namesL : List (List UInt8) := [[101, 110, 100], [110, 117, 109], [98, 111, 111, 108], [118, 97, 114], [108, 101, 110], [99, 97, 112], [115, 105, 122, 101], [116, 111, 116, 97, 108], [97, 116], [116, 97, 103, 120], [116, 97, 103, 101, 110, 100], [109, 105, 110], [109, 97, 120], [110, 101, 103], [110, 111, 116], [109, 117, 108], [100, 105, 118], [97, 100, 100], [115, 117, 98], [101, 113], [108, 116], [108, 101], [106, 117, 109, 112], [101, 108, 115, 101], [108, 111, 111, 112], [116, 117, 114, 110], [113, 117, 105, 116], [97, 103, 97, 105, 110], [115, 101, 116], [109, 97, 114, 107, 120], [109, 97, 114, 107, 101, 110, 100], [105, 110, 115, 101, 114, 116], [109, 111, 118, 101], [102, 111, 114, 103, 101, 116], [116, 97, 107, 101], [103, 105, 118, 101], [116, 101, 108, 108], [108, 111, 111, 115, 101], [115, 104, 105, 102, 116], [115, 112, 105, 108, 108], [101, 118, 105, 99, 116], [100, 114, 111, 112]]
def nameC : List Value := namesL.map fun l => .string ⟨l.toArray⟩
def name (op : Nat) : ByteArray := ⟨(namesL.getD op []).toArray⟩
theorem nameC_len : nameC.length = 42 := rfl
theorem nameC_at (op : Nat) (h : op < 42) : nameC[op]? = some (.string (name op)) := by
  have e : namesL.length = 42 := rfl
  unfold nameC name
  rw [List.getElem?_map, List.getElem?_eq_getElem (by omega)]
  simp only [Option.map_some, List.getD, List.getElem?_eq_getElem (show op < namesL.length by omega), Option.getD_some]
theorem name_size (op : Nat) (h : op < 42) : (name op).size ≤ 20 := by
  have : ∀ op, op < 42 → (namesL.getD op []).length ≤ 20 := by decide
  exact this op h
/-- the names lie at g, where nothing turns -/
structure Nms (W0 : World) (b base g : Nat) : Prop where
  h : W0.heap[g]? = some (.cells nameC.toArray 9 (0, 0))
  lt : g < base
  ne : g ≠ b
def nmV (g : Nat) : Value := .slice (some ⟨g, 0, none⟩) 42 42
section
variable {W0 W : World} {b base g : Nat} {xs : List Nat}
theorem Nms.cell (h : Nms W0 b base g) (hl : Ls W0 W b base (nmV g) xs) {op : Nat} (ho : op < 42) : W.cell? ⟨g, op, none⟩ = some (.string (name op)) := by
  have e : W.heap[g]? = some (.cells nameC.toArray 9 (0, 0)) := (hl.fr.block g h.lt (by simp; exact h.ne)).trans h.h
  simp only [World.cell?, e]
  simpa using nameC_at op ho
/-- the first j operands as text -/
def opsT (k a : Nat → Int) : Nat → List Nat
  | 0 => []
  | j + 1 => opsT k a j ++ opT (k j) (a j)
/-- an instruction as text -/
def insT (at_ : Nat) (op : Nat) (a : Nat → Int) : List Nat := decB (at_ : Int) ++ ([58, 32] ++ (strB (name op) ++ (opsT (pick4 (Cd.kd4 op)) a 4 ++ [10])))
set_option maxHeartbeats 12800000 in
set_option maxRecDepth 100000 in
/-- an instruction is listed -/
theorem lins_any (h : Ls W0 W b base (nmV g) xs) (hT : Pw W0 b base) (hN : Nms W0 b base g) (at_ : Nat) (hat : at_ ≤ 1000000000) (op : Nat) (hop : op < 42) (a : Nat → Int) (ha : ∀ j, j < 4 → -9223372036854775808 ≤ a j ∧ a j ≤ 9223372036854775807) (hl : xs.length ≤ 80000000000) :
    Calls Tryd.prog 54 #[.pointer (some ⟨b, 0, none⟩), .int .i64 (at_ : Int), .agg #[.int .i64 (op : Int), .int .i64 (a 0), .int .i64 (a 1), .int .i64 (a 2), .int .i64 (a 3)]] W fun e W' => e = .returned (.tuple #[]) ∧ Ls W0 W' b base (nmV g) (xs ++ insT at_ op a) ∧ Ko b W W' := by
  obtain ⟨a0, e0⟩ : ∃ x, x = a 0 := ⟨_, rfl⟩
  obtain ⟨a1, e1⟩ : ∃ x, x = a 1 := ⟨_, rfl⟩
  obtain ⟨a2, e2⟩ : ∃ x, x = a 2 := ⟨_, rfl⟩
  obtain ⟨a3, e3⟩ : ∃ x, x = a 3 := ⟨_, rfl⟩
  have HG : Hid (Pw W0 b base ∧ Nms W0 b base g ∧ xs.length ≤ 80000000000 ∧ op < 42 ∧ at_ ≤ 1000000000 ∧ (∀ j, j < 4 → -9223372036854775808 ≤ a j ∧ a j ≤ 9223372036854775807) ∧ (a 0 = a0 ∧ a 1 = a1 ∧ a 2 = a2 ∧ a 3 = a3)) := ⟨hT, hN, hl, hop, hat, ha, e0.symm, e1.symm, e2.symm, e3.symm⟩
  rw [← e0, ← e1, ← e2, ← e3]
  have hb1 : Below W.heap.size W (W.alloc (.cells #[.int .i64 (op : Int), .int .i64 a0, .int .i64 a1, .int .i64 a2, .int .i64 a3] 64)) := (Below.refl _ W).alloc (Nat.le_refl _) _
  have H1 : Hid (Ls W0 (W.alloc (.cells #[.int .i64 (op : Int), .int .i64 a0, .int .i64 a1, .int .i64 a2, .int .i64 a3] 64)) b base (nmV g) xs ∧ (W.alloc (.cells #[.int .i64 (op : Int), .int .i64 a0, .int .i64 a1, .int .i64 a2, .int .i64 a3] 64)).heap[W.heap.size]? = some (.cells #[.int .i64 (op : Int), .int .i64 a0, .int .i64 a1, .int .i64 a2, .int .i64 a3] 64 (0, 0)) ∧ Ko b W (W.alloc (.cells #[.int .i64 (op : Int), .int .i64 a0, .int .i64 a1, .int .i64 a2, .int .i64 a3] 64)) ∧ b < W.heap.size) := ⟨h.below hb1, heap_alloc_new _ _, Ko.of_below hb1, Nat.lt_of_lt_of_le h.lt h.sz⟩
  have hat' : (at_ : Int) ≤ 1000000000 := by omega
  have hop' : (op : Int) < 42 := by omega
  clear h hT hN hat hop ha hl e0 e1 e2 e3 hb1
  go_enter Tryd.func54, Tryd.ntmps54
  go_wp2_with fail
  generalize (W.alloc (.cells #[.int .i64 (op : Int), .int .i64 a0, .int .i64 a1, .int .i64 a2, .int .i64 a3] 64)) = w1 at *
  generalize W.heap.size = ib at *
  have HIB : Hid (ib ≠ b) := by have := H1.out.2.2.2; show _ ≠ _; omega
  refine (ldig_any H1.out.1 HG.out.1 (at_ : Int) (by omega) (by omega) (by have := HG.out.2.2.1; omega)).mono ?_
  rintro e w2 ⟨rfl, hw, hk⟩
  have hdl := decB_len (at_ : Int) (by omega) (by omega)
  have H2 : Hid (Ls W0 w2 b base (nmV g) (xs ++ decB (at_ : Int)) ∧ w2.heap[ib]? = some (.cells #[.int .i64 (op : Int), .int .i64 a0, .int .i64 a1, .int .i64 a2, .int .i64 a3] 64 (0, 0)) ∧ Ko b W w2 ∧ (xs ++ decB (at_ : Int)).length ≤ 80000000030) := ⟨hw, hk.box HIB.out (by decide) H1.out.2.1, H1.out.2.2.1.trans hk, by have := HG.out.2.2.1; rw [List.length_append]; omega⟩
  clear hw hk hdl H1
  go_wp2_with fail
  refine (ladd_any H2.out.1 ⟨#[58, 32]⟩ (by have := H2.out.2.2.2; omega) (by decide)).mono ?_
  rintro e w3 ⟨rfl, hw, hk⟩
  have H3 : Hid (Ls W0 w3 b base (nmV g) (xs ++ decB (at_ : Int) ++ [58, 32]) ∧ w3.heap[ib]? = some (.cells #[.int .i64 (op : Int), .int .i64 a0, .int .i64 a1, .int .i64 a2, .int .i64 a3] 64 (0, 0)) ∧ Ko b W w3 ∧ (xs ++ decB (at_ : Int) ++ [58, 32]).length ≤ 80000000040) := ⟨hw, hk.box HIB.out (by decide) H2.out.2.1, H2.out.2.2.1.trans hk, by have := H2.out.2.2.2; rw [List.length_append]; simp only [List.length_cons, List.length_nil]; omega⟩
  clear hw hk H2
  have c1 : w3.cell? ⟨b, 1, none⟩ = some (.slice (some ⟨g, 0, none⟩) 42 42) := H3.out.1.names
  have ci : w3.cell? ⟨ib, 0, none⟩ = some (.int .i64 (op : Int)) := by simp only [World.cell?, H3.out.2.1]; rfl
  have cn : w3.cell? ⟨g, op, none⟩ = some (.string (name op)) := HG.out.2.1.cell H3.out.1 HG.out.2.2.2.1
  have HA : Hid (Calls Tryd.prog 56 #[.pointer (some ⟨b, 0, none⟩), .string (name op)] w3.drew fun e W' => e = .returned (.tuple #[]) ∧ Ls W0 W' b base (nmV g) (xs ++ decB (at_ : Int) ++ [58, 32] ++ strB (name op)) ∧ Ko b w3.drew W') := ladd_any (H3.out.1.below (Below.refl _ w3).drew) (name op) (by have := H3.out.2.2.2; omega) (by have := name_size op HG.out.2.2.2.1; omega)
  go_upto_region 3 with fail
  go_cut [23] (fun s23 wx => s23 = .tuple #[] ∧ Ls W0 wx b base (nmV g) (xs ++ decB (at_ : Int) ++ [58, 32] ++ strB (name op)) ∧ wx.heap[ib]? = some (.cells #[.int .i64 (op : Int), .int .i64 a0, .int .i64 a1, .int .i64 a2, .int .i64 a3] 64 (0, 0)) ∧ Ko b W wx ∧ (xs ++ decB (at_ : Int) ++ [58, 32] ++ strB (name op)).length ≤ 80000000060)
  case first =>
    go_region_law (go_simp; go_at_call 56; refine HA.out.mono ?_; rintro e w4 ⟨rfl, hw, hk⟩; have H4 : Hid (Ls W0 w4 b base (nmV g) (xs ++ decB (at_ : Int) ++ [58, 32] ++ strB (name op)) ∧ w4.heap[ib]? = some (.cells #[.int .i64 (op : Int), .int .i64 a0, .int .i64 a1, .int .i64 a2, .int .i64 a3] 64 (0, 0)) ∧ Ko b W w4 ∧ (xs ++ decB (at_ : Int) ++ [58, 32] ++ strB (name op)).length ≤ 80000000060) := ⟨hw, hk.box HIB.out (by decide) H3.out.2.1, H3.out.2.2.1.trans ((Ko.of_below (Below.refl _ w3).drew).trans hk), by have := H3.out.2.2.2; rw [List.length_append, strB_len]; have := name_size op HG.out.2.2.2.1; omega⟩; clear hw hk)
    all_goals (
      go_wp2_with fail
      go_meet
      exact ⟨rfl, H4.out⟩)
  case rest =>
    obtain ⟨rfl, h4⟩ := hcut
    have H4 := show Hid _ from h4
    clear h4
    clear c1 ci cn HA H3
    obtain ⟨zs, hzs⟩ : ∃ zs, zs = xs ++ decB (at_ : Int) ++ [58, 32] ++ strB (name op) := ⟨_, rfl⟩
    rw [← hzs] at H4
    have HZ : Hid (zs = xs ++ decB (at_ : Int) ++ [58, 32] ++ strB (name op)) := hzs
    clear hzs
    obtain ⟨i0, i1, i2, i3, i4⟩ := cells5 H4.out.2.1
    have HC := show Hid _ from fun u => cops (op : Int) a0 a1 a2 a3 u
    go_wp2_with fail
    refine (HC.out _).mono ?_
    rintro e w5 ⟨rfl, hb5⟩
    have hb6 : Below w5.heap.size w5 (w5.alloc (.cells #[.int .i64 a0, .int .i64 a1, .int .i64 a2, .int .i64 a3] 100)) := (Below.refl _ w5).alloc (Nat.le_refl _) _
    have hb46 := hb5.trans (hb6.mono hb5.size)
    have H6 : Hid (Ls W0 (w5.alloc (.cells #[.int .i64 a0, .int .i64 a1, .int .i64 a2, .int .i64 a3] 100)) b base (nmV g) zs ∧ (w5.alloc (.cells #[.int .i64 a0, .int .i64 a1, .int .i64 a2, .int .i64 a3] 100)).heap[ib]? = some (.cells #[.int .i64 (op : Int), .int .i64 a0, .int .i64 a1, .int .i64 a2, .int .i64 a3] 64 (0, 0)) ∧ Ko b W (w5.alloc (.cells #[.int .i64 a0, .int .i64 a1, .int .i64 a2, .int .i64 a3] 100)) ∧ (w5.alloc (.cells #[.int .i64 a0, .int .i64 a1, .int .i64 a2, .int .i64 a3] 100)).heap[w5.heap.size]? = some (.cells #[.int .i64 a0, .int .i64 a1, .int .i64 a2, .int .i64 a3] 100 (0, 0)) ∧ w5.heap.size ≠ b) := ⟨H4.out.1.below hb46, (hb46.block _ (blk_lt H4.out.2.1)).trans H4.out.2.1, H4.out.2.2.1.trans (Ko.of_below hb46), heap_alloc_new _ _, by have := hb5.size; have := H4.out.1.lt; have := H4.out.1.sz; omega⟩
    have HZl : Hid (zs.length ≤ 80000000060) := H4.out.2.2.2
    clear hb5 hb6 hb46 H4 i0 i1 i2 i3 i4 HC
    obtain ⟨i0, i1, i2, i3, i4⟩ := cells5 H6.out.2.1
    have hkl := kd_le op HG.out.2.2.2.1
    obtain ⟨q0, f0⟩ : ∃ q : Nat, (Cd.kd4 op).1 = (q : Int) := ⟨(Cd.kd4 op).1.toNat, by have := hkl.1; rw [kd_same]; omega⟩
    obtain ⟨q1, f1⟩ : ∃ q : Nat, (Cd.kd4 op).2.1 = (q : Int) := ⟨(Cd.kd4 op).2.1.toNat, by have := hkl.2.1; rw [kd_same]; omega⟩
    obtain ⟨q2, f2⟩ : ∃ q : Nat, (Cd.kd4 op).2.2.1 = (q : Int) := ⟨(Cd.kd4 op).2.2.1.toNat, by have := hkl.2.2.1; rw [kd_same]; omega⟩
    obtain ⟨q3, f3⟩ : ∃ q : Nat, (Cd.kd4 op).2.2.2 = (q : Int) := ⟨(Cd.kd4 op).2.2.2.toNat, by have := hkl.2.2.2; rw [kd_same]; omega⟩
    have HQ : Hid (∀ j : Nat, j < 4 → pick4 (Cd.kd4 op) j = (q4 q0 q1 q2 q3 j : Int) ∧ q4 q0 q1 q2 q3 j ≤ 8) := fun j hj => by
      rw [kd_same] at f0 f1 f2 f3
      have : j = 0 ∨ j = 1 ∨ j = 2 ∨ j = 3 := by omega
      rcases this with rfl | rfl | rfl | rfl
      · exact ⟨f0, by show q0 ≤ 8; omega⟩
      · exact ⟨f1, by show q1 ≤ 8; omega⟩
      · exact ⟨f2, by show q2 ≤ 8; omega⟩
      · exact ⟨f3, by show q3 ≤ 8; omega⟩
    have HK : Hid (∀ u, Calls Tryd.prog 63 #[.int .i64 (op : Int)] u fun e w' => e = .returned (.agg #[.int .i64 q0, .int .i64 q1, .int .i64 q2, .int .i64 q3]) ∧ Below u.heap.size u w') := fun u => by rw [← f0, ← f1, ← f2, ← f3]; exact ckinds op HG.out.2.2.2.1 u
    have HIx : Hid (∀ (j : Nat), j < 4 → ∀ u : World, (Instr.index 103 (.agg #[.int .i64 q0, .int .i64 q1, .int .i64 q2, .int .i64 q3]) (.int .i64 (j : Int))).run Tryd.prog u = .ok (.int .i64 (q4 q0 q1 q2 q3 j : Int)) u) := fun j hj u => by
      have : j = 0 ∨ j = 1 ∨ j = 2 ∨ j = 3 := by omega
      rcases this with rfl | rfl | rfl | rfl
      · exact idx4_0 q0 q1 q2 q3 u
      · exact idx4_1 q0 q1 q2 q3 u
      · exact idx4_2 q0 q1 q2 q3 u
      · exact idx4_3 q0 q1 q2 q3 u
    clear hkl f0 f1 f2 f3
    go_wp2_with fail
    generalize (w5.alloc (.cells #[.int .i64 a0, .int .i64 a1, .int .i64 a2, .int .i64 a3] 100)) = w6 at *
    generalize w5.heap.size = ob at *
    refine (HK.out _).mono ?_
    rintro e w7 ⟨rfl, hb7⟩
    have H7 : Hid (Ls W0 w7 b base (nmV g) zs ∧ Ko b W w7 ∧ w7.heap[ob]? = some (.cells #[.int .i64 a0, .int .i64 a1, .int .i64 a2, .int .i64 a3] 100 (0, 0)) ∧ ob ≠ b) := ⟨H6.out.1.below hb7, H6.out.2.2.1.trans (Ko.of_below hb7), (hb7.block _ (blk_lt H6.out.2.2.2.1)).trans H6.out.2.2.2.1, H6.out.2.2.2.2⟩
    clear hb7 H6 HK i0 i1 i2 i3 i4
    go_wp2_with fail
    go_loopg [29] 4 (fun gq x wr => ∃ k : Nat, k ≤ 4 ∧ gq = 4 - k ∧ x = .int .i64 (k : Int) ∧ Ls W0 wr b base (nmV g) (zs ++ opsT (pick4 (Cd.kd4 op)) a k) ∧ Ko b W wr ∧ wr.heap[ob]? = some (.cells #[.int .i64 a0, .int .i64 a1, .int .i64 a2, .int .i64 a3] 100 (0, 0)) ∧ (opsT (pick4 (Cd.kd4 op)) a k).length ≤ 40 * k)
    case atStart => exact ⟨0, by omega, rfl, rfl, by show Ls W0 w7 b base (nmV g) (zs ++ []); rw [List.append_nil]; exact H7.out.1, H7.out.2.1, H7.out.2.2.1, Nat.le_refl _⟩
    case round =>
      obtain ⟨k, hk4, hgk, rfl, hw, hko, hob, hlen⟩ := hrel
      have HT : Hid (Ls W0 wr b base (nmV g) (zs ++ opsT (pick4 (Cd.kd4 op)) a k) ∧ Ko b W wr ∧ wr.heap[ob]? = some (.cells #[.int .i64 a0, .int .i64 a1, .int .i64 a2, .int .i64 a3] 100 (0, 0)) ∧ (opsT (pick4 (Cd.kd4 op)) a k).length ≤ 40 * k ∧ gk = 4 - k ∧ k ≤ 4) := ⟨hw, hko, hob, hlen, hgk, hk4⟩
      clear hw hko hob hlen hgk hk4
      by_cases hk4 : k < 4
      · have hix := HIx.out k hk4
        obtain ⟨kk, hkk⟩ : ∃ kk, kk = q4 q0 q1 q2 q3 k := ⟨_, rfl⟩
        have hq := HQ.out k hk4
        rw [← hkk] at hix hq
        obtain ⟨F, hF, hent, hcall⟩ := tfun W0 b base (nmV g) HG.out.1 kk hq.2
        have hak := HG.out.2.2.2.2.2.1 k hk4
        have hlz : (zs ++ opsT (pick4 (Cd.kd4 op)) a k).length ≤ 80000000300 := by have := HT.out.2.2.2.1; have := HZl.out; rw [List.length_append]; omega
        obtain ⟨ak, hakk⟩ : ∃ ak, ak = a k := ⟨_, rfl⟩
        have HCl : Hid (Calls Tryd.prog F #[.pointer (some ⟨b, 0, none⟩), .int .i64 ak] wr.drew fun e W' => e = .returned (.tuple #[]) ∧ Ls W0 W' b base (nmV g) (zs ++ opsT (pick4 (Cd.kd4 op)) a (k + 1)) ∧ Ko b wr.drew W') := by
          rw [hakk]
          refine (hcall wr.drew _ (a k) (HT.out.1.below (Below.refl _ wr).drew) (by omega) hak.1 hak.2).mono ?_
          rintro e W' ⟨h1, h2, h3⟩
          refine ⟨h1, ?_, h3⟩
          show Ls W0 W' b base (nmV g) (zs ++ (opsT (pick4 (Cd.kd4 op)) a k ++ opT (pick4 (Cd.kd4 op) k) (a k)))
          rw [hq.1, ← List.append_assoc]
          exact h2
        have HL2 : Hid ((opsT (pick4 (Cd.kd4 op)) a (k + 1)).length ≤ 40 * (k + 1) ∧ k < 4) := by
          have := opT_len (pick4 (Cd.kd4 op) k) (a k) hak.1 hak.2
          have := HT.out.2.2.2.1
          refine ⟨?_, hk4⟩
          show (opsT (pick4 (Cd.kd4 op)) a k ++ opT (pick4 (Cd.kd4 op) k) (a k)).length ≤ _
          rw [List.length_append]
          omega
        have cw : wr.cell? ⟨b, 2 + kk * 3 + 2, none⟩ = some (.func (.func F) #[] #[]) := by rw [show 2 + kk * 3 + 2 = 3 * kk + 2 + 2 by omega]; exact (HT.out.1.way _).trans hF
        have co : wr.cell? ⟨ob, k, none⟩ = some (.int .i64 ak) := by
          have e := HG.out.2.2.2.2.2.2
          simp only [World.cell?, HT.out.2.2.1]
          have : k = 0 ∨ k = 1 ∨ k = 2 ∨ k = 3 := by omega
          rcases this with rfl | rfl | rfl | rfl
          · rw [hakk, e.1]; rfl
          · rw [hakk, e.2.1]; rfl
          · rw [hakk, e.2.2.1]; rfl
          · rw [hakk, e.2.2.2]; rfl
        have hk4' : (k : Int) < 4 := by omega
        have hk9 : (kk : Int) < 9 := by have := hq.2; omega
        clear hcall hF hkk hq hak hlz hakk hk4
        go_wp2_with fail
        go_region_law (go_simp; refine HCl.out.mono ?_; rintro e w9 ⟨rfl, hw, hk⟩; have H9 : Hid (Ls W0 w9 b base (nmV g) (zs ++ opsT (pick4 (Cd.kd4 op)) a (k + 1)) ∧ Ko b W w9 ∧ w9.heap[ob]? = some (.cells #[.int .i64 a0, .int .i64 a1, .int .i64 a2, .int .i64 a3] 100 (0, 0))) := ⟨hw, HT.out.2.1.trans ((Ko.of_below (Below.refl _ wr).drew).trans hk), hk.box H7.out.2.2.2 (by decide) HT.out.2.2.1⟩; clear hw hk)
        all_goals go_wp2_with fail
        all_goals go_roundg (4 - (k + 1))
        all_goals first
          | (have := HL2.out.2; have := HT.out.2.2.2.2.1; omega)
          | exact ⟨k + 1, HL2.out.2, rfl, by go_num, H9.out.1, H9.out.2.1, H9.out.2.2, HL2.out.1⟩
      · obtain rfl : k = 4 := by have := HT.out.2.2.2.2.2; omega
        clear hk4
        go_wp2_with fail
        refine (ladd_any HT.out.1 ⟨#[10]⟩ (by have := HT.out.2.2.2.1; have := HZl.out; rw [List.length_append]; omega) (by decide)).mono ?_
        rintro e w9 ⟨rfl, hw, hk⟩
        have H9 : Hid (Ls W0 w9 b base (nmV g) (xs ++ insT at_ op a) ∧ Ko b W w9) := ⟨by
          rw [HZ.out] at hw
          unfold insT
          simp only [List.append_assoc] at hw ⊢
          exact hw, HT.out.2.1.trans hk⟩
        clear hw hk
        go_wp2_with fail
        go_end0
        exact ⟨rfl, H9.out.1, H9.out.2⟩
end
end Go.Proofs.YtcblichnkakhdaaDoor.Cd
