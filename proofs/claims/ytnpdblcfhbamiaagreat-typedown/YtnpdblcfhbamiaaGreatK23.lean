import Derived.RangeFuncNested
import Derived.RangeFuncBound
import Derived.RangeFuncCalls
import Derived.RangeFuncBox
import Derived.RangeFuncLeaves
import Derived.Shelf.Abstract
import Derived.Shelf.RegionOpen
import Derived.OwnWalkIn
import Derived.TacticsInMore
import Derived.LoopNIn
import Derived.LoopIn
import Derived.Test.YtnpdblcfhbamiaaGreatK22
set_option maxHeartbeats 12800000
set_option maxRecDepth 100000
namespace Go.Proofs.YtnpdblcfhbamiaaGreat.Nm.Ty
open Go.RowKit Go.Shelf Go.Proofs.YtnpdblcfhbamiaaGreat.Sp Go.Proofs.YtnpdblcfhbamiaaGreat.Lx Go.Proofs.YtnpdblcfhbamiaaGreat.Gr
attribute [local go_sem] Oper.semAt_some
/-- what has come when k rounds are over, from the last on -/
def dnto (n k : Nat) : List Nat := (List.range k).map (fun j => n - 1 - j)
theorem dnto_succ (n k : Nat) : dnto n (k + 1) = dnto n k ++ [n - 1 - k] := by simp [dnto, List.range_succ]
theorem dnto_length (n k : Nat) : (dnto n k).length = k := by simp [dnto]
/-- some blocks lie as they lay -/
def Kq (S : List Nat) (U V : World) : Prop := U.heap.size ≤ V.heap.size ∧ ∀ k ∈ S, V.heap[k]? = U.heap[k]?
theorem Kq.refl (S : List Nat) (U : World) : Kq S U U := ⟨Nat.le_refl _, fun _ _ => rfl⟩
theorem Kq.trans {S : List Nat} {U V X : World} (h : Kq S U V) (k : Kq S V X) : Kq S U X := ⟨Nat.le_trans h.1 k.1, fun i hi => (k.2 i hi).trans (h.2 i hi)⟩
abbrev rzV (r : Rz) : Value := .agg #[.int .i64 r.kind, .string r.name, .int .i64 r.stop, .int .i64 r.n, .int .i64 r.kids]
theorem rback_in (F : Fence) (n : Nat) (h8 : F.fn 88) (hro : F.round = none) (hn : 1 ≤ n) (l Bs b bo cap : Nat) (L : List Rz) (hreach : L.length ≤ 2932031007317) (J Jx : List Nat → World → Prop)
    (hY : ∀ pre x W, J pre W → pre.length < L.length → YieldAt F (n - 1) Tryz.prog l #[.int .i64 ((x % L.length : Nat) : Int), rzV (rat L (x % L.length))] W fun e W' =>
      (e = .returned (.bool true) ∧ J (pre ++ [x]) W' ∧ Kq [Bs, b] W W') ∨ (e = .returned (.bool false) ∧ Jx (pre ++ [x]) W'))
    (W : World) (hBs : W.cell? ⟨Bs, 0, none⟩ = some (.slice (some ⟨b, bo, none⟩) L.length cap)) (hc : IsRz W (some ⟨b, bo, none⟩) L) (h0 : J [] W) :
    CallsIn F n Tryz.prog 88 #[.func (.yield l) #[] #[], .pointer (some ⟨Bs, 0, none⟩)] W fun e W' => (∃ v, e = .returned v) ∧
      ((∃ ys, ys = dnto L.length L.length ∧ J ys W') ∨ (∃ pre, (∃ k, k ≤ L.length ∧ pre = dnto L.length k) ∧ Jx pre W')) := by
  have hrc : (L.length : Int) ≤ 2932031007317 := by omega
  refine callsIn_of_wp Tryz.func88 rfl h8 ?_ hro
  simp only [Tryz.ntmps88, List.size_toArray, List.length_cons, List.length_nil, Nat.reduceAdd, Nat.reduceSub, Array.replicate_succ, Array.replicate_zero, List.push_toArray, List.append_toArray, List.nil_append, List.cons_append]
  gi_wp2
  gi_loopw [3] (fun i wr => ∃ k : Nat, k ≤ L.length ∧ i = .int .i64 ((L.length : Int) - 1 - k) ∧ J (dnto L.length k) wr ∧ Kq [Bs, b] W wr)
    (fun i _ => (intOf i + 1).toNat)
  case atStart => exact ⟨0, Nat.zero_le _, by simp, h0, Kq.refl _ _⟩
  case round =>
    obtain ⟨k, hk, rfl, hJs, hnx⟩ := hrel
    have hcs : wr.cell? ⟨Bs, 0, none⟩ = some (.slice (some ⟨b, bo, none⟩) L.length cap) := (World.cell?_of_block (a := ⟨Bs, 0, none⟩) (hnx.2 Bs (by simp))).trans hBs
    by_cases hlt : k < L.length
    · obtain ⟨pk, hpk⟩ : ∃ pk, pk = L.length - 1 - k := ⟨_, rfl⟩
      have hi : (L.length : Int) - 1 - (k : Int) = (pk : Int) := by omega
      rw [hi]
      have hpl : pk < L.length := by omega
      have hpl' : (pk : Int) < (L.length : Int) := by omega
      have hJn : dnto L.length (k + 1) = dnto L.length k ++ [pk] := by rw [dnto_succ, ← hpk]
      obtain ⟨fn, tmps, assign, body, hy, hR⟩ := hY _ pk wr hJs (by rw [dnto_length]; exact hlt)
      rw [Nat.mod_eq_of_lt hpl] at hy
      obtain ⟨g, o, e, _, c0, c1, c2, c3, c4⟩ := row_cells hc hpl
      cases e
      have hcell : ∀ j v, W.cell? ⟨b, j, none⟩ = some v → wr.cell? ⟨b, j, none⟩ = some v := fun j v h => (World.cell?_of_block (a := ⟨b, j, none⟩) (hnx.2 b (by simp))).trans h
      have d0 := hcell _ _ c0
      have d1 := hcell _ _ c1
      have d2 := hcell _ _ c2
      have d3 := hcell _ _ c3
      have d4 := hcell _ _ c4
      clear hcell c0 c1 c2 c3 c4 hpk
      generalize rat L pk = r at *
      gi_wp2
      refine hR.mono ?_
      rintro e W3 (⟨rfl, hJ3, hk3⟩ | ⟨rfl, hJx3⟩)
      · gi_wp2
        go_roundw
        case rel => exact ⟨k + 1, by omega, by simp; omega, by rw [hJn]; exact hJ3, hnx.trans hk3⟩
        case measure => simp [intOf]
      · gi_wp2
        refine bodyPost_ret (results_none rfl _ _ _) rfl ?_
        exact ⟨⟨_, rfl⟩, .inr ⟨_, ⟨k + 1, by omega, hJn.symm⟩, hJx3⟩⟩
    · obtain rfl : k = L.length := by omega
      have hi : (L.length : Int) - 1 - (L.length : Int) = -1 := by omega
      rw [hi]
      gi_wp2
      go_end0
      exact ⟨⟨_, rfl⟩, .inl ⟨_, rfl, hJs⟩⟩
theorem rbackward_any (a : Option Addr) (len cap : Nat) (w : World) :
    Calls Tryz.prog 65 #[.slice a len cap] w fun e w' => e = .returned (.func (.func 88) #[] #[.pointer (some ⟨w.heap.size, 0, none⟩)]) ∧ w' = w.alloc (.cells #[.slice a len cap] 22) := by
  have hmf : ∀ (fn : Fn) (first cap : Array Value) (w : World), (Instr.makeFunc fn first cap).run Tryz.prog w = .ok (.func fn first cap) w := fun _ _ _ _ => rfl
  go_enter Tryz.func65, Tryz.ntmps65
  go_wp2
  go_ret
  exact ⟨rfl, rfl⟩
theorem rback_stops (F : Fence) (n : Nat) (h8 : F.fn 88) (hro : F.round = none) (hn : 1 ≤ n) (Bs b bo cap : Nat) (L : List Rz) (hreach : L.length ≤ 2932031007317) (w : World) (hBs : Bs < w.heap.size)
    (hc : w.cell? ⟨Bs, 0, none⟩ = some (.slice (some ⟨b, bo, none⟩) L.length cap)) (hI : IsRz w (some ⟨b, bo, none⟩) L) :
    SeqStopsK F n Tryz.prog 88 #[.pointer (some ⟨Bs, 0, none⟩)] (fun x : Nat => #[Value.int .i64 ((x % L.length : Nat) : Int), rzV (rat L (x % L.length))]) (Kq [Bs, b]) (fun ys => ys = dnto L.length L.length)
      (fun pre => ∃ k, k ≤ L.length ∧ pre = dnto L.length k) L.length w := fun l J Jx W hW _ _ hY h0 =>
  rback_in F n h8 hro hn l Bs b bo cap L hreach J Jx hY W ((hW.cell (p := ⟨Bs, 0, none⟩) hBs).trans hc) (hI.below hW) h0
attribute [local go_sem] Oper.semAt_some
theorem pback_in (F : Fence) (n : Nat) (h8 : F.fn 72) (hro : F.round = none) (hn : 1 ≤ n) (l Bs b bo cap : Nat) (f : Nat → Value) (N : Nat) (hreach : N ≤ 2932031007317) (J Jx : List Nat → World → Prop)
    (hY : ∀ pre x W, J pre W → pre.length < N → YieldAt F (n - 1) Tryz.prog l #[.int .i64 ((x % N : Nat) : Int), f (x % N)] W fun e W' =>
      (e = .returned (.bool true) ∧ J (pre ++ [x]) W' ∧ Kq [Bs, b] W W') ∨ (e = .returned (.bool false) ∧ Jx (pre ++ [x]) W'))
    (W : World) (hBs : W.cell? ⟨Bs, 0, none⟩ = some (.slice (some ⟨b, bo, none⟩) N cap)) (hc : IsVals W (some ⟨b, bo, none⟩) (fL N f)) (h0 : J [] W) :
    CallsIn F n Tryz.prog 72 #[.func (.yield l) #[] #[], .pointer (some ⟨Bs, 0, none⟩)] W fun e W' => (∃ v, e = .returned v) ∧
      ((∃ ys, ys = dnto N N ∧ J ys W') ∨ (∃ pre, (∃ k, k ≤ N ∧ pre = dnto N k) ∧ Jx pre W')) := by
  have hrc : (N : Int) ≤ 2932031007317 := by omega
  refine callsIn_of_wp Tryz.func72 rfl h8 ?_ hro
  simp only [Tryz.ntmps72, List.size_toArray, List.length_cons, List.length_nil, Nat.reduceAdd, Nat.reduceSub, Array.replicate_succ, Array.replicate_zero, List.push_toArray, List.append_toArray, List.nil_append, List.cons_append]
  gi_wp2
  gi_loopw [3] (fun i wr => ∃ k : Nat, k ≤ N ∧ i = .int .i64 ((N : Int) - 1 - k) ∧ J (dnto N k) wr ∧ Kq [Bs, b] W wr)
    (fun i _ => (intOf i + 1).toNat)
  case atStart => exact ⟨0, Nat.zero_le _, by simp, h0, Kq.refl _ _⟩
  case round =>
    obtain ⟨k, hk, rfl, hJs, hnx⟩ := hrel
    have hcs : wr.cell? ⟨Bs, 0, none⟩ = some (.slice (some ⟨b, bo, none⟩) N cap) := (World.cell?_of_block (a := ⟨Bs, 0, none⟩) (hnx.2 Bs (by simp))).trans hBs
    by_cases hlt : k < N
    · obtain ⟨pk, hpk⟩ : ∃ pk, pk = N - 1 - k := ⟨_, rfl⟩
      have hi : (N : Int) - 1 - (k : Int) = (pk : Int) := by omega
      rw [hi]
      have hpl : pk < N := by omega
      have hpl' : (pk : Int) < (N : Int) := by omega
      have hJn : dnto N (k + 1) = dnto N k ++ [pk] := by rw [dnto_succ, ← hpk]
      obtain ⟨fn, tmps, assign, body, hy, hR⟩ := hY _ pk wr hJs (by rw [dnto_length]; exact hlt)
      rw [Nat.mod_eq_of_lt hpl] at hy
      obtain ⟨g, o, e, _, c0⟩ := hc pk _ (fL_at hpl)
      cases e
      have d0 : wr.cell? ⟨b, bo + pk, none⟩ = some (f pk) := (World.cell?_of_block (a := ⟨b, bo + pk, none⟩) (hnx.2 b (by simp))).trans c0
      clear c0 hpk
      generalize f pk = r at *
      gi_wp2
      refine hR.mono ?_
      rintro e W3 (⟨rfl, hJ3, hk3⟩ | ⟨rfl, hJx3⟩)
      · gi_wp2
        go_roundw
        case rel => exact ⟨k + 1, by omega, by simp; omega, by rw [hJn]; exact hJ3, hnx.trans hk3⟩
        case measure => simp [intOf]
      · gi_wp2
        refine bodyPost_ret (results_none rfl _ _ _) rfl ?_
        exact ⟨⟨_, rfl⟩, .inr ⟨_, ⟨k + 1, by omega, hJn.symm⟩, hJx3⟩⟩
    · have hkN : k = N := by omega
      have hi : (N : Int) - 1 - (k : Int) = -1 := by omega
      rw [hi]
      rw [hkN] at hJs
      gi_wp2
      go_end0
      exact ⟨⟨_, rfl⟩, .inl ⟨_, rfl, hJs⟩⟩
theorem pbackward_any (a : Option Addr) (len cap : Nat) (w : World) :
    Calls Tryz.prog 55 #[.slice a len cap] w fun e w' => e = .returned (.func (.func 72) #[] #[.pointer (some ⟨w.heap.size, 0, none⟩)]) ∧ w' = w.alloc (.cells #[.slice a len cap] 70) := by
  have hmf : ∀ (fn : Fn) (first cap : Array Value) (w : World), (Instr.makeFunc fn first cap).run Tryz.prog w = .ok (.func fn first cap) w := fun _ _ _ _ => rfl
  go_enter Tryz.func55, Tryz.ntmps55
  go_wp2
  go_ret
  exact ⟨rfl, rfl⟩
theorem pback_stops (F : Fence) (n : Nat) (h8 : F.fn 72) (hro : F.round = none) (hn : 1 ≤ n) (Bs b bo cap : Nat) (f : Nat → Value) (N : Nat) (hreach : N ≤ 2932031007317) (w : World) (hBs : Bs < w.heap.size)
    (hc : w.cell? ⟨Bs, 0, none⟩ = some (.slice (some ⟨b, bo, none⟩) N cap)) (hI : IsVals w (some ⟨b, bo, none⟩) (fL N f)) :
    SeqStopsK F n Tryz.prog 72 #[.pointer (some ⟨Bs, 0, none⟩)] (fun x : Nat => #[Value.int .i64 ((x % N : Nat) : Int), f (x % N)]) (Kq [Bs, b]) (fun ys => ys = dnto N N)
      (fun pre => ∃ k, k ≤ N ∧ pre = dnto N k) N w := fun l J Jx W hW _ _ hY h0 =>
  pback_in F n h8 hro hn l Bs b bo cap f N hreach J Jx hY W ((hW.cell (p := ⟨Bs, 0, none⟩) hBs).trans hc) (IsVals.below hI hW) h0
end Go.Proofs.YtnpdblcfhbamiaaGreat.Nm.Ty
namespace Go.Proofs.YtnpdblcfhbamiaaGreat.Nm.Ty
open Go.RowKit Go.Maps Go.Proofs.YtnpdblcfhbamiaaGreat.Sp Go.Proofs.YtnpdblcfhbamiaaGreat.Lx Go.Proofs.YtnpdblcfhbamiaaGreat.Gr
theorem tdiv_in {a b : Int} (ha : -9223372036854775808 ≤ a ∧ a ≤ 9223372036854775807) (h0 : b ≠ 0) (h1 : b ≠ -1) : (-9223372036854775808 ≤ a.tdiv b ∧ a.tdiv b ≤ 9223372036854775807) ∧ (a.tmod b ≠ 0 → -9223372036854775807 ≤ a.tdiv b) := by
  have h2 := Int.natAbs_tdiv a b
  have h3 : (a.tdiv b).natAbs * b.natAbs ≤ a.natAbs := by rw [h2]; exact Nat.div_mul_le_self _ _
  by_cases h4 : b = 1
  · subst h4
    rw [Int.tdiv_one, Int.tmod_one]
    exact ⟨ha, fun h => absurd rfl h⟩
  · have h5 : 2 ≤ b.natAbs := by omega
    have h6 : (a.tdiv b).natAbs * 2 ≤ a.natAbs := Nat.le_trans (Nat.mul_le_mul_left _ h5) h3
    generalize a.tdiv b = q at *
    exact ⟨by omega, fun _ => by omega⟩
theorem clamp_in (n : Int) : -1073741824 ≤ clampZ n ∧ clampZ n ≤ 1073741824 := by unfold clampZ; omega
theorem tmod_in {a b : Int} (ha : -9223372036854775808 ≤ a ∧ a ≤ 9223372036854775807) : -9223372036854775808 ≤ a.tmod b ∧ a.tmod b ≤ 9223372036854775807 := by
  have h2 : (a.tmod b).natAbs ≤ a.natAbs := by rw [Int.natAbs_tmod]; exact Nat.mod_le _ _
  by_cases h0 : 0 ≤ a
  · have h3 := Int.tmod_nonneg b h0
    generalize a.tmod b = r at *
    omega
  · have h3 := Int.tmod_nonneg b (show 0 ≤ -a by omega)
    rw [Int.neg_tmod] at h3
    generalize a.tmod b = r at *
    omega
theorem div_any {a b : Int} (ha : -9223372036854775808 ≤ a ∧ a ≤ 9223372036854775807) (w : World) : Calls Tryz.prog 16 #[.int .i64 a, .int .i64 b] w fun e w' => e = .returned (.int .i64 (divZ a b)) ∧ w' = w := by
  have HC := show Hid _ from clamp_any
  have HD : Hid (divZ a b = if b = 0 then 0 else if b = -1 then -clampZ a else clampZ (a.tdiv b - if a.tmod b ≠ 0 ∧ ¬ ((a.tmod b < 0) ↔ (b < 0)) then 1 else 0)) := rfl
  by_cases h0 : b = 0
  · have HR : Hid (divZ a b = 0) := by show _ = _; rw [HD.out, if_pos h0]
    subst h0
    go_enter Tryz.func16, Tryz.ntmps16
    go_wp2
    go_ret
    rw [HR.out]
    exact ⟨rfl, rfl⟩
  · by_cases h1 : b = -1
    · have HR : Hid (divZ a b = -clampZ a) := by show _ = _; rw [HD.out, if_neg h0, if_pos h1]
      have hcl := clamp_in a
      subst h1
      clear HD
      generalize hz : clampZ a = z at *
      have HCa := show Hid _ from HC.out a w
      rw [hz] at HCa
      clear hz
      go_enter Tryz.func16, Tryz.ntmps16
      go_wp2_with fail
      refine Calls.mono HCa.out ?_
      rintro e w1 ⟨rfl, hw⟩
      rw [hw]
      clear hw
      go_wp2
      go_ret
      rw [HR.out]
      exact ⟨rfl, rfl⟩
    · obtain ⟨hq, hq2⟩ := tdiv_in ha h0 h1
      have hr := tmod_in (b := b) ha
      have HR : Hid (divZ a b = clampZ (a.tdiv b - if a.tmod b ≠ 0 ∧ ¬ ((a.tmod b < 0) ↔ (b < 0)) then 1 else 0)) := by show _ = _; rw [HD.out, if_neg h0, if_neg h1]
      have q0 : (b == 0) = false := beq_false_of_ne h0
      have q1 : (b == -1) = false := beq_false_of_ne h1
      have hwq : IntKind.i64.wrap (a.tdiv b) = a.tdiv b := by rw [IntKind.wrap_i64]; generalize a.tdiv b = q at *; omega
      have hwr : IntKind.i64.wrap (a.tmod b) = a.tmod b := by rw [IntKind.wrap_i64]; generalize a.tmod b = r at *; omega
      clear HD
      by_cases hr0 : a.tmod b = 0
      · have HR2 : Hid (divZ a b = clampZ (a.tdiv b)) := by show _ = _; rw [HR.out, if_neg (fun h => h.1 hr0), Int.sub_zero]
        have hn : (a.tmod b != 0) = false := by simp [hr0]
        clear hr0 hq2
        go_enter Tryz.func16, Tryz.ntmps16
        go_wp2_with fail
        refine Calls.mono (HC.out _ _) ?_
        rintro e w1 ⟨rfl, hw⟩
        rw [hw]
        clear hw
        go_wp2
        go_ret
        rw [HR2.out]
        exact ⟨rfl, rfl⟩
      · have hn : (a.tmod b != 0) = true := by simp [hr0]
        have hq3 := hq2 hr0
        have hw1 : IntKind.i64.wrap (a.tdiv b - 1) = a.tdiv b - 1 := by rw [IntKind.wrap_i64]; generalize a.tdiv b = q at *; omega
        by_cases hs : a.tmod b < 0
        rotate_right
        focus
          have hs' : decide (a.tmod b < 0) = false := decide_eq_false hs
          by_cases hb : b < 0
          rotate_right
          focus
            have hb' : decide (b < 0) = false := decide_eq_false hb
            have HR2 : Hid (divZ a b = clampZ (a.tdiv b)) := by show _ = _; rw [HR.out, if_neg (fun h => h.2 ⟨fun h => absurd h hs, fun h => absurd h hb⟩), Int.sub_zero]
          rotate_right
          focus
            have hb' : decide (b < 0) = true := decide_eq_true hb
            have HR2 : Hid (divZ a b = clampZ (a.tdiv b - 1)) := by show _ = _; rw [HR.out, if_pos ⟨hr0, fun h => hs (h.2 hb)⟩]
        rotate_right
        focus
          have hs' : decide (a.tmod b < 0) = true := decide_eq_true hs
          by_cases hb : b < 0
          rotate_right
          focus
            have hb' : decide (b < 0) = false := decide_eq_false hb
            have HR2 : Hid (divZ a b = clampZ (a.tdiv b - 1)) := by show _ = _; rw [HR.out, if_pos ⟨hr0, fun h => hb (h.1 hs)⟩]
          rotate_right
          focus
            have hb' : decide (b < 0) = true := decide_eq_true hb
            have HR2 : Hid (divZ a b = clampZ (a.tdiv b)) := by show _ = _; rw [HR.out, if_neg (fun h => h.2 ⟨fun _ => hb, fun _ => hs⟩), Int.sub_zero]
        all_goals
          all_goals
            go_enter Tryz.func16, Tryz.ntmps16
            go_wp2_with fail
            refine Calls.mono (HC.out _ _) ?_
            rintro e w1 ⟨rfl, hw⟩
            rw [hw]
            clear hw
            go_wp2
            go_ret
            rw [HR2.out]
            exact ⟨rfl, rfl⟩
/-- what a part comes to, as the machine reckons it -/
def Prt.cm (x : Prt) (size : Int) (cq : Nat → Int) (a b : Int) : Int := match x with
  | .wri _ n => n
  | .cpy q => cq q.toNat
  | .siz => size
  | .rck k => if k = 39 then min a b else if k = 40 then max a b else if k = 41 then clampZ (wrap64 (-a)) else if k = 43 then clampZ (wrap64 (a * b)) else if k = 44 then divZ a b else if k = 45 then clampZ (wrap64 (a + b)) else clampZ (wrap64 (a - b))
  | .cmp k => if k = 49 then oneZ (decide (a < b)) else if k = 50 then oneZ (decide (a ≤ b)) else if k = 51 then oneZ (decide (b < a)) else oneZ (decide (b ≤ a))
  | .joi k => if k = 42 then wrap64 (1 - a) else if k = 53 then bits .and .i64 a b else bits .or .i64 a b
  | .lik k => oneZ ((a == b) == (k == 47))
  | _ => 0
theorem comes_any (x : Prt) {size : Int} {cq : Nat → Int} {co : Option Addr} {nc cc : Nat} {a b : Int} (ha : -9223372036854775808 ≤ a ∧ a ≤ 9223372036854775807) {w : World} (hc : IsVals w co (fL nc (fun i => .int .i64 (cq i)))) (hn : nc ≤ 17592186043904) (hx : ∀ q, x = .cpy q → ∃ n : Nat, q = (n : Int) ∧ n < nc) : Calls Tryz.prog x.coF #[x.D, .agg #[.int .i64 size, .slice co nc cc], .int .i64 a, .int .i64 b] w fun e w' => e = .returned (.int .i64 (x.cm size cq a b)) ∧ Below w.heap.size w w' := by
  have hnl : (nc : Int) ≤ 17592186043904 := by omega
  cases x with
  | dng u v t =>
    have HB : Hid (Below w.heap.size w ((w.alloc (.cells #[.int .i64 u, .int .i64 v, .int .i64 t] 145)).alloc (.cells #[.int .i64 size, .slice co nc cc] 25))) := ((Below.refl _ w).alloc (Nat.le_refl _) _).alloc (by simp) _
    clear hc hx
    show Calls Tryz.prog 132 #[.agg #[.int .i64 u, .int .i64 v, .int .i64 t], _, _, _] w _
    go_enter Tryz.func132, Tryz.ntmps132
    go_wp2
    go_ret
    exact ⟨rfl, HB.out⟩
  | wri t n =>
    have HB : Hid (Below w.heap.size w ((w.alloc (.cells #[.int .i64 t, .int .i64 n] 130)).alloc (.cells #[.int .i64 size, .slice co nc cc] 25))) := ((Below.refl _ w).alloc (Nat.le_refl _) _).alloc (by simp) _
    clear hc hx
    show Calls Tryz.prog 115 #[.agg #[.int .i64 t, .int .i64 n], _, _, _] w _
    go_enter Tryz.func115, Tryz.ntmps115
    go_wp2
    go_ret
    exact ⟨rfl, HB.out⟩
  | siz  =>
    have HB : Hid (Below w.heap.size w ((w.alloc (.cells #[] 134)).alloc (.cells #[.int .i64 size, .slice co nc cc] 25))) := ((Below.refl _ w).alloc (Nat.le_refl _) _).alloc (by simp) _
    clear hc hx
    show Calls Tryz.prog 119 #[.agg #[], _, _, _] w _
    go_enter Tryz.func119, Tryz.ntmps119
    go_wp2
    go_ret
    exact ⟨rfl, HB.out⟩
  | chg t =>
    have HB : Hid (Below w.heap.size w ((w.alloc (.cells #[.int .i64 t] 136)).alloc (.cells #[.int .i64 size, .slice co nc cc] 25))) := ((Below.refl _ w).alloc (Nat.le_refl _) _).alloc (by simp) _
    clear hc hx
    show Calls Tryz.prog 121 #[.agg #[.int .i64 t], _, _, _] w _
    go_enter Tryz.func121, Tryz.ntmps121
    go_wp2
    go_ret
    exact ⟨rfl, HB.out⟩
  | cpy q =>
    obtain ⟨n, rfl, hq⟩ := hx q rfl
    obtain ⟨g, o, rfl, hg, c0⟩ := hc n _ (fL_at hq)
    have hb : Below w.heap.size w ((w.alloc (.cells #[.int .i64 (n : Int)] 132)).alloc (.cells #[.int .i64 size, .slice (some ⟨g, o, none⟩) nc cc] 25)) := ((Below.refl _ w).alloc (Nat.le_refl _) _).alloc (by simp) _
    have c1 := (hb.cell (p := ⟨g, o + n, none⟩) hg).trans c0
    have HB := show Hid _ from hb
    have hq' : (n : Int) < (nc : Int) := by omega
    have HR : Hid ((Prt.cpy (n : Int)).cm size cq a b = cq n) := rfl
    clear hb hx hc c0
    generalize cq n = y at *
    show Calls Tryz.prog 117 #[.agg #[.int .i64 (n : Int)], _, _, _] w _
    go_enter Tryz.func117, Tryz.ntmps117
    go_wp2
    go_ret
    rw [HR.out]
    exact ⟨rfl, HB.out⟩
  | rck k =>
    have HB : Hid (Below w.heap.size w ((w.alloc (.cells #[.int .i64 k] 138)).alloc (.cells #[.int .i64 size, .slice co nc cc] 25))) := ((Below.refl _ w).alloc (Nat.le_refl _) _).alloc (by simp) _
    clear hc hx
    show Calls Tryz.prog 123 #[.agg #[.int .i64 k], _, _, _] w _
    have HC := show Hid _ from clamp_any
    have HD := show Hid _ from div_any (b := b) ha
    by_cases h39 : k = 39
    · subst h39
      go_enter Tryz.func123, Tryz.ntmps123
      go_wp2
      go_ret
      exact ⟨rfl, HB.out⟩
    · have q39 : (k == 39) = false := beq_false_of_ne h39
      by_cases h40 : k = 40
      · subst h40
        go_enter Tryz.func123, Tryz.ntmps123
        go_wp2
        go_ret
        exact ⟨rfl, HB.out⟩
      · have q40 : (k == 40) = false := beq_false_of_ne h40
        by_cases h41 : k = 41
        · subst h41
          have HR : Hid (clampZ (0) = clampZ (0)) := rfl
          go_enter Tryz.func123, Tryz.ntmps123
          go_wp2_with fail
          refine Calls.mono (HC.out _ _) ?_
          rintro e w1 ⟨rfl, hw⟩
          rw [hw]
          clear hw
          go_wp2
          go_ret
          exact ⟨rfl, HB.out⟩
        · have q41 : (k == 41) = false := beq_false_of_ne h41
          by_cases h43 : k = 43
          · subst h43
            have HR : Hid (clampZ (0) = clampZ (0)) := rfl
            go_enter Tryz.func123, Tryz.ntmps123
            go_wp2_with fail
            refine Calls.mono (HC.out _ _) ?_
            rintro e w1 ⟨rfl, hw⟩
            rw [hw]
            clear hw
            go_wp2
            go_ret
            exact ⟨rfl, HB.out⟩
          · have q43 : (k == 43) = false := beq_false_of_ne h43
            by_cases h44 : k = 44
            · subst h44
              go_enter Tryz.func123, Tryz.ntmps123
              go_wp2_with fail
              refine Calls.mono (HD.out _) ?_
              rintro e w1 ⟨rfl, hw⟩
              rw [hw]
              clear hw
              go_wp2
              go_ret
              exact ⟨rfl, HB.out⟩
            · have q44 : (k == 44) = false := beq_false_of_ne h44
              by_cases h45 : k = 45
              · subst h45
                have HR : Hid (clampZ (0) = clampZ (0)) := rfl
                go_enter Tryz.func123, Tryz.ntmps123
                go_wp2_with fail
                refine Calls.mono (HC.out _ _) ?_
                rintro e w1 ⟨rfl, hw⟩
                rw [hw]
                clear hw
                go_wp2
                go_ret
                exact ⟨rfl, HB.out⟩
              · have q45 : (k == 45) = false := beq_false_of_ne h45
                have HR : Hid ((Prt.rck k).cm size cq a b = clampZ (wrap64 (a - b))) := by
                  show (if k = 39 then min a b else if k = 40 then max a b else if k = 41 then clampZ (wrap64 (-a)) else if k = 43 then clampZ (wrap64 (a * b)) else if k = 44 then divZ a b else if k = 45 then clampZ (wrap64 (a + b)) else clampZ (wrap64 (a - b))) = _
                  rw [if_neg h39, if_neg h40, if_neg h41, if_neg h43, if_neg h44, if_neg h45]
                go_enter Tryz.func123, Tryz.ntmps123
                go_wp2_with fail
                refine Calls.mono (HC.out _ _) ?_
                rintro e w1 ⟨rfl, hw⟩
                rw [hw]
                clear hw
                go_wp2
                go_ret
                rw [HR.out]
                exact ⟨rfl, HB.out⟩
  | cmp k =>
    have HB : Hid (Below w.heap.size w ((w.alloc (.cells #[.int .i64 k] 139)).alloc (.cells #[.int .i64 size, .slice co nc cc] 25))) := ((Below.refl _ w).alloc (Nat.le_refl _) _).alloc (by simp) _
    clear hc hx
    show Calls Tryz.prog 125 #[.agg #[.int .i64 k], _, _, _] w _
    have HC := show Hid _ from one_any
    by_cases h49 : k = 49
    · subst h49
      go_enter Tryz.func125, Tryz.ntmps125
      go_wp2_with fail
      refine Calls.mono (HC.out _ _) ?_
      rintro e w1 ⟨rfl, hw⟩
      rw [hw]
      clear hw
      go_wp2
      go_ret
      exact ⟨rfl, HB.out⟩
    · have q49 : (k == 49) = false := beq_false_of_ne h49
      by_cases h50 : k = 50
      · subst h50
        go_enter Tryz.func125, Tryz.ntmps125
        go_wp2_with fail
        refine Calls.mono (HC.out _ _) ?_
        rintro e w1 ⟨rfl, hw⟩
        rw [hw]
        clear hw
        go_wp2
        go_ret
        exact ⟨rfl, HB.out⟩
      · have q50 : (k == 50) = false := beq_false_of_ne h50
        by_cases h51 : k = 51
        · subst h51
          go_enter Tryz.func125, Tryz.ntmps125
          go_wp2_with fail
          refine Calls.mono (HC.out _ _) ?_
          rintro e w1 ⟨rfl, hw⟩
          rw [hw]
          clear hw
          go_wp2
          go_ret
          exact ⟨rfl, HB.out⟩
        · have q51 : (k == 51) = false := beq_false_of_ne h51
          have HR : Hid ((Prt.cmp k).cm size cq a b = oneZ (decide (b ≤ a))) := by
            show (if k = 49 then oneZ (decide (a < b)) else if k = 50 then oneZ (decide (a ≤ b)) else if k = 51 then oneZ (decide (b < a)) else oneZ (decide (b ≤ a))) = _
            rw [if_neg h49, if_neg h50, if_neg h51]
          go_enter Tryz.func125, Tryz.ntmps125
          go_wp2_with fail
          refine Calls.mono (HC.out _ _) ?_
          rintro e w1 ⟨rfl, hw⟩
          rw [hw]
          clear hw
          go_wp2
          go_ret
          rw [HR.out]
          exact ⟨rfl, HB.out⟩
  | joi k =>
    have HB : Hid (Below w.heap.size w ((w.alloc (.cells #[.int .i64 k] 140)).alloc (.cells #[.int .i64 size, .slice co nc cc] 25))) := ((Below.refl _ w).alloc (Nat.le_refl _) _).alloc (by simp) _
    clear hc hx
    show Calls Tryz.prog 128 #[.agg #[.int .i64 k], _, _, _] w _
    by_cases h1 : k = 42
    · subst h1
      go_enter Tryz.func128, Tryz.ntmps128
      go_wp2
      go_ret
      exact ⟨rfl, HB.out⟩
    · have q1 : (k == 42) = false := beq_false_of_ne h1
      by_cases h2 : k = 53
      · subst h2
        go_enter Tryz.func128, Tryz.ntmps128
        go_wp2
        go_ret
        exact ⟨rfl, HB.out⟩
      · have q2 : (k == 53) = false := beq_false_of_ne h2
        go_enter Tryz.func128, Tryz.ntmps128
        have HR : Hid ((Prt.joi k).cm size cq a b = bits .or .i64 a b) := by
          show (if k = 42 then wrap64 (1 - a) else if k = 53 then bits .and .i64 a b else bits .or .i64 a b) = _
          rw [if_neg h1, if_neg h2]
        go_wp2
        go_ret
        rw [HR.out]
        exact ⟨rfl, HB.out⟩
  | lik k =>
    have HB : Hid (Below w.heap.size w ((w.alloc (.cells #[.int .i64 k] 141)).alloc (.cells #[.int .i64 size, .slice co nc cc] 25))) := ((Below.refl _ w).alloc (Nat.le_refl _) _).alloc (by simp) _
    clear hc hx
    show Calls Tryz.prog 130 #[.agg #[.int .i64 k], _, _, _] w _
    have HC := show Hid _ from one_any
    go_enter Tryz.func130, Tryz.ntmps130
    go_wp2_with fail
    refine Calls.mono (HC.out _ _) ?_
    rintro e w1 ⟨rfl, hw⟩
    rw [hw]
    clear hw
    go_wp2
    go_ret
    exact ⟨rfl, HB.out⟩
end Go.Proofs.YtnpdblcfhbamiaaGreat.Nm.Ty
