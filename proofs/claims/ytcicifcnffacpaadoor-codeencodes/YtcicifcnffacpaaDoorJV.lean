import Derived.Test.YtcicifcnffacpaaDoorVfChk
import Derived.Test.YtcicifcnffacpaaDoorRows
import Derived.WalkKit
import Derived.Deep.RegionHeld3
import Derived.BigQuiet
import Derived.WalkSpells
import Derived.WalkLawsBesides
import Derived.Deep.QuietTactic
import Derived.Deep.LoopGhost
import Derived.Laws.MakeOwn
import Derived.Below
import Derived.Test.YtcicifcnffacpaaDoorVfPure
import Derived.Great.BuildSlice
import Derived.Deep.Cut
namespace Go.Proofs.YtcicifcnffacpaaDoor.Vf
open Go.RowKit

theorem drN (w : World) (n : Nat) : Below w.heap.size w (w.drewN n) := Go.Proofs.YtcicifcnffacpaaDoor.Nm.below_drewN w n
end Go.Proofs.YtcicifcnffacpaaDoor.Vf

namespace Go.Proofs.YtcicifcnffacpaaDoor.Vf
open Go.RowKit
section
variable {P : Program} {ops : Array Oper} {Q : Exit → Act → World → Prop} {md : Region.Mode} {S : World → Prop}
/-- an operation of a held region is taken: what it reads lies in S as it is -/
theorem tqA (i : Nat) {oi : Oper} {v : Value} {fuel : Nat} {listed : Array Bool} {a : Act} {w : World} (hi : ops[i]? = some oi) (hS : S w)
    (h : wpAnyH P md ops Q S fuel (listed.setIfInBounds i true) (a.put oi.dst v) w) (hy : YieldsIf P ops S oi v a := by (refine Or.inl ⟨by rfl, fun w hSw => ?_⟩; (try dsimp only at hSw); (repeat (have := hSw.1; replace hSw := hSw.2)); first | (go_simp; done) | (go_simp; with_reducible rfl)))
    (hs : Region.noSelect ops = true := by kernel_rfl) (hf : Region.free md ops listed i = true := by kernel_rfl) (hr : (Region.ready md ops listed).contains i = true := by kernel_rfl)
    (hQ : ∀ c a w, Q (.panic c) (a.put oi.dst v) w → Q (.panic c) a w := by exact fun _ _ _ h => h) : wpAnyH P md ops Q S (fuel + 1) listed a w := wpAnyH_take hi hs hf hr hQ hy hS h
/-- an operation of a held region that is guarded is taken: what it reads lies in S as it is -/
theorem tkA (i : Nat) {oi : Oper} {v : Value} {fuel : Nat} {listed : Array Bool} {a : Act} {w : World} (hi : ops[i]? = some oi) (hS : S w)
    (h : wpAnyH P md ops Q S fuel (listed.setIfInBounds i true) (a.put oi.dst v) w) (hy : YieldsIf P ops S oi v a := by (refine Or.inl ⟨by kernel_rfl, fun w hSw => ?_⟩; (try dsimp only at hSw); (repeat (have := hSw.1; replace hSw := hSw.2)); first | (go_simp; done) | (go_simp; with_reducible rfl)))
    (hs : Region.noSelect ops = true := by kernel_rfl) (hf : Region.free md ops listed i = true := by kernel_rfl) (hr : (Region.ready md ops listed).contains i = true := by kernel_rfl)
    (hQ : ∀ c a w, Q (.panic c) (a.put oi.dst v) w → Q (.panic c) a w := by exact fun _ _ _ h => h) : wpAnyH P md ops Q S (fuel + 1) listed a w := wpAnyH_take hi hs hf hr hQ hy hS h
/-- an operation of a held region that its guard leaves out -/
theorem tuA (i : Nat) {oi : Oper} {fuel : Nat} {listed : Array Bool} {a : Act} {w : World} (hi : ops[i]? = some oi) (hS : S w)
    (h : wpAnyH P md ops Q S fuel (listed.setIfInBounds i true) (a.put oi.dst undef) w) (hy : Region.wanted oi (yielded ops a.tmps) = false := by kernel_rfl)
    (hs : Region.noSelect ops = true := by kernel_rfl) (hf : Region.free md ops listed i = true := by kernel_rfl) (hr : (Region.ready md ops listed).contains i = true := by kernel_rfl)
    (hQ : ∀ c a w, Q (.panic c) (a.put oi.dst undef) w → Q (.panic c) a w := by exact fun _ _ _ h => h) : wpAnyH P md ops Q S (fuel + 1) listed a w := wpAnyH_take hi hs hf hr hQ (Or.inr ⟨hy, rfl⟩) hS h
end
end Go.Proofs.YtcicifcnffacpaaDoor.Vf

namespace Go.Proofs.YtcicifcnffacpaaDoor.Vf
open Go.RowKit Go.Proofs.YtcicifcnffacpaaDoor.Nm
set_option maxHeartbeats 3200000 in
/-- the reference's to -/
theorem rto_any (n a b : Int) (w : World) : Calls Tryd.prog 82 #[.int .i64 n, .int .i64 a, .int .i64 b] w fun e w' => e = .returned (.bool (decide (a ≤ n) && decide (n ≤ b))) ∧ w' = w := by
  by_cases h1 : a ≤ n
  · rw [decide_eq_true h1]
    by_cases h2 : n ≤ b
    · rw [decide_eq_true h2]
      go_enter Tryd.func82, Tryd.ntmps82
      go_wp2_with fail
      go_ret
      exact ⟨rfl, rfl⟩
    · rw [decide_eq_false h2]
      go_enter Tryd.func82, Tryd.ntmps82
      go_wp2_with fail
      go_ret
      exact ⟨rfl, rfl⟩
  · rw [decide_eq_false h1]
    go_enter Tryd.func82, Tryd.ntmps82
    go_wp2_with fail
    go_ret
    exact ⟨rfl, rfl⟩
set_option maxHeartbeats 3200000 in
set_option maxRecDepth 100000 in
/-- the reference's Tags -/
theorem rtags_any (o : Option Addr) (c : Nat) (l : List Int) (w : World) (hR : Rd w o (iC l)) (hl : l.length ≤ 1000000000000000) : Calls Tryd.prog 41 #[.slice o l.length c] w fun e w' => e = .returned (.bool (l.all tagF)) ∧ w' = w := by
  have HR : Hid (Rd w o (iC l)) := hR
  have HT : Hid (∀ n W, Calls Tryd.prog 82 #[.int .i64 n, .int .i64 1, .int .i64 255] W fun e w' => e = .returned (.bool (tagF n)) ∧ w' = W) := fun n W => rto_any n 1 255 W
  have n3 : (l.length : Int) ≤ 1000000000000000 := by omega
  clear hR hl
  go_enter Tryd.func41, Tryd.ntmps41
  go_wp2_with fail
  go_loopg [3] l.length (fun gq x wr => ∃ j : Nat, j ≤ l.length ∧ gq = l.length - j ∧ x = .int .i64 (j : Int) ∧ (l.take j).all tagF = true ∧ wr = w)
  case atStart => exact ⟨0, Nat.zero_le _, rfl, rfl, rfl, rfl⟩
  case round =>
    obtain ⟨j, hj, hgk, rfl, ha, rfl⟩ := hrel
    have HG2 : Hid (gk = l.length - j ∧ (l.take j).all tagF = true) := ⟨hgk, ha⟩
    clear hgk ha
    by_cases hlt : j < l.length
    · have hlt' : (j : Int) < (l.length : Int) := by omega
      obtain ⟨g, f, hvo, hg, d0⟩ := rd_int HR.out hlt
      obtain rfl : o = some ⟨g, f, none⟩ := hvo
      have HLt : Hid (j < l.length) := hlt
      have HV : Hid (tagF l[j] = true → (l.take (j + 1)).all tagF = true) := fun hv => all_take hlt HG2.out.2 hv
      have HV2 : Hid (tagF l[j] = false → l.all tagF = false) := fun hv => all_not hlt hv
      generalize l[j] = y0 at *
      clear hlt hg
      go_wp2_with fail
      refine (HT.out y0 _).mono ?_
      rintro e w1 ⟨rfl, rfl⟩
      cases hv : tagF y0
      · go_wp2_with fail
        go_ret
        exact ⟨by rw [HV2.out hv]; rfl, rfl⟩
      · go_wp2_with fail
        go_roundg (l.length - (j + 1))
        case measure => have h1 := HG2.out.1; have := HLt.out; omega
        case rel => exact ⟨j + 1, HLt.out, rfl, by go_num, HV.out hv, rfl⟩
    · have hlt' : ¬ (j : Int) < (l.length : Int) := by omega
      obtain rfl : j = l.length := by omega
      have HA : Hid (l.all tagF = true) := by have := HG2.out.2; rwa [List.take_length] at this
      go_wp2_with fail
      go_ret
      exact ⟨by rw [HA.out]; rfl, rfl⟩
set_option maxHeartbeats 6400000 in
set_option maxRecDepth 100000 in
/-- the reference's Vars -/
theorem rvars_any (o : Option Addr) (c : Nat) (l : List (Int × Int × Int)) (w : World) (hR : Rd w o (vC l)) (hl : l.length ≤ 1000000000000000) : Calls Tryd.prog 40 #[.slice o l.length c] w fun e w' => e = .returned (.bool (l.all varF)) ∧ Below w.heap.size w w' := by
  have HR : Hid (Rd w o (vC l)) := hR
  have n3 : (l.length : Int) ≤ 1000000000000000 := by omega
  clear hR hl
  go_enter Tryd.func40, Tryd.ntmps40
  go_wp2_with fail
  go_loopg [3] l.length (fun gq x wr => ∃ j : Nat, j ≤ l.length ∧ gq = l.length - j ∧ x = .int .i64 (j : Int) ∧ (l.take j).all varF = true ∧ Below w.heap.size w wr)
  case atStart => exact ⟨0, Nat.zero_le _, rfl, rfl, rfl, Below.refl _ w⟩
  case round =>
    obtain ⟨j, hj, hgk, rfl, ha, hb⟩ := hrel
    have HG2 : Hid (gk = l.length - j ∧ (l.take j).all varF = true ∧ Below w.heap.size w wr) := ⟨hgk, ha, hb⟩
    have HD : Hid (∀ n, Below w.heap.size w (wr.drewN n)) := fun n => hb.trans ((drN _ n).mono hb.size)
    clear hgk ha hb
    by_cases hlt : j < l.length
    · have hlt' : (j : Int) < (l.length : Int) := by omega
      obtain ⟨g, f, hvo, hg, d0, d1, d2⟩ := rd_var (HR.out.below HG2.out.2.2) hlt
      obtain rfl : o = some ⟨g, f, none⟩ := hvo
      have HLt : Hid (j < l.length) := hlt
      by_cases hv : varF l[j] = true
      · have HV : Hid ((l.take (j + 1)).all varF = true) := all_take hlt HG2.out.2.1 hv
        unfold varF at hv
        simp only [Bool.and_eq_true, decide_eq_true_eq] at hv
        obtain ⟨v1, v2, v3, v4⟩ := hv
        generalize l[j].1 = y0 at *
        generalize l[j].2.1 = y1 at *
        generalize l[j].2.2 = y2 at *
        have k1 : decide (y0 < y1) = false := decide_eq_false (by omega)
        have k2 : decide (y2 < y0) = false := decide_eq_false (by omega)
        have k3 : decide (y1 < -1073741824) = false := decide_eq_false (by omega)
        have k4 : decide (1073741824 < y2) = false := decide_eq_false (by omega)
        clear hlt hg v1 v2 v3 v4
        go_wp2_with fail
        go_quiet (fail)
        go_wp2_with fail
        go_roundg (l.length - (j + 1))
        case measure => have h1 := HG2.out.1; have := HLt.out; omega
        case rel => exact ⟨j + 1, HLt.out, rfl, by go_num, HV.out, HD.out _⟩
      · have hr : (l.all varF) = false := all_not hlt (Bool.eq_false_iff.2 hv)
        have HV : Hid _ := hr
        unfold varF at hv
        simp only [Bool.and_eq_true, decide_eq_true_eq] at hv
        generalize l[j].1 = y0 at *
        generalize l[j].2.1 = y1 at *
        generalize l[j].2.2 = y2 at *
        have hw : (decide (y0 < y1) = true) ∨ (decide (y0 < y1) = false ∧ decide (y2 < y0) = true) ∨ (decide (y0 < y1) = false ∧ decide (y2 < y0) = false ∧ decide (y1 < -1073741824) = true) ∨ (decide (y0 < y1) = false ∧ decide (y2 < y0) = false ∧ decide (y1 < -1073741824) = false ∧ decide (1073741824 < y2) = true) := by
          simp only [decide_eq_true_eq, decide_eq_false_iff_not]
          omega
        clear hlt hg hv hr
        rcases hw with k1 | ⟨k1, k2⟩ | ⟨k1, k2, k3⟩ | ⟨k1, k2, k3, k4⟩
        all_goals
          go_wp2_with fail
          go_quiet (fail)
          go_wp2_with fail
          go_ret
          exact ⟨by rw [HV.out]; rfl, HD.out _⟩
    · have hlt' : ¬ (j : Int) < (l.length : Int) := by omega
      obtain rfl : j = l.length := by omega
      have HA : Hid (l.all varF = true) := by have := HG2.out.2.1; rwa [List.take_length] at this
      go_wp2_with fail
      go_ret
      exact ⟨by rw [HA.out]; rfl, HG2.out.2.2⟩
end Go.Proofs.YtcicifcnffacpaaDoor.Vf

namespace Go.Proofs.YtcicifcnffacpaaDoor.Vf
open Go.RowKit Go.Proofs.YtcicifcnffacpaaDoor.Nm
set_option maxHeartbeats 3200000 in
set_option maxRecDepth 100000 in
/-- the reference's Operands -/
theorem ropers_any (x : Ins) (w : World) : Calls Tryd.prog 37 #[.agg #[.int .i64 x.op, .int .i64 x.a, .int .i64 x.b, .int .i64 x.c, .int .i64 x.d]] w fun e w' => e = .returned (.agg #[.int .i64 x.a, .int .i64 x.b, .int .i64 x.c, .int .i64 x.d]) ∧ Below w.heap.size w w' := by
  obtain ⟨xo, xa, xb, xc, xd⟩ := x
  have hb : Below w.heap.size w ((w.alloc (.cells #[.int .i64 xo, .int .i64 xa, .int .i64 xb, .int .i64 xc, .int .i64 xd] 53)).alloc (.cells #[.int .i64 xa, .int .i64 xb, .int .i64 xc, .int .i64 xd] 81)) := ((Below.refl _ w).alloc (Nat.le_refl _) _).alloc (by simp) _
  have HB : Hid (Below w.heap.size w ((w.alloc (.cells #[.int .i64 xo, .int .i64 xa, .int .i64 xb, .int .i64 xc, .int .i64 xd] 53)).alloc (.cells #[.int .i64 xa, .int .i64 xb, .int .i64 xc, .int .i64 xd] 81))) := hb
  clear hb
  go_enter Tryd.func37, Tryd.ntmps37
  go_wp2_with fail
  refine bodyPost_ret (v := .agg #[.int .i64 xa, .int .i64 xb, .int .i64 xc, .int .i64 xd]) (by simp [results, Tryd.results37, go_sem]) rfl ?_
  exact ⟨rfl, HB.out⟩
set_option maxHeartbeats 12800000 in
set_option maxRecDepth 100000 in
/-- the reference's fits -/
theorem rfitsK (v : PV) (p : Pg) (k : Nat) (hk : k < 9) (n : Int) (w : World) (l1 : p.gh.length ≤ 1000000000000000) (l2 : p.vs.length ≤ 1000000000000000) (l3 : p.ts.length ≤ 1000000000000000) (l4 : p.cd.length ≤ 1000000000000000) : Calls Tryd.prog 42 #[.agg (pvC v p), .int .i64 (k : Int), .int .i64 n] w fun e w' => e = .returned (.bool (inK p (k : Int) n)) ∧ Below w.heap.size w w' := by
  obtain ⟨qo, qc, vo, vc, tto, tc, oo, oc, co, cc⟩ := v
  show Calls _ _ #[.agg #[.slice qo p.gh.length qc, .slice vo p.vs.length vc, .slice tto p.ts.length tc, .slice oo p.on.length oc, .int .i64 p.miss, .slice co p.cd.length cc], _, _] _ _
  have HB : Hid (Below w.heap.size w (w.alloc (.cells #[.slice qo p.gh.length qc, .slice vo p.vs.length vc, .slice tto p.ts.length tc, .slice oo p.on.length oc, .int .i64 p.miss, .slice co p.cd.length cc] 27))) := (Below.refl _ w).alloc (Nat.le_refl _) _
  have n1 : (p.gh.length : Int) ≤ 1000000000000000 := by omega
  have n2 : (p.vs.length : Int) ≤ 1000000000000000 := by omega
  have n3 : (p.ts.length : Int) ≤ 1000000000000000 := by omega
  have n4 : (p.cd.length : Int) ≤ 1000000000000000 := by omega
  clear l1 l2 l3 l4
  match k, hk with
  | 0, _ =>
    show Calls _ _ #[_, .int .i64 0, _] _ _
    by_cases h1 : n = 0
    · subst h1
      have hI : inK p ((0 : Nat) : Int) 0 = true := rfl
      rw [hI]
      go_enter Tryd.func42, Tryd.ntmps42
      go_wp2_with fail
      go_ret
      exact ⟨rfl, HB.out⟩
    · have hI : inK p ((0 : Nat) : Int) n = false := by
        show (decide ((0 : Int) ≤ n) && decide (n ≤ 0)) = false
        rw [Bool.eq_false_iff]
        simp only [ne_eq, Bool.and_eq_true, decide_eq_true_eq]
        omega
      rw [hI]
      go_enter Tryd.func42, Tryd.ntmps42
      go_wp2_with fail
      go_ret
      exact ⟨congrArg (fun b => Ending.returned (.bool b)) (by simp [h1] : (n == 0) = false), HB.out⟩
  | 1, _ =>
    have hI : inK p ((1 : Nat) : Int) n = (decide ((0 : Int) ≤ n) && decide (n < (p.gh.length : Int))) := by
      first
        | rfl
        | (show (decide (_ ≤ n) && decide (n ≤ _)) = _
           congr 1
           rw [decide_eq_decide]
           show n ≤ _ - 1 ↔ _
           omega)
    rw [hI]
    clear hI
    show Calls _ _ #[_, .int .i64 1, _] _ _
    by_cases h1 : (0 : Int) ≤ n
    · rw [decide_eq_true h1]
      by_cases h2 : n < (p.gh.length : Int)
      · rw [decide_eq_true h2]
        go_enter Tryd.func42, Tryd.ntmps42
        go_wp2_with fail
        go_ret
        exact ⟨rfl, HB.out⟩
      · rw [decide_eq_false h2]
        go_enter Tryd.func42, Tryd.ntmps42
        go_wp2_with fail
        go_ret
        exact ⟨rfl, HB.out⟩
    · rw [decide_eq_false h1]
      go_enter Tryd.func42, Tryd.ntmps42
      go_wp2_with fail
      go_ret
      exact ⟨rfl, HB.out⟩
  | 2, _ =>
    have hI : inK p ((2 : Nat) : Int) n = (decide ((0 : Int) ≤ n) && decide (n < (p.vs.length : Int))) := by
      first
        | rfl
        | (show (decide (_ ≤ n) && decide (n ≤ _)) = _
           congr 1
           rw [decide_eq_decide]
           show n ≤ _ - 1 ↔ _
           omega)
    rw [hI]
    clear hI
    show Calls _ _ #[_, .int .i64 2, _] _ _
    by_cases h1 : (0 : Int) ≤ n
    · rw [decide_eq_true h1]
      by_cases h2 : n < (p.vs.length : Int)
      · rw [decide_eq_true h2]
        go_enter Tryd.func42, Tryd.ntmps42
        go_wp2_with fail
        go_ret
        exact ⟨rfl, HB.out⟩
      · rw [decide_eq_false h2]
        go_enter Tryd.func42, Tryd.ntmps42
        go_wp2_with fail
        go_ret
        exact ⟨rfl, HB.out⟩
    · rw [decide_eq_false h1]
      go_enter Tryd.func42, Tryd.ntmps42
      go_wp2_with fail
      go_ret
      exact ⟨rfl, HB.out⟩
  | 3, _ =>
    have hI : inK p ((3 : Nat) : Int) n = (decide ((0 : Int) ≤ n) && decide (n < (p.ts.length : Int))) := by
      first
        | rfl
        | (show (decide (_ ≤ n) && decide (n ≤ _)) = _
           congr 1
           rw [decide_eq_decide]
           show n ≤ _ - 1 ↔ _
           omega)
    rw [hI]
    clear hI
    show Calls _ _ #[_, .int .i64 3, _] _ _
    by_cases h1 : (0 : Int) ≤ n
    · rw [decide_eq_true h1]
      by_cases h2 : n < (p.ts.length : Int)
      · rw [decide_eq_true h2]
        go_enter Tryd.func42, Tryd.ntmps42
        go_wp2_with fail
        go_ret
        exact ⟨rfl, HB.out⟩
      · rw [decide_eq_false h2]
        go_enter Tryd.func42, Tryd.ntmps42
        go_wp2_with fail
        go_ret
        exact ⟨rfl, HB.out⟩
    · rw [decide_eq_false h1]
      go_enter Tryd.func42, Tryd.ntmps42
      go_wp2_with fail
      go_ret
      exact ⟨rfl, HB.out⟩
  | 4, _ =>
    show Calls _ _ #[_, .int .i64 4, _] _ _
    by_cases h1 : n = 0
    · subst h1
      have hI : inK p ((4 : Nat) : Int) 0 = true := rfl
      rw [hI]
      go_enter Tryd.func42, Tryd.ntmps42
      go_wp2_with fail
      go_ret
      exact ⟨rfl, HB.out⟩
    · by_cases h2 : n = 1
      · subst h2
        have hI : inK p ((4 : Nat) : Int) 1 = true := rfl
        rw [hI]
        go_enter Tryd.func42, Tryd.ntmps42
        go_wp2_with fail
        go_ret
        exact ⟨rfl, HB.out⟩
      · have hI : inK p ((4 : Nat) : Int) n = false := by
          show (decide ((0 : Int) ≤ n) && decide (n ≤ 1)) = false
          rw [Bool.eq_false_iff]
          simp only [ne_eq, Bool.and_eq_true, decide_eq_true_eq]
          omega
        rw [hI]
        go_enter Tryd.func42, Tryd.ntmps42
        go_wp2_with fail
        go_ret
        exact ⟨congrArg (fun b => Ending.returned (.bool b)) (by simp [h1, h2] : (n == 0 || n == 1) = false), HB.out⟩
  | 5, _ =>
    have hI : inK p ((5 : Nat) : Int) n = (decide ((-1073741824 : Int) ≤ n) && decide (n ≤ (1073741824 : Int))) := by
      first
        | rfl
        | (show (decide (_ ≤ n) && decide (n ≤ _)) = _
           congr 1
           rw [decide_eq_decide]
           show n ≤ _ - 1 ↔ _
           omega)
    rw [hI]
    clear hI
    show Calls _ _ #[_, .int .i64 5, _] _ _
    by_cases h1 : (-1073741824 : Int) ≤ n
    · rw [decide_eq_true h1]
      by_cases h2 : n ≤ (1073741824 : Int)
      · rw [decide_eq_true h2]
        go_enter Tryd.func42, Tryd.ntmps42
        go_wp2_with fail
        go_ret
        exact ⟨rfl, HB.out⟩
      · rw [decide_eq_false h2]
        go_enter Tryd.func42, Tryd.ntmps42
        go_wp2_with fail
        go_ret
        exact ⟨rfl, HB.out⟩
    · rw [decide_eq_false h1]
      go_enter Tryd.func42, Tryd.ntmps42
      go_wp2_with fail
      go_ret
      exact ⟨rfl, HB.out⟩
  | 6, _ =>
    show Calls _ _ #[_, .int .i64 6, _] _ _
    by_cases h1 : n = 0
    · subst h1
      have hI : inK p ((6 : Nat) : Int) 0 = true := rfl
      rw [hI]
      go_enter Tryd.func42, Tryd.ntmps42
      go_wp2_with fail
      go_ret
      exact ⟨rfl, HB.out⟩
    · by_cases h2 : n = 1
      · subst h2
        have hI : inK p ((6 : Nat) : Int) 1 = true := rfl
        rw [hI]
        go_enter Tryd.func42, Tryd.ntmps42
        go_wp2_with fail
        go_ret
        exact ⟨rfl, HB.out⟩
      · have hI : inK p ((6 : Nat) : Int) n = false := by
          show (decide ((0 : Int) ≤ n) && decide (n ≤ 1)) = false
          rw [Bool.eq_false_iff]
          simp only [ne_eq, Bool.and_eq_true, decide_eq_true_eq]
          omega
        rw [hI]
        go_enter Tryd.func42, Tryd.ntmps42
        go_wp2_with fail
        go_ret
        exact ⟨congrArg (fun b => Ending.returned (.bool b)) (by simp [h1, h2] : (n == 0 || n == 1) = false), HB.out⟩
  | 7, _ =>
    have hI : inK p ((7 : Nat) : Int) n = (decide ((0 : Int) ≤ n) && decide (n ≤ (4194304 : Int))) := by
      first
        | rfl
        | (show (decide (_ ≤ n) && decide (n ≤ _)) = _
           congr 1
           rw [decide_eq_decide]
           show n ≤ _ - 1 ↔ _
           omega)
    rw [hI]
    clear hI
    show Calls _ _ #[_, .int .i64 7, _] _ _
    by_cases h1 : (0 : Int) ≤ n
    · rw [decide_eq_true h1]
      by_cases h2 : n ≤ (4194304 : Int)
      · rw [decide_eq_true h2]
        go_enter Tryd.func42, Tryd.ntmps42
        go_wp2_with fail
        go_ret
        exact ⟨rfl, HB.out⟩
      · rw [decide_eq_false h2]
        go_enter Tryd.func42, Tryd.ntmps42
        go_wp2_with fail
        go_ret
        exact ⟨rfl, HB.out⟩
    · rw [decide_eq_false h1]
      go_enter Tryd.func42, Tryd.ntmps42
      go_wp2_with fail
      go_ret
      exact ⟨rfl, HB.out⟩
  | 8, _ =>
    have hI : inK p ((8 : Nat) : Int) n = (decide ((0 : Int) ≤ n) && decide (n < (p.cd.length : Int))) := by
      first
        | rfl
        | (show (decide (_ ≤ n) && decide (n ≤ _)) = _
           congr 1
           rw [decide_eq_decide]
           show n ≤ _ - 1 ↔ _
           omega)
    rw [hI]
    clear hI
    show Calls _ _ #[_, .int .i64 8, _] _ _
    by_cases h1 : (0 : Int) ≤ n
    · rw [decide_eq_true h1]
      by_cases h2 : n < (p.cd.length : Int)
      · rw [decide_eq_true h2]
        go_enter Tryd.func42, Tryd.ntmps42
        go_wp2_with fail
        go_ret
        exact ⟨rfl, HB.out⟩
      · rw [decide_eq_false h2]
        go_enter Tryd.func42, Tryd.ntmps42
        go_wp2_with fail
        go_ret
        exact ⟨rfl, HB.out⟩
    · rw [decide_eq_false h1]
      go_enter Tryd.func42, Tryd.ntmps42
      go_wp2_with fail
      go_ret
      exact ⟨rfl, HB.out⟩
  | _ + 9, h => exact absurd h (by omega)
end Go.Proofs.YtcicifcnffacpaaDoor.Vf

namespace Go.Proofs.YtcicifcnffacpaaDoor.Cd
open Go.RowKit

/-- the first k of the numbers, then 0 -/
def pk (l : Nat → Int) (k j : Nat) : Int := if j < k then l j else 0
/-- a row of the reference's table -/
def rowC (nm : ByteArray) (l : Nat → Int) (k : Nat) : Array Value := #[.string nm, .int .i64 (pk l k 0), .int .i64 (pk l k 1), .int .i64 (pk l k 2), .int .i64 (pk l k 3)]
theorem rowC_zero (nm : ByteArray) (l : Nat → Int) : rowC nm l 0 = #[.string nm, .int .i64 0, .int .i64 0, .int .i64 0, .int .i64 0] := rfl
theorem rowC_next (nm : ByteArray) (l : Nat → Int) (k : Nat) (hk : k < 4) : (rowC nm l k).setIfInBounds (1 + k) (.int .i64 (l k)) = rowC nm l (k + 1) := by
  have h : k = 0 ∨ k = 1 ∨ k = 2 ∨ k = 3 := by omega
  rcases h with rfl | rfl | rfl | rfl <;> rfl
set_option maxHeartbeats 6400000 in
set_option maxRecDepth 100000 in
/-- the reference's row -/
theorem crow {w : World} {nm : ByteArray} {so : Option Addr} {n cap : Nat} {l : Nat → Int} (hn : n ≤ 4) (hl : ∀ k, k < n → ∃ g o, so = some ⟨g, o, none⟩ ∧ g < w.heap.size ∧ w.cell? ⟨g, o + k, none⟩ = some (.int .i64 (l k))) :
    Calls Tryd.prog 81 #[.string nm, .slice so n cap] w fun e w' => e = .returned (.agg #[.string nm, .int .i64 (pk l n 0), .int .i64 (pk l n 1), .int .i64 (pk l n 2), .int .i64 (pk l n 3)]) ∧ Below w.heap.size w w' := by
  have HN : Hid (n ≤ 4) := hn
  have HL := show Hid _ from hl
  clear hn hl
  go_enter Tryd.func81, Tryd.ntmps81
  go_wp2_with fail
  have HB : Hid (Below w.heap.size w ((w.alloc (.cells #[.string ⟨#[]⟩, .int .i64 0, .int .i64 0, .int .i64 0, .int .i64 0] 84)).alloc (.cells #[.string nm, .int .i64 0, .int .i64 0, .int .i64 0, .int .i64 0] 84)) ∧ ((w.alloc (.cells #[.string ⟨#[]⟩, .int .i64 0, .int .i64 0, .int .i64 0, .int .i64 0] 84)).alloc (.cells #[.string nm, .int .i64 0, .int .i64 0, .int .i64 0, .int .i64 0] 84)).heap[w.heap.size]? = some (.cells #[.string ⟨#[]⟩, .int .i64 0, .int .i64 0, .int .i64 0, .int .i64 0] 84 (0, 0)) ∧ ((w.alloc (.cells #[.string ⟨#[]⟩, .int .i64 0, .int .i64 0, .int .i64 0, .int .i64 0] 84)).alloc (.cells #[.string nm, .int .i64 0, .int .i64 0, .int .i64 0, .int .i64 0] 84)).heap[w.heap.size + 1]? = some (.cells #[.string nm, .int .i64 0, .int .i64 0, .int .i64 0, .int .i64 0] 84 (0, 0))) := by
    refine ⟨((Below.refl _ w).alloc (Nat.le_refl _) _).alloc (by simp) _, ?_, ?_⟩
    · rw [Below.heap_alloc _ _ _ (by simp)]
      exact heap_alloc_new w _
    · have := heap_alloc_new (w.alloc (.cells #[.string ⟨#[]⟩, .int .i64 0, .int .i64 0, .int .i64 0, .int .i64 0] 84)) (.cells #[.string nm, .int .i64 0, .int .i64 0, .int .i64 0, .int .i64 0] 84)
      simpa using this
  generalize ((w.alloc (.cells #[.string ⟨#[]⟩, .int .i64 0, .int .i64 0, .int .i64 0, .int .i64 0] 84)).alloc (.cells #[.string nm, .int .i64 0, .int .i64 0, .int .i64 0, .int .i64 0] 84)) = w2 at *
  go_loopg [6] n (fun gq c wr => ∃ k : Nat, k ≤ n ∧ gq = n - k ∧ c = .int .i64 (k : Int) ∧ Below w.heap.size w wr ∧ wr.heap[w.heap.size]? = some (.cells #[.string ⟨#[]⟩, .int .i64 0, .int .i64 0, .int .i64 0, .int .i64 0] 84 (0, 0)) ∧ wr.heap[w.heap.size + 1]? = some (.cells (rowC nm l k) 84 (0, 0)))
  case atStart => exact ⟨0, Nat.zero_le _, rfl, rfl, HB.out.1, HB.out.2.1, HB.out.2.2⟩
  case round =>
    obtain ⟨k, hk, hgk, rfl, hb, h0, h1⟩ := hrel
    have HG : Hid (gk = n - k ∧ Below w.heap.size w wr ∧ wr.heap[w.heap.size]? = some (.cells #[.string ⟨#[]⟩, .int .i64 0, .int .i64 0, .int .i64 0, .int .i64 0] 84 (0, 0)) ∧ wr.heap[w.heap.size + 1]? = some (.cells (rowC nm l k) 84 (0, 0))) := ⟨hgk, hb, h0, h1⟩
    clear hgk hb h0 h1 HB
    have c0 : ∀ j, wr.cell? ⟨w.heap.size + 1, j, none⟩ = (rowC nm l k)[j]? := fun j => by simp only [World.cell?, HG.out.2.2.2]; rfl
    have f1 : ∀ j, wr.frozen? ⟨w.heap.size + 1, j, none⟩ = false := fun j => frozen_of_row wr _ j _ _ HG.out.2.2.2
    have f0 : ∀ j, wr.frozen? ⟨w.heap.size, j, none⟩ = false := fun j => frozen_of_row wr _ j _ _ HG.out.2.2.1
    by_cases hkn : k < n
    · have hkn' : (k : Int) < (n : Int) := by omega
      have hk4 : k < 4 := by have := HN.out; omega
      have hk4' : (k : Int) < 4 := by omega
      obtain ⟨g, o, rfl, hg, hc⟩ := HL.out k hkn
      have hc' : wr.cell? ⟨g, o + k, none⟩ = some (.int .i64 (l k)) := (HG.out.2.1.cell (p := ⟨g, o + k, none⟩) hg).trans hc
      have cz : ∃ x, wr.cell? ⟨w.heap.size + 1, 1 + k, none⟩ = some x := by
        rw [c0]
        have h : k = 0 ∨ k = 1 ∨ k = 2 ∨ k = 3 := by omega
        rcases h with rfl | rfl | rfl | rfl <;> exact ⟨_, rfl⟩
      obtain ⟨x, cz⟩ := cz
      have fz := f1 (1 + k)
      clear c0 f1 f0 hg hc
      go_wp2_with fail
      go_roundg (n - (k + 1))
      case measure => have := HG.out.1; omega
      case rel =>
        have e := heap_setCell_same wr (w.heap.size + 1) (1 + k) _ _ (.int .i64 (l k)) HG.out.2.2.2
        rw [rowC_next nm l k hk4] at e
        exact ⟨k + 1, by omega, rfl, by go_num, HG.out.2.1.setCell (p := ⟨w.heap.size + 1, 1 + k, none⟩) (by simp) _, (heap_setCell_other wr ⟨w.heap.size + 1, 1 + k, none⟩ w.heap.size _ (by simp)).trans HG.out.2.2.1, e⟩
    · have hkn' : ¬ (k : Int) < (n : Int) := by omega
      obtain rfl : k = n := by omega
      have e0 := c0 0
      have e1 := c0 1
      have e2 := c0 2
      have e3 := c0 3
      have e4 := c0 4
      simp only [rowC, List.getElem?_toArray, List.getElem?_cons_zero, List.getElem?_cons_succ] at e0 e1 e2 e3 e4
      have zc : ∀ j, wr.cell? ⟨w.heap.size, j, none⟩ = (#[Value.string ⟨#[]⟩, .int .i64 0, .int .i64 0, .int .i64 0, .int .i64 0] : Array Value)[j]? := fun j => by simp only [World.cell?, HG.out.2.2.1]; rfl
      have z0 := zc 0
      have z1 := zc 1
      have z2 := zc 2
      have z3 := zc 3
      have z4 := zc 4
      simp only [List.getElem?_toArray, List.getElem?_cons_zero, List.getElem?_cons_succ] at z0 z1 z2 z3 z4
      clear c0 f1 zc
      go_wp2_with fail
      have q : (((((wr.setCell ⟨w.heap.size, 0, none⟩ (.string nm)).setCell ⟨w.heap.size, 1, none⟩ (.int .i64 (pk l k 0))).setCell ⟨w.heap.size, 2, none⟩ (.int .i64 (pk l k 1))).setCell ⟨w.heap.size, 3, none⟩ (.int .i64 (pk l k 2))).setCell ⟨w.heap.size, 4, none⟩ (.int .i64 (pk l k 3))).heap[w.heap.size]? = some (.cells (rowC nm l k) 84 (0, 0)) := heap_setCell_same _ _ 4 _ _ _ (heap_setCell_same _ _ 3 _ _ _ (heap_setCell_same _ _ 2 _ _ _ (heap_setCell_same _ _ 1 _ _ _ (heap_setCell_same wr _ 0 _ _ _ HG.out.2.2.1))))
      have bq : Below w.heap.size w (((((wr.setCell ⟨w.heap.size, 0, none⟩ (.string nm)).setCell ⟨w.heap.size, 1, none⟩ (.int .i64 (pk l k 0))).setCell ⟨w.heap.size, 2, none⟩ (.int .i64 (pk l k 1))).setCell ⟨w.heap.size, 3, none⟩ (.int .i64 (pk l k 2))).setCell ⟨w.heap.size, 4, none⟩ (.int .i64 (pk l k 3))) := ((((HG.out.2.1.setCell (p := ⟨w.heap.size, 0, none⟩) (Nat.le_refl _) _).setCell (p := ⟨w.heap.size, 1, none⟩) (Nat.le_refl _) _).setCell (p := ⟨w.heap.size, 2, none⟩) (Nat.le_refl _) _).setCell (p := ⟨w.heap.size, 3, none⟩) (Nat.le_refl _) _).setCell (p := ⟨w.heap.size, 4, none⟩) (Nat.le_refl _) _
      clear e0 e1 e2 e3 e4 z0 z1 z2 z3 z4 f0
      generalize (((((wr.setCell ⟨w.heap.size, 0, none⟩ (.string nm)).setCell ⟨w.heap.size, 1, none⟩ (.int .i64 (pk l k 0))).setCell ⟨w.heap.size, 2, none⟩ (.int .i64 (pk l k 1))).setCell ⟨w.heap.size, 3, none⟩ (.int .i64 (pk l k 2))).setCell ⟨w.heap.size, 4, none⟩ (.int .i64 (pk l k 3))) = wx at *
      have zc : ∀ j, wx.cell? ⟨w.heap.size, j, none⟩ = (rowC nm l k)[j]? := fun j => by simp only [World.cell?, q]; rfl
      have z0 := zc 0
      have z1 := zc 1
      have z2 := zc 2
      have z3 := zc 3
      have z4 := zc 4
      simp only [rowC, List.getElem?_toArray, List.getElem?_cons_zero, List.getElem?_cons_succ] at z0 z1 z2 z3 z4
      refine bodyPost_ret (v := .agg #[.string nm, .int .i64 (pk l k 0), .int .i64 (pk l k 1), .int .i64 (pk l k 2), .int .i64 (pk l k 3)]) (by simp [results, Tryd.results81, go_sem, z0, z1, z2, z3, z4]) rfl ?_
      exact ⟨rfl, bq⟩
end Go.Proofs.YtcicifcnffacpaaDoor.Cd

namespace Go.Proofs.YtcicifcnffacpaaDoor.Vf
open Go.RowKit

theorem info_partsR {P : Program} {T : TypeId} {z : Value} {s b : Nat} (h : (P.info? T).map (fun i => (i.zero, i.size, i.bytes)) = some (some z, s, b)) : ∃ i, P.info? T = some i ∧ i.zero = some z ∧ i.size = s ∧ i.bytes = b := by
  cases hi : P.info? T with
  | none => rw [hi] at h; cases h
  | some i =>
    rw [hi] at h
    simp only [Option.map_some, Option.some.injEq, Prod.mk.injEq] at h
    exact ⟨i, rfl, h.1, h.2.1, h.2.2⟩
theorem infoCrR : (Tryd.prog.info? 84).map (fun i => (i.zero, i.size, i.bytes)) = some (some (.agg #[.string ⟨#[]⟩, .int .i64 0, .int .i64 0, .int .i64 0, .int .i64 0]), 5, 48) := by kernel_rfl
theorem rrow0 (w : World) (nm : ByteArray) : Calls Tryd.prog 81 #[.string nm, .slice none 0 0] w fun e w' => e = .returned (.agg #[.string nm, .int .i64 0, .int .i64 0, .int .i64 0, .int .i64 0]) ∧ Below w.heap.size w w' :=
  Calls.mono (Cd.crow (n := 0) (l := fun _ => 0) (by omega) (fun k h => absurd h (by omega))) fun _ _ h => ⟨h.1, h.2⟩
theorem rrow1 (w : World) (nm : ByteArray) (x0 : Int) : Calls Tryd.prog 81 #[.string nm, .slice (some ⟨w.heap.size, 0, none⟩) 1 1] (w.alloc (.cells #[.int .i64 x0] 3)) fun e w' => e = .returned (.agg #[.string nm, .int .i64 x0, .int .i64 0, .int .i64 0, .int .i64 0]) ∧ Below w.heap.size w w' :=
  Calls.mono (Cd.crow (n := 1) (l := fun k => ([x0] : List Int).getD k 0) (by omega) (fun k h => ⟨_, _, rfl, by simp, by
    have e := heap_alloc_new w (.cells #[.int .i64 x0] 3)
    simp only [World.cell?, e]
    have : k = 0 := by omega
    rcases this with rfl <;> rfl⟩)) fun _ _ h => ⟨h.1, ((Below.refl _ w).alloc (Nat.le_refl _) _).trans (h.2.mono (by simp))⟩
theorem rrow2 (w : World) (nm : ByteArray) (x0 x1 : Int) : Calls Tryd.prog 81 #[.string nm, .slice (some ⟨w.heap.size, 0, none⟩) 2 2] (w.alloc (.cells #[.int .i64 x0, .int .i64 x1] 3)) fun e w' => e = .returned (.agg #[.string nm, .int .i64 x0, .int .i64 x1, .int .i64 0, .int .i64 0]) ∧ Below w.heap.size w w' :=
  Calls.mono (Cd.crow (n := 2) (l := fun k => ([x0, x1] : List Int).getD k 0) (by omega) (fun k h => ⟨_, _, rfl, by simp, by
    have e := heap_alloc_new w (.cells #[.int .i64 x0, .int .i64 x1] 3)
    simp only [World.cell?, e]
    have : k = 0 ∨ k = 1 := by omega
    rcases this with rfl | rfl <;> rfl⟩)) fun _ _ h => ⟨h.1, ((Below.refl _ w).alloc (Nat.le_refl _) _).trans (h.2.mono (by simp))⟩
theorem rrow3 (w : World) (nm : ByteArray) (x0 x1 x2 : Int) : Calls Tryd.prog 81 #[.string nm, .slice (some ⟨w.heap.size, 0, none⟩) 3 3] (w.alloc (.cells #[.int .i64 x0, .int .i64 x1, .int .i64 x2] 3)) fun e w' => e = .returned (.agg #[.string nm, .int .i64 x0, .int .i64 x1, .int .i64 x2, .int .i64 0]) ∧ Below w.heap.size w w' :=
  Calls.mono (Cd.crow (n := 3) (l := fun k => ([x0, x1, x2] : List Int).getD k 0) (by omega) (fun k h => ⟨_, _, rfl, by simp, by
    have e := heap_alloc_new w (.cells #[.int .i64 x0, .int .i64 x1, .int .i64 x2] 3)
    simp only [World.cell?, e]
    have : k = 0 ∨ k = 1 ∨ k = 2 := by omega
    rcases this with rfl | rfl | rfl <;> rfl⟩)) fun _ _ h => ⟨h.1, ((Below.refl _ w).alloc (Nat.le_refl _) _).trans (h.2.mono (by simp))⟩
theorem rrow4 (w : World) (nm : ByteArray) (x0 x1 x2 x3 : Int) : Calls Tryd.prog 81 #[.string nm, .slice (some ⟨w.heap.size, 0, none⟩) 4 4] (w.alloc (.cells #[.int .i64 x0, .int .i64 x1, .int .i64 x2, .int .i64 x3] 3)) fun e w' => e = .returned (.agg #[.string nm, .int .i64 x0, .int .i64 x1, .int .i64 x2, .int .i64 x3]) ∧ Below w.heap.size w w' :=
  Calls.mono (Cd.crow (n := 4) (l := fun k => ([x0, x1, x2, x3] : List Int).getD k 0) (by omega) (fun k h => ⟨_, _, rfl, by simp, by
    have e := heap_alloc_new w (.cells #[.int .i64 x0, .int .i64 x1, .int .i64 x2, .int .i64 x3] 3)
    simp only [World.cell?, e]
    have : k = 0 ∨ k = 1 ∨ k = 2 ∨ k = 3 := by omega
    rcases this with rfl | rfl | rfl | rfl <;> rfl⟩)) fun _ _ h => ⟨h.1, ((Below.refl _ w).alloc (Nat.le_refl _) _).trans (h.2.mono (by simp))⟩
/-- the names of the instructions -/
def nmT : List ByteArray := [⟨#[101, 110, 100]⟩, ⟨#[110, 117, 109]⟩, ⟨#[98, 111, 111, 108]⟩, ⟨#[118, 97, 114]⟩, ⟨#[108, 101, 110]⟩, ⟨#[99, 97, 112]⟩, ⟨#[115, 105, 122, 101]⟩, ⟨#[116, 111, 116, 97, 108]⟩, ⟨#[97, 116]⟩, ⟨#[116, 97, 103, 120]⟩, ⟨#[116, 97, 103, 101, 110, 100]⟩, ⟨#[109, 105, 110]⟩, ⟨#[109, 97, 120]⟩, ⟨#[110, 101, 103]⟩, ⟨#[110, 111, 116]⟩, ⟨#[109, 117, 108]⟩, ⟨#[100, 105, 118]⟩, ⟨#[97, 100, 100]⟩, ⟨#[115, 117, 98]⟩, ⟨#[101, 113]⟩, ⟨#[108, 116]⟩, ⟨#[108, 101]⟩, ⟨#[106, 117, 109, 112]⟩, ⟨#[101, 108, 115, 101]⟩, ⟨#[108, 111, 111, 112]⟩, ⟨#[116, 117, 114, 110]⟩, ⟨#[113, 117, 105, 116]⟩, ⟨#[97, 103, 97, 105, 110]⟩, ⟨#[115, 101, 116]⟩, ⟨#[109, 97, 114, 107, 120]⟩, ⟨#[109, 97, 114, 107, 101, 110, 100]⟩, ⟨#[105, 110, 115, 101, 114, 116]⟩, ⟨#[109, 111, 118, 101]⟩, ⟨#[102, 111, 114, 103, 101, 116]⟩, ⟨#[116, 97, 107, 101]⟩, ⟨#[103, 105, 118, 101]⟩, ⟨#[116, 101, 108, 108]⟩, ⟨#[108, 111, 111, 115, 101]⟩, ⟨#[115, 104, 105, 102, 116]⟩, ⟨#[115, 112, 105, 108, 108]⟩, ⟨#[101, 118, 105, 99, 116]⟩, ⟨#[100, 114, 111, 112]⟩]
def rowT (op : Nat) : List Value := [.string (nmT.getD op ⟨#[]⟩), .int .i64 (kd4 op).1, .int .i64 (kd4 op).2.1, .int .i64 (kd4 op).2.2.1, .int .i64 (kd4 op).2.2.2]
def tabC : List Value := (List.range 42).flatMap rowT
theorem rowT_len (op : Nat) : (rowT op).length = 5 := rfl
theorem flat5 {α : Type} (f : α → List Value) (hf : ∀ x, (f x).length = 5) : ∀ (l : List α) (k i : Nat) (h : k < l.length), i < 5 → (l.flatMap f)[k * 5 + i]? = (f l[k])[i]?
  | [], _, _, h, _ => absurd h (by simp)
  | x :: l, 0, i, _, hi => by
    rw [List.flatMap_cons, List.getElem?_append_left (by rw [hf]; omega)]
    simp
  | x :: l, k + 1, i, h, hi => by
    rw [List.flatMap_cons, List.getElem?_append_right (by rw [hf]; omega), hf, show (k + 1) * 5 + i - 5 = k * 5 + i by omega, flat5 f hf l k i (by simpa using h) hi]
    rfl
theorem tabC_at {op i : Nat} (h : op < 42) (hi : i < 5) : tabC[op * 5 + i]? = (rowT op)[i]? := by
  unfold tabC
  rw [flat5 _ rowT_len _ _ _ (by simpa using h) hi]
  simp
set_option maxHeartbeats 12800000 in
set_option maxRecDepth 100000 in
/-- the reference's table -/
theorem rtab_any (w : World) : Calls Tryd.prog 36 #[] w fun e w' => ∃ g, e = .returned (.slice (some ⟨g, 0, none⟩) 42 42) ∧ w.heap.size ≤ g ∧ w'.heap[g]? = some (.cells tabC.toArray 84 (0, 0)) ∧ Below w.heap.size w w' := by
  have H0 : Hid (Below w.heap.size w w) := Below.refl _ w
  go_enter Tryd.func36, Tryd.ntmps36
  go_wp2_with fail
  refine Calls.mono (rrow0 _ _) ?_
  rintro e w1 ⟨rfl, hb⟩
  have H1 : Hid (Below w.heap.size w w1) := H0.out.trans (hb.mono H0.out.size)
  clear hb H0
  go_wp2_with fail
  refine Calls.mono (rrow1 _ _ _) ?_
  rintro e w2 ⟨rfl, hb⟩
  have H2 : Hid (Below w.heap.size w w2) := H1.out.trans (hb.mono H1.out.size)
  clear hb H1
  go_wp2_with fail
  refine Calls.mono (rrow1 _ _ _) ?_
  rintro e w3 ⟨rfl, hb⟩
  have H3 : Hid (Below w.heap.size w w3) := H2.out.trans (hb.mono H2.out.size)
  clear hb H2
  go_wp2_with fail
  refine Calls.mono (rrow1 _ _ _) ?_
  rintro e w4 ⟨rfl, hb⟩
  have H4 : Hid (Below w.heap.size w w4) := H3.out.trans (hb.mono H3.out.size)
  clear hb H3
  go_wp2_with fail
  refine Calls.mono (rrow1 _ _ _) ?_
  rintro e w5 ⟨rfl, hb⟩
  have H5 : Hid (Below w.heap.size w w5) := H4.out.trans (hb.mono H4.out.size)
  clear hb H4
  go_wp2_with fail
  refine Calls.mono (rrow1 _ _ _) ?_
  rintro e w6 ⟨rfl, hb⟩
  have H6 : Hid (Below w.heap.size w w6) := H5.out.trans (hb.mono H5.out.size)
  clear hb H5
  go_wp2_with fail
  refine Calls.mono (rrow0 _ _) ?_
  rintro e w7 ⟨rfl, hb⟩
  have H7 : Hid (Below w.heap.size w w7) := H6.out.trans (hb.mono H6.out.size)
  clear hb H6
  go_wp2_with fail
  refine Calls.mono (rrow0 _ _) ?_
  rintro e w8 ⟨rfl, hb⟩
  have H8 : Hid (Below w.heap.size w w8) := H7.out.trans (hb.mono H7.out.size)
  clear hb H7
  go_wp2_with fail
  refine Calls.mono (rrow1 _ _ _) ?_
  rintro e w9 ⟨rfl, hb⟩
  have H9 : Hid (Below w.heap.size w w9) := H8.out.trans (hb.mono H8.out.size)
  clear hb H8
  go_wp2_with fail
  refine Calls.mono (rrow1 _ _ _) ?_
  rintro e w10 ⟨rfl, hb⟩
  have H10 : Hid (Below w.heap.size w w10) := H9.out.trans (hb.mono H9.out.size)
  clear hb H9
  go_wp2_with fail
  refine Calls.mono (rrow3 _ _ _ _ _) ?_
  rintro e w11 ⟨rfl, hb⟩
  have H11 : Hid (Below w.heap.size w w11) := H10.out.trans (hb.mono H10.out.size)
  clear hb H10
  go_wp2_with fail
  refine Calls.mono (rrow0 _ _) ?_
  rintro e w12 ⟨rfl, hb⟩
  have H12 : Hid (Below w.heap.size w w12) := H11.out.trans (hb.mono H11.out.size)
  clear hb H11
  go_wp2_with fail
  refine Calls.mono (rrow0 _ _) ?_
  rintro e w13 ⟨rfl, hb⟩
  have H13 : Hid (Below w.heap.size w w13) := H12.out.trans (hb.mono H12.out.size)
  clear hb H12
  go_wp2_with fail
  refine Calls.mono (rrow0 _ _) ?_
  rintro e w14 ⟨rfl, hb⟩
  have H14 : Hid (Below w.heap.size w w14) := H13.out.trans (hb.mono H13.out.size)
  clear hb H13
  go_wp2_with fail
  refine Calls.mono (rrow0 _ _) ?_
  rintro e w15 ⟨rfl, hb⟩
  have H15 : Hid (Below w.heap.size w w15) := H14.out.trans (hb.mono H14.out.size)
  clear hb H14
  go_wp2_with fail
  refine Calls.mono (rrow0 _ _) ?_
  rintro e w16 ⟨rfl, hb⟩
  have H16 : Hid (Below w.heap.size w w16) := H15.out.trans (hb.mono H15.out.size)
  clear hb H15
  go_wp2_with fail
  refine Calls.mono (rrow0 _ _) ?_
  rintro e w17 ⟨rfl, hb⟩
  have H17 : Hid (Below w.heap.size w w17) := H16.out.trans (hb.mono H16.out.size)
  clear hb H16
  go_wp2_with fail
  refine Calls.mono (rrow0 _ _) ?_
  rintro e w18 ⟨rfl, hb⟩
  have H18 : Hid (Below w.heap.size w w18) := H17.out.trans (hb.mono H17.out.size)
  clear hb H17
  go_wp2_with fail
  refine Calls.mono (rrow0 _ _) ?_
  rintro e w19 ⟨rfl, hb⟩
  have H19 : Hid (Below w.heap.size w w19) := H18.out.trans (hb.mono H18.out.size)
  clear hb H18
  go_wp2_with fail
  refine Calls.mono (rrow0 _ _) ?_
  rintro e w20 ⟨rfl, hb⟩
  have H20 : Hid (Below w.heap.size w w20) := H19.out.trans (hb.mono H19.out.size)
  clear hb H19
  go_wp2_with fail
  refine Calls.mono (rrow0 _ _) ?_
  rintro e w21 ⟨rfl, hb⟩
  have H21 : Hid (Below w.heap.size w w21) := H20.out.trans (hb.mono H20.out.size)
  clear hb H20
  go_wp2_with fail
  refine Calls.mono (rrow0 _ _) ?_
  rintro e w22 ⟨rfl, hb⟩
  have H22 : Hid (Below w.heap.size w w22) := H21.out.trans (hb.mono H21.out.size)
  clear hb H21
  go_wp2_with fail
  refine Calls.mono (rrow1 _ _ _) ?_
  rintro e w23 ⟨rfl, hb⟩
  have H23 : Hid (Below w.heap.size w w23) := H22.out.trans (hb.mono H22.out.size)
  clear hb H22
  go_wp2_with fail
  refine Calls.mono (rrow1 _ _ _) ?_
  rintro e w24 ⟨rfl, hb⟩
  have H24 : Hid (Below w.heap.size w w24) := H23.out.trans (hb.mono H23.out.size)
  clear hb H23
  go_wp2_with fail
  refine Calls.mono (rrow1 _ _ _) ?_
  rintro e w25 ⟨rfl, hb⟩
  have H25 : Hid (Below w.heap.size w w25) := H24.out.trans (hb.mono H24.out.size)
  clear hb H24
  go_wp2_with fail
  refine Calls.mono (rrow1 _ _ _) ?_
  rintro e w26 ⟨rfl, hb⟩
  have H26 : Hid (Below w.heap.size w w26) := H25.out.trans (hb.mono H25.out.size)
  clear hb H25
  go_wp2_with fail
  refine Calls.mono (rrow1 _ _ _) ?_
  rintro e w27 ⟨rfl, hb⟩
  have H27 : Hid (Below w.heap.size w w27) := H26.out.trans (hb.mono H26.out.size)
  clear hb H26
  go_wp2_with fail
  refine Calls.mono (rrow1 _ _ _) ?_
  rintro e w28 ⟨rfl, hb⟩
  have H28 : Hid (Below w.heap.size w w28) := H27.out.trans (hb.mono H27.out.size)
  clear hb H27
  go_wp2_with fail
  refine Calls.mono (rrow1 _ _ _) ?_
  rintro e w29 ⟨rfl, hb⟩
  have H29 : Hid (Below w.heap.size w w29) := H28.out.trans (hb.mono H28.out.size)
  clear hb H28
  go_wp2_with fail
  refine Calls.mono (rrow1 _ _ _) ?_
  rintro e w30 ⟨rfl, hb⟩
  have H30 : Hid (Below w.heap.size w w30) := H29.out.trans (hb.mono H29.out.size)
  clear hb H29
  go_wp2_with fail
  refine Calls.mono (rrow3 _ _ _ _ _) ?_
  rintro e w31 ⟨rfl, hb⟩
  have H31 : Hid (Below w.heap.size w w31) := H30.out.trans (hb.mono H30.out.size)
  clear hb H30
  go_wp2_with fail
  refine Calls.mono (rrow2 _ _ _ _) ?_
  rintro e w32 ⟨rfl, hb⟩
  have H32 : Hid (Below w.heap.size w w32) := H31.out.trans (hb.mono H31.out.size)
  clear hb H31
  go_wp2_with fail
  refine Calls.mono (rrow2 _ _ _ _) ?_
  rintro e w33 ⟨rfl, hb⟩
  have H33 : Hid (Below w.heap.size w w33) := H32.out.trans (hb.mono H32.out.size)
  clear hb H32
  go_wp2_with fail
  refine Calls.mono (rrow0 _ _) ?_
  rintro e w34 ⟨rfl, hb⟩
  have H34 : Hid (Below w.heap.size w w34) := H33.out.trans (hb.mono H33.out.size)
  clear hb H33
  go_wp2_with fail
  refine Calls.mono (rrow2 _ _ _ _) ?_
  rintro e w35 ⟨rfl, hb⟩
  have H35 : Hid (Below w.heap.size w w35) := H34.out.trans (hb.mono H34.out.size)
  clear hb H34
  go_wp2_with fail
  refine Calls.mono (rrow2 _ _ _ _) ?_
  rintro e w36 ⟨rfl, hb⟩
  have H36 : Hid (Below w.heap.size w w36) := H35.out.trans (hb.mono H35.out.size)
  clear hb H35
  go_wp2_with fail
  refine Calls.mono (rrow0 _ _) ?_
  rintro e w37 ⟨rfl, hb⟩
  have H37 : Hid (Below w.heap.size w w37) := H36.out.trans (hb.mono H36.out.size)
  clear hb H36
  go_wp2_with fail
  refine Calls.mono (rrow0 _ _) ?_
  rintro e w38 ⟨rfl, hb⟩
  have H38 : Hid (Below w.heap.size w w38) := H37.out.trans (hb.mono H37.out.size)
  clear hb H37
  go_wp2_with fail
  refine Calls.mono (rrow4 _ _ _ _ _ _) ?_
  rintro e w39 ⟨rfl, hb⟩
  have H39 : Hid (Below w.heap.size w w39) := H38.out.trans (hb.mono H38.out.size)
  clear hb H38
  go_wp2_with fail
  refine Calls.mono (rrow4 _ _ _ _ _ _) ?_
  rintro e w40 ⟨rfl, hb⟩
  have H40 : Hid (Below w.heap.size w w40) := H39.out.trans (hb.mono H39.out.size)
  clear hb H39
  go_wp2_with fail
  refine Calls.mono (rrow2 _ _ _ _) ?_
  rintro e w41 ⟨rfl, hb⟩
  have H41 : Hid (Below w.heap.size w w41) := H40.out.trans (hb.mono H40.out.size)
  clear hb H40
  go_wp2_with fail
  refine Calls.mono (rrow2 _ _ _ _) ?_
  rintro e w42 ⟨rfl, hb⟩
  have H42 : Hid (Below w.heap.size w w42) := H41.out.trans (hb.mono H41.out.size)
  clear hb H41
  obtain ⟨j0, hj, hj0, hj1, hj2⟩ := info_partsR infoCrR
  go_wp2_with fail
  refine wp_buildSlice 79 84 42 _ rfl #[.string ⟨#[101, 110, 100]⟩, .int .i64 0, .int .i64 0, .int .i64 0, .int .i64 0, .string ⟨#[110, 117, 109]⟩, .int .i64 5, .int .i64 0, .int .i64 0, .int .i64 0, .string ⟨#[98, 111, 111, 108]⟩, .int .i64 6, .int .i64 0, .int .i64 0, .int .i64 0, .string ⟨#[118, 97, 114]⟩, .int .i64 2, .int .i64 0, .int .i64 0, .int .i64 0, .string ⟨#[108, 101, 110]⟩, .int .i64 1, .int .i64 0, .int .i64 0, .int .i64 0, .string ⟨#[99, 97, 112]⟩, .int .i64 1, .int .i64 0, .int .i64 0, .int .i64 0, .string ⟨#[115, 105, 122, 101]⟩, .int .i64 0, .int .i64 0, .int .i64 0, .int .i64 0, .string ⟨#[116, 111, 116, 97, 108]⟩, .int .i64 0, .int .i64 0, .int .i64 0, .int .i64 0, .string ⟨#[97, 116]⟩, .int .i64 1, .int .i64 0, .int .i64 0, .int .i64 0, .string ⟨#[116, 97, 103, 120]⟩, .int .i64 3, .int .i64 0, .int .i64 0, .int .i64 0, .string ⟨#[116, 97, 103, 101, 110, 100]⟩, .int .i64 1, .int .i64 4, .int .i64 3, .int .i64 0, .string ⟨#[109, 105, 110]⟩, .int .i64 0, .int .i64 0, .int .i64 0, .int .i64 0, .string ⟨#[109, 97, 120]⟩, .int .i64 0, .int .i64 0, .int .i64 0, .int .i64 0, .string ⟨#[110, 101, 103]⟩, .int .i64 0, .int .i64 0, .int .i64 0, .int .i64 0, .string ⟨#[110, 111, 116]⟩, .int .i64 0, .int .i64 0, .int .i64 0, .int .i64 0, .string ⟨#[109, 117, 108]⟩, .int .i64 0, .int .i64 0, .int .i64 0, .int .i64 0, .string ⟨#[100, 105, 118]⟩, .int .i64 0, .int .i64 0, .int .i64 0, .int .i64 0, .string ⟨#[97, 100, 100]⟩, .int .i64 0, .int .i64 0, .int .i64 0, .int .i64 0, .string ⟨#[115, 117, 98]⟩, .int .i64 0, .int .i64 0, .int .i64 0, .int .i64 0, .string ⟨#[101, 113]⟩, .int .i64 0, .int .i64 0, .int .i64 0, .int .i64 0, .string ⟨#[108, 116]⟩, .int .i64 0, .int .i64 0, .int .i64 0, .int .i64 0, .string ⟨#[108, 101]⟩, .int .i64 0, .int .i64 0, .int .i64 0, .int .i64 0, .string ⟨#[106, 117, 109, 112]⟩, .int .i64 8, .int .i64 0, .int .i64 0, .int .i64 0, .string ⟨#[101, 108, 115, 101]⟩, .int .i64 8, .int .i64 0, .int .i64 0, .int .i64 0, .string ⟨#[108, 111, 111, 112]⟩, .int .i64 7, .int .i64 0, .int .i64 0, .int .i64 0, .string ⟨#[116, 117, 114, 110]⟩, .int .i64 8, .int .i64 0, .int .i64 0, .int .i64 0, .string ⟨#[113, 117, 105, 116]⟩, .int .i64 8, .int .i64 0, .int .i64 0, .int .i64 0, .string ⟨#[97, 103, 97, 105, 110]⟩, .int .i64 8, .int .i64 0, .int .i64 0, .int .i64 0, .string ⟨#[115, 101, 116]⟩, .int .i64 2, .int .i64 0, .int .i64 0, .int .i64 0, .string ⟨#[109, 97, 114, 107, 120]⟩, .int .i64 3, .int .i64 0, .int .i64 0, .int .i64 0, .string ⟨#[109, 97, 114, 107, 101, 110, 100]⟩, .int .i64 1, .int .i64 4, .int .i64 3, .int .i64 0, .string ⟨#[105, 110, 115, 101, 114, 116]⟩, .int .i64 1, .int .i64 4, .int .i64 0, .int .i64 0, .string ⟨#[109, 111, 118, 101]⟩, .int .i64 1, .int .i64 4, .int .i64 0, .int .i64 0, .string ⟨#[102, 111, 114, 103, 101, 116]⟩, .int .i64 0, .int .i64 0, .int .i64 0, .int .i64 0, .string ⟨#[116, 97, 107, 101]⟩, .int .i64 1, .int .i64 4, .int .i64 0, .int .i64 0, .string ⟨#[103, 105, 118, 101]⟩, .int .i64 1, .int .i64 4, .int .i64 0, .int .i64 0, .string ⟨#[116, 101, 108, 108]⟩, .int .i64 0, .int .i64 0, .int .i64 0, .int .i64 0, .string ⟨#[108, 111, 111, 115, 101]⟩, .int .i64 0, .int .i64 0, .int .i64 0, .int .i64 0, .string ⟨#[115, 104, 105, 102, 116]⟩, .int .i64 1, .int .i64 4, .int .i64 1, .int .i64 4, .string ⟨#[115, 112, 105, 108, 108]⟩, .int .i64 1, .int .i64 4, .int .i64 1, .int .i64 4, .string ⟨#[101, 118, 105, 99, 116]⟩, .int .i64 1, .int .i64 4, .int .i64 0, .int .i64 0, .string ⟨#[100, 114, 111, 112]⟩, .int .i64 1, .int .i64 4, .int .i64 0, .int .i64 0] j0 (.agg #[.string ⟨#[]⟩, .int .i64 0, .int .i64 0, .int .i64 0, .int .i64 0]) Tryd.underlying79 hj hj0 (by rw [hj1]; decide) (by rw [hj1]; decide) (by rw [hj1]; kernel_rfl) ?_
  go_wp2
  go_ret
  exact ⟨_, rfl, H42.out.size, heap_alloc_new _ _, H42.out.alloc H42.out.size _⟩
end Go.Proofs.YtcicifcnffacpaaDoor.Vf

namespace Go.Proofs.YtcicifcnffacpaaDoor.Vf
open Go.RowKit Go.Proofs.YtcicifcnffacpaaDoor.Nm
/-- which kind an instruction's k-th operand has; the operand -/
def kdN (op : Nat) (k : Nat) : Int := ([(kd4 op).1, (kd4 op).2.1, (kd4 op).2.2.1, (kd4 op).2.2.2] : List Int).getD k 0
def opN (x : Ins) (k : Nat) : Int := ([x.a, x.b, x.c, x.d] : List Int).getD k 0
theorem kdN_lt (op : Nat) (h : op < 42) (k : Nat) (hk : k < 4) : ∃ q : Nat, q < 9 ∧ kdN op k = (q : Int) := by
  have : ∀ o, o < 42 → ∀ j, j < 4 → (kdN o j).toNat < 9 ∧ 0 ≤ kdN o j := by decide
  obtain ⟨h1, h2⟩ := this op h k hk
  exact ⟨(kdN op k).toNat, h1, by omega⟩
theorem tabC_kd {op k : Nat} (h : op < 42) (hk : k < 4) : tabC[op * 5 + 1 + k]? = some (.int .i64 (kdN op k)) := by
  rw [show op * 5 + 1 + k = op * 5 + (1 + k) by omega, tabC_at h (by omega)]
  match k, hk with
  | 0, _ => rfl
  | 1, _ => rfl
  | 2, _ => rfl
  | 3, _ => rfl
theorem insF_of {p : Pg} {x : Ins} (h0 : 0 ≤ x.op) (h1 : x.op < 42) (h : ∀ k, k < 4 → inK p (kdN x.op.toNat k) (opN x k) = true) : insF p x = 0 := by
  unfold insF
  rw [decide_eq_true h0, decide_eq_true h1]
  have a0 := h 0 (by omega)
  have a1 := h 1 (by omega)
  have a2 := h 2 (by omega)
  have a3 := h 3 (by omega)
  show (if _ then (if inK p (kdN x.op.toNat 0) (opN x 0) && (inK p (kdN x.op.toNat 1) (opN x 1) && (inK p (kdN x.op.toNat 2) (opN x 2) && inK p (kdN x.op.toNat 3) (opN x 3))) then 0 else 92) else 91) = 0
  rw [a0, a1, a2, a3]
  rfl
theorem insF_not {p : Pg} {x : Ins} (h0 : 0 ≤ x.op) (h1 : x.op < 42) {k : Nat} (hk : k < 4) (h : inK p (kdN x.op.toNat k) (opN x k) = false) : insF p x = 92 := by
  unfold insF
  rw [decide_eq_true h0, decide_eq_true h1]
  show (if _ then (if inK p (kdN x.op.toNat 0) (opN x 0) && (inK p (kdN x.op.toNat 1) (opN x 1) && (inK p (kdN x.op.toNat 2) (opN x 2) && inK p (kdN x.op.toNat 3) (opN x 3))) then 0 else 92) else 91) = 92
  have hf : (inK p (kdN x.op.toNat 0) (opN x 0) && (inK p (kdN x.op.toNat 1) (opN x 1) && (inK p (kdN x.op.toNat 2) (opN x 2) && inK p (kdN x.op.toNat 3) (opN x 3)))) = false := by
    match k, hk with
    | 0, _ => rw [h]; rfl
    | 1, _ => rw [h]; simp
    | 2, _ => rw [h]; simp
    | 3, _ => rw [h]; simp
  rw [hf]
  rfl
theorem insF_op {p : Pg} {x : Ins} (h : x.op < 0 ∨ 42 ≤ x.op) : insF p x = 91 := by
  unfold insF
  have : (decide (0 ≤ x.op) && decide (x.op < 42)) = false := by
    rw [Bool.eq_false_iff]
    simp only [ne_eq, Bool.and_eq_true, decide_eq_true_eq]
    omega
  rw [this]
  rfl
/-- a box of the program -/
abbrev bxP (v : PV) (p : Pg) : Obj := .cells #[.slice v.qo p.gh.length v.qc, .slice v.vo p.vs.length v.vc, .slice v.to p.ts.length v.tc, .slice v.oo p.on.length v.oc, .int .i64 p.miss, .slice v.co p.cd.length v.cc] 27 (0, 0)
theorem chk_85 {p : Pg} (h : (tabF p && plcF p) = false) : chk p = 85 := by unfold chk; rw [h]; rfl
theorem chk_go {p : Pg} (h : (tabF p && plcF p) = true) : chk p = firstE (insF p) p.cd := by unfold chk; rw [h]; rfl
set_option maxHeartbeats 12800000 in
set_option maxRecDepth 100000 in
/-- the reference's Check -/
theorem rchk_any (v : PV) (p : Pg) (w : World) (hP : IsPg w v p) : Calls Tryd.prog 16 #[.agg (pvC v p)] w fun e w' => e = .returned (.int .i64 (chk p : Int)) ∧ Below w.heap.size w w' := by
  have n1 : (p.gh.length : Int) ≤ 1000000000000000 := by have := hP.lgh; omega
  have n2 : (p.vs.length : Int) ≤ 1000000000000000 := by have := hP.lvs; omega
  have n3 : (p.ts.length : Int) ≤ 1000000000000000 := by have := hP.lts; omega
  have n4 : (p.on.length : Int) ≤ 1000000000000000 := by have := hP.lon; omega
  have n5 : (p.cd.length : Int) ≤ 1000000000000000 := by have := hP.lcd; omega
  have HV : Hid (∀ W, Below w.heap.size w W → Calls Tryd.prog 40 #[.slice v.vo p.vs.length v.vc] W fun e w' => e = .returned (.bool (p.vs.all varF)) ∧ Below W.heap.size W w') := fun W hb => rvars_any _ _ _ W (hP.below hb).vs (by omega)
  have HT : Hid (∀ W, Below w.heap.size w W → Calls Tryd.prog 41 #[.slice v.to p.ts.length v.tc] W fun e w' => e = .returned (.bool (p.ts.all tagF)) ∧ w' = W) := fun W hb => rtags_any _ _ _ W (hP.below hb).ts (by omega)
  have HF : Hid (∀ (k : Nat) (n : Int) W, k < 9 → Calls Tryd.prog 42 #[.agg (pvC v p), .int .i64 (k : Int), .int .i64 n] W fun e w' => e = .returned (.bool (inK p (k : Int) n)) ∧ Below W.heap.size W w') := fun k n W hk => rfitsK v p k hk n W (by omega) (by omega) (by omega) (by omega)
  have HP : Hid (IsPg w v p) := hP
  have hb0 : Below w.heap.size w (w.alloc (.cells (pvC v p) 27)) := (Below.refl _ w).alloc (Nat.le_refl _) _
  have hx0 : (w.alloc (.cells (pvC v p) 27)).heap[w.heap.size]? = some (.cells (pvC v p) 27 (0, 0)) := heap_alloc_new _ _
  obtain ⟨qo, qc, vo, vc, tto, tc, oo, oc, co, cc⟩ := v
  show Calls _ _ #[.agg #[.slice qo p.gh.length qc, .slice vo p.vs.length vc, .slice tto p.ts.length tc, .slice oo p.on.length oc, .int .i64 p.miss, .slice co p.cd.length cc]] _ _
  have HB : Hid (Below w.heap.size w (w.alloc (.cells #[.slice qo p.gh.length qc, .slice vo p.vs.length vc, .slice tto p.ts.length tc, .slice oo p.on.length oc, .int .i64 p.miss, .slice co p.cd.length cc] 27)) ∧ (w.alloc (.cells #[.slice qo p.gh.length qc, .slice vo p.vs.length vc, .slice tto p.ts.length tc, .slice oo p.on.length oc, .int .i64 p.miss, .slice co p.cd.length cc] 27)).heap[w.heap.size]? = some (.cells #[.slice qo p.gh.length qc, .slice vo p.vs.length vc, .slice tto p.ts.length tc, .slice oo p.on.length oc, .int .i64 p.miss, .slice co p.cd.length cc] 27 (0, 0))) := ⟨hb0, hx0⟩
  clear hb0 hx0 hP
  by_cases h1 : 16 < (p.gh.length : Int)
  · have hr : chk p = 85 := chk_85 (by unfold tabF; rw [decide_eq_false (by omega), Bool.false_and, Bool.false_and])
    rw [hr]
    go_enter Tryd.func16, Tryd.ntmps16
    go_wp2_with fail
    go_ret
    exact ⟨rfl, HB.out.1⟩
  by_cases h2 : 16 < (p.vs.length : Int)
  · have hr : chk p = 85 := chk_85 (by unfold tabF; rw [decide_eq_false (p := p.vs.length ≤ 16) (by omega), Bool.false_and, Bool.and_false, Bool.false_and])
    rw [hr]
    go_enter Tryd.func16, Tryd.ntmps16
    go_wp2_with fail
    go_ret
    exact ⟨rfl, HB.out.1⟩
  by_cases h3 : 4 < (p.ts.length : Int)
  · have hr : chk p = 85 := chk_85 (by unfold tabF; rw [decide_eq_false (p := p.ts.length ≤ 4) (by omega), Bool.false_and, Bool.and_false, Bool.and_false, Bool.false_and])
    rw [hr]
    go_enter Tryd.func16, Tryd.ntmps16
    go_wp2_with fail
    go_ret
    exact ⟨rfl, HB.out.1⟩
  have HTf : Hid (tabF p = (p.vs.all varF && p.ts.all tagF)) := by
    unfold tabF
    rw [decide_eq_true (p := p.gh.length ≤ 16) (by omega), decide_eq_true (p := p.vs.length ≤ 16) (by omega), decide_eq_true (p := p.ts.length ≤ 4) (by omega)]
    rfl
  go_enter Tryd.func16, Tryd.ntmps16
  go_wp2_with fail
  generalize w.alloc (.cells #[.slice qo p.gh.length qc, .slice vo p.vs.length vc, .slice tto p.ts.length tc, .slice oo p.on.length oc, .int .i64 p.miss, .slice co p.cd.length cc] 27) = W0 at *
  refine (HV.out _ HB.out.1).mono ?_
  rintro e w1 ⟨rfl, hb1⟩
  have HB1 : Hid (Below w.heap.size w w1 ∧ w1.heap[w.heap.size]? = some (.cells #[.slice qo p.gh.length qc, .slice vo p.vs.length vc, .slice tto p.ts.length tc, .slice oo p.on.length oc, .int .i64 p.miss, .slice co p.cd.length cc] 27 (0, 0))) := ⟨HB.out.1.trans (hb1.mono HB.out.1.size), (hb1.block _ (blk_lt HB.out.2)).trans HB.out.2⟩
  obtain ⟨i0, i1, i2, i3, i4, i5⟩ := cells6 HB1.out.2
  clear hb1 HB HV
  cases hv : p.vs.all varF
  · have HR : Hid (chk p = 85) := chk_85 (by rw [HTf.out, hv]; rfl)
    clear hv
    go_wp2_with fail
    go_ret
    exact ⟨by rw [HR.out]; rfl, HB1.out.1⟩
  have HTg : Hid (tabF p = p.ts.all tagF) := by rw [HTf.out, hv]; rfl
  clear hv HTf
  go_wp2_with fail
  refine (HT.out _ HB1.out.1).mono ?_
  rintro e w2 ⟨rfl, rfl⟩
  cases ht : p.ts.all tagF
  · have HR : Hid (chk p = 85) := chk_85 (by rw [HTg.out, ht]; rfl)
    clear ht
    go_wp2_with fail
    go_ret
    exact ⟨by rw [HR.out]; rfl, HB1.out.1⟩
  have HTt : Hid (tabF p = true) := HTg.out.trans ht
  clear ht HTg HT
  by_cases h4 : (p.on.length : Int) = (p.gh.length : Int)
  rotate_left
  · have HR : Hid (chk p = 85) := chk_85 (by unfold plcF; rw [decide_eq_false (p := p.on.length = p.gh.length) (by omega)]; simp)
    go_wp2_with fail
    go_ret
    exact ⟨by rw [HR.out]; rfl, HB1.out.1⟩
  by_cases h5 : 262144 < (p.cd.length : Int)
  · have HR : Hid (chk p = 85) := chk_85 (by unfold plcF; rw [decide_eq_false (p := p.cd.length ≤ 262144) (by omega)]; simp)
    go_wp2_with fail
    go_ret
    exact ⟨by rw [HR.out]; rfl, HB1.out.1⟩
  by_cases h6 : p.miss < -1
  · have HR : Hid (chk p = 85) := chk_85 (by unfold plcF plcI; rw [decide_eq_false (p := -1 ≤ p.miss) (by omega)]; simp)
    go_wp2_with fail
    go_ret
    exact ⟨by rw [HR.out]; rfl, HB1.out.1⟩
  by_cases h7 : (p.cd.length : Int) ≤ p.miss
  · have HR : Hid (chk p = 85) := chk_85 (by unfold plcF plcI; rw [decide_eq_false (p := p.miss < (p.cd.length : Int)) (by omega)]; simp)
    go_wp2_with fail
    go_ret
    exact ⟨by rw [HR.out]; rfl, HB1.out.1⟩
  have HPf : Hid (plcF p = p.on.all (plcI p)) := by
    show plcF p = _
    unfold plcF
    rw [decide_eq_true (p := p.on.length = p.gh.length) (by omega), decide_eq_true (p := p.cd.length ≤ 262144) (by omega), show plcI p p.miss = true by unfold plcI; rw [decide_eq_true (p := -1 ≤ p.miss) (by omega), decide_eq_true (p := p.miss < (p.cd.length : Int)) (by omega)]; rfl]
    simp
  clear h1 h2 h3
  go_wp2_with fail
  go_loopg [3] p.on.length (fun gq x wr => ∃ j : Nat, j ≤ p.on.length ∧ gq = p.on.length - j ∧ x = .int .i64 (j : Int) ∧ (p.on.take j).all (plcI p) = true ∧ Below w.heap.size w wr ∧ wr.heap[w.heap.size]? = some (.cells #[.slice qo p.gh.length qc, .slice vo p.vs.length vc, .slice tto p.ts.length tc, .slice oo p.on.length oc, .int .i64 p.miss, .slice co p.cd.length cc] 27 (0, 0)))
  case atStart => exact ⟨0, Nat.zero_le _, rfl, rfl, rfl, HB1.out.1, HB1.out.2⟩
  case round =>
    obtain ⟨j, hj, hgk, rfl, ha, hb, hx⟩ := hrel
    have HG : Hid (gk = p.on.length - j ∧ (p.on.take j).all (plcI p) = true ∧ Below w.heap.size w wr ∧ wr.heap[w.heap.size]? = some (.cells #[.slice qo p.gh.length qc, .slice vo p.vs.length vc, .slice tto p.ts.length tc, .slice oo p.on.length oc, .int .i64 p.miss, .slice co p.cd.length cc] 27 (0, 0))) := ⟨hgk, ha, hb, hx⟩
    have HD : Hid (∀ n, Below w.heap.size w (wr.drewN n) ∧ (wr.drewN n).heap[w.heap.size]? = some (.cells #[.slice qo p.gh.length qc, .slice vo p.vs.length vc, .slice tto p.ts.length tc, .slice oo p.on.length oc, .int .i64 p.miss, .slice co p.cd.length cc] 27 (0, 0))) := fun n => ⟨hb.trans ((drN _ n).mono hb.size), ((drN _ n).block _ (blk_lt hx)).trans hx⟩
    clear i0 i1 i2 i3 i4 i5
    obtain ⟨i0, i1, i2, i3, i4, i5⟩ := cells6 hx
    clear hgk ha hb hx HB1
    by_cases hlt : j < p.on.length
    · have hlt' : (j : Int) < (p.on.length : Int) := by omega
      obtain ⟨g, f, hvo, hg, d0⟩ := rd_int (HP.out.on.below HG.out.2.2.1) hlt
      obtain rfl : oo = some ⟨g, f, none⟩ := hvo
      have HLt : Hid (j < p.on.length) := hlt
      by_cases hv : plcI p p.on[j] = true
      · have HA : Hid ((p.on.take (j + 1)).all (plcI p) = true) := all_take hlt HG.out.2.1 hv
        unfold plcI at hv
        simp only [Bool.and_eq_true, decide_eq_true_eq] at hv
        obtain ⟨v1, v2⟩ := hv
        generalize p.on[j] = y0 at *
        have k1 : decide (y0 < -1) = false := decide_eq_false (by omega)
        have k2 : decide ((p.cd.length : Int) ≤ y0) = false := decide_eq_false (by omega)
        clear hlt hg v1 v2
        go_wp2_with fail
        go_quiet (fail)
        go_wp2_with fail
        go_roundg (p.on.length - (j + 1))
        case measure => have h1 := HG.out.1; have := HLt.out; omega
        case rel => exact ⟨j + 1, HLt.out, rfl, by go_num, HA.out, (HD.out _).1, (HD.out _).2⟩
      · have hr : p.on.all (plcI p) = false := all_not hlt (Bool.eq_false_iff.2 hv)
        have HR : Hid (chk p = 85) := chk_85 (by rw [HPf.out, hr]; simp)
        unfold plcI at hv
        simp only [Bool.and_eq_true, decide_eq_true_eq] at hv
        generalize p.on[j] = y0 at *
        have hw : (decide (y0 < -1) = true) ∨ (decide (y0 < -1) = false ∧ decide ((p.cd.length : Int) ≤ y0) = true) := by
          simp only [decide_eq_true_eq, decide_eq_false_iff_not]
          omega
        clear hlt hg hv hr
        rcases hw with k1 | ⟨k1, k2⟩
        all_goals
          go_wp2_with fail
          go_quiet (fail)
          go_wp2_with fail
          go_ret
          exact ⟨by rw [HR.out]; rfl, (HD.out _).1⟩
    · have hlt' : ¬ (j : Int) < (p.on.length : Int) := by omega
      obtain rfl : j = p.on.length := by omega
      have HC : Hid (chk p = firstE (insF p) p.cd) := chk_go (by
        have h9 : p.on.all (plcI p) = true := by have := HG.out.2.1; rwa [List.take_length] at this
        rw [HTt.out, HPf.out, h9]
        rfl)
      have HB2 : Hid (Below w.heap.size w wr ∧ wr.heap[w.heap.size]? = some (.cells #[.slice qo p.gh.length qc, .slice vo p.vs.length vc, .slice tto p.ts.length tc, .slice oo p.on.length oc, .int .i64 p.miss, .slice co p.cd.length cc] 27 (0, 0))) := HG.out.2.2
      clear hlt hj HG HPf HTt HD h4 h5 h6 h7
      obtain ⟨w2, rfl⟩ : ∃ w2, w2 = wr := ⟨_, rfl⟩
      go_wp2_with fail
      refine (rtab_any _).mono ?_
      rintro e w5 ⟨tg, rfl, ht0, ht1, htb⟩
      have HB5 : Hid (Below w.heap.size w w5 ∧ w5.heap[w.heap.size]? = some (.cells #[.slice qo p.gh.length qc, .slice vo p.vs.length vc, .slice tto p.ts.length tc, .slice oo p.on.length oc, .int .i64 p.miss, .slice co p.cd.length cc] 27 (0, 0)) ∧ w5.heap[tg]? = some (.cells tabC.toArray 84 (0, 0))) := ⟨HB2.out.1.trans (htb.mono HB2.out.1.size), (htb.block _ (blk_lt HB2.out.2)).trans HB2.out.2, ht1⟩
      clear i0 i1 i2 i3 i4 i5 ht0 ht1 htb HB2
      obtain ⟨i0, i1, i2, i3, i4, i5⟩ := cells6 HB5.out.2.1
      go_wp2_with fail
      go_loopg [5] p.cd.length (fun gq x wr => ∃ j : Nat, j ≤ p.cd.length ∧ gq = p.cd.length - j ∧ x = .int .i64 (j : Int) ∧ (∀ x ∈ p.cd.take j, insF p x = 0) ∧ Below w5.heap.size w5 wr)
      case atStart => exact ⟨0, Nat.zero_le _, rfl, rfl, by simp, Below.refl _ _⟩
      case round =>
        obtain ⟨j, hj, hgk, rfl, ha, hb⟩ := hrel
        have HG : Hid (gk = p.cd.length - j ∧ (∀ x ∈ p.cd.take j, insF p x = 0) ∧ Below w5.heap.size w5 wr) := ⟨hgk, ha, hb⟩
        clear i0 i1 i2 i3 i4 i5
        obtain ⟨i0, i1, i2, i3, i4, i5⟩ := cells6 ((hb.block _ (blk_lt HB5.out.2.1)).trans HB5.out.2.1)
        clear hgk ha hb
        by_cases hlt : j < p.cd.length
        · have hlt' : (j : Int) < (p.cd.length : Int) := by omega
          have hbw : Below w.heap.size w wr := HB5.out.1.trans (HG.out.2.2.mono HB5.out.1.size)
          obtain ⟨g, f, hvo, hg, d0, d1, d2, d3, d4⟩ := rd_ins (HP.out.cd.below hbw) hlt
          obtain rfl : co = some ⟨g, f, none⟩ := hvo
          have HE : Hid (∀ x : Ins, insF p p.cd[j] ≠ 0 → chk p = insF p p.cd[j]) := fun _ hx => HC.out.trans (firstE_take hlt HG.out.2.1 hlt hx)
          have HA : Hid (insF p p.cd[j] = 0 → ∀ x ∈ p.cd.take (j + 1), insF p x = 0) := fun hx y hy => by
            rw [List.take_succ_eq_append_getElem hlt, List.mem_append, List.mem_singleton] at hy
            rcases hy with hy | rfl
            · exact HG.out.2.1 y hy
            · exact hx
          have HLt : Hid (j < p.cd.length) := hlt
          have hg1 : ¬ g = wr.heap.size := by omega
          have hw1 : ¬ w.heap.size = wr.heap.size := by have := blk_lt HB5.out.2.1; have := HG.out.2.2.size; omega
          generalize p.cd[j] = x at *
          obtain ⟨xo, xa, xb, xc, xd⟩ := x
          dsimp only at d0 d1 d2 d3 d4
          clear hbw hlt hg
          by_cases ho : xo < 0 ∨ 42 ≤ xo
          · have HR : Hid (chk p = 91) := (HE.out Ins.zero (by rw [insF_op ho]; decide)).trans (insF_op ho)
            have HN : Hid (Below w.heap.size w (wr.alloc (.cells #[.int .i64 xo, .int .i64 xa, .int .i64 xb, .int .i64 xc, .int .i64 xd] 53))) := HB5.out.1.trans ((HG.out.2.2.alloc HG.out.2.2.size _).mono HB5.out.1.size)
            rcases ho with ho | ho
            · go_wp2_with fail
              go_ret
              exact ⟨by rw [HR.out]; rfl, HN.out⟩
            · have ho0 : ¬ xo < 0 := by omega
              go_wp2_with fail
              go_ret
              exact ⟨by rw [HR.out]; rfl, HN.out⟩
          have ho0 : ¬ xo < 0 := by omega
          have ho1 : ¬ 42 ≤ xo := by omega
          obtain ⟨op, rfl⟩ : ∃ op : Nat, xo = (op : Int) := ⟨xo.toNat, by omega⟩
          have hop : op < 42 := by omega
          have hop' : (op : Int) < 42 := by omega
          have HI : Hid (∀ k, k < 4 → inK p (kdN op k) (opN ⟨(op : Int), xa, xb, xc, xd⟩ k) = false → chk p = 92) := fun k hk h9 => by
            have e9 := insF_not (x := ⟨(op : Int), xa, xb, xc, xd⟩) (by simp) hop' hk h9
            rw [HE.out Ins.zero (by rw [e9]; decide), e9]
          have HI2 : Hid ((∀ k, k < 4 → inK p (kdN op k) (opN ⟨(op : Int), xa, xb, xc, xd⟩ k) = true) → ∀ x ∈ p.cd.take (j + 1), insF p x = 0) := fun h9 => HA.out (insF_of (x := ⟨(op : Int), xa, xb, xc, xd⟩) (by simp) hop' h9)
          clear HE HA
          have hbA : Below w5.heap.size w5 (wr.alloc (.cells #[.int .i64 (op : Int), .int .i64 xa, .int .i64 xb, .int .i64 xc, .int .i64 xd] 53)) := HG.out.2.2.alloc HG.out.2.2.size _
          have HX : Hid (Below w5.heap.size w5 (wr.alloc (.cells #[.int .i64 (op : Int), .int .i64 xa, .int .i64 xb, .int .i64 xc, .int .i64 xd] 53)) ∧ (wr.alloc (.cells #[.int .i64 (op : Int), .int .i64 xa, .int .i64 xb, .int .i64 xc, .int .i64 xd] 53)).heap[wr.heap.size]? = some (.cells #[.int .i64 (op : Int), .int .i64 xa, .int .i64 xb, .int .i64 xc, .int .i64 xd] 53 (0, 0)) ∧ w5.heap.size ≤ wr.heap.size) := ⟨hbA, heap_alloc_new _ _, HG.out.2.2.size⟩
          clear hbA
          have ho2 : ¬ (op : Int) < 0 := by omega
          have ho3 : ¬ 42 ≤ (op : Int) := by omega
          go_wp2_with fail
          generalize wr.alloc (.cells #[.int .i64 (op : Int), .int .i64 xa, .int .i64 xb, .int .i64 xc, .int .i64 xd] 53) = w6 at *
          generalize wr.heap.size = ib at *
          refine (ropers_any ⟨(op : Int), xa, xb, xc, xd⟩ _).mono ?_
          rintro e w7 ⟨rfl, hb7⟩
          dsimp only
          have hbB : Below w5.heap.size w5 (w7.alloc (.cells #[.int .i64 xa, .int .i64 xb, .int .i64 xc, .int .i64 xd] 81)) := (HX.out.1.trans (hb7.mono HX.out.1.size)).alloc (Nat.le_trans HX.out.1.size hb7.size) _
          have hi7 : (w7.alloc (.cells #[.int .i64 xa, .int .i64 xb, .int .i64 xc, .int .i64 xd] 81)).heap[ib]? = some (.cells #[.int .i64 (op : Int), .int .i64 xa, .int .i64 xb, .int .i64 xc, .int .i64 xd] 53 (0, 0)) := (((Below.refl _ w7).alloc (Nat.le_refl _) _).block _ (Nat.lt_of_lt_of_le (blk_lt HX.out.2.1) hb7.size)).trans ((hb7.block _ (blk_lt HX.out.2.1)).trans HX.out.2.1)
          have HY : Hid (Below w5.heap.size w5 (w7.alloc (.cells #[.int .i64 xa, .int .i64 xb, .int .i64 xc, .int .i64 xd] 81)) ∧ (w7.alloc (.cells #[.int .i64 xa, .int .i64 xb, .int .i64 xc, .int .i64 xd] 81)).heap[ib]? = some (.cells #[.int .i64 (op : Int), .int .i64 xa, .int .i64 xb, .int .i64 xc, .int .i64 xd] 53 (0, 0)) ∧ (w7.alloc (.cells #[.int .i64 xa, .int .i64 xb, .int .i64 xc, .int .i64 xd] 81)).heap[w7.heap.size]? = some (.cells #[.int .i64 xa, .int .i64 xb, .int .i64 xc, .int .i64 xd] 81 (0, 0))) := ⟨hbB, hi7, heap_alloc_new _ _⟩
          clear hbB hi7 hb7 HX
          go_wp2_with fail
          generalize w7.alloc (.cells #[.int .i64 xa, .int .i64 xb, .int .i64 xc, .int .i64 xd] 81) = w8 at *
          generalize w7.heap.size = ab at *
          have HSS : Hid (∀ X k, Below w8.heap.size w8 X → k < 4 → (fun w' : World => w'.cell? ⟨w.heap.size, 0, none⟩ = some (.slice qo p.gh.length qc) ∧ w'.cell? ⟨w.heap.size, 1, none⟩ = some (.slice vo p.vs.length vc) ∧ w'.cell? ⟨w.heap.size, 2, none⟩ = some (.slice tto p.ts.length tc) ∧ w'.cell? ⟨w.heap.size, 3, none⟩ = some (.slice oo p.on.length oc) ∧ w'.cell? ⟨w.heap.size, 4, none⟩ = some (.int .i64 p.miss) ∧ w'.cell? ⟨w.heap.size, 5, none⟩ = some (.slice (some ⟨g, f, none⟩) p.cd.length cc) ∧ w'.cell? ⟨ib, 0, none⟩ = some (.int .i64 (op : Int)) ∧ w'.cell? ⟨tg, op * 5 + 1 + k, none⟩ = some (.int .i64 (kdN op k)) ∧ w'.cell? ⟨ab, k, none⟩ = some (.int .i64 (opN ⟨(op : Int), xa, xb, xc, xd⟩ k))) X) := fun X k hX hk => by
            have e5 : Below w5.heap.size w5 X := HY.out.1.trans (hX.mono HY.out.1.size)
            obtain ⟨s0, s1, s2, s3, s4, s5⟩ := cells6 ((e5.block _ (blk_lt HB5.out.2.1)).trans HB5.out.2.1)
            refine ⟨s0, s1, s2, s3, s4, s5, cell_of (cs := [.int .i64 (op : Int), .int .i64 xa, .int .i64 xb, .int .i64 xc, .int .i64 xd]) ((hX.block _ (blk_lt HY.out.2.1)).trans HY.out.2.1) rfl, cell_of ((e5.block _ (blk_lt HB5.out.2.2)).trans HB5.out.2.2) (tabC_kd hop hk), ?_⟩
            have e9 := (hX.block _ (blk_lt HY.out.2.2)).trans HY.out.2.2
            match k, hk with
            | 0, _ => exact cell_of (cs := [.int .i64 xa, .int .i64 xb, .int .i64 xc, .int .i64 xd]) e9 rfl
            | 1, _ => exact cell_of (cs := [.int .i64 xa, .int .i64 xb, .int .i64 xc, .int .i64 xd]) e9 rfl
            | 2, _ => exact cell_of (cs := [.int .i64 xa, .int .i64 xb, .int .i64 xc, .int .i64 xd]) e9 rfl
            | 3, _ => exact cell_of (cs := [.int .i64 xa, .int .i64 xb, .int .i64 xc, .int .i64 xd]) e9 rfl
          have HB8 : Hid (∀ X, Below w8.heap.size w8 X → Below w.heap.size w X ∧ Below w5.heap.size w5 X) := fun X hX => by
            have e5 : Below w5.heap.size w5 X := HY.out.1.trans (hX.mono HY.out.1.size)
            exact ⟨HB5.out.1.trans (e5.mono HB5.out.1.size), e5⟩
          clear HY i0 i1 i2 i3 i4 i5 d0 d1 d2 d3 d4 hg1 hw1 ho ho0 ho1 ho2 ho3
          go_loopg [8] 4 (fun gq x wr => ∃ k : Nat, k ≤ 4 ∧ gq = 4 - k ∧ x = .int .i64 (k : Int) ∧ (∀ q, q < k → inK p (kdN op q) (opN ⟨(op : Int), xa, xb, xc, xd⟩ q) = true) ∧ Below w8.heap.size w8 wr)
          case atStart => exact ⟨0, Nat.zero_le _, rfl, rfl, fun q hq => absurd hq (by omega), Below.refl _ _⟩
          case round =>
            obtain ⟨k, hk, hgk, rfl, ha, hb⟩ := hrel
            have HK : Hid (gk = 4 - k ∧ (∀ q, q < k → inK p (kdN op q) (opN ⟨(op : Int), xa, xb, xc, xd⟩ q) = true) ∧ Below w8.heap.size w8 wr) := ⟨hgk, ha, hb⟩
            clear hgk ha hb
            by_cases hk4 : k < 4
            · have hk4' : (k : Int) < 4 := by omega
              obtain ⟨q, hq9, hqe⟩ := kdN_lt op hop k hk4
              have HQ : Hid (q < 9 ∧ kdN op k = (q : Int) ∧ k < 4) := ⟨hq9, hqe, hk4⟩
              have HS2 : Hid (∀ X, Below w8.heap.size w8 X → (fun w' : World => w'.cell? ⟨w.heap.size, 0, none⟩ = some (.slice qo p.gh.length qc) ∧ w'.cell? ⟨w.heap.size, 1, none⟩ = some (.slice vo p.vs.length vc) ∧ w'.cell? ⟨w.heap.size, 2, none⟩ = some (.slice tto p.ts.length tc) ∧ w'.cell? ⟨w.heap.size, 3, none⟩ = some (.slice oo p.on.length oc) ∧ w'.cell? ⟨w.heap.size, 4, none⟩ = some (.int .i64 p.miss) ∧ w'.cell? ⟨w.heap.size, 5, none⟩ = some (.slice (some ⟨g, f, none⟩) p.cd.length cc) ∧ w'.cell? ⟨ib, 0, none⟩ = some (.int .i64 (op : Int)) ∧ w'.cell? ⟨tg, op * 5 + 1 + k, none⟩ = some (.int .i64 (q : Int)) ∧ w'.cell? ⟨ab, k, none⟩ = some (.int .i64 (opN ⟨(op : Int), xa, xb, xc, xd⟩ k))) X) := fun X hX => by rw [← hqe]; exact HSS.out X k hX hk4
              have HIk : Hid (inK p (q : Int) (opN ⟨(op : Int), xa, xb, xc, xd⟩ k) = false → chk p = 92) := fun h9 => HI.out k hk4 (by rw [hqe]; exact h9)
              have HIt : Hid (inK p (q : Int) (opN ⟨(op : Int), xa, xb, xc, xd⟩ k) = true → ∀ q, q < k + 1 → inK p (kdN op q) (opN ⟨(op : Int), xa, xb, xc, xd⟩ q) = true) := fun h9 q' hq' => by
                by_cases e : q' = k
                · subst e; rw [hqe]; exact h9
                · exact HK.out.2.1 q' (by omega)
              clear hk hk4 hq9 hqe hop
              go_upto_region 19 with fail
              refine wp_region_held (S := fun w' : World => w'.cell? ⟨w.heap.size, 0, none⟩ = some (.slice qo p.gh.length qc) ∧ w'.cell? ⟨w.heap.size, 1, none⟩ = some (.slice vo p.vs.length vc) ∧ w'.cell? ⟨w.heap.size, 2, none⟩ = some (.slice tto p.ts.length tc) ∧ w'.cell? ⟨w.heap.size, 3, none⟩ = some (.slice oo p.on.length oc) ∧ w'.cell? ⟨w.heap.size, 4, none⟩ = some (.int .i64 p.miss) ∧ w'.cell? ⟨w.heap.size, 5, none⟩ = some (.slice (some ⟨g, f, none⟩) p.cd.length cc) ∧ w'.cell? ⟨ib, 0, none⟩ = some (.int .i64 (op : Int)) ∧ w'.cell? ⟨tg, op * 5 + 1 + k, none⟩ = some (.int .i64 (q : Int)) ∧ w'.cell? ⟨ab, k, none⟩ = some (.int .i64 (opN ⟨(op : Int), xa, xb, xc, xd⟩ k))) (by kernel_rfl) ?_
              change wpAnyH _ _ _ _ _ _ _ _ wr.drew
              have hbd : Below w8.heap.size w8 wr.drew := HK.out.2.2.drew
              have hS := HS2.out wr.drew hbd
              have HBd : Hid (Below w8.heap.size w8 wr.drew) := hbd
              clear hbd
              generalize wr.drew = wd at *
              generalize opN ⟨(op : Int), xa, xb, xc, xd⟩ k = y at *
              refine tqA 0 rfl hS ?_
              refine tqA 1 rfl hS ?_
              refine tqA 2 rfl hS ?_
              refine tqA 3 rfl hS ?_
              refine tqA 4 rfl hS ?_
              refine tqA 5 rfl hS ?_
              refine tqA 6 rfl hS ?_
              refine tqA 7 rfl hS ?_
              refine tqA 8 rfl hS ?_
              refine tqA 9 rfl hS ?_
              refine tqA 10 rfl hS ?_
              refine tqA 11 rfl hS ?_
              refine wpAnyH_ready (rs := [12]) (by kernel_rfl) (by simp) ?_
              refine AllReadyH.cons rfl (fun K hK => ?_) AllReadyH.nil
              go_simp
              refine Calls.mono (HF.out q y _ HQ.out.1) ?_
              rintro e w9 ⟨rfl, hb9⟩
              have hb99 : Below w8.heap.size w8 w9 := HBd.out.trans (hb9.mono HBd.out.size)
              refine hK.out _ _ (HS2.out _ hb99) (fun hS => ?_)
              have HB9 : Hid (Below w8.heap.size w8 w9) := hb99
              clear hK K hb99 hb9 HBd HS2 HSS
              refine tqA 13 rfl hS ?_
              refine wpAnyH_done (by kernel_rfl) ?_ _
              clear hS
              have HN9 : Hid (Below w.heap.size w w9) := (HB8.out _ HB9.out).1
              go_simp
              cases hv : inK p (q : Int) y
              · go_wp2_with fail
                go_ret
                exact ⟨by rw [HIk.out hv]; rfl, HN9.out⟩
              · go_wp2_with fail
                go_roundg (4 - (k + 1))
                case measure => have h1 := HK.out.1; have := HQ.out.2.2; omega
                case rel => exact ⟨k + 1, HQ.out.2.2, rfl, by go_num, HIt.out hv, HB9.out⟩
            · have hk4' : ¬ (k : Int) < 4 := by omega
              obtain rfl : k = 4 := by omega
              clear hk4 hk
              go_wp2_with fail
              go_roundg (p.cd.length - (j + 1))
              case measure => have h1 := HG.out.1; have := HLt.out; omega
              case rel => exact ⟨j + 1, HLt.out, rfl, by go_num, HI2.out HK.out.2.1, (HB8.out _ HK.out.2.2).2⟩
        · have hlt' : ¬ (j : Int) < (p.cd.length : Int) := by omega
          obtain rfl : j = p.cd.length := by omega
          have HR : Hid (chk p = 0) := HC.out.trans (firstE_all (fun x hx => HG.out.2.1 x (by rwa [List.take_length])))
          have HN : Hid (Below w.heap.size w wr) := HB5.out.1.trans (HG.out.2.2.mono HB5.out.1.size)
          clear hlt hj
          go_wp2_with fail
          go_ret
          exact ⟨by rw [HR.out]; rfl, HN.out⟩
end Go.Proofs.YtcicifcnffacpaaDoor.Vf
