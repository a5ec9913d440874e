import Derived.RangeFuncNested
import Derived.RangeFuncBound
import Derived.RangeFuncCalls
import Derived.RangeFuncBox
import Derived.RangeFuncLeaves
import Derived.Shelf.Abstract
import Derived.Shelf.RegionOpen
import Derived.OwnWalkIn
import Derived.TacticsInMore
import Derived.LoopNIn
import Derived.LoopIn
import Derived.Sort.BigQuietIn
import Derived.Test.YtkekmmomdhdegaaIxAll
import Derived.Test.YtkekmmomdhdegaaIxTail
namespace Go.Proofs.Ytkekmmomdhdegaa.Ii
open Go.RowKit Go.Proofs.Ytkekmmomdhdegaa.Ix Go.Shelf

attribute [local go_sem] Oper.semAt_some

set_option maxRecDepth 100000 in
set_option maxHeartbeats 2000000 in
theorem seq1_in (F : Fence) (n : Nat) (h8 : F.fn 51) (hro : F.round = none) (hn : 1 ≤ n) (l : Nat) (q : Sqv) (d : List (Nat × El)) (J Jx : List (Nat × El) → World → Prop)
    (hdr : ∀ pre W j, J pre W → J pre (W.drewN j))
    (hY : ∀ pre x W, J pre W → pre.length < d.length → YieldAt F (n - 1) Try.prog l #[U x.1, ev x.2] W fun e W' =>
      (e = .returned (.bool true) ∧ J (pre ++ [x]) W' ∧ Kq q.S W W') ∨ (e = .returned (.bool false) ∧ Jx (pre ++ [x]) W'))
    (W : World) (hq : Sq W q d) (h0 : J [] W) :
    CallsIn F n Try.prog 51 #[.func (.yield l) #[] #[], .pointer (some ⟨q.A, 0, none⟩)] W fun e W' => (∃ v, e = .returned v) ∧
      ((∃ ys, ys = d ∧ J ys W') ∨ (∃ pre, (∃ k, k ≤ d.length ∧ pre = d.take k) ∧ Jx pre W')) := by
  have HQ := show Hid _ from hq
  have cA := hq.cA
  have hl2 : (d.length : Int) ≤ 4194304 := by have := hq.len; omega
  clear hq
  refine callsIn_of_wp Try.func51 rfl h8 ?_ hro
  simp only [Try.ntmps51, List.size_toArray, List.length_cons, List.length_nil, Nat.reduceAdd, Nat.reduceSub, Array.replicate_succ, Array.replicate_zero, List.push_toArray, List.append_toArray, List.nil_append, List.cons_append]
  gi_wp2
  gi_loopw [6] (fun i wr => ∃ k : Nat, k ≤ d.length ∧ i = .int .i64 k ∧ J (d.take k) wr ∧ Kq q.S W wr)
    (fun i _ => d.length - (intOf i).toNat)
  case atStart => exact ⟨0, Nat.zero_le _, rfl, h0, Kq.refl _ _⟩
  case round =>
    obtain ⟨k, hk, rfl, hJs, hK⟩ := hrel
    have HK := show Hid _ from hK
    by_cases hlt : k < d.length
    · have hsq := Sq.keep HQ.out HK.out
      obtain ⟨x, hx⟩ : ∃ x, d[k]? = some x := ⟨_, List.getElem?_eq_getElem hlt⟩
      obtain ⟨s1, s2⟩ := hsq.at_ k x hx
      have cB := hsq.cA
      have hlt2 : (k : Int) < (d.length : Int) := by omega
      have HT : Hid (d.take (k + 1) = d.take k ++ [x]) := by
        show d.take (k + 1) = d.take k ++ [x]
        rw [List.take_add_one, hx]; rfl
      clear hsq hK
      have mixed : Try.prog.follows .mixedOrders = true := by kernel_rfl
      have HY : Hid (∀ z, YieldAt F (n - 1) Try.prog l #[U x.1, ev x.2] (wr.drewN z) fun e W' => (e = .returned (.bool true) ∧ J (d.take k ++ [x]) W' ∧ Kq q.S wr W') ∨ (e = .returned (.bool false) ∧ Jx (d.take k ++ [x]) W')) := fun z => hY _ x (wr.drewN z) (hdr _ _ z hJs) (by rw [List.length_take]; omega)
      clear hdr hY h0 hx hJs
      gi_wp2
      refine wpIn_region_quiet_tail (C := fun w' => ∃ n, w' = wr.drewN n) hro 11 mixed (by kernel_rfl) ⟨1, rfl⟩ ?_
      simp only [List.take_succ_cons, List.take_zero, List.drop_succ_cons, List.drop_zero]
      iterate 11 gi_big_quiet_step (fail)
      refine wpQuietIn_nil ?_
      rintro _ ⟨z, rfl⟩
      obtain ⟨fn, tmps, assign, body, hy, hR⟩ := HY.out z
      generalize wr.drewN z = w5 at *
      gi_wp2
      refine hR.mono ?_
      rintro e W3 (⟨rfl, hJ3, hk3⟩ | ⟨rfl, hJx3⟩)
      · have H3 := show Hid _ from And.intro hJ3 hk3
        clear hJ3 hk3 hR hy
        gi_wp2
        go_roundw
        case rel => exact ⟨k + 1, by omega, by simp, by rw [HT.out]; exact H3.out.1, Kq.trans HK.out H3.out.2⟩
        case measure => simp [intOf]; omega
      · have H3 := show Hid _ from hJx3
        clear hJx3 hR hy
        gi_wp2
        refine bodyPost_ret (results_none rfl _ _ _) rfl ?_
        exact ⟨⟨_, rfl⟩, .inr ⟨_, ⟨k + 1, by omega, HT.out.symm⟩, H3.out⟩⟩
    · obtain rfl : k = d.length := by omega
      rw [List.take_length] at hJs
      have HJ := show Hid _ from hJs
      clear hdr hY hJs h0 hK
      gi_wp2
      go_end0
      exact ⟨⟨_, rfl⟩, .inl ⟨_, rfl, HJ.out⟩⟩
theorem abides_drewN {β : Type} {B : Nat} {J : β → World → Prop} (h : AbidesFrom B J) (s : β) (W : World) (j : Nat) (hJ : J s W) : J s (W.drewN j) := by
  induction j with
  | zero => exact hJ
  | succ j ih => exact h s _ _ none ih ⟨rfl, rfl, rfl, Nat.le_refl _, fun k _ _ => rfl⟩ (fun r e => by cases e)
/-- the contract of a sequence -/
theorem seq_stops (F : Fence) (n : Nat) (h8 : F.fn 51) (hro : F.round = none) (hn : 1 ≤ n) (q : Sqv) (d : List (Nat × El)) (w : World) (hq : Sq w q d) :
    SeqStopsK F n Try.prog 51 #[.pointer (some ⟨q.A, 0, none⟩)] (fun x : Nat × El => #[U x.1, ev x.2]) (Kq q.S) (fun ys => ys = d)
      (fun pre => ∃ k, k ≤ d.length ∧ pre = d.take k) d.length w := fun l J Jx W hW hA _ hY h0 =>
  seq1_in F n h8 hro hn l q d J Jx (fun pre W j h => abides_drewN hA pre W j h) hY W (hq.below hW) h0
end Go.Proofs.Ytkekmmomdhdegaa.Ii
