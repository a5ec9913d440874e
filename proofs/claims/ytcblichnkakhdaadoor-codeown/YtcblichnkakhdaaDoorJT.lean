import Derived.Test.YtcblichnkakhdaaDoorShelf15
import Derived.Test.YtcblichnkakhdaaDoorCeDec
import Derived.Test.YtcblichnkakhdaaDoorRows
import Derived.WalkKit
import Derived.Deep.RegionHeld3
import Derived.Test.YtcblichnkakhdaaDoorJS
import Derived.Test.YtcblichnkakhdaaDoorJK
import Derived.Maps.AppendAt
import Derived.Laws.OwnMore
import Derived.Deep.RegionHeld
set_option linter.unusedSimpArgs false
namespace Go.Proofs.YtcblichnkakhdaaDoor.Cd
open Go.RowKit Go.Lib Go.Shelf Go.Proofs.YtcblichnkakhdaaDoor.Nm Go.Proofs.YtcblichnkakhdaaDoor.Vf

set_option maxHeartbeats 2000000 in
set_option maxRecDepth 100000 in
/-- Clone of a slice that is empty and not nil -/
theorem clone_zero {P : Program} {ρ : Ren} (L : SlLaysE0.n41 P ρ) (i0 : TypeInfo) (z : Value) (size bytes : Nat) (hi : P.info? (ρ.t 23) = some i0) (hz0 : i0.zero = some z) (hz1 : i0.size = size) (hz2 : i0.bytes = bytes) (hzs : z.cells.size = size) (hsz : 0 < size)
    (z23 : ∀ w, (Go.sizeOf (ρ.t 23)).run P w = .ok size w) (ad : Addr) (c : Nat) (w : World) :
    Calls P (ρ.f 41) #[.slice (some ad) 0 c] w fun e w' => ∃ v', e = .returned v' ∧ w'.ownsRow w.heap.size (ρ.t 23) size v' 0 [] ∧ Below w.heap.size w w' := by
  have mixed := L.mixed; have t4 := L.t4; have a4 := L.a4; have z4 := L.z4; have v4 := L.v4; have t22 := L.t22; have a22 := L.a22; have z22 := L.z22; have v22 := L.v22
  have q22 : ∀ (w : World) (a : Option Addr) (n c n' c' : Nat), (binOp .eql (ρ.t 22) (.slice a n c) (.slice none n' c')).run P w = .ok (.bool a.isNone) w := fun w a n c n' c' => Lib.run_eql_slice_nil w _ _ a n c n' c' L.t22
  have u22 : ∀ w, Sem.run P (underlying (ρ.t 22)) w = .ok (TypeDesc.slice (ρ.t 23)) w := run_underlying t22
  obtain ⟨_, _, FG⟩ := L.f41
  go_enter FG, SlBodyN.n41_ntmps ρ
  go_wp2_with (at_builtin; refine wpList_append_own _ rfl _ _ (ρ.t 22) rfl w.heap.size (ρ.t 23) i0 z size bytes t22 hi hz0 hz1 hz2 hzs hsz _ _ _ rfl (World.ownsRow_made w #[] 0 (Nat.le_refl _) (Nat.zero_le _) (by simp)) ad 0 c [] rfl ?qc1 ?qc2 ?qc3 ?qc4 ?qc5 ?qc6 ?_)
  case qc1 => simp
  case qc2 => exact fun j u hj => by simp at hj
  case qc3 => exact fun u hu => by cases hu
  case qc4 => exact Nat.zero_le _
  case qc5 => simp
  case qc6 => simp
  intro v' w1 hown hgrow hnil
  go_wp2
  go_ret
  exact ⟨v', rfl, by simpa using hown, ((Below.refl _ w).alloc (Nat.le_refl _) _).grown hgrow (by simp) (by intro k hk; simp [Value.ownBlock] at hk; omega)⟩
/-- Clone of whatever can be read -/
theorem clone_rd {P : Program} {ρ : Ren} (L : SlLaysE0.n41 P ρ) (i0 : TypeInfo) (z : Value) (size bytes : Nat) (hi : P.info? (ρ.t 23) = some i0) (hz0 : i0.zero = some z) (hz1 : i0.size = size) (hz2 : i0.bytes = bytes) (hzs : z.cells.size = size) (hsz : 0 < size)
    (z23 : ∀ w, (Go.sizeOf (ρ.t 23)).run P w = .ok size w) (ao : Option Addr) (n c : Nat) (news : List Value) (w : World) (hl : news.length = n * size) (hn : n ≤ maxLen) (hbig : n * bytes ≤ 140737488355328) (hr : Vf.Rd w ao news) (h1 : ∀ u ∈ news, u.oneCell' = true) :
    Calls P (ρ.f 41) #[.slice ao n c] w fun e w' => ∃ v', e = .returned v' ∧ w'.ownsRow w.heap.size (ρ.t 23) size v' n news ∧ Below w.heap.size w w' := by
  cases hnw : news with
  | nil =>
    subst hnw
    have hn0 : n = 0 := by
      rcases Nat.eq_zero_or_pos n with h | h
      · exact h
      · have := Nat.mul_pos h hsz
        simp at hl
        omega
    subst hn0
    cases ao with
    | none =>
      refine (AnyE.slices_Clone_nil L 0 c w).mono ?_
      rintro e w' ⟨rfl, rfl⟩
      exact ⟨_, rfl, World.ownsRow_nil _ _ _ _, Below.refl _ _⟩
    | some ad => exact clone_zero L i0 z size bytes hi hz0 hz1 hz2 hzs hsz z23 ad c w
  | cons x xs =>
    obtain ⟨g, f, rfl, -, -⟩ := hr 0 x (by rw [hnw]; rfl)
    rw [← hnw]
    refine (AnyE.slices_Clone L i0 z size bytes hi hz0 hz1 hz2 hzs hsz z23 g f n c news w hl hn hbig (fun j u hj => ?_) h1).mono ?_
    · obtain ⟨g', f', e, -, hc⟩ := hr j u hj
      cases e
      exact hc
    · rintro e w' ⟨v', h1, h2, -, h3⟩
      exact ⟨v', h1, h2, h3⟩
def renBo : Go.Shelf.Ren := ⟨fun | 41 => 17 | n => n, fun | 22 => 24 | 23 => 4 | 4 => 4 | n => n, fun | n => n⟩
theorem layBo : Go.Proofs.SlLaysE0.n41 Tryd.prog renBo where
  mixed := by kernel_rfl
  f41 := ⟨Tryd.f17.name, by decide, Tryd.func17.trans (congrArg some (by kernel_rfl))⟩
  t4 := Tryd.underlying4
  a4 := Tryd.isAgg4
  z4 := Tryd.sizeOf4
  v4 := Tryd.zeroValue4
  t22 := Tryd.underlying24
  a22 := Tryd.isAgg24
  z22 := Tryd.sizeOf24
  v22 := Tryd.zeroValue24
theorem infBo : (Tryd.prog.info? 4).map (fun i => (i.zero, i.size, i.bytes)) = some (some (.bool false), 1, 1) := by kernel_rfl
theorem cloneBo (ao : Option Addr) (n c : Nat) (news : List Value) (w : World) (hl : news.length = n * 1) (hbig : n * 1 ≤ 140737488355328) (hr : Vf.Rd w ao news) (h1 : ∀ u ∈ news, u.oneCell' = true) :
    Calls Tryd.prog 17 #[.slice ao n c] w fun e w' => ∃ v', e = .returned v' ∧ w'.ownsRow w.heap.size 4 1 v' n news ∧ Below w.heap.size w w' := by
  obtain ⟨j0, hj, hj0, hj1, hj2⟩ := info_parts infBo
  exact clone_rd layBo j0 _ 1 1 hj hj0 hj1 hj2 rfl (by decide) Tryd.sizeOf4 ao n c news w hl (by unfold maxLen; omega) hbig hr h1
def renVa : Go.Shelf.Ren := ⟨fun | 41 => 18 | n => n, fun | 22 => 25 | 23 => 60 | 4 => 4 | n => n, fun | n => n⟩
theorem layVa : Go.Proofs.SlLaysE0.n41 Tryd.prog renVa where
  mixed := by kernel_rfl
  f41 := ⟨Tryd.f18.name, by decide, Tryd.func18.trans (congrArg some (by kernel_rfl))⟩
  t4 := Tryd.underlying4
  a4 := Tryd.isAgg4
  z4 := Tryd.sizeOf4
  v4 := Tryd.zeroValue4
  t22 := Tryd.underlying25
  a22 := Tryd.isAgg25
  z22 := Tryd.sizeOf25
  v22 := Tryd.zeroValue25
theorem infVa : (Tryd.prog.info? 60).map (fun i => (i.zero, i.size, i.bytes)) = some (some (.agg #[.int .i64 0, .int .i64 0, .int .i64 0]), 3, 24) := by kernel_rfl
theorem cloneVa (ao : Option Addr) (n c : Nat) (news : List Value) (w : World) (hl : news.length = n * 3) (hbig : n * 24 ≤ 140737488355328) (hr : Vf.Rd w ao news) (h1 : ∀ u ∈ news, u.oneCell' = true) :
    Calls Tryd.prog 18 #[.slice ao n c] w fun e w' => ∃ v', e = .returned v' ∧ w'.ownsRow w.heap.size 60 3 v' n news ∧ Below w.heap.size w w' := by
  obtain ⟨j0, hj, hj0, hj1, hj2⟩ := info_parts infVa
  exact clone_rd layVa j0 _ 3 24 hj hj0 hj1 hj2 rfl (by decide) Tryd.sizeOf60 ao n c news w hl (by unfold maxLen; omega) hbig hr h1
def renIt : Go.Shelf.Ren := ⟨fun | 41 => 19 | n => n, fun | 22 => 26 | 23 => 3 | 4 => 4 | n => n, fun | n => n⟩
theorem layIt : Go.Proofs.SlLaysE0.n41 Tryd.prog renIt where
  mixed := by kernel_rfl
  f41 := ⟨Tryd.f19.name, by decide, Tryd.func19.trans (congrArg some (by kernel_rfl))⟩
  t4 := Tryd.underlying4
  a4 := Tryd.isAgg4
  z4 := Tryd.sizeOf4
  v4 := Tryd.zeroValue4
  t22 := Tryd.underlying26
  a22 := Tryd.isAgg26
  z22 := Tryd.sizeOf26
  v22 := Tryd.zeroValue26
theorem infIt : (Tryd.prog.info? 3).map (fun i => (i.zero, i.size, i.bytes)) = some (some (.int .i64 0), 1, 8) := by kernel_rfl
theorem cloneIt (ao : Option Addr) (n c : Nat) (news : List Value) (w : World) (hl : news.length = n * 1) (hbig : n * 8 ≤ 140737488355328) (hr : Vf.Rd w ao news) (h1 : ∀ u ∈ news, u.oneCell' = true) :
    Calls Tryd.prog 19 #[.slice ao n c] w fun e w' => ∃ v', e = .returned v' ∧ w'.ownsRow w.heap.size 3 1 v' n news ∧ Below w.heap.size w w' := by
  obtain ⟨j0, hj, hj0, hj1, hj2⟩ := info_parts infIt
  exact clone_rd layIt j0 _ 1 8 hj hj0 hj1 hj2 rfl (by decide) Tryd.sizeOf3 ao n c news w hl (by unfold maxLen; omega) hbig hr h1
def renIn : Go.Shelf.Ren := ⟨fun | 41 => 20 | n => n, fun | 22 => 27 | 23 => 64 | 4 => 4 | n => n, fun | n => n⟩
theorem layIn : Go.Proofs.SlLaysE0.n41 Tryd.prog renIn where
  mixed := by kernel_rfl
  f41 := ⟨Tryd.f20.name, by decide, Tryd.func20.trans (congrArg some (by kernel_rfl))⟩
  t4 := Tryd.underlying4
  a4 := Tryd.isAgg4
  z4 := Tryd.sizeOf4
  v4 := Tryd.zeroValue4
  t22 := Tryd.underlying27
  a22 := Tryd.isAgg27
  z22 := Tryd.sizeOf27
  v22 := Tryd.zeroValue27
theorem infIn : (Tryd.prog.info? 64).map (fun i => (i.zero, i.size, i.bytes)) = some (some (.agg #[.int .i64 0, .int .i64 0, .int .i64 0, .int .i64 0, .int .i64 0]), 5, 40) := by kernel_rfl
theorem cloneIn (ao : Option Addr) (n c : Nat) (news : List Value) (w : World) (hl : news.length = n * 5) (hbig : n * 40 ≤ 140737488355328) (hr : Vf.Rd w ao news) (h1 : ∀ u ∈ news, u.oneCell' = true) :
    Calls Tryd.prog 20 #[.slice ao n c] w fun e w' => ∃ v', e = .returned v' ∧ w'.ownsRow w.heap.size 64 5 v' n news ∧ Below w.heap.size w w' := by
  obtain ⟨j0, hj, hj0, hj1, hj2⟩ := info_parts infIn
  exact clone_rd layIn j0 _ 5 40 hj hj0 hj1 hj2 rfl (by decide) Tryd.sizeOf64 ao n c news w hl (by unfold maxLen; omega) hbig hr h1
end Go.Proofs.YtcblichnkakhdaaDoor.Cd

namespace Go.Proofs.YtcblichnkakhdaaDoor.Vf
open Go.RowKit
section
variable {P : Program} {ops : Array Oper} {Q : Exit → Act → World → Prop} {md : Region.Mode} {S : World → Prop}
/-- an operation of a held region is taken: what it reads lies in S as it is -/
theorem tqA (i : Nat) {oi : Oper} {v : Value} {fuel : Nat} {listed : Array Bool} {a : Act} {w : World} (hi : ops[i]? = some oi) (hS : S w)
    (h : wpAnyH P md ops Q S fuel (listed.setIfInBounds i true) (a.put oi.dst v) w) (hy : YieldsIf P ops S oi v a := by (refine Or.inl ⟨by rfl, fun w hSw => ?_⟩; (try dsimp only at hSw); (repeat (have := hSw.1; replace hSw := hSw.2)); first | (go_simp; done) | (go_simp; with_reducible rfl)))
    (hs : Region.noSelect ops = true := by kernel_rfl) (hf : Region.free md ops listed i = true := by kernel_rfl) (hr : (Region.ready md ops listed).contains i = true := by kernel_rfl)
    (hQ : ∀ c a w, Q (.panic c) (a.put oi.dst v) w → Q (.panic c) a w := by exact fun _ _ _ h => h) : wpAnyH P md ops Q S (fuel + 1) listed a w := wpAnyH_take hi hs hf hr hQ hy hS h
/-- an operation of a held region that is guarded is taken: what it reads lies in S as it is -/
theorem tkA (i : Nat) {oi : Oper} {v : Value} {fuel : Nat} {listed : Array Bool} {a : Act} {w : World} (hi : ops[i]? = some oi) (hS : S w)
    (h : wpAnyH P md ops Q S fuel (listed.setIfInBounds i true) (a.put oi.dst v) w) (hy : YieldsIf P ops S oi v a := by (refine Or.inl ⟨by kernel_rfl, fun w hSw => ?_⟩; (try dsimp only at hSw); (repeat (have := hSw.1; replace hSw := hSw.2)); first | (go_simp; done) | (go_simp; with_reducible rfl)))
    (hs : Region.noSelect ops = true := by kernel_rfl) (hf : Region.free md ops listed i = true := by kernel_rfl) (hr : (Region.ready md ops listed).contains i = true := by kernel_rfl)
    (hQ : ∀ c a w, Q (.panic c) (a.put oi.dst v) w → Q (.panic c) a w := by exact fun _ _ _ h => h) : wpAnyH P md ops Q S (fuel + 1) listed a w := wpAnyH_take hi hs hf hr hQ hy hS h
/-- an operation of a held region that its guard leaves out -/
theorem tuA (i : Nat) {oi : Oper} {fuel : Nat} {listed : Array Bool} {a : Act} {w : World} (hi : ops[i]? = some oi) (hS : S w)
    (h : wpAnyH P md ops Q S fuel (listed.setIfInBounds i true) (a.put oi.dst undef) w) (hy : Region.wanted oi (yielded ops a.tmps) = false := by kernel_rfl)
    (hs : Region.noSelect ops = true := by kernel_rfl) (hf : Region.free md ops listed i = true := by kernel_rfl) (hr : (Region.ready md ops listed).contains i = true := by kernel_rfl)
    (hQ : ∀ c a w, Q (.panic c) (a.put oi.dst undef) w → Q (.panic c) a w := by exact fun _ _ _ h => h) : wpAnyH P md ops Q S (fuel + 1) listed a w := wpAnyH_take hi hs hf hr hQ (Or.inr ⟨hy, rfl⟩) hS h
end
end Go.Proofs.YtcblichnkakhdaaDoor.Vf

set_option linter.unusedSimpArgs false
namespace Go.Proofs.YtcblichnkakhdaaDoor.Cd
open Go.RowKit Go.Proofs.YtcblichnkakhdaaDoor.Nm Go.Proofs.YtcblichnkakhdaaDoor.Vf

theorem one_bC (l : List Bool) : ∀ u ∈ bC l, u.oneCell' = true := fun u hu => by
  obtain ⟨x, -, rfl⟩ := List.mem_map.1 hu
  rfl
theorem one_iC (l : List Int) : ∀ u ∈ iC l, u.oneCell' = true := fun u hu => by
  obtain ⟨x, -, rfl⟩ := List.mem_map.1 hu
  rfl
theorem one_vC (l : List (Int × Int × Int)) : ∀ u ∈ vC l, u.oneCell' = true := fun u hu => by
  obtain ⟨x, -, hx⟩ := List.mem_flatMap.1 hu
  simp only [List.mem_cons, List.not_mem_nil, or_false] at hx
  rcases hx with rfl | rfl | rfl <;> rfl
theorem one_cC (l : List Ins) : ∀ u ∈ Vf.cC l, u.oneCell' = true := fun u hu => by
  obtain ⟨x, -, hx⟩ := List.mem_flatMap.1 hu
  simp only [List.mem_cons, List.not_mem_nil, or_false] at hx
  rcases hx with rfl | rfl | rfl | rfl | rfl <;> rfl
theorem len_bC (l : List Bool) : (bC l).length = l.length * 1 := by simp [bC]
theorem len_iC (l : List Int) : (iC l).length = l.length * 1 := by simp [iC]
theorem len_vC (l : List (Int × Int × Int)) : (vC l).length = l.length * 3 := by
  unfold vC
  induction l with
  | nil => rfl
  | cons x l ih =>
    rw [List.flatMap_cons, List.length_append, ih]
    simp only [List.length_cons, List.length_nil]
    omega
theorem len_cC (l : List Ins) : (Vf.cC l).length = l.length * 5 := by
  unfold Vf.cC
  induction l with
  | nil => rfl
  | cons x l ih =>
    rw [List.flatMap_cons, List.length_append, ih]
    simp only [List.length_cons, List.length_nil]
    omega
/-- a list more -/
theorem Ows.next {w w' : World} {pb : Nat} {L : List Ent} {T : TypeId} {sz n : Nat} {v : Value} {xs : List Value} (h : Ows w pb L) (hb : Below w.heap.size w w') (ho : w'.ownsRow w.heap.size T sz v n xs) (hp : pb < w.heap.size) : Ows w' pb (L ++ [⟨w.heap.size, T, sz, v, n, xs⟩]) := by
  have h1 : Ows w' pb L := h.keep fun k _ h2 => hb.block k h2
  refine ⟨fun x hx => ?_, ?_⟩
  · rcases List.mem_append.1 hx with hx | hx
    · exact h1.ow x hx
    · obtain rfl : x = ⟨w.heap.size, T, sz, v, n, xs⟩ := by simpa using hx
      exact ⟨hp, ho⟩
  · rw [List.pairwise_append]
    refine ⟨h.ap, by simp, fun x hx y hy k e e2 => ?_⟩
    obtain rfl : y = ⟨w.heap.size, T, sz, v, n, xs⟩ := by simpa using hy
    have q1 := (World.ownsRow.lt (h.ow x hx).2 k e).2
    have q2 := (World.ownsRow.lt ho k e2).1
    omega
theorem ows_nil (w : World) (pb : Nat) : Ows w pb [] := ⟨fun x hx => absurd hx (by simp), List.Pairwise.nil⟩
/-- a row of another type in its own block turns, and no list does -/
theorem Ows.keepR {w : World} {pb g : Nat} {L : List Ent} {old cs : Array Value} (h : Ows w pb L) (hg : w.heap[g]? = some (.cells old 29 (0, 0))) (hT : ∀ x ∈ L, x.T ≠ 29 := by simp [en1, en2, en3, en5]) : Ows (w.setRow g cs) pb L := by
  refine ⟨fun x hx => ⟨(h.ow x hx).1, own_keepB (h.ow x hx).2 fun k hk => setRow_other w g k cs fun e => ?_⟩, h.ap⟩
  subst e
  rcases (h.ow x hx).2.2 with ⟨e1, _⟩ | ⟨g', cap, cur, e1, _, e4, _⟩
  · rw [e1] at hk
    cases hk
  · rw [e1] at hk
    cases hk
    rw [hg] at e4
    have e5 := Option.some.inj e4
    injection e5 with _ e6 _
    exact hT x hx e6.symm
theorem step_store {P : Program} {w : World} {ops : Array Oper} {o : Oper} {a : Act} {K : Act → World → Prop} {Q : Exit → Act → World → Prop} {E : Prop} (hgd : o.guard = none) (ty : TypeId) (x y : Operand) (ho : o.op = .store ty x y)
    (g : Nat) (cells : Array Value) (hx : a.eval x = .pointer (some ⟨g, 0, none⟩)) (hy : a.eval y = .agg cells)
    (t : TypeId) (old : Array Value) (hg : w.heap[g]? = some (.cells old t (0, 0))) (hi : (P.info? ty).map (·.size) = some cells.size)
    (hold : old.size = cells.size) (h1 : cells.all (·.oneCell') = true)
    (h : K (a.put o.dst undef) (w.setRow g cells)) : if Region.wanted o (yielded ops a.tmps) = true then Oper.wp P o a w K Q else E := by
  have hw : Region.wanted o (yielded ops a.tmps) = true := by simp [Region.wanted, hgd]
  rw [if_pos hw]
  exact wp_store_row ty x y ho g cells hx hy t old hg hi hold h1 h
theorem stA {P : Program} {md : Region.Mode} {ops : Array Oper} {Q : Exit → Act → World → Prop} {S : World → Prop} (i : Nat) {oi : Oper} {fuel : Nat} {listed : Array Bool} {a : Act} {w : World} (hr : Region.ready md ops listed = [i]) (hi : ops[i]? = some oi)
    (hgd : oi.guard = none) (ty : TypeId) (x y : Operand) (ho : oi.op = .store ty x y)
    (g : Nat) (cells : Array Value) (hx : a.eval x = .pointer (some ⟨g, 0, none⟩)) (hy : a.eval y = .agg cells)
    (t : TypeId) (old : Array Value) (hg : w.heap[g]? = some (.cells old t (0, 0))) (hif : (P.info? ty).map (·.size) = some cells.size)
    (hold : old.size = cells.size) (h1 : cells.all (·.oneCell') = true) (hS : S (w.setRow g cells))
    (h : S (w.setRow g cells) → wpAnyH P md ops Q S fuel (listed.setIfInBounds i true) (a.put oi.dst undef) (w.setRow g cells)) : wpAnyH P md ops Q S (fuel + 1) listed a w :=
  wpAnyH_ready hr (by simp) (AllReadyH.cons hi (fun K hK => step_store hgd ty x y ho g cells hx hy t old hg hif hold h1 (hK.out _ _ hS h)) AllReadyH.nil)
/-- what a program's lists weigh -/
def Wgh (p : Pg) : Prop := p.gh.length ≤ 140737488351232 ∧ p.vs.length * 24 ≤ 140737488351232 ∧ p.ts.length * 8 ≤ 140737488351232 ∧ p.on.length * 8 ≤ 140737488351232 ∧ p.cd.length * 40 ≤ 140737488351232
set_option maxHeartbeats 12800000 in
set_option maxRecDepth 100000 in
/-- Twin -/
theorem twin_any (v : PV) (p : Pg) (W : World) (hP : IsPg W v p) (hW : Wgh p) : Calls Tryd.prog 7 #[.agg (pvC v p)] W fun e W' => ∃ u : PV, e = .returned (.agg (pvC u p)) ∧ Own5 W' W.heap.size p (.slice u.qo p.gh.length u.qc) (.slice u.vo p.vs.length u.vc) (.slice u.to p.ts.length u.tc) (.slice u.oo p.on.length u.oc) (.slice u.co p.cd.length u.cc) ∧ Below W.heap.size W W' := by
  obtain ⟨qo, qc, vo, vc, tto, tc, oo, oc, co, cc⟩ := v
  have HPg : Hid (IsPg W ⟨qo, qc, vo, vc, tto, tc, oo, oc, co, cc⟩ p ∧ Wgh p) := ⟨hP, hW⟩
  clear hP hW
  show Calls _ _ #[.agg #[.slice qo p.gh.length qc, .slice vo p.vs.length vc, .slice tto p.ts.length tc, .slice oo p.on.length oc, .int .i64 p.miss, .slice co p.cd.length cc]] _ _
  have H0 := show Hid _ from two_prg W #[.slice qo p.gh.length qc, .slice vo p.vs.length vc, .slice tto p.ts.length tc, .slice oo p.on.length oc, .int .i64 p.miss, .slice co p.cd.length cc] #[.slice none 0 0, .slice none 0 0, .slice none 0 0, .slice none 0 0, .int .i64 0, .slice none 0 0]
  go_enter Tryd.func7, Tryd.ntmps7
  go_upto_region 1 with fail
  generalize ((W.alloc (.cells #[.slice qo p.gh.length qc, .slice vo p.vs.length vc, .slice tto p.ts.length tc, .slice oo p.on.length oc, .int .i64 p.miss, .slice co p.cd.length cc] 29)).alloc (.cells #[.slice none 0 0, .slice none 0 0, .slice none 0 0, .slice none 0 0, .int .i64 0, .slice none 0 0] 29)) = w0 at *
  have HX : Hid (∀ X, Below W.heap.size W X → X.heap[W.heap.size]? = some (.cells #[.slice qo p.gh.length qc, .slice vo p.vs.length vc, .slice tto p.ts.length tc, .slice oo p.on.length oc, .int .i64 p.miss, .slice co p.cd.length cc] 29 (0, 0)) → (fun w' : World => w'.cell? ⟨W.heap.size, 0, none⟩ = some (.slice qo p.gh.length qc) ∧ w'.cell? ⟨W.heap.size, 1, none⟩ = some (.slice vo p.vs.length vc) ∧ w'.cell? ⟨W.heap.size, 2, none⟩ = some (.slice tto p.ts.length tc) ∧ w'.cell? ⟨W.heap.size, 3, none⟩ = some (.slice oo p.on.length oc) ∧ w'.cell? ⟨W.heap.size, 4, none⟩ = some (.int .i64 p.miss) ∧ w'.cell? ⟨W.heap.size, 5, none⟩ = some (.slice co p.cd.length cc)) X) := fun X hX hb => cells6 hb
  refine wp_region_held (S := fun w' : World => w'.cell? ⟨W.heap.size, 0, none⟩ = some (.slice qo p.gh.length qc) ∧ w'.cell? ⟨W.heap.size, 1, none⟩ = some (.slice vo p.vs.length vc) ∧ w'.cell? ⟨W.heap.size, 2, none⟩ = some (.slice tto p.ts.length tc) ∧ w'.cell? ⟨W.heap.size, 3, none⟩ = some (.slice oo p.on.length oc) ∧ w'.cell? ⟨W.heap.size, 4, none⟩ = some (.int .i64 p.miss) ∧ w'.cell? ⟨W.heap.size, 5, none⟩ = some (.slice co p.cd.length cc)) (by kernel_rfl) ?_
  change wpAnyH _ _ _ _ _ _ _ _ w0.drew
  have H1 : Hid (Below W.heap.size W w0.drew ∧ w0.drew.heap[W.heap.size]? = some (.cells #[.slice qo p.gh.length qc, .slice vo p.vs.length vc, .slice tto p.ts.length tc, .slice oo p.on.length oc, .int .i64 p.miss, .slice co p.cd.length cc] 29 (0, 0)) ∧ w0.drew.heap[W.heap.size + 1]? = some (.cells #[.slice none 0 0, .slice none 0 0, .slice none 0 0, .slice none 0 0, .int .i64 0, .slice none 0 0] 29 (0, 0)) ∧ Ows w0.drew W.heap.size []) := ⟨H0.out.1.drew, H0.out.2.1, H0.out.2.2, ows_nil _ _⟩
  have hS := HX.out w0.drew H1.out.1 H1.out.2.1
  clear H0
  generalize w0.drew = w1 at *
  refine tqA 0 rfl hS ?_
  refine tqA 1 rfl hS ?_
  refine tqA 3 rfl hS ?_
  refine tqA 4 rfl hS ?_
  refine tqA 6 rfl hS ?_
  refine tqA 7 rfl hS ?_
  refine tqA 9 rfl hS ?_
  refine tqA 10 rfl hS ?_
  refine tqA 12 rfl hS ?_
  refine tqA 13 rfl hS ?_
  refine tqA 14 rfl hS ?_
  refine tqA 15 rfl hS ?_
  refine wpAnyH_ready (rs := [2]) (by kernel_rfl) (by simp) ?_
  refine AllReadyH.cons rfl (fun K hK => ?_) AllReadyH.nil
  go_simp
  have HC0 : Hid (Calls Tryd.prog 17 #[.slice qo p.gh.length qc] w1 fun e w' => ∃ v', e = .returned v' ∧ w'.ownsRow w1.heap.size 4 1 v' p.gh.length (bC p.gh) ∧ Below w1.heap.size w1 w') := cloneBo _ _ _ _ _ (len_bC _) (by have := HPg.out.2.1; omega) (HPg.out.1.gh.below H1.out.1) (one_bC _)
  refine Calls.mono HC0.out ?_
  rintro e w2 ⟨u0, rfl, ho, hb⟩
  have H2 : Hid (Below W.heap.size W w2 ∧ w2.heap[W.heap.size]? = some (.cells #[.slice qo p.gh.length qc, .slice vo p.vs.length vc, .slice tto p.ts.length tc, .slice oo p.on.length oc, .int .i64 p.miss, .slice co p.cd.length cc] 29 (0, 0)) ∧ w2.heap[W.heap.size + 1]? = some (.cells #[.slice none 0 0, .slice none 0 0, .slice none 0 0, .slice none 0 0, .int .i64 0, .slice none 0 0] 29 (0, 0)) ∧ Ows w2 W.heap.size [en1 w1.heap.size u0 p.gh]) := by
    obtain ⟨q1, q2, q3, q4⟩ := H1.out
    exact ⟨q1.trans (hb.mono q1.size), (hb.block _ (blk_lt q2)).trans q2, (hb.block _ (blk_lt q3)).trans q3, Ows.next q4 hb ho (blk_lt q2)⟩
  obtain ⟨x0, y0, z0⟩ := own_form ho
  subst z0
  refine hK.out _ _ (HX.out _ H2.out.1 H2.out.2.1) (fun hS => ?_)
  clear hK K ho hb HC0 H1
  refine wpAnyH_ready (rs := [5]) (by kernel_rfl) (by simp) ?_
  refine AllReadyH.cons rfl (fun K hK => ?_) AllReadyH.nil
  go_simp
  have HC1 : Hid (Calls Tryd.prog 18 #[.slice vo p.vs.length vc] w2 fun e w' => ∃ v', e = .returned v' ∧ w'.ownsRow w2.heap.size 60 3 v' p.vs.length (vC p.vs) ∧ Below w2.heap.size w2 w') := cloneVa _ _ _ _ _ (len_vC _) (by have := HPg.out.2.2.1; omega) (HPg.out.1.vs.below H2.out.1) (one_vC _)
  refine Calls.mono HC1.out ?_
  rintro e w3 ⟨u1, rfl, ho, hb⟩
  have H3 : Hid (Below W.heap.size W w3 ∧ w3.heap[W.heap.size]? = some (.cells #[.slice qo p.gh.length qc, .slice vo p.vs.length vc, .slice tto p.ts.length tc, .slice oo p.on.length oc, .int .i64 p.miss, .slice co p.cd.length cc] 29 (0, 0)) ∧ w3.heap[W.heap.size + 1]? = some (.cells #[.slice none 0 0, .slice none 0 0, .slice none 0 0, .slice none 0 0, .int .i64 0, .slice none 0 0] 29 (0, 0)) ∧ Ows w3 W.heap.size [en1 w1.heap.size (.slice x0 p.gh.length y0) p.gh, en2 w2.heap.size u1 p.vs]) := by
    obtain ⟨q1, q2, q3, q4⟩ := H2.out
    exact ⟨q1.trans (hb.mono q1.size), (hb.block _ (blk_lt q2)).trans q2, (hb.block _ (blk_lt q3)).trans q3, Ows.next q4 hb ho (blk_lt q2)⟩
  obtain ⟨x1, y1, z1⟩ := own_form ho
  subst z1
  refine hK.out _ _ (HX.out _ H3.out.1 H3.out.2.1) (fun hS => ?_)
  clear hK K ho hb HC1 H2
  refine wpAnyH_ready (rs := [8]) (by kernel_rfl) (by simp) ?_
  refine AllReadyH.cons rfl (fun K hK => ?_) AllReadyH.nil
  go_simp
  have HC2 : Hid (Calls Tryd.prog 19 #[.slice tto p.ts.length tc] w3 fun e w' => ∃ v', e = .returned v' ∧ w'.ownsRow w3.heap.size 3 1 v' p.ts.length (iC p.ts) ∧ Below w3.heap.size w3 w') := cloneIt _ _ _ _ _ (len_iC _) (by have := HPg.out.2.2.2.1; omega) (HPg.out.1.ts.below H3.out.1) (one_iC _)
  refine Calls.mono HC2.out ?_
  rintro e w4 ⟨u2, rfl, ho, hb⟩
  have H4 : Hid (Below W.heap.size W w4 ∧ w4.heap[W.heap.size]? = some (.cells #[.slice qo p.gh.length qc, .slice vo p.vs.length vc, .slice tto p.ts.length tc, .slice oo p.on.length oc, .int .i64 p.miss, .slice co p.cd.length cc] 29 (0, 0)) ∧ w4.heap[W.heap.size + 1]? = some (.cells #[.slice none 0 0, .slice none 0 0, .slice none 0 0, .slice none 0 0, .int .i64 0, .slice none 0 0] 29 (0, 0)) ∧ Ows w4 W.heap.size [en1 w1.heap.size (.slice x0 p.gh.length y0) p.gh, en2 w2.heap.size (.slice x1 p.vs.length y1) p.vs, en3 w3.heap.size u2 p.ts]) := by
    obtain ⟨q1, q2, q3, q4⟩ := H3.out
    exact ⟨q1.trans (hb.mono q1.size), (hb.block _ (blk_lt q2)).trans q2, (hb.block _ (blk_lt q3)).trans q3, Ows.next q4 hb ho (blk_lt q2)⟩
  obtain ⟨x2, y2, z2⟩ := own_form ho
  subst z2
  refine hK.out _ _ (HX.out _ H4.out.1 H4.out.2.1) (fun hS => ?_)
  clear hK K ho hb HC2 H3
  refine wpAnyH_ready (rs := [11]) (by kernel_rfl) (by simp) ?_
  refine AllReadyH.cons rfl (fun K hK => ?_) AllReadyH.nil
  go_simp
  have HC3 : Hid (Calls Tryd.prog 19 #[.slice oo p.on.length oc] w4 fun e w' => ∃ v', e = .returned v' ∧ w'.ownsRow w4.heap.size 3 1 v' p.on.length (iC p.on) ∧ Below w4.heap.size w4 w') := cloneIt _ _ _ _ _ (len_iC _) (by have := HPg.out.2.2.2.2.1; omega) (HPg.out.1.on.below H4.out.1) (one_iC _)
  refine Calls.mono HC3.out ?_
  rintro e w5 ⟨u3, rfl, ho, hb⟩
  have H5 : Hid (Below W.heap.size W w5 ∧ w5.heap[W.heap.size]? = some (.cells #[.slice qo p.gh.length qc, .slice vo p.vs.length vc, .slice tto p.ts.length tc, .slice oo p.on.length oc, .int .i64 p.miss, .slice co p.cd.length cc] 29 (0, 0)) ∧ w5.heap[W.heap.size + 1]? = some (.cells #[.slice none 0 0, .slice none 0 0, .slice none 0 0, .slice none 0 0, .int .i64 0, .slice none 0 0] 29 (0, 0)) ∧ Ows w5 W.heap.size [en1 w1.heap.size (.slice x0 p.gh.length y0) p.gh, en2 w2.heap.size (.slice x1 p.vs.length y1) p.vs, en3 w3.heap.size (.slice x2 p.ts.length y2) p.ts, en3 w4.heap.size u3 p.on]) := by
    obtain ⟨q1, q2, q3, q4⟩ := H4.out
    exact ⟨q1.trans (hb.mono q1.size), (hb.block _ (blk_lt q2)).trans q2, (hb.block _ (blk_lt q3)).trans q3, Ows.next q4 hb ho (blk_lt q2)⟩
  obtain ⟨x3, y3, z3⟩ := own_form ho
  subst z3
  refine hK.out _ _ (HX.out _ H5.out.1 H5.out.2.1) (fun hS => ?_)
  clear hK K ho hb HC3 H4
  refine wpAnyH_ready (rs := [16]) (by kernel_rfl) (by simp) ?_
  refine AllReadyH.cons rfl (fun K hK => ?_) AllReadyH.nil
  go_simp
  have HC4 : Hid (Calls Tryd.prog 20 #[.slice co p.cd.length cc] w5 fun e w' => ∃ v', e = .returned v' ∧ w'.ownsRow w5.heap.size 64 5 v' p.cd.length (Vf.cC p.cd) ∧ Below w5.heap.size w5 w') := cloneIn _ _ _ _ _ (len_cC _) (by have := HPg.out.2.2.2.2.2; omega) (HPg.out.1.cd.below H5.out.1) (one_cC _)
  refine Calls.mono HC4.out ?_
  rintro e w6 ⟨u4, rfl, ho, hb⟩
  have H6 : Hid (Below W.heap.size W w6 ∧ w6.heap[W.heap.size]? = some (.cells #[.slice qo p.gh.length qc, .slice vo p.vs.length vc, .slice tto p.ts.length tc, .slice oo p.on.length oc, .int .i64 p.miss, .slice co p.cd.length cc] 29 (0, 0)) ∧ w6.heap[W.heap.size + 1]? = some (.cells #[.slice none 0 0, .slice none 0 0, .slice none 0 0, .slice none 0 0, .int .i64 0, .slice none 0 0] 29 (0, 0)) ∧ Ows w6 W.heap.size [en1 w1.heap.size (.slice x0 p.gh.length y0) p.gh, en2 w2.heap.size (.slice x1 p.vs.length y1) p.vs, en3 w3.heap.size (.slice x2 p.ts.length y2) p.ts, en3 w4.heap.size (.slice x3 p.on.length y3) p.on, en5 w5.heap.size u4 p.cd]) := by
    obtain ⟨q1, q2, q3, q4⟩ := H5.out
    exact ⟨q1.trans (hb.mono q1.size), (hb.block _ (blk_lt q2)).trans q2, (hb.block _ (blk_lt q3)).trans q3, Ows.next q4 hb ho (blk_lt q2)⟩
  obtain ⟨x4, y4, z4⟩ := own_form ho
  subst z4
  refine hK.out _ _ (HX.out _ H6.out.1 H6.out.2.1) (fun hS => ?_)
  clear hK K ho hb HC4 H5
  refine tqA 17 rfl hS ?_
  have HS6 : Hid ((fun w' : World => w'.cell? ⟨W.heap.size, 0, none⟩ = some (.slice qo p.gh.length qc) ∧ w'.cell? ⟨W.heap.size, 1, none⟩ = some (.slice vo p.vs.length vc) ∧ w'.cell? ⟨W.heap.size, 2, none⟩ = some (.slice tto p.ts.length tc) ∧ w'.cell? ⟨W.heap.size, 3, none⟩ = some (.slice oo p.on.length oc) ∧ w'.cell? ⟨W.heap.size, 4, none⟩ = some (.int .i64 p.miss) ∧ w'.cell? ⟨W.heap.size, 5, none⟩ = some (.slice co p.cd.length cc)) (w6.setRow (W.heap.size + 1) #[.slice x0 p.gh.length y0, .slice x1 p.vs.length y1, .slice x2 p.ts.length y2, .slice x3 p.on.length y3, .int .i64 p.miss, .slice x4 p.cd.length y4])) := HX.out _ (Cd.below_setRow H6.out.1 (by omega)) ((setRow_other w6 (W.heap.size + 1) W.heap.size _ (by omega)).trans H6.out.2.1)
  refine stA 18 (by kernel_rfl) rfl rfl 29 (.tmp 2) (.tmp 20) rfl (W.heap.size + 1) #[.slice x0 p.gh.length y0, .slice x1 p.vs.length y1, .slice x2 p.ts.length y2, .slice x3 p.on.length y3, .int .i64 p.miss, .slice x4 p.cd.length y4] (by go_simp) (by go_simp) 29 _ H6.out.2.2.1 (by kernel_rfl) rfl (by kernel_rfl) HS6.out (fun hS => ?_)
  have H7 : Hid (Below W.heap.size W (w6.setRow (W.heap.size + 1) #[.slice x0 p.gh.length y0, .slice x1 p.vs.length y1, .slice x2 p.ts.length y2, .slice x3 p.on.length y3, .int .i64 p.miss, .slice x4 p.cd.length y4]) ∧ (w6.setRow (W.heap.size + 1) #[.slice x0 p.gh.length y0, .slice x1 p.vs.length y1, .slice x2 p.ts.length y2, .slice x3 p.on.length y3, .int .i64 p.miss, .slice x4 p.cd.length y4]).heap[W.heap.size + 1]? = some (.cells #[.slice x0 p.gh.length y0, .slice x1 p.vs.length y1, .slice x2 p.ts.length y2, .slice x3 p.on.length y3, .int .i64 p.miss, .slice x4 p.cd.length y4] 29 (0, 0)) ∧ Own5 (w6.setRow (W.heap.size + 1) #[.slice x0 p.gh.length y0, .slice x1 p.vs.length y1, .slice x2 p.ts.length y2, .slice x3 p.on.length y3, .int .i64 p.miss, .slice x4 p.cd.length y4]) W.heap.size p (.slice x0 p.gh.length y0) (.slice x1 p.vs.length y1) (.slice x2 p.ts.length y2) (.slice x3 p.on.length y3) (.slice x4 p.cd.length y4)) := by
    obtain ⟨q1, q2, q3, q4⟩ := H6.out
    refine ⟨Cd.below_setRow q1 (by omega), setRow_heap _ _ _ _ _ _ q3, ⟨_, _, _, _, _, q4.keepR q3⟩⟩
  clear HS6 H6 HX
  generalize w6.setRow (W.heap.size + 1) #[.slice x0 p.gh.length y0, .slice x1 p.vs.length y1, .slice x2 p.ts.length y2, .slice x3 p.on.length y3, .int .i64 p.miss, .slice x4 p.cd.length y4] = w7 at *
  refine wpAnyH_done (by kernel_rfl) ?_ _
  clear hS
  go_simp
  obtain ⟨d0, d1, d2, d3, d4, d5⟩ := cells6 H7.out.2.1
  go_wp2_with fail
  refine bodyPost_ret (v := .agg #[.slice x0 p.gh.length y0, .slice x1 p.vs.length y1, .slice x2 p.ts.length y2, .slice x3 p.on.length y3, .int .i64 p.miss, .slice x4 p.cd.length y4]) (by simp [results, Tryd.results7, go_sem, d0, d1, d2, d3, d4, d5]) rfl ?_
  exact ⟨⟨x0, y0, x1, y1, x2, y2, x3, y3, x4, y4⟩, rfl, H7.out.2.2, H7.out.1⟩
end Go.Proofs.YtcblichnkakhdaaDoor.Cd

set_option linter.unusedSimpArgs false
namespace Go.Proofs.YtcblichnkakhdaaDoor.Cd
open Go.RowKit Go.Proofs.YtcblichnkakhdaaDoor.Nm Go.Proofs.YtcblichnkakhdaaDoor.Vf

/-- lists by their number, in blocks of their own, apart -/
structure Ap (w : World) (pb : Nat) (E : Nat → Option Ent) : Prop where
  ow : ∀ j x, E j = some x → pb < x.base ∧ w.ownsRow x.base x.T x.sz x.v x.n x.xs
  ap : ∀ i j x y, i ≠ j → E i = some x → E j = some y → ∀ k, x.v.ownBlock = some k → y.v.ownBlock ≠ some k
/-- a place of a function is turned -/
def up {α : Type} (f : Nat → α) (j : Nat) (v : α) : Nat → α := fun i => if i = j then v else f i
theorem up_same {α : Type} (f : Nat → α) (j : Nat) (v : α) : up f j v j = v := if_pos rfl
theorem up_ne {α : Type} {f : Nat → α} {i j : Nat} {v : α} (h : i ≠ j) : up f j v i = f i := if_neg h
theorem Ap.turn {w w' : World} {pb j : Nat} {E : Nat → Option Ent} {y : Ent} (h : Ap w pb E) (hy : pb < y.base ∧ w'.ownsRow y.base y.T y.sz y.v y.n y.xs) (hk : ∀ i x, i ≠ j → E i = some x → ∀ k, x.v.ownBlock = some k → w'.heap[k]? = w.heap[k]? ∧ y.v.ownBlock ≠ some k) : Ap w' pb (up E j (some y)) := by
  refine ⟨fun i x hx => ?_, fun i i2 x x2 hne hx hx2 k hb hb2 => ?_⟩
  · by_cases hi : i = j
    · subst hi
      rw [up_same] at hx
      cases hx
      exact hy
    · rw [up_ne hi] at hx
      exact ⟨(h.ow i x hx).1, own_keepB (h.ow i x hx).2 fun k e => (hk i x hi hx k e).1⟩
  · by_cases hi : i = j
    · subst hi
      rw [up_same] at hx
      cases hx
      rw [up_ne (Ne.symm hne)] at hx2
      exact (hk i2 x2 (Ne.symm hne) hx2 k hb2).2 hb
    · rw [up_ne hi] at hx
      by_cases hi2 : i2 = j
      · subst hi2
        rw [up_same] at hx2
        cases hx2
        exact (hk i x hi hx k hb).2 hb2
      · rw [up_ne hi2] at hx2
        exact h.ap i i2 x x2 hne hx hx2 k hb hb2
theorem Ap.build {w : World} {pb : Nat} {E : Nat → Option Ent} (h : Ap w pb E) (hp : pb < w.heap.size) (j : Nat) (T : TypeId) (sz : Nat) : Ap (w.alloc (.cells #[] T)) pb (up E j (some ⟨w.heap.size, T, sz, .slice (some ⟨w.heap.size, 0, none⟩) 0 0, 0, []⟩)) :=
  h.turn ⟨hp, World.ownsRow_made w #[] 0 (Nat.le_refl _) (Nat.zero_le _) (by simp)⟩ fun i x hi hx k hk => by
    have h1 := (World.ownsRow.lt (h.ow i x hx).2 k hk).2
    refine ⟨heap_alloc_old w _ h1, fun e => ?_⟩
    have e2 : w.heap.size = k := Option.some.inj e
    omega
theorem Ap.app {w w' : World} {pb j n' : Nat} {E : Nat → Option Ent} {x : Ent} {v' : Value} {xs' : List Value} (h : Ap w pb E) (hx : E j = some x) (hg : w.grownBy w' x.v.ownBlock) (ho : w'.ownsRow x.base x.T x.sz v' n' xs') (hb : v'.ownBlock = x.v.ownBlock ∨ v'.ownBlock = some w.heap.size) : Ap w' pb (up E j (some ⟨x.base, x.T, x.sz, v', n', xs'⟩)) :=
  h.turn ⟨(h.ow j x hx).1, ho⟩ fun i y hi hy k hk => by
    have h1 := (World.ownsRow.lt (h.ow i y hy).2 k hk).2
    have h2 : some k ≠ x.v.ownBlock := fun e => h.ap i j y x hi hy hx k hk e.symm
    refine ⟨hg.block k h1 h2, fun e => ?_⟩
    have e' : v'.ownBlock = some k := e
    rcases hb with hb | hb
    · exact h2 (e'.symm.trans hb)
    · rw [e'] at hb
      have := Option.some.inj hb
      omega
/-- append of a slice that may be nil, to an owned row -/
theorem run_appC {P : Program} (w : World) (base : Nat) (t ty e : TypeId) (i : TypeInfo) (z : Value) (size bytes : Nat) (ht : P.underlying t = some (.slice e)) (hi : P.info? e = some i) (hz : i.zero = some z)
    (hsize : i.size = size) (hby : i.bytes = bytes) (hzs : z.cells.size = size) (hsz : 0 < size)
    (v : Value) (n : Nat) (xs : List Value) (hown : w.ownsRow base e size v n xs)
    (ao : Option Addr) (m c : Nat) (news : List Value) (hl : news.length = m * size) (hr : Vf.Rd w ao news) (h1 : ∀ u ∈ news, u.oneCell' = true)
    (h63 : n + m ≤ maxLen) (hbytes : (n + m) * bytes ≤ 140737488355328) (hbase : base ≤ w.heap.size) :
    ∃ v' w', (Builtin.append_ #[t, t] ty #[v, .slice ao m c]).run P w = .ok v' w' ∧ w'.ownsRow base e size v' (n + m) (xs ++ news) ∧ w.grownBy w' v.ownBlock ∧ (v'.ownBlock = v.ownBlock ∨ v'.ownBlock = some w.heap.size) := by
  cases ao with
  | some ad =>
    have hnews : ∀ j u, news[j]? = some u → w.cell? (ad.add j) = some u := fun j u hj => by
      obtain ⟨g, f, e1, hlt, hc⟩ := hr j u hj
      cases e1
      rw [Lib.addr_add]
      exact hc
    obtain ⟨v', w', hr, h2, h3, _, h5⟩ := run_append_own_at (P := P) w base t ty e i z size bytes ht hi hz hsize hby hzs hsz v n xs hown ad m c news hl hnews h1 h63 hbytes hbase
    exact ⟨v', w', hr, h2, h3, h5⟩
  | none =>
    have he : news = [] := by
      cases hn : news with
      | nil => rfl
      | cons x l =>
        obtain ⟨g, f, e1, -, -⟩ := hr 0 x (by rw [hn]; rfl)
        cases e1
    subst he
    have hm : m = 0 := by
      rcases Nat.eq_zero_or_pos m with h | h
      · exact h
      · have := Nat.mul_pos h hsz
        simp at hl
        omega
    subst hm
    have hrun : (Builtin.append_ #[t, t] ty #[v, .slice none 0 c]).run P w = .ok v w := by
      rcases hown.2 with ⟨rfl, rfl⟩ | ⟨g, cap, cur, rfl, _, _, hnc, _⟩
      · simp [Builtin.append_, run_underlying ht, sizeOf, typeInfo, hi, Builtin.lenOf, Builtin.firstCells]
      · simp [Builtin.append_, run_underlying ht, sizeOf, typeInfo, hi, Builtin.lenOf, Builtin.firstCells, hnc, storeCells]
    exact ⟨v, w, hrun, by simpa using hown, ⟨rfl, rfl, rfl, Nat.le_refl _, fun _ _ _ => rfl⟩, Or.inl rfl⟩
/-- the same, as one step of a region that draws -/
theorem step_appC {P : Program} (w : World) {ops : Array Oper} {o : Oper} {a : Act} {K : Act → World → Prop} {Q : Exit → Act → World → Prop} {F : Prop} (hgd : o.guard = none) (s x : Operand) (t : TypeId)
    (ho : o.op = .call { callee := .builtin .append, args := #[s, x], argTypes := #[t, t] })
    {e : TypeId} {z : Value} {size bytes : Nat} (ht : P.underlying t = some (.slice e)) (hinfo : (P.info? e).map (fun i => (i.zero, i.size, i.bytes)) = some (some z, size, bytes)) (hzs : z.cells.size = size) (hsz : 0 < size)
    {base : Nat} {v : Value} {n : Nat} {xs : List Value} (hs : a.eval s = v) (hown : w.ownsRow base e size v n xs) (hbase : base ≤ w.heap.size)
    (ao : Option Addr) (m c : Nat) (news : List Value) (hx : a.eval x = .slice ao m c) (hl : news.length = m * size) (hr : Vf.Rd w ao news) (h1 : ∀ u ∈ news, u.oneCell' = true)
    (h63 : n + m ≤ maxLen) (hbytes : (n + m) * bytes ≤ 140737488355328)
    (h : ∀ v' w', w'.ownsRow base e size v' (n + m) (xs ++ news) → w.grownBy w' v.ownBlock → (v'.ownBlock = v.ownBlock ∨ v'.ownBlock = some w.heap.size) → K (a.put o.dst v') w') : if Region.wanted o (yielded ops a.tmps) = true then Oper.wp P o a w K Q else F := by
  have hw : Region.wanted o (yielded ops a.tmps) = true := by simp [Region.wanted, hgd]
  rw [if_pos hw]
  obtain ⟨i, hi, hz0, hz1, hz2⟩ := info_parts hinfo
  obtain ⟨v', w', hr, h2, h3, h4⟩ := run_appC (P := P) w base t o.type e i z size bytes ht hi hz0 hz1 hz2 hzs hsz v n xs hown ao m c news hl hr h1 h63 hbytes hbase
  unfold Oper.wp execOp
  simp only [ho, resolve, invoke, builtin, Sem.run_bind, Sem.run_pure, Result.andThen_ok, List.map_toArray, List.map_cons, List.map_nil, hs, hx, hr]
  exact h v' w' h2 h3 h4
/-- a slice of none, as one step of a region that draws -/
theorem step_bs0 {P : Program} (w : World) {ops : Array Oper} {o : Oper} {a : Act} {K : Act → World → Prop} {Q : Exit → Act → World → Prop} {F : Prop} (hgd : o.guard = none) (t : TypeId) (ho : o.op = .buildSlice t 0 #[])
    {e : TypeId} {z : Value} {size bytes : Nat} (ht : P.underlying t = some (.slice e)) (hinfo : (P.info? e).map (fun i => (i.zero, i.size, i.bytes)) = some (some z, size, bytes))
    (h : K (a.put o.dst (.slice (some ⟨w.heap.size, 0, none⟩) 0 0)) (w.alloc (.cells #[] e))) : if Region.wanted o (yielded ops a.tmps) = true then Oper.wp P o a w K Q else F := by
  have hw : Region.wanted o (yielded ops a.tmps) = true := by simp [Region.wanted, hgd]
  rw [if_pos hw]
  obtain ⟨i, hi, hz0, hz1, hz2⟩ := info_parts hinfo
  have hr : (Instr.buildSlice t 0 #[]).run P w = .ok (.slice (some ⟨w.heap.size, 0, none⟩) 0 0) (w.alloc (.cells #[] e)) := by
    simp [Instr.buildSlice, run_underlying ht, sizeOf, typeInfo, hi, Instr.fill, newRow, newObj]
    rw [show Array.range 0 = #[] from Array.eq_empty_of_size_eq_zero (by simp), Array.map_empty]
    rfl
  unfold Oper.wp execOp
  simp only [ho, Sem.run_bind, Sem.run_pure, Result.andThen_ok, List.map_toArray, List.map_nil, Array.map_empty, hr]
  exact h
section
variable {P : Program} {ops : Array Oper} {Q : Exit → Act → World → Prop} {md : Region.Mode} {S : World → Prop}
theorem ready_ne {l : Array Bool} (i : Nat) (hi : i < ops.size) (h : (!l.getD i true && ((ops[i]?).map (·.after.all fun e => !Region.binds md e || l.getD e.on false)).getD false) = true) : Region.ready md ops l ≠ [] := fun e => by
  have h2 : i ∈ Region.ready md ops l := List.mem_filter.2 ⟨List.mem_range.2 hi, h⟩
  rw [e] at h2
  cases h2
theorem ready_on {l : Array Bool} {i : Nat} (h : i ∈ Region.ready md ops l) : l.getD i true = false ∧ ∀ e ∈ ((ops[i]?).map (·.after.toList)).getD [], Region.binds md e = true → l.getD e.on false = true := by
  obtain ⟨h1, o, ho, h2⟩ := mem_ready.1 h
  refine ⟨h1, fun e he hb => h2 e ?_ hb⟩
  rw [ho] at he
  exact Array.mem_toList_iff.1 he
/-- A REGION BY WHAT HAS COME UP: two rows of marks; what is told holds whatever came up; the last state goes on. -/
theorem held_bc (L : (Nat → Bool) → (Nat → Bool) → Array Bool) (cnt : (Nat → Bool) → (Nat → Bool) → Nat) (I : (Nat → Bool) → (Nat → Bool) → Act → World → Prop) (f0 : Nat)
    (hend : ∀ b c a w, cnt b c = 0 → I b c a w → wpAnyH P md ops Q S f0 (L b c) a w)
    (hne : ∀ b c, cnt b c ≠ 0 → Region.ready md ops (L b c) ≠ [])
    (hstep : ∀ b c a w i, cnt b c ≠ 0 → I b c a w → i ∈ Region.ready md ops (L b c) → ∃ b' c', L b' c' = (L b c).setIfInBounds i true ∧ cnt b' c' + 1 = cnt b c ∧ wpOp P ops Q i (fun a' w' => S w' ∧ I b' c' a' w') a w) :
    ∀ n b c a w, cnt b c = n → I b c a w → wpAnyH P md ops Q S (n + f0) (L b c) a w := by
  intro n
  induction n with
  | zero =>
    intro b c a w hc hI
    rw [Nat.zero_add]
    exact hend b c a w hc hI
  | succ n ih =>
    intro b c a w hc hI
    rw [show n + 1 + f0 = (n + f0) + 1 by omega]
    refine wpAnyH_all rfl (hne b c (by omega)) fun i hi => ?_
    obtain ⟨b', c', h1, h2, h3⟩ := hstep b c a w i (by omega) hI hi
    rw [← h1]
    exact wpOp_mono (fun a' w' h => ⟨h.1, ih b' c' a' w' (by omega) h.2⟩) h3
theorem held_go {b c : Nat → Bool} {n fuel : Nat} {listed : Array Bool} {a : Act} {w : World} (L : (Nat → Bool) → (Nat → Bool) → Array Bool) (cnt : (Nat → Bool) → (Nat → Bool) → Nat) (I : (Nat → Bool) → (Nat → Bool) → Act → World → Prop) (f0 : Nat)
    (hl : listed = L b c) (hc : cnt b c = n) (hf : fuel = n + f0) (hI : I b c a w)
    (hend : ∀ b c a w, cnt b c = 0 → I b c a w → wpAnyH P md ops Q S f0 (L b c) a w)
    (hne : ∀ b c, cnt b c ≠ 0 → Region.ready md ops (L b c) ≠ [])
    (hstep : ∀ b c a w i, cnt b c ≠ 0 → I b c a w → i ∈ Region.ready md ops (L b c) → ∃ b' c', L b' c' = (L b c).setIfInBounds i true ∧ cnt b' c' + 1 = cnt b c ∧ wpOp P ops Q i (fun a' w' => S w' ∧ I b' c' a' w') a w) : wpAnyH P md ops Q S fuel listed a w := by
  subst hl
  subst hf
  exact held_bc L cnt I f0 hend hne hstep n b c a w hc hI
end
/-- what has come up, by the marks of the five slices of none and of the five appends -/
def lT (b c : Nat → Bool) : Array Bool := #[b 0, true, true, c 0, b 1, true, true, c 1, b 2, true, true, c 2, b 3, true, true, c 3, true, true, b 4, true, true, c 4, false, false]
def cnT (b c : Nat → Bool) : Nat := (cond (b 0) 0 1 + cond (c 0) 0 1) + (cond (b 1) 0 1 + cond (c 1) 0 1) + (cond (b 2) 0 1 + cond (c 2) 0 1) + (cond (b 3) 0 1 + cond (c 3) 0 1) + (cond (b 4) 0 1 + cond (c 4) 0 1)
theorem cnT_b {b c : Nat → Bool} {j : Nat} (hj : j < 5) (h : b j = false) : cnT (up b j true) c + 1 = cnT b c := by
  unfold cnT
  match j, hj with
  | 0, _ => rw [up_same, up_ne (by omega), up_ne (by omega), up_ne (by omega), up_ne (by omega), h]; simp only [cond_true, cond_false]; omega
  | 1, _ => rw [up_same, up_ne (by omega), up_ne (by omega), up_ne (by omega), up_ne (by omega), h]; simp only [cond_true, cond_false]; omega
  | 2, _ => rw [up_same, up_ne (by omega), up_ne (by omega), up_ne (by omega), up_ne (by omega), h]; simp only [cond_true, cond_false]; omega
  | 3, _ => rw [up_same, up_ne (by omega), up_ne (by omega), up_ne (by omega), up_ne (by omega), h]; simp only [cond_true, cond_false]; omega
  | 4, _ => rw [up_same, up_ne (by omega), up_ne (by omega), up_ne (by omega), up_ne (by omega), h]; simp only [cond_true, cond_false]; omega
theorem cnT_c {b c : Nat → Bool} {j : Nat} (hj : j < 5) (h : c j = false) : cnT b (up c j true) + 1 = cnT b c := by
  unfold cnT
  match j, hj with
  | 0, _ => rw [up_same, up_ne (by omega), up_ne (by omega), up_ne (by omega), up_ne (by omega), h]; simp only [cond_true, cond_false]; omega
  | 1, _ => rw [up_same, up_ne (by omega), up_ne (by omega), up_ne (by omega), up_ne (by omega), h]; simp only [cond_true, cond_false]; omega
  | 2, _ => rw [up_same, up_ne (by omega), up_ne (by omega), up_ne (by omega), up_ne (by omega), h]; simp only [cond_true, cond_false]; omega
  | 3, _ => rw [up_same, up_ne (by omega), up_ne (by omega), up_ne (by omega), up_ne (by omega), h]; simp only [cond_true, cond_false]; omega
  | 4, _ => rw [up_same, up_ne (by omega), up_ne (by omega), up_ne (by omega), up_ne (by omega), h]; simp only [cond_true, cond_false]; omega
theorem cnT_0 {b c : Nat → Bool} (h : cnT b c = 0) : (b 0 = true ∧ b 1 = true ∧ b 2 = true ∧ b 3 = true ∧ b 4 = true) ∧ c 0 = true ∧ c 1 = true ∧ c 2 = true ∧ c 3 = true ∧ c 4 = true := by
  unfold cnT at h
  cases h0 : b 0 <;> cases h1 : c 0 <;> rw [h0, h1] at h <;> simp only [cond_true, cond_false] at h <;> first | omega | skip
  cases h2 : b 1 <;> cases h3 : c 1 <;> rw [h2, h3] at h <;> simp only [cond_true, cond_false] at h <;> first | omega | skip
  cases h4 : b 2 <;> cases h5 : c 2 <;> rw [h4, h5] at h <;> simp only [cond_true, cond_false] at h <;> first | omega | skip
  cases h6 : b 3 <;> cases h7 : c 3 <;> rw [h6, h7] at h <;> simp only [cond_true, cond_false] at h <;> first | omega | skip
  cases h8 : b 4 <;> cases h9 : c 4 <;> rw [h8, h9] at h <;> simp only [cond_true, cond_false] at h <;> first | omega | skip
  exact ⟨⟨rfl, rfl, rfl, rfl, rfl⟩, rfl, rfl, rfl, rfl, rfl⟩
section
variable (T : Nat → TypeId) (sz ln : Nat → Nat) (xs : Nat → List Value)
/-- what is told of the lists in a state -/
def Fa (b c : Nat → Bool) (s u : Nat → Value) (E : Nat → Option Ent) : Prop := ∀ j, j < 5 → (b j = true → c j = false → ∃ g, E j = some ⟨g, T j, sz j, s j, 0, []⟩ ∧ (s j).ownBlock = some g) ∧ (c j = true → b j = true ∧ ∃ g, E j = some ⟨g, T j, sz j, u j, ln j, xs j⟩)
variable {T sz ln xs}
theorem Fa.build {b c : Nat → Bool} {s u : Nat → Value} {E : Nat → Option Ent} (h : Fa T sz ln xs b c s u E) {j : Nat} (hj : j < 5) (hb : b j = false) (g : Nat) (v : Value) (hv : v.ownBlock = some g) : Fa T sz ln xs (up b j true) c (up s j v) u (up E j (some ⟨g, T j, sz j, v, 0, []⟩)) := by
  intro i hi
  by_cases hij : i = j
  · subst hij
    rw [up_same, up_same, up_same]
    exact ⟨fun _ _ => ⟨g, rfl, hv⟩, fun e => absurd ((h i hi).2 e).1 (by rw [hb]; decide)⟩
  · rw [up_ne hij, up_ne hij, up_ne hij]
    exact h i hi
theorem Fa.app {b c : Nat → Bool} {s u : Nat → Value} {E : Nat → Option Ent} (h : Fa T sz ln xs b c s u E) {j : Nat} (hj : j < 5) (hb : b j = true) (g : Nat) (v : Value) : Fa T sz ln xs b (up c j true) s (up u j v) (up E j (some ⟨g, T j, sz j, v, ln j, xs j⟩)) := by
  intro i hi
  by_cases hij : i = j
  · subst hij
    rw [up_same, up_same, up_same]
    exact ⟨fun _ e => absurd e (by decide), fun _ => ⟨hb, g, rfl⟩⟩
  · rw [up_ne hij, up_ne hij, up_ne hij]
    exact h i hi
end

set_option maxHeartbeats 12800000 in
set_option maxRecDepth 100000 in
/-- the reference's Twin -/
theorem rtwin_any (v : PV) (p : Pg) (W : World) (hP : IsPg W v p) (hW : Wgh p) : Calls Tryd.prog 6 #[.agg (pvC v p)] W fun e W' => ∃ u : PV, e = .returned (.agg (pvC u p)) ∧ Own5 W' W.heap.size p (.slice u.qo p.gh.length u.qc) (.slice u.vo p.vs.length u.vc) (.slice u.to p.ts.length u.tc) (.slice u.oo p.on.length u.oc) (.slice u.co p.cd.length u.cc) ∧ Below W.heap.size W W' := by
  obtain ⟨qo, qc, vo, vc, tto, tc, oo, oc, co, cc⟩ := v
  have HPg : Hid (IsPg W ⟨qo, qc, vo, vc, tto, tc, oo, oc, co, cc⟩ p ∧ Wgh p) := ⟨hP, hW⟩
  clear hP hW
  show Calls _ _ #[.agg #[.slice qo p.gh.length qc, .slice vo p.vs.length vc, .slice tto p.ts.length tc, .slice oo p.on.length oc, .int .i64 p.miss, .slice co p.cd.length cc]] _ _
  have H0 := show Hid _ from two_prg W #[.slice qo p.gh.length qc, .slice vo p.vs.length vc, .slice tto p.ts.length tc, .slice oo p.on.length oc, .int .i64 p.miss, .slice co p.cd.length cc] #[.slice none 0 0, .slice none 0 0, .slice none 0 0, .slice none 0 0, .int .i64 0, .slice none 0 0]
  go_enter Tryd.func6, Tryd.ntmps6
  go_upto_region 1 with fail
  have HSz : Hid (((W.alloc (.cells #[.slice qo p.gh.length qc, .slice vo p.vs.length vc, .slice tto p.ts.length tc, .slice oo p.on.length oc, .int .i64 p.miss, .slice co p.cd.length cc] 29)).alloc (.cells #[.slice none 0 0, .slice none 0 0, .slice none 0 0, .slice none 0 0, .int .i64 0, .slice none 0 0] 29)).heap.size = W.heap.size + 2) := by
    show ((W.heap.push _).push _).size = _
    rw [Array.size_push, Array.size_push]
  generalize ((W.alloc (.cells #[.slice qo p.gh.length qc, .slice vo p.vs.length vc, .slice tto p.ts.length tc, .slice oo p.on.length oc, .int .i64 p.miss, .slice co p.cd.length cc] 29)).alloc (.cells #[.slice none 0 0, .slice none 0 0, .slice none 0 0, .slice none 0 0, .int .i64 0, .slice none 0 0] 29)) = w0 at *
  have HX : Hid (∀ X, X.heap[W.heap.size]? = some (.cells #[.slice qo p.gh.length qc, .slice vo p.vs.length vc, .slice tto p.ts.length tc, .slice oo p.on.length oc, .int .i64 p.miss, .slice co p.cd.length cc] 29 (0, 0)) → (fun w' : World => w'.cell? ⟨W.heap.size, 0, none⟩ = some (.slice qo p.gh.length qc) ∧ w'.cell? ⟨W.heap.size, 1, none⟩ = some (.slice vo p.vs.length vc) ∧ w'.cell? ⟨W.heap.size, 2, none⟩ = some (.slice tto p.ts.length tc) ∧ w'.cell? ⟨W.heap.size, 3, none⟩ = some (.slice oo p.on.length oc) ∧ w'.cell? ⟨W.heap.size, 4, none⟩ = some (.int .i64 p.miss) ∧ w'.cell? ⟨W.heap.size, 5, none⟩ = some (.slice co p.cd.length cc)) X) := fun X hb => cells6 hb
  refine wp_region_held (S := fun w' : World => w'.cell? ⟨W.heap.size, 0, none⟩ = some (.slice qo p.gh.length qc) ∧ w'.cell? ⟨W.heap.size, 1, none⟩ = some (.slice vo p.vs.length vc) ∧ w'.cell? ⟨W.heap.size, 2, none⟩ = some (.slice tto p.ts.length tc) ∧ w'.cell? ⟨W.heap.size, 3, none⟩ = some (.slice oo p.on.length oc) ∧ w'.cell? ⟨W.heap.size, 4, none⟩ = some (.int .i64 p.miss) ∧ w'.cell? ⟨W.heap.size, 5, none⟩ = some (.slice co p.cd.length cc)) (by kernel_rfl) ?_
  change wpAnyH _ _ _ _ _ _ _ _ w0.drew
  have H1 : Hid (Below W.heap.size W w0.drew ∧ w0.drew.heap[W.heap.size]? = some (.cells #[.slice qo p.gh.length qc, .slice vo p.vs.length vc, .slice tto p.ts.length tc, .slice oo p.on.length oc, .int .i64 p.miss, .slice co p.cd.length cc] 29 (0, 0)) ∧ w0.drew.heap[W.heap.size + 1]? = some (.cells #[.slice none 0 0, .slice none 0 0, .slice none 0 0, .slice none 0 0, .int .i64 0, .slice none 0 0] 29 (0, 0)) ∧ w0.drew.heap.size = W.heap.size + 2) := ⟨H0.out.1.drew, H0.out.2.1, H0.out.2.2, HSz.out⟩
  have hS := HX.out w0.drew H1.out.2.1
  clear H0 HSz
  generalize w0.drew = w1 at *
  refine tqA 1 rfl hS ?_
  refine tqA 2 rfl hS ?_
  refine tqA 5 rfl hS ?_
  refine tqA 6 rfl hS ?_
  refine tqA 9 rfl hS ?_
  refine tqA 10 rfl hS ?_
  refine tqA 13 rfl hS ?_
  refine tqA 14 rfl hS ?_
  refine tqA 16 rfl hS ?_
  refine tqA 17 rfl hS ?_
  refine tqA 19 rfl hS ?_
  refine tqA 20 rfl hS ?_
  obtain ⟨T, hT⟩ : ∃ T : Nat → TypeId, T = (fun | 0 => 4 | 1 => 60 | 2 => 3 | 3 => 3 | _ => 64 : Nat → TypeId) := ⟨_, rfl⟩
  obtain ⟨sz, hsz⟩ : ∃ sz : Nat → Nat, sz = (fun | 0 => 1 | 1 => 3 | 2 => 1 | 3 => 1 | _ => 5 : Nat → Nat) := ⟨_, rfl⟩
  obtain ⟨ln, hln⟩ : ∃ ln : Nat → Nat, ln = (fun | 0 => p.gh.length | 1 => p.vs.length | 2 => p.ts.length | 3 => p.on.length | _ => p.cd.length : Nat → Nat) := ⟨_, rfl⟩
  obtain ⟨xs, hxs⟩ : ∃ xs : Nat → List Value, xs = (fun | 0 => bC p.gh | 1 => vC p.vs | 2 => iC p.ts | 3 => iC p.on | _ => Vf.cC p.cd : Nat → List Value) := ⟨_, rfl⟩
  obtain ⟨A, hA⟩ : ∃ A : (Nat → Value) → (Nat → Value) → Act, A = fun s u => ⟨#[.agg #[.slice qo p.gh.length qc, .slice vo p.vs.length vc, .slice tto p.ts.length tc, .slice oo p.on.length oc, .int .i64 p.miss, .slice co p.cd.length cc], .pointer (some ⟨W.heap.size, 0, none⟩), .pointer (some ⟨W.heap.size + 1, 0, none⟩), s 0, .pointer (some ⟨W.heap.size, 0, none⟩), .slice qo p.gh.length qc, u 0, s 1, .pointer (some ⟨W.heap.size, 1, none⟩), .slice vo p.vs.length vc, u 1, s 2, .pointer (some ⟨W.heap.size, 2, none⟩), .slice tto p.ts.length tc, u 2, s 3, .pointer (some ⟨W.heap.size, 3, none⟩), .slice oo p.on.length oc, u 3, .pointer (some ⟨W.heap.size, 4, none⟩), .int .i64 p.miss, s 4, .pointer (some ⟨W.heap.size, 5, none⟩), .slice co p.cd.length cc, u 4, undef], []⟩ := ⟨_, rfl⟩
  obtain ⟨I, hI⟩ : ∃ I : (Nat → Bool) → (Nat → Bool) → Act → World → Prop, I = fun b c a w => ∃ s u E, a = A s u ∧ Below w1.heap.size w1 w ∧ Ap w (W.heap.size + 1) E ∧ Fa T sz ln xs b c s u E := ⟨_, rfl⟩
  have HK : Hid (∀ w, Below w1.heap.size w1 w → (fun w' : World => w'.cell? ⟨W.heap.size, 0, none⟩ = some (.slice qo p.gh.length qc) ∧ w'.cell? ⟨W.heap.size, 1, none⟩ = some (.slice vo p.vs.length vc) ∧ w'.cell? ⟨W.heap.size, 2, none⟩ = some (.slice tto p.ts.length tc) ∧ w'.cell? ⟨W.heap.size, 3, none⟩ = some (.slice oo p.on.length oc) ∧ w'.cell? ⟨W.heap.size, 4, none⟩ = some (.int .i64 p.miss) ∧ w'.cell? ⟨W.heap.size, 5, none⟩ = some (.slice co p.cd.length cc)) w) := fun w hb => HX.out w ((hb.block _ (by rw [H1.out.2.2.2]; omega)).trans H1.out.2.1)
  refine held_go (b := fun _ => false) (c := fun _ => false) (n := 10) lT cnT I 2 (by kernel_rfl) (by kernel_rfl) (by kernel_rfl) ?hstart ?hend ?hne ?hstep
  case hstart =>
    rw [hI]
    exact ⟨fun _ => undef, fun _ => undef, fun _ => none, by rw [hA]; kernel_rfl, Below.refl _ _, ⟨fun _ _ e => absurd e (by simp), fun _ _ _ _ _ e => absurd e (by simp)⟩, fun j hj => ⟨fun e => absurd (show false = true from e) (by decide), fun e => absurd (show false = true from e) (by decide)⟩⟩
  case hne =>
    intro b c hc
    cases b0 : b 0 with
    | false =>
      rw [show lT b c = #[false, true, true, c 0, b 1, true, true, c 1, b 2, true, true, c 2, b 3, true, true, c 3, true, true, b 4, true, true, c 4, false, false] by unfold lT; rw [b0]]
      exact ready_ne 0 (of_decide_eq_true (by kernel_rfl)) (by kernel_rfl)
    | true => ?_
    cases b1 : b 1 with
    | false =>
      rw [show lT b c = #[b 0, true, true, c 0, false, true, true, c 1, b 2, true, true, c 2, b 3, true, true, c 3, true, true, b 4, true, true, c 4, false, false] by unfold lT; rw [b1]]
      exact ready_ne 4 (of_decide_eq_true (by kernel_rfl)) (by kernel_rfl)
    | true => ?_
    cases b2 : b 2 with
    | false =>
      rw [show lT b c = #[b 0, true, true, c 0, b 1, true, true, c 1, false, true, true, c 2, b 3, true, true, c 3, true, true, b 4, true, true, c 4, false, false] by unfold lT; rw [b2]]
      exact ready_ne 8 (of_decide_eq_true (by kernel_rfl)) (by kernel_rfl)
    | true => ?_
    cases b3 : b 3 with
    | false =>
      rw [show lT b c = #[b 0, true, true, c 0, b 1, true, true, c 1, b 2, true, true, c 2, false, true, true, c 3, true, true, b 4, true, true, c 4, false, false] by unfold lT; rw [b3]]
      exact ready_ne 12 (of_decide_eq_true (by kernel_rfl)) (by kernel_rfl)
    | true => ?_
    cases b4 : b 4 with
    | false =>
      rw [show lT b c = #[b 0, true, true, c 0, b 1, true, true, c 1, b 2, true, true, c 2, b 3, true, true, c 3, true, true, false, true, true, c 4, false, false] by unfold lT; rw [b4]]
      exact ready_ne 18 (of_decide_eq_true (by kernel_rfl)) (by kernel_rfl)
    | true => ?_
    cases c0 : c 0 with
    | false =>
      rw [show lT b c = #[true, true, true, false, b 1, true, true, c 1, b 2, true, true, c 2, b 3, true, true, c 3, true, true, b 4, true, true, c 4, false, false] by unfold lT; rw [b0, c0]]
      exact ready_ne 3 (of_decide_eq_true (by kernel_rfl)) (by kernel_rfl)
    | true => ?_
    cases c1 : c 1 with
    | false =>
      rw [show lT b c = #[b 0, true, true, true, true, true, true, false, b 2, true, true, c 2, b 3, true, true, c 3, true, true, b 4, true, true, c 4, false, false] by unfold lT; rw [b1, c1, c0]]
      exact ready_ne 7 (of_decide_eq_true (by kernel_rfl)) (by kernel_rfl)
    | true => ?_
    cases c2 : c 2 with
    | false =>
      rw [show lT b c = #[b 0, true, true, c 0, b 1, true, true, true, true, true, true, false, b 3, true, true, c 3, true, true, b 4, true, true, c 4, false, false] by unfold lT; rw [b2, c2, c1]]
      exact ready_ne 11 (of_decide_eq_true (by kernel_rfl)) (by kernel_rfl)
    | true => ?_
    cases c3 : c 3 with
    | false =>
      rw [show lT b c = #[b 0, true, true, c 0, b 1, true, true, c 1, b 2, true, true, true, true, true, true, false, true, true, b 4, true, true, c 4, false, false] by unfold lT; rw [b3, c3, c2]]
      exact ready_ne 15 (of_decide_eq_true (by kernel_rfl)) (by kernel_rfl)
    | true => ?_
    cases c4 : c 4 with
    | false =>
      rw [show lT b c = #[b 0, true, true, c 0, b 1, true, true, c 1, b 2, true, true, c 2, b 3, true, true, true, true, true, true, true, true, false, false, false] by unfold lT; rw [b4, c4, c3]]
      exact ready_ne 21 (of_decide_eq_true (by kernel_rfl)) (by kernel_rfl)
    | true => ?_
    exact absurd (by unfold cnT; rw [b0, b1, b2, b3, b4, c0, c1, c2, c3, c4]; rfl) hc
  case hstep =>
    clear hS
    intro b c a w i hc hIl hr
    rw [hI] at hIl ⊢
    obtain ⟨s, u, E, rfl, hb, hE, hF⟩ := hIl
    obtain ⟨hrf, hro⟩ := ready_on hr
    have HSb : Hid (∀ b k, W.heap.size + 1 < b → b ≤ k → k ≥ w1.heap.size) := fun b k h1 h2 => by rw [H1.out.2.2.2]; omega
    have hpw : W.heap.size + 1 < w.heap.size := by have := hb.size; have := H1.out.2.2.2; omega
    have hb2 : ∀ T, Below w1.heap.size w1 (w.alloc (.cells #[] T)) := fun T => hb.trans ((Below.refl _ w).alloc hb.size _)
    have hbl : ∀ (g : Nat) (v : Value) (w' : World), W.heap.size + 1 < g → v.ownBlock = some g → g < w.heap.size → w.grownBy w' v.ownBlock → Below w1.heap.size w1 w' := fun g v w' hg1 hob hg2 hg => ⟨hg.os.trans hb.os, hg.tape.trans hb.tape, hg.output.trans hb.output, Nat.le_trans hb.size hg.size, fun k hk => (hg.block k (by have := hb.size; omega) (fun e => by
        have e2 : k = g := Option.some.inj (e.trans hob)
        have := HSb.out g k hg1 (by omega)
        omega)).trans (hb.block k hk)⟩
    clear hI hr
    have hi24 : i < 24 := by
      rcases Nat.lt_or_ge i 24 with h | h
      · exact h
      · have e : (lT b c).getD i true = true := by
          rw [Array.getD_eq_getD_getElem?, Array.getElem?_eq_none (by exact h)]
          rfl
        rw [e] at hrf
        cases hrf
    have hi : i = 0 ∨ i = 4 ∨ i = 8 ∨ i = 12 ∨ i = 18 ∨ i = 3 ∨ i = 7 ∨ i = 11 ∨ i = 15 ∨ i = 21 ∨ i = 22 ∨ i = 23 ∨ i = 1 ∨ i = 2 ∨ i = 5 ∨ i = 6 ∨ i = 9 ∨ i = 10 ∨ i = 13 ∨ i = 14 ∨ i = 16 ∨ i = 17 ∨ i = 19 ∨ i = 20 := by omega
    clear hi24
    rcases hi with rfl | rfl | rfl | rfl | rfl | rfl | rfl | rfl | rfl | rfl | rfl | rfl | hi
    · refine ⟨up b 0 true, c, rfl, cnT_b (by omega) hrf, wpOp_step rfl fun K' hK => ?_⟩
      refine step_bs0 w rfl 24 rfl Tryd.underlying24 infoBo ?_
      refine hK _ _ ⟨HK.out _ (hb2 _), up s 0 (.slice (some ⟨w.heap.size, 0, none⟩) 0 0), u, _, ?_, hb2 _, hE.build hpw 0 4 1, ?_⟩
      · rw [hA]
        rfl
      · subst hT hsz hln hxs
        exact hF.build (by omega) hrf _ _ rfl
    · refine ⟨up b 1 true, c, rfl, cnT_b (by omega) hrf, wpOp_step rfl fun K' hK => ?_⟩
      refine step_bs0 w rfl 25 rfl Tryd.underlying25 infoVa ?_
      refine hK _ _ ⟨HK.out _ (hb2 _), up s 1 (.slice (some ⟨w.heap.size, 0, none⟩) 0 0), u, _, ?_, hb2 _, hE.build hpw 1 60 3, ?_⟩
      · rw [hA]
        rfl
      · subst hT hsz hln hxs
        exact hF.build (by omega) hrf _ _ rfl
    · refine ⟨up b 2 true, c, rfl, cnT_b (by omega) hrf, wpOp_step rfl fun K' hK => ?_⟩
      refine step_bs0 w rfl 26 rfl Tryd.underlying26 infoIn ?_
      refine hK _ _ ⟨HK.out _ (hb2 _), up s 2 (.slice (some ⟨w.heap.size, 0, none⟩) 0 0), u, _, ?_, hb2 _, hE.build hpw 2 3 1, ?_⟩
      · rw [hA]
        rfl
      · subst hT hsz hln hxs
        exact hF.build (by omega) hrf _ _ rfl
    · refine ⟨up b 3 true, c, rfl, cnT_b (by omega) hrf, wpOp_step rfl fun K' hK => ?_⟩
      refine step_bs0 w rfl 26 rfl Tryd.underlying26 infoIn ?_
      refine hK _ _ ⟨HK.out _ (hb2 _), up s 3 (.slice (some ⟨w.heap.size, 0, none⟩) 0 0), u, _, ?_, hb2 _, hE.build hpw 3 3 1, ?_⟩
      · rw [hA]
        rfl
      · subst hT hsz hln hxs
        exact hF.build (by omega) hrf _ _ rfl
    · refine ⟨up b 4 true, c, rfl, cnT_b (by omega) hrf, wpOp_step rfl fun K' hK => ?_⟩
      refine step_bs0 w rfl 27 rfl Tryd.underlying27 infoIr ?_
      refine hK _ _ ⟨HK.out _ (hb2 _), up s 4 (.slice (some ⟨w.heap.size, 0, none⟩) 0 0), u, _, ?_, hb2 _, hE.build hpw 4 64 5, ?_⟩
      · rw [hA]
        rfl
      · subst hT hsz hln hxs
        exact hF.build (by omega) hrf _ _ rfl
    · have hB : b 0 = true := hro ⟨0, .data⟩ (by simp) rfl
      obtain ⟨g, hEj, hob⟩ := (hF 0 (by omega)).1 hB hrf
      have hOw := hE.ow 0 _ hEj
      have hlt := World.ownsRow.lt hOw.2 g hob
      have hOw2 : w.ownsRow g 4 1 (s 0) 0 [] := by
        subst hT hsz
        exact hOw.2
      refine ⟨b, up c 0 true, rfl, cnT_c (by omega) hrf, wpOp_step rfl fun K' hK => ?_⟩
      refine step_appC w rfl (.tmp 3) (.tmp 5) 24 rfl Tryd.underlying24 infoBo rfl (by decide) (v := s 0) (by rw [hA]; rfl) hOw2 (by omega) qo p.gh.length qc (bC p.gh) (by rw [hA]; rfl) (len_bC _) ((HPg.out.1.gh.below H1.out.1).below hb) (one_bC _) (by have := HPg.out.2.1; unfold maxLen; omega) (by have := HPg.out.2.1; omega) ?_
      intro v' w' ho hg hbk
      rw [Nat.zero_add, List.nil_append] at ho
      have hb3 := hbl g (s 0) w' hOw.1 hob hlt.2 hg
      refine hK _ _ ⟨HK.out _ hb3, s, up u 0 v', _, ?_, hb3, hE.app hEj hg (v' := v') (n' := p.gh.length) (xs' := bC p.gh) (by subst hT hsz; exact ho) hbk, ?_⟩
      · rw [hA]
        rfl
      · subst hT hsz hln hxs
        exact hF.app (by omega) hB _ _
    · have hB : b 1 = true := hro ⟨4, .data⟩ (by simp) rfl
      obtain ⟨g, hEj, hob⟩ := (hF 1 (by omega)).1 hB hrf
      have hOw := hE.ow 1 _ hEj
      have hlt := World.ownsRow.lt hOw.2 g hob
      have hOw2 : w.ownsRow g 60 3 (s 1) 0 [] := by
        subst hT hsz
        exact hOw.2
      refine ⟨b, up c 1 true, rfl, cnT_c (by omega) hrf, wpOp_step rfl fun K' hK => ?_⟩
      refine step_appC w rfl (.tmp 7) (.tmp 9) 25 rfl Tryd.underlying25 infoVa rfl (by decide) (v := s 1) (by rw [hA]; rfl) hOw2 (by omega) vo p.vs.length vc (vC p.vs) (by rw [hA]; rfl) (len_vC _) ((HPg.out.1.vs.below H1.out.1).below hb) (one_vC _) (by have := HPg.out.2.2.1; unfold maxLen; omega) (by have := HPg.out.2.2.1; omega) ?_
      intro v' w' ho hg hbk
      rw [Nat.zero_add, List.nil_append] at ho
      have hb3 := hbl g (s 1) w' hOw.1 hob hlt.2 hg
      refine hK _ _ ⟨HK.out _ hb3, s, up u 1 v', _, ?_, hb3, hE.app hEj hg (v' := v') (n' := p.vs.length) (xs' := vC p.vs) (by subst hT hsz; exact ho) hbk, ?_⟩
      · rw [hA]
        rfl
      · subst hT hsz hln hxs
        exact hF.app (by omega) hB _ _
    · have hB : b 2 = true := hro ⟨8, .data⟩ (by simp) rfl
      obtain ⟨g, hEj, hob⟩ := (hF 2 (by omega)).1 hB hrf
      have hOw := hE.ow 2 _ hEj
      have hlt := World.ownsRow.lt hOw.2 g hob
      have hOw2 : w.ownsRow g 3 1 (s 2) 0 [] := by
        subst hT hsz
        exact hOw.2
      refine ⟨b, up c 2 true, rfl, cnT_c (by omega) hrf, wpOp_step rfl fun K' hK => ?_⟩
      refine step_appC w rfl (.tmp 11) (.tmp 13) 26 rfl Tryd.underlying26 infoIn rfl (by decide) (v := s 2) (by rw [hA]; rfl) hOw2 (by omega) tto p.ts.length tc (iC p.ts) (by rw [hA]; rfl) (len_iC _) ((HPg.out.1.ts.below H1.out.1).below hb) (one_iC _) (by have := HPg.out.2.2.2.1; unfold maxLen; omega) (by have := HPg.out.2.2.2.1; omega) ?_
      intro v' w' ho hg hbk
      rw [Nat.zero_add, List.nil_append] at ho
      have hb3 := hbl g (s 2) w' hOw.1 hob hlt.2 hg
      refine hK _ _ ⟨HK.out _ hb3, s, up u 2 v', _, ?_, hb3, hE.app hEj hg (v' := v') (n' := p.ts.length) (xs' := iC p.ts) (by subst hT hsz; exact ho) hbk, ?_⟩
      · rw [hA]
        rfl
      · subst hT hsz hln hxs
        exact hF.app (by omega) hB _ _
    · have hB : b 3 = true := hro ⟨12, .data⟩ (by simp) rfl
      obtain ⟨g, hEj, hob⟩ := (hF 3 (by omega)).1 hB hrf
      have hOw := hE.ow 3 _ hEj
      have hlt := World.ownsRow.lt hOw.2 g hob
      have hOw2 : w.ownsRow g 3 1 (s 3) 0 [] := by
        subst hT hsz
        exact hOw.2
      refine ⟨b, up c 3 true, rfl, cnT_c (by omega) hrf, wpOp_step rfl fun K' hK => ?_⟩
      refine step_appC w rfl (.tmp 15) (.tmp 17) 26 rfl Tryd.underlying26 infoIn rfl (by decide) (v := s 3) (by rw [hA]; rfl) hOw2 (by omega) oo p.on.length oc (iC p.on) (by rw [hA]; rfl) (len_iC _) ((HPg.out.1.on.below H1.out.1).below hb) (one_iC _) (by have := HPg.out.2.2.2.2.1; unfold maxLen; omega) (by have := HPg.out.2.2.2.2.1; omega) ?_
      intro v' w' ho hg hbk
      rw [Nat.zero_add, List.nil_append] at ho
      have hb3 := hbl g (s 3) w' hOw.1 hob hlt.2 hg
      refine hK _ _ ⟨HK.out _ hb3, s, up u 3 v', _, ?_, hb3, hE.app hEj hg (v' := v') (n' := p.on.length) (xs' := iC p.on) (by subst hT hsz; exact ho) hbk, ?_⟩
      · rw [hA]
        rfl
      · subst hT hsz hln hxs
        exact hF.app (by omega) hB _ _
    · have hB : b 4 = true := hro ⟨18, .data⟩ (by simp) rfl
      obtain ⟨g, hEj, hob⟩ := (hF 4 (by omega)).1 hB hrf
      have hOw := hE.ow 4 _ hEj
      have hlt := World.ownsRow.lt hOw.2 g hob
      have hOw2 : w.ownsRow g 64 5 (s 4) 0 [] := by
        subst hT hsz
        exact hOw.2
      refine ⟨b, up c 4 true, rfl, cnT_c (by omega) hrf, wpOp_step rfl fun K' hK => ?_⟩
      refine step_appC w rfl (.tmp 21) (.tmp 23) 27 rfl Tryd.underlying27 infoIr rfl (by decide) (v := s 4) (by rw [hA]; rfl) hOw2 (by omega) co p.cd.length cc (Vf.cC p.cd) (by rw [hA]; rfl) (len_cC _) ((HPg.out.1.cd.below H1.out.1).below hb) (one_cC _) (by have := HPg.out.2.2.2.2.2; unfold maxLen; omega) (by have := HPg.out.2.2.2.2.2; omega) ?_
      intro v' w' ho hg hbk
      rw [Nat.zero_add, List.nil_append] at ho
      have hb3 := hbl g (s 4) w' hOw.1 hob hlt.2 hg
      refine hK _ _ ⟨HK.out _ hb3, s, up u 4 v', _, ?_, hb3, hE.app hEj hg (v' := v') (n' := p.cd.length) (xs' := Vf.cC p.cd) (by subst hT hsz; exact ho) hbk, ?_⟩
      · rw [hA]
        rfl
      · subst hT hsz hln hxs
        exact hF.app (by omega) hB _ _
    · refine absurd ?_ hc
      have h0 := hro ⟨3, .data⟩ (by simp) rfl
      have h1 := hro ⟨7, .data⟩ (by simp) rfl
      have h2 := hro ⟨11, .data⟩ (by simp) rfl
      have h3 := hro ⟨15, .data⟩ (by simp) rfl
      have h4 := hro ⟨21, .data⟩ (by simp) rfl
      have k0 : c 0 = true := h0
      have k1 : c 1 = true := h1
      have k2 : c 2 = true := h2
      have k3 : c 3 = true := h3
      have k4 : c 4 = true := h4
      unfold cnT
      rw [k0, k1, k2, k3, k4, ((hF 0 (by omega)).2 k0).1, ((hF 1 (by omega)).2 k1).1, ((hF 2 (by omega)).2 k2).1, ((hF 3 (by omega)).2 k3).1, ((hF 4 (by omega)).2 k4).1]
      rfl
    · exact absurd (show false = true from hro ⟨22, .data⟩ (by simp) rfl) (by decide)
    · rcases hi with rfl | rfl | rfl | rfl | rfl | rfl | rfl | rfl | rfl | rfl | rfl | rfl
      all_goals exact absurd (show true = false from hrf) (by decide)
  case hend =>
    clear hS
    intro b c a w hc hIf
    rw [hI] at hIf
    obtain ⟨s, u, E, rfl, hb, hE, hF⟩ := hIf
    obtain ⟨⟨k0, k1, k2, k3, k4⟩, c0, c1, c2, c3, c4⟩ := cnT_0 hc
    rw [show lT b c = #[true, true, true, true, true, true, true, true, true, true, true, true, true, true, true, true, true, true, true, true, true, true, false, false] by unfold lT; rw [k0, k1, k2, k3, k4, c0, c1, c2, c3, c4]]
    clear hc k0 k1 k2 k3 k4
    rw [hA]
    clear hI hA
    subst hT hsz hln hxs
    obtain ⟨b0, e0⟩ := ((hF 0 (by omega)).2 c0).2
    have o0 := hE.ow 0 _ e0
    obtain ⟨b1, e1⟩ := ((hF 1 (by omega)).2 c1).2
    have o1 := hE.ow 1 _ e1
    obtain ⟨b2, e2⟩ := ((hF 2 (by omega)).2 c2).2
    have o2 := hE.ow 2 _ e2
    obtain ⟨b3, e3⟩ := ((hF 3 (by omega)).2 c3).2
    have o3 := hE.ow 3 _ e3
    obtain ⟨b4, e4⟩ := ((hF 4 (by omega)).2 c4).2
    have o4 := hE.ow 4 _ e4
    have hOws : Ows w W.heap.size [en1 b0 (u 0) p.gh, en2 b1 (u 1) p.vs, en3 b2 (u 2) p.ts, en3 b3 (u 3) p.on, en5 b4 (u 4) p.cd] := by
      refine ⟨fun x hx => ?_, ?_⟩
      · simp only [List.mem_cons, List.not_mem_nil, or_false] at hx
        rcases hx with rfl | rfl | rfl | rfl | rfl
        · exact ⟨Nat.lt_of_succ_lt o0.1, o0.2⟩
        · exact ⟨Nat.lt_of_succ_lt o1.1, o1.2⟩
        · exact ⟨Nat.lt_of_succ_lt o2.1, o2.2⟩
        · exact ⟨Nat.lt_of_succ_lt o3.1, o3.2⟩
        · exact ⟨Nat.lt_of_succ_lt o4.1, o4.2⟩
      · simp only [List.pairwise_cons, List.mem_cons, List.not_mem_nil, or_false, List.Pairwise.nil, and_true]
        refine ⟨fun y hy => ?_, fun y hy => ?_, fun y hy => ?_, fun y hy => ?_, fun y hy => hy.elim⟩
        · rcases hy with rfl | rfl | rfl | rfl
          · exact hE.ap 0 1 _ _ (by omega) e0 e1
          · exact hE.ap 0 2 _ _ (by omega) e0 e2
          · exact hE.ap 0 3 _ _ (by omega) e0 e3
          · exact hE.ap 0 4 _ _ (by omega) e0 e4
        · rcases hy with rfl | rfl | rfl
          · exact hE.ap 1 2 _ _ (by omega) e1 e2
          · exact hE.ap 1 3 _ _ (by omega) e1 e3
          · exact hE.ap 1 4 _ _ (by omega) e1 e4
        · rcases hy with rfl | rfl
          · exact hE.ap 2 3 _ _ (by omega) e2 e3
          · exact hE.ap 2 4 _ _ (by omega) e2 e4
        · subst hy
          exact hE.ap 3 4 _ _ (by omega) e3 e4
    obtain ⟨x0, y0, z0⟩ := own_form o0.2
    obtain ⟨x1, y1, z1⟩ := own_form o1.2
    obtain ⟨x2, y2, z2⟩ := own_form o2.2
    obtain ⟨x3, y3, z3⟩ := own_form o3.2
    obtain ⟨x4, y4, z4⟩ := own_form o4.2
    have hS := HK.out w hb
    have HW : Hid (Below W.heap.size W w ∧ w.heap[W.heap.size]? = some (.cells #[.slice qo p.gh.length qc, .slice vo p.vs.length vc, .slice tto p.ts.length tc, .slice oo p.on.length oc, .int .i64 p.miss, .slice co p.cd.length cc] 29 (0, 0)) ∧ w.heap[W.heap.size + 1]? = some (.cells #[.slice none 0 0, .slice none 0 0, .slice none 0 0, .slice none 0 0, .int .i64 0, .slice none 0 0] 29 (0, 0)) ∧ Ows w W.heap.size [en1 b0 (u 0) p.gh, en2 b1 (u 1) p.vs, en3 b2 (u 2) p.ts, en3 b3 (u 3) p.on, en5 b4 (u 4) p.cd]) := ⟨H1.out.1.trans (hb.mono H1.out.1.size), (hb.block _ (by rw [H1.out.2.2.2]; omega)).trans H1.out.2.1, (hb.block _ (by rw [H1.out.2.2.2]; omega)).trans H1.out.2.2.1, hOws⟩
    clear hOws o0 o1 o2 o3 o4 e0 e1 e2 e3 e4 hE hF hb
    show wpAnyH _ _ _ _ _ 2 _ (⟨#[.agg #[.slice qo p.gh.length qc, .slice vo p.vs.length vc, .slice tto p.ts.length tc, .slice oo p.on.length oc, .int .i64 p.miss, .slice co p.cd.length cc], .pointer (some ⟨W.heap.size, 0, none⟩), .pointer (some ⟨W.heap.size + 1, 0, none⟩), s 0, .pointer (some ⟨W.heap.size, 0, none⟩), .slice qo p.gh.length qc, u 0, s 1, .pointer (some ⟨W.heap.size, 1, none⟩), .slice vo p.vs.length vc, u 1, s 2, .pointer (some ⟨W.heap.size, 2, none⟩), .slice tto p.ts.length tc, u 2, s 3, .pointer (some ⟨W.heap.size, 3, none⟩), .slice oo p.on.length oc, u 3, .pointer (some ⟨W.heap.size, 4, none⟩), .int .i64 p.miss, s 4, .pointer (some ⟨W.heap.size, 5, none⟩), .slice co p.cd.length cc, u 4, undef], []⟩ : Act) w
    generalize u 0 = U0 at *
    simp only at z0
    subst z0
    generalize u 1 = U1 at *
    simp only at z1
    subst z1
    generalize u 2 = U2 at *
    simp only at z2
    subst z2
    generalize u 3 = U3 at *
    simp only at z3
    subst z3
    generalize u 4 = U4 at *
    simp only at z4
    subst z4
    generalize s 0 = s0 at *
    generalize s 1 = s1 at *
    generalize s 2 = s2 at *
    generalize s 3 = s3 at *
    generalize s 4 = s4 at *
    refine tqA 22 rfl hS ?_
    have HS6 : Hid ((fun w' : World => w'.cell? ⟨W.heap.size, 0, none⟩ = some (.slice qo p.gh.length qc) ∧ w'.cell? ⟨W.heap.size, 1, none⟩ = some (.slice vo p.vs.length vc) ∧ w'.cell? ⟨W.heap.size, 2, none⟩ = some (.slice tto p.ts.length tc) ∧ w'.cell? ⟨W.heap.size, 3, none⟩ = some (.slice oo p.on.length oc) ∧ w'.cell? ⟨W.heap.size, 4, none⟩ = some (.int .i64 p.miss) ∧ w'.cell? ⟨W.heap.size, 5, none⟩ = some (.slice co p.cd.length cc)) (w.setRow (W.heap.size + 1) #[.slice x0 p.gh.length y0, .slice x1 p.vs.length y1, .slice x2 p.ts.length y2, .slice x3 p.on.length y3, .int .i64 p.miss, .slice x4 p.cd.length y4])) := HX.out _ ((setRow_other w (W.heap.size + 1) W.heap.size _ (by omega)).trans HW.out.2.1)
    refine stA 23 (by kernel_rfl) rfl rfl 29 (.tmp 2) (.tmp 25) rfl (W.heap.size + 1) #[.slice x0 p.gh.length y0, .slice x1 p.vs.length y1, .slice x2 p.ts.length y2, .slice x3 p.on.length y3, .int .i64 p.miss, .slice x4 p.cd.length y4] (by go_simp) (by go_simp) 29 _ HW.out.2.2.1 (by kernel_rfl) rfl (by kernel_rfl) HS6.out (fun hS => ?_)
    have H7 : Hid (Below W.heap.size W (w.setRow (W.heap.size + 1) #[.slice x0 p.gh.length y0, .slice x1 p.vs.length y1, .slice x2 p.ts.length y2, .slice x3 p.on.length y3, .int .i64 p.miss, .slice x4 p.cd.length y4]) ∧ (w.setRow (W.heap.size + 1) #[.slice x0 p.gh.length y0, .slice x1 p.vs.length y1, .slice x2 p.ts.length y2, .slice x3 p.on.length y3, .int .i64 p.miss, .slice x4 p.cd.length y4]).heap[W.heap.size + 1]? = some (.cells #[.slice x0 p.gh.length y0, .slice x1 p.vs.length y1, .slice x2 p.ts.length y2, .slice x3 p.on.length y3, .int .i64 p.miss, .slice x4 p.cd.length y4] 29 (0, 0)) ∧ Own5 (w.setRow (W.heap.size + 1) #[.slice x0 p.gh.length y0, .slice x1 p.vs.length y1, .slice x2 p.ts.length y2, .slice x3 p.on.length y3, .int .i64 p.miss, .slice x4 p.cd.length y4]) W.heap.size p (.slice x0 p.gh.length y0) (.slice x1 p.vs.length y1) (.slice x2 p.ts.length y2) (.slice x3 p.on.length y3) (.slice x4 p.cd.length y4)) := by
      obtain ⟨q1, q2, q3, q4⟩ := HW.out
      refine ⟨Cd.below_setRow q1 (by omega), setRow_heap _ _ _ _ _ _ q3, ⟨_, _, _, _, _, q4.keepR q3⟩⟩
    clear HS6 HW HX HK H1
    generalize w.setRow (W.heap.size + 1) #[.slice x0 p.gh.length y0, .slice x1 p.vs.length y1, .slice x2 p.ts.length y2, .slice x3 p.on.length y3, .int .i64 p.miss, .slice x4 p.cd.length y4] = w7 at *
    refine wpAnyH_done (by kernel_rfl) ?_ _
    clear hS
    go_simp
    obtain ⟨d0, d1, d2, d3, d4, d5⟩ := cells6 H7.out.2.1
    go_wp2_with fail
    refine bodyPost_ret (v := .agg #[.slice x0 p.gh.length y0, .slice x1 p.vs.length y1, .slice x2 p.ts.length y2, .slice x3 p.on.length y3, .int .i64 p.miss, .slice x4 p.cd.length y4]) (by simp [results, Tryd.results6, go_sem, d0, d1, d2, d3, d4, d5]) rfl ?_
    exact ⟨⟨x0, y0, x1, y1, x2, y2, x3, y3, x4, y4⟩, rfl, H7.out.2.2, H7.out.1⟩
end Go.Proofs.YtcblichnkakhdaaDoor.Cd
