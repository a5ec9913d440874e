import Derived.Test.YtenhjebiokegkaaNmMake
import Derived.Deep.RegionHeld3
namespace Go.Proofs.Ytenhjebiokegkaa.Nm
open Go.RowKit Go.Maps Go.Proofs.Ytenhjebiokegkaa.Sp Go.Proofs.Ytenhjebiokegkaa.Lx Go.Proofs.Ytenhjebiokegkaa.Gr

/-- where an event's block is -/
def plc (ev : List ((Nat × Nat) × Nat)) (x : Nat × Nat) : Int := match lk ev x with | some a => (a : Int) | none => -1
def onsOf (ev : List ((Nat × Nat) × Nat)) (n : Nat) : List Int := (List.range n).map fun q => plc ev (1, q)
theorem onsOf_succ (ev : List ((Nat × Nat) × Nat)) (n : Nat) : onsOf ev (n + 1) = onsOf ev n ++ [plc ev (1, n)] := by simp [onsOf, List.range_succ]
theorem onsOf_len (ev : List ((Nat × Nat) × Nat)) (n : Nat) : (onsOf ev n).length = n := by simp [onsOf]
abbrev iv (l : List Int) : List Value := l.map fun n : Int => Value.int .i64 n
set_option maxHeartbeats 3200000 in
set_option maxRecDepth 100000 in
theorem place_any {W : World} {hb mb n k m : Nat} {ev : List ((Nat × Nat) × Nat)} (hbox : W.heap[hb]? = some (.cells #[.map (some mb)] 52 (0, 0))) (hm : IsMp bmap W mb (ef ev) n) (hk : k ≤ 5 ∧ m ≤ 16) :
    Calls Try.prog 40 #[.agg #[.int .i64 (k : Int), .int .i64 (m : Int)], ptr0 hb] W fun e w' => e = .returned (.int .i64 (plc ev (k, m))) ∧ Below W.heap.size W w' := by
  have hb2 : Below W.heap.size W (W.alloc (.cells #[.int .i64 (k : Int), .int .i64 (m : Int)] 71)) := (Below.refl _ W).alloc (Nat.le_refl _) _
  have hn2 : (W.alloc (.cells #[.int .i64 (k : Int), .int .i64 (m : Int)] 71)).heap[W.heap.size]? = some (.cells #[.int .i64 (k : Int), .int .i64 (m : Int)] 71 (0, 0)) := heap_alloc_new W _
  have e0 : (W.alloc (.cells #[.int .i64 (k : Int), .int .i64 (m : Int)] 71)).cell? ⟨W.heap.size, 0, none⟩ = some (.int .i64 (k : Int)) := by rw [World.cell?, hn2]; rfl
  have e1 : (W.alloc (.cells #[.int .i64 (k : Int), .int .i64 (m : Int)] 71)).cell? ⟨W.heap.size, 1, none⟩ = some (.int .i64 (m : Int)) := by rw [World.cell?, hn2]; rfl
  obtain ⟨d2, _⟩ := box_cell ((hb2.block hb (Array.getElem?_eq_some_iff.1 hbox).1).trans hbox)
  have hlk := (hm.same (hb2.block mb hm.lt)).lookOk bmap_law (k := (k, m)) hk
  have hlk' : (Instr.lookup 52 (.map (some mb)) (.agg #[.int .i64 (k : Int), .int .i64 (m : Int)]) true).run Try.prog (W.alloc (.cells #[.int .i64 (k : Int), .int .i64 (m : Int)] 71)) = .ok (.tuple #[((ef ev) (k, m)).getD (.int .i64 0), .bool ((ef ev) (k, m)).isSome]) (W.alloc (.cells #[.int .i64 (k : Int), .int .i64 (m : Int)] 71)) := hlk
  have HB : Hid (Below W.heap.size W (W.alloc (.cells #[.int .i64 (k : Int), .int .i64 (m : Int)] 71))) := hb2
  have HP : Hid (plc ev (k, m) = match lk ev (k, m) with | some a => (a : Int) | none => -1) := rfl
  have hef : (ef ev) (k, m) = (lk ev (k, m)).map fun e : Nat => .int .i64 (e : Int) := rfl
  rw [hef] at hlk'
  clear hbox hm hk hb2 hn2 hlk hef
  unfold ptr0
  generalize plc ev (k, m) = z at *
  cases hf : lk ev (k, m) with
  | none =>
    rw [hf] at hlk' HP
    simp only [Option.map_none, Option.getD_none, Option.isSome_none] at hlk' HP
    go_enter Try.func40, Try.ntmps40
    go_wp2
    go_ret
    exact ⟨by rw [HP.out]; rfl, HB.out⟩
  | some v =>
    rw [hf] at hlk' HP
    simp only [Option.map_some, Option.getD_some, Option.isSome_some] at hlk' HP
    go_enter Try.func40, Try.ntmps40
    go_wp2
    go_ret
    exact ⟨by rw [HP.out]; rfl, HB.out⟩
/-- events are being placed -/
structure Plc (W wr : World) (pb : Nat) (nm rows qv vv tv uv ov : Value) (ev : List ((Nat × Nat) × Nat)) (mb j : Nat) : Prop where
  fb : Fb [pb] W.heap.size W wr
  bx : wr.heap[W.heap.size]? = some (.cells #[.map (some mb)] 52 (0, 0))
  blk : wr.heap[pb]? = some (.cells #[nm, rows, qv, vv, tv, uv, ov, .int .i64 0] 35 (0, 0))
  own : wr.ownsRow (W.heap.size + 1) 3 1 ov j (iv (onsOf ev j))
section
variable {W wr w' : World} {pb mb j : Nat} {nm rows qv vv tv uv ov : Value} {ev : List ((Nat × Nat) × Nat)}
theorem Plc.lt (h : Plc W wr pb nm rows qv vv tv uv ov ev mb j) : W.heap.size + 1 ≤ wr.heap.size := (Array.getElem?_eq_some_iff.1 h.bx).1
theorem Plc.below (h : Plc W wr pb nm rows qv vv tv uv ov ev mb j) (hb : Below wr.heap.size wr w') : Plc W w' pb nm rows qv vv tv uv ov ev mb j :=
  ⟨h.fb.trans (Fb.of_below (hb.mono h.fb.size)), (hb.block _ (Array.getElem?_eq_some_iff.1 h.bx).1).trans h.bx, (hb.block _ (Array.getElem?_eq_some_iff.1 h.blk).1).trans h.blk, own_below h.own hb⟩
theorem Plc.put {v' : Value} (h : Plc W wr pb nm rows qv vv tv uv ov ev mb j) (hpb : pb < W.heap.size) (hg : Gone wr ov w' v') (ho : w'.ownsRow (W.heap.size + 1) 3 1 v' (j + 1) (iv (onsOf ev j) ++ [.int .i64 (plc ev (1, j))])) :
    w'.heap[pb]? = some (.cells #[nm, rows, qv, vv, tv, uv, ov, .int .i64 0] 35 (0, 0)) ∧ Plc W (w'.setCell ⟨pb, 6, none⟩ v') pb nm rows qv vv tv uv v' ev mb (j + 1) := by
  have hov : ∀ k, ov.ownBlock = some k → W.heap.size + 1 ≤ k := fun k e => (World.ownsRow.lt h.own k e).1
  have hlt := h.lt
  have hkeep : ∀ k, k < W.heap.size + 1 → w'.heap[k]? = wr.heap[k]? := fun k hk => hg.1.block k (by omega) (fun e => by have := hov k e.symm; omega)
  have hp := (hkeep pb (by omega)).trans h.blk
  have hset : ∀ k, k ≠ pb → (w'.setCell ⟨pb, 6, none⟩ v').heap[k]? = w'.heap[k]? := fun k hk => Below.heap_setCell w' _ v' k (fun e => hk e)
  refine ⟨hp, ⟨⟨hg.1.os.trans h.fb.os, hg.1.tape.trans h.fb.tape, hg.1.output.trans h.fb.output, ?_, fun k hk hn => ?_⟩, ?_, ?_, ?_⟩⟩
  · have := hg.1.size
    simp [World.setCell]
    omega
  · rw [hset k (by simpa using hn), hkeep k (by omega)]
    exact h.fb.block k hk hn
  · rw [hset _ (by omega), hkeep _ (by omega)]
    exact h.bx
  · have := heap_setCell_same w' pb 6 _ 35 v' hp
    simpa using this
  · rw [onsOf_succ]
    have : (w'.setCell ⟨pb, 6, none⟩ v').ownsRow (W.heap.size + 1) 3 1 v' (j + 1) (iv (onsOf ev j) ++ [.int .i64 (plc ev (1, j))]) := own_keepB ho (fun k hk => hset k (by have := (World.ownsRow.lt ho k hk).1; omega))
    simpa [iv] using this
end
set_option maxHeartbeats 12800000 in
set_option maxRecDepth 100000 in
theorem placeEvents_any {W : World} {pb mb n nq qc : Nat} {nm rows vv tv uv : Value} {qo : Option Addr} {ev : List ((Nat × Nat) × Nat)} (hp : W.heap[pb]? = some (.cells #[nm, rows, .slice qo nq qc, vv, tv, uv, .slice none 0 0, .int .i64 0] 35 (0, 0))) (hm : IsMp bmap W mb (ef ev) n) (hq : nq ≤ 16) :
    Calls Try.prog 24 #[.pointer (some ⟨pb, 0, none⟩), .map (some mb)] W fun e w' => e = .returned (.tuple #[]) ∧ Fb [pb] W.heap.size W w' ∧ ∃ ov, w'.heap[pb]? = some (.cells #[nm, rows, .slice qo nq qc, vv, tv, uv, ov, .int .i64 (plc ev (5, 0))] 35 (0, 0)) ∧ w'.ownsRow (W.heap.size + 1) 3 1 ov nq (iv (onsOf ev nq)) := by
  have hpl : pb < W.heap.size := (Array.getElem?_eq_some_iff.1 hp).1
  have hb1 : Below W.heap.size W (W.alloc (.cells #[.map (some mb)] 52)) := (Below.refl _ W).alloc (Nat.le_refl _) _
  have h0 : Plc W (W.alloc (.cells #[.map (some mb)] 52)) pb nm rows (.slice qo nq qc) vv tv uv (.slice none 0 0) ev mb 0 := ⟨Fb.of_below hb1, heap_alloc_new W _, (hb1.block pb hpl).trans hp, ⟨by simp [onsOf], Or.inl ⟨rfl, rfl⟩⟩⟩
  have H0 := show Hid _ from h0
  have c2 : (W.alloc (.cells #[.map (some mb)] 52)).cell? ⟨pb, 2, none⟩ = some (.slice qo nq qc) := by simp only [World.cell?, h0.blk]; rfl
  have HM : Hid (IsMp bmap W mb (ef ev) n ∧ mb ≠ pb ∧ pb < W.heap.size) := ⟨hm, Ne.symm (hm.ne_cells hp), hpl⟩
  obtain ⟨j0, hj, hj0, hj1, hj2⟩ := info_parts infoI
  have hq2 : (nq : Int) ≤ 16 := by omega
  have HC : Hid (∀ (k m : Nat) (wq : World) (ov : Value) (j : Nat), k ≤ 5 → m ≤ 16 → Plc W wq pb nm rows (.slice qo nq qc) vv tv uv ov ev mb j → Calls Try.prog 40 #[.agg #[.int .i64 (k : Int), .int .i64 (m : Int)], .pointer (some ⟨W.heap.size, 0, none⟩)] wq fun e w' => e = .returned (.int .i64 (plc ev (k, m))) ∧ Below wq.heap.size wq w') := fun k m wq ov j hk hm2 hP => place_any hP.bx (HM.out.1.same (hP.fb.block mb HM.out.1.lt (by have := HM.out.2.1; simpa using this))) ⟨hk, hm2⟩
  clear hp hm h0 hb1 hpl
  go_enter Try.func24, Try.ntmps24
  go_wp2_with fail
  go_loopg [12] nq (fun gq x wr => ∃ j ov, j + gq = nq ∧ x = .int .i64 (j : Int) ∧ Plc W wr pb nm rows (.slice qo nq qc) vv tv uv ov ev mb j)
  case atStart => exact ⟨0, _, by omega, rfl, H0.out⟩
  case round =>
    obtain ⟨j, ov, hjg, rfl, hP⟩ := hrel
    have HJ : Hid (j + gk = nq) := hjg
    have HP := show Hid _ from hP
    by_cases hlt : j < nq
    · have hj' : (j : Int) < (nq : Int) := by omega
      have HL : Hid (j ≤ 16) := by show _ ≤ _; omega
      have c6 : wr.drew.cell? ⟨pb, 6, none⟩ = some ov := by simp only [World.cell?, (hP.below (Below.refl _ wr).drew).blk]; rfl
      clear hjg hP hlt c2
      go_wp2_with fail
      refine wp_region_held (S := fun _ => True) (by kernel_rfl) ?_
      have hS : (fun _ : World => True) wr.drew := trivial
      change wpAnyH _ _ _ _ _ _ _ _ wr.drew
      refine wpAnyH_take (i := 0) (v := ?v0) rfl (by kernel_rfl) (by kernel_rfl) (by kernel_rfl) (fun _ _ _ h => h) (Or.inl ⟨by rfl, ?y0⟩) hS ?r0
      case y0 =>
        intro w hSw
        first
          | (go_simp; done)
          | (go_simp; with_reducible rfl)
      refine wpAnyH_take (i := 1) (v := ?v1) rfl (by kernel_rfl) (by kernel_rfl) (by kernel_rfl) (fun _ _ _ h => h) (Or.inl ⟨by rfl, ?y1⟩) hS ?r1
      case y1 =>
        intro w hSw
        first
          | (go_simp; done)
          | (go_simp; with_reducible rfl)
      refine wpAnyH_take (i := 2) (v := ?v2) rfl (by kernel_rfl) (by kernel_rfl) (by kernel_rfl) (fun _ _ _ h => h) (Or.inl ⟨by rfl, ?y2⟩) hS ?r2
      case y2 =>
        intro w hSw
        first
          | (go_simp; done)
          | (go_simp; with_reducible rfl)
      refine wpAnyH_take (i := 3) (v := ?v3) rfl (by kernel_rfl) (by kernel_rfl) (by kernel_rfl) (fun _ _ _ h => h) (Or.inl ⟨by rfl, ?y3⟩) hS ?r3
      case y3 =>
        intro w hSw
        first
          | (go_simp; done)
          | (go_simp; with_reducible rfl)
      refine wpAnyH_take (i := 5) (v := ?v4) rfl (by kernel_rfl) (by kernel_rfl) (by kernel_rfl) (fun _ _ _ h => h) (Or.inl ⟨by rfl, ?y4⟩) hS ?r4
      case y4 =>
        intro w hSw
        first
          | (go_simp; done)
          | (go_simp; with_reducible rfl)
      refine wpAnyH_take (i := 6) (v := ?v5) rfl (by kernel_rfl) (by kernel_rfl) (by kernel_rfl) (fun _ _ _ h => h) (Or.inl ⟨by rfl, ?y5⟩) hS ?r5
      case y5 =>
        intro w hSw
        first
          | (go_simp; done)
          | (go_simp; with_reducible rfl)
      refine wpAnyH_take (i := 7) (v := ?v6) rfl (by kernel_rfl) (by kernel_rfl) (by kernel_rfl) (fun _ _ _ h => h) (Or.inl ⟨by rfl, ?y6⟩) hS ?r6
      case y6 =>
        intro w hSw
        first
          | (go_simp; done)
          | (go_simp; with_reducible rfl)
      have HPd := show Hid _ from HP.out.below (Below.refl _ wr).drew
      generalize wr.drew = wd at *
      refine wpAnyH_ready (rs := [4, 8]) (by kernel_rfl) (by simp) ?_
      refine AllReadyH.cons rfl (fun K hK => ?_) (AllReadyH.cons rfl (fun K hK => ?_) AllReadyH.nil)
      · go_simp
        refine hK.out _ _ trivial (fun hS => ?_)
        refine wpAnyH_ready (rs := [8]) (by kernel_rfl) (by simp) ?_
        refine AllReadyH.cons rfl (fun K hK => ?_) AllReadyH.nil
        go_simp
        refine Calls.mono (HC.out 1 j wd ov j (by decide) HL.out HPd.out) ?_
        rintro e w2 ⟨rfl, hb2⟩
        have HP2 := show Hid _ from HPd.out.below hb2
        have c62 : w2.cell? ⟨pb, 6, none⟩ = some ov := by simp only [World.cell?, HP2.out.blk]; rfl
        have HP3 := show Hid _ from HP2.out.below ((Below.refl _ w2).alloc (Nat.le_refl _) (.cells #[.int .i64 (plc ev (1, j))] 3))
        have c63 : (w2.alloc (.cells #[.int .i64 (plc ev (1, j))] 3)).cell? ⟨pb, 6, none⟩ = some ov := by simp only [World.cell?, HP3.out.blk]; rfl
        clear hb2
        refine hK.out _ _ trivial (fun hS => ?_)
        refine wpAnyH_ready (rs := [9]) (by kernel_rfl) (by simp) ?_
        refine AllReadyH.cons rfl (fun K hK => ?_) AllReadyH.nil
        go_simp
        refine hK.out _ _ trivial (fun hS => ?_)
        refine wpAnyH_ready (rs := [10]) (by kernel_rfl) (by simp) ?_
        refine AllReadyH.cons rfl (fun K hK => ?_) AllReadyH.nil
        refine step_gone _ rfl (.tmp 19) (.tmp 24) 33 rfl (W.heap.size + 1) 3 j0 (.int .i64 0) 1 8 Try.underlying33 hj hj0 hj1 hj2 rfl (by decide) ov _ (iv (onsOf ev j)) (by simp [Act.eval]) HP3.out.own ⟨w2.heap.size, 0, none⟩ 1 1 [.int .i64 (plc ev (1, j))] (by simp [Act.eval]) rfl (cell_one w2 _ _) (by intro u hu; simp only [List.mem_cons, List.not_mem_nil, or_false] at hu; subst hu; rfl) (by have := HL.out; unfold maxLen; omega) (by have := HL.out; omega) HP3.out.lt (by decide) ?_
        intro xv' w4 ho hG
        obtain ⟨hpb4, hP4⟩ := HP3.out.put HM.out.2.2 hG ho
        have HP4 := show Hid _ from hP4
        have e6 : w4.cell? ⟨pb, 6, none⟩ = some ov := by simp only [World.cell?, hpb4]; rfl
        have f6 : w4.frozen? ⟨pb, 6, none⟩ = false := by simp only [World.frozen?, hpb4]; rfl
        obtain ⟨bo, bc, rfl⟩ := own_form ho
        clear ho hG hP4 hpb4
        refine hK.out _ _ trivial (fun hS => ?_)
        refine wpAnyH_ready (rs := [11]) (by kernel_rfl) (by simp) ?_
        refine AllReadyH.cons rfl (fun K hK => ?_) AllReadyH.nil
        go_simp
        refine hK.out _ _ trivial (fun hS => ?_)
        refine wpAnyH_ready (rs := [12]) (by kernel_rfl) (by simp) ?_
        refine AllReadyH.cons rfl (fun K hK => ?_) AllReadyH.nil
        go_simp
        refine hK.out _ _ trivial (fun hS => ?_)
        refine wpAnyH_ready (rs := [13]) (by kernel_rfl) (by simp) ?_
        refine AllReadyH.cons rfl (fun K hK => ?_) AllReadyH.nil
        go_simp
        refine hK.out _ _ trivial (fun hS => ?_)
        refine wpAnyH_done (by kernel_rfl) ?_ _
        go_wp2_with fail
        go_roundg (nq - (j + 1))
        case measure => have := HJ.out; omega
        case rel => exact ⟨j + 1, _, by have := HJ.out; omega, by go_num, HP4.out⟩
      · go_simp
        refine Calls.mono (HC.out 1 j wd ov j (by decide) HL.out HPd.out) ?_
        rintro e w2 ⟨rfl, hb2⟩
        have HP2 := show Hid _ from HPd.out.below hb2
        have c62 : w2.cell? ⟨pb, 6, none⟩ = some ov := by simp only [World.cell?, HP2.out.blk]; rfl
        have HP3 := show Hid _ from HP2.out.below ((Below.refl _ w2).alloc (Nat.le_refl _) (.cells #[.int .i64 (plc ev (1, j))] 3))
        have c63 : (w2.alloc (.cells #[.int .i64 (plc ev (1, j))] 3)).cell? ⟨pb, 6, none⟩ = some ov := by simp only [World.cell?, HP3.out.blk]; rfl
        clear hb2
        refine hK.out _ _ trivial (fun hS => ?_)
        refine wpAnyH_ready (rs := [4, 9]) (by kernel_rfl) (by simp) ?_
        refine AllReadyH.cons rfl (fun K hK => ?_) (AllReadyH.cons rfl (fun K hK => ?_) AllReadyH.nil)
        · go_simp
          refine hK.out _ _ trivial (fun hS => ?_)
          refine wpAnyH_ready (rs := [9]) (by kernel_rfl) (by simp) ?_
          refine AllReadyH.cons rfl (fun K hK => ?_) AllReadyH.nil
          go_simp
          refine hK.out _ _ trivial (fun hS => ?_)
          refine wpAnyH_ready (rs := [10]) (by kernel_rfl) (by simp) ?_
          refine AllReadyH.cons rfl (fun K hK => ?_) AllReadyH.nil
          refine step_gone _ rfl (.tmp 19) (.tmp 24) 33 rfl (W.heap.size + 1) 3 j0 (.int .i64 0) 1 8 Try.underlying33 hj hj0 hj1 hj2 rfl (by decide) ov _ (iv (onsOf ev j)) (by simp [Act.eval]) HP3.out.own ⟨w2.heap.size, 0, none⟩ 1 1 [.int .i64 (plc ev (1, j))] (by simp [Act.eval]) rfl (cell_one w2 _ _) (by intro u hu; simp only [List.mem_cons, List.not_mem_nil, or_false] at hu; subst hu; rfl) (by have := HL.out; unfold maxLen; omega) (by have := HL.out; omega) HP3.out.lt (by decide) ?_
          intro xv' w4 ho hG
          obtain ⟨hpb4, hP4⟩ := HP3.out.put HM.out.2.2 hG ho
          have HP4 := show Hid _ from hP4
          have e6 : w4.cell? ⟨pb, 6, none⟩ = some ov := by simp only [World.cell?, hpb4]; rfl
          have f6 : w4.frozen? ⟨pb, 6, none⟩ = false := by simp only [World.frozen?, hpb4]; rfl
          obtain ⟨bo, bc, rfl⟩ := own_form ho
          clear ho hG hP4 hpb4
          refine hK.out _ _ trivial (fun hS => ?_)
          refine wpAnyH_ready (rs := [11]) (by kernel_rfl) (by simp) ?_
          refine AllReadyH.cons rfl (fun K hK => ?_) AllReadyH.nil
          go_simp
          refine hK.out _ _ trivial (fun hS => ?_)
          refine wpAnyH_ready (rs := [12]) (by kernel_rfl) (by simp) ?_
          refine AllReadyH.cons rfl (fun K hK => ?_) AllReadyH.nil
          go_simp
          refine hK.out _ _ trivial (fun hS => ?_)
          refine wpAnyH_ready (rs := [13]) (by kernel_rfl) (by simp) ?_
          refine AllReadyH.cons rfl (fun K hK => ?_) AllReadyH.nil
          go_simp
          refine hK.out _ _ trivial (fun hS => ?_)
          refine wpAnyH_done (by kernel_rfl) ?_ _
          go_wp2_with fail
          go_roundg (nq - (j + 1))
          case measure => have := HJ.out; omega
          case rel => exact ⟨j + 1, _, by have := HJ.out; omega, by go_num, HP4.out⟩
        · go_simp
          refine hK.out _ _ trivial (fun hS => ?_)
          refine wpAnyH_ready (rs := [4]) (by kernel_rfl) (by simp) ?_
          refine AllReadyH.cons rfl (fun K hK => ?_) AllReadyH.nil
          go_simp
          refine hK.out _ _ trivial (fun hS => ?_)
          refine wpAnyH_ready (rs := [10]) (by kernel_rfl) (by simp) ?_
          refine AllReadyH.cons rfl (fun K hK => ?_) AllReadyH.nil
          refine step_gone _ rfl (.tmp 19) (.tmp 24) 33 rfl (W.heap.size + 1) 3 j0 (.int .i64 0) 1 8 Try.underlying33 hj hj0 hj1 hj2 rfl (by decide) ov _ (iv (onsOf ev j)) (by simp [Act.eval]) HP3.out.own ⟨w2.heap.size, 0, none⟩ 1 1 [.int .i64 (plc ev (1, j))] (by simp [Act.eval]) rfl (cell_one w2 _ _) (by intro u hu; simp only [List.mem_cons, List.not_mem_nil, or_false] at hu; subst hu; rfl) (by have := HL.out; unfold maxLen; omega) (by have := HL.out; omega) HP3.out.lt (by decide) ?_
          intro xv' w4 ho hG
          obtain ⟨hpb4, hP4⟩ := HP3.out.put HM.out.2.2 hG ho
          have HP4 := show Hid _ from hP4
          have e6 : w4.cell? ⟨pb, 6, none⟩ = some ov := by simp only [World.cell?, hpb4]; rfl
          have f6 : w4.frozen? ⟨pb, 6, none⟩ = false := by simp only [World.frozen?, hpb4]; rfl
          obtain ⟨bo, bc, rfl⟩ := own_form ho
          clear ho hG hP4 hpb4
          refine hK.out _ _ trivial (fun hS => ?_)
          refine wpAnyH_ready (rs := [11]) (by kernel_rfl) (by simp) ?_
          refine AllReadyH.cons rfl (fun K hK => ?_) AllReadyH.nil
          go_simp
          refine hK.out _ _ trivial (fun hS => ?_)
          refine wpAnyH_ready (rs := [12]) (by kernel_rfl) (by simp) ?_
          refine AllReadyH.cons rfl (fun K hK => ?_) AllReadyH.nil
          go_simp
          refine hK.out _ _ trivial (fun hS => ?_)
          refine wpAnyH_ready (rs := [13]) (by kernel_rfl) (by simp) ?_
          refine AllReadyH.cons rfl (fun K hK => ?_) AllReadyH.nil
          go_simp
          refine hK.out _ _ trivial (fun hS => ?_)
          refine wpAnyH_done (by kernel_rfl) ?_ _
          go_wp2_with fail
          go_roundg (nq - (j + 1))
          case measure => have := HJ.out; omega
          case rel => exact ⟨j + 1, _, by have := HJ.out; omega, by go_num, HP4.out⟩
    · have hj' : decide ((j : Int) < (nq : Int)) = false := by simp; omega
      obtain rfl : j = nq := by have := HJ.out; omega
      have HC5 := show Hid _ from HC.out 5 0 wr ov j (by decide) (by decide) hP
      clear hjg hP hlt c2
      go_wp2_with fail
      refine Calls.mono HC5.out ?_
      rintro e w2 ⟨rfl, hb2⟩
      have hP2 := HP.out.below hb2
      have e7 : w2.cell? ⟨pb, 7, none⟩ = some (.int .i64 0) := by simp only [World.cell?, hP2.blk]; rfl
      have f7 : w2.frozen? ⟨pb, 7, none⟩ = false := by simp only [World.frozen?, hP2.blk]; rfl
      have hset : ∀ k, k ≠ pb → (w2.setCell ⟨pb, 7, none⟩ (.int .i64 (plc ev (5, 0)))).heap[k]? = w2.heap[k]? := fun k hk => Below.heap_setCell w2 _ _ k (fun e => hk e)
      have HX : Hid (Fb [pb] W.heap.size W (w2.setCell ⟨pb, 7, none⟩ (.int .i64 (plc ev (5, 0)))) ∧ (w2.setCell ⟨pb, 7, none⟩ (.int .i64 (plc ev (5, 0)))).heap[pb]? = some (.cells #[nm, rows, .slice qo j qc, vv, tv, uv, ov, .int .i64 (plc ev (5, 0))] 35 (0, 0)) ∧ (w2.setCell ⟨pb, 7, none⟩ (.int .i64 (plc ev (5, 0)))).ownsRow (W.heap.size + 1) 3 1 ov j (iv (onsOf ev j))) := by
        refine ⟨hP2.fb.trans set_fb, ?_, own_keepB hP2.own (fun k hk => hset k (by have := (World.ownsRow.lt hP2.own k hk).1; have := HM.out.2.2; omega))⟩
        have := heap_setCell_same w2 pb 7 _ 35 (.int .i64 (plc ev (5, 0))) hP2.blk
        simpa using this
      clear hb2 hP2 hset
      go_wp2
      go_end0
      exact ⟨rfl, HX.out.1, ov, HX.out.2⟩
end Go.Proofs.Ytenhjebiokegkaa.Nm
