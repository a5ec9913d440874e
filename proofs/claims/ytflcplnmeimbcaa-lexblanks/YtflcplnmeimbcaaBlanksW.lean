import Derived.Test.YtflcplnmeimbcaaPureLexE
import Derived.Test.YtflcplnmeimbcaaLxFills
import Derived.Lib.OwnKind
namespace Go.Proofs.Ytflcplnmeimbcaa.lexBlanks
open Go.RowKit Go.Proofs.Ytflcplnmeimbcaa.Sp Go.Proofs.Ytflcplnmeimbcaa.Lx

theorem cov_of {s : ByteArray} {ts : List Tok} (h : full s = .ok ts) : s.size ≤ 1048576 ∧ Cov (tx s) 0 ts := by
  unfold full at h
  split at h
  · cases h
  · refine ⟨by omega, covers (tx s) s.size ((tx s).drop 0) 0 0 ts (by rw [List.drop_zero, tx_len]; exact Nat.le_refl _) rfl (Nat.zero_le _) h⟩
theorem cov_mem {w : List Nat} {a : Nat} {ts : List Tok} (h : Cov w a ts) : ∀ x ∈ ts, x.at_ ≤ x.stop ∧ x.stop ≤ w.length := by
  induction h with
  | last a h1 h2 => intro x hx; simp at hx; subst hx; exact ⟨Nat.le_refl _, Nat.le_refl _⟩
  | tok a y ts h1 h2 h3 h4 h5 h6 ih =>
    intro x hx
    rcases List.mem_cons.1 hx with rfl | hx
    · exact ⟨by omega, h3⟩
    · exact ih x hx

/-- two rows in the making: bytes, tokens -/
structure BB (W0 wr : World) (l : List UInt8) (v : Value) (us : List Tok) (v2 : Value) : Prop where
  own : wr.ownsRow W0.heap.size 5 1 v l.length (Lib.byteCells l)
  row : TokRow wr W0.heap.size v2 us
  bel : Below W0.heap.size W0 wr
theorem BB.apart {W0 wr : World} {l : List UInt8} {v : Value} {us : List Tok} {v2 : Value} (h : BB W0 wr l v us v2) : ∀ g, v.ownBlock = some g → v2.ownBlock = some g → False := by
  intro g h1 h2
  obtain ⟨c, f, e1⟩ := Lib.ownsRow_kind h.own g h1
  obtain ⟨c', f', e2⟩ := Lib.ownsRow_kind h.row g h2
  rw [e1] at e2
  simp at e2
theorem BB.below {W0 wr w1 : World} {l : List UInt8} {v : Value} {us : List Tok} {v2 : Value} (h : BB W0 wr l v us v2) (hb : Below wr.heap.size wr w1) : BB W0 w1 l v us v2 := by
  have hg : wr.grownBy w1 none := ⟨hb.os, hb.tape, hb.output, hb.size, fun k hk _ => hb.block k hk⟩
  refine ⟨h.own.kept hg ?_, h.row.below hb, h.bel.trans (hb.mono h.bel.size)⟩
  cases v.ownBlock with
  | none => exact Or.inl rfl
  | some k => exact Or.inr (by simp)
theorem BB.pushB {W0 wr w1 : World} {l y : List UInt8} {v v' : Value} {us : List Tok} {v2 : Value} {n : Nat} (h : BB W0 wr l v us v2) (hn : n = y.length)
    (ho : w1.ownsRow W0.heap.size 5 1 v' (l.length + n) (Lib.byteCells l ++ Lib.byteCells y)) (hg : wr.grownBy w1 v.ownBlock) : BB W0 w1 (l ++ y) v' us v2 := by
  refine ⟨?_, ?_, h.bel.grown hg h.bel.size (fun j hj => (World.ownsRow.lt h.own j hj).1)⟩
  · rw [List.length_append, ← hn, Lib.byteCells_append]
    exact ho
  · refine World.ownsRow.kept h.row hg ?_
    cases e : v2.ownBlock with
    | none => exact Or.inl rfl
    | some g => exact Or.inr fun e2 => h.apart g e2.symm e
theorem BB.pushT {W0 wr w1 : World} {l : List UInt8} {v : Value} {us : List Tok} {v2 v2' : Value} {o : Obj} {x : Tok} (h : BB W0 wr l v us v2)
    (ho : w1.ownsRow W0.heap.size 40 4 v2' (us.length + 1) (us.flatMap tc ++ tc x)) (hg : (wr.alloc o).grownBy w1 v2.ownBlock) : BB W0 w1 l v (us ++ [x]) v2' := by
  refine ⟨?_, ?_, (h.bel.alloc h.bel.size o).grown hg (Nat.le_trans h.bel.size (by simp)) (fun j hj => (World.ownsRow.lt h.row j hj).1)⟩
  · refine World.ownsRow.kept (h.own.alloc o) hg ?_
    cases e : v.ownBlock with
    | none => exact Or.inl rfl
    | some g => exact Or.inr fun e2 => h.apart g e e2.symm
  · unfold TokRow
    rw [flat_push, List.length_append]
    exact ho
theorem BB.slice {W0 wr : World} {l : List UInt8} {v : Value} {us : List Tok} {v2 : Value} (h : BB W0 wr l v us v2) : ∃ ao cap, v = .slice ao l.length cap ∧ l.length ≤ cap ∧ IsBytes wr ao ⟨l.toArray⟩ := by
  have hsz : (⟨l.toArray⟩ : ByteArray).size = l.length := by simp [ByteArray.size]
  rcases h.own.2 with ⟨h0, h1⟩ | ⟨g, cap, cur, hv, hbg, hg, h3, h4, h5, h6⟩
  · exact ⟨none, 0, by rw [h0, h1], by omega, fun i hi => by omega⟩
  · refine ⟨_, _, hv, h3, fun i hi => ⟨g, 0, rfl, (Array.getElem?_eq_some_iff.1 hg).1, ?_⟩⟩
    have hc := Lib.cells_of_row hg (l.length * 1) i (.int .u8 (nb ⟨l.toArray⟩ i : Nat)) (by
      rw [h6]
      unfold Lib.byteCells
      have e := byte_at ⟨l.toArray⟩ i hi
      rw [nb_get _ i hi, List.getElem?_map]
      have e' : l[i]? = some (⟨l.toArray⟩ : ByteArray)[i] := by simpa using e
      rw [e']
      rfl)
    rw [Lib.addr_add] at hc
    exact hc

/-- what is known behind k tokens -/
structure Pre (F : Nat → List Nat) (w : List Nat) (ts : List Tok) (k : Nat) (l : List UInt8) (us : List Tok) : Prop where
  bytes : weave F w 0 ts = l.map UInt8.toNat ++ weave F w k (ts.drop k)
  toks : wants F 0 0 ts = us ++ wants F k l.length (ts.drop k)
  small : l.length ≤ k * 1048585
  cnt : us.length = k
theorem Pre.next {F : Nat → List Nat} {w : List Nat} {ts : List Tok} {k : Nat} {l f t : List UInt8} {us : List Tok} {x : Tok} (h : Pre F w ts k l us) (hx : ts[k]? = some x) (hf : f.map UInt8.toNat = F k) (ht : t.map UInt8.toNat = slice w x.at_ x.stop) (htl : t.length = x.stop - x.at_) (hs : f.length + t.length ≤ 1048585) :
    Pre F w ts (k + 1) (l ++ f ++ t) (us ++ [⟨x.kind, (l ++ f).length, (l ++ f).length + (x.stop - x.at_), x.n⟩]) := by
  obtain ⟨hlt, hg⟩ := List.getElem?_eq_some_iff.1 hx
  have hd : ts.drop k = x :: ts.drop (k + 1) := by rw [List.drop_eq_getElem_cons hlt, hg]
  have hfl : f.length = (F k).length := by rw [← hf, List.length_map]
  refine ⟨?_, ?_, ?_, ?_⟩
  · rw [h.bytes, hd, weave, List.map_append, List.map_append, hf, ht]
    simp
  · rw [h.toks, hd, wants, ← hfl]
    have e1 : (l ++ f ++ t).length = l.length + f.length + (x.stop - x.at_) := by simp only [List.length_append, htl]
    rw [e1, List.length_append, List.append_assoc]
    rfl
  · have := h.small
    simp only [List.length_append]
    omega
  · simp [h.cnt]

set_option maxHeartbeats 6400000 in
set_option maxRecDepth 100000 in
theorem walk (ao : Option Addr) (s : ByteArray) (cap : Nat) (bo : Option Addr) (n bcap : Nat) (z : Nat → Int) (w : World) (h : IsBytes w ao s) (hc : s.size ≤ cap) (hs : s.size ≤ 140737488351232) (hnil : ao = none → cap = 0) (hz : IsInts w bo n z) (hn : n ≤ 140737488351232) :
    Calls Try.prog 7 #[.slice ao s.size cap, .slice bo n bcap] w fun e w' => e = .returned (.bool true) ∧ Below w.heap.size w w' := by
  have HI : Hid (IsBytes w ao s) := h
  have HZ : Hid (IsInts w bo n z) := hz
  have HNil : Hid (ao = none → cap = 0) := hnil
  clear h hz hnil
  obtain ⟨j0, hj, hj0, hj1, hj2⟩ := info_parts info5
  obtain ⟨i0, hi, hz0, hz1, hz2⟩ := info_parts info40
  go_enter Try.func7, Try.ntmps7
  go_wp2_with fail
  refine (known_any _).mono ?_
  rintro e w1 ⟨rfl, hB1⟩
  have HB1 : Hid (Below w.heap.size w w1) := hB1
  clear hB1
  go_wp2_with fail
  refine (scan_parts ao s cap _ (HI.out.below HB1.out) hc).mono ?_
  rintro e w2 ⟨⟨a1, c1, rfl, hrow1⟩, hB2⟩
  have HB2 : Hid (Below w.heap.size w w2) := HB1.out.trans (hB2.mono HB1.out.size)
  have HR1 : Hid (TokRow w2 w1.heap.size (.slice a1 (tsOf (full s)).length c1) (tsOf (full s))) := hrow1
  clear hB2 hrow1
  have HL : Hid ((tsOf (full s)).length ≤ 65537) := sc_len s
  cases hF : full s with
  | fault er i =>
    have hlt : er ≠ 0 := by
      by_cases h1 : 1048576 < s.size
      · rw [full_long h1] at hF
        cases hF
        omega
      · have := full_fault (by omega) hF
        omega
    have hne : ((er : Int) == 0) = false := by simp; omega
    have hne2 : ((er : Int) != 0) = true := by simp; omega
    simp only [tsOf, erOf, atOf, List.length_nil]
    go_wp2
    go_ret
    exact ⟨rfl, HB2.out.alloc HB2.out.size _⟩
  | ok ts =>
    obtain ⟨hs2, hC⟩ := cov_of hF
    rw [hF] at HR1 HL
    simp only [tsOf, erOf, atOf] at HR1 HL ⊢
    have HC : Hid (Cov (tx s) 0 ts) := hC
    have HM : Hid (∀ x ∈ ts, x.at_ ≤ x.stop ∧ x.stop ≤ s.size) := fun x hx => by have := cov_mem hC x hx; rwa [tx_len] at this
    have hlen1 := HL.out
    clear hF hC
    by_cases hn0 : n = 0
    · have q0 : ((n : Int) == 0) = true := by simp; omega
      go_wp2
      go_ret
      exact ⟨rfl, HB2.out.alloc HB2.out.size _⟩
    · have q0 : ((n : Int) == 0) = false := by simp; omega
      have hnn : ¬ (n : Int) = 0 := by omega
      have hn1 : 0 < n := by omega
      have H3 : Hid (Below w2.heap.size w2 (w2.alloc (.cells #[.int .i64 0, .int .i64 0] 28))) := (Below.refl _ _).alloc (Nat.le_refl _) _
      have HK0 : Hid (IsToks (w2.alloc (.cells #[.int .i64 0, .int .i64 0] 28)) a1 ts) := (HR1.out.below H3.out).read
      have HB3 : Hid (Below w.heap.size w (w2.alloc (.cells #[.int .i64 0, .int .i64 0] 28))) := HB2.out.trans (H3.out.mono HB2.out.size)
      go_wp2_with fail
      clear H3 HR1 hn0
      generalize w2.alloc (.cells #[.int .i64 0, .int .i64 0] 28) = W0 at *
      obtain ⟨F, HFd⟩ : ∃ F : Nat → List Nat, Hid (∀ i, F i = tx (fb (rnd (z (i % n)) 7))) := ⟨_, fun _ => rfl⟩
      go_loopw [7, 8, 9] (fun b u i wr => ∃ (k : Nat) (l : List UInt8) (us : List Tok) (bb : Option Addr) (bc : Nat) (ub : Option Addr) (uc : Nat), k ≤ ts.length ∧ i = .int .i64 k ∧ b = .slice bb l.length bc ∧ u = .slice ub us.length uc ∧ Pre F (tx s) ts k l us ∧ BB W0 wr l (.slice bb l.length bc) us (.slice ub us.length uc)) (fun _ _ i _ => ts.length - (intOf i).toNat)
      case atStart => exact ⟨0, [], [], none, 0, none, 0, Nat.zero_le _, rfl, rfl, rfl, ⟨by simp, by simp, by simp, rfl⟩, ⟨World.ownsRow_nil _ _ _ _, World.ownsRow_nil _ _ _ _, Below.refl _ _⟩⟩
      case round =>
        obtain ⟨k, l, us, bb, bc, ub, uc, hk, rfl, rfl, rfl, hP, hB⟩ := hrel
        have HP : Hid (Pre F (tx s) ts k l us) := hP
        have HB : Hid (BB W0 wr l (.slice bb l.length bc) us (.slice ub us.length uc)) := hB
        have HSM : Hid (l.length ≤ k * 1048585) := hP.small
        have HCN : Hid (us.length = k) := hP.cnt
        clear hP hB
        by_cases hlt : k < ts.length
        · obtain ⟨y, hy⟩ : ∃ y, ts[k]? = some y := ⟨_, List.getElem?_eq_getElem hlt⟩
          have hyb := HM.out y (List.mem_of_getElem? hy)
          obtain ⟨kd, p, q, m⟩ := y
          simp only at hyb
          obtain ⟨hpq, hq⟩ := hyb
          obtain ⟨A, C, hsl, hA, hzA, hAn⟩ := cut_more Try.underlying22 ao s cap p q hc HNil.out hpq hq
          have hm : k % n < n := Nat.mod_lt _ hn1
          obtain ⟨gz, oz, hbo, hgz, hzc⟩ := (HZ.out.below (HB3.out.trans (HB.out.bel.mono HB3.out.size))) (k % n) hm
          subst hbo
          have hfs := fb_size (rnd (z (k % n)) 7) (rnd_lt _ 7 (by omega))
          have HFk : Hid (tx (fb (rnd (z (k % n)) 7)) = F k) := (HFd.out k).symm
          have HFl : Hid (∀ W, Calls Try.prog 21 #[.int .i64 (z (k % n))] W fun e w' => e = .returned (.string (fb (rnd (z (k % n)) 7))) ∧ Below W.heap.size W w') := fun W => fills_any _ W
          generalize fb (rnd (z (k % n)) 7) = fk at *
          generalize z (k % n) = zk at *
          have HY : Hid (ts[k]? = some ⟨kd, p, q, m⟩) := hy
          have HT : Hid (tx (s.extract p q) = slice (tx s) p q) := by show _ = _; rw [tx_extract]; rfl
          have HAb : Hid (∀ W, IsBytes W ao s → IsBytes W A (s.extract p q)) := hA
          generalize s.extract p q = u at *
          clear hy hA
          go_wp2_with fail
          refine (HFl.out _).mono ?_
          rintro e w3 ⟨rfl, hB3⟩
          have H3 : Hid (BB W0 w3 l (.slice bb l.length bc) us (.slice ub us.length uc)) := HB.out.below hB3
          have HW3 : Hid (Below wr.heap.size wr w3) := hB3
          clear hB3
          go_wp2_with (at_builtin; refine Lib.wpList_append_own_string _ rfl _ _ 22 9 rfl W0.heap.size 5 j0 Try.underlying22 Try.underlying9 hj hj0 hj1 hj2 _ _ _ rfl H3.out.own fk rfl ?c3 ?c4 ?c5 ?_)
          case c3 => have := HSM.out; unfold maxLen; omega
          case c4 => have := HSM.out; omega
          case c5 => exact H3.out.bel.size
          intro v4 w4 hO4 hg4 _
          have H4 : Hid (BB W0 w4 (l ++ fk.data.toList) v4 us (.slice ub us.length uc)) := H3.out.pushB (n := fk.size) (by simp) (by rw [← Lib.strCells_eq]; exact hO4) hg4
          have hl4 : Hid ((l ++ fk.data.toList).length = l.length + fk.size) := by show _ = _; simp
          clear hO4 hg4
          obtain ⟨b4, e4, hv4, _, _⟩ := H4.out.slice
          subst hv4
          obtain ⟨g, o, hga, hg, b0, b1, b2, b3⟩ := (HK0.out.below H4.out.bel) k _ HY.out
          simp only at b0 b1 b2 b3
          subst hga
          have H5 : Hid (BB W0 (w4.alloc (.cells #[.int .i64 kd, .int .i64 p, .int .i64 q, .int .i64 m] 40)) (l ++ fk.data.toList) (.slice b4 (l ++ fk.data.toList).length e4) us (.slice ub us.length uc)) := H4.out.below ((Below.refl _ _).alloc (Nat.le_refl _) _)
          generalize HL4 : l ++ fk.data.toList = l4 at *
          have hl4b : (l4.length : Int) ≤ 140000000000 := by have h1 := hl4.out; have h2 := HSM.out; omega
          have hN : Hid ((l4.length : Int) + (q : Int) - (p : Int) = ((l4.length + (q - p) : Nat) : Int)) := by show _ = _; omega
          go_wp2_with (at_builtin; refine wpList_append_own _ rfl _ _ 25 rfl W0.heap.size 40 i0 (.agg #[.int .i64 0, .int .i64 0, .int .i64 0, .int .i64 0]) 4 32 Try.underlying25 hi hz0 hz1 hz2 rfl (by decide) _ _ _ rfl (H5.out.row.alloc _) ⟨w4.heap.size + 1, 0, none⟩ 1 1 [.int .i64 kd, .int .i64 l4.length, .int .i64 ((l4.length : Int) + (q : Int) - (p : Int)), .int .i64 m] rfl rfl ?d1 ?d2 ?d3 ?d4 ?d5 ?_)
          case d1 => exact cell_four' _ _ _ _ _ _ _ (by simp)
          case d2 => intro u hu; simp at hu; rcases hu with rfl | rfl | rfl | rfl <;> rfl
          case d3 => have := HCN.out; unfold maxLen; omega
          case d4 => have := HCN.out; omega
          case d5 => have := H5.out.bel.size; simp at this ⊢; omega
          intro v6 w6 hO6 hg6 _
          rw [hN.out] at hO6
          have H6 : Hid (BB W0 w6 l4 (.slice b4 l4.length e4) (us ++ [⟨kd, l4.length, l4.length + (q - p), m⟩]) v6) := H5.out.pushT (x := ⟨kd, l4.length, l4.length + (q - p), m⟩) hO6 hg6
          have HG6 : Hid (w6.heap[w4.heap.size]? = some (.cells #[.int .i64 kd, .int .i64 p, .int .i64 q, .int .i64 m] 40 (0, 0)) ∧ w4.heap.size < w6.heap.size) := by
            have h1 := hg6.size
            simp only [World.size_alloc] at h1
            refine ⟨?_, by omega⟩
            have h2 := World.ownsRow.lt H4.out.row
            rw [hg6.block w4.heap.size (by simp only [World.size_alloc]; omega) (fun e => by have := (h2 _ e.symm).2; omega), Below.heap_alloc _ _ _ (by simp)]
            exact heap_alloc_new w4 _
          clear hO6 hg6 b0 b1 b2 b3 hg
          have hblk : w6.heap[w4.heap.size]? = some (.cells #[.int .i64 kd, .int .i64 p, .int .i64 q, .int .i64 m] 40 (0, 0)) ∧ w4.heap.size < w6.heap.size := HG6.out
          have t1 : w6.cell? ⟨w4.heap.size, 1, none⟩ = some (.int .i64 p) := by simp [World.cell?, hblk.1]
          have t2 : w6.cell? ⟨w4.heap.size, 2, none⟩ = some (.int .i64 q) := by simp [World.cell?, hblk.1]
          have hbz := hblk.2
          clear hblk HG6
          have HU6 : Hid (IsBytes w6 A u) := HAb.out _ (HI.out.below (HB3.out.trans (H6.out.bel.mono HB3.out.size)))
          obtain ⟨ub6, uc6, hv6⟩ := H6.out.row.form
          subst hv6
          generalize HUS : us ++ [(⟨kd, l4.length, l4.length + (q - p), m⟩ : Tok)] = us6 at *
          have hul : u.data.toList.length = q - p := by rw [← hzA]; simp
          go_wp2_with (at_builtin; refine append_any _ rfl _ _ 22 rfl W0.heap.size 5 j0 (.int .u8 0) 1 1 Try.underlying22 hj hj0 hj1 hj2 rfl (by decide) _ _ _ rfl H6.out.own A (q - p) C (Lib.byteCells u.data.toList) rfl ?e1 ?e2 ?e3 ?e4 ?e5 ?e6 ?e7 ?_)
          case e1 => rw [Lib.byteCells_length, hul]; omega
          case e2 => exact hAn
          case e3 => exact HU6.out.news
          case e4 => exact Lib.byteCells_one _
          case e5 => unfold maxLen; omega
          case e6 => omega
          case e7 => exact H6.out.bel.size
          intro v7 w7 hO7 hg7
          have H7 : Hid (BB W0 w7 (l4 ++ u.data.toList) v7 us6 (.slice ub6 us6.length uc6)) := H6.out.pushB (n := q - p) hul.symm hO7 hg7
          have HP7 : Hid (Pre F (tx s) ts (k + 1) (l4 ++ u.data.toList) us6) := by
            have h1 := HP.out.next (f := fk.data.toList) (t := u.data.toList) HY.out HFk.out HT.out hul (by rw [hul]; simp; omega)
            simp only at h1
            rw [HL4, HUS] at h1
            exact h1
          clear hO7 hg7
          obtain ⟨b7, e7, hv7, _, _⟩ := H7.out.slice
          subst hv7
          generalize l4 ++ u.data.toList = l7 at *
          go_wp2_with fail
          go_roundw
          case rel =>
            repeat apply Exists.intro
            refine ⟨⟨k + 1, l7, us6, b7, e7, ub6, uc6, by omega, by go_num, rfl, rfl, HP7.out, H7.out⟩, ?_⟩
            rfl
          case measure => simp [intOf]; omega
        · obtain rfl : k = ts.length := by omega
          have hd : decide ((ts.length : Int) < (ts.length : Int)) = false := by simp
          have hsz : (⟨l.toArray⟩ : ByteArray).size = l.length := by simp [ByteArray.size]
          by_cases hbig : 1048576 < l.length
          · have hb1 : (1048576 : Int) < (l.length : Int) := by omega
            go_wp2
            go_ret
            exact ⟨rfl, HB3.out.trans (HB.out.bel.mono HB3.out.size)⟩
          · have hb1 : decide ((1048576 : Int) < (l.length : Int)) = false := by simp; omega
            have hfull : full ⟨l.toArray⟩ = .ok us := by
              rw [full_short (by omega), sc_zero]
              have e1 : tx ⟨l.toArray⟩ = weave F (tx s) 0 ts := by
                rw [HP.out.bytes, List.drop_length]
                simp [tx, weave]
              have e2 : us = wants F 0 0 ts := by
                rw [HP.out.toks, List.drop_length]
                simp [wants]
              rw [e1, e2]
              exact blanks (fun i => by rw [HFd.out i]; exact fb_fills _ (rnd_lt _ 7 (by omega))) HC.out 0 0 0 (by omega)
            obtain ⟨b9, e9, hv9, hcap9, hby9⟩ := HB.out.slice
            cases hv9
            have HSc : Hid (Calls Try.prog 11 #[.slice bb l.length bc] wr fun e w' => (∃ bo bc, e = .returned (.tuple #[.slice bo us.length bc, .agg #[.int .i64 0, .int .i64 0]]) ∧ TokRow w' wr.heap.size (.slice bo us.length bc) us) ∧ Below wr.heap.size wr w') := by
              have h1 := scan_at bb ⟨l.toArray⟩ l.length bc wr hsz.symm hby9 (by omega)
              rw [hfull] at h1
              exact h1
            clear hby9 hfull
            go_wp2_with fail
            refine HSc.out.mono ?_
            rintro e w8 ⟨⟨a8, c8, rfl, hrow8⟩, hB8⟩
            have H8 : Hid (Below w8.heap.size w8 (w8.alloc (.cells #[.int .i64 0, .int .i64 0] 28))) := (Below.refl _ _).alloc (Nat.le_refl _) _
            have HT1 : Hid (IsToks (w8.alloc (.cells #[.int .i64 0, .int .i64 0] 28)) a8 us) := (TokRow.below hrow8 H8.out).read
            have HT2 : Hid (IsToks (w8.alloc (.cells #[.int .i64 0, .int .i64 0] 28)) ub us) := ((HB.out.row.below hB8).below H8.out).read
            have HB9 : Hid (Below w.heap.size w (w8.alloc (.cells #[.int .i64 0, .int .i64 0] 28))) := by
              have h1 := HB3.out.trans (HB.out.bel.mono HB3.out.size)
              have h2 := h1.trans (hB8.mono h1.size)
              exact h2.trans (H8.out.mono h2.size)
            clear hrow8 hB8
            go_wp2_with fail
            refine (same_any a8 ub us c8 uc _ HT1.out HT2.out (by have := HCN.out; omega)).mono ?_
            rintro e w10 ⟨rfl, hB10⟩
            have HB10 : Hid (Below w.heap.size w w10) := HB9.out.trans (hB10.mono HB9.out.size)
            clear hB10
            go_wp2
            go_ret
            exact ⟨rfl, HB10.out⟩
end Go.Proofs.Ytflcplnmeimbcaa.lexBlanks
