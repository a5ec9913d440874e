import Derived.Test.YtngoolkojnoplaaCoversL
import Derived.Test.YtngoolkojnoplaaPureLexE
import Derived.Test.YtngoolkojnoplaaLxBetween
namespace Go.Proofs.Ytngoolkojnoplaa.lexCovers
open Go.RowKit Go.Proofs.Ytngoolkojnoplaa.Sp Go.Proofs.Ytngoolkojnoplaa.Lx

theorem cov_of {s : ByteArray} {ts : List Tok} (h : full s = .ok ts) : s.size ≤ 1048576 ∧ Cov (tx s) 0 ts := by
  unfold full at h
  split at h
  · cases h
  · refine ⟨by omega, covers (tx s) s.size ((tx s).drop 0) 0 0 ts (by rw [List.drop_zero, tx_len]; exact Nat.le_refl _) rfl (Nat.zero_le _) h⟩
/-- the last one -/
theorem cov_end {w : List Nat} {a : Nat} {ts : List Tok} (h : Cov w a ts) : ts[ts.length - 1]? = some ⟨0, w.length, w.length, 0⟩ := by
  induction h with
  | last => rfl
  | tok a x ts _ _ _ _ _ h ih =>
    have := h.pos
    cases ts with
    | nil => exact absurd rfl this
    | cons y r => simpa using ih
/-- the one at k -/
theorem cov_at {w : List Nat} {a k : Nat} {ts : List Tok} (h : Cov w a (ts.drop k)) :
    (k + 1 = ts.length ∧ ts[k]? = some ⟨0, w.length, w.length, 0⟩ ∧ a ≤ w.length ∧ btw false (w.drop a) = true) ∨
    ∃ x, k + 1 < ts.length ∧ ts[k]? = some x ∧ a ≤ x.at_ ∧ x.at_ < x.stop ∧ x.stop ≤ w.length ∧ btw false (slice w a x.at_) = true ∧ Alone (slice w x.at_ x.stop) x ∧ Cov w x.stop (ts.drop (k + 1)) := by
  have hlt : k < ts.length := by
    have := h.pos
    rcases Nat.lt_or_ge k ts.length with h1 | h1
    · exact h1
    · exact absurd (List.drop_eq_nil_of_le h1) this
  rw [List.drop_eq_getElem_cons hlt] at h
  have hg : ts[k]? = some ts[k] := List.getElem?_eq_getElem hlt
  generalize ts[k] = x at h hg
  generalize hR : ts.drop (k + 1) = r at h
  have hl := congrArg List.length hR
  rw [List.length_drop] at hl
  cases h with
  | last a h1 h2 =>
    simp only [List.length_nil] at hl
    exact Or.inl ⟨by omega, hg, h1, h2⟩
  | tok a x r h1 h2 h3 h4 h5 h6 =>
    refine Or.inr ⟨x, ?_, hg, h1, h2, h3, h4, h5, h6⟩
    have := h6.pos
    cases r with
    | nil => exact absurd rfl this
    | cons => simp only [List.length_cons] at hl; omega

set_option maxHeartbeats 64000000 in
set_option maxRecDepth 100000 in
theorem walk (ao : Option Addr) (s : ByteArray) (cap : Nat) (w : World) (h : IsBytes w ao s) (hc : s.size ≤ cap) (hs : s.size ≤ 140737488351232) :
    Calls Try.prog 3 #[.slice ao s.size cap] w fun e w' => e = .returned (.bool true) ∧ Below w.heap.size w w' := by
  have HI : Hid (IsBytes w ao s) := h
  clear h
  go_enter Try.func3, Try.ntmps3
  go_wp2_with fail
  refine (known_any _).mono ?_
  rintro e w1 ⟨rfl, hB1⟩
  have HB1 : Hid (Below w.heap.size w w1) := hB1
  clear hB1
  go_wp2_with fail
  refine (scan_parts ao s cap _ (HI.out.below HB1.out) hc).mono ?_
  rintro e w2 ⟨⟨a1, c1, rfl, hrow1⟩, hB2⟩
  have HB2 : Hid (Below w.heap.size w w2) := HB1.out.trans (hB2.mono HB1.out.size)
  have HR1 : Hid (TokRow w2 w1.heap.size (.slice a1 (tsOf (full s)).length c1) (tsOf (full s))) := hrow1
  clear hB2 hrow1
  have HL : Hid ((tsOf (full s)).length ≤ 65537) := sc_len s
  cases hF : full s with
  | fault er i =>
    have hlt : i < s.size ∧ er ≠ 0 := by
      by_cases h1 : 1048576 < s.size
      · rw [full_long h1] at hF
        cases hF
        omega
      · have := full_fault (by omega) hF
        omega
    have hlt1 : (i : Int) < (s.size : Int) := by omega
    have hne : ((er : Int) == 0) = false := by simp; omega
    have hne2 : ((er : Int) != 0) = true := by simp; omega
    simp only [tsOf, erOf, atOf, List.length_nil]
    go_wp2
    go_ret
    exact ⟨rfl, HB2.out.alloc HB2.out.size _⟩
  | ok ts =>
    obtain ⟨hs2, hC⟩ := cov_of hF
    rw [hF] at HR1 HL
    simp only [tsOf, erOf, atOf] at HR1 HL ⊢
    have HC : Hid (Cov (tx s) 0 ts) := hC
    have hlen0 : 0 < ts.length := by
      have := hC.pos
      cases ts with
      | nil => exact absurd rfl this
      | cons => simp
    have hlen1 := HL.out
    have hend := cov_end hC
    rw [tx_len] at hend
    obtain ⟨ge, oe, hae, hge, b0, b1, b2, b3⟩ := HR1.out.read (ts.length - 1) _ hend
    simp only at b0 b1 b2 b3
    clear hF hC hend
    subst hae
    have hsub : ((ts.length : Int) - 1).toNat = ts.length - 1 := by omega
    have hb0 : ((ts.length : Int) == 0) = false := beq_eq_false_iff_ne.2 (by omega)
    have H3 : Hid (Below w2.heap.size w2 (w2.alloc (.cells #[.int .i64 0, .int .i64 0] 27))) := (Below.refl _ _).alloc (Nat.le_refl _) _
    have cc : ∀ j, (w2.alloc (.cells #[.int .i64 0, .int .i64 0] 27)).cell? ⟨ge, j, none⟩ = w2.cell? ⟨ge, j, none⟩ := fun j => World.cell?_alloc_past _ _ _ hge
    rw [← cc] at b0 b1 b2 b3
    go_wp2_with fail
    have HK0 : Hid (IsToks (w2.alloc (.cells #[.int .i64 0, .int .i64 0] 27)) (some ⟨ge, oe, none⟩) ts) := (HR1.out.below H3.out).read
    have HB3 : Hid (Below w.heap.size w (w2.alloc (.cells #[.int .i64 0, .int .i64 0] 27))) := HB2.out.trans (H3.out.mono HB2.out.size)
    clear b0 b1 b2 b3 cc hge HR1
    generalize w2.alloc (.cells #[.int .i64 0, .int .i64 0] 27) = W0 at *
    go_loopg [5, 6] ts.length (fun gq p i wr => ∃ k a : Nat, gq = ts.length - k ∧ i = .int .i64 k ∧ p = .int .i64 a ∧ Cov (tx s) a (ts.drop k) ∧ Below W0.heap.size W0 wr)
    case atStart => exact ⟨0, 0, rfl, rfl, rfl, HC.out, Below.refl _ _⟩
    case round =>
      obtain ⟨k, a, hgk, rfl, rfl, hcv, hB⟩ := hrel
      have HGK : Hid (gk = ts.length - k) := hgk
      clear hgk
      have HB : Hid (Below W0.heap.size W0 wr) := hB
      clear hB
      have HW : Hid (Below w.heap.size w wr) := HB3.out.trans (HB.out.mono HB3.out.size)
      have HIr : Hid (IsBytes wr ao s) := HI.out.below HW.out
      rcases cov_at hcv with ⟨h1, h2, h3, h4⟩ | ⟨x, h1, h2, h3, h4, h5, h6, h7, h8⟩
      · obtain ⟨g, o, e, hg, b0, b1, b2, b3⟩ := (HK0.out.below HB.out) k _ h2
        cases e
        simp only at b0 b1 b2 b3
        rw [tx_len] at b1 b2 h3
        obtain ⟨A, C, hsl, hA, hC, hzA⟩ := cut_any Try.underlying22 ao s cap a s.size hc h3 (Nat.le_refl _)
        have HBt : Hid (∀ W, IsBytes W ao s → Calls Try.prog 6 #[.slice A (s.size - a) C] W fun e w' => e = .returned (.bool true) ∧ w' = W) := fun W hb => by
          rw [← hzA]
          refine between_any A _ C W (hA W hb) (by rw [hzA]; omega) ?_
          rw [tx_extract, List.take_of_length_le (by rw [drop_len]; exact Nat.le_refl _)]
          exact h4
        have hk1 : (k : Int) < (ts.length : Int) := by omega
        have q1 : ((k : Int) == (ts.length : Int) - 1) = true := by simp; omega
        clear hcv h2 h4 hA hC hzA h1
        have HIr2 : Hid (IsBytes (wr.alloc (.cells #[.int .i64 0, .int .i64 s.size, .int .i64 s.size, .int .i64 0] 31)) ao s) := HIr.out.below ((Below.refl _ _).alloc (Nat.le_refl _) _)
        have HW2 : Hid (Below w.heap.size w (wr.alloc (.cells #[.int .i64 0, .int .i64 s.size, .int .i64 s.size, .int .i64 0] 31))) := HW.out.alloc HW.out.size _
        go_wp2_with fail
        refine (HBt.out _ HIr2.out).mono ?_
        rintro e w' ⟨rfl, rfl⟩
        go_wp2
        go_ret
        exact ⟨rfl, HW2.out⟩
      · obtain ⟨g, o, e, hg, b0, b1, b2, b3⟩ := (HK0.out.below HB.out) k _ h2
        cases e
        rw [tx_len] at h5
        obtain ⟨kd, p, q, n⟩ := x
        simp only at b0 b1 b2 b3 h3 h4 h5 h6 h7 h8
        obtain ⟨A, C, hsl, hA, hC, hzA⟩ := cut_any Try.underlying22 ao s cap a p hc h3 (by omega)
        have HBt : Hid (∀ W, IsBytes W ao s → Calls Try.prog 6 #[.slice A (p - a) C] W fun e w' => e = .returned (.bool true) ∧ w' = W) := fun W hb => by
          rw [← hzA]
          refine between_any A _ C W (hA W hb) (by rw [hzA]; omega) ?_
          rw [tx_extract]
          exact h6
        obtain ⟨A2, C2, hsl2, hA2, hC2, hz2⟩ := cut_any Try.underlying22 ao s cap p q hc (by omega) h5
        have hcv2 : ∀ W, IsBytes W ao s → (convert 22 9 (.slice A2 (q - p) C2)).run Try.prog W = .ok (.string (s.extract p q)) W := fun W hb => by
          rw [← hz2]
          exact conv_any Try.underlying22 A2 _ C2 W (hA2 W hb)
        have HAl : Hid (Alone (tx (s.extract p q)) ⟨kd, p, q, n⟩) := by
          have : tx (s.extract p q) = slice (tx s) p q := by rw [tx_extract]; rfl
          rw [this]
          exact h7
        have HCv : Hid (Cov (tx s) q (ts.drop (k + 1))) := h8
        have HLT : Hid (k + 1 < ts.length) := h1
        clear h6 h7 h8 hcv h2
        generalize s.extract p q = u at *
        have hfu : full u = .ok [⟨kd, 0, u.size, n⟩, ⟨0, u.size, u.size, 0⟩] := by
          rw [full_short (by rw [hz2]; omega), sc_zero]
          have := HAl.out.scanned
          rw [tx_len] at this
          exact this
        have hn30 : n ≤ 1073741824 := by have h : ¬ 1073741824 < n := HAl.out.small; omega
        have e5 : ((kd : Int) == 5) = kp (tx u) := by
          have := HAl.out.word
          rw [Bool.eq_iff_iff]
          show _ ↔ kept.contains (tx u) = true
          rw [← this]
          simp
          omega
        have e2 : ((kd : Int) == 2) = isName (tx u) := by
          have := HAl.out.name
          rw [Bool.eq_iff_iff, ← this]
          simp
          omega
        have hn0 : kd ≠ 3 → n = 0 := fun h => by
          have := HAl.out.value
          simp only [num, if_neg h] at this
          exact this.symm
        have HN0 : Hid (kd ≠ 3 → n = 0) := hn0
        have HE5 : Hid (((kd : Int) == 5) = kp (tx u)) := e5
        have HE2 : Hid (((kd : Int) == 2) = isName (tx u)) := e2
        have HN30 : Hid (n ≤ 1073741824) := hn30
        clear hn0 e5 e2 hn30
        have hk1 : (k : Int) < (ts.length : Int) := by omega
        have q1 : ((k : Int) == (ts.length : Int) - 1) = false := by simp; omega
        have q2 : ((q : Int) == (p : Int)) = false := by simp; omega
        have HB1r : Hid (Below wr.heap.size wr (wr.alloc (.cells #[.int .i64 kd, .int .i64 p, .int .i64 q, .int .i64 n] 31))) := (Below.refl _ _).alloc (Nat.le_refl _) _
        have HIr2 : Hid (IsBytes (wr.alloc (.cells #[.int .i64 kd, .int .i64 p, .int .i64 q, .int .i64 n] 31)) ao s) := HIr.out.below HB1r.out
        have hcv3 := hcv2 _ HIr2.out
        obtain ⟨cb, w2b, hcvb, hBy, hbel, hcb⟩ := bytes_any Try.underlying22 u (wr.alloc (.cells #[.int .i64 kd, .int .i64 p, .int .i64 q, .int .i64 n] 31))
        simp only [World.size_alloc] at hcvb hBy hbel
        have HBy : Hid (IsBytes w2b (some ⟨wr.heap.size + 1, 0, none⟩) u) := hBy
        have HBl : Hid (Below (wr.heap.size + 1) (wr.alloc (.cells #[.int .i64 kd, .int .i64 p, .int .i64 q, .int .i64 n] 31)) w2b) := hbel
        have HFu : Hid (full u = .ok [⟨kd, 0, u.size, n⟩, ⟨0, u.size, u.size, 0⟩]) := hfu
        have HUS : Hid (u.size = q - p) := hz2
        clear hA hC hzA hcv2 hA2 hC2 hz2 hBy hbel hfu HAl
        go_wp2_with fail
        refine (HBt.out _ HIr2.out).mono ?_
        rintro e w' ⟨rfl, rfl⟩
        go_wp2_with fail
        refine (scan_parts _ u cb _ HBy.out hcb).mono ?_
        rintro e w3 ⟨⟨bm, cm, rfl, hrowm⟩, hB3⟩
        rw [HFu.out] at hrowm ⊢
        simp only [tsOf, erOf, atOf, List.length_cons, List.length_nil] at hrowm ⊢
        have hz2b := HBl.out.size
        simp only [World.size_alloc] at hz2b
        have hz3 := hB3.size
        have HB4 : Hid (Below wr.heap.size wr (w3.alloc (.cells #[.int .i64 0, .int .i64 0] 27))) := ((HB1r.out.trans (HBl.out.mono (by omega))).trans (hB3.mono (by omega))).alloc (by omega) _
        have hT : (w3.alloc (.cells #[.int .i64 0, .int .i64 0] 27)).heap[wr.heap.size]? = some (.cells #[.int .i64 kd, .int .i64 p, .int .i64 q, .int .i64 n] 31 (0, 0)) := by
          rw [Below.heap_alloc _ _ _ (by omega), hB3.block _ (by omega), HBl.out.block _ (by omega)]
          exact heap_alloc_new wr _
        have hTz : wr.heap.size < (w3.alloc (.cells #[.int .i64 0, .int .i64 0] 27)).heap.size := by simp only [World.size_alloc]; omega
        obtain ⟨gm, om, e, hgm, m0, m1, m2, m3⟩ := ((TokRow.below hrowm ((Below.refl _ _).alloc (Nat.le_refl _) (.cells #[.int .i64 0, .int .i64 0] 27))).read) 0 _ rfl
        subst e
        simp only [Nat.zero_mul, Nat.add_zero] at m0 m1 m2 m3
        have t0 : (w3.alloc (.cells #[.int .i64 0, .int .i64 0] 27)).cell? ⟨wr.heap.size, 0, none⟩ = some (.int .i64 kd) := by simp [World.cell?, hT]
        have t1 : (w3.alloc (.cells #[.int .i64 0, .int .i64 0] 27)).cell? ⟨wr.heap.size, 3, none⟩ = some (.int .i64 n) := by simp [World.cell?, hT]
        clear hrowm hB3
        have c1 : Hid (∀ w, Calls Try.prog 7 #[.string u] w fun e w' => e = .returned (.bool (kp (tx u))) ∧ w' = w) := fun w => is_any u w
        have c3 : Hid (∀ w, Calls Try.prog 8 #[.string u] w fun e w' => e = .returned (.bool (isName (tx u))) ∧ Below w.heap.size w w') := fun w => isName_any u w
        generalize kp (tx u) = yb at *
        generalize isName (tx u) = zb at *
        clear hsl hsl2 hcv3 hcvb hg b0 b1 b2 b3 h1 h3
        go_wp2_with fail
        go_quiet (fail)
        have HBq : Hid (Below wr.heap.size wr ((w3.alloc (.cells #[.int .i64 0, .int .i64 0] 27)).drewN nq)) := HB4.out.trans ((Go.Proofs.Ytngoolkojnoplaa.Lx.below_drewN (w3.alloc (.cells #[.int .i64 0, .int .i64 0] 27)) nq).mono HB4.out.size)
        have t0q : ((w3.alloc (.cells #[.int .i64 0, .int .i64 0] 27)).drewN nq).cell? ⟨wr.heap.size, 0, none⟩ = some (.int .i64 kd) := ((Go.Proofs.Ytngoolkojnoplaa.Lx.below_drewN (w3.alloc (.cells #[.int .i64 0, .int .i64 0] 27)) nq).cell (p := ⟨wr.heap.size, 0, none⟩) hTz).trans t0
        have t1q : ((w3.alloc (.cells #[.int .i64 0, .int .i64 0] 27)).drewN nq).cell? ⟨wr.heap.size, 3, none⟩ = some (.int .i64 n) := ((Go.Proofs.Ytngoolkojnoplaa.Lx.below_drewN (w3.alloc (.cells #[.int .i64 0, .int .i64 0] 27)) nq).cell (p := ⟨wr.heap.size, 3, none⟩) hTz).trans t1
        have hTq : wr.heap.size < ((w3.alloc (.cells #[.int .i64 0, .int .i64 0] 27)).drewN nq).heap.size := Nat.lt_of_lt_of_le hTz (Go.Proofs.Ytngoolkojnoplaa.Lx.below_drewN (w3.alloc (.cells #[.int .i64 0, .int .i64 0] 27)) nq).size
        clear t0 t1 hT hTz m0 m1 m2 m3 hgm HB4
        generalize (w3.alloc (.cells #[.int .i64 0, .int .i64 0] 27)).drewN nq = Wq at *
        go_wp2_with fail
        have ty0 : ∀ y : Kin Wq, y.u.cell? ⟨wr.heap.size, 0, none⟩ = some (.int .i64 kd) := fun y => y.cell hTq t0q
        have ty1 : ∀ y : Kin Wq, y.u.cell? ⟨wr.heap.size, 3, none⟩ = some (.int .i64 n) := fun y => y.cell hTq t1q
        refine (last _ _ kd n wr.heap.size u yb zb Wq ty0 ty1 HE5.out HE2.out HN0 HN30 c1 c3 _ _ _ _ _ _ _ _ _ _ _ _ _ _ _ _ _ _ _ _ _ _ _ _ _ _ _ _ _ _ _ _ _ _ _ _ _ _ _ _ _ _ _ _ _ _ _ _ _ _ _ _ _ _ _ _ _ _ _ _ _ _ _ _ _ _ _ _ _ _ _ _ _ _ _ _ _ _ _ _ _ _ _ _ _ _ _ _ _ _ _ _ _ _ _ _ _ _ _ _ _ _ _ _ _ _ _ _ _ _ _ _ _ _ _ _ _ _ _ _ _ _ _ _ _ _ _ _ _ _ _ _ _ _ _ _ _ _ _ _ _ _ _ _ _ _ _ _ _ _ _ _ _ _ _ _ _ _ _ _ _ _ _ _ _ _ _ _ _ _ _ _ _ _ _ _ _ _ _ _ _ _ _ _ _ _ ?_ : _)
        clear ty0 ty1 t0q t1q hTq
        intro z v149 v150 v151 v152 v153 v154 v155 v156 v157 v158 v159 v160 v161 v162 v163 v164 v165 v166 v167 v168 v169 v170 v171 v172 v173 v174 v175 v176 v177 v178 v179 v180 v181 v182 v183 v184 v185 v186
        have HB6 : Hid (Below W0.heap.size W0 z.u) := HB.out.trans ((HBq.out.trans (z.ok.mono HBq.out.size)).mono HB.out.size)
        generalize z.u = wz at *
        go_wp2_with fail
        go_roundg (ts.length - (k + 1))
        case measure => have h1 := HGK.out; have h2 := HLT.out; omega
        case rel => exact ⟨k + 1, q, rfl, by go_num, rfl, HCv.out, HB6.out⟩
end Go.Proofs.Ytngoolkojnoplaa.lexCovers
