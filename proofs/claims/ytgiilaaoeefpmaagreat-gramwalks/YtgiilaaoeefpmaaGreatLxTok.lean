import Derived.Test.YtgiilaaoeefpmaaGreatLxRead
import Derived.Test.YtgiilaaoeefpmaaGreatLxNum
import Derived.Test.YtgiilaaoeefpmaaGreatLxSign
import Derived.Test.YtgiilaaoeefpmaaGreatLxTab
import Derived.Laws.EntriesVeiled
import Derived.Lib.SmallJoins
namespace Go.Proofs.YtgiilaaoeefpmaaGreat.Lx
open Go.RowKit Go.Proofs.YtgiilaaoeefpmaaGreat.Sp

/-- a token's cells; a row of them -/
def tc (x : Tok) : List Value := [.int .i64 x.kind, .int .i64 x.at_, .int .i64 x.stop, .int .i64 x.n]
def TokRow (w : World) (base : Nat) (v : Value) (ts : List Tok) : Prop := w.ownsRow base 94 4 v ts.length (ts.flatMap tc)
def Res.pre (ts : List Tok) : Res → Res
  | .ok r => .ok (ts ++ r)
  | .fault e i => .fault e i
theorem Res.pre_nil (r : Res) : r.pre [] = r := by cases r <;> rfl
theorem Res.pre_cons (ts : List Tok) (x : Tok) (r : Res) : (r.cons x).pre ts = r.pre (ts ++ [x]) := by cases r <;> simp [Res.cons, Res.pre]
/-- what Scan has told -/
def Told (R : Res) (base : Nat) (w' : World) (e : Ending) : Prop :=
  match R with
  | .ok ts => ∃ v, e = .returned (.tuple #[v, .agg #[.int .i64 0, .int .i64 0]]) ∧ TokRow w' base v ts
  | .fault er i => e = .returned (.tuple #[.slice none 0 0, .agg #[.int .i64 er, .int .i64 i]])

/-- the worlds of a round: the fault's variable at b, the table behind it -/
structure Rnd (w wr : World) (s : ByteArray) (ts : List Tok) (i : Nat) (v : Value) : Prop where
  size : w.heap.size + 2 ≤ wr.heap.size
  fault : wr.heap[w.heap.size]? = some (.cells #[.int .i64 0, .int .i64 0] 27 (0, 0))
  table : wr.heap[w.heap.size + 1]? = some (.cells #[.func (.func 107) #[] #[], .func (.func 108) #[] #[], .func (.func 109) #[] #[], .func (.func 110) #[] #[], .func (.func 111) #[] #[], .func (.func 112) #[] #[]] 92 (0, 0))
  row : TokRow wr (w.heap.size + 2) v ts
  bel : Below w.heap.size w wr
  le : i ≤ s.size
  cnt : ts.length ≤ 65536
  sum : sc s 0 0 = (sc s i ts.length).pre ts

theorem TokRow.below {w w' : World} {base : Nat} {v : Value} {ts : List Tok} (h : TokRow w base v ts) (hb : Below w.heap.size w w') : TokRow w' base v ts := by
  refine World.ownsRow.kept h (row := none) ⟨hb.os, hb.tape, hb.output, hb.size, fun k hk _ => hb.block k hk⟩ ?_
  cases v.ownBlock with
  | none => exact Or.inl rfl
  | some k => exact Or.inr (by simp)
theorem TokRow.form {w : World} {base : Nat} {v : Value} {ts : List Tok} (h : TokRow w base v ts) : ∃ bo bc, v = .slice bo ts.length bc := by
  rcases h.2 with ⟨rfl, h0⟩ | ⟨g, cap, cur, rfl, _⟩
  · exact ⟨none, 0, by rw [h0]⟩
  · exact ⟨_, _, rfl⟩
theorem flat_push (ts : List Tok) (x : Tok) : (ts ++ [x]).flatMap tc = ts.flatMap tc ++ tc x := by simp
theorem cell_four (w : World) (T : TypeId) (a b c d : Value) : ∀ j u, [a, b, c, d][j]? = some u → (w.alloc (.cells #[a, b, c, d] T)).cell? ((⟨w.heap.size, 0, none⟩ : Addr).add j) = some u := by
  intro j u h
  have := Lib.cells_of_row (heap_alloc_new w (.cells #[a, b, c, d] T)) 4 j u (by simpa using h)
  exact this

theorem cell_four' (w : World) (T : TypeId) (a b c d : Value) (n : Nat) (hn : n = w.heap.size) : ∀ j u, [a, b, c, d][j]? = some u → (w.alloc (.cells #[a, b, c, d] T)).cell? ((⟨n, 0, none⟩ : Addr).add j) = some u := by
  subst hn; exact cell_four w T a b c d

theorem Rnd.first (w : World) (s : ByteArray) : Rnd w ((w.alloc (.cells #[.int .i64 0, .int .i64 0] 27)).alloc (.cells #[.func (.func 107) #[] #[], .func (.func 108) #[] #[], .func (.func 109) #[] #[], .func (.func 110) #[] #[], .func (.func 111) #[] #[], .func (.func 112) #[] #[]] 92)) s [] 0 (.slice none 0 0) := by
  refine ⟨by simp, ?_, ?_, World.ownsRow_nil _ _ _ _, ?_, Nat.zero_le _, by simp, (Res.pre_nil _).symm⟩
  · rw [Below.heap_alloc _ _ _ (by simp)]
    exact heap_alloc_new _ _
  · have := heap_alloc_new (w.alloc (.cells #[.int .i64 0, .int .i64 0] 27)) (.cells #[.func (.func 107) #[] #[], .func (.func 108) #[] #[], .func (.func 109) #[] #[], .func (.func 110) #[] #[], .func (.func 111) #[] #[], .func (.func 112) #[] #[]] 92)
    simpa using this
  · exact ((Below.refl _ w).alloc (Nat.le_refl _) _).alloc (by simp) _

/-- the table's cells -/
theorem Rnd.cells {w wr : World} {s : ByteArray} {ts : List Tok} {i : Nat} {v : Value} (h : Rnd w wr s ts i v) :
    wr.cell? ⟨w.heap.size + 1, 0, none⟩ = some (.func (.func 107) #[] #[]) ∧ wr.cell? ⟨w.heap.size + 1, 1, none⟩ = some (.func (.func 108) #[] #[]) ∧
    wr.cell? ⟨w.heap.size + 1, 2, none⟩ = some (.func (.func 109) #[] #[]) ∧ wr.cell? ⟨w.heap.size + 1, 3, none⟩ = some (.func (.func 110) #[] #[]) ∧
    wr.cell? ⟨w.heap.size + 1, 4, none⟩ = some (.func (.func 111) #[] #[]) ∧ wr.cell? ⟨w.heap.size + 1, 5, none⟩ = some (.func (.func 112) #[] #[]) := by
  have ht := h.table
  refine ⟨?_, ?_, ?_, ?_, ?_, ?_⟩ <;> simp [World.cell?, ht]

/-- a token more: the worlds of a round's reading, then the append -/
theorem Rnd.push {w wr w2 w1 : World} {s : ByteArray} {ts : List Tok} {i : Nat} {v v' : Value} {o1 o2 : Obj} {x : Tok} (h : Rnd w wr s ts i v) (hb : Below wr.heap.size wr w2)
    (hs : sc s i ts.length = (sc s x.stop (ts.length + 1)).cons x) (hx : x.stop ≤ s.size) (hn : ts.length ≠ 65536)
    (hown : w1.ownsRow (w.heap.size + 2) 94 4 v' (ts.length + 1) (ts.flatMap tc ++ tc x)) (hg : ((w2.alloc o1).alloc o2).grownBy w1 v.ownBlock) :
    Rnd w w1 s (ts ++ [x]) x.stop v' ∧ w1.heap[w2.heap.size]? = some o1 ∧ w2.heap.size < w1.heap.size := by
  have h1 := h.size
  have h2 := hb.size
  have h3 := hg.size
  simp only [World.size_alloc] at h3
  have hlt := World.ownsRow.lt h.row
  have hbk : ∀ k, k < wr.heap.size → some k ≠ v.ownBlock → w1.heap[k]? = wr.heap[k]? := fun k hk hne => by
    rw [hg.block k (by simp; omega) hne, Below.heap_alloc _ _ _ (by simp; omega), Below.heap_alloc _ _ _ (by omega), hb.block k hk]
  refine ⟨⟨by omega, ?_, ?_, ?_, ?_, hx, by have := h.cnt; simp; omega, ?_⟩, ?_, by omega⟩
  · rw [hbk _ (by omega) (fun e => by have := (hlt _ e.symm).1; omega)]; exact h.fault
  · rw [hbk _ (by omega) (fun e => by have := (hlt _ e.symm).1; omega)]; exact h.table
  · unfold TokRow
    rw [flat_push, List.length_append]
    exact hown
  · refine ⟨hg.os.trans (hb.os.trans h.bel.os), hg.tape.trans (hb.tape.trans h.bel.tape), hg.output.trans (hb.output.trans h.bel.output), by have := h.bel.size; omega, fun k hk => ?_⟩
    rw [hbk k (by omega) (fun e => by have := (hlt _ e.symm).1; omega)]
    exact h.bel.block k hk
  · rw [h.sum, hs, Res.pre_cons, List.length_append]
    rfl
  · rw [hg.block _ (by simp; omega) (fun e => by have := (hlt _ e.symm).2; omega), Below.heap_alloc _ _ _ (by simp)]
    exact heap_alloc_new _ _

theorem below_two (w : World) (b : Nat) (x y : Value) : Below b w ((w.setCell ⟨b, 0, none⟩ x).setCell ⟨b, 1, none⟩ y) := by
  have h1 : Below b w (w.setCell ⟨b, 0, none⟩ x) := (Below.refl b w).setCell (p := ⟨b, 0, none⟩) (Nat.le_refl b) x
  exact h1.setCell (p := ⟨b, 1, none⟩) (Nat.le_refl b) y

/-- a reading at place a: a token more, or a fault -/
def Reads (f : Nat) (ao : Option Addr) (s : ByteArray) (cap k n a : Nat) : Prop :=
  ∃ kd p e m er : Nat, ((er = 0 ∧ p = a ∧ a < e ∧ e ≤ s.size ∧ sc s k n = (sc s e (n + 1)).cons ⟨kd, a, e, m⟩) ∨ (er ≠ 0 ∧ sc s k n = .fault er a)) ∧
    ∀ W, IsBytes W ao s → Calls Tryz.prog f #[.slice ao s.size cap, .int .i64 a] W fun r w' => r = .returned (.tuple #[.agg #[.int .i64 kd, .int .i64 p, .int .i64 e, .int .i64 m], .int .i64 er]) ∧ Below W.heap.size W w'

section
variable (ao : Option Addr) (s : ByteArray) (cap k n a : Nat) (hc : s.size ≤ cap) (hs : s.size ≤ 2097152) (hk : k ≤ s.size) (ha : bl s k = a) (h : a < s.size) (hn : n ≠ 65536)
include hc hs hk ha h hn
theorem reads_word (hl : isL (nb s a) = true) : Reads 108 ao s cap k n a := by
  obtain ⟨e1, e2⟩ := ru_gt (p := isW) h (isL_W _ hl)
  by_cases hkp : kp (tx (s.extract a (ru isW s a))) = true
  · exact ⟨5, a, _, 0, 0, Or.inl ⟨rfl, rfl, by omega, e2, sc_kept hk ha h hn hl hkp⟩, fun W hb => word_kept _ s cap a W hb hc h hs hl hkp⟩
  · have hkp : kp (tx (s.extract a (ru isW s a))) = false := by simpa using hkp
    by_cases h64 : 64 < ru isW s a - a
    · exact ⟨0, 0, 0, 0, 13, Or.inr ⟨by omega, sc_long hk ha h hn hl hkp h64⟩, fun W hb => word_long _ s cap a W hb hc h hs hl hkp h64⟩
    · exact ⟨2, a, _, 0, 0, Or.inl ⟨rfl, rfl, by omega, e2, sc_named hk ha h hn hl hkp (by omega)⟩, fun W hb => word_name _ s cap a W hb hc h hs hl hkp (by omega)⟩
theorem reads_number (hl : isL (nb s a) = false) (hd : isD (nb s a) = true) : Reads 110 ao s cap k n a := by
  obtain ⟨e1, e2⟩ := ru_gt (p := isD) h hd
  by_cases hv : 1073741824 < val 0 (tx (s.extract a (ru isD s a)))
  · refine ⟨0, 0, 0, 0, 12, Or.inr ⟨by omega, sc_big hk ha h hn hl hd hv⟩, fun W hb => (number_any _ s cap a W hb hc h hs hd).mono ?_⟩
    rintro e w' ⟨h1 | h1, h2⟩
    · exact ⟨h1.2, h2⟩
    · omega
  · refine ⟨3, a, _, _, 0, Or.inl ⟨rfl, rfl, by omega, e2, sc_num hk ha h hn hl hd (by omega)⟩, fun W hb => (number_any _ s cap a W hb hc h hs hd).mono ?_⟩
    rintro e w' ⟨h1 | h1, h2⟩
    · omega
    · exact ⟨h1.2, h2⟩
omit hc in
theorem reads_sign (hl : isL (nb s a) = false) (hd : isD (nb s a) = false) : Reads 112 ao s cap k n a := by
  by_cases h2 : a + 1 < s.size ∧ s2 (nb s a) (nb s (a + 1)) = true
  · exact ⟨4, a, a + 2, 0, 0, Or.inl ⟨rfl, rfl, by omega, by omega, sc_two hk ha h hn hl hd h2.1 h2.2⟩, fun W hb => sign_two _ s cap a W hb h hs h2.1 h2.2⟩
  · have h3 : a + 1 < s.size → s2 (nb s a) (nb s (a + 1)) = false := fun h4 => by
      cases h5 : s2 (nb s a) (nb s (a + 1)) with
      | false => rfl
      | true => exact absurd ⟨h4, h5⟩ h2
    by_cases h1 : s1 (nb s a) = true
    · exact ⟨4, a, a + 1, 0, 0, Or.inl ⟨rfl, rfl, by omega, by omega, sc_one hk ha h hn hl hd h3 h1⟩, fun W hb => sign_one _ s cap a W hb h hs h3 h1⟩
    · have h1 : s1 (nb s a) = false := by simpa using h1
      exact ⟨0, 0, 0, 0, 11, Or.inr ⟨by omega, sc_none hk ha h hn hl hd h3 h1⟩, fun W hb => sign_none _ s cap a W hb h hs h3 h1⟩
omit hc hs in
theorem reads_none (hl : isL (nb s a) = false) (hd : isD (nb s a) = false) (hg : isG (nb s a) = false) : sc s k n = .fault 11 a := by
  simp only [isG, Bool.or_eq_false_iff, beq_eq_false_iff_ne, ne_eq] at hg
  obtain ⟨⟨⟨h1, h46⟩, h38⟩, h124⟩ := hg
  refine sc_none hk ha h hn hl hd (fun _ => ?_) h1
  rw [sign1_iff] at h1
  rw [sign2_iff]
  simp only [decide_eq_false_iff_not] at h1 ⊢
  omega
end

theorem Rnd.last {w wr w1 : World} {s : ByteArray} {ts : List Tok} {i : Nat} {v v' : Value} {o : Obj} {x : Tok} (h : Rnd w wr s ts i v) (hs : sc s i ts.length = .ok [x])
    (hown : w1.ownsRow (w.heap.size + 2) 94 4 v' (ts.length + 1) (ts.flatMap tc ++ tc x)) (hg : (wr.alloc o).grownBy w1 v.ownBlock) :
    w.heap.size < w1.heap.size ∧ w1.cell? ⟨w.heap.size, 0, none⟩ = some (.int .i64 0) ∧ w1.cell? ⟨w.heap.size, 1, none⟩ = some (.int .i64 0) ∧ (∀ i, w1.frozen? ⟨w.heap.size, i, none⟩ = false) ∧
      ∀ er i, Told (sc s 0 0) w.heap.size ((w1.setCell ⟨w.heap.size, 0, none⟩ er).setCell ⟨w.heap.size, 1, none⟩ i) (.returned (.tuple #[v', .agg #[.int .i64 0, .int .i64 0]])) ∧ Below w.heap.size w ((w1.setCell ⟨w.heap.size, 0, none⟩ er).setCell ⟨w.heap.size, 1, none⟩ i) := by
  have h1 := h.size
  have h3 := hg.size
  simp only [World.size_alloc] at h3
  have hlt := World.ownsRow.lt h.row
  have hbk : ∀ k, k < wr.heap.size → some k ≠ v.ownBlock → w1.heap[k]? = wr.heap[k]? := fun k hk hne => by
    rw [hg.block k (by simp; omega) hne, Below.heap_alloc _ _ _ (by omega)]
  have hf : w1.heap[w.heap.size]? = some (.cells #[.int .i64 0, .int .i64 0] 27 (0, 0)) := by
    rw [hbk _ (by omega) (fun e => by have := (hlt _ e.symm).1; omega)]; exact h.fault
  refine ⟨by omega, by simp [World.cell?, hf], by simp [World.cell?, hf], fun i => by simp [World.frozen?, hf], fun er i => ⟨?_, ?_⟩⟩
  · rw [h.sum, hs]
    refine ⟨v', rfl, ?_⟩
    unfold TokRow
    rw [flat_push, List.length_append]
    exact Go.Joins.ownsRow_le (ownsRow_setCell_below (ownsRow_setCell_below hown (a := ⟨w.heap.size, 0, none⟩) (by show w.heap.size < _; omega) _) (a := ⟨w.heap.size, 1, none⟩) (by show w.heap.size < _; omega) _) (by omega)
  · refine Below.trans ?_ (below_two _ _ _ _)
    refine ⟨hg.os.trans h.bel.os, hg.tape.trans h.bel.tape, hg.output.trans h.bel.output, by have := h.bel.size; omega, fun k hk => ?_⟩
    rw [hbk k (by omega) (fun e => by have := (hlt _ e.symm).1; omega)]
    exact h.bel.block k hk
theorem Rnd.told {w wr w2 : World} {s : ByteArray} {ts : List Tok} {i er j : Nat} {v : Value} (h : Rnd w wr s ts i v) (hs : sc s i ts.length = .fault er j) : Told (sc s 0 0) w.heap.size w2 (.returned (.tuple #[.slice none 0 0, .agg #[.int .i64 er, .int .i64 j]])) := by
  rw [h.sum, hs]
  exact rfl

set_option maxHeartbeats 16000000 in
set_option maxRecDepth 100000 in
theorem tokens_any (ao : Option Addr) (s : ByteArray) (cap : Nat) (w : World) (h : IsBytes w ao s) (hc : s.size ≤ cap) (hs : s.size ≤ 2097152) :
    Calls Tryz.prog 44 #[.slice ao s.size cap] w fun e w' => Told (sc s 0 0) w.heap.size w' e ∧ Below w.heap.size w w' := by
  have HB : Hid (IsBytes w ao s) := h
  clear h
  obtain ⟨i0, hi, hz0, hz1, hz2⟩ := info_parts info94
  go_enter Tryz.func44, Tryz.ntmps44
  go_wp2_with fail
  go_step3
  go_wp2_with fail
  refine (kinds_any _).mono ?_
  rintro e w' ⟨rfl, rfl⟩
  go_wp2_with fail
  go_step3
  go_wp2_with fail
  go_loopw [4, 6] (fun l i wr => ∃ (ts : List Tok) (k : Nat) (bo : Option Addr) (bc : Nat), i = .int .i64 k ∧ l = .slice bo ts.length bc ∧ Rnd w wr s ts k (.slice bo ts.length bc)) (fun _ i _ => s.size - (intOf i).toNat)
  case atStart => exact ⟨[], 0, none, 0, rfl, rfl, Rnd.first w s⟩
  case round =>
    obtain ⟨ts, k, bo, bc, rfl, rfl, hR⟩ := hrel
    have HR : Hid (Rnd w wr s ts k (.slice bo ts.length bc)) := hR
    have hk := hR.le
    have hbg := bl_ge hk
    have hbl := bl_le s k
    have hz := hR.size
    have hlen := hR.cnt
    have hf0 : wr.cell? ⟨w.heap.size, 0, none⟩ = some (.int .i64 0) := by simp [World.cell?, hR.fault]
    have hf1 : wr.cell? ⟨w.heap.size, 1, none⟩ = some (.int .i64 0) := by simp [World.cell?, hR.fault]
    have hfz : ∀ i, wr.frozen? ⟨w.heap.size, i, none⟩ = false := fun i => by simp [World.frozen?, hR.fault]
    have hcells := hR.cells
    clear hR
    go_wp2_with fail
    refine (skip_any ao s cap k _ (HB.out.below HR.out.bel) hk hs).mono ?_
    rintro e w' ⟨rfl, rfl⟩
    obtain ⟨a, HA⟩ : ∃ a, Hid (a = bl s k) := ⟨_, rfl⟩
    rw [← HA.out] at hbg hbl ⊢
    by_cases hend : a = s.size
    · have he : ((a : Int) == (s.size : Int)) = true := by simp; omega
      have HS : Hid (sc s k ts.length = .ok [⟨0, a, a, 0⟩]) := by
        have := sc_end (k := ts.length) hk (show bl s k = s.size by rw [← HA.out]; exact hend)
        rw [← hend] at this
        exact this
      have HI : Hid (a = s.size) := hend
      clear hcells hend
      go_wp2_with (at_builtin; refine wpList_append_own _ rfl _ _ 60 rfl (w.heap.size + 2) 94 i0 (.agg #[.int .i64 0, .int .i64 0, .int .i64 0, .int .i64 0]) 4 32 Tryz.underlying60 hi hz0 hz1 hz2 rfl (by decide) _ _ _ rfl (HR.out.row.alloc _) ⟨w'.heap.size, 0, none⟩ 1 1 (tc ⟨0, a, a, 0⟩) rfl rfl ?c1 ?c2 ?c3 ?c4 ?c5 ?_)
      case c1 => exact cell_four' _ _ _ _ _ _ _ (by simp)
      case c2 => intro u hu; simp [tc] at hu; rcases hu with rfl | rfl | rfl | rfl <;> rfl
      case c3 => unfold maxLen; omega
      case c4 => omega
      case c5 => simp; omega
      intro v' w1 hown' hgrow _
      obtain ⟨q1, q2, q3, q4, q5⟩ := HR.out.last (x := ⟨0, a, a, 0⟩) HS.out hown' hgrow
      have HL : Hid (∀ er i, Told (sc s 0 0) w.heap.size ((w1.setCell ⟨w.heap.size, 0, none⟩ er).setCell ⟨w.heap.size, 1, none⟩ i) (.returned (.tuple #[v', .agg #[.int .i64 0, .int .i64 0]])) ∧ Below w.heap.size w ((w1.setCell ⟨w.heap.size, 0, none⟩ er).setCell ⟨w.heap.size, 1, none⟩ i)) := q5
      clear hown' hgrow hf0 hf1 hfz q5
      have hfz0 := q4 0
      have hfz1 := q4 1
      go_wp2
      try rw [Exit.noGoto_ret]
      refine bodyPost_ret (v := .tuple #[v', .agg #[.int .i64 0, .int .i64 0]]) (by simp [results, Tryz.results44, go_sem, q2, q3]) rfl (HL.out _ _)
    · have he : ((a : Int) == (s.size : Int)) = false := by simp; omega
      have ha : a < s.size := by omega
      by_cases hmany : ts.length = 65536
      · have hm : ((ts.length : Int) == 65536) = true := by simp; omega
        have HS : Hid (sc s k ts.length = .fault 3 a) := by
          have := sc_many hk (show bl s k < s.size by rw [← HA.out]; exact ha) hmany
          rw [← HA.out] at this
          exact this
        have hfz0 := hfz 0
        have hfz1 := hfz 1
        clear hcells
        go_wp2
        try rw [Exit.noGoto_ret]
        refine bodyPost_ret (v := .tuple #[.slice none 0 0, .agg #[.int .i64 (3 : Nat), .int .i64 a]]) (by simp [results, Tryz.results44, go_sem, hf0, hf1]) rfl ⟨HR.out.told HS.out, HR.out.bel.trans (below_two _ _ _ _)⟩
      · have hm : ((ts.length : Int) == 65536) = false := by simp; omega
        obtain ⟨g, o, rfl, hg, hcl⟩ := (HB.out.below HR.out.bel) a ha
        have HQ : Hid (∀ W, Below w'.heap.size w' W → IsBytes W (some ⟨g, o, none⟩) s) := fun W hb => (HB.out.below HR.out.bel).below hb
        have HC : Hid (∀ W, Below w'.heap.size w' W → (w.heap.size + 2 ≤ W.heap.size ∧ g < W.heap.size ∧ W.cell? ⟨g, o + a, none⟩ = some (.int .u8 (nb s a : Nat)) ∧
            (W.cell? ⟨w.heap.size + 1, 0, none⟩ = some (.func (.func 107) #[] #[]) ∧ W.cell? ⟨w.heap.size + 1, 1, none⟩ = some (.func (.func 108) #[] #[]) ∧
    W.cell? ⟨w.heap.size + 1, 2, none⟩ = some (.func (.func 109) #[] #[]) ∧ W.cell? ⟨w.heap.size + 1, 3, none⟩ = some (.func (.func 110) #[] #[]) ∧
    W.cell? ⟨w.heap.size + 1, 4, none⟩ = some (.func (.func 111) #[] #[]) ∧ W.cell? ⟨w.heap.size + 1, 5, none⟩ = some (.func (.func 112) #[] #[])) ∧
            (W.cell? ⟨w.heap.size, 0, none⟩ = some (.int .i64 0) ∧ W.cell? ⟨w.heap.size, 1, none⟩ = some (.int .i64 0) ∧ ∀ i, W.frozen? ⟨w.heap.size, i, none⟩ = false))) := fun W hb => by
          have hsz := hb.size
          have b1 : ∀ i, W.cell? ⟨w.heap.size + 1, i, none⟩ = w'.cell? ⟨w.heap.size + 1, i, none⟩ := fun i => hb.cell (p := ⟨w.heap.size + 1, i, none⟩) (show w.heap.size + 1 < w'.heap.size by omega)
          have b0 : ∀ i, W.cell? ⟨w.heap.size, i, none⟩ = w'.cell? ⟨w.heap.size, i, none⟩ := fun i => hb.cell (p := ⟨w.heap.size, i, none⟩) (show w.heap.size < w'.heap.size by omega)
          refine ⟨by omega, by omega, (hb.cell (p := ⟨g, o + a, none⟩) hg).trans hcl, ?_, ?_, ?_, ?_⟩
          · simp only [b1]; exact hcells
          · rw [b0]; exact hf0
          · rw [b0]; exact hf1
          · intro i
            rw [← hfz i]
            exact World.frozen?_of_block (a := ⟨w.heap.size, i, none⟩) (hb.block w.heap.size (by omega))
        have HE : Hid (∀ W (er : Nat), sc s k ts.length = .fault er a → Told (sc s 0 0) w.heap.size W (.returned (.tuple #[.slice none 0 0, .agg #[.int .i64 er, .int .i64 a]]))) := fun W er h1 => HR.out.told h1
        have HZ : Hid (∀ (W1 W2 : World), Below w'.heap.size w' W1 → Below w.heap.size W1 W2 → Below w.heap.size w W2) := fun W1 W2 h1 h2 => (HR.out.bel.trans (h1.mono (Nat.le_trans (Nat.le_add_right _ 2) hz))).trans h2
        clear hcells hf0 hf1 hfz hcl hg
        have H0 : Hid (Below w'.heap.size w' w') := Below.refl _ _
        obtain ⟨z1, z2, hcl, ⟨t0, t1, t2, t3, t4, t5⟩, hf0, hf1, hfz⟩ := HC.out _ H0.out
        go_wp2_with fail
        refine wp_loop_rounds 4 ?_
        by_cases hl : isL (nb s a) = true
        · have hrd := reads_word (some ⟨g, o, none⟩) s cap k ts.length a hc hs hk HA.out.symm ha hmany hl
          obtain ⟨kd, p, e, m, er, hS, hW⟩ := hrd
          have HS : Hid ((er = 0 ∧ p = a ∧ a < e ∧ e ≤ s.size ∧ sc s k ts.length = (sc s e (ts.length + 1)).cons ⟨kd, a, e, m⟩) ∨ (er ≠ 0 ∧ sc s k ts.length = .fault er a)) := hS
          have HW : Hid (∀ W, IsBytes W (some ⟨g, o, none⟩) s → Calls Tryz.prog 108 #[.slice (some ⟨g, o, none⟩) s.size cap, .int .i64 a] W fun r w' => r = .returned (.tuple #[.agg #[.int .i64 kd, .int .i64 p, .int .i64 e, .int .i64 m], .int .i64 er]) ∧ Below W.heap.size W w') := hW
          clear hS hW
          generalize nb s a = c at *
          rw [rounds_succ]
          go_wp2_with fail
          go_quiet ((go_at_call 107; exact Calls.quiet_of_same (beginsWord_any _ _)))
          have H1 : Hid (Below w'.heap.size w' ((w'.alloc (.cells #[.func (.func 107) #[] #[], .func (.func 108) #[] #[]] 92)).drewN nq)) := (H0.out.alloc H0.out.size _).trans ((below_drewN _ _).mono (Nat.le_trans H0.out.size (by simp)))
          go_wp2_with fail
          refine (HW.out _ (HQ.out _ H1.out)).mono ?_
          rintro e w2 ⟨rfl, hB2⟩
          have HT : Hid (Below w'.heap.size w' w2) := H1.out.trans (hB2.mono H1.out.size)
          clear hB2 z1 z2 hcl t0 t1 t2 t3 t4 t5 hf0 hf1 hfz
          obtain ⟨rfl, rfl, e1, e2, hS⟩ | ⟨e1, hS⟩ := HS.out
          · have HS2 : Hid (sc s k ts.length = (sc s e (ts.length + 1)).cons ⟨kd, p, e, m⟩) := hS
            clear hS HS HW
            go_wp2_with (at_builtin; refine wpList_append_own _ rfl _ _ 60 rfl (w.heap.size + 2) 94 i0 (.agg #[.int .i64 0, .int .i64 0, .int .i64 0, .int .i64 0]) 4 32 Tryz.underlying60 hi hz0 hz1 hz2 rfl (by decide) _ _ _ rfl (((HR.out.row.below HT.out).alloc _).alloc _) ⟨w2.heap.size + 1, 0, none⟩ 1 1 (tc ⟨kd, p, e, m⟩) rfl rfl ?c1 ?c2 ?c3 ?c4 ?c5 ?_)
            case c1 => exact cell_four' _ _ _ _ _ _ _ (by simp)
            case c2 => intro u hu; simp [tc] at hu; rcases hu with rfl | rfl | rfl | rfl <;> rfl
            case c3 => unfold maxLen; omega
            case c4 => omega
            case c5 => have := HT.out.size; simp; omega
            intro v' w1 hown' hgrow _
            obtain ⟨hR', hblk, hlt⟩ := HR.out.push (x := ⟨kd, p, e, m⟩) HT.out HS2.out e2 hmany hown' hgrow
            obtain ⟨bo', bc', hv'⟩ := hR'.row.form
            rw [hv'] at hR' ⊢
            have HR' : Hid (Rnd w w1 s (ts ++ [(⟨kd, p, e, m⟩ : Tok)]) e (.slice bo' (ts ++ [(⟨kd, p, e, m⟩ : Tok)]).length bc')) := hR'
            have ht2 : w1.cell? ⟨w2.heap.size, 2, none⟩ = some (.int .i64 (e : Nat)) := by simp [World.cell?, hblk]
            clear hR' hblk hown' hgrow hv'
            generalize ts ++ [(⟨kd, p, e, m⟩ : Tok)] = ts' at *
            go_wp2
            go_roundw
            case rel => exact ⟨ts', e, bo', bc', rfl, rfl, HR'.out⟩
            case measure => simp [intOf]; omega
          · have HS2 : Hid (sc s k ts.length = .fault er a) := hS
            have hne : ((er : Int) != 0) = true := by simp; omega
            clear hS e1 HS HW
            have HT2 : Hid (Below w'.heap.size w' (w2.alloc (.cells #[.int .i64 kd, .int .i64 p, .int .i64 e, .int .i64 m] 94))) := HT.out.alloc HT.out.size _
            obtain ⟨z1, z2, hcl, ⟨t0, t1, t2, t3, t4, t5⟩, hf0, hf1, hfz⟩ := HC.out _ HT2.out
            clear t0 t1 t2 t3 t4 t5 hcl
            have hfz0 := hfz 0
            have hfz1 := hfz 1
            go_wp2
            try rw [Exit.noGoto_ret]
            refine bodyPost_ret (v := .tuple #[.slice none 0 0, .agg #[.int .i64 er, .int .i64 a]]) (by simp [results, Tryz.results44, go_sem, hf0, hf1]) rfl ⟨HE.out _ _ HS2.out, HZ.out _ _ HT2.out (below_two _ _ _ _)⟩
        · have hl : isL (nb s a) = false := by simpa using hl
          rw [rounds_succ]
          go_wp2_with fail
          go_quiet ((go_at_call 107; exact Calls.quiet_of_same (beginsWord_any _ _)))
          have H1 : Hid (Below w'.heap.size w' ((w'.alloc (.cells #[.func (.func 107) #[] #[], .func (.func 108) #[] #[]] 92)).drewN nq)) := (H0.out.alloc H0.out.size _).trans ((below_drewN _ _).mono (Nat.le_trans H0.out.size (by simp)))
          generalize (w'.alloc (.cells #[.func (.func 107) #[] #[], .func (.func 108) #[] #[]] 92)).drewN nq = W1 at *
          clear z1 z2 hcl t0 t1 t2 t3 t4 t5 hf0 hf1 hfz
          obtain ⟨z1, z2, hcl, ⟨t0, t1, t2, t3, t4, t5⟩, hf0, hf1, hfz⟩ := HC.out _ H1.out
          go_wp2_with fail
          by_cases hd : isD (nb s a) = true
          · have hrd := reads_number (some ⟨g, o, none⟩) s cap k ts.length a hc hs hk HA.out.symm ha hmany hl hd
            obtain ⟨kd, p, e, m, er, hS, hW⟩ := hrd
            have HS : Hid ((er = 0 ∧ p = a ∧ a < e ∧ e ≤ s.size ∧ sc s k ts.length = (sc s e (ts.length + 1)).cons ⟨kd, a, e, m⟩) ∨ (er ≠ 0 ∧ sc s k ts.length = .fault er a)) := hS
            have HW : Hid (∀ W, IsBytes W (some ⟨g, o, none⟩) s → Calls Tryz.prog 110 #[.slice (some ⟨g, o, none⟩) s.size cap, .int .i64 a] W fun r w' => r = .returned (.tuple #[.agg #[.int .i64 kd, .int .i64 p, .int .i64 e, .int .i64 m], .int .i64 er]) ∧ Below W.heap.size W w') := hW
            clear hS hW
            generalize nb s a = c at *
            rw [rounds_succ]
            go_wp2_with fail
            go_quiet ((go_at_call 109; exact Calls.quiet_of_same (isDigit_any _ _)))
            have H2 : Hid (Below w'.heap.size w' ((W1.alloc (.cells #[.func (.func 109) #[] #[], .func (.func 110) #[] #[]] 92)).drewN nq)) := (H1.out.alloc H1.out.size _).trans ((below_drewN _ _).mono (Nat.le_trans H1.out.size (by simp)))
            go_wp2_with fail
            refine (HW.out _ (HQ.out _ H2.out)).mono ?_
            rintro e w2 ⟨rfl, hB2⟩
            have HT : Hid (Below w'.heap.size w' w2) := H2.out.trans (hB2.mono H2.out.size)
            clear hB2 z1 z2 hcl t0 t1 t2 t3 t4 t5 hf0 hf1 hfz
            obtain ⟨rfl, rfl, e1, e2, hS⟩ | ⟨e1, hS⟩ := HS.out
            · have HS2 : Hid (sc s k ts.length = (sc s e (ts.length + 1)).cons ⟨kd, p, e, m⟩) := hS
              clear hS HS HW
              go_wp2_with (at_builtin; refine wpList_append_own _ rfl _ _ 60 rfl (w.heap.size + 2) 94 i0 (.agg #[.int .i64 0, .int .i64 0, .int .i64 0, .int .i64 0]) 4 32 Tryz.underlying60 hi hz0 hz1 hz2 rfl (by decide) _ _ _ rfl (((HR.out.row.below HT.out).alloc _).alloc _) ⟨w2.heap.size + 1, 0, none⟩ 1 1 (tc ⟨kd, p, e, m⟩) rfl rfl ?c1 ?c2 ?c3 ?c4 ?c5 ?_)
              case c1 => exact cell_four' _ _ _ _ _ _ _ (by simp)
              case c2 => intro u hu; simp [tc] at hu; rcases hu with rfl | rfl | rfl | rfl <;> rfl
              case c3 => unfold maxLen; omega
              case c4 => omega
              case c5 => have := HT.out.size; simp; omega
              intro v' w1 hown' hgrow _
              obtain ⟨hR', hblk, hlt⟩ := HR.out.push (x := ⟨kd, p, e, m⟩) HT.out HS2.out e2 hmany hown' hgrow
              obtain ⟨bo', bc', hv'⟩ := hR'.row.form
              rw [hv'] at hR' ⊢
              have HR' : Hid (Rnd w w1 s (ts ++ [(⟨kd, p, e, m⟩ : Tok)]) e (.slice bo' (ts ++ [(⟨kd, p, e, m⟩ : Tok)]).length bc')) := hR'
              have ht2 : w1.cell? ⟨w2.heap.size, 2, none⟩ = some (.int .i64 (e : Nat)) := by simp [World.cell?, hblk]
              clear hR' hblk hown' hgrow hv'
              generalize ts ++ [(⟨kd, p, e, m⟩ : Tok)] = ts' at *
              go_wp2
              go_roundw
              case rel => exact ⟨ts', e, bo', bc', rfl, rfl, HR'.out⟩
              case measure => simp [intOf]; omega
            · have HS2 : Hid (sc s k ts.length = .fault er a) := hS
              have hne : ((er : Int) != 0) = true := by simp; omega
              clear hS e1 HS HW
              have HT2 : Hid (Below w'.heap.size w' (w2.alloc (.cells #[.int .i64 kd, .int .i64 p, .int .i64 e, .int .i64 m] 94))) := HT.out.alloc HT.out.size _
              obtain ⟨z1, z2, hcl, ⟨t0, t1, t2, t3, t4, t5⟩, hf0, hf1, hfz⟩ := HC.out _ HT2.out
              clear t0 t1 t2 t3 t4 t5 hcl
              have hfz0 := hfz 0
              have hfz1 := hfz 1
              go_wp2
              try rw [Exit.noGoto_ret]
              refine bodyPost_ret (v := .tuple #[.slice none 0 0, .agg #[.int .i64 er, .int .i64 a]]) (by simp [results, Tryz.results44, go_sem, hf0, hf1]) rfl ⟨HE.out _ _ HS2.out, HZ.out _ _ HT2.out (below_two _ _ _ _)⟩
          · have hd : isD (nb s a) = false := by simpa using hd
            rw [rounds_succ]
            go_wp2_with fail
            go_quiet ((go_at_call 109; exact Calls.quiet_of_same (isDigit_any _ _)))
            have H2 : Hid (Below w'.heap.size w' ((W1.alloc (.cells #[.func (.func 109) #[] #[], .func (.func 110) #[] #[]] 92)).drewN nq)) := (H1.out.alloc H1.out.size _).trans ((below_drewN _ _).mono (Nat.le_trans H1.out.size (by simp)))
            generalize (W1.alloc (.cells #[.func (.func 109) #[] #[], .func (.func 110) #[] #[]] 92)).drewN nq = W2 at *
            clear z1 z2 hcl t0 t1 t2 t3 t4 t5 hf0 hf1 hfz
            obtain ⟨z1, z2, hcl, ⟨t0, t1, t2, t3, t4, t5⟩, hf0, hf1, hfz⟩ := HC.out _ H2.out
            go_wp2_with fail
            by_cases hgg : isG (nb s a) = true
            · have hrd := reads_sign (some ⟨g, o, none⟩) s cap k ts.length a hs hk HA.out.symm ha hmany hl hd
              obtain ⟨kd, p, e, m, er, hS, hW⟩ := hrd
              have HS : Hid ((er = 0 ∧ p = a ∧ a < e ∧ e ≤ s.size ∧ sc s k ts.length = (sc s e (ts.length + 1)).cons ⟨kd, a, e, m⟩) ∨ (er ≠ 0 ∧ sc s k ts.length = .fault er a)) := hS
              have HW : Hid (∀ W, IsBytes W (some ⟨g, o, none⟩) s → Calls Tryz.prog 112 #[.slice (some ⟨g, o, none⟩) s.size cap, .int .i64 a] W fun r w' => r = .returned (.tuple #[.agg #[.int .i64 kd, .int .i64 p, .int .i64 e, .int .i64 m], .int .i64 er]) ∧ Below W.heap.size W w') := hW
              clear hS hW
              generalize nb s a = c at *
              rw [rounds_succ]
              go_wp2_with fail
              go_quiet ((go_at_call 111; exact Calls.quiet_of_same (beginsSign_any _ _)))
              have H3 : Hid (Below w'.heap.size w' ((W2.alloc (.cells #[.func (.func 111) #[] #[], .func (.func 112) #[] #[]] 92)).drewN nq)) := (H2.out.alloc H2.out.size _).trans ((below_drewN _ _).mono (Nat.le_trans H2.out.size (by simp)))
              go_wp2_with fail
              refine (HW.out _ (HQ.out _ H3.out)).mono ?_
              rintro e w2 ⟨rfl, hB2⟩
              have HT : Hid (Below w'.heap.size w' w2) := H3.out.trans (hB2.mono H3.out.size)
              clear hB2 z1 z2 hcl t0 t1 t2 t3 t4 t5 hf0 hf1 hfz
              obtain ⟨rfl, rfl, e1, e2, hS⟩ | ⟨e1, hS⟩ := HS.out
              · have HS2 : Hid (sc s k ts.length = (sc s e (ts.length + 1)).cons ⟨kd, p, e, m⟩) := hS
                clear hS HS HW
                go_wp2_with (at_builtin; refine wpList_append_own _ rfl _ _ 60 rfl (w.heap.size + 2) 94 i0 (.agg #[.int .i64 0, .int .i64 0, .int .i64 0, .int .i64 0]) 4 32 Tryz.underlying60 hi hz0 hz1 hz2 rfl (by decide) _ _ _ rfl (((HR.out.row.below HT.out).alloc _).alloc _) ⟨w2.heap.size + 1, 0, none⟩ 1 1 (tc ⟨kd, p, e, m⟩) rfl rfl ?c1 ?c2 ?c3 ?c4 ?c5 ?_)
                case c1 => exact cell_four' _ _ _ _ _ _ _ (by simp)
                case c2 => intro u hu; simp [tc] at hu; rcases hu with rfl | rfl | rfl | rfl <;> rfl
                case c3 => unfold maxLen; omega
                case c4 => omega
                case c5 => have := HT.out.size; simp; omega
                intro v' w1 hown' hgrow _
                obtain ⟨hR', hblk, hlt⟩ := HR.out.push (x := ⟨kd, p, e, m⟩) HT.out HS2.out e2 hmany hown' hgrow
                obtain ⟨bo', bc', hv'⟩ := hR'.row.form
                rw [hv'] at hR' ⊢
                have HR' : Hid (Rnd w w1 s (ts ++ [(⟨kd, p, e, m⟩ : Tok)]) e (.slice bo' (ts ++ [(⟨kd, p, e, m⟩ : Tok)]).length bc')) := hR'
                have ht2 : w1.cell? ⟨w2.heap.size, 2, none⟩ = some (.int .i64 (e : Nat)) := by simp [World.cell?, hblk]
                clear hR' hblk hown' hgrow hv'
                generalize ts ++ [(⟨kd, p, e, m⟩ : Tok)] = ts' at *
                go_wp2
                go_roundw
                case rel => exact ⟨ts', e, bo', bc', rfl, rfl, HR'.out⟩
                case measure => simp [intOf]; omega
              · have HS2 : Hid (sc s k ts.length = .fault er a) := hS
                have hne : ((er : Int) != 0) = true := by simp; omega
                clear hS e1 HS HW
                have HT2 : Hid (Below w'.heap.size w' (w2.alloc (.cells #[.int .i64 kd, .int .i64 p, .int .i64 e, .int .i64 m] 94))) := HT.out.alloc HT.out.size _
                obtain ⟨z1, z2, hcl, ⟨t0, t1, t2, t3, t4, t5⟩, hf0, hf1, hfz⟩ := HC.out _ HT2.out
                clear t0 t1 t2 t3 t4 t5 hcl
                have hfz0 := hfz 0
                have hfz1 := hfz 1
                go_wp2
                try rw [Exit.noGoto_ret]
                refine bodyPost_ret (v := .tuple #[.slice none 0 0, .agg #[.int .i64 er, .int .i64 a]]) (by simp [results, Tryz.results44, go_sem, hf0, hf1]) rfl ⟨HE.out _ _ HS2.out, HZ.out _ _ HT2.out (below_two _ _ _ _)⟩
            · have hgg : isG (nb s a) = false := by simpa using hgg
              have HS : Hid (sc s k ts.length = .fault 11 a) := reads_none s k ts.length a hk HA.out.symm ha hmany hl hd hgg
              rw [rounds_succ]
              go_wp2_with fail
              go_quiet ((go_at_call 111; exact Calls.quiet_of_same (beginsSign_any _ _)))
              have H3 : Hid (Below w'.heap.size w' ((W2.alloc (.cells #[.func (.func 111) #[] #[], .func (.func 112) #[] #[]] 92)).drewN nq)) := (H2.out.alloc H2.out.size _).trans ((below_drewN _ _).mono (Nat.le_trans H2.out.size (by simp)))
              generalize (W2.alloc (.cells #[.func (.func 111) #[] #[], .func (.func 112) #[] #[]] 92)).drewN nq = W3 at *
              clear z1 z2 hcl t0 t1 t2 t3 t4 t5 hf0 hf1 hfz
              obtain ⟨z1, z2, hcl, ⟨t0, t1, t2, t3, t4, t5⟩, hf0, hf1, hfz⟩ := HC.out _ H3.out
              go_wp2_with fail
              rw [rounds_succ]
              have hfz0 := hfz 0
              have hfz1 := hfz 1
              go_wp2
              try rw [Exit.noGoto_ret]
              refine bodyPost_ret (v := .tuple #[.slice none 0 0, .agg #[.int .i64 (11 : Nat), .int .i64 a]]) (by simp [results, Tryz.results44, go_sem, hf0, hf1]) rfl ⟨HE.out _ _ HS.out, HZ.out _ _ H3.out (below_two _ _ _ _)⟩
end Go.Proofs.YtgiilaaoeefpmaaGreat.Lx
