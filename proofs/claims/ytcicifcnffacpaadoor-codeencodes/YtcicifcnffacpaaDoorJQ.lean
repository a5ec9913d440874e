import Derived.Test.YtcicifcnffacpaaDoorJK
import Derived.Laws.BitsLemmas
import Derived.Deep.DeepCutAuto
import Derived.Test.YtcicifcnffacpaaDoorJV
import Derived.Test.YtcicifcnffacpaaDoorJN
set_option linter.unusedSimpArgs false
namespace Go.Proofs.YtcicifcnffacpaaDoor.Cd
open Go.RowKit Go.Proofs.YtcicifcnffacpaaDoor.Nm

theorem wraps_u64 (n : Int) (h0 : 0 ≤ n) (h1 : n < 2 ^ 63) : IntKind.u64.wrap n = n := by rw [IntKind.wrap_u64]; omega
theorem u64_and127 (x : Nat) (h : x < 9223372036854775808) : bits .and .u64 (x : Int) 127 = ((x % 128 : Nat) : Int) := by
  have := bits_mask .u64 63 (by decide) wraps_u64 7 (by decide) (x : Int) (by omega) (by omega)
  rw [show (127 : Int) = 2 ^ 7 - 1 by decide, this]
  omega
theorem u64_or128 (x : Nat) (h : x < 128) : bits .or .u64 (x : Int) 128 = ((x + 128 : Nat) : Int) := by
  have hc : bits .or .u64 (x : Int) 128 = bits .or .u64 128 (x : Int) := by simp only [bits, BitVec.or_comm]
  rw [hc, bits_join .u64 63 (by decide) wraps_u64 7 128 (x : Int) (by omega) (by omega) (by omega) (by omega) (by omega) (by omega)]
  omega
/-- bytes that are told grow: base is where they begin to be one's own -/
theorem bel_gone {W w w' : World} {v v' : Value} {base : Nat} {e : TypeId} {sz n : Nat} {xs : List Value} (h : Below W.heap.size W w) (ho : w.ownsRow base e sz v n xs) (hb : W.heap.size ≤ base) (hg : Gone w v w' v') : Below W.heap.size W w' :=
  ⟨hg.1.os.trans h.os, hg.1.tape.trans h.tape, hg.1.output.trans h.output, Nat.le_trans h.size hg.1.size, fun k hk => (hg.1.block k (Nat.lt_of_lt_of_le hk h.size) (fun e => by have := (World.ownsRow.lt ho k e.symm).1; omega)).trans (h.block k hk)⟩
set_option maxHeartbeats 6400000 in
set_option maxRecDepth 100000 in
/-- a number's form -/
theorem rnumB_any (n : Nat) (hn : n < 9223372036854775808) (W : World) : Calls Tryd.prog 34 #[.int .u64 (n : Int)] W fun e W' => ∃ b c, e = .returned (.slice b (numB n).length c) ∧ W'.ownsRow W.heap.size 5 1 (.slice b (numB n).length c) (numB n).length (u8L (numB n)) ∧ Below W.heap.size W W' := by
  have HN : Hid (n < 9223372036854775808) := hn
  obtain ⟨j0, hj, hj0, hj1, hj2⟩ := info_parts infoB
  have HJ : Hid (Tryd.prog.info? 5 = some j0 ∧ j0.zero = some (.int .u8 0) ∧ j0.size = 1 ∧ j0.bytes = 1) := ⟨hj, hj0, hj1, hj2⟩
  clear hn hj hj0 hj1 hj2
  go_enter Tryd.func34, Tryd.ntmps34
  go_wp2_with fail
  go_loopg [0, 3] (n + 1) (fun gq u x wr => ∃ (m : Nat) (xs : List Nat) (b : Option Addr) (c : Nat), m ≤ gq ∧ m ≤ n ∧ u = .int .u64 (m : Int) ∧ x = .slice b xs.length c ∧ wr.ownsRow W.heap.size 5 1 (.slice b xs.length c) xs.length (u8L xs) ∧ Below W.heap.size W wr ∧ xs ++ numB m = numB n ∧ xs.length + (numB m).length ≤ 10)
  case atStart => exact ⟨n, [], none, 0, by omega, Nat.le_refl _, rfl, rfl, World.ownsRow_nil _ _ _ _, Below.refl _ _, rfl, by have := numB_ten HN.out; simpa using this⟩
  case round =>
    obtain ⟨m, xs, b, c, hmg, hmn, rfl, rfl, ho, hb, hxs, hln⟩ := hrel
    have hm9 : m < 9223372036854775808 := by have := HN.out; omega
    have HT : Hid (wr.ownsRow W.heap.size 5 1 (.slice b xs.length c) xs.length (u8L xs) ∧ Below W.heap.size W wr ∧ xs ++ numB m = numB n ∧ m < 9223372036854775808 ∧ m ≤ gk ∧ xs.length + (numB m).length ≤ 10) := ⟨ho, hb, hxs, hm9, hmg, hln⟩
    clear ho hb hxs hmg hln
    by_cases hm : m < 128
    case pos =>
      have hm1 : decide ((127 : Int) < (m : Int)) = false := decide_eq_false (by omega)
      have hm2 : decide (127 < m) = false := decide_eq_false (by omega)
      have ew : IntKind.u8.wrap (m : Int) = (m : Int) := by rw [IntKind.wrap_u8]; omega
      have HE : Hid (numB n = xs ++ [m]) := by
        rw [← HT.out.2.2.1, numB_low hm]
        exact rfl
      have HY : Hid ((wr.alloc (.cells #[.int .u8 (m : Int)] 5)).ownsRow W.heap.size 5 1 (.slice b xs.length c) xs.length (u8L xs) ∧ Below W.heap.size W (wr.alloc (.cells #[.int .u8 (m : Int)] 5))) := ⟨own_below HT.out.1 ((Below.refl _ wr).alloc (Nat.le_refl _) _), HT.out.2.1.alloc HT.out.2.1.size _⟩
      have HXl : Hid (xs.length ≤ 10) := by have := HT.out.2.2.2.2.2; exact (by omega : xs.length ≤ 10)
      clear hm hm9 hmn
      go_wp2_with (at_builtin; refine append_gone _ rfl _ _ 32 rfl W.heap.size 5 j0 (.int .u8 0) 1 1 Tryd.underlying32 HJ.out.1 HJ.out.2.1 HJ.out.2.2.1 HJ.out.2.2.2 rfl (by decide) (.slice b xs.length c) _ (u8L xs) rfl HY.out.1 ⟨wr.heap.size, 0, none⟩ 1 1 [.int .u8 (m : Int)] rfl rfl (Nm.cell_one wr _ _) (by intro u hu; simp only [List.mem_cons, List.not_mem_nil, or_false] at hu; subst hu; rfl) (by have := HXl.out; unfold maxLen; omega) (by have := HXl.out; omega) HY.out.2.size (by decide) ?_)
      intro v4 w5 ho hG
      have HB : Hid (Below W.heap.size W w5) := bel_gone HY.out.2 HY.out.1 (Nat.le_refl _) hG
      obtain ⟨bv, cv, ev⟩ := own_form ho
      subst ev
      have HO : Hid (w5.ownsRow W.heap.size 5 1 (.slice bv (xs.length + 1) cv) (xs.length + 1) (u8L xs ++ [.int .u8 (m : Int)])) := ho
      clear ho hG
      go_wp2_with fail
      go_ret
      rw [HE.out]
      refine ⟨bv, cv, by rw [List.length_append]; rfl, ?_, HB.out⟩
      rw [List.length_append, show u8L (xs ++ [m]) = u8L xs ++ [.int .u8 (m : Int)] by simp [u8L]]
      exact HO.out
    case neg =>
      have hm1 : (127 : Int) < (m : Int) := by omega
      have ea : bits .and .u64 (m : Int) 127 = ((m % 128 : Nat) : Int) := u64_and127 m hm9
      obtain ⟨y, hy⟩ : ∃ y, y = m % 128 := ⟨_, rfl⟩
      rw [← hy] at ea
      have HYm : Hid (y = m % 128 ∧ ¬ m < 128 ∧ m ≤ n) := ⟨hy, hm, hmn⟩
      have eo : bits .or .u64 (y : Int) 128 = ((y + 128 : Nat) : Int) := u64_or128 y (by omega)
      obtain ⟨z, hz⟩ : ∃ z, z = y + 128 := ⟨_, rfl⟩
      rw [← hz] at eo
      have ew : IntKind.u8.wrap (z : Int) = (z : Int) := by rw [IntKind.wrap_u8]; omega
      have HZ : Hid (z = y + 128) := hz
      have HX : Hid (xs ++ numB m = (xs ++ [z]) ++ numB (m / 128) ∧ (numB m).length = 1 + (numB (m / 128)).length) := by
        rw [numB_high hm, hz, hy]
        refine ⟨by simp, by simp; omega⟩
      have HY : Hid ((wr.alloc (.cells #[.int .u8 (z : Int)] 5)).ownsRow W.heap.size 5 1 (.slice b xs.length c) xs.length (u8L xs) ∧ Below W.heap.size W (wr.alloc (.cells #[.int .u8 (z : Int)] 5))) := ⟨own_below HT.out.1 ((Below.refl _ wr).alloc (Nat.le_refl _) _), HT.out.2.1.alloc HT.out.2.1.size _⟩
      have HXl : Hid (xs.length ≤ 10) := by have := HT.out.2.2.2.2.2; exact (by omega : xs.length ≤ 10)
      clear hm hm9 hy hz hmn
      go_wp2_with (at_builtin; refine append_gone _ rfl _ _ 32 rfl W.heap.size 5 j0 (.int .u8 0) 1 1 Tryd.underlying32 HJ.out.1 HJ.out.2.1 HJ.out.2.2.1 HJ.out.2.2.2 rfl (by decide) (.slice b xs.length c) _ (u8L xs) rfl HY.out.1 ⟨wr.heap.size, 0, none⟩ 1 1 [.int .u8 (z : Int)] rfl rfl (Nm.cell_one wr _ _) (by intro u hu; simp only [List.mem_cons, List.not_mem_nil, or_false] at hu; subst hu; rfl) (by have := HXl.out; unfold maxLen; omega) (by have := HXl.out; omega) HY.out.2.size (by decide) ?_)
      intro v4 w5 ho hG
      have HB : Hid (Below W.heap.size W w5) := bel_gone HY.out.2 HY.out.1 (Nat.le_refl _) hG
      obtain ⟨bv, cv, ev⟩ := own_form ho
      subst ev
      have HO : Hid (w5.ownsRow W.heap.size 5 1 (.slice bv (xs.length + 1) cv) (xs.length + 1) (u8L xs ++ [.int .u8 (z : Int)])) := ho
      clear ho hG
      have ed : ((m / 128 : Nat) : Int) = (m : Int) / 128 := by omega
      go_wp2_with fail
      go_roundg (m / 128)
      case measure =>
        have := HYm.out.2.1
        have := HT.out.2.2.2.2.1
        omega
      case rel =>
        refine ⟨m / 128, xs ++ [z], bv, cv, Nat.le_refl _, by have := HYm.out.2.2; omega, by rw [ed], by rw [List.length_append]; rfl, ?_, HB.out, by rw [← HX.out.1]; exact HT.out.2.2.1, ?_⟩
        · rw [List.length_append, show u8L (xs ++ [z]) = u8L xs ++ [.int .u8 (z : Int)] by simp [u8L]]
          exact HO.out
        · have h1 := HX.out.2
          have h2 := HT.out.2.2.2.2.2
          rw [List.length_append]
          show xs.length + 1 + _ ≤ _
          omega
end Go.Proofs.YtcicifcnffacpaaDoor.Cd

set_option linter.unusedSimpArgs false
namespace Go.Proofs.YtcicifcnffacpaaDoor.Cd
open Go.RowKit Go.Proofs.YtcicifcnffacpaaDoor.Nm

set_option maxHeartbeats 6400000 in
set_option maxRecDepth 100000 in
/-- an int as a number -/
theorem rsgnB_any (n : Int) (hn : -4611686018427387904 < n ∧ n < 4611686018427387904) (W : World) : Calls Tryd.prog 35 #[.int .i64 n] W fun e W' => e = .returned (.int .u64 (sgN n : Int)) ∧ W = W' := by
  by_cases h : n < 0
  · have h0 : n < 0 := h
    obtain ⟨a, ha⟩ : ∃ a : Int, n + 1 = a := ⟨_, rfl⟩
    have e1 : IntKind.i64.wrap (n + 1) = a := by rw [IntKind.wrap_i64]; omega
    obtain ⟨y, hy⟩ : ∃ y : Int, -a = y := ⟨_, rfl⟩
    have e2 : IntKind.i64.wrap (-a) = y := by rw [IntKind.wrap_i64]; omega
    have e2b : IntKind.i64.wrap (0 - a) = y := by rw [IntKind.wrap_i64]; omega
    have e3 : IntKind.u64.wrap y = y := by rw [IntKind.wrap_u64]; omega
    obtain ⟨z, hz⟩ : ∃ z : Int, 2 * y = z := ⟨_, rfl⟩
    have e4 : IntKind.u64.wrap (2 * y) = z := by rw [IntKind.wrap_u64]; omega
    have e5 : IntKind.u64.wrap (z + 1) = (sgN n : Int) := by rw [IntKind.wrap_u64]; unfold sgN; rw [if_pos h]; omega
    generalize (sgN n : Int) = s at *
    clear ha hy hz hn h
    go_enter Tryd.func35, Tryd.ntmps35
    go_wp2_with fail
    go_ret
    exact ⟨rfl, rfl⟩
  · have h0 : ¬ n < 0 := h
    have e3 : IntKind.u64.wrap n = n := by rw [IntKind.wrap_u64]; omega
    have e4 : IntKind.u64.wrap (2 * n) = (sgN n : Int) := by rw [IntKind.wrap_u64]; unfold sgN; rw [if_neg h]; omega
    generalize (sgN n : Int) = s at *
    clear hn h
    go_enter Tryd.func35, Tryd.ntmps35
    go_wp2_with fail
    go_ret
    exact ⟨rfl, rfl⟩
end Go.Proofs.YtcicifcnffacpaaDoor.Cd

set_option linter.unusedSimpArgs false
namespace Go.Proofs.YtcicifcnffacpaaDoor.Cd
open Go.RowKit Go.Proofs.YtcicifcnffacpaaDoor.Nm Go.Proofs.YtcicifcnffacpaaDoor.Vf

/-- bytes in the making: one's own since W -/
def Bo (W w : World) (b : Option Addr) (c : Nat) (xs : List Nat) : Prop := w.ownsRow W.heap.size 5 1 (.slice b xs.length c) xs.length (u8L xs) ∧ Below W.heap.size W w
theorem Bo.below {W w w' : World} {b : Option Addr} {c : Nat} {xs : List Nat} (h : Bo W w b c xs) (hb : Below w.heap.size w w') : Bo W w' b c xs := ⟨own_below h.1 hb, h.2.trans (hb.mono h.2.size)⟩
/-- bytes that were told are put behind it -/
theorem Bo.app {W w w' : World} {b b' : Option Addr} {c c' n : Nat} {xs ys : List Nat} {v : Value} (h : Bo W w b c xs) (ho : w'.ownsRow W.heap.size 5 1 v n (u8L xs ++ u8L ys)) (hG : Gone w (.slice b xs.length c) w' v) (hn : n = xs.length + ys.length) (hv : v = .slice b' (xs.length + ys.length) c') : Bo W w' b' c' (xs ++ ys) := by
  subst hn
  subst hv
  refine ⟨?_, bel_gone h.2 h.1 (Nat.le_refl _) hG⟩
  rw [List.length_append, show u8L (xs ++ ys) = u8L xs ++ u8L ys by simp [u8L]]
  exact ho
/-- bytes are put behind it -/
theorem app_bytes {w0 w : World} {ops : Array Oper} {rest : List Oper} {o : Oper} {a : Act} {Q : Exit → Act → World → Prop} (hgd : o.guard = none) (s x : Operand) (ho : o.op = .call { callee := .builtin .append, args := #[s, x], argTypes := #[32, 32] }) {b : Option Addr} {c : Nat} {xs ys : List Nat} (hs : a.eval s = .slice b xs.length c) (hB : Bo w0 w b c xs) {ad : Addr} {cy : Nat} (hx : a.eval x = .slice (some ad) ys.length cy) (hc : ∀ j u, (u8L ys)[j]? = some u → w.cell? (ad.add j) = some u) (hp : 0 < ys.length) (hl : xs.length + ys.length ≤ 1000000000)
    (h : ∀ (X : List Nat) b' c' w', X = xs ++ ys → Bo w0 w' b' c' X → Gone w (.slice b xs.length c) w' (.slice b' X.length c') → wpList Tryd.prog ops Q rest (a.put o.dst (.slice b' X.length c')) w') : wpList Tryd.prog ops Q (o :: rest) a w := by
  obtain ⟨j0, hj, hj0, hj1, hj2⟩ := info_parts infoB
  refine append_gone _ hgd s x 32 ho w0.heap.size 5 j0 (.int .u8 0) 1 1 Tryd.underlying32 hj hj0 hj1 hj2 rfl (by decide) (.slice b xs.length c) _ (u8L xs) hs hB.1 ad ys.length cy (u8L ys) hx (by rw [u8_len0, Nat.mul_one]) hc (fun u hu => by
    obtain ⟨x, -, rfl⟩ := List.mem_map.1 hu
    rfl) (by unfold maxLen; omega) (by omega) hB.2.size hp ?_
  intro v' w' ho2 hG
  obtain ⟨b', c', ev⟩ := own_form ho2
  have h9 := hB.app ho2 hG rfl ev
  rw [ev, show xs.length + ys.length = (xs ++ ys).length by simp] at hG
  have h8 := h (xs ++ ys) b' c' w' rfl h9 hG
  rw [List.length_append] at h8
  rw [ev]
  exact h8
theorem u8_one2 {l : List Nat} : ∀ u ∈ u8L l, u.oneCell' = true := fun u hu => by
  obtain ⟨x, -, rfl⟩ := List.mem_map.1 hu
  rfl
theorem numB_pos (n : Nat) : 0 < (numB n).length := by
  by_cases h : n < 128
  · rw [numB_low h]; simp
  · rw [numB_high h]; simp
theorem own_at {w : World} {base : Nat} {e : TypeId} {sz : Nat} {b : Option Addr} {n c : Nat} {xs : List Value} (h : w.ownsRow base e sz (.slice b n c) n xs) (hn : 0 < n) : ∃ g, b = some ⟨g, 0, none⟩ ∧ ∀ j u, xs[j]? = some u → w.cell? ((⟨g, 0, none⟩ : Addr).add j) = some u := by
  rcases h.2 with ⟨_, e2⟩ | ⟨g, cap, cur, e1, -⟩
  · omega
  · cases e1
    exact ⟨g, rfl, fun j u hj => h.cells (g := g) rfl j u hj⟩
/-- an instruction's operands, so many -/
def opsB (x : Ins) (k : Nat) : List Nat := (List.range k).flatMap fun j => opB (kdN x.op.toNat j) (opN x j)
theorem opsB_next (x : Ins) (k : Nat) : opsB x (k + 1) = opsB x k ++ opB (kdN x.op.toNat k) (opN x k) := by
  unfold opsB
  rw [List.range_succ, List.flatMap_append]
  simp
theorem insBy_ops (x : Ins) : insBy x = numB x.op.toNat ++ opsB x 4 := by
  rw [insBy_eq]
  simp [opsB, List.range_succ, kdN, opN]
theorem op_bnd {x : Ins} (h : InsOk x) (k : Nat) (hk : k < 4) : OpOk (kdN x.op.toNat k) (opN x k) ∧ (kdN x.op.toNat k = 0 → opN x k = 0) := by
  match k, hk with
  | 0, _ => exact h.a
  | 1, _ => exact h.b
  | 2, _ => exact h.c
  | 3, _ => exact h.d
theorem opsB_len (x : Ins) (h : InsOk x) : ∀ k, k ≤ 4 → (opsB x k).length ≤ 9 * k
  | 0, _ => by simp [opsB]
  | k + 1, hk => by
    rw [opsB_next, List.length_append]
    have h1 := opsB_len x h k (by omega)
    have h2 := op_len (op_bnd h k (by omega))
    omega
/-! what is still to be written -/
def gB (g : Bool) : List Nat := [if g then 1 else 0]
def tB (n : Int) : List Nat := numB n.toNat
def oB (n : Int) : List Nat := numB (n + 1).toNat
def eR8 (p : Pg) : List Nat := p.cd.flatMap insBy
def eR7 (p : Pg) : List Nat := numB p.cd.length ++ eR8 p
def eR6 (p : Pg) : List Nat := numB (p.miss + 1).toNat ++ eR7 p
def eR5 (p : Pg) : List Nat := p.on.flatMap oB ++ eR6 p
def eR4 (p : Pg) : List Nat := p.ts.flatMap tB ++ eR5 p
def eR3 (p : Pg) : List Nat := numB p.ts.length ++ eR4 p
def eR2 (p : Pg) : List Nat := p.vs.flatMap varB ++ eR3 p
def eR1 (p : Pg) : List Nat := numB p.vs.length ++ eR2 p
def eR0 (p : Pg) : List Nat := p.gh.flatMap gB ++ eR1 p
theorem eR_eq (p : Pg) : [87] ++ (numB p.gh.length ++ eR0 p) = byP p := by
  rw [byP_eq]
  unfold eR0 eR1 eR2 eR3 eR4 eR5 eR6 eR7 eR8 gB tB oB
  simp only [List.append_assoc]
/-- a step of a list that is written -/
theorem flat_step {α : Type} {f : α → List Nat} {l : List α} {k : Nat} (hk : k < l.length) {X Z : List Nat} {R B : List Nat} (h : X ++ ((l.drop k).flatMap f ++ R) = B) (hZ : Z = X ++ f l[k]) : Z ++ ((l.drop (k + 1)).flatMap f ++ R) = B := by
  rw [List.drop_eq_getElem_cons hk, List.flatMap_cons] at h
  rw [hZ, ← h]
  simp only [List.append_assoc]
theorem flat_end {α : Type} {f : α → List Nat} {l : List α} {k : Nat} (hk : ¬ k < l.length) {X R B : List Nat} (h : X ++ ((l.drop k).flatMap f ++ R) = B) : X ++ R = B := by
  rw [List.drop_eq_nil_of_le (by omega)] at h
  exact h
theorem flat_open {α : Type} {f : α → List Nat} {l : List α} {X R B : List Nat} (h : X ++ (l.flatMap f ++ R) = B) : X ++ ((l.drop 0).flatMap f ++ R) = B := h
theorem app_as {X Y Z R B : List Nat} (h : X ++ (Y ++ R) = B) (hZ : Z = X ++ Y) : Z ++ R = B := by
  rw [hZ, List.append_assoc]
  exact h
theorem flat_at {α : Type} {f : α → List Nat} {l : List α} {k : Nat} (hk : k < l.length) {X R B : List Nat} (h : X ++ ((l.drop k).flatMap f ++ R) = B) : X ++ (f l[k] ++ ((l.drop (k + 1)).flatMap f ++ R)) = B := by
  rw [List.drop_eq_getElem_cons hk, List.flatMap_cons, List.append_assoc] at h
  exact h
theorem var_split {x1 x2 x3 : Int} {X R B : List Nat} (h : X ++ (varB (x1, x2, x3) ++ R) = B) : X ++ (numB (sgN x1) ++ (numB (sgN x2) ++ (numB (sgN x3) ++ R))) = B := by
  unfold varB at h
  simpa only [List.append_assoc] using h
theorem sgN_lt2 {n : Int} (h : -4611686018427387904 < n ∧ n < 4611686018427387904) : sgN n < 9223372036854775808 := by
  unfold sgN
  split <;> omega
/-- a block that is not the bytes', and stays -/
def Ke (w : World) (b : Option Addr) (n c k : Nat) (o : Obj) : Prop := w.heap[k]? = some o ∧ ∀ g, (Value.slice b n c).ownBlock = some g → g ≠ k
theorem Ke.below {w w' : World} {b : Option Addr} {n c k : Nat} {o : Obj} (h : Ke w b n c k o) (hb : Below w.heap.size w w') : Ke w' b n c k o := ⟨(hb.block k (blk_lt h.1)).trans h.1, h.2⟩
theorem Ke.app {w w' : World} {b b' : Option Addr} {n c n' c' k : Nat} {o : Obj} (h : Ke w b n c k o) (hG : Gone w (.slice b n c) w' (.slice b' n' c')) : Ke w' b' n' c' k o := by
  refine ⟨(hG.1.block k (blk_lt h.1) (fun e => h.2 k e.symm rfl)).trans h.1, fun g hg => ?_⟩
  rcases hG.own with e | e
  · exact h.2 g (e ▸ hg)
  · have h1 := e g hg
    have h2 := blk_lt h.1
    omega
theorem Ke.new {w0 w : World} {b : Option Addr} {c : Nat} {X : List Nat} (h : Bo w0 w b c X) (cs : Array Value) (T : TypeId) : Ke (w.alloc (.cells cs T)) b X.length c w.heap.size (.cells cs T (0, 0)) := ⟨heap_alloc_new _ _, fun g e => by have := (World.ownsRow.lt h.1 g e).2; omega⟩
theorem own_lower {w : World} {base base' : Nat} {e : TypeId} {sz n : Nat} {v : Value} {xs : List Value} (h : w.ownsRow base e sz v n xs) (hb : base' ≤ base) : w.ownsRow base' e sz v n xs := by
  refine ⟨h.1, ?_⟩
  rcases h.2 with h2 | ⟨g, cap, cur, e1, h3, h4⟩
  · exact Or.inl h2
  · exact Or.inr ⟨g, cap, cur, e1, Nat.le_trans hb h3, h4⟩
theorem opN_cell {w : World} {ab : Nat} {xo xa xb xc xd : Int} (h : w.heap[ab]? = some (.cells #[.int .i64 xa, .int .i64 xb, .int .i64 xc, .int .i64 xd] 81 (0, 0))) (k : Nat) (hk : k < 4) : w.cell? ⟨ab, k, none⟩ = some (.int .i64 (opN ⟨xo, xa, xb, xc, xd⟩ k)) := by
  match k, hk with
  | 0, _ => exact cell_of (cs := [.int .i64 xa, .int .i64 xb, .int .i64 xc, .int .i64 xd]) h rfl
  | 1, _ => exact cell_of (cs := [.int .i64 xa, .int .i64 xb, .int .i64 xc, .int .i64 xd]) h rfl
  | 2, _ => exact cell_of (cs := [.int .i64 xa, .int .i64 xb, .int .i64 xc, .int .i64 xd]) h rfl
  | 3, _ => exact cell_of (cs := [.int .i64 xa, .int .i64 xb, .int .i64 xc, .int .i64 xd]) h rfl
theorem le_of {X Y R B : List Nat} {n : Nat} (h : X ++ (Y ++ R) = B) (hB : B.length ≤ n) : X.length + Y.length ≤ n := by
  have h3 := congrArg List.length h
  simp only [List.length_append] at h3
  omega
set_option maxHeartbeats 51200000 in
set_option maxRecDepth 100000 in
/-- the reference's Encode -/
theorem renc_any (v : PV) (p : Pg) (W : World) (hP : IsPg W v p) : Calls Tryd.prog 14 #[.agg (pvC v p)] W fun e W' => ∃ b c, e = .returned (.tuple #[.slice b (encB p).length c, .int .i64 (chk p : Int)]) ∧ W'.ownsRow W.heap.size 5 1 (.slice b (encB p).length c) (encB p).length (u8L (encB p)) ∧ Below W.heap.size W W' := by
  obtain ⟨qo, qc, vo, vc, tto, tc, oo, oc, co, cc⟩ := v
  have HB0 : Hid (Below W.heap.size W (W.alloc (.cells #[.slice qo p.gh.length qc, .slice vo p.vs.length vc, .slice tto p.ts.length tc, .slice oo p.on.length oc, .int .i64 p.miss, .slice co p.cd.length cc] 27)) ∧ (W.alloc (.cells #[.slice qo p.gh.length qc, .slice vo p.vs.length vc, .slice tto p.ts.length tc, .slice oo p.on.length oc, .int .i64 p.miss, .slice co p.cd.length cc] 27)).heap[W.heap.size]? = some (.cells #[.slice qo p.gh.length qc, .slice vo p.vs.length vc, .slice tto p.ts.length tc, .slice oo p.on.length oc, .int .i64 p.miss, .slice co p.cd.length cc] 27 (0, 0)) ∧ IsPg (W.alloc (.cells #[.slice qo p.gh.length qc, .slice vo p.vs.length vc, .slice tto p.ts.length tc, .slice oo p.on.length oc, .int .i64 p.miss, .slice co p.cd.length cc] 27)) ⟨qo, qc, vo, vc, tto, tc, oo, oc, co, cc⟩ p) := ⟨(Below.refl _ W).alloc (Nat.le_refl _) _, heap_alloc_new _ _, hP.below ((Below.refl _ W).alloc (Nat.le_refl _) _)⟩
  show Calls _ _ #[.agg #[.slice qo p.gh.length qc, .slice vo p.vs.length vc, .slice tto p.ts.length tc, .slice oo p.on.length oc, .int .i64 p.miss, .slice co p.cd.length cc]] _ _
  obtain ⟨j0, hj, hj0, hj1, hj2⟩ := info_parts infoB
  have HJ : Hid (Tryd.prog.info? 5 = some j0 ∧ j0.zero = some (.int .u8 0) ∧ j0.size = 1 ∧ j0.bytes = 1) := ⟨hj, hj0, hj1, hj2⟩
  clear hP hj hj0 hj1 hj2
  go_enter Tryd.func14, Tryd.ntmps14
  go_upto_region 1 with fail
  generalize (W.alloc (.cells #[.slice qo p.gh.length qc, .slice vo p.vs.length vc, .slice tto p.ts.length tc, .slice oo p.on.length oc, .int .i64 p.miss, .slice co p.cd.length cc] 27)) = w0 at *
  have HX : Hid (∀ X, Below w0.heap.size w0 X → X.heap[W.heap.size]? = some (.cells #[.slice qo p.gh.length qc, .slice vo p.vs.length vc, .slice tto p.ts.length tc, .slice oo p.on.length oc, .int .i64 p.miss, .slice co p.cd.length cc] 27 (0, 0)) ∧ IsPg X ⟨qo, qc, vo, vc, tto, tc, oo, oc, co, cc⟩ p) := fun X hX => ⟨(hX.block _ (blk_lt HB0.out.2.1)).trans HB0.out.2.1, HB0.out.2.2.below hX⟩
  have HCk : Hid (Calls Tryd.prog 16 #[.agg #[.slice qo p.gh.length qc, .slice vo p.vs.length vc, .slice tto p.ts.length tc, .slice oo p.on.length oc, .int .i64 p.miss, .slice co p.cd.length cc]] w0 fun e w' => e = .returned (.int .i64 (chk p : Int)) ∧ Below w0.heap.size w0 w') := Vf.rchk_any ⟨qo, qc, vo, vc, tto, tc, oo, oc, co, cc⟩ p w0 HB0.out.2.2
  obtain ⟨c0, c1, c2, c3, c4, c5⟩ := cells6 HB0.out.2.1
  go_wp2_with fail
  refine Calls.mono HCk.out ?_
  rintro e w1 ⟨rfl, hb⟩
  have HB1 : Hid (Below w0.heap.size w0 w1) := hb
  clear hb HCk c0 c1 c2 c3 c4 c5
  by_cases hck : chk p = 0
  case neg =>
    have hc1 : ((chk p : Int) != 0) = true := by rw [bne_iff_ne]; omega
    have HE : Hid (encB p = []) := if_neg hck
    clear hck
    go_wp2_with fail
    go_ret2
    exact ⟨none, 0, by rw [HE.out]; rfl, by rw [HE.out]; exact World.ownsRow_nil _ _ _ _, HB0.out.1.trans (HB1.out.mono HB0.out.1.size)⟩
  have HOk : Hid (PgOk p) := pgOk_of hck
  have HE : Hid (encB p = byP p) := if_pos hck
  have n1 : (p.gh.length : Int) ≤ 16 := by have := HOk.out.q; omega
  have n2 : (p.vs.length : Int) ≤ 16 := by have := HOk.out.v; omega
  have n3 : (p.ts.length : Int) ≤ 4 := by have := HOk.out.t; omega
  have n4 : (p.on.length : Int) ≤ 16 := by have := HOk.out.q; have := HOk.out.o; omega
  have n5 : (p.cd.length : Int) ≤ 262144 := by have := HOk.out.c; omega
  have m1 : IntKind.u64.wrap (p.gh.length : Int) = (p.gh.length : Int) := by rw [IntKind.wrap_u64]; omega
  have m2 : IntKind.u64.wrap (p.vs.length : Int) = (p.vs.length : Int) := by rw [IntKind.wrap_u64]; omega
  have m3 : IntKind.u64.wrap (p.ts.length : Int) = (p.ts.length : Int) := by rw [IntKind.wrap_u64]; omega
  have m5 : IntKind.u64.wrap (p.cd.length : Int) = (p.cd.length : Int) := by rw [IntKind.wrap_u64]; omega
  have HLn : Hid ((byP p).length ≤ 100000000) := byP_len hck
  have HC0 := show Hid _ from hck
  have HQ : Hid (Bo w0 (w1.alloc (.cells #[.int .u8 87] 5)) (some ⟨w1.heap.size, 0, none⟩) 1 [87]) := by
    refine ⟨?_, HB1.out.alloc HB1.out.size _⟩
    exact ⟨rfl, Or.inr ⟨w1.heap.size, 1, #[.int .u8 87], rfl, HB1.out.size, heap_alloc_new _ _, Nat.le_refl _, by unfold maxLen; omega, rfl, rfl⟩⟩
  rw [hck]
  clear hck
  obtain ⟨c0, c1, c2, c3, c4, c5⟩ := cells6 (HX.out _ HQ.out.2).1
  have c0b : w1.cell? ⟨W.heap.size, 0, none⟩ = some (.slice qo p.gh.length qc) := (cells6 (HX.out _ HB1.out).1).1
  go_wp2_with fail
  refine (rnumB_any (p.gh.length) (by have := HOk.out.q; omega) _).mono ?_
  rintro e wn1 ⟨bn1, cn1, rfl, hon, hbn⟩
  obtain ⟨gn1, egn, hcn⟩ := own_at hon (numB_pos _)
  subst egn
  have HN1 : Hid (Bo w0 wn1 _ _ [87] ∧ (∀ jj u, (u8L (numB (p.gh.length)))[jj]? = some u → wn1.cell? ((⟨gn1, 0, none⟩ : Addr).add jj) = some u)) := ⟨HQ.out.below hbn, hcn⟩
  clear hon hbn hcn c0 c1 c2 c3 c4 c5 c0b
  go_wp2_with (at_builtin; refine app_bytes rfl _ _ rfl rfl HN1.out.1 rfl HN1.out.2 (numB_pos _) (by have h1 := le_of (eR_eq p) HLn.out; omega) ?_)
  intro x1 d1 e1 v1 hX hB hG
  have HP1 : Hid (Bo w0 v1 d1 e1 x1 ∧ x1 ++ (eR0 p) = byP p) := ⟨hB, app_as (eR_eq p) hX⟩
  clear hX hB hG HN1
  clear HQ
  go_wp2_with fail
  go_loopg [5, 6] p.gh.length (fun gq ov iv wr => ∃ (k : Nat) (X : List Nat) (b : Option Addr) (c : Nat), k + gq = p.gh.length ∧ iv = .int .i64 (k : Int) ∧ ov = .slice b X.length c ∧ Bo w0 wr b c X ∧ X ++ ((p.gh.drop k).flatMap gB ++ eR1 p) = byP p)
  case atStart => exact ⟨0, x1, _, _, by omega, rfl, rfl, HP1.out.1, flat_open HP1.out.2⟩
  case round =>
    obtain ⟨k, X, b, c, hkg, rfl, rfl, hB, hX⟩ := hrel
    have HT : Hid (Bo w0 wr b c X ∧ X ++ ((p.gh.drop k).flatMap gB ++ eR1 p) = byP p ∧ k + gk = p.gh.length) := ⟨hB, hX, hkg⟩
    clear hkg hB hX HP1
    obtain ⟨c0, c1, c2, c3, c4, c5⟩ := cells6 (HX.out wr HT.out.1.2).1
    by_cases hkm : k < p.gh.length
    case pos =>
      have hk1 : (k : Int) < (p.gh.length : Int) := by omega
      have hk3 : (k : Int) < 1000000 := by omega
      have HKm : Hid (k < p.gh.length) := hkm
      have HT9 : Hid (k + gk = p.gh.length) := HT.out.2.2
      obtain ⟨g1, f1, hg1, -, u0⟩ := rd_bool (HX.out wr HT.out.1.2).2.gh HKm.out
      obtain rfl : qo = some ⟨g1, f1, none⟩ := hg1
      clear hkm
      obtain ⟨gb, hgb⟩ : ∃ gb, p.gh[k]'HKm.out = gb := ⟨_, rfl⟩
      rw [hgb] at u0
      have HG0 := show Hid _ from hgb
      clear hgb
      cases gb
      case true =>
        have HG : Hid (gB (p.gh[k]'HKm.out) = [1]) := by show _ = _; rw [HG0.out]; rfl
        have HY : Hid (Bo w0 (wr.alloc (.cells #[.int .u8 1] 5)) b c X) := HT.out.1.below ((Below.refl _ wr).alloc (Nat.le_refl _) _)
        go_wp2_with (at_builtin; refine app_bytes (ys := [1]) rfl _ _ rfl rfl HY.out rfl (Nm.cell_one wr 5 (.int .u8 1)) (by decide) (by have h1 := le_of (Y := []) HT.out.2.1 HLn.out; simp at h1 ⊢; omega) ?_)
        intro X2 b2 c2' w2' hX hB _
        have HN : Hid (Bo w0 w2' b2 c2' X2 ∧ X2 ++ ((p.gh.drop (k + 1)).flatMap gB ++ eR1 p) = byP p) := ⟨hB, flat_step HKm.out HT.out.2.1 (by rw [hX, HG.out])⟩
        clear hX hB HY HT HG HG0
        go_wp2_with fail
        go_roundg (p.gh.length - (k + 1))
        case measure => have := HT9.out; have := HKm.out; omega
        case rel => exact ⟨k + 1, X2, b2, c2', by have := HKm.out; omega, by go_num, rfl, HN.out.1, HN.out.2⟩
      case false =>
        have HG : Hid (gB (p.gh[k]'HKm.out) = [0]) := by show _ = _; rw [HG0.out]; rfl
        have HY : Hid (Bo w0 (wr.alloc (.cells #[.int .u8 0] 5)) b c X) := HT.out.1.below ((Below.refl _ wr).alloc (Nat.le_refl _) _)
        go_wp2_with (at_builtin; refine app_bytes (ys := [0]) rfl _ _ rfl rfl HY.out rfl (Nm.cell_one wr 5 (.int .u8 0)) (by decide) (by have h1 := le_of (Y := []) HT.out.2.1 HLn.out; simp at h1 ⊢; omega) ?_)
        intro X2 b2 c2' w2' hX hB _
        have HN : Hid (Bo w0 w2' b2 c2' X2 ∧ X2 ++ ((p.gh.drop (k + 1)).flatMap gB ++ eR1 p) = byP p) := ⟨hB, flat_step HKm.out HT.out.2.1 (by rw [hX, HG.out])⟩
        clear hX hB HY HT HG HG0
        go_wp2_with fail
        go_roundg (p.gh.length - (k + 1))
        case measure => have := HT9.out; have := HKm.out; omega
        case rel => exact ⟨k + 1, X2, b2, c2', by have := HKm.out; omega, by go_num, rfl, HN.out.1, HN.out.2⟩
    case neg =>
      have hk1 : ¬ (k : Int) < (p.gh.length : Int) := by omega
      have HP2 : Hid (Bo w0 wr b c X ∧ X ++ eR1 p = byP p) := ⟨HT.out.1, flat_end hkm HT.out.2.1⟩
      obtain ⟨x2, hxn⟩ : ∃ Y, Y = X := ⟨_, rfl⟩
      rw [← hxn] at HP2 ⊢
      clear hxn HT hkm
      go_wp2_with fail
      refine (rnumB_any (p.vs.length) (by have := HOk.out.v; omega) _).mono ?_
      rintro e wn3 ⟨bn3, cn3, rfl, hon, hbn⟩
      obtain ⟨gn3, egn, hcn⟩ := own_at hon (numB_pos _)
      subst egn
      have HN3 : Hid (Bo w0 wn3 _ _ x2 ∧ (∀ jj u, (u8L (numB (p.vs.length)))[jj]? = some u → wn3.cell? ((⟨gn3, 0, none⟩ : Addr).add jj) = some u)) := ⟨HP2.out.1.below hbn, hcn⟩
      clear hon hbn hcn c0 c1 c2 c3 c4 c5 hk1
      go_wp2_with (at_builtin; refine app_bytes rfl _ _ rfl rfl HN3.out.1 rfl HN3.out.2 (numB_pos _) (by have h1 := le_of (HP2.out.2) HLn.out; omega) ?_)
      intro x3 d3 e3 v3 hX hB hG
      have HP3 : Hid (Bo w0 v3 d3 e3 x3 ∧ x3 ++ (eR2 p) = byP p) := ⟨hB, app_as (HP2.out.2) hX⟩
      clear hX hB hG HN3
      clear HP2
      go_wp2_with fail
      go_loopg [5, 7] p.vs.length (fun gq ov iv wr => ∃ (k : Nat) (X : List Nat) (b : Option Addr) (c : Nat), k + gq = p.vs.length ∧ iv = .int .i64 (k : Int) ∧ ov = .slice b X.length c ∧ Bo w0 wr b c X ∧ X ++ ((p.vs.drop k).flatMap varB ++ eR3 p) = byP p)
      case atStart => exact ⟨0, x3, _, _, by omega, rfl, rfl, HP3.out.1, flat_open HP3.out.2⟩
      case round =>
        obtain ⟨k, X, b, c, hkg, rfl, rfl, hB, hX⟩ := hrel
        have HT : Hid (Bo w0 wr b c X ∧ X ++ ((p.vs.drop k).flatMap varB ++ eR3 p) = byP p ∧ k + gk = p.vs.length) := ⟨hB, hX, hkg⟩
        clear hkg hB hX HP3
        obtain ⟨c0, c1, c2, c3, c4, c5⟩ := cells6 (HX.out wr HT.out.1.2).1
        by_cases hkm : k < p.vs.length
        case pos =>
          have hk1 : (k : Int) < (p.vs.length : Int) := by omega
          have hk3 : (k : Int) < 1000000 := by omega
          have HKm : Hid (k < p.vs.length) := hkm
          have HT9 : Hid (k + gk = p.vs.length) := HT.out.2.2
          obtain ⟨g1, f1, hg1, hg2, u0, u1, u2⟩ := rd_var (HX.out wr HT.out.1.2).2.vs HKm.out
          obtain rfl : vo = some ⟨g1, f1, none⟩ := hg1
          have hne : ¬ g1 = wr.heap.size := by omega
          have HVr := show Hid _ from HOk.out.vr _ (List.getElem_mem HKm.out)
          have HSt := show Hid _ from flat_at HKm.out HT.out.2.1
          generalize p.vs[k]'HKm.out = y at *
          obtain ⟨y1, y2, y3⟩ := y
          dsimp only at u0 u1 u2
          have HSv := show Hid _ from var_split HSt.out
          have HV : Hid (Bo w0 (wr.alloc (.cells #[.int .i64 y1, .int .i64 y2, .int .i64 y3] 77)) b c X ∧ Ke (wr.alloc (.cells #[.int .i64 y1, .int .i64 y2, .int .i64 y3] 77)) b X.length c wr.heap.size (.cells #[.int .i64 y1, .int .i64 y2, .int .i64 y3] 77 (0, 0))) := ⟨HT.out.1.below ((Below.refl _ wr).alloc (Nat.le_refl _) _), Ke.new HT.out.1 _ _⟩
          clear hkm hg2 HSt HT
          go_upto_region 16 with fail
          generalize (wr.alloc (.cells #[.int .i64 y1, .int .i64 y2, .int .i64 y3] 77)) = w6 at *
          generalize wr.heap.size = vb at *
          clear u0 u1 u2 hne c0 c1 c2 c3 c4 c5
          have q0 : w6.cell? ⟨vb, 0, none⟩ = some (.int .i64 y1) := by
            have h9 := HV.out.2.1
            simp only [World.cell?, h9]
            rfl
          go_wp2_with fail
          refine (rsgnB_any y1 HVr.out.1 _).mono ?_
          rintro e _ ⟨rfl, rfl⟩
          go_wp2_with fail
          refine (rnumB_any (sgN y1) (sgN_lt2 HVr.out.1) _).mono ?_
          rintro e wn4 ⟨bn4, cn4, rfl, hon, hbn⟩
          obtain ⟨gn4, egn, hcn⟩ := own_at hon (numB_pos _)
          subst egn
          have HN4 : Hid (Bo w0 wn4 _ _ X ∧ (∀ jj u, (u8L (numB (sgN y1)))[jj]? = some u → wn4.cell? ((⟨gn4, 0, none⟩ : Addr).add jj) = some u) ∧ Ke wn4 _ _ _ vb (.cells #[.int .i64 y1, .int .i64 y2, .int .i64 y3] 77 (0, 0))) := ⟨HV.out.1.below hbn, hcn, HV.out.2.below hbn⟩
          clear hon hbn hcn q0
          go_wp2_with (at_builtin; refine app_bytes rfl _ _ rfl rfl HN4.out.1 rfl HN4.out.2.1 (numB_pos _) (by have h1 := le_of (HSv.out) HLn.out; omega) ?_)
          intro X1 d4 e4 v4 hX hB hG
          have HP4 : Hid (Bo w0 v4 d4 e4 X1 ∧ X1 ++ (numB (sgN y2) ++ (numB (sgN y3) ++ ((p.vs.drop (k + 1)).flatMap varB ++ eR3 p))) = byP p ∧ Ke v4 d4 X1.length e4 vb (.cells #[.int .i64 y1, .int .i64 y2, .int .i64 y3] 77 (0, 0))) := ⟨hB, app_as (HSv.out) hX, HN4.out.2.2.app hG⟩
          clear hX hB hG HN4
          clear HV HSv
          have q1 : v4.cell? ⟨vb, 1, none⟩ = some (.int .i64 y2) := by
            have h9 := HP4.out.2.2.1
            simp only [World.cell?, h9]
            rfl
          go_wp2_with fail
          refine (rsgnB_any y2 HVr.out.2.1 _).mono ?_
          rintro e _ ⟨rfl, rfl⟩
          go_wp2_with fail
          refine (rnumB_any (sgN y2) (sgN_lt2 HVr.out.2.1) _).mono ?_
          rintro e wn5 ⟨bn5, cn5, rfl, hon, hbn⟩
          obtain ⟨gn5, egn, hcn⟩ := own_at hon (numB_pos _)
          subst egn
          have HN5 : Hid (Bo w0 wn5 _ _ X1 ∧ (∀ jj u, (u8L (numB (sgN y2)))[jj]? = some u → wn5.cell? ((⟨gn5, 0, none⟩ : Addr).add jj) = some u) ∧ Ke wn5 _ _ _ vb (.cells #[.int .i64 y1, .int .i64 y2, .int .i64 y3] 77 (0, 0))) := ⟨HP4.out.1.below hbn, hcn, HP4.out.2.2.below hbn⟩
          clear hon hbn hcn q1
          go_wp2_with (at_builtin; refine app_bytes rfl _ _ rfl rfl HN5.out.1 rfl HN5.out.2.1 (numB_pos _) (by have h1 := le_of (HP4.out.2.1) HLn.out; omega) ?_)
          intro X2 d5 e5 v5 hX hB hG
          have HP5 : Hid (Bo w0 v5 d5 e5 X2 ∧ X2 ++ (numB (sgN y3) ++ ((p.vs.drop (k + 1)).flatMap varB ++ eR3 p)) = byP p ∧ Ke v5 d5 X2.length e5 vb (.cells #[.int .i64 y1, .int .i64 y2, .int .i64 y3] 77 (0, 0))) := ⟨hB, app_as (HP4.out.2.1) hX, HN5.out.2.2.app hG⟩
          clear hX hB hG HN5
          clear HP4
          have q2 : v5.cell? ⟨vb, 2, none⟩ = some (.int .i64 y3) := by
            have h9 := HP5.out.2.2.1
            simp only [World.cell?, h9]
            rfl
          go_wp2_with fail
          refine (rsgnB_any y3 HVr.out.2.2 _).mono ?_
          rintro e _ ⟨rfl, rfl⟩
          go_wp2_with fail
          refine (rnumB_any (sgN y3) (sgN_lt2 HVr.out.2.2) _).mono ?_
          rintro e wn6 ⟨bn6, cn6, rfl, hon, hbn⟩
          obtain ⟨gn6, egn, hcn⟩ := own_at hon (numB_pos _)
          subst egn
          have HN6 : Hid (Bo w0 wn6 _ _ X2 ∧ (∀ jj u, (u8L (numB (sgN y3)))[jj]? = some u → wn6.cell? ((⟨gn6, 0, none⟩ : Addr).add jj) = some u)) := ⟨HP5.out.1.below hbn, hcn⟩
          clear hon hbn hcn q2
          go_wp2_with (at_builtin; refine app_bytes rfl _ _ rfl rfl HN6.out.1 rfl HN6.out.2 (numB_pos _) (by have h1 := le_of (HP5.out.2.1) HLn.out; omega) ?_)
          intro X3 d6 e6 v6 hX hB hG
          have HP6 : Hid (Bo w0 v6 d6 e6 X3 ∧ X3 ++ ((p.vs.drop (k + 1)).flatMap varB ++ eR3 p) = byP p) := ⟨hB, app_as (HP5.out.2.1) hX⟩
          clear hX hB hG HN6
          clear HP5
          go_wp2_with fail
          go_roundg (p.vs.length - (k + 1))
          case measure => have := HT9.out; have := HKm.out; omega
          case rel => exact ⟨k + 1, X3, d6, e6, by have := HKm.out; omega, by go_num, rfl, HP6.out.1, HP6.out.2⟩
        case neg =>
          have hk1 : ¬ (k : Int) < (p.vs.length : Int) := by omega
          have HP7 : Hid (Bo w0 wr b c X ∧ X ++ eR3 p = byP p) := ⟨HT.out.1, flat_end hkm HT.out.2.1⟩
          obtain ⟨x4, hxn⟩ : ∃ Y, Y = X := ⟨_, rfl⟩
          rw [← hxn] at HP7 ⊢
          clear hxn HT hkm
          go_wp2_with fail
          refine (rnumB_any (p.ts.length) (by have := HOk.out.t; omega) _).mono ?_
          rintro e wn8 ⟨bn8, cn8, rfl, hon, hbn⟩
          obtain ⟨gn8, egn, hcn⟩ := own_at hon (numB_pos _)
          subst egn
          have HN8 : Hid (Bo w0 wn8 _ _ x4 ∧ (∀ jj u, (u8L (numB (p.ts.length)))[jj]? = some u → wn8.cell? ((⟨gn8, 0, none⟩ : Addr).add jj) = some u)) := ⟨HP7.out.1.below hbn, hcn⟩
          clear hon hbn hcn c0 c1 c2 c3 c4 c5 hk1
          go_wp2_with (at_builtin; refine app_bytes rfl _ _ rfl rfl HN8.out.1 rfl HN8.out.2 (numB_pos _) (by have h1 := le_of (HP7.out.2) HLn.out; omega) ?_)
          intro x5 d8 e8 v8 hX hB hG
          have HP8 : Hid (Bo w0 v8 d8 e8 x5 ∧ x5 ++ (eR4 p) = byP p) := ⟨hB, app_as (HP7.out.2) hX⟩
          clear hX hB hG HN8
          clear HP7
          go_wp2_with fail
          go_loopg [5, 9] p.ts.length (fun gq ov iv wr => ∃ (k : Nat) (X : List Nat) (b : Option Addr) (c : Nat), k + gq = p.ts.length ∧ iv = .int .i64 (k : Int) ∧ ov = .slice b X.length c ∧ Bo w0 wr b c X ∧ X ++ ((p.ts.drop k).flatMap tB ++ eR5 p) = byP p)
          case atStart => exact ⟨0, x5, _, _, by omega, rfl, rfl, HP8.out.1, flat_open HP8.out.2⟩
          case round =>
            obtain ⟨k, X, b, c, hkg, rfl, rfl, hB, hX⟩ := hrel
            have HT : Hid (Bo w0 wr b c X ∧ X ++ ((p.ts.drop k).flatMap tB ++ eR5 p) = byP p ∧ k + gk = p.ts.length) := ⟨hB, hX, hkg⟩
            clear hkg hB hX HP8
            obtain ⟨c0, c1, c2, c3, c4, c5⟩ := cells6 (HX.out wr HT.out.1.2).1
            by_cases hkm : k < p.ts.length
            case pos =>
              have hk1 : (k : Int) < (p.ts.length : Int) := by omega
              have hk3 : (k : Int) < 1000000 := by omega
              have HKm : Hid (k < p.ts.length) := hkm
              have HT9 : Hid (k + gk = p.ts.length) := HT.out.2.2
              obtain ⟨g1, f1, hg1, -, u0⟩ := rd_int (HX.out wr HT.out.1.2).2.ts HKm.out
              obtain rfl : tto = some ⟨g1, f1, none⟩ := hg1
              have hvr := HOk.out.tr _ (List.getElem_mem HKm.out)
              have HSt := show Hid _ from flat_at HKm.out HT.out.2.1
              generalize p.ts[k]'HKm.out = y at *
              obtain ⟨yn, rfl⟩ : ∃ yn : Nat, y = (yn : Int) := ⟨y.toNat, by omega⟩
              have HVr : Hid (yn < 9223372036854775808) := by have h9 := hvr.2; show _ < _; omega
              have ew : IntKind.u64.wrap (yn : Int) = (yn : Int) := wraps_u64 _ (by omega) (by have := HVr.out; omega)
              have HB : Hid (Bo w0 wr b c X ∧ X ++ (numB yn ++ ((p.ts.drop (k + 1)).flatMap tB ++ eR5 p)) = byP p) := ⟨HT.out.1, HSt.out⟩
              clear hkm hvr HSt HT
              go_wp2_with fail
              refine (rnumB_any (yn) (HVr.out) _).mono ?_
              rintro e wn9 ⟨bn9, cn9, rfl, hon, hbn⟩
              obtain ⟨gn9, egn, hcn⟩ := own_at hon (numB_pos _)
              subst egn
              have HN9 : Hid (Bo w0 wn9 _ _ X ∧ (∀ jj u, (u8L (numB (yn)))[jj]? = some u → wn9.cell? ((⟨gn9, 0, none⟩ : Addr).add jj) = some u)) := ⟨HB.out.1.below hbn, hcn⟩
              clear hon hbn hcn u0 ew c0 c1 c2 c3 c4 c5
              go_wp2_with (at_builtin; refine app_bytes rfl _ _ rfl rfl HN9.out.1 rfl HN9.out.2 (numB_pos _) (by have h1 := le_of (HB.out.2) HLn.out; omega) ?_)
              intro X1 d9 e9 v9 hX hB hG
              have HP9 : Hid (Bo w0 v9 d9 e9 X1 ∧ X1 ++ ((p.ts.drop (k + 1)).flatMap tB ++ eR5 p) = byP p) := ⟨hB, app_as (HB.out.2) hX⟩
              clear hX hB hG HN9
              clear HB
              go_wp2_with fail
              go_roundg (p.ts.length - (k + 1))
              case measure => have := HT9.out; have := HKm.out; omega
              case rel => exact ⟨k + 1, X1, d9, e9, by have := HKm.out; omega, by go_num, rfl, HP9.out.1, HP9.out.2⟩
            case neg =>
              have hk1 : ¬ (k : Int) < (p.ts.length : Int) := by omega
              have HPa : Hid (Bo w0 wr b c X ∧ X ++ eR5 p = byP p) := ⟨HT.out.1, flat_end hkm HT.out.2.1⟩
              obtain ⟨x6, hxn⟩ : ∃ Y, Y = X := ⟨_, rfl⟩
              rw [← hxn] at HPa ⊢
              clear hxn HT hkm
              go_wp2_with fail
              go_loopg [5, 10] p.on.length (fun gq ov iv wr => ∃ (k : Nat) (X : List Nat) (b : Option Addr) (c : Nat), k + gq = p.on.length ∧ iv = .int .i64 (k : Int) ∧ ov = .slice b X.length c ∧ Bo w0 wr b c X ∧ X ++ ((p.on.drop k).flatMap oB ++ eR6 p) = byP p)
              case atStart => exact ⟨0, x6, _, _, by omega, rfl, rfl, HPa.out.1, flat_open HPa.out.2⟩
              case round =>
                obtain ⟨k, X, b, c, hkg, rfl, rfl, hB, hX⟩ := hrel
                have HT : Hid (Bo w0 wr b c X ∧ X ++ ((p.on.drop k).flatMap oB ++ eR6 p) = byP p ∧ k + gk = p.on.length) := ⟨hB, hX, hkg⟩
                clear hkg hB hX HPa
                obtain ⟨c0, c1, c2, c3, c4, c5⟩ := cells6 (HX.out wr HT.out.1.2).1
                by_cases hkm : k < p.on.length
                case pos =>
                  have hk1 : (k : Int) < (p.on.length : Int) := by omega
                  have hk3 : (k : Int) < 1000000 := by omega
                  have HKm : Hid (k < p.on.length) := hkm
                  have HT9 : Hid (k + gk = p.on.length) := HT.out.2.2
                  obtain ⟨g1, f1, hg1, -, u0⟩ := rd_int (HX.out wr HT.out.1.2).2.on HKm.out
                  obtain rfl : oo = some ⟨g1, f1, none⟩ := hg1
                  have hvr := HOk.out.or _ (List.getElem_mem HKm.out)
                  have HSt := show Hid _ from flat_at HKm.out HT.out.2.1
                  generalize p.on[k]'HKm.out = y at *
                  obtain ⟨yn, hyn⟩ : ∃ yn : Nat, y + 1 = (yn : Int) := ⟨(y + 1).toNat, by omega⟩
                  have HVr : Hid (yn < 9223372036854775808) := by have h9 := hvr.2; show _ < _; omega
                  have ev : IntKind.i64.wrap (y + 1) = (yn : Int) := by rw [IntKind.wrap_i64]; have h9 := HVr.out; omega
                  have ew : IntKind.u64.wrap (yn : Int) = (yn : Int) := wraps_u64 _ (by omega) (by have := HVr.out; omega)
                  have HB : Hid (Bo w0 wr b c X ∧ X ++ (numB yn ++ ((p.on.drop (k + 1)).flatMap oB ++ eR6 p)) = byP p) := by
                    refine ⟨HT.out.1, ?_⟩
                    have e1 : oB y = numB yn := by
                      show numB (y + 1).toNat = _
                      rw [hyn]
                      rfl
                    rw [← e1]
                    exact HSt.out
                  clear hkm hvr hyn HSt HT
                  go_wp2_with fail
                  refine (rnumB_any (yn) (HVr.out) _).mono ?_
                  rintro e wn10 ⟨bn10, cn10, rfl, hon, hbn⟩
                  obtain ⟨gn10, egn, hcn⟩ := own_at hon (numB_pos _)
                  subst egn
                  have HN10 : Hid (Bo w0 wn10 _ _ X ∧ (∀ jj u, (u8L (numB (yn)))[jj]? = some u → wn10.cell? ((⟨gn10, 0, none⟩ : Addr).add jj) = some u)) := ⟨HB.out.1.below hbn, hcn⟩
                  clear hon hbn hcn u0 ev ew c0 c1 c2 c3 c4 c5
                  go_wp2_with (at_builtin; refine app_bytes rfl _ _ rfl rfl HN10.out.1 rfl HN10.out.2 (numB_pos _) (by have h1 := le_of (HB.out.2) HLn.out; omega) ?_)
                  intro X1 d10 e10 v10 hX hB hG
                  have HP10 : Hid (Bo w0 v10 d10 e10 X1 ∧ X1 ++ ((p.on.drop (k + 1)).flatMap oB ++ eR6 p) = byP p) := ⟨hB, app_as (HB.out.2) hX⟩
                  clear hX hB hG HN10
                  clear HB
                  go_wp2_with fail
                  go_roundg (p.on.length - (k + 1))
                  case measure => have := HT9.out; have := HKm.out; omega
                  case rel => exact ⟨k + 1, X1, d10, e10, by have := HKm.out; omega, by go_num, rfl, HP10.out.1, HP10.out.2⟩
                case neg =>
                  have hk1 : ¬ (k : Int) < (p.on.length : Int) := by omega
                  have HPb : Hid (Bo w0 wr b c X ∧ X ++ eR6 p = byP p) := ⟨HT.out.1, flat_end hkm HT.out.2.1⟩
                  obtain ⟨x7, hxn⟩ : ∃ Y, Y = X := ⟨_, rfl⟩
                  rw [← hxn] at HPb ⊢
                  have hms := HOk.out.ms
                  obtain ⟨mn, hmn⟩ : ∃ mn : Nat, p.miss + 1 = (mn : Int) := ⟨(p.miss + 1).toNat, by omega⟩
                  have HMn : Hid (mn < 9223372036854775808) := by have h9 := hms.2; show _ < _; omega
                  have ev : IntKind.i64.wrap (p.miss + 1) = (mn : Int) := by rw [IntKind.wrap_i64]; have h9 := HMn.out; omega
                  have ew : IntKind.u64.wrap (mn : Int) = (mn : Int) := wraps_u64 _ (by omega) (by have := HMn.out; omega)
                  have HPc : Hid (Bo w0 wr b c x7 ∧ x7 ++ (numB mn ++ eR7 p) = byP p) := by
                    refine ⟨HPb.out.1, ?_⟩
                    have e1 : numB (p.miss + 1).toNat = numB mn := by
                      rw [hmn]
                      rfl
                    rw [← e1]
                    exact HPb.out.2
                  clear hxn HT hkm hms hmn HPb
                  go_wp2_with fail
                  refine (rnumB_any (mn) (HMn.out) _).mono ?_
                  rintro e wn11 ⟨bn11, cn11, rfl, hon, hbn⟩
                  obtain ⟨gn11, egn, hcn⟩ := own_at hon (numB_pos _)
                  subst egn
                  have HN11 : Hid (Bo w0 wn11 _ _ x7 ∧ (∀ jj u, (u8L (numB (mn)))[jj]? = some u → wn11.cell? ((⟨gn11, 0, none⟩ : Addr).add jj) = some u)) := ⟨HPc.out.1.below hbn, hcn⟩
                  clear hon hbn hcn ev ew hk1 c0 c1 c2 c3 c4 c5
                  go_wp2_with (at_builtin; refine app_bytes rfl _ _ rfl rfl HN11.out.1 rfl HN11.out.2 (numB_pos _) (by have h1 := le_of (HPc.out.2) HLn.out; omega) ?_)
                  intro x8 d11 e11 v11 hX hB hG
                  have HP11 : Hid (Bo w0 v11 d11 e11 x8 ∧ x8 ++ (eR7 p) = byP p) := ⟨hB, app_as (HPc.out.2) hX⟩
                  clear hX hB hG HN11
                  clear HPc HMn
                  obtain ⟨c0, c1, c2, c3, c4, c5⟩ := cells6 (HX.out v11 HP11.out.1.2).1
                  go_wp2_with fail
                  refine (rnumB_any (p.cd.length) (by have := HOk.out.c; omega) _).mono ?_
                  rintro e wn12 ⟨bn12, cn12, rfl, hon, hbn⟩
                  obtain ⟨gn12, egn, hcn⟩ := own_at hon (numB_pos _)
                  subst egn
                  have HN12 : Hid (Bo w0 wn12 _ _ x8 ∧ (∀ jj u, (u8L (numB (p.cd.length)))[jj]? = some u → wn12.cell? ((⟨gn12, 0, none⟩ : Addr).add jj) = some u)) := ⟨HP11.out.1.below hbn, hcn⟩
                  clear hon hbn hcn c0 c1 c2 c3 c4 c5
                  go_wp2_with (at_builtin; refine app_bytes rfl _ _ rfl rfl HN12.out.1 rfl HN12.out.2 (numB_pos _) (by have h1 := le_of (HP11.out.2) HLn.out; omega) ?_)
                  intro x9 d12 e12 v12 hX hB hG
                  have HP12 : Hid (Bo w0 v12 d12 e12 x9 ∧ x9 ++ (eR8 p) = byP p) := ⟨hB, app_as (HP11.out.2) hX⟩
                  clear hX hB hG HN12
                  clear HP11
                  go_wp2_with fail
                  refine (Vf.rtab_any _).mono ?_
                  rintro e w5 ⟨tg, rfl, ht0, ht1, htb⟩
                  have HQt : Hid (Bo w0 w5 d12 e12 x9 ∧ x9 ++ eR8 p = byP p ∧ Ke w5 d12 x9.length e12 tg (.cells tabC.toArray 84 (0, 0))) := ⟨HP12.out.1.below htb, HP12.out.2, ht1, fun g e => by have := (World.ownsRow.lt HP12.out.1.1 g e).2; omega⟩
                  clear ht0 ht1 htb HP12
                  go_wp2_with fail
                  go_loopg [5, 12] p.cd.length (fun gq ov iv wr => ∃ (k : Nat) (X : List Nat) (b : Option Addr) (c : Nat), k + gq = p.cd.length ∧ iv = .int .i64 (k : Int) ∧ ov = .slice b X.length c ∧ Bo w0 wr b c X ∧ X ++ ((p.cd.drop k).flatMap insBy ++ []) = byP p ∧ Ke wr b X.length c tg (.cells tabC.toArray 84 (0, 0)))
                  case atStart => exact ⟨0, x9, _, _, by omega, rfl, rfl, HQt.out.1, by rw [List.append_nil]; exact HQt.out.2.1, HQt.out.2.2⟩
                  case round =>
                    obtain ⟨k, X, b, c, hkg, rfl, rfl, hB, hX, hT⟩ := hrel
                    have HT : Hid (Bo w0 wr b c X ∧ X ++ ((p.cd.drop k).flatMap insBy ++ []) = byP p ∧ Ke wr b X.length c tg (.cells tabC.toArray 84 (0, 0)) ∧ k + gk = p.cd.length) := ⟨hB, hX, hT, hkg⟩
                    clear hkg hB hX hT HQt
                    obtain ⟨c0, c1, c2, c3, c4, c5⟩ := cells6 (HX.out wr HT.out.1.2).1
                    by_cases hkm : k < p.cd.length
                    case pos =>
                      have hk1 : (k : Int) < (p.cd.length : Int) := by omega
                      have hk3 : (k : Int) < 1000000 := by omega
                      have HKm : Hid (k < p.cd.length) := hkm
                      have HT9 : Hid (k + gk = p.cd.length) := HT.out.2.2.2
                      obtain ⟨g1, f1, hg1, hg2, u0, u1, u2, u3, u4⟩ := rd_ins (HX.out wr HT.out.1.2).2.cd HKm.out
                      obtain rfl : co = some ⟨g1, f1, none⟩ := hg1
                      have hne : ¬ g1 = wr.heap.size := by omega
                      have hvr := HOk.out.cr _ (List.getElem_mem HKm.out)
                      have HSt := show Hid _ from flat_at HKm.out HT.out.2.1
                      generalize p.cd[k]'HKm.out = y at *
                      obtain ⟨xo, xa, xb, xc, xd⟩ := y
                      dsimp only at u0 u1 u2 u3 u4
                      have ho := hvr.op
                      dsimp only at ho
                      obtain ⟨op, rfl⟩ : ∃ op : Nat, xo = (op : Int) := ⟨xo.toNat, by omega⟩
                      have HOp : Hid (op < 42) := (by omega : op < 42)
                      have HIn := show Hid _ from hvr
                      have HSv : Hid (X ++ (numB op ++ (opsB ⟨(op : Int), xa, xb, xc, xd⟩ 4 ++ ((p.cd.drop (k + 1)).flatMap insBy ++ []))) = byP p) := by
                        have h9 := HSt.out
                        rw [insBy_ops, List.append_assoc] at h9
                        exact h9
                      have HV : Hid (Bo w0 (wr.alloc (.cells #[.int .i64 (op : Int), .int .i64 xa, .int .i64 xb, .int .i64 xc, .int .i64 xd] 53)) b c X ∧ Ke (wr.alloc (.cells #[.int .i64 (op : Int), .int .i64 xa, .int .i64 xb, .int .i64 xc, .int .i64 xd] 53)) b X.length c tg (.cells tabC.toArray 84 (0, 0)) ∧ Ke (wr.alloc (.cells #[.int .i64 (op : Int), .int .i64 xa, .int .i64 xb, .int .i64 xc, .int .i64 xd] 53)) b X.length c wr.heap.size (.cells #[.int .i64 (op : Int), .int .i64 xa, .int .i64 xb, .int .i64 xc, .int .i64 xd] 53 (0, 0))) := by
                        have hb9 : Below wr.heap.size wr (wr.alloc (.cells #[.int .i64 (op : Int), .int .i64 xa, .int .i64 xb, .int .i64 xc, .int .i64 xd] 53)) := (Below.refl _ wr).alloc (Nat.le_refl _) _
                        exact ⟨HT.out.1.below hb9, HT.out.2.2.1.below hb9, Ke.new HT.out.1 _ _⟩
                      clear hkm hg2 ho hvr HSt HT
                      go_upto_region 35 with fail
                      generalize (wr.alloc (.cells #[.int .i64 (op : Int), .int .i64 xa, .int .i64 xb, .int .i64 xc, .int .i64 xd] 53)) = w6 at *
                      generalize wr.heap.size = ib at *
                      clear u0 u1 u2 u3 u4 hne c0 c1 c2 c3 c4 c5
                      have ew : IntKind.u64.wrap (op : Int) = (op : Int) := wraps_u64 _ (by omega) (by have := HOp.out; omega)
                      have q0 : w6.cell? ⟨ib, 0, none⟩ = some (.int .i64 (op : Int)) := by
                        have h9 := HV.out.2.2.1
                        simp only [World.cell?, h9]
                        rfl
                      go_wp2_with fail
                      refine (rnumB_any (op) (by have := HOp.out; omega) _).mono ?_
                      rintro e wn13 ⟨bn13, cn13, rfl, hon, hbn⟩
                      obtain ⟨gn13, egn, hcn⟩ := own_at hon (numB_pos _)
                      subst egn
                      have HN13 : Hid (Bo w0 wn13 _ _ X ∧ (∀ jj u, (u8L (numB (op)))[jj]? = some u → wn13.cell? ((⟨gn13, 0, none⟩ : Addr).add jj) = some u) ∧ Ke wn13 _ _ _ tg (.cells tabC.toArray 84 (0, 0)) ∧ Ke wn13 _ _ _ ib (.cells #[.int .i64 (op : Int), .int .i64 xa, .int .i64 xb, .int .i64 xc, .int .i64 xd] 53 (0, 0))) := ⟨HV.out.1.below hbn, hcn, HV.out.2.1.below hbn, HV.out.2.2.below hbn⟩
                      clear hon hbn hcn q0 ew
                      go_wp2_with (at_builtin; refine app_bytes rfl _ _ rfl rfl HN13.out.1 rfl HN13.out.2.1 (numB_pos _) (by have h1 := le_of (HSv.out) HLn.out; omega) ?_)
                      intro X1 d13 e13 v13 hX hB hG
                      have HP13 : Hid (Bo w0 v13 d13 e13 X1 ∧ X1 ++ (opsB ⟨(op : Int), xa, xb, xc, xd⟩ 4 ++ ((p.cd.drop (k + 1)).flatMap insBy ++ [])) = byP p ∧ Ke v13 d13 X1.length e13 tg (.cells tabC.toArray 84 (0, 0)) ∧ Ke v13 d13 X1.length e13 ib (.cells #[.int .i64 (op : Int), .int .i64 xa, .int .i64 xb, .int .i64 xc, .int .i64 xd] 53 (0, 0))) := ⟨hB, app_as (HSv.out) hX, HN13.out.2.2.1.app hG, HN13.out.2.2.2.app hG⟩
                      clear hX hB hG HN13
                      clear HV HSv
                      have q0 : v13.cell? ⟨ib, 0, none⟩ = some (.int .i64 (op : Int)) := by
                        have h9 := HP13.out.2.2.2.1
                        simp only [World.cell?, h9]
                        rfl
                      have q1 : v13.cell? ⟨ib, 1, none⟩ = some (.int .i64 xa) := by
                        have h9 := HP13.out.2.2.2.1
                        simp only [World.cell?, h9]
                        rfl
                      have q2 : v13.cell? ⟨ib, 2, none⟩ = some (.int .i64 xb) := by
                        have h9 := HP13.out.2.2.2.1
                        simp only [World.cell?, h9]
                        rfl
                      have q3 : v13.cell? ⟨ib, 3, none⟩ = some (.int .i64 xc) := by
                        have h9 := HP13.out.2.2.2.1
                        simp only [World.cell?, h9]
                        rfl
                      have q4 : v13.cell? ⟨ib, 4, none⟩ = some (.int .i64 xd) := by
                        have h9 := HP13.out.2.2.2.1
                        simp only [World.cell?, h9]
                        rfl
                      go_wp2_with fail
                      refine (ropers_any ⟨(op : Int), xa, xb, xc, xd⟩ _).mono ?_
                      rintro e w7 ⟨rfl, hb7⟩
                      dsimp only
                      have HW : Hid (Bo w0 (w7.alloc (.cells #[.int .i64 xa, .int .i64 xb, .int .i64 xc, .int .i64 xd] 81)) d13 e13 X1 ∧ X1 ++ (opsB ⟨(op : Int), xa, xb, xc, xd⟩ 4 ++ ((p.cd.drop (k + 1)).flatMap insBy ++ [])) = byP p ∧ Ke (w7.alloc (.cells #[.int .i64 xa, .int .i64 xb, .int .i64 xc, .int .i64 xd] 81)) d13 X1.length e13 tg (.cells tabC.toArray 84 (0, 0)) ∧ Ke (w7.alloc (.cells #[.int .i64 xa, .int .i64 xb, .int .i64 xc, .int .i64 xd] 81)) d13 X1.length e13 ib (.cells #[.int .i64 (op : Int), .int .i64 xa, .int .i64 xb, .int .i64 xc, .int .i64 xd] 53 (0, 0)) ∧ Ke (w7.alloc (.cells #[.int .i64 xa, .int .i64 xb, .int .i64 xc, .int .i64 xd] 81)) d13 X1.length e13 w7.heap.size (.cells #[.int .i64 xa, .int .i64 xb, .int .i64 xc, .int .i64 xd] 81 (0, 0))) := by
                        have hb9 : Below w7.heap.size w7 (w7.alloc (.cells #[.int .i64 xa, .int .i64 xb, .int .i64 xc, .int .i64 xd] 81)) := (Below.refl _ w7).alloc (Nat.le_refl _) _
                        have hB := HP13.out.1.below hb7
                        exact ⟨hB.below hb9, HP13.out.2.1, (HP13.out.2.2.1.below hb7).below hb9, (HP13.out.2.2.2.below hb7).below hb9, Ke.new hB _ _⟩
                      clear hb7 HP13 q0 q1 q2 q3 q4
                      go_wp2_with fail
                      generalize (w7.alloc (.cells #[.int .i64 xa, .int .i64 xb, .int .i64 xc, .int .i64 xd] 81)) = w8 at *
                      generalize w7.heap.size = ab at *
                      go_loopg [5, 15] 4 (fun gq ov iv wr => ∃ (k2 : Nat) (Y : List Nat) (b : Option Addr) (c : Nat), k2 + gq = 4 ∧ iv = .int .i64 (k2 : Int) ∧ ov = .slice b Y.length c ∧ Bo w0 wr b c Y ∧ Y ++ (((List.range 4).drop k2).flatMap (fun j => opB (kdN op j) (opN ⟨(op : Int), xa, xb, xc, xd⟩ j)) ++ ((p.cd.drop (k + 1)).flatMap insBy ++ [])) = byP p ∧ Ke wr b Y.length c tg (.cells tabC.toArray 84 (0, 0)) ∧ Ke wr b Y.length c ib (.cells #[.int .i64 (op : Int), .int .i64 xa, .int .i64 xb, .int .i64 xc, .int .i64 xd] 53 (0, 0)) ∧ Ke wr b Y.length c ab (.cells #[.int .i64 xa, .int .i64 xb, .int .i64 xc, .int .i64 xd] 81 (0, 0)))
                      case atStart => exact ⟨0, X1, _, _, by omega, rfl, rfl, HW.out.1, HW.out.2.1, HW.out.2.2⟩
                      case round =>
                        obtain ⟨j, Y, b2, c2, hjg, rfl, rfl, hB, hX, h1, h2, h3⟩ := hrel
                        have HI : Hid (Bo w0 wr b2 c2 Y ∧ Y ++ (((List.range 4).drop j).flatMap (fun j => opB (kdN op j) (opN ⟨(op : Int), xa, xb, xc, xd⟩ j)) ++ ((p.cd.drop (k + 1)).flatMap insBy ++ [])) = byP p ∧ Ke wr b2 Y.length c2 tg (.cells tabC.toArray 84 (0, 0)) ∧ Ke wr b2 Y.length c2 ib (.cells #[.int .i64 (op : Int), .int .i64 xa, .int .i64 xb, .int .i64 xc, .int .i64 xd] 53 (0, 0)) ∧ Ke wr b2 Y.length c2 ab (.cells #[.int .i64 xa, .int .i64 xb, .int .i64 xc, .int .i64 xd] 81 (0, 0)) ∧ j + gk = 4) := ⟨hB, hX, h1, h2, h3, hjg⟩
                        clear hjg hB hX h1 h2 h3 HW
                        by_cases hjm : j < 4
                        case pos =>
                          have hj1 : (j : Int) < 4 := by omega
                          have hop1 : (op : Int) < 42 := by have := HOp.out; omega
                          have HJm : Hid (j < 4) := hjm
                          have HJ9 : Hid (j + gk = 4) := HI.out.2.2.2.2.2
                          obtain ⟨q, hq9, hqe⟩ := kdN_lt op HOp.out j hjm
                          have hq0 := op_bnd HIn.out j hjm
                          have hq1 : OpOk (q : Int) (opN ⟨(op : Int), xa, xb, xc, xd⟩ j) := by
                            have h9 := hq0.1
                            change OpOk (kdN op j) _ at h9
                            rwa [hqe] at h9
                          have HQb := show Hid _ from hq1
                          have HSj : Hid (Y ++ (opB (q : Int) (opN ⟨(op : Int), xa, xb, xc, xd⟩ j) ++ (((List.range 4).drop (j + 1)).flatMap (fun j => opB (kdN op j) (opN ⟨(op : Int), xa, xb, xc, xd⟩ j)) ++ ((p.cd.drop (k + 1)).flatMap insBy ++ []))) = byP p) := by
                            have h9 := flat_at (l := List.range 4) (k := j) (by simp; omega) HI.out.2.1
                            simp only [List.getElem_range, hqe] at h9
                            exact h9
                          have t0 : wr.cell? ⟨tg, op * 5 + 1 + j, none⟩ = some (.int .i64 (q : Int)) := by
                            have h9 := cell_of HI.out.2.2.1.1 (tabC_kd HOp.out hjm)
                            rwa [hqe] at h9
                          have a0 : wr.cell? ⟨ab, j, none⟩ = some (.int .i64 (opN ⟨(op : Int), xa, xb, xc, xd⟩ j)) := opN_cell HI.out.2.2.2.2.1.1 j hjm
                          have i0 : wr.cell? ⟨ib, 0, none⟩ = some (.int .i64 (op : Int)) := by
                            have h9 := HI.out.2.2.2.1.1
                            simp only [World.cell?, h9]
                            rfl
                          have HJ0 : Hid (Bo w0 wr b2 c2 Y ∧ Ke wr b2 Y.length c2 tg (.cells tabC.toArray 84 (0, 0)) ∧ Ke wr b2 Y.length c2 ib (.cells #[.int .i64 (op : Int), .int .i64 xa, .int .i64 xb, .int .i64 xc, .int .i64 xd] 53 (0, 0)) ∧ Ke wr b2 Y.length c2 ab (.cells #[.int .i64 xa, .int .i64 xb, .int .i64 xc, .int .i64 xd] 81 (0, 0))) := ⟨HI.out.1, HI.out.2.2.1, HI.out.2.2.2.1, HI.out.2.2.2.2.1⟩
                          clear hjm hqe hq0 hq1 HI
                          generalize opN ⟨(op : Int), xa, xb, xc, xd⟩ j = y at *
                          by_cases e0 : q = 0
                          case pos =>
                            subst e0
                            change _ = some (Value.int .i64 0) at t0
                            have HS0 : Hid (Y ++ (((List.range 4).drop (j + 1)).flatMap (fun j => opB (kdN op j) (opN ⟨(op : Int), xa, xb, xc, xd⟩ j)) ++ ((p.cd.drop (k + 1)).flatMap insBy ++ [])) = byP p) := by
                              have h9 := HSj.out
                              rwa [show opB ((0 : Nat) : Int) y = [] from if_pos rfl, List.nil_append] at h9
                            clear HSj HQb
                            go_wp2_with fail
                            go_roundg (4 - (j + 1))
                            case measure => have := HJ9.out; have := HJm.out; omega
                            case rel => exact ⟨j + 1, Y, b2, c2, by have := HJm.out; omega, by go_num, rfl, HJ0.out.1, HS0.out, HJ0.out.2⟩
                          by_cases e5 : q = 5
                          case pos =>
                            subst e5
                            change _ = some (Value.int .i64 5) at t0
                            have HS5 : Hid (Y ++ (numB (sgN y) ++ (((List.range 4).drop (j + 1)).flatMap (fun j => opB (kdN op j) (opN ⟨(op : Int), xa, xb, xc, xd⟩ j)) ++ ((p.cd.drop (k + 1)).flatMap insBy ++ []))) = byP p) := HSj.out
                            have HYb : Hid (-4611686018427387904 < y ∧ y < 4611686018427387904) := by
                              rcases HQb.out with h | h | h
                              · exact absurd h (by decide)
                              · exact h.2
                              · exact absurd rfl h.2.2.1
                            clear HSj HQb e0
                            go_wp2_with fail
                            refine (rsgnB_any y HYb.out _).mono ?_
                            rintro e _ ⟨rfl, rfl⟩
                            go_wp2_with fail
                            refine (rnumB_any (sgN y) (sgN_lt2 HYb.out) _).mono ?_
                            rintro e wn14 ⟨bn14, cn14, rfl, hon, hbn⟩
                            obtain ⟨gn14, egn, hcn⟩ := own_at hon (numB_pos _)
                            subst egn
                            have HN14 : Hid (Bo w0 wn14 _ _ Y ∧ (∀ jj u, (u8L (numB (sgN y)))[jj]? = some u → wn14.cell? ((⟨gn14, 0, none⟩ : Addr).add jj) = some u) ∧ Ke wn14 _ _ _ tg (.cells tabC.toArray 84 (0, 0)) ∧ Ke wn14 _ _ _ ib (.cells #[.int .i64 (op : Int), .int .i64 xa, .int .i64 xb, .int .i64 xc, .int .i64 xd] 53 (0, 0)) ∧ Ke wn14 _ _ _ ab (.cells #[.int .i64 xa, .int .i64 xb, .int .i64 xc, .int .i64 xd] 81 (0, 0))) := ⟨HJ0.out.1.below hbn, hcn, HJ0.out.2.1.below hbn, HJ0.out.2.2.1.below hbn, HJ0.out.2.2.2.below hbn⟩
                            clear hon hbn hcn t0 a0 i0
                            go_wp2_with (at_builtin; refine app_bytes rfl _ _ rfl rfl HN14.out.1 rfl HN14.out.2.1 (numB_pos _) (by have h1 := le_of (HS5.out) HLn.out; omega) ?_)
                            intro Y2 d14 e14 v14 hX hB hG
                            have HP14 : Hid (Bo w0 v14 d14 e14 Y2 ∧ Y2 ++ (((List.range 4).drop (j + 1)).flatMap (fun j => opB (kdN op j) (opN ⟨(op : Int), xa, xb, xc, xd⟩ j)) ++ ((p.cd.drop (k + 1)).flatMap insBy ++ [])) = byP p ∧ Ke v14 d14 Y2.length e14 tg (.cells tabC.toArray 84 (0, 0)) ∧ Ke v14 d14 Y2.length e14 ib (.cells #[.int .i64 (op : Int), .int .i64 xa, .int .i64 xb, .int .i64 xc, .int .i64 xd] 53 (0, 0)) ∧ Ke v14 d14 Y2.length e14 ab (.cells #[.int .i64 xa, .int .i64 xb, .int .i64 xc, .int .i64 xd] 81 (0, 0))) := ⟨hB, app_as (HS5.out) hX, HN14.out.2.2.1.app hG, HN14.out.2.2.2.1.app hG, HN14.out.2.2.2.2.app hG⟩
                            clear hX hB hG HN14
                            clear HJ0 HS5
                            go_wp2_with fail
                            go_roundg (4 - (j + 1))
                            case measure => have := HJ9.out; have := HJm.out; omega
                            case rel => exact ⟨j + 1, Y2, d14, e14, by have := HJm.out; omega, by go_num, rfl, HP14.out.1, HP14.out.2.1, HP14.out.2.2⟩
                          have f0 : ¬ (q : Int) = 0 := by omega
                          have f5 : ¬ (q : Int) = 5 := by omega
                          have hyb : 0 ≤ y ∧ y < 9223372036854775808 := by
                            rcases HQb.out with h | h | h
                            · exact absurd h f0
                            · exact absurd h.1 f5
                            · exact ⟨h.2.2.2.1, h.2.2.2.2⟩
                          obtain ⟨yn, rfl⟩ : ∃ yn : Nat, y = (yn : Int) := ⟨y.toNat, by omega⟩
                          have HYb : Hid (yn < 9223372036854775808) := by have := hyb.2; show _ < _; omega
                          have ew : IntKind.u64.wrap (yn : Int) = (yn : Int) := wraps_u64 _ (by omega) (by have := HYb.out; omega)
                          have HS9 : Hid (Y ++ (numB yn ++ (((List.range 4).drop (j + 1)).flatMap (fun j => opB (kdN op j) (opN ⟨(op : Int), xa, xb, xc, xd⟩ j)) ++ ((p.cd.drop (k + 1)).flatMap insBy ++ []))) = byP p) := by
                            have h9 := HSj.out
                            rwa [show opB (q : Int) (yn : Int) = numB yn from (if_neg f0).trans (if_neg f5)] at h9
                          obtain ⟨qi, hqi⟩ : ∃ qi : Int, qi = (q : Int) := ⟨_, rfl⟩
                          rw [← hqi] at t0 f0 f5
                          clear HSj HQb e0 e5 hyb hqi
                          have f0d : decide (qi = 0) = false := decide_eq_false f0
                          have f5d : decide (qi = 5) = false := decide_eq_false f5
                          have f0b : (qi == 0) = false := by simpa using f0
                          have f5b : (qi == 5) = false := by simpa using f5
                          go_wp2_with fail
                          refine (rnumB_any (yn) (HYb.out) _).mono ?_
                          rintro e wn15 ⟨bn15, cn15, rfl, hon, hbn⟩
                          obtain ⟨gn15, egn, hcn⟩ := own_at hon (numB_pos _)
                          subst egn
                          have HN15 : Hid (Bo w0 wn15 _ _ Y ∧ (∀ jj u, (u8L (numB (yn)))[jj]? = some u → wn15.cell? ((⟨gn15, 0, none⟩ : Addr).add jj) = some u) ∧ Ke wn15 _ _ _ tg (.cells tabC.toArray 84 (0, 0)) ∧ Ke wn15 _ _ _ ib (.cells #[.int .i64 (op : Int), .int .i64 xa, .int .i64 xb, .int .i64 xc, .int .i64 xd] 53 (0, 0)) ∧ Ke wn15 _ _ _ ab (.cells #[.int .i64 xa, .int .i64 xb, .int .i64 xc, .int .i64 xd] 81 (0, 0))) := ⟨HJ0.out.1.below hbn, hcn, HJ0.out.2.1.below hbn, HJ0.out.2.2.1.below hbn, HJ0.out.2.2.2.below hbn⟩
                          clear hon hbn hcn t0 a0 i0 ew f0 f5
                          go_wp2_with (at_builtin; refine app_bytes rfl _ _ rfl rfl HN15.out.1 rfl HN15.out.2.1 (numB_pos _) (by have h1 := le_of (HS9.out) HLn.out; omega) ?_)
                          intro Y2 d15 e15 v15 hX hB hG
                          have HP15 : Hid (Bo w0 v15 d15 e15 Y2 ∧ Y2 ++ (((List.range 4).drop (j + 1)).flatMap (fun j => opB (kdN op j) (opN ⟨(op : Int), xa, xb, xc, xd⟩ j)) ++ ((p.cd.drop (k + 1)).flatMap insBy ++ [])) = byP p ∧ Ke v15 d15 Y2.length e15 tg (.cells tabC.toArray 84 (0, 0)) ∧ Ke v15 d15 Y2.length e15 ib (.cells #[.int .i64 (op : Int), .int .i64 xa, .int .i64 xb, .int .i64 xc, .int .i64 xd] 53 (0, 0)) ∧ Ke v15 d15 Y2.length e15 ab (.cells #[.int .i64 xa, .int .i64 xb, .int .i64 xc, .int .i64 xd] 81 (0, 0))) := ⟨hB, app_as (HS9.out) hX, HN15.out.2.2.1.app hG, HN15.out.2.2.2.1.app hG, HN15.out.2.2.2.2.app hG⟩
                          clear hX hB hG HN15
                          clear HJ0 HS9
                          go_wp2_with fail
                          go_roundg (4 - (j + 1))
                          case measure => have := HJ9.out; have := HJm.out; omega
                          case rel => exact ⟨j + 1, Y2, d15, e15, by have := HJm.out; omega, by go_num, rfl, HP15.out.1, HP15.out.2.1, HP15.out.2.2⟩
                        case neg =>
                          have hj1 : ¬ (j : Int) < 4 := by omega
                          have HF : Hid (Bo w0 wr b2 c2 Y ∧ Y ++ ((p.cd.drop (k + 1)).flatMap insBy ++ []) = byP p ∧ Ke wr b2 Y.length c2 tg (.cells tabC.toArray 84 (0, 0))) := ⟨HI.out.1, flat_end (by simp; omega) HI.out.2.1, HI.out.2.2.1⟩
                          clear hjm HI
                          go_wp2_with fail
                          go_roundg (p.cd.length - (k + 1))
                          case measure => have := HT9.out; have := HKm.out; omega
                          case rel => exact ⟨k + 1, Y, b2, c2, by have := HKm.out; omega, by go_num, rfl, HF.out.1, HF.out.2.1, HF.out.2.2⟩
                    case neg =>
                      have hk1 : ¬ (k : Int) < (p.cd.length : Int) := by omega
                      have HF : Hid (Bo w0 wr b c X ∧ X = byP p) := ⟨HT.out.1, by have h9 := flat_end hkm HT.out.2.1; rwa [List.append_nil] at h9⟩
                      clear hkm HT
                      go_wp2_with fail
                      go_ret2
                      exact ⟨b, c, by rw [HE.out, ← HF.out.2, HC0.out]; rfl, by rw [HE.out, ← HF.out.2]; exact own_lower HF.out.1.1 HB0.out.1.size, HB0.out.1.trans (HF.out.1.2.mono HB0.out.1.size)⟩
end Go.Proofs.YtcicifcnffacpaaDoor.Cd
