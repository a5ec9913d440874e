import Derived.Test.YtcblichnkakhdaaDoorCePrg
import Derived.Defers
import Derived.Recover
import Derived.Laws.Pointers
import Derived.Deep.DeepCutAuto
set_option linter.unusedSimpArgs false
namespace Go.Proofs.YtcblichnkakhdaaDoor.Cd
open Go.RowKit Go.Proofs.YtcblichnkakhdaaDoor.Nm Go.Proofs.YtcblichnkakhdaaDoor.Vf

/-- the variables of the results, at B -/
structure Wv (B : Nat) (w : World) (P F : Array Value) : Prop where
  p : w.heap[B]? = some (.cells P 29 (0, 0))
  f : w.heap[B + 1]? = some (.cells F 32 (0, 0))
def zP : Array Value := #[.slice none 0 0, .slice none 0 0, .slice none 0 0, .slice none 0 0, .int .i64 0, .slice none 0 0]
def fC (er i : Nat) : Array Value := #[.int .i64 (er : Int), .int .i64 (i : Int)]
section
variable {B : Nat} {w w' : World} {P F : Array Value} {p0 p1 p2 p3 p4 p5 q0 q1 : Value}
theorem Wv.setP (h : Wv B w P F) (j : Nat) (v : Value) : Wv B (w.setCell ⟨B, j, none⟩ v) (P.setIfInBounds j v) F := ⟨heap_setCell_same w B j _ _ v h.p, (Below.heap_setCell w _ v (B + 1) (by show B + 1 ≠ B; omega)).trans h.f⟩
theorem Wv.setF (h : Wv B w P F) (j : Nat) (v : Value) : Wv B (w.setCell ⟨B + 1, j, none⟩ v) P (F.setIfInBounds j v) := ⟨(Below.heap_setCell w _ v B (by show B ≠ B + 1; omega)).trans h.p, heap_setCell_same w (B + 1) j _ _ v h.f⟩
theorem Wv.cp (h : Wv B w P F) {j : Nat} {v : Value} (hv : P[j]? = some v) : w.cell? ⟨B, j, none⟩ = some v := by simp only [World.cell?, h.p]; exact hv
theorem Wv.cf (h : Wv B w P F) {j : Nat} {v : Value} (hv : F[j]? = some v) : w.cell? ⟨B + 1, j, none⟩ = some v := by simp only [World.cell?, h.f]; exact hv
theorem Wv.zp (h : Wv B w P F) (j : Nat) : w.frozen? ⟨B, j, none⟩ = false := fzb h.p j
theorem Wv.zf (h : Wv B w P F) (j : Nat) : w.frozen? ⟨B + 1, j, none⟩ = false := fzb h.f j
/-- only the variables have turned -/
structure Fv (B : Nat) (w w' : World) : Prop where
  os : w'.os = w.os
  tape : w'.tape = w.tape
  output : w'.output = w.output
  size : w.heap.size ≤ w'.heap.size
  block : ∀ k, k ≠ B → k ≠ B + 1 → k < w.heap.size → w'.heap[k]? = w.heap[k]?
theorem Fv.refl (B : Nat) (w : World) : Fv B w w := ⟨rfl, rfl, rfl, Nat.le_refl _, fun _ _ _ _ => rfl⟩
theorem Fv.set (h : Fv B w w') {k : Nat} (hk : k = B ∨ k = B + 1) (j : Nat) (v : Value) : Fv B w (w'.setCell ⟨k, j, none⟩ v) := ⟨h.os, h.tape, h.output, by simpa [World.setCell] using h.size, fun m h1 h2 h3 => (Below.heap_setCell w' _ v m (fun e => by have e' : m = k := e; omega)).trans (h.block m h1 h2 h3)⟩
theorem Fv.drew (h : Fv B w w') : Fv B w w'.drew := ⟨h.os, h.tape, h.output, h.size, h.block⟩
theorem Wv.drew (h : Wv B w P F) : Wv B w.drew P F := ⟨h.p, h.f⟩
/-- all eight cells are written -/
theorem Wv.put (h : Wv B w #[p0, p1, p2, p3, p4, p5] #[q0, q1]) (a b c d e f x y : Value) : Wv B ((((((((w.setCell ⟨B, 0, none⟩ a).setCell ⟨B, 1, none⟩ b).setCell ⟨B, 2, none⟩ c).setCell ⟨B, 3, none⟩ d).setCell ⟨B, 4, none⟩ e).setCell ⟨B, 5, none⟩ f).setCell ⟨B + 1, 0, none⟩ x).setCell ⟨B + 1, 1, none⟩ y) #[a, b, c, d, e, f] #[x, y] ∧ Fv B w ((((((((w.setCell ⟨B, 0, none⟩ a).setCell ⟨B, 1, none⟩ b).setCell ⟨B, 2, none⟩ c).setCell ⟨B, 3, none⟩ d).setCell ⟨B, 4, none⟩ e).setCell ⟨B, 5, none⟩ f).setCell ⟨B + 1, 0, none⟩ x).setCell ⟨B + 1, 1, none⟩ y) :=
  ⟨(((((((h.setP 0 a).setP 1 b).setP 2 c).setP 3 d).setP 4 e).setP 5 f).setF 0 x).setF 1 y, ((((((((Fv.refl B w).set (Or.inl rfl) 0 a).set (Or.inl rfl) 1 b).set (Or.inl rfl) 2 c).set (Or.inl rfl) 3 d).set (Or.inl rfl) 4 e).set (Or.inl rfl) 5 f).set (Or.inr rfl) 0 x).set (Or.inr rfl) 1 y⟩
theorem Wv.putD (h : Wv B w #[p0, p1, p2, p3, p4, p5] #[q0, q1]) (a b c d e f x y : Value) : Wv B ((((((((w.setCell ⟨B, 0, none⟩ a).setCell ⟨B, 1, none⟩ b).setCell ⟨B, 2, none⟩ c).setCell ⟨B, 3, none⟩ d).setCell ⟨B, 4, none⟩ e).setCell ⟨B, 5, none⟩ f).setCell ⟨B + 1, 0, none⟩ x).setCell ⟨B + 1, 1, none⟩ y).drew #[a, b, c, d, e, f] #[x, y] ∧ Fv B w ((((((((w.setCell ⟨B, 0, none⟩ a).setCell ⟨B, 1, none⟩ b).setCell ⟨B, 2, none⟩ c).setCell ⟨B, 3, none⟩ d).setCell ⟨B, 4, none⟩ e).setCell ⟨B, 5, none⟩ f).setCell ⟨B + 1, 0, none⟩ x).setCell ⟨B + 1, 1, none⟩ y).drew :=
  ⟨(h.put a b c d e f x y).1.drew, (h.put a b c d e f x y).2.drew⟩
set_option maxHeartbeats 3200000 in
set_option maxRecDepth 100000 in
theorem who_catch (er i : Nat) (h : Wv B w #[p0, p1, p2, p3, p4, p5] #[q0, q1]) :
    CallsD Tryd.prog 42 #[.pointer (some ⟨B, 0, none⟩), .pointer (some ⟨B + 1, 0, none⟩)] (.panicking [{ v := .iface 32 (.agg #[.int .i64 (er : Int), .int .i64 (i : Int)]), recovered := false }]) w fun e u' w' =>
      e = .returned (.tuple #[]) ∧ u' = .panicking [{ v := .iface 32 (.agg #[.int .i64 (er : Int), .int .i64 (i : Int)]), recovered := true }] ∧ Wv B w' zP (fC er i) ∧ Fv B w w' := by
  have c0 := h.cp (j := 0) rfl
  have c1 := h.cp (j := 1) rfl
  have c2 := h.cp (j := 2) rfl
  have c3 := h.cp (j := 3) rfl
  have c4 := h.cp (j := 4) rfl
  have c5 := h.cp (j := 5) rfl
  have c6 := h.cf (j := 0) rfl
  have c7 := h.cf (j := 1) rfl
  have f0 := h.zp 0
  have f1 := h.zp 1
  have f2 := h.zp 2
  have f3 := h.zp 3
  have f4 := h.zp 4
  have f5 := h.zp 5
  have f6 := h.zf 0
  have f7 := h.zf 1
  have hta : ∀ (v : Value) (w : World), (Instr.typeAssert (.iface 32 v) 20 32 false).run Tryd.prog w = .ok v w := fun _ _ => by kernel_rfl
  refine callsD_of_wpS Tryd.func42 rfl fun c₀ cs hu => ?_
  apply wpS_seq
  apply wpS_region
  simp [wpOpsS, go_sem, recoverD, hu, Tryd.ntmps42, Exit.thenS, Array.replicate, List.replicate]
  refine wpS_of_wp ?_
  go_wp2
  go_region
  obtain ⟨v1, v2⟩ := h.putD (.slice none 0 0) (.slice none 0 0) (.slice none 0 0) (.slice none 0 0) (.int .i64 0) (.slice none 0 0) (.int .i64 (er : Int)) (.int .i64 (i : Int))
  exact ⟨rfl, _, rfl, .tuple #[], by simp [results, Tryd.results42], rfl, rfl, v1, v2⟩
theorem who_idle (B : Nat) (w : World) :
    CallsD Tryd.prog 42 #[.pointer (some ⟨B, 0, none⟩), .pointer (some ⟨B + 1, 0, none⟩)] .returning w fun e u' w' => e = .returned (.tuple #[]) ∧ u' = .returning ∧ w' = w := by
  refine callsD_of_wpS Tryd.func42 rfl fun c₀ cs hu => ?_
  apply wpS_seq
  apply wpS_region
  simp [wpOpsS, go_sem, recoverD, hu, Tryd.ntmps42, Exit.thenS, Array.replicate, List.replicate]
  refine wpS_of_wp ?_
  go_wp2
  cases c₀
  simp_all [bodyPostS, results, Tryd.results42]
/-- what whole tells -/
def WP (W : World) (b : Nat) (r : Rs Pg) (e : Ending) (W' : World) : Prop :=
  match r with
  | .ok p _ _ => ∃ g v t o c, e = .returned (.tuple #[.agg #[g, v, t, o, .int .i64 p.miss, c], .agg #[.int .i64 0, .int .i64 0]]) ∧ Own5 W' W.heap.size p g v t o c ∧ Fg b W W'
  | .die er k => e = .returned (.tuple #[.agg zP, .agg (fC er k)]) ∧ Fg b W W'
theorem Ows.mono {n m : Nat} {L : List Ent} (h : Ows w m L) (hn : n ≤ m) : Ows w n L := ⟨fun x hx => ⟨Nat.lt_of_le_of_lt hn (h.ow x hx).1, (h.ow x hx).2⟩, h.ap⟩
/-- only a box of one's own and the reader have turned -/
theorem fg_fv {b : Nat} {W w1 w2 : World} (h1 : Fg b W w1) (h2 : Fv W.heap.size w1 w2) : Fg b W w2 := ⟨h2.os.trans h1.os, h2.tape.trans h1.tape, h2.output.trans h1.output, Nat.le_trans h1.size h2.size, fun k hk hn => (h2.block k (by omega) (by omega) (by have := h1.size; omega)).trans (h1.block k hk hn)⟩
theorem Ows.fv {L : List Ent} (h : Ows w (B + 2) L) (hf : Fv B w w') : Ows w' (B + 2) L := h.keep fun k h1 h2 => hf.block k (by omega) (by omega) h2
theorem own5_ows {n : Nat} {p : Pg} {g v t o c : Value} (h : Own5 w n p g v t o c) : ∃ b1 k1 b2 k2 b3 k3 b4 k4 b5 k5, g = .slice b1 p.gh.length k1 ∧ v = .slice b2 p.vs.length k2 ∧ t = .slice b3 p.ts.length k3 ∧ o = .slice b4 p.on.length k4 ∧ c = .slice b5 p.cd.length k5 := by
  obtain ⟨n1, n2, n3, n4, n5, h⟩ := h.ex
  obtain ⟨b1, k1, e1⟩ := own_form (h.ow (en1 n1 g p.gh) (by simp)).2
  obtain ⟨b2, k2, e2⟩ := own_form (h.ow (en2 n2 v p.vs) (by simp)).2
  obtain ⟨b3, k3, e3⟩ := own_form (h.ow (en3 n3 t p.ts) (by simp)).2
  obtain ⟨b4, k4, e4⟩ := own_form (h.ow (en3 n4 o p.on) (by simp)).2
  obtain ⟨b5, k5, e5⟩ := own_form (h.ow (en5 n5 c p.cd) (by simp)).2
  exact ⟨b1, k1, b2, k2, b3, k3, b4, k4, b5, k5, e1, e2, e3, e4, e5⟩
set_option maxHeartbeats 12800000 in
set_option maxRecDepth 100000 in
/-- all of the bytes are read; a fault is caught -/
theorem rwho_any {W : World} {b : Nat} {bo : Option Addr} {bc : Nat} {s : List Nat} {fr : Nat} (h : Rdr W b bo bc s 0 fr) : Calls Tryd.prog 15 #[.pointer (some ⟨b, 0, none⟩)] W fun e W' => WP W b (whoR s) e W' := by
  have hmf : ∀ (fn : Go.Fn) (first cap : Array Value) (w : World), (Instr.makeFunc fn first cap).run Tryd.prog w = .ok (.func fn first cap) w := fun _ _ _ _ => rfl
  obtain ⟨r, hr⟩ : ∃ r, r = whoR s := ⟨_, rfl⟩
  rw [← hr]
  have HR : Hid (r = (prgR 0 s).bind fun p i t => if t = [] then .ok p i t else .die 84 i) := hr
  have HPP : Hid ((∀ (p : Pg) (j : Nat) (t : List Nat) (e : Ending) (w : World), (∃ g v t o c, e = .returned (.tuple #[.agg #[g, v, t, o, .int .i64 p.miss, c], .agg #[.int .i64 0, .int .i64 0]]) ∧ Own5 w W.heap.size p g v t o c ∧ Fg b W w) → WP W b (.ok p j t) e w) ∧ (∀ (er k : Nat) (e : Ending) (w : World), e = .returned (.tuple #[.agg zP, .agg (fC er k)]) → Fg b W w → WP W b (.die er k) e w)) := ⟨fun p j t e w h1 => h1, fun er k e w h1 h2 => ⟨h1, h2⟩⟩
  have hb1 : Below W.heap.size W ((W.alloc (.cells #[.slice none 0 0, .slice none 0 0, .slice none 0 0, .slice none 0 0, .int .i64 0, .slice none 0 0] 29)).alloc (.cells #[.int .i64 0, .int .i64 0] 32)) := ((Below.refl _ W).alloc (Nat.le_refl _) _).alloc (by simp) _
  have H0 : Hid (Rdr ((W.alloc (.cells #[.slice none 0 0, .slice none 0 0, .slice none 0 0, .slice none 0 0, .int .i64 0, .slice none 0 0] 29)).alloc (.cells #[.int .i64 0, .int .i64 0] 32)) b bo bc s 0 fr ∧ Fg b W ((W.alloc (.cells #[.slice none 0 0, .slice none 0 0, .slice none 0 0, .slice none 0 0, .int .i64 0, .slice none 0 0] 29)).alloc (.cells #[.int .i64 0, .int .i64 0] 32)) ∧ Wv W.heap.size ((W.alloc (.cells #[.slice none 0 0, .slice none 0 0, .slice none 0 0, .slice none 0 0, .int .i64 0, .slice none 0 0] 29)).alloc (.cells #[.int .i64 0, .int .i64 0] 32)) #[.slice none 0 0, .slice none 0 0, .slice none 0 0, .slice none 0 0, .int .i64 0, .slice none 0 0] #[.int .i64 0, .int .i64 0] ∧ ((W.alloc (.cells #[.slice none 0 0, .slice none 0 0, .slice none 0 0, .slice none 0 0, .int .i64 0, .slice none 0 0] 29)).alloc (.cells #[.int .i64 0, .int .i64 0] 32)).heap.size = W.heap.size + 2) := by
    refine ⟨h.below hb1, Fg.of_below hb1, ⟨?_, ?_⟩, by simp⟩
    · rw [Below.heap_alloc _ _ _ (by simp)]
      exact heap_alloc_new _ _
    · have := heap_alloc_new (W.alloc (.cells #[.slice none 0 0, .slice none 0 0, .slice none 0 0, .slice none 0 0, .int .i64 0, .slice none 0 0] 29)) (.cells #[.int .i64 0, .int .i64 0] 32)
      simpa using this
  have HB : Hid (b < W.heap.size) := h.blt
  have HFv : Hid (∀ w1 w2 : World, Fg b W w1 → Fv W.heap.size w1 w2 → Fg b W w2) := fun w1 w2 h1 h2 => fg_fv h1 h2
  obtain ⟨WW, hWW⟩ : ∃ WW : Rs Pg → Ending → World → Prop, WW = WP W b := ⟨_, rfl⟩
  rw [← hWW] at HPP ⊢
  clear hr hb1 h hWW
  go_enter_defers Tryd.func15, Tryd.ntmps15
  go_wp2_with fail
  generalize ((W.alloc (.cells #[.slice none 0 0, .slice none 0 0, .slice none 0 0, .slice none 0 0, .int .i64 0, .slice none 0 0] 29)).alloc (.cells #[.int .i64 0, .int .i64 0] 32)) = W2 at *
  generalize W.heap.size = B at *
  refine (rprg_any H0.out.1).mono ?_
  intro e w1 hp
  rw [List.drop_zero] at hp
  cases h1 : prgR 0 s with
  | die er k =>
    rw [h1] at hp
    obtain ⟨rfl, hf⟩ := hp
    have hr2 : r = .die er k := by rw [HR.out, h1]; rfl
    have HV1 : Hid (Wv B w1 #[.slice none 0 0, .slice none 0 0, .slice none 0 0, .slice none 0 0, .int .i64 0, .slice none 0 0] #[.int .i64 0, .int .i64 0]) := by
      have := HB.out
      have := H0.out.2.2.2
      exact ⟨(hf.block B (by omega) (by omega)).trans H0.out.2.2.1.p, (hf.block (B + 1) (by omega) (by omega)).trans H0.out.2.2.1.f⟩
    have HF1 : Hid (Fg b W w1) := H0.out.2.1.trans hf
    clear hf h1
    go_wp2
    refine leaves_cons (f := 42) (args := #[.pointer (some ⟨B, 0, none⟩), .pointer (some ⟨B + 1, 0, none⟩)]) (by simp) (by simp [go_sem]) ?_
    refine (who_catch er k HV1.out).mono ?_
    rintro e u' w2 ⟨rfl, rfl, hV2, hF2⟩
    have c0 : w2.cell? ⟨B, 0, none⟩ = some (.slice none 0 0) := hV2.cp rfl
    have c1 : w2.cell? ⟨B, 1, none⟩ = some (.slice none 0 0) := hV2.cp rfl
    have c2 : w2.cell? ⟨B, 2, none⟩ = some (.slice none 0 0) := hV2.cp rfl
    have c3 : w2.cell? ⟨B, 3, none⟩ = some (.slice none 0 0) := hV2.cp rfl
    have c4 : w2.cell? ⟨B, 4, none⟩ = some (.int .i64 0) := hV2.cp rfl
    have c5 : w2.cell? ⟨B, 5, none⟩ = some (.slice none 0 0) := hV2.cp rfl
    have c6 : w2.cell? ⟨B + 1, 0, none⟩ = some (.int .i64 (er : Int)) := hV2.cf rfl
    have c7 : w2.cell? ⟨B + 1, 1, none⟩ = some (.int .i64 (k : Int)) := hV2.cf rfl
    have HF2 : Hid (Fg b W w2) := HFv.out _ _ HF1.out hF2
    clear hV2 hF2
    try rw [hr2]
    simp [Leaves, settle, results, Tryd.results15, go_sem, c0, c1, c2, c3, c4, c5, c6, c7]
    exact HPP.out.2 _ _ _ _ rfl HF2.out
  | ok p i t =>
    rw [h1] at hp
    obtain ⟨⟨g, v, tt, o, c, rfl, h5⟩, ⟨fr1, hw⟩, hf⟩ := hp
    obtain ⟨b1, k1, b2, k2, b3, k3, b4, k4, b5, k5, rfl, rfl, rfl, rfl, rfl⟩ := own5_ows h5
    obtain ⟨n1, n2, n3, n4, n5, hO⟩ := h5.ex
    have ht : t = s.drop i := good_drop prgR_good (i := 0) (by rw [List.drop_zero]; exact h1)
    have hsz := H0.out.2.2.2
    have hbB := HB.out
    have hv1 : Wv B w1 #[.slice none 0 0, .slice none 0 0, .slice none 0 0, .slice none 0 0, .int .i64 0, .slice none 0 0] #[.int .i64 0, .int .i64 0] := ⟨(hf.block B (by omega) (by omega)).trans H0.out.2.2.1.p, (hf.block (B + 1) (by omega) (by omega)).trans H0.out.2.2.1.f⟩
    have c0 : w1.cell? ⟨B, 0, none⟩ = some (.slice none 0 0) := hv1.cp rfl
    have c1 : w1.cell? ⟨B, 1, none⟩ = some (.slice none 0 0) := hv1.cp rfl
    have c2 : w1.cell? ⟨B, 2, none⟩ = some (.slice none 0 0) := hv1.cp rfl
    have c3 : w1.cell? ⟨B, 3, none⟩ = some (.slice none 0 0) := hv1.cp rfl
    have c4 : w1.cell? ⟨B, 4, none⟩ = some (.int .i64 0) := hv1.cp rfl
    have c5 : w1.cell? ⟨B, 5, none⟩ = some (.slice none 0 0) := hv1.cp rfl
    have z0 := hv1.zp 0
    have z1 := hv1.zp 1
    have z2 := hv1.zp 2
    have z3 := hv1.zp 3
    have z4 := hv1.zp 4
    have z5 := hv1.zp 5
    have H3 : Hid (Rdr ((((((w1.setCell ⟨B, 0, none⟩ (.slice b1 p.gh.length k1)).setCell ⟨B, 1, none⟩ (.slice b2 p.vs.length k2)).setCell ⟨B, 2, none⟩ (.slice b3 p.ts.length k3)).setCell ⟨B, 3, none⟩ (.slice b4 p.on.length k4)).setCell ⟨B, 4, none⟩ (.int .i64 p.miss)).setCell ⟨B, 5, none⟩ (.slice b5 p.cd.length k5)) b bo bc s i fr1 ∧ Fg b W ((((((w1.setCell ⟨B, 0, none⟩ (.slice b1 p.gh.length k1)).setCell ⟨B, 1, none⟩ (.slice b2 p.vs.length k2)).setCell ⟨B, 2, none⟩ (.slice b3 p.ts.length k3)).setCell ⟨B, 3, none⟩ (.slice b4 p.on.length k4)).setCell ⟨B, 4, none⟩ (.int .i64 p.miss)).setCell ⟨B, 5, none⟩ (.slice b5 p.cd.length k5)) ∧ Wv B ((((((w1.setCell ⟨B, 0, none⟩ (.slice b1 p.gh.length k1)).setCell ⟨B, 1, none⟩ (.slice b2 p.vs.length k2)).setCell ⟨B, 2, none⟩ (.slice b3 p.ts.length k3)).setCell ⟨B, 3, none⟩ (.slice b4 p.on.length k4)).setCell ⟨B, 4, none⟩ (.int .i64 p.miss)).setCell ⟨B, 5, none⟩ (.slice b5 p.cd.length k5)) #[.slice b1 p.gh.length k1, .slice b2 p.vs.length k2, .slice b3 p.ts.length k3, .slice b4 p.on.length k4, .int .i64 p.miss, .slice b5 p.cd.length k5] #[.int .i64 0, .int .i64 0] ∧ Ows ((((((w1.setCell ⟨B, 0, none⟩ (.slice b1 p.gh.length k1)).setCell ⟨B, 1, none⟩ (.slice b2 p.vs.length k2)).setCell ⟨B, 2, none⟩ (.slice b3 p.ts.length k3)).setCell ⟨B, 3, none⟩ (.slice b4 p.on.length k4)).setCell ⟨B, 4, none⟩ (.int .i64 p.miss)).setCell ⟨B, 5, none⟩ (.slice b5 p.cd.length k5)) (B + 2) [en1 n1 (.slice b1 p.gh.length k1) p.gh, en2 n2 (.slice b2 p.vs.length k2) p.vs, en3 n3 (.slice b3 p.ts.length k3) p.ts, en3 n4 (.slice b4 p.on.length k4) p.on, en5 n5 (.slice b5 p.cd.length k5) p.cd]) := by
      refine ⟨(((((hw.other hbB 0 _).other hbB 1 _).other hbB 2 _).other hbB 3 _).other hbB 4 _).other hbB 5 _, HFv.out _ _ (H0.out.2.1.trans hf) (((((((Fv.refl B w1).set (Or.inl rfl) 0 _).set (Or.inl rfl) 1 _).set (Or.inl rfl) 2 _).set (Or.inl rfl) 3 _).set (Or.inl rfl) 4 _).set (Or.inl rfl) 5 _), (((((hv1.setP 0 _).setP 1 _).setP 2 _).setP 3 _).setP 4 _).setP 5 _, ?_⟩
      rw [hsz] at hO
      exact hO.fv (((((((Fv.refl B w1).set (Or.inl rfl) 0 _).set (Or.inl rfl) 1 _).set (Or.inl rfl) 2 _).set (Or.inl rfl) 3 _).set (Or.inl rfl) 4 _).set (Or.inl rfl) 5 _)
    have HR3 : Hid (r = if t = [] then .ok p i t else .die 84 i) := by rw [HR.out, h1]; rfl
    have HT : Hid (t = s.drop i) := ht
    clear hf h1 hw h5 hO hv1 HR H0 ht hsz
    go_upto_region 3 with fail
    clear c0 c1 c2 c3 c4 c5 z0 z1 z2 z3 z4 z5
    generalize ((((((w1.setCell ⟨B, 0, none⟩ (.slice b1 p.gh.length k1)).setCell ⟨B, 1, none⟩ (.slice b2 p.vs.length k2)).setCell ⟨B, 2, none⟩ (.slice b3 p.ts.length k3)).setCell ⟨B, 3, none⟩ (.slice b4 p.on.length k4)).setCell ⟨B, 4, none⟩ (.int .i64 p.miss)).setCell ⟨B, 5, none⟩ (.slice b5 p.cd.length k5)) = w3 at *
    obtain ⟨q0, q1, q2, q3, q4⟩ := H3.out.1.cells
    obtain ⟨n, hn⟩ : ∃ n, n = s.length := ⟨_, rfl⟩
    rw [← hn] at q0
    by_cases hi : i = s.length
    · have hr2 : r = .ok p i t := by rw [HR3.out, if_pos (by rw [HT.out]; exact drop_end hi)]
      have hl : ¬ (i : Int) < (n : Int) := by omega
      clear hi hn
      have c0 : w3.cell? ⟨B, 0, none⟩ = some (.slice b1 p.gh.length k1) := H3.out.2.2.1.cp rfl
      have c1 : w3.cell? ⟨B, 1, none⟩ = some (.slice b2 p.vs.length k2) := H3.out.2.2.1.cp rfl
      have c2 : w3.cell? ⟨B, 2, none⟩ = some (.slice b3 p.ts.length k3) := H3.out.2.2.1.cp rfl
      have c3 : w3.cell? ⟨B, 3, none⟩ = some (.slice b4 p.on.length k4) := H3.out.2.2.1.cp rfl
      have c4 : w3.cell? ⟨B, 4, none⟩ = some (.int .i64 p.miss) := H3.out.2.2.1.cp rfl
      have c5 : w3.cell? ⟨B, 5, none⟩ = some (.slice b5 p.cd.length k5) := H3.out.2.2.1.cp rfl
      have c6 : w3.cell? ⟨B + 1, 0, none⟩ = some (.int .i64 0) := H3.out.2.2.1.cf rfl
      have c7 : w3.cell? ⟨B + 1, 1, none⟩ = some (.int .i64 0) := H3.out.2.2.1.cf rfl
      have z0 := H3.out.2.2.1.zp 0
      have z1 := H3.out.2.2.1.zp 1
      have z2 := H3.out.2.2.1.zp 2
      have z3 := H3.out.2.2.1.zp 3
      have z4 := H3.out.2.2.1.zp 4
      have z5 := H3.out.2.2.1.zp 5
      have z6 := H3.out.2.2.1.zf 0
      have z7 := H3.out.2.2.1.zf 1
      have H4 : Hid (Wv B ((((((((w3.setCell ⟨B, 0, none⟩ (.slice b1 p.gh.length k1)).setCell ⟨B, 1, none⟩ (.slice b2 p.vs.length k2)).setCell ⟨B, 2, none⟩ (.slice b3 p.ts.length k3)).setCell ⟨B, 3, none⟩ (.slice b4 p.on.length k4)).setCell ⟨B, 4, none⟩ (.int .i64 p.miss)).setCell ⟨B, 5, none⟩ (.slice b5 p.cd.length k5)).setCell ⟨B + 1, 0, none⟩ (.int .i64 0)).setCell ⟨B + 1, 1, none⟩ (.int .i64 0)).drew #[.slice b1 p.gh.length k1, .slice b2 p.vs.length k2, .slice b3 p.ts.length k3, .slice b4 p.on.length k4, .int .i64 p.miss, .slice b5 p.cd.length k5] #[.int .i64 0, .int .i64 0] ∧ Fv B w3 ((((((((w3.setCell ⟨B, 0, none⟩ (.slice b1 p.gh.length k1)).setCell ⟨B, 1, none⟩ (.slice b2 p.vs.length k2)).setCell ⟨B, 2, none⟩ (.slice b3 p.ts.length k3)).setCell ⟨B, 3, none⟩ (.slice b4 p.on.length k4)).setCell ⟨B, 4, none⟩ (.int .i64 p.miss)).setCell ⟨B, 5, none⟩ (.slice b5 p.cd.length k5)).setCell ⟨B + 1, 0, none⟩ (.int .i64 0)).setCell ⟨B + 1, 1, none⟩ (.int .i64 0)).drew) := H3.out.2.2.1.putD (.slice b1 p.gh.length k1) (.slice b2 p.vs.length k2) (.slice b3 p.ts.length k3) (.slice b4 p.on.length k4) (.int .i64 p.miss) (.slice b5 p.cd.length k5) (.int .i64 0) (.int .i64 0)
      go_region
      go_wp2_with fail
      generalize ((((((((w3.setCell ⟨B, 0, none⟩ (.slice b1 p.gh.length k1)).setCell ⟨B, 1, none⟩ (.slice b2 p.vs.length k2)).setCell ⟨B, 2, none⟩ (.slice b3 p.ts.length k3)).setCell ⟨B, 3, none⟩ (.slice b4 p.on.length k4)).setCell ⟨B, 4, none⟩ (.int .i64 p.miss)).setCell ⟨B, 5, none⟩ (.slice b5 p.cd.length k5)).setCell ⟨B + 1, 0, none⟩ (.int .i64 0)).setCell ⟨B + 1, 1, none⟩ (.int .i64 0)).drew = w4 at *
      have HF4 : Hid (Fg b W w4 ∧ Ows w4 (B + 2) [en1 n1 (.slice b1 p.gh.length k1) p.gh, en2 n2 (.slice b2 p.vs.length k2) p.vs, en3 n3 (.slice b3 p.ts.length k3) p.ts, en3 n4 (.slice b4 p.on.length k4) p.on, en5 n5 (.slice b5 p.cd.length k5) p.cd]) := ⟨HFv.out _ _ H3.out.2.1 H4.out.2, H3.out.2.2.2.fv H4.out.2⟩
      clear c0 c1 c2 c3 c4 c5 c6 c7 z0 z1 z2 z3 z4 z5 z6 z7 q0 q1 q2 q3 q4
      have d0 : w4.cell? ⟨B, 0, none⟩ = some (.slice b1 p.gh.length k1) := H4.out.1.cp rfl
      have d1 : w4.cell? ⟨B, 1, none⟩ = some (.slice b2 p.vs.length k2) := H4.out.1.cp rfl
      have d2 : w4.cell? ⟨B, 2, none⟩ = some (.slice b3 p.ts.length k3) := H4.out.1.cp rfl
      have d3 : w4.cell? ⟨B, 3, none⟩ = some (.slice b4 p.on.length k4) := H4.out.1.cp rfl
      have d4 : w4.cell? ⟨B, 4, none⟩ = some (.int .i64 p.miss) := H4.out.1.cp rfl
      have d5 : w4.cell? ⟨B, 5, none⟩ = some (.slice b5 p.cd.length k5) := H4.out.1.cp rfl
      have d6 : w4.cell? ⟨B + 1, 0, none⟩ = some (.int .i64 0) := H4.out.1.cf rfl
      have d7 : w4.cell? ⟨B + 1, 1, none⟩ = some (.int .i64 0) := H4.out.1.cf rfl
      refine leaves_cons (f := 42) (args := #[.pointer (some ⟨B, 0, none⟩), .pointer (some ⟨B + 1, 0, none⟩)]) (by simp) (by simp [go_sem]) ?_
      refine (who_idle B w4).mono ?_
      rintro e u' w6 ⟨rfl, rfl, rfl⟩
      try rw [hr2]
      simp [Leaves, settle, results, Tryd.results15, go_sem, d0, d1, d2, d3, d4, d5, d6, d7]
      exact HPP.out.1 _ _ _ _ _ ⟨_, _, _, _, _, rfl, ⟨n1, n2, n3, n4, n5, HF4.out.2.mono (by omega)⟩, HF4.out.1⟩
    · have hr2 : r = .die 84 i := by
        have hlt : i < s.length := by have := H3.out.1.le; omega
        have hne : ¬ t = [] := fun e => by
          have e1 := HT.out
          rw [drop_at hlt, e] at e1
          cases e1
        rw [HR3.out, if_neg hne]
      have hl : (i : Int) < (n : Int) := by have := H3.out.1.le; omega
      have HFl : Hid (Calls Tryd.prog 44 #[.pointer (some ⟨b, 0, none⟩), .int .i64 ((84 : Nat) : Int)] (w3.drew.setCell ⟨b, 2, none⟩ (.int .i64 (i : Int))) fun e W' => e = flt 84 i ∧ Fg b (w3.drew.setCell ⟨b, 2, none⟩ (.int .i64 (i : Int))) W') := rfail_any (H3.out.1.drew.put2 i) 84
      have HF4 : Hid (Fg b w3 (w3.drew.setCell ⟨b, 2, none⟩ (.int .i64 (i : Int)))) := (Fg.drew b w3).trans (Fg.set b 2 _ _)
      clear hi hn
      go_region
      go_wp2_with fail
      refine HFl.out.mono ?_
      rintro e w5 ⟨rfl, hf5⟩
      have HF1 : Hid (Fg b W w5) := H3.out.2.1.trans (HF4.out.trans hf5)
      have HV1 : Hid (Wv B w5 #[.slice b1 p.gh.length k1, .slice b2 p.vs.length k2, .slice b3 p.ts.length k3, .slice b4 p.on.length k4, .int .i64 p.miss, .slice b5 p.cd.length k5] #[.int .i64 0, .int .i64 0]) := by
        have := HB.out
        have h8 := HF4.out.trans hf5
        exact ⟨(h8.block B (blk_lt H3.out.2.2.1.p) (by omega)).trans H3.out.2.2.1.p, (h8.block (B + 1) (blk_lt H3.out.2.2.1.f) (by omega)).trans H3.out.2.2.1.f⟩
      clear hf5 q0 q1 q2 q3 q4
      go_wp2
      refine leaves_cons (f := 42) (args := #[.pointer (some ⟨B, 0, none⟩), .pointer (some ⟨B + 1, 0, none⟩)]) (by simp) (by simp [go_sem]) ?_
      refine (who_catch 84 i HV1.out).mono ?_
      rintro e u' w2 ⟨rfl, rfl, hV2, hF2⟩
      have c0 : w2.cell? ⟨B, 0, none⟩ = some (.slice none 0 0) := hV2.cp rfl
      have c1 : w2.cell? ⟨B, 1, none⟩ = some (.slice none 0 0) := hV2.cp rfl
      have c2 : w2.cell? ⟨B, 2, none⟩ = some (.slice none 0 0) := hV2.cp rfl
      have c3 : w2.cell? ⟨B, 3, none⟩ = some (.slice none 0 0) := hV2.cp rfl
      have c4 : w2.cell? ⟨B, 4, none⟩ = some (.int .i64 0) := hV2.cp rfl
      have c5 : w2.cell? ⟨B, 5, none⟩ = some (.slice none 0 0) := hV2.cp rfl
      have c6 : w2.cell? ⟨B + 1, 0, none⟩ = some (.int .i64 ((84 : Nat) : Int)) := hV2.cf rfl
      have c7 : w2.cell? ⟨B + 1, 1, none⟩ = some (.int .i64 (i : Int)) := hV2.cf rfl
      have HF2 : Hid (Fg b W w2) := HFv.out _ _ HF1.out hF2
      clear hV2 hF2
      try rw [hr2]
      simp [Leaves, settle, results, Tryd.results15, go_sem, c0, c1, c2, c3, c4, c5, c6, c7]
      exact HPP.out.2 _ _ _ _ rfl HF2.out
end
end Go.Proofs.YtcblichnkakhdaaDoor.Cd
