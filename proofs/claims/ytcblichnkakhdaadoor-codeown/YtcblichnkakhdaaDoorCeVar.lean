import Derived.Test.YtcblichnkakhdaaDoorCeMis
set_option linter.unusedSimpArgs false
namespace Go.Proofs.YtcblichnkakhdaaDoor.Cd
open Go.RowKit Go.Proofs.YtcblichnkakhdaaDoor.Nm

theorem good_drop {α : Type} {f : Nat → List Nat → Rs α} (hf : Good f) {s t : List Nat} {i j : Nat} {a : α} (h : f i (s.drop i) = .ok a j t) : t = s.drop j := by
  obtain ⟨c, e, rfl, _, _⟩ := hf _ _ _ _ _ h
  rw [← List.drop_drop, e, List.drop_left]
section
variable {W w w' : World} {b : Nat} {bo : Option Addr} {bc : Nat} {s : List Nat} {i fr vb : Nat} {C : Array Value} {T : TypeId}
/-- a box beside the reader -/
structure Bx (w : World) (b vb : Nat) (C : Array Value) (T : TypeId) : Prop where
  h : w.heap[vb]? = some (.cells C T (0, 0))
  ne : vb ≠ b
theorem Bx.fg (h : Bx w b vb C T) (hf : Fg b w w') : Bx w' b vb C T := ⟨(hf.block _ (blk_lt h.h) h.ne).trans h.h, h.ne⟩
theorem Bx.cell (h : Bx w b vb C T) {j : Nat} {v : Value} (hv : C[j]? = some v) : w.cell? ⟨vb, j, none⟩ = some v := by
  simp only [World.cell?, h.h]
  exact hv
theorem Bx.fz (h : Bx w b vb C T) (j : Nat) : w.frozen? ⟨vb, j, none⟩ = false := fzb h.h j
theorem Bx.set (h : Bx w b vb C T) (j : Nat) (v : Value) : Bx (w.setCell ⟨vb, j, none⟩ v) b vb (C.setIfInBounds j v) T := ⟨heap_setCell_same w vb j _ _ v h.h, h.ne⟩
theorem Bx.new (h : b < w.heap.size) : Bx (w.alloc (.cells C T)) b w.heap.size C T := ⟨heap_alloc_new _ _, by omega⟩
/-- what turned besides is new -/
structure Fn (b : Nat) (W w : World) : Prop where
  fg : Fg b W w
theorem fg_new (hf : Fg b W w) (hv : W.heap.size ≤ vb) (j : Nat) (v : Value) : Fg b W (w.setCell ⟨vb, j, none⟩ v) :=
  ⟨hf.os, hf.tape, hf.output, by simpa [World.setCell] using hf.size, fun k hk hn => (Below.heap_setCell w _ v k (fun e => by have e' : k = vb := e; omega)).trans (hf.block k hk hn)⟩
theorem Rdr.other (h : Rdr w b bo bc s i fr) (hv : b < vb) (j : Nat) (v : Value) : Rdr (w.setCell ⟨vb, j, none⟩ v) b bo bc s i fr :=
  ⟨(Below.heap_setCell w _ v b (fun e => by have e' : b = vb := e; omega)).trans h.hb, fun k x hx => by
    obtain ⟨g, f, e, h1, h2, h3⟩ := h.rd k x hx
    exact ⟨g, f, e, h1, by simpa [World.setCell] using h2, (World.cell?_of_block (a := ⟨g, f + k, none⟩) (Below.heap_setCell w _ v g (fun e => by have e' : g = vb := e; omega))).trans h3⟩, h.le, h.lt, h.byt⟩
set_option maxHeartbeats 6400000 in
set_option maxRecDepth 100000 in
/-- a var is read -/
theorem rvar_any (h : Rdr W b bo bc s i fr) : Calls Tryd.prog 69 #[.pointer (some ⟨b, 0, none⟩)] W fun e W' => RP W b bo bc s (fun x : Int × Int × Int => .agg #[.int .i64 x.1, .int .i64 x.2.1, .int .i64 x.2.2]) (var i (s.drop i)) e W' := by
  obtain ⟨r, hr⟩ : ∃ r, r = var i (s.drop i) := ⟨_, rfl⟩
  rw [← hr]
  have HR : Hid (r = (rsg i (s.drop i)).bind fun a i t => (rsg i t).bind fun b i t => (rsg i t).bind fun c i t => .ok (a, b, c) i t) := hr
  have hbl := h.blt
  have HB : Hid (b < W.heap.size) := hbl
  have HNw : Hid (∀ (w : World) (j : Nat) (v : Value), Fg b W w → Fg b W (w.setCell ⟨W.heap.size, j, none⟩ v)) := fun w j v hf => fg_new hf (Nat.le_refl _) j v
  have hb1 : Below W.heap.size W (W.alloc (.cells #[.int .i64 0, .int .i64 0, .int .i64 0] 60)) := (Below.refl _ W).alloc (Nat.le_refl _) _
  have H0 : Hid (Rdr (W.alloc (.cells #[.int .i64 0, .int .i64 0, .int .i64 0] 60)) b bo bc s i fr ∧ Fg b W (W.alloc (.cells #[.int .i64 0, .int .i64 0, .int .i64 0] 60)) ∧ Bx (W.alloc (.cells #[.int .i64 0, .int .i64 0, .int .i64 0] 60)) b W.heap.size #[.int .i64 0, .int .i64 0, .int .i64 0] 60) := ⟨h.below hb1, Fg.of_below hb1, Bx.new hbl⟩
  clear h hr hbl hb1
  go_enter Tryd.func69, Tryd.ntmps69
  go_wp2_with fail
  generalize (W.alloc (.cells #[.int .i64 0, .int .i64 0, .int .i64 0] 60)) = w0 at *
  generalize W.heap.size = vb at *
  refine (rsgn_any H0.out.1).mono ?_
  intro e w1 hp
  cases h1 : rsg i (s.drop i) with
  | die er k =>
    rw [h1] at hp
    obtain ⟨rfl, hf⟩ := hp
    have HF : Hid (Fg b W w1) := H0.out.2.1.trans hf
    have hr : r = .die er k := by rw [HR.out, h1]; rfl
    clear hf h1
    go_wp2_with fail
    exact ⟨rfl, by rw [hr]; exact ⟨rfl, HF.out⟩⟩
  | ok x i1 t1 =>
    rw [h1] at hp
    obtain ⟨rfl, ⟨fr1, hw⟩, hf⟩ := hp
    have ht := good_drop rsg_good h1
    subst ht
    have hx1 := H0.out.2.2.fg hf
    have hc1 := hx1.cell (j := 0) rfl
    have hz1 := hx1.fz 0
    have H1 : Hid (Rdr (w1.setCell ⟨vb, 0, none⟩ (.int .i64 x)) b bo bc s i1 fr1 ∧ Fg b W (w1.setCell ⟨vb, 0, none⟩ (.int .i64 x)) ∧ Bx (w1.setCell ⟨vb, 0, none⟩ (.int .i64 x)) b vb #[.int .i64 x, .int .i64 0, .int .i64 0] 60) := ⟨hw.other HB.out 0 _, HNw.out _ 0 _ (H0.out.2.1.trans hf), hx1.set 0 _⟩
    have HR1 : Hid (r = (rsg i1 (s.drop i1)).bind fun b i t => (rsg i t).bind fun c i t => .ok (x, b, c) i t) := by rw [HR.out, h1]; exact rfl
    clear hw hf h1 hx1 H0 HR
    go_wp2_with fail
    generalize (w1.setCell ⟨vb, 0, none⟩ (.int .i64 x)) = w1' at *
    refine (rsgn_any H1.out.1).mono ?_
    clear hc1 hz1
    intro e w2 hp
    cases h1 : rsg i1 (s.drop i1) with
    | die er k =>
      rw [h1] at hp
      obtain ⟨rfl, hf⟩ := hp
      have HF : Hid (Fg b W w2) := H1.out.2.1.trans hf
      have hr : r = .die er k := by rw [HR1.out, h1]; rfl
      clear hf h1
      go_wp2_with fail
      exact ⟨rfl, by rw [hr]; exact ⟨rfl, HF.out⟩⟩
    | ok y i2 t2 =>
      rw [h1] at hp
      obtain ⟨rfl, ⟨fr2, hw⟩, hf⟩ := hp
      have ht := good_drop rsg_good h1
      subst ht
      have hx1 := H1.out.2.2.fg hf
      have hc1 := hx1.cell (j := 1) rfl
      have hz1 := hx1.fz 1
      have H2 : Hid (Rdr (w2.setCell ⟨vb, 1, none⟩ (.int .i64 y)) b bo bc s i2 fr2 ∧ Fg b W (w2.setCell ⟨vb, 1, none⟩ (.int .i64 y)) ∧ Bx (w2.setCell ⟨vb, 1, none⟩ (.int .i64 y)) b vb #[.int .i64 x, .int .i64 y, .int .i64 0] 60) := ⟨hw.other HB.out 1 _, HNw.out _ 1 _ (H1.out.2.1.trans hf), hx1.set 1 _⟩
      have HR2 : Hid (r = (rsg i2 (s.drop i2)).bind fun c i t => .ok (x, y, c) i t) := by rw [HR1.out, h1]; exact rfl
      clear hw hf h1 hx1 H1 HR1
      go_wp2_with fail
      generalize (w2.setCell ⟨vb, 1, none⟩ (.int .i64 y)) = w2' at *
      refine (rsgn_any H2.out.1).mono ?_
      clear hc1 hz1
      intro e w3 hp
      cases h1 : rsg i2 (s.drop i2) with
      | die er k =>
        rw [h1] at hp
        obtain ⟨rfl, hf⟩ := hp
        have HF : Hid (Fg b W w3) := H2.out.2.1.trans hf
        have hr : r = .die er k := by rw [HR2.out, h1]; rfl
        clear hf h1
        go_wp2_with fail
        exact ⟨rfl, by rw [hr]; exact ⟨rfl, HF.out⟩⟩
      | ok z i3 t3 =>
        rw [h1] at hp
        obtain ⟨rfl, ⟨fr3, hw⟩, hf⟩ := hp
        have hx1 := H2.out.2.2.fg hf
        have hc0 := hx1.cell (j := 0) rfl
        have hc1 := hx1.cell (j := 1) rfl
        have hc2 := hx1.cell (j := 2) rfl
        have hz0 := hx1.fz 0
        have hz1 := hx1.fz 1
        have hz2 := hx1.fz 2
        have hx3 := hx1.set 2 (.int .i64 z)
        have H3 : Hid (Rdr (w3.setCell ⟨vb, 2, none⟩ (.int .i64 z)) b bo bc s i3 fr3 ∧ Fg b W (w3.setCell ⟨vb, 2, none⟩ (.int .i64 z)) ∧ Bx (w3.setCell ⟨vb, 2, none⟩ (.int .i64 z)) b vb #[.int .i64 x, .int .i64 y, .int .i64 z] 60) := ⟨hw.other HB.out 2 _, HNw.out _ 2 _ (H2.out.2.1.trans hf), hx3⟩
        have hr : r = .ok (x, y, z) i3 t3 := by rw [HR2.out, h1]; rfl
        have d0 := H3.out.2.2.cell (j := 0) rfl
        have d1 := H3.out.2.2.cell (j := 1) rfl
        have d2 := H3.out.2.2.cell (j := 2) rfl
        have y0 := H3.out.2.2.fz 0
        have y1 := H3.out.2.2.fz 1
        have y2 := H3.out.2.2.fz 2
        clear hw hf h1 hx1 H2 HR2 hx3
        go_wp2_with fail
        have H4 : Hid (Rdr ((((w3.setCell ⟨vb, 2, none⟩ (.int .i64 z)).setCell ⟨vb, 0, none⟩ (.int .i64 x)).setCell ⟨vb, 1, none⟩ (.int .i64 y)).setCell ⟨vb, 2, none⟩ (.int .i64 z)) b bo bc s i3 fr3 ∧ Fg b W ((((w3.setCell ⟨vb, 2, none⟩ (.int .i64 z)).setCell ⟨vb, 0, none⟩ (.int .i64 x)).setCell ⟨vb, 1, none⟩ (.int .i64 y)).setCell ⟨vb, 2, none⟩ (.int .i64 z)) ∧ Bx ((((w3.setCell ⟨vb, 2, none⟩ (.int .i64 z)).setCell ⟨vb, 0, none⟩ (.int .i64 x)).setCell ⟨vb, 1, none⟩ (.int .i64 y)).setCell ⟨vb, 2, none⟩ (.int .i64 z)) b vb #[.int .i64 x, .int .i64 y, .int .i64 z] 60) :=
          ⟨((H3.out.1.other HB.out 0 _).other HB.out 1 _).other HB.out 2 _, HNw.out _ 2 _ (HNw.out _ 1 _ (HNw.out _ 0 _ H3.out.2.1)), ((H3.out.2.2.set 0 _).set 1 _).set 2 _⟩
        generalize ((((w3.setCell ⟨vb, 2, none⟩ (.int .i64 z)).setCell ⟨vb, 0, none⟩ (.int .i64 x)).setCell ⟨vb, 1, none⟩ (.int .i64 y)).setCell ⟨vb, 2, none⟩ (.int .i64 z)) = w4 at *
        have e0 := H4.out.2.2.cell (j := 0) rfl
        have e1 := H4.out.2.2.cell (j := 1) rfl
        have e2 := H4.out.2.2.cell (j := 2) rfl
        refine bodyPost_ret (v := .agg #[.int .i64 x, .int .i64 y, .int .i64 z]) (by simp [results, Tryd.results69, go_sem, e0, e1, e2]) rfl ?_
        rw [hr]
        exact ⟨rfl, ⟨_, H4.out.1⟩, H4.out.2.1⟩
end
end Go.Proofs.YtcblichnkakhdaaDoor.Cd
