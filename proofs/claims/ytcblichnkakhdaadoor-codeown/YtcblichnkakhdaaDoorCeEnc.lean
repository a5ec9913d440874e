import Derived.Test.YtcblichnkakhdaaDoorCeOws
import Derived.Test.YtcblichnkakhdaaDoorCdPrw
import Derived.Test.YtcblichnkakhdaaDoorVfChk
import Derived.Deep.DeepCutAuto
set_option linter.unusedSimpArgs false
namespace Go.Proofs.YtcblichnkakhdaaDoor.Cd
open Go.RowKit Go.Proofs.YtcblichnkakhdaaDoor.Nm Go.Proofs.YtcblichnkakhdaaDoor.Vf

theorem rd_of {W : World} {o : Option Addr} {xs : List Value} (h : Vf.Rd W o xs) : Cd.Rd W o W.heap.size xs := fun k x hx => by
  obtain ⟨g, f, e, h1, h2⟩ := h k x hx
  exact ⟨g, f, e, h1, h1, h2⟩
theorem rd_mono {W : World} {o : Option Addr} {xs : List Value} {m n : Nat} (h : Cd.Rd W o m xs) (hm : m ≤ n) : Cd.Rd W o n xs := fun k x hx => by
  obtain ⟨g, f, e, h1, h2, h3⟩ := h k x hx
  exact ⟨g, f, e, by omega, h2, h3⟩
theorem prOk_of {p : Pg} (h : PgOk p) : PrOk (toPr p) := by
  refine ⟨⟨by have := h.q; show p.gh.length ≤ _; omega, by have := h.v; show p.vs.length ≤ _; omega, by have := h.t; show p.ts.length ≤ _; omega, h.vr, h.tr⟩, by have := h.q; have := h.o; show p.on.length ≤ _; omega, h.or, h.ms, by have := h.c; show (p.cd.map _).length ≤ _; rw [List.length_map]; omega, fun x hx => ?_⟩
  obtain ⟨y, hy, rfl⟩ := List.mem_map.1 hx
  have q := h.cr y hy
  refine ⟨by have := q.op; show y.op.toNat < 42; omega, fun j hj => ?_⟩
  have : j = 0 ∨ j = 1 ∨ j = 2 ∨ j = 3 := by omega
  rcases this with rfl | rfl | rfl | rfl
  · exact q.a.1
  · exact q.b.1
  · exact q.c.1
  · exact q.d.1
theorem cC_toPr {p : Pg} (h : PgOk p) : Cd.cC (toPr p).cd = Vf.cC p.cd := by
  have key : ∀ l : List Ins, (∀ x ∈ l, InsOk x) → Cd.cC (l.map fun x => (x.op.toNat, insI x)) = Vf.cC l := by
    intro l
    induction l with
    | nil => intro _; rfl
    | cons x l ih =>
      intro hl
      have e := ih fun y hy => hl y (List.mem_cons_of_mem _ hy)
      have hop := (hl x (by simp)).op
      show [Value.int .i64 ((x.op.toNat : Nat) : Int), .int .i64 x.a, .int .i64 x.b, .int .i64 x.c, .int .i64 x.d] ++ Cd.cC (l.map fun x => (x.op.toNat, insI x)) = [Value.int .i64 x.op, .int .i64 x.a, .int .i64 x.b, .int .i64 x.c, .int .i64 x.d] ++ Vf.cC l
      rw [e, show ((x.op.toNat : Nat) : Int) = x.op by omega]
  exact key p.cd h.cr
theorem own_base {w : World} {base base' : Nat} {e : TypeId} {size : Nat} {v : Value} {n : Nat} {xs : List Value} (h : w.ownsRow base e size v n xs) (hb : base' ≤ base) : w.ownsRow base' e size v n xs := by
  refine ⟨h.1, h.2.imp id ?_⟩
  rintro ⟨g, cap, cur, e1, e2, e3⟩
  exact ⟨g, cap, cur, e1, Nat.le_trans hb e2, e3⟩
/-- the bytes that Encode tells -/
def encB (p : Pg) : List Nat := if chk p = 0 then byP p else []
def wrC : Array Value := (Value.slice none 0 0 :: wayL).toArray
theorem wrC_size : wrC.size = 28 := rfl
set_option maxHeartbeats 12800000 in
set_option maxRecDepth 100000 in
/-- Encode -/
theorem enc_any (v : PV) (p : Pg) (W : World) (hP : IsPg W v p) : Calls Tryd.prog 8 #[.agg (pvC v p)] W fun e W' => ∃ u, e = .returned (.tuple #[u, .int .i64 (chk p : Int)]) ∧ W'.ownsRow W.heap.size 5 1 u (encB p).length (u8L (encB p)) ∧ Below W.heap.size W W' := by
  have HC : Hid (∀ w, Below W.heap.size W w → Calls Tryd.prog 16 #[.agg (pvC v p)] w fun e w' => e = .returned (.int .i64 (chk p : Int)) ∧ Below w.heap.size w w') := fun w hb => chk_any v p w (hP.below hb)
  have HB : Hid (Below W.heap.size W (W.alloc (.cells (pvC v p) 29)) ∧ (W.alloc (.cells (pvC v p) 29)).heap[W.heap.size]? = some (.cells (pvC v p) 29 (0, 0))) := ⟨(Below.refl _ W).alloc (Nat.le_refl _) _, heap_alloc_new _ _⟩
  have HPg := show Hid _ from hP
  clear hP
  obtain ⟨c0, c1, c2, c3, c4, c5⟩ := cells6 HB.out.2
  by_cases hc : chk p = 0
  case neg =>
    have HE : Hid (encB p = []) := if_neg hc
    have hc2 : ((chk p : Int) == 0) = false := by rw [beq_eq_false_iff_ne]; omega
    clear hc
    generalize hk : chk p = ck at *
    have HC2 : Hid (∀ w, Below W.heap.size W w → Calls Tryd.prog 16 #[.agg (pvC v p)] w fun e w' => e = .returned (.int .i64 (ck : Int)) ∧ Below w.heap.size w w') := by rw [← hk]; rw [← hk] at HC; exact HC.out
    clear hk HC
    go_enter Tryd.func8, Tryd.ntmps8
    go_wp2_with fail
    refine (HC2.out _ HB.out.1).mono ?_
    rintro e w2 ⟨rfl, hb2⟩
    have HB2 : Hid (Below W.heap.size W w2) := HB.out.1.trans (hb2.mono HB.out.1.size)
    clear hb2
    go_wp2_with fail
    go_ret2
    refine ⟨_, rfl, ?_, HB2.out⟩
    rw [HE.out]
    exact World.ownsRow_nil _ _ _ _
  case pos =>
    have hok := pgOk_of hc
    have HE : Hid (encB p = byP p) := if_pos hc
    have HC2 : Hid (∀ w, Below W.heap.size W w → Calls Tryd.prog 16 #[.agg (pvC v p)] w fun e w' => e = .returned (.int .i64 0) ∧ Below w.heap.size w w') := by rw [hc] at HC; exact HC.out
    rw [hc]
    clear hc HC
    go_enter Tryd.func8, Tryd.ntmps8
    go_wp2_with fail
    refine (HC2.out _ HB.out.1).mono ?_
    rintro e w2 ⟨rfl, hb2⟩
    have HB2 : Hid (Below W.heap.size W w2 ∧ w2.heap[W.heap.size]? = some (.cells (pvC v p) 29 (0, 0))) := ⟨HB.out.1.trans (hb2.mono HB.out.1.size), (hb2.block _ (blk_lt HB.out.2)).trans HB.out.2⟩
    clear hb2 c0 c1 c2 c3 c4 c5
    go_wp2_with fail
    refine (cways _).mono ?_
    rintro e w3 ⟨rfl, hb3⟩
    have HB3 : Hid (Below W.heap.size W w3 ∧ w3.heap[W.heap.size]? = some (.cells (pvC v p) 29 (0, 0))) := ⟨HB2.out.1.trans (hb3.mono HB2.out.1.size), (hb3.block _ (blk_lt HB2.out.2)).trans HB2.out.2⟩
    clear hb3
    go_upto_region 5 with (refine wpList_store_row rfl 66 _ _ rfl w3.heap.size wrC rfl rfl 66 _ (heap_alloc_new w3 _) (by kernel_rfl) rfl (by kernel_rfl) ?_)
    have hb4 : Below w3.heap.size w3 ((w3.alloc (.cells #[.slice none 0 0, .nilFunc, .nilFunc, .nilFunc, .nilFunc, .nilFunc, .nilFunc, .nilFunc, .nilFunc, .nilFunc, .nilFunc, .nilFunc, .nilFunc, .nilFunc, .nilFunc, .nilFunc, .nilFunc, .nilFunc, .nilFunc, .nilFunc, .nilFunc, .nilFunc, .nilFunc, .nilFunc, .nilFunc, .nilFunc, .nilFunc, .nilFunc] 66)).setRow w3.heap.size wrC) := below_setRow ((Below.refl _ w3).alloc (Nat.le_refl _) _) (Nat.le_refl _)
    have h4 : ((w3.alloc (.cells #[.slice none 0 0, .nilFunc, .nilFunc, .nilFunc, .nilFunc, .nilFunc, .nilFunc, .nilFunc, .nilFunc, .nilFunc, .nilFunc, .nilFunc, .nilFunc, .nilFunc, .nilFunc, .nilFunc, .nilFunc, .nilFunc, .nilFunc, .nilFunc, .nilFunc, .nilFunc, .nilFunc, .nilFunc, .nilFunc, .nilFunc, .nilFunc, .nilFunc] 66)).setRow w3.heap.size wrC).heap[w3.heap.size]? = some (.cells wrC 66 (0, 0)) := setRow_heap _ _ _ _ _ _ (heap_alloc_new w3 _)
    have hs4 : ((w3.alloc (.cells #[.slice none 0 0, .nilFunc, .nilFunc, .nilFunc, .nilFunc, .nilFunc, .nilFunc, .nilFunc, .nilFunc, .nilFunc, .nilFunc, .nilFunc, .nilFunc, .nilFunc, .nilFunc, .nilFunc, .nilFunc, .nilFunc, .nilFunc, .nilFunc, .nilFunc, .nilFunc, .nilFunc, .nilFunc, .nilFunc, .nilFunc, .nilFunc, .nilFunc] 66)).setRow w3.heap.size wrC).heap.size = w3.heap.size + 1 := by simp [World.setRow]
    generalize ((w3.alloc (.cells #[.slice none 0 0, .nilFunc, .nilFunc, .nilFunc, .nilFunc, .nilFunc, .nilFunc, .nilFunc, .nilFunc, .nilFunc, .nilFunc, .nilFunc, .nilFunc, .nilFunc, .nilFunc, .nilFunc, .nilFunc, .nilFunc, .nilFunc, .nilFunc, .nilFunc, .nilFunc, .nilFunc, .nilFunc, .nilFunc, .nilFunc, .nilFunc, .nilFunc] 66)).setRow w3.heap.size wrC) = w4 at *
    have HB4 : Hid (Below W.heap.size W w4 ∧ w4.heap[W.heap.size]? = some (.cells (pvC v p) 29 (0, 0))) := ⟨HB3.out.1.trans (hb4.mono HB3.out.1.size), (hb4.block _ (blk_lt HB3.out.2)).trans HB3.out.2⟩
    have hWr : Wr w4 w3.heap.size (w3.heap.size + 1) wayL [] := ⟨⟨.slice none 0 0, h4, World.ownsRow_nil _ _ _ _⟩, by omega, by omega⟩
    have hlt : W.heap.size ≤ w3.heap.size := HB3.out.1.size
    have hNo : ∀ k, ¬ Own w4 w3.heap.size k := fun k ⟨u, h1, h2⟩ => by
      have e : w4.cell? ⟨w3.heap.size, 0, none⟩ = some (.slice none 0 0) := by simp only [World.cell?, h4]; rfl
      rw [e] at h1
      cases h1
      cases h2
    have hcall := wprg_any (m := W.heap.size) (p := toPr p) (qc := v.qc) (vc := v.vc) (tc := v.tc) (oc := v.oc) (cc := v.cc) hWr (by decide) (prOk_of hok) hlt ((rd_of HPg.out.gh).below HB4.out.1) ((rd_of HPg.out.vs).below HB4.out.1) ((rd_of HPg.out.ts).below HB4.out.1) ((rd_of HPg.out.on).below HB4.out.1) (by rw [cC_toPr hok]; exact (rd_of HPg.out.cd).below HB4.out.1)
    rw [show (toPr p).cd.length = p.cd.length by simp [toPr]] at hcall
    have HCall : Hid (Calls Tryd.prog 21 #[.pointer (some ⟨w3.heap.size, 0, none⟩), .agg (pvC v p)] w4 fun e W' => e = .returned (.tuple #[]) ∧ Wr W' w3.heap.size (w3.heap.size + 1) wayL (byP p) ∧ Fo w3.heap.size w4 W') := hcall
    have HFin : Hid (∀ W', Fo w3.heap.size w4 W' → Below W.heap.size W W') := fun W' hf => ⟨hf.os.trans HB4.out.1.os, hf.tape.trans HB4.out.1.tape, hf.output.trans HB4.out.1.output, Nat.le_trans HB4.out.1.size hf.size, fun k hk => (hf.block k (by have := HB4.out.1.size; omega) (by omega) (hNo k)).trans (HB4.out.1.block k hk)⟩
    have HLe : Hid (W.heap.size ≤ w3.heap.size + 1) := by show _ ≤ _; omega
    clear hb4 h4 hs4 hWr hNo hcall hlt
    obtain ⟨c0, c1, c2, c3, c4, c5⟩ := cells6 HB4.out.2
    generalize w3.heap.size = wb at *
    go_wp2_with fail
    refine HCall.out.mono ?_
    rintro e w5 ⟨rfl, hw5, hf5⟩
    obtain ⟨u, hu, ho⟩ := hw5.ex
    obtain ⟨bu, ku, rfl⟩ := own_form ho
    have HE5 : Hid (w5.ownsRow W.heap.size 5 1 (.slice bu (byP p).length ku) (byP p).length (u8L (byP p)) ∧ Below W.heap.size W w5) := ⟨own_base ho HLe.out, HFin.out _ hf5⟩
    have cu : w5.cell? ⟨wb, 0, none⟩ = some (.slice bu (byP p).length ku) := by simp only [World.cell?, hu]; rfl
    clear hw5 hf5 hu ho
    go_wp2_with fail
    go_ret2
    refine ⟨_, rfl, ?_, HE5.out.2⟩
    rw [HE.out]
    exact HE5.out.1
end Go.Proofs.YtcblichnkakhdaaDoor.Cd
