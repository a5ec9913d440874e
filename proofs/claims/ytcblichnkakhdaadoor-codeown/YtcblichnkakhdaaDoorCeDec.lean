import Derived.Test.YtcblichnkakhdaaDoorCeWho
import Derived.Test.YtcblichnkakhdaaDoorCeEnc
set_option linter.unusedSimpArgs false
namespace Go.Proofs.YtcblichnkakhdaaDoor.Cd
open Go.RowKit Go.Proofs.YtcblichnkakhdaaDoor.Nm Go.Proofs.YtcblichnkakhdaaDoor.Vf

theorem Fb.set {F : List Nat} {n k j : Nat} {w w' : World} {v : Value} (h : Fb F n w w') (hk : n ≤ k ∨ k ∈ F) : Fb F n w (w'.setCell ⟨k, j, none⟩ v) :=
  ⟨h.os, h.tape, h.output, by simpa [World.setCell] using h.size, fun m h1 h2 => (Below.heap_setCell w' _ v m (fun e => by
    have e' : m = k := e
    subst e'
    rcases hk with h3 | h3
    · omega
    · exact h2 h3)).trans (h.block m h1 h2)⟩
theorem Fb.drew {F : List Nat} {n : Nat} {w w' : World} (h : Fb F n w w') : Fb F n w w'.drew := ⟨h.os, h.tape, h.output, h.size, h.block⟩
theorem Fb.below {F : List Nat} {n : Nat} {w w' w2 : World} (h : Fb F n w w') (hb : Below w'.heap.size w' w2) (hn : n ≤ w'.heap.size) : Fb F n w w2 := h.trans (Fb.of_below (hb.mono hn))
def rdZ (bo : Option Addr) (n bc : Nat) : Array Value := (Value.slice bo n bc :: .int .i64 0 :: .int .i64 0 :: wayL).toArray
theorem rdZ_all (bo : Option Addr) (n bc : Nat) : (rdZ bo n bc).all (·.oneCell') = true := by simp [rdZ, wayL, Value.oneCell']
theorem rdZ_eq (bo : Option Addr) (n bc : Nat) : rdZ bo n bc = (rdC bo n bc 0 0).toArray := rfl
theorem two_new (w : World) (P F : Array Value) : Wv w.heap.size ((w.alloc (.cells P 29)).alloc (.cells F 32)) P F ∧ Below w.heap.size w ((w.alloc (.cells P 29)).alloc (.cells F 32)) := by
  refine ⟨⟨?_, ?_⟩, ((Below.refl _ w).alloc (Nat.le_refl _) _).alloc (by simp) _⟩
  · rw [Below.heap_alloc _ _ _ (by simp)]
    exact heap_alloc_new _ _
  · have := heap_alloc_new (w.alloc (.cells P 29)) (.cells F 32)
    simpa using this
theorem fb_fv {R n : Nat} {w w' : World} (h : Fv R w w') (hn : n ≤ w.heap.size) : Fb [R, R + 1] n w w' := ⟨h.os, h.tape, h.output, h.size, fun k hk hx => h.block k (fun e => hx (by simp [e])) (fun e => hx (by simp [e])) (by omega)⟩
theorem Wv.keep {R : Nat} {w w' : World} {P F : Array Value} (h : Wv R w P F) (hb : Below w.heap.size w w') : Wv R w' P F := ⟨(hb.block _ (blk_lt h.p)).trans h.p, (hb.block _ (blk_lt h.f)).trans h.f⟩
theorem Own5.fb {R m n : Nat} {w w' : World} {p : Pg} {g v t o c : Value} (h : Own5 w m p g v t o c) (hf : Fb [R, R + 1] w.heap.size w w') (hR : R + 1 ≤ m) (hn : n ≤ m) : Own5 w' n p g v t o c := by
  obtain ⟨n1, n2, n3, n4, n5, h⟩ := h.ex
  exact ⟨n1, n2, n3, n4, n5, (h.keep fun k h1 h2 => hf.block k h2 (by simp; omega)).mono hn⟩
/-- what Decode tells -/
def DP (W : World) (s : List Nat) (e : Ending) (W' : World) : Prop := ∃ g v t o c, e = .returned (.tuple #[.agg #[g, v, t, o, .int .i64 (decR s).1.miss, c], .agg (fC (decR s).2.1 (decR s).2.2)]) ∧ Own5 W' W.heap.size (decR s).1 g v t o c ∧ Below W.heap.size W W'
theorem own5_nil (W : World) (n : Nat) : Own5 W n pg0 (.slice none 0 0) (.slice none 0 0) (.slice none 0 0) (.slice none 0 0) (.slice none 0 0) := by
  refine ⟨n + 1, n + 1, n + 1, n + 1, n + 1, fun x hx => ?_, ?_⟩
  · simp only [List.mem_cons, List.not_mem_nil, or_false] at hx
    rcases hx with rfl | rfl | rfl | rfl | rfl
    all_goals exact ⟨Nat.lt_succ_self n, World.ownsRow_nil _ _ _ _⟩
  · simp [List.pairwise_cons, en1, en2, en3, en5, Value.ownBlock]
/-- a program that was told can be read -/
theorem own_rdV {w : World} {base : Nat} {T : TypeId} {sz n : Nat} {b : Option Addr} {c : Nat} {xs : List Value} (h : w.ownsRow base T sz (.slice b n c) n xs) : Vf.Rd w b xs := fun k x hx => by
  rcases h.2 with ⟨e1, e2⟩ | ⟨g, cap, cur, e1, e2, e3, e4⟩
  · have hz : xs.length = 0 := by rw [h.1, e2, Nat.zero_mul]
    have := (List.getElem?_eq_some_iff.1 hx).1
    omega
  · cases e1
    refine ⟨g, 0, rfl, (World.ownsRow.lt h g rfl).2, ?_⟩
    have := World.ownsRow.cells (g := g) h rfl k x hx
    rw [Nat.zero_add]
    by_cases h0 : k = 0
    · subst h0; exact this
    · simp only [Addr.add, h0, if_false] at this
      simpa using this
theorem own5_rd {w : World} {n : Nat} {p : Pg} {b1 b2 b3 b4 b5 : Option Addr} {k1 k2 k3 k4 k5 : Nat} (h : Own5 w n p (.slice b1 p.gh.length k1) (.slice b2 p.vs.length k2) (.slice b3 p.ts.length k3) (.slice b4 p.on.length k4) (.slice b5 p.cd.length k5)) (hl : p.gh.length ≤ 1000000000 ∧ p.vs.length ≤ 1000000000 ∧ p.ts.length ≤ 1000000000 ∧ p.on.length ≤ 1000000000 ∧ p.cd.length ≤ 1000000000) : IsPg w ⟨b1, k1, b2, k2, b3, k3, b4, k4, b5, k5⟩ p := by
  obtain ⟨n1, n2, n3, n4, n5, h⟩ := h.ex
  exact ⟨own_rdV (h.ow (en1 n1 (.slice b1 p.gh.length k1) p.gh) (by simp)).2, own_rdV (h.ow (en2 n2 (.slice b2 p.vs.length k2) p.vs) (by simp)).2, own_rdV (h.ow (en3 n3 (.slice b3 p.ts.length k3) p.ts) (by simp)).2, own_rdV (h.ow (en3 n4 (.slice b4 p.on.length k4) p.on) (by simp)).2, own_rdV (h.ow (en5 n5 (.slice b5 p.cd.length k5) p.cd) (by simp)).2, by omega, by omega, by omega, by omega, by omega⟩
/-- of what was read the lists are short -/
theorem who_len {s : List Nat} {p : Pg} {i : Nat} {t : List Nat} (hb : byts s) (hs : s.length ≤ 1000000000) (h : whoR s = .ok p i t) : p.gh.length ≤ 1000000000 ∧ p.vs.length ≤ 1000000000 ∧ p.ts.length ≤ 1000000000 ∧ p.on.length ≤ 1000000000 ∧ p.cd.length ≤ 1000000000 := by
  obtain ⟨p', j, u, h1, h2⟩ := bind_ok h
  have hp : p' = p := by
    by_cases hu : u = []
    · rw [if_pos hu] at h2; cases h2; rfl
    · rw [if_neg hu] at h2; cases h2
  subst hp
  have e := prg_forth hb h1
  rw [byP_eq] at e
  have hl := congrArg List.length e
  simp only [List.length_append] at hl
  have fl : ∀ {α : Type} (f : α → List Nat), (∀ a, 1 ≤ (f a).length) → ∀ l : List α, l.length ≤ (l.flatMap f).length := by
    intro α f hf l
    induction l with
    | nil => simp
    | cons a l ih => have := hf a; simp only [List.length_cons, List.flatMap_cons, List.length_append]; omega
  have nb : ∀ n : Nat, 1 ≤ (numB n).length := fun n => by
    by_cases hn : n < 128
    · rw [numB_low hn]; simp
    · rw [numB_high hn]; simp
  have q1 := fl (fun g : Bool => [if g then 1 else 0]) (fun _ => by simp) p'.gh
  have q2 := fl varB (fun a => by unfold varB; have := nb (sgN a.1); simp only [List.length_append]; omega) p'.vs
  have q3 := fl (fun n : Int => numB n.toNat) (fun a => nb _) p'.ts
  have q4 := fl (fun n : Int => numB (n + 1).toNat) (fun a => nb _) p'.on
  have q5 := fl insBy (fun a => by rw [insBy_eq]; have := nb a.op.toNat; simp only [List.length_append]; omega) p'.cd
  exact ⟨by omega, by omega, by omega, by omega, by omega⟩
set_option maxHeartbeats 25600000 in
set_option maxRecDepth 100000 in
/-- Decode -/
theorem dec_any {W : World} {bo : Option Addr} {bc : Nat} {s : List Nat} (hr : Cd.Rd W bo W.heap.size (u8L s)) (hs : s.length ≤ 1000000000) (hb : byts s) : Calls Tryd.prog 5 #[.slice bo s.length bc] W fun e W' => DP W s e W' := by
  have HI : Hid (Cd.Rd W bo W.heap.size (u8L s) ∧ s.length ≤ 1000000000 ∧ byts s) := ⟨hr, hs, hb⟩
  have hb2 : Below W.heap.size W ((W.alloc (.cells #[.slice none 0 0, .slice none 0 0, .slice none 0 0, .slice none 0 0, .int .i64 0, .slice none 0 0] 29)).alloc (.cells #[.int .i64 0, .int .i64 0] 32)) := ((Below.refl _ W).alloc (Nat.le_refl _) _).alloc (by simp) _
  have H2 : Hid (Below W.heap.size W ((W.alloc (.cells #[.slice none 0 0, .slice none 0 0, .slice none 0 0, .slice none 0 0, .int .i64 0, .slice none 0 0] 29)).alloc (.cells #[.int .i64 0, .int .i64 0] 32)) ∧ Wv W.heap.size ((W.alloc (.cells #[.slice none 0 0, .slice none 0 0, .slice none 0 0, .slice none 0 0, .int .i64 0, .slice none 0 0] 29)).alloc (.cells #[.int .i64 0, .int .i64 0] 32)) #[.slice none 0 0, .slice none 0 0, .slice none 0 0, .slice none 0 0, .int .i64 0, .slice none 0 0] #[.int .i64 0, .int .i64 0]) := by
    refine ⟨hb2, ?_, ?_⟩
    · rw [Below.heap_alloc _ _ _ (by simp)]
      exact heap_alloc_new _ _
    · have := heap_alloc_new (W.alloc (.cells #[.slice none 0 0, .slice none 0 0, .slice none 0 0, .slice none 0 0, .int .i64 0, .slice none 0 0] 29)) (.cells #[.int .i64 0, .int .i64 0] 32)
      simpa using this
  have HD : Hid (∀ (p : Pg) (er i : Nat) (e : Ending) (W' : World), decR s = (p, er, i) → (∃ g v t o c, e = .returned (.tuple #[.agg #[g, v, t, o, .int .i64 p.miss, c], .agg (fC er i)]) ∧ Own5 W' W.heap.size p g v t o c ∧ Below W.heap.size W W') → DP W s e W') := fun p er i e W' h1 h2 => by
    unfold DP
    rw [h1]
    exact h2
  obtain ⟨PD, hPD⟩ : ∃ PD : Ending → World → Prop, PD = DP W s := ⟨_, rfl⟩
  have hpost : (fun e W' => DP W s e W') = fun e W' => PD e W' := by rw [hPD]
  rw [hpost]
  rw [← hPD] at HD
  have hsl : (s.length : Int) ≤ 1000000000 := by omega
  clear hr hs hb hb2 hPD hpost
  go_enter Tryd.func5, Tryd.ntmps5
  go_wp2_with fail
  generalize ((W.alloc (.cells #[.slice none 0 0, .slice none 0 0, .slice none 0 0, .slice none 0 0, .int .i64 0, .slice none 0 0] 29)).alloc (.cells #[.int .i64 0, .int .i64 0] 32)) = w2 at *
  refine (cways _).mono ?_
  rintro e w3 ⟨rfl, hb3⟩
  have H3 : Hid (Below W.heap.size W w3 ∧ Wv W.heap.size w3 #[.slice none 0 0, .slice none 0 0, .slice none 0 0, .slice none 0 0, .int .i64 0, .slice none 0 0] #[.int .i64 0, .int .i64 0]) := ⟨H2.out.1.trans (hb3.mono H2.out.1.size), (hb3.block _ (blk_lt H2.out.2.p)).trans H2.out.2.p, (hb3.block _ (blk_lt H2.out.2.f)).trans H2.out.2.f⟩
  clear hb3 H2
  go_upto_region 2 with (refine wpList_store_row rfl 54 _ _ rfl w3.heap.size (rdZ bo s.length bc) rfl (by kernel_rfl) 54 _ (heap_alloc_new w3 _) (by kernel_rfl) rfl (rdZ_all _ _ _) ?_)
  have hb4 : Below w3.heap.size w3 ((w3.alloc (.cells #[.slice none 0 0, .int .i64 0, .int .i64 0, .nilFunc, .nilFunc, .nilFunc, .nilFunc, .nilFunc, .nilFunc, .nilFunc, .nilFunc, .nilFunc, .nilFunc, .nilFunc, .nilFunc, .nilFunc, .nilFunc, .nilFunc, .nilFunc, .nilFunc, .nilFunc, .nilFunc, .nilFunc, .nilFunc, .nilFunc, .nilFunc, .nilFunc, .nilFunc, .nilFunc, .nilFunc] 54)).setRow w3.heap.size (rdZ bo s.length bc)) := below_setRow ((Below.refl _ w3).alloc (Nat.le_refl _) _) (Nat.le_refl _)
  have h4 : ((w3.alloc (.cells #[.slice none 0 0, .int .i64 0, .int .i64 0, .nilFunc, .nilFunc, .nilFunc, .nilFunc, .nilFunc, .nilFunc, .nilFunc, .nilFunc, .nilFunc, .nilFunc, .nilFunc, .nilFunc, .nilFunc, .nilFunc, .nilFunc, .nilFunc, .nilFunc, .nilFunc, .nilFunc, .nilFunc, .nilFunc, .nilFunc, .nilFunc, .nilFunc, .nilFunc, .nilFunc, .nilFunc] 54)).setRow w3.heap.size (rdZ bo s.length bc)).heap[w3.heap.size]? = some (.cells (rdZ bo s.length bc) 54 (0, 0)) := setRow_heap _ _ _ _ _ _ (heap_alloc_new w3 _)
  generalize ((w3.alloc (.cells #[.slice none 0 0, .int .i64 0, .int .i64 0, .nilFunc, .nilFunc, .nilFunc, .nilFunc, .nilFunc, .nilFunc, .nilFunc, .nilFunc, .nilFunc, .nilFunc, .nilFunc, .nilFunc, .nilFunc, .nilFunc, .nilFunc, .nilFunc, .nilFunc, .nilFunc, .nilFunc, .nilFunc, .nilFunc, .nilFunc, .nilFunc, .nilFunc, .nilFunc, .nilFunc, .nilFunc] 54)).setRow w3.heap.size (rdZ bo s.length bc)) = w4 at *
  have H4 : Hid (Below W.heap.size W w4 ∧ Wv W.heap.size w4 #[.slice none 0 0, .slice none 0 0, .slice none 0 0, .slice none 0 0, .int .i64 0, .slice none 0 0] #[.int .i64 0, .int .i64 0] ∧ Rdr w4 w3.heap.size bo bc s 0 0 ∧ W.heap.size + 1 < w3.heap.size) := by
    have hbb := H3.out.1.trans (hb4.mono H3.out.1.size)
    exact ⟨hbb, ⟨(hb4.block _ (blk_lt H3.out.2.p)).trans H3.out.2.p, (hb4.block _ (blk_lt H3.out.2.f)).trans H3.out.2.f⟩, ⟨by rw [← rdZ_eq]; exact h4, rd_mono (HI.out.1.below hbb) H3.out.1.size, Nat.zero_le _, HI.out.2.1, HI.out.2.2⟩, blk_lt H3.out.2.f⟩
  clear hb4 h4 H3
  generalize w3.heap.size = rb at *
  go_wp2_with fail
  refine (rwho_any H4.out.2.2.1).mono ?_
  intro e w5 hp
  have HBl : Hid (∀ w9, Fg rb w4 w5 → Fb [W.heap.size, W.heap.size + 1] w5.heap.size w5 w9 → Below W.heap.size W w9) := fun w9 h1 h2 => by
    have h3 := H4.out.1.size
    have h4 := h1.size
    have h5 := H4.out.2.2.2
    exact ⟨h2.os.trans (h1.os.trans H4.out.1.os), h2.tape.trans (h1.tape.trans H4.out.1.tape), h2.output.trans (h1.output.trans H4.out.1.output), by have := h2.size; omega, fun k hk => (h2.block k (by omega) (by simp; omega)).trans ((h1.block k (by omega) (by omega)).trans (H4.out.1.block k hk))⟩
  generalize hR : W.heap.size = R at *
  have HR : Hid (W.heap.size = R) := hR
  clear hR
  cases h1 : whoR s with
  | die er k =>
    rw [h1] at hp
    have hp2 : e = .returned (.tuple #[.agg #[.slice none 0 0, .slice none 0 0, .slice none 0 0, .slice none 0 0, .int .i64 0, .slice none 0 0], .agg #[.int .i64 (er : Int), .int .i64 (k : Int)]]) ∧ Fg rb w4 w5 := hp
    clear hp
    obtain ⟨rfl, hf⟩ := hp2
    have hd : decR s = (pg0, er, k) := by unfold decR; rw [h1]
    have her := (who_dies h1).1
    have H5 : Hid (Wv R w5 #[.slice none 0 0, .slice none 0 0, .slice none 0 0, .slice none 0 0, .int .i64 0, .slice none 0 0] #[.int .i64 0, .int .i64 0] ∧ Fg rb w4 w5) := by
      have := H4.out.2.2.2
      exact ⟨⟨(hf.block _ (blk_lt H4.out.2.1.p) (by omega)).trans H4.out.2.1.p, (hf.block _ (blk_lt H4.out.2.1.f) (by omega)).trans H4.out.2.1.f⟩, hf⟩
    have hr5 : R + 1 < w5.heap.size := blk_lt H5.out.1.f
    have HDd := show Hid _ from hd
    clear hf hd h1 H4
    go_upto_region 3 with fail
    have HX : Hid (Wv w5.heap.size ((w5.alloc (.cells #[.slice none 0 0, .slice none 0 0, .slice none 0 0, .slice none 0 0, .int .i64 0, .slice none 0 0] 29)).alloc (.cells #[.int .i64 (er : Int), .int .i64 (k : Int)] 32)) #[.slice none 0 0, .slice none 0 0, .slice none 0 0, .slice none 0 0, .int .i64 0, .slice none 0 0] #[.int .i64 (er : Int), .int .i64 (k : Int)] ∧ Wv R ((w5.alloc (.cells #[.slice none 0 0, .slice none 0 0, .slice none 0 0, .slice none 0 0, .int .i64 0, .slice none 0 0] 29)).alloc (.cells #[.int .i64 (er : Int), .int .i64 (k : Int)] 32)) #[.slice none 0 0, .slice none 0 0, .slice none 0 0, .slice none 0 0, .int .i64 0, .slice none 0 0] #[.int .i64 0, .int .i64 0] ∧ Fb [R, R + 1] w5.heap.size w5 ((w5.alloc (.cells #[.slice none 0 0, .slice none 0 0, .slice none 0 0, .slice none 0 0, .int .i64 0, .slice none 0 0] 29)).alloc (.cells #[.int .i64 (er : Int), .int .i64 (k : Int)] 32)) ∧ w5.heap.size ≤ ((w5.alloc (.cells #[.slice none 0 0, .slice none 0 0, .slice none 0 0, .slice none 0 0, .int .i64 0, .slice none 0 0] 29)).alloc (.cells #[.int .i64 (er : Int), .int .i64 (k : Int)] 32)).heap.size) := by
      obtain ⟨q1, q2⟩ := two_new w5 #[.slice none 0 0, .slice none 0 0, .slice none 0 0, .slice none 0 0, .int .i64 0, .slice none 0 0] #[.int .i64 (er : Int), .int .i64 (k : Int)]
      exact ⟨q1, H5.out.1.keep q2, Fb.of_below q2, q2.size⟩
    generalize ((w5.alloc (.cells #[.slice none 0 0, .slice none 0 0, .slice none 0 0, .slice none 0 0, .int .i64 0, .slice none 0 0] 29)).alloc (.cells #[.int .i64 (er : Int), .int .i64 (k : Int)] 32)) = w6 at *
    have e1 : ((er : Int) == 0) = false := by rw [beq_eq_false_iff_ne]; omega
    have e2 : ((er : Int) != 0) = true := by simp only [bne, e1, Bool.not_false]
    have x0 : w6.cell? ⟨w5.heap.size + 1, 0, none⟩ = some (.int .i64 (er : Int)) := HX.out.1.cf rfl
    have x1 : w6.cell? ⟨w5.heap.size + 1, 1, none⟩ = some (.int .i64 (k : Int)) := HX.out.1.cf rfl
    have y0 : w6.cell? ⟨R, 0, none⟩ = some (.slice none 0 0) := HX.out.2.1.cp rfl
    have y1 : w6.cell? ⟨R, 1, none⟩ = some (.slice none 0 0) := HX.out.2.1.cp rfl
    have y2 : w6.cell? ⟨R, 2, none⟩ = some (.slice none 0 0) := HX.out.2.1.cp rfl
    have y3 : w6.cell? ⟨R, 3, none⟩ = some (.slice none 0 0) := HX.out.2.1.cp rfl
    have y4 : w6.cell? ⟨R, 4, none⟩ = some (.int .i64 0) := HX.out.2.1.cp rfl
    have y5 : w6.cell? ⟨R, 5, none⟩ = some (.slice none 0 0) := HX.out.2.1.cp rfl
    have y6 : w6.cell? ⟨R + 1, 0, none⟩ = some (.int .i64 0) := HX.out.2.1.cf rfl
    have y7 : w6.cell? ⟨R + 1, 1, none⟩ = some (.int .i64 0) := HX.out.2.1.cf rfl
    have z0 := HX.out.2.1.zp 0
    have z1 := HX.out.2.1.zp 1
    have z2 := HX.out.2.1.zp 2
    have z3 := HX.out.2.1.zp 3
    have z4 := HX.out.2.1.zp 4
    have z5 := HX.out.2.1.zp 5
    have z6 := HX.out.2.1.zf 0
    have z7 := HX.out.2.1.zf 1
    clear her
    have H9 : Hid (Wv R ((((((((w6.setCell ⟨R, 0, none⟩ (.slice none 0 0)).setCell ⟨R, 1, none⟩ (.slice none 0 0)).setCell ⟨R, 2, none⟩ (.slice none 0 0)).setCell ⟨R, 3, none⟩ (.slice none 0 0)).setCell ⟨R, 4, none⟩ (.int .i64 0)).setCell ⟨R, 5, none⟩ (.slice none 0 0)).setCell ⟨R + 1, 0, none⟩ (.int .i64 (er : Int))).setCell ⟨R + 1, 1, none⟩ (.int .i64 (k : Int))).drew #[.slice none 0 0, .slice none 0 0, .slice none 0 0, .slice none 0 0, .int .i64 0, .slice none 0 0] #[.int .i64 (er : Int), .int .i64 (k : Int)] ∧ Fv R w6 ((((((((w6.setCell ⟨R, 0, none⟩ (.slice none 0 0)).setCell ⟨R, 1, none⟩ (.slice none 0 0)).setCell ⟨R, 2, none⟩ (.slice none 0 0)).setCell ⟨R, 3, none⟩ (.slice none 0 0)).setCell ⟨R, 4, none⟩ (.int .i64 0)).setCell ⟨R, 5, none⟩ (.slice none 0 0)).setCell ⟨R + 1, 0, none⟩ (.int .i64 (er : Int))).setCell ⟨R + 1, 1, none⟩ (.int .i64 (k : Int))).drew) := HX.out.2.1.putD (.slice none 0 0) (.slice none 0 0) (.slice none 0 0) (.slice none 0 0) (.int .i64 0) (.slice none 0 0) (.int .i64 (er : Int)) (.int .i64 (k : Int))
    go_wp2_with fail
    go_region
    go_wp2_with fail
    clear x0 x1 y0 y1 y2 y3 y4 y5 y6 y7 z0 z1 z2 z3 z4 z5 z6 z7
    generalize ((((((((w6.setCell ⟨R, 0, none⟩ (.slice none 0 0)).setCell ⟨R, 1, none⟩ (.slice none 0 0)).setCell ⟨R, 2, none⟩ (.slice none 0 0)).setCell ⟨R, 3, none⟩ (.slice none 0 0)).setCell ⟨R, 4, none⟩ (.int .i64 0)).setCell ⟨R, 5, none⟩ (.slice none 0 0)).setCell ⟨R + 1, 0, none⟩ (.int .i64 (er : Int))).setCell ⟨R + 1, 1, none⟩ (.int .i64 (k : Int))).drew = w9 at *
    have d0 : w9.cell? ⟨R, 0, none⟩ = some (.slice none 0 0) := H9.out.1.cp rfl
    have d1 : w9.cell? ⟨R, 1, none⟩ = some (.slice none 0 0) := H9.out.1.cp rfl
    have d2 : w9.cell? ⟨R, 2, none⟩ = some (.slice none 0 0) := H9.out.1.cp rfl
    have d3 : w9.cell? ⟨R, 3, none⟩ = some (.slice none 0 0) := H9.out.1.cp rfl
    have d4 : w9.cell? ⟨R, 4, none⟩ = some (.int .i64 0) := H9.out.1.cp rfl
    have d5 : w9.cell? ⟨R, 5, none⟩ = some (.slice none 0 0) := H9.out.1.cp rfl
    have f0 : w9.cell? ⟨R + 1, 0, none⟩ = some (.int .i64 (er : Int)) := H9.out.1.cf rfl
    have f1 : w9.cell? ⟨R + 1, 1, none⟩ = some (.int .i64 (k : Int)) := H9.out.1.cf rfl
    refine bodyPost_ret (v := .tuple #[.agg #[.slice none 0 0, .slice none 0 0, .slice none 0 0, .slice none 0 0, .int .i64 0, .slice none 0 0], .agg #[.int .i64 (er : Int), .int .i64 (k : Int)]]) (by simp [results, Tryd.results5, go_sem, d0, d1, d2, d3, d4, d5, f0, f1]) rfl ?_
    exact HD.out _ _ _ _ _ HDd.out ⟨_, _, _, _, _, rfl, own5_nil _ _, HBl.out _ H5.out.2 (HX.out.2.2.1.trans (fb_fv H9.out.2 HX.out.2.2.2))⟩
  | ok p i t =>
    rw [h1] at hp
    obtain ⟨g, v, tt, o, c, rfl, h5, hf⟩ := hp
    obtain ⟨b1, k1, b2, k2, b3, k3, b4, k4, b5, k5, rfl, rfl, rfl, rfl, rfl⟩ := own5_ows h5
    have H5 : Hid (Wv R w5 #[.slice none 0 0, .slice none 0 0, .slice none 0 0, .slice none 0 0, .int .i64 0, .slice none 0 0] #[.int .i64 0, .int .i64 0] ∧ Fg rb w4 w5 ∧ R + 1 ≤ w4.heap.size) := by
      have := H4.out.2.2.2
      exact ⟨⟨(hf.block _ (blk_lt H4.out.2.1.p) (by omega)).trans H4.out.2.1.p, (hf.block _ (blk_lt H4.out.2.1.f) (by omega)).trans H4.out.2.1.f⟩, hf, by have := blk_lt H4.out.2.1.f; omega⟩
    have HO := show Hid _ from h5
    have HPg : Hid (IsPg w5 ⟨b1, k1, b2, k2, b3, k3, b4, k4, b5, k5⟩ p) := own5_rd h5 (who_len HI.out.2.2 HI.out.2.1 h1)
    have hr5 : R + 1 < w5.heap.size := blk_lt H5.out.1.f
    have hd : decR s = if chk p = 0 then (p, 0, 0) else (pg0, chk p, 0) := by unfold decR; rw [h1]
    have HDd : Hid (decR s = if chk p = 0 then (p, 0, 0) else (pg0, chk p, 0)) := hd
    clear hf hd h1 H4 h5
    go_upto_region 4 with fail
    have HX : Hid (Wv w5.heap.size ((w5.alloc (.cells #[.slice b1 p.gh.length k1, .slice b2 p.vs.length k2, .slice b3 p.ts.length k3, .slice b4 p.on.length k4, .int .i64 p.miss, .slice b5 p.cd.length k5] 29)).alloc (.cells #[.int .i64 0, .int .i64 0] 32)) #[.slice b1 p.gh.length k1, .slice b2 p.vs.length k2, .slice b3 p.ts.length k3, .slice b4 p.on.length k4, .int .i64 p.miss, .slice b5 p.cd.length k5] #[.int .i64 0, .int .i64 0] ∧ Wv R ((w5.alloc (.cells #[.slice b1 p.gh.length k1, .slice b2 p.vs.length k2, .slice b3 p.ts.length k3, .slice b4 p.on.length k4, .int .i64 p.miss, .slice b5 p.cd.length k5] 29)).alloc (.cells #[.int .i64 0, .int .i64 0] 32)) #[.slice none 0 0, .slice none 0 0, .slice none 0 0, .slice none 0 0, .int .i64 0, .slice none 0 0] #[.int .i64 0, .int .i64 0] ∧ Fb [R, R + 1] w5.heap.size w5 ((w5.alloc (.cells #[.slice b1 p.gh.length k1, .slice b2 p.vs.length k2, .slice b3 p.ts.length k3, .slice b4 p.on.length k4, .int .i64 p.miss, .slice b5 p.cd.length k5] 29)).alloc (.cells #[.int .i64 0, .int .i64 0] 32)) ∧ w5.heap.size ≤ ((w5.alloc (.cells #[.slice b1 p.gh.length k1, .slice b2 p.vs.length k2, .slice b3 p.ts.length k3, .slice b4 p.on.length k4, .int .i64 p.miss, .slice b5 p.cd.length k5] 29)).alloc (.cells #[.int .i64 0, .int .i64 0] 32)).heap.size ∧ Below w5.heap.size w5 ((w5.alloc (.cells #[.slice b1 p.gh.length k1, .slice b2 p.vs.length k2, .slice b3 p.ts.length k3, .slice b4 p.on.length k4, .int .i64 p.miss, .slice b5 p.cd.length k5] 29)).alloc (.cells #[.int .i64 0, .int .i64 0] 32))) := by
      obtain ⟨q1, q2⟩ := two_new w5 #[.slice b1 p.gh.length k1, .slice b2 p.vs.length k2, .slice b3 p.ts.length k3, .slice b4 p.on.length k4, .int .i64 p.miss, .slice b5 p.cd.length k5] #[.int .i64 0, .int .i64 0]
      exact ⟨q1, H5.out.1.keep q2, Fb.of_below q2, q2.size, q2⟩
    generalize ((w5.alloc (.cells #[.slice b1 p.gh.length k1, .slice b2 p.vs.length k2, .slice b3 p.ts.length k3, .slice b4 p.on.length k4, .int .i64 p.miss, .slice b5 p.cd.length k5] 29)).alloc (.cells #[.int .i64 0, .int .i64 0] 32)) = w6 at *
    by_cases hc : chk p = 0
    case pos =>
      have hk := chk_any _ p w6 (HPg.out.below HX.out.2.2.2.2)
      rw [hc] at hk
      have HC : Hid (Calls Tryd.prog 16 #[.agg #[.slice b1 p.gh.length k1, .slice b2 p.vs.length k2, .slice b3 p.ts.length k3, .slice b4 p.on.length k4, .int .i64 p.miss, .slice b5 p.cd.length k5]] w6 fun e w' => e = .returned (.int .i64 0) ∧ Below w6.heap.size w6 w') := hk
      have HDe : Hid (decR s = (p, 0, 0)) := HDd.out.trans (if_pos hc)
      clear hk hc
      have x0 : w6.cell? ⟨w5.heap.size, 0, none⟩ = some (.slice b1 p.gh.length k1) := HX.out.1.cp rfl
      have x1 : w6.cell? ⟨w5.heap.size, 1, none⟩ = some (.slice b2 p.vs.length k2) := HX.out.1.cp rfl
      have x2 : w6.cell? ⟨w5.heap.size, 2, none⟩ = some (.slice b3 p.ts.length k3) := HX.out.1.cp rfl
      have x3 : w6.cell? ⟨w5.heap.size, 3, none⟩ = some (.slice b4 p.on.length k4) := HX.out.1.cp rfl
      have x4 : w6.cell? ⟨w5.heap.size, 4, none⟩ = some (.int .i64 p.miss) := HX.out.1.cp rfl
      have x5 : w6.cell? ⟨w5.heap.size, 5, none⟩ = some (.slice b5 p.cd.length k5) := HX.out.1.cp rfl
      have x6 : w6.cell? ⟨w5.heap.size + 1, 0, none⟩ = some (.int .i64 0) := HX.out.1.cf rfl
      go_wp2_with fail
      refine HC.out.mono ?_
      rintro e w7 ⟨rfl, hb7⟩
      have hx7 := HX.out.1.keep hb7
      have u6 : w7.cell? ⟨w5.heap.size + 1, 0, none⟩ = some (.int .i64 0) := hx7.cf rfl
      have u7 := hx7.zf 0
      have H8 : Hid (Wv w5.heap.size (w7.setCell ⟨w5.heap.size + 1, 0, none⟩ (.int .i64 0)) #[.slice b1 p.gh.length k1, .slice b2 p.vs.length k2, .slice b3 p.ts.length k3, .slice b4 p.on.length k4, .int .i64 p.miss, .slice b5 p.cd.length k5] #[.int .i64 0, .int .i64 0] ∧ Wv R (w7.setCell ⟨w5.heap.size + 1, 0, none⟩ (.int .i64 0)) #[.slice none 0 0, .slice none 0 0, .slice none 0 0, .slice none 0 0, .int .i64 0, .slice none 0 0] #[.int .i64 0, .int .i64 0] ∧ Fb [R, R + 1] w5.heap.size w5 (w7.setCell ⟨w5.heap.size + 1, 0, none⟩ (.int .i64 0)) ∧ w5.heap.size ≤ (w7.setCell ⟨w5.heap.size + 1, 0, none⟩ (.int .i64 0)).heap.size) := by
        have q2 := HX.out.2.1.keep hb7
        have hR : R + 1 < w5.heap.size := hr5
        refine ⟨hx7.setF 0 _, ⟨(Below.heap_setCell w7 _ _ R (fun e => by have e' : R = w5.heap.size + 1 := e; omega)).trans q2.p, (Below.heap_setCell w7 _ _ (R + 1) (fun e => by have e' : R + 1 = w5.heap.size + 1 := e; omega)).trans q2.f⟩, (HX.out.2.2.1.below hb7 HX.out.2.2.2.1).set (Or.inl (by omega)), ?_⟩
        have := HX.out.2.2.2.1
        have := hb7.size
        simp [World.setCell]
        omega
      clear hb7 hx7 x0 x1 x2 x3 x4 x5 x6
      go_upto_region 5 with fail
      clear u6 u7
      generalize (w7.setCell ⟨w5.heap.size + 1, 0, none⟩ (.int .i64 0)) = w8 at *
      have x0 : w8.cell? ⟨w5.heap.size, 0, none⟩ = some (.slice b1 p.gh.length k1) := H8.out.1.cp rfl
      have x1 : w8.cell? ⟨w5.heap.size, 1, none⟩ = some (.slice b2 p.vs.length k2) := H8.out.1.cp rfl
      have x2 : w8.cell? ⟨w5.heap.size, 2, none⟩ = some (.slice b3 p.ts.length k3) := H8.out.1.cp rfl
      have x3 : w8.cell? ⟨w5.heap.size, 3, none⟩ = some (.slice b4 p.on.length k4) := H8.out.1.cp rfl
      have x4 : w8.cell? ⟨w5.heap.size, 4, none⟩ = some (.int .i64 p.miss) := H8.out.1.cp rfl
      have x5 : w8.cell? ⟨w5.heap.size, 5, none⟩ = some (.slice b5 p.cd.length k5) := H8.out.1.cp rfl
      have x6 : w8.cell? ⟨w5.heap.size + 1, 0, none⟩ = some (.int .i64 0) := H8.out.1.cf rfl
      have y0 : w8.cell? ⟨R, 0, none⟩ = some (.slice none 0 0) := H8.out.2.1.cp rfl
      have y1 : w8.cell? ⟨R, 1, none⟩ = some (.slice none 0 0) := H8.out.2.1.cp rfl
      have y2 : w8.cell? ⟨R, 2, none⟩ = some (.slice none 0 0) := H8.out.2.1.cp rfl
      have y3 : w8.cell? ⟨R, 3, none⟩ = some (.slice none 0 0) := H8.out.2.1.cp rfl
      have y4 : w8.cell? ⟨R, 4, none⟩ = some (.int .i64 0) := H8.out.2.1.cp rfl
      have y5 : w8.cell? ⟨R, 5, none⟩ = some (.slice none 0 0) := H8.out.2.1.cp rfl
      have y6 : w8.cell? ⟨R + 1, 0, none⟩ = some (.int .i64 0) := H8.out.2.1.cf rfl
      have y7 : w8.cell? ⟨R + 1, 1, none⟩ = some (.int .i64 0) := H8.out.2.1.cf rfl
      have z0 := H8.out.2.1.zp 0
      have z1 := H8.out.2.1.zp 1
      have z2 := H8.out.2.1.zp 2
      have z3 := H8.out.2.1.zp 3
      have z4 := H8.out.2.1.zp 4
      have z5 := H8.out.2.1.zp 5
      have z6 := H8.out.2.1.zf 0
      have z7 := H8.out.2.1.zf 1
      have H9 : Hid (Wv R ((((((((w8.setCell ⟨R, 0, none⟩ (.slice b1 p.gh.length k1)).setCell ⟨R, 1, none⟩ (.slice b2 p.vs.length k2)).setCell ⟨R, 2, none⟩ (.slice b3 p.ts.length k3)).setCell ⟨R, 3, none⟩ (.slice b4 p.on.length k4)).setCell ⟨R, 4, none⟩ (.int .i64 p.miss)).setCell ⟨R, 5, none⟩ (.slice b5 p.cd.length k5)).setCell ⟨R + 1, 0, none⟩ (.int .i64 0)).setCell ⟨R + 1, 1, none⟩ (.int .i64 0)) #[.slice b1 p.gh.length k1, .slice b2 p.vs.length k2, .slice b3 p.ts.length k3, .slice b4 p.on.length k4, .int .i64 p.miss, .slice b5 p.cd.length k5] #[.int .i64 0, .int .i64 0] ∧ Fv R w8 ((((((((w8.setCell ⟨R, 0, none⟩ (.slice b1 p.gh.length k1)).setCell ⟨R, 1, none⟩ (.slice b2 p.vs.length k2)).setCell ⟨R, 2, none⟩ (.slice b3 p.ts.length k3)).setCell ⟨R, 3, none⟩ (.slice b4 p.on.length k4)).setCell ⟨R, 4, none⟩ (.int .i64 p.miss)).setCell ⟨R, 5, none⟩ (.slice b5 p.cd.length k5)).setCell ⟨R + 1, 0, none⟩ (.int .i64 0)).setCell ⟨R + 1, 1, none⟩ (.int .i64 0))) := H8.out.2.1.put (.slice b1 p.gh.length k1) (.slice b2 p.vs.length k2) (.slice b3 p.ts.length k3) (.slice b4 p.on.length k4) (.int .i64 p.miss) (.slice b5 p.cd.length k5) (.int .i64 0) (.int .i64 0)
      go_wp2_with fail
      clear y0 y1 y2 y3 y4 y5 y6 y7 z0 z1 z2 z3 z4 z5 z6 z7
      generalize ((((((((w8.setCell ⟨R, 0, none⟩ (.slice b1 p.gh.length k1)).setCell ⟨R, 1, none⟩ (.slice b2 p.vs.length k2)).setCell ⟨R, 2, none⟩ (.slice b3 p.ts.length k3)).setCell ⟨R, 3, none⟩ (.slice b4 p.on.length k4)).setCell ⟨R, 4, none⟩ (.int .i64 p.miss)).setCell ⟨R, 5, none⟩ (.slice b5 p.cd.length k5)).setCell ⟨R + 1, 0, none⟩ (.int .i64 0)).setCell ⟨R + 1, 1, none⟩ (.int .i64 0)) = w9 at *
      have d0 : w9.cell? ⟨R, 0, none⟩ = some (.slice b1 p.gh.length k1) := H9.out.1.cp rfl
      have d1 : w9.cell? ⟨R, 1, none⟩ = some (.slice b2 p.vs.length k2) := H9.out.1.cp rfl
      have d2 : w9.cell? ⟨R, 2, none⟩ = some (.slice b3 p.ts.length k3) := H9.out.1.cp rfl
      have d3 : w9.cell? ⟨R, 3, none⟩ = some (.slice b4 p.on.length k4) := H9.out.1.cp rfl
      have d4 : w9.cell? ⟨R, 4, none⟩ = some (.int .i64 p.miss) := H9.out.1.cp rfl
      have d5 : w9.cell? ⟨R, 5, none⟩ = some (.slice b5 p.cd.length k5) := H9.out.1.cp rfl
      have f0 : w9.cell? ⟨R + 1, 0, none⟩ = some (.int .i64 0) := H9.out.1.cf rfl
      have f1 : w9.cell? ⟨R + 1, 1, none⟩ = some (.int .i64 0) := H9.out.1.cf rfl
      refine bodyPost_ret (v := .tuple #[.agg #[.slice b1 p.gh.length k1, .slice b2 p.vs.length k2, .slice b3 p.ts.length k3, .slice b4 p.on.length k4, .int .i64 p.miss, .slice b5 p.cd.length k5], .agg #[.int .i64 0, .int .i64 0]]) (by simp [results, Tryd.results5, go_sem, d0, d1, d2, d3, d4, d5, f0, f1]) rfl ?_
      exact HD.out _ _ _ _ _ HDe.out ⟨_, _, _, _, _, rfl, HO.out.fb (H8.out.2.2.1.trans (fb_fv H9.out.2 H8.out.2.2.2)) H5.out.2.2 (by have := H5.out.2.2; omega), HBl.out _ H5.out.2.1 (H8.out.2.2.1.trans (fb_fv H9.out.2 H8.out.2.2.2))⟩
    case neg =>
      obtain ⟨ck, hck⟩ : ∃ ck, ck = chk p := ⟨_, rfl⟩
      have hk := chk_any _ p w6 (HPg.out.below HX.out.2.2.2.2)
      rw [← hck] at hk
      have HC : Hid (Calls Tryd.prog 16 #[.agg #[.slice b1 p.gh.length k1, .slice b2 p.vs.length k2, .slice b3 p.ts.length k3, .slice b4 p.on.length k4, .int .i64 p.miss, .slice b5 p.cd.length k5]] w6 fun e w' => e = .returned (.int .i64 (ck : Int)) ∧ Below w6.heap.size w6 w') := hk
      have HDe : Hid (decR s = (pg0, ck, 0)) := (HDd.out.trans (if_neg hc)).trans (by rw [hck])
      have e1 : ((ck : Int) == 0) = false := by rw [beq_eq_false_iff_ne]; omega
      have e2 : ((ck : Int) != 0) = true := by simp only [bne, e1, Bool.not_false]
      clear hk hc hck
      have x0 : w6.cell? ⟨w5.heap.size, 0, none⟩ = some (.slice b1 p.gh.length k1) := HX.out.1.cp rfl
      have x1 : w6.cell? ⟨w5.heap.size, 1, none⟩ = some (.slice b2 p.vs.length k2) := HX.out.1.cp rfl
      have x2 : w6.cell? ⟨w5.heap.size, 2, none⟩ = some (.slice b3 p.ts.length k3) := HX.out.1.cp rfl
      have x3 : w6.cell? ⟨w5.heap.size, 3, none⟩ = some (.slice b4 p.on.length k4) := HX.out.1.cp rfl
      have x4 : w6.cell? ⟨w5.heap.size, 4, none⟩ = some (.int .i64 p.miss) := HX.out.1.cp rfl
      have x5 : w6.cell? ⟨w5.heap.size, 5, none⟩ = some (.slice b5 p.cd.length k5) := HX.out.1.cp rfl
      have x6 : w6.cell? ⟨w5.heap.size + 1, 0, none⟩ = some (.int .i64 0) := HX.out.1.cf rfl
      go_wp2_with fail
      refine HC.out.mono ?_
      rintro e w7 ⟨rfl, hb7⟩
      have hx7 := HX.out.1.keep hb7
      have u6 : w7.cell? ⟨w5.heap.size + 1, 0, none⟩ = some (.int .i64 0) := hx7.cf rfl
      have u7 := hx7.zf 0
      have H8 : Hid (Wv w5.heap.size (w7.setCell ⟨w5.heap.size + 1, 0, none⟩ (.int .i64 (ck : Int))) #[.slice b1 p.gh.length k1, .slice b2 p.vs.length k2, .slice b3 p.ts.length k3, .slice b4 p.on.length k4, .int .i64 p.miss, .slice b5 p.cd.length k5] #[.int .i64 (ck : Int), .int .i64 0] ∧ Wv R (w7.setCell ⟨w5.heap.size + 1, 0, none⟩ (.int .i64 (ck : Int))) #[.slice none 0 0, .slice none 0 0, .slice none 0 0, .slice none 0 0, .int .i64 0, .slice none 0 0] #[.int .i64 0, .int .i64 0] ∧ Fb [R, R + 1] w5.heap.size w5 (w7.setCell ⟨w5.heap.size + 1, 0, none⟩ (.int .i64 (ck : Int))) ∧ w5.heap.size ≤ (w7.setCell ⟨w5.heap.size + 1, 0, none⟩ (.int .i64 (ck : Int))).heap.size) := by
        have q2 := HX.out.2.1.keep hb7
        have hR : R + 1 < w5.heap.size := hr5
        refine ⟨hx7.setF 0 _, ⟨(Below.heap_setCell w7 _ _ R (fun e => by have e' : R = w5.heap.size + 1 := e; omega)).trans q2.p, (Below.heap_setCell w7 _ _ (R + 1) (fun e => by have e' : R + 1 = w5.heap.size + 1 := e; omega)).trans q2.f⟩, (HX.out.2.2.1.below hb7 HX.out.2.2.2.1).set (Or.inl (by omega)), ?_⟩
        have := HX.out.2.2.2.1
        have := hb7.size
        simp [World.setCell]
        omega
      clear hb7 hx7 x0 x1 x2 x3 x4 x5 x6
      go_upto_region 5 with fail
      clear u6 u7
      generalize (w7.setCell ⟨w5.heap.size + 1, 0, none⟩ (.int .i64 (ck : Int))) = w8 at *
      have x6 : w8.cell? ⟨w5.heap.size + 1, 0, none⟩ = some (.int .i64 (ck : Int)) := H8.out.1.cf rfl
      have x7 : w8.cell? ⟨w5.heap.size + 1, 1, none⟩ = some (.int .i64 0) := H8.out.1.cf rfl
      have y0 : w8.cell? ⟨R, 0, none⟩ = some (.slice none 0 0) := H8.out.2.1.cp rfl
      have y1 : w8.cell? ⟨R, 1, none⟩ = some (.slice none 0 0) := H8.out.2.1.cp rfl
      have y2 : w8.cell? ⟨R, 2, none⟩ = some (.slice none 0 0) := H8.out.2.1.cp rfl
      have y3 : w8.cell? ⟨R, 3, none⟩ = some (.slice none 0 0) := H8.out.2.1.cp rfl
      have y4 : w8.cell? ⟨R, 4, none⟩ = some (.int .i64 0) := H8.out.2.1.cp rfl
      have y5 : w8.cell? ⟨R, 5, none⟩ = some (.slice none 0 0) := H8.out.2.1.cp rfl
      have y6 : w8.cell? ⟨R + 1, 0, none⟩ = some (.int .i64 0) := H8.out.2.1.cf rfl
      have y7 : w8.cell? ⟨R + 1, 1, none⟩ = some (.int .i64 0) := H8.out.2.1.cf rfl
      have z0 := H8.out.2.1.zp 0
      have z1 := H8.out.2.1.zp 1
      have z2 := H8.out.2.1.zp 2
      have z3 := H8.out.2.1.zp 3
      have z4 := H8.out.2.1.zp 4
      have z5 := H8.out.2.1.zp 5
      have z6 := H8.out.2.1.zf 0
      have z7 := H8.out.2.1.zf 1
      have H9 : Hid (Wv R ((((((((w8.setCell ⟨R, 0, none⟩ (.slice none 0 0)).setCell ⟨R, 1, none⟩ (.slice none 0 0)).setCell ⟨R, 2, none⟩ (.slice none 0 0)).setCell ⟨R, 3, none⟩ (.slice none 0 0)).setCell ⟨R, 4, none⟩ (.int .i64 0)).setCell ⟨R, 5, none⟩ (.slice none 0 0)).setCell ⟨R + 1, 0, none⟩ (.int .i64 (ck : Int))).setCell ⟨R + 1, 1, none⟩ (.int .i64 0)).drew #[.slice none 0 0, .slice none 0 0, .slice none 0 0, .slice none 0 0, .int .i64 0, .slice none 0 0] #[.int .i64 (ck : Int), .int .i64 0] ∧ Fv R w8 ((((((((w8.setCell ⟨R, 0, none⟩ (.slice none 0 0)).setCell ⟨R, 1, none⟩ (.slice none 0 0)).setCell ⟨R, 2, none⟩ (.slice none 0 0)).setCell ⟨R, 3, none⟩ (.slice none 0 0)).setCell ⟨R, 4, none⟩ (.int .i64 0)).setCell ⟨R, 5, none⟩ (.slice none 0 0)).setCell ⟨R + 1, 0, none⟩ (.int .i64 (ck : Int))).setCell ⟨R + 1, 1, none⟩ (.int .i64 0)).drew) := H8.out.2.1.putD (.slice none 0 0) (.slice none 0 0) (.slice none 0 0) (.slice none 0 0) (.int .i64 0) (.slice none 0 0) (.int .i64 (ck : Int)) (.int .i64 0)
      go_wp2_with fail
      go_region
      go_wp2_with fail
      clear y0 y1 y2 y3 y4 y5 y6 y7 z0 z1 z2 z3 z4 z5 z6 z7
      generalize ((((((((w8.setCell ⟨R, 0, none⟩ (.slice none 0 0)).setCell ⟨R, 1, none⟩ (.slice none 0 0)).setCell ⟨R, 2, none⟩ (.slice none 0 0)).setCell ⟨R, 3, none⟩ (.slice none 0 0)).setCell ⟨R, 4, none⟩ (.int .i64 0)).setCell ⟨R, 5, none⟩ (.slice none 0 0)).setCell ⟨R + 1, 0, none⟩ (.int .i64 (ck : Int))).setCell ⟨R + 1, 1, none⟩ (.int .i64 0)).drew = w9 at *
      have d0 : w9.cell? ⟨R, 0, none⟩ = some (.slice none 0 0) := H9.out.1.cp rfl
      have d1 : w9.cell? ⟨R, 1, none⟩ = some (.slice none 0 0) := H9.out.1.cp rfl
      have d2 : w9.cell? ⟨R, 2, none⟩ = some (.slice none 0 0) := H9.out.1.cp rfl
      have d3 : w9.cell? ⟨R, 3, none⟩ = some (.slice none 0 0) := H9.out.1.cp rfl
      have d4 : w9.cell? ⟨R, 4, none⟩ = some (.int .i64 0) := H9.out.1.cp rfl
      have d5 : w9.cell? ⟨R, 5, none⟩ = some (.slice none 0 0) := H9.out.1.cp rfl
      have f0 : w9.cell? ⟨R + 1, 0, none⟩ = some (.int .i64 (ck : Int)) := H9.out.1.cf rfl
      have f1 : w9.cell? ⟨R + 1, 1, none⟩ = some (.int .i64 0) := H9.out.1.cf rfl
      refine bodyPost_ret (v := .tuple #[.agg #[.slice none 0 0, .slice none 0 0, .slice none 0 0, .slice none 0 0, .int .i64 0, .slice none 0 0], .agg #[.int .i64 (ck : Int), .int .i64 0]]) (by simp [results, Tryd.results5, go_sem, d0, d1, d2, d3, d4, d5, f0, f1]) rfl ?_
      exact HD.out _ _ _ _ _ HDe.out ⟨_, _, _, _, _, rfl, own5_nil _ _, HBl.out _ H5.out.2.1 (H8.out.2.2.1.trans (fb_fv H9.out.2 H8.out.2.2.2))⟩
end Go.Proofs.YtcblichnkakhdaaDoor.Cd
