import Derived.Test.YtgiilaaoeefpmaaGreatGrPol2
import Derived.Defers
import Derived.Recover
import Derived.Laws.Pointers
import Derived.Test.YtgiilaaoeefpmaaGreatGrLoose
import Derived.Lib.SlBytesConst
namespace Go.Proofs.YtgiilaaoeefpmaaGreat.Gr
open Go.RowKit Go.Proofs.YtgiilaaoeefpmaaGreat.Sp Go.Proofs.YtgiilaaoeefpmaaGreat.Lx Go.Maps

/-- the variables of the results, at B -/
structure Vars (B : Nat) (w : World) (a b c d : Value) : Prop where
  r : w.heap[B]? = some (.cells #[a] 22 (0, 0))
  p : w.heap[B + 1]? = some (.cells #[b] 30 (0, 0))
  f : w.heap[B + 2]? = some (.cells #[c, d] 27 (0, 0))

section
variable {B : Nat} {w : World} {a b c d : Value}
theorem Vars.setR (h : Vars B w a b c d) (v : Value) : Vars B (w.setCell ⟨B, 0, none⟩ v) v b c d :=
  ⟨(set_blk h.r).trans rfl, (Below.heap_setCell w _ v (B + 1) (by show B + 1 ≠ B; omega)).trans h.p, (Below.heap_setCell w _ v (B + 2) (by show B + 2 ≠ B; omega)).trans h.f⟩
theorem Vars.setP (h : Vars B w a b c d) (v : Value) : Vars B (w.setCell ⟨B + 1, 0, none⟩ v) a v c d :=
  ⟨(Below.heap_setCell w _ v B (by show B ≠ B + 1; omega)).trans h.r, (set_blk h.p).trans rfl, (Below.heap_setCell w _ v (B + 2) (by show B + 2 ≠ B + 1; omega)).trans h.f⟩
theorem Vars.setE (h : Vars B w a b c d) (v : Value) : Vars B (w.setCell ⟨B + 2, 0, none⟩ v) a b v d :=
  ⟨(Below.heap_setCell w _ v B (by show B ≠ B + 2; omega)).trans h.r, (Below.heap_setCell w _ v (B + 1) (by show B + 1 ≠ B + 2; omega)).trans h.p, (set_blk h.f).trans rfl⟩
theorem Vars.setA (h : Vars B w a b c d) (v : Value) : Vars B (w.setCell ⟨B + 2, 1, none⟩ v) a b c v :=
  ⟨(Below.heap_setCell w _ v B (by show B ≠ B + 2; omega)).trans h.r, (Below.heap_setCell w _ v (B + 1) (by show B + 1 ≠ B + 2; omega)).trans h.p, (set_blk h.f).trans rfl⟩
theorem Vars.drew (h : Vars B w a b c d) : Vars B w.drew a b c d := ⟨h.r, h.p, h.f⟩
theorem Vars.put (h : Vars B w a b c d) (a' b' c' d' : Value) : Vars B ((((w.setCell ⟨B, 0, none⟩ a').setCell ⟨B + 1, 0, none⟩ b').setCell ⟨B + 2, 0, none⟩ c').setCell ⟨B + 2, 1, none⟩ d').drew a' b' c' d' ∧
    Below B w ((((w.setCell ⟨B, 0, none⟩ a').setCell ⟨B + 1, 0, none⟩ b').setCell ⟨B + 2, 0, none⟩ c').setCell ⟨B + 2, 1, none⟩ d').drew :=
  ⟨((((h.setR a').setP b').setE c').setA d').drew,
   (((((Below.refl B w).setCell (p := ⟨B, 0, none⟩) (Nat.le_refl B) a').setCell (p := ⟨B + 1, 0, none⟩) (by show B ≤ B + 1; omega) b').setCell (p := ⟨B + 2, 0, none⟩) (by show B ≤ B + 2; omega) c').setCell (p := ⟨B + 2, 1, none⟩) (by show B ≤ B + 2; omega) d').drew⟩
end

theorem vars_oth (w : World) (B k : Nat) (hk : B + 3 ≤ k) (a b c d : Value) : ((((w.setCell ⟨B, 0, none⟩ a).setCell ⟨B + 1, 0, none⟩ b).setCell ⟨B + 2, 0, none⟩ c).setCell ⟨B + 2, 1, none⟩ d).drew.heap[k]? = w.heap[k]? := by
  rw [heap_drew, Below.heap_setCell _ _ _ k (by show k ≠ B + 2; omega), Below.heap_setCell _ _ _ k (by show k ≠ B + 2; omega), Below.heap_setCell _ _ _ k (by show k ≠ B + 1; omega), Below.heap_setCell _ _ _ k (by show k ≠ B; omega)]

set_option maxHeartbeats 1600000 in
set_option maxRecDepth 100000 in
theorem catch_panicking (B er i : Nat) (a b c d : Value) (w : World) (h : Vars B w a b c d) :
    CallsD Tryz.prog 51 #[.pointer (some ⟨B, 0, none⟩), .pointer (some ⟨B + 1, 0, none⟩), .pointer (some ⟨B + 2, 0, none⟩)] (.panicking [{ v := .iface 27 (.agg #[.int .i64 er, .int .i64 i]), recovered := false }]) w fun e u' w' =>
      e = .returned (.tuple #[]) ∧ u' = .panicking [{ v := .iface 27 (.agg #[.int .i64 er, .int .i64 i]), recovered := true }] ∧ Vars B w' (.slice none 0 0) (.slice none 0 0) (.int .i64 er) (.int .i64 i) ∧ Below B w w' := by
  have c0 : w.cell? ⟨B, 0, none⟩ = some a := by simp [World.cell?, h.r]
  have c1 : w.cell? ⟨B + 1, 0, none⟩ = some b := by simp [World.cell?, h.p]
  have c2 : w.cell? ⟨B + 2, 0, none⟩ = some c := by simp [World.cell?, h.f]
  have c3 : w.cell? ⟨B + 2, 1, none⟩ = some d := by simp [World.cell?, h.f]
  have f0 : w.frozen? ⟨B, 0, none⟩ = false := by simp [World.frozen?, h.r]
  have f1 : w.frozen? ⟨B + 1, 0, none⟩ = false := by simp [World.frozen?, h.p]
  have f2 : w.frozen? ⟨B + 2, 0, none⟩ = false := by simp [World.frozen?, h.f]
  have f3 : w.frozen? ⟨B + 2, 1, none⟩ = false := by simp [World.frozen?, h.f]
  have hta : ∀ (v : Value) (w : World), (Instr.typeAssert (.iface 27 v) 20 27 false).run Tryz.prog w = .ok v w := fun _ _ => by kernel_rfl
  refine callsD_of_wpS Tryz.func51 rfl fun c₀ cs hu => ?_
  apply wpS_seq
  apply wpS_region
  simp [wpOpsS, go_sem, recoverD, hu, Tryz.ntmps51, Exit.thenS, Array.replicate, List.replicate]
  refine wpS_of_wp ?_
  go_wp2
  go_region
  obtain ⟨v1, v2⟩ := h.put (.slice none 0 0) (.slice none 0 0) (.int .i64 er) (.int .i64 i)
  exact ⟨rfl, _, rfl, .tuple #[], by simp [results, Tryz.results51], rfl, rfl, v1, v2⟩

theorem catch_idle (B : Nat) (w : World) :
    CallsD Tryz.prog 51 #[.pointer (some ⟨B, 0, none⟩), .pointer (some ⟨B + 1, 0, none⟩), .pointer (some ⟨B + 2, 0, none⟩)] .returning w fun e u' w' => e = .returned (.tuple #[]) ∧ u' = .returning ∧ w' = w := by
  refine callsD_of_wpS Tryz.func51 rfl fun c₀ cs hu => ?_
  apply wpS_seq
  apply wpS_region
  simp [wpOpsS, go_sem, recoverD, hu, Tryz.ntmps51, Exit.thenS, Array.replicate, List.replicate]
  refine wpS_of_wp ?_
  go_wp2
  cases c₀
  simp_all [bodyPostS, results, Tryz.results51]

/-- the same things read, in a later world -/
def Env.at (E : Env) (w : World) : Env := { E with w0 := w }
theorem Env.at_fix {E : Env} {w W : World} (hb : Below E.w0.heap.size E.w0 w) (h : (E.at w).Fix W) : E.Fix W :=
  ⟨h.os.trans hb.os, h.tape.trans hb.tape, h.output.trans hb.output, Nat.le_trans hb.size h.size, fun k h1 h2 => (h.block k (Nat.lt_of_lt_of_le h1 hb.size) h2).trans (hb.block k h1)⟩
theorem Env.at_ok {E : Env} {w : World} (ok : E.Ok) (hb : Below E.w0.heap.size E.w0 w) : (E.at w).Ok :=
  ⟨Nat.lt_of_lt_of_le ok.gl hb.size, fun W hW => ok.text W (Env.at_fix hb hW), fun W hW => ok.toks W (Env.at_fix hb hW), ok.tcap, ok.size, ok.len, ok.tok, ok.fin⟩
theorem Env.at_tabs {E : Env} {w : World} (T : E.Tabs) (hb : Below E.w0.heap.size E.w0 w) : (E.at w).Tabs :=
  ⟨fun W hW => T.decls W (Env.at_fix hb hW), fun W hW => T.events W (Env.at_fix hb hW), fun W hW => T.doings W (Env.at_fix hb hW), fun W hW => T.items W (Env.at_fix hb hW), fun W hW => T.bares W (Env.at_fix hb hW), fun W hW => T.signs W (Env.at_fix hb hW)⟩
def ps0 : PS := ⟨0, 0, [], []⟩
def Env.cells0 (E : Env) : Array Value := E.cells (.slice none 0 0) (.slice none 0 0) ps0
theorem par0 (E : Env) (hl : 0 < E.ts.length) (hb : E.w0.heap[E.g]? = some (.cells E.cells0 81 (0, 0))) : Par E.w0 E (.slice none 0 0) (.slice none 0 0) ps0 :=
  ⟨⟨rfl, rfl, rfl, Nat.le_refl _, fun _ _ _ => rfl⟩, hb, World.ownsRow_nil _ _ _ _, World.ownsRow_nil _ _ _ _, Or.inl rfl, hl, by show 0 ≤ 64; omega, by show 0 ≤ 0 + 1; omega, by show 0 ≤ 0 + 1; omega⟩

/-- what tree tells -/
def Tree (w : World) (r : R Unit) (e : Ending) (w' : World) : Prop :=
  match r with
  | .ok _ s => ∃ a b, e = .returned (.tuple #[a, b, .agg #[.int .i64 0, .int .i64 0]]) ∧ w'.ownsRow w.heap.size 46 5 a s.rows.length (s.rows.flatMap rc) ∧ w'.ownsRow w.heap.size 3 1 b s.places.length (s.places.map nc)
  | .die er i => e = .returned (.tuple #[.slice none 0 0, .slice none 0 0, .agg #[.int .i64 er, .int .i64 i]])

set_option maxHeartbeats 3200000 in
set_option maxRecDepth 100000 in
theorem tree_any (E : Env) (ok : E.Ok) (T : E.Tabs) (hl : 0 < E.ts.length) (hb : E.w0.heap[E.g]? = some (.cells E.cells0 81 (0, 0))) (n : Nat) (r : R Unit) (hr : policy (E.at (((E.w0.alloc (.cells #[.slice none 0 0] 22)).alloc (.cells #[.slice none 0 0] 30)).alloc (.cells #[.int .i64 0, .int .i64 0] 27))) n ps0 = some r) :
    Calls Tryz.prog 34 #[.pointer (some ⟨E.g, 0, none⟩)] E.w0 fun e w' => Tree E.w0 r e w' ∧ E.Fix w' := by
  have hmf : ∀ (fn : Fn) (first cap : Array Value) (w : World), (Instr.makeFunc fn first cap).run Tryz.prog w = .ok (.func fn first cap) w := fun _ _ _ _ => rfl
  have hB : Below E.w0.heap.size E.w0 (((E.w0.alloc (.cells #[.slice none 0 0] 22)).alloc (.cells #[.slice none 0 0] 30)).alloc (.cells #[.int .i64 0, .int .i64 0] 27)) := (((Below.refl _ _).alloc (Nat.le_refl _) _).alloc (by simp) _).alloc (by simp; omega) _
  have ok2 := Env.at_ok ok hB
  have hP := policy_any _ ok2 (Env.at_tabs T hB) n _ _ _ ps0 (par0 _ hl ((hB.block _ ok.gl).trans hb)) ⟨rfl, Nat.zero_le _⟩ r hr
  have hv : Vars E.w0.heap.size (((E.w0.alloc (.cells #[.slice none 0 0] 22)).alloc (.cells #[.slice none 0 0] 30)).alloc (.cells #[.int .i64 0, .int .i64 0] 27)) (.slice none 0 0) (.slice none 0 0) (.int .i64 0) (.int .i64 0) := by
    refine ⟨?_, ?_, ?_⟩
    · rw [Below.heap_alloc _ _ _ (by simp; omega), Below.heap_alloc _ _ _ (by simp)]
      exact heap_alloc_new _ _
    · rw [Below.heap_alloc _ _ _ (by simp)]
      have := heap_alloc_new (E.w0.alloc (.cells #[.slice none 0 0] 22)) (.cells #[.slice none 0 0] 30)
      simpa using this
    · have := heap_alloc_new ((E.w0.alloc (.cells #[.slice none 0 0] 22)).alloc (.cells #[.slice none 0 0] 30)) (.cells #[.int .i64 0, .int .i64 0] 27)
      simpa using this
  have HP : Hid (Calls Tryz.prog 52 #[.pointer (some ⟨E.g, 0, none⟩)] (((E.w0.alloc (.cells #[.slice none 0 0] 22)).alloc (.cells #[.slice none 0 0] 30)).alloc (.cells #[.int .i64 0, .int .i64 0] 27)) fun e w' => Post (E.at (((E.w0.alloc (.cells #[.slice none 0 0] 22)).alloc (.cells #[.slice none 0 0] 30)).alloc (.cells #[.int .i64 0, .int .i64 0] 27))) (((E.w0.alloc (.cells #[.slice none 0 0] 22)).alloc (.cells #[.slice none 0 0] 30)).alloc (.cells #[.int .i64 0, .int .i64 0] 27)) (.slice none 0 0) (.slice none 0 0) (fun _ => .tuple #[]) r e w') := hP
  have HV : Hid (Vars E.w0.heap.size (((E.w0.alloc (.cells #[.slice none 0 0] 22)).alloc (.cells #[.slice none 0 0] 30)).alloc (.cells #[.int .i64 0, .int .i64 0] 27)) (.slice none 0 0) (.slice none 0 0) (.int .i64 0) (.int .i64 0)) := hv
  have HB : Hid (Below E.w0.heap.size E.w0 (((E.w0.alloc (.cells #[.slice none 0 0] 22)).alloc (.cells #[.slice none 0 0] 30)).alloc (.cells #[.int .i64 0, .int .i64 0] 27))) := hB
  have HO : Hid E.Ok := ok
  have HZ : Hid ((((E.w0.alloc (.cells #[.slice none 0 0] 22)).alloc (.cells #[.slice none 0 0] 30)).alloc (.cells #[.int .i64 0, .int .i64 0] 27)).heap.size = E.w0.heap.size + 3) := by show _ = _; simp
  clear hP hv hB ok2 hr hb hl T ok
  go_enter_defers Tryz.func34, Tryz.ntmps34
  go_wp2_with fail
  generalize (((E.w0.alloc (.cells #[.slice none 0 0] 22)).alloc (.cells #[.slice none 0 0] 30)).alloc (.cells #[.int .i64 0, .int .i64 0] 27)) = W at *
  refine HP.out.mono ?_
  intro e w1 hp
  have HVof : ∀ w1, (E.at W).Fix w1 → Vars E.w0.heap.size w1 (.slice none 0 0) (.slice none 0 0) (.int .i64 0) (.int .i64 0) := fun w1 hF => by
    have hz := HZ.out
    have hg := HO.out.gl
    exact ⟨(hF.block _ (by show _ < W.heap.size; omega) (by show _ ≠ E.g; omega)).trans HV.out.r, (hF.block _ (by show _ < W.heap.size; omega) (by show _ ≠ E.g; omega)).trans HV.out.p, (hF.block _ (by show _ < W.heap.size; omega) (by show _ ≠ E.g; omega)).trans HV.out.f⟩
  have hfx : ∀ w1 w2, (E.at W).Fix w1 → Below E.w0.heap.size w1 w2 → E.Fix w2 := fun w1 w2 h1 h2 => by
    have h3 := Env.at_fix HB.out h1
    exact ⟨h2.os.trans h3.os, h2.tape.trans h3.tape, h2.output.trans h3.output, Nat.le_trans h3.size h2.size, fun k h4 h5 => (h2.block k h4).trans (h3.block k h4 h5)⟩
  cases r with
  | die er i =>
    obtain ⟨rfl, hF⟩ := hp
    have HV1 : Hid (Vars E.w0.heap.size w1 (.slice none 0 0) (.slice none 0 0) (.int .i64 0) (.int .i64 0)) := HVof w1 hF
    have HF1 : Hid (∀ w2, Below E.w0.heap.size w1 w2 → E.Fix w2) := fun w2 h2 => hfx w1 w2 hF h2
    clear hF HVof hfx HP HV HB HZ
    go_wp2
    refine leaves_cons (f := 51) (args := #[.pointer (some ⟨E.w0.heap.size, 0, none⟩), .pointer (some ⟨E.w0.heap.size + 1, 0, none⟩), .pointer (some ⟨E.w0.heap.size + 2, 0, none⟩)]) (by simp) (by simp [go_sem]) ?_
    refine (catch_panicking E.w0.heap.size er i _ _ _ _ w1 HV1.out).mono ?_
    rintro e u' w2 ⟨rfl, rfl, hV2, hB2⟩
    have c0 : w2.cell? ⟨E.w0.heap.size, 0, none⟩ = some (.slice none 0 0) := by simp [World.cell?, hV2.r]
    have c1 : w2.cell? ⟨E.w0.heap.size + 1, 0, none⟩ = some (.slice none 0 0) := by simp [World.cell?, hV2.p]
    have c2 : w2.cell? ⟨E.w0.heap.size + 2, 0, none⟩ = some (.int .i64 er) := by simp [World.cell?, hV2.f]
    have c3 : w2.cell? ⟨E.w0.heap.size + 2, 1, none⟩ = some (.int .i64 i) := by simp [World.cell?, hV2.f]
    have HFin : Hid (E.Fix w2) := HF1.out w2 hB2
    clear hV2 hB2
    simp [Leaves, settle, results, Tryz.results34, go_sem, c0, c1, c2, c3]
    exact ⟨rfl, HFin.out⟩
  | ok a s1 =>
    obtain ⟨rfl, rv1, pv1, hP1, hM1⟩ := hp
    have hV1 := HVof w1 hP1.fix
    have c0 : w1.cell? ⟨E.w0.heap.size, 0, none⟩ = some (.slice none 0 0) := by simp [World.cell?, hV1.r]
    have c1 : w1.cell? ⟨E.w0.heap.size + 1, 0, none⟩ = some (.slice none 0 0) := by simp [World.cell?, hV1.p]
    have c2 : w1.cell? ⟨E.w0.heap.size + 2, 0, none⟩ = some (.int .i64 0) := by simp [World.cell?, hV1.f]
    have c3 : w1.cell? ⟨E.w0.heap.size + 2, 1, none⟩ = some (.int .i64 0) := by simp [World.cell?, hV1.f]
    have f0 : w1.frozen? ⟨E.w0.heap.size, 0, none⟩ = false := by simp [World.frozen?, hV1.r]
    have f1 : w1.frozen? ⟨E.w0.heap.size + 1, 0, none⟩ = false := by simp [World.frozen?, hV1.p]
    have f2 : w1.frozen? ⟨E.w0.heap.size + 2, 0, none⟩ = false := by simp [World.frozen?, hV1.f]
    have f3 : w1.frozen? ⟨E.w0.heap.size + 2, 1, none⟩ = false := by simp [World.frozen?, hV1.f]
    have c6 : w1.cell? ⟨E.g, 6, none⟩ = some rv1 := hP1.cells.2.2.2.2.2.2.1
    have c7 : w1.cell? ⟨E.g, 7, none⟩ = some pv1 := hP1.cells.2.2.2.2.2.2.2
    have hgl := HO.out.gl
    have n0 : ¬ (E.g = E.w0.heap.size) := by omega
    have n1 : ¬ (E.g = E.w0.heap.size + 1) := by omega
    have n2 : ¬ (E.g = E.w0.heap.size + 2) := by omega
    obtain ⟨ro, rcp, hr1⟩ := own_form hP1.rows
    obtain ⟨po, pcp, hp1⟩ := own_form hP1.places
    have HP1 : Hid (Par w1 (E.at W) rv1 pv1 s1) := hP1
    subst hr1
    subst hp1
    have HV1 : Hid (Vars E.w0.heap.size w1 (.slice none 0 0) (.slice none 0 0) (.int .i64 0) (.int .i64 0)) := hV1
    have HF1 : Hid (∀ w2, Below E.w0.heap.size w1 w2 → E.Fix w2) := fun w2 h2 => hfx w1 w2 hP1.fix h2
    clear hV1 hP1 hM1 HVof hfx HP HV HB hgl
    go_wp2_with fail
    go_region
    go_wp2_with fail
    have hv : Vars E.w0.heap.size ((((w1.setCell ⟨E.w0.heap.size, 0, none⟩ (.slice ro s1.rows.length rcp)).setCell ⟨E.w0.heap.size + 1, 0, none⟩ (.slice po s1.places.length pcp)).setCell ⟨E.w0.heap.size + 1 + 1, 0, none⟩ (.int .i64 0)).setCell ⟨E.w0.heap.size + 1 + 1, 1, none⟩ (.int .i64 0)).drew (.slice ro s1.rows.length rcp) (.slice po s1.places.length pcp) (.int .i64 0) (.int .i64 0) ∧
        Below E.w0.heap.size w1 ((((w1.setCell ⟨E.w0.heap.size, 0, none⟩ (.slice ro s1.rows.length rcp)).setCell ⟨E.w0.heap.size + 1, 0, none⟩ (.slice po s1.places.length pcp)).setCell ⟨E.w0.heap.size + 1 + 1, 0, none⟩ (.int .i64 0)).setCell ⟨E.w0.heap.size + 1 + 1, 1, none⟩ (.int .i64 0)).drew ∧
        ∀ k, E.w0.heap.size + 3 ≤ k → ((((w1.setCell ⟨E.w0.heap.size, 0, none⟩ (.slice ro s1.rows.length rcp)).setCell ⟨E.w0.heap.size + 1, 0, none⟩ (.slice po s1.places.length pcp)).setCell ⟨E.w0.heap.size + 1 + 1, 0, none⟩ (.int .i64 0)).setCell ⟨E.w0.heap.size + 1 + 1, 1, none⟩ (.int .i64 0)).drew.heap[k]? = w1.heap[k]? :=
      ⟨(HV1.out.put _ _ _ _).1, (HV1.out.put _ _ _ _).2, fun k hk => vars_oth w1 E.w0.heap.size k hk _ _ _ _⟩
    generalize ((((w1.setCell ⟨E.w0.heap.size, 0, none⟩ (.slice ro s1.rows.length rcp)).setCell ⟨E.w0.heap.size + 1, 0, none⟩ (.slice po s1.places.length pcp)).setCell ⟨E.w0.heap.size + 1 + 1, 0, none⟩ (.int .i64 0)).setCell ⟨E.w0.heap.size + 1 + 1, 1, none⟩ (.int .i64 0)).drew = w2 at *
    obtain ⟨hV2, hB2, hO2⟩ := hv
    have d0 : w2.cell? ⟨E.w0.heap.size, 0, none⟩ = some (.slice ro s1.rows.length rcp) := by simp [World.cell?, hV2.r]
    have d1 : w2.cell? ⟨E.w0.heap.size + 1, 0, none⟩ = some (.slice po s1.places.length pcp) := by simp [World.cell?, hV2.p]
    have d2 : w2.cell? ⟨E.w0.heap.size + 2, 0, none⟩ = some (.int .i64 0) := by simp [World.cell?, hV2.f]
    have d3 : w2.cell? ⟨E.w0.heap.size + 2, 1, none⟩ = some (.int .i64 0) := by simp [World.cell?, hV2.f]
    have HFin : Hid (E.Fix w2 ∧ w2.ownsRow E.w0.heap.size 46 5 (.slice ro s1.rows.length rcp) s1.rows.length (s1.rows.flatMap rc) ∧ w2.ownsRow E.w0.heap.size 3 1 (.slice po s1.places.length pcp) s1.places.length (s1.places.map nc)) := by
      have hz := HZ.out
      refine ⟨HF1.out w2 hB2, own_base (own_of_block HP1.out.rows fun k hk => hO2 k ?_) (by show _ ≤ W.heap.size; omega), own_base (own_of_block HP1.out.places fun k hk => hO2 k ?_) (by show _ ≤ W.heap.size; omega)⟩
      · have h1 : W.heap.size ≤ k := (World.ownsRow.lt HP1.out.rows k hk).1
        omega
      · have h1 : W.heap.size ≤ k := (World.ownsRow.lt HP1.out.places k hk).1
        omega
    clear hV2 hB2 hO2 c0 c1 c2 c3 f0 f1 f2 f3 c6 c7 n0 n1 n2 HP1 HV1 HF1
    refine leaves_cons (f := 51) (args := #[.pointer (some ⟨E.w0.heap.size, 0, none⟩), .pointer (some ⟨E.w0.heap.size + 1, 0, none⟩), .pointer (some ⟨E.w0.heap.size + 2, 0, none⟩)]) (by simp) (by simp [go_sem]) ?_
    refine (catch_idle E.w0.heap.size w2).mono ?_
    rintro e u' w3 ⟨rfl, rfl, rfl⟩
    simp [Leaves, settle, results, Tryz.results34, go_sem, d0, d1, d2, d3]
    exact ⟨⟨_, _, rfl, HFin.out.2⟩, HFin.out.1⟩
end Go.Proofs.YtgiilaaoeefpmaaGreat.Gr

namespace Go.Proofs.YtgiilaaoeefpmaaGreat.Gr
open Go.RowKit Go.Proofs.YtgiilaaoeefpmaaGreat.Sp Go.Proofs.YtgiilaaoeefpmaaGreat.Lx Go.Maps

theorem map_of_block {w w' : World} {b n : Nat} {D : DataW Value} (h : w.ownsMap Tryz.prog 9 R0 b n D) (hb : w'.heap[b]? = w.heap[b]?) : w'.ownsMap Tryz.prog 9 R0 b n D := by
  obtain ⟨es, clock, h1, h2⟩ := h
  exact ⟨es, clock, hb.trans h1, h2⟩
theorem map_lt {w : World} {b n : Nat} {D : DataW Value} (h : w.ownsMap Tryz.prog 9 R0 b n D) : b < w.heap.size := by
  obtain ⟨es, clock, h1, h2⟩ := h
  exact (Array.getElem?_eq_some_iff.1 h1).1
/-- the parser's block under way: its maps so far -/
structure Mk (w0 w : World) (g : Nat) (tx tk ce ca m0 m1 m2 m3 m4 m5 : Value) : Prop where
  blk : w.heap[g]? = some (.cells #[tx, tk, ce, ca, .int .i64 0, .int .i64 0, .slice none 0 0, .slice none 0 0, m0, m1, m2, m3, m4, m5] 81 (0, 0))
  bel : Below w0.heap.size w0 w
  le : w0.heap.size ≤ g
theorem Mk.below {w0 w w' : World} {g : Nat} {tx tk ce ca m0 m1 m2 m3 m4 m5 : Value} (h : Mk w0 w g tx tk ce ca m0 m1 m2 m3 m4 m5) (hb : Below w.heap.size w w') : Mk w0 w' g tx tk ce ca m0 m1 m2 m3 m4 m5 := by
  have hg := (Array.getElem?_eq_some_iff.1 h.blk).1
  exact ⟨(hb.block g hg).trans h.blk, h.bel.trans (hb.mono (Nat.le_trans h.le (Nat.le_of_lt hg))), h.le⟩
theorem Mk.cell {w0 w : World} {g : Nat} {tx tk ce ca m0 m1 m2 m3 m4 m5 : Value} (h : Mk w0 w g tx tk ce ca m0 m1 m2 m3 m4 m5) (i : Nat) : w.cell? ⟨g, i, none⟩ = (#[tx, tk, ce, ca, .int .i64 0, .int .i64 0, .slice none 0 0, .slice none 0 0, m0, m1, m2, m3, m4, m5] : Array Value)[i]? := by
  simp [World.cell?, h.blk]
theorem Mk.fro {w0 w : World} {g : Nat} {tx tk ce ca m0 m1 m2 m3 m4 m5 : Value} (h : Mk w0 w g tx tk ce ca m0 m1 m2 m3 m4 m5) (i : Nat) : w.frozen? ⟨g, i, none⟩ = false := by
  simp [World.frozen?, h.blk]
theorem Mk.set3 {w0 w : World} {g : Nat} {tx tk ce ca m0 m1 m2 m3 m4 m5 : Value} (h : Mk w0 w g tx tk ce ca m0 m1 m2 m3 m4 m5) (a b c : Value) : Mk w0 (((w.setCell ⟨g, 8, none⟩ a).setCell ⟨g, 9, none⟩ b).setCell ⟨g, 10, none⟩ c) g tx tk ce ca a b c m3 m4 m5 :=
  ⟨(set_blk (set_blk (set_blk h.blk))).trans rfl, ((h.bel.setCell (p := ⟨g, 8, none⟩) h.le a).setCell (p := ⟨g, 9, none⟩) h.le b).setCell (p := ⟨g, 10, none⟩) h.le c, h.le⟩
theorem Mk.set6 {w0 w : World} {g : Nat} {tx tk ce ca m0 m1 m2 m3 m4 m5 : Value} (h : Mk w0 w g tx tk ce ca m0 m1 m2 m3 m4 m5) (a b c : Value) : Mk w0 (((w.setCell ⟨g, 11, none⟩ a).setCell ⟨g, 12, none⟩ b).setCell ⟨g, 13, none⟩ c) g tx tk ce ca m0 m1 m2 a b c :=
  ⟨(set_blk (set_blk (set_blk h.blk))).trans rfl, ((h.bel.setCell (p := ⟨g, 11, none⟩) h.le a).setCell (p := ⟨g, 12, none⟩) h.le b).setCell (p := ⟨g, 13, none⟩) h.le c, h.le⟩
theorem oth3 (w : World) (g i j l k : Nat) (hk : k ≠ g) (a b c : Value) : (((w.setCell ⟨g, i, none⟩ a).setCell ⟨g, j, none⟩ b).setCell ⟨g, l, none⟩ c).heap[k]? = w.heap[k]? := by
  rw [Below.heap_setCell _ _ _ k hk, Below.heap_setCell _ _ _ k hk, Below.heap_setCell _ _ _ k hk]
theorem siz3 (w : World) (g i j l : Nat) (a b c : Value) : (((w.setCell ⟨g, i, none⟩ a).setCell ⟨g, j, none⟩ b).setCell ⟨g, l, none⟩ c).heap.size = w.heap.size := by simp [World.setCell]

set_option maxHeartbeats 3200000 in
set_option maxRecDepth 100000 in
theorem new_any (w : World) (ta : Option Addr) (tn tcap : Nat) (to : Option Addr) (kn toc : Nat) (ce ca : Nat) :
    Calls Tryz.prog 33 #[.slice ta tn tcap, .slice to kn toc, .agg #[.int .i64 ce, .int .i64 ca]] w fun e w' =>
      e = .returned (.pointer (some ⟨w.heap.size + 1, 0, none⟩)) ∧ ∃ m0 m1 m2 m3 m4 m5 : Nat,
        Mk w w' (w.heap.size + 1) (.slice ta tn tcap) (.slice to kn toc) (.int .i64 ce) (.int .i64 ca) (.map (some m0)) (.map (some m1)) (.map (some m2)) (.map (some m3)) (.map (some m4)) (.map (some m5)) ∧
        (w'.ownsMap Tryz.prog 9 R0 m0 5 (mkD (declTab (w.heap.size + 1))) ∧ m0 ≠ w.heap.size + 1) ∧ (w'.ownsMap Tryz.prog 9 R0 m1 1 (mkD (eventTab (w.heap.size + 1))) ∧ m1 ≠ w.heap.size + 1) ∧
        (w'.ownsMap Tryz.prog 9 R0 m2 13 (mkD (doingTab (w.heap.size + 1))) ∧ m2 ≠ w.heap.size + 1) ∧ (w'.ownsMap Tryz.prog 9 R0 m3 3 (mkD (itemTab (w.heap.size + 1))) ∧ m3 ≠ w.heap.size + 1) ∧
        (w'.ownsMap Tryz.prog 9 R0 m4 14 (mkD (bareTab (w.heap.size + 1))) ∧ m4 ≠ w.heap.size + 1) ∧ (w'.ownsMap Tryz.prog 9 R0 m5 12 (mkD signTab) ∧ m5 ≠ w.heap.size + 1) := by
  have HK1 : Hid (Mk w ((w.alloc (.cells #[.int .i64 ce, .int .i64 ca] 27)).alloc (.cells #[.slice ta tn tcap, .slice to kn toc, .int .i64 ce, .int .i64 ca, .int .i64 0, .int .i64 0, .slice none 0 0, .slice none 0 0, .map none, .map none, .map none, .map none, .map none, .map none] 81)) (w.heap.size + 1) (.slice ta tn tcap) (.slice to kn toc) (.int .i64 ce) (.int .i64 ca) (.map none) (.map none) (.map none) (.map none) (.map none) (.map none)) := by
    refine ⟨?_, ((Below.refl _ w).alloc (Nat.le_refl _) _).alloc (by simp) _, by omega⟩
    have := heap_alloc_new (w.alloc (.cells #[.int .i64 ce, .int .i64 ca] 27)) (.cells #[.slice ta tn tcap, .slice to kn toc, .int .i64 ce, .int .i64 ca, .int .i64 0, .int .i64 0, .slice none 0 0, .slice none 0 0, .map none, .map none, .map none, .map none, .map none, .map none] 81)
    simpa using this
  go_enter Tryz.func33, Tryz.ntmps33
  go_wp2_with fail
  generalize ((w.alloc (.cells #[.int .i64 ce, .int .i64 ca] 27)).alloc (.cells #[.slice ta tn tcap, .slice to kn toc, .int .i64 ce, .int .i64 ca, .int .i64 0, .int .i64 0, .slice none 0 0, .slice none 0 0, .map none, .map none, .map none, .map none, .map none, .map none] 81)) = w1 at *
  obtain ⟨g, hg⟩ : ∃ g, g = w.heap.size + 1 := ⟨_, rfl⟩
  rw [← hg] at HK1 ⊢
  have HG : Hid (g = w.heap.size + 1) := hg
  clear hg
  refine (declRules_any g w1).mono ?_
  rintro e w2 ⟨rfl, ho0, hb0⟩
  obtain ⟨m0, hm0⟩ : ∃ m, m = w1.heap.size := ⟨_, rfl⟩
  rw [← hm0] at ho0 ⊢
  have HN0 : Hid (m0 ≠ g) := by
    have h1 := (Array.getElem?_eq_some_iff.1 HK1.out.blk).1
    show m0 ≠ g
    omega
  have HO1 : Hid (w2.ownsMap Tryz.prog 9 R0 m0 5 (mkD (declTab g))) := ho0
  have HK2 : Hid (Mk w w2 g (.slice ta tn tcap) (.slice to kn toc) (.int .i64 ce) (.int .i64 ca) (.map none) (.map none) (.map none) (.map none) (.map none) (.map none)) := HK1.out.below hb0
  clear ho0 hb0 hm0 HK1
  go_wp2_with fail
  refine (eventRules_any g w2).mono ?_
  rintro e w3 ⟨rfl, ho1, hb1⟩
  obtain ⟨m1, hm1⟩ : ∃ m, m = w2.heap.size := ⟨_, rfl⟩
  rw [← hm1] at ho1 ⊢
  have HN1 : Hid (m1 ≠ g) := by
    have h1 := (Array.getElem?_eq_some_iff.1 HK2.out.blk).1
    show m1 ≠ g
    omega
  have HO2 : Hid (w3.ownsMap Tryz.prog 9 R0 m0 5 (mkD (declTab g)) ∧ w3.ownsMap Tryz.prog 9 R0 m1 1 (mkD (eventTab g))) := ⟨map_of_block HO1.out (hb1.block _ (map_lt HO1.out)), ho1⟩
  have HK3 : Hid (Mk w w3 g (.slice ta tn tcap) (.slice to kn toc) (.int .i64 ce) (.int .i64 ca) (.map none) (.map none) (.map none) (.map none) (.map none) (.map none)) := HK2.out.below hb1
  clear ho1 hb1 hm1 HK2 HO1
  go_wp2_with fail
  refine (doingRules_any g w3).mono ?_
  rintro e w4 ⟨rfl, ho2, hb2⟩
  obtain ⟨m2, hm2⟩ : ∃ m, m = w3.heap.size := ⟨_, rfl⟩
  rw [← hm2] at ho2 ⊢
  have HN2 : Hid (m2 ≠ g) := by
    have h1 := (Array.getElem?_eq_some_iff.1 HK3.out.blk).1
    show m2 ≠ g
    omega
  have HO3 : Hid (w4.ownsMap Tryz.prog 9 R0 m0 5 (mkD (declTab g)) ∧ w4.ownsMap Tryz.prog 9 R0 m1 1 (mkD (eventTab g)) ∧ w4.ownsMap Tryz.prog 9 R0 m2 13 (mkD (doingTab g))) := ⟨map_of_block HO2.out.1 (hb2.block _ (map_lt HO2.out.1)), map_of_block HO2.out.2 (hb2.block _ (map_lt HO2.out.2)), ho2⟩
  have HK4 : Hid (Mk w w4 g (.slice ta tn tcap) (.slice to kn toc) (.int .i64 ce) (.int .i64 ca) (.map none) (.map none) (.map none) (.map none) (.map none) (.map none)) := HK3.out.below hb2
  clear ho2 hb2 hm2 HK3 HO2
  have c8 := HK4.out.cell 8
  have f8 := HK4.out.fro 8
  have c9 := HK4.out.cell 9
  have f9 := HK4.out.fro 9
  have c10 := HK4.out.cell 10
  have f10 := HK4.out.fro 10
  simp only [List.getElem?_toArray, List.getElem?_cons_succ, List.getElem?_cons_zero] at c8 c9 c10
  have HKs2 : Hid (Mk w (((w4.setCell ⟨g, 8, none⟩ (.map (some m0))).setCell ⟨g, 9, none⟩ (.map (some m1))).setCell ⟨g, 10, none⟩ (.map (some m2))) g (.slice ta tn tcap) (.slice to kn toc) (.int .i64 ce) (.int .i64 ca) (.map (some m0)) (.map (some m1)) (.map (some m2)) (.map none) (.map none) (.map none)) := HK4.out.set3 _ _ _
  have HOs2 : Hid ((((w4.setCell ⟨g, 8, none⟩ (.map (some m0))).setCell ⟨g, 9, none⟩ (.map (some m1))).setCell ⟨g, 10, none⟩ (.map (some m2))).ownsMap Tryz.prog 9 R0 m0 5 (mkD (declTab g)) ∧ (((w4.setCell ⟨g, 8, none⟩ (.map (some m0))).setCell ⟨g, 9, none⟩ (.map (some m1))).setCell ⟨g, 10, none⟩ (.map (some m2))).ownsMap Tryz.prog 9 R0 m1 1 (mkD (eventTab g)) ∧ (((w4.setCell ⟨g, 8, none⟩ (.map (some m0))).setCell ⟨g, 9, none⟩ (.map (some m1))).setCell ⟨g, 10, none⟩ (.map (some m2))).ownsMap Tryz.prog 9 R0 m2 13 (mkD (doingTab g))) := ⟨map_of_block HO3.out.1 (oth3 _ g _ _ _ _ HN0.out _ _ _), map_of_block HO3.out.2.1 (oth3 _ g _ _ _ _ HN1.out _ _ _), map_of_block HO3.out.2.2 (oth3 _ g _ _ _ _ HN2.out _ _ _)⟩
  clear HK4 HO3
  go_wp2_with fail
  generalize (((w4.setCell ⟨g, 8, none⟩ (.map (some m0))).setCell ⟨g, 9, none⟩ (.map (some m1))).setCell ⟨g, 10, none⟩ (.map (some m2))) = wS at *
  clear c8 f8 c9 f9 c10 f10
  have HO3 := HOs2
  clear HOs2
  refine (itemRules_any g wS).mono ?_
  rintro e w5 ⟨rfl, ho3, hb3⟩
  obtain ⟨m3, hm3⟩ : ∃ m, m = wS.heap.size := ⟨_, rfl⟩
  rw [← hm3] at ho3 ⊢
  have HN3 : Hid (m3 ≠ g) := by
    have h1 := (Array.getElem?_eq_some_iff.1 HKs2.out.blk).1
    show m3 ≠ g
    omega
  have HO4 : Hid (w5.ownsMap Tryz.prog 9 R0 m0 5 (mkD (declTab g)) ∧ w5.ownsMap Tryz.prog 9 R0 m1 1 (mkD (eventTab g)) ∧ w5.ownsMap Tryz.prog 9 R0 m2 13 (mkD (doingTab g)) ∧ w5.ownsMap Tryz.prog 9 R0 m3 3 (mkD (itemTab g))) := ⟨map_of_block HO3.out.1 (hb3.block _ (map_lt HO3.out.1)), map_of_block HO3.out.2.1 (hb3.block _ (map_lt HO3.out.2.1)), map_of_block HO3.out.2.2 (hb3.block _ (map_lt HO3.out.2.2)), ho3⟩
  have HK5 : Hid (Mk w w5 g (.slice ta tn tcap) (.slice to kn toc) (.int .i64 ce) (.int .i64 ca) (.map (some m0)) (.map (some m1)) (.map (some m2)) (.map none) (.map none) (.map none)) := HKs2.out.below hb3
  clear ho3 hb3 hm3 HKs2 HO3
  go_wp2_with fail
  refine (bareRules_any g w5).mono ?_
  rintro e w6 ⟨rfl, ho4, hb4⟩
  obtain ⟨m4, hm4⟩ : ∃ m, m = w5.heap.size := ⟨_, rfl⟩
  rw [← hm4] at ho4 ⊢
  have HN4 : Hid (m4 ≠ g) := by
    have h1 := (Array.getElem?_eq_some_iff.1 HK5.out.blk).1
    show m4 ≠ g
    omega
  have HO5 : Hid (w6.ownsMap Tryz.prog 9 R0 m0 5 (mkD (declTab g)) ∧ w6.ownsMap Tryz.prog 9 R0 m1 1 (mkD (eventTab g)) ∧ w6.ownsMap Tryz.prog 9 R0 m2 13 (mkD (doingTab g)) ∧ w6.ownsMap Tryz.prog 9 R0 m3 3 (mkD (itemTab g)) ∧ w6.ownsMap Tryz.prog 9 R0 m4 14 (mkD (bareTab g))) := ⟨map_of_block HO4.out.1 (hb4.block _ (map_lt HO4.out.1)), map_of_block HO4.out.2.1 (hb4.block _ (map_lt HO4.out.2.1)), map_of_block HO4.out.2.2.1 (hb4.block _ (map_lt HO4.out.2.2.1)), map_of_block HO4.out.2.2.2 (hb4.block _ (map_lt HO4.out.2.2.2)), ho4⟩
  have HK6 : Hid (Mk w w6 g (.slice ta tn tcap) (.slice to kn toc) (.int .i64 ce) (.int .i64 ca) (.map (some m0)) (.map (some m1)) (.map (some m2)) (.map none) (.map none) (.map none)) := HK5.out.below hb4
  clear ho4 hb4 hm4 HK5 HO4
  go_wp2_with fail
  refine (signKinds_any w6).mono ?_
  rintro e w7 ⟨rfl, ho5, hb5⟩
  obtain ⟨m5, hm5⟩ : ∃ m, m = w6.heap.size := ⟨_, rfl⟩
  rw [← hm5] at ho5 ⊢
  have HN5 : Hid (m5 ≠ g) := by
    have h1 := (Array.getElem?_eq_some_iff.1 HK6.out.blk).1
    show m5 ≠ g
    omega
  have HO6 : Hid (w7.ownsMap Tryz.prog 9 R0 m0 5 (mkD (declTab g)) ∧ w7.ownsMap Tryz.prog 9 R0 m1 1 (mkD (eventTab g)) ∧ w7.ownsMap Tryz.prog 9 R0 m2 13 (mkD (doingTab g)) ∧ w7.ownsMap Tryz.prog 9 R0 m3 3 (mkD (itemTab g)) ∧ w7.ownsMap Tryz.prog 9 R0 m4 14 (mkD (bareTab g)) ∧ w7.ownsMap Tryz.prog 9 R0 m5 12 (mkD signTab)) := ⟨map_of_block HO5.out.1 (hb5.block _ (map_lt HO5.out.1)), map_of_block HO5.out.2.1 (hb5.block _ (map_lt HO5.out.2.1)), map_of_block HO5.out.2.2.1 (hb5.block _ (map_lt HO5.out.2.2.1)), map_of_block HO5.out.2.2.2.1 (hb5.block _ (map_lt HO5.out.2.2.2.1)), map_of_block HO5.out.2.2.2.2 (hb5.block _ (map_lt HO5.out.2.2.2.2)), ho5⟩
  have HK7 : Hid (Mk w w7 g (.slice ta tn tcap) (.slice to kn toc) (.int .i64 ce) (.int .i64 ca) (.map (some m0)) (.map (some m1)) (.map (some m2)) (.map none) (.map none) (.map none)) := HK6.out.below hb5
  clear ho5 hb5 hm5 HK6 HO5
  have c11 := HK7.out.cell 11
  have f11 := HK7.out.fro 11
  have c12 := HK7.out.cell 12
  have f12 := HK7.out.fro 12
  have c13 := HK7.out.cell 13
  have f13 := HK7.out.fro 13
  simp only [List.getElem?_toArray, List.getElem?_cons_succ, List.getElem?_cons_zero] at c11 c12 c13
  have HKs5 : Hid (Mk w (((w7.setCell ⟨g, 11, none⟩ (.map (some m3))).setCell ⟨g, 12, none⟩ (.map (some m4))).setCell ⟨g, 13, none⟩ (.map (some m5))) g (.slice ta tn tcap) (.slice to kn toc) (.int .i64 ce) (.int .i64 ca) (.map (some m0)) (.map (some m1)) (.map (some m2)) (.map (some m3)) (.map (some m4)) (.map (some m5))) := HK7.out.set6 _ _ _
  have HOs5 : Hid ((((w7.setCell ⟨g, 11, none⟩ (.map (some m3))).setCell ⟨g, 12, none⟩ (.map (some m4))).setCell ⟨g, 13, none⟩ (.map (some m5))).ownsMap Tryz.prog 9 R0 m0 5 (mkD (declTab g)) ∧ (((w7.setCell ⟨g, 11, none⟩ (.map (some m3))).setCell ⟨g, 12, none⟩ (.map (some m4))).setCell ⟨g, 13, none⟩ (.map (some m5))).ownsMap Tryz.prog 9 R0 m1 1 (mkD (eventTab g)) ∧ (((w7.setCell ⟨g, 11, none⟩ (.map (some m3))).setCell ⟨g, 12, none⟩ (.map (some m4))).setCell ⟨g, 13, none⟩ (.map (some m5))).ownsMap Tryz.prog 9 R0 m2 13 (mkD (doingTab g)) ∧ (((w7.setCell ⟨g, 11, none⟩ (.map (some m3))).setCell ⟨g, 12, none⟩ (.map (some m4))).setCell ⟨g, 13, none⟩ (.map (some m5))).ownsMap Tryz.prog 9 R0 m3 3 (mkD (itemTab g)) ∧ (((w7.setCell ⟨g, 11, none⟩ (.map (some m3))).setCell ⟨g, 12, none⟩ (.map (some m4))).setCell ⟨g, 13, none⟩ (.map (some m5))).ownsMap Tryz.prog 9 R0 m4 14 (mkD (bareTab g)) ∧ (((w7.setCell ⟨g, 11, none⟩ (.map (some m3))).setCell ⟨g, 12, none⟩ (.map (some m4))).setCell ⟨g, 13, none⟩ (.map (some m5))).ownsMap Tryz.prog 9 R0 m5 12 (mkD signTab)) := ⟨map_of_block HO6.out.1 (oth3 _ g _ _ _ _ HN0.out _ _ _), map_of_block HO6.out.2.1 (oth3 _ g _ _ _ _ HN1.out _ _ _), map_of_block HO6.out.2.2.1 (oth3 _ g _ _ _ _ HN2.out _ _ _), map_of_block HO6.out.2.2.2.1 (oth3 _ g _ _ _ _ HN3.out _ _ _), map_of_block HO6.out.2.2.2.2.1 (oth3 _ g _ _ _ _ HN4.out _ _ _), map_of_block HO6.out.2.2.2.2.2 (oth3 _ g _ _ _ _ HN5.out _ _ _)⟩
  clear HK7 HO6
  go_wp2_with fail
  go_ret
  obtain ⟨e0, e1, e2, e3, e4, e5⟩ := HOs5.out
  have hg := HG.out
  subst hg
  exact ⟨rfl, m0, m1, m2, m3, m4, m5, HKs5.out, ⟨e0, HN0.out⟩, ⟨e1, HN1.out⟩, ⟨e2, HN2.out⟩, ⟨e3, HN3.out⟩, ⟨e4, HN4.out⟩, ⟨e5, HN5.out⟩⟩
end Go.Proofs.YtgiilaaoeefpmaaGreat.Gr

namespace Go.Proofs.YtgiilaaoeefpmaaGreat.Gr
open Go.RowKit Go.Proofs.YtgiilaaoeefpmaaGreat.Sp Go.Proofs.YtgiilaaoeefpmaaGreat.Lx Go.Maps

def tx1 : ByteArray := ⟨#[112, 111, 108, 105, 99, 121, 32, 112, 32, 123, 32, 114, 101, 113, 117, 105, 114, 101, 32, 49, 32, 45, 32, 50, 32, 45, 32, 51, 32, 60, 32, 45, 52, 59, 32, 125]⟩
def tk1 : List Tok := [⟨5, 0, 6, 0⟩, ⟨2, 7, 8, 0⟩, ⟨4, 9, 10, 0⟩, ⟨5, 11, 18, 0⟩, ⟨3, 19, 20, 1⟩, ⟨4, 21, 22, 0⟩, ⟨3, 23, 24, 2⟩, ⟨4, 25, 26, 0⟩, ⟨3, 27, 28, 3⟩, ⟨4, 29, 30, 0⟩, ⟨4, 31, 32, 0⟩, ⟨3, 32, 33, 4⟩, ⟨4, 33, 34, 0⟩, ⟨4, 35, 36, 0⟩, ⟨0, 36, 36, 0⟩]
set_option maxRecDepth 100000 in
theorem full1 : full tx1 = .ok tk1 := by
  rw [full_short (by decide)]
  have r0 : ru isW tx1 0 = 6 := by decide +kernel
  have h0 := sc_kept (s := tx1) (i := 0) (k := 0) (a := 0) (by decide) (by decide +kernel) (by decide) (by decide) (by decide +kernel) (by rw [r0]; decide +kernel)
  rw [r0] at h0
  have r1 : ru isW tx1 7 = 8 := by decide +kernel
  have h1 := sc_named (s := tx1) (i := 6) (k := 1) (a := 7) (by decide) (by decide +kernel) (by decide) (by decide) (by decide +kernel) (by rw [r1]; decide +kernel) (by rw [r1]; decide)
  rw [r1] at h1
  have h2 := sc_one (s := tx1) (i := 8) (k := 2) (a := 9) (by decide) (by decide +kernel) (by decide) (by decide) (by decide +kernel) (by decide +kernel) (by decide +kernel) (by decide +kernel)
  have r3 : ru isW tx1 11 = 18 := by decide +kernel
  have h3 := sc_kept (s := tx1) (i := 10) (k := 3) (a := 11) (by decide) (by decide +kernel) (by decide) (by decide) (by decide +kernel) (by rw [r3]; decide +kernel)
  rw [r3] at h3
  have r4 : ru isD tx1 19 = 20 := by decide +kernel
  have h4 := sc_num (s := tx1) (i := 18) (k := 4) (a := 19) (by decide) (by decide +kernel) (by decide) (by decide) (by decide +kernel) (by decide +kernel) (by rw [r4]; decide +kernel)
  rw [r4] at h4
  have v4 : val 0 (tx (tx1.extract 19 20)) = 1 := by decide +kernel
  rw [v4] at h4
  have h5 := sc_one (s := tx1) (i := 20) (k := 5) (a := 21) (by decide) (by decide +kernel) (by decide) (by decide) (by decide +kernel) (by decide +kernel) (by decide +kernel) (by decide +kernel)
  have r6 : ru isD tx1 23 = 24 := by decide +kernel
  have h6 := sc_num (s := tx1) (i := 22) (k := 6) (a := 23) (by decide) (by decide +kernel) (by decide) (by decide) (by decide +kernel) (by decide +kernel) (by rw [r6]; decide +kernel)
  rw [r6] at h6
  have v6 : val 0 (tx (tx1.extract 23 24)) = 2 := by decide +kernel
  rw [v6] at h6
  have h7 := sc_one (s := tx1) (i := 24) (k := 7) (a := 25) (by decide) (by decide +kernel) (by decide) (by decide) (by decide +kernel) (by decide +kernel) (by decide +kernel) (by decide +kernel)
  have r8 : ru isD tx1 27 = 28 := by decide +kernel
  have h8 := sc_num (s := tx1) (i := 26) (k := 8) (a := 27) (by decide) (by decide +kernel) (by decide) (by decide) (by decide +kernel) (by decide +kernel) (by rw [r8]; decide +kernel)
  rw [r8] at h8
  have v8 : val 0 (tx (tx1.extract 27 28)) = 3 := by decide +kernel
  rw [v8] at h8
  have h9 := sc_one (s := tx1) (i := 28) (k := 9) (a := 29) (by decide) (by decide +kernel) (by decide) (by decide) (by decide +kernel) (by decide +kernel) (by decide +kernel) (by decide +kernel)
  have h10 := sc_one (s := tx1) (i := 30) (k := 10) (a := 31) (by decide) (by decide +kernel) (by decide) (by decide) (by decide +kernel) (by decide +kernel) (by decide +kernel) (by decide +kernel)
  have r11 : ru isD tx1 32 = 33 := by decide +kernel
  have h11 := sc_num (s := tx1) (i := 32) (k := 11) (a := 32) (by decide) (by decide +kernel) (by decide) (by decide) (by decide +kernel) (by decide +kernel) (by rw [r11]; decide +kernel)
  rw [r11] at h11
  have v11 : val 0 (tx (tx1.extract 32 33)) = 4 := by decide +kernel
  rw [v11] at h11
  have h12 := sc_one (s := tx1) (i := 33) (k := 12) (a := 33) (by decide) (by decide +kernel) (by decide) (by decide) (by decide +kernel) (by decide +kernel) (by decide +kernel) (by decide +kernel)
  have h13 := sc_one (s := tx1) (i := 34) (k := 13) (a := 35) (by decide) (by decide +kernel) (by decide) (by decide) (by decide +kernel) (by decide +kernel) (by decide +kernel) (by decide +kernel)
  have h14 := sc_end (s := tx1) (i := 36) (k := 14) (by decide) (by decide +kernel)
  rw [h0, h1, h2, h3, h4, h5, h6, h7, h8, h9, h10, h11, h12, h13, h14]
  rfl
def tx2 : ByteArray := ⟨#[112, 111, 108, 105, 99, 121, 32, 112, 32, 123, 32, 114, 101, 113, 117, 105, 114, 101, 32, 49, 32, 60, 32, 50, 32, 60, 32, 51, 59, 32, 125]⟩
def tk2 : List Tok := [⟨5, 0, 6, 0⟩, ⟨2, 7, 8, 0⟩, ⟨4, 9, 10, 0⟩, ⟨5, 11, 18, 0⟩, ⟨3, 19, 20, 1⟩, ⟨4, 21, 22, 0⟩, ⟨3, 23, 24, 2⟩, ⟨4, 25, 26, 0⟩, ⟨3, 27, 28, 3⟩, ⟨4, 28, 29, 0⟩, ⟨4, 30, 31, 0⟩, ⟨0, 31, 31, 0⟩]
set_option maxRecDepth 100000 in
theorem full2 : full tx2 = .ok tk2 := by
  rw [full_short (by decide)]
  have r0 : ru isW tx2 0 = 6 := by decide +kernel
  have h0 := sc_kept (s := tx2) (i := 0) (k := 0) (a := 0) (by decide) (by decide +kernel) (by decide) (by decide) (by decide +kernel) (by rw [r0]; decide +kernel)
  rw [r0] at h0
  have r1 : ru isW tx2 7 = 8 := by decide +kernel
  have h1 := sc_named (s := tx2) (i := 6) (k := 1) (a := 7) (by decide) (by decide +kernel) (by decide) (by decide) (by decide +kernel) (by rw [r1]; decide +kernel) (by rw [r1]; decide)
  rw [r1] at h1
  have h2 := sc_one (s := tx2) (i := 8) (k := 2) (a := 9) (by decide) (by decide +kernel) (by decide) (by decide) (by decide +kernel) (by decide +kernel) (by decide +kernel) (by decide +kernel)
  have r3 : ru isW tx2 11 = 18 := by decide +kernel
  have h3 := sc_kept (s := tx2) (i := 10) (k := 3) (a := 11) (by decide) (by decide +kernel) (by decide) (by decide) (by decide +kernel) (by rw [r3]; decide +kernel)
  rw [r3] at h3
  have r4 : ru isD tx2 19 = 20 := by decide +kernel
  have h4 := sc_num (s := tx2) (i := 18) (k := 4) (a := 19) (by decide) (by decide +kernel) (by decide) (by decide) (by decide +kernel) (by decide +kernel) (by rw [r4]; decide +kernel)
  rw [r4] at h4
  have v4 : val 0 (tx (tx2.extract 19 20)) = 1 := by decide +kernel
  rw [v4] at h4
  have h5 := sc_one (s := tx2) (i := 20) (k := 5) (a := 21) (by decide) (by decide +kernel) (by decide) (by decide) (by decide +kernel) (by decide +kernel) (by decide +kernel) (by decide +kernel)
  have r6 : ru isD tx2 23 = 24 := by decide +kernel
  have h6 := sc_num (s := tx2) (i := 22) (k := 6) (a := 23) (by decide) (by decide +kernel) (by decide) (by decide) (by decide +kernel) (by decide +kernel) (by rw [r6]; decide +kernel)
  rw [r6] at h6
  have v6 : val 0 (tx (tx2.extract 23 24)) = 2 := by decide +kernel
  rw [v6] at h6
  have h7 := sc_one (s := tx2) (i := 24) (k := 7) (a := 25) (by decide) (by decide +kernel) (by decide) (by decide) (by decide +kernel) (by decide +kernel) (by decide +kernel) (by decide +kernel)
  have r8 : ru isD tx2 27 = 28 := by decide +kernel
  have h8 := sc_num (s := tx2) (i := 26) (k := 8) (a := 27) (by decide) (by decide +kernel) (by decide) (by decide) (by decide +kernel) (by decide +kernel) (by rw [r8]; decide +kernel)
  rw [r8] at h8
  have v8 : val 0 (tx (tx2.extract 27 28)) = 3 := by decide +kernel
  rw [v8] at h8
  have h9 := sc_one (s := tx2) (i := 28) (k := 9) (a := 28) (by decide) (by decide +kernel) (by decide) (by decide) (by decide +kernel) (by decide +kernel) (by decide +kernel) (by decide +kernel)
  have h10 := sc_one (s := tx2) (i := 29) (k := 10) (a := 30) (by decide) (by decide +kernel) (by decide) (by decide) (by decide +kernel) (by decide +kernel) (by decide +kernel) (by decide +kernel)
  have h11 := sc_end (s := tx2) (i := 31) (k := 11) (by decide) (by decide +kernel)
  rw [h0, h1, h2, h3, h4, h5, h6, h7, h8, h9, h10, h11]
  rfl
def rw1 : List Rw := [⟨1, ⟨#[112]⟩, 0, 0, 1⟩, ⟨6, ⟨#[]⟩, 0, 0, 1⟩, ⟨49, ⟨#[]⟩, 0, 0, 2⟩, ⟨46, ⟨#[]⟩, 0, 0, 2⟩, ⟨46, ⟨#[]⟩, 0, 0, 2⟩, ⟨27, ⟨#[]⟩, 0, 1, 0⟩, ⟨27, ⟨#[]⟩, 0, 2, 0⟩, ⟨27, ⟨#[]⟩, 0, 3, 0⟩, ⟨41, ⟨#[]⟩, 0, 0, 1⟩, ⟨27, ⟨#[]⟩, 0, 4, 0⟩]
def pl1 : List Nat := [0, 11, 29, 25, 21, 19, 23, 27, 31, 32]
set_option maxRecDepth 100000 in
theorem pol1 (g : Nat) (w0 : World) (ta : Option Addr) (tcap : Nat) (to : Option Addr) (toc m0 m1 m2 m3 m4 m5 : Nat) : policy ⟨g, w0, tx1, ta, tcap, tk1, to, toc, 0, 0, m0, m1, m2, m3, m4, m5⟩ 6 ps0 = some (.ok () ⟨14, 0, rw1, pl1⟩) := by kernel_rfl
set_option maxRecDepth 100000 in
theorem pol2 (g : Nat) (w0 : World) (ta : Option Addr) (tcap : Nat) (to : Option Addr) (toc m0 m1 m2 m3 m4 m5 : Nat) : policy ⟨g, w0, tx2, ta, tcap, tk2, to, toc, 0, 0, m0, m1, m2, m3, m4, m5⟩ 6 ps0 = some (.die 21 25) := by kernel_rfl
end Go.Proofs.YtgiilaaoeefpmaaGreat.Gr

namespace Go.Proofs.YtgiilaaoeefpmaaGreat.Gr
open Go.RowKit Go.Proofs.YtgiilaaoeefpmaaGreat.Sp Go.Proofs.YtgiilaaoeefpmaaGreat.Lx Go.Maps

/-- what the parser wants of tokens -/
structure TokOk (s : ByteArray) (ts : List Tok) : Prop where
  pos : 0 < ts.length
  len : ts.length ≤ 65537
  tok : ∀ (i : Nat) (x : Tok), ts[i]? = some x → x.at_ ≤ x.stop ∧ x.stop ≤ s.size ∧ x.kind ≤ 5 ∧ x.n ≤ 1073741824
  fin : ∀ (i : Nat) (x : Tok), ts[i]? = some x → (i + 1 = ts.length ∧ x.kind = 0 ∧ x.at_ = x.stop) ∨ (i + 1 < ts.length ∧ x.kind ≠ 0 ∧ x.at_ < x.stop)
theorem all_of (ts : List Tok) (P : Nat → Tok → Prop) (h : ∀ i, i < ts.length → P i (ts.getD i ⟨0, 0, 0, 0⟩)) (i : Nat) (x : Tok) (hx : ts[i]? = some x) : P i x := by
  have hi := (List.getElem?_eq_some_iff.1 hx).1
  have := h i hi
  rw [List.getD_eq_getElem?_getD, hx] at this
  exact this
theorem tokOk1 : TokOk tx1 tk1 := ⟨by decide, by decide, all_of _ _ (by decide), all_of _ _ (by decide)⟩
theorem tokOk2 : TokOk tx2 tk2 := ⟨by decide, by decide, all_of _ _ (by decide), all_of _ _ (by decide)⟩

theorem bytes_of {w W : World} {ao : Option Addr} {s : ByteArray} (h : IsBytes w ao s) (hs : w.heap.size ≤ W.heap.size) (hb : ∀ k, k < w.heap.size → W.heap[k]? = w.heap[k]?) : IsBytes W ao s := by
  intro i hi
  obtain ⟨g, o, e, hg, hc⟩ := h i hi
  exact ⟨g, o, e, Nat.lt_of_lt_of_le hg hs, (World.cell?_of_block (a := ⟨g, o + i, none⟩) (hb g hg)).trans hc⟩
theorem toks_of {w W : World} {ao : Option Addr} {ts : List Tok} (h : IsToks w ao ts) (hs : w.heap.size ≤ W.heap.size) (hb : ∀ k, k < w.heap.size → W.heap[k]? = w.heap[k]?) : IsToks W ao ts := by
  intro i x hx
  obtain ⟨g, o, e, hg, h1, h2, h3, h4⟩ := h i x hx
  have hc : ∀ j, W.cell? ⟨g, j, none⟩ = w.cell? ⟨g, j, none⟩ := fun j => World.cell?_of_block (a := ⟨g, j, none⟩) (hb g hg)
  exact ⟨g, o, e, Nat.lt_of_lt_of_le hg hs, (hc _).trans h1, (hc _).trans h2, (hc _).trans h3, (hc _).trans h4⟩

set_option maxHeartbeats 6400000 in
set_option maxRecDepth 100000 in
theorem parse_ok (ao : Option Addr) (s : ByteArray) (cap : Nat) (w : World) (h : IsBytes w ao s) (hc : s.size ≤ cap) (hs : s.size ≤ 1048576) (ts : List Tok) (hf : full s = .ok ts) (ht : TokOk s ts) (n : Nat) (r : R Unit)
    (hr : ∀ (g : Nat) (w0 : World) (ta : Option Addr) (tcap : Nat) (to : Option Addr) (toc m0 m1 m2 m3 m4 m5 : Nat), policy ⟨g, w0, s, ta, tcap, ts, to, toc, 0, 0, m0, m1, m2, m3, m4, m5⟩ n ps0 = some r) :
    Calls Tryz.prog 20 #[.slice ao s.size cap] w fun e w' => Tree w r e w' ∧ Below w.heap.size w w' := by
  have HI : Hid (IsBytes w ao s) := h
  have HT : Hid (TokOk s ts ∧ s.size ≤ cap ∧ s.size ≤ 1048576) := ⟨ht, hc, hs⟩
  have HR : Hid (∀ (g : Nat) (w0 : World) (ta : Option Addr) (tcap : Nat) (to : Option Addr) (toc m0 m1 m2 m3 m4 m5 : Nat), policy ⟨g, w0, s, ta, tcap, ts, to, toc, 0, 0, m0, m1, m2, m3, m4, m5⟩ n ps0 = some r) := hr
  have hB1 : Below w.heap.size w (w.alloc (.cells #[.int .i64 0, .int .i64 0] 27)) := (Below.refl _ w).alloc (Nat.le_refl _) _
  have hsc := scan_parts ao s cap (w.alloc (.cells #[.int .i64 0, .int .i64 0] 27)) (h.below hB1) hc
  rw [hf] at hsc
  have HS : Hid (Calls Tryz.prog 32 #[.slice ao s.size cap] (w.alloc (.cells #[.int .i64 0, .int .i64 0] 27)) fun e w' => (∃ bo bc, e = .returned (.tuple #[.slice bo ts.length bc, .agg #[.int .i64 (0 : Nat), .int .i64 (0 : Nat)]]) ∧ TokRow w' (w.alloc (.cells #[.int .i64 0, .int .i64 0] 27)).heap.size (.slice bo ts.length bc) ts) ∧ Below (w.alloc (.cells #[.int .i64 0, .int .i64 0] 27)).heap.size (w.alloc (.cells #[.int .i64 0, .int .i64 0] 27)) w') := hsc
  have HV : Hid ((w.alloc (.cells #[.int .i64 0, .int .i64 0] 27)).heap[w.heap.size]? = some (.cells #[.int .i64 0, .int .i64 0] 27 (0, 0)) ∧ Below w.heap.size w (w.alloc (.cells #[.int .i64 0, .int .i64 0] 27)) ∧ (w.alloc (.cells #[.int .i64 0, .int .i64 0] 27)).heap.size = w.heap.size + 1) := ⟨heap_alloc_new w _, hB1, by simp⟩
  clear h ht hc hs hr hsc hB1 hf
  go_enter Tryz.func20, Tryz.ntmps20
  go_wp2_with fail
  generalize w.alloc (.cells #[.int .i64 0, .int .i64 0] 27) = w1 at *
  refine HS.out.mono ?_
  rintro e w2 ⟨⟨bo, bc, rfl, hrow⟩, hB2⟩
  have hB3 : Below w1.heap.size w1 (w2.alloc (.cells #[.int .i64 0, .int .i64 0] 27)) := hB2.alloc hB2.size _
  have HW3 : Hid ((w2.alloc (.cells #[.int .i64 0, .int .i64 0] 27)).heap[w.heap.size]? = some (.cells #[.int .i64 0, .int .i64 0] 27 (0, 0)) ∧ Below w.heap.size w (w2.alloc (.cells #[.int .i64 0, .int .i64 0] 27)) ∧ IsToks (w2.alloc (.cells #[.int .i64 0, .int .i64 0] 27)) bo ts ∧ IsBytes (w2.alloc (.cells #[.int .i64 0, .int .i64 0] 27)) ao s ∧ w.heap.size < (w2.alloc (.cells #[.int .i64 0, .int .i64 0] 27)).heap.size) := by
    have hz := HV.out.2.2
    have hB := HV.out.2.1.trans (hB3.mono HV.out.2.1.size)
    refine ⟨(hB3.block _ (by omega)).trans HV.out.1, hB, (hrow.below ((Below.refl _ w2).alloc (Nat.le_refl _) _)).read, HI.out.below hB, ?_⟩
    have := hB3.size
    omega
  clear hrow hB2 hB3 HS HV HI
  go_wp2_with fail
  generalize w2.alloc (.cells #[.int .i64 0, .int .i64 0] 27) = w3 at *
  refine (new_any w3 ao s.size cap bo ts.length bc 0 0).mono ?_
  rintro e w4 ⟨rfl, m0, m1, m2, m3, m4, m5, hK, ⟨a0, b0⟩, ⟨a1, b1⟩, ⟨a2, b2⟩, ⟨a3, b3⟩, ⟨a4, b4⟩, ⟨a5, b5⟩⟩
  have hB4 := hK.bel
  have hgw := (Array.getElem?_eq_some_iff.1 hK.blk).1
  obtain ⟨E, hE⟩ : ∃ E : Env, E = ⟨w3.heap.size + 1, w4, s, ao, cap, ts, bo, bc, 0, 0, m0, m1, m2, m3, m4, m5⟩ := ⟨_, rfl⟩
  have hsame : ∀ W, E.Fix W → ∀ k, k < w3.heap.size → W.heap[k]? = w3.heap[k]? := fun W hW k hk => by
    have h1 := hW.block k (by rw [hE]; show k < w4.heap.size; have := hB4.size; omega) (by rw [hE]; show k ≠ w3.heap.size + 1; omega)
    rw [hE] at h1
    exact h1.trans (hB4.block k hk)
  have hsz : ∀ W, E.Fix W → w3.heap.size ≤ W.heap.size := fun W hW => by
    have h1 := hW.size
    rw [hE] at h1
    exact Nat.le_trans hB4.size h1
  have hmap : ∀ W, E.Fix W → ∀ b, b < w4.heap.size → b ≠ w3.heap.size + 1 → W.heap[b]? = w4.heap[b]? := fun W hW b h1 h2 => by
    have h3 := hW.block b (by rw [hE]; exact h1) (by rw [hE]; exact h2)
    rw [hE] at h3
    exact h3
  have ok : E.Ok := by
    have hT := HT.out
    refine ⟨by rw [hE]; exact hgw, fun W hW => ?_, fun W hW => ?_, by rw [hE]; exact hT.2.1, by rw [hE]; exact hT.2.2, by rw [hE]; exact hT.1.len, by rw [hE]; exact hT.1.tok, by rw [hE]; exact hT.1.fin⟩
    · have := bytes_of HW3.out.2.2.2.1 (hsz W hW) (hsame W hW)
      rw [hE]; exact this
    · have := toks_of HW3.out.2.2.1 (hsz W hW) (hsame W hW)
      rw [hE]; exact this
  have T : E.Tabs := by
    refine ⟨fun W hW => ?_, fun W hW => ?_, fun W hW => ?_, fun W hW => ?_, fun W hW => ?_, fun W hW => ?_⟩
    · have := map_of_block a0 (hmap W hW m0 (map_lt a0) b0); rw [hE]; exact this
    · have := map_of_block a1 (hmap W hW m1 (map_lt a1) b1); rw [hE]; exact this
    · have := map_of_block a2 (hmap W hW m2 (map_lt a2) b2); rw [hE]; exact this
    · have := map_of_block a3 (hmap W hW m3 (map_lt a3) b3); rw [hE]; exact this
    · have := map_of_block a4 (hmap W hW m4 (map_lt a4) b4); rw [hE]; exact this
    · have := map_of_block a5 (hmap W hW m5 (map_lt a5) b5); rw [hE]; exact this
  have hT0 := tree_any E ok T (by rw [hE]; exact HT.out.1.pos) (by rw [hE]; exact hK.blk) n r (by rw [hE]; exact HR.out _ _ _ _ _ _ _ _ _ _ _ _)
  have HTr : Hid (Calls Tryz.prog 34 #[.pointer (some ⟨w3.heap.size + 1, 0, none⟩)] w4 fun e w' => Tree w4 r e w' ∧ w4.heap.size ≤ w'.heap.size ∧ (w'.os = w4.os ∧ w'.tape = w4.tape ∧ w'.output = w4.output) ∧ ∀ k, k < w4.heap.size → k ≠ w3.heap.size + 1 → w'.heap[k]? = w4.heap[k]?) := by
    rw [hE] at hT0
    exact hT0.mono fun e w' hh => ⟨hh.1, hh.2.size, ⟨hh.2.os, hh.2.tape, hh.2.output⟩, hh.2.block⟩
  have HB4 : Hid (Below w3.heap.size w3 w4) := hB4
  clear hT0 T ok hmap hsz hsame hE E hK hgw a0 a1 a2 a3 a4 a5 b0 b1 b2 b3 b4 b5 hB4 HT HR
  go_wp2_with fail
  refine HTr.out.mono ?_
  rintro e w5 ⟨hTree, hz5, ⟨p1, p2, p3⟩, hk5⟩
  have hv5 : w5.heap[w.heap.size]? = some (.cells #[.int .i64 0, .int .i64 0] 27 (0, 0)) := by
    have h1 := HW3.out
    have h2 := HB4.out.size
    rw [hk5 _ (by omega) (by omega), HB4.out.block _ h1.2.2.2.2]
    exact h1.1
  have hb5 : Below w.heap.size w w5 := by
    have h1 := HW3.out
    have h2 := HB4.out.size
    have h3 := h1.2.1.trans (HB4.out.mono (by omega))
    refine h3.trans ⟨p1, p2, p3, hz5, fun k hk => hk5 k (by omega) (by omega)⟩
  have c0 : w5.cell? ⟨w.heap.size, 0, none⟩ = some (.int .i64 0) := by simp [World.cell?, hv5]
  have c1 : w5.cell? ⟨w.heap.size, 1, none⟩ = some (.int .i64 0) := by simp [World.cell?, hv5]
  have f0 : w5.frozen? ⟨w.heap.size, 0, none⟩ = false := by simp [World.frozen?, hv5]
  have f1 : w5.frozen? ⟨w.heap.size, 1, none⟩ = false := by simp [World.frozen?, hv5]
  have HB5 : Hid (Below w.heap.size w w5 ∧ w.heap.size < w4.heap.size ∧ w.heap.size ≤ w4.heap.size) := ⟨hb5, by have h1 := HW3.out.2.2.2.2; have h2 := HB4.out.size; omega, by have h1 := HW3.out.2.2.2.2; have h2 := HB4.out.size; omega⟩
  clear hv5 hb5 hk5 hz5 p1 p2 p3 HB4 HW3 HTr
  cases r with
  | die er i =>
    obtain rfl : e = .returned (.tuple #[.slice none 0 0, .slice none 0 0, .agg #[.int .i64 er, .int .i64 i]]) := hTree
    go_wp2_with fail
    refine bodyPost_ret (v := .tuple #[.slice none 0 0, .slice none 0 0, .agg #[.int .i64 er, .int .i64 i]]) (by simp [results, Tryz.results20, go_sem, c0, c1]) rfl ⟨rfl, ?_⟩
    exact (HB5.out.1.setCell (p := ⟨w.heap.size, 0, none⟩) (Nat.le_refl _) _).setCell (p := ⟨w.heap.size, 1, none⟩) (Nat.le_refl _) _
  | ok u st =>
    obtain ⟨a, b, rfl, ha, hb⟩ := hTree
    have HA : Hid (w5.ownsRow w4.heap.size 46 5 a st.rows.length (st.rows.flatMap rc) ∧ w5.ownsRow w4.heap.size 3 1 b st.places.length (st.places.map nc)) := ⟨ha, hb⟩
    clear ha hb
    go_wp2_with fail
    refine bodyPost_ret (v := .tuple #[a, b, .agg #[.int .i64 0, .int .i64 0]]) (by simp [results, Tryz.results20, go_sem, c0, c1]) rfl ⟨⟨a, b, rfl, ?_, ?_⟩, ?_⟩
    · refine own_base (own_of_block HA.out.1 fun k hk => ?_) HB5.out.2.2
      have h1 := (World.ownsRow.lt HA.out.1 k hk).1
      have h2 := HB5.out.2.1
      rw [Below.heap_setCell _ _ _ k (by show k ≠ w.heap.size; omega), Below.heap_setCell _ _ _ k (by show k ≠ w.heap.size; omega)]
    · refine own_base (own_of_block HA.out.2 fun k hk => ?_) HB5.out.2.2
      have h1 := (World.ownsRow.lt HA.out.2 k hk).1
      have h2 := HB5.out.2.1
      rw [Below.heap_setCell _ _ _ k (by show k ≠ w.heap.size; omega), Below.heap_setCell _ _ _ k (by show k ≠ w.heap.size; omega)]
    · exact (HB5.out.1.setCell (p := ⟨w.heap.size, 0, none⟩) (Nat.le_refl _) _).setCell (p := ⟨w.heap.size, 1, none⟩) (Nat.le_refl _) _
end Go.Proofs.YtgiilaaoeefpmaaGreat.Gr

namespace Go.Proofs.YtgiilaaoeefpmaaGreat.Gr
open Go.RowKit Go.Proofs.YtgiilaaoeefpmaaGreat.Sp Go.Proofs.YtgiilaaoeefpmaaGreat.Lx Go.Maps

/-- slices of rows, of numbers, to be read -/
def IsRows (w : World) (ao : Option Addr) (l : List Rw) : Prop := ∀ (i : Nat) (x : Rw), l[i]? = some x → ∃ g o, ao = some ⟨g, o, none⟩ ∧ g < w.heap.size ∧
  w.cell? ⟨g, o + i * 5, none⟩ = some (.int .i64 x.kind) ∧ w.cell? ⟨g, o + i * 5 + 1, none⟩ = some (.string x.name) ∧ w.cell? ⟨g, o + i * 5 + 2, none⟩ = some (.int .i64 x.stop) ∧ w.cell? ⟨g, o + i * 5 + 3, none⟩ = some (.int .i64 x.n) ∧ w.cell? ⟨g, o + i * 5 + 4, none⟩ = some (.int .i64 x.kids)
def IsInts (w : World) (ao : Option Addr) (l : List Nat) : Prop := ∀ (i : Nat) (x : Nat), l[i]? = some x → ∃ g o, ao = some ⟨g, o, none⟩ ∧ g < w.heap.size ∧ w.cell? ⟨g, o + i, none⟩ = some (.int .i64 x)
theorem IsRows.below {w w' : World} {ao : Option Addr} {l : List Rw} (h : IsRows w ao l) (hb : Below w.heap.size w w') : IsRows w' ao l := by
  intro i x hx
  obtain ⟨g, o, e, hg, h1, h2, h3, h4, h5⟩ := h i x hx
  have hc : ∀ j, w'.cell? ⟨g, j, none⟩ = w.cell? ⟨g, j, none⟩ := fun j => hb.cell (p := ⟨g, j, none⟩) hg
  exact ⟨g, o, e, Nat.lt_of_lt_of_le hg hb.size, (hc _).trans h1, (hc _).trans h2, (hc _).trans h3, (hc _).trans h4, (hc _).trans h5⟩
theorem IsInts.below {w w' : World} {ao : Option Addr} {l : List Nat} (h : IsInts w ao l) (hb : Below w.heap.size w w') : IsInts w' ao l := by
  intro i x hx
  obtain ⟨g, o, e, hg, h1⟩ := h i x hx
  exact ⟨g, o, e, Nat.lt_of_lt_of_le hg hb.size, (hb.cell (p := ⟨g, o + i, none⟩) hg).trans h1⟩
theorem rows_of_block {w : World} {g : Nat} {T : TypeId} {f : Nat × Nat} {l : List Rw} {R : List Value} (h : w.heap[g]? = some (.cells (l.flatMap rc ++ R).toArray T f)) : IsRows w (some ⟨g, 0, none⟩) l := by
  intro i x hx
  have hc : ∀ j, j < 5 → w.cell? ⟨g, i * 5 + j, none⟩ = (rc x)[j]? := fun j hj => row_at h hx hj
  refine ⟨g, 0, rfl, (Array.getElem?_eq_some_iff.1 h).1, ?_, ?_, ?_, ?_, ?_⟩
  · simpa [rc] using hc 0 (by omega)
  · simpa [rc] using hc 1 (by omega)
  · simpa [rc] using hc 2 (by omega)
  · simpa [rc] using hc 3 (by omega)
  · simpa [rc] using hc 4 (by omega)
theorem ints_of_block {w : World} {g : Nat} {T : TypeId} {f : Nat × Nat} {l : List Nat} {R : List Value} (h : w.heap[g]? = some (.cells (l.map nc ++ R).toArray T f)) : IsInts w (some ⟨g, 0, none⟩) l := by
  intro i x hx
  exact ⟨g, 0, rfl, (Array.getElem?_eq_some_iff.1 h).1, by rw [Nat.zero_add]; exact int_at h hx⟩
theorem rows_of_own {w : World} {base : Nat} {v : Value} {l : List Rw} (h : w.ownsRow base 46 5 v l.length (l.flatMap rc)) : ∃ ao cap, v = .slice ao l.length cap ∧ IsRows w ao l := by
  by_cases h0 : l.length = 0
  · obtain ⟨bo, bc, e⟩ := own_form h
    refine ⟨bo, bc, e, fun i x hx => ?_⟩
    have := (List.getElem?_eq_some_iff.1 hx).1
    omega
  · obtain ⟨g, cap, cur, rfl, h2, h3, h4, h5, h6, h7⟩ := own_block h (by omega)
    refine ⟨_, cap, rfl, rows_of_block (R := cur.drop (l.length * 5)) (T := 46) (f := (0, 0)) ?_⟩
    rw [h3, ← h7, List.take_append_drop]
theorem ints_of_own {w : World} {base : Nat} {v : Value} {l : List Nat} (h : w.ownsRow base 3 1 v l.length (l.map nc)) : ∃ ao cap, v = .slice ao l.length cap ∧ IsInts w ao l := by
  by_cases h0 : l.length = 0
  · obtain ⟨bo, bc, e⟩ := own_form h
    refine ⟨bo, bc, e, fun i x hx => ?_⟩
    have := (List.getElem?_eq_some_iff.1 hx).1
    omega
  · obtain ⟨g, cap, cur, rfl, h2, h3, h4, h5, h6, h7⟩ := own_block h (by omega)
    refine ⟨_, cap, rfl, ints_of_block (R := cur.drop (l.length * 1)) (T := 3) (f := (0, 0)) ?_⟩
    rw [h3, ← h7, List.take_append_drop]

set_option maxHeartbeats 1600000 in
set_option maxRecDepth 100000 in
theorem sameRows_any (ao bo : Option Addr) (l : List Rw) (ca cb : Nat) (w : World) (h1 : IsRows w ao l) (h2 : IsRows w bo l) (hn : l.length ≤ 4611686018427387904) :
    Calls Tryz.prog 21 #[.slice ao l.length ca, .slice bo l.length cb] w fun e w' => e = .returned (.bool true) ∧ Below w.heap.size w w' := by
  have H1 : Hid (IsRows w ao l) := h1
  have H2 : Hid (IsRows w bo l) := h2
  clear h1 h2
  have hne : ((l.length : Int) != (l.length : Int)) = false := by simp
  go_enter Tryz.func21, Tryz.ntmps21
  go_wp2
  go_loopw [5] (fun i wr => ∃ k : Nat, k ≤ l.length ∧ i = .int .i64 k ∧ Below w.heap.size w wr) (fun i _ => l.length - (intOf i).toNat)
  case atStart => exact ⟨0, Nat.zero_le _, rfl, Below.refl _ _⟩
  case round =>
    obtain ⟨k, hk, rfl, hB⟩ := hrel
    have HB : Hid (Below w.heap.size w wr) := hB
    clear hB
    by_cases hlt : k < l.length
    · obtain ⟨x, hx⟩ : ∃ x, l[k]? = some x := ⟨_, List.getElem?_eq_getElem hlt⟩
      obtain ⟨g1, o1, rfl, hg1, a0, a1, a2, a3, a4⟩ := (H1.out.below HB.out) k x hx
      obtain ⟨g2, o2, rfl, hg2, b0, b1, b2, b3, b4⟩ := (H2.out.below HB.out) k x hx
      obtain ⟨kd, nm, e, m, c⟩ := x
      clear hx
      simp only at a0 a1 a2 a3 a4 b0 b1 b2 b3 b4
      go_wp2_with fail
      go_quiet (fail)
      go_wp2
      go_roundw
      case rel => exact ⟨k + 1, by omega, by go_num, HB.out.trans ((Go.Proofs.YtgiilaaoeefpmaaGreat.Lx.below_drewN _ _).mono HB.out.size)⟩
      case measure => simp [intOf]; omega
    · have hd : decide ((k : Int) < (l.length : Int)) = false := by simp; omega
      go_wp2
      go_ret
      exact ⟨rfl, HB.out⟩
set_option maxHeartbeats 1600000 in
set_option maxRecDepth 100000 in
theorem sameInts_any (ao bo : Option Addr) (l : List Nat) (ca cb : Nat) (w : World) (h1 : IsInts w ao l) (h2 : IsInts w bo l) (hn : l.length ≤ 4611686018427387904) :
    Calls Tryz.prog 12 #[.slice ao l.length ca, .slice bo l.length cb] w fun e w' => e = .returned (.bool true) ∧ Below w.heap.size w w' := by
  have H1 : Hid (IsInts w ao l) := h1
  have H2 : Hid (IsInts w bo l) := h2
  clear h1 h2
  have hne : ((l.length : Int) != (l.length : Int)) = false := by simp
  go_enter Tryz.func12, Tryz.ntmps12
  go_wp2
  go_loopw [5] (fun i wr => ∃ k : Nat, k ≤ l.length ∧ i = .int .i64 k ∧ Below w.heap.size w wr) (fun i _ => l.length - (intOf i).toNat)
  case atStart => exact ⟨0, Nat.zero_le _, rfl, Below.refl _ _⟩
  case round =>
    obtain ⟨k, hk, rfl, hB⟩ := hrel
    have HB : Hid (Below w.heap.size w wr) := hB
    clear hB
    by_cases hlt : k < l.length
    · obtain ⟨x, hx⟩ : ∃ x, l[k]? = some x := ⟨_, List.getElem?_eq_getElem hlt⟩
      obtain ⟨g1, o1, rfl, hg1, a0⟩ := (H1.out.below HB.out) k x hx
      obtain ⟨g2, o2, rfl, hg2, b0⟩ := (H2.out.below HB.out) k x hx
      clear hx
      go_wp2_with fail
      go_quiet (fail)
      go_wp2
      go_roundw
      case rel => exact ⟨k + 1, by omega, by go_num, HB.out.trans ((Go.Proofs.YtgiilaaoeefpmaaGreat.Lx.below_drewN _ _).mono HB.out.size)⟩
      case measure => simp [intOf]; omega
    · have hd : decide ((k : Int) < (l.length : Int)) = false := by simp; omega
      go_wp2
      go_ret
      exact ⟨rfl, HB.out⟩
end Go.Proofs.YtgiilaaoeefpmaaGreat.Gr

namespace Go.Proofs.YtgiilaaoeefpmaaGreat.Gr
open Go.RowKit Go.Proofs.YtgiilaaoeefpmaaGreat.Sp Go.Proofs.YtgiilaaoeefpmaaGreat.Lx Go.Maps

theorem const_bytes (w : World) (C : Array Value) (m : Nat × Nat) (s : ByteArray) (hC : C.toList = Lib.byteCells s.data.toList) : IsBytes (w.alloc (.cells C 5 m)) (some ⟨w.heap.size, 0, none⟩) s := by
  intro i hi
  refine ⟨w.heap.size, 0, rfl, by simp, ?_⟩
  have hl : C.toList.length = s.size := by rw [hC, Lib.byteCells_length]; simp
  have hc := Lib.cells_of_row (heap_alloc_new w (.cells C 5 m)) C.size i (.int .u8 (nb s i : Nat)) (by
    rw [List.take_of_length_le (by simp), hC]
    unfold Lib.byteCells
    rw [List.getElem?_map, byte_at s i hi, nb_get s i hi]
    rfl)
  rw [Lib.addr_add] at hc
  exact hc
theorem const_at (w : World) (C : Array Value) (m : Nat × Nat) (s : ByteArray) (n : Nat) (hn : n = w.heap.size) (hC : C.toList = Lib.byteCells s.data.toList) : IsBytes (w.alloc (.cells C 5 m)) (some ⟨n, 0, none⟩) s := by
  subst hn; exact const_bytes w C m s hC
theorem parse1 (ao : Option Addr) (cap : Nat) (w : World) (h : IsBytes w ao tx1) (hc : 36 ≤ cap) : Calls Tryz.prog 20 #[.slice ao 36 cap] w fun e w' =>
    (∃ ro rk po pk, e = .returned (.tuple #[.slice ro 10 rk, .slice po 10 pk, .agg #[.int .i64 0, .int .i64 0]]) ∧ IsRows w' ro rw1 ∧ IsInts w' po pl1) ∧ Below w.heap.size w w' :=
  (parse_ok ao tx1 cap w h hc (by decide) tk1 full1 tokOk1 6 (.ok () ⟨14, 0, rw1, pl1⟩) (fun _ _ _ _ _ _ _ _ _ _ _ _ => pol1 _ _ _ _ _ _ _ _ _ _ _ _)).mono fun e w' hh => by
    obtain ⟨⟨a, b, rfl, h1, h2⟩, h3⟩ := hh
    obtain ⟨ro, rk, rfl, q1⟩ := rows_of_own h1
    obtain ⟨po, pk, rfl, q2⟩ := ints_of_own h2
    exact ⟨⟨ro, rk, po, pk, rfl, q1, q2⟩, h3⟩
theorem parse2 (ao : Option Addr) (cap : Nat) (w : World) (h : IsBytes w ao tx2) (hc : 31 ≤ cap) : Calls Tryz.prog 20 #[.slice ao 31 cap] w fun e w' =>
    e = .returned (.tuple #[.slice none 0 0, .slice none 0 0, .agg #[.int .i64 21, .int .i64 25]]) ∧ Below w.heap.size w w' :=
  (parse_ok ao tx2 cap w h hc (by decide) tk2 full2 tokOk2 6 (.die 21 25) (fun _ _ _ _ _ _ _ _ _ _ _ _ => pol2 _ _ _ _ _ _ _ _ _ _ _ _)).mono fun _ _ hh => hh
theorem lit_rows (w : World) (T : TypeId) (m : Nat × Nat) (C : Array Value) (l : List Rw) (n : Nat) (hn : n = w.heap.size) (hC : C = (l.flatMap rc ++ []).toArray) : IsRows (w.alloc (.cells C T m)) (some ⟨n, 0, none⟩) l := by
  subst hn
  subst hC
  exact rows_of_block (heap_alloc_new w _)
theorem lit_ints (w : World) (T : TypeId) (m : Nat × Nat) (C : Array Value) (l : List Nat) (n : Nat) (hn : n = w.heap.size) (hC : C = (l.map nc ++ []).toArray) : IsInts (w.alloc (.cells C T m)) (some ⟨n, 0, none⟩) l := by
  subst hn
  subst hC
  exact ints_of_block (heap_alloc_new w _)
theorem same10 (ao bo : Option Addr) (ca cb : Nat) (w : World) (h1 : IsRows w ao rw1) (h2 : IsRows w bo rw1) : Calls Tryz.prog 21 #[.slice ao 10 ca, .slice bo 10 cb] w fun e w' => e = .returned (.bool true) ∧ Below w.heap.size w w' :=
  sameRows_any ao bo rw1 ca cb w h1 h2 (by decide)
theorem sami10 (ao bo : Option Addr) (ca cb : Nat) (w : World) (h1 : IsInts w ao pl1) (h2 : IsInts w bo pl1) : Calls Tryz.prog 12 #[.slice ao 10 ca, .slice bo 10 cb] w fun e w' => e = .returned (.bool true) ∧ Below w.heap.size w w' :=
  sameInts_any ao bo pl1 ca cb w h1 h2 (by decide)
theorem loose_yes (w : World) : Calls Tryz.prog 22 #[.int .i64 46, .int .i64 1, .int .i64 46] w fun e w' => e = .returned (.bool true) ∧ w' = w := (loose_any 46 1 46 w).mono fun _ _ hh => hh
theorem loose_no (w : World) : Calls Tryz.prog 22 #[.int .i64 46, .int .i64 0, .int .i64 46] w fun e w' => e = .returned (.bool false) ∧ w' = w := (loose_any 46 0 46 w).mono fun _ _ hh => hh

set_option maxHeartbeats 6400000 in
set_option maxRecDepth 100000 in
theorem known_any (w : World) : Calls Tryz.prog 5 #[] w fun e w' => e = .returned (.bool true) ∧ Below w.heap.size w w' := by
  have kc := fun (w : World) (C : Array Value) (n c : Nat) => Lib.run_convert_bytes_const (P := Tryz.prog) w 44 5 C n c Tryz.underlying44 Tryz.underlying5
  have kc2 : ∀ (w : World) (o : Obj) (C : Array Value) (n c : Nat), (convert 44 44 (.slice (some ⟨w.heap.size + 1, 0, none⟩) n c)).run Tryz.prog ((w.alloc o).alloc (.cells C 5)) = .ok (.slice (some ⟨w.heap.size + 1, 0, none⟩) n c) ((w.alloc o).alloc (.cells C 5 (C.size, C.size + 1))) := fun w o C n c => by
    have := kc (w.alloc o) C n c
    rw [World.size_alloc] at this
    exact this
  have hnot : ∀ (x : Bool) (w : World), (Op.unary .not (.bool x)).run Tryz.prog w = .ok (.bool (!x)) w := fun _ _ => rfl
  go_enter Tryz.func5, Tryz.ntmps5
  go_wp2_with fail
  refine (parse1 _ _ _ (const_bytes w _ _ tx1 (by rfl)) (by decide)).mono ?_
  rintro e w1 ⟨⟨ro, rk, po, pk, rfl, hR, hI⟩, hB1⟩
  have hB0 : Below w.heap.size w w1 := ((Below.refl _ w).alloc (Nat.le_refl _) _).trans (hB1.mono (by simp))
  have HR1 : Hid (IsRows w1 ro rw1 ∧ IsInts w1 po pl1) := ⟨hR, hI⟩
  have HB1 : Hid (Below w.heap.size w w1) := hB0
  clear hR hI hB1 hB0
  go_wp2_with fail
  refine (parse2 _ _ _ (const_at _ _ _ tx2 _ (by simp) (by rfl)) (by decide)).mono ?_
  rintro e w2 ⟨rfl, hB2⟩
  have hB3 : Below w1.heap.size w1 w2 := (((Below.refl _ w1).alloc (Nat.le_refl _) _).alloc (by simp) _).trans (hB2.mono (by simp; omega))
  have HB2 : Hid (Below w.heap.size w w2) := HB1.out.trans (hB3.mono HB1.out.size)
  have HC2 : Hid (w2.heap[w1.heap.size]? = some (.cells #[.int .i64 0, .int .i64 0] 27 (0, 0)) ∧ w1.heap.size < w2.heap.size) := by
    refine ⟨?_, ?_⟩
    · rw [hB2.block _ (by simp; omega), Below.heap_alloc _ _ _ (by simp)]
      exact heap_alloc_new w1 _
    · have := hB2.size
      simp at this
      omega
  have HR2 : Hid (IsRows w2 ro rw1 ∧ IsInts w2 po pl1) := ⟨HR1.out.1.below hB3, HR1.out.2.below hB3⟩
  have c0 : w2.cell? ⟨w1.heap.size, 0, none⟩ = some (.int .i64 0) := by simp [World.cell?, HC2.out.1]
  have c1 : w2.cell? ⟨w1.heap.size, 1, none⟩ = some (.int .i64 0) := by simp [World.cell?, HC2.out.1]
  have hlt := HC2.out.2
  clear hB2 hB3 HR1 HB1 HC2 kc kc2
  go_wp2_with fail
  refine (same10 _ _ _ _ _ ((HR2.out.1.below ((Below.refl _ _).alloc (Nat.le_refl _) _)).below ((Below.refl _ _).alloc (Nat.le_refl _) _)) (lit_rows _ _ _ _ rw1 _ (by simp) (by rfl))).mono ?_
  rintro e w3 ⟨rfl, hB3⟩
  have hB4 : Below w2.heap.size w2 w3 := (((Below.refl _ w2).alloc (Nat.le_refl _) _).alloc (by simp) _).trans (hB3.mono (by simp; omega))
  have HB3 : Hid (Below w.heap.size w w3) := HB2.out.trans (hB4.mono HB2.out.size)
  have HR3 : Hid (IsInts w3 po pl1) := HR2.out.2.below hB4
  clear hB3 hB4 c0 c1 hlt HR2 HB2
  go_wp2_with fail
  refine (sami10 _ _ _ _ _ (HR3.out.below ((Below.refl _ _).alloc (Nat.le_refl _) _)) (lit_ints _ _ _ _ pl1 _ rfl (by rfl))).mono ?_
  rintro e w4 ⟨rfl, hB4⟩
  have HB4 : Hid (Below w.heap.size w w4) := (HB3.out.alloc HB3.out.size _).trans (hB4.mono (Nat.le_trans HB3.out.size (by simp)))
  clear hB4 HB3 HR3
  go_wp2_with fail
  refine (loose_yes w4).mono ?_
  intro e w5 hh
  obtain ⟨rfl, hw⟩ := hh
  rw [hw]
  clear hw w5
  go_wp2_with fail
  refine (loose_no w4).mono ?_
  intro e w5 hh
  obtain ⟨rfl, hw⟩ := hh
  rw [hw]
  clear hw w5
  go_wp2_with fail
  go_ret
  exact ⟨rfl, HB4.out⟩
end Go.Proofs.YtgiilaaoeefpmaaGreat.Gr
