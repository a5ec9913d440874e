import Derived.Test.YtkdepeadledpnaaGrPol2
import Derived.Defers
import Derived.Recover
import Derived.Laws.Pointers
namespace Go.Proofs.Ytkdepeadledpnaa.Gr
open Go.RowKit Go.Proofs.Ytkdepeadledpnaa.Sp Go.Proofs.Ytkdepeadledpnaa.Lx Go.Maps

/-- the variables of the results, at B -/
structure Vars (B : Nat) (w : World) (a b c d : Value) : Prop where
  r : w.heap[B]? = some (.cells #[a] 24 (0, 0))
  p : w.heap[B + 1]? = some (.cells #[b] 25 (0, 0))
  f : w.heap[B + 2]? = some (.cells #[c, d] 28 (0, 0))

section
variable {B : Nat} {w : World} {a b c d : Value}
theorem Vars.setR (h : Vars B w a b c d) (v : Value) : Vars B (w.setCell ⟨B, 0, none⟩ v) v b c d :=
  ⟨(set_blk h.r).trans rfl, (Below.heap_setCell w _ v (B + 1) (by show B + 1 ≠ B; omega)).trans h.p, (Below.heap_setCell w _ v (B + 2) (by show B + 2 ≠ B; omega)).trans h.f⟩
theorem Vars.setP (h : Vars B w a b c d) (v : Value) : Vars B (w.setCell ⟨B + 1, 0, none⟩ v) a v c d :=
  ⟨(Below.heap_setCell w _ v B (by show B ≠ B + 1; omega)).trans h.r, (set_blk h.p).trans rfl, (Below.heap_setCell w _ v (B + 2) (by show B + 2 ≠ B + 1; omega)).trans h.f⟩
theorem Vars.setE (h : Vars B w a b c d) (v : Value) : Vars B (w.setCell ⟨B + 2, 0, none⟩ v) a b v d :=
  ⟨(Below.heap_setCell w _ v B (by show B ≠ B + 2; omega)).trans h.r, (Below.heap_setCell w _ v (B + 1) (by show B + 1 ≠ B + 2; omega)).trans h.p, (set_blk h.f).trans rfl⟩
theorem Vars.setA (h : Vars B w a b c d) (v : Value) : Vars B (w.setCell ⟨B + 2, 1, none⟩ v) a b c v :=
  ⟨(Below.heap_setCell w _ v B (by show B ≠ B + 2; omega)).trans h.r, (Below.heap_setCell w _ v (B + 1) (by show B + 1 ≠ B + 2; omega)).trans h.p, (set_blk h.f).trans rfl⟩
theorem Vars.drew (h : Vars B w a b c d) : Vars B w.drew a b c d := ⟨h.r, h.p, h.f⟩
theorem Vars.put (h : Vars B w a b c d) (a' b' c' d' : Value) : Vars B ((((w.setCell ⟨B, 0, none⟩ a').setCell ⟨B + 1, 0, none⟩ b').setCell ⟨B + 2, 0, none⟩ c').setCell ⟨B + 2, 1, none⟩ d').drew a' b' c' d' ∧
    Below B w ((((w.setCell ⟨B, 0, none⟩ a').setCell ⟨B + 1, 0, none⟩ b').setCell ⟨B + 2, 0, none⟩ c').setCell ⟨B + 2, 1, none⟩ d').drew :=
  ⟨((((h.setR a').setP b').setE c').setA d').drew,
   (((((Below.refl B w).setCell (p := ⟨B, 0, none⟩) (Nat.le_refl B) a').setCell (p := ⟨B + 1, 0, none⟩) (by show B ≤ B + 1; omega) b').setCell (p := ⟨B + 2, 0, none⟩) (by show B ≤ B + 2; omega) c').setCell (p := ⟨B + 2, 1, none⟩) (by show B ≤ B + 2; omega) d').drew⟩
end

theorem vars_oth (w : World) (B k : Nat) (hk : B + 3 ≤ k) (a b c d : Value) : ((((w.setCell ⟨B, 0, none⟩ a).setCell ⟨B + 1, 0, none⟩ b).setCell ⟨B + 2, 0, none⟩ c).setCell ⟨B + 2, 1, none⟩ d).drew.heap[k]? = w.heap[k]? := by
  rw [heap_drew, Below.heap_setCell _ _ _ k (by show k ≠ B + 2; omega), Below.heap_setCell _ _ _ k (by show k ≠ B + 2; omega), Below.heap_setCell _ _ _ k (by show k ≠ B + 1; omega), Below.heap_setCell _ _ _ k (by show k ≠ B; omega)]

set_option maxHeartbeats 1600000 in
theorem catch_panicking (B er i : Nat) (a b c d : Value) (w : World) (h : Vars B w a b c d) :
    CallsD Try.prog 23 #[.pointer (some ⟨B, 0, none⟩), .pointer (some ⟨B + 1, 0, none⟩), .pointer (some ⟨B + 2, 0, none⟩)] (.panicking [{ v := .iface 28 (.agg #[.int .i64 er, .int .i64 i]), recovered := false }]) w fun e u' w' =>
      e = .returned (.tuple #[]) ∧ u' = .panicking [{ v := .iface 28 (.agg #[.int .i64 er, .int .i64 i]), recovered := true }] ∧ Vars B w' (.slice none 0 0) (.slice none 0 0) (.int .i64 er) (.int .i64 i) ∧ Below B w w' := by
  have c0 : w.cell? ⟨B, 0, none⟩ = some a := by simp [World.cell?, h.r]
  have c1 : w.cell? ⟨B + 1, 0, none⟩ = some b := by simp [World.cell?, h.p]
  have c2 : w.cell? ⟨B + 2, 0, none⟩ = some c := by simp [World.cell?, h.f]
  have c3 : w.cell? ⟨B + 2, 1, none⟩ = some d := by simp [World.cell?, h.f]
  have f0 : w.frozen? ⟨B, 0, none⟩ = false := by simp [World.frozen?, h.r]
  have f1 : w.frozen? ⟨B + 1, 0, none⟩ = false := by simp [World.frozen?, h.p]
  have f2 : w.frozen? ⟨B + 2, 0, none⟩ = false := by simp [World.frozen?, h.f]
  have f3 : w.frozen? ⟨B + 2, 1, none⟩ = false := by simp [World.frozen?, h.f]
  have hta : ∀ (v : Value) (w : World), (Instr.typeAssert (.iface 28 v) 20 28 false).run Try.prog w = .ok v w := fun _ _ => by kernel_rfl
  refine callsD_of_wpS Try.func23 rfl fun c₀ cs hu => ?_
  apply wpS_seq
  apply wpS_region
  simp [wpOpsS, go_sem, recoverD, hu, Try.ntmps23, Exit.thenS, Array.replicate, List.replicate]
  refine wpS_of_wp ?_
  go_wp2
  go_region
  obtain ⟨v1, v2⟩ := h.put (.slice none 0 0) (.slice none 0 0) (.int .i64 er) (.int .i64 i)
  exact ⟨rfl, _, rfl, .tuple #[], by simp [results, Try.results23], rfl, rfl, v1, v2⟩

theorem catch_idle (B : Nat) (w : World) :
    CallsD Try.prog 23 #[.pointer (some ⟨B, 0, none⟩), .pointer (some ⟨B + 1, 0, none⟩), .pointer (some ⟨B + 2, 0, none⟩)] .returning w fun e u' w' => e = .returned (.tuple #[]) ∧ u' = .returning ∧ w' = w := by
  refine callsD_of_wpS Try.func23 rfl fun c₀ cs hu => ?_
  apply wpS_seq
  apply wpS_region
  simp [wpOpsS, go_sem, recoverD, hu, Try.ntmps23, Exit.thenS, Array.replicate, List.replicate]
  refine wpS_of_wp ?_
  go_wp2
  cases c₀
  simp_all [bodyPostS, results, Try.results23]

/-- the same things read, in a later world -/
def Env.at (E : Env) (w : World) : Env := { E with w0 := w }
theorem Env.at_fix {E : Env} {w W : World} (hb : Below E.w0.heap.size E.w0 w) (h : (E.at w).Fix W) : E.Fix W :=
  ⟨h.os.trans hb.os, h.tape.trans hb.tape, h.output.trans hb.output, Nat.le_trans hb.size h.size, fun k h1 h2 => (h.block k (Nat.lt_of_lt_of_le h1 hb.size) h2).trans (hb.block k h1)⟩
theorem Env.at_ok {E : Env} {w : World} (ok : E.Ok) (hb : Below E.w0.heap.size E.w0 w) : (E.at w).Ok :=
  ⟨Nat.lt_of_lt_of_le ok.gl hb.size, fun W hW => ok.text W (Env.at_fix hb hW), fun W hW => ok.toks W (Env.at_fix hb hW), ok.tcap, ok.size, ok.len, ok.tok, ok.fin⟩
theorem Env.at_tabs {E : Env} {w : World} (T : E.Tabs) (hb : Below E.w0.heap.size E.w0 w) : (E.at w).Tabs :=
  ⟨fun W hW => T.decls W (Env.at_fix hb hW), fun W hW => T.events W (Env.at_fix hb hW), fun W hW => T.doings W (Env.at_fix hb hW), fun W hW => T.items W (Env.at_fix hb hW), fun W hW => T.bares W (Env.at_fix hb hW), fun W hW => T.signs W (Env.at_fix hb hW)⟩
def ps0 : PS := ⟨0, 0, [], []⟩
def Env.cells0 (E : Env) : Array Value := E.cells (.slice none 0 0) (.slice none 0 0) ps0
theorem par0 (E : Env) (hl : 0 < E.ts.length) (hb : E.w0.heap[E.g]? = some (.cells E.cells0 49 (0, 0))) : Par E.w0 E (.slice none 0 0) (.slice none 0 0) ps0 :=
  ⟨⟨rfl, rfl, rfl, Nat.le_refl _, fun _ _ _ => rfl⟩, hb, World.ownsRow_nil _ _ _ _, World.ownsRow_nil _ _ _ _, Or.inl rfl, hl, by show 0 ≤ 64; omega, by show 0 ≤ 0 + 1; omega, by show 0 ≤ 0 + 1; omega⟩

/-- what tree tells -/
def Tree (w : World) (r : R Unit) (e : Ending) (w' : World) : Prop :=
  match r with
  | .ok _ s => ∃ a b, e = .returned (.tuple #[a, b, .agg #[.int .i64 0, .int .i64 0]]) ∧ w'.ownsRow w.heap.size 33 5 a s.rows.length (s.rows.flatMap rc) ∧ w'.ownsRow w.heap.size 3 1 b s.places.length (s.places.map nc)
  | .die er i => e = .returned (.tuple #[.slice none 0 0, .slice none 0 0, .agg #[.int .i64 er, .int .i64 i]])

set_option maxHeartbeats 3200000 in
theorem tree_any (E : Env) (ok : E.Ok) (T : E.Tabs) (hl : 0 < E.ts.length) (hb : E.w0.heap[E.g]? = some (.cells E.cells0 49 (0, 0))) (n : Nat) (r : R Unit) (hr : policy (E.at (((E.w0.alloc (.cells #[.slice none 0 0] 24)).alloc (.cells #[.slice none 0 0] 25)).alloc (.cells #[.int .i64 0, .int .i64 0] 28))) n ps0 = some r) :
    Calls Try.prog 14 #[.pointer (some ⟨E.g, 0, none⟩)] E.w0 fun e w' => Tree E.w0 r e w' ∧ E.Fix w' := by
  have hmf : ∀ (fn : Fn) (first cap : Array Value) (w : World), (Instr.makeFunc fn first cap).run Try.prog w = .ok (.func fn first cap) w := fun _ _ _ _ => rfl
  have hB : Below E.w0.heap.size E.w0 (((E.w0.alloc (.cells #[.slice none 0 0] 24)).alloc (.cells #[.slice none 0 0] 25)).alloc (.cells #[.int .i64 0, .int .i64 0] 28)) := (((Below.refl _ _).alloc (Nat.le_refl _) _).alloc (by simp) _).alloc (by simp; omega) _
  have ok2 := Env.at_ok ok hB
  have hP := policy_any _ ok2 (Env.at_tabs T hB) n _ _ _ ps0 (par0 _ hl ((hB.block _ ok.gl).trans hb)) ⟨rfl, Nat.zero_le _⟩ r hr
  have hv : Vars E.w0.heap.size (((E.w0.alloc (.cells #[.slice none 0 0] 24)).alloc (.cells #[.slice none 0 0] 25)).alloc (.cells #[.int .i64 0, .int .i64 0] 28)) (.slice none 0 0) (.slice none 0 0) (.int .i64 0) (.int .i64 0) := by
    refine ⟨?_, ?_, ?_⟩
    · rw [Below.heap_alloc _ _ _ (by simp; omega), Below.heap_alloc _ _ _ (by simp)]
      exact heap_alloc_new _ _
    · rw [Below.heap_alloc _ _ _ (by simp)]
      have := heap_alloc_new (E.w0.alloc (.cells #[.slice none 0 0] 24)) (.cells #[.slice none 0 0] 25)
      simpa using this
    · have := heap_alloc_new ((E.w0.alloc (.cells #[.slice none 0 0] 24)).alloc (.cells #[.slice none 0 0] 25)) (.cells #[.int .i64 0, .int .i64 0] 28)
      simpa using this
  have HP : Hid (Calls Try.prog 24 #[.pointer (some ⟨E.g, 0, none⟩)] (((E.w0.alloc (.cells #[.slice none 0 0] 24)).alloc (.cells #[.slice none 0 0] 25)).alloc (.cells #[.int .i64 0, .int .i64 0] 28)) fun e w' => Post (E.at (((E.w0.alloc (.cells #[.slice none 0 0] 24)).alloc (.cells #[.slice none 0 0] 25)).alloc (.cells #[.int .i64 0, .int .i64 0] 28))) (((E.w0.alloc (.cells #[.slice none 0 0] 24)).alloc (.cells #[.slice none 0 0] 25)).alloc (.cells #[.int .i64 0, .int .i64 0] 28)) (.slice none 0 0) (.slice none 0 0) (fun _ => .tuple #[]) r e w') := hP
  have HV : Hid (Vars E.w0.heap.size (((E.w0.alloc (.cells #[.slice none 0 0] 24)).alloc (.cells #[.slice none 0 0] 25)).alloc (.cells #[.int .i64 0, .int .i64 0] 28)) (.slice none 0 0) (.slice none 0 0) (.int .i64 0) (.int .i64 0)) := hv
  have HB : Hid (Below E.w0.heap.size E.w0 (((E.w0.alloc (.cells #[.slice none 0 0] 24)).alloc (.cells #[.slice none 0 0] 25)).alloc (.cells #[.int .i64 0, .int .i64 0] 28))) := hB
  have HO : Hid E.Ok := ok
  have HZ : Hid ((((E.w0.alloc (.cells #[.slice none 0 0] 24)).alloc (.cells #[.slice none 0 0] 25)).alloc (.cells #[.int .i64 0, .int .i64 0] 28)).heap.size = E.w0.heap.size + 3) := by show _ = _; simp
  clear hP hv hB ok2 hr hb hl T ok
  go_enter_defers Try.func14, Try.ntmps14
  go_wp2_with fail
  generalize (((E.w0.alloc (.cells #[.slice none 0 0] 24)).alloc (.cells #[.slice none 0 0] 25)).alloc (.cells #[.int .i64 0, .int .i64 0] 28)) = W at *
  refine HP.out.mono ?_
  intro e w1 hp
  have HVof : ∀ w1, (E.at W).Fix w1 → Vars E.w0.heap.size w1 (.slice none 0 0) (.slice none 0 0) (.int .i64 0) (.int .i64 0) := fun w1 hF => by
    have hz := HZ.out
    have hg := HO.out.gl
    exact ⟨(hF.block _ (by show _ < W.heap.size; omega) (by show _ ≠ E.g; omega)).trans HV.out.r, (hF.block _ (by show _ < W.heap.size; omega) (by show _ ≠ E.g; omega)).trans HV.out.p, (hF.block _ (by show _ < W.heap.size; omega) (by show _ ≠ E.g; omega)).trans HV.out.f⟩
  have hfx : ∀ w1 w2, (E.at W).Fix w1 → Below E.w0.heap.size w1 w2 → E.Fix w2 := fun w1 w2 h1 h2 => by
    have h3 := Env.at_fix HB.out h1
    exact ⟨h2.os.trans h3.os, h2.tape.trans h3.tape, h2.output.trans h3.output, Nat.le_trans h3.size h2.size, fun k h4 h5 => (h2.block k h4).trans (h3.block k h4 h5)⟩
  cases r with
  | die er i =>
    obtain ⟨rfl, hF⟩ := hp
    have HV1 : Hid (Vars E.w0.heap.size w1 (.slice none 0 0) (.slice none 0 0) (.int .i64 0) (.int .i64 0)) := HVof w1 hF
    have HF1 : Hid (∀ w2, Below E.w0.heap.size w1 w2 → E.Fix w2) := fun w2 h2 => hfx w1 w2 hF h2
    clear hF HVof hfx HP HV HB HZ
    go_wp2
    refine leaves_cons (f := 23) (args := #[.pointer (some ⟨E.w0.heap.size, 0, none⟩), .pointer (some ⟨E.w0.heap.size + 1, 0, none⟩), .pointer (some ⟨E.w0.heap.size + 2, 0, none⟩)]) (by simp) (by simp [go_sem]) ?_
    refine (catch_panicking E.w0.heap.size er i _ _ _ _ w1 HV1.out).mono ?_
    rintro e u' w2 ⟨rfl, rfl, hV2, hB2⟩
    have c0 : w2.cell? ⟨E.w0.heap.size, 0, none⟩ = some (.slice none 0 0) := by simp [World.cell?, hV2.r]
    have c1 : w2.cell? ⟨E.w0.heap.size + 1, 0, none⟩ = some (.slice none 0 0) := by simp [World.cell?, hV2.p]
    have c2 : w2.cell? ⟨E.w0.heap.size + 2, 0, none⟩ = some (.int .i64 er) := by simp [World.cell?, hV2.f]
    have c3 : w2.cell? ⟨E.w0.heap.size + 2, 1, none⟩ = some (.int .i64 i) := by simp [World.cell?, hV2.f]
    have HFin : Hid (E.Fix w2) := HF1.out w2 hB2
    clear hV2 hB2
    simp [Leaves, settle, results, Try.results14, go_sem, c0, c1, c2, c3]
    exact ⟨rfl, HFin.out⟩
  | ok a s1 =>
    obtain ⟨rfl, rv1, pv1, hP1, hM1⟩ := hp
    have hV1 := HVof w1 hP1.fix
    have c0 : w1.cell? ⟨E.w0.heap.size, 0, none⟩ = some (.slice none 0 0) := by simp [World.cell?, hV1.r]
    have c1 : w1.cell? ⟨E.w0.heap.size + 1, 0, none⟩ = some (.slice none 0 0) := by simp [World.cell?, hV1.p]
    have c2 : w1.cell? ⟨E.w0.heap.size + 2, 0, none⟩ = some (.int .i64 0) := by simp [World.cell?, hV1.f]
    have c3 : w1.cell? ⟨E.w0.heap.size + 2, 1, none⟩ = some (.int .i64 0) := by simp [World.cell?, hV1.f]
    have f0 : w1.frozen? ⟨E.w0.heap.size, 0, none⟩ = false := by simp [World.frozen?, hV1.r]
    have f1 : w1.frozen? ⟨E.w0.heap.size + 1, 0, none⟩ = false := by simp [World.frozen?, hV1.p]
    have f2 : w1.frozen? ⟨E.w0.heap.size + 2, 0, none⟩ = false := by simp [World.frozen?, hV1.f]
    have f3 : w1.frozen? ⟨E.w0.heap.size + 2, 1, none⟩ = false := by simp [World.frozen?, hV1.f]
    have c6 : w1.cell? ⟨E.g, 6, none⟩ = some rv1 := hP1.cells.2.2.2.2.2.2.1
    have c7 : w1.cell? ⟨E.g, 7, none⟩ = some pv1 := hP1.cells.2.2.2.2.2.2.2
    have hgl := HO.out.gl
    have n0 : ¬ (E.g = E.w0.heap.size) := by omega
    have n1 : ¬ (E.g = E.w0.heap.size + 1) := by omega
    have n2 : ¬ (E.g = E.w0.heap.size + 2) := by omega
    obtain ⟨ro, rcp, hr1⟩ := own_form hP1.rows
    obtain ⟨po, pcp, hp1⟩ := own_form hP1.places
    have HP1 : Hid (Par w1 (E.at W) rv1 pv1 s1) := hP1
    subst hr1
    subst hp1
    have HV1 : Hid (Vars E.w0.heap.size w1 (.slice none 0 0) (.slice none 0 0) (.int .i64 0) (.int .i64 0)) := hV1
    have HF1 : Hid (∀ w2, Below E.w0.heap.size w1 w2 → E.Fix w2) := fun w2 h2 => hfx w1 w2 hP1.fix h2
    clear hV1 hP1 hM1 HVof hfx HP HV HB hgl
    go_wp2_with fail
    go_region
    go_wp2_with fail
    have hv : Vars E.w0.heap.size ((((w1.setCell ⟨E.w0.heap.size, 0, none⟩ (.slice ro s1.rows.length rcp)).setCell ⟨E.w0.heap.size + 1, 0, none⟩ (.slice po s1.places.length pcp)).setCell ⟨E.w0.heap.size + 1 + 1, 0, none⟩ (.int .i64 0)).setCell ⟨E.w0.heap.size + 1 + 1, 1, none⟩ (.int .i64 0)).drew (.slice ro s1.rows.length rcp) (.slice po s1.places.length pcp) (.int .i64 0) (.int .i64 0) ∧
        Below E.w0.heap.size w1 ((((w1.setCell ⟨E.w0.heap.size, 0, none⟩ (.slice ro s1.rows.length rcp)).setCell ⟨E.w0.heap.size + 1, 0, none⟩ (.slice po s1.places.length pcp)).setCell ⟨E.w0.heap.size + 1 + 1, 0, none⟩ (.int .i64 0)).setCell ⟨E.w0.heap.size + 1 + 1, 1, none⟩ (.int .i64 0)).drew ∧
        ∀ k, E.w0.heap.size + 3 ≤ k → ((((w1.setCell ⟨E.w0.heap.size, 0, none⟩ (.slice ro s1.rows.length rcp)).setCell ⟨E.w0.heap.size + 1, 0, none⟩ (.slice po s1.places.length pcp)).setCell ⟨E.w0.heap.size + 1 + 1, 0, none⟩ (.int .i64 0)).setCell ⟨E.w0.heap.size + 1 + 1, 1, none⟩ (.int .i64 0)).drew.heap[k]? = w1.heap[k]? :=
      ⟨(HV1.out.put _ _ _ _).1, (HV1.out.put _ _ _ _).2, fun k hk => vars_oth w1 E.w0.heap.size k hk _ _ _ _⟩
    generalize ((((w1.setCell ⟨E.w0.heap.size, 0, none⟩ (.slice ro s1.rows.length rcp)).setCell ⟨E.w0.heap.size + 1, 0, none⟩ (.slice po s1.places.length pcp)).setCell ⟨E.w0.heap.size + 1 + 1, 0, none⟩ (.int .i64 0)).setCell ⟨E.w0.heap.size + 1 + 1, 1, none⟩ (.int .i64 0)).drew = w2 at *
    obtain ⟨hV2, hB2, hO2⟩ := hv
    have d0 : w2.cell? ⟨E.w0.heap.size, 0, none⟩ = some (.slice ro s1.rows.length rcp) := by simp [World.cell?, hV2.r]
    have d1 : w2.cell? ⟨E.w0.heap.size + 1, 0, none⟩ = some (.slice po s1.places.length pcp) := by simp [World.cell?, hV2.p]
    have d2 : w2.cell? ⟨E.w0.heap.size + 2, 0, none⟩ = some (.int .i64 0) := by simp [World.cell?, hV2.f]
    have d3 : w2.cell? ⟨E.w0.heap.size + 2, 1, none⟩ = some (.int .i64 0) := by simp [World.cell?, hV2.f]
    have HFin : Hid (E.Fix w2 ∧ w2.ownsRow E.w0.heap.size 33 5 (.slice ro s1.rows.length rcp) s1.rows.length (s1.rows.flatMap rc) ∧ w2.ownsRow E.w0.heap.size 3 1 (.slice po s1.places.length pcp) s1.places.length (s1.places.map nc)) := by
      have hz := HZ.out
      refine ⟨HF1.out w2 hB2, own_base (own_of_block HP1.out.rows fun k hk => hO2 k ?_) (by show _ ≤ W.heap.size; omega), own_base (own_of_block HP1.out.places fun k hk => hO2 k ?_) (by show _ ≤ W.heap.size; omega)⟩
      · have h1 : W.heap.size ≤ k := (World.ownsRow.lt HP1.out.rows k hk).1
        omega
      · have h1 : W.heap.size ≤ k := (World.ownsRow.lt HP1.out.places k hk).1
        omega
    clear hV2 hB2 hO2 c0 c1 c2 c3 f0 f1 f2 f3 c6 c7 n0 n1 n2 HP1 HV1 HF1
    refine leaves_cons (f := 23) (args := #[.pointer (some ⟨E.w0.heap.size, 0, none⟩), .pointer (some ⟨E.w0.heap.size + 1, 0, none⟩), .pointer (some ⟨E.w0.heap.size + 2, 0, none⟩)]) (by simp) (by simp [go_sem]) ?_
    refine (catch_idle E.w0.heap.size w2).mono ?_
    rintro e u' w3 ⟨rfl, rfl, rfl⟩
    simp [Leaves, settle, results, Try.results14, go_sem, d0, d1, d2, d3]
    exact ⟨⟨_, _, rfl, HFin.out.2⟩, HFin.out.1⟩
end Go.Proofs.Ytkdepeadledpnaa.Gr
