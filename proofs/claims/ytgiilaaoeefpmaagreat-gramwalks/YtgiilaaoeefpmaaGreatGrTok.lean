import Derived.Test.YtgiilaaoeefpmaaGreatGrBase
namespace Go.Proofs.YtgiilaaoeefpmaaGreat.Gr
open Go.RowKit Go.Proofs.YtgiilaaoeefpmaaGreat.Sp Go.Proofs.YtgiilaaoeefpmaaGreat.Lx

/-- what a rule answers: something, and where the parser is then; or a fault that ends all -/
inductive R (α : Type) where
  | ok (a : α) (s : PS)
  | die (er i : Nat)
def R.bind {α β : Type} (r : R α) (f : α → PS → R β) : R β :=
  match r with
  | .ok a s => f a s
  | .die er i => .die er i

/-- of the blocks that were, the parser's alone has turned -/
structure Mv1 (E : Env) (w w' : World) : Prop where
  os : w'.os = w.os
  tape : w'.tape = w.tape
  output : w'.output = w.output
  size : w.heap.size ≤ w'.heap.size
  block : ∀ k, k < w.heap.size → k ≠ E.g → w'.heap[k]? = w.heap[k]?
theorem Mv1.refl (E : Env) (w : World) : Mv1 E w w := ⟨rfl, rfl, rfl, Nat.le_refl _, fun _ _ _ => rfl⟩
theorem Mv1.trans {E : Env} {a b c : World} (h : Mv1 E a b) (k : Mv1 E b c) : Mv1 E a c :=
  ⟨k.os.trans h.os, k.tape.trans h.tape, k.output.trans h.output, Nat.le_trans h.size k.size, fun i hi hg => (k.block i (Nat.lt_of_lt_of_le hi h.size) hg).trans (h.block i hi hg)⟩
theorem Mv1.of_below {E : Env} {w w' : World} (h : Below w.heap.size w w') : Mv1 E w w' := ⟨h.os, h.tape, h.output, h.size, fun k hk _ => h.block k hk⟩
theorem Mv1.set (E : Env) (w : World) (i : Nat) (v : Value) : Mv1 E w (w.setCell ⟨E.g, i, none⟩ v) :=
  ⟨rfl, rfl, rfl, by simp [World.setCell], fun k _ hk => Below.heap_setCell w _ v k hk⟩
theorem Mv1.fix {E : Env} {w w' : World} (m : Mv1 E w w') (h : E.Fix w) : E.Fix w' :=
  ⟨m.os.trans h.os, m.tape.trans h.tape, m.output.trans h.output, Nat.le_trans h.size m.size, fun k h1 h2 => (m.block k (Nat.lt_of_lt_of_le h1 h.size) h2).trans (h.block k h1 h2)⟩

theorem own_mv1 {E : Env} {w w' : World} {base : Nat} {e : TypeId} {size : Nat} {v : Value} {n : Nat} {xs : List Value} (h : w.ownsRow base e size v n xs) (m : Mv1 E w w') (hg : E.g < base) : w'.ownsRow base e size v n xs := by
  refine World.ownsRow.kept h (row := some E.g) ⟨m.os, m.tape, m.output, m.size, fun k hk hne => m.block k hk (fun e => hne (by rw [e]))⟩ ?_
  cases hv : v.ownBlock with
  | none => exact Or.inl rfl
  | some k =>
    refine Or.inr ?_
    have := (World.ownsRow.lt h _ hv).1
    intro e
    cases e
    omega

theorem set_blk {w : World} {g i : Nat} {c : Array Value} {T : TypeId} {f : Nat × Nat} {v : Value} (h : w.heap[g]? = some (.cells c T f)) : (w.setCell ⟨g, i, none⟩ v).heap[g]? = some (.cells (c.setIfInBounds i v) T f) := by
  simp [World.setCell, Array.getElem?_modify, h]

/-- a cell of the parser's is written -/
theorem Par.put {w : World} {E : Env} {rv pv : Value} {s s' : PS} (ok : E.Ok) (h : Par w E rv pv s) (i : Nat) (v : Value) (hc : (E.cells rv pv s).setIfInBounds i v = E.cells rv pv s')
    (hr : s'.rows = s.rows) (hp : s'.places = s.places) (hn : s'.next < E.ts.length) (hl : s'.lev ≤ 64) (ht : s.next ≤ s'.next) : Par (w.setCell ⟨E.g, i, none⟩ v) E rv pv s' := by
  have m := Mv1.set E w i v
  refine ⟨m.fix h.fix, ?_, ?_, ?_, h.apart, hn, hl, ?_, ?_⟩
  · rw [← hc]; exact set_blk h.blk
  · rw [hr]; exact own_mv1 h.rows m ok.gl
  · rw [hp]; exact own_mv1 h.places m ok.gl
  · have := h.cr; rw [hr]; omega
  · have := h.cp; rw [hp]; omega

/-- what a rule that lays no row leaves -/
def Post1 {α : Type} (E : Env) (w : World) (rv pv : Value) (val : α → Value) (r : R α) (e : Ending) (w' : World) : Prop :=
  match r with
  | .ok a s' => e = .returned (val a) ∧ Par w' E rv pv s' ∧ Mv1 E w w'
  | .die er i => e = thrown er i ∧ E.Fix w'

def Env.tok (E : Env) (s : PS) : Tok := E.ts.getD s.next ⟨0, 0, 0, 0⟩
theorem Env.tok_at {E : Env} {s : PS} (h : s.next < E.ts.length) : E.ts[s.next]? = some (E.tok s) := by
  unfold Env.tok
  rw [List.getD_eq_getElem?_getD, List.getElem?_eq_getElem h]
  rfl
def Env.wd (E : Env) (s : PS) : ByteArray := E.s.extract (E.tok s).at_ (E.tok s).stop
/-- lex's fault is there -/
def Env.bad (E : Env) (s : PS) : Bool := (E.tok s).kind == 0 && E.ce != 0
def PS.skip (s : PS) : PS := { s with next := s.next + 1 }
def fail {α : Type} (E : Env) (er : Nat) (s : PS) : R α := if E.bad s then .die E.ce E.ca else .die er (E.tok s).at_
def takes (E : Env) (x : ByteArray) (s : PS) : R Bool := if E.bad s then .die E.ce E.ca else if E.wd s = x then .ok true s.skip else .ok false s
def must (E : Env) (x : ByteArray) (s : PS) : R Unit := (takes E x s).bind fun b s => if b then .ok () s else fail E 21 s
def name (E : Env) (s : PS) : R ByteArray := if E.bad s then .die E.ce E.ca else if (E.tok s).kind = 2 then .ok (E.wd s) s.skip else fail E 21 s
def rise (E : Env) (s : PS) : R Unit := if s.lev = 64 then fail E 22 s else .ok () { s with lev := s.lev + 1 }
def opens (E : Env) (x : ByteArray) (s : PS) : R Unit := if E.bad s then .die E.ce E.ca else if E.wd s = x then (rise E s).bind fun _ s => .ok () s.skip else fail E 21 s
def shut (E : Env) (x : ByteArray) (s : PS) : R Unit := (must E x s).bind fun _ s => .ok () { s with lev := s.lev - 1 }

theorem bad_iff {E : Env} {s : PS} (h : E.bad s = true) : (E.tok s).kind = 0 ∧ E.ce ≠ 0 := by
  simpa [Env.bad] using h
theorem bad_not {E : Env} {s : PS} (h : E.bad s = false) : (E.tok s).kind ≠ 0 ∨ E.ce = 0 := by
  by_cases h0 : (E.tok s).kind = 0
  · right
    by_cases h1 : E.ce = 0
    · exact h1
    · rw [show E.bad s = true by simp [Env.bad, h0, h1]] at h
      cases h
  · exact Or.inl h0

theorem fld0 (a b c d : Value) (w : World) : (Instr.field 94 (.agg #[a, b, c, d]) 0).run Tryz.prog w = .ok a w := by kernel_rfl
theorem fld1 (a b c d : Value) (w : World) : (Instr.field 94 (.agg #[a, b, c, d]) 1).run Tryz.prog w = .ok b w := by kernel_rfl
theorem fld3 (a b c d : Value) (w : World) : (Instr.field 94 (.agg #[a, b, c, d]) 3).run Tryz.prog w = .ok d w := by kernel_rfl
theorem str_ne {a b : ByteArray} (h : ¬ a = b) : (a.toList == b.toList) = false := by
  rw [ByteArray.toList_eq, ByteArray.toList_eq]
  refine beq_eq_false_iff_ne.2 fun e => h ?_
  apply ByteArray.ext
  exact Array.toList_inj.1 e
theorem str_same (a : ByteArray) : (a.toList == a.toList) = true := by simp

section
variable (E : Env) (ok : E.Ok) (w : World) (rv pv : Value) (s : PS) (h : Par w E rv pv s)
include ok h

/-- a token with bytes is not the last -/
theorem more (x : ByteArray) (hx : 0 < x.size) (e : E.wd s = x) : s.next + 1 < E.ts.length := by
  rcases ok.fin _ _ (Env.tok_at h.nx) with ⟨_, _, h3⟩ | ⟨h1, _⟩
  · have : (E.wd s).size = 0 := by unfold Env.wd; rw [ByteArray.size_extract, h3]; omega
    rw [e] at this
    omega
  · exact h1

set_option maxHeartbeats 800000 in
set_option maxRecDepth 100000 in
theorem skip_any (hn : s.next + 1 < E.ts.length) : Calls Tryz.prog 126 #[.pointer (some ⟨E.g, 0, none⟩)] w fun e w' =>
    e = .returned (.tuple #[]) ∧ w' = w.setCell ⟨E.g, 4, none⟩ (.int .i64 ((s.next : Int) + 1)) := by
  obtain ⟨_, _, _, _, c4, _⟩ := h.cells
  have f4 := h.fro 4
  have hb : (s.next : Int) < 65537 := by have := ok.len; omega
  have hb0 : (0 : Int) ≤ (s.next : Int) := by omega
  go_enter Tryz.func126, Tryz.ntmps126
  go_wp2
  go_end0
  exact ⟨rfl, rfl⟩
theorem skipped (hn : s.next + 1 < E.ts.length) : Par (w.setCell ⟨E.g, 4, none⟩ (.int .i64 ((s.next : Int) + 1))) E rv pv s.skip := by
  refine h.put ok 4 _ ?_ rfl rfl hn h.lev (by simp [PS.skip])
  simp [Env.cells, PS.skip]

set_option maxHeartbeats 800000 in
set_option maxRecDepth 100000 in
theorem fail_any (er : Nat) : Calls Tryz.prog 100 #[.pointer (some ⟨E.g, 0, none⟩), .int .i64 er] w fun e w' => Post1 (α := Unit) E w rv pv (fun _ => .tuple #[]) (fail E er s) e w' := by
  have HP : Hid (Par w E rv pv s) := h
  cases hb : E.bad s with
  | true =>
    unfold fail
    rw [hb]
    have HK : Hid ((E.tok s).kind = 0 ∧ E.ce ≠ 0) := bad_iff hb
    clear hb h
    go_enter Tryz.func100, Tryz.ntmps100
    go_wp2_with fail
    refine (token_die E ok w rv pv s HP.out _ (Env.tok_at HP.out.nx) HK.out.1 HK.out.2).mono ?_
    rintro e w1 ⟨rfl, hB⟩
    have HB : Hid (Below w.heap.size w w1) := hB
    clear hB
    go_wp2
    exact ⟨rfl, rfl, HP.out.fix.below HB.out⟩
  | false =>
    unfold fail
    rw [hb]
    have HK : Hid ((E.tok s).kind ≠ 0 ∨ E.ce = 0) := bad_not hb
    have hf1 := fld1
    clear hb h
    go_enter Tryz.func100, Tryz.ntmps100
    go_wp2_with fail
    refine (token_ok E ok w rv pv s HP.out _ (Env.tok_at HP.out.nx) HK.out).mono ?_
    rintro e w1 ⟨rfl, hB⟩
    have HB : Hid (Below w.heap.size w w1) := hB
    clear hB
    go_wp2
    exact ⟨rfl, rfl, HP.out.fix.below HB.out⟩

set_option maxHeartbeats 800000 in
set_option maxRecDepth 100000 in
theorem takes_any (x : ByteArray) (hx : 0 < x.size) : Calls Tryz.prog 119 #[.pointer (some ⟨E.g, 0, none⟩), .string x] w fun e w' => Post1 E w rv pv (fun b => .bool b) (takes E x s) e w' := by
  have HP : Hid (Par w E rv pv s) := h
  cases hb : E.bad s with
  | true =>
    unfold takes
    rw [hb]
    have HK : Hid ((E.tok s).kind = 0 ∧ E.ce ≠ 0) := bad_iff hb
    clear hb h
    go_enter Tryz.func119, Tryz.ntmps119
    go_wp2_with fail
    refine (word_die E ok w rv pv s HP.out _ (Env.tok_at HP.out.nx) HK.out.1 HK.out.2).mono ?_
    rintro e w1 ⟨rfl, hB⟩
    have HB : Hid (Below w.heap.size w w1) := hB
    clear hB
    go_wp2
    exact ⟨rfl, rfl, HP.out.fix.below HB.out⟩
  | false =>
    unfold takes
    rw [hb]
    have HK : Hid ((E.tok s).kind ≠ 0 ∨ E.ce = 0) := bad_not hb
    clear hb h
    have HW := word_ok E ok w rv pv s HP.out _ (Env.tok_at HP.out.nx) HK.out
    change Calls _ _ _ _ (fun e w' => e = .returned (.string (E.wd s)) ∧ _) at HW
    by_cases he : E.wd s = x
    · have hn := more E ok w rv pv s HP.out x hx he
      rw [if_neg (by simp), if_pos he]
      rw [he] at HW
      have HW2 : Hid (Calls Tryz.prog 120 #[.pointer (some ⟨E.g, 0, none⟩)] w fun e w' => e = .returned (.string x) ∧ Below w.heap.size w w') := HW
      clear HW he
      go_enter Tryz.func119, Tryz.ntmps119
      go_wp2_with fail
      refine HW2.out.mono ?_
      rintro e w1 ⟨rfl, hB⟩
      have HB : Hid (Below w.heap.size w w1) := hB
      clear hB
      go_wp2_with fail
      refine (skip_any E ok w1 rv pv s (HP.out.below HB.out) hn).mono ?_
      rintro e w2 ⟨rfl, rfl⟩
      go_wp2
      go_ret
      exact ⟨rfl, skipped E ok w1 rv pv s (HP.out.below HB.out) hn, (Mv1.of_below HB.out).trans (Mv1.set E w1 _ _)⟩
    · rw [if_neg (by simp), if_neg he]
      generalize E.wd s = u at *
      have hne := str_ne he
      have HW2 : Hid (Calls Tryz.prog 120 #[.pointer (some ⟨E.g, 0, none⟩)] w fun e w' => e = .returned (.string u) ∧ Below w.heap.size w w') := HW
      clear HW
      go_enter Tryz.func119, Tryz.ntmps119
      go_wp2_with fail
      refine HW2.out.mono ?_
      rintro e w1 ⟨rfl, hB⟩
      have HB : Hid (Below w.heap.size w w1) := hB
      clear hB
      go_wp2_with fail
      go_ret
      exact ⟨rfl, HP.out.below HB.out, Mv1.of_below HB.out⟩
end

theorem fail_dies {α : Type} (E : Env) (er : Nat) (s : PS) : ∃ a b, fail (α := α) E er s = .die a b ∧ fail (α := Unit) E er s = .die a b := by
  unfold fail; split <;> exact ⟨_, _, rfl, rfl⟩

section
variable (E : Env) (ok : E.Ok) (w : World) (rv pv : Value) (s : PS) (h : Par w E rv pv s)
include ok h
theorem fail_as (er a b : Nat) (hd : fail (α := Unit) E er s = .die a b) : Calls Tryz.prog 100 #[.pointer (some ⟨E.g, 0, none⟩), .int .i64 er] w fun e w' => e = thrown a b ∧ E.Fix w' := by
  have := fail_any E ok w rv pv s h er
  rw [hd] at this
  exact this

set_option maxHeartbeats 800000 in
set_option maxRecDepth 100000 in
theorem must_any (x : ByteArray) (hx : 0 < x.size) : Calls Tryz.prog 94 #[.pointer (some ⟨E.g, 0, none⟩), .string x] w fun e w' => Post1 E w rv pv (fun _ => .tuple #[]) (must E x s) e w' := by
  have HP0 : Hid (Par w E rv pv s) := h
  clear h
  go_enter Tryz.func94, Tryz.ntmps94
  go_wp2_with fail
  refine (takes_any E ok w rv pv s HP0.out x hx).mono ?_
  intro e w1 hp
  cases h1 : takes E x s with
  | die er i =>
    rw [h1] at hp
    obtain ⟨rfl, hF⟩ := hp
    have HF : Hid (E.Fix w1) := hF
    clear hF
    go_wp2
    exact ⟨rfl, by unfold must; rw [h1]; exact ⟨rfl, HF.out⟩⟩
  | ok b s1 =>
    rw [h1] at hp
    obtain ⟨rfl, hP, hM⟩ := hp
    have HP : Hid (Par w1 E rv pv s1 ∧ Mv1 E w w1) := ⟨hP, hM⟩
    clear hP hM
    cases b with
    | true =>
      go_wp2
      go_end0
      unfold must; rw [h1]; exact ⟨rfl, HP.out⟩
    | false =>
      obtain ⟨er, i, hd1, hd2⟩ := fail_dies (α := Unit) E 21 s1
      go_wp2_with fail
      refine (fail_as E ok w1 rv pv s1 HP.out.1 21 er i hd2).mono ?_
      rintro e w2 ⟨rfl, hF⟩
      have HF : Hid (E.Fix w2) := hF
      clear hF
      go_wp2
      refine ⟨rfl, ?_⟩
      have e1 : must E x s = .die er i := by unfold must; rw [h1]; exact hd1
      rw [e1]
      exact ⟨rfl, HF.out⟩

set_option maxHeartbeats 800000 in
set_option maxRecDepth 100000 in
theorem name_any : Calls Tryz.prog 95 #[.pointer (some ⟨E.g, 0, none⟩)] w fun e w' => Post1 E w rv pv (fun b => .string b) (name E s) e w' := by
  have HP0 : Hid (Par w E rv pv s) := h
  have hf0 := fld0
  clear h
  cases hb : E.bad s with
  | true =>
    have HK : Hid ((E.tok s).kind = 0 ∧ E.ce ≠ 0) := bad_iff hb
    have HN : Hid (name E s = .die E.ce E.ca) := by show _ = _; unfold name; rw [if_pos hb]
    clear hb
    go_enter Tryz.func95, Tryz.ntmps95
    go_wp2_with fail
    refine (token_die E ok w rv pv s HP0.out _ (Env.tok_at HP0.out.nx) HK.out.1 HK.out.2).mono ?_
    rintro e w1 ⟨rfl, hB⟩
    have HB : Hid (Below w.heap.size w w1) := hB
    clear hB
    go_wp2
    rw [HN.out]
    exact ⟨rfl, rfl, HP0.out.fix.below HB.out⟩
  | false =>
    have HK : Hid ((E.tok s).kind ≠ 0 ∨ E.ce = 0) := bad_not hb
    by_cases hk : (E.tok s).kind = 2
    · have HN : Hid (name E s = .ok (E.wd s) s.skip) := by show _ = _; unfold name; rw [if_neg (by simp [hb]), if_pos hk]
      have hk2 : (((E.tok s).kind : Int) != 2) = false := by simp; omega
      have hn : s.next + 1 < E.ts.length := by
        rcases ok.fin _ _ (Env.tok_at HP0.out.nx) with ⟨_, h2, _⟩ | ⟨h1, _⟩
        · omega
        · exact h1
      clear hb hk
      go_enter Tryz.func95, Tryz.ntmps95
      go_wp2_with fail
      refine (token_ok E ok w rv pv s HP0.out _ (Env.tok_at HP0.out.nx) HK.out).mono ?_
      rintro e w1 ⟨rfl, hB⟩
      have HB : Hid (Below w.heap.size w w1) := hB
      clear hB
      go_wp2_with fail
      refine (word_ok E ok w1 rv pv s (HP0.out.below HB.out) _ (Env.tok_at HP0.out.nx) HK.out).mono ?_
      rintro e w2 ⟨rfl, hB⟩
      have HB2 : Hid (Below w.heap.size w w2) := HB.out.trans (hB.mono HB.out.size)
      clear hB
      go_wp2_with fail
      refine (skip_any E ok w2 rv pv s (HP0.out.below HB2.out) hn).mono ?_
      rintro e w3 ⟨rfl, rfl⟩
      go_wp2
      go_ret
      rw [HN.out]
      exact ⟨rfl, skipped E ok w2 rv pv s (HP0.out.below HB2.out) hn, (Mv1.of_below HB2.out).trans (Mv1.set E w2 _ _)⟩
    · have HN : Hid (name E s = fail E 21 s) := by show _ = _; unfold name; rw [if_neg (by simp [hb]), if_neg hk]
      have hk2 : (((E.tok s).kind : Int) != 2) = true := by simp; omega
      obtain ⟨er, i, hd1, hd2⟩ := fail_dies (α := ByteArray) E 21 s
      clear hb hk
      go_enter Tryz.func95, Tryz.ntmps95
      go_wp2_with fail
      refine (token_ok E ok w rv pv s HP0.out _ (Env.tok_at HP0.out.nx) HK.out).mono ?_
      rintro e w1 ⟨rfl, hB⟩
      have HB : Hid (Below w.heap.size w w1) := hB
      clear hB
      go_wp2_with fail
      refine (fail_as E ok w1 rv pv s (HP0.out.below HB.out) 21 er i hd2).mono ?_
      rintro e w2 ⟨rfl, hF⟩
      have HF : Hid (E.Fix w2) := hF
      clear hF
      go_wp2
      rw [HN.out, hd1]
      exact ⟨rfl, rfl, HF.out⟩

set_option maxHeartbeats 800000 in
set_option maxRecDepth 100000 in
theorem rise_any : Calls Tryz.prog 125 #[.pointer (some ⟨E.g, 0, none⟩)] w fun e w' => Post1 E w rv pv (fun _ => .tuple #[]) (rise E s) e w' := by
  have HP0 : Hid (Par w E rv pv s) := h
  obtain ⟨_, _, _, _, _, c5, _⟩ := h.cells
  have f5 := h.fro 5
  have hl := h.lev
  clear h
  by_cases h64 : s.lev = 64
  · have HN : Hid (rise E s = fail E 22 s) := by show _ = _; unfold rise; rw [if_pos h64]
    have hk : ((s.lev : Int) == 64) = true := by simp; omega
    obtain ⟨er, i, hd1, hd2⟩ := fail_dies (α := Unit) E 22 s
    clear h64
    go_enter Tryz.func125, Tryz.ntmps125
    go_wp2_with fail
    refine (fail_as E ok w rv pv s HP0.out 22 er i hd2).mono ?_
    rintro e w2 ⟨rfl, hF⟩
    have HF : Hid (E.Fix w2) := hF
    clear hF
    go_wp2
    rw [HN.out, hd1]
    exact ⟨rfl, rfl, HF.out⟩
  · have HN : Hid (rise E s = .ok () { s with lev := s.lev + 1 }) := by show _ = _; unfold rise; rw [if_neg h64]
    have hk : ((s.lev : Int) == 64) = false := by simp; omega
    have hl2 : (s.lev : Int) < 64 := by omega
    have hl0 : (0 : Int) ≤ (s.lev : Int) := by omega
    clear h64
    go_enter Tryz.func125, Tryz.ntmps125
    go_wp2
    go_end0
    rw [HN.out]
    refine ⟨rfl, HP0.out.put ok 5 _ ?_ rfl rfl HP0.out.nx (by show s.lev + 1 ≤ 64; omega) (Nat.le_refl _), Mv1.set E w _ _⟩
    simp [Env.cells]

set_option maxHeartbeats 800000 in
set_option maxRecDepth 100000 in
theorem opens_any (x : ByteArray) (hx : 0 < x.size) : Calls Tryz.prog 96 #[.pointer (some ⟨E.g, 0, none⟩), .string x] w fun e w' => Post1 E w rv pv (fun _ => .tuple #[]) (opens E x s) e w' := by
  have HP0 : Hid (Par w E rv pv s) := h
  clear h
  cases hb : E.bad s with
  | true =>
    have HK : Hid ((E.tok s).kind = 0 ∧ E.ce ≠ 0) := bad_iff hb
    have HN : Hid (opens E x s = .die E.ce E.ca) := by show _ = _; unfold opens; rw [if_pos hb]
    clear hb
    go_enter Tryz.func96, Tryz.ntmps96
    go_wp2_with fail
    refine (word_die E ok w rv pv s HP0.out _ (Env.tok_at HP0.out.nx) HK.out.1 HK.out.2).mono ?_
    rintro e w1 ⟨rfl, hB⟩
    have HB : Hid (Below w.heap.size w w1) := hB
    clear hB
    go_wp2
    rw [HN.out]
    exact ⟨rfl, rfl, HP0.out.fix.below HB.out⟩
  | false =>
    have HK : Hid ((E.tok s).kind ≠ 0 ∨ E.ce = 0) := bad_not hb
    have HW := word_ok E ok w rv pv s HP0.out _ (Env.tok_at HP0.out.nx) HK.out
    change Calls _ _ _ _ (fun e w' => e = .returned (.string (E.wd s)) ∧ _) at HW
    by_cases he : E.wd s = x
    · have hn := more E ok w rv pv s HP0.out x hx he
      have HN : Hid (opens E x s = (rise E s).bind fun _ s => .ok () s.skip) := by show _ = _; unfold opens; rw [if_neg (by simp [hb]), if_pos he]
      rw [he] at HW
      have HW2 : Hid (Calls Tryz.prog 120 #[.pointer (some ⟨E.g, 0, none⟩)] w fun e w' => e = .returned (.string x) ∧ Below w.heap.size w w') := HW
      have hsm := str_same x
      clear HW he hb
      go_enter Tryz.func96, Tryz.ntmps96
      go_wp2_with fail
      refine HW2.out.mono ?_
      rintro e w1 ⟨rfl, hB⟩
      have HB : Hid (Below w.heap.size w w1) := hB
      clear hB
      go_wp2_with fail
      refine (rise_any E ok w1 rv pv s (HP0.out.below HB.out)).mono ?_
      intro e w2 hp
      cases h1 : rise E s with
      | die er i =>
        rw [h1] at hp
        obtain ⟨rfl, hF⟩ := hp
        have HF : Hid (E.Fix w2) := hF
        clear hF
        go_wp2
        rw [HN.out, h1]
        exact ⟨rfl, rfl, HF.out⟩
      | ok u s1 =>
        rw [h1] at hp
        obtain ⟨rfl, hP, hM⟩ := hp
        have HP : Hid (Par w2 E rv pv s1 ∧ Mv1 E w w2) := ⟨hP, (Mv1.of_below HB.out).trans hM⟩
        clear hP hM
        have hs1 : s1.next = s.next := by
          unfold rise at h1
          split at h1
          · obtain ⟨er, i, hd1, hd2⟩ := fail_dies (α := Unit) E 22 s
            rw [hd1] at h1
            cases h1
          · cases h1
            rfl
        have hn2 : s1.next + 1 < E.ts.length := by rw [hs1]; exact hn
        clear hs1
        go_wp2_with fail
        refine (skip_any E ok w2 rv pv s1 HP.out.1 hn2).mono ?_
        rintro e w3 ⟨rfl, rfl⟩
        go_wp2
        go_end0
        rw [HN.out, h1]
        exact ⟨rfl, skipped E ok w2 rv pv s1 HP.out.1 hn2, HP.out.2.trans (Mv1.set E w2 _ _)⟩
    · have HN : Hid (opens E x s = fail E 21 s) := by show _ = _; unfold opens; rw [if_neg (by simp [hb]), if_neg he]
      obtain ⟨er, i, hd1, hd2⟩ := fail_dies (α := Unit) E 21 s
      generalize E.wd s = u at *
      have hne := str_ne he
      have HW2 : Hid (Calls Tryz.prog 120 #[.pointer (some ⟨E.g, 0, none⟩)] w fun e w' => e = .returned (.string u) ∧ Below w.heap.size w w') := HW
      clear HW hb
      go_enter Tryz.func96, Tryz.ntmps96
      go_wp2_with fail
      refine HW2.out.mono ?_
      rintro e w1 ⟨rfl, hB⟩
      have HB : Hid (Below w.heap.size w w1) := hB
      clear hB
      go_wp2_with fail
      refine (fail_as E ok w1 rv pv s (HP0.out.below HB.out) 21 er i hd2).mono ?_
      rintro e w2 ⟨rfl, hF⟩
      have HF : Hid (E.Fix w2) := hF
      clear hF
      go_wp2
      rw [HN.out, hd1]
      exact ⟨rfl, rfl, HF.out⟩

set_option maxHeartbeats 800000 in
set_option maxRecDepth 100000 in
theorem shut_any (x : ByteArray) (hx : 0 < x.size) (hl : 1 ≤ s.lev) : Calls Tryz.prog 98 #[.pointer (some ⟨E.g, 0, none⟩), .string x] w fun e w' => Post1 E w rv pv (fun _ => .tuple #[]) (shut E x s) e w' := by
  have HP0 : Hid (Par w E rv pv s) := h
  clear h
  go_enter Tryz.func98, Tryz.ntmps98
  go_wp2_with fail
  refine (must_any E ok w rv pv s HP0.out x hx).mono ?_
  intro e w1 hp
  cases h1 : must E x s with
  | die er i =>
    rw [h1] at hp
    obtain ⟨rfl, hF⟩ := hp
    have HF : Hid (E.Fix w1) := hF
    clear hF
    go_wp2
    exact ⟨rfl, by unfold shut; rw [h1]; exact ⟨rfl, HF.out⟩⟩
  | ok b s1 =>
    rw [h1] at hp
    obtain ⟨rfl, hP, hM⟩ := hp
    obtain ⟨_, _, _, _, _, c5, _⟩ := hP.cells
    have f5 := hP.fro 5
    have hl1 := hP.lev
    have hs1 : s1.lev = s.lev := by
      unfold must takes at h1
      split at h1
      · cases h1
      · split at h1
        · cases h1
          rfl
        · obtain ⟨er, i, hd1, hd2⟩ := fail_dies (α := Unit) E 21 s
          change fail E 21 s = _ at h1
          rw [hd1] at h1
          cases h1
    have hl2 : (s1.lev : Int) ≤ 64 := by omega
    have hl0 : (1 : Int) ≤ (s1.lev : Int) := by omega
    have HP : Hid (Par w1 E rv pv s1 ∧ Mv1 E w w1) := ⟨hP, hM⟩
    clear hP hM hs1 hl
    go_wp2
    go_end0
    unfold shut
    rw [h1]
    refine ⟨rfl, HP.out.1.put ok 5 _ ?_ rfl rfl HP.out.1.nx (by show s1.lev - 1 ≤ 64; omega) (Nat.le_refl _), HP.out.2.trans (Mv1.set E w1 _ _)⟩
    have : ((s1.lev - 1 : Nat) : Int) = (s1.lev : Int) - 1 := by omega
    simp [Env.cells, this]
end
end Go.Proofs.YtgiilaaoeefpmaaGreat.Gr
