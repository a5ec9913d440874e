import Derived.Test.YtgiilaaoeefpmaaGreatLxParts
import Derived.Test.YtgiilaaoeefpmaaGreatLxKin
import Derived.Test.YtgiilaaoeefpmaaGreatTrOwn
import Derived.Maps.OwnSet
namespace Go.Proofs.YtgiilaaoeefpmaaGreat.Gr
open Go.RowKit Go.Proofs.YtgiilaaoeefpmaaGreat.Sp Go.Proofs.YtgiilaaoeefpmaaGreat.Lx

/-- a row of a tree, its cells -/
structure Rw where
  kind : Nat
  name : ByteArray
  stop : Nat
  n : Nat
  kids : Nat
def rc (r : Rw) : List Value := [.int .i64 r.kind, .string r.name, .int .i64 r.stop, .int .i64 r.n, .int .i64 r.kids]
def nc (n : Nat) : Value := .int .i64 n

/-- where the parser is -/
structure PS where
  next : Nat
  lev : Nat
  rows : List Rw
  places : List Nat

/-- what it reads: the block of the parser, the world in which it was made, the text, the tokens, lex's fault, the tables -/
structure Env where
  g : Nat
  w0 : World
  s : ByteArray
  ta : Option Addr
  tcap : Nat
  ts : List Tok
  to : Option Addr
  toc : Nat
  ce : Nat
  ca : Nat
  m0 : Nat
  m1 : Nat
  m2 : Nat
  m3 : Nat
  m4 : Nat
  m5 : Nat

structure Env.Fix (E : Env) (w : World) : Prop where
  os : w.os = E.w0.os
  tape : w.tape = E.w0.tape
  output : w.output = E.w0.output
  size : E.w0.heap.size ≤ w.heap.size
  block : ∀ k, k < E.w0.heap.size → k ≠ E.g → w.heap[k]? = E.w0.heap[k]?

theorem Env.Fix.below {E : Env} {w w' : World} (h : E.Fix w) (hb : Below w.heap.size w w') : E.Fix w' :=
  ⟨hb.os.trans h.os, hb.tape.trans h.tape, hb.output.trans h.output, Nat.le_trans h.size hb.size, fun k h1 h2 => (hb.block k (Nat.lt_of_lt_of_le h1 h.size)).trans (h.block k h1 h2)⟩

structure Env.Ok (E : Env) : Prop where
  gl : E.g < E.w0.heap.size
  text : ∀ w, E.Fix w → IsBytes w E.ta E.s
  toks : ∀ w, E.Fix w → IsToks w E.to E.ts
  tcap : E.s.size ≤ E.tcap
  size : E.s.size ≤ 1048576
  len : E.ts.length ≤ 65537
  tok : ∀ (i : Nat) (x : Tok), E.ts[i]? = some x → x.at_ ≤ x.stop ∧ x.stop ≤ E.s.size ∧ x.kind ≤ 5 ∧ x.n ≤ 1073741824
  fin : ∀ (i : Nat) (x : Tok), E.ts[i]? = some x → (i + 1 = E.ts.length ∧ x.kind = 0 ∧ x.at_ = x.stop) ∨ (i + 1 < E.ts.length ∧ x.kind ≠ 0 ∧ x.at_ < x.stop)

/-- the parser's cells -/
def Env.cells (E : Env) (rv pv : Value) (s : PS) : Array Value :=
  #[.slice E.ta E.s.size E.tcap, .slice E.to E.ts.length E.toc, .int .i64 E.ce, .int .i64 E.ca, .int .i64 s.next, .int .i64 s.lev, rv, pv,
    .map (some E.m0), .map (some E.m1), .map (some E.m2), .map (some E.m3), .map (some E.m4), .map (some E.m5)]

structure Par (w : World) (E : Env) (rv pv : Value) (s : PS) : Prop where
  fix : E.Fix w
  blk : w.heap[E.g]? = some (.cells (E.cells rv pv s) 81 (0, 0))
  rows : w.ownsRow E.w0.heap.size 46 5 rv s.rows.length (s.rows.flatMap rc)
  places : w.ownsRow E.w0.heap.size 3 1 pv s.places.length (s.places.map nc)
  apart : rv.ownBlock = none ∨ rv.ownBlock ≠ pv.ownBlock
  nx : s.next < E.ts.length
  lev : s.lev ≤ 64
  cr : s.rows.length ≤ s.next + 1
  cp : s.places.length ≤ s.next + 1

theorem Par.cell {w : World} {E : Env} {rv pv : Value} {s : PS} (h : Par w E rv pv s) (i : Nat) : w.cell? ⟨E.g, i, none⟩ = (E.cells rv pv s)[i]? := by
  simp [World.cell?, h.blk]
theorem Par.fro {w : World} {E : Env} {rv pv : Value} {s : PS} (h : Par w E rv pv s) (i : Nat) : w.frozen? ⟨E.g, i, none⟩ = false := by
  simp [World.frozen?, h.blk]
theorem Par.gw {w : World} {E : Env} {rv pv : Value} {s : PS} (h : Par w E rv pv s) : E.g < w.heap.size := (Array.getElem?_eq_some_iff.1 h.blk).1

theorem Par.below {w w' : World} {E : Env} {rv pv : Value} {s : PS} (h : Par w E rv pv s) (hb : Below w.heap.size w w') : Par w' E rv pv s :=
  ⟨h.fix.below hb, (hb.block _ h.gw).trans h.blk, own_below h.rows hb, own_below h.places hb, h.apart, h.nx, h.lev, h.cr, h.cp⟩

/-- the panic that tells a fault -/
abbrev thrown (er i : Nat) : Ending := .panicked [{ v := .iface 27 (.agg #[.int .i64 er, .int .i64 i]), recovered := false }]

/-- what the parser reads of the token that is looked at, in any later world -/
theorem Par.facts {w : World} {E : Env} {rv pv : Value} {s : PS} (ok : E.Ok) (h : Par w E rv pv s) {x : Tok} (hx : E.ts[s.next]? = some x) : ∃ gt ot, E.to = some ⟨gt, ot, none⟩ ∧ gt < w.heap.size ∧ ∀ W, Below w.heap.size w W →
    W.cell? ⟨gt, ot + s.next * 4, none⟩ = some (.int .i64 x.kind) ∧ W.cell? ⟨gt, ot + s.next * 4 + 1, none⟩ = some (.int .i64 x.at_) ∧ W.cell? ⟨gt, ot + s.next * 4 + 2, none⟩ = some (.int .i64 x.stop) ∧ W.cell? ⟨gt, ot + s.next * 4 + 3, none⟩ = some (.int .i64 x.n) := by
  obtain ⟨gt, ot, et, hgt, b0, b1, b2, b3⟩ := ok.toks w h.fix s.next x hx
  refine ⟨gt, ot, et, hgt, fun W hW => ?_⟩
  have hc : ∀ j, W.cell? ⟨gt, j, none⟩ = w.cell? ⟨gt, j, none⟩ := fun j => hW.cell (p := ⟨gt, j, none⟩) hgt
  exact ⟨(hc _).trans b0, (hc _).trans b1, (hc _).trans b2, (hc _).trans b3⟩
theorem Par.cells {w : World} {E : Env} {rv pv : Value} {s : PS} (h : Par w E rv pv s) :
    w.cell? ⟨E.g, 0, none⟩ = some (.slice E.ta E.s.size E.tcap) ∧ w.cell? ⟨E.g, 1, none⟩ = some (.slice E.to E.ts.length E.toc) ∧ w.cell? ⟨E.g, 2, none⟩ = some (.int .i64 E.ce) ∧ w.cell? ⟨E.g, 3, none⟩ = some (.int .i64 E.ca) ∧
    w.cell? ⟨E.g, 4, none⟩ = some (.int .i64 s.next) ∧ w.cell? ⟨E.g, 5, none⟩ = some (.int .i64 s.lev) ∧ w.cell? ⟨E.g, 6, none⟩ = some rv ∧ w.cell? ⟨E.g, 7, none⟩ = some pv :=
  ⟨h.cell 0, h.cell 1, h.cell 2, h.cell 3, h.cell 4, h.cell 5, h.cell 6, h.cell 7⟩
abbrev zt : Obj := .cells #[.int .i64 0, .int .i64 0, .int .i64 0, .int .i64 0] 94

section
variable (E : Env) (ok : E.Ok) (w : World) (rv pv : Value) (s : PS) (h : Par w E rv pv s) (x : Tok) (hx : E.ts[s.next]? = some x)
include ok h hx

set_option maxHeartbeats 1600000 in
set_option maxRecDepth 100000 in
theorem token_ok (hc : x.kind ≠ 0 ∨ E.ce = 0) : Calls Tryz.prog 99 #[.pointer (some ⟨E.g, 0, none⟩)] w fun e w' =>
    e = .returned (.agg #[.int .i64 x.kind, .int .i64 x.at_, .int .i64 x.stop, .int .i64 x.n]) ∧ Below w.heap.size w w' := by
  have hb1 : Below w.heap.size w (w.alloc (.cells #[.int .i64 0, .int .i64 0, .int .i64 0, .int .i64 0] 94)) := (Below.refl _ w).alloc (Nat.le_refl _) _
  have hb2 : Below w.heap.size w ((w.alloc (.cells #[.int .i64 0, .int .i64 0, .int .i64 0, .int .i64 0] 94)).alloc (.cells #[.int .i64 0, .int .i64 0, .int .i64 0, .int .i64 0] 94)) := hb1.alloc hb1.size _
  obtain ⟨gt, ot, et, hgt, hF⟩ := h.facts ok hx
  obtain ⟨b0, b1, b2, b3⟩ := hF _ hb1
  obtain ⟨d0, d1, d2, d3⟩ := hF _ hb2
  obtain ⟨_, c1, c2, _, c4, _⟩ := (h.below hb1).cells
  obtain ⟨_, e1, e2, _, e4, _⟩ := (h.below hb2).cells
  have hnx : (s.next : Int) < (E.ts.length : Int) := by have := h.nx; omega
  rw [et] at c1 e1
  have hgw := h.gw
  have HB1 : Hid (Below w.heap.size w (w.alloc (.cells #[.int .i64 0, .int .i64 0, .int .i64 0, .int .i64 0] 94))) := hb1
  clear hb1 hb2 hF h
  go_enter Tryz.func99, Tryz.ntmps99
  go_wp2
  go_region
  all_goals (try go_wp2)
  all_goals refine bodyPost_ret (v := .agg #[.int .i64 x.kind, .int .i64 x.at_, .int .i64 x.stop, .int .i64 x.n]) (by simp [results, Tryz.results99, go_sem, *]) rfl ⟨rfl, ((((Below.refl _ w).alloc (Nat.le_refl _) _).alloc (by simp) _)).drew⟩

set_option maxHeartbeats 1600000 in
set_option maxRecDepth 100000 in
theorem token_die (hk : x.kind = 0) (hc : E.ce ≠ 0) : Calls Tryz.prog 99 #[.pointer (some ⟨E.g, 0, none⟩)] w fun e w' =>
    e = thrown E.ce E.ca ∧ Below w.heap.size w w' := by
  have hb1 : Below w.heap.size w (w.alloc (.cells #[.int .i64 0, .int .i64 0, .int .i64 0, .int .i64 0] 94)) := (Below.refl _ w).alloc (Nat.le_refl _) _
  have hb2 : Below w.heap.size w ((w.alloc (.cells #[.int .i64 0, .int .i64 0, .int .i64 0, .int .i64 0] 94)).alloc (.cells #[.int .i64 0, .int .i64 0, .int .i64 0, .int .i64 0] 94)) := hb1.alloc hb1.size _
  obtain ⟨gt, ot, et, hgt, hF⟩ := h.facts ok hx
  obtain ⟨b0, b1, b2, b3⟩ := hF _ hb1
  obtain ⟨d0, d1, d2, d3⟩ := hF _ hb2
  obtain ⟨_, c1, c2, c3, c4, _⟩ := (h.below hb1).cells
  obtain ⟨_, e1, e2, e3, e4, _⟩ := (h.below hb2).cells
  have hnx : (s.next : Int) < (E.ts.length : Int) := by have := h.nx; omega
  have hne : ((E.ce : Int) != 0) = true := by simp; omega
  have hk0 : ((x.kind : Int) == 0) = true := by simp; omega
  rw [et] at c1 e1
  have hgw := h.gw
  clear hb1 hb2 hF h hc hk
  go_enter Tryz.func99, Tryz.ntmps99
  go_wp2
  go_region
  all_goals (try go_wp2)
  all_goals exact ⟨rfl, rfl, ((((Below.refl _ w).alloc (Nat.le_refl _) _).alloc (by simp) _)).drew⟩

set_option maxHeartbeats 1600000 in
set_option maxRecDepth 100000 in
theorem word_ok (hc : x.kind ≠ 0 ∨ E.ce = 0) : Calls Tryz.prog 120 #[.pointer (some ⟨E.g, 0, none⟩)] w fun e w' =>
    e = .returned (.string (E.s.extract x.at_ x.stop)) ∧ Below w.heap.size w w' := by
  obtain ⟨h1, h2, _⟩ := ok.tok _ _ hx
  obtain ⟨A, C, hsl, hA, hC, hz⟩ := cut_any Tryz.underlying44 E.ta E.s E.tcap x.at_ x.stop ok.tcap h1 h2
  have HO : Hid E.Ok := ok
  have HP : Hid (Par w E rv pv s) := h
  have HX : Hid (x.kind ≠ 0 ∨ E.ce = 0) := hc
  clear h hc
  go_enter Tryz.func120, Tryz.ntmps120
  go_wp2_with fail
  refine (token_ok E ok w rv pv s HP.out x hx HX.out).mono ?_
  rintro e w1 ⟨rfl, hB⟩
  have HB : Hid (Below w.heap.size w w1) := hB
  have h2' := (HP.out.below hB).below ((Below.refl _ w1).alloc (Nat.le_refl _) (.cells #[.int .i64 x.kind, .int .i64 x.at_, .int .i64 x.stop, .int .i64 x.n] 94))
  obtain ⟨c0, _⟩ := h2'.cells
  have hcv : ∀ n, (convert 44 9 (.slice A (x.stop - x.at_) C)).run Tryz.prog ((w1.alloc (.cells #[.int .i64 x.kind, .int .i64 x.at_, .int .i64 x.stop, .int .i64 x.n] 94)).drewN n) = .ok (.string (E.s.extract x.at_ x.stop)) ((w1.alloc (.cells #[.int .i64 x.kind, .int .i64 x.at_, .int .i64 x.stop, .int .i64 x.n] 94)).drewN n) := fun n => by
    rw [← hz]
    exact conv_any Tryz.underlying44 A _ C _ ((hA _ (ok.text _ h2'.fix)).drewN n)
  clear hB h2' ok hA hC hz h1 h2
  go_wp2
  go_quiet (fail)
  go_wp2
  have hB3 : Below w1.heap.size w1 ((w1.alloc (.cells #[.int .i64 x.kind, .int .i64 x.at_, .int .i64 x.stop, .int .i64 x.n] 94)).drewN nq) := ((Below.refl _ w1).alloc (Nat.le_refl _) _).trans ((Go.Proofs.YtgiilaaoeefpmaaGreat.Lx.below_drewN (w1.alloc (.cells #[.int .i64 x.kind, .int .i64 x.at_, .int .i64 x.stop, .int .i64 x.n] 94)) nq).mono (by simp))
  exact bodyPost_ret (v := .string (E.s.extract x.at_ x.stop)) (by simp [results, Tryz.results120, go_sem]) rfl ⟨rfl, HB.out.trans (hB3.mono HB.out.size)⟩
theorem word_die (hk : x.kind = 0) (hc : E.ce ≠ 0) : Calls Tryz.prog 120 #[.pointer (some ⟨E.g, 0, none⟩)] w fun e w' =>
    e = thrown E.ce E.ca ∧ Below w.heap.size w w' := by
  have HP : Hid (Par w E rv pv s) := h
  have HK : Hid (x.kind = 0 ∧ E.ce ≠ 0) := ⟨hk, hc⟩
  clear h hk hc
  go_enter Tryz.func120, Tryz.ntmps120
  go_wp2_with fail
  refine (token_die E ok w rv pv s HP.out x hx HK.out.1 HK.out.2).mono ?_
  rintro e w1 ⟨rfl, hB⟩
  have HB : Hid (Below w.heap.size w w1) := hB
  clear hB
  go_wp2
  exact ⟨rfl, rfl, HB.out⟩
end
end Go.Proofs.YtgiilaaoeefpmaaGreat.Gr
