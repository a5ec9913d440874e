import Derived.Test.YtcblichnkakhdaaDoorJB
import Derived.Test.YtcblichnkakhdaaDoorJK
set_option linter.unusedSimpArgs false
namespace Go.Proofs.YtcblichnkakhdaaDoor.Cd
open Go.RowKit Go.Proofs.YtcblichnkakhdaaDoor.Nm Go.Proofs.YtcblichnkakhdaaDoor.Vf

theorem bel_so {w W W' : World} (h : Below w.heap.size w W) (h2 : Below W.heap.size W W') : Below w.heap.size w W' := h.trans (h2.mono h.size)
theorem tab_so {w W : World} {nm : String} {k : IntKind} {zs : List Int} (h : Lib.TabBelow Tryd.prog w.heap.size w nm k zs) (hb : Below w.heap.size w W) : Lib.TabBelow Tryd.prog W.heap.size W nm k zs := fun w' hw => h w' (bel_so hb hw)
/-- Decode: what it tells, each list in a block of its own -/
theorem dec5 {W : World} {bo : Option Addr} {bc : Nat} {s : List Nat} {p : Pg} {er i : Nat} (hd : decR s = (p, er, i)) (hr : Cd.Rd W bo W.heap.size (u8L s)) (hs : s.length ≤ 1000000000) (hb : byts s) :
    Calls Tryd.prog 5 #[.slice bo s.length bc] W fun e W' => ∃ u : PV, e = .returned (.tuple #[.agg (pvC u p), .agg #[.int .i64 (er : Int), .int .i64 (i : Int)]]) ∧ Own5 W' W.heap.size p (.slice u.qo p.gh.length u.qc) (.slice u.vo p.vs.length u.vc) (.slice u.to p.ts.length u.tc) (.slice u.oo p.on.length u.oc) (.slice u.co p.cd.length u.cc) ∧ Below W.heap.size W W' := by
  refine (dec_any (bc := bc) hr hs hb).mono ?_
  rintro e W' ⟨g, v, t, o, c, h1, h2, h3⟩
  rw [hd] at h1 h2
  obtain ⟨u, rfl, rfl, rfl, rfl, rfl⟩ := own5_form h2
  exact ⟨u, h1, h2, h3⟩
theorem own5_io {w : World} {n : Nat} {p : Pg} {u : PV} (h : Own5 w n p (.slice u.qo p.gh.length u.qc) (.slice u.vo p.vs.length u.vc) (.slice u.to p.ts.length u.tc) (.slice u.oo p.on.length u.oc) (.slice u.co p.cd.length u.cc)) (hl : p.gh.length ≤ 1000000000000000 ∧ p.vs.length ≤ 1000000000000000 ∧ p.ts.length ≤ 1000000000000000 ∧ p.on.length ≤ 1000000000000000 ∧ p.cd.length ≤ 1000000000000000) : IsPg w u p := by
  obtain ⟨n1, n2, n3, n4, n5, h⟩ := h.ex
  exact ⟨own_rdV (h.ow (en1 n1 (.slice u.qo p.gh.length u.qc) p.gh) (by simp)).2, own_rdV (h.ow (en2 n2 (.slice u.vo p.vs.length u.vc) p.vs) (by simp)).2, own_rdV (h.ow (en3 n3 (.slice u.to p.ts.length u.tc) p.ts) (by simp)).2, own_rdV (h.ow (en3 n4 (.slice u.oo p.on.length u.oc) p.on) (by simp)).2, own_rdV (h.ow (en5 n5 (.slice u.co p.cd.length u.cc) p.cd) (by simp)).2, hl.1, hl.2.1, hl.2.2.1, hl.2.2.2.1, hl.2.2.2.2⟩
theorem wpl_appC {P : Program} (w : World) {ops : Array Oper} {rest : List Oper} {o : Oper} {a : Act} {Q : Exit → Act → World → Prop} (hgd : o.guard = none) (s x : Operand) (t : TypeId)
    (ho : o.op = .call { callee := .builtin .append, args := #[s, x], argTypes := #[t, t] })
    {e : TypeId} {z : Value} {size bytes : Nat} (ht : P.underlying t = some (.slice e)) (hinfo : (P.info? e).map (fun i => (i.zero, i.size, i.bytes)) = some (some z, size, bytes)) (hzs : z.cells.size = size) (hsz : 0 < size)
    {base : Nat} {v : Value} {n : Nat} {xs : List Value} (hs : a.eval s = v) (hown : w.ownsRow base e size v n xs) (hbase : base ≤ w.heap.size)
    (ao : Option Addr) (m c : Nat) (news : List Value) (hx : a.eval x = .slice ao m c) (hl : news.length = m * size) (hr : Vf.Rd w ao news) (h1 : ∀ u ∈ news, u.oneCell' = true)
    (h63 : n + m ≤ maxLen) (hbytes : (n + m) * bytes ≤ 140737488355328)
    (h : ∀ v' w', w'.ownsRow base e size v' (n + m) (xs ++ news) → w.grownBy w' v.ownBlock → (v'.ownBlock = v.ownBlock ∨ v'.ownBlock = some w.heap.size) → wpList P ops Q rest (a.put o.dst v') w') : wpList P ops Q (o :: rest) a w := by
  refine wpList_plain hgd fun K hK => ?_
  obtain ⟨i, hi, hz0, hz1, hz2⟩ := info_parts hinfo
  obtain ⟨v', w', hr, h2, h3, h4⟩ := run_appC (P := P) w base t o.type e i z size bytes ht hi hz0 hz1 hz2 hzs hsz v n xs hown ao m c news hl hr h1 h63 hbytes hbase
  unfold Oper.wp execOp
  simp only [ho, resolve, invoke, builtin, Sem.run_bind, Sem.run_pure, Result.andThen_ok, List.map_toArray, List.map_cons, List.map_nil, hs, hx, hr]
  exact hK _ _ (h v' w' h2 h3 h4)
/-- a slice of two programs, as one step of a region that draws -/
theorem step_bs2 (w : World) {ops : Array Oper} {o : Oper} {a : Act} {K : Act → World → Prop} {Q : Exit → Act → World → Prop} {F : Prop} (hgd : o.guard = none) (x y : Operand) (ho : o.op = .buildSlice 36 2 #[(0, x), (1, y)])
    {v0 v1 v2 v3 v4 v5 z0 z1 z2 z3 z4 z5 : Value} (hx : a.eval x = .agg #[v0, v1, v2, v3, v4, v5]) (hy : a.eval y = .agg #[z0, z1, z2, z3, z4, z5])
    (h : K (a.put o.dst (.slice (some ⟨w.heap.size, 0, none⟩) 2 2)) (w.alloc (.cells #[v0, v1, v2, v3, v4, v5, z0, z1, z2, z3, z4, z5] 29))) : if Region.wanted o (yielded ops a.tmps) = true then Oper.wp Tryd.prog o a w K Q else F := by
  have hw : Region.wanted o (yielded ops a.tmps) = true := by simp [Region.wanted, hgd]
  rw [if_pos hw]
  have hr : (Instr.buildSlice 36 2 #[(0, .agg #[v0, v1, v2, v3, v4, v5]), (1, .agg #[z0, z1, z2, z3, z4, z5])]).run Tryd.prog w = .ok (.slice (some ⟨w.heap.size, 0, none⟩) 2 2) (w.alloc (.cells #[v0, v1, v2, v3, v4, v5, z0, z1, z2, z3, z4, z5] 29)) := by
    kernel_rfl
  unfold Oper.wp execOp
  simp only [ho, Sem.run_bind, Sem.run_pure, Result.andThen_ok, List.map_toArray, List.map_cons, List.map_nil, hx, hy, hr]
  exact h
theorem infoPr : (Tryd.prog.info? 29).map (fun i => (i.zero, i.size, i.bytes)) = some (some (.agg #[.slice none 0 0, .slice none 0 0, .slice none 0 0, .slice none 0 0, .int .i64 0, .slice none 0 0]), 6, 128) := by kernel_rfl
theorem infoBy : (Tryd.prog.info? 22).map (fun i => (i.zero, i.size, i.bytes)) = some (some (.slice none 0 0), 1, 24) := by kernel_rfl
/-- programs and lists of bytes are put to their lists -/
theorem P1.appA {w3 w : World} {pb : Nat} {E : Nat → Option Ent} {p : Pg} {X : (Nat → Option Ent) → Prop} {ul : List PV} {cl bl : List Value} {ao lo go : Option Addr} {na ac nl lc ng gc : Nat} {pf : Nat → Pg} {bc : Nat → List Nat} (h : P1 w3 w pb E p X ul cl bl ao lo go na ac nl lc ng gc pf bc) :
    ∃ b, b ≤ w.heap.size ∧ w.ownsRow b 29 6 (.slice ao na ac) na (fl6 p (ul.take na)) ∧ ∀ w' v' k, k ≤ ul.length → w'.ownsRow b 29 6 v' k (fl6 p (ul.take k)) → w.grownBy w' (Value.slice ao na ac).ownBlock → (v'.ownBlock = (Value.slice ao na ac).ownBlock ∨ v'.ownBlock = some w.heap.size) →
      ∃ E' ao' ac', v' = .slice ao' k ac' ∧ P1 w3 w' pb E' p X ul cl bl ao' lo go k ac' nl lc ng gc pf bc ∧ ∀ j, j ≠ 200 → E' j = E j := by
  obtain ⟨n, hn⟩ := h.all
  obtain ⟨b, hb, hA⟩ := h.ap.base hn h.sz
  refine ⟨b, hb, (hA.ow 200 _ (up_same _ _ _)).2, fun w' v' k hk ho hg hv => ?_⟩
  obtain ⟨ao', ac', rfl⟩ := own_form ho
  have hA2 := hA.app (up_same _ _ _) hg ho hv
  rw [up_up] at hA2
  have hlow : ∀ q, (Value.slice ao na ac).ownBlock = some q → pb < q := fun q hq => by
    have h1 := World.ownsRow.lt (hA.ow 200 _ (up_same _ _ _)).2 q hq
    have h2 := (hA.ow 200 _ (up_same _ _ _)).1
    exact Nat.lt_of_lt_of_le h2 h1.1
  have hbl : Below w3.heap.size w3 w' := h.bel.trans ⟨hg.os, hg.tape, hg.output, hg.size, fun q hq => hg.block q (by have := h.bel.size; omega) (fun e => by have := hlow q e.symm; have := h.pe; omega)⟩
  refine ⟨_, ao', ac', rfl, h.rows (Or.inl rfl) hA2 hbl ⟨_, up_same _ _ _⟩ ?_ ?_ ⟨hk, h.ln.2.2.2⟩, fun j hj => up_ne hj⟩
  · obtain ⟨m, hm⟩ := h.lst; exact ⟨m, (up_ne (by omega)).trans hm⟩
  · obtain ⟨m, hm⟩ := h.grw; exact ⟨m, (up_ne (by omega)).trans hm⟩
theorem P1.appL {w3 w : World} {pb : Nat} {E : Nat → Option Ent} {p : Pg} {X : (Nat → Option Ent) → Prop} {ul : List PV} {cl bl : List Value} {ao lo go : Option Addr} {na ac nl lc ng gc : Nat} {pf : Nat → Pg} {bc : Nat → List Nat} (h : P1 w3 w pb E p X ul cl bl ao lo go na ac nl lc ng gc pf bc) :
    ∃ b, b ≤ w.heap.size ∧ w.ownsRow b 22 1 (.slice lo nl lc) nl (bl.take nl) ∧ ∀ w' v' k, k ≤ bl.length → w'.ownsRow b 22 1 v' k (bl.take k) → w.grownBy w' (Value.slice lo nl lc).ownBlock → (v'.ownBlock = (Value.slice lo nl lc).ownBlock ∨ v'.ownBlock = some w.heap.size) →
      ∃ E' lo' lc', v' = .slice lo' k lc' ∧ P1 w3 w' pb E' p X ul cl bl ao lo' go na ac k lc' ng gc pf bc ∧ ∀ j, j ≠ 201 → E' j = E j := by
  obtain ⟨n, hn⟩ := h.lst
  obtain ⟨b, hb, hA⟩ := h.ap.base hn h.sz
  refine ⟨b, hb, (hA.ow 201 _ (up_same _ _ _)).2, fun w' v' k hk ho hg hv => ?_⟩
  obtain ⟨lo', lc', rfl⟩ := own_form ho
  have hA2 := hA.app (up_same _ _ _) hg ho hv
  rw [up_up] at hA2
  have hlow : ∀ q, (Value.slice lo nl lc).ownBlock = some q → pb < q := fun q hq => by
    have h1 := World.ownsRow.lt (hA.ow 201 _ (up_same _ _ _)).2 q hq
    have h2 := (hA.ow 201 _ (up_same _ _ _)).1
    exact Nat.lt_of_lt_of_le h2 h1.1
  have hbl : Below w3.heap.size w3 w' := h.bel.trans ⟨hg.os, hg.tape, hg.output, hg.size, fun q hq => hg.block q (by have := h.bel.size; omega) (fun e => by have := hlow q e.symm; have := h.pe; omega)⟩
  refine ⟨_, lo', lc', rfl, h.rows (Or.inr (Or.inl rfl)) hA2 hbl ?_ ⟨_, up_same _ _ _⟩ ?_ ⟨h.ln.2.2.1, hk⟩, fun j hj => up_ne hj⟩
  · obtain ⟨m, hm⟩ := h.all; exact ⟨m, (up_ne (by omega)).trans hm⟩
  · obtain ⟨m, hm⟩ := h.grw; exact ⟨m, (up_ne (by omega)).trans hm⟩
/-- the lists that stay are told of anew -/
theorem P1.fix {w3 w w' : World} {pb : Nat} {E E' : Nat → Option Ent} {p : Pg} {X X' : (Nat → Option Ent) → Prop} {ul : List PV} {cl bl : List Value} {ao lo go : Option Addr} {na ac nl lc ng gc : Nat} {pf : Nat → Pg} {bc : Nat → List Nat} (h : P1 w3 w pb E p X ul cl bl ao lo go na ac nl lc ng gc pf bc) (hA : Ap w' pb E') (hb : Below w3.heap.size w3 w') (hE : ∀ j, 15 ≤ j → j < 210 → E' j = E j) (hX : X' E') (hc : ∀ E E' : Nat → Option Ent, (∀ j, (j < 15 ∨ (210 ≤ j ∧ j ≤ 212)) → E' j = E j) → X' E → X' E') : P1 w3 w' pb E' p X' ul cl bl ao lo go na ac nl lc ng gc pf bc where
  ap := hA
  bel := hb
  pe := h.pe
  fx := hX
  cx := hc
  prg := fun j u hj => (h.prg j u hj).far fun q hq => hE q (by omega) (by have := h.ln; have := (List.getElem?_eq_some_iff.1 hj).1; omega)
  byt := fun j v hj => by
    obtain ⟨n, hn⟩ := h.byt j v hj
    have := (List.getElem?_eq_some_iff.1 hj).1
    exact ⟨n, (hE _ (by omega) (by have := h.ln; omega)).trans hn⟩
  all := by obtain ⟨n, hn⟩ := h.all; exact ⟨n, (hE _ (by omega) (by omega)).trans hn⟩
  lst := by obtain ⟨n, hn⟩ := h.lst; exact ⟨n, (hE _ (by omega) (by omega)).trans hn⟩
  grw := by obtain ⟨n, hn⟩ := h.grw; exact ⟨n, (hE _ (by omega) (by omega)).trans hn⟩
  ln := h.ln
theorem rd_row {w : World} {b : Nat} {T : TypeId} {xs : List Value} (h : w.heap[b]? = some (.cells xs.toArray T (0, 0))) : Vf.Rd w (some ⟨b, 0, none⟩) xs := fun j x hx => by
  refine ⟨b, 0, rfl, Vf.blk_lt h, ?_⟩
  simp only [World.cell?, h, Nat.zero_add]
  simpa using hx
set_option maxHeartbeats 51200000 in
set_option maxRecDepth 2000000 in
/-- CodeOwn -/
theorem ownWalk (W : World) (hT : Lib.TabBelow Tryd.prog W.heap.size W "internal/strconv.uint64pow10" .u64 Lib.pow10Tab) (hA : Lib.TabBelow Tryd.prog W.heap.size W "strings.asciiSpace" .u8 Lib.asciiSpaceTab) (b : Option Addr) (bc : Nat) (s : List Nat) (hr : Vf.Rd W b (s.map fun x : Nat => Value.int .u8 (x : Int))) (hlow : ∀ n ∈ s, n < 256) (_ : s.length ≤ 140737488351232) :
    Calls Tryd.prog 3 #[.slice b s.length bc] W fun e W' => e = .returned (.bool true) ∧ Below W.heap.size W W' := by
  have HK : Hid (Calls Tryd.prog 4 #[] W fun e w' => e = .returned (.bool true) ∧ Below W.heap.size W w') := known_any W hT hA
  have HR : Hid (Vf.Rd W b (u8L s) ∧ byts s) := ⟨hr, hlow⟩
  clear hT hA hr hlow
  go_enter Tryd.func3, Tryd.ntmps3
  go_wp2_with fail
  refine HK.out.mono ?_
  rintro e w1 ⟨rfl, hb⟩
  have HB1 : Hid (Below W.heap.size W w1) := hb
  clear hb HK
  by_cases hb1 : 524288 < s.length
  case pos =>
    have hb2 : (524288 : Int) < (s.length : Int) := by omega
    go_wp2_with fail
    go_ret
    exact ⟨rfl, HB1.out⟩
  have hb1' : decide (524288 < s.length) = false := decide_eq_false hb1
  have hb2 : decide ((524288 : Int) < (s.length : Int)) = false := decide_eq_false (by omega)
  obtain ⟨p, er, i, hd⟩ : ∃ p er i, decR s = (p, er, i) := ⟨_, _, _, rfl⟩
  have HD : Hid (∀ w, Below W.heap.size W w → Calls Tryd.prog 5 #[.slice b s.length bc] w fun e W' => ∃ u : PV, e = .returned (.tuple #[.agg (pvC u p), .agg #[.int .i64 (er : Int), .int .i64 (i : Int)]]) ∧ Own5 W' w.heap.size p (.slice u.qo p.gh.length u.qc) (.slice u.vo p.vs.length u.vc) (.slice u.to p.ts.length u.tc) (.slice u.oo p.on.length u.oc) (.slice u.co p.cd.length u.cc) ∧ Below w.heap.size w W') := fun w hb => dec5 hd (rd_of (HR.out.1.below hb)) (by omega) HR.out.2
  have HN : Hid (s.length ≤ 524288 ∧ (er = 0 → chk p = 0 ∧ byP p = s ∧ i = 0)) := ⟨Nat.le_of_not_lt hb1, fun e => by subst e; exact dec_inv HR.out.2 hd⟩
  clear hb1 hd
  go_wp2_with fail
  clear hb1' hb2
  refine Calls.mono (HD.out w1 HB1.out) ?_
  rintro e w2 ⟨u, rfl, ho, hb⟩
  have hw := two_new w2 #[.slice u.qo p.gh.length u.qc, .slice u.vo p.vs.length u.vc, .slice u.to p.ts.length u.tc, .slice u.oo p.on.length u.oc, .int .i64 p.miss, .slice u.co p.cd.length u.cc] #[.int .i64 (er : Int), .int .i64 (i : Int)]
  have H3 : Hid (Below W.heap.size W ((w2.alloc (.cells #[.slice u.qo p.gh.length u.qc, .slice u.vo p.vs.length u.vc, .slice u.to p.ts.length u.tc, .slice u.oo p.on.length u.oc, .int .i64 p.miss, .slice u.co p.cd.length u.cc] 29)).alloc (.cells #[.int .i64 (er : Int), .int .i64 (i : Int)] 32)) ∧ Wv w2.heap.size ((w2.alloc (.cells #[.slice u.qo p.gh.length u.qc, .slice u.vo p.vs.length u.vc, .slice u.to p.ts.length u.tc, .slice u.oo p.on.length u.oc, .int .i64 p.miss, .slice u.co p.cd.length u.cc] 29)).alloc (.cells #[.int .i64 (er : Int), .int .i64 (i : Int)] 32)) #[.slice u.qo p.gh.length u.qc, .slice u.vo p.vs.length u.vc, .slice u.to p.ts.length u.tc, .slice u.oo p.on.length u.oc, .int .i64 p.miss, .slice u.co p.cd.length u.cc] #[.int .i64 (er : Int), .int .i64 (i : Int)] ∧ Own5 w2 w1.heap.size p (.slice u.qo p.gh.length u.qc) (.slice u.vo p.vs.length u.vc) (.slice u.to p.ts.length u.tc) (.slice u.oo p.on.length u.oc) (.slice u.co p.cd.length u.cc) ∧ Below w2.heap.size w2 ((w2.alloc (.cells #[.slice u.qo p.gh.length u.qc, .slice u.vo p.vs.length u.vc, .slice u.to p.ts.length u.tc, .slice u.oo p.on.length u.oc, .int .i64 p.miss, .slice u.co p.cd.length u.cc] 29)).alloc (.cells #[.int .i64 (er : Int), .int .i64 (i : Int)] 32))) := ⟨bel_so (bel_so HB1.out hb) hw.2, hw.1, ho, hw.2⟩
  clear ho hb hw
  go_upto_region 6 with fail
  generalize ((w2.alloc (.cells #[.slice u.qo p.gh.length u.qc, .slice u.vo p.vs.length u.vc, .slice u.to p.ts.length u.tc, .slice u.oo p.on.length u.oc, .int .i64 p.miss, .slice u.co p.cd.length u.cc] 29)).alloc (.cells #[.int .i64 (er : Int), .int .i64 (i : Int)] 32)) = w3 at *
  generalize hpq : w2.heap.size = qb at *
  have HQb := show Hid _ from hpq
  clear hpq
  obtain ⟨f0, f1⟩ := cells2 H3.out.2.1.f
  obtain ⟨c0, c1, c2, c3, c4, c5⟩ := cells6 H3.out.2.1.p
  by_cases he : er = 0
  case neg =>
    have e1 : ((er : Int) != 0) = true := by rw [bne_iff_ne]; omega
    go_wp2_with fail
    go_ret
    exact ⟨rfl, H3.out.1⟩
  subst he
  obtain ⟨hck, hby, hi0⟩ := HN.out.2 rfl
  subst hi0
  have HOk : Hid (PgOk p) := pgOk_of hck
  have HE : Hid (encB p = s ∧ chk p = 0) := ⟨by rw [← hby]; exact if_pos hck, hck⟩
  clear hck hby
  have HW : Hid (Wgh p ∧ (p.vs.length ≤ 1000000 ∧ p.ts.length ≤ 1000000 ∧ p.on.length ≤ 1000000 ∧ p.cd.length ≤ 1000000) ∧ p.gh.length ≤ 1000000) := by
    have q := HOk.out
    have q1 := q.q
    have q2 := q.v
    have q3 := q.t
    have q4 := q.o
    have q5 := q.c
    refine ⟨?_, ?_, ?_⟩
    · unfold Wgh; omega
    · omega
    · omega
  have HLs : Hid (p.gh.length ≤ 1000000000000000 ∧ p.vs.length ≤ 1000000000000000 ∧ p.ts.length ≤ 1000000000000000 ∧ p.on.length ≤ 1000000000000000 ∧ p.cd.length ≤ 1000000000000000) := by have := HW.out; show _ ∧ _; omega
  have HTw := show Hid _ from rtwin_any u p w3 ((own5_io H3.out.2.2.1 HLs.out).below (by rw [HQb.out]; exact H3.out.2.2.2)) HW.out.1
  go_wp2_with fail
  refine Calls.mono HTw.out ?_
  rintro e w4 ⟨u0, rfl, ho, hb⟩
  obtain ⟨pb, hpb⟩ : ∃ pb, pb + 1 = w3.heap.size := ⟨w3.heap.size - 1, by have := blk_lt H3.out.2.1.p; omega⟩
  obtain ⟨X, hX⟩ : ∃ X : (Nat → Option Ent) → Prop, X = fun E => Is5 E 0 p u0 ∧ ∃ n, E 210 = some (bxE n w4.heap.size #[.slice u0.qo p.gh.length u0.qc, .slice u0.vo p.vs.length u0.vc, .slice u0.to p.ts.length u0.tc, .slice u0.oo p.on.length u0.oc, .int .i64 p.miss, .slice u0.co p.cd.length u0.cc]) := ⟨_, rfl⟩
  have HX1 : Hid (∀ E, X E → Is5 E 0 p u0 ∧ ∃ n, E 210 = some (bxE n w4.heap.size #[.slice u0.qo p.gh.length u0.qc, .slice u0.vo p.vs.length u0.vc, .slice u0.to p.ts.length u0.tc, .slice u0.oo p.on.length u0.oc, .int .i64 p.miss, .slice u0.co p.cd.length u0.cc])) := fun E h => by rw [hX] at h; exact h
  have HP0 : Hid (∃ E, P1 w3 (w4.alloc (.cells #[.slice u0.qo p.gh.length u0.qc, .slice u0.vo p.vs.length u0.vc, .slice u0.to p.ts.length u0.tc, .slice u0.oo p.on.length u0.oc, .int .i64 p.miss, .slice u0.co p.cd.length u0.cc] 29)) pb E p X [] [] [] none none none 0 0 0 0 0 0 (fun _ => p) (fun _ => s)) := by
    have hA0 : Ap w3 pb (fun _ => none) := ⟨fun _ _ e => absurd e (by simp), fun _ _ _ _ _ e => absurd e (by simp)⟩
    obtain ⟨E1, a1, a2, -⟩ := hA0.five (i := 0) hb (by omega) ho
    have hs4 : pb < w4.heap.size := by have := hb.size; omega
    have a3 := a1.newbox hs4 210 (.slice u0.qo p.gh.length u0.qc) (.slice u0.vo p.vs.length u0.vc) (.slice u0.to p.ts.length u0.tc) (.slice u0.oo p.on.length u0.oc) (.int .i64 p.miss) (.slice u0.co p.cd.length u0.cc)
    have hbx : Below w4.heap.size w4 (w4.alloc (.cells #[.slice u0.qo p.gh.length u0.qc, .slice u0.vo p.vs.length u0.vc, .slice u0.to p.ts.length u0.tc, .slice u0.oo p.on.length u0.oc, .int .i64 p.miss, .slice u0.co p.cd.length u0.cc] 29)) := (Below.refl _ _).alloc (Nat.le_refl _) _
    have hs5 : pb < (w4.alloc (.cells #[.slice u0.qo p.gh.length u0.qc, .slice u0.vo p.vs.length u0.vc, .slice u0.to p.ts.length u0.tc, .slice u0.oo p.on.length u0.oc, .int .i64 p.miss, .slice u0.co p.cd.length u0.cc] 29)).heap.size := by have := hbx.size; omega
    have a4 := a3.add (Below.refl _ _) hs5 (World.ownsRow_nil _ _ 29 6) 200
    have a5 := a4.add (Below.refl _ _) hs5 (World.ownsRow_nil _ _ 22 1) 201
    have a6 := a5.add (Below.refl _ _) hs5 (World.ownsRow_nil _ _ 22 1) 202
    refine ⟨_, a6, bel_so hb hbx, hpb, ?_, ?_, fun j v hj => absurd hj (by simp), fun j v hj => absurd hj (by simp), ⟨_, by rw [up_ne (by omega), up_ne (by omega), up_same]; rfl⟩, ⟨_, by rw [up_ne (by omega), up_same]; rfl⟩, ⟨_, by rw [up_same]; rfl⟩, by decide⟩
    · rw [hX]
      exact ⟨a2.far fun j hj => by rw [up_ne (by omega), up_ne (by omega), up_ne (by omega), up_ne (by omega)], _, by rw [up_ne (by omega), up_ne (by omega), up_ne (by omega), up_same]⟩
    · rw [hX]
      intro E E' hE h
      exact ⟨h.1.far fun j hj => hE j (by omega), h.2.choose, (hE 210 (by omega)).trans h.2.choose_spec⟩
  clear hX HTw ho hb hpb f0 f1 c0 c1 c2 c3 c4 c5
  go_upto_region 9 with fail
  generalize (w4.alloc (.cells #[.slice u0.qo p.gh.length u0.qc, .slice u0.vo p.vs.length u0.vc, .slice u0.to p.ts.length u0.tc, .slice u0.oo p.on.length u0.oc, .int .i64 p.miss, .slice u0.co p.cd.length u0.cc] 29)) = w5 at *
  generalize w4.heap.size = B5 at *
  have H3b : Hid (Below W.heap.size W w3) := H3.out.1
  clear H3 HQb HB1
  go_wp2_with fail
  go_loopg [6, 7, 8] 3 (fun gq s6 s7 s8 wr => ∃ (k : Nat) (E : Nat → Option Ent) (ul : List PV) (cl : List Value) (ao lo : Option Addr) (ac lc : Nat), k ≤ 3 ∧ gq = 3 - k ∧ s8 = .int .i64 (k : Int) ∧ s6 = .slice ao (2 * k) ac ∧ s7 = .slice lo (2 * k) lc ∧ ul.length = 2 * k ∧ cl.length = 2 * k ∧ P1 w3 wr pb E p X ul cl cl ao lo none (2 * k) ac (2 * k) lc 0 0 (fun _ => p) (fun _ => s))
  case atStart =>
    obtain ⟨E, hE⟩ := HP0.out
    exact ⟨0, E, [], [], none, none, 0, 0, by omega, rfl, rfl, rfl, rfl, rfl, rfl, hE⟩
  case round =>
    rename_i J0 K0 hJ0 hH0
    obtain ⟨k, E, ul, cl, ao, lo, ac, lc, hk, hgk, rfl, rfl, rfl, hul, hcl, hP⟩ := hrel
    have HG : Hid (gk = 3 - k ∧ k ≤ 3) := ⟨hgk, hk⟩
    have HLn : Hid (ul.length = 2 * k ∧ cl.length = 2 * k) := ⟨hul, hcl⟩
    have HP := show Hid _ from hP
    clear hgk hul hcl hP
    by_cases hk3 : k < 3
    case pos =>
      have hk1 : (k : Int) < 3 := by omega
      have HK3 : Hid (k < 3) := hk3
      have HDr := show Hid _ from HD.out wr (bel_so H3b.out HP.out.bel)
      clear hk3
      go_upto_region 14 with fail
      go_wp2_with fail
      refine Calls.mono HDr.out ?_
      rintro e wd ⟨u1, rfl, ho, hb⟩
      have HQ0 : Hid (∃ E, P1 w3 ((wd.alloc (.cells #[.slice u1.qo p.gh.length u1.qc, .slice u1.vo p.vs.length u1.vc, .slice u1.to p.ts.length u1.tc, .slice u1.oo p.on.length u1.oc, .int .i64 p.miss, .slice u1.co p.cd.length u1.cc] 29)).alloc (.cells #[.int .i64 (0 : Int), .int .i64 (0 : Int)] 32)) pb E p X (ul ++ [u1]) cl cl ao lo none (2 * k) ac (2 * k) lc 0 0 (fun _ => p) (fun _ => s) ∧ E 220 = some (bxE wd.heap.size wd.heap.size #[.slice u1.qo p.gh.length u1.qc, .slice u1.vo p.vs.length u1.vc, .slice u1.to p.ts.length u1.tc, .slice u1.oo p.on.length u1.oc, .int .i64 p.miss, .slice u1.co p.cd.length u1.cc])) := by
        obtain ⟨E2, h2, -⟩ := HP.out.prog (by have := HLn.out; have := HK3.out; omega) rfl hb ho
        have a3 := h2.ap.newbox h2.sz 220 (.slice u1.qo p.gh.length u1.qc) (.slice u1.vo p.vs.length u1.vc) (.slice u1.to p.ts.length u1.tc) (.slice u1.oo p.on.length u1.oc) (.int .i64 p.miss) (.slice u1.co p.cd.length u1.cc)
        have h3 := (h2.same a3 (h2.bel.trans (((Below.refl _ wd).alloc (Nat.le_refl _) _).mono h2.bel.size)) (fun j hj => up_ne hj)).below (w' := ((wd.alloc (.cells #[.slice u1.qo p.gh.length u1.qc, .slice u1.vo p.vs.length u1.vc, .slice u1.to p.ts.length u1.tc, .slice u1.oo p.on.length u1.oc, .int .i64 p.miss, .slice u1.co p.cd.length u1.cc] 29)).alloc (.cells #[.int .i64 (0 : Int), .int .i64 (0 : Int)] 32))) ((Below.refl _ _).alloc (Nat.le_refl _) _)
        exact ⟨_, h3, up_same _ _ _⟩
      clear HDr ho hb HP
      go_upto_region 15 with fail
      generalize ((wd.alloc (.cells #[.slice u1.qo p.gh.length u1.qc, .slice u1.vo p.vs.length u1.vc, .slice u1.to p.ts.length u1.tc, .slice u1.oo p.on.length u1.oc, .int .i64 p.miss, .slice u1.co p.cd.length u1.cc] 29)).alloc (.cells #[.int .i64 (0 : Int), .int .i64 (0 : Int)] 32)) = wc at *
      generalize wd.heap.size = qd at *
      have HS : Hid (∀ (w' : World) (E : Nat → Option Ent), Ap w' pb E → X E → E 220 = some (bxE qd qd #[.slice u1.qo p.gh.length u1.qc, .slice u1.vo p.vs.length u1.vc, .slice u1.to p.ts.length u1.tc, .slice u1.oo p.on.length u1.oc, .int .i64 p.miss, .slice u1.co p.cd.length u1.cc]) → (fun w' : World => w'.cell? ⟨qd, 0, none⟩ = some (.slice u1.qo p.gh.length u1.qc) ∧ w'.cell? ⟨qd, 1, none⟩ = some (.slice u1.vo p.vs.length u1.vc) ∧ w'.cell? ⟨qd, 2, none⟩ = some (.slice u1.to p.ts.length u1.tc) ∧ w'.cell? ⟨qd, 3, none⟩ = some (.slice u1.oo p.on.length u1.oc) ∧ w'.cell? ⟨qd, 4, none⟩ = some (.int .i64 p.miss) ∧ w'.cell? ⟨qd, 5, none⟩ = some (.slice u1.co p.cd.length u1.cc) ∧ w'.cell? ⟨B5, 0, none⟩ = some (.slice u0.qo p.gh.length u0.qc) ∧ w'.cell? ⟨B5, 1, none⟩ = some (.slice u0.vo p.vs.length u0.vc) ∧ w'.cell? ⟨B5, 2, none⟩ = some (.slice u0.to p.ts.length u0.tc) ∧ w'.cell? ⟨B5, 3, none⟩ = some (.slice u0.oo p.on.length u0.oc) ∧ w'.cell? ⟨B5, 4, none⟩ = some (.int .i64 p.miss) ∧ w'.cell? ⟨B5, 5, none⟩ = some (.slice u0.co p.cd.length u0.cc)) w') := fun w' E hA hXE h220 => by
        obtain ⟨-, n, hn⟩ := HX1.out E hXE
        obtain ⟨q0, q1, q2, q3, q4, q5⟩ := hA.box h220
        obtain ⟨r0, r1, r2, r3, r4, r5⟩ := hA.box hn
        exact ⟨q0, q1, q2, q3, q4, q5, r0, r1, r2, r3, r4, r5⟩
      refine wp_region_held (S := fun w' : World => w'.cell? ⟨qd, 0, none⟩ = some (.slice u1.qo p.gh.length u1.qc) ∧ w'.cell? ⟨qd, 1, none⟩ = some (.slice u1.vo p.vs.length u1.vc) ∧ w'.cell? ⟨qd, 2, none⟩ = some (.slice u1.to p.ts.length u1.tc) ∧ w'.cell? ⟨qd, 3, none⟩ = some (.slice u1.oo p.on.length u1.oc) ∧ w'.cell? ⟨qd, 4, none⟩ = some (.int .i64 p.miss) ∧ w'.cell? ⟨qd, 5, none⟩ = some (.slice u1.co p.cd.length u1.cc) ∧ w'.cell? ⟨B5, 0, none⟩ = some (.slice u0.qo p.gh.length u0.qc) ∧ w'.cell? ⟨B5, 1, none⟩ = some (.slice u0.vo p.vs.length u0.vc) ∧ w'.cell? ⟨B5, 2, none⟩ = some (.slice u0.to p.ts.length u0.tc) ∧ w'.cell? ⟨B5, 3, none⟩ = some (.slice u0.oo p.on.length u0.oc) ∧ w'.cell? ⟨B5, 4, none⟩ = some (.int .i64 p.miss) ∧ w'.cell? ⟨B5, 5, none⟩ = some (.slice u0.co p.cd.length u0.cc)) (by kernel_rfl) ?_
      change wpAnyH _ _ _ _ _ _ _ _ wc.drew
      have HQ1 : Hid (∃ E, P1 w3 wc.drew pb E p X (ul ++ [u1]) cl cl ao lo none (2 * k) ac (2 * k) lc 0 0 (fun _ => p) (fun _ => s) ∧ E 220 = some (bxE qd qd #[.slice u1.qo p.gh.length u1.qc, .slice u1.vo p.vs.length u1.vc, .slice u1.to p.ts.length u1.tc, .slice u1.oo p.on.length u1.oc, .int .i64 p.miss, .slice u1.co p.cd.length u1.cc])) := by
        obtain ⟨E, h1, h2⟩ := HQ0.out
        exact ⟨E, h1.below (Below.refl _ _).drew, h2⟩
      clear HQ0
      generalize wc.drew = wc at *
      have hS : (fun w' : World => w'.cell? ⟨qd, 0, none⟩ = some (.slice u1.qo p.gh.length u1.qc) ∧ w'.cell? ⟨qd, 1, none⟩ = some (.slice u1.vo p.vs.length u1.vc) ∧ w'.cell? ⟨qd, 2, none⟩ = some (.slice u1.to p.ts.length u1.tc) ∧ w'.cell? ⟨qd, 3, none⟩ = some (.slice u1.oo p.on.length u1.oc) ∧ w'.cell? ⟨qd, 4, none⟩ = some (.int .i64 p.miss) ∧ w'.cell? ⟨qd, 5, none⟩ = some (.slice u1.co p.cd.length u1.cc) ∧ w'.cell? ⟨B5, 0, none⟩ = some (.slice u0.qo p.gh.length u0.qc) ∧ w'.cell? ⟨B5, 1, none⟩ = some (.slice u0.vo p.vs.length u0.vc) ∧ w'.cell? ⟨B5, 2, none⟩ = some (.slice u0.to p.ts.length u0.tc) ∧ w'.cell? ⟨B5, 3, none⟩ = some (.slice u0.oo p.on.length u0.oc) ∧ w'.cell? ⟨B5, 4, none⟩ = some (.int .i64 p.miss) ∧ w'.cell? ⟨B5, 5, none⟩ = some (.slice u0.co p.cd.length u0.cc)) wc := by
        obtain ⟨E, h1, h2⟩ := HQ1.out
        exact HS.out wc E h1.ap h1.fx h2
      refine tqA 0 rfl hS ?_
      refine tqA 1 rfl hS ?_
      refine tqA 2 rfl hS ?_
      go_simp
      refine wpAnyH_ready (rs := [3]) (by kernel_rfl) (by simp) ?_
      refine AllReadyH.cons rfl (fun K hK => ?_) AllReadyH.nil
      go_simp
      have HT : Hid (Calls Tryd.prog 7 #[.agg (pvC u0 p)] wc fun e W' => ∃ u : PV, e = .returned (.agg (pvC u p)) ∧ Own5 W' wc.heap.size p (.slice u.qo p.gh.length u.qc) (.slice u.vo p.vs.length u.vc) (.slice u.to p.ts.length u.tc) (.slice u.oo p.on.length u.oc) (.slice u.co p.cd.length u.cc) ∧ Below wc.heap.size wc W') := by
        obtain ⟨E, h1, h2⟩ := HQ1.out
        exact twin_any u0 p wc ((HX1.out E h1.fx).1.is h1.ap HLs.out) HW.out.1
      refine Calls.mono HT.out ?_
      rintro e we ⟨u2, rfl, ho, hb⟩
      have HQ2 : Hid (∃ E, P1 w3 we pb E p X (ul ++ [u1] ++ [u2]) cl cl ao lo none (2 * k) ac (2 * k) lc 0 0 (fun _ => p) (fun _ => s) ∧ E 220 = some (bxE qd qd #[.slice u1.qo p.gh.length u1.qc, .slice u1.vo p.vs.length u1.vc, .slice u1.to p.ts.length u1.tc, .slice u1.oo p.on.length u1.oc, .int .i64 p.miss, .slice u1.co p.cd.length u1.cc])) := by
        obtain ⟨E, h1, h2⟩ := HQ1.out
        obtain ⟨E2, h3, h4⟩ := h1.prog (by rw [List.length_append, List.length_singleton]; have := HLn.out; have := HK3.out; omega) rfl hb ho
        exact ⟨E2, h3, (h4 220 rfl).trans h2⟩
      clear HQ1 HT ho hb
      have hS2 : (fun w' : World => w'.cell? ⟨qd, 0, none⟩ = some (.slice u1.qo p.gh.length u1.qc) ∧ w'.cell? ⟨qd, 1, none⟩ = some (.slice u1.vo p.vs.length u1.vc) ∧ w'.cell? ⟨qd, 2, none⟩ = some (.slice u1.to p.ts.length u1.tc) ∧ w'.cell? ⟨qd, 3, none⟩ = some (.slice u1.oo p.on.length u1.oc) ∧ w'.cell? ⟨qd, 4, none⟩ = some (.int .i64 p.miss) ∧ w'.cell? ⟨qd, 5, none⟩ = some (.slice u1.co p.cd.length u1.cc) ∧ w'.cell? ⟨B5, 0, none⟩ = some (.slice u0.qo p.gh.length u0.qc) ∧ w'.cell? ⟨B5, 1, none⟩ = some (.slice u0.vo p.vs.length u0.vc) ∧ w'.cell? ⟨B5, 2, none⟩ = some (.slice u0.to p.ts.length u0.tc) ∧ w'.cell? ⟨B5, 3, none⟩ = some (.slice u0.oo p.on.length u0.oc) ∧ w'.cell? ⟨B5, 4, none⟩ = some (.int .i64 p.miss) ∧ w'.cell? ⟨B5, 5, none⟩ = some (.slice u0.co p.cd.length u0.cc)) we := by
        obtain ⟨E, h1, h2⟩ := HQ2.out
        exact HS.out we E h1.ap h1.fx h2
      refine hK.out _ _ hS2 (fun hS => ?_)
      clear hK K hS2
      go_simp
      refine wpAnyH_ready (rs := [4]) (by kernel_rfl) (by simp) ?_
      refine AllReadyH.cons rfl (fun K hK => ?_) AllReadyH.nil
      refine step_bs2 we rfl (.tmp 55) (.tmp 57) rfl rfl rfl ?_
      have hbx : Below we.heap.size we (we.alloc (.cells #[.slice u1.qo p.gh.length u1.qc, .slice u1.vo p.vs.length u1.vc, .slice u1.to p.ts.length u1.tc, .slice u1.oo p.on.length u1.oc, .int .i64 p.miss, .slice u1.co p.cd.length u1.cc, .slice u2.qo p.gh.length u2.qc, .slice u2.vo p.vs.length u2.vc, .slice u2.to p.ts.length u2.tc, .slice u2.oo p.on.length u2.oc, .int .i64 p.miss, .slice u2.co p.cd.length u2.cc] 29)) := (Below.refl _ _).alloc (Nat.le_refl _) _
      have HQ3 : Hid (∃ E, P1 w3 (we.alloc (.cells #[.slice u1.qo p.gh.length u1.qc, .slice u1.vo p.vs.length u1.vc, .slice u1.to p.ts.length u1.tc, .slice u1.oo p.on.length u1.oc, .int .i64 p.miss, .slice u1.co p.cd.length u1.cc, .slice u2.qo p.gh.length u2.qc, .slice u2.vo p.vs.length u2.vc, .slice u2.to p.ts.length u2.tc, .slice u2.oo p.on.length u2.oc, .int .i64 p.miss, .slice u2.co p.cd.length u2.cc] 29)) pb E p X (ul ++ [u1] ++ [u2]) cl cl ao lo none (2 * k) ac (2 * k) lc 0 0 (fun _ => p) (fun _ => s) ∧ E 220 = some (bxE qd qd #[.slice u1.qo p.gh.length u1.qc, .slice u1.vo p.vs.length u1.vc, .slice u1.to p.ts.length u1.tc, .slice u1.oo p.on.length u1.oc, .int .i64 p.miss, .slice u1.co p.cd.length u1.cc])) := by
        obtain ⟨E, h1, h2⟩ := HQ2.out
        exact ⟨E, h1.below hbx, h2⟩
      have HRw : Hid ((we.alloc (.cells #[.slice u1.qo p.gh.length u1.qc, .slice u1.vo p.vs.length u1.vc, .slice u1.to p.ts.length u1.tc, .slice u1.oo p.on.length u1.oc, .int .i64 p.miss, .slice u1.co p.cd.length u1.cc, .slice u2.qo p.gh.length u2.qc, .slice u2.vo p.vs.length u2.vc, .slice u2.to p.ts.length u2.tc, .slice u2.oo p.on.length u2.oc, .int .i64 p.miss, .slice u2.co p.cd.length u2.cc] 29)).heap[we.heap.size]? = some (.cells (fl6 p [u1, u2]).toArray 29 (0, 0))) := heap_alloc_new _ _
      clear HQ2 hbx
      have hS2 : (fun w' : World => w'.cell? ⟨qd, 0, none⟩ = some (.slice u1.qo p.gh.length u1.qc) ∧ w'.cell? ⟨qd, 1, none⟩ = some (.slice u1.vo p.vs.length u1.vc) ∧ w'.cell? ⟨qd, 2, none⟩ = some (.slice u1.to p.ts.length u1.tc) ∧ w'.cell? ⟨qd, 3, none⟩ = some (.slice u1.oo p.on.length u1.oc) ∧ w'.cell? ⟨qd, 4, none⟩ = some (.int .i64 p.miss) ∧ w'.cell? ⟨qd, 5, none⟩ = some (.slice u1.co p.cd.length u1.cc) ∧ w'.cell? ⟨B5, 0, none⟩ = some (.slice u0.qo p.gh.length u0.qc) ∧ w'.cell? ⟨B5, 1, none⟩ = some (.slice u0.vo p.vs.length u0.vc) ∧ w'.cell? ⟨B5, 2, none⟩ = some (.slice u0.to p.ts.length u0.tc) ∧ w'.cell? ⟨B5, 3, none⟩ = some (.slice u0.oo p.on.length u0.oc) ∧ w'.cell? ⟨B5, 4, none⟩ = some (.int .i64 p.miss) ∧ w'.cell? ⟨B5, 5, none⟩ = some (.slice u0.co p.cd.length u0.cc)) (we.alloc (.cells #[.slice u1.qo p.gh.length u1.qc, .slice u1.vo p.vs.length u1.vc, .slice u1.to p.ts.length u1.tc, .slice u1.oo p.on.length u1.oc, .int .i64 p.miss, .slice u1.co p.cd.length u1.cc, .slice u2.qo p.gh.length u2.qc, .slice u2.vo p.vs.length u2.vc, .slice u2.to p.ts.length u2.tc, .slice u2.oo p.on.length u2.oc, .int .i64 p.miss, .slice u2.co p.cd.length u2.cc] 29)) := by
        obtain ⟨E, h1, h2⟩ := HQ3.out
        exact HS.out _ E h1.ap h1.fx h2
      refine hK.out _ _ hS2 (fun hS => ?_)
      clear hK K hS2
      generalize we.alloc (.cells #[.slice u1.qo p.gh.length u1.qc, .slice u1.vo p.vs.length u1.vc, .slice u1.to p.ts.length u1.tc, .slice u1.oo p.on.length u1.oc, .int .i64 p.miss, .slice u1.co p.cd.length u1.cc, .slice u2.qo p.gh.length u2.qc, .slice u2.vo p.vs.length u2.vc, .slice u2.to p.ts.length u2.tc, .slice u2.oo p.on.length u2.oc, .int .i64 p.miss, .slice u2.co p.cd.length u2.cc] 29) = wf at *
      generalize we.heap.size = gb at *
      go_simp
      refine wpAnyH_ready (rs := [5]) (by kernel_rfl) (by simp) ?_
      refine AllReadyH.cons rfl (fun K hK => ?_) AllReadyH.nil
      obtain ⟨E3, h31, h32⟩ := HQ3.out
      obtain ⟨bb, hbb, hown, happ⟩ := h31.appA
      refine step_appC wf rfl (.tmp 54) (.tmp 58) 36 rfl Tryd.underlying36 infoPr rfl (by decide) rfl hown hbb (some ⟨gb, 0, none⟩) 2 2 (fl6 p [u1, u2]) rfl rfl (rd_row HRw.out) (fun z hz => by
        have e : fl6 p [u1, u2] = [.slice u1.qo p.gh.length u1.qc, .slice u1.vo p.vs.length u1.vc, .slice u1.to p.ts.length u1.tc, .slice u1.oo p.on.length u1.oc, .int .i64 p.miss, .slice u1.co p.cd.length u1.cc, .slice u2.qo p.gh.length u2.qc, .slice u2.vo p.vs.length u2.vc, .slice u2.to p.ts.length u2.tc, .slice u2.oo p.on.length u2.oc, .int .i64 p.miss, .slice u2.co p.cd.length u2.cc] := rfl
        rw [e] at hz
        simp only [List.mem_cons, List.not_mem_nil, or_false] at hz
        rcases hz with rfl | rfl | rfl | rfl | rfl | rfl | rfl | rfl | rfl | rfl | rfl | rfl <;> rfl) (by have := HK3.out; unfold maxLen; omega) (by have := HK3.out; omega) ?_
      intro v' wg hv1 hv2 hv3
      have hfl : fl6 p ((ul ++ [u1] ++ [u2]).take (2 * k)) ++ fl6 p [u1, u2] = fl6 p ((ul ++ [u1] ++ [u2]).take (2 * k + 2)) := by
        have e1 : (ul ++ [u1] ++ [u2]).take (2 * k) = ul := by rw [List.append_assoc, ← HLn.out.1, List.take_left]
        have e2 : (ul ++ [u1] ++ [u2]).take (2 * k + 2) = ul ++ [u1, u2] := by rw [List.append_assoc]; exact List.take_of_length_le (by simp [HLn.out.1])
        rw [e1, e2]
        unfold fl6
        rw [List.flatMap_append]
      rw [hfl] at hv1
      obtain ⟨E4, ao2, ac2, rfl, h41, h42⟩ := happ wg v' (2 * k + 2) (by simp [HLn.out.1]) hv1 hv2 hv3
      have HQ4 : Hid (∃ E, P1 w3 wg pb E p X (ul ++ [u1] ++ [u2]) cl cl ao2 lo none (2 * k + 2) ac2 (2 * k) lc 0 0 (fun _ => p) (fun _ => s) ∧ E 220 = some (bxE qd qd #[.slice u1.qo p.gh.length u1.qc, .slice u1.vo p.vs.length u1.vc, .slice u1.to p.ts.length u1.tc, .slice u1.oo p.on.length u1.oc, .int .i64 p.miss, .slice u1.co p.cd.length u1.cc])) := ⟨E4, h41, (h42 220 (by omega)).trans h32⟩
      clear h31 h32 hown happ hv1 hv2 hv3 hfl h41 h42 HQ3 HRw hbb
      have hS2 : (fun w' : World => w'.cell? ⟨qd, 0, none⟩ = some (.slice u1.qo p.gh.length u1.qc) ∧ w'.cell? ⟨qd, 1, none⟩ = some (.slice u1.vo p.vs.length u1.vc) ∧ w'.cell? ⟨qd, 2, none⟩ = some (.slice u1.to p.ts.length u1.tc) ∧ w'.cell? ⟨qd, 3, none⟩ = some (.slice u1.oo p.on.length u1.oc) ∧ w'.cell? ⟨qd, 4, none⟩ = some (.int .i64 p.miss) ∧ w'.cell? ⟨qd, 5, none⟩ = some (.slice u1.co p.cd.length u1.cc) ∧ w'.cell? ⟨B5, 0, none⟩ = some (.slice u0.qo p.gh.length u0.qc) ∧ w'.cell? ⟨B5, 1, none⟩ = some (.slice u0.vo p.vs.length u0.vc) ∧ w'.cell? ⟨B5, 2, none⟩ = some (.slice u0.to p.ts.length u0.tc) ∧ w'.cell? ⟨B5, 3, none⟩ = some (.slice u0.oo p.on.length u0.oc) ∧ w'.cell? ⟨B5, 4, none⟩ = some (.int .i64 p.miss) ∧ w'.cell? ⟨B5, 5, none⟩ = some (.slice u0.co p.cd.length u0.cc)) wg := by
        obtain ⟨E, h1, h2⟩ := HQ4.out
        exact HS.out _ E h1.ap h1.fx h2
      refine hK.out _ _ hS2 (fun hS => ?_)
      clear hK K hS2
      go_simp
      refine tqA 6 rfl hS ?_
      refine wpAnyH_done (by kernel_rfl) ?_ _
      clear hS HS
      go_simp
      have HQ5 : Hid (∃ E, P1 w3 wg pb E p X (ul ++ [u1] ++ [u2]) cl cl ao2 lo none (2 * k + 2) ac2 (2 * k) lc 0 0 (fun _ => p) (fun _ => s)) := by
        obtain ⟨E, h1, -⟩ := HQ4.out
        exact ⟨E, h1⟩
      clear HQ4
      obtain ⟨Ea, ha⟩ := HQ5.out
      obtain ⟨hIs, nb, hnb⟩ := HX1.out Ea ha.fx
      have HEn := show Hid _ from enc_any u0 p wg (hIs.is ha.ap HLs.out)
      obtain ⟨c0, c1, c2, c3, c4, c5⟩ := ha.ap.box hnb
      clear ha hIs hnb Ea
      go_wp2_with fail
      clear c0 c1 c2 c3 c4 c5
      refine Calls.mono HEn.out ?_
      rintro e wgn ⟨v1, rfl, ho, hb⟩
      rw [HE.out.1] at ho
      rw [HE.out.2]
      obtain ⟨vb1, vc1, rfl⟩ := own_form ho
      have HQ6 : Hid (∃ E, P1 w3 wgn pb E p X (ul ++ [u1] ++ [u2]) (cl ++ [Value.slice vb1 s.length vc1]) (cl ++ [Value.slice vb1 s.length vc1]) ao2 lo none (2 * k + 2) ac2 (2 * k) lc 0 0 (fun _ => p) (fun _ => s)) := by
        obtain ⟨E, h1⟩ := HQ5.out
        exact h1.bytes (by simp [HLn.out.2]; have := HK3.out; omega) rfl hb ho
      clear HEn ho hb HQ5
      obtain ⟨Ea, ha⟩ := HQ6.out
      obtain ⟨hIs, nb, hnb⟩ := HX1.out Ea ha.fx
      have HEn := show Hid _ from enc_any u0 p wgn (hIs.is ha.ap HLs.out)
      obtain ⟨c0, c1, c2, c3, c4, c5⟩ := ha.ap.box hnb
      clear ha hIs hnb Ea
      go_wp2_with fail
      clear c0 c1 c2 c3 c4 c5
      refine Calls.mono HEn.out ?_
      rintro e wgnn ⟨v2, rfl, ho, hb⟩
      rw [HE.out.1] at ho
      rw [HE.out.2]
      obtain ⟨vb2, vc2, rfl⟩ := own_form ho
      have HQ7 : Hid (∃ E, P1 w3 wgnn pb E p X (ul ++ [u1] ++ [u2]) (cl ++ [Value.slice vb1 s.length vc1] ++ [Value.slice vb2 s.length vc2]) (cl ++ [Value.slice vb1 s.length vc1] ++ [Value.slice vb2 s.length vc2]) ao2 lo none (2 * k + 2) ac2 (2 * k) lc 0 0 (fun _ => p) (fun _ => s)) := by
        obtain ⟨E, h1⟩ := HQ6.out
        exact h1.bytes (by simp [HLn.out.2]; have := HK3.out; omega) rfl hb ho
      clear HEn ho hb HQ6
      have HQ8 : Hid (∃ E, P1 w3 (wgnn.alloc (.cells #[Value.slice vb1 s.length vc1, Value.slice vb2 s.length vc2] 22)) pb E p X (ul ++ [u1] ++ [u2]) (cl ++ [Value.slice vb1 s.length vc1, Value.slice vb2 s.length vc2]) (cl ++ [Value.slice vb1 s.length vc1, Value.slice vb2 s.length vc2]) ao2 lo none (2 * k + 2) ac2 (2 * k) lc 0 0 (fun _ => p) (fun _ => s)) := by
        obtain ⟨E, h1⟩ := HQ7.out
        rw [List.append_assoc cl] at h1
        exact ⟨E, h1.below ((Below.refl _ _).alloc (Nat.le_refl _) _)⟩
      have HRw : Hid ((wgnn.alloc (.cells #[Value.slice vb1 s.length vc1, Value.slice vb2 s.length vc2] 22)).heap[wgnn.heap.size]? = some (.cells [Value.slice vb1 s.length vc1, Value.slice vb2 s.length vc2].toArray 22 (0, 0))) := heap_alloc_new _ _
      clear HQ7
      obtain ⟨E8, h81⟩ := HQ8.out
      obtain ⟨bb, hbb, hown, happ⟩ := h81.appL
      go_upto_region 18 with fail
      go_wp2_with (at_builtin; refine wpl_appC _ rfl _ _ 37 rfl Tryd.underlying37 infoBy rfl (by decide) rfl hown hbb (some ⟨wgnn.heap.size, 0, none⟩) 2 2 [Value.slice vb1 s.length vc1, Value.slice vb2 s.length vc2] rfl rfl (rd_row HRw.out) (fun z hz => by
        simp only [List.mem_cons, List.not_mem_nil, or_false] at hz
        rcases hz with rfl | rfl <;> rfl) (by have := HK3.out; unfold maxLen; omega) (by have := HK3.out; omega) ?_)
      intro v' wg2 hv1 hv2 hv3
      have hfl : (cl ++ [Value.slice vb1 s.length vc1, Value.slice vb2 s.length vc2]).take (2 * k) ++ [Value.slice vb1 s.length vc1, Value.slice vb2 s.length vc2] = (cl ++ [Value.slice vb1 s.length vc1, Value.slice vb2 s.length vc2]).take (2 * k + 2) := by
        have e1 : (cl ++ [Value.slice vb1 s.length vc1, Value.slice vb2 s.length vc2]).take (2 * k) = cl := by rw [← HLn.out.2, List.take_left]
        have e2 : (cl ++ [Value.slice vb1 s.length vc1, Value.slice vb2 s.length vc2]).take (2 * k + 2) = cl ++ [Value.slice vb1 s.length vc1, Value.slice vb2 s.length vc2] := List.take_of_length_le (by simp [HLn.out.2])
        rw [e1, e2]
      rw [hfl] at hv1
      obtain ⟨E9, lo2, lc2, rfl, h91, h92⟩ := happ wg2 v' (2 * k + 2) (by simp [HLn.out.2]) hv1 hv2 (by rcases hv3 with e | e; exact Or.inl e; right; rw [e]; simp)
      have HQ9 : Hid (P1 w3 wg2 pb E9 p X (ul ++ [u1] ++ [u2]) (cl ++ [Value.slice vb1 s.length vc1, Value.slice vb2 s.length vc2]) (cl ++ [Value.slice vb1 s.length vc1, Value.slice vb2 s.length vc2]) ao2 lo2 none (2 * (k + 1)) ac2 (2 * (k + 1)) lc2 0 0 (fun _ => p) (fun _ => s)) := h91
      clear h81 hown happ hv1 hv2 hv3 hfl h91 h92 HQ8 HRw hbb
      go_wp2_with fail
      go_roundg (3 - (k + 1))
      case measure => have := HG.out; have := HK3.out; omega
      case rel => exact ⟨k + 1, E9, ul ++ [u1] ++ [u2], cl ++ [Value.slice vb1 s.length vc1, Value.slice vb2 s.length vc2], ao2, lo2, ac2, lc2, HK3.out, rfl, by go_num, rfl, rfl, by simp [HLn.out.1]; omega, by simp [HLn.out.2]; omega, HQ9.out⟩
    case neg =>
      have hk1 : ¬ (k : Int) < 3 := by omega
      obtain rfl : k = 3 := by omega
      clear hk3 HG hk
      go_upto_region 19 with fail
      clear hk1 hH0 hJ0
      simp only [Nat.reduceMul] at HP HLn ⊢
      have HDr := show Hid _ from HD.out wr (bel_so H3b.out HP.out.bel)
      go_wp2_with fail
      refine Calls.mono HDr.out ?_
      rintro e wd ⟨u3, rfl, ho, hb⟩
      obtain ⟨X15, hX15⟩ : ∃ X15 : (Nat → Option Ent) → Prop, X15 = fun E => Is5 E 0 p u0 ∧ (∃ n, E 210 = some (bxE n B5 #[.slice u0.qo p.gh.length u0.qc, .slice u0.vo p.vs.length u0.vc, .slice u0.to p.ts.length u0.tc, .slice u0.oo p.on.length u0.oc, .int .i64 p.miss, .slice u0.co p.cd.length u0.cc])) ∧ Is5 E 1 p u3 ∧ ∃ n, E 211 = some (bxE n wd.heap.size #[.slice u3.qo p.gh.length u3.qc, .slice u3.vo p.vs.length u3.vc, .slice u3.to p.ts.length u3.tc, .slice u3.oo p.on.length u3.oc, .int .i64 p.miss, .slice u3.co p.cd.length u3.cc]) := ⟨_, rfl⟩
      have HX15 : Hid (∀ E, X15 E → Is5 E 0 p u0 ∧ (∃ n, E 210 = some (bxE n B5 #[.slice u0.qo p.gh.length u0.qc, .slice u0.vo p.vs.length u0.vc, .slice u0.to p.ts.length u0.tc, .slice u0.oo p.on.length u0.oc, .int .i64 p.miss, .slice u0.co p.cd.length u0.cc])) ∧ Is5 E 1 p u3 ∧ ∃ n, E 211 = some (bxE n wd.heap.size #[.slice u3.qo p.gh.length u3.qc, .slice u3.vo p.vs.length u3.vc, .slice u3.to p.ts.length u3.tc, .slice u3.oo p.on.length u3.oc, .int .i64 p.miss, .slice u3.co p.cd.length u3.cc])) := fun E h => by rw [hX15] at h; exact h
      have HR1 : Hid (∃ E, P1 w3 ((wd.alloc (.cells #[.slice u3.qo p.gh.length u3.qc, .slice u3.vo p.vs.length u3.vc, .slice u3.to p.ts.length u3.tc, .slice u3.oo p.on.length u3.oc, .int .i64 p.miss, .slice u3.co p.cd.length u3.cc] 29)).alloc (.cells #[.int .i64 (0 : Int), .int .i64 (0 : Int)] 32)) pb E p X15 ul cl cl ao lo none 6 ac 6 lc 0 0 (fun _ => p) (fun _ => s)) := by
        obtain ⟨E2, a1, a2, a3⟩ := HP.out.ap.five (i := 1) hb (Nat.le_of_lt HP.out.sz) ho
        have hsd : pb < wd.heap.size := by have := HP.out.sz; have := hb.size; omega
        have a4 := a1.newbox hsd 211 (.slice u3.qo p.gh.length u3.qc) (.slice u3.vo p.vs.length u3.vc) (.slice u3.to p.ts.length u3.tc) (.slice u3.oo p.on.length u3.oc) (.int .i64 p.miss) (.slice u3.co p.cd.length u3.cc)
        have hb1 : Below wd.heap.size wd (wd.alloc (.cells #[.slice u3.qo p.gh.length u3.qc, .slice u3.vo p.vs.length u3.vc, .slice u3.to p.ts.length u3.tc, .slice u3.oo p.on.length u3.oc, .int .i64 p.miss, .slice u3.co p.cd.length u3.cc] 29)) := (Below.refl _ _).alloc (Nat.le_refl _) _
        have hb2 : Below (wd.alloc (.cells #[.slice u3.qo p.gh.length u3.qc, .slice u3.vo p.vs.length u3.vc, .slice u3.to p.ts.length u3.tc, .slice u3.oo p.on.length u3.oc, .int .i64 p.miss, .slice u3.co p.cd.length u3.cc] 29)).heap.size (wd.alloc (.cells #[.slice u3.qo p.gh.length u3.qc, .slice u3.vo p.vs.length u3.vc, .slice u3.to p.ts.length u3.tc, .slice u3.oo p.on.length u3.oc, .int .i64 p.miss, .slice u3.co p.cd.length u3.cc] 29)) ((wd.alloc (.cells #[.slice u3.qo p.gh.length u3.qc, .slice u3.vo p.vs.length u3.vc, .slice u3.to p.ts.length u3.tc, .slice u3.oo p.on.length u3.oc, .int .i64 p.miss, .slice u3.co p.cd.length u3.cc] 29)).alloc (.cells #[.int .i64 (0 : Int), .int .i64 (0 : Int)] 32)) := (Below.refl _ _).alloc (Nat.le_refl _) _
        obtain ⟨i1, n, i2⟩ := HX1.out _ HP.out.fx
        refine ⟨_, HP.out.fix (a4.below hb2) (bel_so (bel_so (HP.out.bel.trans (hb.mono HP.out.bel.size)) (hb1.mono (Nat.le_refl _))) hb2) (fun j h1 h2 => (up_ne (by omega)).trans (a3 j (by omega))) ?_ ?_⟩
        · rw [hX15]
          exact ⟨i1.far fun j hj => (up_ne (by omega)).trans (a3 j (by omega)), ⟨n, (up_ne (by omega)).trans ((a3 210 (by omega)).trans i2)⟩, a2.far fun j hj => up_ne (by omega), _, up_same _ _ _⟩
        · rw [hX15]
          intro E E' hE h
          obtain ⟨q1, ⟨n, q2⟩, q3, m, q4⟩ := h
          exact ⟨q1.far fun j hj => hE j (by omega), ⟨n, (hE 210 (by omega)).trans q2⟩, q3.far fun j hj => hE j (by omega), m, (hE 211 (by omega)).trans q4⟩
      clear hX15 ho hb HDr HP HX1
      go_upto_region 20 with fail
      generalize ((wd.alloc (.cells #[.slice u3.qo p.gh.length u3.qc, .slice u3.vo p.vs.length u3.vc, .slice u3.to p.ts.length u3.tc, .slice u3.oo p.on.length u3.oc, .int .i64 p.miss, .slice u3.co p.cd.length u3.cc] 29)).alloc (.cells #[.int .i64 (0 : Int), .int .i64 (0 : Int)] 32)) = w6 at *
      generalize wd.heap.size = B15 at *
      have HT : Hid (Calls Tryd.prog 7 #[.agg (pvC u0 p)] w6 fun e W' => ∃ u : PV, e = .returned (.agg (pvC u p)) ∧ Own5 W' w6.heap.size p (.slice u.qo p.gh.length u.qc) (.slice u.vo p.vs.length u.vc) (.slice u.to p.ts.length u.tc) (.slice u.oo p.on.length u.oc) (.slice u.co p.cd.length u.cc) ∧ Below w6.heap.size w6 W') := by
        obtain ⟨E, h1⟩ := HR1.out
        exact twin_any u0 p w6 ((HX15.out E h1.fx).1.is h1.ap HLs.out) HW.out.1
      obtain ⟨c0, c1, c2, c3, c4, c5⟩ : w6.cell? ⟨B5, 0, none⟩ = some (.slice u0.qo p.gh.length u0.qc) ∧ w6.cell? ⟨B5, 1, none⟩ = some (.slice u0.vo p.vs.length u0.vc) ∧ w6.cell? ⟨B5, 2, none⟩ = some (.slice u0.to p.ts.length u0.tc) ∧ w6.cell? ⟨B5, 3, none⟩ = some (.slice u0.oo p.on.length u0.oc) ∧ w6.cell? ⟨B5, 4, none⟩ = some (.int .i64 p.miss) ∧ w6.cell? ⟨B5, 5, none⟩ = some (.slice u0.co p.cd.length u0.cc) := by
        obtain ⟨E, h1⟩ := HR1.out
        obtain ⟨-, ⟨n, hn⟩, -⟩ := HX15.out E h1.fx
        exact h1.ap.box hn
      go_wp2_with fail
      clear c0 c1 c2 c3 c4 c5
      refine Calls.mono HT.out ?_
      rintro e we ⟨u4, rfl, ho, hb⟩
      obtain ⟨X17, hX17⟩ : ∃ X17 : (Nat → Option Ent) → Prop, X17 = fun E => Is5 E 0 p u0 ∧ (∃ n, E 210 = some (bxE n B5 #[.slice u0.qo p.gh.length u0.qc, .slice u0.vo p.vs.length u0.vc, .slice u0.to p.ts.length u0.tc, .slice u0.oo p.on.length u0.oc, .int .i64 p.miss, .slice u0.co p.cd.length u0.cc])) ∧ Is5 E 1 p u3 ∧ (∃ n, E 211 = some (bxE n B15 #[.slice u3.qo p.gh.length u3.qc, .slice u3.vo p.vs.length u3.vc, .slice u3.to p.ts.length u3.tc, .slice u3.oo p.on.length u3.oc, .int .i64 p.miss, .slice u3.co p.cd.length u3.cc])) ∧ Is5 E 2 p u4 ∧ ∃ n, E 212 = some (bxE n we.heap.size #[.slice u4.qo p.gh.length u4.qc, .slice u4.vo p.vs.length u4.vc, .slice u4.to p.ts.length u4.tc, .slice u4.oo p.on.length u4.oc, .int .i64 p.miss, .slice u4.co p.cd.length u4.cc]) := ⟨_, rfl⟩
      have HX : Hid (∀ E, X17 E → Is5 E 0 p u0 ∧ (∃ n, E 210 = some (bxE n B5 #[.slice u0.qo p.gh.length u0.qc, .slice u0.vo p.vs.length u0.vc, .slice u0.to p.ts.length u0.tc, .slice u0.oo p.on.length u0.oc, .int .i64 p.miss, .slice u0.co p.cd.length u0.cc])) ∧ Is5 E 1 p u3 ∧ (∃ n, E 211 = some (bxE n B15 #[.slice u3.qo p.gh.length u3.qc, .slice u3.vo p.vs.length u3.vc, .slice u3.to p.ts.length u3.tc, .slice u3.oo p.on.length u3.oc, .int .i64 p.miss, .slice u3.co p.cd.length u3.cc])) ∧ Is5 E 2 p u4 ∧ ∃ n, E 212 = some (bxE n we.heap.size #[.slice u4.qo p.gh.length u4.qc, .slice u4.vo p.vs.length u4.vc, .slice u4.to p.ts.length u4.tc, .slice u4.oo p.on.length u4.oc, .int .i64 p.miss, .slice u4.co p.cd.length u4.cc])) := fun E h => by rw [hX17] at h; exact h
      have HR2 : Hid (∃ E, P1 w3 (we.alloc (.cells #[.slice u4.qo p.gh.length u4.qc, .slice u4.vo p.vs.length u4.vc, .slice u4.to p.ts.length u4.tc, .slice u4.oo p.on.length u4.oc, .int .i64 p.miss, .slice u4.co p.cd.length u4.cc] 29)) pb E p X17 ul cl cl ao lo none 6 ac 6 lc 0 0 (fun _ => p) (fun _ => s)) := by
        obtain ⟨E, hP⟩ := HR1.out
        obtain ⟨E2, a1, a2, a3⟩ := hP.ap.five (i := 2) hb (Nat.le_of_lt hP.sz) ho
        have hsd : pb < we.heap.size := by have := hP.sz; have := hb.size; omega
        have a4 := a1.newbox hsd 212 (.slice u4.qo p.gh.length u4.qc) (.slice u4.vo p.vs.length u4.vc) (.slice u4.to p.ts.length u4.tc) (.slice u4.oo p.on.length u4.oc) (.int .i64 p.miss) (.slice u4.co p.cd.length u4.cc)
        have hb1 : Below we.heap.size we (we.alloc (.cells #[.slice u4.qo p.gh.length u4.qc, .slice u4.vo p.vs.length u4.vc, .slice u4.to p.ts.length u4.tc, .slice u4.oo p.on.length u4.oc, .int .i64 p.miss, .slice u4.co p.cd.length u4.cc] 29)) := (Below.refl _ _).alloc (Nat.le_refl _) _
        obtain ⟨i1, ⟨n, i2⟩, i3, m, i4⟩ := HX15.out _ hP.fx
        refine ⟨_, hP.fix a4 (bel_so (hP.bel.trans (hb.mono hP.bel.size)) hb1) (fun j h1 h2 => (up_ne (by omega)).trans (a3 j (by omega))) ?_ ?_⟩
        · rw [hX17]
          exact ⟨i1.far fun j hj => (up_ne (by omega)).trans (a3 j (by omega)), ⟨n, (up_ne (by omega)).trans ((a3 210 (by omega)).trans i2)⟩, i3.far fun j hj => (up_ne (by omega)).trans (a3 j (by omega)), ⟨m, (up_ne (by omega)).trans ((a3 211 (by omega)).trans i4)⟩, a2.far fun j hj => up_ne (by omega), _, up_same _ _ _⟩
        · rw [hX17]
          intro E E' hE h
          obtain ⟨q1, ⟨n, q2⟩, q3, ⟨m, q4⟩, q5, r, q6⟩ := h
          exact ⟨q1.far fun j hj => hE j (by omega), ⟨n, (hE 210 (by omega)).trans q2⟩, q3.far fun j hj => hE j (by omega), ⟨m, (hE 211 (by omega)).trans q4⟩, q5.far fun j hj => hE j (by omega), r, (hE 212 (by omega)).trans q6⟩
      clear hX17 ho hb HT HR1 HX15
      go_upto_region 21 with fail
      generalize (we.alloc (.cells #[.slice u4.qo p.gh.length u4.qc, .slice u4.vo p.vs.length u4.vc, .slice u4.to p.ts.length u4.tc, .slice u4.oo p.on.length u4.oc, .int .i64 p.miss, .slice u4.co p.cd.length u4.cc] 29)) = w7 at *
      generalize we.heap.size = B17 at *
      go_wp2_with fail
      obtain ⟨ag, lg, hag, hlg⟩ : ∃ ag lg, ao = some ⟨ag, 0, none⟩ ∧ lo = some ⟨lg, 0, none⟩ := by
        obtain ⟨E, hP⟩ := HR2.out
        obtain ⟨n, hn⟩ := hP.all
        obtain ⟨m, hm⟩ := hP.lst
        obtain ⟨ag, e1⟩ := own_at (hP.ap.ow _ _ hn).2 (by show 0 < 6; omega)
        obtain ⟨lg, e2⟩ := own_at (hP.ap.ow _ _ hm).2 (by show 0 < 6; omega)
        exact ⟨ag, lg, e1, e2⟩
      subst hag
      subst hlg
      have HBl : Hid (∀ j, j < 6 → ∃ vb vc, cl[j]? = some (.slice vb s.length vc)) := fun j hj => by
        obtain ⟨E, hP⟩ := HR2.out
        obtain ⟨v, hv⟩ : ∃ v, cl[j]? = some v := ⟨_, List.getElem?_eq_getElem (by have := HLn.out; omega)⟩
        obtain ⟨o, c, rfl⟩ := hP.bytF hv
        exact ⟨o, c, hv⟩
      go_loopg [18] 6 (fun gq s18 wr => ∃ (k : Nat) (E : Nat → Option Ent), k ≤ 6 ∧ gq = 6 - k ∧ s18 = .int .i64 (k : Int) ∧ P1 w3 wr pb E p X17 ul cl cl (some ⟨ag, 0, none⟩) (some ⟨lg, 0, none⟩) none 6 ac 6 lc 0 0 (fun j => if j < k then spl j p else p) (fun _ => s))
      case atStart =>
        obtain ⟨E, hE⟩ := HR2.out
        refine ⟨0, E, by omega, rfl, rfl, ?_⟩
        rw [show (fun j => if j < 0 then spl j p else p) = (fun _ : Nat => p) from funext fun j => if_neg (by omega)]
        exact hE
      case round =>
        rename_i J1 K1 hJ1 hH1
        obtain ⟨k, E, hk, hgk, rfl, hP⟩ := hrel
        have HG : Hid (gk = 6 - k ∧ k ≤ 6) := ⟨hgk, hk⟩
        have HP := show Hid _ from hP
        clear hgk hP
        by_cases hk6 : k < 6
        case pos =>
          have hk1 : (k : Int) < 6 := by omega
          have HK6 : Hid (k < 6) := hk6
          obtain ⟨uk, huk⟩ : ∃ u, ul[k]? = some u := ⟨_, List.getElem?_eq_getElem (by have := HLn.out; omega)⟩
          have d0 : wr.cell? ⟨ag, k * 6, none⟩ = some (.slice uk.qo p.gh.length uk.qc) := HP.out.cellsA huk (by omega) 0 (by omega)
          have d1 : wr.cell? ⟨ag, k * 6 + 1, none⟩ = some (.slice uk.vo p.vs.length uk.vc) := HP.out.cellsA huk (by omega) 1 (by omega)
          have d2 : wr.cell? ⟨ag, k * 6 + 2, none⟩ = some (.slice uk.to p.ts.length uk.tc) := HP.out.cellsA huk (by omega) 2 (by omega)
          have d3 : wr.cell? ⟨ag, k * 6 + 3, none⟩ = some (.slice uk.oo p.on.length uk.oc) := HP.out.cellsA huk (by omega) 3 (by omega)
          have d4 : wr.cell? ⟨ag, k * 6 + 4, none⟩ = some (.int .i64 p.miss) := HP.out.cellsA huk (by omega) 4 (by omega)
          have d5 : wr.cell? ⟨ag, k * 6 + 5, none⟩ = some (.slice uk.co p.cd.length uk.cc) := HP.out.cellsA huk (by omega) 5 (by omega)
          have HSp : Hid (Calls Tryd.prog 9 #[.agg #[.slice uk.qo p.gh.length uk.qc, .slice uk.vo p.vs.length uk.vc, .slice uk.to p.ts.length uk.tc, .slice uk.oo p.on.length uk.oc, .int .i64 p.miss, .slice uk.co p.cd.length uk.cc], .int .i64 (k : Int)] wr fun e W' => e = .returned (.tuple #[]) ∧ ∃ E', P1 w3 W' pb E' p X17 ul cl cl (some ⟨ag, 0, none⟩) (some ⟨lg, 0, none⟩) none 6 ac 6 lc 0 0 (fun j => if j < k + 1 then spl j p else p) (fun _ => s)) := by
            have hI := HP.out.prg k uk huk
            rw [if_neg (Nat.lt_irrefl k)] at hI
            refine (spoil_any HP.out.ap hI HP.out.sz (by omega) HW.out.2.1).mono ?_
            rintro e W' ⟨rfl, E', q1, q2, q3, q4⟩
            refine ⟨rfl, E', ?_⟩
            have h9 := HP.out.spoil huk q1 q2 q3 q4
            rw [show up (fun j => if j < k then spl j p else p) k (spl k p) = (fun j => if j < k + 1 then spl j p else p) from funext fun j => by
              by_cases e : j = k
              · subst e; rw [up_same, if_pos (Nat.lt_succ_self _)]
              · rw [up_ne e]
                by_cases e2 : j < k
                · rw [if_pos e2, if_pos (by omega)]
                · rw [if_neg e2, if_neg (by omega)]] at h9
            exact h9
          clear hk6 huk
          go_wp2_with fail
          refine Calls.mono HSp.out ?_
          rintro e wn ⟨rfl, E', hP'⟩
          have HP' := show Hid _ from hP'
          clear hP' HSp HP d0 d1 d2 d3 d4 d5
          go_wp2_with fail
          go_roundg (6 - (k + 1))
          case measure => have := HG.out; have := HK6.out; omega
          case rel => exact ⟨k + 1, E', HK6.out, rfl, by go_num, HP'.out⟩
        case neg =>
          have hk1 : ¬ (k : Int) < 6 := by omega
          obtain rfl : k = 6 := by omega
          clear hk6 HG hk
          go_wp2_with fail
          clear hk1 hH1 hJ1
          go_loopg [19] 6 (fun gq s19 wr => ∃ (k : Nat) (E : Nat → Option Ent), k ≤ 6 ∧ gq = 6 - k ∧ s19 = .int .i64 (k : Int) ∧ P1 w3 wr pb E p X17 ul cl cl (some ⟨ag, 0, none⟩) (some ⟨lg, 0, none⟩) none 6 ac 6 lc 0 0 (fun j => if j < 6 then spl j p else p) (fun _ => s))
          case atStart => exact ⟨0, E, by omega, rfl, rfl, HP.out⟩
          case round =>
            clear HP E HR2
            rename_i J2 K2 hJ2 hH2
            obtain ⟨k, E, hk, hgk, rfl, hP⟩ := hrel
            have HG : Hid (gk = 6 - k ∧ k ≤ 6) := ⟨hgk, hk⟩
            have HP := show Hid _ from hP
            clear hgk hP
            by_cases hk6 : k < 6
            case pos =>
              have hk1 : (k : Int) < 6 := by omega
              have HK6 : Hid (k < 6) := hk6
              obtain ⟨uk, huk⟩ : ∃ u, ul[k]? = some u := ⟨_, List.getElem?_eq_getElem (by have := HLn.out; omega)⟩
              have d0 : wr.cell? ⟨ag, k * 6, none⟩ = some (.slice uk.qo p.gh.length uk.qc) := HP.out.cellsA huk (by omega) 0 (by omega)
              have d1 : wr.cell? ⟨ag, k * 6 + 1, none⟩ = some (.slice uk.vo p.vs.length uk.vc) := HP.out.cellsA huk (by omega) 1 (by omega)
              have d2 : wr.cell? ⟨ag, k * 6 + 2, none⟩ = some (.slice uk.to p.ts.length uk.tc) := HP.out.cellsA huk (by omega) 2 (by omega)
              have d3 : wr.cell? ⟨ag, k * 6 + 3, none⟩ = some (.slice uk.oo p.on.length uk.oc) := HP.out.cellsA huk (by omega) 3 (by omega)
              have d4 : wr.cell? ⟨ag, k * 6 + 4, none⟩ = some (.int .i64 p.miss) := HP.out.cellsA huk (by omega) 4 (by omega)
              have d5 : wr.cell? ⟨ag, k * 6 + 5, none⟩ = some (.slice uk.co p.cd.length uk.cc) := HP.out.cellsA huk (by omega) 5 (by omega)
              have HSp : Hid (Calls Tryd.prog 10 #[.agg #[.slice uk.qo p.gh.length uk.qc, .slice uk.vo p.vs.length uk.vc, .slice uk.to p.ts.length uk.tc, .slice uk.oo p.on.length uk.oc, .int .i64 p.miss, .slice uk.co p.cd.length uk.cc], .int .i64 (k : Int)] wr fun e W' => e = .returned (.bool true) ∧ Below wr.heap.size wr W') := by
                have hI := HP.out.prg k uk huk
                rw [if_pos hk6] at hI
                have hln := HW.out
                have h9 := spoilt_any (hI.is HP.out.ap (by simp only [spl, pr_len]; exact HLs.out)) (mk_spl k p) (by omega) (by simp only [spl, pr_len]; exact hln.2.1)
                rw [pvC_spl] at h9
                exact h9
              clear hk6 huk
              go_wp2_with fail
              refine Calls.mono HSp.out ?_
              rintro e wn ⟨rfl, hb⟩
              have HP' := show Hid _ from HP.out.below hb
              clear hb HSp HP d0 d1 d2 d3 d4 d5
              go_wp2_with fail
              go_roundg (6 - (k + 1))
              case measure => have := HG.out; have := HK6.out; omega
              case rel => exact ⟨k + 1, E, HK6.out, rfl, by go_num, HP'.out⟩
            case neg =>
              have hk1 : ¬ (k : Int) < 6 := by omega
              obtain rfl : k = 6 := by omega
              clear hk6 HG hk
              go_wp2_with fail
              clear hk1 hH2 hJ2
              go_loopg [20] 6 (fun gq s20 wr => ∃ (k : Nat) (E : Nat → Option Ent), k ≤ 6 ∧ gq = 6 - k ∧ s20 = .int .i64 (k : Int) ∧ P1 w3 wr pb E p X17 ul cl cl (some ⟨ag, 0, none⟩) (some ⟨lg, 0, none⟩) none 6 ac 6 lc 0 0 (fun j => if j < 6 then spl j p else p) (fun j => if j < k then pr (fun _ => 200 + j) s s.length else s))
              case atStart =>
                refine ⟨0, E, by omega, rfl, rfl, ?_⟩
                rw [show (fun j => if j < 0 then pr (fun _ => 200 + j) s s.length else s) = (fun _ : Nat => s) from funext fun j => if_neg (by omega)]
                exact HP.out
              case round =>
                clear HP E
                rename_i J3 K3 hJ3 hH3
                obtain ⟨k, E, hk, hgk, rfl, hP⟩ := hrel
                have HG : Hid (gk = 6 - k ∧ k ≤ 6) := ⟨hgk, hk⟩
                have HP := show Hid _ from hP
                clear hgk hP
                by_cases hk6 : k < 6
                case pos =>
                  have hk1 : (k : Int) < 6 := by omega
                  have HK6 : Hid (k < 6) := hk6
                  obtain ⟨vb, vc, hvb⟩ := HBl.out k hk6
                  have HVb := show Hid _ from hvb
                  clear hk6 hvb
                  go_wp2_with fail
                  go_loopg [21] s.length (fun gq s21 wr => ∃ (q : Nat) (E : Nat → Option Ent), q ≤ s.length ∧ gq = s.length - q ∧ s21 = .int .i64 (q : Int) ∧ P1 w3 wr pb E p X17 ul cl cl (some ⟨ag, 0, none⟩) (some ⟨lg, 0, none⟩) none 6 ac 6 lc 0 0 (fun j => if j < 6 then spl j p else p) (fun j => if j < k then pr (fun _ => 200 + j) s s.length else if j = k then pr (fun _ => 200 + k) s q else s))
                  case atStart =>
                    refine ⟨0, E, by omega, rfl, rfl, ?_⟩
                    rw [show (fun j => if j < k then pr (fun _ => 200 + j) s s.length else if j = k then pr (fun _ => 200 + k) s 0 else s) = (fun j => if j < k then pr (fun _ => 200 + j) s s.length else s) from funext fun j => by
                      by_cases e : j < k
                      · rw [if_pos e, if_pos e]
                      · rw [if_neg e, if_neg e]
                        by_cases e2 : j = k
                        · rw [if_pos e2]; rfl
                        · rw [if_neg e2]]
                    exact HP.out
                  case round =>
                    clear HP E
                    rename_i J4 K4 hJ4 hH4
                    obtain ⟨q, E, hq, hgq, rfl, hP⟩ := hrel
                    have HGq : Hid (gk = s.length - q ∧ q ≤ s.length) := ⟨hgq, hq⟩
                    have HP := show Hid _ from hP
                    have dl : wr.cell? ⟨lg, k, none⟩ = some (.slice vb s.length vc) := by rw [hP.cellL (by have := HK6.out; omega)]; exact HVb.out
                    have hq5 : (q : Int) ≤ 524288 := by have := HN.out.1; omega
                    have hbl : s.length = ((fun j => if j < k then pr (fun _ => 200 + j) s s.length else if j = k then pr (fun _ => 200 + k) s q else s) k).length := by
                      show s.length = (if k < k then pr (fun _ => 200 + k) s s.length else if k = k then pr (fun _ => 200 + k) s q else s).length
                      rw [if_neg (Nat.lt_irrefl k), if_pos rfl, pr_len]
                    clear hgq
                    by_cases hqs : q < s.length
                    case pos =>
                      obtain ⟨g, hg⟩ := hP.bytS HVb.out hbl (by omega)
                      subst hg
                      obtain ⟨hb1, hb2⟩ := hP.bytR HVb.out hbl
                      obtain ⟨y, dy⟩ : ∃ y, wr.cell? ⟨g, q, none⟩ = some y := by
                        rw [hb1 q hqs]
                        exact ⟨_, List.getElem?_eq_getElem (by unfold u8L; rw [List.length_map, ← hbl]; exact hqs)⟩
                      have fy := hb2 q
                      have hq1 : (q : Int) < (s.length : Int) := by omega
                      have HQ : Hid (q < s.length) := hqs
                      have HW8 : Hid (∃ E', P1 w3 (wr.setCell ⟨g, q, none⟩ (.int .u8 (200 + (k : Int)))) pb E' p X17 ul cl cl (some ⟨ag, 0, none⟩) (some ⟨lg, 0, none⟩) none 6 ac 6 lc 0 0 (fun j => if j < 6 then spl j p else p) (fun j => if j < k then pr (fun _ => 200 + j) s s.length else if j = k then pr (fun _ => 200 + k) s (q + 1) else s)) := by
                        have hv := HVb.out
                        rw [hbl] at hv
                        obtain ⟨E', h9⟩ := hP.byteW (q := q) (x := 200 + k) hv
                        rw [show up (fun j => if j < k then pr (fun _ => 200 + j) s s.length else if j = k then pr (fun _ => 200 + k) s q else s) k (((fun j => if j < k then pr (fun _ => 200 + j) s s.length else if j = k then pr (fun _ => 200 + k) s q else s) k).set q (200 + k)) = (fun j => if j < k then pr (fun _ => 200 + j) s s.length else if j = k then pr (fun _ => 200 + k) s (q + 1) else s) from funext fun j => by
                          by_cases e : j = k
                          · subst e
                            rw [up_same]
                            simp only [Nat.lt_irrefl, if_false, if_true]
                            rfl
                          · rw [up_ne e]
                            by_cases e2 : j < k
                            · rw [if_pos e2, if_pos e2]
                            · rw [if_neg e2, if_neg e, if_neg e2, if_neg e]] at h9
                        rw [show ((200 + k : Nat) : Int) = 200 + (k : Int) by omega] at h9
                        exact ⟨E', h9⟩
                      have hwr : IntKind.u8.wrap (200 + (k : Int)) = 200 + (k : Int) := by
                        have h6 := HK6.out
                        obtain rfl | rfl | rfl | rfl | rfl | rfl : k = 0 ∨ k = 1 ∨ k = 2 ∨ k = 3 ∨ k = 4 ∨ k = 5 := by omega
                        all_goals rfl
                      clear hb1 hb2 hqs hbl hP HP
                      go_wp2_with fail
                      obtain ⟨E', hE'⟩ := HW8.out
                      go_roundg (s.length - (q + 1))
                      case measure => have := HGq.out; have := HQ.out; omega
                      case rel => exact ⟨q + 1, E', HQ.out, rfl, by go_num, hE'⟩
                    case neg =>
                      have hq1 : ¬ (q : Int) < (s.length : Int) := by omega
                      obtain rfl : q = s.length := by omega
                      clear hqs hbl HGq hq hP
                      go_wp2_with fail
                      clear hq1 hH4 hJ4 dl hq5
                      go_roundg (6 - (k + 1))
                      case measure => have := HG.out; have := HK6.out; omega
                      case rel =>
                        refine ⟨k + 1, E, HK6.out, rfl, by go_num, ?_⟩
                        rw [show (fun j => if j < k + 1 then pr (fun _ => 200 + j) s s.length else s) = (fun j => if j < k then pr (fun _ => 200 + j) s s.length else if j = k then pr (fun _ => 200 + k) s s.length else s) from funext fun j => by
                          by_cases e : j < k
                          · rw [if_pos e, if_pos (by omega)]
                          · rw [if_neg e]
                            by_cases e2 : j = k
                            · subst e2; rw [if_pos rfl, if_pos (by omega)]
                            · rw [if_neg e2, if_neg (by omega)]]
                        exact HP.out
                case neg =>
                  have hk1 : ¬ (k : Int) < 6 := by omega
                  obtain rfl : k = 6 := by omega
                  clear hk6 HG hk
                  go_upto_region 38 with fail
                  clear hk1 hH3 hJ3
                  obtain ⟨bb, hbb, hown, happ⟩ := HP.out.appG
                  have hrdL : Vf.Rd wr (some ⟨lg, 0, none⟩) cl := by
                    obtain ⟨n, hn⟩ := HP.out.lst
                    have h9 := own_rdV (HP.out.ap.ow _ _ hn).2
                    rw [List.take_of_length_le (by have := HLn.out; omega)] at h9
                    exact h9
                  have honeL : ∀ z ∈ cl, z.oneCell' = true := fun z hz => by
                    obtain ⟨j, hj, e⟩ := List.getElem_of_mem hz
                    obtain ⟨o1, c1, h9⟩ := HBl.out j (by have := HLn.out; omega)
                    rw [List.getElem?_eq_getElem hj, e] at h9
                    rw [Option.some.inj h9]
                    rfl
                  go_wp2_with (at_builtin; refine wpl_appC _ rfl _ _ 37 rfl Tryd.underlying37 infoBy rfl (by decide) rfl hown hbb (some ⟨lg, 0, none⟩) 6 lc cl rfl (by have := HLn.out; omega) hrdL honeL (by unfold maxLen; omega) (by omega) ?_)
                  intro v' wg hv1 hv2 hv3
                  have e6 : cl.length = 6 := HLn.out.2
                  have hv1b : wg.ownsRow bb 22 1 v' cl.length cl := by rw [e6]; exact hv1
                  obtain ⟨Eg, go2, gc2, rfl, hPg⟩ := happ wg v' hv1b hv2 hv3
                  rw [e6] at hPg
                  rw [e6]
                  obtain ⟨gg, hgg⟩ : ∃ gg, go2 = some ⟨gg, 0, none⟩ := by
                    obtain ⟨n, hn⟩ := hPg.grw
                    exact own_at (hPg.ap.ow _ _ hn).2 (by show 0 < 6; omega)
                  subst hgg
                  have HPg : Hid (P1 w3 wg pb Eg p X17 ul cl cl (some ⟨ag, 0, none⟩) (some ⟨lg, 0, none⟩) (some ⟨gg, 0, none⟩) 6 ac 6 lc 6 gc2 (fun j => if j < 6 then spl j p else p) (fun j => pr (fun _ => 200 + j) s s.length ++ List.replicate 0 (20 + j))) := hPg.bcc fun j hj => by
                    show _ ++ [] = if j < 6 then _ else s
                    rw [if_pos hj, List.append_nil]
                  clear hown happ hrdL honeL hv1 hv1b hv2 hv3 hPg e6 HP E hbb bb
                  go_wp2_with fail
                  go_loopg [23] 40 (fun gq s23 wr => ∃ (r : Nat) (E : Nat → Option Ent) (cg : List Value), r ≤ 40 ∧ gq = 40 - r ∧ s23 = .int .i64 (r : Int) ∧ cg.length = 6 ∧ P1 w3 wr pb E p X17 ul cg cl (some ⟨ag, 0, none⟩) (some ⟨lg, 0, none⟩) (some ⟨gg, 0, none⟩) 6 ac 6 lc 6 gc2 (fun j => if j < 6 then spl j p else p) (fun j => pr (fun _ => 200 + j) s s.length ++ List.replicate r (20 + j)))
                  case atStart => exact ⟨0, Eg, cl, by omega, rfl, rfl, HLn.out.2, HPg.out⟩
                  case round =>
                    clear HPg Eg
                    rename_i J5 K5 hJ5 hH5
                    obtain ⟨r, E, cg, hr, hgk, rfl, hcg, hP⟩ := hrel
                    have HG : Hid (gk = 40 - r ∧ r ≤ 40) := ⟨hgk, hr⟩
                    have HP := show Hid _ from hP
                    have HCg := show Hid _ from hcg
                    clear hgk hP hcg
                    by_cases hr40 : r < 40
                    case pos =>
                      have hr1 : (r : Int) < 40 := by omega
                      have HR4 : Hid (r < 40) := hr40
                      clear hr40
                      go_wp2_with fail
                      go_loopg [24] 6 (fun gq s24 wr => ∃ (q : Nat) (E : Nat → Option Ent) (cg : List Value), q ≤ 6 ∧ gq = 6 - q ∧ s24 = .int .i64 (q : Int) ∧ cg.length = 6 ∧ P1 w3 wr pb E p X17 ul cg cl (some ⟨ag, 0, none⟩) (some ⟨lg, 0, none⟩) (some ⟨gg, 0, none⟩) 6 ac 6 lc 6 gc2 (fun j => if j < 6 then spl j p else p) (fun j => pr (fun _ => 200 + j) s s.length ++ List.replicate (if j < q then r + 1 else r) (20 + j)))
                      case atStart => exact ⟨0, E, cg, by omega, rfl, rfl, HCg.out, HP.out.bcc fun j hj => by show _ ++ List.replicate (if j < 0 then r + 1 else r) _ = _; rw [if_neg (by omega)]⟩
                      case round =>
                        clear HP HCg E cg
                        rename_i J6 K6 hJ6 hH6
                        obtain ⟨q, E, cg, hq, hgq, rfl, hcg, hP⟩ := hrel
                        have HGq : Hid (gk = 6 - q ∧ q ≤ 6) := ⟨hgq, hq⟩
                        have HP := show Hid _ from hP
                        have HCg := show Hid _ from hcg
                        clear hgq hP hcg
                        by_cases hq6 : q < 6
                        case pos =>
                          have hq1 : (q : Int) < 6 := by omega
                          have HQ6 : Hid (q < 6) := hq6
                          obtain ⟨v, hv⟩ : ∃ v, cg[q]? = some v := ⟨_, List.getElem?_eq_getElem (by have := HCg.out; omega)⟩
                          obtain ⟨B, hB⟩ : ∃ B, B = pr (fun _ => 200 + q) s s.length ++ List.replicate r (20 + q) := ⟨_, rfl⟩
                          have hBq : pr (fun _ => 200 + q) s s.length ++ List.replicate (if q < q then r + 1 else r) (20 + q) = B := by
                            rw [if_neg (Nat.lt_irrefl q), hB]
                          have hBl : B.length = s.length + r := by rw [hB, List.length_append, pr_len, List.length_replicate]
                          have HBlen := show Hid _ from hBl
                          obtain ⟨ov, cv, hvf⟩ := HP.out.bytF hv
                          try dsimp only at hvf
                          rw [hBq] at hvf
                          subst hvf
                          have dg := (HP.out.cellG hq6).1
                          rw [hv] at dg
                          have hbA : Below wr.heap.size wr (wr.alloc (.cells #[.int .u8 (20 + (q : Int))] 5)) := (Below.refl _ _).alloc (Nat.le_refl _) _
                          obtain ⟨bb, hbb, hown, happ⟩ := (HP.out.below hbA).grow hv hq6
                          try dsimp only at hown happ
                          rw [hBq] at hown happ
                          have hwr : IntKind.u8.wrap (20 + (q : Int)) = 20 + (q : Int) := by
                            obtain rfl | rfl | rfl | rfl | rfl | rfl : q = 0 ∨ q = 1 ∨ q = 2 ∨ q = 3 ∨ q = 4 ∨ q = 5 := by omega
                            all_goals rfl
                          have HB2 : Hid (up (fun j => pr (fun _ => 200 + j) s s.length ++ List.replicate (if j < q then r + 1 else r) (20 + j)) q (B ++ [20 + q]) = (fun j => pr (fun _ => 200 + j) s s.length ++ List.replicate (if j < (q + 1) then r + 1 else r) (20 + j))) := funext fun j => by
                            by_cases e : j = q
                            · subst e
                              rw [up_same]
                              show _ = _ ++ List.replicate (if j < j + 1 then r + 1 else r) _
                              rw [if_pos (Nat.lt_succ_self j), hB, List.append_assoc, List.replicate_succ']
                            · rw [up_ne e]
                              by_cases e2 : j < q
                              · simp only [if_pos e2, if_pos (show j < q + 1 by omega)]
                              · simp only [if_neg e2, if_neg (show ¬ j < q + 1 by omega)]
                          clear hq6 hbA HP hBq hB hBl
                          go_upto_region 45 with fail
                          go_wp2_with (at_builtin; refine wpl_appC _ rfl _ _ 22 rfl Tryd.underlying22 infoB rfl (by decide) rfl hown hbb (some ⟨wr.heap.size, 0, none⟩) 1 1 [.int .u8 (20 + (q : Int))] rfl rfl (rd_row (heap_alloc_new _ _)) (by simp [Value.oneCell']) (by have := HBlen.out; have := HN.out.1; have := HR4.out; unfold maxLen; omega) (by have := HBlen.out; have := HN.out.1; have := HR4.out; omega) ?_)
                          intro v' wg hv1 hv2 hv3
                          obtain ⟨o2, c2, rfl⟩ := own_form hv1
                          obtain ⟨d1, f1, E', hE'⟩ := happ wg _ (20 + q) (by rw [show ((20 + q : Nat) : Int) = 20 + (q : Int) by omega]; exact hv1) hv2 (by rcases hv3 with e | e; exact Or.inl e; right; rw [e]; simp)
                          rw [HB2.out] at hE'
                          have HE' := show Hid _ from hE'
                          have HC2 : Hid ((cg.set q (.slice o2 (B.length + 1) c2)).length = 6) := by show _ = _; rw [List.length_set]; exact HCg.out
                          clear hown happ hv1 hv2 hv3 hE' hbb hv HB2
                          go_wp2_with fail
                          go_roundg (6 - (q + 1))
                          case measure => have := HGq.out; have := HQ6.out; omega
                          case rel => exact ⟨q + 1, E', cg.set q (.slice o2 (B.length + 1) c2), HQ6.out, rfl, by go_num, HC2.out, HE'.out⟩
                        case neg =>
                          have hq1 : ¬ (q : Int) < 6 := by omega
                          obtain rfl : q = 6 := by omega
                          clear hq6 HGq hq
                          go_wp2_with fail
                          clear hq1 hH6 hJ6
                          go_roundg (40 - (r + 1))
                          case measure => have := HG.out; have := HR4.out; omega
                          case rel => exact ⟨r + 1, E, cg, HR4.out, rfl, by go_num, HCg.out, HP.out.bcc fun j hj => by show _ = _ ++ List.replicate (if j < 6 then r + 1 else r) _; rw [if_pos hj]⟩
                    case neg =>
                      have hr1 : ¬ (r : Int) < 40 := by omega
                      obtain rfl : r = 40 := by omega
                      clear hr40 HG hr
                      go_wp2_with fail
                      clear hr1 hH5 hJ5
                      generalize wr = w8 at *
                      go_loopg [25] 6 (fun gq s25 wr => ∃ k : Nat, k ≤ 6 ∧ gq = 6 - k ∧ s25 = .int .i64 (k : Int) ∧ w8 = wr)
                      case atStart => exact ⟨0, by omega, rfl, rfl, rfl⟩
                      case round =>
                        rename_i J7 K7 hJ7 hH7
                        obtain ⟨k, hk, hgk, rfl, rfl⟩ := hrel
                        have HG : Hid (gk = 6 - k ∧ k ≤ 6) := ⟨hgk, hk⟩
                        clear hgk
                        by_cases hk6 : k < 6
                        case pos =>
                          have hk1 : (k : Int) < 6 := by omega
                          have HK6 : Hid (k < 6) := hk6
                          obtain ⟨vb, vc, hvb⟩ := HBl.out k hk6
                          have dl : w8.cell? ⟨lg, k, none⟩ = some (.slice vb s.length vc) := by rw [HP.out.cellL hk6]; exact hvb
                          obtain ⟨v, hv⟩ : ∃ v, cg[k]? = some v := ⟨_, List.getElem?_eq_getElem (by have := HCg.out; omega)⟩
                          obtain ⟨B, hB⟩ : ∃ B, B = pr (fun _ => 200 + k) s s.length ++ List.replicate 40 (20 + k) := ⟨_, rfl⟩
                          have hBl : B.length = s.length + 40 := by rw [hB, List.length_append, pr_len, List.length_replicate]
                          obtain ⟨ov, cv, hvf⟩ := HP.out.bytF hv
                          try dsimp only at hvf
                          rw [← hB, hBl] at hvf
                          subst hvf
                          have dg := (HP.out.cellG hk6).1
                          rw [hv] at dg
                          obtain ⟨g, hgo⟩ := HP.out.bytS hv (by show _ = (pr (fun _ => 200 + k) s s.length ++ List.replicate 40 (20 + k)).length; rw [← hB, hBl]) (by omega)
                          subst hgo
                          have HRd : Hid (∀ q, q < s.length + 40 → w8.cell? ⟨g, q, none⟩ = some (.int .u8 (if q < s.length then 200 + (k : Int) else 20 + (k : Int)))) := fun q hq => by
                            rw [(HP.out.bytR hv (by show _ = (pr (fun _ => 200 + k) s s.length ++ List.replicate 40 (20 + k)).length; rw [← hB, hBl])).1 q hq]
                            show (u8L (pr (fun _ => 200 + k) s s.length ++ List.replicate 40 (20 + k)))[q]? = _
                            unfold u8L
                            rw [List.getElem?_map]
                            by_cases e : q < s.length
                            · rw [List.getElem?_append_left (by rw [pr_len]; exact e), pr_at e s.length e, if_pos e]
                              show some (Value.int .u8 ((200 + k : Nat) : Int)) = _
                              rw [show ((200 + k : Nat) : Int) = 200 + (k : Int) by omega]
                            · rw [List.getElem?_append_right (by rw [pr_len]; omega), pr_len, List.getElem?_replicate, if_pos (by omega), if_neg e]
                              show some (Value.int .u8 ((20 + k : Nat) : Int)) = _
                              rw [show ((20 + k : Nat) : Int) = 20 + (k : Int) by omega]
                          have hw1 : IntKind.u8.wrap (200 + (k : Int)) = 200 + (k : Int) := by
                            obtain rfl | rfl | rfl | rfl | rfl | rfl : k = 0 ∨ k = 1 ∨ k = 2 ∨ k = 3 ∨ k = 4 ∨ k = 5 := by omega
                            all_goals rfl
                          have hw2 : IntKind.u8.wrap (20 + (k : Int)) = 20 + (k : Int) := by
                            obtain rfl | rfl | rfl | rfl | rfl | rfl : k = 0 ∨ k = 1 ∨ k = 2 ∨ k = 3 ∨ k = 4 ∨ k = 5 := by omega
                            all_goals rfl
                          have hsl : (s.length : Int) ≤ 524288 := by have := HN.out.1; omega
                          clear hk6 hvb hv hB hBl
                          go_wp2_with fail
                          go_loopg [27] (s.length + 40) (fun gq s27 wr => ∃ q : Nat, q ≤ s.length + 40 ∧ gq = s.length + 40 - q ∧ s27 = .int .i64 (q : Int) ∧ w8 = wr)
                          case atStart => exact ⟨0, by omega, rfl, rfl, rfl⟩
                          case round =>
                            rename_i J8 K8 hJ8 hH8
                            obtain ⟨q, hq, hgq, rfl, rfl⟩ := hrel
                            have HGq : Hid (gk = s.length + 40 - q ∧ q ≤ s.length + 40) := ⟨hgq, hq⟩
                            have hq5 : (q : Int) ≤ 524328 := by omega
                            clear hgq
                            by_cases hq6 : q < s.length + 40
                            case pos =>
                              have hq1 : (q : Int) < (s.length : Int) + 40 := by omega
                              have HQ6 : Hid (q < s.length + 40) := hq6
                              have dq := HRd.out q hq6
                              by_cases hqn : q < s.length
                              · rw [if_pos hqn] at dq
                                have hn1 : (q : Int) < (s.length : Int) := by omega
                                clear hq6 hqn
                                go_wp2_with fail
                                go_roundg (s.length + 40 - (q + 1))
                                case measure => have := HGq.out; have := HQ6.out; omega
                                case rel => exact ⟨q + 1, HQ6.out, rfl, by go_num, rfl⟩
                              · rw [if_neg hqn] at dq
                                have hn1 : ¬ (q : Int) < (s.length : Int) := by omega
                                have hn2 : (s.length : Int) ≤ (q : Int) := by omega
                                clear hq6 hqn
                                go_wp2_with fail
                                go_roundg (s.length + 40 - (q + 1))
                                case measure => have := HGq.out; have := HQ6.out; omega
                                case rel => exact ⟨q + 1, HQ6.out, rfl, by go_num, rfl⟩
                            case neg =>
                              have hq1 : ¬ (q : Int) < (s.length : Int) + 40 := by omega
                              clear hq6 HGq hq
                              go_wp2_with fail
                              go_roundg (6 - (k + 1))
                              case measure => have := HG.out; have := HK6.out; omega
                              case rel => exact ⟨k + 1, HK6.out, rfl, by go_num, rfl⟩
                        case neg =>
                          have hk1 : ¬ (k : Int) < 6 := by omega
                          clear hk6 HG hk
                          go_upto_region 55 with fail
                          clear hk1 hH7 hJ7
                          have HDr := show Hid _ from HD.out w8 (bel_so H3b.out HP.out.bel)
                          go_wp2_with fail
                          refine Calls.mono HDr.out ?_
                          rintro e wd ⟨u5, rfl, ho, hb⟩
                          have hw := two_new wd #[.slice u5.qo p.gh.length u5.qc, .slice u5.vo p.vs.length u5.vc, .slice u5.to p.ts.length u5.tc, .slice u5.oo p.on.length u5.oc, .int .i64 p.miss, .slice u5.co p.cd.length u5.cc] #[.int .i64 (0 : Int), .int .i64 (0 : Int)]
                          have H9 : Hid (Below w8.heap.size w8 ((wd.alloc (.cells #[.slice u5.qo p.gh.length u5.qc, .slice u5.vo p.vs.length u5.vc, .slice u5.to p.ts.length u5.tc, .slice u5.oo p.on.length u5.oc, .int .i64 p.miss, .slice u5.co p.cd.length u5.cc] 29)).alloc (.cells #[.int .i64 (0 : Int), .int .i64 (0 : Int)] 32)) ∧ Wv wd.heap.size ((wd.alloc (.cells #[.slice u5.qo p.gh.length u5.qc, .slice u5.vo p.vs.length u5.vc, .slice u5.to p.ts.length u5.tc, .slice u5.oo p.on.length u5.oc, .int .i64 p.miss, .slice u5.co p.cd.length u5.cc] 29)).alloc (.cells #[.int .i64 (0 : Int), .int .i64 (0 : Int)] 32)) #[.slice u5.qo p.gh.length u5.qc, .slice u5.vo p.vs.length u5.vc, .slice u5.to p.ts.length u5.tc, .slice u5.oo p.on.length u5.oc, .int .i64 p.miss, .slice u5.co p.cd.length u5.cc] #[.int .i64 (0 : Int), .int .i64 (0 : Int)] ∧ IsPg ((wd.alloc (.cells #[.slice u5.qo p.gh.length u5.qc, .slice u5.vo p.vs.length u5.vc, .slice u5.to p.ts.length u5.tc, .slice u5.oo p.on.length u5.oc, .int .i64 p.miss, .slice u5.co p.cd.length u5.cc] 29)).alloc (.cells #[.int .i64 (0 : Int), .int .i64 (0 : Int)] 32)) u5 p) := ⟨bel_so hb hw.2, hw.1, (own5_io ho HLs.out).below hw.2⟩
                          clear ho hb hw HDr
                          go_upto_region 56 with fail
                          generalize ((wd.alloc (.cells #[.slice u5.qo p.gh.length u5.qc, .slice u5.vo p.vs.length u5.vc, .slice u5.to p.ts.length u5.tc, .slice u5.oo p.on.length u5.oc, .int .i64 p.miss, .slice u5.co p.cd.length u5.cc] 29)).alloc (.cells #[.int .i64 (0 : Int), .int .i64 (0 : Int)] 32)) = w9 at *
                          generalize wd.heap.size = q5 at *
                          obtain ⟨i0, ⟨n0, b0⟩, i1, ⟨n1, b1⟩, i2, n2, b2⟩ := HX.out _ HP.out.fx
                          have HI : Hid (Is5 E 0 p u0 ∧ Is5 E 1 p u3 ∧ Is5 E 2 p u4) := ⟨i0, i1, i2⟩
                          have HBx : Hid (E 210 = some (bxE n0 B5 #[.slice u0.qo p.gh.length u0.qc, .slice u0.vo p.vs.length u0.vc, .slice u0.to p.ts.length u0.tc, .slice u0.oo p.on.length u0.oc, .int .i64 p.miss, .slice u0.co p.cd.length u0.cc]) ∧ E 211 = some (bxE n1 B15 #[.slice u3.qo p.gh.length u3.qc, .slice u3.vo p.vs.length u3.vc, .slice u3.to p.ts.length u3.tc, .slice u3.oo p.on.length u3.oc, .int .i64 p.miss, .slice u3.co p.cd.length u3.cc]) ∧ E 212 = some (bxE n2 B17 #[.slice u4.qo p.gh.length u4.qc, .slice u4.vo p.vs.length u4.vc, .slice u4.to p.ts.length u4.tc, .slice u4.oo p.on.length u4.oc, .int .i64 p.miss, .slice u4.co p.cd.length u4.cc])) := ⟨b0, b1, b2⟩
                          clear i0 i1 i2 b0 b1 b2
                          have HP9 := show Hid _ from HP.out.below H9.out.1
                          have HSm : Hid (∀ w u v, IsPg w u p → IsPg w v p → Calls Tryd.prog 11 #[.agg (pvC u p), .agg (pvC v p)] w fun e w' => e = .returned (.bool true) ∧ Below w.heap.size w w') := fun w u v hu hv => by
                            have h := rsame_any u v p p w hu hv
                            rw [(samB_iff p p).2 rfl] at h
                            exact h
                          have HS1 := show Hid _ from HSm.out w9 u5 u0 H9.out.2.2 (HI.out.1.is HP9.out.ap HLs.out)
                          obtain ⟨f0, f1⟩ := cells2 H9.out.2.1.f
                          obtain ⟨c0, c1, c2, c3, c4, c5⟩ := cells6 H9.out.2.1.p
                          obtain ⟨d0, d1, d2, d3, d4, d5⟩ := HP9.out.ap.box HBx.out.1
                          go_wp2_with fail
                          refine Calls.mono HS1.out ?_
                          rintro e wa ⟨rfl, hb⟩
                          have HPa := show Hid _ from HP9.out.below hb
                          clear hb HS1 f0 f1 c0 c1 c2 c3 c4 c5 d0 d1 d2 d3 d4 d5 HP9 H9 HP
                          have HS2 := show Hid _ from HSm.out wa u3 u0 (HI.out.2.1.is HPa.out.ap HLs.out) (HI.out.1.is HPa.out.ap HLs.out)
                          obtain ⟨c0, c1, c2, c3, c4, c5⟩ := HPa.out.ap.box HBx.out.2.1
                          obtain ⟨d0, d1, d2, d3, d4, d5⟩ := HPa.out.ap.box HBx.out.1
                          go_wp2_with fail
                          refine Calls.mono HS2.out ?_
                          rintro e wb ⟨rfl, hb⟩
                          have HPb := show Hid _ from HPa.out.below hb
                          clear hb HS2 c0 c1 c2 c3 c4 c5 d0 d1 d2 d3 d4 d5 HPa
                          have HS3 := show Hid _ from HSm.out wb u4 u0 (HI.out.2.2.is HPb.out.ap HLs.out) (HI.out.1.is HPb.out.ap HLs.out)
                          obtain ⟨c0, c1, c2, c3, c4, c5⟩ := HPb.out.ap.box HBx.out.2.2
                          obtain ⟨d0, d1, d2, d3, d4, d5⟩ := HPb.out.ap.box HBx.out.1
                          go_wp2_with fail
                          refine Calls.mono HS3.out ?_
                          rintro e wz ⟨rfl, hb⟩
                          have HPz := show Hid _ from HPb.out.below hb
                          clear hb HS3 c0 c1 c2 c3 c4 c5 d0 d1 d2 d3 d4 d5 HPb
                          go_wp2_with fail
                          go_ret
                          exact ⟨rfl, bel_so H3b.out HPz.out.bel⟩
end Go.Proofs.YtcblichnkakhdaaDoor.Cd
