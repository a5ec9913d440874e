import Derived.Test.YtjbpbgdhooggeaaJNmA
import Derived.Deep.DeepCutAuto
import Derived.Deep.CutBlock
import Derived.Test.YtjbpbgdhooggeaaJWrong
import Derived.Test.YtjbpbgdhooggeaaJBase
import Derived.StillTail
import Derived.Deep.Quiet
namespace Go.Proofs.Ytjbpbgdhooggeaa.Nm
open Go.RowKit Go.Maps Go.Proofs.Ytjbpbgdhooggeaa.Sp Go.Proofs.Ytjbpbgdhooggeaa.Lx Go.Proofs.Ytjbpbgdhooggeaa.Gr

theorem infoS : (Try.prog.info? 9).map (fun i => (i.zero, i.size, i.bytes)) = some (some (.string ByteArray.empty), 1, 16) := by kernel_rfl
theorem infoI : (Try.prog.info? 3).map (fun i => (i.zero, i.size, i.bytes)) = some (some (.int .i64 0), 1, 8) := by kernel_rfl
def qF (l : List (ByteArray × Bool)) : List Value := l.flatMap fun x => [.string x.1, .bool x.2]
/-- a policy in memory: its block, the lists that it has so far (their blocks are made since) -/
structure Pol (W : World) (pb base : Nat) (nm : ByteArray) (rows on miss qv vv tv uv : Value) (qs : List (ByteArray × Bool)) (vs ts : List ByteArray) (us : List Nat) : Prop where
  blk : W.heap[pb]? = some (.cells #[.string nm, rows, qv, vv, tv, uv, on, miss] 29 (0, 0))
  oq : W.ownsRow base 49 2 qv qs.length (qF qs)
  ov : W.ownsRow base 9 1 vv vs.length (vs.map Value.string)
  ot : W.ownsRow base 9 1 tv ts.length (ts.map Value.string)
  ou : W.ownsRow base 3 1 uv us.length (us.map fun n : Nat => Value.int .i64 (n : Int))
  ne : ∀ g, vv.ownBlock = some g → tv.ownBlock ≠ some g
  lt : pb < base
  sz : base ≤ W.heap.size
theorem Pol.cells {W : World} {pb base : Nat} {nm : ByteArray} {rows on miss qv vv tv uv : Value} {qs : List (ByteArray × Bool)} {vs ts : List ByteArray} {us : List Nat} (h : Pol W pb base nm rows on miss qv vv tv uv qs vs ts us) : W.cell? ⟨pb, 1, none⟩ = some rows ∧ W.cell? ⟨pb, 3, none⟩ = some vv ∧ W.cell? ⟨pb, 4, none⟩ = some tv ∧ W.cell? ⟨pb, 5, none⟩ = some uv ∧ ∀ j, W.frozen? ⟨pb, j, none⟩ = false :=
  ⟨by simp [World.cell?, h.blk], by simp [World.cell?, h.blk], by simp [World.cell?, h.blk], by simp [World.cell?, h.blk], fun j => by simp [World.frozen?, h.blk]⟩
theorem Pol.below {W W' : World} {pb base : Nat} {nm : ByteArray} {rows on miss qv vv tv uv : Value} {qs : List (ByteArray × Bool)} {vs ts : List ByteArray} {us : List Nat} (h : Pol W pb base nm rows on miss qv vv tv uv qs vs ts us) (hb : Below W.heap.size W W') : Pol W' pb base nm rows on miss qv vv tv uv qs vs ts us :=
  ⟨(hb.block pb (Array.getElem?_eq_some_iff.1 h.blk).1).trans h.blk, own_below h.oq hb, own_below h.ov hb, own_below h.ot hb, own_below h.ou hb, h.ne, h.lt, Nat.le_trans h.sz hb.size⟩
theorem own_keepB {W W' : World} {base n s : Nat} {T : TypeId} {v : Value} {xs : List Value} (h : W.ownsRow base T s v n xs) (hk : ∀ k, v.ownBlock = some k → W'.heap[k]? = W.heap[k]?) : W'.ownsRow base T s v n xs := by
  rcases h with ⟨h1, h2 | ⟨g, cap, cur, rfl, h3, h4, h5⟩⟩
  · exact ⟨h1, Or.inl h2⟩
  · exact ⟨h1, Or.inr ⟨g, cap, cur, rfl, h3, (hk g rfl).trans h4, h5⟩⟩
theorem rows_ne {W : World} {b b' n n' s s' : Nat} {T T' : TypeId} {v v' : Value} {xs xs' : List Value} (h : W.ownsRow b T s v n xs) (h' : W.ownsRow b' T' s' v' n' xs') (hT : T ≠ T') : ∀ k, v.ownBlock = some k → v'.ownBlock ≠ some k := by
  intro k e e'
  rcases h.2 with ⟨rfl, _⟩ | ⟨g, c, cur, rfl, _, hg, _⟩
  · cases e
  · rcases h'.2 with ⟨rfl, _⟩ | ⟨g', c', cur', rfl, _, hg', _⟩
    · cases e'
    · simp only [Value.ownBlock, Option.some.injEq] at e e'
      subst e
      subst e'
      rw [hg] at hg'
      cases hg'
      exact hT rfl
/-- a rule is put behind the others -/
theorem Pol.putU {W W2 : World} {pb base : Nat} {nm : ByteArray} {rows on miss qv vv tv uv uv' : Value} {qs : List (ByteArray × Bool)} {vs ts : List ByteArray} {us : List Nat} {u : Nat} (h : Pol W pb base nm rows on miss qv vv tv uv qs vs ts us) (hG : Gone W uv W2 uv') (ho : W2.ownsRow base 3 1 uv' (us.length + 1) ((us.map fun n : Nat => Value.int .i64 (n : Int)) ++ [Value.int .i64 (u : Int)])) :
    W2.heap[pb]? = some (.cells #[.string nm, rows, qv, vv, tv, uv, on, miss] 29 (0, 0)) ∧ Pol (W2.setCell ⟨pb, 5, none⟩ uv') pb base nm rows on miss qv vv tv uv' qs vs ts (us ++ [u]) := by
  have hlt : ∀ k, uv.ownBlock = some k → base ≤ k := fun k e => (World.ownsRow.lt h.ou k e).1
  have hpb := h.lt
  have eP : W2.heap[pb]? = some (.cells #[.string nm, rows, qv, vv, tv, uv, on, miss] 29 (0, 0)) := (hG.1.block pb (Array.getElem?_eq_some_iff.1 h.blk).1 (fun e => by have := hlt pb e.symm; omega)).trans h.blk
  have hs : ∀ {T : TypeId} {v : Value} {n s : Nat} {xs : List Value}, W2.ownsRow base T s v n xs → (W2.setCell ⟨pb, 5, none⟩ uv').ownsRow base T s v n xs := fun ho => own_keepB ho (fun k hk => Below.heap_setCell W2 _ _ k (fun e => by have e2 : k = pb := e; have := (World.ownsRow.lt ho k hk).1; omega))
  have o1 : W2.ownsRow base 9 1 vv vs.length (vs.map Value.string) := own_keepB h.ov (fun k hk => hG.1.block k (World.ownsRow.lt h.ov k hk).2 (fun e => rows_ne h.ov h.ou (by decide) k hk e.symm))
  have o2 : W2.ownsRow base 9 1 tv ts.length (ts.map Value.string) := own_keepB h.ot (fun k hk => hG.1.block k (World.ownsRow.lt h.ot k hk).2 (fun e => rows_ne h.ot h.ou (by decide) k hk e.symm))
  have oq : W2.ownsRow base 49 2 qv qs.length (qF qs) := own_keepB h.oq (fun k hk => hG.1.block k (World.ownsRow.lt h.oq k hk).2 (fun e => rows_ne h.oq h.ou (by decide) k hk e.symm))
  refine ⟨eP, ⟨?_, hs oq, hs o1, hs o2, ?_, h.ne, h.lt, ?_⟩⟩
  · have := heap_setCell_same W2 pb 5 _ 29 uv' eP
    simpa using this
  · have := hs ho
    simpa using this
  · have := hG.1.size
    have := h.sz
    simp [World.setCell]
    omega
end Go.Proofs.Ytjbpbgdhooggeaa.Nm
namespace Go.Proofs.Ytjbpbgdhooggeaa.Nm
open Go.RowKit Go.Maps Go.Proofs.Ytjbpbgdhooggeaa.Sp Go.Proofs.Ytjbpbgdhooggeaa.Lx Go.Proofs.Ytjbpbgdhooggeaa.Gr

theorem alloc_row (W : World) (x : Rz) : (W.alloc (.cells #[.int .i64 x.kind, .string x.name, .int .i64 x.stop, .int .i64 x.n, .int .i64 x.kids] 40)).cell? ⟨W.heap.size, 0, none⟩ = some (.int .i64 x.kind) ∧ (W.alloc (.cells #[.int .i64 x.kind, .string x.name, .int .i64 x.stop, .int .i64 x.n, .int .i64 x.kids] 40)).cell? ⟨W.heap.size, 1, none⟩ = some (.string x.name) := by
  have := heap_alloc_new W (.cells #[.int .i64 x.kind, .string x.name, .int .i64 x.stop, .int .i64 x.n, .int .i64 x.kids] 40)
  exact ⟨by rw [World.cell?, this]; rfl, by rw [World.cell?, this]; rfl⟩
theorem gone_fb {W W2 : World} {v v' : Value} {base n s : Nat} {T : TypeId} {xs : List Value} {F : List Nat} (hG : Gone W v W2 v') (ho : W.ownsRow base T s v n xs) (hb : base ≤ W.heap.size) : Fb F base W W2 := ⟨hG.1.os, hG.1.tape, hG.1.output, hG.1.size, fun k hk _ => hG.1.block k (by omega) (fun e => by have := (World.ownsRow.lt ho k e.symm).1; omega)⟩
theorem set_fb {W : World} {pb base i : Nat} {v : Value} : Fb [pb] base W (W.setCell ⟨pb, i, none⟩ v) := ⟨rfl, rfl, rfl, by simp [World.setCell], fun k _ hn => Below.heap_setCell W _ v k (fun e => by have e2 : k = pb := e; exact hn (by simp [e2]))⟩
set_option maxHeartbeats 3200000 in
set_option maxRecDepth 100000 in
/-- a rule is enlisted -/
theorem enlist_rule {W : World} {pb base rb cap at_ : Nat} {nm : ByteArray} {on miss qv vv tv uv : Value} {qs : List (ByteArray × Bool)} {vs ts : List ByteArray} {us : List Nat} {l : List Rz} {x : Rz} (h : Pol W pb base nm (.slice (some ⟨rb, 0, none⟩) l.length cap) on miss qv vv tv uv qs vs ts us) (hr : Rw W rb l) (hx : l[at_]? = some x) (hl : l.length ≤ 2932031007317) (hk : x.kind = 7) (hu : us.length ≤ 1000) :
    Calls Try.prog 39 #[.pointer (some ⟨pb, 0, none⟩), .int .i64 (at_ : Int)] W fun e w' => e = .returned (.tuple #[]) ∧ ∃ uv', Pol w' pb base nm (.slice (some ⟨rb, 0, none⟩) l.length cap) on miss qv vv tv uv' qs vs ts (us ++ [at_ + 1]) ∧ Fb [pb] base W w' := by
  have hat : at_ < l.length := (List.getElem?_eq_some_iff.1 hx).1
  have h3 : (at_ : Int) < (l.length : Int) := by omega
  have h4 : (at_ : Int) ≤ 2932031007317 := by omega
  obtain ⟨c0, c1, c2, c3, c4, _⟩ := hr.cells hx
  obtain ⟨p1, _, _, _, _⟩ := h.cells
  obtain ⟨a0, a1⟩ := alloc_row W x
  have hb1 : Below W.heap.size W (W.alloc (.cells #[.int .i64 x.kind, .string x.name, .int .i64 x.stop, .int .i64 x.n, .int .i64 x.kids] 40)) := (Below.refl _ W).alloc (Nat.le_refl _) _
  have hP1 := h.below hb1
  obtain ⟨_, _, _, p5, pf⟩ := hP1.cells
  have pf5 := pf 5
  obtain ⟨j0, hj, hj0, hj1, hj2⟩ := info_parts infoI
  have HP1 := show Hid _ from hP1
  have HB1 : Hid (Fb [pb] base W (W.alloc (.cells #[.int .i64 x.kind, .string x.name, .int .i64 x.stop, .int .i64 x.n, .int .i64 x.kids] 40))) := Fb.of_below (hb1.mono h.sz)
  have HU : Hid (us.length ≤ 1000) := hu
  obtain ⟨kd, n1, st, nn, ks⟩ := x
  dsimp only at *
  subst hk
  clear h hr hx hl hat hb1 hP1 pf hu
  go_enter Try.func39, Try.ntmps39
  go_upto_region 10 with fail
  generalize W.alloc (.cells #[.int .i64 7, .string n1, .int .i64 st, .int .i64 nn, .int .i64 ks] 40) = w1 at *
  have HP2 : Hid (Pol (w1.alloc (.cells #[.int .i64 ((at_ : Int) + 1)] 3)) pb base nm (.slice (some ⟨rb, 0, none⟩) l.length cap) on miss qv vv tv uv qs vs ts us) := HP1.out.below ((Below.refl _ w1).alloc (Nat.le_refl _) _)
  have HB2 : Hid (Fb [pb] base W (w1.alloc (.cells #[.int .i64 ((at_ : Int) + 1)] 3))) := HB1.out.trans (Fb.of_below (((Below.refl _ w1).alloc (Nat.le_refl _) _).mono HP1.out.sz))
  go_wp2_with (at_builtin; refine append_gone _ rfl _ _ 27 rfl base 3 j0 (.int .i64 0) 1 8 Try.underlying27 hj hj0 hj1 hj2 rfl (by decide) uv _ (us.map fun n : Nat => Value.int .i64 (n : Int)) rfl HP2.out.ou ⟨w1.heap.size, 0, none⟩ 1 1 [.int .i64 ((at_ : Int) + 1)] rfl rfl ?c1 ?c2 ?c3 ?c4 ?c5 ?c6 ?_)
  case c1 => exact cell_one w1 _ _
  case c2 => intro u hu; simp only [List.mem_cons, List.not_mem_nil, or_false] at hu; subst hu; rfl
  case c3 => have := HU.out; unfold maxLen; omega
  case c4 => have := HU.out; omega
  case c5 => exact HP2.out.sz
  case c6 => decide
  intro uv' w3 ho hG
  obtain ⟨eP, hP3⟩ := HP2.out.putU (u := at_ + 1) hG (by rw [show ((at_ + 1 : Nat) : Int) = (at_ : Int) + 1 by omega]; exact ho)
  have HP3 := show Hid _ from hP3
  have HB3 : Hid (Fb [pb] base W (w3.setCell ⟨pb, 5, none⟩ uv')) := (HB2.out.trans (gone_fb hG HP2.out.ou HP2.out.sz)).trans set_fb
  have e5 : w3.cell? ⟨pb, 5, none⟩ = some uv := by simp [World.cell?, eP]
  have f5 : w3.frozen? ⟨pb, 5, none⟩ = false := by simp [World.frozen?, eP]
  obtain ⟨bo, bc, rfl⟩ := own_form ho
  clear ho hG eP hP3 HP2 HB2
  go_wp2
  go_end0
  exact ⟨rfl, _, HP3.out, HB3.out⟩
end Go.Proofs.Ytjbpbgdhooggeaa.Nm
namespace Go.Proofs.Ytjbpbgdhooggeaa.Nm
open Go.RowKit Go.Maps Go.Proofs.Ytjbpbgdhooggeaa.Sp Go.Proofs.Ytjbpbgdhooggeaa.Lx Go.Proofs.Ytjbpbgdhooggeaa.Gr

theorem cell_oned (w : World) (T : TypeId) (a : Value) (b : Nat) (hb : b = w.heap.size) : ∀ j u, [a][j]? = some u → (w.alloc (.cells #[a] T)).drew.cell? ((⟨b, 0, none⟩ : Addr).add j) = some u := by
  intro j u h
  subst hb
  exact Lib.cells_of_row (heap_alloc_new w (.cells #[a] T)) 1 j u (by simpa using h)
/-- a var is put behind the others -/
theorem Pol.putV {W W2 : World} {pb base : Nat} {nm : ByteArray} {rows on miss qv vv tv uv xv' : Value} {qs : List (ByteArray × Bool)} {vs ts : List ByteArray} {us : List Nat} {u : ByteArray} (h : Pol W pb base nm rows on miss qv vv tv uv qs vs ts us) (hG : Gone W vv W2 xv') (ho : W2.ownsRow base 9 1 xv' (vs.length + 1) ((vs.map Value.string) ++ [Value.string u])) :
    W2.heap[pb]? = some (.cells #[.string nm, rows, qv, vv, tv, uv, on, miss] 29 (0, 0)) ∧ Pol (W2.setCell ⟨pb, 3, none⟩ xv') pb base nm rows on miss qv xv' tv uv qs (vs ++ [u]) ts us := by
  have hlt : ∀ k, vv.ownBlock = some k → base ≤ k := fun k e => (World.ownsRow.lt h.ov k e).1
  have hpb := h.lt
  have eP : W2.heap[pb]? = some (.cells #[.string nm, rows, qv, vv, tv, uv, on, miss] 29 (0, 0)) := (hG.1.block pb (Array.getElem?_eq_some_iff.1 h.blk).1 (fun e => by have := hlt pb e.symm; omega)).trans h.blk
  have hs : ∀ {T : TypeId} {v : Value} {n s : Nat} {xs : List Value}, W2.ownsRow base T s v n xs → (W2.setCell ⟨pb, 3, none⟩ xv').ownsRow base T s v n xs := fun ho => own_keepB ho (fun k hk => Below.heap_setCell W2 _ _ k (fun e => by have e2 : k = pb := e; have := (World.ownsRow.lt ho k hk).1; omega))
  have o1 : W2.ownsRow base 9 1 tv ts.length (ts.map Value.string) := own_keepB h.ot (fun k hk => hG.1.block k (World.ownsRow.lt h.ot k hk).2 (fun e => h.ne k e.symm hk))
  have o2 : W2.ownsRow base 3 1 uv us.length (us.map fun n : Nat => Value.int .i64 (n : Int)) := own_keepB h.ou (fun k hk => hG.1.block k (World.ownsRow.lt h.ou k hk).2 (fun e => rows_ne h.ou h.ov (by decide) k hk e.symm))
  have oq : W2.ownsRow base 49 2 qv qs.length (qF qs) := own_keepB h.oq (fun k hk => hG.1.block k (World.ownsRow.lt h.oq k hk).2 (fun e => rows_ne h.oq h.ov (by decide) k hk e.symm))
  refine ⟨eP, ⟨?_, hs oq, ?_, hs o1, hs o2, ?_, h.lt, ?_⟩⟩
  · have := heap_setCell_same W2 pb 3 _ 29 xv' eP
    simpa using this
  · have := hs ho
    simpa using this
  · intro g hg he
    rcases hG.own with e | e
    · exact h.ne g (e ▸ hg) he
    · have h1 := e g hg
      have h2 := (World.ownsRow.lt h.ot g he).2
      omega
  · have := hG.1.size
    have := h.sz
    simp [World.setCell]
    omega
/-- a tag is put behind the others -/
theorem Pol.putT {W W2 : World} {pb base : Nat} {nm : ByteArray} {rows on miss qv vv tv uv xv' : Value} {qs : List (ByteArray × Bool)} {vs ts : List ByteArray} {us : List Nat} {u : ByteArray} (h : Pol W pb base nm rows on miss qv vv tv uv qs vs ts us) (hG : Gone W tv W2 xv') (ho : W2.ownsRow base 9 1 xv' (ts.length + 1) ((ts.map Value.string) ++ [Value.string u])) :
    W2.heap[pb]? = some (.cells #[.string nm, rows, qv, vv, tv, uv, on, miss] 29 (0, 0)) ∧ Pol (W2.setCell ⟨pb, 4, none⟩ xv') pb base nm rows on miss qv vv xv' uv qs vs (ts ++ [u]) us := by
  have hlt : ∀ k, tv.ownBlock = some k → base ≤ k := fun k e => (World.ownsRow.lt h.ot k e).1
  have hpb := h.lt
  have eP : W2.heap[pb]? = some (.cells #[.string nm, rows, qv, vv, tv, uv, on, miss] 29 (0, 0)) := (hG.1.block pb (Array.getElem?_eq_some_iff.1 h.blk).1 (fun e => by have := hlt pb e.symm; omega)).trans h.blk
  have hs : ∀ {T : TypeId} {v : Value} {n s : Nat} {xs : List Value}, W2.ownsRow base T s v n xs → (W2.setCell ⟨pb, 4, none⟩ xv').ownsRow base T s v n xs := fun ho => own_keepB ho (fun k hk => Below.heap_setCell W2 _ _ k (fun e => by have e2 : k = pb := e; have := (World.ownsRow.lt ho k hk).1; omega))
  have o1 : W2.ownsRow base 9 1 vv vs.length (vs.map Value.string) := own_keepB h.ov (fun k hk => hG.1.block k (World.ownsRow.lt h.ov k hk).2 (fun e => h.ne k hk e.symm))
  have o2 : W2.ownsRow base 3 1 uv us.length (us.map fun n : Nat => Value.int .i64 (n : Int)) := own_keepB h.ou (fun k hk => hG.1.block k (World.ownsRow.lt h.ou k hk).2 (fun e => rows_ne h.ou h.ot (by decide) k hk e.symm))
  have oq : W2.ownsRow base 49 2 qv qs.length (qF qs) := own_keepB h.oq (fun k hk => hG.1.block k (World.ownsRow.lt h.oq k hk).2 (fun e => rows_ne h.oq h.ot (by decide) k hk e.symm))
  refine ⟨eP, ⟨?_, hs oq, hs o1, ?_, hs o2, ?_, h.lt, ?_⟩⟩
  · have := heap_setCell_same W2 pb 4 _ 29 xv' eP
    simpa using this
  · have := hs ho
    simpa using this
  · intro g hg he
    rcases hG.own with e | e
    · exact h.ne g hg (e ▸ he)
    · have h1 := e g he
      have h2 := (World.ownsRow.lt h.ov g hg).2
      omega
  · have := hG.1.size
    have := h.sz
    simp [World.setCell]
    omega
set_option maxHeartbeats 6400000 in
set_option maxRecDepth 100000 in
/-- a var is enlisted -/
theorem enlist_var {W : World} {pb base rb cap at_ : Nat} {nm : ByteArray} {on miss qv vv tv uv : Value} {qs : List (ByteArray × Bool)} {vs ts : List ByteArray} {us : List Nat} {l : List Rz} {x : Rz} (h : Pol W pb base nm (.slice (some ⟨rb, 0, none⟩) l.length cap) on miss qv vv tv uv qs vs ts us) (hr : Rw W rb l) (hx : l[at_]? = some x) (hl : l.length ≤ 2932031007317) (hk : x.kind = 4) (hu : vs.length ≤ 1000) :
    Calls Try.prog 39 #[.pointer (some ⟨pb, 0, none⟩), .int .i64 (at_ : Int)] W fun e w' => e = .returned (.tuple #[]) ∧ ∃ xv', Pol w' pb base nm (.slice (some ⟨rb, 0, none⟩) l.length cap) on miss qv xv' tv uv qs (vs ++ [x.name]) ts us ∧ Fb [pb] base W w' := by
  have hat : at_ < l.length := (List.getElem?_eq_some_iff.1 hx).1
  have h3 : (at_ : Int) < (l.length : Int) := by omega
  have h4 : (at_ : Int) ≤ 2932031007317 := by omega
  obtain ⟨c0, c1, c2, c3, c4, _⟩ := hr.cells hx
  obtain ⟨p1, _, _, _, _⟩ := h.cells
  obtain ⟨a0, a1⟩ := alloc_row W x
  have hb1 : Below W.heap.size W (W.alloc (.cells #[.int .i64 x.kind, .string x.name, .int .i64 x.stop, .int .i64 x.n, .int .i64 x.kids] 40)) := (Below.refl _ W).alloc (Nat.le_refl _) _
  have hP1 := h.below hb1
  obtain ⟨_, p3, p4, _, pf⟩ := hP1.cells
  obtain ⟨j0, hj, hj0, hj1, hj2⟩ := info_parts infoS
  have HP1 := show Hid _ from hP1
  have HB1 : Hid (Fb [pb] base W (W.alloc (.cells #[.int .i64 x.kind, .string x.name, .int .i64 x.stop, .int .i64 x.n, .int .i64 x.kids] 40))) := Fb.of_below (hb1.mono h.sz)
  have HU : Hid (vs.length ≤ 1000) := hu
  obtain ⟨kd, n1, st, nn, ks⟩ := x
  dsimp only at *
  subst hk
  clear h hr hx hl hat hb1 hP1 pf hu
  go_enter Try.func39, Try.ntmps39
  go_upto_region 6 with fail
  generalize W.alloc (.cells #[.int .i64 4, .string n1, .int .i64 st, .int .i64 nn, .int .i64 ks] 40) = w1 at *
  have hP2 : Pol (w1.alloc (.cells #[.string n1] 9)).drew pb base nm (.slice (some ⟨rb, 0, none⟩) l.length cap) on miss qv vv tv uv qs vs ts us := HP1.out.below ((Below.refl _ w1).alloc (Nat.le_refl _) _).drew
  have HP2 := show Hid _ from hP2
  have HB2 : Hid (Fb [pb] base W (w1.alloc (.cells #[.string n1] 9)).drew) := HB1.out.trans (Fb.of_below (((Below.refl _ w1).alloc (Nat.le_refl _) _).drew.mono HP1.out.sz))
  obtain ⟨_, q3, q4, _, _⟩ := (HP1.out.below ((Below.refl _ w1).alloc (Nat.le_refl _) (.cells #[.string n1] 9))).cells
  clear hP2
  go_region_law (refine step_gone _ rfl (.tmp 38) (.tmp 41) 26 rfl base 9 j0 (.string ByteArray.empty) 1 16 Try.underlying26 hj hj0 hj1 hj2 rfl (by decide) vv _ (vs.map Value.string) (by simp [Act.eval]) HP2.out.ov ⟨w1.heap.size, 0, none⟩ 1 1 [.string n1] (by simp [Act.eval]) rfl (cell_oned w1 _ _ _ rfl) (by intro u hu; simp only [List.mem_cons, List.not_mem_nil, or_false] at hu; subst hu; rfl) (by have := HU.out; unfold maxLen; omega) (by have := HU.out; omega) HP2.out.sz (by decide) ?_
                 intro xv' w3 ho hG
                 obtain ⟨eP, hP3⟩ := HP2.out.putV (u := n1) hG ho
                 have HP3 := show Hid _ from hP3
                 have HB3 : Hid (Fb [pb] base W (w3.setCell ⟨pb, 3, none⟩ xv')) := (HB2.out.trans (gone_fb hG HP2.out.ov HP2.out.sz)).trans set_fb
                 have e5 : w3.cell? ⟨pb, 3, none⟩ = some vv := by simp [World.cell?, eP]
                 have f5 : w3.frozen? ⟨pb, 3, none⟩ = false := by simp [World.frozen?, eP]
                 obtain ⟨bo, bc, rfl⟩ := own_form ho
                 clear ho hG eP hP3)
  all_goals
    clear HP2 HB2
    go_wp2
    go_end0
    exact ⟨rfl, _, HP3.out, HB3.out⟩
set_option maxHeartbeats 6400000 in
set_option maxRecDepth 100000 in
/-- a tag is enlisted -/
theorem enlist_tag {W : World} {pb base rb cap at_ : Nat} {nm : ByteArray} {on miss qv vv tv uv : Value} {qs : List (ByteArray × Bool)} {vs ts : List ByteArray} {us : List Nat} {l : List Rz} {x : Rz} (h : Pol W pb base nm (.slice (some ⟨rb, 0, none⟩) l.length cap) on miss qv vv tv uv qs vs ts us) (hr : Rw W rb l) (hx : l[at_]? = some x) (hl : l.length ≤ 2932031007317) (hk : x.kind = 5) (hu : ts.length ≤ 1000) :
    Calls Try.prog 39 #[.pointer (some ⟨pb, 0, none⟩), .int .i64 (at_ : Int)] W fun e w' => e = .returned (.tuple #[]) ∧ ∃ xv', Pol w' pb base nm (.slice (some ⟨rb, 0, none⟩) l.length cap) on miss qv vv xv' uv qs vs (ts ++ [x.name]) us ∧ Fb [pb] base W w' := by
  have hat : at_ < l.length := (List.getElem?_eq_some_iff.1 hx).1
  have h3 : (at_ : Int) < (l.length : Int) := by omega
  have h4 : (at_ : Int) ≤ 2932031007317 := by omega
  obtain ⟨c0, c1, c2, c3, c4, _⟩ := hr.cells hx
  obtain ⟨p1, _, _, _, _⟩ := h.cells
  obtain ⟨a0, a1⟩ := alloc_row W x
  have hb1 : Below W.heap.size W (W.alloc (.cells #[.int .i64 x.kind, .string x.name, .int .i64 x.stop, .int .i64 x.n, .int .i64 x.kids] 40)) := (Below.refl _ W).alloc (Nat.le_refl _) _
  have hP1 := h.below hb1
  obtain ⟨_, p3, p4, _, pf⟩ := hP1.cells
  obtain ⟨j0, hj, hj0, hj1, hj2⟩ := info_parts infoS
  have HP1 := show Hid _ from hP1
  have HB1 : Hid (Fb [pb] base W (W.alloc (.cells #[.int .i64 x.kind, .string x.name, .int .i64 x.stop, .int .i64 x.n, .int .i64 x.kids] 40))) := Fb.of_below (hb1.mono h.sz)
  have HU : Hid (ts.length ≤ 1000) := hu
  obtain ⟨kd, n1, st, nn, ks⟩ := x
  dsimp only at *
  subst hk
  clear h hr hx hl hat hb1 hP1 pf hu
  go_enter Try.func39, Try.ntmps39
  go_upto_region 8 with fail
  generalize W.alloc (.cells #[.int .i64 5, .string n1, .int .i64 st, .int .i64 nn, .int .i64 ks] 40) = w1 at *
  have hP2 : Pol (w1.alloc (.cells #[.string n1] 9)).drew pb base nm (.slice (some ⟨rb, 0, none⟩) l.length cap) on miss qv vv tv uv qs vs ts us := HP1.out.below ((Below.refl _ w1).alloc (Nat.le_refl _) _).drew
  have HP2 := show Hid _ from hP2
  have HB2 : Hid (Fb [pb] base W (w1.alloc (.cells #[.string n1] 9)).drew) := HB1.out.trans (Fb.of_below (((Below.refl _ w1).alloc (Nat.le_refl _) _).drew.mono HP1.out.sz))
  obtain ⟨_, q3, q4, _, _⟩ := (HP1.out.below ((Below.refl _ w1).alloc (Nat.le_refl _) (.cells #[.string n1] 9))).cells
  clear hP2
  go_region_law (refine step_gone _ rfl (.tmp 51) (.tmp 54) 26 rfl base 9 j0 (.string ByteArray.empty) 1 16 Try.underlying26 hj hj0 hj1 hj2 rfl (by decide) tv _ (ts.map Value.string) (by simp [Act.eval]) HP2.out.ot ⟨w1.heap.size, 0, none⟩ 1 1 [.string n1] (by simp [Act.eval]) rfl (cell_oned w1 _ _ _ rfl) (by intro u hu; simp only [List.mem_cons, List.not_mem_nil, or_false] at hu; subst hu; rfl) (by have := HU.out; unfold maxLen; omega) (by have := HU.out; omega) HP2.out.sz (by decide) ?_
                 intro xv' w3 ho hG
                 obtain ⟨eP, hP3⟩ := HP2.out.putT (u := n1) hG ho
                 have HP3 := show Hid _ from hP3
                 have HB3 : Hid (Fb [pb] base W (w3.setCell ⟨pb, 4, none⟩ xv')) := (HB2.out.trans (gone_fb hG HP2.out.ot HP2.out.sz)).trans set_fb
                 have e5 : w3.cell? ⟨pb, 4, none⟩ = some tv := by simp [World.cell?, eP]
                 have f5 : w3.frozen? ⟨pb, 4, none⟩ = false := by simp [World.frozen?, eP]
                 obtain ⟨bo, bc, rfl⟩ := own_form ho
                 clear ho hG eP hP3)
  all_goals
    clear HP2 HB2
    go_wp2
    go_end0
    exact ⟨rfl, _, HP3.out, HB3.out⟩
end Go.Proofs.Ytjbpbgdhooggeaa.Nm
namespace Go.Proofs.Ytjbpbgdhooggeaa.Nm
open Go.RowKit Go.Maps Go.Proofs.Ytjbpbgdhooggeaa.Sp Go.Proofs.Ytjbpbgdhooggeaa.Lx Go.Proofs.Ytjbpbgdhooggeaa.Gr

theorem infoQ : (Try.prog.info? 49).map (fun i => (i.zero, i.size, i.bytes)) = some (some (.agg #[.string ByteArray.empty, .bool false]), 2, 24) := by kernel_rfl
theorem cell_twod (w : World) (T : TypeId) (a c : Value) (b : Nat) (hb : b = w.heap.size) : ∀ j u, [a, c][j]? = some u → (w.alloc (.cells #[a, c] T)).drew.cell? ((⟨b, 0, none⟩ : Addr).add j) = some u := by
  intro j u h
  subst hb
  exact Lib.cells_of_row (heap_alloc_new w (.cells #[a, c] T)) 2 j u (by simpa using h)
/-- a queue is put behind the others -/
theorem Pol.putQ {W W2 : World} {pb base : Nat} {nm : ByteArray} {rows on miss qv vv tv uv xv' : Value} {qs : List (ByteArray × Bool)} {vs ts : List ByteArray} {us : List Nat} {u : ByteArray × Bool} (h : Pol W pb base nm rows on miss qv vv tv uv qs vs ts us) (hG : Gone W qv W2 xv') (ho : W2.ownsRow base 49 2 xv' (qs.length + 1) (qF qs ++ [.string u.1, .bool u.2])) :
    W2.heap[pb]? = some (.cells #[.string nm, rows, qv, vv, tv, uv, on, miss] 29 (0, 0)) ∧ Pol (W2.setCell ⟨pb, 2, none⟩ xv') pb base nm rows on miss xv' vv tv uv (qs ++ [u]) vs ts us := by
  have hlt : ∀ k, qv.ownBlock = some k → base ≤ k := fun k e => (World.ownsRow.lt h.oq k e).1
  have hpb := h.lt
  have eP : W2.heap[pb]? = some (.cells #[.string nm, rows, qv, vv, tv, uv, on, miss] 29 (0, 0)) := (hG.1.block pb (Array.getElem?_eq_some_iff.1 h.blk).1 (fun e => by have := hlt pb e.symm; omega)).trans h.blk
  have hs : ∀ {T : TypeId} {v : Value} {n s : Nat} {xs : List Value}, W2.ownsRow base T s v n xs → (W2.setCell ⟨pb, 2, none⟩ xv').ownsRow base T s v n xs := fun ho => own_keepB ho (fun k hk => Below.heap_setCell W2 _ _ k (fun e => by have e2 : k = pb := e; have := (World.ownsRow.lt ho k hk).1; omega))
  have o1 : W2.ownsRow base 9 1 vv vs.length (vs.map Value.string) := own_keepB h.ov (fun k hk => hG.1.block k (World.ownsRow.lt h.ov k hk).2 (fun e => rows_ne h.ov h.oq (by decide) k hk e.symm))
  have o2 : W2.ownsRow base 9 1 tv ts.length (ts.map Value.string) := own_keepB h.ot (fun k hk => hG.1.block k (World.ownsRow.lt h.ot k hk).2 (fun e => rows_ne h.ot h.oq (by decide) k hk e.symm))
  have o3 : W2.ownsRow base 3 1 uv us.length (us.map fun n : Nat => Value.int .i64 (n : Int)) := own_keepB h.ou (fun k hk => hG.1.block k (World.ownsRow.lt h.ou k hk).2 (fun e => rows_ne h.ou h.oq (by decide) k hk e.symm))
  refine ⟨eP, ⟨?_, ?_, hs o1, hs o2, hs o3, h.ne, h.lt, ?_⟩⟩
  · have := heap_setCell_same W2 pb 2 _ 29 xv' eP
    simpa using this
  · have := hs ho
    simpa [qF] using this
  · have := hG.1.size
    have := h.sz
    simp [World.setCell]
    omega
set_option maxHeartbeats 6400000 in
set_option maxRecDepth 100000 in
/-- a resident queue is enlisted -/
theorem enlist_queue {W : World} {pb base rb cap at_ : Nat} {nm : ByteArray} {on miss qv vv tv uv : Value} {qs : List (ByteArray × Bool)} {vs ts : List ByteArray} {us : List Nat} {l : List Rz} {x : Rz} (h : Pol W pb base nm (.slice (some ⟨rb, 0, none⟩) l.length cap) on miss qv vv tv uv qs vs ts us) (hr : Rw W rb l) (hx : l[at_]? = some x) (hl : l.length ≤ 2932031007317) (hk : x.kind = 2) (hu : qs.length ≤ 1000) :
    Calls Try.prog 39 #[.pointer (some ⟨pb, 0, none⟩), .int .i64 (at_ : Int)] W fun e w' => e = .returned (.tuple #[]) ∧ ∃ xv', Pol w' pb base nm (.slice (some ⟨rb, 0, none⟩) l.length cap) on miss xv' vv tv uv (qs ++ [(x.name, false)]) vs ts us ∧ Fb [pb] base W w' := by
  have hat : at_ < l.length := (List.getElem?_eq_some_iff.1 hx).1
  have h3 : (at_ : Int) < (l.length : Int) := by omega
  have h4 : (at_ : Int) ≤ 2932031007317 := by omega
  obtain ⟨c0, c1, c2, c3, c4, _⟩ := hr.cells hx
  obtain ⟨p1, _, _, _, _⟩ := h.cells
  obtain ⟨a0, a1⟩ := alloc_row W x
  have hb1 : Below W.heap.size W (W.alloc (.cells #[.int .i64 x.kind, .string x.name, .int .i64 x.stop, .int .i64 x.n, .int .i64 x.kids] 40)) := (Below.refl _ W).alloc (Nat.le_refl _) _
  have hP1 := h.below hb1
  have p2 : (W.alloc (.cells #[.int .i64 x.kind, .string x.name, .int .i64 x.stop, .int .i64 x.n, .int .i64 x.kids] 40)).cell? ⟨pb, 2, none⟩ = some qv := by simp only [World.cell?, hP1.blk]; rfl
  obtain ⟨j0, hj, hj0, hj1, hj2⟩ := info_parts infoQ
  have HP1 := show Hid _ from hP1
  have HB1 : Hid (Fb [pb] base W (W.alloc (.cells #[.int .i64 x.kind, .string x.name, .int .i64 x.stop, .int .i64 x.n, .int .i64 x.kids] 40))) := Fb.of_below (hb1.mono h.sz)
  have HU : Hid (qs.length ≤ 1000) := hu
  obtain ⟨kd, n1, st, nn, ks⟩ := x
  dsimp only at *
  subst hk
  clear h hr hx hl hat hb1 hP1 hu
  go_enter Try.func39, Try.ntmps39
  go_upto_region 4 with fail
  generalize W.alloc (.cells #[.int .i64 2, .string n1, .int .i64 st, .int .i64 nn, .int .i64 ks] 40) = w1 at *
  have hP2 : Pol (w1.alloc (.cells #[.string n1, .bool false] 49)).drew pb base nm (.slice (some ⟨rb, 0, none⟩) l.length cap) on miss qv vv tv uv qs vs ts us := HP1.out.below ((Below.refl _ w1).alloc (Nat.le_refl _) _).drew
  have HP2 := show Hid _ from hP2
  have HB2 : Hid (Fb [pb] base W (w1.alloc (.cells #[.string n1, .bool false] 49)).drew) := HB1.out.trans (Fb.of_below (((Below.refl _ w1).alloc (Nat.le_refl _) _).drew.mono HP1.out.sz))
  have q2 : (w1.alloc (.cells #[.string n1, .bool false] 49)).cell? ⟨pb, 2, none⟩ = some qv := by simp only [World.cell?, (HP1.out.below ((Below.refl _ w1).alloc (Nat.le_refl _) (.cells #[.string n1, .bool false] 49))).blk]; rfl
  clear hP2
  go_region_law (refine step_gone _ rfl (.tmp 21) (.tmp 28) 25 rfl base 49 j0 (.agg #[.string ByteArray.empty, .bool false]) 2 24 Try.underlying25 hj hj0 hj1 hj2 rfl (by decide) qv _ (qF qs) (by simp [Act.eval]) HP2.out.oq ⟨w1.heap.size, 0, none⟩ 1 1 [.string n1, .bool false] (by simp [Act.eval]) rfl (cell_twod w1 _ _ _ _ rfl) (by intro u hu; simp only [List.mem_cons, List.not_mem_nil, or_false] at hu; rcases hu with rfl | rfl <;> rfl) (by have := HU.out; unfold maxLen; omega) (by have := HU.out; omega) HP2.out.sz (by decide) ?_
                 intro xv' w3 ho hG
                 obtain ⟨eP, hP3⟩ := HP2.out.putQ (u := (n1, false)) hG ho
                 have HP3 := show Hid _ from hP3
                 have HB3 : Hid (Fb [pb] base W (w3.setCell ⟨pb, 2, none⟩ xv')) := (HB2.out.trans (gone_fb hG HP2.out.oq HP2.out.sz)).trans set_fb
                 have e5 : w3.cell? ⟨pb, 2, none⟩ = some qv := by simp [World.cell?, eP]
                 have f5 : w3.frozen? ⟨pb, 2, none⟩ = false := by simp [World.frozen?, eP]
                 obtain ⟨bo, bc, rfl⟩ := own_form ho
                 clear ho hG eP hP3)
  all_goals
    clear HP2 HB2
    go_wp2
    go_end0
    exact ⟨rfl, _, HP3.out, HB3.out⟩
set_option maxHeartbeats 6400000 in
set_option maxRecDepth 100000 in
/-- a ghost queue is enlisted -/
theorem enlist_ghost {W : World} {pb base rb cap at_ : Nat} {nm : ByteArray} {on miss qv vv tv uv : Value} {qs : List (ByteArray × Bool)} {vs ts : List ByteArray} {us : List Nat} {l : List Rz} {x : Rz} (h : Pol W pb base nm (.slice (some ⟨rb, 0, none⟩) l.length cap) on miss qv vv tv uv qs vs ts us) (hr : Rw W rb l) (hx : l[at_]? = some x) (hl : l.length ≤ 2932031007317) (hk : x.kind = 3) (hu : qs.length ≤ 1000) :
    Calls Try.prog 39 #[.pointer (some ⟨pb, 0, none⟩), .int .i64 (at_ : Int)] W fun e w' => e = .returned (.tuple #[]) ∧ ∃ xv', Pol w' pb base nm (.slice (some ⟨rb, 0, none⟩) l.length cap) on miss xv' vv tv uv (qs ++ [(x.name, true)]) vs ts us ∧ Fb [pb] base W w' := by
  have hat : at_ < l.length := (List.getElem?_eq_some_iff.1 hx).1
  have h3 : (at_ : Int) < (l.length : Int) := by omega
  have h4 : (at_ : Int) ≤ 2932031007317 := by omega
  obtain ⟨c0, c1, c2, c3, c4, _⟩ := hr.cells hx
  obtain ⟨p1, _, _, _, _⟩ := h.cells
  obtain ⟨a0, a1⟩ := alloc_row W x
  have hb1 : Below W.heap.size W (W.alloc (.cells #[.int .i64 x.kind, .string x.name, .int .i64 x.stop, .int .i64 x.n, .int .i64 x.kids] 40)) := (Below.refl _ W).alloc (Nat.le_refl _) _
  have hP1 := h.below hb1
  have p2 : (W.alloc (.cells #[.int .i64 x.kind, .string x.name, .int .i64 x.stop, .int .i64 x.n, .int .i64 x.kids] 40)).cell? ⟨pb, 2, none⟩ = some qv := by simp only [World.cell?, hP1.blk]; rfl
  obtain ⟨j0, hj, hj0, hj1, hj2⟩ := info_parts infoQ
  have HP1 := show Hid _ from hP1
  have HB1 : Hid (Fb [pb] base W (W.alloc (.cells #[.int .i64 x.kind, .string x.name, .int .i64 x.stop, .int .i64 x.n, .int .i64 x.kids] 40))) := Fb.of_below (hb1.mono h.sz)
  have HU : Hid (qs.length ≤ 1000) := hu
  obtain ⟨kd, n1, st, nn, ks⟩ := x
  dsimp only at *
  subst hk
  clear h hr hx hl hat hb1 hP1 hu
  go_enter Try.func39, Try.ntmps39
  go_upto_region 4 with fail
  generalize W.alloc (.cells #[.int .i64 3, .string n1, .int .i64 st, .int .i64 nn, .int .i64 ks] 40) = w1 at *
  have hP2 : Pol (w1.alloc (.cells #[.string n1, .bool true] 49)).drew pb base nm (.slice (some ⟨rb, 0, none⟩) l.length cap) on miss qv vv tv uv qs vs ts us := HP1.out.below ((Below.refl _ w1).alloc (Nat.le_refl _) _).drew
  have HP2 := show Hid _ from hP2
  have HB2 : Hid (Fb [pb] base W (w1.alloc (.cells #[.string n1, .bool true] 49)).drew) := HB1.out.trans (Fb.of_below (((Below.refl _ w1).alloc (Nat.le_refl _) _).drew.mono HP1.out.sz))
  have q2 : (w1.alloc (.cells #[.string n1, .bool true] 49)).cell? ⟨pb, 2, none⟩ = some qv := by simp only [World.cell?, (HP1.out.below ((Below.refl _ w1).alloc (Nat.le_refl _) (.cells #[.string n1, .bool true] 49))).blk]; rfl
  clear hP2
  go_region_law (refine step_gone _ rfl (.tmp 21) (.tmp 28) 25 rfl base 49 j0 (.agg #[.string ByteArray.empty, .bool false]) 2 24 Try.underlying25 hj hj0 hj1 hj2 rfl (by decide) qv _ (qF qs) (by simp [Act.eval]) HP2.out.oq ⟨w1.heap.size, 0, none⟩ 1 1 [.string n1, .bool true] (by simp [Act.eval]) rfl (cell_twod w1 _ _ _ _ rfl) (by intro u hu; simp only [List.mem_cons, List.not_mem_nil, or_false] at hu; rcases hu with rfl | rfl <;> rfl) (by have := HU.out; unfold maxLen; omega) (by have := HU.out; omega) HP2.out.sz (by decide) ?_
                 intro xv' w3 ho hG
                 obtain ⟨eP, hP3⟩ := HP2.out.putQ (u := (n1, true)) hG ho
                 have HP3 := show Hid _ from hP3
                 have HB3 : Hid (Fb [pb] base W (w3.setCell ⟨pb, 2, none⟩ xv')) := (HB2.out.trans (gone_fb hG HP2.out.oq HP2.out.sz)).trans set_fb
                 have e5 : w3.cell? ⟨pb, 2, none⟩ = some qv := by simp [World.cell?, eP]
                 have f5 : w3.frozen? ⟨pb, 2, none⟩ = false := by simp [World.frozen?, eP]
                 obtain ⟨bo, bc, rfl⟩ := own_form ho
                 clear ho hG eP hP3)
  all_goals
    clear HP2 HB2
    go_wp2
    go_end0
    exact ⟨rfl, _, HP3.out, HB3.out⟩
end Go.Proofs.Ytjbpbgdhooggeaa.Nm

namespace Go.Proofs.Ytjbpbgdhooggeaa.Nm
open Go.RowKit Go.Maps Go.Proofs.Ytjbpbgdhooggeaa.Sp Go.Proofs.Ytjbpbgdhooggeaa.Lx Go.Proofs.Ytjbpbgdhooggeaa.Gr

/-- a name's meaning: kind, number, from where on -/
abbrev mv (k n from_ : Nat) : Value := .agg #[.int .i64 (k : Int), .int .i64 (n : Int), .int .i64 (from_ : Int)]
set_option maxHeartbeats 6400000 in
set_option maxRecDepth 100000 in
/-- what a row's name means there -/
theorem naming_any {W : World} {rb r1 r2 mb cap at_ n : Nat} {l : List Rz} {x : Rz} {f : ByteArray → Option Value} (hr : Rw W rb l) (h1 : W.heap[r1]? = some (.cells #[.slice (some ⟨rb, 0, none⟩) l.length cap] 22 (0, 0))) (h2 : W.heap[r2]? = some (.cells #[.map (some mb)] 52 (0, 0)))
    (hm : IsMp kmap W mb f n) (hx : l[at_]? = some x) (hl : l.length ≤ 2932031007317) (hs : x.name.size ≤ maxLen) (hf : ∀ v, f x.name = some v → ∃ k m p, v = mv k m p ∧ k ≤ 4 ∧ m ≤ 64) :
    Calls Try.prog 40 #[.int .i64 at_, .pointer (some ⟨r1, 0, none⟩), .pointer (some ⟨r2, 0, none⟩)] W fun e w' =>
      (nmd x.kind = 0 ∧ e = .returned (.int .i64 0) ∧ Below W.heap.size W w') ∨
      (nmd x.kind ≠ 0 ∧ (f x.name = none ∨ ∃ k m p, f x.name = some (mv k m p) ∧ at_ < p) ∧ e = .returned (.int .i64 32) ∧ Below W.heap.size W w') ∨
      (∃ k m p, nmd x.kind ≠ 0 ∧ f x.name = some (mv k m p) ∧ p ≤ at_ ∧ ((k ≠ nmd x.kind ∧ e = .returned (.int .i64 33) ∧ Below W.heap.size W w') ∨
        (k = nmd x.kind ∧ e = .returned (.int .i64 0) ∧ Fr [rb] W w' ∧ Rw w' rb (l.set at_ { x with n := (m : Int) })))) := by
  have hat : at_ < l.length := (List.getElem?_eq_some_iff.1 hx).1
  have h3 : (at_ : Int) < (l.length : Int) := by omega
  have h4 : (at_ : Int) ≤ 2932031007317 := by omega
  obtain ⟨c0, c1, c2, c3, c4, fz⟩ := hr.cells hx
  have fz3 := fz (at_ * 5 + 3)
  obtain ⟨d1, _⟩ := box_cell h1
  obtain ⟨d2, _⟩ := box_cell h2
  have HN := show Hid _ from named_any x.kind W
  have hle := nmd_le x.kind
  have hlk := hm.lookOk kmap_law (k := x.name) hs
  have hlk' : (Instr.lookup 52 (.map (some mb)) (.string x.name) true).run Try.prog W = .ok (.tuple #[(f x.name).getD (mv 0 0 0), .bool (f x.name).isSome]) W := hlk
  have hbM : Below W.heap.size W (W.alloc (.cells #[.int .i64 0, .int .i64 0, .int .i64 0] 75)) := (Below.refl _ W).alloc (Nat.le_refl _) _
  have hmD : (Instr.lookup 52 (.map (some mb)) (.string x.name) true).run Try.prog W.drew = .ok (.tuple #[(f x.name).getD (mv 0 0 0), .bool (f x.name).isSome]) W.drew := (hm.same (w' := W.drew) rfl).lookOk kmap_law (k := x.name) hs
  have hmA : (Instr.lookup 52 (.map (some mb)) (.string x.name) true).run Try.prog (W.alloc (.cells #[.int .i64 0, .int .i64 0, .int .i64 0] 75)).drew = .ok (.tuple #[(f x.name).getD (mv 0 0 0), .bool (f x.name).isSome]) (W.alloc (.cells #[.int .i64 0, .int .i64 0, .int .i64 0] 75)).drew := (hm.same (w' := (W.alloc (.cells #[.int .i64 0, .int .i64 0, .int .i64 0] 75)).drew) (hbM.block mb hm.lt)).lookOk kmap_law (k := x.name) hs
  have ca : ∀ {b i : Nat} {v : Value}, W.cell? ⟨b, i, none⟩ = some v → (W.alloc (.cells #[.int .i64 0, .int .i64 0, .int .i64 0] 75)).cell? ⟨b, i, none⟩ = some v := fun {b i v} hv => (World.cell?_of_block (a := ⟨b, i, none⟩) (hbM.block b (World.block_lt_of_cell? W _ hv))).trans hv
  have ca1 := ca d1
  have ca2 := ca d2
  have ca3 := ca c1
  have HR : Hid (Rw W rb l ∧ l[at_]? = some x) := ⟨hr, hx⟩
  clear hlk hm h1 h2 hl hs hat fz hbM ca
  generalize hnk : nmd x.kind = z at *
  have hz4 : (z : Int) ≤ 4 := by omega
  clear hle
  by_cases hz0 : z = 0
  · have hz0' : ((z : Int) == 0) = true := by simp [hz0]
    have HZ : Hid (z = 0) := hz0
    clear hz0
    go_enter Try.func40, Try.ntmps40
    go_wp2_with fail
    refine Calls.mono HN.out ?_
    rintro e w1 ⟨rfl, rfl⟩
    go_wp2
    go_ret
    exact Or.inl ⟨HZ.out, rfl, Below.refl _ _⟩
  · have hz0' : ((z : Int) == 0) = false := by simp; omega
    have HZ : Hid (z ≠ 0) := hz0
    clear hz0
    cases hfx : f x.name with
    | none =>
      rw [hfx] at hlk' hmD hmA
      simp only [Option.getD_none, Option.isSome_none] at hlk' hmD hmA
      have HF : Hid (f x.name = none) := hfx
      clear hfx hf
      go_enter Try.func40, Try.ntmps40
      go_wp2_with fail
      refine Calls.mono HN.out ?_
      rintro e w1 ⟨rfl, rfl⟩
      go_wp2_with fail
      go_region
      all_goals
        have HB : Hid (Below w1.heap.size w1 (w1.alloc (.cells #[.int .i64 0, .int .i64 0, .int .i64 0] 75)).drew) := ((Below.refl _ w1).alloc (Nat.le_refl _) _).drew
        go_wp2
        go_ret
        exact Or.inr (Or.inl ⟨HZ.out, Or.inl (by first | trivial | exact HF.out), rfl, HB.out⟩)
    | some v =>
      obtain ⟨k, m, p, rfl, hk4, hm64⟩ := hf v hfx
      rw [hfx] at hlk' hmD hmA
      simp only [Option.getD_some, Option.isSome_some] at hlk' hmD hmA
      have HF : Hid (f x.name = some (mv k m p)) := hfx
      have hk4' : (k : Int) ≤ 4 := by omega
      have hm64' : (m : Int) ≤ 64 := by omega
      have hbV : Below W.heap.size W (W.alloc (.cells #[.int .i64 (k : Int), .int .i64 (m : Int), .int .i64 (p : Int)] 75)) := (Below.refl _ W).alloc (Nat.le_refl _) _
      have hnV : (W.alloc (.cells #[.int .i64 (k : Int), .int .i64 (m : Int), .int .i64 (p : Int)] 75)).heap[W.heap.size]? = some (.cells #[.int .i64 (k : Int), .int .i64 (m : Int), .int .i64 (p : Int)] 75 (0, 0)) := heap_alloc_new W _
      have e0 : (W.alloc (.cells #[.int .i64 (k : Int), .int .i64 (m : Int), .int .i64 (p : Int)] 75)).cell? ⟨W.heap.size, 0, none⟩ = some (.int .i64 (k : Int)) := by rw [World.cell?, hnV]; rfl
      have e1 : (W.alloc (.cells #[.int .i64 (k : Int), .int .i64 (m : Int), .int .i64 (p : Int)] 75)).cell? ⟨W.heap.size, 1, none⟩ = some (.int .i64 (m : Int)) := by rw [World.cell?, hnV]; rfl
      have e2 : (W.alloc (.cells #[.int .i64 (k : Int), .int .i64 (m : Int), .int .i64 (p : Int)] 75)).cell? ⟨W.heap.size, 2, none⟩ = some (.int .i64 (p : Int)) := by rw [World.cell?, hnV]; rfl
      have cb : ∀ {b i : Nat} {v : Value}, W.cell? ⟨b, i, none⟩ = some v → (W.alloc (.cells #[.int .i64 (k : Int), .int .i64 (m : Int), .int .i64 (p : Int)] 75)).cell? ⟨b, i, none⟩ = some v := fun {b i v} hv => (World.cell?_of_block (a := ⟨b, i, none⟩) (hbV.block b (World.block_lt_of_cell? W _ hv))).trans hv
      have cb1 := cb d1
      have cb3 := cb c3
      have fb3 : (W.alloc (.cells #[.int .i64 (k : Int), .int .i64 (m : Int), .int .i64 (p : Int)] 75)).frozen? ⟨rb, at_ * 5 + 3, none⟩ = false := by rw [World.frozen?, hbV.block rb hr.lt]; exact fz3
      have HV : Hid (Below W.heap.size W (W.alloc (.cells #[.int .i64 (k : Int), .int .i64 (m : Int), .int .i64 (p : Int)] 75)).drew) := hbV.drew
      clear hfx hf hbV hnV cb hk4 hm64
      by_cases hp : at_ < p
      · have hp1 : (at_ : Int) < (p : Int) := by omega
        have HP : Hid (at_ < p) := hp
        go_enter Try.func40, Try.ntmps40
        go_wp2_with fail
        refine Calls.mono HN.out ?_
        rintro e w1 ⟨rfl, rfl⟩
        go_wp2_with fail
        go_region
        all_goals
          go_wp2
          go_ret
          exact Or.inr (Or.inl ⟨HZ.out, Or.inr ⟨k, m, p, by first | rfl | exact HF.out, HP.out⟩, rfl, HV.out⟩)
      · have hp1 : decide ((at_ : Int) < (p : Int)) = false := decide_eq_false (by omega)
        have hp2 : decide (at_ < p) = false := decide_eq_false hp
        have HP : Hid (p ≤ at_) := by show _ ≤ _; omega
        clear hp
        by_cases hkz : k = z
        · have hkz' : ((k : Int) != (z : Int)) = false := by simp [hkz]
          have HK : Hid (k = z) := hkz
          clear hkz
          go_enter Try.func40, Try.ntmps40
          go_wp2_with fail
          refine Calls.mono HN.out ?_
          rintro e w1 ⟨rfl, rfl⟩
          go_wp2_with fail
          go_region
          all_goals
            have HX : Hid (Fr [rb] w1 ((w1.alloc (.cells #[.int .i64 (k : Int), .int .i64 (m : Int), .int .i64 (p : Int)] 75)).drew.setCell ⟨rb, at_ * 5 + 3, none⟩ (.int .i64 (m : Int))) ∧ Rw ((w1.alloc (.cells #[.int .i64 (k : Int), .int .i64 (m : Int), .int .i64 (p : Int)] 75)).drew.setCell ⟨rb, at_ * 5 + 3, none⟩ (.int .i64 (m : Int))) rb (l.set at_ { x with n := (m : Int) })) := ⟨(Fr.of_below HV.out).trans (Fr.set (F := [rb]) _ _ _ (by simp)) (fun _ hx => Or.inl hx), (HR.out.1.same (HV.out.block rb HR.out.1.lt)).setN HR.out.2 (m : Int)⟩
            go_wp2
            go_ret
            exact Or.inr (Or.inr ⟨k, m, p, HZ.out, by first | rfl | exact HF.out, HP.out, Or.inr ⟨HK.out, rfl, HX.out.1, HX.out.2⟩⟩)
        · have hkz' : ((k : Int) != (z : Int)) = true := by simp; omega
          have HK : Hid (k ≠ z) := hkz
          clear hkz
          go_enter Try.func40, Try.ntmps40
          go_wp2_with fail
          refine Calls.mono HN.out ?_
          rintro e w1 ⟨rfl, rfl⟩
          go_wp2_with fail
          go_region
          all_goals
            go_wp2
            go_ret
            exact Or.inr (Or.inr ⟨k, m, p, HZ.out, by first | rfl | exact HF.out, HP.out, Or.inl ⟨HK.out, rfl, HV.out⟩⟩)
end Go.Proofs.Ytjbpbgdhooggeaa.Nm

namespace Go.Proofs.Ytjbpbgdhooggeaa.Nm
open Go.RowKit Go.Maps Go.Proofs.Ytjbpbgdhooggeaa.Sp Go.Proofs.Ytjbpbgdhooggeaa.Lx Go.Proofs.Ytjbpbgdhooggeaa.Gr

/-- what declaring captures, and what stands there -/
structure Dec (W : World) (b1 b2 b3 pb base rb kb cb cap : Nat) (nm : ByteArray) (on miss qv vv tv uv : Value) (qs : List (ByteArray × Bool)) (vs ts : List ByteArray) (us : List Nat) (l : List Rz) (f : ByteArray → Option Value) (nk : Nat) (c : Nat → Option Value) (nc : Nat) : Prop where
  p : Pol W pb base nm (.slice (some ⟨rb, 0, none⟩) l.length cap) on miss qv vv tv uv qs vs ts us
  r : Rw W rb l
  x1 : W.heap[b1]? = some (.cells #[.pointer (some ⟨pb, 0, none⟩)] 57 (0, 0))
  x2 : W.heap[b2]? = some (.cells #[.map (some kb)] 52 (0, 0))
  x3 : W.heap[b3]? = some (.cells #[.map (some cb)] 70 (0, 0))
  k : IsMp kmap W kb f nk
  c : IsMp cmap W cb c nc
set_option maxHeartbeats 6400000 in
set_option maxRecDepth 100000 in
/-- a row that declares nothing, or a name that is declared already -/
theorem declaring_no {W : World} {b1 b2 b3 pb base rb kb cb cap at_ nk nc : Nat} {nm : ByteArray} {on miss qv vv tv uv : Value} {qs : List (ByteArray × Bool)} {vs ts : List ByteArray} {us : List Nat} {l : List Rz} {x : Rz} {f : ByteArray → Option Value} {c : Nat → Option Value}
    (h : Dec W b1 b2 b3 pb base rb kb cb cap nm on miss qv vv tv uv qs vs ts us l f nk c nc) (hx : l[at_]? = some x) (hl : l.length ≤ 2932031007317) (hs : x.name.size ≤ maxLen) (hf : ∀ v, f x.name = some v → ∃ k m p, v = mv k m p) (hno : decl x.kind = 0 ∨ (f x.name).isSome = true) :
    Calls Try.prog 36 #[.int .i64 (at_ : Int), .pointer (some ⟨b1, 0, none⟩), .pointer (some ⟨b2, 0, none⟩), .pointer (some ⟨b3, 0, none⟩)] W fun e w' => e = .returned (.int .i64 (if decl x.kind = 0 then 0 else 31)) ∧ Below W.heap.size W w' := by
  have hat : at_ < l.length := (List.getElem?_eq_some_iff.1 hx).1
  have h3 : (at_ : Int) < (l.length : Int) := by omega
  have h4 : (at_ : Int) ≤ 2932031007317 := by omega
  obtain ⟨c0, c1, c2, c3, c4, _⟩ := h.r.cells hx
  obtain ⟨p1, _, _, _, _⟩ := h.p.cells
  obtain ⟨d1, _⟩ := box_cell h.x1
  obtain ⟨d2, _⟩ := box_cell h.x2
  have HN := show Hid _ from declared_any x.kind W
  have hbM : Below W.heap.size W (W.alloc (.cells #[.int .i64 0, .int .i64 0, .int .i64 0] 75)) := (Below.refl _ W).alloc (Nat.le_refl _) _
  have hmD : (Instr.lookup 52 (.map (some kb)) (.string x.name) true).run Try.prog W.drew = .ok (.tuple #[(f x.name).getD (mv 0 0 0), .bool (f x.name).isSome]) W.drew := (h.k.same (w' := W.drew) rfl).lookOk kmap_law (k := x.name) hs
  have hmA : (Instr.lookup 52 (.map (some kb)) (.string x.name) true).run Try.prog (W.alloc (.cells #[.int .i64 0, .int .i64 0, .int .i64 0] 75)).drew = .ok (.tuple #[(f x.name).getD (mv 0 0 0), .bool (f x.name).isSome]) (W.alloc (.cells #[.int .i64 0, .int .i64 0, .int .i64 0] 75)).drew := (h.k.same (w' := (W.alloc (.cells #[.int .i64 0, .int .i64 0, .int .i64 0] 75)).drew) (hbM.block kb h.k.lt)).lookOk kmap_law (k := x.name) hs
  have ca : ∀ {b i : Nat} {v : Value}, W.cell? ⟨b, i, none⟩ = some v → (W.alloc (.cells #[.int .i64 0, .int .i64 0, .int .i64 0] 75)).cell? ⟨b, i, none⟩ = some v := fun {b i v} hv => (World.cell?_of_block (a := ⟨b, i, none⟩) (hbM.block b (World.block_lt_of_cell? W _ hv))).trans hv
  have ca2 := ca d2
  have ca3 := ca c1
  clear h hx hl hs hat hbM ca
  generalize hz : decl x.kind = z at *
  clear hz
  by_cases hz0 : z = 0
  · have hz0' : ((z : Int) == 0) = true := by simp [hz0]
    rw [if_pos hz0]
    clear hz0 hno hf
    go_enter Try.func36, Try.ntmps36
    go_wp2_with fail
    refine Calls.mono HN.out ?_
    rintro e w1 ⟨rfl, rfl⟩
    go_wp2
    go_ret
    exact ⟨rfl, Below.refl _ _⟩
  · have hz0' : ((z : Int) == 0) = false := by simp; omega
    rw [if_neg hz0]
    obtain ⟨v, hv⟩ := Option.isSome_iff_exists.1 (hno.resolve_left hz0)
    obtain ⟨k, m, p, rfl⟩ := hf v hv
    rw [hv] at hmD hmA
    simp only [Option.getD_some, Option.isSome_some] at hmD hmA
    have HV : Hid (Below W.heap.size W (W.alloc (.cells #[.int .i64 (k : Int), .int .i64 (m : Int), .int .i64 (p : Int)] 75)).drew) := ((Below.refl _ W).alloc (Nat.le_refl _) _).drew
    clear hno hz0 hv hf
    go_enter Try.func36, Try.ntmps36
    go_wp2_with fail
    refine Calls.mono HN.out ?_
    rintro e w1 ⟨rfl, rfl⟩
    go_wp2_with fail
    go_region
    all_goals
      go_wp2
      go_ret
      exact ⟨rfl, HV.out⟩
end Go.Proofs.Ytjbpbgdhooggeaa.Nm
namespace Go.Proofs.Ytjbpbgdhooggeaa.Nm
open Go.RowKit Go.Maps Go.Proofs.Ytjbpbgdhooggeaa.Sp Go.Proofs.Ytjbpbgdhooggeaa.Lx Go.Proofs.Ytjbpbgdhooggeaa.Gr

theorem bel_drewN (w : World) (n : Nat) : Below w.heap.size w (w.drewN n) := below_drewN w n
set_option maxHeartbeats 6400000 in
set_option maxRecDepth 100000 in
/-- one more than may be -/
theorem declaring_many {W : World} {b1 b2 b3 pb base rb kb cb cap at_ nk nc z : Nat} {nm : ByteArray} {on miss qv vv tv uv : Value} {qs : List (ByteArray × Bool)} {vs ts : List ByteArray} {us : List Nat} {l : List Rz} {x : Rz} {f : ByteArray → Option Value} {c : Nat → Option Value}
    (h : Dec W b1 b2 b3 pb base rb kb cb cap nm on miss qv vv tv uv qs vs ts us l f nk c nc) (hx : l[at_]? = some x) (hl : l.length ≤ 2932031007317) (hs : x.name.size ≤ maxLen) (hf : f x.name = none) (hz : decl x.kind = z) (hz0 : z ≠ 0) (hc : (c z).getD (.int .i64 0) = .int .i64 (mst z : Nat)) :
    Calls Try.prog 36 #[.int .i64 (at_ : Int), .pointer (some ⟨b1, 0, none⟩), .pointer (some ⟨b2, 0, none⟩), .pointer (some ⟨b3, 0, none⟩)] W fun e w' => e = .returned (.int .i64 3) ∧ Below W.heap.size W w' := by
  have hat : at_ < l.length := (List.getElem?_eq_some_iff.1 hx).1
  have h3 : (at_ : Int) < (l.length : Int) := by omega
  have h4 : (at_ : Int) ≤ 2932031007317 := by omega
  obtain ⟨c0, c1, c2, c3, c4, _⟩ := h.r.cells hx
  obtain ⟨p1, _, _, _, _⟩ := h.p.cells
  obtain ⟨d1, _⟩ := box_cell h.x1
  obtain ⟨d2, _⟩ := box_cell h.x2
  obtain ⟨d3, _⟩ := box_cell h.x3
  have HN := show Hid _ from declared_any x.kind W
  have hz4 : z ≤ 4 := hz ▸ decl_le x.kind
  have hbM : Below W.heap.size W (W.alloc (.cells #[.int .i64 0, .int .i64 0, .int .i64 0] 75)) := (Below.refl _ W).alloc (Nat.le_refl _) _
  have hmD : (Instr.lookup 52 (.map (some kb)) (.string x.name) true).run Try.prog W.drew = .ok (.tuple #[(f x.name).getD (mv 0 0 0), .bool (f x.name).isSome]) W.drew := (h.k.same (w' := W.drew) rfl).lookOk kmap_law (k := x.name) hs
  have hmA : (Instr.lookup 52 (.map (some kb)) (.string x.name) true).run Try.prog (W.alloc (.cells #[.int .i64 0, .int .i64 0, .int .i64 0] 75)).drew = .ok (.tuple #[(f x.name).getD (mv 0 0 0), .bool (f x.name).isSome]) (W.alloc (.cells #[.int .i64 0, .int .i64 0, .int .i64 0] 75)).drew := (h.k.same (w' := (W.alloc (.cells #[.int .i64 0, .int .i64 0, .int .i64 0] 75)).drew) (hbM.block kb h.k.lt)).lookOk kmap_law (k := x.name) hs
  rw [hf] at hmD hmA
  simp only [Option.getD_none, Option.isSome_none] at hmD hmA
  have ca : ∀ {b i : Nat} {v : Value}, W.cell? ⟨b, i, none⟩ = some v → (W.alloc (.cells #[.int .i64 0, .int .i64 0, .int .i64 0] 75)).cell? ⟨b, i, none⟩ = some v := fun {b i v} hv => (World.cell?_of_block (a := ⟨b, i, none⟩) (hbM.block b (World.block_lt_of_cell? W _ hv))).trans hv
  have ca2 := ca d2
  have ca3 := ca c1
  have HL : Hid (∀ j, (Instr.lookup 70 (.map (some cb)) (.int .i64 (z : Int)) false).run Try.prog ((W.alloc (.cells #[.int .i64 0, .int .i64 0, .int .i64 0] 75)).drew.drewN j) = .ok (.int .i64 (mst z : Nat)) ((W.alloc (.cells #[.int .i64 0, .int .i64 0, .int .i64 0] 75)).drew.drewN j)) := fun j => by
    have hb := hbM.drew.trans ((bel_drewN (W.alloc (.cells #[.int .i64 0, .int .i64 0, .int .i64 0] 75)).drew j).mono hbM.drew.size)
    have := (h.c.same (hb.block cb h.c.lt)).look cmap_law (k := z) (show z ≤ 4 from hz4)
    have e : (c z).getD cmap.z = .int .i64 (mst z : Nat) := hc
    rw [e] at this
    exact this
  have HV : Hid (Below W.heap.size W (W.alloc (.cells #[.int .i64 0, .int .i64 0, .int .i64 0] 75)).drew) := hbM.drew
  have HD3 : Hid ((W.alloc (.cells #[.int .i64 0, .int .i64 0, .int .i64 0] 75)).drew.cell? ⟨b3, 0, none⟩ = some (.map (some cb))) := ca d3
  have HMo : Hid (∀ u, Calls Try.prog 38 #[.int .i64 (z : Int)] u fun e w' => e = .returned (.int .i64 (mst z : Nat)) ∧ w' = u) := fun u => most_any z hz4 u
  rw [hz] at HN
  have hz0' : ((z : Int) == 0) = false := by simp; omega
  clear h hx hl hs hat hbM ca hf hz hz0 hc hz4
  generalize mst z = mz at *
  go_enter Try.func36, Try.ntmps36
  go_wp2_with fail
  refine Calls.mono HN.out ?_
  rintro e w1 ⟨rfl, rfl⟩
  go_wp2_with fail
  go_region
  all_goals
    generalize (w1.alloc (.cells #[.int .i64 0, .int .i64 0, .int .i64 0] 75)).drew = w5 at *
    have e3 := HD3.out
    have hlk := HL.out
    clear HL HD3 hmD hmA ca2 ca3
    go_wp2_with fail
    go_quiet ((go_at_call 38; exact Calls.quiet_of_same (HMo.out _)))
    have HV2 : Hid (Below w1.heap.size w1 (w5.drewN nq)) := HV.out.trans ((bel_drewN w5 nq).mono HV.out.size)
    generalize w5.drewN nq = w6 at *
    have hmm : ((mz : Int) == (mz : Int)) = true := by simp
    clear hlk
    go_wp2
    go_ret
    exact ⟨rfl, HV2.out⟩
end Go.Proofs.Ytjbpbgdhooggeaa.Nm
namespace Go.Proofs.Ytjbpbgdhooggeaa.Nm
open Go.RowKit Go.Maps Go.Proofs.Ytjbpbgdhooggeaa.Sp Go.Proofs.Ytjbpbgdhooggeaa.Lx Go.Proofs.Ytjbpbgdhooggeaa.Gr

section
variable {W W' : World} {b1 b2 b3 pb base rb kb cb cap at_ nk nc g : Nat} {nm : ByteArray} {on miss qv vv tv uv rows : Value} {qs : List (ByteArray × Bool)} {vs ts : List ByteArray} {us : List Nat} {l : List Rz} {x : Rz} {f : ByteArray → Option Value} {c : Nat → Option Value}
theorem Pol.kept (h : Pol W pb base nm rows on miss qv vv tv uv qs vs ts us) (hF : Fr [g] W W') (hg : g < base) (hne : g ≠ pb) : Pol W' pb base nm rows on miss qv vv tv uv qs vs ts us := by
  have hb : ∀ k, k < W.heap.size → k ≠ g → W'.heap[k]? = W.heap[k]? := fun k hk hn => hF.block k hk (by simpa using hn)
  have ho : ∀ {T : TypeId} {s n : Nat} {v : Value} {xs : List Value}, W.ownsRow base T s v n xs → W'.ownsRow base T s v n xs := fun h1 => own_keepB h1 (fun k hk => hb k (World.ownsRow.lt h1 k hk).2 (by have := (World.ownsRow.lt h1 k hk).1; omega))
  exact ⟨(hb pb (Array.getElem?_eq_some_iff.1 h.blk).1 (Ne.symm hne)).trans h.blk, ho h.oq, ho h.ov, ho h.ot, ho h.ou, h.ne, h.lt, Nat.le_trans h.sz hF.size⟩
theorem Dec.below (h : Dec W b1 b2 b3 pb base rb kb cb cap nm on miss qv vv tv uv qs vs ts us l f nk c nc) (hb : Below W.heap.size W W') : Dec W' b1 b2 b3 pb base rb kb cb cap nm on miss qv vv tv uv qs vs ts us l f nk c nc :=
  ⟨h.p.below hb, h.r.same (hb.block rb h.r.lt), (hb.block b1 (Array.getElem?_eq_some_iff.1 h.x1).1).trans h.x1, (hb.block b2 (Array.getElem?_eq_some_iff.1 h.x2).1).trans h.x2, (hb.block b3 (Array.getElem?_eq_some_iff.1 h.x3).1).trans h.x3, h.k.same (hb.block kb h.k.lt), h.c.same (hb.block cb h.c.lt)⟩
theorem ne_types {w : World} {a b : Nat} {d e : Array Value} {T T' : TypeId} {i j : Nat × Nat} (h : w.heap[a]? = some (.cells d T i)) (h' : w.heap[b]? = some (.cells e T' j)) (hT : T ≠ T') : a ≠ b := by
  rintro rfl
  rw [h] at h'
  cases h'
  exact hT rfl
/-- a row's number is written -/
theorem Dec.setN (h : Dec W b1 b2 b3 pb base rb kb cb cap nm on miss qv vv tv uv qs vs ts us l f nk c nc) (hx : l[at_]? = some x) (hrb : rb < base) (n : Int) : Dec (W.setCell ⟨rb, at_ * 5 + 3, none⟩ (.int .i64 n)) b1 b2 b3 pb base rb kb cb cap nm on miss qv vv tv uv qs vs ts us (l.set at_ { x with n := n }) f nk c nc := by
  have hr := h.r
  obtain ⟨cs, hc, _⟩ := h.r
  have hb : ∀ k, k ≠ rb → (W.setCell ⟨rb, at_ * 5 + 3, none⟩ (.int .i64 n)).heap[k]? = W.heap[k]? := fun k hn => Below.heap_setCell W _ _ k (fun e => hn e)
  have hfr : Fr [rb] W (W.setCell ⟨rb, at_ * 5 + 3, none⟩ (.int .i64 n)) := Fr.set W (at_ * 5 + 3) (.int .i64 n) (List.mem_singleton.2 rfl)
  have hp := h.p.kept hfr hrb (ne_types hc h.p.blk (by decide))
  refine ⟨by rw [List.length_set]; exact hp, hr.setN hx n, (hb b1 (ne_types h.x1 hc (by decide))).trans h.x1, (hb b2 (ne_types h.x2 hc (by decide))).trans h.x2, (hb b3 (ne_types h.x3 hc (by decide))).trans h.x3, h.k.same (hb kb (Ne.symm (h.k.ne_cells hc))), h.c.same (hb cb (Ne.symm (h.c.ne_cells hc)))⟩
/-- counts is written -/
theorem Dec.cput {c' : Nat → Option Value} {nc' : Nat} (h : Dec W b1 b2 b3 pb base rb kb cb cap nm on miss qv vv tv uv qs vs ts us l f nk c nc) (hcb : cb < base) (hkc : kb ≠ cb) (hg : W.grownBy W' (some cb)) (hm : IsMp cmap W' cb c' nc') : Dec W' b1 b2 b3 pb base rb kb cb cap nm on miss qv vv tv uv qs vs ts us l f nk c' nc' := by
  have hr := h.r
  obtain ⟨cs, hc, _⟩ := h.r
  have hF := Fr.grown hg
  have hb : ∀ k, k < W.heap.size → k ≠ cb → W'.heap[k]? = W.heap[k]? := fun k hk hn => hF.block k hk (by simpa using hn)
  have hlt : ∀ {k : Nat} {o : Obj}, W.heap[k]? = some o → k < W.heap.size := fun h => (Array.getElem?_eq_some_iff.1 h).1
  exact ⟨h.p.kept hF hcb (Ne.symm (h.c.ne_cells h.p.blk)), hr.same (hb rb hr.lt (h.c.ne_cells hc)), (hb b1 (hlt h.x1) (h.c.ne_cells h.x1)).trans h.x1, (hb b2 (hlt h.x2) (h.c.ne_cells h.x2)).trans h.x2, (hb b3 (hlt h.x3) (h.c.ne_cells h.x3)).trans h.x3, h.k.same (hb kb h.k.lt hkc), hm⟩
/-- known is written -/
theorem Dec.kput {f' : ByteArray → Option Value} {nk' : Nat} (h : Dec W b1 b2 b3 pb base rb kb cb cap nm on miss qv vv tv uv qs vs ts us l f nk c nc) (hkb : kb < base) (hkc : kb ≠ cb) (hg : W.grownBy W' (some kb)) (hm : IsMp kmap W' kb f' nk') : Dec W' b1 b2 b3 pb base rb kb cb cap nm on miss qv vv tv uv qs vs ts us l f' nk' c nc := by
  have hr := h.r
  obtain ⟨cs, hc, _⟩ := h.r
  have hF := Fr.grown hg
  have hb : ∀ k, k < W.heap.size → k ≠ kb → W'.heap[k]? = W.heap[k]? := fun k hk hn => hF.block k hk (by simpa using hn)
  have hlt : ∀ {k : Nat} {o : Obj}, W.heap[k]? = some o → k < W.heap.size := fun h => (Array.getElem?_eq_some_iff.1 h).1
  exact ⟨h.p.kept hF hkb (Ne.symm (h.k.ne_cells h.p.blk)), hr.same (hb rb hr.lt (h.k.ne_cells hc)), (hb b1 (hlt h.x1) (h.k.ne_cells h.x1)).trans h.x1, (hb b2 (hlt h.x2) (h.k.ne_cells h.x2)).trans h.x2, (hb b3 (hlt h.x3) (h.k.ne_cells h.x3)).trans h.x3, hm, h.c.same (hb cb h.c.lt (Ne.symm hkc))⟩
end
end Go.Proofs.Ytjbpbgdhooggeaa.Nm

namespace Go.Proofs.Ytjbpbgdhooggeaa.Lx
open Go.RowKit Go.Proofs.Ytjbpbgdhooggeaa.Sp

section
variable {P : Program} {ops : Array Oper} {md : Region.Mode} {C : World → Prop}

/-- the first operations, quiet in a class of worlds, in whatever order; then what the frame and the list must keep -/
def wpHead (P : Program) (md : Region.Mode) (ops : Array Oper) (C : World → Prop) (n : Nat) (L : Array Bool → Act → Prop) : Nat → Array Bool → Act → Prop
  | 0, listed, a => L listed a
  | f + 1, listed, a => Region.ready md ops listed ≠ [] ∧ ∀ i ∈ Region.ready md ops listed, i < n ∧ qOp P ops C i (wpHead P md ops C n L f (listed.setIfInBounds i true)) a

theorem wpAny_of_wpHead {n g : Nat} {L : Array Bool → Act → Prop} {Q' : Exit → Act → World → Prop} (hL : ∀ listed a w, C w → L listed a → wpAny P md ops Q' g listed a w) :
    ∀ (f : Nat) (listed : Array Bool) (a : Act) (w : World), C w → wpHead P md ops C n L f listed a → wpAny P md ops Q' (f + g) listed a w := by
  intro f
  induction f with
  | zero => intro listed a w hw h; rw [Nat.zero_add]; exact hL _ _ _ hw h
  | succ f ih =>
    intro listed a w hw h
    rw [show f + 1 + g = (f + g) + 1 by omega]
    exact ⟨fun h0 => absurd h0 h.1, fun i hi => wpOp_of_qOp hw (fun a' w' hw' h' => ih _ a' w' hw' h') (h.2 i hi).2⟩

theorem wpHead_first {n i : Nat} {oi : Oper} {v : Value} {L : Array Bool → Act → Prop} (hi : ops[i]? = some oi) (hsel : ∀ (j : Nat) (o : Oper) cs b, ops[j]? = some o → o.op ≠ .select cs b)
    (hs : Region.sinkB md ops n = true) (hc : Region.chainB md ops n = true) (hn : n < ops.size) (hin : i < n)
    (hdone : ∀ listed a, L listed a → ∀ j ∈ Region.ready md ops listed, n ≤ j) :
    ∀ (f : Nat) (listed : Array Bool) (a : Act), HeadInv md ops n listed →
      (∀ j oj, ops[j]? = some oj → j ≠ i → listed.getD j true = false → (∀ e ∈ oj.after, Region.binds md e = true → e.on ≠ i) → oi.apart ops oj = true) →
      i ∈ Region.ready md ops listed → YieldsIn P ops C oi v a →
      wpHead P md ops C n L f (listed.setIfInBounds i true) (a.put oi.dst v) → wpHead P md ops C n L (f + 1) listed a := by
  intro f
  induction f with
  | zero =>
    intro listed a inv _ hr hy H
    have hun := (mem_ready.1 hr).1
    refine ⟨List.ne_nil_of_mem hr, fun j hj => ?_⟩
    have hjn : j < n := Nat.lt_of_not_le fun h => tail_waits hs hc hn inv _ i rfl hin hun j h hj
    refine ⟨hjn, ?_⟩
    by_cases hji : j = i
    · subst hji; exact hy.qOp hi H
    · exact absurd (hdone _ _ H j (ready_mono hj hji)) (by omega)
  | succ f ih =>
    intro listed a inv hfree hr hy H
    have hun := (mem_ready.1 hr).1
    refine ⟨List.ne_nil_of_mem hr, fun j hj => ?_⟩
    have hjn : j < n := Nat.lt_of_not_le fun h => tail_waits hs hc hn inv _ i rfl hin hun j h hj
    refine ⟨hjn, ?_⟩
    by_cases hji : j = i
    · subst hji; exact hy.qOp hi H
    · have h1 := (H.2 j (ready_mono hj hji)).2
      obtain ⟨hjun, oj, hoj, hall⟩ := mem_ready.1 hj
      have hnot : ∀ e ∈ oj.after, Region.binds md e = true → e.on ≠ i := fun e he hb heq => by
        have h5 := hall e he hb
        rw [heq, getD_both hun] at h5
        cases h5
      have h2 := qOp_put hoj (hfree j oj hoj hji hjun hnot) (fun cs b => hsel i oi cs b hi) (fun cs b => hsel j oj cs b hoj) hy h1
      refine qOp_mono (fun a' h3 => ih (listed.setIfInBounds j true) a' (inv.set hj hjn) (fun k ok hk hki hk2 hno => hfree k ok hk hki ?_ hno) (ready_mono hr (Ne.symm hji)) h3.1 ?_) h2
      · by_cases hjk : j = k
        · subst hjk; exact hjun
        · rw [getD_set_ne true hjk] at hk2; exact hk2
      · rw [Array.setIfInBounds_comm _ _ hji]
        exact h3.2

theorem wpHead_lex {n g : Nat} {Lq : Act → Prop} (hsel : Region.noSelect ops = true) (hs : Region.sinkB md ops n = true) (hc : Region.chainB md ops n = true) (hn : n < ops.size) :
    ∀ (l : List Oper) (k : Nat) (listed : Array Bool) (a : Act), (∀ j, j < l.length → l[j]? = ops[k + j]?) → k + l.length = n → HeadInv md ops n listed →
    Region.lexHead md ops g l.length k listed = true → wpQuiet P ops C Lq l a →
    wpHead P md ops C n (fun listed' a' => Region.seqB md ops g n listed' = true ∧ Lq a') l.length listed a := by
  intro l
  induction l with
  | nil =>
    intro k listed a _ hk _ hB h
    obtain rfl : k = n := by simpa using hk
    exact ⟨by simpa [Region.lexHead] using hB, h⟩
  | cons o l ih =>
    intro k listed a hl hk inv hB h
    have h0 : ops[k]? = some o := by simpa using (hl 0 (by simp)).symm
    simp only [List.length_cons, Region.lexHead, Bool.and_eq_true] at hB
    obtain ⟨⟨hr, hf⟩, hB'⟩ := hB
    have hkn : k < n := by simp only [List.length_cons] at hk; omega
    have hr' : k ∈ Region.ready md ops listed := by simpa using hr
    have hst : qOp P ops C k (wpQuiet P ops C Lq l) a := by unfold qOp; simp only [h0]; exact h
    obtain ⟨v, hy, hK⟩ := yieldsIn_of_qOp h0 hst
    refine wpHead_first h0 (Region.noSelect_spec hsel) hs hc hn hkn (fun listed' a' hL => seqB_ready hL.1) l.length listed a inv (Region.free_spec h0 hf) hr' hy ?_
    exact ih (k + 1) _ _ (fun j hj => by have := hl (j + 1) (by simp; omega); simpa [Nat.add_assoc, Nat.add_comm 1 j] using this) (by simp only [List.length_cons] at hk; omega) (inv.set hr' hkn) hB' hK

/-- a region that draws its order: n operations quiet in a class of worlds, then one chain, walked in every world of the class -/
theorem wp_region_quiet_tail {id : Nat} {Q : Exit → Act → World → Prop} {a : Act} {w : World} {l : List Oper} (n : Nat) (hm : P.follows .mixedOrders = true) (hB : Region.lexTailB .any l.toArray n = true) (hC : C { w with drawn := w.drawn + 1 })
    (h : wpQuiet P l.toArray C (fun a' => ∀ w', C w' → wpList P l.toArray Q (l.drop n) a' w') (l.take n) a) : (Code.region id l.toArray true).wp P Q a w := by
  simp only [Region.lexTailB, Bool.and_eq_true, decide_eq_true_eq] at hB
  obtain ⟨⟨⟨⟨hsel, hn⟩, hs⟩, hc⟩, hlex⟩ := hB
  have hn' : n < l.length := by simpa using hn
  have htl : (l.take n).length = n := by simp; omega
  have hdl : (l.drop n).length = l.toArray.size - n := by simp
  have inv0 : HeadInv .any l.toArray n (Array.replicate l.toArray.size false) :=
    ⟨by simp, fun j oj _ hl => (by rw [getD_replicate_false] at hl; cases hl), fun t _ ht => getD_in (by simpa using ht) (getD_replicate_false _ _)⟩
  have H := wpHead_lex (md := .any) (g := l.toArray.size - n) hsel hs hc hn (l.take n) 0 _ a (fun j hj => by
    have hj' : j < n := by rw [htl] at hj; exact hj
    simp [hj']) (by simpa using htl) inv0 (by rw [htl]; exact hlex) h
  refine wp_region_any hm ?_
  have := wpAny_of_wpHead (Q' := Q) (g := l.toArray.size - n) (fun listed a' w' hw' hL => by
    have := wpAny_of_seq (md := .any) (Q' := Q) (l.drop n) n listed a' w' (fun j => by simp [List.getElem?_drop]) (by rw [hdl]; exact hL.1) (hL.2 w' hw')
    rwa [hdl] at this) _ _ _ { w with drawn := w.drawn + 1 } hC H
  rw [htl, show n + (l.toArray.size - n) = l.toArray.size by omega] at this
  exact this
end
end Go.Proofs.Ytjbpbgdhooggeaa.Lx

namespace Go.Proofs.Ytjbpbgdhooggeaa.Nm
open Go.RowKit Go.Maps Go.Proofs.Ytjbpbgdhooggeaa.Sp Go.Proofs.Ytjbpbgdhooggeaa.Lx Go.Proofs.Ytjbpbgdhooggeaa.Gr

set_option maxHeartbeats 12800000 in
set_option maxRecDepth 100000 in
/-- a thing that is new -/
theorem declaring_new {W : World} {b1 b2 b3 pb base rb kb cb cap at_ nk nc nc' z cnt : Nat} {nm : ByteArray} {on miss qv vv tv uv : Value} {qs : List (ByteArray × Bool)} {vs ts : List ByteArray} {us : List Nat} {l : List Rz} {x : Rz} {f : ByteArray → Option Value} {c : Nat → Option Value} {P2 : World → Prop}
    (h : Dec W b1 b2 b3 pb base rb kb cb cap nm on miss qv vv tv uv qs vs ts us l f nk c nc) (hx : l[at_]? = some x) (hl : l.length ≤ 2932031007317) (hs : x.name.size ≤ maxLen) (hf : f x.name = none) (hz : decl x.kind = z) (hz0 : z ≠ 0) (hc : (c z).getD (.int .i64 0) = .int .i64 (cnt : Nat)) (hlt : cnt < mst z) (hm64 : mst z ≤ 64)
    (hrb : rb < base) (hkb : kb < base) (hcb : cb < base) (hkc : kb ≠ cb) (hT : TreeZ (l.set at_ { x with n := (cnt : Int) })) (hnk : nk ≤ 1000) (hnc : nc ≤ 1000) (hnc' : (if (c z).isSome then nc else nc + 1) = nc')
    (hen : ∀ u, Pol u pb base nm (.slice (some ⟨rb, 0, none⟩) (l.set at_ { x with n := (cnt : Int) }).length cap) on miss qv vv tv uv qs vs ts us → Rw u rb (l.set at_ { x with n := (cnt : Int) }) → Calls Try.prog 39 #[.pointer (some ⟨pb, 0, none⟩), .int .i64 (at_ : Int)] u fun e w' => e = .returned (.tuple #[]) ∧ P2 w' ∧ Fb [pb] base u w') :
    Calls Try.prog 36 #[.int .i64 (at_ : Int), .pointer (some ⟨b1, 0, none⟩), .pointer (some ⟨b2, 0, none⟩), .pointer (some ⟨b3, 0, none⟩)] W fun e w' => e = .returned (.int .i64 0) ∧ P2 w' ∧
      ∃ u, Fb [pb] base u w' ∧ Dec u b1 b2 b3 pb base rb kb cb cap nm on miss qv vv tv uv qs vs ts us (l.set at_ { x with n := (cnt : Int) }) (upd f x.name (some (mv z cnt (endp (l.set at_ { x with n := (cnt : Int) }) at_)))) (nk + 1) (upd c z (some (.int .i64 ((cnt : Int) + 1)))) nc' ∧ Fb [rb, kb, cb] base W u := by
  have hat : at_ < l.length := (List.getElem?_eq_some_iff.1 hx).1
  have h3 : (at_ : Int) < (l.length : Int) := by omega
  have h4 : (at_ : Int) ≤ 2932031007317 := by omega
  obtain ⟨c0, c1, c2, c3, c4, _⟩ := h.r.cells hx
  obtain ⟨p1, _, _, _, _⟩ := h.p.cells
  obtain ⟨d1, _⟩ := box_cell h.x1
  obtain ⟨d2, _⟩ := box_cell h.x2
  obtain ⟨d3, _⟩ := box_cell h.x3
  have HN := show Hid _ from declared_any x.kind W
  have hz4 : z ≤ 4 := hz ▸ decl_le x.kind
  have hbM : Below W.heap.size W (W.alloc (.cells #[.int .i64 0, .int .i64 0, .int .i64 0] 75)) := (Below.refl _ W).alloc (Nat.le_refl _) _
  have hmD : (Instr.lookup 52 (.map (some kb)) (.string x.name) true).run Try.prog W.drew = .ok (.tuple #[(f x.name).getD (mv 0 0 0), .bool (f x.name).isSome]) W.drew := (h.k.same (w' := W.drew) rfl).lookOk kmap_law (k := x.name) hs
  have hmA : (Instr.lookup 52 (.map (some kb)) (.string x.name) true).run Try.prog (W.alloc (.cells #[.int .i64 0, .int .i64 0, .int .i64 0] 75)).drew = .ok (.tuple #[(f x.name).getD (mv 0 0 0), .bool (f x.name).isSome]) (W.alloc (.cells #[.int .i64 0, .int .i64 0, .int .i64 0] 75)).drew := (h.k.same (w' := (W.alloc (.cells #[.int .i64 0, .int .i64 0, .int .i64 0] 75)).drew) (hbM.block kb h.k.lt)).lookOk kmap_law (k := x.name) hs
  rw [hf] at hmD hmA
  simp only [Option.getD_none, Option.isSome_none] at hmD hmA
  have ca : ∀ {b i : Nat} {v : Value}, W.cell? ⟨b, i, none⟩ = some v → (W.alloc (.cells #[.int .i64 0, .int .i64 0, .int .i64 0] 75)).cell? ⟨b, i, none⟩ = some v := fun {b i v} hv => (World.cell?_of_block (a := ⟨b, i, none⟩) (hbM.block b (World.block_lt_of_cell? W _ hv))).trans hv
  have ca2 := ca d2
  have ca3 := ca c1
  have HL : Hid (∀ j, (Instr.lookup 70 (.map (some cb)) (.int .i64 (z : Int)) false).run Try.prog ((W.alloc (.cells #[.int .i64 0, .int .i64 0, .int .i64 0] 75)).drew.drewN j) = .ok (.int .i64 (cnt : Int)) ((W.alloc (.cells #[.int .i64 0, .int .i64 0, .int .i64 0] 75)).drew.drewN j)) := fun j => by
    have hb := hbM.drew.trans ((bel_drewN (W.alloc (.cells #[.int .i64 0, .int .i64 0, .int .i64 0] 75)).drew j).mono hbM.drew.size)
    have := (h.c.same (hb.block cb h.c.lt)).look cmap_law (k := z) (show z ≤ 4 from hz4)
    have e : (c z).getD cmap.z = .int .i64 (cnt : Int) := hc
    rw [e] at this
    exact this
  have HV : Hid (Below W.heap.size W (W.alloc (.cells #[.int .i64 0, .int .i64 0, .int .i64 0] 75)).drew) := hbM.drew
  have HD3 : Hid ((W.alloc (.cells #[.int .i64 0, .int .i64 0, .int .i64 0] 75)).drew.cell? ⟨b3, 0, none⟩ = some (.map (some cb))) := ca d3
  have HMo : Hid (∀ u, Calls Try.prog 38 #[.int .i64 (z : Int)] u fun e w' => e = .returned (.int .i64 (mst z : Nat)) ∧ w' = u) := fun u => most_any z hz4 u
  rw [hz] at HN
  have hz0' : ((z : Int) == 0) = false := by simp; omega
  have hne : ((cnt : Int) == (mst z : Int)) = false := by simp; omega
  have hcn : (cnt : Int) ≤ 64 := by omega
  have HA : Hid (Dec W b1 b2 b3 pb base rb kb cb cap nm on miss qv vv tv uv qs vs ts us l f nk c nc ∧ l[at_]? = some x ∧ l.length ≤ 2932031007317 ∧ x.name.size ≤ maxLen ∧ f x.name = none ∧ (c z).getD (.int .i64 0) = .int .i64 (cnt : Nat) ∧ z ≤ 4 ∧ nk ≤ 1000 ∧ nc ≤ 1000 ∧ rb < base ∧ kb < base ∧ cb < base ∧ kb ≠ cb ∧ at_ < l.length) := ⟨h, hx, hl, hs, hf, hc, hz4, hnk, hnc, hrb, hkb, hcb, hkc, hat⟩
  have HT := show Hid _ from hT
  have HNc := show Hid _ from hnc'
  have HEn := show Hid _ from hen
  have hz4' : (z : Int) ≤ 4 := by omega
  clear h hx hl hs hat hbM ca hf hz hz0 hc hz4 hlt hm64 hrb hkb hcb hkc hT hnk hnc hen hnc'
  generalize mst z = mz at *
  go_enter Try.func36, Try.ntmps36
  go_wp2_with fail
  refine Calls.mono HN.out ?_
  rintro e w1 ⟨rfl, rfl⟩
  go_wp2_with fail
  go_region
  all_goals
    generalize (w1.alloc (.cells #[.int .i64 0, .int .i64 0, .int .i64 0] 75)).drew = w5 at *
    have e3 := HD3.out
    have hlk := HL.out
    clear HL HD3 hmD hmA ca2 ca3
    go_wp2_with fail
    go_quiet ((go_at_call 38; exact Calls.quiet_of_same (HMo.out _)))
    have HV2 : Hid (Below w1.heap.size w1 (w5.drewN nq)) := HV.out.trans ((bel_drewN w5 nq).mono HV.out.size)
    generalize w5.drewN nq = w6 at *
    clear hlk e3
    have h6 := HA.out.1.below HV2.out
    obtain ⟨g1, _⟩ := box_cell h6.x3
    obtain ⟨_, _, _, g2, _, g3⟩ := h6.r.cells HA.out.2.1
    have g4 := g3 (at_ * 5 + 3)
    have hlk6 : (Instr.lookup 70 (.map (some cb)) (.int .i64 (z : Int)) false).run Try.prog w6 = .ok (.int .i64 (cnt : Int)) w6 := by
      have := h6.c.look cmap_law (k := z) (show z ≤ 4 from HA.out.2.2.2.2.2.2.1)
      have e : (c z).getD cmap.z = .int .i64 (cnt : Int) := HA.out.2.2.2.2.2.1
      rw [e] at this
      exact this
    have h7 := h6.setN HA.out.2.1 HA.out.2.2.2.2.2.2.2.2.2.1 (cnt : Int)
    have H7 := show Hid _ from h7
    have hfr7 : Fr [rb] w6 (w6.setCell ⟨rb, at_ * 5 + 3, none⟩ (.int .i64 (cnt : Int))) := Fr.set w6 (at_ * 5 + 3) (.int .i64 (cnt : Int)) (List.mem_singleton.2 rfl)
    have HF7 : Hid (Fb [rb, kb, cb] base w1 (w6.setCell ⟨rb, at_ * 5 + 3, none⟩ (.int .i64 (cnt : Int)))) := ⟨HV2.out.os, HV2.out.tape, HV2.out.output, by have := HV2.out.size; simpa [World.setCell] using this, fun k hk hn => (hfr7.block k (Nat.lt_of_lt_of_le hk h6.p.sz) (fun hm => hn (by simp at hm; simp [hm]))).trans (HV2.out.block k (Nat.lt_of_lt_of_le hk HA.out.1.p.sz))⟩
    clear h6 h7 hfr7 g3
    go_upto_region 11 with fail
    generalize w6.setCell ⟨rb, at_ * 5 + 3, none⟩ (.int .i64 (cnt : Int)) = w7 at *
    clear g1 g2 g4 hlk6
    obtain ⟨g1, _⟩ := box_cell H7.out.x3
    have hlk7 : (Instr.lookup 70 (.map (some cb)) (.int .i64 (z : Int)) false).run Try.prog w7 = .ok (.int .i64 (cnt : Int)) w7 := by
      have := H7.out.c.look cmap_law (k := z) (show z ≤ 4 from HA.out.2.2.2.2.2.2.1)
      have e : (c z).getD cmap.z = .int .i64 (cnt : Int) := HA.out.2.2.2.2.2.1
      rw [e] at this
      exact this
    obtain ⟨w8, hup8, hm8, hg8⟩ := H7.out.c.put cmap_law (k := z) (show z ≤ 4 from HA.out.2.2.2.2.2.2.1) (by have := HA.out.2.2.2.2.2.2.2.2.1; unfold maxLen; omega) (.int .i64 ((cnt : Int) + 1))
    have hup8' : (Instr.mapUpdate 70 (.map (some cb)) (.int .i64 (z : Int)) (.int .i64 ((cnt : Int) + 1))).run Try.prog w7 = .ok () w8 := hup8
    rw [HNc.out] at hm8
    have h8 := H7.out.cput HA.out.2.2.2.2.2.2.2.2.2.2.2.1 HA.out.2.2.2.2.2.2.2.2.2.2.2.2.1 hg8 hm8
    have H8 := show Hid _ from h8
    have HF8 : Hid (Fb [rb, kb, cb] base w1 w8) := HF7.out.trans ⟨hg8.os, hg8.tape, hg8.output, hg8.size, fun k hk hn => hg8.block k (Nat.lt_of_lt_of_le hk H7.out.p.sz) (fun e => hn (by cases e; simp))⟩
    clear hup8 hm8 hg8 h8
    go_upto_region 12 with fail
    clear g1 hlk7 hup8'
    have h8d : ∀ j, Dec (w8.drewN j) b1 b2 b3 pb base rb kb cb cap nm on miss qv vv tv uv qs vs ts us (l.set at_ { x with n := (cnt : Int) }) f nk (upd c z (some (.int .i64 ((cnt : Int) + 1)))) nc' := fun j => H8.out.below (bel_drewN w8 j)
    have H8d := show Hid _ from h8d
    obtain ⟨g2, _⟩ := box_cell H8.out.x2
    obtain ⟨g3, _⟩ := box_cell H8.out.x1
    obtain ⟨g4, _, _, _, _⟩ := H8.out.p.cells
    have hxs : (l.set at_ { x with n := (cnt : Int) })[at_]? = some { x with n := (cnt : Int) } := by rw [List.getElem?_set, if_pos rfl, if_pos HA.out.2.2.2.2.2.2.2.2.2.2.2.2.2]
    obtain ⟨_, g5, _, g6, _, _⟩ := H8.out.r.cells hxs
    dsimp only at g5 g6
    have HEd : Hid (∀ j, Calls Try.prog 30 #[.slice (some ⟨rb, 0, none⟩) l.length cap, .int .i64 (at_ : Int)] (w8.drewN j) fun e w' => e = .returned (.int .i64 (endp (l.set at_ { x with n := (cnt : Int) }) at_ : Nat)) ∧ w' = w8.drewN j) := fun j => by
      have := end_any (some ⟨rb, 0, none⟩) (l.set at_ { x with n := (cnt : Int) }) cap at_ (w8.drewN j) (H8d.out j).r.rz (by rw [List.length_set]; exact HA.out.2.2.1) HT.out (by rw [List.length_set]; exact HA.out.2.2.2.2.2.2.2.2.2.2.2.2.2)
      rw [List.length_set] at this
      exact this
    rw [List.length_set] at g4
    generalize hep : endp (l.set at_ { x with n := (cnt : Int) }) at_ = ep at *
    have HEp : Hid (endp (l.set at_ { x with n := (cnt : Int) }) at_ = ep) := hep
    clear h8d hxs hep
    refine wp_region_quiet_tail (C := fun w' => ∃ j, w' = w8.drewN j) 18 (by kernel_rfl) (by kernel_rfl) ⟨1, rfl⟩ ?_
    simp only [List.take_succ_cons, List.take_zero, List.drop_succ_cons, List.drop_zero]
    iterate 18 quiet_step ((go_at_call 30; exact Calls.quiet_of_same (HEd.out _)))
    refine wpQuiet_nil ?_
    rintro _ ⟨j, rfl⟩
    obtain ⟨w9, hup9, hm9, hg9⟩ := (H8d.out j).k.put kmap_law (k := x.name) HA.out.2.2.2.1 (by have := HA.out.2.2.2.2.2.2.2.1; unfold maxLen; omega) (mv z cnt ep)
    have hup9' : (Instr.mapUpdate 52 (.map (some kb)) (.string x.name) (.agg #[.int .i64 (z : Int), .int .i64 (cnt : Int), .int .i64 (ep : Int)])).run Try.prog (w8.drewN j) = .ok () w9 := hup9
    rw [HA.out.2.2.2.2.1] at hm9
    have hm9 : IsMp kmap w9 kb (upd f x.name (some (mv z cnt ep))) (nk + 1) := hm9
    have h9 := (H8d.out j).kput HA.out.2.2.2.2.2.2.2.2.2.2.1 HA.out.2.2.2.2.2.2.2.2.2.2.2.2.1 hg9 hm9
    have H9 := show Hid _ from h9
    have HF9 : Hid (Fb [rb, kb, cb] base w1 w9) := (HF8.out.trans (Fb.of_below ((bel_drewN w8 j).mono H8.out.p.sz))).trans ⟨hg9.os, hg9.tape, hg9.output, hg9.size, fun k hk hn => hg9.block k (Nat.lt_of_lt_of_le hk (H8d.out j).p.sz) (fun e => hn (by cases e; simp))⟩
    obtain ⟨g7, _⟩ := box_cell h9.x1
    have HE9 := show Hid _ from HEn.out w9 h9.p h9.r
    clear hup9 hm9 hg9 h9 HEd H8d HEn
    go_wp2_with fail
    refine Calls.mono HE9.out ?_
    rintro e w10 ⟨rfl, hP2, hF10⟩
    have H10 : Hid (P2 w10 ∧ Fb [pb] base w9 w10) := ⟨hP2, hF10⟩
    clear hP2 hF10 HE9 g7
    go_wp2
    go_ret
    exact ⟨rfl, H10.out.1, w9, H10.out.2, by rw [HEp.out]; exact H9.out, HF9.out⟩
end Go.Proofs.Ytjbpbgdhooggeaa.Nm

namespace Go.Proofs.Ytjbpbgdhooggeaa.Nm
open Go.RowKit Go.Maps Go.Proofs.Ytjbpbgdhooggeaa.Sp Go.Proofs.Ytjbpbgdhooggeaa.Lx Go.Proofs.Ytjbpbgdhooggeaa.Gr

/-- where what Resolve makes lies -/
structure Lay where
  b1 : Nat
  b2 : Nat
  b3 : Nat
  pb : Nat
  base : Nat
  rb : Nat
  kb : Nat
  cb : Nat
  cap : Nat
  r1 : Nat
  r2 : Nat
  h1 : Nat
  h2 : Nat
  mb : Nat
  ab : Nat
  at_ : TypeId
  nm : ByteArray
def Lay.box (o : Lay) : List Nat := [o.b1, o.b2, o.b3, o.r1, o.r2, o.h1, o.h2, o.ab]
def Lay.own (o : Lay) : List Nat := [o.pb, o.rb, o.kb, o.cb, o.mb]
structure Lay.Ok (o : Lay) : Prop where
  lt1 : ∀ k ∈ o.box, k + 1 < o.base
  lt2 : ∀ k ∈ o.own, k + 1 < o.base
  bx : ∀ k ∈ o.box, k ∉ o.own
  nd : o.own.Nodup
def kf (k : List (ByteArray × Nat × Nat × Nat)) : ByteArray → Option Value := fun s => (lk k s).map fun e => mv e.1 e.2.1 e.2.2
def ef (k : List ((Nat × Nat) × Nat)) : Nat × Nat → Option Value := fun s => (lk k s).map fun e : Nat => .int .i64 (e : Int)
theorem kf_cons (k : List (ByteArray × Nat × Nat × Nat)) (nm : ByteArray) (z c e : Nat) : upd (kf k) nm (some (mv z c e)) = kf ((nm, z, c, e) :: k) := by
  funext s
  unfold upd kf
  simp only [lk]
  split <;> rfl
theorem ef_cons (k : List ((Nat × Nat) × Nat)) (x : Nat × Nat) (e : Nat) : upd (ef k) x (some (.int .i64 (e : Int))) = ef ((x, e) :: k) := by
  funext s
  unfold upd ef
  simp only [lk]
  split <;> rfl
def askF (j : Nat) : Nat := if j = 0 then 36 else if j = 1 then 40 else 42
def ptr0 (b : Nat) : Value := .pointer (some ⟨b, 0, none⟩)
def askC (o : Lay) (j : Nat) : Array Value := if j = 0 then #[ptr0 o.b1, ptr0 o.b2, ptr0 o.b3] else if j = 1 then #[ptr0 o.r1, ptr0 o.r2] else #[ptr0 o.h1, ptr0 o.h2]
/-- what is captured, besides what declaring captures -/
structure Rest (W : World) (o : Lay) (n : Nat) (ev : List ((Nat × Nat) × Nat)) : Prop where
  x1 : W.heap[o.r1]? = some (.cells #[.slice (some ⟨o.rb, 0, none⟩) n o.cap] 22 (0, 0))
  x2 : W.heap[o.r2]? = some (.cells #[.map (some o.kb)] 52 (0, 0))
  x3 : W.heap[o.h1]? = some (.cells #[.slice (some ⟨o.rb, 0, none⟩) n o.cap] 22 (0, 0))
  x4 : W.heap[o.h2]? = some (.cells #[.map (some o.mb)] 53 (0, 0))
  e : IsMp bmap W o.mb (ef ev) ev.length
  a : W.heap[o.ab]? = some (.cells #[.func (.func (askF 0)) #[] (askC o 0), .func (.func (askF 1)) #[] (askC o 1), .func (.func (askF 2)) #[] (askC o 2)] o.at_ (0, 0))
structure Mem (W : World) (o : Lay) (s : Rs) (qv vv tv uv : Value) (c : Nat → Option Value) (nc : Nat) : Prop where
  d : Dec W o.b1 o.b2 o.b3 o.pb o.base o.rb o.kb o.cb o.cap o.nm (.slice none 0 0) (.int .i64 0) qv vv tv uv s.qs s.vs s.ts s.us s.rows (kf s.known) s.known.length c nc
  cz : ∀ z, (c z).getD (.int .i64 0) = .int .i64 (s.cnt z : Nat)
  nl : nc ≤ s.known.length
  r : Rest W o s.rows.length s.ev
section
variable {W W' : World} {o : Lay} {n : Nat} {ev : List ((Nat × Nat) × Nat)}
theorem Rest.keep (h : Rest W o n ev) (hb : ∀ k ∈ o.box, W'.heap[k]? = W.heap[k]?) (hm : W'.heap[o.mb]? = W.heap[o.mb]?) : Rest W' o n ev :=
  ⟨(hb _ (by simp [Lay.box])).trans h.x1, (hb _ (by simp [Lay.box])).trans h.x2, (hb _ (by simp [Lay.box])).trans h.x3, (hb _ (by simp [Lay.box])).trans h.x4, h.e.same hm, (hb _ (by simp [Lay.box])).trans h.a⟩
theorem Lay.Ok.keep (ho : o.Ok) {F : List Nat} (hF : ∀ k ∈ F, k ∈ o.own) (h : Fb F o.base W W') : ∀ k ∈ o.box, W'.heap[k]? = W.heap[k]? := fun k hk => h.block k (by have := ho.lt1 k hk; omega) (fun hm => ho.bx k hk (hF k hm))
theorem Fb.wide {F F' : List Nat} {n : Nat} (h : Fb F n W W') (hF : ∀ k ∈ F, k ∈ F') : Fb F' n W W' := ⟨h.os, h.tape, h.output, h.size, fun k hk hn => h.block k hk (fun hm => hn (hF k hm))⟩
end
section
variable {W W' : World} {o : Lay} {s : Rs} {qv vv tv uv : Value} {c : Nat → Option Value} {nc : Nat}
theorem Mem.below (h : Mem W o s qv vv tv uv c nc) (hb : Below W.heap.size W W') : Mem W' o s qv vv tv uv c nc := by
  have hl : ∀ {k : Nat} {x : Obj}, W.heap[k]? = some x → W'.heap[k]? = W.heap[k]? := fun hk => hb.block _ (Array.getElem?_eq_some_iff.1 hk).1
  refine ⟨h.d.below hb, h.cz, h.nl, ⟨(hl h.r.x1).trans h.r.x1, (hl h.r.x2).trans h.r.x2, (hl h.r.x3).trans h.r.x3, (hl h.r.x4).trans h.r.x4, h.r.e.same (hb.block _ h.r.e.lt), (hl h.r.a).trans h.r.a⟩⟩
end
theorem mst_le (z : Nat) : mst z ≤ 64 := by
  unfold mst
  repeat' split
  all_goals omega
theorem set_numb {l : List Rz} {i n : Nat} : l.set i { rat l i with n := (n : Int) } = numb l i n := rfl
/-- what declares is enlisted -/
theorem enlist_dec {u : World} {o : Lay} {s : Rs} {i : Nat} {qv vv tv uv : Value} (hi : i < s.rows.length) (hl : s.rows.length ≤ 2932031007317) (hd : decl (rat s.rows i).kind ≠ 0) (hq : s.qs.length ≤ 16) (hv : s.vs.length ≤ 16) (ht : s.ts.length ≤ 4) (hu : s.us.length ≤ 64)
    (h : Pol u o.pb o.base o.nm (.slice (some ⟨o.rb, 0, none⟩) (numb s.rows i (s.cnt (decl (rat s.rows i).kind))).length o.cap) (.slice none 0 0) (.int .i64 0) qv vv tv uv s.qs s.vs s.ts s.us) (hr : Rw u o.rb (numb s.rows i (s.cnt (decl (rat s.rows i).kind)))) :
    Calls Try.prog 39 #[.pointer (some ⟨o.pb, 0, none⟩), .int .i64 (i : Int)] u fun e w' => e = .returned (.tuple #[]) ∧
      (∃ qv' vv' tv' uv', Pol w' o.pb o.base o.nm (.slice (some ⟨o.rb, 0, none⟩) (s.dec i).rows.length o.cap) (.slice none 0 0) (.int .i64 0) qv' vv' tv' uv' (s.dec i).qs (s.dec i).vs (s.dec i).ts (s.dec i).us) ∧ Fb [o.pb] o.base u w' := by
  have hx : (numb s.rows i (s.cnt (decl (rat s.rows i).kind)))[i]? = some { rat s.rows i with n := (s.cnt (decl (rat s.rows i).kind) : Int) } := by simp [numb, hi]
  have hl2 : (numb s.rows i (s.cnt (decl (rat s.rows i).kind))).length ≤ 2932031007317 := by rw [numb_len]; exact hl
  rcases decl_cases (rat s.rows i).kind with ⟨e, ed⟩ | ⟨e, ed⟩ | ⟨e, ed⟩ | ⟨e, ed⟩ | ⟨e, ed⟩ | ⟨_, _, _, _, _, ed⟩
  · refine Calls.mono (enlist_queue h hr hx hl2 e (by omega)) ?_
    rintro r w' ⟨rfl, q, h1, h2⟩
    exact ⟨rfl, ⟨q, vv, tv, uv, by rw [show (s.dec i).qs = s.qs ++ [((rat s.rows i).name, false)] from if_pos e, show (s.dec i).vs = s.vs from if_neg (by omega), show (s.dec i).ts = s.ts from if_neg (by omega), show (s.dec i).us = s.us from if_neg (by omega)]; exact h1⟩, h2⟩
  · refine Calls.mono (enlist_ghost h hr hx hl2 e (by omega)) ?_
    rintro r w' ⟨rfl, q, h1, h2⟩
    exact ⟨rfl, ⟨q, vv, tv, uv, by rw [show (s.dec i).qs = s.qs ++ [((rat s.rows i).name, true)] from (if_neg (by omega)).trans (if_pos e), show (s.dec i).vs = s.vs from if_neg (by omega), show (s.dec i).ts = s.ts from if_neg (by omega), show (s.dec i).us = s.us from if_neg (by omega)]; exact h1⟩, h2⟩
  · refine Calls.mono (enlist_var h hr hx hl2 e (by omega)) ?_
    rintro r w' ⟨rfl, q, h1, h2⟩
    exact ⟨rfl, ⟨qv, q, tv, uv, by rw [show (s.dec i).qs = s.qs from (if_neg (by omega)).trans (if_neg (by omega)), show (s.dec i).vs = s.vs ++ [(rat s.rows i).name] from if_pos e, show (s.dec i).ts = s.ts from if_neg (by omega), show (s.dec i).us = s.us from if_neg (by omega)]; exact h1⟩, h2⟩
  · refine Calls.mono (enlist_tag h hr hx hl2 e (by omega)) ?_
    rintro r w' ⟨rfl, q, h1, h2⟩
    exact ⟨rfl, ⟨qv, vv, q, uv, by rw [show (s.dec i).qs = s.qs from (if_neg (by omega)).trans (if_neg (by omega)), show (s.dec i).vs = s.vs from if_neg (by omega), show (s.dec i).ts = s.ts ++ [(rat s.rows i).name] from if_pos e, show (s.dec i).us = s.us from if_neg (by omega)]; exact h1⟩, h2⟩
  · refine Calls.mono (enlist_rule h hr hx hl2 e (by omega)) ?_
    rintro r w' ⟨rfl, q, h1, h2⟩
    exact ⟨rfl, ⟨qv, vv, tv, q, by rw [show (s.dec i).qs = s.qs from (if_neg (by omega)).trans (if_neg (by omega)), show (s.dec i).vs = s.vs from if_neg (by omega), show (s.dec i).ts = s.ts from if_neg (by omega), show (s.dec i).us = s.us ++ [i + 1] from if_pos e]; exact h1⟩, h2⟩
  · exact absurd ed hd
/-- what an ask leaves -/
def Leaves (o : Lay) (l0 : List Rz) (m : Nat) (W : World) (r : Except Nat Rs) (e : Ending) (w' : World) : Prop :=
  Fb o.own o.base W w' ∧ match r with
    | .error c => 0 < c ∧ c ≤ 1000 ∧ e = .returned (.int .i64 (c : Int)) ∧ w'.heap[o.pb]? = W.heap[o.pb]?
    | .ok s' => e = .returned (.int .i64 0) ∧ ∃ qv vv tv uv c nc, Mem w' o s' qv vv tv uv c nc ∧ Good l0 m s'
theorem below_fb {W w' : World} {F : List Nat} {n : Nat} (h : Below W.heap.size W w') (hn : n ≤ W.heap.size) : Fb F n W w' := Fb.of_below (h.mono hn)
theorem step_D {W : World} {o : Lay} {l0 : List Rz} {s : Rs} {m i : Nat} {qv vv tv uv : Value} {c : Nat → Option Value} {nc : Nat} (hB : Base l0) (hl : l0.length ≤ 2932031007317) (ho : o.Ok) (h : Mem W o s qv vv tv uv c nc) (hg : Good l0 m s) (hi : i < l0.length) :
    Calls Try.prog 36 #[.int .i64 (i : Int), ptr0 o.b1, ptr0 o.b2, ptr0 o.b3] W (Leaves o l0 m W (askD i s)) := by
  have hlen := like_len hg.like
  have hx : s.rows[i]? = some (rat s.rows i) := some_rat (by omega)
  have hk := like_kind hg.like hi
  have hs : (rat s.rows i).name.size ≤ maxLen := by
    rw [hk.2.1]
    have := filled_name (hB.fill i hi)
    unfold maxLen
    omega
  have hl2 : s.rows.length ≤ 2932031007317 := by omega
  by_cases h0 : decl (rat s.rows i).kind = 0
  · have hA : askD i s = .ok s := by unfold askD; rw [if_pos h0]
    refine Calls.mono (declaring_no h.d hx hl2 hs (fun v hv => ?_) (Or.inl h0)) ?_
    · unfold kf at hv
      obtain ⟨e, _, rfl⟩ := Option.map_eq_some_iff.1 hv
      exact ⟨_, _, _, rfl⟩
    · rintro e w' ⟨rfl, hb⟩
      rw [hA]
      exact ⟨below_fb hb h.d.p.sz, by rw [if_pos h0], qv, vv, tv, uv, c, nc, h.below hb, hg⟩
  by_cases h1 : (lk s.known (rat s.rows i).name).isSome = true
  · have hA : askD i s = .error 31 := by unfold askD; rw [if_neg h0, if_pos h1]
    refine Calls.mono (declaring_no h.d hx hl2 hs (fun v hv => ?_) (Or.inr ?_)) ?_
    · unfold kf at hv
      obtain ⟨e, _, rfl⟩ := Option.map_eq_some_iff.1 hv
      exact ⟨_, _, _, rfl⟩
    · unfold kf
      rw [Option.isSome_map]
      exact h1
    · rintro e w' ⟨rfl, hb⟩
      rw [hA]
      exact ⟨below_fb hb h.d.p.sz, by decide, by decide, by rw [if_neg h0]; rfl, hb.block _ (Array.getElem?_eq_some_iff.1 h.d.p.blk).1⟩
  have hf : kf s.known (rat s.rows i).name = none := by
    unfold kf
    cases hq : lk s.known (rat s.rows i).name with
    | none => rfl
    | some v => rw [hq] at h1; exact absurd rfl h1
  have hc := h.cz (decl (rat s.rows i).kind)
  by_cases h2 : s.cnt (decl (rat s.rows i).kind) = mst (decl (rat s.rows i).kind)
  · have hA : askD i s = .error 3 := by unfold askD; rw [if_neg h0, if_neg h1, if_pos h2]
    rw [h2] at hc
    refine Calls.mono (declaring_many h.d hx hl2 hs hf rfl h0 hc) ?_
    rintro e w' ⟨rfl, hb⟩
    rw [hA]
    exact ⟨below_fb hb h.d.p.sz, by decide, by decide, rfl, hb.block _ (Array.getElem?_eq_some_iff.1 h.d.p.blk).1⟩
  have hA : askD i s = .ok (s.dec i) := by unfold askD; rw [if_neg h0, if_neg h1, if_neg h2]
  have hnd := ho.nd
  have h2own : ∀ k ∈ o.own, k < o.base := fun k hk => by have := ho.lt2 k hk; omega
  simp only [Lay.own, List.nodup_cons, List.mem_cons, List.not_mem_nil, or_false, not_or, List.nodup_nil, and_true, not_false_eq_true] at hnd
  have hkl := hg.kl
  have hq := hg.q
  have hv := hg.v
  have ht := hg.t
  have hu := hg.u
  have hG2 := good_D hB hi hg hA
  refine Calls.mono (declaring_new (nc' := if (c (decl (rat s.rows i).kind)).isSome then nc else nc + 1) (P2 := fun w' => ∃ qv' vv' tv' uv', Pol w' o.pb o.base o.nm (.slice (some ⟨o.rb, 0, none⟩) (s.dec i).rows.length o.cap) (.slice none 0 0) (.int .i64 0) qv' vv' tv' uv' (s.dec i).qs (s.dec i).vs (s.dec i).ts (s.dec i).us) h.d hx hl2 hs hf rfl h0 hc (by have := hg.cnt_le (decl (rat s.rows i).kind); omega) (mst_le _)
    (h2own _ (by simp [Lay.own])) (h2own _ (by simp [Lay.own])) (h2own _ (by simp [Lay.own])) (by omega) (like_tree ((numb_clr s.rows i (s.cnt (decl (rat s.rows i).kind))).trans hg.like) hB.tree) (by omega) (by have := h.nl; omega) rfl
    (fun u hp hr => enlist_dec (by omega) hl2 h0 hq hv ht hu hp hr)) ?_
  rintro e w' ⟨rfl, ⟨qv', vv', tv', uv', hP⟩, u, hF1, hD, hF2⟩
  have hF : Fb o.own o.base W w' := (hF2.wide (F' := o.own) (by simp [Lay.own])).trans (hF1.wide (by simp [Lay.own]))
  have hbx := ho.keep (fun _ hk => hk) hF
  have hb1 := ho.keep (F := [o.pb]) (by simp [Lay.own]) hF1
  have hblk : ∀ k, k < o.base → k ≠ o.pb → w'.heap[k]? = u.heap[k]? := fun k hk hn => hF1.block k hk (by simpa using hn)
  rw [hA]
  unfold Leaves
  dsimp only
  refine ⟨hF, rfl, qv', vv', tv', uv', upd c (decl (rat s.rows i).kind) (some (.int .i64 ((s.cnt (decl (rat s.rows i).kind) : Int) + 1))), (if (c (decl (rat s.rows i).kind)).isSome then nc else nc + 1), ⟨⟨hP, ?_, ?_, ?_, ?_, ?_, ?_⟩, ?_, ?_, ?_⟩, hG2⟩
  · exact hD.r.same (hblk _ (h2own _ (by simp [Lay.own])) (by omega))
  · exact (hb1 _ (by simp [Lay.box])).trans hD.x1
  · exact (hb1 _ (by simp [Lay.box])).trans hD.x2
  · exact (hb1 _ (by simp [Lay.box])).trans hD.x3
  · have := hD.k.same (hblk _ (h2own _ (by simp [Lay.own])) (by omega))
    rw [kf_cons] at this
    exact this
  · exact hD.c.same (hblk _ (h2own _ (by simp [Lay.own])) (by omega))
  · intro z
    have hz := h.cz z
    rw [cnt_dec s i z h0]
    by_cases e : z = decl (rat s.rows i).kind
    · subst e
      rw [upd_same, if_pos rfl]
      rfl
    · rw [upd_ne e, hz, if_neg e]
  · have := h.nl
    show _ ≤ (s.dec i).known.length
    have e : (s.dec i).known.length = s.known.length + 1 := rfl
    rw [e]
    split <;> omega
  · have e : (s.dec i).rows.length = s.rows.length := numb_len _ _ _
    rw [e]
    refine h.r.keep hbx ?_
    rw [hblk _ (h2own _ (by simp [Lay.own])) (by omega)]
    exact hF2.block _ (h2own _ (by simp [Lay.own])) (by simp; omega)
end Go.Proofs.Ytjbpbgdhooggeaa.Nm
namespace Go.Proofs.Ytjbpbgdhooggeaa.Nm
open Go.RowKit Go.Maps Go.Proofs.Ytjbpbgdhooggeaa.Sp Go.Proofs.Ytjbpbgdhooggeaa.Lx Go.Proofs.Ytjbpbgdhooggeaa.Gr

theorem Fr.fbw {F : List Nat} {n : Nat} {w w' : World} (h : Fr F w w') (hn : n ≤ w.heap.size) : Fb F n w w' := ⟨h.os, h.tape, h.output, h.size, fun k hk hk2 => h.block k (Nat.lt_of_lt_of_le hk hn) hk2⟩
theorem step_M {W : World} {o : Lay} {l0 : List Rz} {s : Rs} {m i : Nat} {qv vv tv uv : Value} {c : Nat → Option Value} {nc : Nat} (hB : Base l0) (hl : l0.length ≤ 2932031007317) (ho : o.Ok) (h : Mem W o s qv vv tv uv c nc) (hg : Good l0 m s) (hi : i < l0.length) :
    Calls Try.prog 40 #[.int .i64 (i : Int), ptr0 o.r1, ptr0 o.r2] W (Leaves o l0 m W (askM i s)) := by
  have hlen := like_len hg.like
  have hx : s.rows[i]? = some (rat s.rows i) := some_rat (by omega)
  have hk := like_kind hg.like hi
  have hs : (rat s.rows i).name.size ≤ maxLen := by
    rw [hk.2.1]
    have := filled_name (hB.fill i hi)
    unfold maxLen
    omega
  have hnd := ho.nd
  have h2own : ∀ k ∈ o.own, k < o.base := fun k hk => by have := ho.lt2 k hk; omega
  simp only [Lay.own, List.nodup_cons, List.mem_cons, List.not_mem_nil, or_false, not_or, List.nodup_nil, and_true, not_false_eq_true] at hnd
  have hmv : ∀ {k m p k' m' p' : Nat}, mv k m p = mv k' m' p' → k = k' ∧ m = m' ∧ p = p' := fun e => by
    simp only [Value.agg.injEq] at e
    have e := congrArg Array.toList e
    simp at e
    omega
  refine Calls.mono (naming_any h.d.r h.r.x1 h.r.x2 h.d.k hx (by omega) hs (fun v hv => ?_)) ?_
  · unfold kf at hv
    obtain ⟨e, he, rfl⟩ := Option.map_eq_some_iff.1 hv
    obtain ⟨a, b, c2⟩ := hg.kn _ (lk_mem he)
    have := hg.cnt_le e.1
    have := mst_le e.1
    exact ⟨_, _, _, rfl, b, by dsimp only at c2; omega⟩
  · rintro e w' (⟨h0, rfl, hb⟩ | ⟨h0, hf, rfl, hb⟩ | ⟨k, mm, p, h0, hf, hp, ⟨hne, rfl, hb⟩ | ⟨hke, rfl, hfr, hrw⟩⟩)
    · have hA : askM i s = .ok s := by unfold askM; rw [if_pos h0]
      rw [hA]
      exact ⟨below_fb hb h.d.p.sz, rfl, qv, vv, tv, uv, c, nc, h.below hb, hg⟩
    · have hA : askM i s = .error 32 := by
        unfold askM
        rw [if_neg h0]
        unfold kf at hf
        cases hq : lk s.known (rat s.rows i).name with
        | none => rfl
        | some v =>
          obtain ⟨a, b, d⟩ := v
          rw [hq] at hf
          rcases hf with hf | ⟨k, mm, p, hf, hp⟩
          · cases hf
          · obtain ⟨_, _, e3⟩ := hmv (Option.some.inj hf)
            dsimp only at e3 ⊢
            rw [if_pos (by omega)]
      rw [hA]
      exact ⟨below_fb hb h.d.p.sz, by decide, by decide, rfl, hb.block _ (Array.getElem?_eq_some_iff.1 h.d.p.blk).1⟩
    · have hA : askM i s = .error 33 := by
        unfold askM
        rw [if_neg h0]
        unfold kf at hf
        cases hq : lk s.known (rat s.rows i).name with
        | none => rw [hq] at hf; cases hf
        | some v =>
          obtain ⟨a, b, d⟩ := v
          rw [hq] at hf
          obtain ⟨e1, _, e3⟩ := hmv (Option.some.inj hf)
          dsimp only at e1 e3 ⊢
          rw [if_neg (by omega), if_pos (by omega)]
      rw [hA]
      exact ⟨below_fb hb h.d.p.sz, by decide, by decide, rfl, hb.block _ (Array.getElem?_eq_some_iff.1 h.d.p.blk).1⟩
    · have hA : askM i s = .ok { s with rows := numb s.rows i mm } := by
        unfold askM
        rw [if_neg h0]
        unfold kf at hf
        cases hq : lk s.known (rat s.rows i).name with
        | none => rw [hq] at hf; cases hf
        | some v =>
          obtain ⟨a, b, d⟩ := v
          rw [hq] at hf
          obtain ⟨e1, e2, e3⟩ := hmv (Option.some.inj hf)
          dsimp only at e1 e2 e3 ⊢
          rw [if_neg (by omega), if_neg (by omega), e2]
      have hF : Fb o.own o.base W w' := (Fr.fbw hfr h.d.p.sz).wide (by simp [Lay.own])
      have hbx := ho.keep (fun _ hk => hk) hF
      have hblk : ∀ k, k < o.base → k ≠ o.rb → w'.heap[k]? = W.heap[k]? := fun k hk hn => hfr.block k (Nat.lt_of_lt_of_le hk h.d.p.sz) (by simpa using hn)
      rw [hA]
      refine ⟨hF, rfl, qv, vv, tv, uv, c, nc, ⟨⟨?_, hrw, ?_, ?_, ?_, ?_, ?_⟩, h.cz, h.nl, ?_⟩, good_M hg hA⟩
      · show Pol w' o.pb o.base o.nm (.slice (some ⟨o.rb, 0, none⟩) (numb s.rows i mm).length o.cap) _ _ qv vv tv uv s.qs s.vs s.ts s.us
        rw [numb_len]
        exact h.d.p.kept hfr (h2own _ (by simp [Lay.own])) (by omega)
      · exact (hbx _ (by simp [Lay.box])).trans h.d.x1
      · exact (hbx _ (by simp [Lay.box])).trans h.d.x2
      · exact (hbx _ (by simp [Lay.box])).trans h.d.x3
      · exact h.d.k.same (hblk _ (h2own _ (by simp [Lay.own])) (by omega))
      · exact h.d.c.same (hblk _ (h2own _ (by simp [Lay.own])) (by omega))
      · show Rest w' o (numb s.rows i mm).length s.ev
        rw [numb_len]
        exact h.r.keep hbx (hblk _ (h2own _ (by simp [Lay.own])) (by omega))
theorem step_H {W : World} {o : Lay} {l0 : List Rz} {s : Rs} {m i : Nat} {qv vv tv uv : Value} {c : Nat → Option Value} {nc : Nat} (hl : l0.length ≤ 2932031007317) (ho : o.Ok) (h : Mem W o s qv vv tv uv c nc) (hg : Good l0 m s) (hm : m ≤ 9000000000000) (hi : i < l0.length) (hev : (evt (rat s.rows i)).1 = 1 → 0 ≤ (rat s.rows i).n ∧ (rat s.rows i).n ≤ 16) :
    Calls Try.prog 42 #[.int .i64 (i : Int), ptr0 o.h1, ptr0 o.h2] W (Leaves o l0 (m + 1) W (askH i s)) := by
  have hlen := like_len hg.like
  have hx : s.rows[i]? = some (rat s.rows i) := some_rat (by omega)
  have hnd := ho.nd
  have h2own : ∀ k ∈ o.own, k < o.base := fun k hk => by have := ho.lt2 k hk; omega
  simp only [Lay.own, List.nodup_cons, List.mem_cons, List.not_mem_nil, or_false, not_or, List.nodup_nil, and_true, not_false_eq_true] at hnd
  refine Calls.mono (happening_any h.d.r h.r.x3 h.r.x4 h.r.e hx (by omega) (by have := hg.el; omega) hev) ?_
  rintro e w' (⟨h0, rfl, hb⟩ | ⟨h0, hf, rfl, hb⟩ | ⟨h0, hf, rfl, hfr, hmp⟩)
  · have hA : askH i s = .ok s := by unfold askH; rw [if_pos h0]
    have hG := good_H hg hA
    rw [hA]
    exact ⟨below_fb hb h.d.p.sz, rfl, qv, vv, tv, uv, c, nc, h.below hb, hG⟩
  · have hA : askH i s = .error 31 := by
      unfold askH
      unfold ef at hf
      rw [Option.isSome_map] at hf
      rw [if_neg h0, if_pos hf]
    rw [hA]
    exact ⟨below_fb hb h.d.p.sz, by decide, by decide, rfl, hb.block _ (Array.getElem?_eq_some_iff.1 h.d.p.blk).1⟩
  · have hA : askH i s = .ok { s with ev := (evn (rat s.rows i), i + 1) :: s.ev } := by
      unfold askH
      unfold ef at hf
      rw [Option.map_eq_none_iff] at hf
      rw [if_neg h0, hf, if_neg (by simp)]
    have hF : Fb o.own o.base W w' := (Fr.fbw hfr h.d.p.sz).wide (by simp [Lay.own])
    have hbx := ho.keep (fun _ hk => hk) hF
    have hblk : ∀ k, k < o.base → k ≠ o.mb → w'.heap[k]? = W.heap[k]? := fun k hk hn => hfr.block k (Nat.lt_of_lt_of_le hk h.d.p.sz) (by simpa using hn)
    rw [hA]
    have hmp : IsMp bmap w' o.mb (upd (ef s.ev) (evn (rat s.rows i)) (some (.int .i64 ((i + 1 : Nat) : Int)))) (s.ev.length + 1) := hmp
    rw [ef_cons] at hmp
    refine ⟨hF, rfl, qv, vv, tv, uv, c, nc, ⟨⟨h.d.p.kept hfr (h2own _ (by simp [Lay.own])) (by omega), ?_, ?_, ?_, ?_, ?_, ?_⟩, h.cz, h.nl, ?_⟩, good_H hg hA⟩
    · exact h.d.r.same (hblk _ (h2own _ (by simp [Lay.own])) (by omega))
    · exact (hbx _ (by simp [Lay.box])).trans h.d.x1
    · exact (hbx _ (by simp [Lay.box])).trans h.d.x2
    · exact (hbx _ (by simp [Lay.box])).trans h.d.x3
    · exact h.d.k.same (hblk _ (h2own _ (by simp [Lay.own])) (by omega))
    · exact h.d.c.same (hblk _ (h2own _ (by simp [Lay.own])) (by omega))
    · exact ⟨(hbx _ (by simp [Lay.box])).trans h.r.x1, (hbx _ (by simp [Lay.box])).trans h.r.x2, (hbx _ (by simp [Lay.box])).trans h.r.x3, (hbx _ (by simp [Lay.box])).trans h.r.x4, hmp, (hbx _ (by simp [Lay.box])).trans h.r.a⟩
/-- how far it has come -/
def St (o : Lay) (l0 : List Rz) (s0 : Rs) (i j : Nat) (W : World) : Prop :=
  ∃ t s, upto s0 i = .ok t ∧ askN i t j = .ok s ∧ (∃ qv vv tv uv c nc, Mem W o s qv vv tv uv c nc) ∧ Good l0 (3 * i + j) s ∧ (j = 2 → i < l0.length → (evt (rat s.rows i)).1 = 1 → 0 ≤ (rat s.rows i).n ∧ (rat s.rows i).n ≤ 16)
def Er (s0 : Rs) (i c : Nat) : Prop := ∃ t, upto s0 i = .ok t ∧ askN i t 3 = .error c
theorem askN_err {i c : Nat} {s : Rs} {j : Nat} (h : askN i s j = .error c) : ∀ k, askN i s (j + k) = .error c := by
  intro k
  induction k with
  | zero => exact h
  | succ k ih => rw [← Nat.add_assoc]; simp only [askN, ih]
theorem askN_succ {i j : Nat} {t s : Rs} (h : askN i t j = .ok s) : askN i t (j + 1) = ask j i s := by simp only [askN, h]
/-- what inOrder tells, and what stands there -/
def Fin (o : Lay) (l0 : List Rz) (U : Except (Nat × Nat) Rs) (e : Ending) (w' : World) : Prop := match U with
  | .error ci => e = .returned (.agg #[.int .i64 (ci.1 : Int), .int .i64 (ci.2 : Int)]) ∧ 0 < ci.1 ∧ w'.cell? ⟨o.pb, 1, none⟩ = some (.slice (some ⟨o.rb, 0, none⟩) l0.length o.cap)
  | .ok s => e = .returned (.agg #[.int .i64 0, .int .i64 0]) ∧ (∃ qv vv tv uv c nc, Mem w' o s qv vv tv uv c nc) ∧ Good l0 (3 * l0.length) s
theorem order_any {w : World} {o : Lay} {l0 : List Rz} {s0 : Rs} {qv vv tv uv : Value} {c : Nat → Option Value} {nc : Nat} (hB : Base l0) (hl : l0.length ≤ 2932031007317) (ho : o.Ok) (hbase : o.base = w.heap.size + 1) (h : Mem (w.alloc (.cells #[.int .i64 0, .int .i64 0] 32)) o s0 qv vv tv uv c nc) (hg : Good l0 0 s0) :
    Calls Try.prog 24 #[.slice (some ⟨o.rb, 0, none⟩) l0.length o.cap, .slice (some ⟨o.ab, 0, none⟩) 3 3] w fun e w' => Fb o.own w.heap.size w w' ∧ Fin o l0 (upto s0 l0.length) e w' := by
  have hown : ∀ k ∈ o.own, k < w.heap.size := fun k hk => by have := ho.lt2 k hk; omega
  have hbox : ∀ k ∈ o.box, k < w.heap.size := fun k hk => by have := ho.lt1 k hk; omega
  refine Calls.mono (inOrder_inv (w := w) (ao := some ⟨o.rb, 0, none⟩) (n := l0.length) (cap := o.cap) (ab := o.ab) (acap := 3) o.own (St o l0 s0) (Er s0) (fun w' => w'.cell? ⟨o.pb, 1, none⟩ = some (.slice (some ⟨o.rb, 0, none⟩) l0.length o.cap)) askF (askC o) hl hown ?_ ?_ ?_ ?_ ?_ ?_ ?_) ?_
  · intro j hj args u
    obtain rfl | rfl | rfl : j = 0 ∨ j = 1 ∨ j = 2 := by omega
    · kernel_rfl
    · kernel_rfl
    · kernel_rfl
  · rintro i j W hj ⟨t, s, _, _, ⟨qv, vv, tv, uv, c, nc, hM⟩, _, _⟩
    have ha := hM.r.a
    obtain rfl | rfl | rfl : j = 0 ∨ j = 1 ∨ j = 2 := by omega
    all_goals
      simp only [World.cell?, ha]
      rfl
  · rintro i j W hi hj hW ⟨t, s, h1, h2, ⟨qv, vv, tv, uv, c, nc, hM⟩, hG, hN⟩
    have hb2 : o.base = w.heap.size + 1 := hbase
    have hpc : ∀ w' : World, w'.heap[o.pb]? = W.heap[o.pb]? → w'.cell? ⟨o.pb, 1, none⟩ = some (.slice (some ⟨o.rb, 0, none⟩) l0.length o.cap) := fun w' he => by
      rw [World.cell?_of_block (a := ⟨o.pb, 1, none⟩) he, ← like_len hG.like]
      exact hM.d.p.cells.1
    obtain rfl | rfl | rfl : j = 0 ∨ j = 1 ∨ j = 2 := by omega
    · refine Calls.mono (step_D hB hl ho hM hG hi) ?_
      rintro e w' ⟨hF, hr⟩
      rw [hb2] at hF
      refine ⟨hF, ?_⟩
      cases hA : askD i s with
      | error c2 =>
        rw [hA] at hr
        refine Or.inr ⟨c2, hr.1, hr.2.1, hr.2.2.1, ⟨t, h1, ?_⟩, hpc _ hr.2.2.2⟩
        have : askN i t 1 = .error c2 := (askN_succ h2).trans hA
        exact askN_err this 2
      | ok s' =>
        rw [hA] at hr
        obtain ⟨he, q1, q2, q3, q4, c', n', hM', hG'⟩ := hr
        refine Or.inl ⟨he, t, s', h1, (askN_succ h2).trans hA, ⟨q1, q2, q3, q4, c', n', hM'⟩, ⟨hG'.like, hG'.q, hG'.v, hG'.t, hG'.u, hG'.kn, hG'.kl, hG'.ul, by have := hG'.el; omega⟩, fun e => by omega⟩
    · refine Calls.mono (step_M hB hl ho hM hG hi) ?_
      rintro e w' ⟨hF, hr⟩
      rw [hb2] at hF
      refine ⟨hF, ?_⟩
      cases hA : askM i s with
      | error c2 =>
        rw [hA] at hr
        refine Or.inr ⟨c2, hr.1, hr.2.1, hr.2.2.1, ⟨t, h1, ?_⟩, hpc _ hr.2.2.2⟩
        have : askN i t 2 = .error c2 := (askN_succ h2).trans hA
        exact askN_err this 1
      | ok s' =>
        rw [hA] at hr
        obtain ⟨he, q1, q2, q3, q4, c', n', hM', hG'⟩ := hr
        refine Or.inl ⟨he, t, s', h1, ?_, ⟨q1, q2, q3, q4, c', n', hM'⟩, ⟨hG'.like, hG'.q, hG'.v, hG'.t, hG'.u, hG'.kn, hG'.kl, hG'.ul, by have := hG'.el; omega⟩, fun _ hi he => num_M hi hG hA he⟩
        exact (askN_succ h2).trans hA
    · refine Calls.mono (step_H hl ho hM hG (by omega) hi (hN rfl hi)) ?_
      rintro e w' ⟨hF, hr⟩
      rw [hb2] at hF
      refine ⟨hF, ?_⟩
      cases hA : askH i s with
      | error c2 =>
        rw [hA] at hr
        refine Or.inr ⟨c2, hr.1, hr.2.1, hr.2.2.1, ⟨t, h1, ?_⟩, hpc _ hr.2.2.2⟩
        exact (askN_succ h2).trans hA
      | ok s' =>
        rw [hA] at hr
        obtain ⟨he, q1, q2, q3, q4, c', n', hM', hG'⟩ := hr
        refine Or.inl ⟨he, t, s', h1, ?_, ⟨q1, q2, q3, q4, c', n', hM'⟩, hG', fun e => by omega⟩
        exact (askN_succ h2).trans hA
  · intro W q v hW
    rw [World.cell?_of_block (a := ⟨o.pb, 1, none⟩) (Below.heap_setCell W _ v o.pb (fun e => by have e2 : o.pb = w.heap.size := e; have := hown o.pb (by simp [Lay.own]); omega))]
    exact hW
  · rintro i W ⟨t, s, h1, h2, hM, hG, _⟩
    refine ⟨s, s, ?_, rfl, hM, ?_, fun e => by omega⟩
    · simp only [upto, h1, h2]
    · rw [show 3 * (i + 1) + 0 = 3 * i + 3 by omega]
      exact hG
  · rintro i j W q v ⟨t, s, h1, h2, ⟨qv, vv, tv, uv, c, nc, hM⟩, hG, hN⟩
    refine ⟨t, s, h1, h2, ⟨qv, vv, tv, uv, c, nc, ?_⟩, hG, hN⟩
    have hb : ∀ k, k ≠ w.heap.size → (W.setCell ⟨w.heap.size, q, none⟩ v).heap[k]? = W.heap[k]? := fun k hk => Below.heap_setCell W _ v k (fun e => hk e)
    have hbx : ∀ k ∈ o.box, (W.setCell ⟨w.heap.size, q, none⟩ v).heap[k]? = W.heap[k]? := fun k hk => hb k (by have := hbox k hk; omega)
    have hbo : ∀ k ∈ o.own, (W.setCell ⟨w.heap.size, q, none⟩ v).heap[k]? = W.heap[k]? := fun k hk => hb k (by have := hown k hk; omega)
    have hw : ∀ {T : TypeId} {sz n : Nat} {v' : Value} {xs : List Value}, W.ownsRow o.base T sz v' n xs → (W.setCell ⟨w.heap.size, q, none⟩ v).ownsRow o.base T sz v' n xs := fun h1 => own_keepB h1 (fun k hk => hb k (by have := (World.ownsRow.lt h1 k hk).1; omega))
    have hp := hM.d.p
    exact ⟨⟨⟨(hbo _ (by simp [Lay.own])).trans hp.blk, hw hp.oq, hw hp.ov, hw hp.ot, hw hp.ou, hp.ne, hp.lt, by have := hp.sz; simpa [World.setCell] using this⟩, hM.d.r.same (hbo _ (by simp [Lay.own])), (hbx _ (by simp [Lay.box])).trans hM.d.x1, (hbx _ (by simp [Lay.box])).trans hM.d.x2, (hbx _ (by simp [Lay.box])).trans hM.d.x3, hM.d.k.same (hbo _ (by simp [Lay.own])), hM.d.c.same (hbo _ (by simp [Lay.own]))⟩, hM.cz, hM.nl, hM.r.keep hbx (hbo _ (by simp [Lay.own]))⟩
  · exact ⟨s0, s0, rfl, rfl, ⟨qv, vv, tv, uv, c, nc, h⟩, hg, fun e => by omega⟩
  · rintro e w' (⟨rfl, ⟨t, s, h1, h2, hM, hG, _⟩, hF⟩ | ⟨i, c2, hi, hc, rfl, ⟨t, h1, h2⟩, hiv, hF⟩)
    · refine ⟨hF, ?_⟩
      simp only [askN] at h2
      cases h2
      rw [h1]
      exact ⟨rfl, hM, hG⟩
    · refine ⟨hF, ?_⟩
      have : upto s0 (i + 1) = .error (c2, i) := by simp only [upto, h1, h2]
      have h3 := upto_err this (l0.length - (i + 1))
      rw [show i + 1 + (l0.length - (i + 1)) = l0.length by omega] at h3
      rw [h3]
      exact ⟨rfl, hc, hiv⟩
end Go.Proofs.Ytjbpbgdhooggeaa.Nm

namespace Go.Proofs.Ytjbpbgdhooggeaa.Nm
open Go.RowKit Go.Maps Go.Proofs.Ytjbpbgdhooggeaa.Sp Go.Proofs.Ytjbpbgdhooggeaa.Lx Go.Proofs.Ytjbpbgdhooggeaa.Gr

theorem alloc_at (w : World) (x : Obj) (k : Nat) (hk : k = w.heap.size) : (w.alloc x).heap[k]? = some x := hk ▸ heap_alloc_new w x
theorem alloc_old (w : World) (x : Obj) (k : Nat) (hk : k < w.heap.size) : (w.alloc x).heap[k]? = w.heap[k]? := Below.heap_alloc w x k hk
set_option maxHeartbeats 1600000 in
set_option maxRecDepth 100000 in
theorem naming_made (W : World) (rows : Value) (kb : Nat) (hr : ∃ ao n c, rows = .slice ao n c) :
    Calls Try.prog 26 #[rows, .map (some kb)] W fun e w' => e = .returned (.func (.func (askF 1)) #[] #[ptr0 W.heap.size, ptr0 (W.heap.size + 1)]) ∧ Below W.heap.size W w' ∧ w'.heap.size = W.heap.size + 2 ∧ w'.heap[W.heap.size]? = some (.cells #[rows] 22 (0, 0)) ∧ w'.heap[W.heap.size + 1]? = some (.cells #[.map (some kb)] 52 (0, 0)) := by
  obtain ⟨ao, n, c, rfl⟩ := hr
  have HX : Hid (Below W.heap.size W ((W.alloc (.cells #[.slice ao n c] 22)).alloc (.cells #[.map (some kb)] 52)) ∧ ((W.alloc (.cells #[.slice ao n c] 22)).alloc (.cells #[.map (some kb)] 52)).heap.size = W.heap.size + 2 ∧ ((W.alloc (.cells #[.slice ao n c] 22)).alloc (.cells #[.map (some kb)] 52)).heap[W.heap.size]? = some (.cells #[.slice ao n c] 22 (0, 0)) ∧ ((W.alloc (.cells #[.slice ao n c] 22)).alloc (.cells #[.map (some kb)] 52)).heap[W.heap.size + 1]? = some (.cells #[.map (some kb)] 52 (0, 0))) :=
    ⟨((Below.refl _ W).alloc (Nat.le_refl _) _).alloc (by simp only [World.size_alloc]; omega) _, by simp, by rw [alloc_old _ _ _ (by simp only [World.size_alloc]; omega)]; exact alloc_at _ _ _ rfl, alloc_at _ _ _ (by simp)⟩
  go_enter Try.func26, Try.ntmps26
  go_wp2
  go_ret
  exact ⟨rfl, HX.out⟩
set_option maxHeartbeats 1600000 in
set_option maxRecDepth 100000 in
theorem happening_made (W : World) (rows : Value) (kb : Nat) (hr : ∃ ao n c, rows = .slice ao n c) :
    Calls Try.prog 27 #[rows, .map (some kb)] W fun e w' => e = .returned (.func (.func (askF 2)) #[] #[ptr0 W.heap.size, ptr0 (W.heap.size + 1)]) ∧ Below W.heap.size W w' ∧ w'.heap.size = W.heap.size + 2 ∧ w'.heap[W.heap.size]? = some (.cells #[rows] 22 (0, 0)) ∧ w'.heap[W.heap.size + 1]? = some (.cells #[.map (some kb)] 53 (0, 0)) := by
  obtain ⟨ao, n, c, rfl⟩ := hr
  have HX : Hid (Below W.heap.size W ((W.alloc (.cells #[.slice ao n c] 22)).alloc (.cells #[.map (some kb)] 53)) ∧ ((W.alloc (.cells #[.slice ao n c] 22)).alloc (.cells #[.map (some kb)] 53)).heap.size = W.heap.size + 2 ∧ ((W.alloc (.cells #[.slice ao n c] 22)).alloc (.cells #[.map (some kb)] 53)).heap[W.heap.size]? = some (.cells #[.slice ao n c] 22 (0, 0)) ∧ ((W.alloc (.cells #[.slice ao n c] 22)).alloc (.cells #[.map (some kb)] 53)).heap[W.heap.size + 1]? = some (.cells #[.map (some kb)] 53 (0, 0))) :=
    ⟨((Below.refl _ W).alloc (Nat.le_refl _) _).alloc (by simp only [World.size_alloc]; omega) _, by simp, by rw [alloc_old _ _ _ (by simp only [World.size_alloc]; omega)]; exact alloc_at _ _ _ rfl, alloc_at _ _ _ (by simp)⟩
  go_enter Try.func27, Try.ntmps27
  go_wp2
  go_ret
  exact ⟨rfl, HX.out⟩
set_option maxHeartbeats 1600000 in
set_option maxRecDepth 100000 in
theorem declaring_made (W : World) (pb kb : Nat) :
    Calls Try.prog 25 #[.pointer (some ⟨pb, 0, none⟩), .map (some kb)] W fun e w' => e = .returned (.func (.func (askF 0)) #[] #[ptr0 W.heap.size, ptr0 (W.heap.size + 1), ptr0 (W.heap.size + 3)]) ∧ Below W.heap.size W w' ∧ w'.heap.size = W.heap.size + 4 ∧ w'.heap[W.heap.size]? = some (.cells #[.pointer (some ⟨pb, 0, none⟩)] 57 (0, 0)) ∧ w'.heap[W.heap.size + 1]? = some (.cells #[.map (some kb)] 52 (0, 0)) ∧ IsMp cmap w' (W.heap.size + 2) (fun _ => none) 0 ∧ w'.heap[W.heap.size + 3]? = some (.cells #[.map (some (W.heap.size + 2))] 70 (0, 0)) := by
  have HX : Hid (∀ w2, w2 = (W.alloc (.cells #[.pointer (some ⟨pb, 0, none⟩)] 57)).alloc (.cells #[.map (some kb)] 52) → Below W.heap.size W ((w2.alloc (.map #[] 0)).alloc (.cells #[.map (some (W.heap.size + 2))] 70)) ∧ ((w2.alloc (.map #[] 0)).alloc (.cells #[.map (some (W.heap.size + 2))] 70)).heap.size = W.heap.size + 4 ∧ ((w2.alloc (.map #[] 0)).alloc (.cells #[.map (some (W.heap.size + 2))] 70)).heap[W.heap.size]? = some (.cells #[.pointer (some ⟨pb, 0, none⟩)] 57 (0, 0)) ∧ ((w2.alloc (.map #[] 0)).alloc (.cells #[.map (some (W.heap.size + 2))] 70)).heap[W.heap.size + 1]? = some (.cells #[.map (some kb)] 52 (0, 0)) ∧ IsMp cmap ((w2.alloc (.map #[] 0)).alloc (.cells #[.map (some (W.heap.size + 2))] 70)) (W.heap.size + 2) (fun _ => none) 0 ∧ ((w2.alloc (.map #[] 0)).alloc (.cells #[.map (some (W.heap.size + 2))] 70)).heap[W.heap.size + 3]? = some (.cells #[.map (some (W.heap.size + 2))] 70 (0, 0))) := by
    rintro w2 rfl
    refine ⟨((((Below.refl _ W).alloc (Nat.le_refl _) _).alloc (by simp only [World.size_alloc]; omega) _).alloc (by simp only [World.size_alloc]; omega) _).alloc (by simp only [World.size_alloc]; omega) _, by simp, ?_, ?_, ?_, alloc_at _ _ _ (by simp)⟩
    · rw [alloc_old _ _ _ (by simp only [World.size_alloc]; omega), alloc_old _ _ _ (by simp only [World.size_alloc]; omega), alloc_old _ _ _ (by simp only [World.size_alloc]; omega)]
      exact alloc_at _ _ _ rfl
    · rw [alloc_old _ _ _ (by simp only [World.size_alloc]; omega), alloc_old _ _ _ (by simp only [World.size_alloc]; omega)]
      exact alloc_at _ _ _ (by simp)
    · have := IsMp.made cmap ((W.alloc (.cells #[.pointer (some ⟨pb, 0, none⟩)] 57)).alloc (.cells #[.map (some kb)] 52))
      have e : ((W.alloc (.cells #[.pointer (some ⟨pb, 0, none⟩)] 57)).alloc (.cells #[.map (some kb)] 52)).heap.size = W.heap.size + 2 := by simp
      rw [e] at this
      exact this.same (alloc_old _ _ _ (by simp only [World.size_alloc]; omega))
  have hmk : ∀ u : World, (Instr.makeMap 70 none).run Try.prog u = .ok (.map (some u.heap.size)) (u.alloc (.map #[] 0)) := fun u => by kernel_rfl
  go_enter Try.func25, Try.ntmps25
  go_wp2
  go_ret
  exact ⟨rfl, HX.out _ rfl⟩
end Go.Proofs.Ytjbpbgdhooggeaa.Nm
