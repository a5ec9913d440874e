import Derived.Test.YtelbakkgobkdaaaDoorVfSame2
import Derived.Test.YtelbakkgobkdaaaDoorVfHandB
import Derived.Test.YtelbakkgobkdaaaDoorVfTk
namespace Go.Proofs.YtelbakkgobkdaaaDoor.Vf
open Go.RowKit Go.Proofs.YtelbakkgobkdaaaDoor.Nm

/-- what lies in the two boxes -/
structure Si (n0 : Nat) (w W : World) (bs bi : Nat) (cs : Array Value) (ci : Array Value) : Prop where
  bel : Below n0 w W
  ls : n0 ≤ bs
  li : n0 ≤ bi
  ne : bs ≠ bi
  hs : W.heap[bs]? = some (.cells cs 71 (0, 0))
  hi : W.heap[bi]? = some (.cells ci 54 (0, 0))
theorem two_boxes (w : World) (a b : Obj) : Below w.heap.size w ((w.alloc a).alloc b).drew ∧ ((w.alloc a).alloc b).drew.heap[w.heap.size]? = (w.alloc a).heap[w.heap.size]? ∧ ((w.alloc a).alloc b).drew.heap[w.heap.size + 1]? = ((w.alloc a).alloc b).heap[(w.alloc a).heap.size]? := by
  have s1 : (w.alloc a).heap.size = w.heap.size + 1 := by simp
  refine ⟨(((Below.refl _ w).alloc (Nat.le_refl _) _).alloc (by simp) _).drew, ?_, ?_⟩
  · exact ((Below.refl _ (w.alloc a)).alloc (Nat.le_refl _) b).drew.block _ (by omega)
  · rw [s1]; rfl
theorem Si.mk1 (w : World) (cs ci : Array Value) : Si w.heap.size w ((w.alloc (.cells cs 71)).alloc (.cells ci 54)).drew w.heap.size (w.heap.size + 1) cs ci := by
  obtain ⟨h1, h2, h3⟩ := two_boxes w (.cells cs 71) (.cells ci 54)
  exact ⟨h1, Nat.le_refl _, by omega, by omega, h2.trans (heap_alloc_new _ _), h3.trans (heap_alloc_new _ _)⟩
theorem Si.mk2 (w : World) (cs ci : Array Value) : Si w.heap.size w ((w.alloc (.cells ci 54)).alloc (.cells cs 71)).drew (w.heap.size + 1) w.heap.size cs ci := by
  obtain ⟨h1, h2, h3⟩ := two_boxes w (.cells ci 54) (.cells cs 71)
  exact ⟨h1, by omega, Nat.le_refl _, by omega, h3.trans (heap_alloc_new _ _), h2.trans (heap_alloc_new _ _)⟩
theorem Si.below {n0 : Nat} {w W W' : World} {bs bi : Nat} {cs ci : Array Value} (h : Si n0 w W bs bi cs ci) (hn : n0 ≤ W.heap.size) (hb : Below W.heap.size W W') : Si n0 w W' bs bi cs ci :=
  ⟨h.bel.trans (hb.mono hn), h.ls, h.li, h.ne, (hb.block _ (blk_lt h.hs)).trans h.hs, (hb.block _ (blk_lt h.hi)).trans h.hi⟩
theorem Wk.reads {w : World} {wb gb : Nat} {qo : Option Addr} {qc : Nat} {vo : Option Addr} {vc : Nat} {tto : Option Addr} {tc : Nat} {oo : Option Addr} {oc : Nat} {co : Option Addr} {cc : Nat} {p : Pg} {eo : Option Addr} {ec gc : Nat} {g : Nat → Option Sd} (h : Wk w wb gb ⟨qo, qc, vo, vc, tto, tc, oo, oc, co, cc⟩ p eo ec gc g) {i : Nat} (hi : i < p.cd.length) :
    ∃ cg cf, co = some ⟨cg, cf, none⟩ ∧ w.cell? ⟨wb, 5, none⟩ = some (.slice (some ⟨cg, cf, none⟩) p.cd.length cc) ∧ w.cell? ⟨wb, 7, none⟩ = some (.slice (some ⟨gb, 0, none⟩) p.cd.length gc) ∧ w.cell? ⟨cg, cf + i * 5, none⟩ = some (.int .i64 p.cd[i].op) ∧ w.cell? ⟨cg, cf + i * 5 + 1, none⟩ = some (.int .i64 p.cd[i].a) ∧ w.cell? ⟨cg, cf + i * 5 + 2, none⟩ = some (.int .i64 p.cd[i].b) ∧ w.cell? ⟨cg, cf + i * 5 + 3, none⟩ = some (.int .i64 p.cd[i].c) ∧ w.cell? ⟨cg, cf + i * 5 + 4, none⟩ = some (.int .i64 p.cd[i].d) := by
  obtain ⟨c0, c1, c2, c3, c4, c5, c6, c7⟩ := cells8 h.hw
  obtain ⟨cg, cf, hco, hcg, d0, d1, d2, d3, d4⟩ := rd_ins h.pg.cd hi
  obtain rfl : co = some ⟨cg, cf, none⟩ := hco
  exact ⟨cg, cf, rfl, c5, c7, d0, d1, d2, d3, d4⟩
/-- what the walk keeps of the standings -/
structure Inv (p : Pg) (g : Nat → Option Sd) : Prop where
  lt : ∀ k s, g k = some s → k < p.cd.length
  ht : ∀ k s, g k = some s → s.ty.length ≤ 256
  tn : ∀ k s, g k = some s → s.turn = -1 ∨ (0 ≤ s.turn ∧ ∃ t, g s.turn.toNat = some t)
end Go.Proofs.YtelbakkgobkdaaaDoor.Vf
