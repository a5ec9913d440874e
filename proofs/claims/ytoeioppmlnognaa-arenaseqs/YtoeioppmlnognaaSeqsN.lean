import Derived.Test.YtoeioppmlnognaaArSetup
import Derived.Test.YtoeioppmlnognaaArWhole
import Derived.Test.YtoeioppmlnognaaArOpen
import Derived.Sort.CutIn
import Derived.Stop.RegionWithIn
import Derived.Laws.EntriesVeiled
namespace Go.Proofs.Ytoeioppmlnognaa.arenaSeqs
open Go.RowKit Go.Shelf Go.Proofs.Ytoeioppmlnognaa.Ar

attribute [local go_sem] Oper.semAt_some

set_option maxHeartbeats 12800000 in
set_option maxRecDepth 100000 in
theorem walk_no (n l : Int) (ao : Option Addr) (s : List St) (cap : Nat) (mo : Option Addr) (m : List St) (capm : Nat) (stop : Int) (w : World) (h : ¬ (okA n l ∧ n ≤ 2000) ∨ l = 0) :
    Calls Try.prog 6 #[I n, I l, .slice ao s.length cap, .slice mo m.length capm, I stop] w fun e w' => e = .returned (.bool true) ∧ Below w.heap.size w w' := by
  refine (callsIn_wide (n := 9)).1 ?_
  refine callsIn_of_wp_marks Try.func6 rfl trivial ?_ rfl
  simp only [Try.ntmps6, List.size_toArray, List.length_cons, List.length_nil, Nat.reduceAdd, Nat.reduceSub, Array.replicate_succ, Array.replicate_zero, List.push_toArray, List.append_toArray, List.nil_append, List.cons_append]
  gi_wp2
  refine ⟨trivial, (callsIn_wide.2 (known_any _)).mono ?_⟩
  rintro e w1 ⟨rfl, hB1⟩
  have hz1 : w.heap.size + 3 ≤ w1.heap.size := by have := hB1.size; simpa using this
  have q10 : w1.heap[w.heap.size + 1 + 1]? = some (.cells #[.bool false] 4 (0, 0)) := (hB1.block _ (by simp)).trans (by have := heap_alloc_new ((w.alloc (.cells #[.slice mo m.length capm] 22)).alloc (.cells #[I stop] 3)) (.cells #[.bool false] 4); rw [World.size_alloc, World.size_alloc] at this; exact this)
  have HQ : Hid (w1.heap[w.heap.size + 1 + 1]? = some (.cells #[.bool false] 4 (0, 0)) ∧ w.heap.size + 3 ≤ w1.heap.size ∧ Below w.heap.size w w1) := ⟨q10, hz1, ((((Below.refl _ w).alloc (Nat.le_refl _) _).alloc (by simp) _).alloc (by simp; omega) _).trans (hB1.mono (by simp; omega))⟩
  clear hB1 hz1 q10
  by_cases hk : okA n l ∧ n ≤ 2000
  · have hl0 : l = 0 := h.resolve_left (fun hn => hn hk)
    subst hl0
    gi_wp2
    refine ⟨trivial, (callsIn_wide.2 (open_ok w1 n 0 hk.1 hk.2)).mono ?_⟩
    rintro e w2 ⟨g, rfl, hBo⟩
    obtain ⟨o, hMine⟩ := hBo.mine
    have hb2 := hMine.2.1
    obtain ⟨z3, b3, n3⟩ := alloc_facts w2 #[.pointer (some ⟨g, 0, none⟩)] 34
    have hb3 := hb2.trans (b3.mono hb2.size)
    obtain ⟨c10, f10⟩ := box_cell ((hb3.block _ (by have := HQ.out.2.1; omega)).trans HQ.out.1)
    have HB3 : Hid (Below w.heap.size w (w2.alloc (.cells #[.pointer (some ⟨g, 0, none⟩)] 34))) := HQ.out.2.2.trans (hb3.mono HQ.out.2.2.size)
    clear hBo hMine hb2 z3 b3 n3 hb3
    gi_wp2
    refine ⟨.bool true, ?_, rfl, HB3.out.setCell (p := ⟨w.heap.size + 1 + 1, 0, none⟩) (by simp; omega) _⟩
    have hc5 := World.cell?_setCell_same' (w2.alloc (.cells #[.pointer (some ⟨g, 0, none⟩)] 34)) ⟨w.heap.size + 1 + 1, 0, none⟩ (.bool true) (by rw [c10]; rfl)
    simp [results, Try.f6, go_sem, hc5]
  · gi_wp2
    refine ⟨trivial, (callsIn_wide.2 (open_no w1 n l hk)).mono ?_⟩
    rintro e w2 ⟨rfl, rfl⟩
    obtain ⟨z3, b3, n3⟩ := alloc_facts w2 #[.pointer none] 34
    obtain ⟨c10, f10⟩ := box_cell ((b3.block _ (by have := HQ.out.2.1; omega)).trans HQ.out.1)
    have HB3 : Hid (Below w.heap.size w (w2.alloc (.cells #[.pointer none] 34))) := HQ.out.2.2.trans (b3.mono HQ.out.2.2.size)
    clear z3 b3 n3
    gi_wp2
    refine ⟨.bool true, ?_, rfl, HB3.out.setCell (p := ⟨w.heap.size + 1 + 1, 0, none⟩) (by simp; omega) _⟩
    have hc5 := World.cell?_setCell_same' (w2.alloc (.cells #[.pointer none] 34)) ⟨w.heap.size + 1 + 1, 0, none⟩ (.bool true) (by rw [c10]; rfl)
    simp [results, Try.f6, go_sem, hc5]
end Go.Proofs.Ytoeioppmlnognaa.arenaSeqs
