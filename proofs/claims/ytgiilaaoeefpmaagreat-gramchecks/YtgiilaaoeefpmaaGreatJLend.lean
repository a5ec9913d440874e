import Derived.Test.YtgiilaaoeefpmaaGreatJKind
import Derived.Test.YtgiilaaoeefpmaaGreatJWalk
import Derived.Test.YtgiilaaoeefpmaaGreatGrIns
namespace Go.Proofs.YtgiilaaoeefpmaaGreat.Gr
open Go.RowKit Go.Proofs.YtgiilaaoeefpmaaGreat.Sp Go.Proofs.YtgiilaaoeefpmaaGreat.Lx

/-- a row's cells -/
def rz5 (r : Rz) : List Value := [.int .i64 r.kind, .string r.name, .int .i64 r.stop, .int .i64 r.n, .int .i64 r.kids]
theorem rz5_len (l : List Rz) : (l.flatMap rz5).length = l.length * 5 := by
  induction l with
  | nil => rfl
  | cons r l ih => rw [List.flatMap_cons, List.length_append, ih, List.length_cons]; show 5 + _ = _; omega
theorem rz5_at (l : List Rz) (i j : Nat) (r : Rz) (h : l[i]? = some r) (hj : j < 5) : (l.flatMap rz5)[i * 5 + j]? = (rz5 r)[j]? := by
  induction l generalizing i with
  | nil => simp at h
  | cons y l ih =>
    rw [List.flatMap_cons]
    cases i with
    | zero =>
      simp at h
      subst h
      rw [List.getElem?_append_left (by show _ < 5; omega)]
      simp
    | succ i =>
      rw [List.getElem?_append_right (by show 5 ≤ _; omega), show (i + 1) * 5 + j - (rz5 y).length = i * 5 + j by show _ - 5 = _; omega]
      exact ih i (by simpa using h)
theorem rz5_set (l : List Rz) (i : Nat) (r r' : Rz) (h : l[i]? = some r) : (l.set i r').flatMap rz5 = (((((l.flatMap rz5).set (i * 5) (.int .i64 r'.kind)).set (i * 5 + 1) (.string r'.name)).set (i * 5 + 2) (.int .i64 r'.stop)).set (i * 5 + 3) (.int .i64 r'.n)).set (i * 5 + 4) (.int .i64 r'.kids) := by
  induction l generalizing i with
  | nil => simp at h
  | cons y l ih =>
    cases i with
    | zero =>
      rw [List.set_cons_zero, List.flatMap_cons, List.flatMap_cons]
      simp [rz5]
    | succ i =>
      have e : ∀ k, (i + 1) * 5 + k = i * 5 + k + 1 + 1 + 1 + 1 + 1 := fun k => by omega
      rw [List.set_cons_succ, List.flatMap_cons, List.flatMap_cons, ih i (by simpa using h)]
      rw [show (i + 1) * 5 = i * 5 + 1 + 1 + 1 + 1 + 1 by omega]
      rw [show i * 5 + 1 + 1 + 1 + 1 + 1 + 1 = i * 5 + 1 + 1 + 1 + 1 + 1 + 1 from rfl]
      simp only [rz5, List.cons_append, List.nil_append]
      simp only [show i * 5 + 1 + 1 + 1 + 1 + 1 + 1 = (i * 5 + 1) + 1 + 1 + 1 + 1 + 1 by omega, show i * 5 + 1 + 1 + 1 + 1 + 1 + 2 = (i * 5 + 2) + 1 + 1 + 1 + 1 + 1 by omega, show i * 5 + 1 + 1 + 1 + 1 + 1 + 3 = (i * 5 + 3) + 1 + 1 + 1 + 1 + 1 by omega, show i * 5 + 1 + 1 + 1 + 1 + 1 + 4 = (i * 5 + 4) + 1 + 1 + 1 + 1 + 1 by omega, List.set_cons_succ]
/-- rows in a block of their own -/
def RowZ (w : World) (g : Nat) (l : List Rz) : Prop := w.heap[g]? = some (.cells (l.flatMap rz5).toArray 46 (0, 0))
theorem RowZ.lt {w : World} {g : Nat} {l : List Rz} (h : RowZ w g l) : g < w.heap.size := (Array.getElem?_eq_some_iff.1 h).1
theorem RowZ.cell {w : World} {g : Nat} {l : List Rz} (h : RowZ w g l) {i : Nat} {r : Rz} (hi : l[i]? = some r) (j : Nat) (hj : j < 5) : w.cell? ⟨g, i * 5 + j, none⟩ = (rz5 r)[j]? := by
  rw [World.cell?, h, ← rz5_at l i j r hi hj]
  simp
theorem RowZ.frozen {w : World} {g : Nat} {l : List Rz} (h : RowZ w g l) (j : Nat) : w.frozen? ⟨g, j, none⟩ = false := by rw [World.frozen?, h]; simp
theorem RowZ.cells {w : World} {g : Nat} {l : List Rz} (h : RowZ w g l) {i : Nat} {r : Rz} (hi : l[i]? = some r) : w.cell? ⟨g, i * 5, none⟩ = some (.int .i64 r.kind) ∧ w.cell? ⟨g, i * 5 + 1, none⟩ = some (.string r.name) ∧ w.cell? ⟨g, i * 5 + 2, none⟩ = some (.int .i64 r.stop) ∧ w.cell? ⟨g, i * 5 + 3, none⟩ = some (.int .i64 r.n) ∧ w.cell? ⟨g, i * 5 + 4, none⟩ = some (.int .i64 r.kids) :=
  ⟨h.cell hi 0 (by omega), h.cell hi 1 (by omega), h.cell hi 2 (by omega), h.cell hi 3 (by omega), h.cell hi 4 (by omega)⟩
theorem RowZ.below {w w' : World} {g : Nat} {l : List Rz} (h : RowZ w g l) {b : Nat} (hb : Below b w w') (hg : g < b) : RowZ w' g l := (hb.block g hg).trans h
theorem RowZ.reads {w : World} {g : Nat} {l l' : List Rz} (h : RowZ w g (l ++ l')) : IsRz w (some ⟨g, 0, none⟩) l := by
  intro i x hx
  have hx' : (l ++ l')[i]? = some x := by rw [List.getElem?_append_left (List.getElem?_eq_some_iff.1 hx).1]; exact hx
  obtain ⟨c0, c1, c2, c3, c4⟩ := h.cells hx'
  refine ⟨g, 0, rfl, h.lt, ?_, ?_, ?_, ?_, ?_⟩ <;> simp only [Nat.zero_add] <;> assumption
abbrev storeRow (w : World) (g i : Nat) (r : Rz) : World := ((((w.setCell ⟨g, i * 5, none⟩ (.int .i64 r.kind)).setCell ⟨g, i * 5 + 1, none⟩ (.string r.name)).setCell ⟨g, i * 5 + 2, none⟩ (.int .i64 r.stop)).setCell ⟨g, i * 5 + 3, none⟩ (.int .i64 r.n)).setCell ⟨g, i * 5 + 4, none⟩ (.int .i64 r.kids)
theorem RowZ.set {w : World} {g : Nat} {l : List Rz} (h : RowZ w g l) {i : Nat} {r : Rz} (hi : l[i]? = some r) (r' : Rz) : RowZ (storeRow w g i r') g (l.set i r') := by
  have h1 := heap_setCell_same w g (i * 5) _ _ (.int .i64 r'.kind) h
  have h2 := heap_setCell_same _ g (i * 5 + 1) _ _ (.string r'.name) h1
  have h3 := heap_setCell_same _ g (i * 5 + 2) _ _ (.int .i64 r'.stop) h2
  have h4 := heap_setCell_same _ g (i * 5 + 3) _ _ (.int .i64 r'.n) h3
  have h5 := heap_setCell_same _ g (i * 5 + 4) _ _ (.int .i64 r'.kids) h4
  unfold RowZ storeRow
  rw [h5, rz5_set l i r r' hi]
  simp
end Go.Proofs.YtgiilaaoeefpmaaGreat.Gr

namespace Go.Proofs.YtgiilaaoeefpmaaGreat.Gr
open Go.RowKit Go.Proofs.YtgiilaaoeefpmaaGreat.Sp Go.Proofs.YtgiilaaoeefpmaaGreat.Lx

def mk7 : Rz := ⟨-7, ⟨#[]⟩, 0, 0, 0⟩
theorem IsRz.cells {w : World} {ao : Option Addr} {l : List Rz} (h : IsRz w ao l) (h0 : 0 < l.length) : ∃ g o, ao = some ⟨g, o, none⟩ ∧ g < w.heap.size ∧ ∀ j u, (l.flatMap rz5)[j]? = some u → w.cell? ((⟨g, o, none⟩ : Addr).add j) = some u := by
  obtain ⟨g, o, rfl, hg, _⟩ := h 0 l[0] (List.getElem?_eq_getElem h0)
  refine ⟨g, o, rfl, hg, fun j u hu => ?_⟩
  have hj : j < l.length * 5 := by
    have := (List.getElem?_eq_some_iff.1 hu).1
    rw [rz5_len] at this
    exact this
  have hi : j / 5 < l.length := by omega
  have hx := List.getElem?_eq_getElem hi
  have hd : j = (j / 5) * 5 + j % 5 := by omega
  rw [hd, rz5_at l (j / 5) (j % 5) _ hx (by omega)] at hu
  obtain ⟨g', o', he, _, c0, c1, c2, c3, c4⟩ := h (j / 5) _ hx
  simp only [Option.some.injEq, Addr.mk.injEq, and_true] at he
  obtain ⟨rfl, rfl⟩ := he
  rw [Lib.addr_add]
  have hm : j % 5 < 5 := by omega
  generalize j % 5 = m at hu hd hm
  generalize j / 5 = q at *
  show w.cell? ⟨g, o + j, none⟩ = _
  rw [hd]
  match m, hm with
  | 0, _ => simpa [rz5, Nat.add_assoc] using c0.trans hu
  | 1, _ => rw [← Nat.add_assoc]; exact c1.trans hu
  | 2, _ => rw [← Nat.add_assoc]; exact c2.trans hu
  | 3, _ => rw [← Nat.add_assoc]; exact c3.trans hu
  | 4, _ => rw [← Nat.add_assoc]; exact c4.trans hu
theorem rz5_one (l : List Rz) : ∀ v ∈ l.flatMap rz5, v.oneCell' = true := by
  intro v hv
  rw [List.mem_flatMap] at hv
  obtain ⟨r, _, hv⟩ := hv
  simp only [rz5, List.mem_cons, List.not_mem_nil, or_false] at hv
  rcases hv with rfl | rfl | rfl | rfl | rfl <;> rfl
theorem mk_cells (n : Nat) : madeCells (Value.agg #[.int .i64 0, .string ⟨#[]⟩, .int .i64 0, .int .i64 0, .int .i64 0]).cells (n * 5) = ((List.replicate n rz0).flatMap rz5).toArray := by
  apply Array.ext'
  apply List.ext_getElem?
  intro j
  have e1 : (Value.agg #[.int .i64 0, .string ⟨#[]⟩, .int .i64 0, .int .i64 0, .int .i64 0]).cells = #[.int .i64 0, .string ⟨#[]⟩, .int .i64 0, .int .i64 0, .int .i64 0] := rfl
  rw [e1]
  by_cases hj : j < n * 5
  · have hq : (List.replicate n rz0)[j / 5]? = some rz0 := by rw [List.getElem?_replicate, if_pos (by omega)]
    have h2 := rz5_at (List.replicate n rz0) (j / 5) (j % 5) rz0 hq (by omega)
    rw [show j / 5 * 5 + j % 5 = j by omega] at h2
    rw [List.toList_toArray, h2, Array.getElem?_toList]
    simp only [madeCells]
    have hm : j % 5 < 5 := by omega
    simp [hj]
    generalize j % 5 = m at hm
    match m, hm with
    | 0, _ => rfl
    | 1, _ => rfl
    | 2, _ => rfl
    | 3, _ => rfl
    | 4, _ => rfl
  · rw [List.getElem?_eq_none (by rw [Array.length_toList, size_madeCells]; omega), List.getElem?_eq_none (by rw [List.toList_toArray, rz5_len, List.length_replicate]; omega)]
/-- make([]api.Row, n) -/
theorem mk_rows (n : Nat) (hn : n ≤ 2932031007320) : ∃ M : List Value, (∀ u : World, (Instr.makeSlice 22 (.int .i64 (n : Int)) (.int .i64 (n : Int))).run Tryz.prog u = .ok (.slice (some ⟨u.heap.size, 0, none⟩) n n) (u.alloc (.cells M.toArray 46))) ∧ M = (List.replicate n rz0).flatMap rz5 := by
  obtain ⟨i0, hi, hz0, hz1, hz2⟩ := info_parts info46
  refine ⟨_, fun u => ?_, rfl⟩
  have h := run_make (P := Tryz.prog) u 22 46 i0 (.agg #[.int .i64 0, .string ⟨#[]⟩, .int .i64 0, .int .i64 0, .int .i64 0]) Tryz.underlying22 hi hz0 .i64 .i64 (n : Int) (n : Int) (by omega) (Int.le_refl _) (by rw [hz2]; omega) (by omega)
  have e : (n : Int).toNat = n := by omega
  rw [e, hz1] at h
  refine h.trans ?_
  have key : madeCells (Value.agg #[.int .i64 0, .string ⟨#[]⟩, .int .i64 0, .int .i64 0, .int .i64 0]).cells (n * 5) = ((List.replicate n rz0).flatMap rz5).toArray := mk_cells n
  rw [key]
end Go.Proofs.YtgiilaaoeefpmaaGreat.Gr

namespace Go.Proofs.YtgiilaaoeefpmaaGreat.Gr
open Go.RowKit Go.Proofs.YtgiilaaoeefpmaaGreat.Sp Go.Proofs.YtgiilaaoeefpmaaGreat.Lx

def fill (l : List Rz) (k : Nat) : List Rz := l ++ (List.replicate k mk7 ++ List.replicate (3 - k) rz0)
theorem fill_at (l : List Rz) (k : Nat) (hk : k < 3) : (fill l k)[l.length + k]? = some rz0 := by
  unfold fill
  rw [List.getElem?_append_right (by omega), show l.length + k - l.length = k by omega]
  match k, hk with
  | 0, _ => rfl
  | 1, _ => rfl
  | 2, _ => rfl
theorem fill_set (l : List Rz) (k : Nat) (hk : k < 3) : (fill l k).set (l.length + k) mk7 = fill l (k + 1) := by
  unfold fill
  rw [List.set_append_right _ _ (by omega), show l.length + k - l.length = k by omega]
  congr 1
  match k, hk with
  | 0, _ => rfl
  | 1, _ => rfl
  | 2, _ => rfl
theorem copied_rows (ao : Option Addr) (l : List Rz) (cap : Nat) (w : World) (M : List Value) (hM : M = (List.replicate (l.length + 3) rz0).flatMap rz5) (h : IsRz w ao l) :
    ∃ W2, (Builtin.copy_ #[22, 22] 3 #[.slice (some ⟨w.heap.size, 0, none⟩) (l.length + 3) (l.length + 3), .slice ao l.length cap]).run Tryz.prog (w.alloc (.cells M.toArray 46)) = .ok (goInt l.length) W2 ∧
      RowZ W2 w.heap.size (fill l 0) ∧ Below w.heap.size w W2 := by
  obtain ⟨i0, hi, hz0, hz1, hz2⟩ := info_parts info46
  have hB : Below w.heap.size w (w.alloc (.cells M.toArray 46)) := (Below.refl _ w).alloc (Nat.le_refl _) _
  by_cases h0 : l.length = 0
  · obtain rfl : l = [] := List.eq_nil_of_length_eq_zero h0
    refine ⟨w.alloc (.cells M.toArray 46), ?_, ?_, hB⟩
    · simp [Builtin.copy_, run_underlying Tryz.underlying22, Builtin.lenOf, Builtin.firstCells, sizeOf, typeInfo, hi]
      cases ao <;> simp [storeCells, loadCells, go_sem]
    · show _ = _
      rw [heap_alloc_new, hM]
      rfl
  · obtain ⟨g, o, rfl, hg, hc⟩ := h.cells (by omega)
    have hr := run_copy_rows (P := Tryz.prog) (w.alloc (.cells M.toArray 46)) 22 22 3 46 i0 hi w.heap.size 0 (l.length + 3) (l.length + 3) ⟨g, o, none⟩ l.length cap l.length (Nat.min_eq_left (by omega)) M 46 (l.flatMap rz5) Tryz.underlying22 (heap_alloc_new w _)
      (by rw [rz5_len, hz1]) (fun j v hv => by
        have h1 := hc j v hv
        rw [Lib.addr_add] at h1 ⊢
        exact (World.cell?_of_block (a := ⟨g, o + j, none⟩) (Below.heap_alloc w _ g hg)).trans h1) (by rw [rz5_len, hM, rz5_len, List.length_replicate]; omega) (rz5_one l)
    refine ⟨_, hr, ?_, below_setRow hB (Nat.le_refl _) _⟩
    have this : ∀ n, ((List.replicate (n + 3) rz0).flatMap rz5).drop (n * 5) = (List.replicate 3 rz0).flatMap rz5 := by
      intro n
      induction n with
      | zero => rfl
      | succ n ih =>
        rw [show n + 1 + 3 = (n + 3) + 1 by omega, List.replicate_succ, List.flatMap_cons, show (n + 1) * 5 = (rz5 rz0).length + n * 5 by show _ = 5 + _; omega, List.drop_length_add_append, ih]
    have key : splice M 0 (l.flatMap rz5) = (fill l 0).flatMap rz5 := by
      unfold splice fill
      rw [List.take_zero, List.nil_append, List.flatMap_append, Nat.zero_add, rz5_len, hM, this]
      rfl
    have h5 := setRow_heap (w.alloc (.cells M.toArray 46)) w.heap.size M.toArray (splice M 0 (l.flatMap rz5)).toArray 46 (0, 0) (heap_alloc_new w _)
    rw [key] at h5
    unfold RowZ
    rw [key]
    exact h5

set_option maxHeartbeats 3200000 in
set_option maxRecDepth 100000 in
theorem lendRows_any (ao : Option Addr) (l : List Rz) (cap : Nat) (w : World) (h : IsRz w ao l) (hn : l.length ≤ 2932031007317) :
    Calls Tryz.prog 6 #[.slice ao l.length cap] w fun e w' => e = .returned (.slice (some ⟨w.heap.size, 0, none⟩) l.length (l.length + 3)) ∧ RowZ w' w.heap.size (fill l 3) ∧ Below w.heap.size w w' := by
  obtain ⟨M, hmk, hM⟩ := mk_rows (l.length + 3) (by omega)
  have hmk2 : ∀ u : World, (Instr.makeSlice 22 (.int .i64 ((l.length : Int) + 3)) (.int .i64 ((l.length : Int) + 3))).run Tryz.prog u = .ok (.slice (some ⟨u.heap.size, 0, none⟩) (l.length + 3) (l.length + 3)) (u.alloc (.cells M.toArray 46)) := fun u => by
    have := hmk u
    rw [show ((l.length + 3 : Nat) : Int) = (l.length : Int) + 3 by omega] at this
    exact this
  obtain ⟨W2, hcp, hR, hB⟩ := copied_rows ao l cap w M hM h
  have H0 : Hid (RowZ W2 w.heap.size (fill l 0) ∧ Below w.heap.size w W2) := ⟨hR, hB⟩
  have hln : (l.length : Int) ≤ 2932031007317 := by omega
  clear hmk hM h hn hR hB
  go_enter Tryz.func6, Tryz.ntmps6
  go_wp2_with fail
  go_loopg [4] 3 (fun gq i wr => ∃ k : Nat, k ≤ 3 ∧ gq = 3 - k ∧ i = .int .i64 ((l.length : Int) + k) ∧ RowZ wr w.heap.size (fill l k) ∧ Below w.heap.size w wr)
  case atStart => exact ⟨0, by omega, rfl, by go_num, H0.out.1, H0.out.2⟩
  case round =>
    obtain ⟨k, hk, hgk, rfl, hR, hB⟩ := hrel
    have HG : Hid (gk = 3 - k) := hgk
    have HR : Hid (RowZ wr w.heap.size (fill l k) ∧ Below w.heap.size w wr) := ⟨hR, hB⟩
    have hk3 : (k : Int) ≤ 3 := by omega
    clear hgk hB
    by_cases hlt : k < 3
    · have hlt' : (l.length : Int) + (k : Int) < (l.length : Int) + 3 := by omega
      obtain ⟨c0, c1, c2, c3, c4⟩ := hR.cells (fill_at l k hlt)
      have hf := hR.frozen
      have hs := hR.set (fill_at l k hlt) mk7
      rw [fill_set l k hlt] at hs
      have HS : Hid (RowZ (storeRow wr w.heap.size (l.length + k) mk7) w.heap.size (fill l (k + 1))) := hs
      have htn : ((l.length : Int) + (k : Int)).toNat = l.length + k := by omega
      have hcast : ((l.length + k : Nat) : Int) = (l.length : Int) + (k : Int) := by omega
      clear hR hs hlt
      rw [← hcast] at hlt' ⊢
      go_wp2_with fail
      go_roundg (3 - (k + 1))
      case measure => have h1 := HG.out; omega
      case rel => exact ⟨k + 1, by omega, rfl, by go_num, HS.out, ((((HR.out.2.setCell (p := ⟨w.heap.size, (l.length + k) * 5, none⟩) (Nat.le_refl _) _).setCell (p := ⟨w.heap.size, (l.length + k) * 5 + 1, none⟩) (Nat.le_refl _) _).setCell (p := ⟨w.heap.size, (l.length + k) * 5 + 2, none⟩) (Nat.le_refl _) _).setCell (p := ⟨w.heap.size, (l.length + k) * 5 + 3, none⟩) (Nat.le_refl _) _).setCell (p := ⟨w.heap.size, (l.length + k) * 5 + 4, none⟩) (Nat.le_refl _) _⟩
    · have hlt' : ¬ ((l.length : Int) + (k : Int) < (l.length : Int) + 3) := by omega
      have hke : k = 3 := by omega
      have HF : Hid (RowZ wr w.heap.size (fill l 3) ∧ Below w.heap.size w wr) := by rw [hke] at HR; exact HR
      clear hR hke hlt
      go_wp2_with fail
      go_ret
      exact ⟨rfl, HF.out⟩
end Go.Proofs.YtgiilaaoeefpmaaGreat.Gr

namespace Go.Proofs.YtgiilaaoeefpmaaGreat.Gr
open Go.RowKit Go.Proofs.YtgiilaaoeefpmaaGreat.Sp Go.Proofs.YtgiilaaoeefpmaaGreat.Lx

set_option maxHeartbeats 1600000 in
set_option maxRecDepth 100000 in
theorem sameZ_any (ao bo : Option Addr) (l : List Rz) (ca cb : Nat) (w : World) (h1 : IsRz w ao l) (h2 : IsRz w bo l) (hn : l.length ≤ 2932031007317) :
    Calls Tryz.prog 21 #[.slice ao l.length ca, .slice bo l.length cb] w fun e w' => e = .returned (.bool true) ∧ Below w.heap.size w w' := by
  have H1 : Hid (IsRz w ao l) := h1
  have H2 : Hid (IsRz w bo l) := h2
  have hln : (l.length : Int) ≤ 2932031007317 := by omega
  clear h1 h2 hn
  have hne : ((l.length : Int) != (l.length : Int)) = false := by simp
  go_enter Tryz.func21, Tryz.ntmps21
  go_wp2
  go_loopw [5] (fun i wr => ∃ k : Nat, k ≤ l.length ∧ i = .int .i64 k ∧ Below w.heap.size w wr) (fun i _ => l.length - (intOf i).toNat)
  case atStart => exact ⟨0, Nat.zero_le _, rfl, Below.refl _ _⟩
  case round =>
    obtain ⟨k, hk, rfl, hB⟩ := hrel
    have HB : Hid (Below w.heap.size w wr) := hB
    clear hB
    by_cases hlt : k < l.length
    · obtain ⟨x, hx⟩ : ∃ x, l[k]? = some x := ⟨_, List.getElem?_eq_getElem hlt⟩
      obtain ⟨g1, o1, rfl, hg1, a0, a1, a2, a3, a4⟩ := (H1.out.below HB.out) k x hx
      obtain ⟨g2, o2, rfl, hg2, b0, b1, b2, b3, b4⟩ := (H2.out.below HB.out) k x hx
      obtain ⟨kd, nm, e, m, c⟩ := x
      clear hx
      simp only at a0 a1 a2 a3 a4 b0 b1 b2 b3 b4
      go_wp2_with fail
      go_quiet (fail)
      go_wp2
      go_roundw
      case rel => exact ⟨k + 1, by omega, by go_num, HB.out.trans ((Go.Proofs.YtgiilaaoeefpmaaGreat.Lx.below_drewN _ _).mono HB.out.size)⟩
      case measure => simp [intOf]; omega
    · have hd : decide ((k : Int) < (l.length : Int)) = false := by simp; omega
      go_wp2
      go_ret
      exact ⟨rfl, HB.out⟩

set_option maxHeartbeats 1600000 in
set_option maxRecDepth 100000 in
theorem keptRows_any (g : Nat) (bo : Option Addr) (l : List Rz) (cb : Nat) (w : World) (h1 : RowZ w g (l ++ [mk7, mk7, mk7])) (h2 : IsRz w bo l) (hn : l.length ≤ 2932031007317) :
    Calls Tryz.prog 9 #[.slice (some ⟨g, 0, none⟩) l.length (l.length + 3), .slice bo l.length cb] w fun e w' => e = .returned (.bool true) ∧ Below w.heap.size w w' := by
  have H1 : Hid (RowZ w g (l ++ [mk7, mk7, mk7])) := h1
  have HS : Hid (∀ W, Below w.heap.size w W → Calls Tryz.prog 21 #[.slice (some ⟨g, 0, none⟩) l.length (l.length + 3), .slice bo l.length cb] W fun e w' => e = .returned (.bool true) ∧ Below W.heap.size W w') := fun W hW => sameZ_any _ _ l _ _ W (h1.reads.below hW) (h2.below hW) hn
  have hln : (l.length : Int) ≤ 2932031007317 := by omega
  clear h1 h2 hn
  go_enter Tryz.func9, Tryz.ntmps9
  go_wp2_with fail
  go_loopg [6] 3 (fun gq i wr => ∃ k : Nat, k ≤ 3 ∧ gq = 3 - k ∧ i = .int .i64 ((l.length : Int) + k) ∧ Below w.heap.size w wr)
  case atStart => exact ⟨0, by omega, rfl, by go_num, Below.refl _ _⟩
  case round =>
    obtain ⟨k, hk, hgk, rfl, hB⟩ := hrel
    have HG : Hid (gk = 3 - k) := hgk
    have HB : Hid (Below w.heap.size w wr) := hB
    have hk3 : (k : Int) ≤ 3 := by omega
    clear hgk hB
    by_cases hlt : k < 3
    · have hlt' : (l.length : Int) + (k : Int) < (l.length : Int) + 3 := by omega
      have hat : (l ++ [mk7, mk7, mk7])[l.length + k]? = some mk7 := by
        rw [List.getElem?_append_right (by omega), show l.length + k - l.length = k by omega]
        match k, hlt with
        | 0, _ => rfl
        | 1, _ => rfl
        | 2, _ => rfl
      obtain ⟨c0, c1, c2, c3, c4⟩ := (H1.out.below HB.out H1.out.lt).cells hat
      have hcast : ((l.length + k : Nat) : Int) = (l.length : Int) + (k : Int) := by omega
      simp only [mk7] at c0 c1 c2 c3 c4
      clear hat hlt
      rw [← hcast] at hlt' ⊢
      go_wp2_with fail
      go_roundg (3 - (k + 1))
      case measure => have h1 := HG.out; omega
      case rel => exact ⟨k + 1, by omega, rfl, by go_num, HB.out⟩
    · have hlt' : ¬ ((l.length : Int) + (k : Int) < (l.length : Int) + 3) := by omega
      clear hlt
      go_wp2_with fail
      refine (HS.out wr HB.out).mono ?_
      rintro e w9 ⟨rfl, hB9⟩
      have HB9 : Hid (Below w.heap.size w w9) := HB.out.trans (hB9.mono HB.out.size)
      clear hB9
      go_wp2_with fail
      go_ret
      exact ⟨rfl, HB9.out⟩
end Go.Proofs.YtgiilaaoeefpmaaGreat.Gr
