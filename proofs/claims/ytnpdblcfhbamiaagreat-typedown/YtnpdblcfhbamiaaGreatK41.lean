import Derived.Test.YtnpdblcfhbamiaaGreatK40
set_option maxHeartbeats 51200000
set_option maxRecDepth 100000
namespace Go.Proofs.YtnpdblcfhbamiaaGreat.Nm.Ty
open Go.RowKit Go.Maps Go.Proofs.YtnpdblcfhbamiaaGreat.Sp Go.Proofs.YtnpdblcfhbamiaaGreat.Lx Go.Proofs.YtnpdblcfhbamiaaGreat.Gr Go.Proofs.YtnpdblcfhbamiaaGreat.Nm
theorem zr8 {u : World} {B : Nat} {v0 v1 v2 v3 v4 v5 v6 v7 : Value} (h : u.heap[B]? = some (.cells #[v0, v1, v2, v3, v4, v5, v6, v7] 30 (0, 0))) : u.cell? ⟨B, 0, none⟩ = some v0 ∧ u.cell? ⟨B, 1, none⟩ = some v1 ∧ u.cell? ⟨B, 2, none⟩ = some v2 ∧ u.cell? ⟨B, 3, none⟩ = some v3 ∧ u.cell? ⟨B, 4, none⟩ = some v4 ∧ u.cell? ⟨B, 5, none⟩ = some v5 ∧ u.cell? ⟨B, 6, none⟩ = some v6 ∧ u.cell? ⟨B, 7, none⟩ = some v7 := by
  refine ⟨?_, ?_, ?_, ?_, ?_, ?_, ?_, ?_⟩
  all_goals
    simp only [World.cell?, h]
    rfl
theorem zr8f {u : World} {B : Nat} {cs : Array Value} {T : TypeId} (h : u.heap[B]? = some (.cells cs T (0, 0))) (j : Nat) : u.frozen? ⟨B, j, none⟩ = false := by simp [World.frozen?, h]
theorem pt8L {n : Nat} {w wx : World} {B : Nat} {v0 v1 v2 v3 v4 v5 v6 v7 : Value} (hb : Below n w wx) (hB : n ≤ B) (hz : wx.heap[B]? = some (.cells #[.string ⟨#[]⟩, pz, pz, pz, pz, pz, pz, .int .i64 0] 30 (0, 0))) : ((((((((wx.setCell ⟨B, 0, none⟩ v0).setCell ⟨B, 1, none⟩ v1).setCell ⟨B, 2, none⟩ v2).setCell ⟨B, 3, none⟩ v3).setCell ⟨B, 4, none⟩ v4).setCell ⟨B, 5, none⟩ v5).setCell ⟨B, 6, none⟩ v6).setCell ⟨B, 7, none⟩ v7).heap[B]? = some (.cells #[v0, v1, v2, v3, v4, v5, v6, v7] 30 (0, 0)) ∧ Below n w ((((((((wx.setCell ⟨B, 0, none⟩ v0).setCell ⟨B, 1, none⟩ v1).setCell ⟨B, 2, none⟩ v2).setCell ⟨B, 3, none⟩ v3).setCell ⟨B, 4, none⟩ v4).setCell ⟨B, 5, none⟩ v5).setCell ⟨B, 6, none⟩ v6).setCell ⟨B, 7, none⟩ v7) ∧ ∀ k, k ≠ B → ((((((((wx.setCell ⟨B, 0, none⟩ v0).setCell ⟨B, 1, none⟩ v1).setCell ⟨B, 2, none⟩ v2).setCell ⟨B, 3, none⟩ v3).setCell ⟨B, 4, none⟩ v4).setCell ⟨B, 5, none⟩ v5).setCell ⟨B, 6, none⟩ v6).setCell ⟨B, 7, none⟩ v7).heap[k]? = wx.heap[k]? := by
  have h0 := set_at hz v0 (cs' := #[v0, pz, pz, pz, pz, pz, pz, .int .i64 0]) (i := 0) rfl
  have h1 := set_at h0 v1 (cs' := #[v0, v1, pz, pz, pz, pz, pz, .int .i64 0]) (i := 1) rfl
  have h2 := set_at h1 v2 (cs' := #[v0, v1, v2, pz, pz, pz, pz, .int .i64 0]) (i := 2) rfl
  have h3 := set_at h2 v3 (cs' := #[v0, v1, v2, v3, pz, pz, pz, .int .i64 0]) (i := 3) rfl
  have h4 := set_at h3 v4 (cs' := #[v0, v1, v2, v3, v4, pz, pz, .int .i64 0]) (i := 4) rfl
  have h5 := set_at h4 v5 (cs' := #[v0, v1, v2, v3, v4, v5, pz, .int .i64 0]) (i := 5) rfl
  have h6 := set_at h5 v6 (cs' := #[v0, v1, v2, v3, v4, v5, v6, .int .i64 0]) (i := 6) rfl
  have h7 := set_at h6 v7 (cs' := #[v0, v1, v2, v3, v4, v5, v6, v7]) (i := 7) rfl
  have hne : ∀ k, k ≠ B → ((((((((wx.setCell ⟨B, 0, none⟩ v0).setCell ⟨B, 1, none⟩ v1).setCell ⟨B, 2, none⟩ v2).setCell ⟨B, 3, none⟩ v3).setCell ⟨B, 4, none⟩ v4).setCell ⟨B, 5, none⟩ v5).setCell ⟨B, 6, none⟩ v6).setCell ⟨B, 7, none⟩ v7).heap[k]? = wx.heap[k]? := fun k hk => by
    have hp : ∀ (u : World) (i : Nat) (v : Value), (u.setCell ⟨B, i, none⟩ v).heap[k]? = u.heap[k]? := fun u i v => Below.heap_setCell u _ v _ (fun e => hk e)
    rw [hp, hp, hp, hp, hp, hp, hp, hp]
  exact ⟨h7, (below_set (below_set (below_set (below_set (below_set (below_set (below_set (below_set hb hB 0 v0) hB 1 v1) hB 2 v2) hB 3 v3) hB 4 v4) hB 5 v5) hB 6 v6) hB 7 v7), hne⟩
/-- a queue of no name -/
def qz0 : ByteArray × Bool := (⟨#[]⟩, false)
theorem qF_app (a b : List (ByteArray × Bool)) : qF (a ++ b) = qF a ++ qF b := by simp [qF]
theorem qF_rep (n k : Nat) : (qF (List.replicate (n + k) qz0)).drop (n * 2) = qF (List.replicate k qz0) := by
  rw [← List.replicate_append_replicate, qF_app]
  exact List.drop_left' (by rw [qF_len, List.length_replicate])
theorem qF_two (l : List (ByteArray × Bool)) (i : Nat) (q : ByteArray × Bool) (h : l[i]? = some q) : (qF l)[i * 2]? = some (.string q.1) ∧ (qF l)[i * 2 + 1]? = some (.bool q.2) := by
  induction l generalizing i with
  | nil => simp at h
  | cons y l ih =>
    have e : qF (y :: l) = .string y.1 :: .bool y.2 :: qF l := by simp [qF]
    rw [e]
    cases i with
    | zero =>
      simp at h
      subst h
      simp
    | succ i =>
      obtain ⟨a, b⟩ := ih i (by simpa using h)
      rw [show (i + 1) * 2 = i * 2 + 1 + 1 by omega]
      exact ⟨by simpa using a, by simpa using b⟩
theorem mq_cells (n : Nat) : madeCells (Value.agg #[.string ByteArray.empty, .bool false]).cells (n * 2) = (qF (List.replicate n qz0)).toArray := by
  apply Array.ext'
  apply List.ext_getElem?
  intro j
  have e1 : (Value.agg #[.string ByteArray.empty, .bool false]).cells = #[.string ByteArray.empty, .bool false] := rfl
  rw [e1]
  by_cases hj : j < n * 2
  · obtain ⟨h0, h1⟩ := qF_two (List.replicate n qz0) (j / 2) qz0 (by rw [List.getElem?_replicate, if_pos (by omega)])
    rw [List.toList_toArray, Array.getElem?_toList]
    rcases Nat.mod_two_eq_zero_or_one j with e | e
    · rw [show j / 2 * 2 = j by omega] at h0
      rw [h0]
      simp [madeCells, hj, e]
      rfl
    · rw [show j / 2 * 2 + 1 = j by omega] at h1
      rw [h1]
      simp [madeCells, hj, e]
      rfl
  · rw [List.getElem?_eq_none (by rw [Array.length_toList, size_madeCells]; omega), List.getElem?_eq_none (by rw [List.toList_toArray, qF_len, List.length_replicate]; omega)]
/-- make([]api.Queue, n) -/
theorem mk_que (n : Nat) (hn : n ≤ 5864062014640) (u : World) : (Instr.makeSlice 27 (.int .i64 (n : Int)) (.int .i64 (n : Int))).run Tryz.prog u = .ok (.slice (some ⟨u.heap.size, 0, none⟩) n n) (u.alloc (.cells (qF (List.replicate n qz0)).toArray 115)) := by
  obtain ⟨i0, hi, hz0, hz1, hz2⟩ := info_parts infoQ
  have h := run_make (P := Tryz.prog) u 27 115 i0 (.agg #[.string ByteArray.empty, .bool false]) Tryz.underlying27 hi hz0 .i64 .i64 (n : Int) (n : Int) (by omega) (Int.le_refl _) (by rw [hz2]; omega) (by omega)
  have e : (n : Int).toNat = n := by omega
  rw [e, hz1, mq_cells] at h
  exact h
/-- make([]string, n) -/
theorem mk_str (n : Nat) (hn : n ≤ 8796093022000) (u : World) : (Instr.makeSlice 28 (.int .i64 (n : Int)) (.int .i64 (n : Int))).run Tryz.prog u = .ok (.slice (some ⟨u.heap.size, 0, none⟩) n n) (u.alloc (.cells ((List.replicate n (⟨#[]⟩ : ByteArray)).map Value.string).toArray 9)) := by
  obtain ⟨i0, hi, hz0, hz1, hz2⟩ := info_parts infoS
  have h := run_make (P := Tryz.prog) u 28 9 i0 (.string ByteArray.empty) Tryz.underlying28 hi hz0 .i64 .i64 (n : Int) (n : Int) (by omega) (Int.le_refl _) (by rw [hz2]; omega) (by omega)
  have e : (n : Int).toNat = n := by omega
  have e2 : madeCells (Value.string ByteArray.empty).cells (n * 1) = ((List.replicate n (⟨#[]⟩ : ByteArray)).map Value.string).toArray := by
    rw [Nat.mul_one]
    apply Array.ext
    · simp [madeCells]
    · intro k h1 h2
      simp [madeCells, Value.cells, Nat.mod_one]
      rfl
  rw [e, hz1, e2] at h
  exact h
theorem str_rep (l : List ByteArray) (k : Nat) : l.map Value.string ++ ((List.replicate (l.length + k) (⟨#[]⟩ : ByteArray)).map Value.string).drop (l.length * 1) = (l ++ List.replicate k (⟨#[]⟩ : ByteArray)).map Value.string := by
  rw [List.map_append, Nat.mul_one]
  congr 1
  rw [List.map_replicate, List.map_replicate, List.drop_replicate]
  congr 1
  omega
theorem blk_own {u : World} {g base n sz : Nat} {T : TypeId} {xs : List Value} (h : u.heap[g]? = some (.cells xs.toArray T (0, 0))) (hl : xs.length = n * sz) (hb : base ≤ g) (hn : n ≤ maxLen) : u.ownsRow base T sz (.slice (some ⟨g, 0, none⟩) n n) n xs :=
  own_mk (cur := xs) hl hb h (Nat.le_refl _) hn hl (by rw [← hl, List.take_length])
abbrev los8 (p : Pg) (g gq gv gt gu go : Nat) : List Ow := [⟨1, 51, 5, .slice (some ⟨g, 0, none⟩) (p.rows.length + 9) (p.rows.length + 9), p.rows.length + 9, (fillL p.rows 9).flatMap rz5⟩, ⟨2, 115, 2, .slice (some ⟨gq, 0, none⟩) (p.qs.length + 3) (p.qs.length + 3), p.qs.length + 3, qF (p.qs ++ List.replicate 3 qz0)⟩, ⟨3, 9, 1, .slice (some ⟨gv, 0, none⟩) (p.vs.length + 3) (p.vs.length + 3), p.vs.length + 3, (p.vs ++ List.replicate 3 (⟨#[]⟩ : ByteArray)).map Value.string⟩, ⟨4, 9, 1, .slice (some ⟨gt, 0, none⟩) (p.ts.length + 3) (p.ts.length + 3), p.ts.length + 3, (p.ts ++ List.replicate 3 (⟨#[]⟩ : ByteArray)).map Value.string⟩, ⟨5, 3, 1, .slice (some ⟨gu, 0, none⟩) (p.us.length + 5) (p.us.length + 5), p.us.length + 5, iv (fillI p.us 5)⟩, ⟨6, 3, 1, .slice (some ⟨go, 0, none⟩) (p.on.length + 5) (p.on.length + 5), p.on.length + 5, iv (fillI p.on 5)⟩]
abbrev lent8 (p : Pg) (g gq gv gt gu go : Nat) : Value := .agg #[.string p.name, .slice (some ⟨g, 0, none⟩) p.rows.length (p.rows.length + 9), .slice (some ⟨gq, 0, none⟩) p.qs.length (p.qs.length + 3), .slice (some ⟨gv, 0, none⟩) p.vs.length (p.vs.length + 3), .slice (some ⟨gt, 0, none⟩) p.ts.length (p.ts.length + 3), .slice (some ⟨gu, 0, none⟩) p.us.length (p.us.length + 5), .slice (some ⟨go, 0, none⟩) p.on.length (p.on.length + 5), .int .i64 p.miss]
/-- a policy lent -/
theorem lend8 {w : World} {p : Pg} {ao qo vo tto uo oo : Option Addr} {ac qc vc tc uc oc : Nat} (h : RdG w p ao qo vo tto uo oo) (h0 : p.rows.length ≤ 2932031007317) (h2 : p.qs.length ≤ 5864062014634) (h3 : p.vs.length ≤ 8796093021952) (h4 : p.ts.length ≤ 8796093021952) (h5 : p.us.length ≤ 17592186043904) (h6 : p.on.length ≤ 17592186043904) :
    Calls Tryz.prog 11 #[pvG p ao qo vo tto uo oo ac qc vc tc uc oc] w fun e w' => ∃ g gq gv gt gu go, e = .returned (lent8 p g gq gv gt gu go) ∧ Ls w' w.heap.size (los8 p g gq gv gt gu go) ∧ Below w.heap.size w w' := by
  dsimp only [pvG]
  obtain ⟨iq, hiq, hzq0, hzq1, hzq2⟩ := info_parts infoQ
  obtain ⟨is, his, hzs0, hzs1, hzs2⟩ := info_parts infoS
  have HD : Hid (RdG w p ao qo vo tto uo oo ∧ p.rows.length ≤ 2932031007317) := ⟨h, h0⟩
  have HN : Hid (p.qs.length ≤ 5864062014634 ∧ p.vs.length ≤ 8796093021952 ∧ p.ts.length ≤ 8796093021952 ∧ p.us.length ≤ 17592186043904 ∧ p.on.length ≤ 17592186043904) := ⟨h2, h3, h4, h5, h6⟩
  have hn1 : (p.rows.length : Int) ≤ 2932031007317 := by omega
  have hn2 : (p.qs.length : Int) ≤ 5864062014634 := by omega
  have hn3 : (p.vs.length : Int) ≤ 8796093021952 := by omega
  have hn4 : (p.ts.length : Int) ≤ 8796093021952 := by omega
  have hbP : Below w.heap.size w (((w.alloc (.cells #[.string p.name, .slice ao p.rows.length ac, .slice qo p.qs.length qc, .slice vo p.vs.length vc, .slice tto p.ts.length tc, .slice uo p.us.length uc, .slice oo p.on.length oc, .int .i64 p.miss] 30)).alloc (.cells #[.string ⟨#[]⟩, pz, pz, pz, pz, pz, pz, .int .i64 0] 30)).alloc (.cells #[.string p.name, pz, pz, pz, pz, pz, pz, .int .i64 p.miss] 30)) := (((Below.refl _ w).alloc (Nat.le_refl _) _).alloc (by simp) _).alloc (by simp; omega) _
  have HQ : Hid (Lq w ((((w.alloc (.cells #[.string p.name, .slice ao p.rows.length ac, .slice qo p.qs.length qc, .slice vo p.vs.length vc, .slice tto p.ts.length tc, .slice uo p.us.length uc, .slice oo p.on.length oc, .int .i64 p.miss] 30)).alloc (.cells #[.string ⟨#[]⟩, pz, pz, pz, pz, pz, pz, .int .i64 0] 30)).alloc (.cells #[.string p.name, pz, pz, pz, pz, pz, pz, .int .i64 p.miss] 30))) #[.string p.name, .slice ao p.rows.length ac, .slice qo p.qs.length qc, .slice vo p.vs.length vc, .slice tto p.ts.length tc, .slice uo p.us.length uc, .slice oo p.on.length oc, .int .i64 p.miss] (w.heap.size + 1 + 1) #[.string p.name, pz, pz, pz, pz, pz, pz, .int .i64 p.miss] []) := ⟨by rw [alloc_old _ _ _ (by simp)]; exact alloc_at _ _ _ (by simp), by rw [alloc_old _ _ _ (by simp; omega), alloc_old _ _ _ (by simp)]; exact alloc_at _ _ _ rfl, alloc_at _ _ _ (by simp), hbP, by omega, fun o ho => (by cases ho), List.Pairwise.nil, fun o ho => (by cases ho)⟩
  clear h h0 h2 h3 h4 h5 h6 hbP
  go_enter Tryz.func11, Tryz.ntmps11
  go_upto_region 2 with fail
  generalize (((w.alloc (.cells #[.string p.name, .slice ao p.rows.length ac, .slice qo p.qs.length qc, .slice vo p.vs.length vc, .slice tto p.ts.length tc, .slice uo p.us.length uc, .slice oo p.on.length oc, .int .i64 p.miss] 30)).alloc (.cells #[.string ⟨#[]⟩, pz, pz, pz, pz, pz, pz, .int .i64 0] 30)).alloc (.cells #[.string p.name, pz, pz, pz, pz, pz, pz, .int .i64 p.miss] 30)) = w3 at *
  have u1 := HQ.out.cellp 1 _ rfl
  obtain ⟨M, hmk, hM⟩ := mk_rows (p.rows.length + 9) (by have := HD.out.2; omega)
  have hmk2 : ∀ u : World, (Instr.makeSlice 22 (.int .i64 ((p.rows.length : Int) + 9)) (.int .i64 ((p.rows.length : Int) + 9))).run Tryz.prog u = .ok (.slice (some ⟨u.heap.size, 0, none⟩) (p.rows.length + 9) (p.rows.length + 9)) (u.alloc (.cells M.toArray 51)) := fun u => by
    have := hmk u
    rw [show ((p.rows.length + 9 : Nat) : Int) = (p.rows.length : Int) + 9 by omega] at this
    exact this
  obtain ⟨W2, hcp, hR, hB⟩ := copied_rows ao p.rows ac w3 M hM (HD.out.1.r.below HQ.out.b)
  have u1a : (w3.alloc (.cells M.toArray 51)).cell? ⟨w.heap.size, 1, none⟩ = some (.slice ao p.rows.length ac) := (((Below.refl _ w3).alloc (Nat.le_refl _) _).cell (p := ⟨w.heap.size, 1, none⟩) (blk_lt HQ.out.p)).trans u1
  have u1b : W2.cell? ⟨w.heap.size, 1, none⟩ = some (.slice ao p.rows.length ac) := (hB.cell (p := ⟨w.heap.size, 1, none⟩) (blk_lt HQ.out.p)).trans u1
  have H0 : Hid (RowZ W2 w3.heap.size (fillL p.rows 0) ∧ Below w3.heap.size w3 W2) := ⟨hR, hB⟩
  clear hmk hM hR hB
  go_wp2_with fail
  clear u1 u1a u1b hmk2 hcp
  go_loopg [5] 9 (fun gq i wr => ∃ k : Nat, k ≤ 9 ∧ gq = 9 - k ∧ i = .int .i64 ((p.rows.length : Int) + k) ∧ RowZ wr w3.heap.size (fillL p.rows k) ∧ Below w3.heap.size w3 wr)
  case atStart => exact ⟨0, by omega, rfl, by go_num, H0.out.1, H0.out.2⟩
  case round =>
    obtain ⟨k, hk, hgk, rfl, hR, hB⟩ := hrel
    have HG : Hid (gk = 9 - k) := hgk
    have HR : Hid (RowZ wr w3.heap.size (fillL p.rows k) ∧ Below w3.heap.size w3 wr) := ⟨hR, hB⟩
    have hk3 : (k : Int) ≤ 9 := by omega
    clear hgk hB
    by_cases hlt : k < 9
    · have hlt' : (p.rows.length : Int) + (k : Int) < (p.rows.length : Int) + 9 := by omega
      obtain ⟨c0, c1, c2, c3, c4⟩ := hR.cells (fillL_at p.rows k hlt)
      have hf := hR.frozen
      have hs := hR.set (fillL_at p.rows k hlt) (mkL (p.rows.length + k))
      rw [fillL_set p.rows k hlt] at hs
      have HS : Hid (RowZ (storeRow wr w3.heap.size (p.rows.length + k) (mkL (p.rows.length + k))) w3.heap.size (fillL p.rows (k + 1))) := hs
      have htn : ((p.rows.length : Int) + (k : Int)).toNat = p.rows.length + k := by omega
      have hcast : ((p.rows.length + k : Nat) : Int) = (p.rows.length : Int) + (k : Int) := by omega
      clear hR hs hlt
      rw [← hcast] at hlt' ⊢
      go_wp2_with fail
      go_roundg (9 - (k + 1))
      case measure => have h1 := HG.out; omega
      case rel => exact ⟨k + 1, by omega, rfl, by go_num, HS.out, ((((HR.out.2.setCell (p := ⟨w3.heap.size, (p.rows.length + k) * 5, none⟩) (Nat.le_refl _) _).setCell (p := ⟨w3.heap.size, (p.rows.length + k) * 5 + 1, none⟩) (Nat.le_refl _) _).setCell (p := ⟨w3.heap.size, (p.rows.length + k) * 5 + 2, none⟩) (Nat.le_refl _) _).setCell (p := ⟨w3.heap.size, (p.rows.length + k) * 5 + 3, none⟩) (Nat.le_refl _) _).setCell (p := ⟨w3.heap.size, (p.rows.length + k) * 5 + 4, none⟩) (Nat.le_refl _) _⟩
    · have hlt' : ¬ ((p.rows.length : Int) + (k : Int) < (p.rows.length : Int) + 9) := by omega
      have hke : k = 9 := by omega
      have HF : Hid (RowZ wr w3.heap.size (fillL p.rows 9) ∧ Below w3.heap.size w3 wr) := by rw [hke] at HR; exact HR
      have hq5 := (HF.out.2.block _ (blk_lt HQ.out.q)).trans HQ.out.q
      have m0 : wr.cell? ⟨w.heap.size + 1 + 1, 1, none⟩ = some pz := by rw [World.cell?, hq5]; rfl
      have m1 : wr.frozen? ⟨w.heap.size + 1 + 1, 1, none⟩ = false := zr8f hq5 1
      have m2 := (HF.out.2.cell (p := ⟨w.heap.size, 1, none⟩) (blk_lt HQ.out.p)).trans (HQ.out.cellp 1 _ rfl)
      have hr := row_own (base := w3.heap.size) HF.out.1 (Nat.le_refl _) (by rw [fillL_len _ _ (Nat.le_refl _)]; have := HD.out.2; omega)
      rw [fillL_len _ _ (Nat.le_refl _)] at hr
      have hQ1 : Lq w (wr.setCell ⟨w.heap.size + 1 + 1, 1, none⟩ (.slice (some ⟨w3.heap.size, 0, none⟩) p.rows.length (p.rows.length + 9))) #[.string p.name, .slice ao p.rows.length ac, .slice qo p.qs.length qc, .slice vo p.vs.length vc, .slice tto p.ts.length tc, .slice uo p.us.length uc, .slice oo p.on.length oc, .int .i64 p.miss] (w.heap.size + 1 + 1) #[.string p.name, .slice (some ⟨w3.heap.size, 0, none⟩) p.rows.length (p.rows.length + 9), pz, pz, pz, pz, pz, .int .i64 p.miss] [⟨1, 51, 5, .slice (some ⟨w3.heap.size, 0, none⟩) (p.rows.length + 9) (p.rows.length + 9), p.rows.length + 9, (fillL p.rows 9).flatMap rz5⟩] := HQ.out.put HF.out.2 hr 1 (.slice (some ⟨w3.heap.size, 0, none⟩) p.rows.length (p.rows.length + 9))
      have HQ := show Hid _ from hQ1
      clear hq5 hr hQ1 hR hke hlt
      go_upto_region 9 with fail
      generalize wr.setCell ⟨w.heap.size + 1 + 1, 1, none⟩ (.slice (some ⟨w3.heap.size, 0, none⟩) p.rows.length (p.rows.length + 9)) = x0 at *
      clear m0 m1 m2 hlt' HF HR HG H0
      generalize w3.heap.size = g at *
      have u1 := HQ.out.cellp 2 _ rfl
      obtain ⟨M, hM⟩ : ∃ M, M = (qF (List.replicate (p.qs.length + 3) qz0)) := ⟨_, rfl⟩
      have hmk2 : ∀ u : World, (Instr.makeSlice 27 (.int .i64 ((p.qs.length : Int) + 3)) (.int .i64 ((p.qs.length : Int) + 3))).run Tryz.prog u = .ok (.slice (some ⟨u.heap.size, 0, none⟩) (p.qs.length + 3) (p.qs.length + 3)) (u.alloc (.cells M.toArray 115)) := fun u => by
        have := mk_que (p.qs.length + 3) (by have := HN.out; omega) u
        rw [show ((p.qs.length + 3 : Nat) : Int) = (p.qs.length : Int) + 3 by omega, ← hM] at this
        exact this
      obtain ⟨W2, hcp, hR, hB, _⟩ := copied_gen Tryz.underlying27 hiq hzq1 (size := 2) (by decide) qo p.qs.length 3 qc x0 M (qF p.qs) (by rw [hM]; rw [qF_len, List.length_replicate]) (HD.out.1.q.below HQ.out.b) (qF_len _) (qF_one _) 3
      have u1a : (x0.alloc (.cells M.toArray 115)).cell? ⟨w.heap.size, 2, none⟩ = some (.slice qo p.qs.length qc) := (((Below.refl _ x0).alloc (Nat.le_refl _) _).cell (p := ⟨w.heap.size, 2, none⟩) (blk_lt HQ.out.p)).trans u1
      have u1b : W2.cell? ⟨w.heap.size, 2, none⟩ = some (.slice qo p.qs.length qc) := (hB.cell (p := ⟨w.heap.size, 2, none⟩) (blk_lt HQ.out.p)).trans u1
      have hq5 := (hB.block _ (blk_lt HQ.out.q)).trans HQ.out.q
      have m0 : W2.cell? ⟨w.heap.size + 1 + 1, 2, none⟩ = some pz := by rw [World.cell?, hq5]; rfl
      have m1 : W2.frozen? ⟨w.heap.size + 1 + 1, 2, none⟩ = false := zr8f hq5 2
      rw [hM, qF_rep, ← qF_app] at hR
      have hr := blk_own (n := p.qs.length + 3) (sz := 2) (base := x0.heap.size) hR (by rw [qF_len]; simp) (Nat.le_refl _) (by have := HN.out; unfold maxLen; omega)
      have hQ1 : Lq w (W2.setCell ⟨w.heap.size + 1 + 1, 2, none⟩ (.slice (some ⟨x0.heap.size, 0, none⟩) p.qs.length (p.qs.length + 3))) #[.string p.name, .slice ao p.rows.length ac, .slice qo p.qs.length qc, .slice vo p.vs.length vc, .slice tto p.ts.length tc, .slice uo p.us.length uc, .slice oo p.on.length oc, .int .i64 p.miss] (w.heap.size + 1 + 1) #[.string p.name, .slice (some ⟨g, 0, none⟩) p.rows.length (p.rows.length + 9), .slice (some ⟨x0.heap.size, 0, none⟩) p.qs.length (p.qs.length + 3), pz, pz, pz, pz, .int .i64 p.miss] [⟨1, 51, 5, .slice (some ⟨g, 0, none⟩) (p.rows.length + 9) (p.rows.length + 9), p.rows.length + 9, (fillL p.rows 9).flatMap rz5⟩, ⟨2, 115, 2, .slice (some ⟨x0.heap.size, 0, none⟩) (p.qs.length + 3) (p.qs.length + 3), p.qs.length + 3, qF (p.qs ++ List.replicate 3 qz0)⟩] := HQ.out.put hB hr 2 (.slice (some ⟨x0.heap.size, 0, none⟩) p.qs.length (p.qs.length + 3))
      have HQ := show Hid _ from hQ1
      clear hq5 hr hQ1 hR hB hM
      go_upto_region 12 with fail
      generalize W2.setCell ⟨w.heap.size + 1 + 1, 2, none⟩ (.slice (some ⟨x0.heap.size, 0, none⟩) p.qs.length (p.qs.length + 3)) = x1 at *
      clear m0 m1 u1 u1a u1b hmk2 hcp
      generalize x0.heap.size = gq at *
      have u1 := HQ.out.cellp 3 _ rfl
      obtain ⟨M, hM⟩ : ∃ M, M = ((List.replicate (p.vs.length + 3) (⟨#[]⟩ : ByteArray)).map Value.string) := ⟨_, rfl⟩
      have hmk2 : ∀ u : World, (Instr.makeSlice 28 (.int .i64 ((p.vs.length : Int) + 3)) (.int .i64 ((p.vs.length : Int) + 3))).run Tryz.prog u = .ok (.slice (some ⟨u.heap.size, 0, none⟩) (p.vs.length + 3) (p.vs.length + 3)) (u.alloc (.cells M.toArray 9)) := fun u => by
        have := mk_str (p.vs.length + 3) (by have := HN.out; omega) u
        rw [show ((p.vs.length + 3 : Nat) : Int) = (p.vs.length : Int) + 3 by omega, ← hM] at this
        exact this
      obtain ⟨W2, hcp, hR, hB, _⟩ := copied_gen Tryz.underlying28 his hzs1 (size := 1) (by decide) vo p.vs.length 3 vc x1 M (p.vs.map Value.string) (by rw [hM]; simp) (HD.out.1.v.below HQ.out.b) (by simp) (str_one _) 3
      have u1a : (x1.alloc (.cells M.toArray 9)).cell? ⟨w.heap.size, 3, none⟩ = some (.slice vo p.vs.length vc) := (((Below.refl _ x1).alloc (Nat.le_refl _) _).cell (p := ⟨w.heap.size, 3, none⟩) (blk_lt HQ.out.p)).trans u1
      have u1b : W2.cell? ⟨w.heap.size, 3, none⟩ = some (.slice vo p.vs.length vc) := (hB.cell (p := ⟨w.heap.size, 3, none⟩) (blk_lt HQ.out.p)).trans u1
      have hq5 := (hB.block _ (blk_lt HQ.out.q)).trans HQ.out.q
      have m0 : W2.cell? ⟨w.heap.size + 1 + 1, 3, none⟩ = some pz := by rw [World.cell?, hq5]; rfl
      have m1 : W2.frozen? ⟨w.heap.size + 1 + 1, 3, none⟩ = false := zr8f hq5 3
      rw [hM, str_rep] at hR
      have hr := blk_own (n := p.vs.length + 3) (sz := 1) (base := x1.heap.size) hR (by simp) (Nat.le_refl _) (by have := HN.out; unfold maxLen; omega)
      have hQ1 : Lq w (W2.setCell ⟨w.heap.size + 1 + 1, 3, none⟩ (.slice (some ⟨x1.heap.size, 0, none⟩) p.vs.length (p.vs.length + 3))) #[.string p.name, .slice ao p.rows.length ac, .slice qo p.qs.length qc, .slice vo p.vs.length vc, .slice tto p.ts.length tc, .slice uo p.us.length uc, .slice oo p.on.length oc, .int .i64 p.miss] (w.heap.size + 1 + 1) #[.string p.name, .slice (some ⟨g, 0, none⟩) p.rows.length (p.rows.length + 9), .slice (some ⟨gq, 0, none⟩) p.qs.length (p.qs.length + 3), .slice (some ⟨x1.heap.size, 0, none⟩) p.vs.length (p.vs.length + 3), pz, pz, pz, .int .i64 p.miss] [⟨1, 51, 5, .slice (some ⟨g, 0, none⟩) (p.rows.length + 9) (p.rows.length + 9), p.rows.length + 9, (fillL p.rows 9).flatMap rz5⟩, ⟨2, 115, 2, .slice (some ⟨gq, 0, none⟩) (p.qs.length + 3) (p.qs.length + 3), p.qs.length + 3, qF (p.qs ++ List.replicate 3 qz0)⟩, ⟨3, 9, 1, .slice (some ⟨x1.heap.size, 0, none⟩) (p.vs.length + 3) (p.vs.length + 3), p.vs.length + 3, (p.vs ++ List.replicate 3 (⟨#[]⟩ : ByteArray)).map Value.string⟩] := HQ.out.put hB hr 3 (.slice (some ⟨x1.heap.size, 0, none⟩) p.vs.length (p.vs.length + 3))
      have HQ := show Hid _ from hQ1
      clear hq5 hr hQ1 hR hB hM
      go_upto_region 15 with fail
      generalize W2.setCell ⟨w.heap.size + 1 + 1, 3, none⟩ (.slice (some ⟨x1.heap.size, 0, none⟩) p.vs.length (p.vs.length + 3)) = x2 at *
      clear m0 m1 u1 u1a u1b hmk2 hcp
      generalize x1.heap.size = gv at *
      have u1 := HQ.out.cellp 4 _ rfl
      obtain ⟨M, hM⟩ : ∃ M, M = ((List.replicate (p.ts.length + 3) (⟨#[]⟩ : ByteArray)).map Value.string) := ⟨_, rfl⟩
      have hmk2 : ∀ u : World, (Instr.makeSlice 28 (.int .i64 ((p.ts.length : Int) + 3)) (.int .i64 ((p.ts.length : Int) + 3))).run Tryz.prog u = .ok (.slice (some ⟨u.heap.size, 0, none⟩) (p.ts.length + 3) (p.ts.length + 3)) (u.alloc (.cells M.toArray 9)) := fun u => by
        have := mk_str (p.ts.length + 3) (by have := HN.out; omega) u
        rw [show ((p.ts.length + 3 : Nat) : Int) = (p.ts.length : Int) + 3 by omega, ← hM] at this
        exact this
      obtain ⟨W2, hcp, hR, hB, _⟩ := copied_gen Tryz.underlying28 his hzs1 (size := 1) (by decide) tto p.ts.length 3 tc x2 M (p.ts.map Value.string) (by rw [hM]; simp) (HD.out.1.t.below HQ.out.b) (by simp) (str_one _) 3
      have u1a : (x2.alloc (.cells M.toArray 9)).cell? ⟨w.heap.size, 4, none⟩ = some (.slice tto p.ts.length tc) := (((Below.refl _ x2).alloc (Nat.le_refl _) _).cell (p := ⟨w.heap.size, 4, none⟩) (blk_lt HQ.out.p)).trans u1
      have u1b : W2.cell? ⟨w.heap.size, 4, none⟩ = some (.slice tto p.ts.length tc) := (hB.cell (p := ⟨w.heap.size, 4, none⟩) (blk_lt HQ.out.p)).trans u1
      have hq5 := (hB.block _ (blk_lt HQ.out.q)).trans HQ.out.q
      have m0 : W2.cell? ⟨w.heap.size + 1 + 1, 4, none⟩ = some pz := by rw [World.cell?, hq5]; rfl
      have m1 : W2.frozen? ⟨w.heap.size + 1 + 1, 4, none⟩ = false := zr8f hq5 4
      rw [hM, str_rep] at hR
      have hr := blk_own (n := p.ts.length + 3) (sz := 1) (base := x2.heap.size) hR (by simp) (Nat.le_refl _) (by have := HN.out; unfold maxLen; omega)
      have hQ1 : Lq w (W2.setCell ⟨w.heap.size + 1 + 1, 4, none⟩ (.slice (some ⟨x2.heap.size, 0, none⟩) p.ts.length (p.ts.length + 3))) #[.string p.name, .slice ao p.rows.length ac, .slice qo p.qs.length qc, .slice vo p.vs.length vc, .slice tto p.ts.length tc, .slice uo p.us.length uc, .slice oo p.on.length oc, .int .i64 p.miss] (w.heap.size + 1 + 1) #[.string p.name, .slice (some ⟨g, 0, none⟩) p.rows.length (p.rows.length + 9), .slice (some ⟨gq, 0, none⟩) p.qs.length (p.qs.length + 3), .slice (some ⟨gv, 0, none⟩) p.vs.length (p.vs.length + 3), .slice (some ⟨x2.heap.size, 0, none⟩) p.ts.length (p.ts.length + 3), pz, pz, .int .i64 p.miss] [⟨1, 51, 5, .slice (some ⟨g, 0, none⟩) (p.rows.length + 9) (p.rows.length + 9), p.rows.length + 9, (fillL p.rows 9).flatMap rz5⟩, ⟨2, 115, 2, .slice (some ⟨gq, 0, none⟩) (p.qs.length + 3) (p.qs.length + 3), p.qs.length + 3, qF (p.qs ++ List.replicate 3 qz0)⟩, ⟨3, 9, 1, .slice (some ⟨gv, 0, none⟩) (p.vs.length + 3) (p.vs.length + 3), p.vs.length + 3, (p.vs ++ List.replicate 3 (⟨#[]⟩ : ByteArray)).map Value.string⟩, ⟨4, 9, 1, .slice (some ⟨x2.heap.size, 0, none⟩) (p.ts.length + 3) (p.ts.length + 3), p.ts.length + 3, (p.ts ++ List.replicate 3 (⟨#[]⟩ : ByteArray)).map Value.string⟩] := HQ.out.put hB hr 4 (.slice (some ⟨x2.heap.size, 0, none⟩) p.ts.length (p.ts.length + 3))
      have HQ := show Hid _ from hQ1
      clear hq5 hr hQ1 hR hB hM
      go_upto_region 18 with fail
      generalize W2.setCell ⟨w.heap.size + 1 + 1, 4, none⟩ (.slice (some ⟨x2.heap.size, 0, none⟩) p.ts.length (p.ts.length + 3)) = x3 at *
      clear m0 m1 u1 u1a u1b hmk2 hcp
      generalize x2.heap.size = gt at *
      have u5 := HQ.out.cellp 5 _ rfl
      have HI5 := show Hid _ from lend17 (cap := uc) (HD.out.1.u.below HQ.out.b) (by have := HN.out; omega)
      go_wp2_with fail
      refine Calls.mono HI5.out ?_
      rintro e w5 ⟨rfl, hR, hb5⟩
      have hq5 := (hb5.block _ (blk_lt HQ.out.q)).trans HQ.out.q
      have m0 : w5.cell? ⟨w.heap.size + 1 + 1, 5, none⟩ = some pz := by rw [World.cell?, hq5]; rfl
      have m1 : w5.frozen? ⟨w.heap.size + 1 + 1, 5, none⟩ = false := zr8f hq5 5
      have hr := blk_own (n := p.us.length + 5) (sz := 1) (base := x3.heap.size) hR (by simp [fillI_len]) (Nat.le_refl _) (by have := HN.out; unfold maxLen; omega)
      have hQ1 : Lq w (w5.setCell ⟨w.heap.size + 1 + 1, 5, none⟩ (.slice (some ⟨x3.heap.size, 0, none⟩) p.us.length (p.us.length + 5))) #[.string p.name, .slice ao p.rows.length ac, .slice qo p.qs.length qc, .slice vo p.vs.length vc, .slice tto p.ts.length tc, .slice uo p.us.length uc, .slice oo p.on.length oc, .int .i64 p.miss] (w.heap.size + 1 + 1) #[.string p.name, .slice (some ⟨g, 0, none⟩) p.rows.length (p.rows.length + 9), .slice (some ⟨gq, 0, none⟩) p.qs.length (p.qs.length + 3), .slice (some ⟨gv, 0, none⟩) p.vs.length (p.vs.length + 3), .slice (some ⟨gt, 0, none⟩) p.ts.length (p.ts.length + 3), .slice (some ⟨x3.heap.size, 0, none⟩) p.us.length (p.us.length + 5), pz, .int .i64 p.miss] [⟨1, 51, 5, .slice (some ⟨g, 0, none⟩) (p.rows.length + 9) (p.rows.length + 9), p.rows.length + 9, (fillL p.rows 9).flatMap rz5⟩, ⟨2, 115, 2, .slice (some ⟨gq, 0, none⟩) (p.qs.length + 3) (p.qs.length + 3), p.qs.length + 3, qF (p.qs ++ List.replicate 3 qz0)⟩, ⟨3, 9, 1, .slice (some ⟨gv, 0, none⟩) (p.vs.length + 3) (p.vs.length + 3), p.vs.length + 3, (p.vs ++ List.replicate 3 (⟨#[]⟩ : ByteArray)).map Value.string⟩, ⟨4, 9, 1, .slice (some ⟨gt, 0, none⟩) (p.ts.length + 3) (p.ts.length + 3), p.ts.length + 3, (p.ts ++ List.replicate 3 (⟨#[]⟩ : ByteArray)).map Value.string⟩, ⟨5, 3, 1, .slice (some ⟨x3.heap.size, 0, none⟩) (p.us.length + 5) (p.us.length + 5), p.us.length + 5, iv (fillI p.us 5)⟩] := HQ.out.put hb5 hr 5 (.slice (some ⟨x3.heap.size, 0, none⟩) p.us.length (p.us.length + 5))
      have HQ := show Hid _ from hQ1
      clear hq5 hr hR hb5 HI5 u5
      clear hQ1
      have u5 := HQ.out.cellp 6 _ rfl
      have HI5 := show Hid _ from lend17 (cap := oc) (HD.out.1.o.below HQ.out.b) (by have := HN.out; omega)
      go_wp2_with fail
      generalize w5.setCell ⟨w.heap.size + 1 + 1, 5, none⟩ (.slice (some ⟨x3.heap.size, 0, none⟩) p.us.length (p.us.length + 5)) = x4 at *
      clear m0 m1
      generalize x3.heap.size = gu at *
      refine Calls.mono HI5.out ?_
      rintro e w5 ⟨rfl, hR, hb5⟩
      have hq5 := (hb5.block _ (blk_lt HQ.out.q)).trans HQ.out.q
      have m0 : w5.cell? ⟨w.heap.size + 1 + 1, 6, none⟩ = some pz := by rw [World.cell?, hq5]; rfl
      have m1 : w5.frozen? ⟨w.heap.size + 1 + 1, 6, none⟩ = false := zr8f hq5 6
      have hr := blk_own (n := p.on.length + 5) (sz := 1) (base := x4.heap.size) hR (by simp [fillI_len]) (Nat.le_refl _) (by have := HN.out; unfold maxLen; omega)
      have hQ1 : Lq w (w5.setCell ⟨w.heap.size + 1 + 1, 6, none⟩ (.slice (some ⟨x4.heap.size, 0, none⟩) p.on.length (p.on.length + 5))) #[.string p.name, .slice ao p.rows.length ac, .slice qo p.qs.length qc, .slice vo p.vs.length vc, .slice tto p.ts.length tc, .slice uo p.us.length uc, .slice oo p.on.length oc, .int .i64 p.miss] (w.heap.size + 1 + 1) #[.string p.name, .slice (some ⟨g, 0, none⟩) p.rows.length (p.rows.length + 9), .slice (some ⟨gq, 0, none⟩) p.qs.length (p.qs.length + 3), .slice (some ⟨gv, 0, none⟩) p.vs.length (p.vs.length + 3), .slice (some ⟨gt, 0, none⟩) p.ts.length (p.ts.length + 3), .slice (some ⟨gu, 0, none⟩) p.us.length (p.us.length + 5), .slice (some ⟨x4.heap.size, 0, none⟩) p.on.length (p.on.length + 5), .int .i64 p.miss] [⟨1, 51, 5, .slice (some ⟨g, 0, none⟩) (p.rows.length + 9) (p.rows.length + 9), p.rows.length + 9, (fillL p.rows 9).flatMap rz5⟩, ⟨2, 115, 2, .slice (some ⟨gq, 0, none⟩) (p.qs.length + 3) (p.qs.length + 3), p.qs.length + 3, qF (p.qs ++ List.replicate 3 qz0)⟩, ⟨3, 9, 1, .slice (some ⟨gv, 0, none⟩) (p.vs.length + 3) (p.vs.length + 3), p.vs.length + 3, (p.vs ++ List.replicate 3 (⟨#[]⟩ : ByteArray)).map Value.string⟩, ⟨4, 9, 1, .slice (some ⟨gt, 0, none⟩) (p.ts.length + 3) (p.ts.length + 3), p.ts.length + 3, (p.ts ++ List.replicate 3 (⟨#[]⟩ : ByteArray)).map Value.string⟩, ⟨5, 3, 1, .slice (some ⟨gu, 0, none⟩) (p.us.length + 5) (p.us.length + 5), p.us.length + 5, iv (fillI p.us 5)⟩, ⟨6, 3, 1, .slice (some ⟨x4.heap.size, 0, none⟩) (p.on.length + 5) (p.on.length + 5), p.on.length + 5, iv (fillI p.on 5)⟩] := HQ.out.put hb5 hr 6 (.slice (some ⟨x4.heap.size, 0, none⟩) p.on.length (p.on.length + 5))
      have HQ := show Hid _ from hQ1
      clear hq5 hr hR hb5 HI5 u5
      obtain ⟨k0, k1, k2, k3, k4, k5, k6, k7⟩ := zr8 hQ1.q
      obtain ⟨r0, r1, r2, r3, r4, r5, r6, r7⟩ := zr8 hQ1.r
      have z0 := zr8f hQ1.r 0
      have z1 := zr8f hQ1.r 1
      have z2 := zr8f hQ1.r 2
      have z3 := zr8f hQ1.r 3
      have z4 := zr8f hQ1.r 4
      have z5 := zr8f hQ1.r 5
      have z6 := zr8f hQ1.r 6
      have z7 := zr8f hQ1.r 7
      clear hQ1
      go_wp2_with fail
      obtain ⟨x1, x2, x3⟩ := pt8L (B := w.heap.size + 1) (v0 := .string p.name) (v1 := .slice (some ⟨g, 0, none⟩) p.rows.length (p.rows.length + 9)) (v2 := .slice (some ⟨gq, 0, none⟩) p.qs.length (p.qs.length + 3)) (v3 := .slice (some ⟨gv, 0, none⟩) p.vs.length (p.vs.length + 3)) (v4 := .slice (some ⟨gt, 0, none⟩) p.ts.length (p.ts.length + 3)) (v5 := .slice (some ⟨gu, 0, none⟩) p.us.length (p.us.length + 5)) (v6 := .slice (some ⟨x4.heap.size, 0, none⟩) p.on.length (p.on.length + 5)) (v7 := .int .i64 p.miss) HQ.out.b (Nat.le_succ _) HQ.out.r
      obtain ⟨y0, y1, y2, y3, y4, y5, y6, y7⟩ := zr8 x1
      refine bodyPost_ret (v := .agg #[.string p.name, .slice (some ⟨g, 0, none⟩) p.rows.length (p.rows.length + 9), .slice (some ⟨gq, 0, none⟩) p.qs.length (p.qs.length + 3), .slice (some ⟨gv, 0, none⟩) p.vs.length (p.vs.length + 3), .slice (some ⟨gt, 0, none⟩) p.ts.length (p.ts.length + 3), .slice (some ⟨gu, 0, none⟩) p.us.length (p.us.length + 5), .slice (some ⟨x4.heap.size, 0, none⟩) p.on.length (p.on.length + 5), .int .i64 p.miss]) (by simp [results, Tryz.results11, go_sem, y0, y1, y2, y3, y4, y5, y6, y7]) rfl ?_
      refine ⟨g, gq, gv, gt, gu, x4.heap.size, rfl, ⟨fun o ho => ?_, HQ.out.dis⟩, x2⟩
      have h1 := HQ.out.own o ho
      exact own_base (own_keepB h1 (fun k hk => x3 k (by have := (World.ownsRow.lt h1 k hk).1; omega))) (by omega)
end Go.Proofs.YtnpdblcfhbamiaaGreat.Nm.Ty
