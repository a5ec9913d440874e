import Derived.Test.YtkekmmomdhdegaaIxKnown
namespace Go.Proofs.Ytkekmmomdhdegaa.Ii
open Go.RowKit Go.Proofs.Ytkekmmomdhdegaa.Ix

theorem info75 : (Try.prog.info? 75).map (fun i => (i.zero, i.size, i.bytes)) = some (some (.agg #[.int .u64 0, zv, .bool false]), 3, 24) := by kernel_rfl
/-- the cells of what lies at a place -/
def encS (e : Nat × El) : List Value := [U e.1, ev e.2, .bool true]
def cellsOf (l : List (Nat × El)) : List Value := l.flatMap encS
theorem cellsOf_snoc (l : List (Nat × El)) (e : Nat × El) : cellsOf (l ++ [e]) = cellsOf l ++ encS e := by simp [cellsOf]
theorem cellsOf_len (l : List (Nat × El)) : (cellsOf l).length = l.length * 3 := by
  induction l with
  | nil => rfl
  | cons e l ih => simp only [cellsOf, List.flatMap_cons, List.length_append] at ih ⊢; rw [ih]; simp [encS]; omega
theorem en_ext {t : Tb El} {m : Nat} : ∀ {m' : Nat}, m ≤ m' → (∀ p, m ≤ p → p < m' → t p = none) → en t m' = en t m
  | 0, h, _ => by rw [Nat.le_zero.1 h]
  | m' + 1, h, hn => by
    by_cases e : m = m' + 1
    · rw [e]
    · simp only [en]
      rw [hn m' (by omega) (by omega), en_ext (by omega) (fun p h1 h2 => hn p h1 (by omega))]
      simp
theorem cell_three (w : World) (T : TypeId) (a b c : Value) : ∀ j u, [a, b, c][j]? = some u → (w.alloc (.cells #[a, b, c] T)).cell? ((⟨w.heap.size, 0, none⟩ : Addr).add j) = some u := by
  intro j u h
  have := Lib.cells_of_row (heap_alloc_new w (.cells #[a, b, c] T)) 3 j u (by simpa using h)
  exact this
theorem own_below {w w' : World} {base : Nat} {e : TypeId} {size : Nat} {v : Value} {n : Nat} {xs : List Value} (h : w.ownsRow base e size v n xs) (hb : Below w.heap.size w w') : w'.ownsRow base e size v n xs := by
  rcases h with ⟨h1, h2 | ⟨g, cap, cur, rfl, h3, h4, h5⟩⟩
  · exact ⟨h1, Or.inl h2⟩
  · refine ⟨h1, Or.inr ⟨g, cap, cur, rfl, h3, ?_, h5⟩⟩
    rw [hb.block g ((Array.getElem?_eq_some_iff.1 h4).1)]
    exact h4
/-- the row so far -/
def Tk (w : World) (t : Tb El) (m gb c : Nat) (W : World) : Prop := Below w.heap.size w W ∧ W.ownsRow w.heap.size 75 3 (.slice (some ⟨gb, 0, none⟩) (en t m).length c) (en t m).length (cellsOf (en t m))

set_option maxHeartbeats 3200000 in
set_option maxRecDepth 100000 in
theorem taken_any {w : World} {g : Nat} {o : Lo} {a : Ix El} (h : IsIx w g o a) : Calls Try.prog 47 #[.pointer (some ⟨g, 0, none⟩)] w fun e w' => ∃ gb c, e = .returned (.slice (some ⟨gb, 0, none⟩) (en a.t a.n).length c) ∧ Tk w a.t a.n gb c w' := by
  obtain ⟨hm, hk⟩ := h
  have hn := Ix.n_le hk.b
  have hc8 : a.count ≤ 4194304 := by
    have := hk.cnt
    have := hk.most
    have := Nat.pow_le_pow_right (n := 2) (by omega) hk.b
    omega
  obtain ⟨j0, hj, hj0, hj1, hj2⟩ := info_parts info75
  obtain ⟨w1, mk, ho, hg⟩ := run_make_own (P := Try.prog) w w.heap.size 96 75 j0 (.agg #[.int .u64 0, zv, .bool false]) 3 Try.underlying96 hj hj0 hj1 .i64 .i64 a.count (by rw [hj2]; omega) (by unfold maxLen; omega) (Nat.le_refl _)
  have HW1 : Hid (Tk w a.t 0 w.heap.size a.count w1) := ⟨(Below.refl _ w).grown hg (Nat.le_refl _) (fun k e => by cases e), ho⟩
  obtain ⟨a0, _, a2, _⟩ := hm.cellsX
  have HM : Hid (Mem w g o a.b a.most a.count a.t) := hm
  have HE : Hid (o.np ≤ 262144 ∧ en a.t (o.np * 32) = en a.t a.n) := by
    have hb2 := Nat.pow_le_pow_right (n := 2) (by omega) hk.b
    refine ⟨by rcases hm.np with h | h <;> omega, ?_⟩
    by_cases h0 : o.np = 0
    · rw [h0]
      refine (en_ext (Nat.zero_le _) (fun p _ _ => ?_)).symm
      have hp : o.ps (p / 32) = none := by
        cases hp : o.ps (p / 32) with
        | none => rfl
        | some q => have := (hm.pp _ _ hp).1; omega
      have := hm.no _ hp (p % 32) (by omega)
      rwa [show p / 32 * 32 + p % 32 = p by omega] at this
    · have hnp : a.n ≤ o.np * 32 := by
        rcases hm.np with h | h
        · exact absurd h h0
        · unfold Ix.n; omega
      exact en_ext hnp (fun p h1 h2 => by
        cases hp : a.t p with
        | none => rfl
        | some e => have := (hk.fine.lt p e hp).1; omega)
  have HPg : Hid (∀ k, k < o.np → o.pv = .slice (some ⟨o.pb, 0, none⟩) o.np o.pc) := fun k hk => (hm.page hk).1
  have hpv : ∃ po pc, o.pv = .slice po o.np pc ∧ (0 < o.np → po = some ⟨o.pb, 0, none⟩) := by
    unfold Lo.pv
    by_cases h0 : o.np = 0
    · rw [if_pos h0, h0]; exact ⟨none, 0, rfl, fun h => absurd h (Nat.lt_irrefl 0)⟩
    · rw [if_neg h0]; exact ⟨_, _, rfl, fun _ => rfl⟩
  obtain ⟨po, pc, epv, hpo⟩ := hpv
  rw [epv] at a0
  have b0 := (hm.below (HW1.out.1)).cellsX.1
  rw [epv] at b0
  have hnp8 : (o.np : Int) ≤ 262144 := by have := HE.out.1; omega
  have HPo := show Hid _ from hpo
  clear hm hk epv ho hg hpo HPg
  go_enter Try.func47, Try.ntmps47
  go_wp2_with fail
  go_loopg [3, 17] o.np (fun r va vi wr => ∃ k gb c : Nat, k + r = o.np ∧ va = .slice (some ⟨gb, 0, none⟩) (en a.t (k * 32)).length c ∧ vi = I k ∧ Tk w a.t (k * 32) gb c wr)
  case atStart => exact ⟨0, _, _, by omega, by rw [Nat.zero_mul]; rfl, rfl, by rw [Nat.zero_mul]; exact HW1.out⟩
  case round =>
    obtain ⟨k, gb, c, hk, rfl, rfl, hT⟩ := hrel
    have HT : Hid (Tk w a.t (k * 32) gb c wr) := hT
    by_cases hlt : k < o.np
    · have hlt2 : (k : Int) < (o.np : Int) := by omega
      obtain rfl := HPo.out (by omega)
      obtain ⟨_, e2, _⟩ := (HM.out.below hT.1).page hlt
      cases hp : o.ps k with
      | none =>
        rw [hp] at e2
        unfold ptr at e2
        have HN : Hid (en a.t ((k + 1) * 32) = en a.t (k * 32)) := en_ext (by omega) (fun p h1 h2 => by
          have := HM.out.no k hp (p - k * 32) (by omega)
          rwa [show k * 32 + (p - k * 32) = p by omega] at this)
        clear hT hp
        go_wp2_with fail
        go_roundg (o.np - (k + 1))
        case measure => omega
        case rel =>
          refine ⟨k + 1, gb, c, by omega, by rw [HN.out], by go_num, ?_⟩
          have := HT.out
          unfold Tk at this ⊢
          rw [HN.out]
          exact this
      | some p =>
        rw [hp] at e2
        unfold ptr at e2
        dsimp only at e2
        have HP := show Hid _ from hp
        clear hT hp
        go_wp2_with fail
        go_loopg [3, 23] 32 (fun r va vi wq => ∃ j gb c : Nat, j + r = 32 ∧ va = .slice (some ⟨gb, 0, none⟩) (en a.t (k * 32 + j)).length c ∧ vi = I j ∧ Tk w a.t (k * 32 + j) gb c wq)
        case atStart => exact ⟨0, _, _, by omega, rfl, rfl, HT.out⟩
        case round =>
          obtain ⟨j, gb, c, hj32, rfl, rfl, hT⟩ := hrel
          have HTj : Hid (Tk w a.t (k * 32 + j) gb c wr) := hT
          by_cases hjl : j < 32
          · have hjl2 : (j : Int) < 32 := by omega
            have ex : (k * 32 + j) / 32 = k := by omega
            have ey : (k * 32 + j) % 32 = j := by omega
            obtain ⟨k', v', b', s1, s2, s3, s4, s5⟩ := (HM.out.below hT.1).slot (x := k * 32 + j) (p := p) (by rw [ex]; exact HP.out)
            rw [ey] at s1 s2 s3
            have hen : en a.t (k * 32 + (j + 1)) = en a.t (k * 32 + j) ++ (a.t (k * 32 + j)).toList := rfl
            have HLn : Hid ((en a.t (k * 32 + j)).length ≤ 8388640) := by
              have h1 := en_len_le a.t (k * 32 + j)
              have h2 := HE.out.1
              show _ ≤ _
              omega
            cases b' with
            | false =>
              rw [s4] at hen
              have HEn : Hid (en a.t (k * 32 + (j + 1)) = en a.t (k * 32 + j)) := by show _ = _; rw [hen]; simp
              clear hT hen s4 ex ey e2
              go_wp2_with fail
              go_roundg (32 - (j + 1))
              case measure => omega
              case rel =>
                refine ⟨j + 1, gb, c, by omega, by rw [HEn.out], by go_num, ?_⟩
                have := HTj.out
                unfold Tk at this ⊢
                rw [HEn.out]
                exact this
            | true =>
              rw [s4] at hen
              have HEn : Hid (en a.t (k * 32 + (j + 1)) = en a.t (k * 32 + j) ++ [(k', v')]) := by show _ = _; rw [hen]; rfl
              have HO2 : Hid ((wr.alloc (.cells #[U k', ev v', .bool true] 75)).ownsRow w.heap.size 75 3 (.slice (some ⟨gb, 0, none⟩) (en a.t (k * 32 + j)).length c) (en a.t (k * 32 + j)).length (cellsOf (en a.t (k * 32 + j)))) := own_below hT.2 ((Below.refl _ wr).alloc (Nat.le_refl _) _)
              clear hT hen s4 ex ey e2
              generalize en a.t (k * 32 + j) = L at *
              go_wp2_with (at_builtin; refine wpList_append_own _ rfl _ _ 96 rfl w.heap.size 75 j0 (.agg #[.int .u64 0, zv, .bool false]) 3 24 Try.underlying96 hj hj0 hj1 hj2 rfl (by decide) (.slice (some ⟨gb, 0, none⟩) L.length c) L.length (cellsOf L) rfl HO2.out ⟨wr.heap.size, 0, none⟩ 1 1 [U k', ev v', .bool true] rfl rfl ?c1 ?c2 ?c3 ?c4 ?c5 ?_)
              case c1 => exact cell_three wr _ _ _ _
              case c2 => intro u hu; simp only [List.mem_cons, List.not_mem_nil, or_false] at hu; rcases hu with rfl | rfl | rfl <;> rfl
              case c3 => have := HLn.out; unfold maxLen; omega
              case c4 => have := HLn.out; omega
              case c5 => have := HTj.out.1.size; simp; omega
              intro v2 w2 ho hg _
              obtain ⟨g2, c2, rfl⟩ : ∃ g2 c2, v2 = .slice (some ⟨g2, 0, none⟩) (L.length + 1) c2 := by
                rcases ho.2 with ⟨_, h0⟩ | ⟨g2, c2, _, e, _⟩
                · exact absurd h0 (Nat.succ_ne_zero _)
                · exact ⟨g2, c2, e⟩
              have HR : Hid (w2.ownsRow w.heap.size 75 3 (.slice (some ⟨g2, 0, none⟩) (L.length + 1) c2) (L.length + 1) (cellsOf (L ++ [(k', v')])) ∧ Below w.heap.size w w2) := ⟨by rw [cellsOf_snoc]; exact ho, (HTj.out.1.alloc HTj.out.1.size _).grown hg (by simp; have := HTj.out.1.size; omega) (fun k e => (World.ownsRow.lt HO2.out k e).1)⟩
              clear ho hg
              go_wp2_with fail
              go_roundg (32 - (j + 1))
              case measure => omega
              case rel =>
                refine ⟨j + 1, g2, c2, by omega, by rw [HEn.out]; simp, by go_num, ?_⟩
                unfold Tk
                rw [HEn.out]
                exact ⟨HR.out.2, by simpa using HR.out.1⟩
          · obtain rfl : j = 32 := by omega
            have hk1 : k * 32 + 32 = (k + 1) * 32 := by omega
            clear hT e2
            go_wp2_with fail
            go_roundg (o.np - (k + 1))
            case measure => omega
            case rel => exact ⟨k + 1, gb, c, by omega, by rw [← hk1], by go_num, by rw [← hk1]; exact HTj.out⟩
    · obtain rfl : k = o.np := by omega
      clear hT
      go_wp2
      go_ret
      refine ⟨gb, c, by rw [← HE.out.2]; rfl, ?_⟩
      have := HT.out
      unfold Tk at this ⊢
      rw [HE.out.2] at this
      exact this
end Go.Proofs.Ytkekmmomdhdegaa.Ii
