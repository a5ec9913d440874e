import Derived.Test.YtoeioppmlnognaaArMovesP
import Derived.Test.YtoeioppmlnognaaArWhole
import Derived.Test.YtoeioppmlnognaaArOpen
namespace Go.Proofs.Ytoeioppmlnognaa.Ar
open Go.RowKit

/-- a script's steps -/
def acts (a : As) (l : List St) : As := l.foldl (fun a s => a.act s.k s.a s.b s.c) a
theorem acts_nl (a : As) (l : List St) : (acts a l).nl = a.nl ∧ (acts a l).size = a.size := by
  induction l generalizing a with
  | nil => exact ⟨rfl, rfl⟩
  | cons s t ih =>
    obtain ⟨h1, h2⟩ := ih (a.act s.k s.a s.b s.c)
    obtain ⟨h3, h4⟩ := a.act_nl s.k s.a s.b s.c
    exact ⟨h1.trans h3, h2.trans h4⟩
theorem acts_more (a : As) {l : List St} {i : Nat} {st : St} (h : l[i]? = some st) : acts a (l.take (i + 1)) = (acts a (l.take i)).act st.k st.a st.b st.c := by
  rw [List.take_add_one, h]
  simp [acts]
theorem acts_past (a : As) {l : List St} {i : Nat} (h : l.length ≤ i) : acts a (l.take (i + 1)) = acts a (l.take i) := by
  rw [List.take_of_length_le (by omega), List.take_of_length_le h]
theorem acts_end (a : As) {l : List St} {i : Nat} (hi : i ≤ 3000) (h : l.length ≤ i ∨ i = 3000) : acts a (l.take i) = acts a (l.take 3000) := by
  rcases h with h | rfl
  · rw [List.take_of_length_le h, List.take_of_length_le (by omega)]
  · rfl
theorem push_free {a : As} (hf : a.free ≠ 0) (hl : 0 < a.nl) (v : Int) : (a.push 0 0 v).2.1 = 0 ∧ (a.push 0 0 v).2.2.free = a.free - 1 := by
  unfold As.push
  rw [if_pos ⟨⟨by omega, by omega⟩, Or.inl rfl⟩, if_neg hf]
  exact ⟨rfl, a.take_free⟩

set_option maxHeartbeats 6400000 in
set_option maxRecDepth 100000 in
/-- alike, of two arenas that are -/
theorem alike_any {n0 : Nat} {w W : World} {g0 g1 g2 g3 : Nat} {a b c : As} {n l : Nat} (h : Ms 4 n0 w W (G4 g0 g1 g2 g3) (G4 a b c c)) (hn : c.size = n) (hl : c.nl = l) (hn2 : n ≤ 4194304) (hl2 : l ≤ 256) :
    Calls Try.prog 28 #[.pointer (some ⟨g2, 0, none⟩), .pointer (some ⟨g3, 0, none⟩), I n, I l] W fun r w' => r = .returned (.bool true) ∧ ∃ c', Ms 4 n0 w w' (G4 g0 g1 g2 g3) (G4 a b c' c') ∧ c'.size = n ∧ c'.nl = l := by
  have HM : Hid (Ms 4 n0 w W (G4 g0 g1 g2 g3) (G4 a b c c)) := h
  have HZ : Hid (c.size = n ∧ c.nl = l) := ⟨hn, hl⟩
  have hn3 : (n : Int) ≤ 4194304 := by omega
  have hl3 : (l : Int) ≤ 256 := by omega
  clear h hn hl
  go_enter Try.func28, Try.ntmps28
  go_wp2_with fail
  go_loopg [9] l (fun r vi wr => ∃ i : Nat, i + r = l ∧ vi = I i ∧ Ms 4 n0 w wr (G4 g0 g1 g2 g3) (G4 a b c c))
  case atStart => exact ⟨0, by omega, rfl, HM.out⟩
  case round =>
    obtain ⟨i, hir, rfl, hmr⟩ := hrel
    have HMr : Hid (Ms 4 n0 w wr (G4 g0 g1 g2 g3) (G4 a b c c) ∧ i + gk = l) := ⟨hmr, hir⟩
    clear HM hmr hir
    by_cases hi : i < l
    · have hi1 : (i : Int) < (l : Int) := by omega
      have hs : c.seq i 0 = c.L i := (c.seq01 (by rw [HZ.out.2]; exact hi)).1
      have HN2 : Hid (∀ u, Below wr.heap.size wr u → Calls Try.prog 21 #[.pointer (some ⟨g2, 0, none⟩), I i, I 0] u fun r w' => ∃ v, r = .returned v ∧ Rw w' v (c.L i) ∧ Below u.heap.size u w') := fun u hu => by
        obtain ⟨o, har⟩ := (HMr.out.1.below hu).ar (i := 2) (by omega)
        have := nodes_any har i 0
        rw [show (G4 a b c c 2) = c from rfl, hs] at this
        refine Calls.mono this ?_
        rintro r w' ⟨v, rfl, ho, hb⟩
        exact ⟨v, rfl, Rw.of ho rfl, hb⟩
      have HN3 : Hid (∀ u, Below wr.heap.size wr u → Calls Try.prog 21 #[.pointer (some ⟨g3, 0, none⟩), I i, I 0] u fun r w' => ∃ v, r = .returned v ∧ Rw w' v (c.L i) ∧ Below u.heap.size u w') := fun u hu => by
        obtain ⟨o, har⟩ := (HMr.out.1.below hu).ar (i := 3) (by omega)
        have := nodes_any har i 0
        rw [show (G4 a b c c 3) = c from rfl, hs] at this
        refine Calls.mono this ?_
        rintro r w' ⟨v, rfl, ho, hb⟩
        exact ⟨v, rfl, Rw.of ho rfl, hb⟩
      have HLe : Hid ((c.L i).length ≤ 4194304) := by
        obtain ⟨o, har⟩ := HMr.out.1.ar (i := 2) (by omega)
        have q1 := har.seq_len i 0
        rw [show (G4 a b c c 2) = c from rfl, hs] at q1
        exact q1
      clear hs
      go_wp2_with fail
      refine Calls.mono (HN2.out wr (Below.refl _ _)) ?_
      rintro r wA ⟨vA, rfl, hrA, hbA⟩
      have HA : Hid (Rw wA vA (c.L i) ∧ Below wr.heap.size wr wA) := ⟨hrA, hbA⟩
      clear hrA hbA HN2
      go_wp2_with fail
      refine Calls.mono (HN3.out wA HA.out.2) ?_
      rintro r wB ⟨vB, rfl, hrB, hbB⟩
      have HBb : Hid (Rw wB vA (c.L i) ∧ Rw wB vB (c.L i) ∧ Below wr.heap.size wr wB) := ⟨HA.out.1.below hbB, hrB, HA.out.2.trans (hbB.mono HA.out.2.size)⟩
      clear hrB hbB HN3 HA
      go_wp2_with fail
      refine Calls.mono (same_any wB vA vB (c.L i) HBb.out.1 HBb.out.2.1 HLe.out) ?_
      rintro r wC ⟨rfl, hbC⟩
      have HMC : Hid (Ms 4 n0 w wC (G4 g0 g1 g2 g3) (G4 a b c c)) := HMr.out.1.below (HBb.out.2.2.trans (hbC.mono HBb.out.2.2.size))
      clear hbC HBb
      go_wp2_with fail
      go_roundg (l - (i + 1))
      case measure => have := HMr.out.2; omega
      case rel => exact ⟨i + 1, by omega, by go_num, HMC.out⟩
    · have hie : i = l := by have := HMr.out.2; omega
      subst hie
      clear hi
      go_wp2_with fail
      go_loopg [10] n (fun r vk wr' => ∃ k : Nat, k + r = n ∧ vk = I k ∧ wr' = wr)
      case atStart => exact ⟨0, by omega, rfl, rfl⟩
      case round =>
        obtain ⟨k, hkr, rfl, rfl⟩ := hrel
        by_cases hk : k < n
        · have hk1 : (k : Int) < (n : Int) := by omega
          obtain ⟨o2, har2⟩ := HMr.out.1.ar (i := 2) (by omega)
          obtain ⟨o3, har3⟩ := HMr.out.1.ar (i := 3) (by omega)
          have HG2 : Hid (Calls Try.prog 24 #[.pointer (some ⟨g2, 0, none⟩), I k] wr fun r w' => r = .returned (.tuple #[I (c.get k).1, I (c.get k).2]) ∧ w' = wr) := get_any har2 k
          have HG3 : Hid (Calls Try.prog 24 #[.pointer (some ⟨g3, 0, none⟩), I k] wr fun r w' => r = .returned (.tuple #[I (c.get k).1, I (c.get k).2]) ∧ w' = wr) := get_any har3 k
          clear har2 har3
          generalize (c.get k).1 = gv at *
          generalize (c.get k).2 = ge at *
          go_wp2_with fail
          refine Calls.mono HG2.out ?_
          rintro r w8 ⟨rfl, rfl⟩
          go_wp2_with fail
          refine Calls.mono HG3.out ?_
          rintro r w8 ⟨rfl, rfl⟩
          go_wp2_with fail
          go_roundg (n - (k + 1))
          case measure => omega
          case rel => exact ⟨k + 1, by omega, by go_num, rfl⟩
        · have hke : k = n := by omega
          subst hke
          obtain ⟨o2, har2⟩ := HMr.out.1.ar (i := 2) (by omega)
          obtain ⟨o3, har3⟩ := HMr.out.1.ar (i := 3) (by omega)
          have HF2 : Hid (Calls Try.prog 12 #[.pointer (some ⟨g2, 0, none⟩)] wr fun r w' => r = .returned (I (c.free : Nat)) ∧ w' = wr) := free_any har2
          have HF3 : Hid (Calls Try.prog 12 #[.pointer (some ⟨g3, 0, none⟩)] wr fun r w' => r = .returned (I (c.free : Nat)) ∧ w' = wr) := free_any har3
          have hcf : (c.free : Int) ≤ 4194304 := by
            obtain ⟨_, hm, hi⟩ := har2
            have h1 : c.free ≤ c.size := hi.free_le
            have h2 := HZ.out.1
            omega
          clear har2 har3
          by_cases hl0 : i = 0
          · subst hl0
            go_wp2_with fail
            refine Calls.mono HF2.out ?_
            rintro r w8 ⟨rfl, rfl⟩
            go_wp2_with fail
            refine Calls.mono HF3.out ?_
            rintro r w8 ⟨rfl, rfl⟩
            go_wp2
            go_ret
            exact ⟨by simp, c, HMr.out.1, HZ.out.1, HZ.out.2⟩
          · have hq : ((i : Int) == 0) = false := by simp [hl0]
            go_wp2_with fail
            refine Calls.mono HF2.out ?_
            rintro r w8 ⟨rfl, rfl⟩
            go_wp2_with fail
            refine Calls.mono HF3.out ?_
            rintro r w8 ⟨rfl, rfl⟩
            go_wp2_with fail
            refine Calls.mono HF2.out ?_
            rintro r w8 ⟨rfl, rfl⟩
            go_wp2_with fail
            go_loopg [15] c.free (fun r vk wr' => ∃ c' : As, c'.free = r ∧ vk = I (r : Nat) ∧ Ms 4 n0 w wr' (G4 g0 g1 g2 g3) (G4 a b c' c') ∧ c'.size = k ∧ c'.nl = i ∧ (r : Int) ≤ 4194304)
            case atStart => exact ⟨c, rfl, rfl, HMr.out.1, HZ.out.1, HZ.out.2, hcf⟩
            case round =>
              obtain ⟨c', hf, rfl, hm', hz1, hz2, hb⟩ := hrel
              have HM' : Hid (Ms 4 n0 w wr (G4 g0 g1 g2 g3) (G4 a b c' c') ∧ c'.size = k ∧ c'.nl = i ∧ c'.free = gk) := ⟨hm', hz1, hz2, hf⟩
              clear hm' hz1 hz2 hf HMr HF2 HF3 HZ
              by_cases hg : gk = 0
              · subst hg
                go_wp2
                go_ret
                exact ⟨rfl, c', HM'.out.1, HM'.out.2.1, HM'.out.2.2.1⟩
              · have hg1 : (0 : Int) < (gk : Int) := by omega
                have hpf := push_free (a := c') (by rw [HM'.out.2.2.2]; exact hg) (by rw [HM'.out.2.2.1]; omega) gk
                have HPf : Hid ((c'.push 0 0 gk).2.1 = 0 ∧ (c'.push 0 0 gk).2.2.free = gk - 1) := ⟨hpf.1, by rw [hpf.2, HM'.out.2.2.2]⟩
                obtain ⟨o2, har2, hst2⟩ := HM'.out.1.step2 (by omega)
                have HP2 := show Hid _ from push_any har2 0 0 gk
                have HS2 := show Hid _ from hst2
                clear har2 hst2 hpf
                go_wp2_with fail
                refine Calls.mono HP2.out ?_
                rintro r w8 ⟨rfl, hG8⟩
                have hm8 := HS2.out _ _ hG8 (As.push_nl _ _ _ _).1
                obtain ⟨o3, har3, hst3⟩ := hm8.step3
                have HP3 := show Hid _ from push_any har3 0 0 gk
                have HS3 := show Hid _ from hst3
                clear har3 hst3 hm8 hG8 HS2 HP2
                go_wp2_with fail
                refine Calls.mono HP3.out ?_
                rintro r w9 ⟨rfl, hG9⟩
                have HM9 : Hid (Ms 4 n0 w w9 (G4 g0 g1 g2 g3) (G4 a b (c'.push 0 0 gk).2.2 (c'.push 0 0 gk).2.2) ∧ (c'.push 0 0 gk).2.2.size = k ∧ (c'.push 0 0 gk).2.2.nl = i ∧ (c'.push 0 0 gk).2.2.free = gk - 1) := ⟨HS3.out _ _ hG9 (As.push_nl _ _ _ _).1, (As.push_nl _ _ _ _).2.trans HM'.out.2.1, (As.push_nl _ _ _ _).1.trans HM'.out.2.2.1, HPf.out.2⟩
                rw [HPf.out.1]
                clear hG9 HS3 HP3 HM' HPf
                generalize (c'.push 0 0 gk).1 = z1 at *
                generalize (c'.push 0 0 gk).2.2 = c9 at *
                go_wp2_with fail
                go_roundg (gk - 1)
                case measure => omega
                case rel => exact ⟨c9, HM9.out.2.2.2, by rw [show ((gk - 1 : Nat) : Int) = (gk : Int) - 1 by omega], HM9.out.1, HM9.out.2.1, HM9.out.2.2.1, by omega⟩
end Go.Proofs.Ytoeioppmlnognaa.Ar
