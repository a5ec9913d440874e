import Derived.Test.YtkekmmomdhdegaaJxLies
import Derived.Test.YtkekmmomdhdegaaIxLike
namespace Go.Proofs.Ytkekmmomdhdegaa.Ij
open Go.RowKit Go.Proofs.Ytkekmmomdhdegaa.Ix Go.Maps Go.Shelf

attribute [local go_sem] Oper.semAt_some
open BigFrame
set_option maxRecDepth 100000 in
set_option maxHeartbeats 12800000 in
theorem lies_any {n0 : Nat} {w0 w : World} {g b : Nat} {o : Lo} {a : Ix El} {m : Nat → Option Int} (h : Kp n0 w0 w g b o a m) : Calls Try.prog 22 #[.pointer (some ⟨g, 0, none⟩), .map (some b)] w fun r w' => r = .returned (.bool true) ∧ Below w.heap.size w w' := by
  obtain ⟨hn2, hn8⟩ := Ix.n_le h.mine.1.2.b
  obtain ⟨M, hmk, hM⟩ := mk_bools a.n hn8
  obtain ⟨z1, b1, n1⟩ := alloc_facts w #[.pointer (some ⟨g, 0, none⟩)] 43
  generalize ew1 : w.alloc (.cells #[.pointer (some ⟨g, 0, none⟩)] 43) = w1 at *
  obtain ⟨z2, b2, n2⟩ := alloc_facts w1 #[.map (some b)] 47
  generalize ew2 : w1.alloc (.cells #[.map (some b)] 47) = w2 at *
  obtain ⟨z3, b3, n3⟩ := alloc_facts w2 #[.bool false] 4
  generalize ew3 : w2.alloc (.cells #[.bool false] 4) = w3 at *
  have B3 : Below w.heap.size w w3 := b1.trans ((b2.mono (by omega)).trans (b3.mono (by omega)))
  have m1 : w3.heap[w.heap.size]? = some (.cells #[.pointer (some ⟨g, 0, none⟩)] 43 (0, 0)) := (b3.block _ (by omega)).trans ((b2.block _ (by omega)).trans n1)
  have m2 : w3.heap[w.heap.size + 1]? = some (.cells #[.map (some b)] 47 (0, 0)) := by rw [← z1]; exact (b3.block _ (by omega)).trans n2
  have m3 : w3.heap[w.heap.size + 1 + 1]? = some (.cells #[.bool false] 4 (0, 0)) := by rw [show w.heap.size + 1 + 1 = w2.heap.size by omega]; exact n3
  have HW : Hid (w.alloc (.cells #[.pointer (some ⟨g, 0, none⟩)] 43) = w1 ∧ w1.alloc (.cells #[.map (some b)] 47) = w2 ∧ w2.alloc (.cells #[.bool false] 4) = w3) := ⟨ew1, ew2, ew3⟩
  have H3 : Hid (Below w.heap.size w w3 ∧ w3.heap.size = w.heap.size + 3 ∧ w3.heap[w.heap.size]? = some (.cells #[.pointer (some ⟨g, 0, none⟩)] 43 (0, 0)) ∧ w3.heap[w.heap.size + 1]? = some (.cells #[.map (some b)] 47 (0, 0)) ∧ w3.heap[w.heap.size + 1 + 1]? = some (.cells #[.bool false] 4 (0, 0))) := ⟨B3, by omega, m1, m2, m3⟩
  have HKp : Hid (∀ W, Below w.heap.size w W → Kp n0 w0 W g b o a m) := fun W hW => h.below hW
  have HOk : Hid (Ok a) := h.mine.1.2
  have HMt : Hid (∀ j, j < a.n → M[j]? = some (.bool false)) := hM
  have hn8' : (a.n : Int) ≤ 8388608 := by omega
  have hn0' : (0 : Int) < (a.n : Int) := by omega
  have HN : Hid (2 ≤ a.n) := hn2
  clear h z1 b1 n1 z2 b2 n2 z3 b3 n3 B3 m1 m2 m3 ew1 ew2 ew3 hM hn2 hn8
  obtain ⟨c1, _⟩ := box_cell H3.out.2.2.1
  refine (callsIn_wide (n := 9)).1 ?_
  refine callsIn_of_wp_marks Try.func22 rfl trivial ?_ rfl
  simp only [Try.ntmps22, List.size_toArray, List.length_cons, List.length_nil, Nat.reduceAdd, Nat.reduceSub, Array.replicate_succ, Array.replicate_zero, List.push_toArray, List.append_toArray, List.nil_append, List.cons_append]
  gi_wp2
  rw [HW.out.1, HW.out.2.1, HW.out.2.2]
  gi_wp2
  refine ⟨trivial, (callsIn_wide.2 (slots_any (n := a.n) (HKp.out _ H3.out.1).mine.1.1 HOk.out.b rfl)).mono ?_⟩
  rintro r w4 ⟨rfl, rfl⟩
  clear c1
  have q1 : ((((w4.alloc (.cells #[I a.n] 3)).alloc (.cells M 4)).alloc (.cells #[.slice (some ⟨w4.heap.size + 1, 0, none⟩) a.n a.n] 29)).alloc (.cells #[I 0] 3)).alloc (.cells #[U (0 : Nat)] 22) = ((((w4.alloc (.cells #[I a.n] 3)).alloc (.cells M 4)).alloc (.cells #[.slice (some ⟨w4.heap.size + 1, 0, none⟩) a.n a.n] 29)).alloc (.cells #[I 0] 3)).alloc (.cells #[.int .u64 0] 22) := rfl
  have H8 : Hid (∃ w8, ((((w4.alloc (.cells #[I a.n] 3)).alloc (.cells M 4)).alloc (.cells #[.slice (some ⟨w4.heap.size + 1, 0, none⟩) a.n a.n] 29)).alloc (.cells #[I 0] 3)).alloc (.cells #[.int .u64 0] 22) = w8 ∧ Below w4.heap.size w4 w8 ∧ w8.heap.size = w4.heap.size + 5 ∧ w8.heap[w4.heap.size]? = some (.cells #[I a.n] 3 (0, 0)) ∧ w8.heap[w4.heap.size + 1]? = some (.cells M 4 (0, 0)) ∧ w8.heap[w4.heap.size + 1 + 1]? = some (.cells #[.slice (some ⟨w4.heap.size + 1, 0, none⟩) a.n a.n] 29 (0, 0)) ∧ w8.heap[w4.heap.size + 1 + 1 + 1]? = some (.cells #[I (0 : Nat)] 3 (0, 0)) ∧ w8.heap[w4.heap.size + 1 + 1 + 1 + 1]? = some (.cells #[U (0 : Nat)] 22 (0, 0))) := by
    obtain ⟨z5, b5, n5⟩ := alloc_facts w4 #[I a.n] 3
    generalize w4.alloc (.cells #[I a.n] 3) = w5 at *
    obtain ⟨z6, b6, n6⟩ := alloc_facts w5 M 4
    generalize w5.alloc (.cells M 4) = w6 at *
    obtain ⟨z7, b7, n7⟩ := alloc_facts w6 #[.slice (some ⟨w4.heap.size + 1, 0, none⟩) a.n a.n] 29
    generalize w6.alloc (.cells #[.slice (some ⟨w4.heap.size + 1, 0, none⟩) a.n a.n] 29) = w7 at *
    obtain ⟨z8, b8, n8⟩ := alloc_facts w7 #[I 0] 3
    generalize w7.alloc (.cells #[I 0] 3) = w8 at *
    obtain ⟨z9, b9, n9⟩ := alloc_facts w8 #[.int .u64 0] 22
    generalize w8.alloc (.cells #[.int .u64 0] 22) = w9 at *
    refine ⟨w9, rfl, b5.trans ((b6.mono (by omega)).trans ((b7.mono (by omega)).trans ((b8.mono (by omega)).trans (b9.mono (by omega))))), by omega, ?_, ?_, ?_, ?_, ?_⟩
    · exact (b9.block _ (by omega)).trans ((b8.block _ (by omega)).trans ((b7.block _ (by omega)).trans ((b6.block _ (by omega)).trans n5)))
    · rw [show w4.heap.size + 1 = w5.heap.size by omega]; rw [show w4.heap.size + 1 = w5.heap.size by omega] at n7; exact (b9.block _ (by omega)).trans ((b8.block _ (by omega)).trans ((b7.block _ (by omega)).trans n6))
    · rw [show w4.heap.size + 1 + 1 = w6.heap.size by omega]; exact (b9.block _ (by omega)).trans ((b8.block _ (by omega)).trans n7)
    · rw [show w4.heap.size + 1 + 1 + 1 = w7.heap.size by omega]; exact (b9.block _ (by omega)).trans n8
    · rw [show w4.heap.size + 1 + 1 + 1 + 1 = w8.heap.size by omega]; exact n9
  clear q1
  obtain ⟨w8, e8, hB8, hz8, k0, k1, k2, k3, k4⟩ := H8.out
  have H8' : Hid (Below w4.heap.size w4 w8 ∧ w8.heap.size = w4.heap.size + 5 ∧ w8.heap[w4.heap.size]? = some (.cells #[I a.n] 3 (0, 0)) ∧ w8.heap[w4.heap.size + 1]? = some (.cells M 4 (0, 0)) ∧ w8.heap[w4.heap.size + 1 + 1]? = some (.cells #[.slice (some ⟨w4.heap.size + 1, 0, none⟩) a.n a.n] 29 (0, 0)) ∧ w8.heap[w4.heap.size + 1 + 1 + 1]? = some (.cells #[I (0 : Nat)] 3 (0, 0)) ∧ w8.heap[w4.heap.size + 1 + 1 + 1 + 1]? = some (.cells #[U (0 : Nat)] 22 (0, 0))) := ⟨hB8, hz8, k0, k1, k2, k3, k4⟩
  have HE8 := show Hid _ from e8
  have HBw : Hid (Below w.heap.size w w8) := H3.out.1.trans (hB8.mono H3.out.1.size)
  obtain ⟨d1, _⟩ := box_cell ((hB8.block w.heap.size (by have := H3.out.2.1; omega)).trans H3.out.2.2.1)
  rw [← e8] at d1
  clear e8 hB8 hz8 k0 k1 k2 k3 k4 H8
  gi_wp2
  rw [HE8.out]
  refine ⟨trivial, (callsIn_wide.2 (all_seq (HKp.out _ HBw.out).mine.1)).mono ?_⟩
  rintro r w9 ⟨q, d, rfl, hq, hAll, hb9, hS⟩
  simp only [clo]
  clear d1 HE8
  have HQ : Hid (Sq w9 q d ∧ IsAll a d ∧ (∀ k ∈ q.S, w8.heap.size ≤ k)) := ⟨hq, hAll, fun k hk => (hS k hk).1⟩
  have HB9 : Hid (Below w8.heap.size w8 w9) := hb9
  have HD : Hid (∀ x, x ∈ d ↔ a.get x.1 = some x.2) := fun x => all_get HOk.out hAll
  -- what every world of the first range has
  have HF : Hid (∀ (f : Nat → Bool) (c l : Nat) (W : World), Li w9 a.n (w4.heap.size + 1) (w4.heap.size + 1 + 1 + 1) (w4.heap.size + 1 + 1 + 1 + 1) f c l W → Below w.heap.size w W ∧ W.cell? ⟨w.heap.size, 0, none⟩ = some (.pointer (some ⟨g, 0, none⟩)) ∧ W.cell? ⟨w.heap.size + 1, 0, none⟩ = some (.map (some b)) ∧ W.cell? ⟨w.heap.size + 1 + 1, 0, none⟩ = some (.bool false) ∧ W.frozen? ⟨w.heap.size + 1 + 1, 0, none⟩ = false ∧ W.cell? ⟨w4.heap.size, 0, none⟩ = some (I a.n) ∧ W.cell? ⟨w4.heap.size + 1 + 1, 0, none⟩ = some (.slice (some ⟨w4.heap.size + 1, 0, none⟩) a.n a.n)) := fun f c l W hL => by
    have hz3 := H3.out.2.1
    obtain ⟨p1, p2, p3, p4, p5, p6, p7⟩ := H8'.out
    have hs9 := hb9.size
    have hk : ∀ k, k < w8.heap.size → k ≠ w4.heap.size + 1 → k ≠ w4.heap.size + 1 + 1 + 1 → k ≠ w4.heap.size + 1 + 1 + 1 + 1 → W.heap[k]? = w8.heap[k]? := fun k h1 h2 h3 h4 => (hL.fr.block k (by omega) (by simp [h2, h3, h4])).trans (hb9.block k h1)
    have hk4 : ∀ k, k < w4.heap.size → W.heap[k]? = w4.heap[k]? := fun k h1 => (hk k (by omega) (by omega) (by omega) (by omega)).trans (p1.block k h1)
    obtain ⟨e4, f4⟩ := box_cell ((hk4 (w.heap.size + 1 + 1) (by omega)).trans H3.out.2.2.2.2)
    refine ⟨?_, (box_cell ((hk4 w.heap.size (by omega)).trans H3.out.2.2.1)).1, (box_cell ((hk4 (w.heap.size + 1) (by omega)).trans H3.out.2.2.2.1)).1, e4, f4, (box_cell ((hk _ (by omega) (by omega) (by omega) (by omega)).trans p3)).1, (box_cell ((hk _ (by omega) (by omega) (by omega) (by omega)).trans p5)).1⟩
    exact fr_below hL.fr (HBw.out.trans (hb9.mono HBw.out.size)) (fun k hk => by simp only [List.mem_cons, List.not_mem_nil, or_false] at hk; omega) (Nat.le_refl _)
  have HL0 : Hid (Li w9 a.n (w4.heap.size + 1) (w4.heap.size + 1 + 1 + 1) (w4.heap.size + 1 + 1 + 1 + 1) (Tkn a (d := d) []) 0 (lastK (d := d) []) w9) := by
    obtain ⟨p1, p2, p3, p4, p5, p6, p7⟩ := H8'.out
    exact ⟨Fr.refl _ _, ⟨M, (hb9.block _ (by omega)).trans p4, HMt.out⟩, (hb9.block _ (by omega)).trans p6, (hb9.block _ (by omega)).trans p7⟩
  have HSq : Hid (∀ k ∈ q.S, k ≠ w4.heap.size + 1 ∧ k ≠ w4.heap.size + 1 + 1 + 1 ∧ k ≠ w4.heap.size + 1 + 1 + 1 + 1) := fun k hk => by
    have h1 := HQ.out.2.2 k hk
    have h2 := H8'.out.2.1
    omega
  clear hq hAll hb9 hS hmk HMt
  gi_wp2
  refine rangeH rfl (by omega) (gf := 65) (lb := #[.pointer (some ⟨q.A, 0, none⟩)]) rfl trivial (enters_of Try.func65 (by kernel_rfl) rfl)
    (seq_mem Fence.wide 8 trivial rfl (by omega) q d w9 HQ.out.1) (Kq.refl _) Kq.trans (Kq.put (fun k hk => HQ.out.1.lt k hk)) (Below.refl _ _) (fun _ => rfl)
    (fun pre W => Li w9 a.n (w4.heap.size + 1) (w4.heap.size + 1 + 1 + 1) (w4.heap.size + 1 + 1 + 1 + 1) (Tkn a pre) pre.length (lastK pre) W) (fun (cc : Code) (pre : List (Mem' d)) (_ : World) => cc = Code.ret ∧ ¬ Ord pre)
    (Li.from (fun pre : List (Mem' d) => Tkn a pre) (fun pre => pre.length) (fun pre => lastK pre) (Nat.le_refl _)) (fun _ _ _ _ _ hs _ _ => hs) HL0.out ?HA1 ?done1 ?stop1
  case HA1 =>
    apply Exists.intro
    refine ⟨?assign1, ?body1⟩
    case assign1 =>
      intro l' x W K hK
      have HK := show Hid _ from hK
      clear hK
      gi_wp2
      exact HK.out
    case body1 =>
      rintro l' pre x W hl hr hI hlt
      obtain ⟨g0, g1, g2, g3, g4, g5, g6⟩ := HF.out _ _ _ _ hI
      obtain ⟨i1, i2, i3, i4, i5, i6⟩ := hI.cells
      have hKp := HKp.out W g0
      have hgx := (HD.out x.1).1 x.2
      have hkl := HQ.out.1.kl x.1 x.2
      obtain ⟨zv1, hz1, vb, hvb, hvc, _⟩ := hKp.some_ _ _ hgx
      have hlk := hKp.bk.lookOk hkl
      rw [hz1] at hlk
      simp only [Option.getD_some, Option.isSome_some] at hlk
      have hsl := slot_any hKp.mine.1 x.1.1
      rw [hgx] at hsl
      simp only [Option.isSome_some, if_true] at hsl
      have HS := show Hid _ from hsl
      have hfl := HOk.out.find_lt x.1.1
      have iat := i1 _ hfl
      have hzz : (zv1 != zv1) = false := by simp
      have HPut : Hid (∀ y, y = x.1.1 → Li w9 a.n (w4.heap.size + 1) (w4.heap.size + 1 + 1 + 1) (w4.heap.size + 1 + 1 + 1 + 1) (Tkn a (pre ++ [x])) (pre ++ [x]).length (lastK (pre ++ [x])) (((W.setCell ⟨w4.heap.size + 1, a.find x.1.1, none⟩ (.bool true)).setCell ⟨w4.heap.size + 1 + 1 + 1 + 1, 0, none⟩ (U y)).setCell ⟨w4.heap.size + 1 + 1 + 1, 0, none⟩ (I ((pre.length : Int) + 1)))) := fun y hy => by
        subst hy
        rw [lastK_snoc, List.length_append]
        exact hI.put hfl x.1.1 (fun p => Tkn_snoc a pre x p)
      have HKq : Hid (∀ p u v1 v2, Kq q.S W (((W.setCell ⟨w4.heap.size + 1, p, none⟩ u).setCell ⟨w4.heap.size + 1 + 1 + 1 + 1, 0, none⟩ v1).setCell ⟨w4.heap.size + 1 + 1 + 1, 0, none⟩ v2)) := fun p u v1 v2 => ⟨by simp [World.setCell], fun k hk => by
        obtain ⟨h1, h2, h3⟩ := HSq.out k hk
        rw [set_other h2, set_other h3, set_other h1]⟩
      obtain ⟨n1, n2, n3⟩ := hI.ne
      have j7 : ((W.setCell ⟨w4.heap.size + 1, a.find x.1.1, none⟩ (.bool true)).setCell ⟨w4.heap.size + 1 + 1 + 1 + 1, 0, none⟩ (U x.1.1)).cell? ⟨w4.heap.size + 1 + 1 + 1, 0, none⟩ = some (I pre.length) := (World.cell?_of_block (a := ⟨w4.heap.size + 1 + 1 + 1, 0, none⟩) (by rw [set_other n3, set_other (Ne.symm n1)])).trans i3
      have j7f : ((W.setCell ⟨w4.heap.size + 1, a.find x.1.1, none⟩ (.bool true)).setCell ⟨w4.heap.size + 1 + 1 + 1 + 1, 0, none⟩ (U x.1.1)).frozen? ⟨w4.heap.size + 1 + 1 + 1, 0, none⟩ = false := by rw [World.frozen?_setCell, World.frozen?_setCell]; exact i4
      have j8 : (W.setCell ⟨w4.heap.size + 1, a.find x.1.1, none⟩ (.bool true)).cell? ⟨w4.heap.size + 1 + 1 + 1 + 1, 0, none⟩ = some (U (lastK pre)) := (World.cell?_of_block (a := ⟨w4.heap.size + 1 + 1 + 1 + 1, 0, none⟩) (set_other (Ne.symm n2))).trans i5
      have j8f : (W.setCell ⟨w4.heap.size + 1, a.find x.1.1, none⟩ (.bool true)).frozen? ⟨w4.heap.size + 1 + 1 + 1 + 1, 0, none⟩ = false := by rw [World.frozen?_setCell]; exact i6
      have j6 : (W.setCell ⟨w4.heap.size + 1, a.find x.1.1, none⟩ (.bool true)).cell? ⟨w4.heap.size + 1 + 1, 0, none⟩ = some (.slice (some ⟨w4.heap.size + 1, 0, none⟩) a.n a.n) := (World.cell?_of_block (a := ⟨w4.heap.size + 1 + 1, 0, none⟩) (set_other (show w4.heap.size + 1 + 1 ≠ w4.heap.size + 1 by omega))).trans g6
      have i2' := i2 (a.find x.1.1)
      have HNo : Hid ((Tkn a pre (a.find x.1.1) = true → ¬ Ord (pre ++ [x])) ∧ (0 < pre.length → x.1.1 ≤ lastK pre → ¬ Ord (pre ++ [x]))) := ⟨fun e ho => (by rw [Ord.tk HOk.out (fun x hx => (HD.out x).1 hx) ho] at e; cases e), fun h0 hle ho => (by have := Ord.last ho h0; omega)⟩
      have hlen : (pre.length : Int) ≤ 4194304 := by have := HQ.out.1.len; omega
      dsimp only at *
      generalize hpx : pre ++ [x] = px at *
      generalize hkx : x.1.1 = kx at *
      generalize hvx : x.1.2 = vx at *
      subst hvb
      clear hpx hkx hvx hKp hgx hkl hz1 hsl hI hr hl hlt g0 i1 i2 n1 n2 n3
      generalize hfx : a.find kx = fx at *
      generalize hlp : lastK pre = lp at *
      generalize htk : Tkn a pre fx = tk at *
      obtain ⟨fi, e1, e2⟩ : ∃ fi : Int, (fx : Int) = fi ∧ fx = fi.toNat := ⟨_, rfl, by omega⟩
      obtain ⟨cn, e3⟩ : ∃ cn : Int, (pre.length : Int) = cn := ⟨_, rfl⟩
      rw [e1] at HS
      rw [e3] at i3 j7 HPut
      have hf1 : fi < (a.n : Int) := by omega
      have hf2 : 0 ≤ fi := by omega
      have hf3 : decide ((a.n : Int) ≤ fi) = false := decide_eq_false (by omega)
      have hf0 : decide (fi < 0) = false := decide_eq_false (by omega)
      have hcn : cn ≤ 4194304 := by omega
      have hcn0 : 0 ≤ cn := by omega
      have HCn : Hid ((pre.length : Int) = cn) := e3
      subst e2
      clear hfx hlp htk hfl e1 e3 hlen
      simp only [ev]
      gi_wp2
      refine ⟨trivial, (CallsIn.inRound l' (callsIn_wide.2 HS.out)).mono ?_⟩
      rintro r W1 ⟨rfl, rfl⟩
      clear HS
      cases tk with
      | true =>
        gi_wp2
        exact ⟨(KeepsOthers.setCell _ _ _).from _, rfl, HNo.out.1 (by first | rfl | trivial)⟩
      | false =>
        by_cases h0 : 0 < pre.length
        · have h0' : (0 : Int) < cn := by have := HCn.out; omega
          by_cases hle : kx ≤ lp
          · have hle' : (kx : Int) ≤ (lp : Int) := by omega
            have HNo2 : Hid (¬ Ord px) := HNo.out.2 h0 hle
            gi_wp2
            exact ⟨(KeepsOthers.setCell _ _ _).from _, rfl, HNo2.out⟩
          · have hle' : decide ((kx : Int) ≤ (lp : Int)) = false := by simp; omega
            have hle2 : decide (kx ≤ lp) = false := by simp; omega
            clear hle h0
            gi_wp2
            exact ⟨((KeepsOthers.setCell _ _ _).trans ((KeepsOthers.setCell _ _ _).trans (KeepsOthers.setCell _ _ _))).from _, HKq.out _ _ _ _, HPut.out _ rfl⟩
        · have h0' : decide ((0 : Int) < cn) = false := decide_eq_false (by have := HCn.out; omega)
          clear h0
          gi_wp2
          exact ⟨((KeepsOthers.setCell _ _ _).trans ((KeepsOthers.setCell _ _ _).trans (KeepsOthers.setCell _ _ _))).from _, HKq.out _ _ _ _, HPut.out _ rfl⟩
  case stop1 =>
    rintro D cc pre W hD ⟨k, hk, e1⟩ ⟨rfl, hb⟩ hK
    refine absurd ?_ hb
    unfold Ord
    rw [e1]
    exact HQ.out.2.1.srt.sublist (List.take_sublist _ _)
  case done1 =>
    rintro D ys W hD hys hI hK
    have hcnt : ys.length = a.count := by
      rw [← HQ.out.2.1.len HOk.out]
      have := congrArg List.length hys
      rw [List.length_map] at this
      exact this
    rw [hcnt] at hI
    obtain ⟨g0, g1, g2, g3, g4, g5, g6⟩ := HF.out _ _ _ _ hI
    obtain ⟨i1, _, i3, _, _, _⟩ := hI.cells
    have HBW : Hid (Below w.heap.size w W) := g0
    have HV : Hid (∀ V, Below W.heap.size W V → Below w.heap.size w V ∧ V.cell? ⟨w.heap.size, 0, none⟩ = some (.pointer (some ⟨g, 0, none⟩)) ∧ V.cell? ⟨w.heap.size + 1, 0, none⟩ = some (.map (some b)) ∧ V.cell? ⟨w.heap.size + 1 + 1, 0, none⟩ = some (.bool false) ∧ V.frozen? ⟨w.heap.size + 1 + 1, 0, none⟩ = false ∧ V.cell? ⟨w4.heap.size, 0, none⟩ = some (I a.n) ∧ V.cell? ⟨w4.heap.size + 1 + 1, 0, none⟩ = some (.slice (some ⟨w4.heap.size + 1, 0, none⟩) a.n a.n) ∧ V.cell? ⟨w4.heap.size + 1 + 1 + 1, 0, none⟩ = some (I a.count) ∧ (∀ p, p < a.n → V.cell? ⟨w4.heap.size + 1, p, none⟩ = some (.bool (Tkn a ys p))) ∧ V.heap[D]? = some (.deferred (some []))) := fun V hV => by
      have e : ∀ {b i : Nat} {v : Value}, W.cell? ⟨b, i, none⟩ = some v → V.cell? ⟨b, i, none⟩ = some v := fun {b i v} hv => (World.cell?_of_block (a := ⟨b, i, none⟩) (hV.block b (World.block_lt_of_cell? W _ hv))).trans hv
      refine ⟨g0.trans (hV.mono g0.size), e g1, e g2, e g3, ?_, e g5, e g6, e i3, fun p hp => e (i1 p hp), (hV.block D (Array.getElem?_eq_some_iff.1 hK).1).trans hK⟩
      rw [World.frozen?, hV.block (w.heap.size + 1 + 1) (World.block_lt_of_cell? W _ g3)]
      exact g4
    have HD1 : Hid (w.heap.size ≤ D ∧ D < W.heap.size) := ⟨by have := HBw.out.size; have := HB9.out.size; omega, (Array.getElem?_eq_some_iff.1 hK).1⟩
    have HTk : Hid (∀ k j, j < fi a.t a.n (hm a.b k) k → Tkn a ys (pl a.n (hm a.b k) j) = true) := fun k j hj => between HOk.out HD.out hys hj
    clear hI hcnt g0 g2 g3 g4 g5 g6 i1 i3 HL0 HF HSq HB9 hD hK
    gi_wp2
    refine ⟨trivial, (callsIn_wide.2 (all_seq (HKp.out _ HBW.out).mine.1)).mono ?_⟩
    rintro r w10 ⟨q2, d2, rfl, hq, hAll, hb10, hS⟩
    simp only [clo]
    obtain rfl : d2 = d := hAll.eq HQ.out.2.1
    have HQ2 : Hid (Sq w10 q2 d2) := hq
    have HB10 : Hid (Below W.heap.size W w10) := hb10
    clear hq hAll hb10 hS g1
    gi_wp2
    refine rangeH rfl (by omega) (gf := 65) (lb := #[.pointer (some ⟨q2.A, 0, none⟩)]) rfl trivial (enters_of Try.func65 (by kernel_rfl) rfl)
      (seq_mem Fence.wide 8 trivial rfl (by omega) q2 d2 w10 HQ2.out) (Kq.refl _) Kq.trans (Kq.put (fun k hk => HQ2.out.lt k hk)) (Below.refl _ _) (fun _ => rfl)
      (fun _ V => Below w10.heap.size w10 V) (fun (_ : Code) (_ : List (Mem' d2)) (_ : World) => False)
      (ownFrom_below (Nat.le_refl _) (Nat.le_refl _)) (fun _ _ _ _ _ hs _ _ => hs) (Below.refl _ _) ?HA2 ?done2 ?stop2
    case HA2 =>
      apply Exists.intro
      refine ⟨?assign2, ?body2⟩
      case assign2 =>
        intro l' x V K hK
        have HK := show Hid _ from hK
        clear hK
        gi_wp2
        exact HK.out
      case body2 =>
        rintro l' pre x V hl hr hI hlt
        have hbV : Below W.heap.size W V := HB10.out.trans (hI.mono HB10.out.size)
        obtain ⟨g0, g1, g2, g3, g4, g5, g6, g7, g8, _⟩ := HV.out V hbV
        have hKp := HKp.out V g0
        have hgx := (HD.out x.1).1 x.2
        have hsl := slot_any hKp.mine.1 x.1.1
        rw [hgx] at hsl
        simp only [Option.isSome_some, if_true] at hsl
        have HS := show Hid _ from hsl
        have HH := show Hid _ from home_any hKp.mine.1.1 HOk.out.b x.1.1
        have hfl := HOk.out.find_lt x.1.1
        have hhl := HOk.out.hm_lt x.1.1
        have hJ : fi a.t a.n (hm a.b x.1.1) x.1.1 < a.n := fi_lt hhl HOk.out.hole
        have HG8 : Hid (∀ p, p < a.n → V.cell? ⟨w4.heap.size + 1, p, none⟩ = some (.bool (Tkn a ys p))) := g8
        have HTk2 := show Hid _ from HTk.out x.1.1
        have HI : Hid (Below w10.heap.size w10 V) := hI
        have hfd : a.find x.1.1 = pl a.n (hm a.b x.1.1) (fi a.t a.n (hm a.b x.1.1) x.1.1) := rfl
        rw [hfd] at HS hfl
        generalize hpx : pre ++ [x] = px at *
        generalize x.1.1 = kx at *
        generalize x.1.2 = vx at *
        generalize fi a.t a.n (hm a.b kx) kx = J at *
        generalize hh : hm a.b kx = h0 at *
        obtain ⟨hi, e1⟩ : ∃ hi : Int, (h0 : Int) = hi := ⟨_, rfl⟩
        rw [e1] at HH
        have hh1 : decide (hi < 0) = false := decide_eq_false (by omega)
        have hh2 : decide ((a.n : Int) ≤ hi) = false := decide_eq_false (by omega)
        have HE : Hid ((h0 : Int) = hi ∧ h0 < a.n ∧ J < a.n) := ⟨e1, hhl, hJ⟩
        have hnz : ((a.n : Int) == 0) = false := by simp; omega
        clear hpx hgx hsl hI hr hl hlt hbV hfl hhl hJ hfd e1 g8 hh g0 hKp
        simp only [ev]
        gi_wp2
        refine ⟨trivial, (CallsIn.inRound l' (callsIn_wide.2 HS.out)).mono ?_⟩
        rintro r V1 ⟨rfl, rfl⟩
        gi_wp2
        refine ⟨trivial, (CallsIn.inRound l' (callsIn_wide.2 HH.out)).mono ?_⟩
        rintro r V2 ⟨rfl, rfl⟩
        clear HS HH
        gi_wp2
        gi_loopg [19] J (fun r vi wr => ∃ j : Nat, j + r = J ∧ vi = I (pl a.n h0 j : Nat) ∧ wr = V2)
        case atStart => exact ⟨0, by omega, by rw [pl_zero HE.out.2.1, HE.out.1], rfl⟩
        case round =>
          obtain ⟨j, hjr, rfl, rfl⟩ := hrel
          by_cases hjJ : j < J
          · have hpl := pl_lt HE.out.2.1 (show j < a.n by have := HE.out.2.2; omega)
            have hne : pl a.n h0 j ≠ pl a.n h0 J := fun e => by
              have h1 := D_pl HE.out.2.1 (show j < a.n by have := HE.out.2.2; omega)
              have h2 := D_pl HE.out.2.1 HE.out.2.2
              rw [e, h2] at h1
              omega
            have hcell := HG8.out _ hpl
            rw [HTk2.out j hjJ] at hcell
            have hnx := nx_pl HE.out.2.1 (show j + 1 < a.n by have := HE.out.2.2; omega)
            have HJr : Hid (j + gk = J ∧ j < J) := ⟨hjr, hjJ⟩
            have hrem : (((pl a.n h0 j : Nat) : Int) + 1).tmod (a.n : Int) = ((pl a.n h0 (j + 1) : Nat) : Int) := by
              rw [← hnx]
              have e1 : ((pl a.n h0 j : Nat) : Int) + 1 = ((pl a.n h0 j + 1 : Nat) : Int) := by omega
              rw [e1, ← Int.ofNat_tmod]
              unfold nx
              split
              · rw [Nat.mod_eq_of_lt (by assumption)]
              · rw [show pl a.n h0 j + 1 = a.n by omega, Nat.mod_self]
            have hp2 := pl_lt (i := j + 1) HE.out.2.1 (show j + 1 < a.n by have := HE.out.2.2; omega)
            generalize ep2 : pl a.n h0 (j + 1) = p2 at *
            have HP2 : Hid (pl a.n h0 (j + 1) = p2) := ep2
            clear ep2
            generalize pl a.n h0 j = p1 at *
            generalize pl a.n h0 J = pJ at *
            obtain ⟨pi, e5, e6⟩ : ∃ pi : Int, (p1 : Int) = pi ∧ p1 = pi.toNat := ⟨_, rfl, by omega⟩
            have hne1 : (pi != (pJ : Int)) = true := by simp; omega
            have hp1n : pi < (a.n : Int) := by omega
            have hp10 : 0 ≤ pi := by omega
            have hp28 : (p2 : Int) ≤ 8388608 := by omega
            rw [e5] at hrem ⊢
            rw [e6] at hcell
            clear e5 e6
            clear hne hjr hjJ hpl hnx hp2
            gi_wp2
            gi_roundg (J - (j + 1))
            case measure => have := HJr.out; omega
            case rel => exact ⟨j + 1, by have := HJr.out; omega, by rw [HP2.out], rfl⟩
          · obtain rfl : j = J := by omega
            have hne1 : (((pl a.n h0 j : Nat) : Int) != ((pl a.n h0 j : Nat) : Int)) = false := by simp
            gi_wp2
            exact ⟨KeepsFrom.refl _ _, Kq.refl _ _, HI.out⟩
    case stop2 =>
      rintro D2 cc pre V hD2 _ h hK
      exact h.elim
    case done2 =>
      rintro D2 zs V hD2 hzs hI hK2
      have hbV : Below W.heap.size W V := HB10.out.trans (hI.mono HB10.out.size)
      obtain ⟨g0, g1, g2, g3, g4, g5, g6, g7, _, g9⟩ := HV.out V hbV
      have hln := (HKp.out V g0).bk.len
      have hac : (a.count : Int) ≤ 4194304 := by
        have h1 := HQ.out.1.len
        have h2 := HQ.out.2.1.len HOk.out
        omega
      have HDs : Hid (V.heap[D2]? = some (.deferred (some [])) ∧ V.heap[D]? = some (.deferred (some [])) ∧ V.cell? ⟨w.heap.size + 1 + 1, 0, none⟩ = some (.bool false) ∧ D < D2 ∧ w.heap.size ≤ D ∧ Below w.heap.size w V) := ⟨hK2, g9, g3, by have := HD1.out.2; have := HB10.out.size; omega, HD1.out.1, g0⟩
      have hcc : ((a.count : Int) == (a.count : Int)) = true := by simp
      clear hbV hI hK2 g9 g0
      gi_wp2
      obtain ⟨q1, q2', q3, q4, q5, q6⟩ := HDs.out
      have hA2 := (KeepsOthers.setCell V ⟨w.heap.size + 1 + 1, 0, none⟩ (.bool true)).same D2 _ q1 rfl
      have hA1 := (KeepsOthers.setCell V ⟨w.heap.size + 1 + 1, 0, none⟩ (.bool true)).same D _ q2' rfl
      have hB1 := (World.putObj_heap_other (w := V.setCell ⟨w.heap.size + 1 + 1, 0, none⟩ (.bool true)) (o := .deferred none) (show D ≠ D2 by omega)).trans hA1
      have bS := q6.setCell (p := ⟨w.heap.size + 1 + 1, 0, none⟩) (by simp; omega) (.bool true)
      have b2 := Go.Proofs.Ytkekmmomdhdegaa.Ii.belowK_b' (ob' := .deferred none) bS (show w.heap.size ≤ D2 by omega) hA2
      have b1 := Go.Proofs.Ytkekmmomdhdegaa.Ii.belowK_b' (ob' := .deferred none) b2 q5 hB1
      have c3 := World.cell?_setCell_same' V ⟨w.heap.size + 1 + 1, 0, none⟩ (.bool true) (by rw [q3]; rfl)
      have c2 := cell_kept c3 (grownBy_putObj' _ D2 (.deferred none)) (fun r e => by cases e; exact ⟨_, hA2, rfl⟩)
      have c1 := cell_kept c2 (grownBy_putObj' _ D (.deferred none)) (fun r e => by cases e; exact ⟨_, hB1, rfl⟩)
      refine ⟨by simp, .inl ⟨_, _, rfl, run_takeDeferred hA2, by simp, .inl ⟨_, _, rfl, run_takeDeferred hB1, ?_⟩⟩⟩
      refine ⟨.bool true, ?_, rfl, b1⟩
      simp [results, Try.f22, go_sem, c1]
end Go.Proofs.Ytkekmmomdhdegaa.Ij
