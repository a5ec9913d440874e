import Derived.Test.YtcicifcnffacpaaDoorJR
import Derived.Test.YtcicifcnffacpaaDoorJV
set_option linter.unusedSimpArgs false
namespace Go.Proofs.YtcicifcnffacpaaDoor.Cd
open Go.RowKit Go.Proofs.YtcicifcnffacpaaDoor.Nm Go.Proofs.YtcicifcnffacpaaDoor.Vf

theorem rs_assoc {α β γ : Type} (x : Rs α) (f : α → Nat → List Nat → Rs β) (g : β → Nat → List Nat → Rs γ) : (x.bind f).bind g = x.bind fun a i t => (f a i t).bind g := by cases x <;> rfl
/-- operands, one behind the other -/
def opL {β : Type} (kd : Nat → Int) (h : (Nat → Int) → Nat → List Nat → Rs β) : Nat → (Nat → Int) → Nat → List Nat → Rs β
  | 0, a, i, t => h a i t
  | m + 1, a, i, t => (opR (kd (3 - m)) i t).bind fun v i t => opL kd h m (fun j => if j = 3 - m then v else a j) i t
theorem ins_opL {β : Type} (op : Nat) (hop : op < 42) (G : Ins → Nat → List Nat → Rs β) (i0 i : Nat) (t : List Nat) :
    ((if 42 ≤ op then Rs.die 91 i0 else (opR (Cd.kd4 op).1 i t).bind fun a i t => (opR (Cd.kd4 op).2.1 i t).bind fun b i t => (opR (Cd.kd4 op).2.2.1 i t).bind fun c i t => (opR (Cd.kd4 op).2.2.2 i t).bind fun d i t => .ok ⟨(op : Int), a, b, c, d⟩ i t).bind G) = opL (kdN op) (fun a => G ⟨(op : Int), a 0, a 1, a 2, a 3⟩) 4 (fun _ => 0) i t := by
  rw [if_neg (by omega)]
  simp only [rs_assoc]
  rfl
theorem opL_zero {β : Type} {kd : Nat → Int} {h : (Nat → Int) → Nat → List Nat → Rs β} {k m : Nat} {a : Nat → Int} (hk : k + (m + 1) = 4) (hz : kd k = 0) (ha : a k = 0) (i : Nat) (t : List Nat) : opL kd h (m + 1) a i t = opL kd h m a i t := by
  have e3 : 3 - m = k := by omega
  show (opR (kd (3 - m)) i t).bind _ = _
  rw [e3, hz]
  show opL kd h m (fun j => if j = k then 0 else a j) i t = _
  congr 1
  funext j
  by_cases hj : j = k
  · subst hj
    rw [if_pos rfl, ha]
  · rw [if_neg hj]
theorem opL_sgn {β : Type} {kd : Nat → Int} {h : (Nat → Int) → Nat → List Nat → Rs β} {k m : Nat} {a : Nat → Int} (hk : k + (m + 1) = 4) (hz : kd k = 5) (i : Nat) (t : List Nat) : opL kd h (m + 1) a i t = (rsg i t).bind fun v i t => opL kd h m (fun j => if j = k then v else a j) i t := by
  have e3 : 3 - m = k := by omega
  show (opR (kd (3 - m)) i t).bind _ = _
  rw [e3, hz]
  rfl
theorem opL_num {β : Type} {kd : Nat → Int} {h : (Nat → Int) → Nat → List Nat → Rs β} {k m : Nat} {a : Nat → Int} (hk : k + (m + 1) = 4) (h0 : kd k ≠ 0) (h5 : kd k ≠ 5) (i : Nat) (t : List Nat) : opL kd h (m + 1) a i t = (num i t).bind fun v i t => opL kd h m (fun j => if j = k then (v : Int) else a j) i t := by
  have e3 : 3 - m = k := by omega
  show (opR (kd (3 - m)) i t).bind _ = _
  rw [e3]
  unfold opR
  rw [if_neg h0, if_neg h5]
  unfold rnu
  rw [rs_assoc]
  rfl
theorem Lq.set {w0 w : World} {b pb lb j n sz : Nat} {C : Value → Array Value} {T : TypeId} {xs : List Value} {v u : Value} {cs : Array Value} (h : Lq w0 b pb C T sz n xs v w) (hb : w.heap[lb]? = some (.cells cs 81 (0, 0))) (hT : T ≠ 81) (hge : w0.heap.size ≤ lb) : Lq w0 b pb C T sz n xs v (w.setCell ⟨lb, j, none⟩ u) := by
  have hl := h.lt
  have hset : ∀ k, k ≠ lb → (w.setCell ⟨lb, j, none⟩ u).heap[k]? = w.heap[k]? := fun k hk => Below.heap_setCell w _ u k (fun e => hk e)
  have hsz : (w.setCell ⟨lb, j, none⟩ u).heap.size = w.heap.size := by simp [World.setCell]
  refine ⟨⟨h.fr.os, h.fr.tape, h.fr.output, by rw [hsz]; exact h.fr.size, fun k hk hn => (hset k (by omega)).trans (h.fr.block k hk hn)⟩, (hset pb (by omega)).trans h.hb, own_keepB h.ow fun k e => hset k fun e' => ?_, hl⟩
  subst e'
  rcases h.ow.2 with ⟨e1, _⟩ | ⟨g', cap, cur, e1, _, e4, _⟩
  · rw [e1] at e
    cases e
  · rw [e1] at e
    cases e
    rw [hb] at e4
    have e5 := Option.some.inj e4
    injection e5 with _ e6 _
    exact hT e6.symm
theorem arr_at {a : Nat → Int} {w : World} {lb k : Nat} (h : w.heap[lb]? = some (.cells #[.int .i64 (a 0), .int .i64 (a 1), .int .i64 (a 2), .int .i64 (a 3)] 81 (0, 0))) (hk : k < 4) (v : Int) : (w.setCell ⟨lb, k, none⟩ (.int .i64 v)).heap[lb]? = some (.cells #[.int .i64 ((fun j => if j = k then v else a j) 0), .int .i64 ((fun j => if j = k then v else a j) 1), .int .i64 ((fun j => if j = k then v else a j) 2), .int .i64 ((fun j => if j = k then v else a j) 3)] 81 (0, 0)) := by
  rw [heap_setCell_same w lb k _ _ _ h]
  match k, hk with
  | 0, _ => rfl
  | 1, _ => rfl
  | 2, _ => rfl
  | 3, _ => rfl
set_option maxHeartbeats 51200000 in
set_option maxRecDepth 100000 in
/-- code -/
theorem qcode_any {β : Type} {W : World} {b pb : Nat} {bo : Option Addr} {bc : Nat} {s : List Nat} {R : Rs β} {g : List Ins → Nat → List Nat → Rs β} {g1 g2 g3 g4 : Value} {ms : Int}
    (hc : Ctn W b bo bc s R fun i t => (cnt 262144 i t).bind fun n i t => (lisR insR n [] i t).bind g) (hb : W.heap[pb]? = some (.cells #[g1, g2, g3, g4, .int .i64 ms, .slice none 0 0] 27 (0, 0))) (hl : b < pb) :
    Calls Tryd.prog 50 #[.pointer (some ⟨b, 0, none⟩), .pointer (some ⟨pb, 0, none⟩)] W fun e W' => e = .returned (.tuple #[]) ∧ Fb [b, pb] W.heap.size W W' ∧ ∃ (cd : List Ins) (v : Value), W'.heap[pb]? = some (.cells #[g1, g2, g3, g4, .int .i64 ms, v] 27 (0, 0)) ∧ W'.ownsRow W.heap.size 53 5 v cd.length (Vf.cC cd) ∧ Ctn W' b bo bc s R (g cd) := by
  have HC0 := show Hid _ from ctn_many (by decide) hc
  have HB0 : Hid (W.heap[pb]? = some (.cells #[g1, g2, g3, g4, .int .i64 ms, .slice none 0 0] 27 (0, 0)) ∧ b < pb ∧ pb < W.heap.size) := ⟨hb, hl, blk_lt hb⟩
  obtain ⟨id, hid, hid0, hid1, hid2⟩ := info_parts infoIr
  have HI : Hid (Tryd.prog.info? 53 = some id ∧ id.zero = some (.agg #[.int .i64 0, .int .i64 0, .int .i64 0, .int .i64 0, .int .i64 0]) ∧ id.size = 5 ∧ id.bytes = 40) := ⟨hid, hid0, hid1, hid2⟩
  clear hc hb hl hid hid0 hid1 hid2
  go_enter Tryd.func50, Tryd.ntmps50
  go_wp2_with fail
  refine Calls.mono HC0.out ?_
  rintro e w1 ⟨hf, n, rfl, hct, hn⟩
  have H1 : Hid (Fg b W w1 ∧ Ctn w1 b bo bc s R (fun i t => (lisR insR n [] i t).bind g) ∧ n ≤ 262144 ∧ w1.heap[pb]? = some (.cells #[g1, g2, g3, g4, .int .i64 ms, .slice none 0 0] 27 (0, 0))) := ⟨hf, hct, hn, (hf.block pb HB0.out.2.2 (by have := HB0.out.2.1; omega)).trans HB0.out.1⟩
  clear hf hct hn HC0
  go_wp2_with fail
  refine (Vf.rtab_any w1).mono ?_
  rintro e w2 ⟨tb, rfl, hge, htb, hbw⟩
  have H2 : Hid (Fg b W w2 ∧ Ctn w2 b bo bc s R (fun i t => (lisR insR n [] i t).bind g) ∧ n ≤ 262144 ∧ w2.heap[pb]? = some (.cells #[g1, g2, g3, g4, .int .i64 ms, .slice none 0 0] 27 (0, 0)) ∧ w2.heap[tb]? = some (.cells tabC.toArray 84 (0, 0)) ∧ tb ≠ b ∧ tb ≠ pb) := by
    obtain ⟨q1, q2, q3, q4⟩ := H1.out
    have h1 := q2.blt
    have h2 := blk_lt q4
    exact ⟨q1.trans (Fg.of_below hbw), q2.below hbw, q3, (hbw.block pb h2).trans q4, htb, by omega, by omega⟩
  clear hge htb hbw H1
  have hn2 : (n : Int) ≤ 262144 := by have := H2.out.2.2.1; omega
  have HP : Hid (∀ w' (l : List Ins) (v : Value), Lq w2 b pb (fun v : Value => #[g1, g2, g3, g4, .int .i64 ms, v]) 53 5 l.length (Vf.cC l) v w' → Ctn w' b bo bc s R (g l) → (Fb [b, pb] W.heap.size W w' ∧ ∃ (cd : List Ins) (v : Value), w'.heap[pb]? = some (.cells #[g1, g2, g3, g4, .int .i64 ms, v] 27 (0, 0)) ∧ w'.ownsRow W.heap.size 53 5 v cd.length (Vf.cC cd) ∧ Ctn w' b bo bc s R (g cd))) := fun w' l v h1 h2 => by
    have hs := H2.out.1.size
    refine ⟨⟨h1.fr.os.trans H2.out.1.os, h1.fr.tape.trans H2.out.1.tape, h1.fr.output.trans H2.out.1.output, Nat.le_trans hs h1.fr.size, fun k hk hx => (h1.fr.block k (by omega) hx).trans (H2.out.1.block k hk fun e => hx (by simp [e]))⟩, l, v, h1.hb, own_base h1.ow hs, h2⟩
  go_wp2_with fail
  go_loopg [6] n (fun gq x wr => ∃ (k : Nat) (l : List Ins) (v : Value), k + gq = n ∧ x = .int .i64 (k : Int) ∧ l.length = k ∧ Lq w2 b pb (fun v : Value => #[g1, g2, g3, g4, .int .i64 ms, v]) 53 5 l.length (Vf.cC l) v wr ∧ Ctn wr b bo bc s R fun i t => (lisR insR (n - k) l i t).bind g)
  case atStart => exact ⟨0, [], .slice none 0 0, by omega, rfl, rfl, Lq.start H2.out.2.2.2.1 HB0.out.2.1, H2.out.2.1⟩
  case round =>
    obtain ⟨k, l, gv, hkg, rfl, hkl, hL, hct⟩ := hrel
    have HT : Hid (Lq w2 b pb (fun v : Value => #[g1, g2, g3, g4, .int .i64 ms, v]) 53 5 l.length (Vf.cC l) gv wr ∧ Ctn wr b bo bc s R (fun i t => (lisR insR (n - k) l i t).bind g) ∧ l.length = k ∧ k + gk = n) := ⟨hL, hct, hkl, hkg⟩
    clear hkg hkl hL hct
    by_cases hkm : k < n
    case neg =>
      have hk1 : ¬ (k : Int) < (n : Int) := by omega
      have HE : Hid (Ctn wr b bo bc s R (g l)) := HT.out.2.1.imp fun i h => by
        rw [h, show n - k = 0 by omega]
        rfl
      clear hkm
      go_wp2_with fail
      go_end0
      exact ⟨rfl, HP.out _ _ _ HT.out.1 HE.out⟩
    case pos =>
      have hk1 : (k : Int) < (n : Int) := by omega
      have HK : Hid (k < n) := hkm
      clear hkm
      go_wp2_with fail
      refine (ctn_bad HT.out.2.1).mono ?_
      rintro e _ ⟨r, rfl, rfl, hr1, hr2⟩
      cases r
      case true =>
        obtain ⟨i, er, q, h1, h2, h3⟩ := hr2 rfl
        have HE : Hid (Ctn wr b bo bc s R (g l)) := ⟨i, er, q, h1, Or.inr ⟨h2, h3⟩⟩
        clear hr1 hr2 h1 h2 h3
        go_wp2_with fail
        go_end0
        exact ⟨rfl, HP.out _ _ _ HT.out.1 HE.out⟩
      case false =>
        obtain ⟨i, hrn, hR⟩ := hr1 rfl
        clear hr1 hr2
        have HG : Hid (Rn wr b bo bc s i 0 0 ∧ R = (insR i (s.drop i)).bind fun a i t => (lisR insR (n - (k + 1)) (l ++ [a]) i t).bind g) := by
          refine ⟨hrn, ?_⟩
          rw [hR, show n - k = (n - (k + 1)) + 1 by have := HK.out; omega, lisR_bind]
        clear hrn hR
        have HN := show Hid _ from qnum_any HG.out.1
        have HIn : Hid (∀ op j t, num i (s.drop i) = .ok op j t → insR i (s.drop i) = if 42 ≤ op then .die 91 i else (opR (Cd.kd4 op).1 j t).bind fun a i t => (opR (Cd.kd4 op).2.1 i t).bind fun b i t => (opR (Cd.kd4 op).2.2.1 i t).bind fun c i t => (opR (Cd.kd4 op).2.2.2 i t).bind fun d i t => .ok ⟨(op : Int), a, b, c, d⟩ i t) := fun op j t h => by
          unfold insR
          rw [h]
          rfl
        have HDi : Hid (∀ er q, num i (s.drop i) = .die er q → R = .die er q) := fun er q h => by
          rw [HG.out.2]
          unfold insR
          rw [h]
          rfl
        have HDr : Hid (∀ op j t, num i (s.drop i) = .ok op j t → t = s.drop j ∧ op < 9223372036854775808) := fun op j t h => ⟨good_drop num_good0 h, num_ltN HG.out.1.byt h⟩
        go_wp2_with fail
        refine Calls.mono HN.out ?_
        rintro e w3 ⟨hf, hp⟩
        cases hnm : num i (s.drop i) with
        | die er q =>
          rw [hnm] at hp
          obtain ⟨rfl, he, j, hw⟩ := hp
          have HE : Hid (Rn w3 b bo bc s j er q ∧ Ctn w3 b bo bc s R (g l) ∧ Lq w2 b pb (fun v : Value => #[g1, g2, g3, g4, .int .i64 ms, v]) 53 5 l.length (Vf.cC l) gv w3) := ⟨hw, ⟨j, er, q, hw, Or.inr ⟨he, HDi.out er q hnm⟩⟩, HT.out.1.fg hf⟩
          have he2 : ((er : Int) != 0) = true := by rw [bne_iff_ne]; omega
          have HB := show Hid _ from qbad_any hw
          rw [he2] at HB
          clear hf hw he he2 hnm HN HIn HDi HDr
          go_wp2_with fail
          refine Calls.mono HB.out ?_
          rintro e _ ⟨rfl, rfl⟩
          go_wp2_with fail
          refine Calls.mono HB.out ?_
          rintro e _ ⟨rfl, rfl⟩
          go_wp2_with fail
          refine bodyPost_ret (results_none rfl _ _ _) rfl ?_
          exact ⟨rfl, HP.out _ _ _ HE.out.2.2 HE.out.2.1⟩
        | ok op j t =>
          rw [hnm] at hp
          obtain ⟨rfl, hw⟩ := hp
          obtain ⟨rfl, hop9⟩ := HDr.out op j t hnm
          have hin := HIn.out op j _ hnm
          have HLq : Hid (Lq w2 b pb (fun v : Value => #[g1, g2, g3, g4, .int .i64 ms, v]) 53 5 l.length (Vf.cC l) gv w3) := HT.out.1.fg hf
          have HB : Hid (Calls Tryd.prog 45 #[.pointer (some ⟨b, 0, none⟩)] w3 fun e W' => e = .returned (.bool false) ∧ w3 = W') := qbad_any hw
          have HW := show Hid _ from hw
          clear hf hw HN HIn HDi HDr hnm
          go_wp2_with fail
          refine Calls.mono HB.out ?_
          rintro e _ ⟨rfl, rfl⟩
          by_cases hop : 42 ≤ op
          case pos =>
            have hop1 : (42 : Int) ≤ (op : Int) := by omega
            have HE : Hid (R = .die 91 i) := by
              rw [HG.out.2, hin, if_pos hop]
              exact rfl
            clear hin hop hop9
            go_wp2_with fail
            refine (qfail_new HW.out 91 i).mono ?_
            rintro e w4 ⟨rfl, hw, hf⟩
            have HE4 : Hid (Ctn w4 b bo bc s R (g l) ∧ Lq w2 b pb (fun v : Value => #[g1, g2, g3, g4, .int .i64 ms, v]) 53 5 l.length (Vf.cC l) gv w4) := ⟨⟨j, 91, i, hw, Or.inr ⟨by decide, HE.out⟩⟩, HLq.out.fg hf⟩
            have HB4 : Hid (Calls Tryd.prog 45 #[.pointer (some ⟨b, 0, none⟩)] w4 fun e W' => e = .returned (.bool true) ∧ w4 = W') := qbad_any hw
            clear hf hw
            go_wp2_with fail
            refine Calls.mono HB4.out ?_
            rintro e _ ⟨rfl, rfl⟩
            go_wp2_with fail
            refine bodyPost_ret (results_none rfl _ _ _) rfl ?_
            exact ⟨rfl, HP.out _ _ _ HE4.out.2 HE4.out.1⟩
          case neg =>
            have HOp : Hid (op < 42 ∧ R = opL (kdN op) (fun a i t => (lisR insR (n - (k + 1)) (l ++ [⟨(op : Int), a 0, a 1, a 2, a 3⟩]) i t).bind g) 4 (fun _ => 0) j (s.drop j)) := by
              refine ⟨by omega, ?_⟩
              rw [HG.out.2, hin]
              exact ins_opL op (by omega) (fun a i t => (lisR insR (n - (k + 1)) (l ++ [a]) i t).bind g) i j (s.drop j)
            have hop1 : decide ((42 : Int) ≤ (op : Int)) = false := decide_eq_false (by omega)
            have hop3 : decide (42 ≤ op) = false := decide_eq_false hop
            clear hin hop hop9
            go_wp2_with fail
            refine Calls.mono HB.out ?_
            rintro e _ ⟨rfl, rfl⟩
            clear hop1 hop3
            have HA : Hid (Lq w2 b pb (fun v : Value => #[g1, g2, g3, g4, .int .i64 ms, v]) 53 5 l.length (Vf.cC l) gv (w3.alloc (.cells #[.int .i64 0, .int .i64 0, .int .i64 0, .int .i64 0] 81)) ∧ (w3.alloc (.cells #[.int .i64 0, .int .i64 0, .int .i64 0, .int .i64 0] 81)).heap[w3.heap.size]? = some (.cells #[.int .i64 0, .int .i64 0, .int .i64 0, .int .i64 0] 81 (0, 0)) ∧ Ctn (w3.alloc (.cells #[.int .i64 0, .int .i64 0, .int .i64 0, .int .i64 0] 81)) b bo bc s R (opL (kdN op) (fun a i t => (lisR insR (n - (k + 1)) (l ++ [⟨(op : Int), a 0, a 1, a 2, a 3⟩]) i t).bind g) 4 (fun _ => 0)) ∧ w2.heap.size ≤ w3.heap.size) := by
              have hb1 : Below w3.heap.size w3 (w3.alloc (.cells #[.int .i64 0, .int .i64 0, .int .i64 0, .int .i64 0] 81)) := (Below.refl _ w3).alloc (Nat.le_refl _) _
              exact ⟨HLq.out.below hb1, heap_alloc_new _ _, ⟨j, 0, 0, HW.out.below hb1, Or.inl ⟨rfl, rfl, HOp.out.2⟩⟩, HLq.out.fr.size⟩
            go_upto_region 10 with fail
            generalize w3.alloc (.cells #[.int .i64 0, .int .i64 0, .int .i64 0, .int .i64 0] 81) = w4 at *
            generalize w3.heap.size = lb at *
            have hop1 : (op : Int) < 42 := by have := HOp.out.1; omega
            have eop : IntKind.i64.wrap (op : Int) = (op : Int) := by rw [IntKind.wrap_i64]; omega
            clear HLq HB HW HG
            go_wp2_with fail
            go_loopg [10] 4 (fun gq x wi => ∃ (kk : Nat) (a : Nat → Int), kk + gq = 4 ∧ x = .int .i64 (kk : Int) ∧ Lq w2 b pb (fun v : Value => #[g1, g2, g3, g4, .int .i64 ms, v]) 53 5 l.length (Vf.cC l) gv wi ∧ wi.heap[lb]? = some (.cells #[.int .i64 (a 0), .int .i64 (a 1), .int .i64 (a 2), .int .i64 (a 3)] 81 (0, 0)) ∧ Ctn wi b bo bc s R (opL (kdN op) (fun a i t => (lisR insR (n - (k + 1)) (l ++ [⟨(op : Int), a 0, a 1, a 2, a 3⟩]) i t).bind g) (4 - kk) a) ∧ ∀ j, kk ≤ j → a j = 0)
            case atStart => exact ⟨0, fun _ => 0, rfl, rfl, HA.out.1, HA.out.2.1, HA.out.2.2.1, fun _ _ => rfl⟩
            case round =>
              obtain ⟨kk, a, hkg, rfl, hL, hlb, hct, hz⟩ := hrel
              have HU : Hid (Lq w2 b pb (fun v : Value => #[g1, g2, g3, g4, .int .i64 ms, v]) 53 5 l.length (Vf.cC l) gv wr ∧ wr.heap[lb]? = some (.cells #[.int .i64 (a 0), .int .i64 (a 1), .int .i64 (a 2), .int .i64 (a 3)] 81 (0, 0)) ∧ Ctn wr b bo bc s R (opL (kdN op) (fun a i t => (lisR insR (n - (k + 1)) (l ++ [⟨(op : Int), a 0, a 1, a 2, a 3⟩]) i t).bind g) (4 - kk) a) ∧ (∀ j, kk ≤ j → a j = 0) ∧ kk + gk = 4) := ⟨hL, hlb, hct, hz, hkg⟩
              clear hkg hL hlb hct hz
              by_cases hkk : kk < 4
              case pos =>
                have hk4 : (kk : Int) < 4 := by omega
                have HKK : Hid (kk < 4) := hkk
                obtain ⟨q, hq, hkd⟩ := kdN_lt op HOp.out.1 kk hkk
                have HQ : Hid (kdN op kk = (q : Int) ∧ q < 9) := ⟨hkd, hq⟩
                have ct : wr.cell? ⟨tb, op * 5 + 1 + kk, none⟩ = some (.int .i64 (q : Int)) := by
                  have h1 := HU.out.1.old H2.out.2.2.2.2.1 H2.out.2.2.2.2.2.1 H2.out.2.2.2.2.2.2
                  simp only [World.cell?, h1]
                  rw [← hkd, ← tabC_kd HOp.out.1 hkk]
                  simp
                clear hkd hkk
                by_cases hq0 : q = 0
                case pos =>
                  subst hq0
                  have HC : Hid (Ctn wr b bo bc s R (opL (kdN op) (fun a i t => (lisR insR (n - (k + 1)) (l ++ [⟨(op : Int), a 0, a 1, a 2, a 3⟩]) i t).bind g) (4 - (kk + 1)) a)) := HU.out.2.2.1.imp fun i h => by
                    rw [h, show 4 - kk = (4 - (kk + 1)) + 1 by have := HKK.out; omega]
                    exact opL_zero (k := kk) (by have := HKK.out; omega) HQ.out.1 (HU.out.2.2.2.1 kk (Nat.le_refl _)) _ _
                  clear hq
                  go_wp2_with fail
                  go_roundg (4 - (kk + 1))
                  case measure => have := HU.out.2.2.2.2; have := HKK.out; omega
                  case rel => exact ⟨kk + 1, a, by have := HKK.out; omega, by go_num, HU.out.1, HU.out.2.1, HC.out, fun j hj => HU.out.2.2.2.1 j (by omega)⟩
                by_cases hq5 : q = 5
                case pos =>
                  subst hq5
                  have HC : Hid (Ctn wr b bo bc s R fun i t => (rsg i t).bind fun v i t => opL (kdN op) (fun a i t => (lisR insR (n - (k + 1)) (l ++ [⟨(op : Int), a 0, a 1, a 2, a 3⟩]) i t).bind g) (4 - (kk + 1)) (fun j => if j = kk then v else a j) i t) := HU.out.2.2.1.imp fun i h => by
                    rw [h, show 4 - kk = (4 - (kk + 1)) + 1 by have := HKK.out; omega]
                    exact opL_sgn (k := kk) (by have := HKK.out; omega) HQ.out.1 _ _
                  have HCI := show Hid _ from ctn_int HC.out
                  clear hq hq0
                  go_wp2_with fail
                  refine Calls.mono HCI.out ?_
                  rintro e wj ⟨hf, vv, rfl, hct⟩
                  have HV : Hid (Lq w2 b pb (fun v : Value => #[g1, g2, g3, g4, .int .i64 ms, v]) 53 5 l.length (Vf.cC l) gv wj ∧ wj.heap[lb]? = some (.cells #[.int .i64 (a 0), .int .i64 (a 1), .int .i64 (a 2), .int .i64 (a 3)] 81 (0, 0)) ∧ Ctn wj b bo bc s R (opL (kdN op) (fun a i t => (lisR insR (n - (k + 1)) (l ++ [⟨(op : Int), a 0, a 1, a 2, a 3⟩]) i t).bind g) (4 - (kk + 1)) (fun j => if j = kk then vv else a j))) := ⟨HU.out.1.fg hf, (hf.block lb (blk_lt HU.out.2.1) (by have := HA.out.2.2.2; have := HU.out.1.lt; omega)).trans HU.out.2.1, hct⟩
                  clear hct hf HCI HC ct
                  have ck : wj.cell? ⟨lb, kk, none⟩ = some (.int .i64 (a kk)) := by
                    have hkk := HKK.out
                    simp only [World.cell?, HV.out.2.1]
                    match kk, hkk with
                    | 0, _ => rfl
                    | 1, _ => rfl
                    | 2, _ => rfl
                    | 3, _ => rfl
                  have zk := fzb HV.out.2.1 kk
                  have HW : Hid (Lq w2 b pb (fun v : Value => #[g1, g2, g3, g4, .int .i64 ms, v]) 53 5 l.length (Vf.cC l) gv (wj.setCell ⟨lb, kk, none⟩ (.int .i64 vv)) ∧ (wj.setCell ⟨lb, kk, none⟩ (.int .i64 vv)).heap[lb]? = some (.cells #[.int .i64 ((fun j => if j = kk then vv else a j) 0), .int .i64 ((fun j => if j = kk then vv else a j) 1), .int .i64 ((fun j => if j = kk then vv else a j) 2), .int .i64 ((fun j => if j = kk then vv else a j) 3)] 81 (0, 0)) ∧ Ctn (wj.setCell ⟨lb, kk, none⟩ (.int .i64 vv)) b bo bc s R (opL (kdN op) (fun a i t => (lisR insR (n - (k + 1)) (l ++ [⟨(op : Int), a 0, a 1, a 2, a 3⟩]) i t).bind g) (4 - (kk + 1)) (fun j => if j = kk then vv else a j))) := by
                    obtain ⟨q1, q2, q3⟩ := HV.out
                    refine ⟨q1.set q2 (by decide) HA.out.2.2.2, arr_at q2 HKK.out vv, q3.keep (fun k' hk' => Below.heap_setCell wj _ _ k' (fun e => by have e' : k' = lb := e; have := HA.out.2.2.2; have := q1.lt; omega)) (by simp [World.setCell])⟩
                  go_wp2_with fail
                  go_roundg (4 - (kk + 1))
                  case measure => have := HU.out.2.2.2.2; have := HKK.out; omega
                  case rel => exact ⟨kk + 1, fun j => if j = kk then vv else a j, by have := HKK.out; omega, by go_num, HW.out.1, HW.out.2.1, HW.out.2.2, fun j hj => by
                    show (if j = kk then vv else a j) = 0
                    rw [if_neg (by omega)]
                    exact HU.out.2.2.2.1 j (by omega)⟩
                case neg =>
                  have e0 : ((q : Int) == 0) = false := by rw [beq_eq_false_iff_ne]; omega
                  have e5 : ((q : Int) == 5) = false := by rw [beq_eq_false_iff_ne]; omega
                  have HC : Hid (Ctn wr b bo bc s R fun i t => (num i t).bind fun v i t => opL (kdN op) (fun a i t => (lisR insR (n - (k + 1)) (l ++ [⟨(op : Int), a 0, a 1, a 2, a 3⟩]) i t).bind g) (4 - (kk + 1)) (fun j => if j = kk then (v : Int) else a j) i t) := HU.out.2.2.1.imp fun i h => by
                    rw [h, show 4 - kk = (4 - (kk + 1)) + 1 by have := HKK.out; omega]
                    exact opL_num (k := kk) (by have := HKK.out; omega) (by rw [HQ.out.1]; omega) (by rw [HQ.out.1]; omega) _ _
                  have HCI := show Hid _ from ctn_num HC.out
                  clear hq hq0 hq5
                  go_wp2_with fail
                  refine Calls.mono HCI.out ?_
                  rintro e wj ⟨hf, vn, at_, rfl, hct, hvn⟩
                  obtain ⟨vv, hvv⟩ : ∃ vv : Int, (vn : Int) = vv := ⟨_, rfl⟩
                  have ev : IntKind.i64.wrap vv = vv := by rw [IntKind.wrap_i64]; omega
                  rw [hvv] at hct ⊢
                  have HV : Hid (Lq w2 b pb (fun v : Value => #[g1, g2, g3, g4, .int .i64 ms, v]) 53 5 l.length (Vf.cC l) gv wj ∧ wj.heap[lb]? = some (.cells #[.int .i64 (a 0), .int .i64 (a 1), .int .i64 (a 2), .int .i64 (a 3)] 81 (0, 0)) ∧ Ctn wj b bo bc s R (opL (kdN op) (fun a i t => (lisR insR (n - (k + 1)) (l ++ [⟨(op : Int), a 0, a 1, a 2, a 3⟩]) i t).bind g) (4 - (kk + 1)) (fun j => if j = kk then vv else a j))) := ⟨HU.out.1.fg hf, (hf.block lb (blk_lt HU.out.2.1) (by have := HA.out.2.2.2; have := HU.out.1.lt; omega)).trans HU.out.2.1, hct⟩
                  clear hvv hvn e0 e5
                  clear hct hf HCI HC ct
                  have ck : wj.cell? ⟨lb, kk, none⟩ = some (.int .i64 (a kk)) := by
                    have hkk := HKK.out
                    simp only [World.cell?, HV.out.2.1]
                    match kk, hkk with
                    | 0, _ => rfl
                    | 1, _ => rfl
                    | 2, _ => rfl
                    | 3, _ => rfl
                  have zk := fzb HV.out.2.1 kk
                  have HW : Hid (Lq w2 b pb (fun v : Value => #[g1, g2, g3, g4, .int .i64 ms, v]) 53 5 l.length (Vf.cC l) gv (wj.setCell ⟨lb, kk, none⟩ (.int .i64 vv)) ∧ (wj.setCell ⟨lb, kk, none⟩ (.int .i64 vv)).heap[lb]? = some (.cells #[.int .i64 ((fun j => if j = kk then vv else a j) 0), .int .i64 ((fun j => if j = kk then vv else a j) 1), .int .i64 ((fun j => if j = kk then vv else a j) 2), .int .i64 ((fun j => if j = kk then vv else a j) 3)] 81 (0, 0)) ∧ Ctn (wj.setCell ⟨lb, kk, none⟩ (.int .i64 vv)) b bo bc s R (opL (kdN op) (fun a i t => (lisR insR (n - (k + 1)) (l ++ [⟨(op : Int), a 0, a 1, a 2, a 3⟩]) i t).bind g) (4 - (kk + 1)) (fun j => if j = kk then vv else a j))) := by
                    obtain ⟨q1, q2, q3⟩ := HV.out
                    refine ⟨q1.set q2 (by decide) HA.out.2.2.2, arr_at q2 HKK.out vv, q3.keep (fun k' hk' => Below.heap_setCell wj _ _ k' (fun e => by have e' : k' = lb := e; have := HA.out.2.2.2; have := q1.lt; omega)) (by simp [World.setCell])⟩
                  go_wp2_with fail
                  go_roundg (4 - (kk + 1))
                  case measure => have := HU.out.2.2.2.2; have := HKK.out; omega
                  case rel => exact ⟨kk + 1, fun j => if j = kk then vv else a j, by have := HKK.out; omega, by go_num, HW.out.1, HW.out.2.1, HW.out.2.2, fun j hj => by
                    show (if j = kk then vv else a j) = 0
                    rw [if_neg (by omega)]
                    exact HU.out.2.2.2.1 j (by omega)⟩
              case neg =>
                obtain rfl : kk = 4 := by have := HU.out.2.2.2.2; omega
                have hk4 : ¬ ((4 : Nat) : Int) < 4 := by omega
                have HK4 : Hid (Ctn wr b bo bc s R (fun i t => (lisR insR (n - (k + 1)) (l ++ [⟨(op : Int), a 0, a 1, a 2, a 3⟩]) i t).bind g)) := HU.out.2.2.1.imp fun i h => h
                obtain ⟨bgv, cgv, egv⟩ := own_form HU.out.1.ow
                subst egv
                have HLl : Hid (l.length ≤ 1000000) := by
                  have h1 := HT.out.2.2.1
                  have h2 := HK.out
                  have h3 := H2.out.2.2.1
                  exact (by omega : l.length ≤ 1000000)
                have hxl : Vf.cC (l ++ [⟨(op : Int), a 0, a 1, a 2, a 3⟩]) = Vf.cC l ++ [.int .i64 (op : Int), .int .i64 (a 0), .int .i64 (a 1), .int .i64 (a 2), .int .i64 (a 3)] := by simp [Vf.cC]
                have HXl := show Hid _ from hxl
                clear hxl
                go_upto_region 19 with fail
                have HD : Hid (Lq w2 b pb (fun v : Value => #[g1, g2, g3, g4, .int .i64 ms, v]) 53 5 l.length (Vf.cC l) (.slice bgv l.length cgv) wr.drew ∧ Ctn wr.drew b bo bc s R (fun i t => (lisR insR (n - (k + 1)) (l ++ [⟨(op : Int), a 0, a 1, a 2, a 3⟩]) i t).bind g) ∧ wr.drew.heap[lb]? = some (.cells #[.int .i64 (a 0), .int .i64 (a 1), .int .i64 (a 2), .int .i64 (a 3)] 81 (0, 0))) := ⟨HU.out.1.below (Below.refl _ wr).drew, HK4.out.below (Below.refl _ wr).drew, HU.out.2.1⟩
                refine wp_region_held (S := fun w' : World => w'.cell? ⟨lb, 0, none⟩ = some (.int .i64 (a 0)) ∧ w'.cell? ⟨lb, 1, none⟩ = some (.int .i64 (a 1)) ∧ w'.cell? ⟨lb, 2, none⟩ = some (.int .i64 (a 2)) ∧ w'.cell? ⟨lb, 3, none⟩ = some (.int .i64 (a 3))) (by kernel_rfl) ?_
                change wpAnyH _ _ _ _ _ _ _ _ wr.drew
                clear HU HK4
                generalize wr.drew = wd at *
                have HSS : Hid (∀ w' : World, w'.heap[lb]? = some (.cells #[.int .i64 (a 0), .int .i64 (a 1), .int .i64 (a 2), .int .i64 (a 3)] 81 (0, 0)) → (fun w' : World => w'.cell? ⟨lb, 0, none⟩ = some (.int .i64 (a 0)) ∧ w'.cell? ⟨lb, 1, none⟩ = some (.int .i64 (a 1)) ∧ w'.cell? ⟨lb, 2, none⟩ = some (.int .i64 (a 2)) ∧ w'.cell? ⟨lb, 3, none⟩ = some (.int .i64 (a 3))) w') := fun w' h => by
                  refine ⟨?_, ?_, ?_, ?_⟩ <;> simp only [World.cell?, h] <;> rfl
                have hS := HSS.out wd HD.out.2.2
                have HY : Hid (Lq w2 b pb (fun v : Value => #[g1, g2, g3, g4, .int .i64 ms, v]) 53 5 l.length (Vf.cC l) (.slice bgv l.length cgv) (wd.alloc (.cells #[.int .i64 (op : Int), .int .i64 (a 0), .int .i64 (a 1), .int .i64 (a 2), .int .i64 (a 3)] 53)) ∧ Ctn (wd.alloc (.cells #[.int .i64 (op : Int), .int .i64 (a 0), .int .i64 (a 1), .int .i64 (a 2), .int .i64 (a 3)] 53)) b bo bc s R (fun i t => (lisR insR (n - (k + 1)) (l ++ [⟨(op : Int), a 0, a 1, a 2, a 3⟩]) i t).bind g) ∧ (wd.alloc (.cells #[.int .i64 (op : Int), .int .i64 (a 0), .int .i64 (a 1), .int .i64 (a 2), .int .i64 (a 3)] 53)).heap[lb]? = some (.cells #[.int .i64 (a 0), .int .i64 (a 1), .int .i64 (a 2), .int .i64 (a 3)] 81 (0, 0))) := by
                  have hb9 : Below wd.heap.size wd (wd.alloc (.cells #[.int .i64 (op : Int), .int .i64 (a 0), .int .i64 (a 1), .int .i64 (a 2), .int .i64 (a 3)] 53)) := (Below.refl _ wd).alloc (Nat.le_refl _) _
                  exact ⟨HD.out.1.below hb9, HD.out.2.1.below hb9, (hb9.block _ (blk_lt HD.out.2.2)).trans HD.out.2.2⟩
                have c5 : wd.cell? ⟨pb, 5, none⟩ = some (.slice bgv l.length cgv) := HD.out.1.cell rfl
                have c6 : (wd.alloc (.cells #[.int .i64 (op : Int), .int .i64 (a 0), .int .i64 (a 1), .int .i64 (a 2), .int .i64 (a 3)] 53)).cell? ⟨pb, 5, none⟩ = some (.slice bgv l.length cgv) := HY.out.1.cell rfl
                refine tqA 0 rfl hS ?_
                refine tqA 1 rfl hS ?_
                refine tqA 2 rfl hS ?_
                refine tqA 3 rfl hS ?_
                refine tqA 5 rfl hS ?_
                refine tqA 6 rfl hS ?_
                refine tqA 7 rfl hS ?_
                refine tqA 8 rfl hS ?_
                refine tqA 9 rfl hS ?_
                refine tqA 10 rfl hS ?_
                refine tqA 11 rfl hS ?_
                refine tqA 12 rfl hS ?_
                refine tqA 13 rfl hS ?_
                refine tqA 14 rfl hS ?_
                refine tqA 15 rfl hS ?_
                refine wpAnyH_ready (rs := [4, 16]) (by kernel_rfl) (by simp) ?_
                refine AllReadyH.cons rfl (fun K hK => ?_) (AllReadyH.cons rfl (fun K hK => ?_) AllReadyH.nil)
                · go_simp
                  refine hK.out _ _ hS (fun hS => ?_)
                  clear hK K
                  refine wpAnyH_ready (rs := [16]) (by kernel_rfl) (by simp) ?_
                  refine AllReadyH.cons rfl (fun K hK => ?_) AllReadyH.nil
                  go_simp
                  refine hK.out _ _ (HSS.out _ HY.out.2.2) (fun hS => ?_)
                  clear hK K
                  refine wpAnyH_ready (rs := [17]) (by kernel_rfl) (by simp) ?_
                  refine AllReadyH.cons rfl (fun K hK => ?_) AllReadyH.nil
                  refine step_gone _ rfl (.tmp 78) (.tmp 90) 25 rfl w2.heap.size 53 id (.agg #[.int .i64 0, .int .i64 0, .int .i64 0, .int .i64 0, .int .i64 0]) 5 40 Tryd.underlying25 HI.out.1 HI.out.2.1 HI.out.2.2.1 HI.out.2.2.2 rfl (by decide) (.slice bgv l.length cgv) l.length (Vf.cC l) (by simp [Act.eval]) HY.out.1.ow ⟨wd.heap.size, 0, none⟩ 1 1 [.int .i64 (op : Int), .int .i64 (a 0), .int .i64 (a 1), .int .i64 (a 2), .int .i64 (a 3)] (by simp [Act.eval]) rfl (cells_new5 wd _ _ _ _ _ _) (by intro u hu; simp only [List.mem_cons, List.not_mem_nil, or_false] at hu; rcases hu with rfl | rfl | rfl | rfl | rfl <;> rfl) (by have := HLl.out; unfold maxLen; omega) (by have := HLl.out; omega) HY.out.1.fr.size (by decide) ?_
                  intro v4 w5 ho hG
                  have ho2 : w5.ownsRow w2.heap.size 53 5 v4 (l ++ [(⟨(op : Int), a 0, a 1, a 2, a 3⟩ : Ins)]).length (Vf.cC l ++ [.int .i64 (op : Int), .int .i64 (a 0), .int .i64 (a 1), .int .i64 (a 2), .int .i64 (a 3)]) := by rw [List.length_append]; exact ho
                  obtain ⟨bv4, cv4, ev4⟩ := own_form ho
                  subst ev4
                  obtain ⟨hcell, hfro⟩ := HY.out.1.at4 hG (ix := 5) rfl
                  have HL4 : Hid (Lq w2 b pb (fun v : Value => #[g1, g2, g3, g4, .int .i64 ms, v]) 53 5 (l ++ [(⟨(op : Int), a 0, a 1, a 2, a 3⟩ : Ins)]).length (Vf.cC (l ++ [⟨(op : Int), a 0, a 1, a 2, a 3⟩])) (.slice bv4 (l.length + 1) cv4) (w5.setCell ⟨pb, 5, none⟩ (.slice bv4 (l.length + 1) cv4)) ∧ Ctn (w5.setCell ⟨pb, 5, none⟩ (.slice bv4 (l.length + 1) cv4)) b bo bc s R (fun i t => (lisR insR (n - (k + 1)) (l ++ [⟨(op : Int), a 0, a 1, a 2, a 3⟩]) i t).bind g)) := by
                    refine ⟨?_, HY.out.1.appC (ix := 5) HY.out.2.1 hG⟩
                    have h9 := HY.out.1.app (ix := 5) ho2 hG rfl
                    rw [HXl.out]
                    exact h9
                  have hlb5 : w5.heap[lb]? = some (.cells #[.int .i64 (a 0), .int .i64 (a 1), .int .i64 (a 2), .int .i64 (a 3)] 81 (0, 0)) := by
                    refine (hG.1.block lb (blk_lt HY.out.2.2) fun e => ?_).trans HY.out.2.2
                    have e2 := e.symm
                    rcases HY.out.1.ow.2 with ⟨e1, _⟩ | ⟨g', cap, cur, e1, _, e4, _⟩
                    · rw [e1] at e2
                      cases e2
                    · rw [e1] at e2
                      cases e2
                      rw [HY.out.2.2] at e4
                      have e5 := Option.some.inj e4
                      injection e5 with _ e6 _
                      exact absurd e6 (by decide)
                  have hlb6 : (w5.setCell ⟨pb, 5, none⟩ (.slice bv4 (l.length + 1) cv4)).heap[lb]? = some (.cells #[.int .i64 (a 0), .int .i64 (a 1), .int .i64 (a 2), .int .i64 (a 3)] 81 (0, 0)) := (Below.heap_setCell w5 _ _ lb (fun e => by have e' : lb = pb := e; have := HA.out.2.2.2; have := HD.out.1.lt; omega)).trans hlb5
                  refine hK.out _ _ (HSS.out _ hlb5) (fun hS => ?_)
                  clear hK K ho ho2 hG
                  refine tqA 18 rfl hS ?_
                  refine tqA 19 rfl hS ?_
                  refine wpAnyH_ready (rs := [20]) (by kernel_rfl) (by simp) ?_
                  refine AllReadyH.cons rfl (fun K hK => ?_) AllReadyH.nil
                  go_simp
                  refine hK.out _ _ (HSS.out _ hlb6) (fun hS => ?_)
                  clear hK K hS
                  refine wpAnyH_done (by kernel_rfl) ?_ _
                  go_simp
                  go_wp2_with fail
                  go_roundg (n - (k + 1))
                  case measure => have := HT.out.2.2.2; have := HK.out; omega
                  case rel => exact ⟨k + 1, _, _, by have := HK.out; omega, by go_num, by have := HT.out.2.2.1; simp; omega, HL4.out.1, HL4.out.2⟩
                · go_simp
                  refine hK.out _ _ (HSS.out _ HY.out.2.2) (fun hS => ?_)
                  clear hK K
                  refine wpAnyH_ready (rs := [4]) (by kernel_rfl) (by simp) ?_
                  refine AllReadyH.cons rfl (fun K hK => ?_) AllReadyH.nil
                  go_simp
                  refine hK.out _ _ (HSS.out _ HY.out.2.2) (fun hS => ?_)
                  clear hK K
                  refine wpAnyH_ready (rs := [17]) (by kernel_rfl) (by simp) ?_
                  refine AllReadyH.cons rfl (fun K hK => ?_) AllReadyH.nil
                  refine step_gone _ rfl (.tmp 78) (.tmp 90) 25 rfl w2.heap.size 53 id (.agg #[.int .i64 0, .int .i64 0, .int .i64 0, .int .i64 0, .int .i64 0]) 5 40 Tryd.underlying25 HI.out.1 HI.out.2.1 HI.out.2.2.1 HI.out.2.2.2 rfl (by decide) (.slice bgv l.length cgv) l.length (Vf.cC l) (by simp [Act.eval]) HY.out.1.ow ⟨wd.heap.size, 0, none⟩ 1 1 [.int .i64 (op : Int), .int .i64 (a 0), .int .i64 (a 1), .int .i64 (a 2), .int .i64 (a 3)] (by simp [Act.eval]) rfl (cells_new5 wd _ _ _ _ _ _) (by intro u hu; simp only [List.mem_cons, List.not_mem_nil, or_false] at hu; rcases hu with rfl | rfl | rfl | rfl | rfl <;> rfl) (by have := HLl.out; unfold maxLen; omega) (by have := HLl.out; omega) HY.out.1.fr.size (by decide) ?_
                  intro v4 w5 ho hG
                  have ho2 : w5.ownsRow w2.heap.size 53 5 v4 (l ++ [(⟨(op : Int), a 0, a 1, a 2, a 3⟩ : Ins)]).length (Vf.cC l ++ [.int .i64 (op : Int), .int .i64 (a 0), .int .i64 (a 1), .int .i64 (a 2), .int .i64 (a 3)]) := by rw [List.length_append]; exact ho
                  obtain ⟨bv4, cv4, ev4⟩ := own_form ho
                  subst ev4
                  obtain ⟨hcell, hfro⟩ := HY.out.1.at4 hG (ix := 5) rfl
                  have HL4 : Hid (Lq w2 b pb (fun v : Value => #[g1, g2, g3, g4, .int .i64 ms, v]) 53 5 (l ++ [(⟨(op : Int), a 0, a 1, a 2, a 3⟩ : Ins)]).length (Vf.cC (l ++ [⟨(op : Int), a 0, a 1, a 2, a 3⟩])) (.slice bv4 (l.length + 1) cv4) (w5.setCell ⟨pb, 5, none⟩ (.slice bv4 (l.length + 1) cv4)) ∧ Ctn (w5.setCell ⟨pb, 5, none⟩ (.slice bv4 (l.length + 1) cv4)) b bo bc s R (fun i t => (lisR insR (n - (k + 1)) (l ++ [⟨(op : Int), a 0, a 1, a 2, a 3⟩]) i t).bind g)) := by
                    refine ⟨?_, HY.out.1.appC (ix := 5) HY.out.2.1 hG⟩
                    have h9 := HY.out.1.app (ix := 5) ho2 hG rfl
                    rw [HXl.out]
                    exact h9
                  have hlb5 : w5.heap[lb]? = some (.cells #[.int .i64 (a 0), .int .i64 (a 1), .int .i64 (a 2), .int .i64 (a 3)] 81 (0, 0)) := by
                    refine (hG.1.block lb (blk_lt HY.out.2.2) fun e => ?_).trans HY.out.2.2
                    have e2 := e.symm
                    rcases HY.out.1.ow.2 with ⟨e1, _⟩ | ⟨g', cap, cur, e1, _, e4, _⟩
                    · rw [e1] at e2
                      cases e2
                    · rw [e1] at e2
                      cases e2
                      rw [HY.out.2.2] at e4
                      have e5 := Option.some.inj e4
                      injection e5 with _ e6 _
                      exact absurd e6 (by decide)
                  have hlb6 : (w5.setCell ⟨pb, 5, none⟩ (.slice bv4 (l.length + 1) cv4)).heap[lb]? = some (.cells #[.int .i64 (a 0), .int .i64 (a 1), .int .i64 (a 2), .int .i64 (a 3)] 81 (0, 0)) := (Below.heap_setCell w5 _ _ lb (fun e => by have e' : lb = pb := e; have := HA.out.2.2.2; have := HD.out.1.lt; omega)).trans hlb5
                  refine hK.out _ _ (HSS.out _ hlb5) (fun hS => ?_)
                  clear hK K ho ho2 hG
                  refine tqA 18 rfl hS ?_
                  refine tqA 19 rfl hS ?_
                  refine wpAnyH_ready (rs := [20]) (by kernel_rfl) (by simp) ?_
                  refine AllReadyH.cons rfl (fun K hK => ?_) AllReadyH.nil
                  go_simp
                  refine hK.out _ _ (HSS.out _ hlb6) (fun hS => ?_)
                  clear hK K hS
                  refine wpAnyH_done (by kernel_rfl) ?_ _
                  go_simp
                  go_wp2_with fail
                  go_roundg (n - (k + 1))
                  case measure => have := HT.out.2.2.2; have := HK.out; omega
                  case rel => exact ⟨k + 1, _, _, by have := HK.out; omega, by go_num, by have := HT.out.2.2.1; simp; omega, HL4.out.1, HL4.out.2⟩
end Go.Proofs.YtcicifcnffacpaaDoor.Cd
