import Derived.Test.YtnpdblcfhbamiaaGreatK25
import Derived.Test.YtnpdblcfhbamiaaGreatK32
set_option maxHeartbeats 25600000
set_option maxRecDepth 100000
namespace Go.Proofs.YtnpdblcfhbamiaaGreat.Nm.Ty
open Go.RowKit Go.Maps Go.Proofs.YtnpdblcfhbamiaaGreat.Sp Go.Proofs.YtnpdblcfhbamiaaGreat.Lx Go.Proofs.YtnpdblcfhbamiaaGreat.Gr Go.Proofs.YtnpdblcfhbamiaaGreat.Nm
/-- what settled wants of rows -/
structure Stz (l : List Rz) : Prop where
  v : ∀ i, i < l.length → (rat l i).kind = 4 → km l i = 3
  o : ∀ i, i < l.length → (rat l i).kind = 5 ∨ (rat l i).kind = 6 ∨ (rat l i).kind = 13 → i + 1 < l.length
/-- settle, of any row -/
theorem settle_any {l : List Rz} {qv : List Value} {nq : Nat} {ao qo po eo vo : Option Addr} {ac qc pc ec vcap i tb rb : Nat} {w0 w : World} {v : Nat → Int} {vv tv : Value} {vs : List (Int × Int × Int)} {ts : List Int} {rf : Nat → Int} (h : IsRg w0 l qv ao qo po eo) (hB : Below w0.heap.size w0 w) (hn : l.length ≤ 2932031007317) (hi : i < l.length) (hv : IsVals w0 vo (fL l.length (fun j => .int .i64 (v j)))) (hS : Sd w l.length tb rb vv tv vs ts rf) (hr : w0.heap.size ≤ rb) (hT : TreeZ l) (hz : Stz l) (hvl : vs.length ≤ 2932031007317) (htl : ts.length ≤ 2932031007317) :
    Calls Tryz.prog 52 #[.agg (rgC l nq ao qo po eo ac qc pc ec), .pointer (some ⟨tb, 0, none⟩), .slice vo l.length vcap, .int .i64 (i : Int)] w (SetQ l v i tb rb vs ts rf w0 w) := by
  by_cases h4 : (rat l i).kind = 4
  · exact settle_var h hB hn hi hv hS hr h4 hT (hz.v i hi h4) hvl
  · by_cases h5 : (rat l i).kind = 5
    · exact settle_tag h hB hn hi hv hS hr h5 (hz.o i hi (Or.inl h5)) htl
    · by_cases h6 : (rat l i).kind = 6
      · exact settle_req h hB hn hi hv hS hr h6 (hz.o i hi (Or.inr (Or.inl h6)))
      · by_cases h13 : (rat l i).kind = 13
        · exact settle_loop h hB hn hi hv hS hr h13 (hz.o i hi (Or.inr (Or.inr h13)))
        · exact settle_oth h hB hn hi hv hS hr h4 h5 h6 h13
/-- settled at work: its boxes -/
structure Dq (w wx : World) (rc cc : Array Value) : Prop where
  r : wx.heap[w.heap.size]? = some (.cells rc 72 (0, 0))
  c : wx.heap[w.heap.size + 1]? = some (.cells cc 25 (0, 0))
  t : wx.heap[w.heap.size + 1 + 1]? = some (.cells #[pz, pz, pz] 40 (0, 0))
  f : wx.heap[w.heap.size + 1 + 1 + 1]? = some (.cells #[.int .i64 0, .int .i64 0] 33 (0, 0))
  be : Below w.heap.size w wx
theorem Dq.below {w wx w' : World} {rc cc : Array Value} (h : Dq w wx rc cc) (hb : Below (w.heap.size + 4) wx w') : Dq w w' rc cc := ⟨(hb.block _ (by omega)).trans h.r, (hb.block _ (by omega)).trans h.c, (hb.block _ (by omega)).trans h.t, (hb.block _ (by omega)).trans h.f, h.be.trans (hb.mono (by omega))⟩
theorem dq_start (w : World) (rc cc : Array Value) : Dq w ((((w.alloc (.cells rc 72)).alloc (.cells cc 25)).alloc (.cells #[pz, pz, pz] 40)).alloc (.cells #[.int .i64 0, .int .i64 0] 33)) rc cc := by
  refine ⟨?_, ?_, ?_, ?_, ((((Below.refl _ w).alloc (Nat.le_refl _) _).alloc (by simp) _).alloc (by simp; omega) _).alloc (by simp; omega) _⟩
  · rw [alloc_old _ _ _ (by simp; omega), alloc_old _ _ _ (by simp; omega), alloc_old _ _ _ (by simp)]
    exact alloc_at _ _ _ rfl
  · rw [alloc_old _ _ _ (by first | (simp; done) | (simp; omega)), alloc_old _ _ _ (by simp)]
    exact alloc_at _ _ _ (by simp)
  · rw [alloc_old _ _ _ (by simp)]
    exact alloc_at _ _ _ (by simp)
  · exact alloc_at _ _ _ (by simp)
theorem put3M {n : Nat} {w wx : World} {B : Nat} {T : TypeId} {a b c v0 v1 v2 : Value} (hb : Below n w wx) (hB : n ≤ B) (hz : wx.heap[B]? = some (.cells #[a, b, c] T (0, 0))) : (((wx.setCell ⟨B, 0, none⟩ v0).setCell ⟨B, 1, none⟩ v1).setCell ⟨B, 2, none⟩ v2).heap[B]? = some (.cells #[v0, v1, v2] T (0, 0)) ∧ Below n w (((wx.setCell ⟨B, 0, none⟩ v0).setCell ⟨B, 1, none⟩ v1).setCell ⟨B, 2, none⟩ v2) ∧ ∀ k, k ≠ B → (((wx.setCell ⟨B, 0, none⟩ v0).setCell ⟨B, 1, none⟩ v1).setCell ⟨B, 2, none⟩ v2).heap[k]? = wx.heap[k]? := by
  have h0 := set_at hz v0 (cs' := #[v0, b, c]) (i := 0) rfl
  have h1 := set_at h0 v1 (cs' := #[v0, v1, c]) (i := 1) rfl
  have h2 := set_at h1 v2 (cs' := #[v0, v1, v2]) (i := 2) rfl
  refine ⟨h2, ((hb.trans ((Below.refl n wx).setCell (p := ⟨B, 0, none⟩) hB _)).trans ((Below.refl n _).setCell (p := ⟨B, 1, none⟩) hB _)).trans ((Below.refl n _).setCell (p := ⟨B, 2, none⟩) hB _), fun k hk => ?_⟩
  rw [Below.heap_setCell _ _ _ _ hk, Below.heap_setCell _ _ _ _ hk, Below.heap_setCell _ _ _ _ hk]
theorem own_keepY {w w' : World} {base b' : Nat} {T : TypeId} {sz n : Nat} {v : Value} {xs : List Value} (h : w.ownsRow base T sz v n xs) (hk : ∀ k, base ≤ k → w'.heap[k]? = w.heap[k]?) (hb : b' ≤ base) : w'.ownsRow b' T sz v n xs := by
  refine ⟨h.1, ?_⟩
  rcases h.2 with h1 | ⟨g, cap, cur, h1, h2, h3, h4⟩
  · exact Or.inl h1
  · exact Or.inr ⟨g, cap, cur, h1, by omega, (hk g h2).trans h3, h4⟩
/-- what is told of numbers: a fault, or vars, tags, rounds -/
def StlQ (l : List Rz) (v : Nat → Int) (w : World) (e : Ending) (w' : World) : Prop := ((setN l v l.length).1 ≠ 0 ∧ e = .returned (.tuple #[.agg #[pz, pz, pz], .agg #[.int .i64 ((setN l v l.length).1 : Int), .int .i64 ((setN l v l.length).2 : Int)]])) ∨
  ((setN l v l.length).1 = 0 ∧ ∃ vv tv rb, e = .returned (.tuple #[.agg #[vv, tv, .slice (some ⟨rb, 0, none⟩) l.length l.length], .agg #[.int .i64 0, .int .i64 0]]) ∧ w.heap.size ≤ rb ∧ RowI w' rb l.length (setR l v l.length) ∧ w'.ownsRow (rb + 1) 47 3 vv (setV l v l.length).length (vC (setV l v l.length)) ∧ w'.ownsRow (rb + 1) 3 1 tv (setT l v l.length).length (tC (setT l v l.length)))
theorem settled_any {l : List Rz} {qv : List Value} {nq : Nat} {ao qo po eo co : Option Addr} {ac qc pc ec nc cc : Nat} {size : Int} {cq : Nat → Int} {w : World} (h : IsRg w l qv ao qo po eo) (hn : l.length ≤ 2932031007317) (hT : TreeZ l) (h0 : 0 < l.length) (hc : IsVals w co (fL nc (fun i => .int .i64 (cq i)))) (hcn : nc ≤ 17592186043904)
    (hcp : ∀ i, i < l.length → (rat l i).kind = 32 → ∃ n : Nat, (rat l i).n = (n : Int) ∧ n < nc) (hN : ∀ i, i < l.length → in64 (rat l i).n) (hsz : in64 size) (hcq : ∀ i, in64 (cq i)) (hz : Stz l) :
    Calls Tryz.prog 29 #[.agg (rgC l nq ao qo po eo ac qc pc ec), .agg #[.int .i64 size, .slice co nc cc]] w fun e w' => Below w.heap.size w w' ∧ StlQ l (vB l size cq l.length) w e w' := by
  have HD1 := show Hid _ from dq_start w (rgC l nq ao qo po eo ac qc pc ec) #[.int .i64 size, .slice co nc cc]
  have HVl := show Hid _ from values_any (nq := nq) (ac := ac) (qc := qc) (pc := pc) (ec := ec) (cc := cc) (h.below HD1.out.be) (by omega) hT h0 (hc.below HD1.out.be) hcn hcp hN hsz hcq
  obtain ⟨M, hmk, hM⟩ := mk_ints l.length (by omega)
  have HM : Hid (∀ W : World, RowI (W.alloc (.cells M 3)) W.heap.size l.length (fun _ => 0)) := hM
  have HI := show Hid _ from h
  have HT : Hid (TreeZ l) := hT
  have HZ : Hid (Stz l) := hz
  have HN : Hid (l.length ≤ 2932031007317) := hn
  have hln : (l.length : Int) ≤ 2932031007317 := by omega
  have HSz : Hid (((((w.alloc (.cells #[.slice ao l.length ac, .slice qo nq qc, .slice po l.length pc, .slice eo l.length ec] 72)).alloc (.cells #[.int .i64 size, .slice co nc cc] 25)).alloc (.cells #[pz, pz, pz] 40)).alloc (.cells #[.int .i64 0, .int .i64 0] 33)).heap.size = w.heap.size + 4) := by simp [Hid]
  obtain ⟨b0, b1, b2, b3⟩ := cells4 HD1.out.r
  obtain ⟨d0, d1⟩ := vcells2 HD1.out.c
  generalize hvb : vB l size cq l.length = V at *
  clear h hn hT h0 hc hcn hcp hN hsz hcq hz hM hvb
  dsimp only [rgC] at *
  go_enter Tryz.func29, Tryz.ntmps29
  go_wp2_with fail
  generalize ((((w.alloc (.cells #[.slice ao l.length ac, .slice qo nq qc, .slice po l.length pc, .slice eo l.length ec] 72)).alloc (.cells #[.int .i64 size, .slice co nc cc] 25)).alloc (.cells #[pz, pz, pz] 40)).alloc (.cells #[.int .i64 0, .int .i64 0] 33)) = w1 at *
  refine Calls.mono HVl.out ?_
  rintro e w2 ⟨gv, rfl, hgv, hrow, hb2⟩
  have HD2 : Hid (Dq w w2 #[.slice ao l.length ac, .slice qo nq qc, .slice po l.length pc, .slice eo l.length ec] #[.int .i64 size, .slice co nc cc]) := HD1.out.below (hb2.mono (by have := HSz.out; omega))
  have HSz2 : Hid (w.heap.size + 4 ≤ w2.heap.size) := by have h1 := HSz.out; have h2 := hb2.size; show _ ≤ _; omega
  have HI2 : Hid (IsRg w2 l qv ao qo po eo) := (HI.out.below HD1.out.be).below hb2
  have HV2 : Hid (IsVals w2 (some ⟨gv, 0, none⟩) (fL l.length (fun j => .int .i64 (V j)))) := fun k x hx => by
    have hk : k < l.length := by have := (List.getElem?_eq_some_iff.1 hx).1; simpa [fL] using this
    rw [fL_at hk] at hx
    cases hx
    exact ⟨gv, 0, rfl, hrow.lt, by rw [Nat.zero_add]; exact hrow.cell hk⟩
  clear hb2 hrow hgv HVl HD1 HSz HI b0 b1 b2 b3 d0 d1
  obtain ⟨b0, b1, b2, b3⟩ := cells4 HD2.out.r
  have hb3 : Below w2.heap.size w2 ((w2.alloc (.cells M 3)).alloc (.cells #[pz, pz, .slice (some ⟨w2.heap.size, 0, none⟩) l.length l.length] 40)) := ((Below.refl _ w2).alloc (Nat.le_refl _) _).alloc (by simp) _
  have HS3 : Hid (Sd ((w2.alloc (.cells M 3)).alloc (.cells #[pz, pz, .slice (some ⟨w2.heap.size, 0, none⟩) l.length l.length] 40)) l.length (w2.heap.size + 1) w2.heap.size pz pz [] [] (fun _ => 0)) := ⟨alloc_at _ _ _ (by simp), (HM.out w2).of_block (alloc_old _ _ _ (by simp)), World.ownsRow_nil _ _ _ _, World.ownsRow_nil _ _ _ _, Nat.lt_succ_self _⟩
  have HB3 := show Hid _ from hb3
  have HZ3 := show Hid _ from HD2.out.below (hb3.mono HSz2.out)
  obtain ⟨a0, a1, a2, a3⟩ := cells4 HZ3.out.r
  clear hb3
  go_wp2_with fail
  generalize ((w2.alloc (.cells M 3)).alloc (.cells #[pz, pz, .slice (some ⟨w2.heap.size, 0, none⟩) l.length l.length] 40)) = w3 at *
  clear a0 a1 a2 a3 b0 b1 b2 b3 hmk HM HZ3
  go_loopg [21] l.length (fun gq x wr => ∃ (k : Nat) (vv tv : Value), k ≤ l.length ∧ gq = l.length - k ∧ x = .int .i64 (k : Int) ∧ (setN l V k).1 = 0 ∧ Sd wr l.length (w2.heap.size + 1) w2.heap.size vv tv (setV l V k) (setT l V k) (setR l V k) ∧ Below w2.heap.size w2 wr)
  case atStart => exact ⟨0, pz, pz, Nat.zero_le _, rfl, rfl, rfl, HS3.out, HB3.out⟩
  case round =>
    obtain ⟨k, vv, tv, hk, hgk, rfl, hno, hS, hB⟩ := hrel
    have HG : Hid (gk = l.length - k) := hgk
    have HSr := show Hid _ from hS
    have HBr : Hid (Below w2.heap.size w2 wr) := hB
    have HNo : Hid ((setN l V k).1 = 0) := hno
    have HDr : Hid (Dq w wr #[.slice ao l.length ac, .slice qo nq qc, .slice po l.length pc, .slice eo l.length ec] #[.int .i64 size, .slice co nc cc]) := HD2.out.below (hB.mono HSz2.out)
    obtain ⟨a0, a1, a2, a3⟩ := cells4 HDr.out.r
    have hkl : (k : Int) ≤ 2932031007317 := by omega
    clear hgk hS hB hno
    by_cases hlt : k < l.length
    · have hlt' : (k : Int) < (l.length : Int) := by omega
      have HC := show Hid _ from settle_any (nq := nq) (ac := ac) (qc := qc) (pc := pc) (ec := ec) (vcap := l.length) HI2.out HBr.out HN.out hlt HV2.out HSr.out (Nat.le_refl _) HT.out HZ.out (by have := setV_le l V k; omega) (by have := setT_le l V k; omega)
      have HLt : Hid (k < l.length) := hlt
      dsimp only [rgC] at *
      clear hlt hk
      go_wp2_with fail
      refine Calls.mono HC.out ?_
      rintro e w4 ⟨rfl, hb4, hpost⟩
      have HB4 : Hid (Below w2.heap.size w2 w4) := HBr.out.trans hb4
      have HD4 : Hid (Dq w w4 #[.slice ao l.length ac, .slice qo nq qc, .slice po l.length pc, .slice eo l.length ec] #[.int .i64 size, .slice co nc cc]) := HD2.out.below (HB4.out.mono HSz2.out)
      clear hb4 HC a0 a1 a2 a3
      by_cases he : setE l V k = 0
      · obtain ⟨vv', tv', hS4⟩ := hpost he
        have HS4 : Hid (Sd w4 l.length (w2.heap.size + 1) w2.heap.size vv' tv' (setV l V (k + 1)) (setT l V (k + 1)) (setR l V (k + 1))) := hS4
        have HN4 : Hid ((setN l V (k + 1)).1 = 0) := setN_pass HNo.out he
        rw [he]
        clear hS4 hpost he
        go_wp2_with fail
        go_roundg (l.length - (k + 1))
        case measure => have h1 := HG.out; have := HLt.out; omega
        case rel => exact ⟨k + 1, vv', tv', HLt.out, rfl, by go_num, HN4.out, HS4.out, HB4.out⟩
      · have HN4 : Hid (setN l V l.length = (setE l V k, k) ∧ setE l V k ≠ 0) := ⟨by
          have h1 := setN_next HNo.out he
          rw [setN_stays (n := k + 1) (by rw [h1]; exact he) l.length HLt.out]
          exact h1, he⟩
        have he' : ((setE l V k : Int) != 0) = true := by simp [he]
        clear hpost he
        obtain ⟨t0, t1, t2⟩ := cells3 HD4.out.t
        obtain ⟨f0, f1⟩ := cells2 HD4.out.f
        have ft : ∀ j, w4.frozen? ⟨w.heap.size + 1 + 1, j, none⟩ = false := fun j => by have := HD4.out.t; simp only [World.frozen?, this]; rfl
        have ff : ∀ j, w4.frozen? ⟨w.heap.size + 1 + 1 + 1, j, none⟩ = false := fun j => by have := HD4.out.f; simp only [World.frozen?, this]; rfl
        generalize setE l V k = en at *
        go_wp2_with fail
        obtain ⟨a1, a2, a3⟩ := put3M (B := w.heap.size + 1 + 1) (v0 := pz) (v1 := pz) (v2 := pz) HD4.out.be (by omega) HD4.out.t
        obtain ⟨c1, c2, c3⟩ := put2M (B := w.heap.size + 1 + 1 + 1) (v0 := .int .i64 (en : Int)) (v1 := .int .i64 (k : Int)) a2 (by omega) ((a3 _ (by omega)).trans HD4.out.f)
        obtain ⟨y0, y1⟩ := cells2 c1
        obtain ⟨u0, u1, u2⟩ := cells3 ((c3 _ (by omega)).trans a1)
        refine bodyPost_ret (v := .tuple #[.agg #[pz, pz, pz], .agg #[.int .i64 (en : Int), .int .i64 (k : Int)]]) (by simp [results, Tryz.results29, go_sem, y0, y1, u0, u1, u2]) rfl ?_
        exact ⟨c2, Or.inl ⟨by rw [HN4.out.1]; exact HN4.out.2, by rw [HN4.out.1]⟩⟩
    · have hlt' : ¬ (k : Int) < (l.length : Int) := by omega
      obtain rfl : k = l.length := by omega
      obtain ⟨vo1, vc1, rfl⟩ := own_form HSr.out.v
      obtain ⟨to1, tc1, rfl⟩ := own_form HSr.out.t
      obtain ⟨q0, q1, q2⟩ := cells3 HSr.out.b
      obtain ⟨t0, t1, t2⟩ := cells3 HDr.out.t
      obtain ⟨f0, f1⟩ := cells2 HDr.out.f
      have ft : ∀ j, wr.frozen? ⟨w.heap.size + 1 + 1, j, none⟩ = false := fun j => by have := HDr.out.t; simp only [World.frozen?, this]; rfl
      have ff : ∀ j, wr.frozen? ⟨w.heap.size + 1 + 1 + 1, j, none⟩ = false := fun j => by have := HDr.out.f; simp only [World.frozen?, this]; rfl
      clear hlt hk
      go_wp2_with fail
      obtain ⟨a1, a2, a3⟩ := put3M (B := w.heap.size + 1 + 1) (v0 := .slice vo1 (setV l V l.length).length vc1) (v1 := .slice to1 (setT l V l.length).length tc1) (v2 := .slice (some ⟨w2.heap.size, 0, none⟩) l.length l.length) HDr.out.be (by omega) HDr.out.t
      obtain ⟨c1, c2, c3⟩ := put2M (B := w.heap.size + 1 + 1 + 1) (v0 := .int .i64 0) (v1 := .int .i64 0) a2 (by omega) ((a3 _ (by omega)).trans HDr.out.f)
      obtain ⟨y0, y1⟩ := cells2 c1
      obtain ⟨u0, u1, u2⟩ := cells3 ((c3 _ (by omega)).trans a1)
      have hz2 := HSz2.out
      have hkp : ∀ k, w2.heap.size ≤ k → _ := fun k (hk : w2.heap.size ≤ k) => (c3 k (by omega)).trans (a3 k (by omega))
      refine bodyPost_ret (v := .tuple #[.agg #[.slice vo1 (setV l V l.length).length vc1, .slice to1 (setT l V l.length).length tc1, .slice (some ⟨w2.heap.size, 0, none⟩) l.length l.length], .agg #[.int .i64 0, .int .i64 0]]) (by simp [results, Tryz.results29, go_sem, y0, y1, u0, u1, u2]) rfl ?_
      exact ⟨c2, Or.inr ⟨HNo.out, _, _, _, rfl, by omega, HSr.out.r.of_block (hkp _ (Nat.le_refl _)), own_keepY HSr.out.v (fun k hk => hkp k (by omega)) (by have := HSr.out.lt; omega), own_keepY HSr.out.t (fun k hk => hkp k (by omega)) (by have := HSr.out.lt; omega)⟩⟩
theorem pOf_siz {k n : Int} (h : pOf k n = .siz) : k = 33 := by
  by_cases e : k = 33
  · exact e
  · exfalso
    unfold pOf at h
    rw [if_neg e] at h
    repeat' split at h
    all_goals cases h
/-- what a part comes to hangs on the capacity that it names alone -/
theorem cm_same {l : List Rz} {i : Nat} {size size' : Int} {cq cq' : Nat → Int} (hs : (rat l i).kind = 33 → size = size') (hq : (rat l i).kind = 32 → cq (rat l i).n.toNat = cq' (rat l i).n.toNat) (a b : Int) : (rP l i).cm size cq a b = (rP l i).cm size' cq' a b := by
  unfold rP
  cases hp : pOf (rat l i).kind (rat l i).n with
  | cpy q =>
    obtain ⟨h1, h2⟩ := pOf_cpy hp
    have := hq h1
    rw [h2] at this
    exact this
  | siz => exact hs (pOf_siz hp)
  | _ => rfl
theorem vB_same {l : List Rz} {size size' : Int} {cq cq' : Nat → Int} (h0 : 0 < l.length) (hs : ∀ i, i < l.length → (rat l i).kind = 33 → size = size') (hq : ∀ i, i < l.length → (rat l i).kind = 32 → cq (rat l i).n.toNat = cq' (rat l i).n.toNat) : ∀ p, vB l size cq p = vB l size' cq' p := by
  intro p
  induction p with
  | zero => rfl
  | succ p ih =>
    have hi : l.length - 1 - p < l.length := by omega
    unfold vB
    rw [ih, cm_same (hs _ hi) (hq _ hi)]
/-- does a row name that queue's capacity? the size? -/
def capN (l : List Rz) (q : Nat) : Bool := l.any fun r => r.kind == 32 && r.n == (q : Int)
def sizN (l : List Rz) : Bool := l.any fun r => r.kind == 33
theorem capN_no {l : List Rz} {q : Nat} (h : capN l q = false) {i : Nat} (hi : i < l.length) (hk : (rat l i).kind = 32) : (rat l i).n ≠ (q : Int) := fun hn => by
  have : capN l q = true := List.any_eq_true.2 ⟨rat l i, List.mem_of_getElem? (some_rat hi), by generalize rat l i = r at hk hn ⊢; simp [hk, hn]⟩
  rw [h] at this
  cases this
theorem sizN_no {l : List Rz} (h : sizN l = false) {i : Nat} (hi : i < l.length) : (rat l i).kind ≠ 33 := fun hn => by
  have : sizN l = true := List.any_eq_true.2 ⟨rat l i, List.mem_of_getElem? (some_rat hi), by generalize rat l i = r at hn ⊢; simp [hn]⟩
  rw [h] at this
  cases this
end Go.Proofs.YtnpdblcfhbamiaaGreat.Nm.Ty
