import Derived.Test.YtjoflihimpipcaaGreatK22
import Derived.Test.YtjoflihimpipcaaGreatK24
import Derived.Test.YtjoflihimpipcaaGreatK30
set_option maxHeartbeats 25600000
set_option maxRecDepth 100000
namespace Go.Proofs.YtjoflihimpipcaaGreat.Nm.Ty
open Go.RowKit Go.Maps Go.Proofs.YtjoflihimpipcaaGreat.Sp Go.Proofs.YtjoflihimpipcaaGreat.Lx Go.Proofs.YtjoflihimpipcaaGreat.Gr Go.Proofs.YtjoflihimpipcaaGreat.Nm
/-- what settled wants of rows -/
structure Stz (l : List Rz) : Prop where
  v : ∀ i, i < l.length → (rat l i).kind = 4 → km l i = 3
  o : ∀ i, i < l.length → (rat l i).kind = 5 ∨ (rat l i).kind = 6 ∨ (rat l i).kind = 13 → i + 1 < l.length
/-- settle, of any row -/
theorem settle_any {l : List Rz} {qv : List Value} {nq : Nat} {ao qo po eo vo : Option Addr} {ac qc pc ec vcap i tb rb : Nat} {w0 w : World} {v : Nat → Int} {vv tv : Value} {vs : List (Int × Int × Int)} {ts : List Int} {rf : Nat → Int} (h : IsRg w0 l qv ao qo po eo) (hB : Below w0.heap.size w0 w) (hn : l.length ≤ 65536) (hi : i < l.length) (hv : IsVals w0 vo (fL l.length (fun j => .int .i64 (v j)))) (hS : Sd w l.length tb rb vv tv vs ts rf) (hr : w0.heap.size ≤ rb) (hT : TreeZ l) (hz : Stz l) (hvl : vs.length ≤ 65536) (htl : ts.length ≤ 65536) :
    Calls Tryz.prog 74 #[.agg (rgC l nq ao qo po eo ac qc pc ec), .pointer (some ⟨tb, 0, none⟩), .slice vo l.length vcap, .int .i64 (i : Int)] w (SetQ l v i tb rb vs ts rf w0 w) := by
  by_cases h4 : (rat l i).kind = 4
  · exact settle_var h hB hn hi hv hS hr h4 hT (hz.v i hi h4) hvl
  · by_cases h5 : (rat l i).kind = 5
    · exact settle_tag h hB hn hi hv hS hr h5 (hz.o i hi (Or.inl h5)) htl
    · by_cases h6 : (rat l i).kind = 6
      · exact settle_req h hB hn hi hv hS hr h6 (hz.o i hi (Or.inr (Or.inl h6)))
      · by_cases h13 : (rat l i).kind = 13
        · exact settle_loop h hB hn hi hv hS hr h13 (hz.o i hi (Or.inr (Or.inr h13)))
        · exact settle_oth h hB hn hi hv hS hr h4 h5 h6 h13
/-- settled at work: its boxes -/
structure Dq (w wx : World) (rc cc : Array Value) : Prop where
  r : wx.heap[w.heap.size]? = some (.cells rc 65 (0, 0))
  c : wx.heap[w.heap.size + 1]? = some (.cells cc 39 (0, 0))
  t : wx.heap[w.heap.size + 1 + 1]? = some (.cells #[pz, pz, pz] 51 (0, 0))
  f : wx.heap[w.heap.size + 1 + 1 + 1]? = some (.cells #[.int .i64 0, .int .i64 0] 32 (0, 0))
  be : Below w.heap.size w wx
theorem Dq.below {w wx w' : World} {rc cc : Array Value} (h : Dq w wx rc cc) (hb : Below (w.heap.size + 4) wx w') : Dq w w' rc cc := ⟨(hb.block _ (by omega)).trans h.r, (hb.block _ (by omega)).trans h.c, (hb.block _ (by omega)).trans h.t, (hb.block _ (by omega)).trans h.f, h.be.trans (hb.mono (by omega))⟩
theorem dq_start (w : World) (rc cc : Array Value) : Dq w ((((w.alloc (.cells rc 65)).alloc (.cells cc 39)).alloc (.cells #[pz, pz, pz] 51)).alloc (.cells #[.int .i64 0, .int .i64 0] 32)) rc cc := by
  refine ⟨?_, ?_, ?_, ?_, ((((Below.refl _ w).alloc (Nat.le_refl _) _).alloc (by simp) _).alloc (by simp; omega) _).alloc (by simp; omega) _⟩
  · rw [alloc_old _ _ _ (by simp; omega), alloc_old _ _ _ (by simp; omega), alloc_old _ _ _ (by simp)]
    exact alloc_at _ _ _ rfl
  · rw [alloc_old _ _ _ (by first | (simp; done) | (simp; omega)), alloc_old _ _ _ (by simp)]
    exact alloc_at _ _ _ (by simp)
  · rw [alloc_old _ _ _ (by simp)]
    exact alloc_at _ _ _ (by simp)
  · exact alloc_at _ _ _ (by simp)
theorem put3M {n : Nat} {w wx : World} {B : Nat} {T : TypeId} {a b c v0 v1 v2 : Value} (hb : Below n w wx) (hB : n ≤ B) (hz : wx.heap[B]? = some (.cells #[a, b, c] T (0, 0))) : (((wx.setCell ⟨B, 0, none⟩ v0).setCell ⟨B, 1, none⟩ v1).setCell ⟨B, 2, none⟩ v2).heap[B]? = some (.cells #[v0, v1, v2] T (0, 0)) ∧ Below n w (((wx.setCell ⟨B, 0, none⟩ v0).setCell ⟨B, 1, none⟩ v1).setCell ⟨B, 2, none⟩ v2) ∧ ∀ k, k ≠ B → (((wx.setCell ⟨B, 0, none⟩ v0).setCell ⟨B, 1, none⟩ v1).setCell ⟨B, 2, none⟩ v2).heap[k]? = wx.heap[k]? := by
  have h0 := set_at hz v0 (cs' := #[v0, b, c]) (i := 0) rfl
  have h1 := set_at h0 v1 (cs' := #[v0, v1, c]) (i := 1) rfl
  have h2 := set_at h1 v2 (cs' := #[v0, v1, v2]) (i := 2) rfl
  refine ⟨h2, ((hb.trans ((Below.refl n wx).setCell (p := ⟨B, 0, none⟩) hB _)).trans ((Below.refl n _).setCell (p := ⟨B, 1, none⟩) hB _)).trans ((Below.refl n _).setCell (p := ⟨B, 2, none⟩) hB _), fun k hk => ?_⟩
  rw [Below.heap_setCell _ _ _ _ hk, Below.heap_setCell _ _ _ _ hk, Below.heap_setCell _ _ _ _ hk]
theorem own_keepY {w w' : World} {base b' : Nat} {T : TypeId} {sz n : Nat} {v : Value} {xs : List Value} (h : w.ownsRow base T sz v n xs) (hk : ∀ k, base ≤ k → w'.heap[k]? = w.heap[k]?) (hb : b' ≤ base) : w'.ownsRow b' T sz v n xs := by
  refine ⟨h.1, ?_⟩
  rcases h.2 with h1 | ⟨g, cap, cur, h1, h2, h3, h4⟩
  · exact Or.inl h1
  · exact Or.inr ⟨g, cap, cur, h1, by omega, (hk g h2).trans h3, h4⟩
/-- what is told of numbers: a fault, or vars, tags, rounds -/
def StlQ (l : List Rz) (v : Nat → Int) (w : World) (e : Ending) (w' : World) : Prop := ((setN l v l.length).1 ≠ 0 ∧ e = .returned (.tuple #[.agg #[pz, pz, pz], .agg #[.int .i64 ((setN l v l.length).1 : Int), .int .i64 ((setN l v l.length).2 : Int)]])) ∨
  ((setN l v l.length).1 = 0 ∧ ∃ vv tv rb, e = .returned (.tuple #[.agg #[vv, tv, .slice (some ⟨rb, 0, none⟩) l.length l.length], .agg #[.int .i64 0, .int .i64 0]]) ∧ w.heap.size ≤ rb ∧ RowI w' rb l.length (setR l v l.length) ∧ w'.ownsRow w.heap.size 59 3 vv (setV l v l.length).length (vC (setV l v l.length)) ∧ w'.ownsRow w.heap.size 3 1 tv (setT l v l.length).length (tC (setT l v l.length)))
theorem settled_any {l : List Rz} {qv : List Value} {nq : Nat} {ao qo po eo co : Option Addr} {ac qc pc ec nc cc : Nat} {size : Int} {cq : Nat → Int} {w : World} (h : IsRg w l qv ao qo po eo) (hn : l.length ≤ 65536) (hT : TreeZ l) (h0 : 0 < l.length) (hc : IsVals w co (fL nc (fun i => .int .i64 (cq i)))) (hcn : nc ≤ 2932031007317)
    (hcp : ∀ i, i < l.length → (rat l i).kind = 32 → ∃ n : Nat, (rat l i).n = (n : Int) ∧ n < nc) (hN : ∀ i, i < l.length → in64 (rat l i).n) (hsz : in64 size) (hcq : ∀ i, in64 (cq i)) (hz : Stz l) :
    Calls Tryz.prog 48 #[.agg (rgC l nq ao qo po eo ac qc pc ec), .agg #[.int .i64 size, .slice co nc cc]] w fun e w' => Below w.heap.size w w' ∧ StlQ l (vB l size cq l.length) w e w' := by
  have HD1 := show Hid _ from dq_start w (rgC l nq ao qo po eo ac qc pc ec) #[.int .i64 size, .slice co nc cc]
  have HVl := show Hid _ from values_any (nq := nq) (ac := ac) (qc := qc) (pc := pc) (ec := ec) (cc := cc) (h.below HD1.out.be) (by omega) hT h0 (hc.below HD1.out.be) hcn hcp hN hsz hcq
  obtain ⟨M, hmk, hM⟩ := mk_ints l.length (by omega)
  have HM : Hid (∀ W : World, RowI (W.alloc (.cells M 3)) W.heap.size l.length (fun _ => 0)) := hM
  have HI := show Hid _ from h
  have HT : Hid (TreeZ l) := hT
  have HZ : Hid (Stz l) := hz
  have HN : Hid (l.length ≤ 65536) := hn
  have hln : (l.length : Int) ≤ 65536 := by omega
  have HSz : Hid (((((w.alloc (.cells #[.slice ao l.length ac, .slice qo nq qc, .slice po l.length pc, .slice eo l.length ec] 65)).alloc (.cells #[.int .i64 size, .slice co nc cc] 39)).alloc (.cells #[pz, pz, pz] 51)).alloc (.cells #[.int .i64 0, .int .i64 0] 32)).heap.size = w.heap.size + 4) := by simp [Hid]
  obtain ⟨b0, b1, b2, b3⟩ := cells4 HD1.out.r
  obtain ⟨d0, d1⟩ := vcells2 HD1.out.c
  generalize hvb : vB l size cq l.length = V at *
  clear h hn hT h0 hc hcn hcp hN hsz hcq hz hM hvb
  dsimp only [rgC] at *
  go_enter Tryz.func48, Tryz.ntmps48
  go_wp2_with fail
  generalize ((((w.alloc (.cells #[.slice ao l.length ac, .slice qo nq qc, .slice po l.length pc, .slice eo l.length ec] 65)).alloc (.cells #[.int .i64 size, .slice co nc cc] 39)).alloc (.cells #[pz, pz, pz] 51)).alloc (.cells #[.int .i64 0, .int .i64 0] 32)) = w1 at *
  refine Calls.mono HVl.out ?_
  rintro e w2 ⟨gv, rfl, hgv, hrow, hb2⟩
  have HD2 : Hid (Dq w w2 #[.slice ao l.length ac, .slice qo nq qc, .slice po l.length pc, .slice eo l.length ec] #[.int .i64 size, .slice co nc cc]) := HD1.out.below (hb2.mono (by have := HSz.out; omega))
  have HSz2 : Hid (w.heap.size + 4 ≤ w2.heap.size) := by have h1 := HSz.out; have h2 := hb2.size; show _ ≤ _; omega
  have HI2 : Hid (IsRg w2 l qv ao qo po eo) := (HI.out.below HD1.out.be).below hb2
  have HV2 : Hid (IsVals w2 (some ⟨gv, 0, none⟩) (fL l.length (fun j => .int .i64 (V j)))) := fun k x hx => by
    have hk : k < l.length := by have := (List.getElem?_eq_some_iff.1 hx).1; simpa [fL] using this
    rw [fL_at hk] at hx
    cases hx
    exact ⟨gv, 0, rfl, hrow.lt, by rw [Nat.zero_add]; exact hrow.cell hk⟩
  clear hb2 hrow hgv HVl HD1 HSz HI b0 b1 b2 b3 d0 d1
  obtain ⟨b0, b1, b2, b3⟩ := cells4 HD2.out.r
  have hb3 : Below w2.heap.size w2 ((w2.alloc (.cells M 3)).alloc (.cells #[pz, pz, .slice (some ⟨w2.heap.size, 0, none⟩) l.length l.length] 51)) := ((Below.refl _ w2).alloc (Nat.le_refl _) _).alloc (by simp) _
  have HS3 : Hid (Sd ((w2.alloc (.cells M 3)).alloc (.cells #[pz, pz, .slice (some ⟨w2.heap.size, 0, none⟩) l.length l.length] 51)) l.length (w2.heap.size + 1) w2.heap.size pz pz [] [] (fun _ => 0)) := ⟨alloc_at _ _ _ (by simp), (HM.out w2).of_block (alloc_old _ _ _ (by simp)), World.ownsRow_nil _ _ _ _, World.ownsRow_nil _ _ _ _, Nat.lt_succ_self _⟩
  have HB3 := show Hid _ from hb3
  have HZ3 := show Hid _ from HD2.out.below (hb3.mono HSz2.out)
  obtain ⟨a0, a1, a2, a3⟩ := cells4 HZ3.out.r
  clear hb3
  go_wp2_with fail
  generalize ((w2.alloc (.cells M 3)).alloc (.cells #[pz, pz, .slice (some ⟨w2.heap.size, 0, none⟩) l.length l.length] 51)) = w3 at *
  clear a0 a1 a2 a3 b0 b1 b2 b3 hmk HM HZ3
  go_loopg [21] l.length (fun gq x wr => ∃ (k : Nat) (vv tv : Value), k ≤ l.length ∧ gq = l.length - k ∧ x = .int .i64 (k : Int) ∧ (setN l V k).1 = 0 ∧ Sd wr l.length (w2.heap.size + 1) w2.heap.size vv tv (setV l V k) (setT l V k) (setR l V k) ∧ Below w2.heap.size w2 wr)
  case atStart => exact ⟨0, pz, pz, Nat.zero_le _, rfl, rfl, rfl, HS3.out, HB3.out⟩
  case round =>
    obtain ⟨k, vv, tv, hk, hgk, rfl, hno, hS, hB⟩ := hrel
    have HG : Hid (gk = l.length - k) := hgk
    have HSr := show Hid _ from hS
    have HBr : Hid (Below w2.heap.size w2 wr) := hB
    have HNo : Hid ((setN l V k).1 = 0) := hno
    have HDr : Hid (Dq w wr #[.slice ao l.length ac, .slice qo nq qc, .slice po l.length pc, .slice eo l.length ec] #[.int .i64 size, .slice co nc cc]) := HD2.out.below (hB.mono HSz2.out)
    obtain ⟨a0, a1, a2, a3⟩ := cells4 HDr.out.r
    have hkl : (k : Int) ≤ 65536 := by omega
    clear hgk hS hB hno
    by_cases hlt : k < l.length
    · have hlt' : (k : Int) < (l.length : Int) := by omega
      have HC := show Hid _ from settle_any (nq := nq) (ac := ac) (qc := qc) (pc := pc) (ec := ec) (vcap := l.length) HI2.out HBr.out HN.out hlt HV2.out HSr.out (Nat.le_refl _) HT.out HZ.out (by have := setV_le l V k; omega) (by have := setT_le l V k; omega)
      have HLt : Hid (k < l.length) := hlt
      dsimp only [rgC] at *
      clear hlt hk
      go_wp2_with fail
      refine Calls.mono HC.out ?_
      rintro e w4 ⟨rfl, hb4, hpost⟩
      have HB4 : Hid (Below w2.heap.size w2 w4) := HBr.out.trans hb4
      have HD4 : Hid (Dq w w4 #[.slice ao l.length ac, .slice qo nq qc, .slice po l.length pc, .slice eo l.length ec] #[.int .i64 size, .slice co nc cc]) := HD2.out.below (HB4.out.mono HSz2.out)
      clear hb4 HC a0 a1 a2 a3
      by_cases he : setE l V k = 0
      · obtain ⟨vv', tv', hS4⟩ := hpost he
        have HS4 : Hid (Sd w4 l.length (w2.heap.size + 1) w2.heap.size vv' tv' (setV l V (k + 1)) (setT l V (k + 1)) (setR l V (k + 1))) := hS4
        have HN4 : Hid ((setN l V (k + 1)).1 = 0) := setN_pass HNo.out he
        rw [he]
        clear hS4 hpost he
        go_wp2_with fail
        go_roundg (l.length - (k + 1))
        case measure => have h1 := HG.out; have := HLt.out; omega
        case rel => exact ⟨k + 1, vv', tv', HLt.out, rfl, by go_num, HN4.out, HS4.out, HB4.out⟩
      · have HN4 : Hid (setN l V l.length = (setE l V k, k) ∧ setE l V k ≠ 0) := ⟨by
          have h1 := setN_next HNo.out he
          rw [setN_stays (n := k + 1) (by rw [h1]; exact he) l.length HLt.out]
          exact h1, he⟩
        have he' : ((setE l V k : Int) != 0) = true := by simp [he]
        clear hpost he
        obtain ⟨t0, t1, t2⟩ := cells3 HD4.out.t
        obtain ⟨f0, f1⟩ := cells2 HD4.out.f
        have ft : ∀ j, w4.frozen? ⟨w.heap.size + 1 + 1, j, none⟩ = false := fun j => by have := HD4.out.t; simp only [World.frozen?, this]; rfl
        have ff : ∀ j, w4.frozen? ⟨w.heap.size + 1 + 1 + 1, j, none⟩ = false := fun j => by have := HD4.out.f; simp only [World.frozen?, this]; rfl
        generalize setE l V k = en at *
        go_wp2_with fail
        obtain ⟨a1, a2, a3⟩ := put3M (B := w.heap.size + 1 + 1) (v0 := pz) (v1 := pz) (v2 := pz) HD4.out.be (by omega) HD4.out.t
        obtain ⟨c1, c2, c3⟩ := put2M (B := w.heap.size + 1 + 1 + 1) (v0 := .int .i64 (en : Int)) (v1 := .int .i64 (k : Int)) a2 (by omega) ((a3 _ (by omega)).trans HD4.out.f)
        obtain ⟨y0, y1⟩ := cells2 c1
        obtain ⟨u0, u1, u2⟩ := cells3 ((c3 _ (by omega)).trans a1)
        refine bodyPost_ret (v := .tuple #[.agg #[pz, pz, pz], .agg #[.int .i64 (en : Int), .int .i64 (k : Int)]]) (by simp [results, Tryz.results48, go_sem, y0, y1, u0, u1, u2]) rfl ?_
        exact ⟨c2, Or.inl ⟨by rw [HN4.out.1]; exact HN4.out.2, by rw [HN4.out.1]⟩⟩
    · have hlt' : ¬ (k : Int) < (l.length : Int) := by omega
      obtain rfl : k = l.length := by omega
      obtain ⟨vo1, vc1, rfl⟩ := own_form HSr.out.v
      obtain ⟨to1, tc1, rfl⟩ := own_form HSr.out.t
      obtain ⟨q0, q1, q2⟩ := cells3 HSr.out.b
      obtain ⟨t0, t1, t2⟩ := cells3 HDr.out.t
      obtain ⟨f0, f1⟩ := cells2 HDr.out.f
      have ft : ∀ j, wr.frozen? ⟨w.heap.size + 1 + 1, j, none⟩ = false := fun j => by have := HDr.out.t; simp only [World.frozen?, this]; rfl
      have ff : ∀ j, wr.frozen? ⟨w.heap.size + 1 + 1 + 1, j, none⟩ = false := fun j => by have := HDr.out.f; simp only [World.frozen?, this]; rfl
      clear hlt hk
      go_wp2_with fail
      obtain ⟨a1, a2, a3⟩ := put3M (B := w.heap.size + 1 + 1) (v0 := .slice vo1 (setV l V l.length).length vc1) (v1 := .slice to1 (setT l V l.length).length tc1) (v2 := .slice (some ⟨w2.heap.size, 0, none⟩) l.length l.length) HDr.out.be (by omega) HDr.out.t
      obtain ⟨c1, c2, c3⟩ := put2M (B := w.heap.size + 1 + 1 + 1) (v0 := .int .i64 0) (v1 := .int .i64 0) a2 (by omega) ((a3 _ (by omega)).trans HDr.out.f)
      obtain ⟨y0, y1⟩ := cells2 c1
      obtain ⟨u0, u1, u2⟩ := cells3 ((c3 _ (by omega)).trans a1)
      have hz2 := HSz2.out
      have hkp : ∀ k, w2.heap.size ≤ k → _ := fun k (hk : w2.heap.size ≤ k) => (c3 k (by omega)).trans (a3 k (by omega))
      refine bodyPost_ret (v := .tuple #[.agg #[.slice vo1 (setV l V l.length).length vc1, .slice to1 (setT l V l.length).length tc1, .slice (some ⟨w2.heap.size, 0, none⟩) l.length l.length], .agg #[.int .i64 0, .int .i64 0]]) (by simp [results, Tryz.results48, go_sem, y0, y1, u0, u1, u2]) rfl ?_
      exact ⟨c2, Or.inr ⟨HNo.out, _, _, _, rfl, by omega, HSr.out.r.of_block (hkp _ (Nat.le_refl _)), own_keepY HSr.out.v (fun k hk => hkp k (by omega)) (by omega), own_keepY HSr.out.t (fun k hk => hkp k (by omega)) (by omega)⟩⟩
end Go.Proofs.YtjoflihimpipcaaGreat.Nm.Ty
namespace Go.Proofs.YtjoflihimpipcaaGreat.Nm.Ty
open Go.RowKit Go.Maps Go.Proofs.YtjoflihimpipcaaGreat.Sp Go.Proofs.YtjoflihimpipcaaGreat.Lx Go.Proofs.YtjoflihimpipcaaGreat.Gr
theorem fcells2 {wq : World} {B : Nat} {v0 v1 : Value} {T : TypeId} (h : wq.heap[B]? = some (.cells #[v0, v1] T (0, 0))) : wq.cell? ⟨B, 0, none⟩ = some v0 ∧ wq.cell? ⟨B, 1, none⟩ = some v1 := by
  refine ⟨?_, ?_⟩
  all_goals
    simp only [World.cell?, h]
    rfl
theorem fput2L {n : Nat} {w wx : World} {B : Nat} {T : TypeId} {a b v0 v1 : Value} (hb : Below n w wx) (hB : n ≤ B) (hz : wx.heap[B]? = some (.cells #[a, b] T (0, 0))) : ((wx.setCell ⟨B, 0, none⟩ v0).setCell ⟨B, 1, none⟩ v1).heap[B]? = some (.cells #[v0, v1] T (0, 0)) ∧ Below n w ((wx.setCell ⟨B, 0, none⟩ v0).setCell ⟨B, 1, none⟩ v1) := by
  have h0 := set_at hz v0 (cs' := #[v0, b]) (i := 0) rfl
  have h1 := set_at h0 v1 (cs' := #[v0, v1]) (i := 1) rfl
  exact ⟨h1, (hb.trans ((Below.refl n wx).setCell (p := ⟨B, 0, none⟩) hB _)).trans ((Below.refl n _).setCell (p := ⟨B, 1, none⟩) hB _)⟩
/-- capacities: sums of the residents', of the ghosts', and whether each may be -/
def resS (gh : Nat → Bool) (cs : Nat → Int) : Nat → Int
  | 0 => 0
  | k + 1 => if gh k = true then resS gh cs k else resS gh cs k + cs k
def ghoS (gh : Nat → Bool) (cs : Nat → Int) : Nat → Int
  | 0 => 0
  | k + 1 => if gh k = true then ghoS gh cs k + cs k else ghoS gh cs k
def okC (gh : Nat → Bool) (size : Int) (cs : Nat → Int) (k : Nat) : Prop := 1 ≤ cs k ∧ cs k ≤ 1048576 ∧ (gh k = true ∨ cs k ≤ size)
def fitZ (gh : Nat → Bool) (nq : Nat) (size : Int) (cs : Nat → Int) (nc : Nat) : Prop := 1 ≤ size ∧ size ≤ 1048576 ∧ nc = nq ∧ (∀ k, k < nc → okC gh size cs k) ∧ min size (resS gh cs nc) + ghoS gh cs nc ≤ 4194304
instance (gh : Nat → Bool) (size : Int) (cs : Nat → Int) (k : Nat) : Decidable (okC gh size cs k) := inferInstanceAs (Decidable (_ ∧ _))
instance (gh : Nat → Bool) (nq : Nat) (size : Int) (cs : Nat → Int) (nc : Nat) : Decidable (fitZ gh nq size cs nc) := inferInstanceAs (Decidable (_ ∧ _))
def fitE (gh : Nat → Bool) (nq : Nat) (size : Int) (cs : Nat → Int) (nc : Nat) : Int := if fitZ gh nq size cs nc then 0 else 45
theorem sums_le {gh : Nat → Bool} {size : Int} {cs : Nat → Int} : ∀ k, (∀ j, j < k → okC gh size cs j) → 0 ≤ resS gh cs k ∧ 0 ≤ ghoS gh cs k ∧ resS gh cs k + ghoS gh cs k ≤ 1048576 * k := by
  intro k
  induction k with
  | zero => intro _; simp [resS, ghoS]
  | succ k ih =>
    intro h
    obtain ⟨h1, h2, h3⟩ := ih (fun j hj => h j (by omega))
    obtain ⟨h4, h5, _⟩ := h k (by omega)
    simp only [resS, ghoS]
    split <;> omega
theorem fits_any {qs : List (ByteArray × Bool)} {qo co : Option Addr} {qc cc nc : Nat} {size : Int} {cs : Nat → Int} {w : World} (hq : IsVals w qo (qF qs)) (hc : IsVals w co (fL nc (fun i => .int .i64 (cs i)))) (hql : qs.length ≤ 2932031007317) (hcl : nc ≤ 2932031007317) :
    Calls Tryz.prog 41 #[.slice qo qs.length qc, .agg #[.int .i64 size, .slice co nc cc]] w fun e w' => e = .returned (.agg #[.int .i64 (fitE (ghL qs) qs.length size cs nc), .int .i64 0]) ∧ Below w.heap.size w w' := by
  have HQ := show Hid _ from hq
  have HC := show Hid _ from hc
  have hql' : (qs.length : Int) ≤ 2932031007317 := by omega
  have hcl' : (nc : Int) ≤ 2932031007317 := by omega
  have H0 : Hid (Below w.heap.size w (((w.alloc (.cells #[.int .i64 size, .slice co nc cc] 39)).alloc (.cells #[.int .i64 0, .int .i64 0] 32)).alloc (.cells #[.int .i64 45, .int .i64 0] 32)) ∧ (((w.alloc (.cells #[.int .i64 size, .slice co nc cc] 39)).alloc (.cells #[.int .i64 0, .int .i64 0] 32)).alloc (.cells #[.int .i64 45, .int .i64 0] 32)).heap[w.heap.size]? = some (.cells #[.int .i64 size, .slice co nc cc] 39 (0, 0)) ∧ (((w.alloc (.cells #[.int .i64 size, .slice co nc cc] 39)).alloc (.cells #[.int .i64 0, .int .i64 0] 32)).alloc (.cells #[.int .i64 45, .int .i64 0] 32)).heap[w.heap.size + 1]? = some (.cells #[.int .i64 0, .int .i64 0] 32 (0, 0)) ∧ (((w.alloc (.cells #[.int .i64 size, .slice co nc cc] 39)).alloc (.cells #[.int .i64 0, .int .i64 0] 32)).alloc (.cells #[.int .i64 45, .int .i64 0] 32)).heap[w.heap.size + 1 + 1]? = some (.cells #[.int .i64 45, .int .i64 0] 32 (0, 0))) := by
    refine ⟨(((Below.refl _ w).alloc (Nat.le_refl _) _).alloc (by simp) _).alloc (by simp; omega) _, ?_, ?_, ?_⟩
    · rw [alloc_old _ _ _ (by simp; omega), alloc_old _ _ _ (by simp)]
      exact alloc_at _ _ _ rfl
    · rw [alloc_old _ _ _ (by simp)]
      exact alloc_at _ _ _ (by simp)
    · exact alloc_at _ _ _ (by simp)
  clear hq hc
  obtain ⟨b0, b1⟩ := fcells2 H0.out.2.1
  obtain ⟨f0, f1⟩ := fcells2 H0.out.2.2.1
  obtain ⟨r0, r1⟩ := fcells2 H0.out.2.2.2
  have hfz : ∀ j, (((w.alloc (.cells #[.int .i64 size, .slice co nc cc] 39)).alloc (.cells #[.int .i64 0, .int .i64 0] 32)).alloc (.cells #[.int .i64 45, .int .i64 0] 32)).frozen? ⟨w.heap.size + 1, j, none⟩ = false := fun j => by have := H0.out.2.2.1; simp only [World.frozen?, this]; rfl
  by_cases hs1 : size < 1
  · have hs1' : decide (size < 1) = true := decide_eq_true hs1
    have HZ : Hid (fitE (ghL qs) qs.length size cs nc = 45) := if_neg (fun h => by have := h.1; omega)
    clear HQ HC
    go_enter Tryz.func41, Tryz.ntmps41
    go_wp2_with fail
    refine bodyPost_ret (v := .agg #[.int .i64 45, .int .i64 0]) (by simp [results, Tryz.results41, go_sem]) rfl ?_
    rw [HZ.out]
    exact ⟨rfl, (((Below.refl _ w).alloc (Nat.le_refl _) _).alloc (by simp) _).alloc (by simp; omega) _⟩
  · have hs1' : decide (size < 1) = false := decide_eq_false hs1
    by_cases hs2 : 1048576 < size
    · have hs2' : decide (1048576 < size) = true := decide_eq_true hs2
      have HZ : Hid (fitE (ghL qs) qs.length size cs nc = 45) := if_neg (fun h => by have := h.2.1; omega)
      clear HQ HC
      go_enter Tryz.func41, Tryz.ntmps41
      go_wp2_with fail
      refine bodyPost_ret (v := .agg #[.int .i64 45, .int .i64 0]) (by simp [results, Tryz.results41, go_sem]) rfl ?_
      rw [HZ.out]
      exact ⟨rfl, (((Below.refl _ w).alloc (Nat.le_refl _) _).alloc (by simp) _).alloc (by simp; omega) _⟩
    · have hs2' : decide (1048576 < size) = false := decide_eq_false hs2
      by_cases hs3 : nc = qs.length
      · have hs3' : ((nc : Int) != (qs.length : Int)) = false := by simp [hs3]
        have HE : Hid (nc = qs.length) := hs3
        have hsz : size ≤ 1048576 := by omega
        have hsz0 : 1 ≤ size := by omega
        clear hs3
        go_enter Tryz.func41, Tryz.ntmps41
        go_wp2_with fail
        generalize hW0 : (((w.alloc (.cells #[.int .i64 size, .slice co nc cc] 39)).alloc (.cells #[.int .i64 0, .int .i64 0] 32)).alloc (.cells #[.int .i64 45, .int .i64 0] 32)) = W0 at *
        clear hW0
        go_loopg [6, 7, 31] nc (fun gq a b x wr => ∃ k : Nat, k ≤ nc ∧ gq = nc - k ∧ a = .int .i64 (resS (ghL qs) cs k) ∧ b = .int .i64 (ghoS (ghL qs) cs k) ∧ x = .int .i64 k ∧ (∀ j, j < k → okC (ghL qs) size cs j) ∧ wr = W0)
        case atStart => exact ⟨0, Nat.zero_le _, rfl, rfl, rfl, by go_num, fun j hj => by omega, rfl⟩
        case round =>
          obtain ⟨k, hk, hgk, rfl, rfl, rfl, hok, hw⟩ := hrel
          rw [hw]
          clear hw
          obtain ⟨e1, e2, e3⟩ := sums_le k hok
          have HOk : Hid (∀ j, j < k → okC (ghL qs) size cs j) := hok
          have HG : Hid (gk = nc - k) := hgk
          have hk2 : (k : Int) ≤ 2932031007317 := by omega
          have hr1 : resS (ghL qs) cs k ≤ 3074457345618258599 := by omega
          have hr2 : ghoS (ghL qs) cs k ≤ 3074457345618258599 := by omega
          have hr3 : resS (ghL qs) cs k + ghoS (ghL qs) cs k ≤ 3074457345618258599 := by omega
          have HSr : Hid (resS (ghL qs) cs (k + 1) = if ghL qs k = true then resS (ghL qs) cs k else resS (ghL qs) cs k + cs k) := rfl
          have HSg : Hid (ghoS (ghL qs) cs (k + 1) = if ghL qs k = true then ghoS (ghL qs) cs k + cs k else ghoS (ghL qs) cs k) := rfl
          clear hok hgk e3
          by_cases hlt : k < nc
          · have hlt' : (k : Int) < (nc : Int) := by omega
            obtain ⟨gc, oc, rfl, hgc, ck⟩ := HC.out k _ (fL_at hlt)
            have ck0 := (H0.out.1.cell (p := ⟨gc, oc + k, none⟩) hgc).trans ck
            have hkq : k < qs.length := by have := HE.out; omega
            have hkq' : (k : Int) < (qs.length : Int) := by omega
            obtain ⟨gq, oq, rfl, hgq, cq⟩ := HQ.out (k * 2 + 1) _ (qF_at hkq)
            have cq0 := (H0.out.1.cell (p := ⟨gq, oq + (k * 2 + 1), none⟩) hgq).trans cq
            rw [← Nat.add_assoc] at cq0
            have HNo : Hid (¬ okC (ghL qs) size cs k → fitE (ghL qs) qs.length size cs nc = 45) := fun h => if_neg (fun h2 => h (h2.2.2.2.1 k hlt))
            have HOn : Hid (okC (ghL qs) size cs k → ∀ j, j < k + 1 → okC (ghL qs) size cs j) := fun h j hj => by
              by_cases e : j = k
              · rw [e]; exact h
              · exact HOk.out j (by omega)
            have HOc : Hid (okC (ghL qs) size cs k ↔ (1 ≤ cs k ∧ cs k ≤ 1048576 ∧ (ghL qs k = true ∨ cs k ≤ size))) := Iff.rfl
            clear ck cq HC HQ
            generalize okC (ghL qs) size cs k = okk at *
            generalize resS (ghL qs) cs k = rs at *
            generalize ghoS (ghL qs) cs k = gs at *
            generalize cs k = c at *
            by_cases hc1 : c < 1
            · have hc1' : decide (c < 1) = true := decide_eq_true hc1
              have HZ : Hid (fitE (ghL qs) qs.length size cs nc = 45) := HNo.out (fun h => by have := (HOc.out.1 h).1; omega)
              go_wp2_with fail
              obtain ⟨x1, x2⟩ := fput2L (B := w.heap.size + 1) (v0 := .int .i64 45) (v1 := .int .i64 0) H0.out.1 (Nat.le_succ _) H0.out.2.2.1
              obtain ⟨y0, y1⟩ := fcells2 x1
              refine bodyPost_ret (v := .agg #[.int .i64 45, .int .i64 0]) (by simp [results, Tryz.results41, go_sem, y0, y1]) rfl ?_
              rw [HZ.out]
              exact ⟨rfl, x2⟩
            · have hc1' : decide (c < 1) = false := decide_eq_false hc1
              by_cases hc2 : 1048576 < c
              · have hc2' : decide (1048576 < c) = true := decide_eq_true hc2
                have HZ : Hid (fitE (ghL qs) qs.length size cs nc = 45) := HNo.out (fun h => by have := (HOc.out.1 h).2.1; omega)
                go_wp2_with fail
                obtain ⟨x1, x2⟩ := fput2L (B := w.heap.size + 1) (v0 := .int .i64 45) (v1 := .int .i64 0) H0.out.1 (Nat.le_succ _) H0.out.2.2.1
                obtain ⟨y0, y1⟩ := fcells2 x1
                refine bodyPost_ret (v := .agg #[.int .i64 45, .int .i64 0]) (by simp [results, Tryz.results41, go_sem, y0, y1]) rfl ?_
                rw [HZ.out]
                exact ⟨rfl, x2⟩
              · have hc2' : decide (1048576 < c) = false := decide_eq_false hc2
                cases hgh : ghL qs k with
                | true =>
                  rw [hgh] at cq0
                  have HOo := show Hid _ from HOn.out (HOc.out.2 ⟨by omega, by omega, Or.inl hgh⟩)
                  have HS1 : Hid (resS (ghL qs) cs (k + 1) = rs ∧ ghoS (ghL qs) cs (k + 1) = gs + c) := ⟨by rw [HSr.out, if_pos hgh], by rw [HSg.out, if_pos hgh]⟩
                  have hw2 : IntKind.i64.wrap (gs + c) = gs + c := by rw [IntKind.wrap_i64]; omega
                  clear hgh
                  go_wp2_with fail
                  go_roundg (nc - (k + 1))
                  case measure => have := HG.out; omega
                  case rel => exact ⟨k + 1, by omega, rfl, by rw [HS1.out.1], by rw [HS1.out.2], by go_num, HOo.out, rfl⟩
                | false =>
                  rw [hgh] at cq0
                  by_cases hc3 : size < c
                  · have hc3' : decide (size < c) = true := decide_eq_true hc3
                    have HZ : Hid (fitE (ghL qs) qs.length size cs nc = 45) := HNo.out (fun h => by have := (HOc.out.1 h).2.2; rw [hgh] at this; exact this.elim nofun (fun h => by omega))
                    clear hgh
                    go_wp2_with fail
                    obtain ⟨x1, x2⟩ := fput2L (B := w.heap.size + 1) (v0 := .int .i64 45) (v1 := .int .i64 0) H0.out.1 (Nat.le_succ _) H0.out.2.2.1
                    obtain ⟨y0, y1⟩ := fcells2 x1
                    refine bodyPost_ret (v := .agg #[.int .i64 45, .int .i64 0]) (by simp [results, Tryz.results41, go_sem, y0, y1]) rfl ?_
                    rw [HZ.out]
                    exact ⟨rfl, x2⟩
                  · have hc3' : decide (size < c) = false := decide_eq_false hc3
                    have HOo := show Hid _ from HOn.out (HOc.out.2 ⟨by omega, by omega, Or.inr (by omega)⟩)
                    have HS1 : Hid (resS (ghL qs) cs (k + 1) = rs + c ∧ ghoS (ghL qs) cs (k + 1) = gs) := ⟨by rw [HSr.out, if_neg (by simp [hgh])], by rw [HSg.out, if_neg (by simp [hgh])]⟩
                    have hw2 : IntKind.i64.wrap (rs + c) = rs + c := by rw [IntKind.wrap_i64]; omega
                    clear hgh
                    go_wp2_with fail
                    go_roundg (nc - (k + 1))
                    case measure => have := HG.out; omega
                    case rel => exact ⟨k + 1, by omega, rfl, by rw [HS1.out.1], by rw [HS1.out.2], by go_num, HOo.out, rfl⟩
          · have hlt' : ¬ (k : Int) < (nc : Int) := by omega
            have hke : k = nc := by omega
            have HFt : Hid (fitE (ghL qs) qs.length size cs nc = if min size (resS (ghL qs) cs k) + ghoS (ghL qs) cs k ≤ 4194304 then 0 else 45) := by
              show (if fitZ _ _ _ _ _ then (0 : Int) else 45) = _
              have : fitZ (ghL qs) qs.length size cs nc ↔ min size (resS (ghL qs) cs k) + ghoS (ghL qs) cs k ≤ 4194304 := by
                rw [hke]
                exact ⟨fun h => h.2.2.2.2, fun h => ⟨hsz0, hsz, HE.out, fun j hj => HOk.out j (by omega), h⟩⟩
              by_cases h : min size (resS (ghL qs) cs k) + ghoS (ghL qs) cs k ≤ 4194304
              · rw [if_pos h, if_pos (this.2 h)]
              · rw [if_neg h, if_neg (fun h2 => h (this.1 h2))]
            clear hke HSr HSg HQ HC
            generalize resS (ghL qs) cs k = rs at *
            generalize ghoS (ghL qs) cs k = gs at *
            have hmn : min size rs ≤ 1048576 := by omega
            have hmn0 : 0 ≤ min size rs := by omega
            generalize hmz : min size rs = mz at *
            have hw2 : IntKind.i64.wrap (mz + gs) = mz + gs := by rw [IntKind.wrap_i64]; omega
            by_cases h4 : mz + gs ≤ 4194304
            · have h4' : decide (4194304 < mz + gs) = false := decide_eq_false (by omega)
              have HZ : Hid (fitE (ghL qs) qs.length size cs nc = 0) := by show _ = _; rw [HFt.out, if_pos h4]
              go_wp2_with fail
              obtain ⟨x1, x2⟩ := fput2L (B := w.heap.size + 1) (v0 := .int .i64 0) (v1 := .int .i64 0) H0.out.1 (Nat.le_succ _) H0.out.2.2.1
              obtain ⟨y0, y1⟩ := fcells2 x1
              refine bodyPost_ret (v := .agg #[.int .i64 0, .int .i64 0]) (by simp [results, Tryz.results41, go_sem, y0, y1]) rfl ?_
              rw [HZ.out]
              exact ⟨rfl, x2⟩
            · have h4' : decide (4194304 < mz + gs) = true := decide_eq_true (by omega)
              have HZ : Hid (fitE (ghL qs) qs.length size cs nc = 45) := by show _ = _; rw [HFt.out, if_neg h4]
              go_wp2_with fail
              obtain ⟨x1, x2⟩ := fput2L (B := w.heap.size + 1) (v0 := .int .i64 45) (v1 := .int .i64 0) H0.out.1 (Nat.le_succ _) H0.out.2.2.1
              obtain ⟨y0, y1⟩ := fcells2 x1
              refine bodyPost_ret (v := .agg #[.int .i64 45, .int .i64 0]) (by simp [results, Tryz.results41, go_sem, y0, y1]) rfl ?_
              rw [HZ.out]
              exact ⟨rfl, x2⟩
      · have hs3' : ((nc : Int) != (qs.length : Int)) = true := by simp; omega
        have HZ : Hid (fitE (ghL qs) qs.length size cs nc = 45) := if_neg (fun h => hs3 h.2.2.1)
        clear HQ HC
        go_enter Tryz.func41, Tryz.ntmps41
        go_wp2_with fail
        refine bodyPost_ret (v := .agg #[.int .i64 45, .int .i64 0]) (by simp [results, Tryz.results41, go_sem]) rfl ?_
        rw [HZ.out]
        exact ⟨rfl, (((Below.refl _ w).alloc (Nat.le_refl _) _).alloc (by simp) _).alloc (by simp; omega) _⟩
end Go.Proofs.YtjoflihimpipcaaGreat.Nm.Ty
