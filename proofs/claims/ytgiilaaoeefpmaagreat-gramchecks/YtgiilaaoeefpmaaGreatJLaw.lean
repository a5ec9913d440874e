import Derived.Test.YtgiilaaoeefpmaaGreatJKnown
import Derived.Test.YtgiilaaoeefpmaaGreatJCheck
import Derived.Test.YtgiilaaoeefpmaaGreatJLend
import Derived.Test.YtgiilaaoeefpmaaGreatJWalk
import Derived.Deep.DeepCutAuto
import Derived.Test.YtgiilaaoeefpmaaGreatLxBase
import Derived.ProofKit
import Derived.OpenShut
import Derived.ShutString
import Derived.ChangeOld
import Derived.Below
import Derived.JoinedCond
import Derived.SizedLaws
import Derived.SliceStrings
import Derived.ChangeMaps5
import Derived.Test.YtgiilaaoeefpmaaGreatJKind
import Derived.Deep.Slices
import Derived.ChangeSame
namespace Go.Proofs.YtgiilaaoeefpmaaGreat.gramChecks
open Go.RowKit Go.Proofs.YtgiilaaoeefpmaaGreat.Sp Go.Proofs.YtgiilaaoeefpmaaGreat.Lx Go.Proofs.YtgiilaaoeefpmaaGreat.Gr

theorem chk_cases (l : List Rz) : ((chk l).1 ≠ 0) ∨ (chk l = (0, 0) ∧ (wrong [ab1] 0 l).2 = false) := by
  unfold chk
  split
  · left; simp
  · rename_i h
    split
    · left; simp
    · right; exact ⟨rfl, by simpa using h⟩
theorem fill_three (l : List Rz) : fill l 3 = l ++ [mk7, mk7, mk7] := rfl

set_option maxHeartbeats 25600000 in
set_option maxRecDepth 100000 in
theorem walk (ao : Option Addr) (l : List Rz) (cap : Nat) (w : World) (h : IsRz w ao l) (hn : l.length ≤ 2932031007317) (hkd : ∀ r ∈ l, r.kids ≤ 9223372036854775807 ∧ r.name.size ≤ 4611686018427387000) :
    Calls Tryz.prog 3 #[.slice ao l.length cap] w fun e w' => e = .returned (.bool true) ∧ Below w.heap.size w w' := by
  have HI : Hid (IsRz w ao l) := h
  have HN : Hid (l.length ≤ 2932031007317) := hn
  have HKd : Hid (∀ r ∈ l, r.kids ≤ 9223372036854775807 ∧ r.name.size ≤ 4611686018427387000) := hkd
  have hln : (l.length : Int) ≤ 2932031007317 := by omega
  clear h hn hkd
  go_enter Tryz.func3, Tryz.ntmps3
  go_wp2_with fail
  refine (known_any w).mono ?_
  rintro e w1 ⟨rfl, hB1⟩
  have HB1 : Hid (Below w.heap.size w w1) := hB1
  clear hB1
  go_wp2_with fail
  refine (lendRows_any ao l cap w1 (HI.out.below HB1.out) HN.out).mono ?_
  rintro e w2 ⟨rfl, hR2, hB2⟩
  rw [fill_three] at hR2
  have HR2 : Hid (RowZ w2 w1.heap.size (l ++ [mk7, mk7, mk7])) := hR2
  have HB2 : Hid (Below w.heap.size w w2) := HB1.out.trans (hB2.mono HB1.out.size)
  clear hR2 hB2
  generalize w1.heap.size = gm at *
  go_wp2_with fail
  refine (check_any _ l _ w2 HR2.out.reads HN.out).mono ?_
  rintro e w3 ⟨rfl, hB3⟩
  have hb4 : Below w2.heap.size w2 (w3.alloc (.cells #[.int .i64 ((chk l).1 : Nat), .int .i64 ((chk l).2 : Nat)] 27)) := hB3.alloc hB3.size _
  have hT4 : (w3.alloc (.cells #[.int .i64 ((chk l).1 : Nat), .int .i64 ((chk l).2 : Nat)] 27)).heap[w3.heap.size]? = some (.cells #[.int .i64 ((chk l).1 : Nat), .int .i64 ((chk l).2 : Nat)] 27 (0, 0)) := heap_alloc_new w3 _
  have HB4 : Hid (Below w.heap.size w (w3.alloc (.cells #[.int .i64 ((chk l).1 : Nat), .int .i64 ((chk l).2 : Nat)] 27))) := HB2.out.trans (hb4.mono HB2.out.size)
  have HR4 : Hid (RowZ (w3.alloc (.cells #[.int .i64 ((chk l).1 : Nat), .int .i64 ((chk l).2 : Nat)] 27)) gm (l ++ [mk7, mk7, mk7])) := HR2.out.below hb4 HR2.out.lt
  have hne : Nonempty (Kin (w3.alloc (.cells #[.int .i64 ((chk l).1 : Nat), .int .i64 ((chk l).2 : Nat)] 27))) := Kin.there _
  have y0 : ∀ y : Kin (w3.alloc (.cells #[.int .i64 ((chk l).1 : Nat), .int .i64 ((chk l).2 : Nat)] 27)), y.u.cell? ⟨w3.heap.size, 0, none⟩ = some (.int .i64 ((chk l).1 : Nat)) := fun y => y.cell (a := ⟨w3.heap.size, 0, none⟩) (by simp) (by rw [World.cell?, hT4]; rfl)
  have y1 : ∀ y : Kin (w3.alloc (.cells #[.int .i64 ((chk l).1 : Nat), .int .i64 ((chk l).2 : Nat)] 27)), y.u.cell? ⟨w3.heap.size, 1, none⟩ = some (.int .i64 ((chk l).2 : Nat)) := fun y => y.cell (a := ⟨w3.heap.size, 1, none⟩) (by simp) (by rw [World.cell?, hT4]; rfl)
  have HC1 : Hid (∀ y : Kin (w3.alloc (.cells #[.int .i64 ((chk l).1 : Nat), .int .i64 ((chk l).2 : Nat)] 27)), Calls Tryz.prog 8 #[.slice ao l.length cap] y.u fun e w' => e = .returned (.agg #[.int .i64 ((chk l).1 : Nat), .int .i64 ((chk l).2 : Nat)]) ∧ Below y.u.heap.size y.u w') := fun y =>
    refCheck_any ao l cap y.u ((HI.out.below HB4.out).below y.ok) HN.out HKd.out
  have HC2 : Hid (∀ y : Kin (w3.alloc (.cells #[.int .i64 ((chk l).1 : Nat), .int .i64 ((chk l).2 : Nat)] 27)), Calls Tryz.prog 9 #[.slice (some ⟨gm, 0, none⟩) l.length (l.length + 3), .slice ao l.length cap] y.u fun e w' => e = .returned (.bool true) ∧ Below y.u.heap.size y.u w') := fun y =>
    keptRows_any gm ao l cap y.u (HR4.out.below y.ok HR4.out.lt) ((HI.out.below HB4.out).below y.ok) HN.out
  have hchk := chk_cases l
  have HT : Hid ((wrong [ab1] 0 l).2 = false → TreeZ l ∧ 0 < l.length) := tree_of
  clear hB3 hb4 hT4
  generalize chk l = C at *
  obtain ⟨C1, C2⟩ := C
  simp only at *
  go_wp2_with fail
  refine wp_region_kin (by kernel_rfl) (by kernel_rfl) ?_
  iterate 3 quiet_step (exact kin_of (HC1.out _))
  iterate 5 quiet_step (exact kin_of (HC2.out _))
  iterate 2 quiet_step (fail)
  refine wpQuiet_nil ?_
  rintro _ ⟨z, rfl⟩
  have z0 := y0 z
  have z1 := y1 z
  have HRz : Hid (RowZ z.u gm (l ++ [mk7, mk7, mk7])) := HR4.out.below z.ok HR4.out.lt
  have HBz : Hid (Below w.heap.size w z.u) := HB4.out.trans (z.ok.mono HB4.out.size)
  clear y0 y1 hne HC1 HC2
  generalize z.u = wz at *
  rcases hchk with hc1 | ⟨hc1, hwr⟩
  · have hb : ((C1 : Int) != 0) = true := by simp; omega
    have hb2 : ((C1 : Int) == 0) = false := by simp; omega
    clear hc1
    go_wp2_with fail
    all_goals go_ret
    all_goals exact ⟨rfl, HBz.out⟩
  · obtain ⟨hT, h0⟩ := HT.out hwr
    have HTr : Hid (TreeZ l) := hT
    cases hc1
    clear hwr hT HT
    by_cases h3 : (3000 : Int) < (l.length : Int)
    · go_wp2_with fail
      all_goals go_ret
      all_goals exact ⟨rfl, HBz.out⟩
    · have h3' : (l.length : Int) ≤ 3000 := by omega
      have HEn := show Hid (Calls Tryz.prog 10 #[.slice ao l.length cap] wz fun e w' => ∃ g, e = .returned (.slice (some ⟨g, 0, none⟩) l.length l.length) ∧ wz.heap.size ≤ g ∧ RowI w' g l.length (fun i => (endp l i : Int)) ∧ Below wz.heap.size wz w') from ends_any ao l cap wz (HI.out.below HBz.out) HN.out HTr.out
      go_wp2_with fail
      refine HEn.out.mono ?_
      rintro e w5 ⟨ge, rfl, hge, hRe, hB5⟩
      have HL5 : Hid (RowI w5 ge l.length (fun i => (endp l i : Int)) ∧ RowZ w5 gm (l ++ [mk7, mk7, mk7]) ∧ Below w.heap.size w w5) := ⟨hRe, HRz.out.below hB5 HRz.out.lt, HBz.out.trans (hB5.mono HBz.out.size)⟩
      clear hRe hB5 hge z0 z1
      go_wp2_with fail
      go_loopg [6] l.length (fun gq x wr => ∃ i : Nat, i ≤ l.length ∧ gq = l.length - i ∧ x = .int .i64 i ∧ RowI wr ge l.length (fun i => (endp l i : Int)) ∧ RowZ wr gm (l ++ [mk7, mk7, mk7]) ∧ Below w.heap.size w wr)
      case atStart => exact ⟨0, Nat.zero_le _, rfl, rfl, HL5.out⟩
      case round =>
        obtain ⟨i, hi, hgk, rfl, hRe, hRm, hBw⟩ := hrel
        have HG : Hid (gk = l.length - i) := hgk
        have HRe : Hid (RowI wr ge l.length (fun i => (endp l i : Int))) := hRe
        have HRm : Hid (RowZ wr gm (l ++ [mk7, mk7, mk7])) := hRm
        have HBw : Hid (Below w.heap.size w wr) := hBw
        clear hgk hRe hRm hBw
        by_cases hlt : i < l.length
        · have hlt' : (i : Int) < (l.length : Int) := by omega
          have a1 := HRe.out.cell hlt
          have a2 : wr.drew.cell? ⟨ge, i, none⟩ = some (.int .i64 (endp l i : Int)) := a1
          have HE1 : Hid (Calls Tryz.prog 11 #[.slice (some ⟨gm, 0, none⟩) l.length (l.length + 3), .int .i64 i] wr.drew fun e w' => e = .returned (.int .i64 (endp l i : Nat)) ∧ w' = wr.drew) := end_any _ l _ i wr.drew (HRm.out.reads.below (Below.refl _ _).drew) HN.out HTr.out hlt
          have HK1 : Hid (Calls Tryz.prog 13 #[.slice (some ⟨gm, 0, none⟩) l.length (l.length + 3), .int .i64 i] wr.drew fun e w' => ∃ v, e = .returned v ∧ w'.ownsRow wr.drew.heap.size 3 1 v (km l i) ((kl l i (km l i)).map nc) ∧ Below wr.drew.heap.size wr.drew w') := kids_any _ l _ i wr.drew (HRm.out.reads.below (Below.refl _ _).drew) HN.out HTr.out hlt
          have HK2 : Hid (∀ W, Below wr.heap.size wr W → Calls Tryz.prog 14 #[.slice ao l.length cap, .int .i64 i] W fun e w' => ∃ v, e = .returned v ∧ w'.ownsRow W.heap.size 3 1 v (km l i) ((kl l i (km l i)).map nc) ∧ Below W.heap.size W w') := fun W hW => refKids_any ao l cap i W ((HI.out.below HBw.out).below hW) HN.out HTr.out hlt
          have hkl : (kl l i (km l i)).length = km l i := kl_len l i (km l i)
          have HKL : Hid ((kl l i (km l i)).length = km l i ∧ km l i ≤ 2932031007317) := ⟨hkl, by have h1 := km_le HTr.out.whole hlt; have h2 := HN.out; omega⟩
          clear hkl
          go_upto_region 13 with fail
          go_cut [56] (fun c wx => c = .bool false ∧ Below wr.heap.size wr wx)
          case first =>
            go_region_law (first
              | (go_simp
                 go_at_call 11
                 refine HE1.out.mono ?_
                 rintro e wq ⟨rfl, hwq⟩
                 subst hwq)
              | (go_simp
                 go_at_call 13
                 refine HK1.out.mono ?_
                 rintro e wk ⟨vk, rfl, hOk, hBk⟩
                 have HBk : Hid (Below wr.heap.size wr wk) := ((Below.refl wr.heap.size wr).drew).trans hBk
                 have HOk : Hid (wk.ownsRow wr.heap.size 3 1 vk (kl l i (km l i)).length ((kl l i (km l i)).map nc)) := by rw [HKL.out.1]; exact hOk
                 clear hOk hBk)
              | (go_simp
                 go_at_call 14
                 refine (HK2.out wk HBk.out).mono ?_
                 rintro e wj ⟨vj, rfl, hOj, hBj⟩
                 have HBj : Hid (Below wr.heap.size wr wj) := HBk.out.trans (hBj.mono HBk.out.size)
                 have hO1 : wj.ownsRow wk.heap.size 3 1 vj (kl l i (km l i)).length ((kl l i (km l i)).map nc) := by rw [HKL.out.1]; exact hOj
                 obtain ⟨ak, ck, rfl, hik⟩ := ints_of_own (own_below HOk.out hBj)
                 obtain ⟨aj, cj, rfl, hij⟩ := ints_of_own hO1
                 have HSm : Hid (Calls Tryz.prog 12 #[.slice ak (kl l i (km l i)).length ck, .slice aj (kl l i (km l i)).length cj] wj fun e w' => e = .returned (.bool true) ∧ Below wj.heap.size wj w') := sameInts_any ak aj (kl l i (km l i)) ck cj wj hik hij (by have := HKL.out; omega)
                 clear hOj hBj hO1 hik hij)
              | (go_simp
                 go_at_call 12
                 refine HSm.out.mono ?_
                 rintro e ws ⟨rfl, hBs⟩
                 have HBs : Hid (Below wr.heap.size wr ws) := HBj.out.trans (hBs.mono HBj.out.size)
                 clear hBs))
            all_goals go_wp2_with fail
            all_goals go_meet
            all_goals first
              | exact ⟨rfl, HBs.out⟩
              | exact ⟨rfl, HBs.out.drew⟩
          case rest =>
            obtain ⟨rfl, hBc⟩ := hcut
            have HB6 : Hid (RowI wc ge l.length (fun i => (endp l i : Int)) ∧ RowZ wc gm (l ++ [mk7, mk7, mk7]) ∧ Below w.heap.size w wc) := ⟨HRe.out.below hBc HRe.out.lt, HRm.out.below hBc HRm.out.lt, HBw.out.trans (hBc.mono HBw.out.size)⟩
            clear hBc a1 a2 hlt
            go_wp2_with fail
            go_roundg (l.length - (i + 1))
            case measure => have h1 := HG.out; omega
            case rel => exact ⟨i + 1, by omega, rfl, by go_num, HB6.out⟩
        · have hlt' : ¬ ((i : Int) < (l.length : Int)) := by omega
          have HIr : Hid (IsRz wr ao l ∧ IsRz wr (some ⟨gm, 0, none⟩) l) := ⟨HI.out.below HBw.out, HRm.out.reads⟩
          clear hlt
          go_wp2_with fail
          refine (levels_any _ l _ wr HIr.out.2 HN.out).mono ?_
          rintro e w6 ⟨rfl, hB6⟩
          have HB6 : Hid (Below wr.heap.size wr w6) := hB6
          clear hB6
          go_wp2_with fail
          refine (refLevels_any _ l _ w6 (HIr.out.1.below HB6.out) HN.out HTr.out h0).mono ?_
          rintro e w7 ⟨rfl, hB7⟩
          have HB7 : Hid (Below wr.heap.size wr w7) := HB6.out.trans (hB7.mono HB6.out.size)
          clear hB7
          go_wp2_with fail
          refine (refDepths_any _ l _ w7 (HIr.out.1.below HB7.out) HN.out HTr.out h0).mono ?_
          rintro e w8 ⟨gd, rfl, hgd, hRd, hB8⟩
          have HB8 : Hid (Below wr.heap.size wr w8) := HB7.out.trans (hB8.mono HB7.out.size)
          have HRd : Hid (RowI w8 gd l.length (fun p => (dep l p : Int))) := hRd
          clear hB8 hRd hgd
          go_wp2_with fail
          refine (walks_any _ l _ gd w8 (HIr.out.2.below HB8.out) HN.out h0 HRd.out).mono ?_
          rintro e w9 ⟨rfl, hB9⟩
          have HB9 : Hid (Below wr.heap.size wr w9) := HB8.out.trans (hB9.mono HB8.out.size)
          clear hB9
          go_wp2_with fail
          refine (keptRows_any gm ao l _ w9 (HRm.out.below HB9.out HRm.out.lt) (HIr.out.1.below HB9.out) HN.out).mono ?_
          rintro e w10 ⟨rfl, hB10⟩
          have HB10 : Hid (Below w.heap.size w w10) := HBw.out.trans ((HB9.out.trans (hB10.mono HB9.out.size)).mono HBw.out.size)
          clear hB10
          go_wp2_with fail
          go_ret
          exact ⟨rfl, HB10.out⟩
end Go.Proofs.YtgiilaaoeefpmaaGreat.gramChecks

namespace Go.Proofs.YtgiilaaoeefpmaaGreat.Lx
open Go.ChangeShapes Go.WideShapes Go.ChangeAt Go.RowKit Go.Proofs.YtgiilaaoeefpmaaGreat.Sp

theorem own : ownKnob Tryz.prog.godebug = none := by kernel_rfl
theorem laidOut : laidOutB Tryz.prog = true := by kernel_rfl
theorem bytes5 : Tryz.prog.bytesOf 5 = 1 := by kernel_rfl

theorem open_bytes {H : Type} {enc : TypeId × Value → H} {W : World} {a : Option Addr} {len cap : Nat} {d : DataW H} {p : List MemPlace} (h : DataW.Trod enc Tryz.prog W 0 (fun _ => true) true 44 (.slice a len cap) d p) :
    ∃ s : ByteArray, s.size = len ∧ len ≤ cap ∧ IsBytes W a s ∧ (len = 0 ∨ ∃ el sp, d = .slice el sp ∧ el.length = len) := by
  obtain ⟨fuel, hf⟩ := h
  rcases open_ints Tryz.underlying44 Tryz.underlying5 (by kernel_rfl) hf with ⟨hcs, hx⟩ | ⟨x, l, c, zs, hcs, _, hl, hm, hz, hx, hcell, hwz⟩
  · simp [Value.cells] at hcs
    obtain ⟨rfl, rfl, rfl⟩ := hcs
    exact ⟨ByteArray.empty, rfl, Nat.le_refl _, fun i hi => absurd hi (Nat.not_lt_zero _), Or.inl rfl⟩
  · simp [Value.cells] at hcs
    obtain ⟨rfl, rfl, rfl⟩ := hcs
    simp at hz hx
    obtain ⟨rfl, rfl⟩ := hx
    have hsz : (strOfNums (zs.take len)).size = len := by rw [strOfNums_size]; simp; omega
    refine ⟨strOfNums (zs.take len), hsz, hl, fun i hi => ?_, Or.inr ⟨_, _, rfl, by simp [lits]; omega⟩⟩
    obtain ⟨b, off, spot⟩ := x
    have h0 := hcell 0 (by omega)
    have hspot : spot = none := by simpa [Addr.add] using World.cell?_spot h0
    subst hspot
    have hB : Lib.Bytes W b off (strOfNums (zs.take len)) := Lib.bytes_of_nums (n := len) (by simp; omega) (fun x hx => by
      have hx := bounds_u8 (hwz x (List.mem_of_mem_take hx))
      omega) (fun j hj => by
        have := hcell j (by omega)
        rw [Lib.addr_add] at this
        rw [this]
        simp [List.getD, List.getElem?_take_of_lt hj])
    have hc := hB i hi
    refine ⟨b, off, rfl, World.block_lt_of_cell? W _ hc, ?_⟩
    rw [hc, nb_get _ i hi]
theorem bytes_reach {H : Type} {ts : List TypeId} {ds : List (DataW H)} (hsz : (DataW.weightsEach Tryz.prog ts ds).all (· ≤ reachBytes) = true) {j len : Nat} {d : DataW H} (ht : ts[j]? = some 44) (hd : ds[j]? = some d) (h : len = 0 ∨ ∃ el sp, d = .slice el sp ∧ el.length = len) : len ≤ 140737488351232 := by
  rcases h with rfl | ⟨el, sp, rfl, rfl⟩
  · omega
  · have := sized_slice hsz ht hd Tryz.underlying44
    rw [bytes5] at this
    simp only [reachBytes] at this
    omega
end Go.Proofs.YtgiilaaoeefpmaaGreat.Lx

namespace Go.Proofs.YtgiilaaoeefpmaaGreat.Gr
open Go.ChangeShapes Go.WideShapes Go.ChangeAt Go.RowKit Go.Deep Go.Proofs.YtgiilaaoeefpmaaGreat.Sp Go.Proofs.YtgiilaaoeefpmaaGreat.Lx

theorem bytes46 : Tryz.prog.bytesOf 46 = 48 := by kernel_rfl
theorem cells46 : Tryz.prog.cellsOf 46 = 5 := by kernel_rfl
theorem cells3 : Tryz.prog.cellsOf 3 = 1 := by kernel_rfl
theorem cells9 : Tryz.prog.cellsOf 9 = 1 := by kernel_rfl
instance : Inhabited Rz := ⟨rz0⟩
/-- a row's datum -/
def dz {H : Type} (r : Rz) : DataW H := .agg [.lit (.int .i64 r.kind), .lit (.string r.name.data.toList), .lit (.int .i64 r.stop), .lit (.int .i64 r.n), .lit (.int .i64 r.kids)]
theorem wf_le {n : Int} (h : (Lit.int .i64 n).wf = true) : n ≤ 9223372036854775807 := by
  simp [Lit.wf] at h
  omega
theorem five {α : Type} {l : List α} (h : l.length = 5) : ∃ a b c d e, l = [a, b, c, d, e] := by
  match l, h with
  | [a, b, c, d, e], _ => exact ⟨a, b, c, d, e, rfl⟩
theorem open_one {H : Type} {enc : TypeId × Value → H} {W : World} {base n : Nat} {sp : Nat → Bool} {hd : Bool} {cs : List Value} {d : DataW H} {pl : List MemPlace} (h : DataW.trod enc Tryz.prog W base sp hd n 46 cs = some (d, pl)) :
    ∃ r : Rz, cs = [.int .i64 r.kind, .string r.name, .int .i64 r.stop, .int .i64 r.n, .int .i64 r.kids] ∧ d = dz r ∧ r.kids ≤ 9223372036854775807 := by
  obtain ⟨xs, k, hk, hxy, hl, hxl, hf⟩ := DataW.trod_struct Tryz.underlying46 h
  rw [cells46] at hl
  have hxl5 : xs.length = 5 := hxl
  obtain ⟨y0, y1, y2, y3, y4, rfl⟩ := five hxl5
  obtain ⟨v0, v1, v2, v3, v4, rfl⟩ := five hl
  have g0 := hf 0 _ rfl
  have g1 := hf 1 _ rfl
  have g2 := hf 2 _ rfl
  have g3 := hf 3 _ rfl
  have g4 := hf 4 _ rfl
  simp [cells3, cells9] at g0 g1 g2 g3 g4
  obtain ⟨a0, e0, f0, _⟩ := DataW.trod_int Tryz.underlying3 g0
  obtain ⟨a1, e1, f1, _⟩ := DataW.trod_string Tryz.underlying9 g1
  obtain ⟨a2, e2, f2, _⟩ := DataW.trod_int Tryz.underlying3 g2
  obtain ⟨a3, e3, f3, _⟩ := DataW.trod_int Tryz.underlying3 g3
  obtain ⟨a4, e4, f4, w4⟩ := DataW.trod_int Tryz.underlying3 g4
  simp only [List.cons.injEq, and_true] at e0 e1 e2 e3 e4
  subst e0 e1 e2 e3 e4 f0 f1 f2 f3 f4
  simp only [Prod.mk.injEq] at hxy
  exact ⟨⟨a0, a1, a2, a3, a4⟩, rfl, by simpa [dz] using hxy.1, wf_le w4⟩
theorem open_rowsZ {H : Type} {enc : TypeId × Value → H} {W : World} {a : Option Addr} {len cap : Nat} {d : DataW H} {p : List MemPlace} (h : DataW.Trod enc Tryz.prog W 0 (fun _ => true) true 22 (.slice a len cap) d p) :
    ∃ l : List Rz, l.length = len ∧ len ≤ cap ∧ IsRz W a l ∧ (∀ r ∈ l, r.kids ≤ 9223372036854775807) ∧ (l = [] ∨ ∃ sp, d = .slice (l.map dz) sp) := by
  obtain ⟨fuel, hf⟩ := h
  rcases open_slice Tryz.underlying22 hf with ⟨hcs, _⟩ | ⟨x, l, c, m, n, D, Pl, hcs, _, hl, hm, hmm, hx, hcell⟩
  · simp [Value.cells] at hcs
    obtain ⟨rfl, rfl, rfl⟩ := hcs
    exact ⟨[], rfl, Nat.le_refl _, fun i x hx => (by simp at hx), fun r hr => (by cases hr), Or.inl rfl⟩
  · simp [Value.cells] at hcs
    obtain ⟨rfl, rfl, rfl⟩ := hcs
    simp only [if_true] at hmm
    subst hmm
    simp only [Prod.mk.injEq] at hx
    have each : ∀ i, i < len → ∃ r : Rz, W.cells? 0 (x.add (i * 5)) 5 = some [.int .i64 r.kind, .string r.name, .int .i64 r.stop, .int .i64 r.n, .int .i64 r.kids] ∧ D i = dz r ∧ r.kids ≤ 9223372036854775807 := by
      intro i hi
      obtain ⟨cs', h1, h2⟩ := hcell i (by omega)
      obtain ⟨r, rfl, h4, h5⟩ := open_one h2
      rw [cells46] at h1
      exact ⟨r, h1, h4, h5⟩
    obtain ⟨q, hq⟩ := choose_lt each
    refine ⟨(List.range len).map q, by simp, hl, fun i r hr => ?_, fun r hr => ?_, Or.inr ⟨(List.range (m - len)).map fun j => D (len + j), ?_⟩⟩
    · have hi : i < len := by
        have := (List.getElem?_eq_some_iff.1 hr).1
        simpa using this
      have hri : q i = r := by simpa [hi] using hr
      obtain ⟨h1, _, _⟩ := hq i hi
      rw [hri] at h1
      obtain ⟨_, hlen, hc⟩ := World.cells?_some h1
      have e0 := hc 0 (by omega)
      have e1 := hc 1 (by omega)
      have e2 := hc 2 (by omega)
      have e3 := hc 3 (by omega)
      have e4 := hc 4 (by omega)
      rw [add_add] at e0 e1 e2 e3 e4
      simp at e0 e1 e2 e3 e4
      obtain ⟨b, off, spot⟩ := x
      have hspot : spot = none := by
        obtain ⟨g1, _, _⟩ := hq 0 (by omega)
        obtain ⟨_, _, gc⟩ := World.cells?_some g1
        have g0 := gc 0 (by omega)
        simp [Addr.add] at g0
        simpa [Addr.add] using World.cell?_spot g0
      subst hspot
      rw [Lib.addr_add] at e0 e1 e2 e3 e4
      refine ⟨b, off, rfl, World.block_lt_of_cell? W _ e0, e0, ?_, ?_, ?_, ?_⟩
      · rw [Nat.add_assoc]; exact e1
      · rw [Nat.add_assoc]; exact e2
      · rw [Nat.add_assoc]; exact e3
      · rw [Nat.add_assoc]; exact e4
    · obtain ⟨i, hi, rfl⟩ := List.mem_map.1 hr
      exact (hq i (List.mem_range.1 hi)).2.2
    · rw [hx.1]
      congr 1
      rw [List.map_map]
      exact List.map_congr_left fun i hi => (hq i (List.mem_range.1 hi)).2.1
theorem weights_all {H : Type} {P : Program} {e : TypeId} {d : DataW H} {l : List (DataW H)} (h : d ∈ l) : ∀ n ∈ d.weights P e, n ∈ DataW.weightsAll P e l := by
  induction l with
  | nil => cases h
  | cons x r ih =>
    intro n hn
    simp only [DataW.weightsAll, List.mem_append]
    rcases List.mem_cons.1 h with rfl | h1
    · exact Or.inl hn
    · exact Or.inr (ih h1 n hn)
theorem rows_reach {H : Type} {ts : List TypeId} {ds : List (DataW H)} (hsz : (DataW.weightsEach Tryz.prog ts ds).all (· ≤ reachBytes) = true) {j : Nat} {l : List Rz} {d : DataW H} (ht : ts[j]? = some 22) (hd : ds[j]? = some d) (h : l = [] ∨ ∃ sp, d = .slice (l.map dz) sp) :
    l.length ≤ 2932031007317 ∧ ∀ r ∈ l, r.name.size ≤ 140737488351232 := by
  rcases h with rfl | ⟨sp, rfl⟩
  · exact ⟨by simp, fun x hx => by cases hx⟩
  · refine ⟨?_, fun x hx => ?_⟩
    · have := sized_slice hsz ht hd Tryz.underlying22
      rw [bytes46] at this
      simp only [reachBytes, List.length_map] at this
      omega
    · have h1 : (dz x : DataW H) ∈ l.map dz := List.mem_map.2 ⟨x, hx, rfl⟩
      have h2 := weights_all (P := Tryz.prog) (e := 46) h1 x.name.data.toList.length (by simp [dz, DataW.weights, Tryz.underlying46, DataW.weightsEach])
      have h3 := List.all_eq_true.1 hsz _ (DataW.weights_mem_each ht hd x.name.data.toList.length (by
        simp only [DataW.weights, Tryz.underlying22]
        exact List.mem_cons_of_mem _ (List.mem_append_left _ h2)))
      have h4 := of_decide_eq_true h3
      simpa [reachBytes] using h4
end Go.Proofs.YtgiilaaoeefpmaaGreat.Gr

namespace Go.Proofs.YtgiilaaoeefpmaaGreat.gramChecks
open Go.ChangeShapes Go.WideShapes Go.ChangeAt Go.RowKit
open Go.Proofs.YtgiilaaoeefpmaaGreat.Sp Go.Proofs.YtgiilaaoeefpmaaGreat.Lx Go.Proofs.YtgiilaaoeefpmaaGreat.Gr

set_option maxRecDepth 100000 in
theorem contractF (H : Type) (enc : TypeId × Value → H) (W : World) (base : Nat) (args : Array Value) (ds gs : List (DataW H)) (before : List MemPlace)
    (hval : ∀ (j : Nat) t v, Tryz.f3.params[j]? = some t → args[j]? = some v → Value.okWide Tryz.prog W .any base t v)
    (hW : DataW.Whole enc Tryz.prog Tryz.f3.params.toList Rows.gramChecksSpec.vars false W args.toList ds gs before)
    (hsz : (DataW.weightsEach Tryz.prog (Tryz.f3.params.toList ++ Rows.gramChecksSpec.plain.varTypes Tryz.prog) (ds ++ gs)).all (· ≤ reachBytes) = true) :
    Calls Tryz.prog 3 args W fun e W' => ∃ v, e = .returned v ∧ Rows.gramChecksSpec.post enc Tryz.prog Tryz.f3 false true false false W args v W' := by
  have hW' := hW
  obtain ⟨p, q, hA0, hV, rfl, hfz, hnd⟩ := hW
  have hA : DataW.TrodAll enc Tryz.prog W 0 (fun _ => true) true Tryz.f3.params.toList args.toList ds p := hA0
  rw [Tryz.params3] at hA hval hsz
  obtain ⟨v0, vs0, d0, ds0, p0, q0, hargs, rfl, rfl, h0, r0⟩ := trodAll_cons hA
  obtain ⟨rfl, rfl, rfl⟩ := trodAll_nil r0
  obtain rfl : args = #[v0] := by cases args; simp_all
  obtain ⟨rfl, rfl⟩ := trodVars_none hV
  obtain ⟨a0, len0, cap0, rfl⟩ := okWide_slice Tryz.underlying22 (hval 0 22 v0 rfl rfl)
  have lt0 : ∀ x ∈ p0, x.block < W.heap.size := by obtain ⟨m, hm⟩ := h0; exact DataW.trod_lt m _ _ _ hm
  obtain ⟨s0, rfl, cl0, ib0, kb0, dd0⟩ := open_rowsZ h0
  refine (walk a0 s0 cap0 W ib0 (rows_reach hsz (j := 0) rfl rfl dd0).1 (fun r hr => ⟨kb0 r hr, by have := (rows_reach hsz (j := 0) rfl rfl dd0).2 r hr; omega⟩)).mono fun e W2 ⟨he, bel⟩ => ?_
  subst he
  exact ⟨_, rfl, _, _, _, [], _, [], hW', trodAll_mk1 (shut_bool Tryz.underlying4 _), (trodAll_cons_mk (Below.trod laidOut (by kernel_rfl) (of_decide_eq_true (by kernel_rfl)) h0 bel lt0) trodAll_mk0), rfl, bel.frame _, fun h => by cases h⟩

set_option maxRecDepth 100000 in
theorem liftedF (os : Os) (started : os.Started) (H : Type) (enc : TypeId × Value → H) :
    ReturnsInHanded {} Tryz.checked os 3 .any (Rows.gramChecksSpec.pre6 enc Tryz.prog Tryz.f3 Rows.gramChecksRow.domain false) (Rows.gramChecksSpec.post enc Tryz.prog Tryz.f3 false true false false) := by
  refine returnsInHanded_of_change_sized (C := Tryz.checked) own started (by kernel_rfl) Tryz.func3
    (ChangeSpec.witness6 (enc := enc) (C := Tryz.checked) false ⟨#[], #[.slice none 0 0], []⟩ 8 (by kernel_rfl) (by kernel_rfl) (by kernel_rfl) (by kernel_rfl)) ?_
  intro W base args ds gs before hval hW _ hsz _
  exact contractF H enc W base args ds gs before hval hW hsz

theorem provedF : Rows.GramChecksSaid :=
  OpenClaim.holds_of_wide 3 Tryz.f3 rfl rfl rfl rfl rfl rfl rfl ⟨rfl, rfl, rfl, rfl, rfl⟩ rfl rfl rfl rfl rfl (by kernel_rfl) Tryz.func3 (by kernel_rfl)
    (of_decide_eq_true (by kernel_rfl)) (by unfold Func.isWrapper; first | (rw [if_pos (by decide +kernel)]; kernel_rfl) | (rw [if_neg (by decide +kernel)]; exact ⟨rfl, rfl⟩))
    (fun os started H enc _ => liftedF os started H enc)
end Go.Proofs.YtgiilaaoeefpmaaGreat.gramChecks
