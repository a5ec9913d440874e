import Derived.Test.YtcblichnkakhdaaDoorCeEvt
import Derived.Test.YtcblichnkakhdaaDoorCeDec
import Derived.Lib.SlBytesRow
import Derived.Lib.BufferRead
import Derived.Lib.AppendIntMem
set_option linter.unusedSimpArgs false
namespace Go.Proofs.YtcblichnkakhdaaDoor.Cd
open Go.RowKit Go.Proofs.YtcblichnkakhdaaDoor.Nm Go.Proofs.YtcblichnkakhdaaDoor.Vf

/-- an instruction whose operands are numbers of the machine -/
def InB (x : Nat × (Nat → Int)) : Prop := x.1 < 42 ∧ ∀ j, j < 4 → -9223372036854775808 ≤ x.2 j ∧ x.2 j ≤ 9223372036854775807
/-- a program's text, as far as instruction j -/
def lisT (on : List Int) (miss : Int) (cd : List (Nat × (Nat → Int))) : Nat → List Nat
  | 0 => []
  | j + 1 => lisT on miss cd j ++ (evT on miss j ++ insT j (cd.getD j (0, fun _ => 0)).1 (cd.getD j (0, fun _ => 0)).2)
theorem opsT_len (k a : Nat → Int) (h : ∀ j, j < 4 → -9223372036854775808 ≤ a j ∧ a j ≤ 9223372036854775807) : ∀ j : Nat, j ≤ 4 → (opsT k a j).length ≤ 40 * j
  | 0, _ => Nat.le_refl _
  | j + 1, hj => by
    have ih := opsT_len k a h j (by omega)
    have := opT_len (k j) (a j) (h j (by omega)).1 (h j (by omega)).2
    unfold opsT
    rw [List.length_append]
    omega
theorem insT_len (at_ : Nat) (hat : at_ ≤ 1000000000) (x : Nat × (Nat → Int)) (hx : InB x) : (insT at_ x.1 x.2).length ≤ 300 := by
  have h1 := opsT_len (pick4 (Cd.kd4 x.1)) x.2 hx.2 4 (by omega)
  have h2 := decB_len (at_ : Int) (by omega) (by omega)
  have h3 := name_size x.1 hx.1
  unfold insT
  simp only [List.length_append, List.length_cons, List.length_nil, strB_len]
  omega
theorem lisT_len (on : List Int) (miss : Int) (cd : List (Nat × (Nat → Int))) (hno : on.length ≤ 1000) (hc : ∀ x ∈ cd, InB x) (hn : cd.length ≤ 1000000) : ∀ j : Nat, j ≤ cd.length → (lisT on miss cd j).length ≤ 50000 * j
  | 0, _ => Nat.le_refl _
  | j + 1, hj => by
    have ih := lisT_len on miss cd hno hc hn j (by omega)
    have h1 := onQ_len on j on.length hno
    have h2 := misT_len miss j
    have h3 := insT_len j (by omega) cd[j] (hc _ (List.getElem_mem (by omega)))
    unfold lisT evT
    simp only [List.getD, List.getElem?_eq_getElem (show j < cd.length by omega), Option.getD_some]
    rw [List.length_append, List.length_append, List.length_append]
    omega
section
variable {W0 W : World} {b base g : Nat} {xs : List Nat}
set_option maxHeartbeats 12800000 in
set_option maxRecDepth 100000 in
/-- a program is listed -/
theorem lprg_any {m oc cc : Nat} {oo co : Option Addr} {on : List Int} {cd : List (Nat × (Nat → Int))} {miss : Int} {q v t : Value} (h : Ls W0 W b base (nmV g) xs) (hT : Pw W0 b base) (hN : Nms W0 b base g) (ho : Cd.Rd W0 oo m (iC on)) (hc : Cd.Rd W0 co m (cC cd)) (hm : m ≤ b) (hno : on.length ≤ 1000) (hnc : cd.length ≤ 1000000) (hcb : ∀ x ∈ cd, InB x) (hl : xs.length ≤ 1000000) :
    Calls Tryd.prog 23 #[.pointer (some ⟨b, 0, none⟩), .agg #[q, v, t, .slice oo on.length oc, .int .i64 miss, .slice co cd.length cc]] W fun e W' => e = .returned (.tuple #[]) ∧ Ls W0 W' b base (nmV g) (xs ++ lisT on miss cd cd.length) ∧ Ko b W W' := by
  have HG : Hid (Pw W0 b base ∧ Nms W0 b base g ∧ Cd.Rd W0 oo m (iC on) ∧ Cd.Rd W0 co m (cC cd) ∧ m ≤ b ∧ xs.length ≤ 1000000 ∧ on.length ≤ 1000 ∧ cd.length ≤ 1000000 ∧ (∀ x ∈ cd, InB x)) := ⟨hT, hN, ho, hc, hm, hl, hno, hnc, hcb⟩
  have hb1 : Below W.heap.size W (W.alloc (.cells #[q, v, t, .slice oo on.length oc, .int .i64 miss, .slice co cd.length cc] 29)) := (Below.refl _ W).alloc (Nat.le_refl _) _
  have H1 : Hid (Ls W0 (W.alloc (.cells #[q, v, t, .slice oo on.length oc, .int .i64 miss, .slice co cd.length cc] 29)) b base (nmV g) xs ∧ Ko b W (W.alloc (.cells #[q, v, t, .slice oo on.length oc, .int .i64 miss, .slice co cd.length cc] 29)) ∧ (W.alloc (.cells #[q, v, t, .slice oo on.length oc, .int .i64 miss, .slice co cd.length cc] 29)).heap[W.heap.size]? = some (.cells #[q, v, t, .slice oo on.length oc, .int .i64 miss, .slice co cd.length cc] 29 (0, 0)) ∧ W.heap.size ≠ b) := ⟨h.below hb1, Ko.of_below hb1, heap_alloc_new _ _, by have := h.lt; have := h.sz; omega⟩
  have hno' : (on.length : Int) ≤ 1000 := by omega
  have hnc' : (cd.length : Int) ≤ 1000000 := by omega
  clear h hT hN ho hc hm hl hno hnc hcb hb1
  obtain ⟨c0, c1, c2, c3, c4, c5⟩ := cells6 H1.out.2.2.1
  go_enter Tryd.func23, Tryd.ntmps23
  go_wp2_with fail
  clear c0 c1 c2 c3 c4 c5
  generalize (W.alloc (.cells #[q, v, t, .slice oo on.length oc, .int .i64 miss, .slice co cd.length cc] 29)) = w1 at *
  generalize W.heap.size = pb at *
  go_loopg [9] cd.length (fun gq x wr => ∃ j : Nat, j ≤ cd.length ∧ gq = cd.length - j ∧ x = .int .i64 (j : Int) ∧ Ls W0 wr b base (nmV g) (xs ++ lisT on miss cd j) ∧ Ko b W wr ∧ wr.heap[pb]? = some (.cells #[q, v, t, .slice oo on.length oc, .int .i64 miss, .slice co cd.length cc] 29 (0, 0)))
  case atStart => exact ⟨0, Nat.zero_le _, rfl, rfl, by show Ls W0 w1 b base (nmV g) (xs ++ []); rw [List.append_nil]; exact H1.out.1, H1.out.2.1, H1.out.2.2.1⟩
  case round =>
    obtain ⟨j, hj, hgk, rfl, hw, hk, hp⟩ := hrel
    have HT : Hid (Ls W0 wr b base (nmV g) (xs ++ lisT on miss cd j) ∧ Ko b W wr ∧ wr.heap[pb]? = some (.cells #[q, v, t, .slice oo on.length oc, .int .i64 miss, .slice co cd.length cc] 29 (0, 0)) ∧ gk = cd.length - j ∧ j ≤ cd.length) := ⟨hw, hk, hp, hgk, hj⟩
    have HL : Hid ((xs ++ lisT on miss cd j).length ≤ 60000000000) := by
      have := lisT_len on miss cd HG.out.2.2.2.2.2.2.1 HG.out.2.2.2.2.2.2.2.2 HG.out.2.2.2.2.2.2.2.1 j hj
      have := HG.out.2.2.2.2.2.1
      have := HG.out.2.2.2.2.2.2.2.1
      show _ ≤ _
      rw [List.length_append]
      omega
    clear hgk hw hk hp
    by_cases hlt : j < cd.length
    · have hlt' : (j : Int) < (cd.length : Int) := by omega
      obtain ⟨e0, e1, e2, e3, e4⟩ := cC_at hlt
      have HRr := show Hid _ from HT.out.1.rd HG.out.2.2.2.1 HG.out.2.2.2.2.1
      obtain ⟨g', f, rfl, hgm, _, d0⟩ := HRr.out _ _ e0
      obtain ⟨g'', f', e', _, _, d1⟩ := HRr.out _ _ e1
      cases e'
      obtain ⟨g'', f', e', _, _, d2⟩ := HRr.out _ _ e2
      cases e'
      obtain ⟨g'', f', e', _, _, d3⟩ := HRr.out _ _ e3
      cases e'
      obtain ⟨g'', f', e', _, _, d4⟩ := HRr.out _ _ e4
      cases e'
      rw [← Nat.add_assoc] at d1 d2 d3 d4
      have HQ : Hid (lisT on miss cd (j + 1) = lisT on miss cd j ++ (evT on miss j ++ insT j cd[j].1 cd[j].2)) := by
        show _ = _
        rw [lisT]
        simp only [List.getD, List.getElem?_eq_getElem hlt, Option.getD_some]
      have HLt : Hid (j < cd.length) := hlt
      have HCr : Hid (InB cd[j]) := HG.out.2.2.2.2.2.2.2.2 cd[j] (List.getElem_mem hlt)
      clear HRr e0 e1 e2 e3 e4 hgm
      generalize cd[j] = ci at *
      obtain ⟨op, a⟩ := ci
      dsimp only at *
      clear hlt
      have hb2 : Below wr.heap.size wr (wr.alloc (.cells #[.int .i64 (op : Int), .int .i64 (a 0), .int .i64 (a 1), .int .i64 (a 2), .int .i64 (a 3)] 64)) := (Below.refl _ wr).alloc (Nat.le_refl _) _
      have H2 : Hid (Ls W0 (wr.alloc (.cells #[.int .i64 (op : Int), .int .i64 (a 0), .int .i64 (a 1), .int .i64 (a 2), .int .i64 (a 3)] 64)) b base (nmV g) (xs ++ lisT on miss cd j) ∧ Ko b W (wr.alloc (.cells #[.int .i64 (op : Int), .int .i64 (a 0), .int .i64 (a 1), .int .i64 (a 2), .int .i64 (a 3)] 64)) ∧ (wr.alloc (.cells #[.int .i64 (op : Int), .int .i64 (a 0), .int .i64 (a 1), .int .i64 (a 2), .int .i64 (a 3)] 64)).heap[pb]? = some (.cells #[q, v, t, .slice oo on.length oc, .int .i64 miss, .slice (some ⟨g', f, none⟩) cd.length cc] 29 (0, 0)) ∧ (wr.alloc (.cells #[.int .i64 (op : Int), .int .i64 (a 0), .int .i64 (a 1), .int .i64 (a 2), .int .i64 (a 3)] 64)).heap[wr.heap.size]? = some (.cells #[.int .i64 (op : Int), .int .i64 (a 0), .int .i64 (a 1), .int .i64 (a 2), .int .i64 (a 3)] 64 (0, 0)) ∧ wr.heap.size ≠ b) := ⟨HT.out.1.below hb2, HT.out.2.1.trans (Ko.of_below hb2), (hb2.block _ (blk_lt HT.out.2.2.1)).trans HT.out.2.2.1, heap_alloc_new _ _, by have := HT.out.1.lt; have := HT.out.1.sz; omega⟩
      clear hb2
      obtain ⟨c0, c1, c2, c3, c4, c5⟩ := cells6 H2.out.2.2.1
      go_wp2_with fail
      clear d0 d1 d2 d3 d4 c0 c1 c2 c3 c4 c5
      generalize (wr.alloc (.cells #[.int .i64 (op : Int), .int .i64 (a 0), .int .i64 (a 1), .int .i64 (a 2), .int .i64 (a 3)] 64)) = w2 at *
      generalize wr.heap.size = ib at *
      refine (levn_any H2.out.1 HG.out.1 HG.out.2.2.1 HG.out.2.2.2.2.1 HG.out.2.2.2.2.2.2.1 j (by have := HL.out; omega)).mono ?_
      rintro e w3 ⟨rfl, hw, hk⟩
      have H3 : Hid (Ls W0 w3 b base (nmV g) (xs ++ lisT on miss cd j ++ evT on miss j) ∧ Ko b W w3 ∧ w3.heap[pb]? = some (.cells #[q, v, t, .slice oo on.length oc, .int .i64 miss, .slice (some ⟨g', f, none⟩) cd.length cc] 29 (0, 0)) ∧ w3.heap[ib]? = some (.cells #[.int .i64 (op : Int), .int .i64 (a 0), .int .i64 (a 1), .int .i64 (a 2), .int .i64 (a 3)] 64 (0, 0)) ∧ (xs ++ lisT on miss cd j ++ evT on miss j).length ≤ 70000000000) := ⟨hw, H2.out.2.1.trans hk, hk.box H1.out.2.2.2 (by decide) H2.out.2.2.1, hk.box H2.out.2.2.2.2 (by decide) H2.out.2.2.2.1, by
        have h1 := onQ_len on j on.length HG.out.2.2.2.2.2.2.1
        have h2 := misT_len miss j
        have h3 := HG.out.2.2.2.2.2.2.1
        have h4 := HL.out
        have h5 : (evT on miss j).length ≤ 40006 := by
          unfold evT
          rw [List.length_append]
          omega
        rw [List.length_append (bs := evT on miss j)]
        omega⟩
      clear hw hk H2
      obtain ⟨i0, i1, i2, i3, i4⟩ := cells5 H3.out.2.2.2.1
      go_wp2_with fail
      refine (lins_any H3.out.1 HG.out.1 HG.out.2.1 j (by have := HLt.out; have := HG.out.2.2.2.2.2.2.2.1; omega) op HCr.out.1 a HCr.out.2 (by have := H3.out.2.2.2.2; omega)).mono ?_
      rintro e w4 ⟨rfl, hw, hk⟩
      have H4 : Hid (Ls W0 w4 b base (nmV g) (xs ++ lisT on miss cd (j + 1)) ∧ Ko b W w4 ∧ w4.heap[pb]? = some (.cells #[q, v, t, .slice oo on.length oc, .int .i64 miss, .slice (some ⟨g', f, none⟩) cd.length cc] 29 (0, 0))) := ⟨by
        rw [HQ.out]
        simp only [← List.append_assoc]
        exact hw, H3.out.2.1.trans hk, hk.box H1.out.2.2.2 (by decide) H3.out.2.2.1⟩
      clear hw hk H3 i0 i1 i2 i3 i4
      go_wp2_with fail
      go_roundg (cd.length - (j + 1))
      case measure => have := HLt.out; have := HT.out.2.2.2.1; omega
      case rel => exact ⟨j + 1, HLt.out, rfl, by go_num, H4.out.1, H4.out.2.1, H4.out.2.2⟩
    · have hlt' : ¬ (j : Int) < (cd.length : Int) := by omega
      obtain rfl : j = cd.length := by have := HT.out.2.2.2.2; omega
      clear hlt
      go_wp2_with fail
      go_end0
      exact ⟨rfl, HT.out.1, HT.out.2.1⟩
end
end Go.Proofs.YtcblichnkakhdaaDoor.Cd

set_option linter.unusedSimpArgs false
namespace Go.Proofs.YtcblichnkakhdaaDoor.Cd
open Go.RowKit Go.Proofs.YtcblichnkakhdaaDoor.Nm Go.Proofs.YtcblichnkakhdaaDoor.Vf

/-- the names, a blank between any two -/
def nmS : List UInt8 := [32].intercalate namesL
theorem nmS_fields : Lib.fields nmS = namesL := by kernel_rfl
theorem nmS_low : nmS.all (fun b => decide (b.toNat < 128)) = true := by kernel_rfl
set_option maxRecDepth 100000 in
theorem nmS_len : nmS.length < 4294967281 := by
  have : nmS.length ≤ 1000 := by decide
  omega
theorem fields_at (s : ByteArray) (hs : s.data.toList = nmS) (w : World) (htab : Lib.TabIs Tryd.prog w "strings.asciiSpace" .u8 Lib.asciiSpaceTab) :
    Calls Tryd.prog 52 #[.string s] w fun e w' => e = .returned (nmV w.heap.size) ∧ w' = w.alloc (.cells nameC.toArray 9) := by
  have hz : s.size = s.data.toList.length := by rw [Array.length_toList]; rfl
  refine (Tryd.strings_Fields_laid s w (by rw [hz, hs]; exact nmS_len) (fun j b hj => ?_) htab).mono ?_
  · rw [hs] at hj
    have := List.all_eq_true.1 nmS_low b (List.mem_of_getElem? hj)
    simpa using this
  · rintro e w' ⟨rfl, rfl⟩
    rw [hs, nmS_fields]
    exact ⟨rfl, rfl⟩
theorem wpList_build_is {P : Program} {ops : Array Oper} {rest : List Oper} {o : Oper} {a : Act} {w : World} {Q : Exit → Act → World → Prop} (hg : o.guard = none) (t : TypeId) (parts : Array (Nat × Operand)) (ho : o.op = .build t parts) (cs : Array Value) (hf : P.built t (parts.map fun (i, x) => (i, a.eval x)).toList = some cs) (h : wpList P ops Q rest (a.put o.dst (.agg cs)) w) : wpList P ops Q (o :: rest) a w :=
  wpList_build hg t parts ho (by rw [hf]; rfl) (by rw [hf]; exact h)
def lsC (g : Nat) : Array Value := (Value.slice none 0 0 :: nmV g :: wayL).toArray
set_option maxHeartbeats 12800000 in
set_option maxRecDepth 100000 in
/-- newLister -/
theorem nlst_any (W : World) (htab : Lib.TabIs Tryd.prog W "strings.asciiSpace" .u8 Lib.asciiSpaceTab) :
    Calls Tryd.prog 22 #[] W fun e w' => ∃ b g, e = .returned (.pointer (some ⟨b, 0, none⟩)) ∧ w'.heap[b]? = some (.cells (lsC g) 72 (0, 0)) ∧ w'.heap[g]? = some (.cells nameC.toArray 9 (0, 0)) ∧ W.heap.size ≤ g ∧ g < b ∧ b < w'.heap.size ∧ Below W.heap.size W w' := by
  have HF : Hid (∀ s : ByteArray, s.data.toList = nmS → ∀ w, w = W → Calls Tryd.prog 52 #[.string s] w fun e w' => e = .returned (nmV W.heap.size) ∧ w' = W.alloc (.cells nameC.toArray 9)) := by
    intro s hs w hw
    subst hw
    exact fields_at s hs w htab
  have HB : Hid (Below W.heap.size W (W.alloc (.cells nameC.toArray 9)) ∧ (W.alloc (.cells nameC.toArray 9)).heap[W.heap.size]? = some (.cells nameC.toArray 9 (0, 0))) := ⟨(Below.refl _ W).alloc (Nat.le_refl _) _, heap_alloc_new _ _⟩
  clear htab
  go_enter Tryd.func22, Tryd.ntmps22
  go_wp2_with fail
  refine (HF.out _ (by kernel_rfl) _ rfl).mono ?_
  rintro e w1 ⟨rfl, rfl⟩
  generalize (W.alloc (.cells nameC.toArray 9)) = w1 at *
  go_wp2_with fail
  refine (cways _).mono ?_
  rintro e w2 ⟨rfl, hb2⟩
  have H2 : Hid (Below W.heap.size W w2 ∧ w2.heap[W.heap.size]? = some (.cells nameC.toArray 9 (0, 0))) := ⟨HB.out.1.trans (hb2.mono HB.out.1.size), (hb2.block _ (blk_lt HB.out.2)).trans HB.out.2⟩
  clear hb2
  go_wp2_with (refine wpList_build_is rfl 72 _ rfl (lsC W.heap.size) (by kernel_rfl) ?_)
  go_ret
  have hb := (Below.refl _ w2).alloc (Nat.le_refl w2.heap.size) (.cells (lsC W.heap.size) 72)
  have hs : (w2.alloc (.cells (lsC W.heap.size) 72)).heap.size = w2.heap.size + 1 := Array.size_push _
  exact ⟨w2.heap.size, W.heap.size, rfl, heap_alloc_new _ _, (hb.block _ (blk_lt H2.out.2)).trans H2.out.2, Nat.le_refl _, blk_lt H2.out.2, by omega, H2.out.1.trans (hb.mono H2.out.1.size)⟩
end Go.Proofs.YtcblichnkakhdaaDoor.Cd

set_option linter.unusedSimpArgs false
namespace Go.Proofs.YtcblichnkakhdaaDoor.Cd
open Go.RowKit Go.Proofs.YtcblichnkakhdaaDoor.Nm Go.Proofs.YtcblichnkakhdaaDoor.Vf

/-- every one a byte -/
def Low (xs : List Nat) : Prop := ∀ x ∈ xs, x < 256
theorem low_app {a b : List Nat} (h : Low a) (k : Low b) : Low (a ++ b) := fun x hx => by
  rcases List.mem_append.1 hx with h1 | h1
  · exact h x h1
  · exact k x h1
theorem low_nil : Low [] := fun x hx => by cases hx
theorem low_strB (s : ByteArray) : Low (strB s) := fun x hx => by
  obtain ⟨y, _, rfl⟩ := List.mem_map.1 hx
  exact y.toNat_lt
theorem low_decB (n : Int) : Low (decB n) := fun x hx => by
  obtain ⟨y, _, rfl⟩ := List.mem_map.1 hx
  exact y.toNat_lt
theorem low_lit {l : List Nat} (h : l.all (fun x => decide (x < 256)) = true) : Low l := fun x hx => by simpa using List.all_eq_true.1 h x hx
theorem low_opT (k v : Int) : Low (opT k v) := by
  unfold opT
  repeat' split
  all_goals first
    | exact low_lit (by decide)
    | exact low_app (low_lit (by decide)) (low_decB v)
theorem low_opsT (k a : Nat → Int) : ∀ j, Low (opsT k a j)
  | 0 => low_nil
  | j + 1 => low_app (low_opsT k a j) (low_opT _ _)
theorem low_insT (at_ op : Nat) (a : Nat → Int) : Low (insT at_ op a) := low_app (low_decB _) (low_app (low_lit (by decide)) (low_app (low_strB _) (low_app (low_opsT _ _ _) (low_lit (by decide)))))
theorem low_onQ (on : List Int) (at_ : Nat) : ∀ j, Low (onQ on at_ j)
  | 0 => low_nil
  | j + 1 => by
    unfold onQ
    refine low_app (low_onQ on at_ j) ?_
    split
    · exact low_app (low_lit (by decide)) (low_app (low_decB _) (low_lit (by decide)))
    · exact low_nil
theorem low_evT (on : List Int) (miss : Int) (at_ : Nat) : Low (evT on miss at_) := by
  unfold evT misT
  refine low_app (low_onQ on at_ _) ?_
  split
  · exact low_lit (by decide)
  · exact low_nil
theorem low_lisT (on : List Int) (miss : Int) (cd : List (Nat × (Nat → Int))) : ∀ j, Low (lisT on miss cd j)
  | 0 => low_nil
  | j + 1 => low_app (low_lisT on miss cd j) (low_app (low_evT _ _ _) (low_insT _ _ _))
/-- bytes as a string -/
def txt (xs : List Nat) : ByteArray := ⟨(xs.map UInt8.ofNat).toArray⟩
theorem txt_size (xs : List Nat) : (txt xs).size = xs.length := by
  show (xs.map UInt8.ofNat).toArray.size = _
  simp
theorem txt_at {xs : List Nat} (hl : Low xs) {i : Nat} (h : i < (txt xs).size) (h2 : i < xs.length) : ((txt xs)[i].toNat : Int) = (xs[i] : Int) := by
  have e : (txt xs)[i] = UInt8.ofNat xs[i] := by
    have hz : i < (xs.map UInt8.ofNat).toArray.size := by simpa using h2
    show (xs.map UInt8.ofNat).toArray[i]'hz = _
    rw [List.getElem_toArray, List.getElem_map]
  rw [e, UInt8.toNat_ofNat']
  have := hl xs[i] (List.getElem_mem h2)
  omega
/-- string(b) -/
theorem conv_own {w : World} {base : Nat} {b : Option Addr} {c : Nat} {xs : List Nat} (h : w.ownsRow base 5 1 (.slice b xs.length c) xs.length (u8L xs)) (hl : Low xs) : (convert 22 9 (.slice b xs.length c)).run Tryd.prog w = .ok (.string (txt xs)) w := by
  rcases h.2 with ⟨e1, e2⟩ | ⟨g, cap, cur, e1, _⟩
  · obtain rfl : xs = [] := List.eq_nil_of_length_eq_zero e2
    cases e1
    exact Lib.run_convert_nil_bytes (P := Tryd.prog) w 22 9 5 0 Tryd.underlying22 Tryd.underlying5 Tryd.underlying9
  · cases e1
    have hr := own_rdV h
    have key := Lib.run_convert_whole (P := Tryd.prog) w 22 5 9 Tryd.underlying22 Tryd.underlying5 Tryd.underlying9 g 0 (txt xs) (fun i hi => by
      have hi2 : i < xs.length := by rw [← txt_size xs]; exact hi
      obtain ⟨g', f, e, _, hc⟩ := hr i (.int .u8 (xs[i] : Int)) (by simp [u8L, hi2])
      cases e
      rw [hc, txt_at hl hi hi2]) c
    rw [txt_size] at key
    exact key
end Go.Proofs.YtcblichnkakhdaaDoor.Cd

set_option linter.unusedSimpArgs false
namespace Go.Proofs.YtcblichnkakhdaaDoor.Cd
open Go.RowKit Go.Proofs.YtcblichnkakhdaaDoor.Nm Go.Proofs.YtcblichnkakhdaaDoor.Vf

theorem op_rng {k v : Int} (h : OpOk k v ∧ (k = 0 → v = 0)) : -9223372036854775808 ≤ v ∧ v ≤ 9223372036854775807 := by
  rcases h.1 with h1 | h1 | h1
  · have := h.2 h1
    omega
  · omega
  · omega
theorem inB_of {p : Pg} (h : PgOk p) : ∀ x ∈ (toPr p).cd, InB x := fun x hx => by
  obtain ⟨y, hy, rfl⟩ := List.mem_map.1 hx
  have q := h.cr y hy
  refine ⟨by have := q.op; show y.op.toNat < 42; omega, fun j hj => ?_⟩
  have : j = 0 ∨ j = 1 ∨ j = 2 ∨ j = 3 := by omega
  rcases this with rfl | rfl | rfl | rfl
  · exact op_rng q.a
  · exact op_rng q.b
  · exact op_rng q.c
  · exact op_rng q.d
/-- the text that List tells -/
def lstB (p : Pg) : List Nat := if chk p = 0 then lisT p.on p.miss (toPr p).cd p.cd.length else []
set_option maxHeartbeats 12800000 in
set_option maxRecDepth 100000 in
/-- List -/
theorem list_any (v : PV) (p : Pg) (W : World) (hP : IsPg W v p) (hT : Lib.TabBelow Tryd.prog W.heap.size W "internal/strconv.uint64pow10" .u64 Lib.pow10Tab) (hA : Lib.TabBelow Tryd.prog W.heap.size W "strings.asciiSpace" .u8 Lib.asciiSpaceTab) : Calls Tryd.prog 12 #[.agg (pvC v p)] W fun e W' => e = .returned (.tuple #[.string (txt (lstB p)), .int .i64 (chk p : Int)]) ∧ Below W.heap.size W W' := by
  have HTb : Hid (Lib.TabBelow Tryd.prog W.heap.size W "internal/strconv.uint64pow10" .u64 Lib.pow10Tab ∧ Lib.TabBelow Tryd.prog W.heap.size W "strings.asciiSpace" .u8 Lib.asciiSpaceTab) := ⟨hT, hA⟩
  have HC : Hid (∀ w, Below W.heap.size W w → Calls Tryd.prog 16 #[.agg (pvC v p)] w fun e w' => e = .returned (.int .i64 (chk p : Int)) ∧ Below w.heap.size w w') := fun w hb => chk_any v p w (hP.below hb)
  have HB : Hid (Below W.heap.size W (W.alloc (.cells (pvC v p) 29)) ∧ (W.alloc (.cells (pvC v p) 29)).heap[W.heap.size]? = some (.cells (pvC v p) 29 (0, 0))) := ⟨(Below.refl _ W).alloc (Nat.le_refl _) _, heap_alloc_new _ _⟩
  have HPg := show Hid _ from hP
  clear hP hT hA
  obtain ⟨c0, c1, c2, c3, c4, c5⟩ := cells6 HB.out.2
  by_cases hc : chk p = 0
  case neg =>
    have HE : Hid (txt (lstB p) = ⟨#[]⟩) := by
      show txt (lstB p) = ⟨#[]⟩
      unfold lstB
      rw [if_neg hc]
      rfl
    rw [HE.out]
    have hc2 : ((chk p : Int) == 0) = false := by rw [beq_eq_false_iff_ne]; omega
    clear hc HE
    generalize hk : chk p = ck at *
    have HC2 : Hid (∀ w, Below W.heap.size W w → Calls Tryd.prog 16 #[.agg (pvC v p)] w fun e w' => e = .returned (.int .i64 (ck : Int)) ∧ Below w.heap.size w w') := by rw [← hk]; rw [← hk] at HC; exact HC.out
    clear hk HC
    go_enter Tryd.func12, Tryd.ntmps12
    go_wp2_with fail
    refine (HC2.out _ HB.out.1).mono ?_
    rintro e w2 ⟨rfl, hb2⟩
    have HB2 : Hid (Below W.heap.size W w2) := HB.out.1.trans (hb2.mono HB.out.1.size)
    clear hb2
    go_wp2_with fail
    go_ret2
    exact ⟨rfl, HB2.out⟩
  case pos =>
    have hok := pgOk_of hc
    have HE : Hid (lstB p = lisT p.on p.miss (toPr p).cd p.cd.length) := if_pos hc
    have HC2 : Hid (∀ w, Below W.heap.size W w → Calls Tryd.prog 16 #[.agg (pvC v p)] w fun e w' => e = .returned (.int .i64 0) ∧ Below w.heap.size w w') := by rw [hc] at HC; exact HC.out
    rw [hc]
    clear hc HC
    go_enter Tryd.func12, Tryd.ntmps12
    go_wp2_with fail
    refine (HC2.out _ HB.out.1).mono ?_
    rintro e w2 ⟨rfl, hb2⟩
    have HB2 : Hid (Below W.heap.size W w2 ∧ w2.heap[W.heap.size]? = some (.cells (pvC v p) 29 (0, 0))) := ⟨HB.out.1.trans (hb2.mono HB.out.1.size), (hb2.block _ (blk_lt HB.out.2)).trans HB.out.2⟩
    clear hb2 c0 c1 c2 c3 c4 c5
    go_wp2_with fail
    refine (nlst_any _ (HTb.out.2 _ HB2.out.1)).mono ?_
    rintro e w3 ⟨b, g, rfl, h1, h2, h3, h4, h5, hb3⟩
    have HB3 : Hid (Below W.heap.size W w3 ∧ w3.heap[W.heap.size]? = some (.cells (pvC v p) 29 (0, 0)) ∧ W.heap.size ≤ b) := ⟨HB2.out.1.trans (hb3.mono HB2.out.1.size), (hb3.block _ (blk_lt HB2.out.2)).trans HB2.out.2, by have := HB2.out.1.size; omega⟩
    have hLs : Ls w3 w3 b w3.heap.size (nmV g) [] := ⟨⟨.slice none 0 0, h1, World.ownsRow_nil _ _ _ _⟩, h5, Nat.le_refl _, Fb.refl _ _ _⟩
    have hNm : Nms w3 b w3.heap.size g := ⟨h2, by omega, by omega⟩
    have hPw : Pw w3 b w3.heap.size := fun w hw => HTb.out.1 w ⟨hw.os.trans HB3.out.1.os, hw.tape.trans HB3.out.1.tape, hw.output.trans HB3.out.1.output, Nat.le_trans HB3.out.1.size hw.size, fun k hk => (hw.block k (by have := HB3.out.1.size; omega) (by have := HB3.out.2.2; simp; omega)).trans (HB3.out.1.block k hk)⟩
    have hcall := lprg_any (q := .slice v.qo p.gh.length v.qc) (v := .slice v.vo p.vs.length v.vc) (t := .slice v.to p.ts.length v.tc) (m := W.heap.size) (on := p.on) (cd := (toPr p).cd) (miss := p.miss) (oc := v.oc) (cc := v.cc) hLs hPw hNm ((rd_of HPg.out.on).below HB3.out.1) (by rw [cC_toPr hok]; exact (rd_of HPg.out.cd).below HB3.out.1) HB3.out.2.2 (by have := hok.q; have := hok.o; omega) (by have := (prOk_of hok).c; exact this) (inB_of hok) (by decide)
    rw [show (toPr p).cd.length = p.cd.length by simp [toPr]] at hcall
    have HCall : Hid (Calls Tryd.prog 23 #[.pointer (some ⟨b, 0, none⟩), .agg (pvC v p)] w3 fun e W' => e = .returned (.tuple #[]) ∧ Ls w3 W' b w3.heap.size (nmV g) (lstB p) ∧ Ko b w3 W') := by
      rw [HE.out]
      exact hcall
    have HFin : Hid (∀ W', Fb [b] w3.heap.size w3 W' → Below W.heap.size W W') := fun W' hw => ⟨hw.os.trans HB3.out.1.os, hw.tape.trans HB3.out.1.tape, hw.output.trans HB3.out.1.output, Nat.le_trans HB3.out.1.size hw.size, fun k hk => (hw.block k (by have := HB3.out.1.size; omega) (by have := HB3.out.2.2; simp; omega)).trans (HB3.out.1.block k hk)⟩
    have HLow : Hid (Low (lstB p)) := by
      show Low _
      rw [HE.out]
      exact low_lisT _ _ _ _
    clear h1 h2 h3 h4 h5 hb3 hLs hNm hPw hcall hok HE
    obtain ⟨c0, c1, c2, c3, c4, c5⟩ := cells6 HB3.out.2.1
    go_wp2_with fail
    refine HCall.out.mono ?_
    rintro e w5 ⟨rfl, hw5, _⟩
    obtain ⟨u, hu, ho⟩ := hw5.ex
    obtain ⟨bu, ku, rfl⟩ := own_form ho
    have cu : w5.cell? ⟨b, 0, none⟩ = some (.slice bu (lstB p).length ku) := by simp only [World.cell?, hu]; rfl
    have hcv := conv_own ho HLow.out
    have HBb := show Hid _ from HFin.out _ hw5.fr
    clear hw5 hu ho
    go_wp2_with fail
    go_ret2
    exact ⟨rfl, HBb.out⟩
end Go.Proofs.YtcblichnkakhdaaDoor.Cd
