import Derived.Test.YtngoolkojnoplaaLxName
import Derived.Test.YtngoolkojnoplaaLxScan
import Derived.Test.YtngoolkojnoplaaLxLaw
import Derived.Lib.SlBytesConst
namespace Go.Proofs.Ytngoolkojnoplaa.Lx
open Go.RowKit Go.Proofs.Ytngoolkojnoplaa.Sp

def s0 : ByteArray := ⟨#[115, 101, 116, 32, 112, 49, 61, 55]⟩
def ts0 : List Tok := [⟨5, 0, 3, 0⟩, ⟨2, 4, 6, 0⟩, ⟨4, 6, 7, 0⟩, ⟨3, 7, 8, 7⟩, ⟨0, 8, 8, 0⟩]
theorem known_sc : full s0 = .ok ts0 := by
  rw [full_short (by decide)]
  have r1 : ru isW s0 0 = 3 := by decide +kernel
  have r2 : ru isW s0 4 = 6 := by decide +kernel
  have r3 : ru isD s0 7 = 8 := by decide +kernel
  have h1 := sc_kept (s := s0) (i := 0) (k := 0) (a := 0) (by decide) (by decide +kernel) (by decide) (by decide) (by decide +kernel) (by rw [r1]; decide +kernel)
  have h2 := sc_named (s := s0) (i := 3) (k := 1) (a := 4) (by decide) (by decide +kernel) (by decide) (by decide) (by decide +kernel) (by rw [r2]; decide +kernel) (by rw [r2]; decide)
  have h3 := sc_one (s := s0) (i := 6) (k := 2) (a := 6) (by decide) (by decide +kernel) (by decide) (by decide) (by decide +kernel) (by decide +kernel) (by decide +kernel) (by decide +kernel)
  have h4 := sc_num (s := s0) (i := 7) (k := 3) (a := 7) (by decide) (by decide +kernel) (by decide) (by decide) (by decide +kernel) (by decide +kernel) (by rw [r3]; decide +kernel)
  have h5 := sc_end (s := s0) (i := 8) (k := 4) (by decide) (by decide +kernel)
  rw [r1] at h1
  rw [r2] at h2
  rw [r3] at h4
  have v : val 0 (tx (s0.extract 7 8)) = 7 := by decide +kernel
  rw [v] at h4
  rw [h1, h2, h3, h4, h5]
  rfl

theorem const_bytes (w : World) (C : Array Value) (m : Nat × Nat) (s : ByteArray) (hC : C.toList = Lib.byteCells s.data.toList) : IsBytes (w.alloc (.cells C 5 m)) (some ⟨w.heap.size, 0, none⟩) s := by
  intro i hi
  refine ⟨w.heap.size, 0, rfl, by simp, ?_⟩
  have hl : C.toList.length = s.size := by rw [hC, Lib.byteCells_length]; simp
  have hc := Lib.cells_of_row (heap_alloc_new w (.cells C 5 m)) C.size i (.int .u8 (nb s i : Nat)) (by
    rw [List.take_of_length_le (by simp), hC]
    unfold Lib.byteCells
    rw [List.getElem?_map, byte_at s i hi, nb_get s i hi]
    rfl)
  rw [Lib.addr_add] at hc
  exact hc
theorem scan_i (ao : Option Addr) (s : ByteArray) (n cap : Nat) (w : World) (hn : n = s.size) (h : IsBytes w ao s) (hc : s.size ≤ cap) :
    Calls Try.prog 5 #[.slice ao n cap] w fun e w' => Told (full s) w.heap.size w' e ∧ Below w.heap.size w w' := by
  subst hn; exact scan_any ao s cap w h hc

theorem lit_toks (w : World) (T : TypeId) (m : Nat × Nat) (C : Array Value) (ts : List Tok) (hC : C.toList = ts.flatMap tc) : IsToks (w.alloc (.cells C T m)) (some ⟨w.heap.size, 0, none⟩) ts := by
  intro i x hx
  have hc : ∀ j, j < 4 → (w.alloc (.cells C T m)).cell? ⟨w.heap.size, i * 4 + j, none⟩ = (tc x)[j]? := fun j hj => by
    have e := flat_at ts i x hx j hj
    have hj4 : j < (tc x).length := hj
    rw [List.getElem?_eq_getElem hj4] at e ⊢
    have := Lib.cells_of_row (heap_alloc_new w (.cells C T m)) C.size (i * 4 + j) _ (by rw [List.take_of_length_le (by simp), hC]; exact e)
    rw [Lib.addr_add] at this
    simpa using this
  refine ⟨w.heap.size, 0, rfl, by simp, ?_, ?_, ?_, ?_⟩
  · simpa [tc] using hc 0 (by omega)
  · simpa [Nat.add_assoc, tc] using hc 1 (by omega)
  · simpa [Nat.add_assoc, tc] using hc 2 (by omega)
  · simpa [Nat.add_assoc, tc] using hc 3 (by omega)
theorem lit_at (w : World) (T : TypeId) (m : Nat × Nat) (C : Array Value) (ts : List Tok) (n : Nat) (hn : n = w.heap.size) (hC : C.toList = ts.flatMap tc) : IsToks (w.alloc (.cells C T m)) (some ⟨n, 0, none⟩) ts := by
  subst hn; exact lit_toks w T m C ts hC
theorem same_i (ao bo : Option Addr) (ts : List Tok) (n m ca cb : Nat) (w : World) (h1 : IsToks w ao ts) (h2 : IsToks w bo ts) (hn : n = ts.length) (hm : m = ts.length) (hb : ts.length ≤ 4611686018427387904) :
    Calls Try.prog 9 #[.slice ao n ca, .slice bo m cb] w fun e w' => e = .returned (.bool true) ∧ Below w.heap.size w w' := by
  subst hn hm; exact same_any ao bo ts ca cb w h1 h2 hb

set_option maxHeartbeats 3200000 in
set_option maxRecDepth 100000 in
theorem known_any (w : World) : Calls Try.prog 4 #[] w fun e w' => e = .returned (.bool true) ∧ Below w.heap.size w w' := by
  have kc := fun (w : World) (C : Array Value) (n c : Nat) => Lib.run_convert_bytes_const (P := Try.prog) w 22 5 C n c Try.underlying22 Try.underlying5
  go_enter Try.func4, Try.ntmps4
  go_wp2_with fail
  clear kc
  refine (scan_i _ s0 _ _ _ (by decide) (const_bytes w _ _ s0 (by rfl)) (by decide)).mono ?_
  rintro e w1 ⟨hT, hB1⟩
  rw [known_sc] at hT
  obtain ⟨v, rfl, hrow⟩ := hT
  have hB0 : Below w.heap.size w w1 := ((Below.refl _ w).alloc (Nat.le_refl _) _).trans (hB1.mono (by simp))
  clear hB1
  obtain ⟨ao, cp, rfl, hK, _⟩ := hrow.toks
  have HK : Hid (IsToks w1 ao ts0) := hK
  have HB : Hid (Below w.heap.size w w1) := hB0
  clear hrow hK hB0
  go_wp2_with fail
  refine (same_i _ _ ts0 _ _ _ _ _ ((HK.out.below ((Below.refl _ _).alloc (Nat.le_refl _) _)).below ((Below.refl _ _).alloc (Nat.le_refl _) _)) (lit_at _ _ _ _ ts0 _ (by simp) (by rfl)) rfl rfl (by decide)).mono ?_
  rintro e w2 ⟨rfl, hB2⟩
  have HB2 : Hid (Below w.heap.size w w2) := ((HB.out.alloc HB.out.size _).alloc (Nat.le_trans HB.out.size (by simp)) _).trans (hB2.mono (Nat.le_trans HB.out.size (by simp; omega)))
  clear hB2
  have k1 : kp (tx ⟨#[115, 101, 116]⟩) = true := by decide +kernel
  have k2 : isName (tx ⟨#[112, 49]⟩) = true := by decide +kernel
  go_wp2_with fail
  refine (is_any _ _).mono ?_
  rintro e w3 ⟨rfl, rfl⟩
  rw [k1]
  go_wp2_with fail
  refine (isName_any _ _).mono ?_
  rintro e w4 ⟨rfl, hB4⟩
  rw [k2]
  have HB4 : Hid (Below w.heap.size w w4) := HB2.out.trans (hB4.mono HB2.out.size)
  clear hB4
  go_wp2
  go_ret
  exact ⟨rfl, HB4.out⟩
end Go.Proofs.Ytngoolkojnoplaa.Lx
