import Derived.Test.YtgiilaaoeefpmaaGreatLxTok
import Derived.Laws.IdiomStrings
import Derived.Lib.ConvBytes
namespace Go.Proofs.YtgiilaaoeefpmaaGreat.Lx
open Go.RowKit Go.Proofs.YtgiilaaoeefpmaaGreat.Sp

/-- what Scan tells of a text -/
def full (s : ByteArray) : Res := if 1048576 < s.size then .fault 2 0 else sc s 0 0
theorem full_long {s : ByteArray} (h : 1048576 < s.size) : full s = .fault 2 0 := by unfold full; rw [if_pos h]
theorem full_short {s : ByteArray} (h : s.size ≤ 1048576) : full s = sc s 0 0 := by unfold full; rw [if_neg (by omega)]

theorem TokRow.two {w : World} {base base' b : Nat} {v x y : Value} {ts : List Tok} (h : TokRow w base v ts) (hb : b < base) (hl : base' ≤ base) : TokRow ((w.setCell ⟨b, 0, none⟩ x).setCell ⟨b, 1, none⟩ y) base' v ts := by
  unfold TokRow at h ⊢
  exact Go.Joins.ownsRow_le (ownsRow_setCell_below (ownsRow_setCell_below h (a := ⟨b, 0, none⟩) (by show b < _; omega) _) (a := ⟨b, 1, none⟩) (by show b < _; omega) _) hl

set_option maxHeartbeats 1600000 in
set_option maxRecDepth 100000 in
theorem scan_any (ao : Option Addr) (s : ByteArray) (cap : Nat) (w : World) (h : IsBytes w ao s) (hc : s.size ≤ cap) :
    Calls Tryz.prog 32 #[.slice ao s.size cap] w fun e w' => Told (full s) w.heap.size w' e ∧ Below w.heap.size w w' := by
  by_cases hs : 1048576 < s.size
  · rw [full_long hs]
    clear h
    go_enter Tryz.func32, Tryz.ntmps32
    go_wp2
    refine bodyPost_ret (v := .tuple #[.slice none 0 0, .agg #[.int .i64 2, .int .i64 0]]) (by simp [results, Tryz.results32, go_sem]) rfl ⟨rfl, (Below.refl _ w).alloc (Nat.le_refl _) _⟩
  · have hs' : s.size ≤ 1048576 := by omega
    rw [full_short hs']
    have HP : Hid (Below w.heap.size w (w.alloc (.cells #[.int .i64 0, .int .i64 0] 27))) := (Below.refl _ w).alloc (Nat.le_refl _) _
    have HB : Hid (IsBytes (w.alloc (.cells #[.int .i64 0, .int .i64 0] 27)) ao s) := h.below HP.out
    have hd : decide ((1048576 : Int) < (s.size : Int)) = false := by simp; omega
    clear h hs
    obtain ⟨R, HR⟩ : ∃ R, Hid (R = sc s 0 0) := ⟨_, rfl⟩
    rw [← HR.out]
    go_enter Tryz.func32, Tryz.ntmps32
    go_wp2_with fail
    refine (tokens_any ao s cap _ HB.out hc (by omega)).mono ?_
    rintro e w1 ⟨hT, hB⟩
    rw [← HR.out] at hT
    have hsz := hB.size
    simp only [World.size_alloc] at hsz hT hB
    have hblk : w1.heap[w.heap.size]? = some (.cells #[.int .i64 0, .int .i64 0] 27 (0, 0)) := (hB.block w.heap.size (by omega)).trans (heap_alloc_new w _)
    have hf0 : w1.cell? ⟨w.heap.size, 0, none⟩ = some (.int .i64 0) := by simp [World.cell?, hblk]
    have hf1 : w1.cell? ⟨w.heap.size, 1, none⟩ = some (.int .i64 0) := by simp [World.cell?, hblk]
    have hfz : ∀ i, w1.frozen? ⟨w.heap.size, i, none⟩ = false := fun i => by simp [World.frozen?, hblk]
    have hfz0 := hfz 0
    have hfz1 := hfz 1
    have HZ : Hid (Below w.heap.size w w1) := HP.out.trans (hB.mono (by omega))
    clear hblk hB
    cases R with
    | ok ts =>
      obtain ⟨v, rfl, hrow⟩ := hT
      have HRow : Hid (TokRow w1 (w.heap.size + 1) v ts) := hrow
      clear hrow
      go_wp2
      refine bodyPost_ret (v := .tuple #[v, .agg #[.int .i64 0, .int .i64 0]]) (by simp [results, Tryz.results32, go_sem, hf0, hf1]) rfl ⟨⟨v, rfl, HRow.out.two (by omega) (by omega)⟩, HZ.out.trans (below_two _ _ _ _)⟩
    | fault er i =>
      have he : e = .returned (.tuple #[.slice none 0 0, .agg #[.int .i64 er, .int .i64 i]]) := hT
      subst he
      clear hT
      go_wp2
      refine bodyPost_ret (v := .tuple #[.slice none 0 0, .agg #[.int .i64 er, .int .i64 i]]) (by simp [results, Tryz.results32, go_sem, hf0, hf1]) rfl ⟨rfl, HZ.out.trans (below_two _ _ _ _)⟩

/-- []byte(s) of a string: bytes of its own -/
theorem bytes_any {T : TypeId} (hT : Tryz.prog.underlying T = some (.slice 5)) (s : ByteArray) (w : World) : ∃ cap w', (convert 9 T (.string s)).run Tryz.prog w = .ok (.slice (some ⟨w.heap.size, 0, none⟩) s.size cap) w' ∧ IsBytes w' (some ⟨w.heap.size, 0, none⟩) s ∧ Below w.heap.size w w' ∧ s.size ≤ cap := by
  have h1 := Lib.run_convert_string_bytes (P := Tryz.prog) w 9 T 5 s Tryz.underlying9 hT Tryz.underlying5
  refine ⟨_, _, h1, fun i hi => ⟨w.heap.size, 0, rfl, by rw [Lib.bytesWorld_size]; omega, ?_⟩, ⟨?_, ?_, ?_, ?_, fun k hk => Lib.bytesWorld_at_old w 5 s k hk⟩, grownCap_ge w s.size 0 5⟩
  · have := Lib.bytesWorld_cell w 5 s i hi
    rw [Nat.zero_add, this, nb_get s i hi]
    have e : s.data.toList[i]? = some s[i] := byte_at s i hi
    simp only [List.getD, e, Option.getD_some]
  · simp [Lib.bytesWorld, World.freeze, World.alloc, World.drew, -World.alloc_eq, -World.drew_eq]
  · simp [Lib.bytesWorld, World.freeze, World.alloc, World.drew, -World.alloc_eq, -World.drew_eq]
  · simp [Lib.bytesWorld, World.freeze, World.alloc, World.drew, -World.alloc_eq, -World.drew_eq]
  · rw [Lib.bytesWorld_size]; omega

/-- s[k] of a string -/
theorem at_any (s : ByteArray) (k : Nat) (K : Int) (hK : K = (k : Int)) (hk : k < s.size) (w : World) : (Instr.index 9 (.string s) (.int .i64 K)).run Tryz.prog w = .ok (.int .u8 (nb s k : Nat)) w := by
  subst hK
  rw [run_index_string w 9 s .i64 (k : Int) Tryz.underlying9, dif_pos ⟨by omega, by omega⟩, nb_get s k hk]
  simp
end Go.Proofs.YtgiilaaoeefpmaaGreat.Lx
