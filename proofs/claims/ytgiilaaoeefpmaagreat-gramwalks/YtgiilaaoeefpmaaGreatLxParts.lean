import Derived.Test.YtgiilaaoeefpmaaGreatLxScan
import Derived.Test.YtgiilaaoeefpmaaGreatLxToks
namespace Go.Proofs.YtgiilaaoeefpmaaGreat.Lx
open Go.RowKit Go.Proofs.YtgiilaaoeefpmaaGreat.Sp

/-- what Scan tells, in parts -/
def tsOf : Res → List Tok
  | .ok ts => ts
  | .fault _ _ => []
def erOf : Res → Nat
  | .ok _ => 0
  | .fault er _ => er
def atOf : Res → Nat
  | .ok _ => 0
  | .fault _ i => i
theorem Told.parts {R : Res} {base : Nat} {w' : World} {e : Ending} (h : Told R base w' e) : ∃ bo bc, e = .returned (.tuple #[.slice bo (tsOf R).length bc, .agg #[.int .i64 (erOf R : Nat), .int .i64 (atOf R : Nat)]]) ∧ TokRow w' base (.slice bo (tsOf R).length bc) (tsOf R) := by
  cases R with
  | ok ts =>
    obtain ⟨v, rfl, hrow⟩ := h
    obtain ⟨bo, bc, rfl⟩ := hrow.form
    exact ⟨bo, bc, rfl, hrow⟩
  | fault er i =>
    have he : e = .returned (.tuple #[.slice none 0 0, .agg #[.int .i64 er, .int .i64 i]]) := h
    subst he
    exact ⟨none, 0, rfl, World.ownsRow_nil _ _ _ _⟩
theorem sc_len (s : ByteArray) : (tsOf (full s)).length ≤ 65537 := by
  cases h : full s with
  | fault => simp [tsOf]
  | ok ts =>
    unfold full at h
    split at h
    · cases h
    · have := count s.size (tx s) 0 0 ts (by rw [tx_len]; exact Nat.le_refl _) (by omega) (by simpa [sc] using h)
      simp only [tsOf]
      omega

theorem scan_parts (ao : Option Addr) (s : ByteArray) (cap : Nat) (w : World) (h : IsBytes w ao s) (hc : s.size ≤ cap) :
    Calls Tryz.prog 32 #[.slice ao s.size cap] w fun e w' => (∃ bo bc, e = .returned (.tuple #[.slice bo (tsOf (full s)).length bc, .agg #[.int .i64 (erOf (full s) : Nat), .int .i64 (atOf (full s) : Nat)]]) ∧ TokRow w' w.heap.size (.slice bo (tsOf (full s)).length bc) (tsOf (full s))) ∧ Below w.heap.size w w' :=
  (scan_any ao s cap w h hc).mono fun _ _ ⟨h1, h2⟩ => ⟨h1.parts, h2⟩
theorem scan_at (ao : Option Addr) (s : ByteArray) (n cap : Nat) (w : World) (hn : n = s.size) (h : IsBytes w ao s) (hc : s.size ≤ cap) :
    Calls Tryz.prog 32 #[.slice ao n cap] w fun e w' => (∃ bo bc, e = .returned (.tuple #[.slice bo (tsOf (full s)).length bc, .agg #[.int .i64 (erOf (full s) : Nat), .int .i64 (atOf (full s) : Nat)]]) ∧ TokRow w' w.heap.size (.slice bo (tsOf (full s)).length bc) (tsOf (full s))) ∧ Below w.heap.size w w' := by
  subst hn; exact scan_parts ao s cap w h hc

theorem TokRow.read {w : World} {base : Nat} {bo : Option Addr} {n bc : Nat} {ts : List Tok} (h : TokRow w base (.slice bo n bc) ts) : IsToks w bo ts := by
  obtain ⟨ao, cap, e, h1, _⟩ := h.toks
  cases e
  exact h1
end Go.Proofs.YtgiilaaoeefpmaaGreat.Lx
