import Derived.Test.YtenhjebiokegkaaLxBytes
import Derived.Laws.IdiomStrings
import Derived.Lib.ConvBytes
namespace Go.Proofs.Ytenhjebiokegkaa.Lx
open Go.RowKit Go.Proofs.Ytenhjebiokegkaa.Sp
/-- []byte(s) of a string: bytes of its own -/
theorem bytes_any {T : TypeId} (hT : Try.prog.underlying T = some (.slice 5)) (s : ByteArray) (w : World) : ∃ cap w', (convert 9 T (.string s)).run Try.prog w = .ok (.slice (some ⟨w.heap.size, 0, none⟩) s.size cap) w' ∧ IsBytes w' (some ⟨w.heap.size, 0, none⟩) s ∧ Below w.heap.size w w' ∧ s.size ≤ cap := by
  have h1 := Lib.run_convert_string_bytes (P := Try.prog) w 9 T 5 s Try.underlying9 hT Try.underlying5
  refine ⟨_, _, h1, fun i hi => ⟨w.heap.size, 0, rfl, by rw [Lib.bytesWorld_size]; omega, ?_⟩, ⟨?_, ?_, ?_, ?_, fun k hk => Lib.bytesWorld_at_old w 5 s k hk⟩, grownCap_ge w s.size 0 5⟩
  · have := Lib.bytesWorld_cell w 5 s i hi
    rw [Nat.zero_add, this, nb_get s i hi]
    have e : s.data.toList[i]? = some s[i] := byte_at s i hi
    simp only [List.getD, e, Option.getD_some]
  · simp [Lib.bytesWorld, World.freeze, World.alloc, World.drew, -World.alloc_eq, -World.drew_eq]
  · simp [Lib.bytesWorld, World.freeze, World.alloc, World.drew, -World.alloc_eq, -World.drew_eq]
  · simp [Lib.bytesWorld, World.freeze, World.alloc, World.drew, -World.alloc_eq, -World.drew_eq]
  · rw [Lib.bytesWorld_size]; omega

/-- s[k] of a string -/
theorem at_any (s : ByteArray) (k : Nat) (K : Int) (hK : K = (k : Int)) (hk : k < s.size) (w : World) : (Instr.index 9 (.string s) (.int .i64 K)).run Try.prog w = .ok (.int .u8 (nb s k : Nat)) w := by
  subst hK
  rw [run_index_string w 9 s .i64 (k : Int) Try.underlying9, dif_pos ⟨by omega, by omega⟩, nb_get s k hk]
  simp
end Go.Proofs.Ytenhjebiokegkaa.Lx
