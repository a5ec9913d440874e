import Derived.Test.YtkekmmomdhdegaaIxMem
import Derived.ProofKit
import Derived.OpenShut
import Derived.ChangeOld
import Derived.Below
import Derived.JoinedCond
import Derived.SizedLaws
import Derived.ChangeMaps5
import Derived.Deep.Slices
import Derived.ChangeSame
namespace Go.Proofs.Ytkekmmomdhdegaa.Ix
open Go.ChangeShapes Go.WideShapes Go.ChangeAt Go.RowKit Go.Deep

theorem own : ownKnob Try.prog.godebug = none := by kernel_rfl
theorem laidOut : laidOutB Try.prog = true := by kernel_rfl
theorem bytes38 : Try.prog.bytesOf 38 = 24 := by kernel_rfl
theorem cells38 : Try.prog.cellsOf 38 = 3 := by kernel_rfl
theorem cells3 : Try.prog.cellsOf 3 = 1 := by kernel_rfl
theorem cells22 : Try.prog.cellsOf 22 = 1 := by kernel_rfl
/-- a step of a script -/
structure St where
  k : Int
  n : Int
  key : Nat
  lt : key < 18446744073709551616
/-- a script in memory -/
def IsSt (W : World) (ao : Option Addr) (l : List St) : Prop := ∀ (i : Nat) (r : St), l[i]? = some r → ∃ b off, ao = some ⟨b, off, none⟩ ∧ b < W.heap.size ∧
  W.cell? ⟨b, off + i * 3, none⟩ = some (I r.k) ∧ W.cell? ⟨b, off + i * 3 + 1, none⟩ = some (I r.n) ∧ W.cell? ⟨b, off + i * 3 + 2, none⟩ = some (U r.key)
theorem IsSt.below {W W' : World} {ao : Option Addr} {l : List St} {n : Nat} (h : IsSt W ao l) (hb : Below n W W') (hn : W.heap.size ≤ n) : IsSt W' ao l := fun i r hr => by
  obtain ⟨b, off, h1, h2, h3, h4, h5⟩ := h i r hr
  have e : ∀ j, W'.cell? ⟨b, j, none⟩ = W.cell? ⟨b, j, none⟩ := fun j => World.cell?_of_block (a := ⟨b, j, none⟩) (hb.block b (by omega))
  exact ⟨b, off, h1, Nat.lt_of_lt_of_le h2 hb.size, (e _).trans h3, (e _).trans h4, (e _).trans h5⟩
def dz {H : Type} (r : St) : DataW H := .agg [.lit (.int .i64 r.k), .lit (.int .i64 r.n), .lit (.int .u64 r.key)]
theorem three {α : Type} {l : List α} (h : l.length = 3) : ∃ a b c, l = [a, b, c] := by
  match l, h with
  | [a, b, c], _ => exact ⟨a, b, c, rfl⟩
theorem u64_nat {n : Int} (h : (Lit.int .u64 n).wf = true) : ∃ k : Nat, n = k ∧ k < 18446744073709551616 := by
  simp [Lit.wf, IntKind.min, IntKind.max, IntKind.bits, IntKind.signed] at h
  exact ⟨n.toNat, by omega, by omega⟩
theorem open_one {H : Type} {enc : TypeId × Value → H} {W : World} {base n : Nat} {sp : Nat → Bool} {hd : Bool} {cs : List Value} {d : DataW H} {pl : List MemPlace} (h : DataW.trod enc Try.prog W base sp hd n 38 cs = some (d, pl)) :
    ∃ r : St, cs = [.int .i64 r.k, .int .i64 r.n, .int .u64 r.key] ∧ d = dz r := by
  obtain ⟨xs, k, hk, hxy, hl, hxl, hf⟩ := DataW.trod_struct Try.underlying38 h
  rw [cells38] at hl
  have hxl4 : xs.length = 3 := hxl
  obtain ⟨y0, y1, y2, rfl⟩ := three hxl4
  obtain ⟨v0, v1, v2, rfl⟩ := three hl
  have g0 := hf 0 _ rfl
  have g1 := hf 1 _ rfl
  have g2 := hf 2 _ rfl
  simp [cells3, cells22] at g0 g1 g2
  obtain ⟨a0, e0, f0, _⟩ := DataW.trod_int Try.underlying3 g0
  obtain ⟨a1, e1, f1, _⟩ := DataW.trod_int Try.underlying3 g1
  obtain ⟨a2, e2, f2, wf⟩ := DataW.trod_int Try.underlying22 g2
  obtain ⟨key, rfl, hkey⟩ := u64_nat wf
  simp only [List.cons.injEq, and_true] at e0 e1 e2
  subst e0 e1 e2 f0 f1 f2
  simp only [Prod.mk.injEq] at hxy
  exact ⟨⟨a0, a1, key, hkey⟩, rfl, by simpa [dz] using hxy.1⟩
theorem open_steps {H : Type} {enc : TypeId × Value → H} {W : World} {a : Option Addr} {len cap : Nat} {d : DataW H} {p : List MemPlace} (h : DataW.Trod enc Try.prog W 0 (fun _ => true) true 36 (.slice a len cap) d p) :
    ∃ l : List St, l.length = len ∧ IsSt W a l ∧ (l = [] ∨ ∃ sp, d = .slice (l.map dz) sp) := by
  obtain ⟨fuel, hf⟩ := h
  rcases open_slice Try.underlying36 hf with ⟨hcs, _⟩ | ⟨x, l, c, m, n, D, Pl, hcs, _, hl, hm, hmm, hx, hcell⟩
  · simp [Value.cells] at hcs
    obtain ⟨rfl, rfl, rfl⟩ := hcs
    exact ⟨[], rfl, fun i x hx => (by simp at hx), Or.inl rfl⟩
  · simp [Value.cells] at hcs
    obtain ⟨rfl, rfl, rfl⟩ := hcs
    simp only [if_true] at hmm
    subst hmm
    simp only [Prod.mk.injEq] at hx
    have each : ∀ i, i < len → ∃ r : St, W.cells? 0 (x.add (i * 3)) 3 = some [.int .i64 r.k, .int .i64 r.n, .int .u64 r.key] ∧ D i = dz r := by
      intro i hi
      obtain ⟨cs', h1, h2⟩ := hcell i (by omega)
      obtain ⟨r, rfl, h4⟩ := open_one h2
      rw [cells38] at h1
      exact ⟨r, h1, h4⟩
    haveI : Inhabited St := ⟨⟨0, 0, 0, by omega⟩⟩
    obtain ⟨q, hq⟩ := choose_lt each
    refine ⟨(List.range len).map q, by simp, fun i r hr => ?_, Or.inr ⟨(List.range (m - len)).map fun j => D (len + j), ?_⟩⟩
    · have hi : i < len := by
        have := (List.getElem?_eq_some_iff.1 hr).1
        simpa using this
      have hri : q i = r := by simpa [hi] using hr
      obtain ⟨h1, _⟩ := hq i hi
      rw [hri] at h1
      obtain ⟨_, hlen, hc⟩ := World.cells?_some h1
      have e0 := hc 0 (by omega)
      have e1 := hc 1 (by omega)
      have e2 := hc 2 (by omega)
      rw [add_add] at e0 e1 e2
      simp at e0 e1 e2
      obtain ⟨b, off, spot⟩ := x
      have hspot : spot = none := by
        obtain ⟨g1, _⟩ := hq 0 (by omega)
        obtain ⟨_, _, gc⟩ := World.cells?_some g1
        have g0 := gc 0 (by omega)
        simp [Addr.add] at g0
        simpa [Addr.add] using World.cell?_spot g0
      subst hspot
      rw [Lib.addr_add] at e0 e1 e2
      refine ⟨b, off, rfl, World.block_lt_of_cell? W _ e0, e0, ?_, ?_⟩
      · rw [Nat.add_assoc]; exact e1
      · rw [Nat.add_assoc]; exact e2
    · rw [hx.1]
      congr 1
      rw [List.map_map]
      exact List.map_congr_left fun i hi => (hq i (List.mem_range.1 hi)).2
theorem steps_reach {H : Type} {ts : List TypeId} {ds : List (DataW H)} (hsz : (DataW.weightsEach Try.prog ts ds).all (· ≤ reachBytes) = true) {j : Nat} {l : List St} {d : DataW H} (ht : ts[j]? = some 36) (hd : ds[j]? = some d) (h : l = [] ∨ ∃ sp, d = .slice (l.map dz) sp) :
    l.length ≤ 11728124029610 := by
  rcases h with rfl | ⟨sp, rfl⟩
  · simp
  · have := sized_slice hsz ht hd Try.underlying36
    rw [bytes38] at this
    simp only [reachBytes, List.length_map] at this
    omega
end Go.Proofs.Ytkekmmomdhdegaa.Ix
