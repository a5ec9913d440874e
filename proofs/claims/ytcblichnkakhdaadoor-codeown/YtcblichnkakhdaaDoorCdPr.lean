import Derived.Test.YtcblichnkakhdaaDoorCdIn2
namespace Go.Proofs.YtcblichnkakhdaaDoor.Cd
open Go.RowKit Go.Proofs.YtcblichnkakhdaaDoor.Nm

/-- a block that the writer leaves as it is -/
structure Kb (W : World) (b k : Nat) (o : Obj) : Prop where
  h : W.heap[k]? = some o
  ne : k ≠ b
  no : ¬ Own W b k
theorem Kb.fo {W W' : World} {b k : Nat} {o : Obj} (h : Kb W b k o) (hf : Fo b W W') : Kb W' b k o := ⟨(hf.block k (blk_lt h.h) h.ne h.no).trans h.h, h.ne, fun e => by
  rcases hf.own _ e with e1 | e1
  · exact h.no e1
  · have := blk_lt h.h; omega⟩
theorem Kb.new {W : World} {b base : Nat} {fs : List Value} {xs : List Nat} (h : Wr W b base fs xs) (o : Obj) : Kb (W.alloc o) b W.heap.size o := ⟨heap_alloc_new _ _, by have := h.blt; omega, fun e => by have := h.own_below ((Below.refl _ W).alloc (Nat.le_refl _) o) e; omega⟩
/-- a list that can be read, in blocks that were there ahead of block m -/
def Rd (W : World) (o : Option Addr) (m : Nat) (xs : List Value) : Prop := ∀ (k : Nat) (x : Value), xs[k]? = some x → ∃ g f, o = some ⟨g, f, none⟩ ∧ g < m ∧ g < W.heap.size ∧ W.cell? ⟨g, f + k, none⟩ = some x
theorem Rd.fo {W W' : World} {b base m : Nat} {o : Option Addr} {ys : List Value} {fs : List Value} {xs : List Nat} (h : Rd W o m ys) (hw : Wr W b base fs xs) (hm : m ≤ b) (hf : Fo b W W') : Rd W' o m ys := fun k x hx => by
  obtain ⟨g, f, e, h1, h2, h3⟩ := h k x hx
  have hb : W'.heap[g]? = W.heap[g]? := hf.block g h2 (by omega) (fun ⟨u, h4, h5⟩ => by
    obtain ⟨v, h6, h7⟩ := hw.ex
    have h8 : W.cell? ⟨b, 0, none⟩ = some v := by simp only [World.cell?, h6]; rfl
    rw [h8] at h4
    cases h4
    have := (World.ownsRow.lt h7 g h5).1
    have := hw.lt
    omega)
  exact ⟨g, f, e, h1, Nat.lt_of_lt_of_le h2 hf.size, (World.cell?_of_block (a := ⟨g, f + k, none⟩) hb).trans h3⟩
theorem Rd.below {W W' : World} {m : Nat} {o : Option Addr} {ys : List Value} (h : Rd W o m ys) (hb : Below W.heap.size W W') : Rd W' o m ys := fun k x hx => by
  obtain ⟨g, f, e, h1, h2, h3⟩ := h k x hx
  exact ⟨g, f, e, h1, Nat.lt_of_lt_of_le h2 hb.size, (hb.cell (p := ⟨g, f + k, none⟩) h2).trans h3⟩
set_option maxHeartbeats 1600000 in
/-- a queue's byte -/
theorem wgh_any {W : World} {b base : Nat} {g : Bool} {fs : List Value} {xs : List Nat} (h : Wr W b base fs xs) (hl : xs.length ≤ 1000000000000) :
    Calls Tryd.prog 64 #[.pointer (some ⟨b, 0, none⟩), .bool g] W fun e W' => e = .returned (.tuple #[]) ∧ Wr W' b base fs (xs ++ [if g then 1 else 0]) ∧ Fo b W W' := by
  cases g
  · have HP : Hid (Calls Tryd.prog 49 #[.pointer (some ⟨b, 0, none⟩), .int .u8 0] W fun e W' => e = .returned (.tuple #[]) ∧ Wr W' b base fs (xs ++ [0]) ∧ Fo b W W') := put_any (x := 0) h hl
    clear h hl
    go_enter Tryd.func64, Tryd.ntmps64
    go_wp2_with fail
    refine Calls.mono HP.out ?_
    rintro e w2 ⟨rfl, hw, hf⟩
    have HE : Hid (Wr w2 b base fs (xs ++ [0]) ∧ Fo b W w2) := ⟨hw, hf⟩
    clear hw hf HP
    go_wp2_with fail
    go_end0
    exact ⟨rfl, HE.out.1, HE.out.2⟩
  · have HP : Hid (Calls Tryd.prog 49 #[.pointer (some ⟨b, 0, none⟩), .int .u8 1] W fun e W' => e = .returned (.tuple #[]) ∧ Wr W' b base fs (xs ++ [1]) ∧ Fo b W W') := put_any (x := 1) h hl
    clear h hl
    go_enter Tryd.func64, Tryd.ntmps64
    go_wp2_with fail
    refine Calls.mono HP.out ?_
    rintro e w2 ⟨rfl, hw, hf⟩
    have HE : Hid (Wr w2 b base fs (xs ++ [1]) ∧ Fo b W w2) := ⟨hw, hf⟩
    clear hw hf HP
    go_wp2_with fail
    go_end0
    exact ⟨rfl, HE.out.1, HE.out.2⟩
/-- a program -/
structure Pr where
  gh : List Bool
  vs : List (Int × Int × Int)
  ts : List Int
  on : List Int
  miss : Int
  cd : List (Nat × (Nat → Int))
def vC (vs : List (Int × Int × Int)) : List Value := vs.flatMap fun x => [.int .i64 x.1, .int .i64 x.2.1, .int .i64 x.2.2]
def iC (l : List Int) : List Value := l.map fun n : Int => .int .i64 n
def bC (l : List Bool) : List Value := l.map fun g : Bool => .bool g
def ghB (l : List Bool) : List Nat := l.map fun g : Bool => if g then 1 else 0
def vsB (l : List (Int × Int × Int)) : List Nat := l.flatMap fun x => numB (sgN x.1) ++ (numB (sgN x.2.1) ++ numB (sgN x.2.2))
def nsB (l : List Int) : List Nat := l.flatMap fun n => numB n.toNat
theorem take_one {α : Type} {l : List α} {j : Nat} (h : j < l.length) : l.take (j + 1) = l.take j ++ [l[j]] := by
  rw [List.take_add_one, List.getElem?_eq_getElem h]
  rfl
theorem ghB_take {l : List Bool} {j : Nat} (h : j < l.length) : ghB (l.take (j + 1)) = ghB (l.take j) ++ [if l[j] then 1 else 0] := by
  rw [take_one h]
  unfold ghB
  rw [List.map_append]
  rfl
theorem vsB_take {l : List (Int × Int × Int)} {j : Nat} (h : j < l.length) : vsB (l.take (j + 1)) = vsB (l.take j) ++ (numB (sgN l[j].1) ++ (numB (sgN l[j].2.1) ++ numB (sgN l[j].2.2))) := by
  rw [take_one h]
  unfold vsB
  rw [List.flatMap_append, List.flatMap_singleton]
theorem nsB_take {l : List Int} {j : Nat} (h : j < l.length) : nsB (l.take (j + 1)) = nsB (l.take j) ++ numB l[j].toNat := by
  rw [take_one h]
  unfold nsB
  rw [List.flatMap_append, List.flatMap_singleton]
end Go.Proofs.YtcblichnkakhdaaDoor.Cd
