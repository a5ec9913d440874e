import Derived.Test.YtjcbpejplnaakaaGreatMdHead
namespace Go.Proofs.YtjcbpejplnaakaaGreat.Md
open Go.RowKit Go.Maps Go.Proofs.YtjcbpejplnaakaaGreat.Nm

/-- a number from 0 to n - 1 -/
def wtn (a : Int) (n : Nat) : Nat := if a.tmod n < 0 then (a.tmod n + n).toNat else (a.tmod n).toNat
theorem wtn_lt (a : Int) {n : Nat} (hn : 0 < n) : wtn a n < n := by
  have h1 := Int.tmod_lt_of_pos a (show (0 : Int) < n by omega)
  have h2 := Int.lt_tmod_of_pos a (show (0 : Int) < n by omega)
  unfold wtn
  split <;> omega
set_option maxHeartbeats 1600000 in
theorem wtn_any (a : Int) (n : Nat) (hn : 0 < n) (hn2 : n ≤ 17592186043904) (w : World) : Calls Tryz.prog 27 #[.int .i64 a, .int .i64 (n : Int)] w fun r w' => r = .returned (.int .i64 (wtn a n : Nat)) ∧ w' = w := by
  have h1 := Int.tmod_lt_of_pos a (show (0 : Int) < n by omega)
  have h2 := Int.lt_tmod_of_pos a (show (0 : Int) < n by omega)
  have hw : IntKind.i64.wrap (a.tmod n) = a.tmod n := by
    rw [IntKind.wrap_i64]
    generalize a.tmod n = z at *
    omega
  have h3 : ((n : Int) == 0) = false := by simp; omega
  have h4 : (n : Int) ≤ 17592186043904 := by omega
  by_cases h0 : a.tmod n < 0
  · have HR : Hid (wtn a n = (a.tmod n + n).toNat) := by show _ = _; unfold wtn; rw [if_pos h0]
    go_enter Tryz.func27, Tryz.ntmps27
    go_wp2
    go_ret
    exact ⟨by rw [HR.out, Int.toNat_of_nonneg (by omega)]; rfl, rfl⟩
  · have h5 : decide (a.tmod n < 0) = false := by simp; omega
    have HR : Hid (wtn a n = (a.tmod n).toNat) := by show _ = _; unfold wtn; rw [if_neg h0]
    go_enter Tryz.func27, Tryz.ntmps27
    go_wp2
    go_ret
    exact ⟨by rw [HR.out, Int.toNat_of_nonneg (by omega)]; rfl, rfl⟩

/-- the keys of an LRU, those of one that is one greater -/
def Inc (z : Nat) (ks ms : List Nat) : Prop := (ms = ks ∧ ks.length ≤ z) ∨ ∃ x, ms = ks ++ [x] ∧ ks.length = z
theorem Inc.pre {z : Nat} {ks ms : List Nat} (h : Inc z ks ms) : ∃ r, ms = ks ++ r ∧ r.length ≤ 1 ∧ ks.length ≤ z ∧ ms.length ≤ z + 1 := by
  rcases h with ⟨rfl, h⟩ | ⟨x, rfl, h⟩
  · exact ⟨[], by simp, by simp, h, by omega⟩
  · exact ⟨[x], rfl, by simp, by omega, by simp; omega⟩
theorem Inc.sub {z k : Nat} {ks ms : List Nat} (h : Inc z ks ms) (hk : k ∈ ks) : k ∈ ms := by
  obtain ⟨r, rfl, _⟩ := h.pre
  exact List.mem_append_left _ hk
theorem drop_last {z : Nat} {ks : List Nat} (h : ks.length = z) (hz : 0 < z) : ∃ l y, ks = l ++ [y] ∧ ks.dropLast = l ∧ l.length + 1 = z := by
  have hne : ks ≠ [] := by rintro rfl; simp at h; omega
  refine ⟨ks.dropLast, ks.getLast hne, (List.dropLast_concat_getLast _).symm, rfl, ?_⟩
  rw [List.length_dropLast]
  omega
theorem Inc.next {z k : Nat} {ks ms : List Nat} (h : Inc z ks ms) (hz : 0 < z) (hd : ms.Nodup) : Inc z (lruNext z ks k) (lruNext (z + 1) ms k) := by
  have er : ∀ l : List Nat, k ∈ l → (k :: l.erase k).length = l.length := fun l hl => by
    have := List.length_erase_of_mem hl
    have := List.length_pos_of_mem hl
    simp only [List.length_cons]
    omega
  rcases h with ⟨rfl, hl⟩ | ⟨x, rfl, hl⟩
  · by_cases hk : k ∈ ms
    · left
      unfold lruNext
      rw [if_pos hk, if_pos hk]
      exact ⟨rfl, by rw [er ms hk]; exact hl⟩
    · unfold lruNext
      rw [if_neg hk, if_neg hk, if_neg (show ms.length ≠ z + 1 by omega)]
      by_cases hf : ms.length = z
      · rw [if_pos hf]
        obtain ⟨l, y, e1, e2, e3⟩ := drop_last hf hz
        right
        refine ⟨y, ?_, ?_⟩
        · rw [e2, e1]; rfl
        · rw [e2]; simp; omega
      · rw [if_neg hf]
        left
        exact ⟨rfl, by simp; omega⟩
  · by_cases hk : k ∈ ks
    · right
      unfold lruNext
      rw [if_pos hk, if_pos (List.mem_append_left _ hk), List.erase_append_left _ hk]
      exact ⟨x, rfl, by rw [er ks hk]; exact hl⟩
    · obtain ⟨l, y, e1, e2, e3⟩ := drop_last hl hz
      have ea : lruNext z ks k = k :: l := by unfold lruNext; rw [if_neg hk, if_pos hl, e2]
      rw [ea]
      right
      refine ⟨y, ?_, by simp; omega⟩
      by_cases hx : k = x
      · subst hx
        unfold lruNext
        rw [if_pos (by simp), List.erase_append_right _ hk]
        simp [e1]
      · have hm : k ∉ ks ++ [x] := by simp [hk, hx]
        unfold lruNext
        rw [if_neg hm, if_pos (by simp; omega), List.dropLast_concat, e1]
        rfl
/-- keys that are handed in -/
def KIn (W : World) (a : Option Addr) (l : List Nat) : Prop := ∀ (j : Nat) (x : Nat), l[j]? = some x → ∃ b off, a = some ⟨b, off, none⟩ ∧ b < W.heap.size ∧ W.cell? ⟨b, off + j, none⟩ = some (U x)
theorem KIn.below {w w' : World} {a : Option Addr} {l : List Nat} (h : KIn w a l) (hb : Below w.heap.size w w') : KIn w' a l := fun j x hx => by
  obtain ⟨b, off, h1, h2, h3⟩ := h j x hx
  exact ⟨b, off, h1, Nat.lt_of_lt_of_le h2 hb.size, (cell_blk (hb.block b h2) _).trans h3⟩
theorem KRd.take {w : World} {b : Option Addr} {c : Nat} {l r : List Nat} (h : KRd w (.slice b (l ++ r).length c) (l ++ r)) : KRd w (.slice b l.length c) l := by
  obtain ⟨b', c', e, h2⟩ := h
  cases e
  exact ⟨b, c, rfl, fun j x hx => h2 j x (by rw [List.getElem?_append_left (List.getElem?_eq_some_iff.1 hx).1]; exact hx)⟩
theorem nAcc (g : Nat) (w : World) : (nilAhead 247 46 (.pointer (some ⟨g, 0, none⟩)) "Access").run Tryz.prog w = .ok (some false) w := by kernel_rfl
end Go.Proofs.YtjcbpejplnaakaaGreat.Md
