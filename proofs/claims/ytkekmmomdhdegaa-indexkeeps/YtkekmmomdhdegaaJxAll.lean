import Derived.Test.YtkekmmomdhdegaaJxTaken
import Derived.Test.YtkekmmomdhdegaaShelf
namespace Go.Proofs.Ytkekmmomdhdegaa.Ij
open Go.RowKit Go.Proofs.Ytkekmmomdhdegaa.Ix Go.Sort Go.Shelf

def cmpN (x y : Nat) : Int := if x < y then -1 else if y < x then 1 else 0
set_option maxHeartbeats 800000 in
theorem compare_any (x y : Nat) (w : World) : Calls Try.prog 50 #[U x, U y] w fun e w' => e = .returned (I (cmpN x y)) ∧ w' = w := by
  have HN : Hid (∀ (z : Nat) (u : World), Calls Try.prog 67 #[U z] u fun e w' => e = .returned (.bool false) ∧ w' = u) := by
    intro z u
    go_enter Try.func67, Try.ntmps67
    go_wp2
    go_ret
    exact ⟨by simp, rfl⟩
  unfold cmpN
  by_cases h1 : x < y
  · rw [if_pos h1]
    have h2 : (x : Int) < (y : Int) := by omega
    clear h1
    go_enter Try.func50, Try.ntmps50
    go_wp2_with fail
    refine Calls.mono (HN.out x w) ?_
    rintro e w1 ⟨rfl, rfl⟩
    go_wp2_with fail
    refine Calls.mono (HN.out y w1) ?_
    rintro e w2 ⟨rfl, rfl⟩
    go_wp2
    go_ret
    exact ⟨rfl, rfl⟩
  · rw [if_neg h1]
    have h2 : ¬ (x : Int) < (y : Int) := by omega
    clear h1
    by_cases h3 : y < x
    · rw [if_pos h3]
      have h4 : (y : Int) < (x : Int) := by omega
      clear h3
      go_enter Try.func50, Try.ntmps50
      go_wp2_with fail
      refine Calls.mono (HN.out x w) ?_
      rintro e w1 ⟨rfl, rfl⟩
      go_wp2_with fail
      refine Calls.mono (HN.out y w1) ?_
      rintro e w2 ⟨rfl, rfl⟩
      go_wp2
      go_ret
      exact ⟨rfl, rfl⟩
    · rw [if_neg h3]
      have h4 : ¬ (y : Int) < (x : Int) := by omega
      clear h3
      go_enter Try.func50, Try.ntmps50
      go_wp2_with fail
      refine Calls.mono (HN.out x w) ?_
      rintro e w1 ⟨rfl, rfl⟩
      go_wp2_with fail
      refine Calls.mono (HN.out y w1) ?_
      rintro e w2 ⟨rfl, rfl⟩
      go_wp2
      go_ret
      exact ⟨rfl, rfl⟩
def cf (x y : Nat × El) : Int := cmpN x.1 y.1
theorem lt_cf (x y : Nat × El) : ltOf cf x y = decide (x.1 < y.1) := by
  unfold ltOf cf cmpN
  by_cases h1 : x.1 < y.1
  · simp [h1]
  · by_cases h2 : y.1 < x.1 <;> simp [h1, h2]
theorem swo_cf : SWO (ltOf cf) where
  irrefl x := by rw [lt_cf]; simp
  trans x y z h1 h2 := by rw [lt_cf] at *; simp at *; omega
  ntrans x y z h1 h2 := by rw [lt_cf] at *; simp at *; omega
set_option maxHeartbeats 1000000 in
theorem cmp_lays (x y : Nat × El) (W : World) : Calls Try.prog 64 #[.agg #[U x.1, ev x.2, .bool true], .agg #[U y.1, ev y.2, .bool true]] W fun e w' => e = .returned (.int .i64 (cf x y)) ∧ ∃ q os', w' = grow (W.drewN q) os' := by
  have HC := show Hid _ from fun W' => compare_any x.1 y.1 W'
  unfold cf
  go_enter Try.func64, Try.ntmps64
  go_wp2_with fail
  refine Calls.mono (HC.out _) ?_
  rintro e w' ⟨rfl, rfl⟩
  go_wp2
  go_ret
  exact ⟨rfl, 0, _, by rw [alloc_eq_grow, alloc_eq_grow, grow_grow]; rfl⟩

theorem cellsOf_get : ∀ {l : List (Nat × El)} {i c : Nat} {x : Nat × El}, l[i]? = some x → c < 3 → (cellsOf l)[i * 3 + c]? = (encS x)[c]?
  | [], i, c, x, h, _ => by simp at h
  | y :: l, 0, c, x, h, hc => by
    simp at h
    subst h
    simp only [cellsOf, List.flatMap_cons]
    rw [List.getElem?_append_left (by simp [encS]; omega)]
    simp
  | y :: l, i + 1, c, x, h, hc => by
    simp only [cellsOf, List.flatMap_cons]
    rw [List.getElem?_append_right (by simp [encS]; omega)]
    have := cellsOf_get (l := l) (i := i) (c := c) (x := x) (by simpa using h) hc
    rw [← this]
    congr 1
    simp [encS]
    omega
/-- a row of what was taken, as the sort reads it -/
theorem holds_of {W : World} {base gb c : Nat} {l : List (Nat × El)} (h : W.ownsRow base 90 3 (.slice (some ⟨gb, 0, none⟩) l.length c) l.length (cellsOf l)) : HoldsK encS 3 W gb 0 l.toArray ∧ gb < W.heap.size ∧ base ≤ gb := by
  rcases h.2 with ⟨h0, _⟩ | ⟨g, cap, cur, e, hb, hg, hn, hm, hs, ht⟩
  · cases h0
  · cases e
    have hlt := (Array.getElem?_eq_some_iff.1 hg).1
    refine ⟨fun t ht' => ?_, hlt, hb⟩
    rw [size_flatK] at ht'
    simp only [List.size_toArray] at ht'
    rw [get_flatK _ _ _ _ (by simpa using ht')]
    have hi : t / 3 < l.length := by omega
    have hx : l[t / 3]? = some l[t / 3] := List.getElem?_eq_getElem hi
    have hc := cellsOf_get hx (show t % 3 < 3 by omega)
    rw [show t / 3 * 3 + t % 3 = t by omega, ← ht, List.getElem?_take, if_pos ht'] at hc
    have e1 : l.toArray[t / 3]! = l[t / 3] := by simp [hi]
    rw [e1]
    refine ⟨?_, by simp [World.frozen?, hg]⟩
    have e2 : (encS l[t / 3])[t % 3]? = some (encS l[t / 3])[t % 3]! := by
      have : t % 3 < (encS l[t / 3]).length := by simp [encS]; omega
      rw [List.getElem?_eq_getElem this, List.getElem!_eq_getElem?_getD, List.getElem?_eq_getElem this]
      rfl
    rw [e2, Array.getElem?_toList] at hc
    simp [World.cell?, hg, hc]
/-- what the sort leaves -/
theorem sorted_world {W W' : World} {gb n : Nat} {d d' : Array (Nat × El)} {os : Array Obj} (hH : HoldsK encS 3 W gb 0 d) (hs : d'.size = d.size) (hb : gb < W.heap.size) (hw : W' = sortWorldK encS 3 W gb 0 n d' os) : Fr [gb] W W' ∧ HoldsK encS 3 W' gb 0 d' := by
  subst hw
  unfold sortWorldK
  have h1 : HoldsK encS 3 (Sort.ahead W n) gb 0 d := holdsK_ahead encS 3 W n gb 0 d hH
  have h2 := holdsK_putRowK encS 3 (Sort.ahead W n) gb 0 d d' h1 hs
  refine ⟨⟨rfl, rfl, rfl, ?_, fun k hk hn => ?_⟩, holdsK_grow encS 3 _ os gb 0 d' ?_ h2⟩
  · simp [grow, putRowK, putRow, mapBlock, Sort.ahead]
  · show ((W.heap.modify gb _) ++ os)[k]? = W.heap[k]?
    rw [Array.getElem?_append_left (by simpa using hk), Array.getElem?_modify, if_neg (fun e => hn (by simp [e]))]
  · simp [putRowK, putRow, mapBlock, Sort.ahead]
    exact hb
/-- a sequence in memory: the box of its slice, the row's block -/
structure Sqv where
  A : Nat
  R : Nat
  c : Nat
def Sqv.S (q : Sqv) : List Nat := [q.A, q.R]
def clo (q : Sqv) : Value := .func (.func 65) #[] #[.pointer (some ⟨q.A, 0, none⟩)]
structure Sq (w : World) (q : Sqv) (l : List (Nat × El)) : Prop where
  cA : w.cell? ⟨q.A, 0, none⟩ = some (.slice (some ⟨q.R, 0, none⟩) l.length q.c)
  lt : ∀ k ∈ q.S, k < w.heap.size
  at_ : ∀ (i : Nat) (x : Nat × El), l[i]? = some x → w.cell? ⟨q.R, i * 3, none⟩ = some (U x.1) ∧ w.cell? ⟨q.R, i * 3 + 1, none⟩ = some (ev x.2)
  len : l.length ≤ 4194304
  kl : ∀ x ∈ l, x.1 < 18446744073709551616
def Kq (S : List Nat) (U V : World) : Prop := U.heap.size ≤ V.heap.size ∧ ∀ k ∈ S, V.heap[k]? = U.heap[k]?
theorem Kq.refl (S : List Nat) (U : World) : Kq S U U := ⟨Nat.le_refl _, fun _ _ => rfl⟩
theorem Kq.trans {S : List Nat} {U V X : World} (h : Kq S U V) (k : Kq S V X) : Kq S U X := ⟨Nat.le_trans h.1 k.1, fun i hi => (k.2 i hi).trans (h.2 i hi)⟩
theorem Kq.below {S : List Nat} {U V : World} {n : Nat} (h : Below n U V) (hS : ∀ k ∈ S, k < n) : Kq S U V := ⟨h.size, fun k hk => h.block k (hS k hk)⟩
theorem Sq.keep {w w' : World} {q : Sqv} {l : List (Nat × El)} (h : Sq w q l) (k : Kq q.S w w') : Sq w' q l := by
  have eA : ∀ j, w'.cell? ⟨q.A, j, none⟩ = w.cell? ⟨q.A, j, none⟩ := fun j => World.cell?_of_block (a := ⟨q.A, j, none⟩) (k.2 _ (by simp [Sqv.S]))
  have eR : ∀ j, w'.cell? ⟨q.R, j, none⟩ = w.cell? ⟨q.R, j, none⟩ := fun j => World.cell?_of_block (a := ⟨q.R, j, none⟩) (k.2 _ (by simp [Sqv.S]))
  exact ⟨(eA _).trans h.cA, fun i hi => Nat.lt_of_lt_of_le (h.lt i hi) k.1, fun i x hx => ⟨(eR _).trans (h.at_ i x hx).1, (eR _).trans (h.at_ i x hx).2⟩, h.len, h.kl⟩
theorem Sq.below {w w' : World} {q : Sqv} {l : List (Nat × El)} (h : Sq w q l) (hb : Below w.heap.size w w') : Sq w' q l := h.keep (Kq.below hb h.lt)

theorem sorted_list {l : List (Nat × El)} {d' : Array (Nat × El)} (hp : PermIn 0 l.toArray.size l.toArray d') (hs : SortedIn (ltOf cf) 0 l.toArray.size d') : d'.size = l.length ∧ d'.toList.Perm l ∧ d'.toList.Pairwise fun x y => x.1 ≤ y.1 := by
  obtain ⟨h1, _, h3⟩ := hp
  have hsz : d'.size = l.length := by simpa using h1
  refine ⟨hsz, ?_, ?_⟩
  · have e1 : d'.extract 0 l.toArray.size = d' := by rw [← h1]; simp
    have e2 : l.toArray.extract 0 l.toArray.size = l.toArray := by simp
    rw [e1, e2] at h3
    simpa using h3
  · rw [List.pairwise_iff_getElem]
    intro i j hi hj hij
    have hi' : i < d'.size := by simpa using hi
    have hj' : j < d'.size := by simpa using hj
    have := hs i j (Nat.zero_le _) hij (by simpa [hsz] using hj')
    rw [lt_cf, getElem!_pos d' j hj', getElem!_pos d' i hi'] at this
    simp at this
    simpa using this
set_option maxHeartbeats 1600000 in
set_option maxRecDepth 100000 in
theorem all_seq {w : World} {g : Nat} {o : Lo} {a : Ix El} (h : IsIx w g o a) : Calls Try.prog 44 #[.pointer (some ⟨g, 0, none⟩)] w fun e w' => ∃ q l, e = .returned (clo q) ∧ Sq w' q l ∧ IsAll a l ∧ Below w.heap.size w w' ∧ ∀ k ∈ q.S, w.heap.size ≤ k ∧ ∃ cs T f, w'.heap[k]? = some (.cells cs T f) := by
  have HT := show Hid _ from taken_any h
  have HK : Hid (Ok a) := h.2
  have hc8 : (en a.t a.n).length ≤ 4194304 := by
    rw [h.2.card]
    have := h.2.cnt
    have := h.2.most
    have := Nat.pow_le_pow_right (n := 2) (by omega) h.2.b
    omega
  have eg : ∀ args w, (callFunc 64 args).run Try.prog w = .ok (.enter 64 args) w := enters_of Try.func64 (by kernel_rfl) rfl
  have hS := fun (blk cap : Nat) (W : World) (hH : HoldsK encS 3 W blk 0 (en a.t a.n).toArray) (hb : blk < W.heap.size) => AnyQ.slices_SortFunc Try.sortJ 3 Try.isAgg90 Try.sizeOf90 encS (fun _ => rfl) (fun x v hv => by simp [encS] at hv; rcases hv with rfl | rfl | rfl <;> rfl) cf swo_cf 64 #[] blk 0 cap (en a.t a.n).toArray W eg (fun _ _ _ _ x y => cmp_lays x y _) hH hb (by simp; omega)
  change ∀ (blk cap : Nat) (W : World) (hH : HoldsK encS 3 W blk 0 (en a.t a.n).toArray) (hb : blk < W.heap.size), Calls Try.prog 63 _ _ _ at hS
  have HS := show Hid _ from hS
  clear h hS eg
  go_enter Try.func44, Try.ntmps44
  go_wp2_with fail
  refine Calls.mono HT.out ?_
  rintro e w1 ⟨gb, c, rfl, hTk⟩
  have HTk : Hid (Tk w a.t a.n gb c w1) := hTk
  clear hTk
  go_wp2_with fail
  obtain ⟨z2, b2, n2⟩ := (⟨by simp, (RowKit.Below.refl _ w1).alloc (Nat.le_refl _) _, heap_alloc_new w1 _⟩ : (w1.alloc (.cells #[Value.slice (some ⟨gb, 0, none⟩) (en a.t a.n).length c] 117)).heap.size = w1.heap.size + 1 ∧ RowKit.Below w1.heap.size w1 (w1.alloc (.cells #[Value.slice (some ⟨gb, 0, none⟩) (en a.t a.n).length c] 117)) ∧ (w1.alloc (.cells #[Value.slice (some ⟨gb, 0, none⟩) (en a.t a.n).length c] 117)).heap[w1.heap.size]? = some (.cells #[Value.slice (some ⟨gb, 0, none⟩) (en a.t a.n).length c] 117 (0, 0)))
  generalize w1.alloc (.cells #[Value.slice (some ⟨gb, 0, none⟩) (en a.t a.n).length c] 117) = w2 at *
  obtain ⟨hH, hb, hbase⟩ := holds_of (own_below HTk.out.2 b2)
  have hne : w1.heap.size ≠ gb := by
    have := holds_of HTk.out.2
    omega
  refine Calls.mono (HS.out gb c w2 hH hb) ?_
  rintro e w3 ⟨rfl, d', n, os, hp, hs, hw⟩
  obtain ⟨k1, k2, k3⟩ := sorted_list hp hs
  obtain ⟨f1, f2⟩ := sorted_world hH (by simpa using k1) hb hw
  have HA : Hid (IsAll a d'.toList) := IsAll.of HK.out k2 k3
  have HR : Hid (Sq w3 ⟨w1.heap.size, gb, c⟩ d'.toList ∧ RowKit.Below w.heap.size w w3 ∧ ∀ k ∈ (⟨w1.heap.size, gb, c⟩ : Sqv).S, w.heap.size ≤ k ∧ ∃ cs T f, w3.heap[k]? = some (.cells cs T f)) := by
    have s1 := HTk.out.1.size
    have s2 := f1.size
    have nA : w3.heap[w1.heap.size]? = some (.cells #[Value.slice (some ⟨gb, 0, none⟩) (en a.t a.n).length c] 117 (0, 0)) := (f1.block _ (by omega) (by simpa using hne)).trans n2
    have nR : ∃ cs T f, w3.heap[gb]? = some (.cells cs T f) := by
      subst hw
      rcases HTk.out.2.2 with ⟨h0, _⟩ | ⟨g', cap, cur, e, _, hg, _⟩
      · cases h0
      · cases e
        have hg2 := (b2.block gb ((Array.getElem?_eq_some_iff.1 hg).1)).trans hg
        exact ⟨putCells id 0 (flatK encS 3 d') cur, _, _, by
          show ((w2.heap.modify gb (onCells (putCells id 0 (flatK encS 3 d')))) ++ os)[gb]? = _
          rw [Array.getElem?_append_left (by simpa using hb), Array.getElem?_modify, if_pos rfl, hg2]
          rfl⟩
    refine ⟨⟨by rw [Array.length_toList, k1]; simp [World.cell?, nA], fun k hk => ?_, fun i x hx => ?_, by rw [Array.length_toList, k1]; exact hc8, fun x hx => ?_⟩, ?_, fun k hk => ?_⟩
    · simp only [Sqv.S, List.mem_cons, List.not_mem_nil, or_false] at hk
      rcases hk with rfl | rfl
      · omega
      · omega
    · have hi : i < d'.size := by
        have := (List.getElem?_eq_some_iff.1 hx).1
        simpa using this
      have ex : d'[i]! = x := by
        rw [getElem!_pos d' i hi]
        rw [Array.getElem?_toList, Array.getElem?_eq_getElem hi] at hx
        simpa using hx
      have c0 := (f2.cell hi (show 0 < 3 by omega)).1
      have c1 := (f2.cell hi (show 1 < 3 by omega)).1
      rw [ex] at c0 c1
      rw [Nat.zero_add] at c0 c1
      exact ⟨c0, c1⟩
    · obtain ⟨p, _, hp⟩ := mem_en.1 (HA.out.perm.subset hx)
      exact (HK.out.fine.lt p x hp).2
    · have q1 : RowKit.Below w.heap.size w w2 := HTk.out.1.trans (b2.mono s1)
      exact fr_below f1 q1 (by simpa using hbase) (Nat.le_refl _)
    · simp only [Sqv.S, List.mem_cons, List.not_mem_nil, or_false] at hk
      rcases hk with rfl | rfl
      · exact ⟨s1, _, _, _, nA⟩
      · exact ⟨hbase, nR⟩
  clear hp hs hw k1 k2 k3 f1 f2 hH hb hbase z2 b2 n2
  go_wp2
  go_ret
  exact ⟨⟨w1.heap.size, gb, c⟩, d'.toList, rfl, HR.out.1, HA.out, HR.out.2⟩
end Go.Proofs.Ytkekmmomdhdegaa.Ij
