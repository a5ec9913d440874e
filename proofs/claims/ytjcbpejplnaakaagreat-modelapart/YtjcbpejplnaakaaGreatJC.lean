import Derived.Test.YtjcbpejplnaakaaGreatMdWtn
import Derived.Maps.AppendAt
import Derived.Laws.MakeOwn
import Derived.Deep.RegionLaw
import Derived.Test.YtjcbpejplnaakaaGreatJB
import Derived.Deep.DeepCutAuto
namespace Go.Proofs.YtjcbpejplnaakaaGreat.Mr
open Go.RowKit Go.Maps Go.Proofs.YtjcbpejplnaakaaGreat.Nm Go.Proofs.YtjcbpejplnaakaaGreat.Md

/-- append to an owned row, of a slice that may be nil -/
theorem run_app {P : Program} (w : World) (base : Nat) (t ty e : TypeId) (i : TypeInfo) (z : Value) (size bytes : Nat) (ht : P.underlying t = some (.slice e)) (hi : P.info? e = some i) (hz : i.zero = some z)
    (hsize : i.size = size) (hby : i.bytes = bytes) (hzs : z.cells.size = size) (hsz : 0 < size)
    (v : Value) (n : Nat) (xs : List Value) (hown : w.ownsRow base e size v n xs)
    (ao : Option Addr) (m c : Nat) (news : List Value) (hl : news.length = m * size) (hnone : ao = none → m = 0 ∧ c = 0) (hnews : ∀ ad, ao = some ad → ∀ j u, news[j]? = some u → w.cell? (ad.add j) = some u) (h1 : ∀ u ∈ news, u.oneCell' = true)
    (h63 : n + m ≤ maxLen) (hbytes : (n + m) * bytes ≤ 140737488355328) (hbase : base ≤ w.heap.size) :
    ∃ v' w', (Builtin.append_ #[t, t] ty #[v, .slice ao m c]).run P w = .ok v' w' ∧ w'.ownsRow base e size v' (n + m) (xs ++ news) ∧ w.grownBy w' v.ownBlock ∧ (v'.ownBlock = v.ownBlock ∨ v'.ownBlock = some w.heap.size) := by
  cases ao with
  | some ad =>
    obtain ⟨v', w', hr, h2, h3, _, h5⟩ := run_append_own_at (P := P) w base t ty e i z size bytes ht hi hz hsize hby hzs hsz v n xs hown ad m c news hl (hnews ad rfl) h1 h63 hbytes hbase
    exact ⟨v', w', hr, h2, h3, h5⟩
  | none =>
    obtain ⟨rfl, rfl⟩ := hnone rfl
    have he : news = [] := List.eq_nil_of_length_eq_zero (by simpa using hl)
    subst he
    exact ⟨v, w, run_append_owned_none (P := P) w base t ty e i size ht hi v n xs hown, by simpa using hown, World.grownBy.refl _ _, Or.inl rfl⟩
theorem wpl_app {P : Program} (w : World) {ops : Array Oper} {rest : List Oper} {o : Oper} {a : Act} {Q : Exit → Act → World → Prop} (hgd : o.guard = none) (s x : Operand) (t : TypeId)
    (ho : o.op = .call { callee := .builtin .append, args := #[s, x], argTypes := #[t, t] })
    (base : Nat) (e : TypeId) (i : TypeInfo) (z : Value) (size bytes : Nat) (ht : P.underlying t = some (.slice e)) (hi : P.info? e = some i) (hz : i.zero = some z)
    (hsize : i.size = size) (hby : i.bytes = bytes) (hzs : z.cells.size = size) (hsz : 0 < size)
    (v : Value) (n : Nat) (xs : List Value) (hs : a.eval s = v) (hown : w.ownsRow base e size v n xs)
    (ao : Option Addr) (m c : Nat) (news : List Value) (hx : a.eval x = .slice ao m c) (hl : news.length = m * size) (hnone : ao = none → m = 0 ∧ c = 0) (hnews : ∀ ad, ao = some ad → ∀ j u, news[j]? = some u → w.cell? (ad.add j) = some u) (h1 : ∀ u ∈ news, u.oneCell' = true)
    (h63 : n + m ≤ maxLen) (hbytes : (n + m) * bytes ≤ 140737488355328) (hbase : base ≤ w.heap.size)
    (h : ∀ v' w', w'.ownsRow base e size v' (n + m) (xs ++ news) → w.grownBy w' v.ownBlock → (v'.ownBlock = v.ownBlock ∨ v'.ownBlock = some w.heap.size) → wpList P ops Q rest (a.put o.dst v') w') : wpList P ops Q (o :: rest) a w := by
  refine wpList_plain hgd fun K hK => ?_
  obtain ⟨v', w', hr, h2, h3, h4⟩ := run_app (P := P) w base t o.type e i z size bytes ht hi hz hsize hby hzs hsz v n xs hown ao m c news hl hnone hnews h1 h63 hbytes hbase
  unfold Oper.wp execOp
  simp only [ho, resolve, invoke, builtin, Sem.run_bind, Sem.run_pure, Result.andThen_ok, List.map_toArray, List.map_cons, List.map_nil, hs, hx, hr]
  exact hK _ _ (h v' w' h2 h3 h4)
/-- the same, as one step of a region that draws -/
theorem step_app {P : Program} (w : World) {ops : Array Oper} {o : Oper} {a : Act} {K : Act → World → Prop} {Q : Exit → Act → World → Prop} {E : Prop} (hgd : o.guard = none) (s x : Operand) (t : TypeId)
    (ho : o.op = .call { callee := .builtin .append, args := #[s, x], argTypes := #[t, t] })
    (base : Nat) (e : TypeId) (i : TypeInfo) (z : Value) (size bytes : Nat) (ht : P.underlying t = some (.slice e)) (hi : P.info? e = some i) (hz : i.zero = some z)
    (hsize : i.size = size) (hby : i.bytes = bytes) (hzs : z.cells.size = size) (hsz : 0 < size)
    (v : Value) (n : Nat) (xs : List Value) (hs : a.eval s = v) (hown : w.ownsRow base e size v n xs)
    (ao : Option Addr) (m c : Nat) (news : List Value) (hx : a.eval x = .slice ao m c) (hl : news.length = m * size) (hnone : ao = none → m = 0 ∧ c = 0) (hnews : ∀ ad, ao = some ad → ∀ j u, news[j]? = some u → w.cell? (ad.add j) = some u) (h1 : ∀ u ∈ news, u.oneCell' = true)
    (h63 : n + m ≤ maxLen) (hbytes : (n + m) * bytes ≤ 140737488355328) (hbase : base ≤ w.heap.size)
    (h : ∀ v' w', w'.ownsRow base e size v' (n + m) (xs ++ news) → w.grownBy w' v.ownBlock → (v'.ownBlock = v.ownBlock ∨ v'.ownBlock = some w.heap.size) → K (a.put o.dst v') w') : if Region.wanted o (yielded ops a.tmps) = true then Oper.wp P o a w K Q else E := by
  have hw : Region.wanted o (yielded ops a.tmps) = true := by simp [Region.wanted, hgd]
  rw [if_pos hw]
  obtain ⟨v', w', hr, h2, h3, h4⟩ := run_app (P := P) w base t o.type e i z size bytes ht hi hz hsize hby hzs hsz v n xs hown ao m c news hl hnone hnews h1 h63 hbytes hbase
  unfold Oper.wp execOp
  simp only [ho, resolve, invoke, builtin, Sem.run_bind, Sem.run_pure, Result.andThen_ok, List.map_toArray, List.map_cons, List.map_nil, hs, hx, hr]
  exact h v' w' h2 h3 h4
end Go.Proofs.YtjcbpejplnaakaaGreat.Mr

namespace Go.Proofs.YtjcbpejplnaakaaGreat.Mr
open Go.RowKit Go.Maps Go.Proofs.YtjcbpejplnaakaaGreat.Nm Go.Proofs.YtjcbpejplnaakaaGreat.Md

set_option maxHeartbeats 800000 in
set_option maxRecDepth 100000 in
/-- where a key stands in a row -/
theorem place_any {w : World} {v : Value} {l : List Nat} {x : Nat} (hv : KRd w v l) (hl : l.length ≤ 1000000000) : Calls Tryz.prog 33 #[v, U x] w fun e w' => ∃ z : Int, e = .returned (I z) ∧ w' = w ∧ (x ∈ l → 0 ≤ z) ∧ (x ∉ l → z = -1) := by
  have H : Hid (KRd w v l ∧ l.length ≤ 1000000000) := ⟨hv, hl⟩
  obtain ⟨b, c, rfl, _⟩ := hv
  clear hl
  go_enter Tryz.func33, Tryz.ntmps33
  go_wp2_with fail
  go_loopg [5] l.length (fun gq y wr => w = wr ∧ ∃ j : Nat, j ≤ l.length ∧ gq = l.length - j ∧ y = I j ∧ x ∉ l.take j)
  case atStart => exact ⟨rfl, 0, Nat.zero_le _, rfl, rfl, by simp⟩
  case round =>
    obtain ⟨rfl, j, hj, hgk, rfl, hn⟩ := hrel
    by_cases hlt : j < l.length
    · have hlt' : (j : Int) < (l.length : Int) := by omega
      have hlm : (l.length : Int) ≤ 1000000000 := by have := H.out.2; omega
      have hx : l[j]? = some l[j] := List.getElem?_eq_getElem hlt
      obtain ⟨b', c', e1, h1⟩ := H.out.1
      cases e1
      obtain ⟨g1, rfl, _, i1⟩ := h1 j _ hx
      have hmem : l[j] ∈ l := List.getElem_mem hlt
      generalize l[j] = y at *
      have HB : Hid (x ∉ l.take j ∧ j < l.length ∧ gk = l.length - j ∧ l[j]? = some y ∧ y ∈ l) := ⟨hn, hlt, hgk, hx, hmem⟩
      clear h1 hgk hx hn hlt hj hmem
      by_cases hyx : y = x
      · subst hyx
        have heq : (((y : Nat) : Int) == ((y : Nat) : Int)) = true := by simp
        go_wp2
        go_ret
        exact ⟨_, rfl, rfl, fun _ => by omega, fun q => absurd HB.out.2.2.2.2 q⟩
      · have heq : (((y : Nat) : Int) == ((x : Nat) : Int)) = false := by rw [beq_eq_false_iff_ne]; omega
        have HY : Hid (y ≠ x) := hyx
        clear hyx
        go_wp2_with fail
        go_roundg (l.length - (j + 1))
        case measure => have h1 := HB.out.2.1; have := HB.out.2.2.1; omega
        case rel =>
          refine ⟨rfl, j + 1, HB.out.2.1, rfl, by go_num, fun q => ?_⟩
          rw [List.take_add_one, HB.out.2.2.2.1] at q
          rcases List.mem_append.1 q with q | q
          · exact HB.out.1 q
          · simp at q
            exact HY.out q.symm
    · obtain rfl : j = l.length := by omega
      have HD : Hid (x ∉ l) := by rw [List.take_of_length_le (Nat.le_refl _)] at hn; exact hn
      clear hn hlt hgk hj
      go_wp2
      go_ret
      exact ⟨_, rfl, rfl, fun q => absurd q HD.out, fun _ => rfl⟩
set_option maxRecDepth 100000 in
theorem rhas_any {w : World} {v : Value} {l : List Nat} {x : Nat} (hv : KRd w v l) (hl : l.length ≤ 1000000000) : Calls Tryz.prog 21 #[v, U x] w fun e w' => e = .returned (.bool (decide (x ∈ l))) ∧ w' = w := by
  have H : Hid (KRd w v l ∧ l.length ≤ 1000000000) := ⟨hv, hl⟩
  clear hv hl
  by_cases hx : x ∈ l
  · rw [decide_eq_true hx]
    have HX : Hid (x ∈ l) := hx
    clear hx
    go_enter Tryz.func21, Tryz.ntmps21
    go_wp2_with fail
    refine (place_any H.out.1 H.out.2).mono ?_
    rintro _ w ⟨z, rfl, rfl, h1, h2⟩
    have hz := h1 HX.out
    clear h1 h2
    go_wp2
    go_ret
    exact ⟨by first | rfl | simp [hz], rfl⟩
  · rw [decide_eq_false hx]
    have HX : Hid (x ∉ l) := hx
    clear hx
    go_enter Tryz.func21, Tryz.ntmps21
    go_wp2_with fail
    refine (place_any H.out.1 H.out.2).mono ?_
    rintro _ w ⟨z, rfl, rfl, h1, h2⟩
    obtain rfl := h2 HX.out
    clear h1 h2
    go_wp2
    go_ret
    exact ⟨by first | rfl | simp, rfl⟩
/-- a row without a key -/
def wo (l : List Nat) (x : Nat) : List Nat := l.filter fun y => y != x
theorem wo_take (l : List Nat) (x j y : Nat) (h : l[j]? = some y) : wo (l.take (j + 1)) x = wo (l.take j) x ++ (if y = x then [] else [y]) := by
  unfold wo
  rw [List.take_add_one, h, List.filter_append]
  congr 1
  by_cases e : y = x <;> simp [e]
theorem wo_len (l : List Nat) (x : Nat) : (wo l x).length ≤ l.length := List.length_filter_le _ _
set_option maxHeartbeats 1600000 in
set_option maxRecDepth 100000 in
theorem without_any {w : World} {v : Value} {l : List Nat} {x : Nat} (hv : KRd w v l) (hl : l.length ≤ 1000000000) : Calls Tryz.prog 35 #[v, U x] w fun e w' => ∃ u, e = .returned u ∧ w'.ownsRow w.heap.size 33 1 u (wo l x).length ((wo l x).map U) ∧ Below w.heap.size w w' := by
  have H : Hid (KRd w v l ∧ l.length ≤ 1000000000) := ⟨hv, hl⟩
  obtain ⟨b, c, rfl, _⟩ := hv
  clear hl
  obtain ⟨j0, hj, hj0, hj1, hj2⟩ := info_parts info33
  go_enter Tryz.func35, Tryz.ntmps35
  go_wp2_with fail
  go_loopg [5, 6] l.length (fun gq u y wr => ∃ j : Nat, j ≤ l.length ∧ gq = l.length - j ∧ y = I j ∧ Below w.heap.size w wr ∧ wr.ownsRow w.heap.size 33 1 u (wo (l.take j) x).length ((wo (l.take j) x).map U))
  case atStart => exact ⟨0, Nat.zero_le _, rfl, rfl, Below.refl _ _, World.ownsRow_nil _ _ _ _⟩
  case round =>
    obtain ⟨j, hj9, hgk, rfl, hb, ho⟩ := hrel
    by_cases hlt : j < l.length
    · have hlt' : (j : Int) < (l.length : Int) := by omega
      have hlm : (l.length : Int) ≤ 1000000000 := by have := H.out.2; omega
      have hx : l[j]? = some l[j] := List.getElem?_eq_getElem hlt
      obtain ⟨b', c', e1, h1⟩ := H.out.1.below hb
      cases e1
      obtain ⟨g1, rfl, _, i1⟩ := h1 j _ hx
      generalize l[j] = y at *
      obtain ⟨bo, bc, rfl⟩ := own_form ho
      have hwl : (wo (l.take j) x).length ≤ j := Nat.le_trans (wo_len _ _) (by rw [List.length_take]; omega)
      have HB : Hid (Below w.heap.size w wr ∧ j < l.length ∧ gk = l.length - j ∧ l[j]? = some y ∧ w.heap.size ≤ wr.heap.size ∧ (wo (l.take j) x).length ≤ j) := ⟨hb, hlt, hgk, hx, hb.size, hwl⟩
      by_cases hyx : y = x
      · have heq : (((y : Nat) : Int) != ((x : Nat) : Int)) = false := by rw [bne_eq_false_iff_eq]; omega
        have HO : Hid (wr.ownsRow w.heap.size 33 1 (.slice bo (wo (l.take j) x).length bc) (wo (l.take (j + 1)) x).length ((wo (l.take (j + 1)) x).map U)) := by rw [wo_take l x j y hx, if_pos hyx, List.append_nil]; exact ho
        clear h1 hgk hx hlt hj9 hb ho hwl hyx
        generalize (wo (l.take j) x).length = q at *
        go_wp2_with fail
        go_roundg (l.length - (j + 1))
        case measure => have h1 := HB.out.2.1; have := HB.out.2.2.1; omega
        case rel => exact ⟨j + 1, HB.out.2.1, rfl, by go_num, HB.out.1, HO.out⟩
      · have heq : (((y : Nat) : Int) != ((x : Nat) : Int)) = true := by rw [bne_iff_ne]; omega
        have HE : Hid (wo (l.take (j + 1)) x = wo (l.take j) x ++ [y]) := by show _ = _; rw [wo_take l x j y hx, if_neg hyx]
        generalize hq : (wo (l.take j) x) = q at *
        have HO : Hid ((wr.alloc (.cells #[U y] 33)).ownsRow w.heap.size 33 1 (.slice bo q.length bc) q.length (q.map U)) := own_below ho ((Below.refl _ wr).alloc (Nat.le_refl _) _)
        clear h1 hgk hx hlt hj9 hb ho hwl hyx hq
        go_wp2_with (at_builtin; refine append_gone _ rfl _ _ 22 rfl w.heap.size 33 j0 (.int .u64 0) 1 8 Tryz.underlying22 hj hj0 hj1 hj2 rfl (by decide) (.slice bo q.length bc) q.length (q.map U) rfl HO.out ⟨wr.heap.size, 0, none⟩ 1 1 [U y] rfl rfl ?c1 ?c2 ?c3 ?c4 ?c5 ?c6 ?_)
        case c1 => exact cells_new wr 33 [U y]
        case c2 => simp [Value.oneCell']
        case c3 => have := H.out.2; have := HB.out; unfold maxLen; omega
        case c4 => have := H.out.2; have := HB.out; omega
        case c5 => have := HB.out.2.2.2.2.1; simp; omega
        case c6 => decide
        intro v4 w4 ho hG
        have hb4 : Below w.heap.size w w4 := gone_below (HB.out.1.alloc HB.out.1.size _) (fun k hk => (World.ownsRow.lt HO.out k hk).1) (by have := HB.out.2.2.2.2.1; simp; omega) hG
        have HN : Hid (Below w.heap.size w w4 ∧ w4.ownsRow w.heap.size 33 1 v4 (wo (l.take (j + 1)) x).length ((wo (l.take (j + 1)) x).map U)) := by
          refine ⟨hb4, ?_⟩
          rw [HE.out, List.map_append, List.length_append]
          exact ho
        clear ho hG hb4 HO
        go_wp2_with fail
        go_roundg (l.length - (j + 1))
        case measure => have h1 := HB.out.2.1; have := HB.out.2.2.1; omega
        case rel => exact ⟨j + 1, HB.out.2.1, rfl, by go_num, HN.out.1, HN.out.2⟩
    · obtain rfl : j = l.length := by omega
      have HN : Hid (Below w.heap.size w wr ∧ wr.ownsRow w.heap.size 33 1 u5 (wo l x).length ((wo l x).map U)) := by
        rw [List.take_of_length_le (Nat.le_refl _)] at ho
        exact ⟨hb, ho⟩
      clear hb ho hlt hgk hj9
      go_wp2
      go_ret
      exact ⟨_, rfl, HN.out.2, HN.out.1⟩
/-- a row that may be nil, as a slice that is read -/
def Rl (w : World) (v : Value) (l : List Nat) : Prop := KRd w v l ∧ ∀ b n c, v = .slice b n c → b = none → n = 0 ∧ c = 0
theorem Rl.own {w : World} {base : Nat} {v : Value} {l : List Nat} (h : w.ownsRow base 33 1 v l.length (l.map U)) : Rl w v l := by
  refine ⟨KRd.own h, ?_⟩
  rintro b n c rfl rfl
  rcases h.2 with ⟨e, _⟩ | ⟨g, cap, cur, e, _⟩
  · cases e; exact ⟨rfl, rfl⟩
  · cases e
theorem Rl.below {w w' : World} {v : Value} {l : List Nat} (h : Rl w v l) (hb : Below w.heap.size w w') : Rl w' v l := ⟨h.1.below hb, h.2⟩
theorem grown_below {w w' : World} {base : Nat} {v : Value} {W : World} (hb : Below W.heap.size W w) (hg : w.grownBy w' v.ownBlock) (ho : ∀ k, v.ownBlock = some k → W.heap.size ≤ k) (_ : base ≤ w.heap.size) : Below W.heap.size W w' :=
  hb.trans ⟨hg.os, hg.tape, hg.output, hg.size, fun k hk => hg.block k (Nat.lt_of_lt_of_le hk hb.size) fun e => by have := ho k e.symm; omega⟩
set_option maxHeartbeats 1600000 in
set_option maxRecDepth 100000 in
theorem ahead_any {w : World} {v : Value} {l : List Nat} {x : Nat} (hv : Rl w v l) (hl : l.length ≤ 1000000000) : Calls Tryz.prog 36 #[U x, v] w fun e w' => ∃ u, e = .returned u ∧ w'.ownsRow w.heap.size 33 1 u (x :: l).length ((x :: l).map U) ∧ Below w.heap.size w w' := by
  have H : Hid (Rl w v l ∧ l.length ≤ 1000000000) := ⟨hv, hl⟩
  obtain ⟨b, c, rfl, _⟩ := hv.1
  clear hl hv
  obtain ⟨j0, hj, hj0, hj1, hj2⟩ := info_parts info33
  have HO : Hid ((w.alloc (.cells #[U x] 33)).ownsRow w.heap.size 33 1 (.slice (some ⟨w.heap.size, 0, none⟩) 1 1) 1 [U x]) := by
    refine ⟨rfl, Or.inr ⟨w.heap.size, 1, #[U x], rfl, Nat.le_refl _, heap_alloc_new _ _, Nat.le_refl _, by unfold maxLen; omega, rfl, rfl⟩⟩
  have hb0 : Below w.heap.size w (w.alloc (.cells #[U x] 33)) := (Below.refl _ w).alloc (Nat.le_refl _) _
  have HB : Hid (Below w.heap.size w (w.alloc (.cells #[U x] 33)) ∧ Rl (w.alloc (.cells #[U x] 33)) (.slice b l.length c) l) := ⟨hb0, H.out.1.below hb0⟩
  clear hb0
  go_enter Tryz.func36, Tryz.ntmps36
  go_wp2_with (at_builtin; refine wpl_app _ rfl _ _ 22 rfl w.heap.size 33 j0 (.int .u64 0) 1 8 Tryz.underlying22 hj hj0 hj1 hj2 rfl (by decide) (.slice (some ⟨w.heap.size, 0, none⟩) 1 1) 1 [U x] rfl HO.out b l.length c (l.map U) rfl ?c1 ?c2 ?c3 ?c4 ?c5 ?c6 ?c7 ?_)
  case c1 => rw [List.length_map, Nat.mul_one]
  case c2 => exact HB.out.2.2 _ _ _ rfl
  case c3 =>
    rintro ad rfl i u hu
    rw [List.getElem?_map] at hu
    obtain ⟨y, hy, rfl⟩ := Option.map_eq_some_iff.1 hu
    obtain ⟨b', c', e, h2⟩ := HB.out.2.1
    cases e
    obtain ⟨g, e3, _, h5⟩ := h2 i y hy
    cases e3
    by_cases h0 : i = 0
    · subst h0; exact h5
    · simp only [Addr.add, h0, if_false]
      simpa using h5
  case c4 => intro u hu; obtain ⟨y, _, rfl⟩ := List.mem_map.1 hu; rfl
  case c5 => have := H.out.2; unfold maxLen; omega
  case c6 => have := H.out.2; omega
  case c7 => simp
  intro v4 w4 ho hG hE
  have HN : Hid (Below w.heap.size w w4 ∧ w4.ownsRow w.heap.size 33 1 v4 (x :: l).length ((x :: l).map U)) := by
    refine ⟨grown_below (base := w.heap.size) HB.out.1 hG (fun k hk => (World.ownsRow.lt HO.out k hk).1) (by simp), ?_⟩
    rw [List.length_cons, List.map_cons, Nat.add_comm]
    exact ho
  clear ho hG hE HO
  go_wp2
  go_ret
  exact ⟨_, rfl, HN.out.2, HN.out.1⟩
end Go.Proofs.YtjcbpejplnaakaaGreat.Mr

namespace Go.Proofs.YtjcbpejplnaakaaGreat.Mr
open Go.RowKit Go.Maps Go.Proofs.YtjcbpejplnaakaaGreat.Nm Go.Proofs.YtjcbpejplnaakaaGreat.Md

/-- the reference's rows, its numbers of keys, how many there are, P, what was evicted -/
structure St where
  A : List Nat
  B : List Nat
  G : List Nat
  H : List Nat
  N : Nat → Option Nat
  n : Nat
  p : Nat
  O : List Nat
/-- where they lie -/
structure Vs where
  a : Value
  b : Value
  g : Value
  h : Value
  o : Value
/-- a row of the reference: in a block of its own that is none of X -/
def Rr (w : World) (X : List Nat) (v : Value) (l : List Nat) : Prop := w.ownsRow 0 33 1 v l.length (l.map U) ∧ ∀ b, v.ownBlock = some b → b ∉ X
def nInt (N : Nat → Option Nat) : Nat → Option Int := fun k => (N k).map Int.ofNat
section
variable {w0 w w' w1 w4 : World} {g m kd c x : Nat} {V : Vs} {F : List Nat} {s : St} {X X' : List Nat} {u v v4 : Value} {l : List Nat} {base : Nat}
theorem own_zero (h : w.ownsRow base 33 1 v l.length (l.map U)) : w.ownsRow 0 33 1 v l.length (l.map U) := by
  obtain ⟨q1, q2⟩ := h
  refine ⟨q1, q2.imp id ?_⟩
  rintro ⟨b, cap, cur, rfl, r2, r3⟩
  exact ⟨b, cap, cur, rfl, Nat.zero_le _, r3⟩
theorem own_blk {xs : List Value} {n : Nat} (h : w.ownsRow base 33 1 v n xs) (hb : ∀ b, v.ownBlock = some b → w'.heap[b]? = w.heap[b]?) : w'.ownsRow base 33 1 v n xs := by
  obtain ⟨q1, q2⟩ := h
  refine ⟨q1, q2.imp id ?_⟩
  rintro ⟨b, cap, cur, rfl, r2, r3, r4⟩
  exact ⟨b, cap, cur, rfl, r2, (hb b rfl).trans r3, r4⟩
theorem Rr.rl (h : Rr w X v l) : Rl w v l := Rl.own h.1
theorem Rr.lt (h : Rr w X v l) : ∀ b, v.ownBlock = some b → b < w.heap.size := fun b e => (World.ownsRow.lt h.1 b e).2
theorem Rr.same (h : Rr w X v l) (hb : ∀ b, v.ownBlock = some b → w'.heap[b]? = w.heap[b]?) : Rr w' X v l := ⟨own_blk h.1 hb, h.2⟩
theorem Rr.below (h : Rr w X v l) (hb : Below w.heap.size w w') : Rr w' X v l := h.same fun b e => hb.block b (h.lt b e)
theorem Rr.set (h : Rr w (g :: X) v l) (i : Nat) (u : Value) : Rr (w.setCell ⟨g, i, none⟩ u) (g :: X) v l := h.same fun b e => set_other fun q => h.2 b e (by simp [q])
theorem Rr.nil (w : World) (X : List Nat) : Rr w X (.slice none 0 0) [] := ⟨World.ownsRow_nil _ _ _ _, fun b e => by cases e⟩
theorem Rr.mk_ (h : w1.ownsRow base 33 1 v l.length (l.map U)) (hX : ∀ x ∈ X, x < base) : Rr w1 X v l := ⟨own_zero h, fun b e q => by have := (World.ownsRow.lt h b e).1; have := hX b q; omega⟩
theorem Rr.form (h : Rr w X v l) : ∃ b c, v = .slice b l.length c := own_form h.1
/-- a cache of the reference at work since w0 -/
structure Rc (w0 w : World) (g m kd c : Nat) (F : List Nat) (V : Vs) (s : St) : Prop where
  blk : w.heap[g]? = some (.cells #[I kd, I c, V.a, V.b, V.g, V.h, .map (some m), I s.p, V.o] 59 (0, 0))
  ra : Rr w (g :: m :: (V.o.ownBlock.toList ++ F)) V.a s.A
  rb : Rr w (g :: m :: (V.o.ownBlock.toList ++ F)) V.b s.B
  rg : Rr w (g :: m :: (V.o.ownBlock.toList ++ F)) V.g s.G
  rh : Rr w (g :: m :: (V.o.ownBlock.toList ++ F)) V.h s.H
  own : w.ownsRow w0.heap.size 33 1 V.o s.O.length (s.O.map U)
  bk : IsBk w m (nInt s.N) s.n
  fr : Fr [g, m] w0 w
  lt : g < w0.heap.size ∧ m < w0.heap.size ∧ ∀ x ∈ F, x < w0.heap.size
theorem Rc.gm (h : Rc w0 w g m kd c F V s) : g ≠ m := h.bk.ne_cells h.blk
theorem Rc.gl (h : Rc w0 w g m kd c F V s) : g < w.heap.size := blk_lt h.blk
theorem Rc.cell (h : Rc w0 w g m kd c F V s) (j : Nat) : w.cell? ⟨g, j, none⟩ = #[I kd, I c, V.a, V.b, V.g, V.h, .map (some m), I s.p, V.o][j]? := by simp only [World.cell?, h.blk]; rfl
theorem Rc.nf (h : Rc w0 w g m kd c F V s) (j : Nat) : w.frozen? ⟨g, j, none⟩ = false := by simp [World.frozen?, h.blk]
theorem Rc.xlt (h : Rc w0 w g m kd c F V s) : ∀ x ∈ g :: m :: (V.o.ownBlock.toList ++ F), x < w.heap.size := by
  intro x hx
  rcases List.mem_cons.1 hx with rfl | hx
  · exact h.gl
  rcases List.mem_cons.1 hx with rfl | hx
  · exact h.bk.lt
  · rcases List.mem_append.1 hx with hx | hx
    · exact (World.ownsRow.lt h.own x (by simpa using hx)).2
    · exact Nat.lt_of_lt_of_le (h.lt.2.2 x hx) h.fr.size
theorem Rc.below (h : Rc w0 w g m kd c F V s) (hb : Below w.heap.size w w') : Rc w0 w' g m kd c F V s :=
  ⟨(hb.block g h.gl).trans h.blk, h.ra.below hb, h.rb.below hb, h.rg.below hb, h.rh.below hb, own_blk h.own fun b e => hb.block b (World.ownsRow.lt h.own b e).2, h.bk.same (hb.block m h.bk.lt), h.fr.trans (F' := []) (Fr.of_below hb) (by simp), h.lt⟩
theorem Rc.ow (h : Rc w0 w g m kd c F V s) (i : Nat) (u : Value) : (w.setCell ⟨g, i, none⟩ u).ownsRow w0.heap.size 33 1 V.o s.O.length (s.O.map U) ∧ IsBk (w.setCell ⟨g, i, none⟩ u) m (nInt s.N) s.n ∧ Fr [g, m] w0 (w.setCell ⟨g, i, none⟩ u) := by
  refine ⟨own_blk h.own fun b e => set_other ?_, h.bk.same (set_other h.gm.symm), h.fr.trans (Fr.set w i u (F := [g, m]) (by simp)) fun x hx => Or.inl hx⟩
  have := (World.ownsRow.lt h.own b e).1
  have := h.lt.1
  omega
theorem Rc.setA (h : Rc w0 w g m kd c F V s) (hb : Below w.heap.size w w1) (ho : w1.ownsRow w.heap.size 33 1 u l.length (l.map U)) : Rc w0 (w1.setCell ⟨g, 2, none⟩ u) g m kd c F { V with a := u } { s with A := l } := by
  have h1 := h.below hb
  obtain ⟨o1, o2, o3⟩ := h1.ow 2 u
  exact ⟨set_blk h1.blk, (Rr.mk_ ho h.xlt).set 2 u, h1.rb.set 2 u, h1.rg.set 2 u, h1.rh.set 2 u, o1, o2, o3, h.lt⟩
theorem Rc.setB (h : Rc w0 w g m kd c F V s) (hb : Below w.heap.size w w1) (ho : w1.ownsRow w.heap.size 33 1 u l.length (l.map U)) : Rc w0 (w1.setCell ⟨g, 3, none⟩ u) g m kd c F { V with b := u } { s with B := l } := by
  have h1 := h.below hb
  obtain ⟨o1, o2, o3⟩ := h1.ow 3 u
  exact ⟨set_blk h1.blk, h1.ra.set 3 u, (Rr.mk_ ho h.xlt).set 3 u, h1.rg.set 3 u, h1.rh.set 3 u, o1, o2, o3, h.lt⟩
theorem Rc.setG (h : Rc w0 w g m kd c F V s) (hb : Below w.heap.size w w1) (ho : w1.ownsRow w.heap.size 33 1 u l.length (l.map U)) : Rc w0 (w1.setCell ⟨g, 4, none⟩ u) g m kd c F { V with g := u } { s with G := l } := by
  have h1 := h.below hb
  obtain ⟨o1, o2, o3⟩ := h1.ow 4 u
  exact ⟨set_blk h1.blk, h1.ra.set 4 u, h1.rb.set 4 u, (Rr.mk_ ho h.xlt).set 4 u, h1.rh.set 4 u, o1, o2, o3, h.lt⟩
theorem Rc.setH (h : Rc w0 w g m kd c F V s) (hb : Below w.heap.size w w1) (ho : w1.ownsRow w.heap.size 33 1 u l.length (l.map U)) : Rc w0 (w1.setCell ⟨g, 5, none⟩ u) g m kd c F { V with h := u } { s with H := l } := by
  have h1 := h.below hb
  obtain ⟨o1, o2, o3⟩ := h1.ow 5 u
  exact ⟨set_blk h1.blk, h1.ra.set 5 u, h1.rb.set 5 u, h1.rg.set 5 u, (Rr.mk_ ho h.xlt).set 5 u, o1, o2, o3, h.lt⟩
theorem Rc.setP (h : Rc w0 w g m kd c F V s) (p : Nat) : Rc w0 (w.setCell ⟨g, 7, none⟩ (I p)) g m kd c F V { s with p := p } := by
  obtain ⟨o1, o2, o3⟩ := h.ow 7 (I p)
  exact ⟨set_blk h.blk, h.ra.set _ _, h.rb.set _ _, h.rg.set _ _, h.rh.set _ _, o1, o2, o3, h.lt⟩
theorem Rc.app (h : Rc w0 w g m kd c F V s) (hG : Gone (w.alloc (.cells #[U x] 33)) V.o w4 v4) (ho : w4.ownsRow w0.heap.size 33 1 v4 (s.O.length + 1) (s.O.map U ++ [U x])) : Rc w0 (w4.setCell ⟨g, 8, none⟩ v4) g m kd c F { V with o := v4 } { s with O := s.O ++ [x] } := by
  have h1 := h.below ((Below.refl _ w).alloc (Nat.le_refl _) (.cells #[U x] 33))
  obtain ⟨g1, g2⟩ := hG
  have z2 := g1.size
  have hx := h1.xlt
  have hgo : ∀ b, V.o.ownBlock = some b → b ≠ g ∧ b ≠ m := fun b e => by
    have := (World.ownsRow.lt h.own b e).1
    have := h.lt.1
    have := h.lt.2.1
    exact ⟨by omega, by omega⟩
  have hgb : w4.heap[g]? = (w.alloc (.cells #[U x] 33)).heap[g]? := g1.block g h1.gl fun e => (hgo g e.symm).1 rfl
  have hmb : w4.heap[m]? = (w.alloc (.cells #[U x] 33)).heap[m]? := g1.block m h1.bk.lt fun e => (hgo m e.symm).2 rfl
  have key : ∀ {r : Value} {k : List Nat}, Rr (w.alloc (.cells #[U x] 33)) (g :: m :: (V.o.ownBlock.toList ++ F)) r k → Rr (w4.setCell ⟨g, 8, none⟩ v4) (g :: m :: (v4.ownBlock.toList ++ F)) r k := fun {r k} hr => by
    have q : Rr w4 (g :: m :: (V.o.ownBlock.toList ++ F)) r k := hr.same fun b e => g1.block b (hr.lt b e) fun e2 => hr.2 b e (by simp [← e2])
    have q2 : Rr w4 (g :: m :: (v4.ownBlock.toList ++ F)) r k := by
      refine ⟨q.1, fun b e hm => ?_⟩
      have n1 := q.2 b e
      have n2 := hr.lt b e
      simp only [List.mem_cons, List.mem_append, Option.mem_toList, not_or] at n1 hm
      rcases hm with rfl | rfl | hm | hm
      · exact n1.1 rfl
      · exact n1.2.1 rfl
      · rcases g2 with ⟨b', e1, e2⟩ | ⟨_, e2⟩
        · exact n1.2.2.1 (by rw [e1, ← e2]; exact hm)
        · have := e2 b hm
          omega
      · exact n1.2.2.2 hm
    exact q2.set 8 v4
  refine ⟨?_, key h1.ra, key h1.rb, key h1.rg, key h1.rh, ?_, h1.bk.same ((set_other h1.gm.symm).trans hmb), ?_, h.lt⟩
  · exact set_blk (hgb.trans h1.blk)
  · show (w4.setCell ⟨g, 8, none⟩ v4).ownsRow w0.heap.size 33 1 v4 (s.O ++ [x]).length ((s.O ++ [x]).map U)
    rw [List.length_append, List.map_append]
    refine own_blk ho fun b e => set_other ?_
    have := (World.ownsRow.lt ho b e).1
    have := h.lt.1
    omega
  · have q := h1.fr
    refine (Fr.trans (b := w4) ⟨g1.os.trans q.os, g1.tape.trans q.tape, g1.output.trans q.output, Nat.le_trans q.size z2, fun y hy hF => ?_⟩ (Fr.set w4 8 v4 (F := [g, m]) (by simp)) fun x hx => Or.inl hx)
    rw [g1.block y (Nat.lt_of_lt_of_le hy q.size) fun e => ?_]
    · exact q.block y hy hF
    · have := (World.ownsRow.lt h.own y e.symm).1
      omega
theorem Rc.app8 (h : Rc w0 w g m kd c F V s) (hG : Gone (w.alloc (.cells #[U x] 33)) V.o w4 v4) : w4.cell? ⟨g, 8, none⟩ = some V.o ∧ w4.frozen? ⟨g, 8, none⟩ = false := by
  have h1 := h.below ((Below.refl _ w).alloc (Nat.le_refl _) (.cells #[U x] 33))
  have hgb : w4.heap[g]? = (w.alloc (.cells #[U x] 33)).heap[g]? := hG.1.block g h1.gl fun e => by
    have := (World.ownsRow.lt h.own g e.symm).1
    have := h.lt.1
    omega
  exact ⟨(cell_blk hgb 8).trans (h1.cell 8), by simp [World.frozen?, hgb.trans h1.blk]⟩
/-- a number is set -/
def St.num (s : St) (x v : Nat) : St := { s with N := fun k => if k = x then some v else s.N k, n := if (s.N x).isSome then s.n else s.n + 1 }
theorem nInt_upd (N : Nat → Option Nat) (x v : Nat) : upd (nInt N) x (some (v : Int)) = nInt (fun k => if k = x then some v else N k) := by
  funext k
  unfold upd nInt
  by_cases h : k = x
  · simp only [if_pos h]
    rfl
  · simp only [if_neg h]
theorem Rc.num (h : Rc w0 w g m kd c F V s) {v : Nat} (hk : IsBk w' m (upd (nInt s.N) x (some (v : Int))) (if (nInt s.N x).isSome then s.n else s.n + 1)) (hg : w.grownBy w' (some m)) : Rc w0 w' g m kd c F V (s.num x v) := by
  have key : ∀ {r : Value} {k : List Nat}, Rr w (g :: m :: (V.o.ownBlock.toList ++ F)) r k → Rr w' (g :: m :: (V.o.ownBlock.toList ++ F)) r k := fun {r k} hr => hr.same fun b e => hg.block b (hr.lt b e) fun e2 => hr.2 b e (by simp only [Option.some.injEq] at e2; simp [e2])
  refine ⟨(hg.block g h.gl fun e => h.gm (by simpa using e)).trans h.blk, key h.ra, key h.rb, key h.rg, key h.rh, own_blk h.own fun b e => hg.block b (World.ownsRow.lt h.own b e).2 fun e2 => ?_, ?_, ?_, h.lt⟩
  · have := (World.ownsRow.lt h.own b e).1
    have := h.lt.2.1
    simp only [Option.some.injEq] at e2
    omega
  · rw [nInt_upd] at hk
    have e : (nInt s.N x).isSome = (s.N x).isSome := by unfold nInt; cases s.N x <;> rfl
    rw [e] at hk
    exact hk
  · have q := h.fr
    refine ⟨hg.os.trans q.os, hg.tape.trans q.tape, hg.output.trans q.output, Nat.le_trans q.size hg.size, fun y hy hF => ?_⟩
    rw [hg.block y (Nat.lt_of_lt_of_le hy q.size) fun e => ?_]
    · exact q.block y hy hF
    · simp only [Option.some.injEq] at e
      exact hF (by simp [e])
end
end Go.Proofs.YtjcbpejplnaakaaGreat.Mr

namespace Go.Proofs.YtjcbpejplnaakaaGreat.Mr
open Go.RowKit Go.Maps Go.Proofs.YtjcbpejplnaakaaGreat.Nm Go.Proofs.YtjcbpejplnaakaaGreat.Md

theorem own_emp (W : World) : (W.alloc (.cells #[] 33)).ownsRow W.heap.size 33 1 (.slice (some ⟨W.heap.size, 0, none⟩) 0 0) 0 [] :=
  ⟨rfl, Or.inr ⟨W.heap.size, 0, #[], rfl, Nat.le_refl _, heap_alloc_new _ _, Nat.le_refl _, by unfold maxLen; omega, rfl, rfl⟩⟩
set_option maxHeartbeats 1600000 in
set_option maxRecDepth 100000 in
/-- a row's last key, and the row without it -/
theorem last_any {w : World} {v : Value} {l : List Nat} {x : Nat} (hv : w.ownsRow 0 33 1 v (l ++ [x]).length ((l ++ [x]).map U)) (hl : (l ++ [x]).length ≤ 1000000000) : Calls Tryz.prog 39 #[v] w fun e w' => ∃ u, e = .returned (.tuple #[U x, u]) ∧ w'.ownsRow w.heap.size 33 1 u l.length (l.map U) ∧ Below w.heap.size w w' := by
  have hk := KRd.own hv
  obtain ⟨b, cap, cur, rfl, _, hb, hc1, hc2, _⟩ := own_block hv (by simp)
  have hbl := blk_lt hb
  obtain ⟨_, _, e1, h1⟩ := hk
  cases e1
  have hlx : (l ++ [x]).length = l.length + 1 := by simp
  have hcell : w.cell? ⟨b, l.length, none⟩ = some (U x) := by
    obtain ⟨g1, e2, _, i1⟩ := h1 l.length x (by simp)
    cases e2
    exact i1
  have HN : Hid (∀ ad, some (⟨b, 0, none⟩ : Addr) = some ad → ∀ j u, (l.map U)[j]? = some u → (w.drew.alloc (.cells #[] 33)).cell? (ad.add j) = some u) := by
    intro ad e j u hu
    cases e
    rw [List.getElem?_map] at hu
    obtain ⟨y, hy, rfl⟩ := Option.map_eq_some_iff.1 hu
    obtain ⟨g, e3, _, h5⟩ := h1 j y (by rw [List.getElem?_append_left (by rw [List.getElem?_eq_some_iff] at hy; exact hy.1)]; exact hy)
    cases e3
    have h6 : (w.drew.alloc (.cells #[] 33)).cell? ⟨b, j, none⟩ = some (U y) := by
      rw [← h5]
      exact cell_blk (((Below.refl _ w).drew.alloc (Nat.le_refl _) _).block b hbl) j
    by_cases h0 : j = 0
    · subst h0; exact h6
    · simp only [Addr.add, h0, if_false]
      simpa using h6
  have HC : Hid (b < (w.drew.alloc (.cells #[] 33)).heap.size ∧ some b ≠ (Value.slice (some ⟨w.heap.size, 0, none⟩) 0 0).ownBlock ∧ (w.drew.alloc (.cells #[] 33)).cell? ⟨b, l.length, none⟩ = some (U x)) := by
    refine ⟨?_, fun e => ?_, (cell_blk (((Below.refl _ w).drew.alloc (Nat.le_refl _) _).block b hbl) _).trans hcell⟩
    · exact Nat.lt_of_lt_of_le hbl ((Below.refl _ w).drew.alloc (Nat.le_refl _) _).size
    · simp only [Value.ownBlock, Option.some.injEq] at e
      omega
  have HU : Hid (∀ u ∈ l.map U, u.oneCell' = true) := by intro u hu; obtain ⟨y, _, rfl⟩ := List.mem_map.1 hu; rfl
  have HL : Hid (l.length + 1 ≤ 1000000000 ∧ (l.map U).length = l.length * 1 ∧ (some (⟨b, 0, none⟩ : Addr) = none → l.length = 0 ∧ cap = 0)) := ⟨by omega, by simp, fun e => by cases e⟩
  have hl1 : (l.length : Int) ≤ 1000000000 := by omega
  have hl2 : (l.length : Int) ≤ (cap : Int) := by omega
  have hl4 : (l.length : Int) < (l.length : Int) + 1 := by omega
  have hl3 : IntKind.i64.wrap (((l.length + 1 : Nat) : Int) - 1) = (l.length : Int) := by rw [IntKind.wrap_i64]; omega
  obtain ⟨j0, hj, hj0, hj1, hj2⟩ := info_parts info33
  rw [hlx]
  clear hv h1 hb hc1 hc2 hl hlx
  go_enter Tryz.func39, Tryz.ntmps39
  go_wp2_with fail
  go_region_law (refine step_app _ (by rfl) _ _ 22 (by rfl) w.heap.size 33 j0 (.int .u64 0) 1 8 Tryz.underlying22 hj hj0 hj1 hj2 rfl (by decide) (.slice (some ⟨w.heap.size, 0, none⟩) 0 0) 0 [] (by simp [Act.eval]) (own_emp w.drew) (some ⟨b, 0, none⟩) l.length cap (l.map U) (by simp [Act.eval]) HL.out.2.1 HL.out.2.2 HN.out HU.out (by have := HL.out.1; unfold maxLen; omega) (by have := HL.out.1; omega) (by simp) ?_; intro v4 w4 ho hG hE; have hc4 : w4.cell? ⟨b, l.length, none⟩ = some (U x) := (cell_blk (hG.block b HC.out.1 HC.out.2.1) _).trans HC.out.2.2)
  all_goals (
    have HF : Hid (w4.ownsRow w.heap.size 33 1 v4 l.length (l.map U) ∧ Below w.heap.size w w4) := by
      refine ⟨by simpa using ho, grown_below (base := w.heap.size) ((Below.refl _ w).drew.alloc (Nat.le_refl _) _) hG (fun k hk => ?_) (by simp)⟩
      simp only [Value.ownBlock, Option.some.injEq] at hk
      omega
    clear ho hG hE hc4
    go_wp2
    go_ret2
    exact ⟨_, rfl, HF.out.1, HF.out.2⟩)
end Go.Proofs.YtjcbpejplnaakaaGreat.Mr

namespace Go.Proofs.YtjcbpejplnaakaaGreat.Mr
open Go.RowKit Go.Maps Go.Proofs.YtjcbpejplnaakaaGreat.Nm Go.Proofs.YtjcbpejplnaakaaGreat.Md

section
variable {w0 w w' w1 w4 : World} {g m kd c x : Nat} {V : Vs} {F : List Nat} {s : St} {l : List Nat}
set_option maxHeartbeats 1600000 in
set_option maxRecDepth 100000 in
theorem evA_any (h : Rc w0 w g m kd c F V s) (hA : s.A = l ++ [x]) (hl : s.A.length ≤ 1000000000) (hO : s.O.length ≤ 1000000000) : Calls Tryz.prog 38 #[.pointer (some ⟨g, 0, none⟩)] w fun e w' => e = .returned (U x) ∧ ∃ V', Rc w0 w' g m kd c F V' { s with A := l, O := s.O ++ [x] } := by
  obtain ⟨va, vb, vg, vh, vo⟩ := V
  obtain ⟨bo, bc, e⟩ := own_form h.own
  have e : vo = .slice bo s.O.length bc := e
  subst e
  have H : Hid (Rc w0 w g m kd c F ⟨va, vb, vg, vh, .slice bo s.O.length bc⟩ s ∧ w.ownsRow 0 33 1 va (l ++ [x]).length ((l ++ [x]).map U) ∧ (l ++ [x]).length ≤ 1000000000 ∧ s.O.length ≤ 1000000000) := ⟨h, hA ▸ h.ra.1, hA ▸ hl, hO⟩
  have c2 : w.cell? ⟨g, 2, none⟩ = some va := h.cell 2
  obtain ⟨j0, hj, hj0, hj1, hj2⟩ := info_parts info33
  clear h hA hl hO
  go_enter Tryz.func38, Tryz.ntmps38
  go_wp2_with fail
  refine (last_any H.out.2.1 H.out.2.2.1).mono ?_
  rintro _ w1 ⟨u, rfl, ho, hb⟩
  obtain ⟨bu, cu, rfl⟩ := own_form ho
  have h1 := H.out.1.below hb
  have H1 : Hid (Rc w0 (w1.setCell ⟨g, 2, none⟩ (.slice bu l.length cu)) g m kd c F ⟨.slice bu l.length cu, vb, vg, vh, .slice bo s.O.length bc⟩ { s with A := l }) := H.out.1.setA hb ho
  clear c2
  have c2 : w1.cell? ⟨g, 2, none⟩ = some va := h1.cell 2
  have f2 : w1.frozen? ⟨g, 2, none⟩ = false := h1.nf 2
  clear h1 ho hb
  go_upto_region 3 with fail
  generalize w1.setCell ⟨g, 2, none⟩ (.slice bu l.length cu) = w2 at *
  clear c2 f2
  have c8 : w2.cell? ⟨g, 8, none⟩ = some (.slice bo s.O.length bc) := H1.out.cell 8
  have f8 : w2.frozen? ⟨g, 8, none⟩ = false := H1.out.nf 8
  have HO : Hid ((w2.alloc (.cells #[U x] 33)).ownsRow w0.heap.size 33 1 (.slice bo s.O.length bc) s.O.length (s.O.map U) ∧ w0.heap.size ≤ (w2.alloc (.cells #[U x] 33)).heap.size) := ⟨own_below H1.out.own ((Below.refl _ _).alloc (Nat.le_refl _) _), Nat.le_trans H1.out.fr.size (by simp)⟩
  go_wp2_with (at_builtin; refine append_gone _ rfl _ _ 22 rfl w0.heap.size 33 j0 (.int .u64 0) 1 8 Tryz.underlying22 hj hj0 hj1 hj2 rfl (by decide) (.slice bo s.O.length bc) s.O.length (s.O.map U) rfl HO.out.1 ⟨w2.heap.size, 0, none⟩ 1 1 [U x] rfl rfl ?c1 ?c2 ?c3 ?c4 ?c5 ?c6 ?_)
  case c1 => exact cells_new w2 33 [U x]
  case c2 => simp [Value.oneCell']
  case c3 => have := H.out.2.2.2; unfold maxLen; omega
  case c4 => have := H.out.2.2.2; omega
  case c5 => exact HO.out.2
  case c6 => decide
  intro v4 w4 ho hG
  obtain ⟨b4, k4, rfl⟩ := own_form ho
  obtain ⟨d1, d2⟩ := H1.out.app8 hG
  have d1 : w4.cell? ⟨g, 8, none⟩ = some (.slice bo s.O.length bc) := d1
  have H4 : Hid (Rc w0 (w4.setCell ⟨g, 8, none⟩ (.slice b4 (s.O.length + 1) k4)) g m kd c F ⟨.slice bu l.length cu, vb, vg, vh, .slice b4 (s.O.length + 1) k4⟩ { s with A := l, O := s.O ++ [x] }) := H1.out.app hG ho
  clear ho hG HO H1 c8 f8
  go_wp2
  go_ret
  exact ⟨rfl, _, H4.out⟩
set_option maxHeartbeats 1600000 in
set_option maxRecDepth 100000 in
theorem evB_any (h : Rc w0 w g m kd c F V s) (hA : s.B = l ++ [x]) (hl : s.B.length ≤ 1000000000) (hO : s.O.length ≤ 1000000000) : Calls Tryz.prog 40 #[.pointer (some ⟨g, 0, none⟩)] w fun e w' => e = .returned (U x) ∧ ∃ V', Rc w0 w' g m kd c F V' { s with B := l, O := s.O ++ [x] } := by
  obtain ⟨va, vb, vg, vh, vo⟩ := V
  obtain ⟨bo, bc, e⟩ := own_form h.own
  have e : vo = .slice bo s.O.length bc := e
  subst e
  have H : Hid (Rc w0 w g m kd c F ⟨va, vb, vg, vh, .slice bo s.O.length bc⟩ s ∧ w.ownsRow 0 33 1 vb (l ++ [x]).length ((l ++ [x]).map U) ∧ (l ++ [x]).length ≤ 1000000000 ∧ s.O.length ≤ 1000000000) := ⟨h, hA ▸ h.rb.1, hA ▸ hl, hO⟩
  have c2 : w.cell? ⟨g, 3, none⟩ = some vb := h.cell 3
  obtain ⟨j0, hj, hj0, hj1, hj2⟩ := info_parts info33
  clear h hA hl hO
  go_enter Tryz.func40, Tryz.ntmps40
  go_wp2_with fail
  refine (last_any H.out.2.1 H.out.2.2.1).mono ?_
  rintro _ w1 ⟨u, rfl, ho, hb⟩
  obtain ⟨bu, cu, rfl⟩ := own_form ho
  have h1 := H.out.1.below hb
  have H1 : Hid (Rc w0 (w1.setCell ⟨g, 3, none⟩ (.slice bu l.length cu)) g m kd c F ⟨va, .slice bu l.length cu, vg, vh, .slice bo s.O.length bc⟩ { s with B := l }) := H.out.1.setB hb ho
  clear c2
  have c2 : w1.cell? ⟨g, 3, none⟩ = some vb := h1.cell 3
  have f2 : w1.frozen? ⟨g, 3, none⟩ = false := h1.nf 3
  clear h1 ho hb
  go_upto_region 3 with fail
  generalize w1.setCell ⟨g, 3, none⟩ (.slice bu l.length cu) = w2 at *
  clear c2 f2
  have c8 : w2.cell? ⟨g, 8, none⟩ = some (.slice bo s.O.length bc) := H1.out.cell 8
  have f8 : w2.frozen? ⟨g, 8, none⟩ = false := H1.out.nf 8
  have HO : Hid ((w2.alloc (.cells #[U x] 33)).ownsRow w0.heap.size 33 1 (.slice bo s.O.length bc) s.O.length (s.O.map U) ∧ w0.heap.size ≤ (w2.alloc (.cells #[U x] 33)).heap.size) := ⟨own_below H1.out.own ((Below.refl _ _).alloc (Nat.le_refl _) _), Nat.le_trans H1.out.fr.size (by simp)⟩
  go_wp2_with (at_builtin; refine append_gone _ rfl _ _ 22 rfl w0.heap.size 33 j0 (.int .u64 0) 1 8 Tryz.underlying22 hj hj0 hj1 hj2 rfl (by decide) (.slice bo s.O.length bc) s.O.length (s.O.map U) rfl HO.out.1 ⟨w2.heap.size, 0, none⟩ 1 1 [U x] rfl rfl ?c1 ?c2 ?c3 ?c4 ?c5 ?c6 ?_)
  case c1 => exact cells_new w2 33 [U x]
  case c2 => simp [Value.oneCell']
  case c3 => have := H.out.2.2.2; unfold maxLen; omega
  case c4 => have := H.out.2.2.2; omega
  case c5 => exact HO.out.2
  case c6 => decide
  intro v4 w4 ho hG
  obtain ⟨b4, k4, rfl⟩ := own_form ho
  obtain ⟨d1, d2⟩ := H1.out.app8 hG
  have d1 : w4.cell? ⟨g, 8, none⟩ = some (.slice bo s.O.length bc) := d1
  have H4 : Hid (Rc w0 (w4.setCell ⟨g, 8, none⟩ (.slice b4 (s.O.length + 1) k4)) g m kd c F ⟨va, .slice bu l.length cu, vg, vh, .slice b4 (s.O.length + 1) k4⟩ { s with B := l, O := s.O ++ [x] }) := H1.out.app hG ho
  clear ho hG HO H1 c8 f8
  go_wp2
  go_ret
  exact ⟨rfl, _, H4.out⟩
end
end Go.Proofs.YtjcbpejplnaakaaGreat.Mr

namespace Go.Proofs.YtjcbpejplnaakaaGreat.Mr
open Go.RowKit Go.Maps Go.Proofs.YtjcbpejplnaakaaGreat.Nm Go.Proofs.YtjcbpejplnaakaaGreat.Md

section
variable {w0 w w' w1 w4 : World} {g m kd c x : Nat} {V : Vs} {F : List Nat} {s : St} {l : List Nat} {v : Value}
theorem own_any {base n : Nat} {xs : List Value} (h : w.ownsRow base 33 1 v n xs) : ∃ b k z, v = .slice b k z := by
  obtain ⟨b, z, e⟩ := own_form h
  exact ⟨b, n, z, e⟩
theorem Rc.forms (h : Rc w0 w g m kd c F V s) : ∃ ba ca bb cb bg cg bh ch bo co, V = ⟨.slice ba s.A.length ca, .slice bb s.B.length cb, .slice bg s.G.length cg, .slice bh s.H.length ch, .slice bo s.O.length co⟩ := by
  obtain ⟨va, vb, vg, vh, vo⟩ := V
  obtain ⟨ba, ca, e1⟩ := h.ra.form
  obtain ⟨bb, cb, e2⟩ := h.rb.form
  obtain ⟨bg, cg, e3⟩ := h.rg.form
  obtain ⟨bh, ch, e4⟩ := h.rh.form
  obtain ⟨bo, co, e5⟩ := own_form h.own
  simp only at e1 e2 e3 e4 e5
  exact ⟨ba, ca, bb, cb, bg, cg, bh, ch, bo, co, by rw [e1, e2, e3, e4, e5]⟩
set_option maxHeartbeats 1600000 in
set_option maxRecDepth 100000 in
theorem full_dr (h : Rc w0 w g m kd c F V s) (hl : s.A.length + s.B.length ≤ 1000000000) : Calls Tryz.prog 37 #[.pointer (some ⟨g, 0, none⟩)] w fun e w' => e = .returned (.bool (decide (s.A.length + s.B.length = c))) ∧ ∃ d, w' = w.drewN d := by
  obtain ⟨ba, ca, bb, cb, bg, cg, bh, ch, bo, co, rfl⟩ := h.forms
  have c1 : w.cell? ⟨g, 1, none⟩ = some (I c) := h.cell 1
  have c2 : w.cell? ⟨g, 2, none⟩ = some (.slice ba s.A.length ca) := h.cell 2
  have c3 : w.cell? ⟨g, 3, none⟩ = some (.slice bb s.B.length cb) := h.cell 3
  have hw : IntKind.i64.wrap ((s.A.length : Int) + (s.B.length : Int)) = ((s.A.length + s.B.length : Nat) : Int) := by rw [IntKind.wrap_i64]; omega
  have hd : ((((s.A.length + s.B.length : Nat) : Int)) == (c : Int)) = decide (s.A.length + s.B.length = c) := by
    by_cases e : s.A.length + s.B.length = c
    · rw [decide_eq_true e, beq_iff_eq]; omega
    · rw [decide_eq_false e, beq_eq_false_iff_ne]; omega
  generalize decide (s.A.length + s.B.length = c) = bo at *
  generalize s.A.length + s.B.length = n3 at *
  generalize s.A.length = n1 at *
  generalize s.B.length = n2 at *
  clear h hl
  go_enter Tryz.func37, Tryz.ntmps37
  go_wp2_with fail
  go_quiet (fail)
  go_wp2
  go_ret
  exact ⟨rfl, nq, rfl⟩
theorem full_any (h : Rc w0 w g m kd c F V s) (hl : s.A.length + s.B.length ≤ 1000000000) : Calls Tryz.prog 37 #[.pointer (some ⟨g, 0, none⟩)] w fun e w' => e = .returned (.bool (decide (s.A.length + s.B.length = c))) ∧ Rc w0 w' g m kd c F V s := by
  refine (full_dr h hl).mono ?_
  rintro _ w' ⟨rfl, d, rfl⟩
  exact ⟨rfl, h.below (Go.Proofs.YtjcbpejplnaakaaGreat.Nm.below_drewN _ d)⟩
theorem Rl.cells {ad : Addr} {n cc : Nat} (h : Rl w (.slice (some ad) n cc) l) : ∀ i u, (l.map U)[i]? = some u → w.cell? (ad.add i) = some u := by
  intro i u hu
  rw [List.getElem?_map] at hu
  obtain ⟨y, hy, rfl⟩ := Option.map_eq_some_iff.1 hu
  obtain ⟨b', c', e, h2⟩ := h.1
  cases e
  obtain ⟨g, e3, _, h5⟩ := h2 i y hy
  cases e3
  by_cases h0 : i = 0
  · subst h0; exact h5
  · simp only [Addr.add, h0, if_false]
    simpa using h5
theorem mapU (l : List Nat) : ∀ u ∈ l.map U, u.oneCell' = true := by intro u hu; obtain ⟨y, _, rfl⟩ := List.mem_map.1 hu; rfl
set_option maxHeartbeats 1600000 in
set_option maxRecDepth 100000 in
theorem rkeys_z {va vb : Value} {A B X : List Nat} (h2 : w.cell? ⟨g, 2, none⟩ = some va) (h3 : w.cell? ⟨g, 3, none⟩ = some vb) (hg : g < w.heap.size) (ra : Rr w X va A) (rb : Rr w X vb B) (hl : A.length + B.length ≤ 1000000000) : Calls Tryz.prog 9 #[.pointer (some ⟨g, 0, none⟩)] w fun e w' => ∃ u, e = .returned u ∧ w'.ownsRow w.heap.size 33 1 u (A ++ B).length ((A ++ B).map U) ∧ Below w.heap.size w w' := by
  obtain ⟨ba, ca, rfl⟩ := ra.form
  obtain ⟨bb, cb, rfl⟩ := rb.form
  have H : Hid (w.cell? ⟨g, 3, none⟩ = some (.slice bb B.length cb) ∧ g < w.heap.size) := ⟨h3, hg⟩
  have HL : Hid (A.length + B.length ≤ 1000000000) := hl
  have HA : Hid (Rl w (.slice ba A.length ca) A) := ra.rl
  have HB : Hid (Rl w (.slice bb B.length cb) B) := rb.rl
  obtain ⟨j0, hj, hj0, hj1, hj2⟩ := info_parts info33
  have HO : Hid (w.ownsRow w.heap.size 33 1 (.slice none 0 0) 0 []) := World.ownsRow_nil _ _ _ _
  clear hl ra rb h3 hg
  go_enter Tryz.func9, Tryz.ntmps9
  go_wp2_with (at_builtin; refine wpl_app _ rfl _ _ 22 rfl w.heap.size 33 j0 (.int .u64 0) 1 8 Tryz.underlying22 hj hj0 hj1 hj2 rfl (by decide) (.slice none 0 0) 0 [] rfl HO.out ba A.length ca (A.map U) rfl ?c1 ?c2 ?c3 ?c4 ?c5 ?c6 ?c7 ?_)
  case c1 => rw [List.length_map, Nat.mul_one]
  case c2 => exact HA.out.2 _ _ _ rfl
  case c3 => rintro ad rfl; exact HA.out.cells
  case c4 => exact mapU _
  case c5 => have := HL.out; unfold maxLen; omega
  case c6 => have := HL.out; omega
  case c7 => exact Nat.le_refl _
  intro v4 w4 ho hG hE
  have hb4 : Below w.heap.size w w4 := grown_below (base := w.heap.size) (Below.refl _ w) hG (fun k hk => by cases hk) (Nat.le_refl _)
  obtain ⟨b4, n4, k4, rfl⟩ := own_any ho
  have H4 : Hid (Below w.heap.size w w4 ∧ w4.ownsRow w.heap.size 33 1 (.slice b4 n4 k4) A.length (A.map U) ∧ Rl w4 (.slice bb B.length cb) B) := ⟨hb4, by simpa using ho, HB.out.below hb4⟩
  have c3 : w4.cell? ⟨g, 3, none⟩ = some (.slice bb B.length cb) := (cell_blk (hb4.block g H.out.2) 3).trans H.out.1
  clear ho hG hE HO h2 hb4
  go_wp2_with (at_builtin; refine wpl_app _ rfl _ _ 22 rfl w.heap.size 33 j0 (.int .u64 0) 1 8 Tryz.underlying22 hj hj0 hj1 hj2 rfl (by decide) (.slice b4 n4 k4) A.length (A.map U) rfl H4.out.2.1 bb B.length cb (B.map U) rfl ?d1 ?d2 ?d3 ?d4 ?d5 ?d6 ?d7 ?_)
  case d1 => rw [List.length_map, Nat.mul_one]
  case d2 => exact H4.out.2.2.2 _ _ _ rfl
  case d3 => rintro ad rfl; exact H4.out.2.2.cells
  case d4 => exact mapU _
  case d5 => have := HL.out; unfold maxLen; omega
  case d6 => have := HL.out; omega
  case d7 => exact H4.out.1.size
  intro v5 w5 ho hG hE
  have H5 : Hid (w5.ownsRow w.heap.size 33 1 v5 (A ++ B).length ((A ++ B).map U) ∧ Below w.heap.size w w5) := by
    refine ⟨by rw [List.length_append, List.map_append]; exact ho, grown_below (base := w.heap.size) H4.out.1 hG (fun k hk => (World.ownsRow.lt H4.out.2.1 k hk).1) H4.out.1.size⟩
  clear ho hG hE c3
  go_wp2
  go_ret
  exact ⟨_, rfl, H5.out.1, H5.out.2⟩
def st0 : St := ⟨[], [], [], [], fun _ => none, 0, 0, []⟩
def nilS : Value := .slice none 0 0
theorem rnew_mem (w : World) (k n : Nat) (F : List Nat) (hF : ∀ x ∈ F, x < ((w.alloc (.map #[] 0)).alloc (.cells #[I k, I n, .slice none 0 0, .slice none 0 0, .slice none 0 0, .slice none 0 0, .map (some w.heap.size), I 0, .slice none 0 0] 59)).heap.size) : Rc ((w.alloc (.map #[] 0)).alloc (.cells #[I k, I n, .slice none 0 0, .slice none 0 0, .slice none 0 0, .slice none 0 0, .map (some w.heap.size), I 0, .slice none 0 0] 59)) ((w.alloc (.map #[] 0)).alloc (.cells #[I k, I n, .slice none 0 0, .slice none 0 0, .slice none 0 0, .slice none 0 0, .map (some w.heap.size), I 0, .slice none 0 0] 59)) (w.heap.size + 1) w.heap.size k n F ⟨.slice none 0 0, .slice none 0 0, .slice none 0 0, .slice none 0 0, .slice none 0 0⟩ st0 := by
  have hb := ((Below.refl _ (w.alloc (.map #[] 0))).alloc (Nat.le_refl _) (.cells #[I k, I n, .slice none 0 0, .slice none 0 0, .slice none 0 0, .slice none 0 0, .map (some w.heap.size), I 0, .slice none 0 0] 59))
  have hk : IsBk ((w.alloc (.map #[] 0)).alloc (.cells #[I k, I n, .slice none 0 0, .slice none 0 0, .slice none 0 0, .slice none 0 0, .map (some w.heap.size), I 0, .slice none 0 0] 59)) w.heap.size (nInt st0.N) 0 := (IsBk.made w).same (hb.block _ (by simp))
  refine ⟨?_, Rr.nil _ _, Rr.nil _ _, Rr.nil _ _, Rr.nil _ _, World.ownsRow_nil _ _ _ _, hk, Fr.refl _ _, by simp, by simp; omega, hF⟩
  have := heap_alloc_new (w.alloc (.map #[] 0)) (.cells #[I k, I n, .slice none 0 0, .slice none 0 0, .slice none 0 0, .slice none 0 0, .map (some w.heap.size), I 0, .slice none 0 0] 59)
  have e : (w.alloc (.map #[] 0)).heap.size = w.heap.size + 1 := by simp
  rw [e] at this
  exact this
set_option maxHeartbeats 1600000 in
set_option maxRecDepth 100000 in
theorem rnew_ok (w : World) (k n : Nat) (hk : k < 6) (h1 : lN k ≤ n) (h2 : n ≤ 1048576) : Calls Tryz.prog 6 #[I (k : Nat), I (n : Nat)] w fun e w' => ∃ g m V, e = .returned (.tuple #[.pointer (some ⟨g, 0, none⟩), I 0]) ∧ (∀ F, (∀ x ∈ F, x < w'.heap.size) → Rc w' w' g m k n F V st0) ∧ Below w.heap.size w w' ∧ w.heap.size ≤ g ∧ w.heap.size ≤ m := by
  have hmm : ∀ u : World, (Instr.makeMap 57 none).run Tryz.prog u = .ok (.map (some u.heap.size)) (u.alloc (.map #[] 0)) := fun u => by kernel_rfl
  have hk0 : ¬ ((k : Int) < 0) := by omega
  have hk5 : (k : Int) ≤ 5 := by omega
  have hn1 : ((lN k : Nat) : Int) ≤ (n : Int) := by omega
  have hn2 : (n : Int) ≤ 1048576 := by omega
  clear hk h1 h2
  go_enter Tryz.func6, Tryz.ntmps6
  go_wp2_with fail
  refine (least_any w k).mono ?_
  rintro _ w ⟨rfl, rfl⟩
  go_wp2
  go_ret2
  refine ⟨_, _, _, rfl, rnew_mem w k n, ?_, ?_, Nat.le_refl _⟩
  · exact ((Below.refl _ w).alloc (Nat.le_refl _) _).trans (((Below.refl _ _).alloc (Nat.le_refl _) _).mono (by simp))
  · omega
end
end Go.Proofs.YtjcbpejplnaakaaGreat.Mr

set_option linter.unusedSimpArgs false
namespace Go.Proofs.YtjcbpejplnaakaaGreat.Mr
open Go.RowKit Go.Maps Go.Proofs.YtjcbpejplnaakaaGreat.Nm Go.Proofs.YtjcbpejplnaakaaGreat.Md

section
variable {w0 w w' w1 w4 : World} {g m kd c x : Nat} {V : Vs} {F : List Nat} {l A B G H O : List Nat} {N : Nat → Option Nat} {n p : Nat} {v : Value} {s : St}
theorem own_down {base b2 : Nat} {xs : List Value} (h : w.ownsRow base 33 1 v n xs) (hb : b2 ≤ base) : w.ownsRow b2 33 1 v n xs := by
  obtain ⟨q1, q2⟩ := h
  refine ⟨q1, q2.imp id ?_⟩
  rintro ⟨b, cap, cur, rfl, r2, r3⟩
  exact ⟨b, cap, cur, rfl, Nat.le_trans hb r2, r3⟩
theorem rhas_yes (hv : KRd w v l) (hl : l.length ≤ 1000000000) (hx : x ∈ l) : Calls Tryz.prog 21 #[v, U x] w fun e w' => e = .returned (.bool true) ∧ w' = w := by
  have := rhas_any (x := x) hv hl
  rw [decide_eq_true hx] at this
  exact this
theorem rhas_no (hv : KRd w v l) (hl : l.length ≤ 1000000000) (hx : x ∉ l) : Calls Tryz.prog 21 #[v, U x] w fun e w' => e = .returned (.bool false) ∧ w' = w := by
  have := rhas_any (x := x) hv hl
  rw [decide_eq_false hx] at this
  exact this
theorem full_yes (h : Rc w0 w g m kd c F V s) (hl : s.A.length + s.B.length ≤ 1000000000) (hx : s.A.length + s.B.length = c) : Calls Tryz.prog 37 #[.pointer (some ⟨g, 0, none⟩)] w fun e w' => e = .returned (.bool true) ∧ Rc w0 w' g m kd c F V s := by
  have := full_any h hl
  rw [decide_eq_true hx] at this
  exact this
theorem full_no (h : Rc w0 w g m kd c F V s) (hl : s.A.length + s.B.length ≤ 1000000000) (hx : s.A.length + s.B.length ≠ c) : Calls Tryz.prog 37 #[.pointer (some ⟨g, 0, none⟩)] w fun e w' => e = .returned (.bool false) ∧ Rc w0 w' g m kd c F V s := by
  have := full_any h hl
  rw [decide_eq_false hx] at this
  exact this
def nset (N : Nat → Option Nat) (x v : Nat) : Nat → Option Nat := fun k => if k = x then some v else N k
def ncnt (N : Nat → Option Nat) (n x : Nat) : Nat := if (N x).isSome then n else n + 1
set_option maxHeartbeats 3200000 in
set_option maxRecDepth 100000 in
theorem frA (h : Rc w0 w g m kd c F V ⟨A, B, G, H, N, n, p, O⟩) (hl : A.length + B.length + G.length + H.length + O.length ≤ 100000000) (hx : x ∈ A) : Calls Tryz.prog 34 #[.pointer (some ⟨g, 0, none⟩), U x] w fun e w' => e = .returned (.tuple #[]) ∧ ∃ V', Rc w0 w' g m kd c F V' ⟨(x :: wo A x), B, G, H, N, n, p, O⟩ := by
  obtain ⟨va, vb, vg, vh, vo⟩ := V
  have H0 : Hid (Rc w0 w g m kd c F ⟨va, vb, vg, vh, vo⟩ ⟨A, B, G, H, N, n, p, O⟩) := h
  have HL : Hid (A.length + B.length + G.length + H.length + O.length ≤ 100000000) := hl
  have HX : Hid (x ∈ A) := hx
  clear h hl hx
  go_enter Tryz.func34, Tryz.ntmps34
  have c1 : w.cell? ⟨g, 2, none⟩ = some va := H0.out.cell 2
  go_wp2_with fail
  refine (rhas_yes H0.out.ra.rl.1 (by have hl := HL.out; (try simp only [List.length_append, List.length_cons, List.length_nil] at hl ⊢); omega) HX.out).mono ?_
  rintro _ w ⟨rfl, rfl⟩
  clear c1
  have c2 : w.cell? ⟨g, 2, none⟩ = some va := H0.out.cell 2
  go_wp2_with fail
  refine (without_any (x := x) H0.out.ra.rl.1 (by have hl := HL.out; (try simp only [List.length_append, List.length_cons, List.length_nil] at hl ⊢); omega)).mono ?_
  rintro _ w2 ⟨u, rfl, ho2, hb2⟩
  obtain ⟨b2, n2, k2, rfl⟩ := own_any ho2
  have HU2 : Hid (Below w.heap.size w w2 ∧ Rl w2 (.slice b2 n2 k2) (wo A x)) := ⟨hb2, Rl.own ho2⟩
  clear ho2 hb2 c2
  go_wp2_with fail
  refine (ahead_any (x := x) HU2.out.2 (Nat.le_trans (wo_len _ _) (by have hl := HL.out; (try simp only [List.length_append, List.length_cons, List.length_nil] at hl ⊢); omega))).mono ?_
  rintro _ w3 ⟨u, rfl, hp3, hq3⟩
  obtain ⟨b3, n3, k3, rfl⟩ := own_any hp3
  have hb3 := HU2.out.1.trans (hq3.mono HU2.out.1.size)
  have ho3 := own_down hp3 HU2.out.1.size
  clear hp3 hq3 HU2
  have h3 := H0.out.below hb3
  have e3 : w3.cell? ⟨g, 2, none⟩ = some va := h3.cell 2
  have f3 : w3.frozen? ⟨g, 2, none⟩ = false := h3.nf 2
  have H3 : Hid (Rc w0 (w3.setCell ⟨g, 2, none⟩ (.slice b3 n3 k3)) g m kd c F ⟨.slice b3 n3 k3, vb, vg, vh, vo⟩ ⟨(x :: wo A x), B, G, H, N, n, p, O⟩) := H0.out.setA hb3 ho3
  clear h3 hb3 ho3 H0
  go_wp2
  go_end0
  exact ⟨rfl, _, H3.out⟩
set_option maxHeartbeats 3200000 in
set_option maxRecDepth 100000 in
theorem frB (h : Rc w0 w g m kd c F V ⟨A, B, G, H, N, n, p, O⟩) (hl : A.length + B.length + G.length + H.length + O.length ≤ 100000000) (hx : x ∉ A) : Calls Tryz.prog 34 #[.pointer (some ⟨g, 0, none⟩), U x] w fun e w' => e = .returned (.tuple #[]) ∧ ∃ V', Rc w0 w' g m kd c F V' ⟨A, (x :: wo B x), G, H, N, n, p, O⟩ := by
  obtain ⟨va, vb, vg, vh, vo⟩ := V
  have H0 : Hid (Rc w0 w g m kd c F ⟨va, vb, vg, vh, vo⟩ ⟨A, B, G, H, N, n, p, O⟩) := h
  have HL : Hid (A.length + B.length + G.length + H.length + O.length ≤ 100000000) := hl
  have HX : Hid (x ∉ A) := hx
  clear h hl hx
  go_enter Tryz.func34, Tryz.ntmps34
  have c1 : w.cell? ⟨g, 2, none⟩ = some va := H0.out.cell 2
  go_wp2_with fail
  refine (rhas_no H0.out.ra.rl.1 (by have hl := HL.out; (try simp only [List.length_append, List.length_cons, List.length_nil] at hl ⊢); omega) HX.out).mono ?_
  rintro _ w ⟨rfl, rfl⟩
  clear c1
  have c2 : w.cell? ⟨g, 3, none⟩ = some vb := H0.out.cell 3
  go_wp2_with fail
  refine (without_any (x := x) H0.out.rb.rl.1 (by have hl := HL.out; (try simp only [List.length_append, List.length_cons, List.length_nil] at hl ⊢); omega)).mono ?_
  rintro _ w2 ⟨u, rfl, ho2, hb2⟩
  obtain ⟨b2, n2, k2, rfl⟩ := own_any ho2
  have HU2 : Hid (Below w.heap.size w w2 ∧ Rl w2 (.slice b2 n2 k2) (wo B x)) := ⟨hb2, Rl.own ho2⟩
  clear ho2 hb2 c2
  go_wp2_with fail
  refine (ahead_any (x := x) HU2.out.2 (Nat.le_trans (wo_len _ _) (by have hl := HL.out; (try simp only [List.length_append, List.length_cons, List.length_nil] at hl ⊢); omega))).mono ?_
  rintro _ w3 ⟨u, rfl, hp3, hq3⟩
  obtain ⟨b3, n3, k3, rfl⟩ := own_any hp3
  have hb3 := HU2.out.1.trans (hq3.mono HU2.out.1.size)
  have ho3 := own_down hp3 HU2.out.1.size
  clear hp3 hq3 HU2
  have h3 := H0.out.below hb3
  have e3 : w3.cell? ⟨g, 3, none⟩ = some vb := h3.cell 3
  have f3 : w3.frozen? ⟨g, 3, none⟩ = false := h3.nf 3
  have H3 : Hid (Rc w0 (w3.setCell ⟨g, 3, none⟩ (.slice b3 n3 k3)) g m kd c F ⟨va, .slice b3 n3 k3, vg, vh, vo⟩ ⟨A, (x :: wo B x), G, H, N, n, p, O⟩) := H0.out.setB hb3 ho3
  clear h3 hb3 ho3 H0
  go_wp2
  go_end0
  exact ⟨rfl, _, H3.out⟩
set_option maxHeartbeats 3200000 in
set_option maxRecDepth 100000 in
theorem hit0 (h : Rc w0 w g m kd c F V ⟨A, B, G, H, N, n, p, O⟩) (hl : A.length + B.length + G.length + H.length + O.length ≤ 100000000) (hk : kd = 0) : Calls Tryz.prog 22 #[.pointer (some ⟨g, 0, none⟩), U x] w fun e w' => e = .returned (.tuple #[]) ∧ ∃ V', Rc w0 w' g m kd c F V' ⟨A, B, G, H, N, n, p, O⟩ := by
  obtain ⟨va, vb, vg, vh, vo⟩ := V
  have H0 : Hid (Rc w0 w g m kd c F ⟨va, vb, vg, vh, vo⟩ ⟨A, B, G, H, N, n, p, O⟩) := h
  have HL : Hid (A.length + B.length + G.length + H.length + O.length ≤ 100000000) := hl
  have HKD : Hid (kd = 0) := hk
  clear h hl hk
  go_enter Tryz.func22, Tryz.ntmps22
  have c00 : w.cell? ⟨g, 0, none⟩ = some (I 0) := by rw [show (0 : Int) = ((kd : Nat) : Int) by rw [HKD.out]; rfl]; exact H0.out.cell 0
  go_wp2
  go_end0
  exact ⟨rfl, _, H0.out⟩
set_option maxHeartbeats 3200000 in
set_option maxRecDepth 100000 in
theorem hit1 (h : Rc w0 w g m kd c F V ⟨A, B, G, H, N, n, p, O⟩) (hl : A.length + B.length + G.length + H.length + O.length ≤ 100000000) (hk : kd = 1) (hx : x ∈ A) : Calls Tryz.prog 22 #[.pointer (some ⟨g, 0, none⟩), U x] w fun e w' => e = .returned (.tuple #[]) ∧ ∃ V', Rc w0 w' g m kd c F V' ⟨(x :: wo A x), B, G, H, N, n, p, O⟩ := by
  obtain ⟨va, vb, vg, vh, vo⟩ := V
  have H0 : Hid (Rc w0 w g m kd c F ⟨va, vb, vg, vh, vo⟩ ⟨A, B, G, H, N, n, p, O⟩) := h
  have HL : Hid (A.length + B.length + G.length + H.length + O.length ≤ 100000000) := hl
  have HKD : Hid (kd = 1) := hk
  have HX : Hid (x ∈ A) := hx
  clear h hl hk hx
  go_enter Tryz.func22, Tryz.ntmps22
  have c00 : w.cell? ⟨g, 0, none⟩ = some (I 1) := by rw [show (1 : Int) = ((kd : Nat) : Int) by rw [HKD.out]; rfl]; exact H0.out.cell 0
  go_wp2_with fail
  refine (frA H0.out HL.out HX.out).mono ?_
  rintro _ w1 ⟨rfl, V', h1⟩
  have H1 : Hid (Rc w0 w1 g m kd c F V' ⟨(x :: wo A x), B, G, H, N, n, p, O⟩) := h1
  clear h1
  go_wp2
  go_end0
  exact ⟨rfl, _, H1.out⟩
set_option maxHeartbeats 3200000 in
set_option maxRecDepth 100000 in
theorem hit2 (h : Rc w0 w g m kd c F V ⟨A, B, G, H, N, n, p, O⟩) (hl : A.length + B.length + G.length + H.length + O.length ≤ 100000000) (hk : kd = 2) (hx : x < 18446744073709551616) (hn : n < maxLen) : Calls Tryz.prog 22 #[.pointer (some ⟨g, 0, none⟩), U x] w fun e w' => e = .returned (.tuple #[]) ∧ ∃ V', Rc w0 w' g m kd c F V' ⟨A, B, G, H, (nset N x 1), (ncnt N n x), p, O⟩ := by
  obtain ⟨va, vb, vg, vh, vo⟩ := V
  have H0 : Hid (Rc w0 w g m kd c F ⟨va, vb, vg, vh, vo⟩ ⟨A, B, G, H, N, n, p, O⟩) := h
  have HL : Hid (A.length + B.length + G.length + H.length + O.length ≤ 100000000) := hl
  have HKD : Hid (kd = 2) := hk
  have HN : Hid (x < 18446744073709551616 ∧ n < maxLen) := ⟨hx, hn⟩
  clear h hl hk hx hn
  go_enter Tryz.func22, Tryz.ntmps22
  have c00 : w.cell? ⟨g, 0, none⟩ = some (I 2) := by rw [show (2 : Int) = ((kd : Nat) : Int) by rw [HKD.out]; rfl]; exact H0.out.cell 0
  have c1 : w.cell? ⟨g, 6, none⟩ = some ((.map (some m))) := H0.out.cell 6
  obtain ⟨w1, hu1, hk1, hg1⟩ := H0.out.bk.put (k := x) HN.out.1 HN.out.2 1
  have H1 : Hid (Rc w0 w1 g m kd c F ⟨va, vb, vg, vh, vo⟩ ⟨A, B, G, H, (nset N x 1), (ncnt N n x), p, O⟩) := H0.out.num (v := 1) hk1 hg1
  clear hk1 hg1 H0
  go_wp2
  go_end0
  exact ⟨rfl, _, H1.out⟩
set_option maxHeartbeats 3200000 in
set_option maxRecDepth 100000 in
theorem hit3a (h : Rc w0 w g m kd c F V ⟨A, B, G, H, N, n, p, O⟩) (hl : A.length + B.length + G.length + H.length + O.length ≤ 100000000) (hk : kd = 3) (hx : x ∉ B) : Calls Tryz.prog 22 #[.pointer (some ⟨g, 0, none⟩), U x] w fun e w' => e = .returned (.tuple #[]) ∧ ∃ V', Rc w0 w' g m kd c F V' ⟨A, B, G, H, N, n, p, O⟩ := by
  obtain ⟨va, vb, vg, vh, vo⟩ := V
  have H0 : Hid (Rc w0 w g m kd c F ⟨va, vb, vg, vh, vo⟩ ⟨A, B, G, H, N, n, p, O⟩) := h
  have HL : Hid (A.length + B.length + G.length + H.length + O.length ≤ 100000000) := hl
  have HKD : Hid (kd = 3) := hk
  have HX : Hid (x ∉ B) := hx
  clear h hl hk hx
  go_enter Tryz.func22, Tryz.ntmps22
  have c00 : w.cell? ⟨g, 0, none⟩ = some (I 3) := by rw [show (3 : Int) = ((kd : Nat) : Int) by rw [HKD.out]; rfl]; exact H0.out.cell 0
  have c1 : w.cell? ⟨g, 3, none⟩ = some vb := H0.out.cell 3
  go_wp2_with fail
  refine (rhas_no H0.out.rb.rl.1 (by have hl := HL.out; (try simp only [List.length_append, List.length_cons, List.length_nil] at hl ⊢); omega) HX.out).mono ?_
  rintro _ w ⟨rfl, rfl⟩
  clear c1
  go_wp2
  go_end0
  exact ⟨rfl, _, H0.out⟩
set_option maxHeartbeats 3200000 in
set_option maxRecDepth 100000 in
theorem hit3b (h : Rc w0 w g m kd c F V ⟨A, B, G, H, N, n, p, O⟩) (hl : A.length + B.length + G.length + H.length + O.length ≤ 100000000) (hk : kd = 3) (hx : x ∈ B) (hy : x ∉ A) : Calls Tryz.prog 22 #[.pointer (some ⟨g, 0, none⟩), U x] w fun e w' => e = .returned (.tuple #[]) ∧ ∃ V', Rc w0 w' g m kd c F V' ⟨A, (x :: wo B x), G, H, N, n, p, O⟩ := by
  obtain ⟨va, vb, vg, vh, vo⟩ := V
  have H0 : Hid (Rc w0 w g m kd c F ⟨va, vb, vg, vh, vo⟩ ⟨A, B, G, H, N, n, p, O⟩) := h
  have HL : Hid (A.length + B.length + G.length + H.length + O.length ≤ 100000000) := hl
  have HKD : Hid (kd = 3) := hk
  have HX : Hid (x ∈ B ∧ x ∉ A) := ⟨hx, hy⟩
  clear h hl hk hx hy
  go_enter Tryz.func22, Tryz.ntmps22
  have c00 : w.cell? ⟨g, 0, none⟩ = some (I 3) := by rw [show (3 : Int) = ((kd : Nat) : Int) by rw [HKD.out]; rfl]; exact H0.out.cell 0
  have c1 : w.cell? ⟨g, 3, none⟩ = some vb := H0.out.cell 3
  go_wp2_with fail
  refine (rhas_yes H0.out.rb.rl.1 (by have hl := HL.out; (try simp only [List.length_append, List.length_cons, List.length_nil] at hl ⊢); omega) HX.out.1).mono ?_
  rintro _ w ⟨rfl, rfl⟩
  clear c1
  go_wp2_with fail
  refine (frB H0.out HL.out HX.out.2).mono ?_
  rintro _ w1 ⟨rfl, V', h1⟩
  have H1 : Hid (Rc w0 w1 g m kd c F V' ⟨A, (x :: wo B x), G, H, N, n, p, O⟩) := h1
  clear h1
  go_wp2
  go_end0
  exact ⟨rfl, _, H1.out⟩
set_option maxHeartbeats 3200000 in
set_option maxRecDepth 100000 in
theorem hit5 (h : Rc w0 w g m kd c F V ⟨A, B, G, H, N, n, p, O⟩) (hl : A.length + B.length + G.length + H.length + O.length ≤ 100000000) (hk : kd = 5) : Calls Tryz.prog 22 #[.pointer (some ⟨g, 0, none⟩), U x] w fun e w' => e = .returned (.tuple #[]) ∧ ∃ V', Rc w0 w' g m kd c F V' ⟨(wo A x), (x :: wo B x), G, H, N, n, p, O⟩ := by
  obtain ⟨va, vb, vg, vh, vo⟩ := V
  have H0 : Hid (Rc w0 w g m kd c F ⟨va, vb, vg, vh, vo⟩ ⟨A, B, G, H, N, n, p, O⟩) := h
  have HL : Hid (A.length + B.length + G.length + H.length + O.length ≤ 100000000) := hl
  have HKD : Hid (kd = 5) := hk
  clear h hl hk
  go_enter Tryz.func22, Tryz.ntmps22
  have c00 : w.cell? ⟨g, 0, none⟩ = some (I 5) := by rw [show (5 : Int) = ((kd : Nat) : Int) by rw [HKD.out]; rfl]; exact H0.out.cell 0
  have c1 : w.cell? ⟨g, 2, none⟩ = some va := H0.out.cell 2
  go_wp2_with fail
  refine (without_any (x := x) H0.out.ra.rl.1 (by have hl := HL.out; (try simp only [List.length_append, List.length_cons, List.length_nil] at hl ⊢); omega)).mono ?_
  rintro _ w1 ⟨u, rfl, ho1, hb1⟩
  obtain ⟨b1, n1, k1, rfl⟩ := own_any ho1
  clear c1
  have h1 := H0.out.below hb1
  have e1 : w1.cell? ⟨g, 2, none⟩ = some va := h1.cell 2
  have f1 : w1.frozen? ⟨g, 2, none⟩ = false := h1.nf 2
  have H1 : Hid (Rc w0 (w1.setCell ⟨g, 2, none⟩ (.slice b1 n1 k1)) g m kd c F ⟨.slice b1 n1 k1, vb, vg, vh, vo⟩ ⟨(wo A x), B, G, H, N, n, p, O⟩) := H0.out.setA hb1 ho1
  clear h1 hb1 ho1 H0
  go_upto_region 13 with fail
  generalize w1.setCell ⟨g, 2, none⟩ (.slice b1 n1 k1) = v1 at *
  clear e1 f1
  have c2 : v1.cell? ⟨g, 3, none⟩ = some vb := H1.out.cell 3
  go_wp2_with fail
  refine (without_any (x := x) H1.out.rb.rl.1 (by have hl := HL.out; (try simp only [List.length_append, List.length_cons, List.length_nil] at hl ⊢); omega)).mono ?_
  rintro _ w2 ⟨u, rfl, ho2, hb2⟩
  obtain ⟨b2, n2, k2, rfl⟩ := own_any ho2
  have HU2 : Hid (Below v1.heap.size v1 w2 ∧ Rl w2 (.slice b2 n2 k2) (wo B x)) := ⟨hb2, Rl.own ho2⟩
  clear ho2 hb2 c2
  go_wp2_with fail
  refine (ahead_any (x := x) HU2.out.2 (Nat.le_trans (wo_len _ _) (by have hl := HL.out; (try simp only [List.length_append, List.length_cons, List.length_nil] at hl ⊢); omega))).mono ?_
  rintro _ w3 ⟨u, rfl, hp3, hq3⟩
  obtain ⟨b3, n3, k3, rfl⟩ := own_any hp3
  have hb3 := HU2.out.1.trans (hq3.mono HU2.out.1.size)
  have ho3 := own_down hp3 HU2.out.1.size
  clear hp3 hq3 HU2
  have h3 := H1.out.below hb3
  have e3 : w3.cell? ⟨g, 3, none⟩ = some vb := h3.cell 3
  have f3 : w3.frozen? ⟨g, 3, none⟩ = false := h3.nf 3
  have H3 : Hid (Rc w0 (w3.setCell ⟨g, 3, none⟩ (.slice b3 n3 k3)) g m kd c F ⟨.slice b1 n1 k1, .slice b3 n3 k3, vg, vh, vo⟩ ⟨(wo A x), (x :: wo B x), G, H, N, n, p, O⟩) := H1.out.setB hb3 ho3
  clear h3 hb3 ho3 H1
  go_wp2
  go_end0
  exact ⟨rfl, _, H3.out⟩
end
end Go.Proofs.YtjcbpejplnaakaaGreat.Mr

set_option linter.unusedSimpArgs false
namespace Go.Proofs.YtjcbpejplnaakaaGreat.Mr
open Go.RowKit Go.Maps Go.Proofs.YtjcbpejplnaakaaGreat.Nm Go.Proofs.YtjcbpejplnaakaaGreat.Md

section
variable {w0 w w' w1 w4 : World} {g m kd c x y z : Nat} {V : Vs} {X X' K : List Nat} {l A B G H O : List Nat} {N : Nat → Option Nat} {n p : Nat} {v : Value} {s s' : St}
/-- a cache of the reference at rest, apart from blocks X -/
structure Rz (w : World) (g m kd c : Nat) (X : List Nat) (V : Vs) (s : St) : Prop where
  blk : w.heap[g]? = some (.cells #[I kd, I c, V.a, V.b, V.g, V.h, .map (some m), I s.p, V.o] 59 (0, 0))
  ra : Rr w (g :: m :: X) V.a s.A
  rb : Rr w (g :: m :: X) V.b s.B
  rg : Rr w (g :: m :: X) V.g s.G
  rh : Rr w (g :: m :: X) V.h s.H
  bk : IsBk w m (nInt s.N) s.n
  lt : ∀ x ∈ X, x < w.heap.size
theorem Rr.less (h : Rr w X v l) (hX : ∀ x ∈ X', x ∈ X) : Rr w X' v l := ⟨h.1, fun b e q => h.2 b e (hX b q)⟩
theorem Rc.rest (h : Rc w0 w g m kd c X V s) : Rz w g m kd c X V s := by
  have k : ∀ x ∈ g :: m :: X, x ∈ g :: m :: (V.o.ownBlock.toList ++ X) := fun x hx => by
    simp only [List.mem_cons, List.mem_append] at hx ⊢
    rcases hx with e | e | e
    · exact Or.inl e
    · exact Or.inr (Or.inl e)
    · exact Or.inr (Or.inr (Or.inr e))
  exact ⟨h.blk, h.ra.less k, h.rb.less k, h.rg.less k, h.rh.less k, h.bk, fun x hx => Nat.lt_of_lt_of_le (h.lt.2.2 x hx) h.fr.size⟩
theorem Rz.gm (h : Rz w g m kd c X V s) : g ≠ m := h.bk.ne_cells h.blk
theorem Rz.gl (h : Rz w g m kd c X V s) : g < w.heap.size := blk_lt h.blk
theorem Rz.start (h : Rz w g m kd c X V s) : Rc w (w.setCell ⟨g, 8, none⟩ (.slice none 0 0)) g m kd c X { V with o := .slice none 0 0 } { s with O := [] } :=
  ⟨set_blk h.blk, h.ra.set _ _, h.rb.set _ _, h.rg.set _ _, h.rh.set _ _, World.ownsRow_nil _ _ _ _, h.bk.same (set_other h.gm.symm), Fr.set w _ _ (by simp), h.gl, h.bk.lt, h.lt⟩
/-- it stays where only blocks that it avoids have turned -/
theorem Rz.move (h : Rz w g m kd c X V s) (hf : Fr K w w') (hK : ∀ x ∈ K, x ∈ X ∨ w.heap.size ≤ x) (hg : g ∉ K) (hm : m ∉ K) (hX : ∀ x ∈ X', x < w'.heap.size ∧ (x ∈ X ∨ w.heap.size ≤ x)) : Rz w' g m kd c X' V s := by
  have key : ∀ {r : Value} {k : List Nat}, Rr w (g :: m :: X) r k → Rr w' (g :: m :: X') r k := fun {r k} hr => by
    refine ⟨own_blk hr.1 fun b e => hf.block b (hr.lt b e) fun q => ?_, fun b e q => ?_⟩
    · rcases hK b q with q | q
      · exact hr.2 b e (by simp [q])
      · have := hr.lt b e; omega
    · have n1 := hr.2 b e
      have n2 := hr.lt b e
      simp only [List.mem_cons, not_or] at n1 q
      rcases q with q | q | q
      · exact n1.1 q
      · exact n1.2.1 q
      · rcases (hX b q).2 with q | q
        · exact n1.2.2 q
        · omega
  exact ⟨(hf.block g h.gl hg).trans h.blk, key h.ra, key h.rb, key h.rg, key h.rh, h.bk.same (hf.block m h.bk.lt hm), fun x hx => (hX x hx).1⟩
theorem Rz.below (h : Rz w g m kd c X V s) (hb : Below w.heap.size w w') : Rz w' g m kd c X V s :=
  h.move (K := []) (Fr.of_below hb) (by simp) (by simp) (by simp) fun x hx => ⟨Nat.lt_of_lt_of_le (h.lt x hx) hb.size, Or.inl hx⟩
theorem Rz.cell (h : Rz w g m kd c X V s) (j : Nat) : w.cell? ⟨g, j, none⟩ = #[I kd, I c, V.a, V.b, V.g, V.h, .map (some m), I s.p, V.o][j]? := by simp only [World.cell?, h.blk]; rfl
/-- Keys of a cache at rest -/
theorem Rz.keys (h : Rz w g m kd c X V s) (hl : s.A.length + s.B.length ≤ 1000000000) : Calls Tryz.prog 9 #[.pointer (some ⟨g, 0, none⟩)] w fun e w' => ∃ u, e = .returned u ∧ w'.ownsRow w.heap.size 33 1 u (s.A ++ s.B).length ((s.A ++ s.B).map U) ∧ Below w.heap.size w w' := rkeys_z (h.cell 2) (h.cell 3) h.gl h.ra h.rb hl
theorem Rz.nf (h : Rz w g m kd c X V s) (j : Nat) : w.frozen? ⟨g, j, none⟩ = false := by simp [World.frozen?, h.blk]
set_option maxHeartbeats 3200000 in
set_option maxRecDepth 100000 in
theorem acc_hitA {Q : St → Prop} (h : Rz w g m kd c X V s) (hx : x ∈ s.A) (hl : s.A.length ≤ 1000000000 ∧ s.B.length ≤ 1000000000) (hh : ∀ w1 V1, Rc w w1 g m kd c X V1 { s with O := [] } → Calls Tryz.prog 22 #[.pointer (some ⟨g, 0, none⟩), U x] w1 fun e w' => e = .returned (.tuple #[]) ∧ ∃ V' s', Q s' ∧ Rc w w' g m kd c X V' s') : Calls Tryz.prog 7 #[.pointer (some ⟨g, 0, none⟩), U x] w fun e w' => e = .returned (.tuple #[.bool true, .slice none 0 0]) ∧ ∃ V' s', Q s' ∧ Rz w' g m kd c X V' s' ∧ Fr [g, m] w w' := by
  have H : Hid (Rz w g m kd c X V s) := h
  have HC : Hid (Rc w (w.setCell ⟨g, 8, none⟩ (.slice none 0 0)) g m kd c X { V with o := .slice none 0 0 } { s with O := [] }) := h.start
  have HX : Hid (x ∈ s.A) := hx
  have HL : Hid (s.A.length ≤ 1000000000 ∧ s.B.length ≤ 1000000000) := hl
  have HH : Hid (∀ w1 V1, Rc w w1 g m kd c X V1 { s with O := [] } → Calls Tryz.prog 22 #[.pointer (some ⟨g, 0, none⟩), U x] w1 fun e w' => e = .returned (.tuple #[]) ∧ ∃ V' s', Q s' ∧ Rc w w' g m kd c X V' s') := hh
  have c8 : w.cell? ⟨g, 8, none⟩ = some V.o := h.cell 8
  have f8 : w.frozen? ⟨g, 8, none⟩ = false := h.nf 8
  clear h hx hl hh
  go_enter Tryz.func7, Tryz.ntmps7
  go_upto_region 2 with fail
  generalize w.setCell ⟨g, 8, none⟩ (.slice none 0 0) = w1 at *
  clear c8 f8
  have c2 : w1.cell? ⟨g, 2, none⟩ = some V.a := HC.out.cell 2
  have c3 : w1.cell? ⟨g, 3, none⟩ = some V.b := HC.out.cell 3
  go_wp2_with fail
  refine (rhas_yes HC.out.ra.rl.1 HL.out.1 HX.out).mono ?_
  rintro _ w1 ⟨rfl, rfl⟩
  clear c2 c3
  go_wp2_with fail
  refine (HH.out _ _ HC.out).mono ?_
  rintro _ w2 ⟨rfl, V2, s2, hq2, h2⟩
  have H2 : Hid (Q s2 ∧ Rc w w2 g m kd c X V2 s2) := ⟨hq2, h2⟩
  clear hq2 h2 HC
  go_wp2
  go_ret2
  exact ⟨rfl, V2, s2, H2.out.1, H2.out.2.rest, H2.out.2.fr⟩
set_option maxHeartbeats 3200000 in
set_option maxRecDepth 100000 in
theorem acc_hitB {Q : St → Prop} (h : Rz w g m kd c X V s) (hx : x ∉ s.A ∧ x ∈ s.B) (hl : s.A.length ≤ 1000000000 ∧ s.B.length ≤ 1000000000) (hh : ∀ w1 V1, Rc w w1 g m kd c X V1 { s with O := [] } → Calls Tryz.prog 22 #[.pointer (some ⟨g, 0, none⟩), U x] w1 fun e w' => e = .returned (.tuple #[]) ∧ ∃ V' s', Q s' ∧ Rc w w' g m kd c X V' s') : Calls Tryz.prog 7 #[.pointer (some ⟨g, 0, none⟩), U x] w fun e w' => e = .returned (.tuple #[.bool true, .slice none 0 0]) ∧ ∃ V' s', Q s' ∧ Rz w' g m kd c X V' s' ∧ Fr [g, m] w w' := by
  have H : Hid (Rz w g m kd c X V s) := h
  have HC : Hid (Rc w (w.setCell ⟨g, 8, none⟩ (.slice none 0 0)) g m kd c X { V with o := .slice none 0 0 } { s with O := [] }) := h.start
  have HX : Hid (x ∉ s.A ∧ x ∈ s.B) := hx
  have HL : Hid (s.A.length ≤ 1000000000 ∧ s.B.length ≤ 1000000000) := hl
  have HH : Hid (∀ w1 V1, Rc w w1 g m kd c X V1 { s with O := [] } → Calls Tryz.prog 22 #[.pointer (some ⟨g, 0, none⟩), U x] w1 fun e w' => e = .returned (.tuple #[]) ∧ ∃ V' s', Q s' ∧ Rc w w' g m kd c X V' s') := hh
  have c8 : w.cell? ⟨g, 8, none⟩ = some V.o := h.cell 8
  have f8 : w.frozen? ⟨g, 8, none⟩ = false := h.nf 8
  clear h hx hl hh
  go_enter Tryz.func7, Tryz.ntmps7
  go_upto_region 2 with fail
  generalize w.setCell ⟨g, 8, none⟩ (.slice none 0 0) = w1 at *
  clear c8 f8
  have c2 : w1.cell? ⟨g, 2, none⟩ = some V.a := HC.out.cell 2
  have c3 : w1.cell? ⟨g, 3, none⟩ = some V.b := HC.out.cell 3
  go_wp2_with fail
  refine (rhas_no HC.out.ra.rl.1 HL.out.1 HX.out.1).mono ?_
  rintro _ w1 ⟨rfl, rfl⟩
  go_wp2_with fail
  refine (rhas_yes HC.out.rb.rl.1 HL.out.2 HX.out.2).mono ?_
  rintro _ w1 ⟨rfl, rfl⟩
  clear c2 c3
  go_wp2_with fail
  refine (HH.out _ _ HC.out).mono ?_
  rintro _ w2 ⟨rfl, V2, s2, hq2, h2⟩
  have H2 : Hid (Q s2 ∧ Rc w w2 g m kd c X V2 s2) := ⟨hq2, h2⟩
  clear hq2 h2 HC
  go_wp2
  go_ret2
  exact ⟨rfl, V2, s2, H2.out.1, H2.out.2.rest, H2.out.2.fr⟩
set_option maxHeartbeats 3200000 in
set_option maxRecDepth 100000 in
theorem acc_3 {Q : St → Prop} (h : Rz w g m kd c X V s) (hx : x ∉ s.A ∧ x ∉ s.B) (hl : s.A.length ≤ 1000000000 ∧ s.B.length ≤ 1000000000) (hk : kd = 3) (hh : ∀ w1 V1, Rc w w1 g m kd c X V1 { s with O := [] } → Calls Tryz.prog 23 #[.pointer (some ⟨g, 0, none⟩), U x] w1 fun e w' => e = .returned (.tuple #[]) ∧ ∃ V' s', Q s' ∧ Rc w w' g m kd c X V' s') : Calls Tryz.prog 7 #[.pointer (some ⟨g, 0, none⟩), U x] w fun e w' => ∃ V' s', e = .returned (.tuple #[.bool false, V'.o]) ∧ Q s' ∧ Rz w' g m kd c X V' s' ∧ Fr [g, m] w w' ∧ KRd w' V'.o s'.O := by
  have H : Hid (Rz w g m kd c X V s) := h
  have HC : Hid (Rc w (w.setCell ⟨g, 8, none⟩ (.slice none 0 0)) g m kd c X { V with o := .slice none 0 0 } { s with O := [] }) := h.start
  have HX : Hid (x ∉ s.A ∧ x ∉ s.B) := hx
  have HL : Hid (s.A.length ≤ 1000000000 ∧ s.B.length ≤ 1000000000) := hl
  have HH : Hid (∀ w1 V1, Rc w w1 g m kd c X V1 { s with O := [] } → Calls Tryz.prog 23 #[.pointer (some ⟨g, 0, none⟩), U x] w1 fun e w' => e = .returned (.tuple #[]) ∧ ∃ V' s', Q s' ∧ Rc w w' g m kd c X V' s') := hh
  have c8 : w.cell? ⟨g, 8, none⟩ = some V.o := h.cell 8
  have f8 : w.frozen? ⟨g, 8, none⟩ = false := h.nf 8
  have HKD : Hid (kd = 3) := hk
  clear hk
  clear h hx hl hh
  go_enter Tryz.func7, Tryz.ntmps7
  go_upto_region 2 with fail
  generalize w.setCell ⟨g, 8, none⟩ (.slice none 0 0) = w1 at *
  clear c8 f8
  have c2 : w1.cell? ⟨g, 2, none⟩ = some V.a := HC.out.cell 2
  have c3 : w1.cell? ⟨g, 3, none⟩ = some V.b := HC.out.cell 3
  go_wp2_with fail
  refine (rhas_no HC.out.ra.rl.1 HL.out.1 HX.out.1).mono ?_
  rintro _ w1 ⟨rfl, rfl⟩
  go_wp2_with fail
  refine (rhas_no HC.out.rb.rl.1 HL.out.2 HX.out.2).mono ?_
  rintro _ w1 ⟨rfl, rfl⟩
  clear c2 c3
  have c0 : w1.cell? ⟨g, 0, none⟩ = some (I 3) := by rw [show (3 : Int) = ((kd : Nat) : Int) by rw [HKD.out]; rfl]; exact HC.out.cell 0
  go_wp2_with fail
  clear c0
  refine (HH.out _ _ HC.out).mono ?_
  rintro _ w2 ⟨rfl, V2, s2, hq2, h2⟩
  have H2 : Hid (Q s2 ∧ Rc w w2 g m kd c X V2 s2) := ⟨hq2, h2⟩
  clear hq2 h2 HC
  have c8 : w2.cell? ⟨g, 8, none⟩ = some V2.o := H2.out.2.cell 8
  go_wp2_with fail
  go_quiet (fail)
  have H3 : Hid (Rc w (w2.drewN nq) g m kd c X V2 s2) := H2.out.2.below (Go.Proofs.YtjcbpejplnaakaaGreat.Nm.below_drewN _ nq)
  generalize w2.drewN nq = w3 at *
  clear c8
  go_wp2
  go_ret2
  exact ⟨V2, s2, rfl, H2.out.1, H3.out.rest, H3.out.fr, KRd.own H3.out.own⟩
set_option maxHeartbeats 3200000 in
set_option maxRecDepth 100000 in
theorem acc_4 {Q : St → Prop} (h : Rz w g m kd c X V s) (hx : x ∉ s.A ∧ x ∉ s.B) (hl : s.A.length ≤ 1000000000 ∧ s.B.length ≤ 1000000000) (hk : kd = 4) (hh : ∀ w1 V1, Rc w w1 g m kd c X V1 { s with O := [] } → Calls Tryz.prog 24 #[.pointer (some ⟨g, 0, none⟩), U x] w1 fun e w' => e = .returned (.tuple #[]) ∧ ∃ V' s', Q s' ∧ Rc w w' g m kd c X V' s') : Calls Tryz.prog 7 #[.pointer (some ⟨g, 0, none⟩), U x] w fun e w' => ∃ V' s', e = .returned (.tuple #[.bool false, V'.o]) ∧ Q s' ∧ Rz w' g m kd c X V' s' ∧ Fr [g, m] w w' ∧ KRd w' V'.o s'.O := by
  have H : Hid (Rz w g m kd c X V s) := h
  have HC : Hid (Rc w (w.setCell ⟨g, 8, none⟩ (.slice none 0 0)) g m kd c X { V with o := .slice none 0 0 } { s with O := [] }) := h.start
  have HX : Hid (x ∉ s.A ∧ x ∉ s.B) := hx
  have HL : Hid (s.A.length ≤ 1000000000 ∧ s.B.length ≤ 1000000000) := hl
  have HH : Hid (∀ w1 V1, Rc w w1 g m kd c X V1 { s with O := [] } → Calls Tryz.prog 24 #[.pointer (some ⟨g, 0, none⟩), U x] w1 fun e w' => e = .returned (.tuple #[]) ∧ ∃ V' s', Q s' ∧ Rc w w' g m kd c X V' s') := hh
  have c8 : w.cell? ⟨g, 8, none⟩ = some V.o := h.cell 8
  have f8 : w.frozen? ⟨g, 8, none⟩ = false := h.nf 8
  have HKD : Hid (kd = 4) := hk
  clear hk
  clear h hx hl hh
  go_enter Tryz.func7, Tryz.ntmps7
  go_upto_region 2 with fail
  generalize w.setCell ⟨g, 8, none⟩ (.slice none 0 0) = w1 at *
  clear c8 f8
  have c2 : w1.cell? ⟨g, 2, none⟩ = some V.a := HC.out.cell 2
  have c3 : w1.cell? ⟨g, 3, none⟩ = some V.b := HC.out.cell 3
  go_wp2_with fail
  refine (rhas_no HC.out.ra.rl.1 HL.out.1 HX.out.1).mono ?_
  rintro _ w1 ⟨rfl, rfl⟩
  go_wp2_with fail
  refine (rhas_no HC.out.rb.rl.1 HL.out.2 HX.out.2).mono ?_
  rintro _ w1 ⟨rfl, rfl⟩
  clear c2 c3
  have c0 : w1.cell? ⟨g, 0, none⟩ = some (I 4) := by rw [show (4 : Int) = ((kd : Nat) : Int) by rw [HKD.out]; rfl]; exact HC.out.cell 0
  go_wp2_with fail
  clear c0
  refine (HH.out _ _ HC.out).mono ?_
  rintro _ w2 ⟨rfl, V2, s2, hq2, h2⟩
  have H2 : Hid (Q s2 ∧ Rc w w2 g m kd c X V2 s2) := ⟨hq2, h2⟩
  clear hq2 h2 HC
  have c8 : w2.cell? ⟨g, 8, none⟩ = some V2.o := H2.out.2.cell 8
  go_wp2_with fail
  go_quiet (fail)
  have H3 : Hid (Rc w (w2.drewN nq) g m kd c X V2 s2) := H2.out.2.below (Go.Proofs.YtjcbpejplnaakaaGreat.Nm.below_drewN _ nq)
  generalize w2.drewN nq = w3 at *
  clear c8
  go_wp2
  go_ret2
  exact ⟨V2, s2, rfl, H2.out.1, H3.out.rest, H3.out.fr, KRd.own H3.out.own⟩
set_option maxHeartbeats 3200000 in
set_option maxRecDepth 100000 in
theorem acc_5 {Q : St → Prop} (h : Rz w g m kd c X V s) (hx : x ∉ s.A ∧ x ∉ s.B) (hl : s.A.length ≤ 1000000000 ∧ s.B.length ≤ 1000000000) (hk : kd = 5) (hh : ∀ w1 V1, Rc w w1 g m kd c X V1 { s with O := [] } → Calls Tryz.prog 25 #[.pointer (some ⟨g, 0, none⟩), U x] w1 fun e w' => e = .returned (.tuple #[]) ∧ ∃ V' s', Q s' ∧ Rc w w' g m kd c X V' s') : Calls Tryz.prog 7 #[.pointer (some ⟨g, 0, none⟩), U x] w fun e w' => ∃ V' s', e = .returned (.tuple #[.bool false, V'.o]) ∧ Q s' ∧ Rz w' g m kd c X V' s' ∧ Fr [g, m] w w' ∧ KRd w' V'.o s'.O := by
  have H : Hid (Rz w g m kd c X V s) := h
  have HC : Hid (Rc w (w.setCell ⟨g, 8, none⟩ (.slice none 0 0)) g m kd c X { V with o := .slice none 0 0 } { s with O := [] }) := h.start
  have HX : Hid (x ∉ s.A ∧ x ∉ s.B) := hx
  have HL : Hid (s.A.length ≤ 1000000000 ∧ s.B.length ≤ 1000000000) := hl
  have HH : Hid (∀ w1 V1, Rc w w1 g m kd c X V1 { s with O := [] } → Calls Tryz.prog 25 #[.pointer (some ⟨g, 0, none⟩), U x] w1 fun e w' => e = .returned (.tuple #[]) ∧ ∃ V' s', Q s' ∧ Rc w w' g m kd c X V' s') := hh
  have c8 : w.cell? ⟨g, 8, none⟩ = some V.o := h.cell 8
  have f8 : w.frozen? ⟨g, 8, none⟩ = false := h.nf 8
  have HKD : Hid (kd = 5) := hk
  clear hk
  clear h hx hl hh
  go_enter Tryz.func7, Tryz.ntmps7
  go_upto_region 2 with fail
  generalize w.setCell ⟨g, 8, none⟩ (.slice none 0 0) = w1 at *
  clear c8 f8
  have c2 : w1.cell? ⟨g, 2, none⟩ = some V.a := HC.out.cell 2
  have c3 : w1.cell? ⟨g, 3, none⟩ = some V.b := HC.out.cell 3
  go_wp2_with fail
  refine (rhas_no HC.out.ra.rl.1 HL.out.1 HX.out.1).mono ?_
  rintro _ w1 ⟨rfl, rfl⟩
  go_wp2_with fail
  refine (rhas_no HC.out.rb.rl.1 HL.out.2 HX.out.2).mono ?_
  rintro _ w1 ⟨rfl, rfl⟩
  clear c2 c3
  have c0 : w1.cell? ⟨g, 0, none⟩ = some (I 5) := by rw [show (5 : Int) = ((kd : Nat) : Int) by rw [HKD.out]; rfl]; exact HC.out.cell 0
  go_wp2_with fail
  clear c0
  refine (HH.out _ _ HC.out).mono ?_
  rintro _ w2 ⟨rfl, V2, s2, hq2, h2⟩
  have H2 : Hid (Q s2 ∧ Rc w w2 g m kd c X V2 s2) := ⟨hq2, h2⟩
  clear hq2 h2 HC
  have c8 : w2.cell? ⟨g, 8, none⟩ = some V2.o := H2.out.2.cell 8
  go_wp2_with fail
  go_quiet (fail)
  have H3 : Hid (Rc w (w2.drewN nq) g m kd c X V2 s2) := H2.out.2.below (Go.Proofs.YtjcbpejplnaakaaGreat.Nm.below_drewN _ nq)
  generalize w2.drewN nq = w3 at *
  clear c8
  go_wp2
  go_ret2
  exact ⟨V2, s2, rfl, H2.out.1, H3.out.rest, H3.out.fr, KRd.own H3.out.own⟩
set_option maxHeartbeats 3200000 in
set_option maxRecDepth 100000 in
theorem acc_1 {Q : St → Prop} (h : Rz w g m kd c X V s) (hx : x ∉ s.A ∧ x ∉ s.B) (hl : s.A.length ≤ 1000000000 ∧ s.B.length ≤ 1000000000) (hk : kd < 3) (hh : ∀ w1 V1, Rc w w1 g m kd c X V1 { s with O := [] } → Calls Tryz.prog 26 #[.pointer (some ⟨g, 0, none⟩), U x] w1 fun e w' => e = .returned (.tuple #[]) ∧ ∃ V' s', Q s' ∧ Rc w w' g m kd c X V' s') : Calls Tryz.prog 7 #[.pointer (some ⟨g, 0, none⟩), U x] w fun e w' => ∃ V' s', e = .returned (.tuple #[.bool false, V'.o]) ∧ Q s' ∧ Rz w' g m kd c X V' s' ∧ Fr [g, m] w w' ∧ KRd w' V'.o s'.O := by
  have H : Hid (Rz w g m kd c X V s) := h
  have HC : Hid (Rc w (w.setCell ⟨g, 8, none⟩ (.slice none 0 0)) g m kd c X { V with o := .slice none 0 0 } { s with O := [] }) := h.start
  have HX : Hid (x ∉ s.A ∧ x ∉ s.B) := hx
  have HL : Hid (s.A.length ≤ 1000000000 ∧ s.B.length ≤ 1000000000) := hl
  have HH : Hid (∀ w1 V1, Rc w w1 g m kd c X V1 { s with O := [] } → Calls Tryz.prog 26 #[.pointer (some ⟨g, 0, none⟩), U x] w1 fun e w' => e = .returned (.tuple #[]) ∧ ∃ V' s', Q s' ∧ Rc w w' g m kd c X V' s') := hh
  have c8 : w.cell? ⟨g, 8, none⟩ = some V.o := h.cell 8
  have f8 : w.frozen? ⟨g, 8, none⟩ = false := h.nf 8
  have HKD : Hid (kd < 3) := hk
  clear hk
  clear h hx hl hh
  go_enter Tryz.func7, Tryz.ntmps7
  go_upto_region 2 with fail
  generalize w.setCell ⟨g, 8, none⟩ (.slice none 0 0) = w1 at *
  clear c8 f8
  have c2 : w1.cell? ⟨g, 2, none⟩ = some V.a := HC.out.cell 2
  have c3 : w1.cell? ⟨g, 3, none⟩ = some V.b := HC.out.cell 3
  go_wp2_with fail
  refine (rhas_no HC.out.ra.rl.1 HL.out.1 HX.out.1).mono ?_
  rintro _ w1 ⟨rfl, rfl⟩
  go_wp2_with fail
  refine (rhas_no HC.out.rb.rl.1 HL.out.2 HX.out.2).mono ?_
  rintro _ w1 ⟨rfl, rfl⟩
  clear c2 c3
  have c0 : w1.cell? ⟨g, 0, none⟩ = some (I kd) := HC.out.cell 0
  have k3 : ((kd : Int) == 3) = false := by rw [beq_eq_false_iff_ne]; have := HKD.out; omega
  have k4 : ((kd : Int) == 4) = false := by rw [beq_eq_false_iff_ne]; have := HKD.out; omega
  have k5 : ((kd : Int) == 5) = false := by rw [beq_eq_false_iff_ne]; have := HKD.out; omega
  go_wp2_with fail
  clear c0 k3 k4 k5
  refine (HH.out _ _ HC.out).mono ?_
  rintro _ w2 ⟨rfl, V2, s2, hq2, h2⟩
  have H2 : Hid (Q s2 ∧ Rc w w2 g m kd c X V2 s2) := ⟨hq2, h2⟩
  clear hq2 h2 HC
  have c8 : w2.cell? ⟨g, 8, none⟩ = some V2.o := H2.out.2.cell 8
  go_wp2_with fail
  go_quiet (fail)
  have H3 : Hid (Rc w (w2.drewN nq) g m kd c X V2 s2) := H2.out.2.below (Go.Proofs.YtjcbpejplnaakaaGreat.Nm.below_drewN _ nq)
  generalize w2.drewN nq = w3 at *
  clear c8
  go_wp2
  go_ret2
  exact ⟨V2, s2, rfl, H2.out.1, H3.out.rest, H3.out.fr, KRd.own H3.out.own⟩
end
end Go.Proofs.YtjcbpejplnaakaaGreat.Mr

set_option linter.unusedSimpArgs false
namespace Go.Proofs.YtjcbpejplnaakaaGreat.Mr
open Go.RowKit Go.Maps Go.Proofs.YtjcbpejplnaakaaGreat.Nm Go.Proofs.YtjcbpejplnaakaaGreat.Md

section
variable {w0 w w' w1 w4 : World} {g m kd c x y z : Nat} {V : Vs} {F : List Nat} {l A B G H O : List Nat} {N : Nat → Option Nat} {n p : Nat} {v : Nat} {s : St}
theorem look_is (h : IsBk w m (nInt N) n) (hx : x < 18446744073709551616) (hv : N x = some v) : (Instr.lookup 57 (.map (some m)) (U x) false).run Tryz.prog w = .ok (I (v : Nat)) w := by
  have := h.look hx
  rw [show (nInt N x).getD 0 = ((v : Nat) : Int) by unfold nInt; rw [hv]; rfl] at this
  exact this
set_option maxHeartbeats 3200000 in
set_option maxRecDepth 100000 in
theorem hit4b (h : Rc w0 w g m kd c F V ⟨A, B, G, H, N, n, p, O⟩) (hl : A.length + B.length + G.length + H.length + O.length ≤ 100000000) (hk : kd = 4) (hx : x < 18446744073709551616) (hn : n < maxLen) (hv : N x = some v) (h3 : v = 3) : Calls Tryz.prog 22 #[.pointer (some ⟨g, 0, none⟩), U x] w fun e w' => e = .returned (.tuple #[]) ∧ ∃ V', Rc w0 w' g m kd c F V' ⟨A, B, G, H, N, n, p, O⟩ := by
  obtain ⟨va, vb, vg, vh, vo⟩ := V
  have H0 : Hid (Rc w0 w g m kd c F ⟨va, vb, vg, vh, vo⟩ ⟨A, B, G, H, N, n, p, O⟩) := h
  have HL : Hid (A.length + B.length + G.length + H.length + O.length ≤ 100000000) := hl
  have HKD : Hid (kd = 4) := hk
  have HN : Hid (x < 18446744073709551616 ∧ n < maxLen ∧ N x = some v) := ⟨hx, hn, hv⟩
  have HV : Hid (v ≤ 3) := by show v ≤ 3; omega
  have H3 : Hid (v = 3) := h3
  clear h hl hk hx hn hv h3
  go_enter Tryz.func22, Tryz.ntmps22
  have c00 : w.cell? ⟨g, 0, none⟩ = some (I 4) := by rw [show (4 : Int) = ((kd : Nat) : Int) by rw [HKD.out]; rfl]; exact H0.out.cell 0
  have c6 : w.cell? ⟨g, 6, none⟩ = some ((.map (some m))) := H0.out.cell 6
  have l6 := look_is H0.out.bk HN.out.1 HN.out.2.2
  have hv3 : ¬ ((v : Int) < 3) := by have := H3.out; omega
  go_wp2
  go_end0
  exact ⟨rfl, _, H0.out⟩
set_option maxHeartbeats 3200000 in
set_option maxRecDepth 100000 in
theorem hit4a (h : Rc w0 w g m kd c F V ⟨A, B, G, H, N, n, p, O⟩) (hl : A.length + B.length + G.length + H.length + O.length ≤ 100000000) (hk : kd = 4) (hx : x < 18446744073709551616) (hn : n < maxLen) (hv : N x = some v) (h3 : v < 3) : Calls Tryz.prog 22 #[.pointer (some ⟨g, 0, none⟩), U x] w fun e w' => e = .returned (.tuple #[]) ∧ ∃ V', Rc w0 w' g m kd c F V' ⟨A, B, G, H, (nset N x (v + 1)), (ncnt N n x), p, O⟩ := by
  obtain ⟨va, vb, vg, vh, vo⟩ := V
  have H0 : Hid (Rc w0 w g m kd c F ⟨va, vb, vg, vh, vo⟩ ⟨A, B, G, H, N, n, p, O⟩) := h
  have HL : Hid (A.length + B.length + G.length + H.length + O.length ≤ 100000000) := hl
  have HKD : Hid (kd = 4) := hk
  have HN : Hid (x < 18446744073709551616 ∧ n < maxLen ∧ N x = some v) := ⟨hx, hn, hv⟩
  have HV : Hid (v ≤ 3) := by show v ≤ 3; omega
  have H3 : Hid (v < 3) := h3
  clear h hl hk hx hn hv h3
  go_enter Tryz.func22, Tryz.ntmps22
  have c00 : w.cell? ⟨g, 0, none⟩ = some (I 4) := by rw [show (4 : Int) = ((kd : Nat) : Int) by rw [HKD.out]; rfl]; exact H0.out.cell 0
  have c6 : w.cell? ⟨g, 6, none⟩ = some ((.map (some m))) := H0.out.cell 6
  have l6 := look_is H0.out.bk HN.out.1 HN.out.2.2
  have hv3 : (v : Int) < 3 := by have := H3.out; omega
  go_upto_region 10 with fail
  have H1 : Hid (Rc w0 w.drew g m kd c F ⟨va, vb, vg, vh, vo⟩ ⟨A, B, G, H, N, n, p, O⟩) := H0.out.below (Below.refl _ w).drew
  have d6 : w.drew.cell? ⟨g, 6, none⟩ = some (.map (some m)) := H1.out.cell 6
  have l7 := look_is H1.out.bk HN.out.1 HN.out.2.2
  have hw : IntKind.i64.wrap ((v : Int) + 1) = (v : Int) + 1 := by rw [IntKind.wrap_i64]; omega
  obtain ⟨w2, hu, hk2, hg2⟩ := H1.out.bk.put (k := x) HN.out.1 HN.out.2.1 ((v : Int) + 1)
  have H2 : Hid (Rc w0 w2 g m kd c F ⟨va, vb, vg, vh, vo⟩ ⟨A, B, G, H, (nset N x (v + 1)), (ncnt N n x), p, O⟩) := H1.out.num (v := v + 1) hk2 hg2
  clear hk2 hg2 hv3
  go_region
  all_goals (
    go_wp2
    go_end0
    exact ⟨rfl, _, H2.out⟩)
end
end Go.Proofs.YtjcbpejplnaakaaGreat.Mr
