import Derived.Test.YtcblichnkakhdaaDoorCeEnc
import Derived.Test.YtcblichnkakhdaaDoorShelf15
import Derived.Lib.AppendStr
set_option linter.unusedSimpArgs false
namespace Go.Proofs.YtcblichnkakhdaaDoor.Cd
open Go.RowKit Go.Proofs.YtcblichnkakhdaaDoor.Nm Go.Proofs.YtcblichnkakhdaaDoor.Vf

/-- a string is appended to bytes -/
theorem append_str {P : Program} (w : World) {ops : Array Oper} {rest : List Oper} {o : Oper} {a : Act} {Q : Exit → Act → World → Prop} (hgd : o.guard = none) (s x : Operand) (t u : TypeId)
    (ho : o.op = .call { callee := .builtin .append, args := #[s, x], argTypes := #[t, u] })
    (base : Nat) (e : TypeId) (i : TypeInfo) (ht : P.underlying t = some (.slice e)) (hu : P.underlying u = some .string) (hi : P.info? e = some i) (hz : i.zero = some (.int .u8 0)) (hsize : i.size = 1) (hby : i.bytes = 1)
    (v : Value) (n : Nat) (xs : List Value) (hs : a.eval s = v) (hown : w.ownsRow base e 1 v n xs) (z : ByteArray) (hx : a.eval x = .string z)
    (h63 : n + z.size ≤ maxLen) (hbytes : n + z.size ≤ 140737488355328) (hbase : base ≤ w.heap.size)
    (h : ∀ v' w', w'.ownsRow base e 1 v' (n + z.size) (xs ++ Lib.strCells z) → w.grownBy w' v.ownBlock → wpList P ops Q rest (a.put o.dst v') w') : wpList P ops Q (o :: rest) a w := by
  refine wpList_plain hgd fun K hK => ?_
  obtain ⟨v', w', hr, h2, h3, _⟩ := Lib.run_append_own_string (P := P) w base t u o.type e i ht hu hi hz hsize hby v n xs hown z h63 hbytes hbase
  unfold Oper.wp execOp
  simp only [ho, resolve, invoke, builtin, Sem.run_bind, Sem.run_pure, Result.andThen_ok, List.map_toArray, List.map_cons, List.map_nil, hs, hx, hr]
  exact hK _ _ (h v' w' h2 h3)
def strB (s : ByteArray) : List Nat := s.data.toList.map UInt8.toNat
theorem strB_cells (s : ByteArray) : Lib.strCells s = u8L (strB s) := by
  unfold Lib.strCells u8L strB
  rw [List.map_map]
  rfl
theorem strB_len (s : ByteArray) : (strB s).length = s.size := by
  unfold strB
  rw [List.length_map, Array.length_toList]
  rfl
/-- a number's digits -/
def decB (n : Int) : List Nat := (Lib.itoa n).map UInt8.toNat
theorem decB_cells (n : Int) : Lib.byteCells (Lib.itoa n) = u8L (decB n) := by
  unfold Lib.byteCells u8L decB
  rw [List.map_map]
  rfl
/-- a lister: its text, owned; its names -/
structure Ls (W0 W : World) (b base : Nat) (nm : Value) (xs : List Nat) : Prop where
  ex : ∃ v, W.heap[b]? = some (.cells (v :: nm :: wayL).toArray 72 (0, 0)) ∧ W.ownsRow base 5 1 v xs.length (u8L xs)
  lt : b < base
  sz : base ≤ W.heap.size
  fr : Fb [b] base W0 W
/-- of blocks that are no bytes only b has turned -/
structure Ko (b : Nat) (w w' : World) : Prop where
  keep : ∀ (k : Nat) (o : Obj), k ≠ b → w.heap[k]? = some o → (∀ c fz, o ≠ .cells c 5 fz) → w'.heap[k]? = some o
theorem Ko.refl (b : Nat) (w : World) : Ko b w w := ⟨fun _ _ _ h _ => h⟩
theorem Ko.trans {b : Nat} {w1 w2 w3 : World} (h : Ko b w1 w2) (k : Ko b w2 w3) : Ko b w1 w3 := ⟨fun x o hx h1 h2 => k.keep x o hx (h.keep x o hx h1 h2) h2⟩
theorem Ko.of_below {b : Nat} {w w' : World} (h : Below w.heap.size w w') : Ko b w w' := ⟨fun k _ _ h1 _ => (h.block k (blk_lt h1)).trans h1⟩
theorem Ko.set {b : Nat} {w w' : World} (h : Ko b w w') (j : Nat) (v : Value) : Ko b w (w'.setCell ⟨b, j, none⟩ v) := ⟨fun k o hk h1 h2 => (Below.heap_setCell w' _ v k (fun e => hk e)).trans (h.keep k o hk h1 h2)⟩
/-- a box of another type stays -/
theorem Ko.box {b k : Nat} {w w' : World} {C : Array Value} {T : TypeId} (h : Ko b w w') (hk : k ≠ b) (hT : T ≠ 5) (h1 : w.heap[k]? = some (.cells C T (0, 0))) : w'.heap[k]? = some (.cells C T (0, 0)) := h.keep k _ hk h1 fun c fz e => by
  cases e
  exact hT rfl
/-- strconv's powers lie where they lay -/
def Pw (W0 : World) (b base : Nat) : Prop := ∀ w, Fb [b] base W0 w → Lib.TabIs Tryd.prog w "internal/strconv.uint64pow10" .u64 Lib.pow10Tab
section
variable {W0 W w4 : World} {b base : Nat} {nm v v' : Value} {xs ys : List Nat}
theorem fb_below {n : Nat} {w w' : World} (h : Below n w w') : Fb [b] n w w' := Fb.of_below h
/-- the text has grown, and is laid into the lister -/
theorem Ls.put (h : Ls W0 W b base nm xs) (hb : W.heap[b]? = some (.cells (v :: nm :: wayL).toArray 72 (0, 0))) (ho : w4.ownsRow base 5 1 v' ys.length (u8L ys)) (hf : Below base W w4) : Ls W0 (w4.setCell ⟨b, 0, none⟩ v') b base nm ys := by
  have hlt := h.lt
  have hsz := h.sz
  have hs := hf.size
  have h4 : w4.heap[b]? = some (.cells (v :: nm :: wayL).toArray 72 (0, 0)) := (hf.block b hlt).trans hb
  have hz : (w4.setCell ⟨b, 0, none⟩ v').heap.size = w4.heap.size := by simp [World.setCell]
  refine ⟨⟨v', by rw [heap_setCell_same w4 b 0 _ _ v' h4]; simp, own_keepB ho fun k e => Below.heap_setCell w4 _ v' k (fun e2 => ?_)⟩, hlt, by omega, ?_⟩
  · have e' : k = b := e2
    have := (World.ownsRow.lt ho k e).1
    omega
  · exact ⟨hf.os.trans h.fr.os, hf.tape.trans h.fr.tape, hf.output.trans h.fr.output, by have := h.fr.size; omega, fun k hk hn => (Below.heap_setCell w4 _ v' k (fun e => hn (by have e' : k = b := e; simp [e']))).trans ((hf.block k hk).trans (h.fr.block k hk hn))⟩
theorem Ls.below (h : Ls W0 W b base nm xs) (hf : Below W.heap.size W w4) : Ls W0 w4 b base nm xs := by
  obtain ⟨v, h1, h2⟩ := h.ex
  exact ⟨⟨v, (hf.block b (blk_lt h1)).trans h1, own_below h2 hf⟩, h.lt, Nat.le_trans h.sz hf.size, h.fr.trans (Fb.of_below (hf.mono h.sz))⟩
theorem Ls.way (h : Ls W0 W b base nm xs) (j : Nat) : W.cell? ⟨b, j + 2, none⟩ = wayL[j]? := by
  obtain ⟨v, h1, h2⟩ := h.ex
  simp only [World.cell?, h1]
  simp
theorem Ls.names (h : Ls W0 W b base nm xs) : W.cell? ⟨b, 1, none⟩ = some nm := by
  obtain ⟨v, h1, h2⟩ := h.ex
  simp only [World.cell?, h1]
  rfl
set_option maxHeartbeats 6400000 in
set_option maxRecDepth 100000 in
/-- add -/
theorem ladd_any (h : Ls W0 W b base nm xs) (s : ByteArray) (hl : xs.length ≤ 100000000000) (hs : s.size ≤ 1000000) : Calls Tryd.prog 56 #[.pointer (some ⟨b, 0, none⟩), .string s] W fun e W' => e = .returned (.tuple #[]) ∧ Ls W0 W' b base nm (xs ++ strB s) ∧ Ko b W W' := by
  obtain ⟨v, hb, ho⟩ := h.ex
  obtain ⟨bo, bc, rfl⟩ := own_form ho
  have HL := show Hid _ from h
  have HB := show Hid _ from hb
  have HO := show Hid _ from ho
  have HN : Hid (xs.length ≤ 100000000000 ∧ s.size ≤ 1000000) := ⟨hl, hs⟩
  obtain ⟨j0, hj, hj0, hj1, hj2⟩ := info_parts infoB
  have c0 : W.cell? ⟨b, 0, none⟩ = some (.slice bo xs.length bc) := by simp only [World.cell?, hb]; rfl
  clear h hb ho hl hs
  go_enter Tryd.func56, Tryd.ntmps56
  go_wp2_with (at_builtin; refine append_str _ rfl _ _ 22 9 rfl base 5 j0 Tryd.underlying22 Tryd.underlying9 hj hj0 hj1 hj2 (.slice bo xs.length bc) _ (u8L xs) rfl HO.out s rfl (by have := HN.out; unfold maxLen; omega) (by have := HN.out; omega) HL.out.sz ?_)
  intro v' w4 ho4 hG
  have hko : Ko b W w4 := by
    refine ⟨fun k o hk h1 h2 => ?_⟩
    by_cases hx : some k = (Value.slice bo xs.length bc).ownBlock
    · exfalso
      rcases HO.out.2 with ⟨e1, _⟩ | ⟨g, cap, cur, e1, _, e3, _⟩
      · rw [e1] at hx; cases hx
      · cases e1
        cases hx
        rw [h1] at e3
        cases e3
        exact h2 cur _ rfl
    · exact (hG.block k (blk_lt h1) hx).trans h1
  have hbel : Below base W w4 := ⟨hG.os, hG.tape, hG.output, hG.size, fun k hk => hG.block k (by have := HL.out.sz; omega) fun e => by have := (World.ownsRow.lt HO.out k e.symm).1; omega⟩
  rw [strB_cells, ← strB_len s, ← List.length_append, show u8L xs ++ u8L (strB s) = u8L (xs ++ strB s) by simp [u8L]] at ho4
  have h4 := (hbel.block b HL.out.lt).trans HB.out
  have f4 := fzb h4 0
  obtain ⟨bo4, bc4, rfl⟩ := own_form ho4
  have HR : Hid (Ls W0 (w4.setCell ⟨b, 0, none⟩ (.slice bo4 (xs ++ strB s).length bc4)) b base nm (xs ++ strB s) ∧ Ko b W (w4.setCell ⟨b, 0, none⟩ (.slice bo4 (xs ++ strB s).length bc4))) := ⟨HL.out.put HB.out ho4 hbel, hko.set 0 _⟩
  have c4 : w4.cell? ⟨b, 0, none⟩ = some (.slice bo xs.length bc) := by simp only [World.cell?, h4]; rfl
  clear ho4 hG hbel h4 c0 hko
  go_wp2_with fail
  go_end0
  have q := HR.out
  rw [List.length_append] at q
  exact ⟨rfl, q.1, q.2⟩
set_option maxHeartbeats 6400000 in
set_option maxRecDepth 100000 in
/-- digits -/
theorem ldig_any (h : Ls W0 W b base nm xs) (hT : Pw W0 b base) (n : Int) (h0 : -9223372036854775808 ≤ n) (h1 : n ≤ 9223372036854775807) (hl : xs.length ≤ 100000000000) : Calls Tryd.prog 57 #[.pointer (some ⟨b, 0, none⟩), .int .i64 n] W fun e W' => e = .returned (.tuple #[]) ∧ Ls W0 W' b base nm (xs ++ decB n) ∧ Ko b W W' := by
  obtain ⟨v, hb, ho⟩ := h.ex
  obtain ⟨bo, bc, rfl⟩ := own_form ho
  have HL := show Hid _ from h
  have HB := show Hid _ from hb
  have c0 : W.cell? ⟨b, 0, none⟩ = some (.slice bo xs.length bc) := by simp only [World.cell?, hb]; rfl
  have HC : Hid (Calls Tryd.prog 67 #[.slice bo xs.length bc, .int .i64 n, .int .i64 10] W fun e w' => ∃ v', e = .returned v' ∧ w'.ownsRow base 5 1 v' (xs ++ decB n).length (u8L (xs ++ decB n)) ∧ Below base W w' ∧ Ko b W w') := by
    refine (Tryd.strconv_AppendInt_10 base xs.length n h0 h1 (.slice bo xs.length bc) (u8L xs) W ho h.sz (by omega) (fun w' hw' => hT w' (h.fr.trans (Fb.of_below hw')))).mono ?_
    rintro e w' ⟨v', rfl, h2, h3, h5⟩
    refine ⟨v', rfl, ?_, h3, ⟨fun k o _ h1 h2 => h5 k o h1 (by simp) h2⟩⟩
    rw [decB_cells, show u8L xs ++ u8L (decB n) = u8L (xs ++ decB n) by simp [u8L]] at h2
    have e : xs.length + (Lib.itoa n).length = (xs ++ decB n).length := by rw [List.length_append]; unfold decB; rw [List.length_map]
    rw [e] at h2
    exact h2
  have h0' : IntKind.i64.wrap n = n := by rw [IntKind.wrap_i64]; omega
  clear h hb ho hl hT
  go_enter Tryd.func57, Tryd.ntmps57
  go_wp2_with fail
  refine HC.out.mono ?_
  rintro e w4 ⟨v', rfl, ho4, hbel, hko⟩
  have h4 := (hbel.block b HL.out.lt).trans HB.out
  have f4 := fzb h4 0
  obtain ⟨bo4, bc4, rfl⟩ := own_form ho4
  have HR : Hid (Ls W0 (w4.setCell ⟨b, 0, none⟩ (.slice bo4 (xs ++ decB n).length bc4)) b base nm (xs ++ decB n) ∧ Ko b W (w4.setCell ⟨b, 0, none⟩ (.slice bo4 (xs ++ decB n).length bc4))) := ⟨HL.out.put HB.out ho4 hbel, hko.set 0 _⟩
  have c4 : w4.cell? ⟨b, 0, none⟩ = some (.slice bo xs.length bc) := by simp only [World.cell?, h4]; rfl
  clear ho4 hbel h4 c0 hko
  go_wp2_with fail
  go_end0
  have q := HR.out
  rw [List.length_append] at q
  exact ⟨rfl, q.1, q.2⟩
end
end Go.Proofs.YtcblichnkakhdaaDoor.Cd
