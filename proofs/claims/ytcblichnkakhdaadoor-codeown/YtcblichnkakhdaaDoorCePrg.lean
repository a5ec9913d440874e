import Derived.Test.YtcblichnkakhdaaDoorCeOws
set_option linter.unusedSimpArgs false
namespace Go.Proofs.YtcblichnkakhdaaDoor.Cd
open Go.RowKit Go.Proofs.YtcblichnkakhdaaDoor.Nm Go.Proofs.YtcblichnkakhdaaDoor.Vf

theorem infoIr : (Tryd.prog.info? 64).map (fun i => (i.zero, i.size, i.bytes)) = some (some (.agg #[.int .i64 0, .int .i64 0, .int .i64 0, .int .i64 0, .int .i64 0]), 5, 40) := by kernel_rfl
theorem cells_new5 (w : World) (T : TypeId) (a b c d e : Value) : ∀ j u, [a, b, c, d, e][j]? = some u → (w.alloc (.cells #[a, b, c, d, e] T)).cell? ((⟨w.heap.size, 0, none⟩ : Addr).add j) = some u := by
  intro j u h
  exact Lib.cells_of_row (heap_alloc_new w (.cells #[a, b, c, d, e] T)) 5 j u (by simpa using h)
def prK2 (x : Tabs) (on : List Int) (miss : Int) (cd : List Ins) (i : Nat) (t : List Nat) : Rs Pg := .ok ⟨x.1, x.2.1, x.2.2, on, miss, cd⟩ i t
def prK1 (x : Tabs) (on : List Int) (i : Nat) (t : List Nat) : Rs Pg := (rpl i t).bind fun miss i t => (cnt 262144 i t).bind fun n i t => (lisR insR n [] i t).bind (prK2 x on miss)
theorem prgR_eq (i : Nat) (t : List Nat) : prgR i t = (tagR i t).bind fun _ i t => (tabR i t).bind fun x i t => (lisR rpl x.1.length [] i t).bind (prK1 x) := rfl
/-- a program that was told: its lists in blocks of their own, apart, made since n -/
structure Own5 (w : World) (n : Nat) (p : Pg) (g v t o c : Value) : Prop where
  ex : ∃ n1 n2 n3 n4 n5, Ows w n [en1 n1 g p.gh, en2 n2 v p.vs, en3 n3 t p.ts, en3 n4 o p.on, en5 n5 c p.cd]
def PP (W : World) (b : Nat) (bo : Option Addr) (bc : Nat) (s : List Nat) (r : Rs Pg) (e : Ending) (W' : World) : Prop :=
  match r with
  | .ok p j _ => (∃ g v t o c, e = .returned (.agg #[g, v, t, o, .int .i64 p.miss, c]) ∧ Own5 W' W.heap.size p g v t o c) ∧ (∃ fr, Rdr W' b bo bc s j fr) ∧ Fg b W W'
  | .die er k => e = flt er k ∧ Fg b W W'
section
variable {W : World} {b : Nat} {bo : Option Addr} {bc : Nat} {s : List Nat} {i fr : Nat}
set_option maxHeartbeats 51200000 in
set_option maxRecDepth 100000 in
/-- a program is read -/
theorem rprg_any (h : Rdr W b bo bc s i fr) : Calls Tryd.prog 43 #[.pointer (some ⟨b, 0, none⟩)] W fun e W' => PP W b bo bc s (prgR i (s.drop i)) e W' := by
  obtain ⟨r, hr⟩ : ∃ r, r = prgR i (s.drop i) := ⟨_, rfl⟩
  rw [← hr]
  rw [prgR_eq] at hr
  obtain ⟨ic, hic, hic0, hic1, hic2⟩ := info_parts infoIn
  obtain ⟨id, hid, hid0, hid1, hid2⟩ := info_parts infoIr
  have HR : Hid (r = (tagR i (s.drop i)).bind fun _ i t => (tabR i t).bind fun x i t => (lisR rpl x.1.length [] i t).bind (prK1 x)) := hr
  obtain ⟨Z, hZ⟩ : ∃ Z : Array Value, Z = #[.slice none 0 0, .slice none 0 0, .slice none 0 0, .slice none 0 0, .int .i64 0, .slice none 0 0] := ⟨_, rfl⟩
  have hb1 : Below W.heap.size W (W.alloc (.cells #[.slice none 0 0, .slice none 0 0, .slice none 0 0, .slice none 0 0, .int .i64 0, .slice none 0 0] 29)) := (Below.refl _ W).alloc (Nat.le_refl _) _
  have H0 : Hid (Rdr (W.alloc (.cells #[.slice none 0 0, .slice none 0 0, .slice none 0 0, .slice none 0 0, .int .i64 0, .slice none 0 0] 29)) b bo bc s i fr ∧ Fg b W (W.alloc (.cells #[.slice none 0 0, .slice none 0 0, .slice none 0 0, .slice none 0 0, .int .i64 0, .slice none 0 0] 29)) ∧ (W.alloc (.cells #[.slice none 0 0, .slice none 0 0, .slice none 0 0, .slice none 0 0, .int .i64 0, .slice none 0 0] 29)).heap[W.heap.size]? = some (.cells #[.slice none 0 0, .slice none 0 0, .slice none 0 0, .slice none 0 0, .int .i64 0, .slice none 0 0] 29 (0, 0))) := ⟨h.below hb1, Fg.of_below hb1, heap_alloc_new _ _⟩
  have HB : Hid (b < W.heap.size) := h.blt
  have HTo : Hid (∀ (n : Nat) (w1 w : World), Fg b W w1 → W.heap.size ≤ n → Fb [b, W.heap.size] n w1 w → Fg b W w) := fun n w1 w h1 hn h2 => ⟨h2.os.trans h1.os, h2.tape.trans h1.tape, h2.output.trans h1.output, Nat.le_trans h1.size h2.size, fun k hk hx => (h2.block k (by omega) (by simp; omega)).trans (h1.block k hk hx)⟩
  have HNw : Hid (∀ (w : World) (j : Nat) (v : Value), Fg b W w → Fg b W (w.setCell ⟨W.heap.size, j, none⟩ v)) := fun w j v hf => fg_new hf (Nat.le_refl _) j v
  obtain ⟨PW, hPW⟩ : ∃ PW : Rs Pg → Ending → World → Prop, PW = PP W b bo bc s := ⟨_, rfl⟩
  have HPP : Hid ((∀ (p : Pg) (j : Nat) (t : List Nat) (e : Ending) (w : World), (∃ g v t o c, e = .returned (.agg #[g, v, t, o, .int .i64 p.miss, c]) ∧ Own5 w W.heap.size p g v t o c) → (∃ fr, Rdr w b bo bc s j fr) → Fg b W w → PW (.ok p j t) e w) ∧ (∀ (er k : Nat) (e : Ending) (w : World), e = flt er k → Fg b W w → PW (.die er k) e w)) := by
    subst hPW
    exact ⟨fun p j t e w h1 h2 h3 => ⟨h1, h2, h3⟩, fun er k e w h1 h2 => ⟨h1, h2⟩⟩
  rw [← hPW]
  clear hPW
  clear hr h hb1 hZ Z
  go_enter Tryd.func43, Tryd.ntmps43
  go_wp2_with fail
  generalize (W.alloc (.cells #[.slice none 0 0, .slice none 0 0, .slice none 0 0, .slice none 0 0, .int .i64 0, .slice none 0 0] 29)) = w0 at *
  generalize W.heap.size = pb at *
  refine (rtag_any H0.out.1).mono ?_
  intro e w1 hp
  cases h1 : tagR i (s.drop i) with
  | die er k =>
    rw [h1] at hp
    obtain ⟨rfl, hf⟩ := hp
    have HF : Hid (Fg b W w1) := H0.out.2.1.trans hf
    have hr2 : r = .die er k := by rw [HR.out, h1]; rfl
    clear hf h1
    go_wp2_with fail
    exact ⟨rfl, by rw [hr2]; exact HPP.out.2 _ _ _ _ rfl HF.out⟩
  | ok u i1 t1 =>
    rw [h1] at hp
    obtain ⟨rfl, ⟨fr1, hw⟩, hf⟩ := hp
    have ht := good_drop tagR_good h1
    subst ht
    have HR1 : Hid (r = (tabR i1 (s.drop i1)).bind fun x i t => (lisR rpl x.1.length [] i t).bind (prK1 x)) := by rw [HR.out, h1]; rfl
    have H1 : Hid (Rdr w1 b bo bc s i1 fr1 ∧ Fg b W w1 ∧ w1.heap[pb]? = some (.cells #[.slice none 0 0, .slice none 0 0, .slice none 0 0, .slice none 0 0, .int .i64 0, .slice none 0 0] 29 (0, 0))) := ⟨hw, H0.out.2.1.trans hf, (hf.block pb (blk_lt H0.out.2.2) (by have := HB.out; omega)).trans H0.out.2.2⟩
    clear hw hf h1 H0 HR
    go_wp2_with fail
    refine (rtab_any H1.out.1 H1.out.2.2 HB.out).mono ?_
    intro e v4 hp
    cases h1 : tabR i1 (s.drop i1) with
    | die er k =>
      rw [h1] at hp
      obtain ⟨rfl, hf⟩ := hp
      have HF : Hid (Fg b W v4) := HTo.out _ _ _ H1.out.2.1 (by have := blk_lt H1.out.2.2; omega) hf
      have hr2 : r = .die er k := by rw [HR1.out, h1]; rfl
      clear hf h1
      go_wp2_with fail
      exact ⟨rfl, by rw [hr2]; exact HPP.out.2 _ _ _ _ rfl HF.out⟩
    | ok x i2 t2 =>
      rw [h1] at hp
      obtain ⟨rfl, ⟨fr2, hw⟩, hf, h3⟩ := hp
      have ht := good_drop tabR_good h1
      subst ht
      have HRS4 : Hid (r = (lisR rpl x.1.length [] i2 (s.drop i2)).bind (prK1 x)) := by rw [HR1.out, h1]; rfl
      obtain ⟨g1, g2, g3, n1, n2, n3, hbx, hows⟩ := h3.ows (blk_lt H1.out.2.2)
      obtain ⟨bg, cg, eg⟩ := own_form (hows.ow (en1 n1 g1 x.1) (by simp)).2
      change g1 = .slice bg x.1.length cg at eg
      obtain ⟨m4, hm4⟩ : ∃ m, m = x.1.length := ⟨_, rfl⟩
      rw [← hm4] at eg HRS4
      have HS4 : Hid (Rdr v4 b bo bc s i2 fr2 ∧ Fg b W v4 ∧ v4.heap[pb]? = some (.cells #[g1, g2, g3, .slice none 0 0, .int .i64 0, .slice none 0 0] 29 (0, 0)) ∧ Ows v4 pb [en1 n1 g1 x.1, en2 n2 g2 x.2.1, en3 n3 g3 x.2.2]) := ⟨hw, HTo.out _ _ _ H1.out.2.1 (by have := blk_lt H1.out.2.2; omega) hf, hbx, hows⟩
      have HM4 : Hid (m4 ≤ 16 ∧ m4 = x.1.length) := ⟨by rw [hm4]; exact h3.q, hm4⟩
      have hm4' : (m4 : Int) ≤ 16 := by have := HM4.out.1; omega
      have hc0 : v4.cell? ⟨pb, 0, none⟩ = some (.slice bg m4 cg) := by rw [← eg]; simp only [World.cell?, hbx]; rfl
      clear hw hf h1 H1 HR1 h3 hbx hows hm4 eg
      go_wp2_with fail
      clear hc0
      go_loopg [10] m4 (fun gq y wr => ∃ (k j fr : Nat) (l : List Int) (v : Value), k ≤ m4 ∧ gq = m4 - k ∧ y = .int .i64 (k : Int) ∧ l.length = k ∧ Lp v4 b pb bo bc s (fun v : Value => #[g1, g2, g3, v, .int .i64 0, .slice none 0 0]) 3 1 l.length (iC l) v j fr wr ∧ r = (lisR rpl (m4 - k) l j (s.drop j)).bind (prK1 x))
      case atStart => exact ⟨0, i2, fr2, [], .slice none 0 0, Nat.zero_le _, rfl, rfl, rfl, Lp.start HS4.out.1 HS4.out.2.2.1 HB.out, HRS4.out⟩
      case round =>
        obtain ⟨k, j, fr, l, gv, hk, hgk, rfl, hkl, hL, hrr⟩ := hrel
        have HT : Hid (Lp v4 b pb bo bc s (fun v : Value => #[g1, g2, g3, v, .int .i64 0, .slice none 0 0]) 3 1 l.length (iC l) gv j fr wr ∧ r = (lisR rpl (m4 - k) l j (s.drop j)).bind (prK1 x) ∧ l.length = k ∧ k ≤ m4 ∧ gk = m4 - k) := ⟨hL, hrr, hkl, hk, hgk⟩
        clear hL hrr hkl hgk hk
        by_cases hkm : k < m4
        · have hkm' : (k : Int) < (m4 : Int) := by omega
          have HKm : Hid (k < m4) := hkm
          have hr3 : r = (rpl j (s.drop j)).bind fun a i t => (lisR rpl (m4 - (k + 1)) (l ++ [a]) i t).bind (prK1 x) := by
            rw [HT.out.2.1, show m4 - k = (m4 - (k + 1)) + 1 by omega, lisR_bind]
          obtain ⟨bgv, cgv, egv⟩ := own_form HT.out.1.ow
          have hc : wr.cell? ⟨pb, 3, none⟩ = some gv := HT.out.1.cell rfl
          clear hkm
          cases h2' : num j (s.drop j) with
          | die er q =>
            have h2 : rpl j (s.drop j) = .die er q := by unfold rpl; rw [h2']; rfl
            have hr4 : r = .die er q := by rw [hr3, h2]; rfl
            have HC : Hid (Calls Tryd.prog 31 #[.pointer (some ⟨b, 0, none⟩)] wr.drew fun e W' => e = flt er q ∧ Fg b wr.drew W') := rnum_die HT.out.1.rd.drew h2'
            clear h2'
            clear hr3 h2
            subst egv
            go_wp2_with fail
            go_region_dies
            all_goals refine HC.out.mono ?_
            all_goals rintro e w3 ⟨rfl, hf⟩
            all_goals (have HF : Hid (Fg b W w3) := (HTo.out _ _ _ HS4.out.2.1 (by have := blk_lt HS4.out.2.2.1; omega) HT.out.1.fr).trans ((Fg.drew b wr).trans hf))
            all_goals clear hf
            all_goals go_wp2_with fail
            all_goals exact ⟨rfl, by rw [hr4]; exact HPP.out.2 _ _ _ _ rfl HF.out⟩
          | ok q j2 t2 =>
            have ht := good_drop num_good0 h2'
            subst ht
            obtain ⟨a, ha⟩ : ∃ a : Int, a = (q : Int) - 1 := ⟨_, rfl⟩
            have h2 : rpl j (s.drop j) = .ok a j2 (s.drop j2) := by unfold rpl; rw [h2', ha]; rfl
            have hql : (q : Int) ≤ 9223372036854775807 := by have := num_lt HT.out.1.rd.drew h2'; omega
            have HR4 : Hid (r = (lisR rpl (m4 - (k + 1)) (l ++ [a]) j2 (s.drop j2)).bind (prK1 x)) := by rw [hr3, h2]; exact rfl
            have HC : Hid (Calls Tryd.prog 31 #[.pointer (some ⟨b, 0, none⟩)] wr.drew fun e W' => e = .returned (.int .i64 (q : Int)) ∧ (∃ fr, Rdr W' b bo bc s j2 fr) ∧ Fg b wr.drew W') := (rnum_ok HT.out.1.rd.drew h2').mono fun e W' hh => ⟨hh.1, ⟨_, hh.2.1⟩, hh.2.2⟩
            have hwq : IntKind.i64.wrap ((q : Int) - 1) = a := by rw [IntKind.wrap_i64, ha]; omega
            clear ha h2'
            have HLl : Hid (l.length ≤ 1000000) := by have := HT.out.2.2; have := HM4.out.1; show _ ≤ _; omega
            clear hr3 h2
            subst egv
            go_wp2_with fail
            go_region_law (first
              | (go_simp
                 go_at_call 31
                 refine HC.out.mono ?_
                 rintro e wz ⟨rfl, ⟨frz, hz⟩, hfz⟩
                 have HLz : Hid (Lp v4 b pb bo bc s (fun v : Value => #[g1, g2, g3, v, .int .i64 0, .slice none 0 0]) 3 1 l.length (iC l) (.slice bgv l.length cgv) j2 frz wz) := HT.out.1.fg hz ((Fg.drew b wr).trans hfz)
                 have HLy : Hid (Lp v4 b pb bo bc s (fun v : Value => #[g1, g2, g3, v, .int .i64 0, .slice none 0 0]) 3 1 l.length (iC l) (.slice bgv l.length cgv) j2 frz (wz.alloc (.cells #[.int .i64 a] 3))) := HLz.out.below ((Below.refl _ wz).alloc (Nat.le_refl _) _)
                 have hcz : wz.cell? ⟨pb, 3, none⟩ = some (.slice bgv l.length cgv) := HLz.out.cell rfl
                 have hcy : (wz.alloc (.cells #[.int .i64 a] 3)).cell? ⟨pb, 3, none⟩ = some (.slice bgv l.length cgv) := HLy.out.cell rfl
                 clear hz hfz)
              | (refine step_gone _ rfl (.tmp 13) (.tmp 17) 26 rfl v4.heap.size 3 ic (.int .i64 0) 1 8 Tryd.underlying26 hic hic0 hic1 hic2 rfl (by decide) (.slice bgv l.length cgv) l.length (iC l) (by simp [Act.eval]) HLy.out.ow ⟨wz.heap.size, 0, none⟩ 1 1 [.int .i64 a] (by simp [Act.eval]) rfl (cell_one wz _ _) (by intro u hu; simp only [List.mem_cons, List.not_mem_nil, or_false] at hu; subst hu; rfl) (by have := HLl.out; unfold maxLen; omega) (by have := HLl.out; omega) HLy.out.fr.size (by decide) ?_
                 intro v4' w4 ho hG
                 have ho2 : w4.ownsRow v4.heap.size 3 1 v4' (l ++ [a]).length (iC l ++ [.int .i64 a]) := by rw [List.length_append]; exact ho
                 obtain ⟨bv4, cv4, rfl⟩ := own_form ho
                 obtain ⟨hcell, hfro⟩ := HLy.out.at4 hG (ix := 3) rfl
                 have HL4 : Hid (Lp v4 b pb bo bc s (fun v : Value => #[g1, g2, g3, v, .int .i64 0, .slice none 0 0]) 3 1 (l ++ [a]).length (iC (l ++ [a])) (.slice bv4 (l.length + 1) cv4) j2 frz (w4.setCell ⟨pb, 3, none⟩ (.slice bv4 (l.length + 1) cv4))) := by
                   have := HLy.out.app (ix := 3) ho2 hG rfl
                   rw [show iC (l ++ [a]) = iC l ++ [.int .i64 a] by simp [iC]]
                   exact this
                 clear ho ho2 hG))
            all_goals go_wp2_with fail
            all_goals go_roundg (m4 - (k + 1))
            all_goals first
              | (have := HKm.out; have := HT.out.2.2.2.2; omega)
              | exact ⟨k + 1, j2, _, l ++ [a], _, HKm.out, rfl, by go_num, by have := HT.out.2.2.1; simp; omega, HL4.out, HR4.out⟩
        · obtain rfl : k = m4 := by have := HT.out.2.2.2.1; omega
          have hkm' : ¬ (k : Int) < (k : Int) := by omega
          obtain ⟨g4, hg4⟩ : ∃ g, g = gv := ⟨_, rfl⟩
          obtain ⟨l4, hl4⟩ : ∃ q, q = l := ⟨_, rfl⟩
          rw [← hg4, ← hl4] at HT
          have HE4 : Hid (r = prK1 x l4 j (s.drop j)) := by
            rw [HT.out.2.1, Nat.sub_self]
            rfl
          have HG4 : Hid (Rdr wr b bo bc s j fr ∧ Fg b W wr ∧ wr.heap[pb]? = some (.cells ((fun v : Value => #[g1, g2, g3, v, .int .i64 0, .slice none 0 0]) g4) 29 (0, 0)) ∧ Ows wr pb ([en1 n1 g1 x.1, en2 n2 g2 x.2.1, en3 n3 g3 x.2.2] ++ [⟨v4.heap.size, 3, 1, g4, l4.length, iC l4⟩])) := ⟨HT.out.1.rd, HTo.out _ _ _ HS4.out.2.1 (by have := blk_lt HS4.out.2.2.1; omega) HT.out.1.fr, HT.out.1.hb, HS4.out.2.2.2.lp HT.out.1⟩
          clear HT hg4 hl4 hkm
          go_wp2_with fail
          cases h2 : num j (s.drop j) with
          | die er q =>
            refine (rnum_die HG4.out.1 h2).mono ?_
            rintro e w3 ⟨rfl, hf⟩
            have hr4 : r = .die er q := by
              rw [HE4.out]
              unfold prK1 rpl
              rw [h2]
              rfl
            have HF : Hid (Fg b W w3) := HG4.out.2.1.trans hf
            clear hf h2
            go_wp2_with fail
            exact ⟨rfl, by rw [hr4]; exact HPP.out.2 _ _ _ _ rfl HF.out⟩
          | ok q i3 t3 =>
            have hql : (q : Int) ≤ 9223372036854775807 := by have := num_lt HG4.out.1 h2; omega
            refine (rnum_ok HG4.out.1 h2).mono ?_
            rintro e w3 ⟨rfl, hw, hf⟩
            have ht := good_drop num_good0 h2
            subst ht
            obtain ⟨ms, hms⟩ : ∃ ms : Int, ms = (q : Int) - 1 := ⟨_, rfl⟩
            have hb3 : w3.heap[pb]? = some (.cells #[g1, g2, g3, g4, .int .i64 0, .slice none 0 0] 29 (0, 0)) := (hf.block pb (blk_lt HG4.out.2.2.1) (by have := HB.out; omega)).trans HG4.out.2.2.1
            have HRm : Hid (r = (cnt 262144 i3 (s.drop i3)).bind fun n i t => (lisR insR n [] i t).bind (prK2 x l4 ms)) := by
              rw [HE4.out]
              unfold prK1 rpl
              rw [h2, hms]
              rfl
            have c4 : w3.cell? ⟨pb, 4, none⟩ = some (.int .i64 0) := by simp only [World.cell?, hb3]; rfl
            have z4 := fzb hb3 4
            have H6 : Hid (Rdr (w3.setCell ⟨pb, 4, none⟩ (.int .i64 ((q : Int) - 1))) b bo bc s i3 j ∧ Fg b W (w3.setCell ⟨pb, 4, none⟩ (.int .i64 ((q : Int) - 1))) ∧ (w3.setCell ⟨pb, 4, none⟩ (.int .i64 ((q : Int) - 1))).heap[pb]? = some (.cells #[g1, g2, g3, g4, .int .i64 ms, .slice none 0 0] 29 (0, 0)) ∧ Ows (w3.setCell ⟨pb, 4, none⟩ (.int .i64 ((q : Int) - 1))) pb [en1 n1 g1 x.1, en2 n2 g2 x.2.1, en3 n3 g3 x.2.2, en3 v4.heap.size g4 l4]) :=
              ⟨hw.other HB.out 4 _, HNw.out _ 4 _ (HG4.out.2.1.trans hf), by rw [heap_setCell_same w3 pb 4 _ _ _ hb3, ← hms]; rfl, (HG4.out.2.2.2.fg hf (by have := HB.out; omega)).set _⟩
            clear hw hf h2 hb3 hms HE4 HG4
            go_wp2_with fail
            generalize (w3.setCell ⟨pb, 4, none⟩ (.int .i64 ((q : Int) - 1))) = w6 at *
            clear c4 z4
            refine (rcnt_any H6.out.1 262144).mono ?_
            intro e v5 hp
            cases h1 : cnt 262144 i3 (s.drop i3) with
            | die er k =>
              rw [h1] at hp
              obtain ⟨rfl, hf⟩ := hp
              have HF : Hid (Fg b W v5) := H6.out.2.1.trans hf
              have hr2 : r = .die er k := by rw [HRm.out, h1]; rfl
              clear hf h1
              go_wp2_with fail
              exact ⟨rfl, by rw [hr2]; exact HPP.out.2 _ _ _ _ rfl HF.out⟩
            | ok m5 i4 t4 =>
              rw [h1] at hp
              obtain ⟨rfl, ⟨fr4, hw⟩, hf⟩ := hp
              have ht := good_drop (cnt_good 262144) h1
              subst ht
              have HM5 : Hid (m5 ≤ 262144 ∧ True) := ⟨cnt_le h1, trivial⟩
              have HRS5 : Hid (r = (lisR insR m5 [] i4 (s.drop i4)).bind (prK2 x l4 ms)) := by rw [HRm.out, h1]; rfl
              have HS5 : Hid (Rdr v5 b bo bc s i4 fr4 ∧ Fg b W v5 ∧ v5.heap[pb]? = some (.cells #[g1, g2, g3, g4, .int .i64 ms, .slice none 0 0] 29 (0, 0)) ∧ Ows v5 pb [en1 n1 g1 x.1, en2 n2 g2 x.2.1, en3 n3 g3 x.2.2, en3 v4.heap.size g4 l4]) := ⟨hw, H6.out.2.1.trans hf, (hf.block pb (blk_lt H6.out.2.2.1) (by have := HB.out; omega)).trans H6.out.2.2.1, H6.out.2.2.2.fg hf (by have := HB.out; omega)⟩
              have hm5 : (m5 : Int) ≤ 262144 := by have := HM5.out.1; omega
              clear hw hf h1 H6 HRm
              go_wp2_with fail
              go_loopg [27] m5 (fun gq y wr => ∃ (k j fr : Nat) (l : List Ins) (v : Value), k ≤ m5 ∧ gq = m5 - k ∧ y = .int .i64 (k : Int) ∧ l.length = k ∧ Lp v5 b pb bo bc s (fun v : Value => #[g1, g2, g3, g4, .int .i64 ms, v]) 64 5 l.length (Vf.cC l) v j fr wr ∧ r = (lisR insR (m5 - k) l j (s.drop j)).bind (prK2 x l4 ms))
              case atStart => exact ⟨0, i4, fr4, [], .slice none 0 0, Nat.zero_le _, rfl, rfl, rfl, Lp.start HS5.out.1 HS5.out.2.2.1 HB.out, HRS5.out⟩
              case round =>
                obtain ⟨k, j, fr, l, gv, hk, hgk, rfl, hkl, hL, hrr⟩ := hrel
                have HT : Hid (Lp v5 b pb bo bc s (fun v : Value => #[g1, g2, g3, g4, .int .i64 ms, v]) 64 5 l.length (Vf.cC l) gv j fr wr ∧ r = (lisR insR (m5 - k) l j (s.drop j)).bind (prK2 x l4 ms) ∧ l.length = k ∧ k ≤ m5 ∧ gk = m5 - k) := ⟨hL, hrr, hkl, hk, hgk⟩
                clear hL hrr hkl hgk hk
                by_cases hkm : k < m5
                · have hkm' : (k : Int) < (m5 : Int) := by omega
                  have HKm : Hid (k < m5) := hkm
                  have hr3 : r = (insR j (s.drop j)).bind fun a i t => (lisR insR (m5 - (k + 1)) (l ++ [a]) i t).bind (prK2 x l4 ms) := by
                    rw [HT.out.2.1, show m5 - k = (m5 - (k + 1)) + 1 by omega, lisR_bind]
                  obtain ⟨bgv, cgv, egv⟩ := own_form HT.out.1.ow
                  have hc : wr.cell? ⟨pb, 5, none⟩ = some gv := HT.out.1.cell rfl
                  clear hkm
                  have hcal := rins_any HT.out.1.rd.drew
                  cases h2 : insR j (s.drop j) with
                  | die er q =>
                    have hr4 : r = .die er q := by rw [hr3, h2]; rfl
                    rw [h2] at hcal
                    have HC : Hid (Calls Tryd.prog 61 #[.pointer (some ⟨b, 0, none⟩)] wr.drew fun e W' => e = flt er q ∧ Fg b wr.drew W') := hcal
                    clear hcal
                    clear hr3 h2
                    subst egv
                    go_wp2_with fail
                    go_region_dies
                    all_goals refine HC.out.mono ?_
                    all_goals rintro e w3 ⟨rfl, hf⟩
                    all_goals (have HF : Hid (Fg b W w3) := (HTo.out _ _ _ HS5.out.2.1 (by have := blk_lt HS5.out.2.2.1; omega) HT.out.1.fr).trans ((Fg.drew b wr).trans hf))
                    all_goals clear hf
                    all_goals go_wp2_with fail
                    all_goals exact ⟨rfl, by rw [hr4]; exact HPP.out.2 _ _ _ _ rfl HF.out⟩
                  | ok a j2 t2 =>
                    have ht := good_drop insR_good h2
                    subst ht
                    have HR4 : Hid (r = (lisR insR (m5 - (k + 1)) (l ++ [a]) j2 (s.drop j2)).bind (prK2 x l4 ms)) := by rw [hr3, h2]; exact rfl
                    rw [h2] at hcal
                    have HC : Hid (Calls Tryd.prog 61 #[.pointer (some ⟨b, 0, none⟩)] wr.drew fun e W' => e = .returned (.agg #[.int .i64 a.op, .int .i64 a.a, .int .i64 a.b, .int .i64 a.c, .int .i64 a.d]) ∧ (∃ fr, Rdr W' b bo bc s j2 fr) ∧ Fg b wr.drew W') := hcal
                    clear hcal
                    have HLl : Hid (l.length ≤ 1000000) := by have := HT.out.2.2; have := HM5.out.1; show _ ≤ _; omega
                    clear hr3 h2
                    subst egv
                    go_wp2_with fail
                    go_region_law (first
                      | (go_simp
                         go_at_call 61
                         refine HC.out.mono ?_
                         rintro e wz ⟨rfl, ⟨frz, hz⟩, hfz⟩
                         have HLz : Hid (Lp v5 b pb bo bc s (fun v : Value => #[g1, g2, g3, g4, .int .i64 ms, v]) 64 5 l.length (Vf.cC l) (.slice bgv l.length cgv) j2 frz wz) := HT.out.1.fg hz ((Fg.drew b wr).trans hfz)
                         have HLy : Hid (Lp v5 b pb bo bc s (fun v : Value => #[g1, g2, g3, g4, .int .i64 ms, v]) 64 5 l.length (Vf.cC l) (.slice bgv l.length cgv) j2 frz (wz.alloc (.cells #[.int .i64 a.op, .int .i64 a.a, .int .i64 a.b, .int .i64 a.c, .int .i64 a.d] 64))) := HLz.out.below ((Below.refl _ wz).alloc (Nat.le_refl _) _)
                         have hcz : wz.cell? ⟨pb, 5, none⟩ = some (.slice bgv l.length cgv) := HLz.out.cell rfl
                         have hcy : (wz.alloc (.cells #[.int .i64 a.op, .int .i64 a.a, .int .i64 a.b, .int .i64 a.c, .int .i64 a.d] 64)).cell? ⟨pb, 5, none⟩ = some (.slice bgv l.length cgv) := HLy.out.cell rfl
                         clear hz hfz)
                      | (refine step_gone _ rfl (.tmp 30) (.tmp 33) 27 rfl v5.heap.size 64 id (.agg #[.int .i64 0, .int .i64 0, .int .i64 0, .int .i64 0, .int .i64 0]) 5 40 Tryd.underlying27 hid hid0 hid1 hid2 rfl (by decide) (.slice bgv l.length cgv) l.length (Vf.cC l) (by simp [Act.eval]) HLy.out.ow ⟨wz.heap.size, 0, none⟩ 1 1 [.int .i64 a.op, .int .i64 a.a, .int .i64 a.b, .int .i64 a.c, .int .i64 a.d] (by simp [Act.eval]) rfl (cells_new5 wz _ _ _ _ _ _) (by intro u hu; simp only [List.mem_cons, List.not_mem_nil, or_false] at hu; rcases hu with rfl | rfl | rfl | rfl | rfl <;> rfl) (by have := HLl.out; unfold maxLen; omega) (by have := HLl.out; omega) HLy.out.fr.size (by decide) ?_
                         intro v4' w4 ho hG
                         have ho2 : w4.ownsRow v5.heap.size 64 5 v4' (l ++ [a]).length (Vf.cC l ++ [.int .i64 a.op, .int .i64 a.a, .int .i64 a.b, .int .i64 a.c, .int .i64 a.d]) := by rw [List.length_append]; exact ho
                         obtain ⟨bv4, cv4, rfl⟩ := own_form ho
                         obtain ⟨hcell, hfro⟩ := HLy.out.at4 hG (ix := 5) rfl
                         have HL4 : Hid (Lp v5 b pb bo bc s (fun v : Value => #[g1, g2, g3, g4, .int .i64 ms, v]) 64 5 (l ++ [a]).length (Vf.cC (l ++ [a])) (.slice bv4 (l.length + 1) cv4) j2 frz (w4.setCell ⟨pb, 5, none⟩ (.slice bv4 (l.length + 1) cv4))) := by
                           have := HLy.out.app (ix := 5) ho2 hG rfl
                           rw [show Vf.cC (l ++ [a]) = Vf.cC l ++ [.int .i64 a.op, .int .i64 a.a, .int .i64 a.b, .int .i64 a.c, .int .i64 a.d] by simp [Vf.cC]]
                           exact this
                         clear ho ho2 hG))
                    all_goals go_wp2_with fail
                    all_goals go_roundg (m5 - (k + 1))
                    all_goals first
                      | (have := HKm.out; have := HT.out.2.2.2.2; omega)
                      | exact ⟨k + 1, j2, _, l ++ [a], _, HKm.out, rfl, by go_num, by have := HT.out.2.2.1; simp; omega, HL4.out, HR4.out⟩
                · obtain rfl : k = m5 := by have := HT.out.2.2.2.1; omega
                  have hkm' : ¬ (k : Int) < (k : Int) := by omega
                  obtain ⟨g5, hg5⟩ : ∃ g, g = gv := ⟨_, rfl⟩
                  obtain ⟨l5, hl5⟩ : ∃ q, q = l := ⟨_, rfl⟩
                  rw [← hg5, ← hl5] at HT
                  have HE5 : Hid (r = prK2 x l4 ms l5 j (s.drop j)) := by
                    rw [HT.out.2.1, Nat.sub_self]
                    rfl
                  have HG5 : Hid (Rdr wr b bo bc s j fr ∧ Fg b W wr ∧ wr.heap[pb]? = some (.cells ((fun v : Value => #[g1, g2, g3, g4, .int .i64 ms, v]) g5) 29 (0, 0)) ∧ Ows wr pb ([en1 n1 g1 x.1, en2 n2 g2 x.2.1, en3 n3 g3 x.2.2, en3 v4.heap.size g4 l4] ++ [⟨v5.heap.size, 64, 5, g5, l5.length, Vf.cC l5⟩])) := ⟨HT.out.1.rd, HTo.out _ _ _ HS5.out.2.1 (by have := blk_lt HS5.out.2.2.1; omega) HT.out.1.fr, HT.out.1.hb, HS5.out.2.2.2.lp HT.out.1⟩
                  clear HT hg5 hl5 hkm
                  obtain ⟨b1, k1, e1⟩ := own_form (HG5.out.2.2.2.ow (en1 n1 g1 x.1) (by simp)).2
                  obtain ⟨b2, k2, e2⟩ := own_form (HG5.out.2.2.2.ow (en2 n2 g2 x.2.1) (by simp)).2
                  obtain ⟨b3, k3, e3⟩ := own_form (HG5.out.2.2.2.ow (en3 n3 g3 x.2.2) (by simp)).2
                  obtain ⟨b4, k4, e4⟩ := own_form (HG5.out.2.2.2.ow (en3 v4.heap.size g4 l4) (by simp)).2
                  obtain ⟨b5, k5, e5⟩ := own_form (HG5.out.2.2.2.ow (en5 v5.heap.size g5 l5) (List.mem_append_right _ (List.mem_singleton.2 rfl))).2
                  change g1 = .slice b1 x.1.length k1 at e1
                  change g2 = .slice b2 x.2.1.length k2 at e2
                  change g3 = .slice b3 x.2.2.length k3 at e3
                  change g4 = .slice b4 l4.length k4 at e4
                  change g5 = .slice b5 l5.length k5 at e5
                  have hbx := HG5.out.2.2.1
                  subst e1 e2 e3 e4 e5
                  have c0 : wr.cell? ⟨pb, 0, none⟩ = some (.slice b1 x.1.length k1) := by simp only [World.cell?, hbx]; rfl
                  have c1 : wr.cell? ⟨pb, 1, none⟩ = some (.slice b2 x.2.1.length k2) := by simp only [World.cell?, hbx]; rfl
                  have c2 : wr.cell? ⟨pb, 2, none⟩ = some (.slice b3 x.2.2.length k3) := by simp only [World.cell?, hbx]; rfl
                  have c3 : wr.cell? ⟨pb, 3, none⟩ = some (.slice b4 l4.length k4) := by simp only [World.cell?, hbx]; rfl
                  have c4 : wr.cell? ⟨pb, 4, none⟩ = some (.int .i64 ms) := by simp only [World.cell?, hbx]; rfl
                  have c5 : wr.cell? ⟨pb, 5, none⟩ = some (.slice b5 l5.length k5) := by simp only [World.cell?, hbx]; rfl
                  have z0 := fzb hbx 0
                  have z1 := fzb hbx 1
                  have z2 := fzb hbx 2
                  have z3 := fzb hbx 3
                  have z4 := fzb hbx 4
                  have z5 := fzb hbx 5
                  have HW9 : Hid (Rdr ((((((wr.setCell ⟨pb, 0, none⟩ (.slice b1 x.1.length k1)).setCell ⟨pb, 1, none⟩ (.slice b2 x.2.1.length k2)).setCell ⟨pb, 2, none⟩ (.slice b3 x.2.2.length k3)).setCell ⟨pb, 3, none⟩ (.slice b4 l4.length k4)).setCell ⟨pb, 4, none⟩ (.int .i64 ms)).setCell ⟨pb, 5, none⟩ (.slice b5 l5.length k5)) b bo bc s j fr ∧ Fg b W ((((((wr.setCell ⟨pb, 0, none⟩ (.slice b1 x.1.length k1)).setCell ⟨pb, 1, none⟩ (.slice b2 x.2.1.length k2)).setCell ⟨pb, 2, none⟩ (.slice b3 x.2.2.length k3)).setCell ⟨pb, 3, none⟩ (.slice b4 l4.length k4)).setCell ⟨pb, 4, none⟩ (.int .i64 ms)).setCell ⟨pb, 5, none⟩ (.slice b5 l5.length k5)) ∧ ((((((wr.setCell ⟨pb, 0, none⟩ (.slice b1 x.1.length k1)).setCell ⟨pb, 1, none⟩ (.slice b2 x.2.1.length k2)).setCell ⟨pb, 2, none⟩ (.slice b3 x.2.2.length k3)).setCell ⟨pb, 3, none⟩ (.slice b4 l4.length k4)).setCell ⟨pb, 4, none⟩ (.int .i64 ms)).setCell ⟨pb, 5, none⟩ (.slice b5 l5.length k5)).heap[pb]? = some (.cells #[.slice b1 x.1.length k1, .slice b2 x.2.1.length k2, .slice b3 x.2.2.length k3, .slice b4 l4.length k4, .int .i64 ms, .slice b5 l5.length k5] 29 (0, 0)) ∧ Ows ((((((wr.setCell ⟨pb, 0, none⟩ (.slice b1 x.1.length k1)).setCell ⟨pb, 1, none⟩ (.slice b2 x.2.1.length k2)).setCell ⟨pb, 2, none⟩ (.slice b3 x.2.2.length k3)).setCell ⟨pb, 3, none⟩ (.slice b4 l4.length k4)).setCell ⟨pb, 4, none⟩ (.int .i64 ms)).setCell ⟨pb, 5, none⟩ (.slice b5 l5.length k5)) pb [en1 n1 (.slice b1 x.1.length k1) x.1, en2 n2 (.slice b2 x.2.1.length k2) x.2.1, en3 n3 (.slice b3 x.2.2.length k3) x.2.2, en3 v4.heap.size (.slice b4 l4.length k4) l4, en5 v5.heap.size (.slice b5 l5.length k5) l5]) :=
                    ⟨(((((HG5.out.1.other HB.out 0 _).other HB.out 1 _).other HB.out 2 _).other HB.out 3 _).other HB.out 4 _).other HB.out 5 _,
                     HNw.out _ 5 _ (HNw.out _ 4 _ (HNw.out _ 3 _ (HNw.out _ 2 _ (HNw.out _ 1 _ (HNw.out _ 0 _ HG5.out.2.1))))),
                     heap_setCell_same _ pb 5 _ _ _ (heap_setCell_same _ pb 4 _ _ _ (heap_setCell_same _ pb 3 _ _ _ (heap_setCell_same _ pb 2 _ _ _ (heap_setCell_same _ pb 1 _ _ _ (heap_setCell_same wr pb 0 _ _ _ hbx))))),
                     (((((HG5.out.2.2.2.set _).set _).set _).set _).set _).set _⟩
                  clear hbx HG5
                  go_wp2_with fail
                  generalize ((((((wr.setCell ⟨pb, 0, none⟩ (.slice b1 x.1.length k1)).setCell ⟨pb, 1, none⟩ (.slice b2 x.2.1.length k2)).setCell ⟨pb, 2, none⟩ (.slice b3 x.2.2.length k3)).setCell ⟨pb, 3, none⟩ (.slice b4 l4.length k4)).setCell ⟨pb, 4, none⟩ (.int .i64 ms)).setCell ⟨pb, 5, none⟩ (.slice b5 l5.length k5)) = w9 at *
                  have hby := HW9.out.2.2.1
                  have d0 : w9.cell? ⟨pb, 0, none⟩ = some (.slice b1 x.1.length k1) := by simp only [World.cell?, hby]; rfl
                  have d1 : w9.cell? ⟨pb, 1, none⟩ = some (.slice b2 x.2.1.length k2) := by simp only [World.cell?, hby]; rfl
                  have d2 : w9.cell? ⟨pb, 2, none⟩ = some (.slice b3 x.2.2.length k3) := by simp only [World.cell?, hby]; rfl
                  have d3 : w9.cell? ⟨pb, 3, none⟩ = some (.slice b4 l4.length k4) := by simp only [World.cell?, hby]; rfl
                  have d4 : w9.cell? ⟨pb, 4, none⟩ = some (.int .i64 ms) := by simp only [World.cell?, hby]; rfl
                  have d5 : w9.cell? ⟨pb, 5, none⟩ = some (.slice b5 l5.length k5) := by simp only [World.cell?, hby]; rfl
                  refine bodyPost_ret (v := .agg #[.slice b1 x.1.length k1, .slice b2 x.2.1.length k2, .slice b3 x.2.2.length k3, .slice b4 l4.length k4, .int .i64 ms, .slice b5 l5.length k5]) (by simp [results, Tryd.results43, go_sem, d0, d1, d2, d3, d4, d5]) rfl ?_
                  rw [HE5.out]
                  exact HPP.out.1 _ _ _ _ _ ⟨_, _, _, _, _, rfl, ⟨n1, n2, n3, _, _, HW9.out.2.2.2⟩⟩ ⟨_, HW9.out.1⟩ HW9.out.2.1
end
end Go.Proofs.YtcblichnkakhdaaDoor.Cd
