import Derived.Test.YtcblichnkakhdaaDoorCeLp
import Derived.RegionDies
import Derived.Deep.RegionLaw
set_option linter.unusedSimpArgs false
namespace Go.Proofs.YtcblichnkakhdaaDoor.Cd
open Go.RowKit Go.Proofs.YtcblichnkakhdaaDoor.Nm Go.Proofs.YtcblichnkakhdaaDoor.Vf

theorem infoBo : (Tryd.prog.info? 4).map (fun i => (i.zero, i.size, i.bytes)) = some (some (.bool false), 1, 1) := by kernel_rfl
theorem infoVa : (Tryd.prog.info? 60).map (fun i => (i.zero, i.size, i.bytes)) = some (some (.agg #[.int .i64 0, .int .i64 0, .int .i64 0]), 3, 24) := by kernel_rfl
theorem infoIn : (Tryd.prog.info? 3).map (fun i => (i.zero, i.size, i.bytes)) = some (some (.int .i64 0), 1, 8) := by kernel_rfl
theorem lisR_bind {α β : Type} (f : Nat → List Nat → Rs α) (n : Nat) (l : List α) (i : Nat) (t : List Nat) (K : List α → Nat → List Nat → Rs β) : (lisR f (n + 1) l i t).bind K = (f i t).bind fun a i t => (lisR f n (l ++ [a]) i t).bind K := by
  show ((f i t).bind fun a i t => lisR f n (l ++ [a]) i t).bind K = _
  cases f i t <;> rfl
theorem cnt_le {most i n j : Nat} {r t : List Nat} (h : cnt most i r = .ok n j t) : n ≤ most := by
  unfold cnt at h
  cases h1 : num i r with
  | die er k => rw [h1] at h; cases h
  | ok m k u =>
    rw [h1] at h
    change (if most < m then Rs.die 85 i else Rs.ok m k u) = _ at h
    by_cases h2 : most < m
    · rw [if_pos h2] at h; cases h
    · rw [if_neg h2] at h
      cases h
      omega
theorem Fb.mono {F : List Nat} {n m : Nat} {w w' : World} (h : Fb F n w w') (hm : m ≤ n) : Fb F m w w' := ⟨h.os, h.tape, h.output, h.size, fun k hk hn => h.block k (by omega) hn⟩
abbrev Tabs := List Bool × List (Int × Int × Int) × List Int
def tabK3 (gh : List Bool) (vs : List (Int × Int × Int)) (ts : List Int) (i : Nat) (t : List Nat) : Rs Tabs := .ok (gh, vs, ts) i t
def tabK2 (gh : List Bool) (vs : List (Int × Int × Int)) (i : Nat) (t : List Nat) : Rs Tabs := (cnt 4 i t).bind fun n i t => (lisR rnu n [] i t).bind (tabK3 gh vs)
def tabK1 (gh : List Bool) (i : Nat) (t : List Nat) : Rs Tabs := (cnt 16 i t).bind fun n i t => (lisR var n [] i t).bind (tabK2 gh)
theorem tabR_eq (i : Nat) (t : List Nat) : tabR i t = (cnt 16 i t).bind fun n i t => (lisR gho n [] i t).bind tabK1 := rfl
section
variable {W : World} {b pb : Nat} {bo : Option Addr} {bc : Nat} {s : List Nat} {i fr : Nat}
theorem rnu_any (h : Rdr W b bo bc s i fr) : Calls Tryd.prog 31 #[.pointer (some ⟨b, 0, none⟩)] W fun e W' => RP W b bo bc s (fun n : Int => .int .i64 n) (rnu i (s.drop i)) e W' := by
  refine (rnum_any h).mono ?_
  intro e W' hp
  unfold rnu
  cases hn : num i (s.drop i) with
  | die er j =>
    rw [hn] at hp
    exact hp
  | ok n j t =>
    rw [hn] at hp
    exact ⟨hp.1, ⟨_, hp.2.1⟩, hp.2.2⟩
/-- what tables leaves: the box with three lists, each in a block of its own of those made since n1, n2, n3 -/
structure Tb3 (W W' : World) (pb : Nat) (x : Tabs) : Prop where
  ex : ∃ (g v u : Value) (n1 n2 n3 : Nat), W'.heap[pb]? = some (.cells #[g, v, u, .slice none 0 0, .int .i64 0, .slice none 0 0] 29 (0, 0)) ∧ W'.ownsRow n1 4 1 g x.1.length (bC x.1) ∧ W'.ownsRow n2 60 3 v x.2.1.length (vC x.2.1) ∧ W'.ownsRow n3 3 1 u x.2.2.length (iC x.2.2) ∧ W.heap.size ≤ n1 ∧ n1 ≤ n2 ∧ n2 ≤ n3 ∧ (∀ k, g.ownBlock = some k → k < n2) ∧ (∀ k, v.ownBlock = some k → k < n3)
  q : x.1.length ≤ 16
  v : x.2.1.length ≤ 16
  t : x.2.2.length ≤ 4
def TP (W : World) (b pb : Nat) (bo : Option Addr) (bc : Nat) (s : List Nat) (r : Rs Tabs) (e : Ending) (W' : World) : Prop :=
  match r with
  | .ok x j _ => e = .returned (.tuple #[]) ∧ (∃ fr, Rdr W' b bo bc s j fr) ∧ Fb [b, pb] W.heap.size W W' ∧ Tb3 W W' pb x
  | .die er k => e = flt er k ∧ Fb [b, pb] W.heap.size W W'
theorem own_fg {n m sz : Nat} {T : TypeId} {v : Value} {xs : List Value} {w w' : World} (h : w.ownsRow n T sz v m xs) (hb : b < n) (hf : Fg b w w') : w'.ownsRow n T sz v m xs := own_keepB h fun k e => hf.block k (World.ownsRow.lt h k e).2 (by have := (World.ownsRow.lt h k e).1; omega)
theorem own_fb {n m sz : Nat} {T : TypeId} {v : Value} {xs : List Value} {w w' : World} (h : w.ownsRow n T sz v m xs) (hb : b < n) (hp : pb < n) (hf : Fb [b, pb] w.heap.size w w') : w'.ownsRow n T sz v m xs := own_keepB h fun k e => hf.block k (World.ownsRow.lt h k e).2 (by have := (World.ownsRow.lt h k e).1; simp; omega)
theorem cells_new3 (w : World) (T : TypeId) (a b c : Value) : ∀ j u, [a, b, c][j]? = some u → (w.alloc (.cells #[a, b, c] T)).cell? ((⟨w.heap.size, 0, none⟩ : Addr).add j) = some u := by
  intro j u h
  exact Lib.cells_of_row (heap_alloc_new w (.cells #[a, b, c] T)) 3 j u (by simpa using h)
theorem fb_fg {n : Nat} {w w' : World} (hf : Fg b w w') (hn : n ≤ w.heap.size) : Fb [b, pb] n w w' := ⟨hf.os, hf.tape, hf.output, hf.size, fun k hk hx => hf.block k (by omega) (fun e => hx (by simp [e]))⟩
set_option maxHeartbeats 51200000 in
set_option maxRecDepth 100000 in
/-- the tables are read -/
theorem rtab_any (h : Rdr W b bo bc s i fr) (hpb : W.heap[pb]? = some (.cells #[.slice none 0 0, .slice none 0 0, .slice none 0 0, .slice none 0 0, .int .i64 0, .slice none 0 0] 29 (0, 0))) (hlt : b < pb) :
    Calls Tryd.prog 59 #[.pointer (some ⟨b, 0, none⟩), .pointer (some ⟨pb, 0, none⟩)] W fun e W' => TP W b pb bo bc s (tabR i (s.drop i)) e W' := by
  obtain ⟨r, hr⟩ : ∃ r, r = tabR i (s.drop i) := ⟨_, rfl⟩
  rw [← hr]
  rw [tabR_eq] at hr
  obtain ⟨ia, hia, hia0, hia1, hia2⟩ := info_parts infoBo
  obtain ⟨ib, hib, hib0, hib1, hib2⟩ := info_parts infoVa
  obtain ⟨ic, hic, hic0, hic1, hic2⟩ := info_parts infoIn
  have HR : Hid (r = (cnt 16 i (s.drop i)).bind fun n i t => (lisR gho n [] i t).bind tabK1) := hr
  have H0 : Hid (Rdr W b bo bc s i fr ∧ W.heap[pb]? = some (.cells #[.slice none 0 0, .slice none 0 0, .slice none 0 0, .slice none 0 0, .int .i64 0, .slice none 0 0] 29 (0, 0)) ∧ b < pb ∧ pb < W.heap.size) := ⟨h, hpb, hlt, blk_lt hpb⟩
  clear hr h hpb hlt
  go_enter Tryd.func59, Tryd.ntmps59
  go_wp2_with fail
  refine (rcnt_any H0.out.1 16).mono ?_
  intro e v1 hp
  cases h1 : cnt 16 i (s.drop i) with
  | die er k =>
    rw [h1] at hp
    obtain ⟨rfl, hf⟩ := hp
    have HF : Hid (Fb [b, pb] W.heap.size W v1) := fb_fg hf (Nat.le_refl _)
    have hr2 : r = .die er k := by
      rw [HR.out]
      rw [h1]
      rfl
    clear hf h1
    go_wp2_with fail
    exact ⟨rfl, by rw [hr2]; exact ⟨rfl, HF.out⟩⟩
  | ok m1 i1 t1 =>
    rw [h1] at hp
    obtain ⟨rfl, ⟨fr1, hw⟩, hf⟩ := hp
    have ht := good_drop (cnt_good 16) h1
    subst ht
    have HM1 : Hid (m1 ≤ 16) := cnt_le h1
    have HR1 : Hid (r = (lisR gho m1 [] i1 (s.drop i1)).bind tabK1) := by
      rw [HR.out]
      rw [h1]
      rfl
    have HS1 : Hid (Rdr v1 b bo bc s i1 fr1 ∧ Fb [b, pb] W.heap.size W v1 ∧ v1.heap[pb]? = some (.cells #[.slice none 0 0, .slice none 0 0, .slice none 0 0, .slice none 0 0, .int .i64 0, .slice none 0 0] 29 (0, 0))) := ⟨hw, fb_fg hf (Nat.le_refl _), (hf.block pb H0.out.2.2.2 (by have := H0.out.2.2.1; omega)).trans H0.out.2.1⟩
    have HN1 : Hid (b < v1.heap.size ∧ pb < v1.heap.size) := ⟨by have := H0.out.2.2; have := HS1.out.2.1.size; omega, by have := H0.out.2.2; have := HS1.out.2.1.size; omega⟩
    have hm1 : (m1 : Int) ≤ 16 := by have := HM1.out; omega
    clear hw hf h1 HR
    go_wp2_with fail
    go_loopg [6] m1 (fun gq x wr => ∃ (k j fr : Nat) (l : List Bool) (v : Value), k ≤ m1 ∧ gq = m1 - k ∧ x = .int .i64 (k : Int) ∧ l.length = k ∧ Lp v1 b pb bo bc s (fun v : Value => #[v, .slice none 0 0, .slice none 0 0, .slice none 0 0, .int .i64 0, .slice none 0 0]) 4 1 l.length (bC l) v j fr wr ∧ r = (lisR gho (m1 - k) l j (s.drop j)).bind tabK1)
    case atStart => exact ⟨0, i1, fr1, [], .slice none 0 0, Nat.zero_le _, rfl, rfl, rfl, Lp.start HS1.out.1 HS1.out.2.2 H0.out.2.2.1, HR1.out⟩
    case round =>
      obtain ⟨k, j, fr, l, gv, hk, hgk, rfl, hkl, hL, hrr⟩ := hrel
      have HT : Hid (Lp v1 b pb bo bc s (fun v : Value => #[v, .slice none 0 0, .slice none 0 0, .slice none 0 0, .int .i64 0, .slice none 0 0]) 4 1 l.length (bC l) gv j fr wr ∧ r = (lisR gho (m1 - k) l j (s.drop j)).bind tabK1 ∧ l.length = k ∧ k ≤ m1 ∧ gk = m1 - k) := ⟨hL, hrr, hkl, hk, hgk⟩
      clear hL hrr hkl hgk hk
      by_cases hkm : k < m1
      · have hkm' : (k : Int) < (m1 : Int) := by omega
        have HKm : Hid (k < m1) := hkm
        have hr3 : r = (gho j (s.drop j)).bind fun a i t => (lisR gho (m1 - (k + 1)) (l ++ [a]) i t).bind tabK1 := by
          rw [HT.out.2.1, show m1 - k = (m1 - (k + 1)) + 1 by omega, lisR_bind]
        obtain ⟨bgv, cgv, egv⟩ := own_form HT.out.1.ow
        have hc : wr.cell? ⟨pb, 0, none⟩ = some gv := HT.out.1.cell rfl
        have hcal := rgho_any HT.out.1.rd.drew
        clear hkm
        cases h2 : gho j (s.drop j) with
        | die er q =>
          have hr4 : r = .die er q := by rw [hr3, h2]; rfl
          rw [h2] at hcal
          have HC : Hid (Calls Tryd.prog 68 #[.pointer (some ⟨b, 0, none⟩)] wr.drew fun e W' => e = flt er q ∧ Fg b wr.drew W') := hcal
          clear hcal hr3 h2
          subst egv
          go_wp2_with fail
          go_region_dies
          all_goals refine HC.out.mono ?_
          all_goals rintro e w3 ⟨rfl, hf⟩
          all_goals (have HF : Hid (Fb [b, pb] W.heap.size W w3) := HS1.out.2.1.trans ((HT.out.1.fr.mono HS1.out.2.1.size).trans (fb_fg ((Fg.drew b wr).trans hf) (Nat.le_trans HS1.out.2.1.size HT.out.1.fr.size))))
          all_goals clear hf
          all_goals go_wp2_with fail
          all_goals exact ⟨rfl, by rw [hr4]; exact ⟨rfl, HF.out⟩⟩
        | ok a j2 t2 =>
          have ht := good_drop gho_good h2
          subst ht
          have HR4 : Hid (r = (lisR gho (m1 - (k + 1)) (l ++ [a]) j2 (s.drop j2)).bind tabK1) := by rw [hr3, h2]; exact rfl
          rw [h2] at hcal
          have HC : Hid (Calls Tryd.prog 68 #[.pointer (some ⟨b, 0, none⟩)] wr.drew fun e W' => e = .returned ((fun g : Bool => .bool g) a) ∧ (∃ fr, Rdr W' b bo bc s j2 fr) ∧ Fg b wr.drew W') := hcal
          have HLl : Hid (l.length ≤ 1000000) := by have := HT.out.2.2; have := HM1.out; show _ ≤ _; omega
          clear hcal hr3 h2
          subst egv
          go_wp2_with fail
          go_region_law (first
            | (go_simp
               go_at_call 68
               refine HC.out.mono ?_
               rintro e wz ⟨rfl, ⟨frz, hz⟩, hfz⟩
               have HLz : Hid (Lp v1 b pb bo bc s (fun v : Value => #[v, .slice none 0 0, .slice none 0 0, .slice none 0 0, .int .i64 0, .slice none 0 0]) 4 1 l.length (bC l) (.slice bgv l.length cgv) j2 frz wz) := HT.out.1.fg hz ((Fg.drew b wr).trans hfz)
               have HLy : Hid (Lp v1 b pb bo bc s (fun v : Value => #[v, .slice none 0 0, .slice none 0 0, .slice none 0 0, .int .i64 0, .slice none 0 0]) 4 1 l.length (bC l) (.slice bgv l.length cgv) j2 frz (wz.alloc (.cells #[.bool a] 4))) := HLz.out.below ((Below.refl _ wz).alloc (Nat.le_refl _) _)
               have hcz : wz.cell? ⟨pb, 0, none⟩ = some (.slice bgv l.length cgv) := HLz.out.cell rfl
               have hcy : (wz.alloc (.cells #[.bool a] 4)).cell? ⟨pb, 0, none⟩ = some (.slice bgv l.length cgv) := HLy.out.cell rfl
               clear hz hfz)
            | (refine step_gone _ rfl (.tmp 12) (.tmp 15) 24 rfl v1.heap.size 4 ia (.bool false) 1 1 Tryd.underlying24 hia hia0 hia1 hia2 rfl (by decide) (.slice bgv l.length cgv) l.length (bC l) (by simp [Act.eval]) HLy.out.ow ⟨wz.heap.size, 0, none⟩ 1 1 [.bool a] (by simp [Act.eval]) rfl (cell_one wz _ _) (by intro u hu; simp only [List.mem_cons, List.not_mem_nil, or_false] at hu; subst hu; rfl) (by have := HLl.out; unfold maxLen; omega) (by have := HLl.out; omega) HLy.out.fr.size (by decide) ?_
               intro v4 w4 ho hG
               have ho2 : w4.ownsRow v1.heap.size 4 1 v4 (l ++ [a]).length (bC l ++ [.bool a]) := by rw [List.length_append]; exact ho
               obtain ⟨bv4, cv4, rfl⟩ := own_form ho
               obtain ⟨hcell, hfro⟩ := HLy.out.at4 hG (ix := 0) rfl
               have HL4 : Hid (Lp v1 b pb bo bc s (fun v : Value => #[v, .slice none 0 0, .slice none 0 0, .slice none 0 0, .int .i64 0, .slice none 0 0]) 4 1 (l ++ [a]).length (bC (l ++ [a])) (.slice bv4 (l.length + 1) cv4) j2 frz (w4.setCell ⟨pb, 0, none⟩ (.slice bv4 (l.length + 1) cv4))) := by
                 have := HLy.out.app (ix := 0) ho2 hG rfl
                 rw [show bC (l ++ [a]) = bC l ++ [.bool a] by simp [bC]]
                 exact this
               clear ho ho2 hG))
          all_goals go_wp2_with fail
          all_goals go_roundg (m1 - (k + 1))
          all_goals first
            | (have := HKm.out; have := HT.out.2.2.2.2; omega)
            | exact ⟨k + 1, j2, _, l ++ [a], _, HKm.out, rfl, by go_num, by have := HT.out.2.2.1; simp; omega, HL4.out, HR4.out⟩
      · obtain rfl : k = m1 := by have := HT.out.2.2.2.1; omega
        have hkm' : ¬ (k : Int) < (k : Int) := by omega
        obtain ⟨g1, hg1⟩ : ∃ g, g = gv := ⟨_, rfl⟩
        obtain ⟨l1, hl1⟩ : ∃ q, q = l := ⟨_, rfl⟩
        rw [← hg1, ← hl1] at HT
        have HE1 : Hid (r = tabK1 l1 j (s.drop j)) := by
          rw [HT.out.2.1, Nat.sub_self]
          rfl
        have HG1 : Hid (Rdr wr b bo bc s j fr ∧ Fb [b, pb] W.heap.size W wr ∧ wr.heap[pb]? = some (.cells #[g1, .slice none 0 0, .slice none 0 0, .slice none 0 0, .int .i64 0, .slice none 0 0] 29 (0, 0)) ∧ wr.ownsRow v1.heap.size 4 1 g1 l1.length (bC l1)) := ⟨HT.out.1.rd, HS1.out.2.1.trans (HT.out.1.fr.mono HS1.out.2.1.size), HT.out.1.hb, HT.out.1.ow⟩
        have HY1 : Hid (v1.heap.size ≤ wr.heap.size) := HT.out.1.fr.size
        have HQ1 : Hid (l1.length ≤ 16) := by rw [HT.out.2.2.1]; exact HM1.out
        clear HT hg1 hl1 hkm
        go_wp2_with fail
        refine (rcnt_any HG1.out.1 16).mono ?_
        intro e v2 hp
        cases h1 : cnt 16 j (s.drop j) with
        | die er k =>
          rw [h1] at hp
          obtain ⟨rfl, hf⟩ := hp
          have HF : Hid (Fb [b, pb] W.heap.size W v2) := HG1.out.2.1.trans (fb_fg hf HG1.out.2.1.size)
          have hr2 : r = .die er k := by
            rw [HE1.out]
            unfold tabK1
            rw [h1]
            rfl
          clear hf h1
          go_wp2_with fail
          exact ⟨rfl, by rw [hr2]; exact ⟨rfl, HF.out⟩⟩
        | ok m2 i2 t2 =>
          rw [h1] at hp
          obtain ⟨rfl, ⟨fr2, hw⟩, hf⟩ := hp
          have ht := good_drop (cnt_good 16) h1
          subst ht
          have HM2 : Hid (m2 ≤ 16) := cnt_le h1
          have HR2 : Hid (r = (lisR var m2 [] i2 (s.drop i2)).bind (tabK2 l1)) := by
            rw [HE1.out]
            unfold tabK1
            rw [h1]
            rfl
          have HS2 : Hid (Rdr v2 b bo bc s i2 fr2 ∧ Fb [b, pb] W.heap.size W v2 ∧ v2.heap[pb]? = some (.cells #[g1, .slice none 0 0, .slice none 0 0, .slice none 0 0, .int .i64 0, .slice none 0 0] 29 (0, 0)) ∧ v2.ownsRow v1.heap.size 4 1 g1 l1.length (bC l1)) := ⟨hw, HG1.out.2.1.trans (fb_fg hf HG1.out.2.1.size), (hf.block pb (blk_lt HG1.out.2.2.1) (by have := H0.out.2.2.1; omega)).trans HG1.out.2.2.1, own_fg HG1.out.2.2.2 HN1.out.1 hf⟩
          have HN2 : Hid (b < v2.heap.size ∧ pb < v2.heap.size) := ⟨by have := H0.out.2.2; have := HS2.out.2.1.size; omega, by have := H0.out.2.2; have := HS2.out.2.1.size; omega⟩
          have hm2 : (m2 : Int) ≤ 16 := by have := HM2.out; omega
          have HZ2 : Hid (v1.heap.size ≤ v2.heap.size) := Nat.le_trans HY1.out hf.size
          clear hw hf h1 HE1 HG1
          go_wp2_with fail
          go_loopg [22] m2 (fun gq x wr => ∃ (k j fr : Nat) (l : List (Int × Int × Int)) (v : Value), k ≤ m2 ∧ gq = m2 - k ∧ x = .int .i64 (k : Int) ∧ l.length = k ∧ Lp v2 b pb bo bc s (fun v : Value => #[g1, v, .slice none 0 0, .slice none 0 0, .int .i64 0, .slice none 0 0]) 60 3 l.length (vC l) v j fr wr ∧ r = (lisR var (m2 - k) l j (s.drop j)).bind (tabK2 l1))
          case atStart => exact ⟨0, i2, fr2, [], .slice none 0 0, Nat.zero_le _, rfl, rfl, rfl, Lp.start HS2.out.1 HS2.out.2.2.1 H0.out.2.2.1, HR2.out⟩
          case round =>
            obtain ⟨k, j, fr, l, gv, hk, hgk, rfl, hkl, hL, hrr⟩ := hrel
            have HT : Hid (Lp v2 b pb bo bc s (fun v : Value => #[g1, v, .slice none 0 0, .slice none 0 0, .int .i64 0, .slice none 0 0]) 60 3 l.length (vC l) gv j fr wr ∧ r = (lisR var (m2 - k) l j (s.drop j)).bind (tabK2 l1) ∧ l.length = k ∧ k ≤ m2 ∧ gk = m2 - k) := ⟨hL, hrr, hkl, hk, hgk⟩
            clear hL hrr hkl hgk hk
            by_cases hkm : k < m2
            · have hkm' : (k : Int) < (m2 : Int) := by omega
              have HKm : Hid (k < m2) := hkm
              have hr3 : r = (var j (s.drop j)).bind fun a i t => (lisR var (m2 - (k + 1)) (l ++ [a]) i t).bind (tabK2 l1) := by
                rw [HT.out.2.1, show m2 - k = (m2 - (k + 1)) + 1 by omega, lisR_bind]
              obtain ⟨bgv, cgv, egv⟩ := own_form HT.out.1.ow
              have hc : wr.cell? ⟨pb, 1, none⟩ = some gv := HT.out.1.cell rfl
              have hcal := rvar_any HT.out.1.rd.drew
              clear hkm
              cases h2 : var j (s.drop j) with
              | die er q =>
                have hr4 : r = .die er q := by rw [hr3, h2]; rfl
                rw [h2] at hcal
                have HC : Hid (Calls Tryd.prog 69 #[.pointer (some ⟨b, 0, none⟩)] wr.drew fun e W' => e = flt er q ∧ Fg b wr.drew W') := hcal
                clear hcal hr3 h2
                subst egv
                go_wp2_with fail
                go_region_dies
                all_goals refine HC.out.mono ?_
                all_goals rintro e w3 ⟨rfl, hf⟩
                all_goals (have HF : Hid (Fb [b, pb] W.heap.size W w3) := HS2.out.2.1.trans ((HT.out.1.fr.mono HS2.out.2.1.size).trans (fb_fg ((Fg.drew b wr).trans hf) (Nat.le_trans HS2.out.2.1.size HT.out.1.fr.size))))
                all_goals clear hf
                all_goals go_wp2_with fail
                all_goals exact ⟨rfl, by rw [hr4]; exact ⟨rfl, HF.out⟩⟩
              | ok a j2 t2 =>
                have ht := good_drop var_good h2
                subst ht
                have HR4 : Hid (r = (lisR var (m2 - (k + 1)) (l ++ [a]) j2 (s.drop j2)).bind (tabK2 l1)) := by rw [hr3, h2]; exact rfl
                rw [h2] at hcal
                have HC : Hid (Calls Tryd.prog 69 #[.pointer (some ⟨b, 0, none⟩)] wr.drew fun e W' => e = .returned ((fun x : Int × Int × Int => .agg #[.int .i64 x.1, .int .i64 x.2.1, .int .i64 x.2.2]) a) ∧ (∃ fr, Rdr W' b bo bc s j2 fr) ∧ Fg b wr.drew W') := hcal
                have HLl : Hid (l.length ≤ 1000000) := by have := HT.out.2.2; have := HM2.out; show _ ≤ _; omega
                clear hcal hr3 h2
                subst egv
                go_wp2_with fail
                go_region_law (first
                  | (go_simp
                     go_at_call 69
                     refine HC.out.mono ?_
                     rintro e wz ⟨rfl, ⟨frz, hz⟩, hfz⟩
                     have HLz : Hid (Lp v2 b pb bo bc s (fun v : Value => #[g1, v, .slice none 0 0, .slice none 0 0, .int .i64 0, .slice none 0 0]) 60 3 l.length (vC l) (.slice bgv l.length cgv) j2 frz wz) := HT.out.1.fg hz ((Fg.drew b wr).trans hfz)
                     have HLy : Hid (Lp v2 b pb bo bc s (fun v : Value => #[g1, v, .slice none 0 0, .slice none 0 0, .int .i64 0, .slice none 0 0]) 60 3 l.length (vC l) (.slice bgv l.length cgv) j2 frz (wz.alloc (.cells #[.int .i64 a.1, .int .i64 a.2.1, .int .i64 a.2.2] 60))) := HLz.out.below ((Below.refl _ wz).alloc (Nat.le_refl _) _)
                     have hcz : wz.cell? ⟨pb, 1, none⟩ = some (.slice bgv l.length cgv) := HLz.out.cell rfl
                     have hcy : (wz.alloc (.cells #[.int .i64 a.1, .int .i64 a.2.1, .int .i64 a.2.2] 60)).cell? ⟨pb, 1, none⟩ = some (.slice bgv l.length cgv) := HLy.out.cell rfl
                     clear hz hfz)
                  | (refine step_gone _ rfl (.tmp 28) (.tmp 31) 25 rfl v2.heap.size 60 ib (.agg #[.int .i64 0, .int .i64 0, .int .i64 0]) 3 24 Tryd.underlying25 hib hib0 hib1 hib2 rfl (by decide) (.slice bgv l.length cgv) l.length (vC l) (by simp [Act.eval]) HLy.out.ow ⟨wz.heap.size, 0, none⟩ 1 1 [.int .i64 a.1, .int .i64 a.2.1, .int .i64 a.2.2] (by simp [Act.eval]) rfl (cells_new3 wz _ _ _ _) (by intro u hu; simp only [List.mem_cons, List.not_mem_nil, or_false] at hu; rcases hu with rfl | rfl | rfl <;> rfl) (by have := HLl.out; unfold maxLen; omega) (by have := HLl.out; omega) HLy.out.fr.size (by decide) ?_
                     intro v4 w4 ho hG
                     have ho2 : w4.ownsRow v2.heap.size 60 3 v4 (l ++ [a]).length (vC l ++ [.int .i64 a.1, .int .i64 a.2.1, .int .i64 a.2.2]) := by rw [List.length_append]; exact ho
                     obtain ⟨bv4, cv4, rfl⟩ := own_form ho
                     obtain ⟨hcell, hfro⟩ := HLy.out.at4 hG (ix := 1) rfl
                     have HL4 : Hid (Lp v2 b pb bo bc s (fun v : Value => #[g1, v, .slice none 0 0, .slice none 0 0, .int .i64 0, .slice none 0 0]) 60 3 (l ++ [a]).length (vC (l ++ [a])) (.slice bv4 (l.length + 1) cv4) j2 frz (w4.setCell ⟨pb, 1, none⟩ (.slice bv4 (l.length + 1) cv4))) := by
                       have := HLy.out.app (ix := 1) ho2 hG rfl
                       rw [show vC (l ++ [a]) = vC l ++ [.int .i64 a.1, .int .i64 a.2.1, .int .i64 a.2.2] by simp [vC]]
                       exact this
                     clear ho ho2 hG))
                all_goals go_wp2_with fail
                all_goals go_roundg (m2 - (k + 1))
                all_goals first
                  | (have := HKm.out; have := HT.out.2.2.2.2; omega)
                  | exact ⟨k + 1, j2, _, l ++ [a], _, HKm.out, rfl, by go_num, by have := HT.out.2.2.1; simp; omega, HL4.out, HR4.out⟩
            · obtain rfl : k = m2 := by have := HT.out.2.2.2.1; omega
              have hkm' : ¬ (k : Int) < (k : Int) := by omega
              obtain ⟨g2, hg2⟩ : ∃ g, g = gv := ⟨_, rfl⟩
              obtain ⟨l2, hl2⟩ : ∃ q, q = l := ⟨_, rfl⟩
              rw [← hg2, ← hl2] at HT
              have HE2 : Hid (r = tabK2 l1 l2 j (s.drop j)) := by
                rw [HT.out.2.1, Nat.sub_self]
                rfl
              have HG2 : Hid (Rdr wr b bo bc s j fr ∧ Fb [b, pb] W.heap.size W wr ∧ wr.heap[pb]? = some (.cells #[g1, g2, .slice none 0 0, .slice none 0 0, .int .i64 0, .slice none 0 0] 29 (0, 0)) ∧ wr.ownsRow v1.heap.size 4 1 g1 l1.length (bC l1) ∧ wr.ownsRow v2.heap.size 60 3 g2 l2.length (vC l2)) := ⟨HT.out.1.rd, HS2.out.2.1.trans (HT.out.1.fr.mono HS2.out.2.1.size), HT.out.1.hb, own_fb HS2.out.2.2.2 HN1.out.1 HN1.out.2 HT.out.1.fr, HT.out.1.ow⟩
              have HY2 : Hid (v2.heap.size ≤ wr.heap.size) := HT.out.1.fr.size
              have HQ2 : Hid (l2.length ≤ 16) := by rw [HT.out.2.2.1]; exact HM2.out
              clear HT hg2 hl2 hkm
              go_wp2_with fail
              refine (rcnt_any HG2.out.1 4).mono ?_
              intro e v3 hp
              cases h1 : cnt 4 j (s.drop j) with
              | die er k =>
                rw [h1] at hp
                obtain ⟨rfl, hf⟩ := hp
                have HF : Hid (Fb [b, pb] W.heap.size W v3) := HG2.out.2.1.trans (fb_fg hf HG2.out.2.1.size)
                have hr2 : r = .die er k := by
                  rw [HE2.out]
                  unfold tabK2
                  rw [h1]
                  rfl
                clear hf h1
                go_wp2_with fail
                exact ⟨rfl, by rw [hr2]; exact ⟨rfl, HF.out⟩⟩
              | ok m3 i3 t3 =>
                rw [h1] at hp
                obtain ⟨rfl, ⟨fr3, hw⟩, hf⟩ := hp
                have ht := good_drop (cnt_good 4) h1
                subst ht
                have HM3 : Hid (m3 ≤ 4) := cnt_le h1
                have HR3 : Hid (r = (lisR rnu m3 [] i3 (s.drop i3)).bind (tabK3 l1 l2)) := by
                  rw [HE2.out]
                  unfold tabK2
                  rw [h1]
                  rfl
                have HS3 : Hid (Rdr v3 b bo bc s i3 fr3 ∧ Fb [b, pb] W.heap.size W v3 ∧ v3.heap[pb]? = some (.cells #[g1, g2, .slice none 0 0, .slice none 0 0, .int .i64 0, .slice none 0 0] 29 (0, 0)) ∧ v3.ownsRow v1.heap.size 4 1 g1 l1.length (bC l1) ∧ v3.ownsRow v2.heap.size 60 3 g2 l2.length (vC l2)) := ⟨hw, HG2.out.2.1.trans (fb_fg hf HG2.out.2.1.size), (hf.block pb (blk_lt HG2.out.2.2.1) (by have := H0.out.2.2.1; omega)).trans HG2.out.2.2.1, own_fg HG2.out.2.2.2.1 HN1.out.1 hf, own_fg HG2.out.2.2.2.2 HN2.out.1 hf⟩
                have HN3 : Hid (b < v3.heap.size ∧ pb < v3.heap.size) := ⟨by have := H0.out.2.2; have := HS3.out.2.1.size; omega, by have := H0.out.2.2; have := HS3.out.2.1.size; omega⟩
                have hm3 : (m3 : Int) ≤ 4 := by have := HM3.out; omega
                have HZ3 : Hid (v2.heap.size ≤ v3.heap.size) := Nat.le_trans HY2.out hf.size
                clear hw hf h1 HE2 HG2
                go_wp2_with fail
                go_loopg [38] m3 (fun gq x wr => ∃ (k j fr : Nat) (l : List Int) (v : Value), k ≤ m3 ∧ gq = m3 - k ∧ x = .int .i64 (k : Int) ∧ l.length = k ∧ Lp v3 b pb bo bc s (fun v : Value => #[g1, g2, v, .slice none 0 0, .int .i64 0, .slice none 0 0]) 3 1 l.length (iC l) v j fr wr ∧ r = (lisR rnu (m3 - k) l j (s.drop j)).bind (tabK3 l1 l2))
                case atStart => exact ⟨0, i3, fr3, [], .slice none 0 0, Nat.zero_le _, rfl, rfl, rfl, Lp.start HS3.out.1 HS3.out.2.2.1 H0.out.2.2.1, HR3.out⟩
                case round =>
                  obtain ⟨k, j, fr, l, gv, hk, hgk, rfl, hkl, hL, hrr⟩ := hrel
                  have HT : Hid (Lp v3 b pb bo bc s (fun v : Value => #[g1, g2, v, .slice none 0 0, .int .i64 0, .slice none 0 0]) 3 1 l.length (iC l) gv j fr wr ∧ r = (lisR rnu (m3 - k) l j (s.drop j)).bind (tabK3 l1 l2) ∧ l.length = k ∧ k ≤ m3 ∧ gk = m3 - k) := ⟨hL, hrr, hkl, hk, hgk⟩
                  clear hL hrr hkl hgk hk
                  by_cases hkm : k < m3
                  · have hkm' : (k : Int) < (m3 : Int) := by omega
                    have HKm : Hid (k < m3) := hkm
                    have hr3 : r = (rnu j (s.drop j)).bind fun a i t => (lisR rnu (m3 - (k + 1)) (l ++ [a]) i t).bind (tabK3 l1 l2) := by
                      rw [HT.out.2.1, show m3 - k = (m3 - (k + 1)) + 1 by omega, lisR_bind]
                    obtain ⟨bgv, cgv, egv⟩ := own_form HT.out.1.ow
                    have hc : wr.cell? ⟨pb, 2, none⟩ = some gv := HT.out.1.cell rfl
                    have hcal := rnu_any HT.out.1.rd.drew
                    clear hkm
                    cases h2 : rnu j (s.drop j) with
                    | die er q =>
                      have hr4 : r = .die er q := by rw [hr3, h2]; rfl
                      rw [h2] at hcal
                      have HC : Hid (Calls Tryd.prog 31 #[.pointer (some ⟨b, 0, none⟩)] wr.drew fun e W' => e = flt er q ∧ Fg b wr.drew W') := hcal
                      clear hcal hr3 h2
                      subst egv
                      go_wp2_with fail
                      go_region_dies
                      all_goals refine HC.out.mono ?_
                      all_goals rintro e w3 ⟨rfl, hf⟩
                      all_goals (have HF : Hid (Fb [b, pb] W.heap.size W w3) := HS3.out.2.1.trans ((HT.out.1.fr.mono HS3.out.2.1.size).trans (fb_fg ((Fg.drew b wr).trans hf) (Nat.le_trans HS3.out.2.1.size HT.out.1.fr.size))))
                      all_goals clear hf
                      all_goals go_wp2_with fail
                      all_goals exact ⟨rfl, by rw [hr4]; exact ⟨rfl, HF.out⟩⟩
                    | ok a j2 t2 =>
                      have ht := good_drop rnu_good h2
                      subst ht
                      have HR4 : Hid (r = (lisR rnu (m3 - (k + 1)) (l ++ [a]) j2 (s.drop j2)).bind (tabK3 l1 l2)) := by rw [hr3, h2]; exact rfl
                      rw [h2] at hcal
                      have HC : Hid (Calls Tryd.prog 31 #[.pointer (some ⟨b, 0, none⟩)] wr.drew fun e W' => e = .returned ((fun n : Int => .int .i64 n) a) ∧ (∃ fr, Rdr W' b bo bc s j2 fr) ∧ Fg b wr.drew W') := hcal
                      have HLl : Hid (l.length ≤ 1000000) := by have := HT.out.2.2; have := HM3.out; show _ ≤ _; omega
                      clear hcal hr3 h2
                      subst egv
                      go_wp2_with fail
                      go_region_law (first
                        | (go_simp
                           go_at_call 31
                           refine HC.out.mono ?_
                           rintro e wz ⟨rfl, ⟨frz, hz⟩, hfz⟩
                           have HLz : Hid (Lp v3 b pb bo bc s (fun v : Value => #[g1, g2, v, .slice none 0 0, .int .i64 0, .slice none 0 0]) 3 1 l.length (iC l) (.slice bgv l.length cgv) j2 frz wz) := HT.out.1.fg hz ((Fg.drew b wr).trans hfz)
                           have HLy : Hid (Lp v3 b pb bo bc s (fun v : Value => #[g1, g2, v, .slice none 0 0, .int .i64 0, .slice none 0 0]) 3 1 l.length (iC l) (.slice bgv l.length cgv) j2 frz (wz.alloc (.cells #[.int .i64 a] 3))) := HLz.out.below ((Below.refl _ wz).alloc (Nat.le_refl _) _)
                           have hcz : wz.cell? ⟨pb, 2, none⟩ = some (.slice bgv l.length cgv) := HLz.out.cell rfl
                           have hcy : (wz.alloc (.cells #[.int .i64 a] 3)).cell? ⟨pb, 2, none⟩ = some (.slice bgv l.length cgv) := HLy.out.cell rfl
                           clear hz hfz)
                        | (refine step_gone _ rfl (.tmp 44) (.tmp 47) 26 rfl v3.heap.size 3 ic (.int .i64 0) 1 8 Tryd.underlying26 hic hic0 hic1 hic2 rfl (by decide) (.slice bgv l.length cgv) l.length (iC l) (by simp [Act.eval]) HLy.out.ow ⟨wz.heap.size, 0, none⟩ 1 1 [.int .i64 a] (by simp [Act.eval]) rfl (cell_one wz _ _) (by intro u hu; simp only [List.mem_cons, List.not_mem_nil, or_false] at hu; subst hu; rfl) (by have := HLl.out; unfold maxLen; omega) (by have := HLl.out; omega) HLy.out.fr.size (by decide) ?_
                           intro v4 w4 ho hG
                           have ho2 : w4.ownsRow v3.heap.size 3 1 v4 (l ++ [a]).length (iC l ++ [.int .i64 a]) := by rw [List.length_append]; exact ho
                           obtain ⟨bv4, cv4, rfl⟩ := own_form ho
                           obtain ⟨hcell, hfro⟩ := HLy.out.at4 hG (ix := 2) rfl
                           have HL4 : Hid (Lp v3 b pb bo bc s (fun v : Value => #[g1, g2, v, .slice none 0 0, .int .i64 0, .slice none 0 0]) 3 1 (l ++ [a]).length (iC (l ++ [a])) (.slice bv4 (l.length + 1) cv4) j2 frz (w4.setCell ⟨pb, 2, none⟩ (.slice bv4 (l.length + 1) cv4))) := by
                             have := HLy.out.app (ix := 2) ho2 hG rfl
                             rw [show iC (l ++ [a]) = iC l ++ [.int .i64 a] by simp [iC]]
                             exact this
                           clear ho ho2 hG))
                      all_goals go_wp2_with fail
                      all_goals go_roundg (m3 - (k + 1))
                      all_goals first
                        | (have := HKm.out; have := HT.out.2.2.2.2; omega)
                        | exact ⟨k + 1, j2, _, l ++ [a], _, HKm.out, rfl, by go_num, by have := HT.out.2.2.1; simp; omega, HL4.out, HR4.out⟩
                  · obtain rfl : k = m3 := by have := HT.out.2.2.2.1; omega
                    have hkm' : ¬ (k : Int) < (k : Int) := by omega
                    obtain ⟨g3, hg3⟩ : ∃ g, g = gv := ⟨_, rfl⟩
                    obtain ⟨l3, hl3⟩ : ∃ q, q = l := ⟨_, rfl⟩
                    rw [← hg3, ← hl3] at HT
                    have HE3 : Hid (r = tabK3 l1 l2 l3 j (s.drop j)) := by
                      rw [HT.out.2.1, Nat.sub_self]
                      rfl
                    have HG3 : Hid (Rdr wr b bo bc s j fr ∧ Fb [b, pb] W.heap.size W wr ∧ wr.heap[pb]? = some (.cells #[g1, g2, g3, .slice none 0 0, .int .i64 0, .slice none 0 0] 29 (0, 0)) ∧ wr.ownsRow v1.heap.size 4 1 g1 l1.length (bC l1) ∧ wr.ownsRow v2.heap.size 60 3 g2 l2.length (vC l2) ∧ wr.ownsRow v3.heap.size 3 1 g3 l3.length (iC l3)) := ⟨HT.out.1.rd, HS3.out.2.1.trans (HT.out.1.fr.mono HS3.out.2.1.size), HT.out.1.hb, own_fb HS3.out.2.2.2.1 HN1.out.1 HN1.out.2 HT.out.1.fr, own_fb HS3.out.2.2.2.2 HN2.out.1 HN2.out.2 HT.out.1.fr, HT.out.1.ow⟩
                    have HY3 : Hid (v3.heap.size ≤ wr.heap.size) := HT.out.1.fr.size
                    have HQ3 : Hid (l3.length ≤ 4) := by rw [HT.out.2.2.1]; exact HM3.out
                    clear HT hg3 hl3 hkm
                    go_wp2_with fail
                    go_end0
                    rw [HE3.out]
                    refine ⟨rfl, ⟨_, HG3.out.1⟩, HG3.out.2.1, ⟨g1, g2, g3, v1.heap.size, v2.heap.size, v3.heap.size, HG3.out.2.2.1, HG3.out.2.2.2.1, HG3.out.2.2.2.2.1, HG3.out.2.2.2.2.2, HS1.out.2.1.size, HZ2.out, HZ3.out, fun k e => (World.ownsRow.lt HS2.out.2.2.2 k e).2, fun k e => (World.ownsRow.lt HS3.out.2.2.2.2 k e).2⟩, HQ1.out, HQ2.out, HQ3.out⟩
end
end Go.Proofs.YtcblichnkakhdaaDoor.Cd
