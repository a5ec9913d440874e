import Derived.Test.YtcicifcnffacpaaDoorJQ
import Derived.Test.YtcicifcnffacpaaDoorJK
import Derived.Test.YtcicifcnffacpaaDoorJL
set_option linter.unusedSimpArgs false
namespace Go.Proofs.YtcicifcnffacpaaDoor.Cd
open Go.RowKit Go.Proofs.YtcicifcnffacpaaDoor.Nm Go.Proofs.YtcicifcnffacpaaDoor.Vf

theorem txt_app (a b : List Nat) : txt (a ++ b) = txt a ++ txt b := by
  apply ByteArray.ext
  unfold txt
  simp
theorem decB_low {m : Nat} (h : m < 10) : decB (m : Int) = [48 + m] := by
  unfold decB Lib.itoa
  rw [if_neg (by omega), Int.toNat_natCast, Lib.decDigits, dif_pos h]
  simp
  omega
theorem decB_high {m : Nat} (h : ¬ m < 10) : decB (m : Int) = decB ((m / 10 : Nat) : Int) ++ [48 + m % 10] := by
  unfold decB Lib.itoa
  rw [if_neg (by omega), if_neg (by omega), Int.toNat_natCast, Int.toNat_natCast, Lib.decDigits, dif_neg h]
  simp
  omega
theorem decB_neg {m : Nat} (h : 0 < m) : decB (-(m : Int)) = [45] ++ decB (m : Int) := by
  unfold decB Lib.itoa
  rw [if_pos (by omega), if_neg (by omega), Int.toNat_natCast]
  simp
theorem conv_digG (w : World) (g d : Nat) (hd : d < 256) (h : w.heap[g]? = some (.cells #[.int .u8 (d : Int)] 5 (0, 0))) : (convert 32 9 (.slice (some ⟨g, 0, none⟩) 1 1)).run Tryd.prog w = .ok (.string (txt [d])) w := by
  have hlow : Low [d] := fun x hx => by
    rw [List.mem_singleton] at hx
    omega
  refine conv_rd (xs := [d]) (fun k x hx => ?_) hlow
  refine ⟨g, 0, rfl, blk_lt h, ?_⟩
  rw [Nat.zero_add]
  exact cell_of (cs := [.int .u8 (d : Int)]) h hx
theorem conv_dig (W : World) (d : Nat) (hd : d < 256) : (convert 32 9 (.slice (some ⟨W.heap.size, 0, none⟩) 1 1)).run Tryd.prog (W.alloc (.cells #[.int .u8 (d : Int)] 5)) = .ok (.string (txt [d])) (W.alloc (.cells #[.int .u8 (d : Int)] 5)) := conv_digG _ _ d hd (heap_alloc_new _ _)
set_option maxHeartbeats 12800000 in
set_option maxRecDepth 100000 in
/-- a number in its digits -/
theorem rdecP_any (m : Nat) : m < 9223372036854775808 → ∀ W : World, Calls Tryd.prog 38 #[.int .i64 (m : Int)] W fun e W' => e = .returned (.string (txt (decB (m : Int)))) ∧ Below W.heap.size W W' := by
  induction m using Nat.strongRecOn with
  | _ m ih =>
    intro hm W
    have HI := show Hid _ from ih
    have HM : Hid (m < 9223372036854775808) := hm
    clear ih
    have h0 : ¬ (m : Int) < 0 := by omega
    by_cases h : m < 10
    · have h1 : (m : Int) < 10 := by omega
      obtain ⟨d, hd⟩ : ∃ d : Nat, d = 48 + m := ⟨_, rfl⟩
      have e1 : IntKind.i64.wrap (48 + (m : Int)) = (d : Int) := by rw [IntKind.wrap_i64]; omega
      have e2 : IntKind.u8.wrap (d : Int) = (d : Int) := by rw [IntKind.wrap_u8]; omega
      have HE : Hid (decB (m : Int) = [d]) := by show _ = _; rw [decB_low h, hd]
      have hcv := conv_dig W d (by omega)
      clear hd h hm
      go_enter Tryd.func38, Tryd.ntmps38
      go_wp2_with fail
      go_ret
      exact ⟨by rw [HE.out]; rfl, (Below.refl _ W).alloc (Nat.le_refl _) _⟩
    · have h1 : ¬ (m : Int) < 10 := by omega
      obtain ⟨q, hq⟩ : ∃ q : Nat, q = m / 10 := ⟨_, rfl⟩
      obtain ⟨r, hr⟩ : ∃ r : Nat, r = m % 10 := ⟨_, rfl⟩
      obtain ⟨d, hd⟩ : ∃ d : Nat, d = 48 + r := ⟨_, rfl⟩
      have HE : Hid (txt (decB (m : Int)) = txt (decB (q : Int)) ++ txt [d]) := by
        show _ = _
        rw [decB_high h, txt_app, hd, hr, hq]
      have HQ : Hid (q < m ∧ q < 9223372036854775808) := ⟨by omega, by omega⟩
      have q1 : (m : Int).tdiv 10 = (q : Int) := by rw [Int.tdiv_eq_ediv_of_nonneg (by omega)]; omega
      have q2 : (m : Int).tmod 10 = (r : Int) := by rw [Int.tmod_eq_emod_of_nonneg (by omega)]; omega
      have q3 : IntKind.i64.wrap (q : Int) = (q : Int) := by rw [IntKind.wrap_i64]; omega
      have q4 : IntKind.i64.wrap (r : Int) = (r : Int) := by rw [IntKind.wrap_i64]; omega
      have e1 : IntKind.i64.wrap (48 + (r : Int)) = (d : Int) := by rw [IntKind.wrap_i64]; omega
      have e2 : IntKind.u8.wrap (d : Int) = (d : Int) := by rw [IntKind.wrap_u8]; omega
      have HD : Hid (d < 256) := (by omega : d < 256)
      have hsz : (txt (decB (q : Int))).size + (txt [d]).size ≤ 9223372036854775807 := by
        rw [txt_size, txt_size]
        have := decB_len (q : Int) (by omega) (by omega)
        simp only [List.length_cons, List.length_nil]
        omega
      clear hd hr hq h hm
      go_enter Tryd.func38, Tryd.ntmps38
      go_upto_region 5 with fail
      refine wp_region_held (S := fun _ => True) (by kernel_rfl) ?_
      change wpAnyH _ _ _ _ _ _ _ _ W.drew
      have hS : True := trivial
      have HB0 : Hid (Below W.heap.size W W.drew) := (Below.refl _ W).drew
      generalize W.drew = w0 at *
      refine tqA 0 rfl hS ?_
      refine tqA 1 (v := .int .i64 (q : Int)) rfl hS ?_
      refine tqA 3 rfl hS ?_
      refine tqA 4 (v := .int .i64 (r : Int)) rfl hS ?_
      refine tqA 5 (v := .int .i64 (d : Int)) rfl hS ?_
      refine tqA 6 (v := .int .u8 (d : Int)) rfl hS ?_
      refine wpAnyH_ready (rs := [2, 7]) (by kernel_rfl) (by simp) ?_
      refine AllReadyH.cons rfl (fun K hK => ?_) (AllReadyH.cons rfl (fun K hK => ?_) AllReadyH.nil)
      · go_simp
        refine Calls.mono (HI.out q HQ.out.1 HQ.out.2 _) ?_
        rintro e w1 ⟨rfl, hb⟩
        refine hK.out _ _ trivial (fun hS => ?_)
        refine wpAnyH_ready (rs := [7]) (by kernel_rfl) (by simp) ?_
        refine AllReadyH.cons rfl (fun K hK => ?_) AllReadyH.nil
        go_simp
        have hcv := conv_dig w1 d HD.out
        refine hK.out _ _ trivial (fun hS => ?_)
        refine wpAnyH_ready (rs := [8]) (by kernel_rfl) (by simp) ?_
        refine AllReadyH.cons rfl (fun K hK => ?_) AllReadyH.nil
        go_simp
        refine hK.out _ _ trivial (fun hS => ?_)
        refine tqA 9 (v := .string (txt (decB (q : Int)) ++ txt [d])) rfl hS ?_
        refine tqA 10 rfl hS ?_
        refine wpAnyH_done (by kernel_rfl) ?_ _
        go_simp
        go_wp2_with fail
        go_ret
        exact ⟨by rw [HE.out]; rfl, HB0.out.trans ((hb.trans (((Below.refl _ w1).alloc (Nat.le_refl _) _).mono hb.size)).mono HB0.out.size)⟩
      · go_simp
        have hcv := conv_dig w0 d HD.out
        have HA : Hid (Below w0.heap.size w0 (w0.alloc (.cells #[.int .u8 (d : Int)] 5)) ∧ (w0.alloc (.cells #[.int .u8 (d : Int)] 5)).heap[w0.heap.size]? = some (.cells #[.int .u8 (d : Int)] 5 (0, 0))) := ⟨(Below.refl _ w0).alloc (Nat.le_refl _) _, heap_alloc_new _ _⟩
        refine hK.out _ _ trivial (fun hS => ?_)
        generalize w0.alloc (.cells #[.int .u8 (d : Int)] 5) = wa at *
        refine wpAnyH_ready (rs := [2, 8]) (by kernel_rfl) (by simp) ?_
        refine AllReadyH.cons rfl (fun K hK => ?_) (AllReadyH.cons rfl (fun K hK => ?_) AllReadyH.nil)
        · go_simp
          refine Calls.mono (HI.out q HQ.out.1 HQ.out.2 _) ?_
          rintro e w1 ⟨rfl, hb⟩
          have hcv2 := conv_digG w1 w0.heap.size d HD.out ((hb.block _ (blk_lt HA.out.2)).trans HA.out.2)
          refine hK.out _ _ trivial (fun hS => ?_)
          refine wpAnyH_ready (rs := [8]) (by kernel_rfl) (by simp) ?_
          refine AllReadyH.cons rfl (fun K hK => ?_) AllReadyH.nil
          go_simp
          refine hK.out _ _ trivial (fun hS => ?_)
          refine tqA 9 (v := .string (txt (decB (q : Int)) ++ txt [d])) rfl hS ?_
          refine tqA 10 rfl hS ?_
          refine wpAnyH_done (by kernel_rfl) ?_ _
          go_simp
          go_wp2_with fail
          go_ret
          exact ⟨by rw [HE.out]; rfl, HB0.out.trans ((HA.out.1.trans (hb.mono HA.out.1.size)).mono HB0.out.size)⟩
        · go_simp
          refine hK.out _ _ trivial (fun hS => ?_)
          refine wpAnyH_ready (rs := [2]) (by kernel_rfl) (by simp) ?_
          refine AllReadyH.cons rfl (fun K hK => ?_) AllReadyH.nil
          go_simp
          refine Calls.mono (HI.out q HQ.out.1 HQ.out.2 _) ?_
          rintro e w1 ⟨rfl, hb⟩
          refine hK.out _ _ trivial (fun hS => ?_)
          refine tqA 9 (v := .string (txt (decB (q : Int)) ++ txt [d])) rfl hS ?_
          refine tqA 10 rfl hS ?_
          refine wpAnyH_done (by kernel_rfl) ?_ _
          go_simp
          go_wp2_with fail
          go_ret
          exact ⟨by rw [HE.out]; rfl, HB0.out.trans ((HA.out.1.trans (hb.mono HA.out.1.size)).mono HB0.out.size)⟩
/-- any number -/
theorem rdec_any (n : Int) (hn : -9223372036854775808 < n ∧ n < 9223372036854775808) (W : World) : Calls Tryd.prog 38 #[.int .i64 n] W fun e W' => e = .returned (.string (txt (decB n))) ∧ Below W.heap.size W W' := by
  by_cases h : n < 0
  · obtain ⟨m, rfl⟩ : ∃ m : Nat, n = -(m : Int) := ⟨n.natAbs, by omega⟩
    have hm0 : 0 < m := by omega
    have HI := show Hid _ from rdecP_any m (by omega)
    have HE : Hid (txt (decB (-(m : Int))) = (⟨#[45]⟩ : ByteArray) ++ txt (decB (m : Int))) := by
      show _ = _
      rw [decB_neg hm0, txt_app]
      rfl
    have hsz : (⟨#[45]⟩ : ByteArray).size + (txt (decB (m : Int))).size ≤ 9223372036854775807 := by
      have := decB_len (m : Int) (by omega) (by omega)
      rw [txt_size]
      show 1 + _ ≤ _
      omega
    have hlt : -(m : Int) < 0 := by omega
    have e1 : IntKind.i64.wrap (-(-(m : Int))) = (m : Int) := by rw [IntKind.wrap_i64]; omega
    have e2 : IntKind.i64.wrap (0 - (-(m : Int))) = (m : Int) := by rw [IntKind.wrap_i64]; omega
    have e3 : IntKind.i64.wrap (0 + (m : Int)) = (m : Int) := by rw [IntKind.wrap_i64]; omega
    have e4 : IntKind.i64.wrap (m : Int) = (m : Int) := by rw [IntKind.wrap_i64]; omega
    clear hn hm0
    go_enter Tryd.func38, Tryd.ntmps38
    go_wp2_with fail
    refine Calls.mono (HI.out _) ?_
    rintro e w1 ⟨rfl, hb⟩
    go_wp2_with fail
    go_ret
    exact ⟨by rw [HE.out]; rfl, hb⟩
  · obtain ⟨m, rfl⟩ : ∃ m : Nat, n = (m : Int) := ⟨n.toNat, by omega⟩
    exact rdecP_any m (by omega) W
end Go.Proofs.YtcicifcnffacpaaDoor.Cd

set_option linter.unusedSimpArgs false
namespace Go.Proofs.YtcicifcnffacpaaDoor.Cd
open Go.RowKit Go.Proofs.YtcicifcnffacpaaDoor.Nm Go.Proofs.YtcicifcnffacpaaDoor.Vf

set_option maxHeartbeats 12800000 in
set_option maxRecDepth 100000 in
/-- an operand as the reference's text -/
theorem roper_any (k : Nat) (hk : k < 9) (n : Int) (hn : -9223372036854775808 < n ∧ n < 9223372036854775808) (h4 : k = 4 → n = 0 ∨ n = 1) (W : World) : Calls Tryd.prog 39 #[.int .i64 (k : Int), .int .i64 n] W fun e W' => e = .returned (.string (txt (opT (k : Int) n))) ∧ Below W.heap.size W W' := by
  have HI := show Hid _ from rdec_any n hn
  have HL : Hid ((txt (decB n)).size ≤ 30) := by
    show _ ≤ _
    rw [txt_size]
    exact decB_len n (by omega) (by omega)
  have hcs : k = 0 ∨ k = 1 ∨ k = 2 ∨ k = 3 ∨ k = 4 ∨ k = 5 ∨ k = 6 ∨ k = 7 ∨ k = 8 := by omega
  clear hn hk
  rcases hcs with rfl | rfl | rfl | rfl | rfl | rfl | rfl | rfl | rfl
  · clear h4
    change Calls _ _ #[.int .i64 0, _] _ _
    go_enter Tryd.func39, Tryd.ntmps39
    go_wp2_with fail
    go_ret
    exact ⟨rfl, Below.refl _ _⟩
  · clear h4
    have HE : Hid (txt (opT ((1 : Nat) : Int) n) = (⟨#[32, 113]⟩ : ByteArray) ++ txt (decB n)) := by
      show txt ([32, 113] ++ decB n) = _
      rw [txt_app]
      rfl
    have hsz : (⟨#[32, 113]⟩ : ByteArray).size + (txt (decB n)).size ≤ 9223372036854775807 := by
      have := HL.out
      show 2 + _ ≤ _
      omega
    change Calls _ _ #[.int .i64 1, _] _ _
    go_enter Tryd.func39, Tryd.ntmps39
    go_wp2_with fail
    refine Calls.mono (HI.out _) ?_
    rintro e w1 ⟨rfl, hb⟩
    go_wp2_with fail
    go_ret
    exact ⟨by rw [HE.out]; rfl, hb⟩
  · clear h4
    have HE : Hid (txt (opT ((2 : Nat) : Int) n) = (⟨#[32, 118]⟩ : ByteArray) ++ txt (decB n)) := by
      show txt ([32, 118] ++ decB n) = _
      rw [txt_app]
      rfl
    have hsz : (⟨#[32, 118]⟩ : ByteArray).size + (txt (decB n)).size ≤ 9223372036854775807 := by
      have := HL.out
      show 2 + _ ≤ _
      omega
    change Calls _ _ #[.int .i64 2, _] _ _
    go_enter Tryd.func39, Tryd.ntmps39
    go_wp2_with fail
    refine Calls.mono (HI.out _) ?_
    rintro e w1 ⟨rfl, hb⟩
    go_wp2_with fail
    go_ret
    exact ⟨by rw [HE.out]; rfl, hb⟩
  · clear h4
    have HE : Hid (txt (opT ((3 : Nat) : Int) n) = (⟨#[32, 116]⟩ : ByteArray) ++ txt (decB n)) := by
      show txt ([32, 116] ++ decB n) = _
      rw [txt_app]
      rfl
    have hsz : (⟨#[32, 116]⟩ : ByteArray).size + (txt (decB n)).size ≤ 9223372036854775807 := by
      have := HL.out
      show 2 + _ ≤ _
      omega
    change Calls _ _ #[.int .i64 3, _] _ _
    go_enter Tryd.func39, Tryd.ntmps39
    go_wp2_with fail
    refine Calls.mono (HI.out _) ?_
    rintro e w1 ⟨rfl, hb⟩
    go_wp2_with fail
    go_ret
    exact ⟨by rw [HE.out]; rfl, hb⟩
  · rcases h4 rfl with rfl | rfl
    · clear h4
      change Calls _ _ #[.int .i64 4, _] _ _
      go_enter Tryd.func39, Tryd.ntmps39
      go_wp2_with fail
      go_ret
      exact ⟨rfl, Below.refl _ _⟩
    · clear h4
      change Calls _ _ #[.int .i64 4, _] _ _
      go_enter Tryd.func39, Tryd.ntmps39
      go_wp2_with fail
      go_ret
      exact ⟨rfl, Below.refl _ _⟩
  · clear h4
    have HE : Hid (txt (opT ((5 : Nat) : Int) n) = (⟨#[32]⟩ : ByteArray) ++ txt (decB n)) := by
      show txt ([32] ++ decB n) = _
      rw [txt_app]
      rfl
    have hsz : (⟨#[32]⟩ : ByteArray).size + (txt (decB n)).size ≤ 9223372036854775807 := by
      have := HL.out
      show 1 + _ ≤ _
      omega
    change Calls _ _ #[.int .i64 5, _] _ _
    go_enter Tryd.func39, Tryd.ntmps39
    go_wp2_with fail
    refine Calls.mono (HI.out _) ?_
    rintro e w1 ⟨rfl, hb⟩
    go_wp2_with fail
    go_ret
    exact ⟨by rw [HE.out]; rfl, hb⟩
  · clear h4
    by_cases h1 : n = 1
    · subst h1
      change Calls _ _ #[.int .i64 6, _] _ _
      go_enter Tryd.func39, Tryd.ntmps39
      go_wp2_with fail
      go_ret
      exact ⟨rfl, Below.refl _ _⟩
    · have HE : Hid (txt (opT ((6 : Nat) : Int) n) = (⟨#[32, 102, 97, 108, 115, 101]⟩ : ByteArray)) := by
        show txt (if n = 1 then [32, 116, 114, 117, 101] else [32, 102, 97, 108, 115, 101]) = _
        rw [if_neg h1]
        rfl
      have f1 : decide (n = 1) = false := decide_eq_false h1
      have f2 : (n == 1) = false := by simpa using h1
      change Calls _ _ #[.int .i64 6, _] _ _
      go_enter Tryd.func39, Tryd.ntmps39
      go_wp2_with fail
      go_ret
      exact ⟨by rw [HE.out]; rfl, Below.refl _ _⟩
  · clear h4
    have HE : Hid (txt (opT ((7 : Nat) : Int) n) = (⟨#[32]⟩ : ByteArray) ++ txt (decB n)) := by
      show txt ([32] ++ decB n) = _
      rw [txt_app]
      rfl
    have hsz : (⟨#[32]⟩ : ByteArray).size + (txt (decB n)).size ≤ 9223372036854775807 := by
      have := HL.out
      show 1 + _ ≤ _
      omega
    change Calls _ _ #[.int .i64 7, _] _ _
    go_enter Tryd.func39, Tryd.ntmps39
    go_wp2_with fail
    refine Calls.mono (HI.out _) ?_
    rintro e w1 ⟨rfl, hb⟩
    go_wp2_with fail
    go_ret
    exact ⟨by rw [HE.out]; rfl, hb⟩
  · clear h4
    have HE : Hid (txt (opT ((8 : Nat) : Int) n) = (⟨#[32, 64]⟩ : ByteArray) ++ txt (decB n)) := by
      show txt ([32, 64] ++ decB n) = _
      rw [txt_app]
      rfl
    have hsz : (⟨#[32, 64]⟩ : ByteArray).size + (txt (decB n)).size ≤ 9223372036854775807 := by
      have := HL.out
      show 2 + _ ≤ _
      omega
    change Calls _ _ #[.int .i64 8, _] _ _
    go_enter Tryd.func39, Tryd.ntmps39
    go_wp2_with fail
    refine Calls.mono (HI.out _) ?_
    rintro e w1 ⟨rfl, hb⟩
    go_wp2_with fail
    go_ret
    exact ⟨by rw [HE.out]; rfl, hb⟩
end Go.Proofs.YtcicifcnffacpaaDoor.Cd

set_option linter.unusedSimpArgs false
namespace Go.Proofs.YtcicifcnffacpaaDoor.Cd
open Go.RowKit Go.Proofs.YtcicifcnffacpaaDoor.Nm Go.Proofs.YtcicifcnffacpaaDoor.Vf

/-- an end that is written is one of the two -/
def EndOk (p : Pg) : Prop := ∀ x ∈ p.cd, ∀ k, k < 4 → kdN x.op.toNat k = 4 → opN x k = 0 ∨ opN x k = 1
theorem strB_txt {l : List Nat} (h : Low l) : strB (txt l) = l := by
  unfold strB txt
  simp only [List.map_map]
  conv => rhs; rw [← List.map_id l]
  refine List.map_congr_left fun x hx => ?_
  have := h x hx
  simp
  omega
/-- a block of another type than bytes stays -/
theorem Bo.keepO {w0 w w' : World} {b : Option Addr} {c : Nat} {X : List Nat} (h : Bo w0 w b c X) (hg : w.grownBy w' (Value.slice b X.length c).ownBlock) {k : Nat} {cs : Array Value} {T : TypeId} (hk : w.heap[k]? = some (.cells cs T (0, 0))) (hT : T ≠ 5) : w'.heap[k]? = some (.cells cs T (0, 0)) := by
  refine (hg.block k (blk_lt hk) fun e => ?_).trans hk
  rcases h.1.2 with ⟨e1, _⟩ | ⟨g, cap, cur, e1, _, e3, _⟩
  · rw [e1] at e
    cases e
  · rw [e1] at e
    cases e
    rw [hk] at e3
    have e5 := Option.some.inj e3
    injection e5 with _ e6 _
    exact hT e6
/-- a text is put behind the bytes -/
theorem app_txt {w0 w : World} {ops : Array Oper} {rest : List Oper} {o : Oper} {a : Act} {Q : Exit → Act → World → Prop} (hgd : o.guard = none) (s x : Operand) (ho : o.op = .call { callee := .builtin .append, args := #[s, x], argTypes := #[32, 9] }) {b : Option Addr} {c : Nat} {xs ys : List Nat} (hs : a.eval s = .slice b xs.length c) (hB : Bo w0 w b c xs) (hy : Low ys) (hx : a.eval x = .string (txt ys)) (hl : xs.length + ys.length ≤ 100000000000)
    (h : ∀ (X : List Nat) b' c' w', X = xs ++ ys → Bo w0 w' b' c' X → w.grownBy w' (Value.slice b xs.length c).ownBlock → wpList Tryd.prog ops Q rest (a.put o.dst (.slice b' X.length c')) w') : wpList Tryd.prog ops Q (o :: rest) a w := by
  obtain ⟨j0, hj, hj0, hj1, hj2⟩ := info_parts infoB
  have hz := txt_size ys
  refine append_str _ hgd s x 32 9 ho w0.heap.size 5 j0 Tryd.underlying32 Tryd.underlying9 hj hj0 hj1 hj2 (.slice b xs.length c) _ (u8L xs) hs hB.1 (txt ys) hx (by rw [hz]; unfold maxLen; omega) (by rw [hz]; omega) hB.2.size ?_
  intro v' w' ho2 hG
  rw [strB_cells, strB_txt hy, hz, ← List.length_append, show u8L xs ++ u8L ys = u8L (xs ++ ys) by simp [u8L]] at ho2
  obtain ⟨b', c', ev⟩ := own_form ho2
  subst ev
  refine h (xs ++ ys) b' c' w' rfl ⟨ho2, ?_⟩ hG
  refine ⟨hG.os.trans hB.2.os, hG.tape.trans hB.2.tape, hG.output.trans hB.2.output, Nat.le_trans hB.2.size hG.size, fun k hk => ?_⟩
  have h1 := hB.2.size
  exact (hG.block k (by omega) fun e => by have := (World.ownsRow.lt hB.1 k e.symm).1; omega).trans (hB.2.block k hk)
/-- the same, as one step of a region that draws -/
theorem step_txt {w0 w : World} {ops : Array Oper} {o : Oper} {a : Act} {K : Act → World → Prop} {Q : Exit → Act → World → Prop} {E : Prop} (hgd : o.guard = none) (s x : Operand) (ho : o.op = .call { callee := .builtin .append, args := #[s, x], argTypes := #[32, 9] }) {b : Option Addr} {c : Nat} {xs ys : List Nat} (hs : a.eval s = .slice b xs.length c) (hB : Bo w0 w b c xs) (hy : Low ys) (hx : a.eval x = .string (txt ys)) (hl : xs.length + ys.length ≤ 100000000000)
    (h : ∀ (X : List Nat) b' c' w', X = xs ++ ys → Bo w0 w' b' c' X → w.grownBy w' (Value.slice b xs.length c).ownBlock → K (a.put o.dst (.slice b' X.length c')) w') : if Region.wanted o (yielded ops a.tmps) = true then Oper.wp Tryd.prog o a w K Q else E := by
  have hw : Region.wanted o (yielded ops a.tmps) = true := by simp [Region.wanted, hgd]
  rw [if_pos hw]
  obtain ⟨j0, hj, hj0, hj1, hj2⟩ := info_parts infoB
  have hz := txt_size ys
  obtain ⟨v', w', hr, ho2, hG, _⟩ := Lib.run_append_own_string (P := Tryd.prog) w w0.heap.size 32 9 o.type 5 j0 Tryd.underlying32 Tryd.underlying9 hj hj0 hj1 hj2 (.slice b xs.length c) _ (u8L xs) hB.1 (txt ys) (by rw [hz]; unfold maxLen; omega) (by rw [hz]; omega) hB.2.size
  rw [strB_cells, strB_txt hy, hz, ← List.length_append, show u8L xs ++ u8L ys = u8L (xs ++ ys) by simp [u8L]] at ho2
  obtain ⟨b', c', ev⟩ := own_form ho2
  subst ev
  have h1 := hB.2.size
  have h9 := h (xs ++ ys) b' c' w' rfl ⟨ho2, ⟨hG.os.trans hB.2.os, hG.tape.trans hB.2.tape, hG.output.trans hB.2.output, Nat.le_trans hB.2.size hG.size, fun k hk => (hG.block k (by omega) fun e => by have := (World.ownsRow.lt hB.1 k e.symm).1; omega).trans (hB.2.block k hk)⟩⟩ hG
  unfold Oper.wp execOp
  simp only [ho, resolve, invoke, builtin, Sem.run_bind, Sem.run_pure, Result.andThen_ok, List.map_toArray, List.map_cons, List.map_nil, hs, hx, hr]
  exact h9
/-- bytes are put behind the bytes, however many -/
theorem app_bytesL {w0 w : World} {ops : Array Oper} {rest : List Oper} {o : Oper} {a : Act} {Q : Exit → Act → World → Prop} (hgd : o.guard = none) (s x : Operand) (ho : o.op = .call { callee := .builtin .append, args := #[s, x], argTypes := #[32, 32] }) {b : Option Addr} {c : Nat} {xs ys : List Nat} (hs : a.eval s = .slice b xs.length c) (hB : Bo w0 w b c xs) {ad : Addr} {cy : Nat} (hx : a.eval x = .slice (some ad) ys.length cy) (hc : ∀ j u, (u8L ys)[j]? = some u → w.cell? (ad.add j) = some u) (hp : 0 < ys.length) (hl : xs.length + ys.length ≤ 100000000000)
    (h : ∀ (X : List Nat) b' c' w', X = xs ++ ys → Bo w0 w' b' c' X → Gone w (.slice b xs.length c) w' (.slice b' X.length c') → wpList Tryd.prog ops Q rest (a.put o.dst (.slice b' X.length c')) w') : wpList Tryd.prog ops Q (o :: rest) a w := by
  obtain ⟨j0, hj, hj0, hj1, hj2⟩ := info_parts infoB
  refine append_gone _ hgd s x 32 ho w0.heap.size 5 j0 (.int .u8 0) 1 1 Tryd.underlying32 hj hj0 hj1 hj2 rfl (by decide) (.slice b xs.length c) _ (u8L xs) hs hB.1 ad ys.length cy (u8L ys) hx (by rw [u8_len0, Nat.mul_one]) hc (fun u hu => by
    obtain ⟨x, -, rfl⟩ := List.mem_map.1 hu
    rfl) (by unfold maxLen; omega) (by omega) hB.2.size hp ?_
  intro v' w' ho2 hG
  obtain ⟨b', c', ev⟩ := own_form ho2
  have h9 := hB.app ho2 hG rfl ev
  rw [ev, show xs.length + ys.length = (xs ++ ys).length by simp] at hG
  have h8 := h (xs ++ ys) b' c' w' rfl h9 hG
  rw [List.length_append] at h8
  rw [ev]
  exact h8
theorem txt_strB (s : ByteArray) : txt (strB s) = s := by
  unfold txt strB
  have e : (UInt8.ofNat ∘ UInt8.toNat) = id := funext fun x => UInt8.ofNat_toNat
  rw [List.map_map, e, List.map_id]
theorem nm_same (op : Nat) : nmT.getD op ⟨#[]⟩ = name op := by
  rw [show nmT = namesL.map (fun l => (⟨l.toArray⟩ : ByteArray)) from rfl]
  unfold name
  simp only [List.getD, List.getElem?_map]
  cases namesL[op]? <;> rfl
theorem pick_kd (op j : Nat) (h : j < 4) : pick4 (Cd.kd4 op) j = kdN op j := by
  match j, h with
  | 0, _ => rfl
  | 1, _ => rfl
  | 2, _ => rfl
  | 3, _ => rfl
theorem insI_op (x : Ins) (j : Nat) (h : j < 4) : insI x j = opN x j := by
  match j, h with
  | 0, _ => rfl
  | 1, _ => rfl
  | 2, _ => rfl
  | 3, _ => rfl
theorem op_bd {k v : Int} (h : OpOk k v ∧ (k = 0 → v = 0)) : -9223372036854775808 < v ∧ v < 9223372036854775808 := by
  rcases h with ⟨h | h | h, h0⟩
  · have := h0 h
    omega
  · omega
  · omega
theorem tab_name {op : Nat} (h : op < 42) : tabC[op * 5]? = some (.string (name op)) := by
  rw [show op * 5 = op * 5 + 0 from rfl, tabC_at h (by omega), ← nm_same op]
  rfl
set_option maxHeartbeats 51200000 in
set_option maxRecDepth 100000 in
/-- the reference's List -/
theorem rlist_any (v : PV) (p : Pg) (W : World) (hP : IsPg W v p) (hplc : chk p = 0 → EndOk p) : Calls Tryd.prog 15 #[.agg (pvC v p)] W fun e W' => e = .returned (.tuple #[.string (txt (lstB p)), .int .i64 (chk p : Int)]) ∧ Below W.heap.size W W' := by
  obtain ⟨qo, qc, vo, vc, tto, tc, oo, oc, co, cc⟩ := v
  have HB0 : Hid (Below W.heap.size W (W.alloc (.cells #[.slice qo p.gh.length qc, .slice vo p.vs.length vc, .slice tto p.ts.length tc, .slice oo p.on.length oc, .int .i64 p.miss, .slice co p.cd.length cc] 27)) ∧ (W.alloc (.cells #[.slice qo p.gh.length qc, .slice vo p.vs.length vc, .slice tto p.ts.length tc, .slice oo p.on.length oc, .int .i64 p.miss, .slice co p.cd.length cc] 27)).heap[W.heap.size]? = some (.cells #[.slice qo p.gh.length qc, .slice vo p.vs.length vc, .slice tto p.ts.length tc, .slice oo p.on.length oc, .int .i64 p.miss, .slice co p.cd.length cc] 27 (0, 0)) ∧ IsPg (W.alloc (.cells #[.slice qo p.gh.length qc, .slice vo p.vs.length vc, .slice tto p.ts.length tc, .slice oo p.on.length oc, .int .i64 p.miss, .slice co p.cd.length cc] 27)) ⟨qo, qc, vo, vc, tto, tc, oo, oc, co, cc⟩ p) := ⟨(Below.refl _ W).alloc (Nat.le_refl _) _, heap_alloc_new _ _, hP.below ((Below.refl _ W).alloc (Nat.le_refl _) _)⟩
  show Calls _ _ #[.agg #[.slice qo p.gh.length qc, .slice vo p.vs.length vc, .slice tto p.ts.length tc, .slice oo p.on.length oc, .int .i64 p.miss, .slice co p.cd.length cc]] _ _
  obtain ⟨j0, hj, hj0, hj1, hj2⟩ := info_parts infoB
  have HJ : Hid (Tryd.prog.info? 5 = some j0 ∧ j0.zero = some (.int .u8 0) ∧ j0.size = 1 ∧ j0.bytes = 1) := ⟨hj, hj0, hj1, hj2⟩
  have HEn := show Hid _ from hplc
  clear hP hplc hj hj0 hj1 hj2
  go_enter Tryd.func15, Tryd.ntmps15
  go_upto_region 1 with fail
  generalize (W.alloc (.cells #[.slice qo p.gh.length qc, .slice vo p.vs.length vc, .slice tto p.ts.length tc, .slice oo p.on.length oc, .int .i64 p.miss, .slice co p.cd.length cc] 27)) = w0 at *
  have HX : Hid (∀ X, Below w0.heap.size w0 X → X.heap[W.heap.size]? = some (.cells #[.slice qo p.gh.length qc, .slice vo p.vs.length vc, .slice tto p.ts.length tc, .slice oo p.on.length oc, .int .i64 p.miss, .slice co p.cd.length cc] 27 (0, 0)) ∧ IsPg X ⟨qo, qc, vo, vc, tto, tc, oo, oc, co, cc⟩ p) := fun X hX => ⟨(hX.block _ (blk_lt HB0.out.2.1)).trans HB0.out.2.1, HB0.out.2.2.below hX⟩
  have HCk : Hid (Calls Tryd.prog 16 #[.agg #[.slice qo p.gh.length qc, .slice vo p.vs.length vc, .slice tto p.ts.length tc, .slice oo p.on.length oc, .int .i64 p.miss, .slice co p.cd.length cc]] w0 fun e w' => e = .returned (.int .i64 (chk p : Int)) ∧ Below w0.heap.size w0 w') := Vf.rchk_any ⟨qo, qc, vo, vc, tto, tc, oo, oc, co, cc⟩ p w0 HB0.out.2.2
  obtain ⟨c0, c1, c2, c3, c4, c5⟩ := cells6 HB0.out.2.1
  go_wp2_with fail
  refine Calls.mono HCk.out ?_
  rintro e w1 ⟨rfl, hb⟩
  have HB1 : Hid (Below w0.heap.size w0 w1) := hb
  clear hb HCk c0 c1 c2 c3 c4 c5
  by_cases hck : chk p = 0
  case neg =>
    have hc1 : ((chk p : Int) != 0) = true := by rw [bne_iff_ne]; omega
    have HE : Hid (lstB p = []) := if_neg hck
    clear hck
    go_wp2_with fail
    go_ret2
    exact ⟨by rw [HE.out]; rfl, HB0.out.1.trans (HB1.out.mono HB0.out.1.size)⟩
  have HOk : Hid (PgOk p) := pgOk_of hck
  have HEd : Hid (EndOk p) := HEn.out hck
  have HE : Hid (lstB p = lisT p.on p.miss (toPr p).cd p.cd.length) := if_pos hck
  have HC0 := show Hid _ from hck
  have HLn : Hid (∀ k, k ≤ p.cd.length → (lisT p.on p.miss (toPr p).cd k).length ≤ 50000 * k ∧ Low (lisT p.on p.miss (toPr p).cd k)) := fun k hk => ⟨lisT_len p.on p.miss (toPr p).cd (by have := HOk.out.q; have := HOk.out.o; omega) (inB_of HOk.out) (by have := HOk.out.c; show (p.cd.map _).length ≤ _; rw [List.length_map]; omega) k (by show _ ≤ (p.cd.map _).length; rw [List.length_map]; exact hk), low_lisT _ _ _ _⟩
  have n4 : (p.on.length : Int) ≤ 16 := by have := HOk.out.q; have := HOk.out.o; omega
  have n5 : (p.cd.length : Int) ≤ 262144 := by have := HOk.out.c; omega
  rw [hck]
  clear hck HEn
  generalize p.miss = ms at *
  go_wp2_with fail
  refine (Vf.rtab_any _).mono ?_
  rintro e w5 ⟨tg, rfl, ht0, ht1, htb⟩
  have HQt : Hid (Bo w0 w5 none 0 [] ∧ w5.heap[tg]? = some (.cells tabC.toArray 84 (0, 0))) := ⟨⟨World.ownsRow_nil _ _ _ _, HB1.out.trans (htb.mono HB1.out.size)⟩, ht1⟩
  clear ht0 ht1 htb
  go_wp2_with fail
  go_loopg [5, 7] p.cd.length (fun gq ov iv wr => ∃ (k : Nat) (X : List Nat) (b : Option Addr) (c : Nat), k + gq = p.cd.length ∧ iv = .int .i64 (k : Int) ∧ ov = .slice b X.length c ∧ Bo w0 wr b c X ∧ X = lisT p.on ms (toPr p).cd k ∧ wr.heap[tg]? = some (.cells tabC.toArray 84 (0, 0)))
  case atStart => exact ⟨0, [], _, _, by omega, rfl, rfl, HQt.out.1, rfl, HQt.out.2⟩
  case round =>
    obtain ⟨k, X, b, c, hkg, rfl, rfl, hB, hX, hT⟩ := hrel
    have HT : Hid (Bo w0 wr b c X ∧ X = lisT p.on ms (toPr p).cd k ∧ wr.heap[tg]? = some (.cells tabC.toArray 84 (0, 0)) ∧ k + gk = p.cd.length) := ⟨hB, hX, hT, hkg⟩
    clear hkg hB hX hT HQt
    obtain ⟨c0, c1, c2, c3, c4, c5⟩ := cells6 (HX.out wr HT.out.1.2).1
    by_cases hkm : k < p.cd.length
    case pos =>
      have hk1 : (k : Int) < (p.cd.length : Int) := by omega
      have hk3 : (k : Int) < 1000000 := by omega
      have HKm : Hid (k < p.cd.length) := hkm
      have HT9 : Hid (k + gk = p.cd.length) := HT.out.2.2.2
      have HLk : Hid ((lisT p.on ms (toPr p).cd k).length ≤ 50000 * k) := (HLn.out k (by omega)).1
      clear hkm
      go_wp2_with fail
      go_loopg [5, 8] p.on.length (fun gq ov iv wr => ∃ (j : Nat) (Y : List Nat) (b : Option Addr) (c : Nat), j + gq = p.on.length ∧ iv = .int .i64 (j : Int) ∧ ov = .slice b Y.length c ∧ Bo w0 wr b c Y ∧ Y = lisT p.on ms (toPr p).cd k ++ onQ p.on k j ∧ wr.heap[tg]? = some (.cells tabC.toArray 84 (0, 0)))
      case atStart => exact ⟨0, X, _, _, by omega, rfl, rfl, HT.out.1, by rw [HT.out.2.1]; exact (List.append_nil _).symm, HT.out.2.2.1⟩
      case round =>
        obtain ⟨j, Y, bj, cj, hjg, rfl, rfl, hB, hY, hT⟩ := hrel
        have HI : Hid (Bo w0 wr bj cj Y ∧ Y = lisT p.on ms (toPr p).cd k ++ onQ p.on k j ∧ wr.heap[tg]? = some (.cells tabC.toArray 84 (0, 0)) ∧ j + gk = p.on.length) := ⟨hB, hY, hT, hjg⟩
        clear hjg hB hY hT HT c0 c1 c2 c3 c4 c5
        obtain ⟨c0, c1, c2, c3, c4, c5⟩ := cells6 (HX.out wr HI.out.1.2).1
        by_cases hjm : j < p.on.length
        case pos =>
          have hj1 : (j : Int) < (p.on.length : Int) := by omega
          have hj3 : (j : Int) < 1000000 := by omega
          have HJm : Hid (j < p.on.length) := hjm
          have HJ9 : Hid (j + gk = p.on.length) := HI.out.2.2.2
          obtain ⟨g1, f1, hg1, -, u0⟩ := rd_int (HX.out wr HI.out.1.2).2.on HJm.out
          obtain rfl : oo = some ⟨g1, f1, none⟩ := hg1
          have HQ : Hid (onQ p.on k (j + 1) = onQ p.on k j ++ (if p.on[j]'HJm.out = (k : Int) then [111, 110, 32, 113] ++ (decB (j : Int) ++ [58, 10]) else [])) := by
            show _ = _
            rw [onQ]
            simp only [List.getD, List.getElem?_eq_getElem HJm.out, Option.getD_some]
          generalize p.on[j]'HJm.out = y at *
          clear hjm
          by_cases hyk : y = (k : Int)
          case pos =>
            subst hyk
            have HQ2 : Hid (onQ p.on k (j + 1) = onQ p.on k j ++ ([111, 110, 32, 113] ++ (decB (j : Int) ++ [58, 10]))) := by
              have h9 := HQ.out
              rwa [if_pos rfl] at h9
            have HD : Hid ((decB (j : Int)).length ≤ 30) := decB_len _ (by omega) (by omega)
            have hsz1 : (⟨#[111, 110, 32, 113]⟩ : ByteArray).size + (txt (decB (j : Int))).size ≤ 9223372036854775807 := by
              rw [txt_size]
              have := HD.out
              show 4 + _ ≤ _
              omega
            have HTx : Hid (((⟨#[111, 110, 32, 113]⟩ : ByteArray) ++ txt (decB (j : Int))) ++ (⟨#[58, 10]⟩ : ByteArray) = txt ([111, 110, 32, 113] ++ (decB (j : Int) ++ [58, 10]))) := by
              show _ = _
              rw [← List.append_assoc, txt_app, txt_app]
              rfl
            have hsz2 : ((⟨#[111, 110, 32, 113]⟩ : ByteArray) ++ txt (decB (j : Int))).size + (⟨#[58, 10]⟩ : ByteArray).size ≤ 9223372036854775807 := by
              rw [show ((⟨#[111, 110, 32, 113]⟩ : ByteArray) ++ txt (decB (j : Int))) = txt ([111, 110, 32, 113] ++ decB (j : Int)) by rw [txt_app]; rfl, txt_size, List.length_append]
              have := HD.out
              show 4 + _ + 2 ≤ _
              omega
            have HYl : Hid (Y.length ≤ 20000000000) := by
              have h9 := HI.out.2.1
              have h8 := HLk.out
              have h7 := onQ_len p.on k j (by omega)
              show _ ≤ _
              rw [h9, List.length_append]
              omega
            clear HQ
            go_wp2_with fail
            refine Calls.mono (rdec_any (j : Int) ⟨by omega, by omega⟩ _) ?_
            rintro e w3 ⟨rfl, hb⟩
            have HN : Hid (Bo w0 w3 bj cj Y ∧ w3.heap[tg]? = some (.cells tabC.toArray 84 (0, 0))) := ⟨HI.out.1.below hb, (hb.block _ (blk_lt HI.out.2.2.1)).trans HI.out.2.2.1⟩
            clear hb u0
            go_wp2_with (at_builtin; refine app_txt (ys := [111, 110, 32, 113] ++ (decB (j : Int) ++ [58, 10])) rfl _ _ rfl rfl HN.out.1 (low_app (low_lit (by decide)) (low_app (low_decB _) (low_lit (by decide)))) (by rw [← HTx.out]; rfl) (by have := HD.out; have := HYl.out; simp only [List.length_append, List.length_cons, List.length_nil]; omega) ?_)
            intro Y2 b3 c3' w4 hY2 hB2 hG2
            have HM : Hid (Bo w0 w4 b3 c3' Y2 ∧ Y2 = lisT p.on ms (toPr p).cd k ++ onQ p.on k (j + 1) ∧ w4.heap[tg]? = some (.cells tabC.toArray 84 (0, 0))) := ⟨hB2, by rw [hY2, HI.out.2.1, HQ2.out, List.append_assoc]; rfl, HN.out.1.keepO hG2 HN.out.2 (by decide)⟩
            clear hY2 hB2 hG2 HN HI HQ2 hsz1 hsz2
            go_wp2_with fail
            go_roundg (p.on.length - (j + 1))
            case measure => have := HJ9.out; have := HJm.out; omega
            case rel => exact ⟨j + 1, Y2, b3, c3', by have := HJm.out; omega, by go_num, rfl, HM.out.1, HM.out.2.1, HM.out.2.2⟩
          case neg =>
            have HQ2 : Hid (onQ p.on k (j + 1) = onQ p.on k j) := by
              have h9 := HQ.out
              rwa [if_neg hyk, List.append_nil] at h9
            have f1' : decide (y = (k : Int)) = false := decide_eq_false hyk
            have f2' : (y == (k : Int)) = false := by simpa using hyk
            clear HQ
            go_wp2_with fail
            go_roundg (p.on.length - (j + 1))
            case measure => have := HJ9.out; have := HJm.out; omega
            case rel => exact ⟨j + 1, Y, bj, cj, by have := HJm.out; omega, by go_num, rfl, HI.out.1, by rw [HQ2.out]; exact HI.out.2.1, HI.out.2.2.1⟩
        case neg =>
          have hj1 : ¬ (j : Int) < (p.on.length : Int) := by omega
          obtain rfl : j = p.on.length := by have := HI.out.2.2.2; omega
          clear hjm
          have HY : Hid (Y = lisT p.on ms (toPr p).cd k ++ onQ p.on k p.on.length) := HI.out.2.1
          have HYl : Hid (Y.length ≤ 20000000000) := by
            have h9 := HI.out.2.1
            have h8 := HLk.out
            have h7 := onQ_len p.on k p.on.length (by omega)
            show _ ≤ _
            rw [h9, List.length_append]
            omega
          obtain ⟨r, hr⟩ : ∃ r : Bool, decide (ms = (k : Int)) = r := ⟨_, rfl⟩
          have hr2 : (ms == (k : Int)) = r := by
            rw [← hr]
            by_cases h : ms = (k : Int) <;> simp [h]
          have HRr : Hid (decide (ms = (k : Int)) = r) := hr
          go_upto_if 48 with fail
          clear hr hr2
          go_cut [5] (fun ov wx => ∃ (Z : List Nat) (b : Option Addr) (c : Nat), ov = .slice b Z.length c ∧ Bo w0 wx b c Z ∧ Z = lisT p.on ms (toPr p).cd k ++ evT p.on ms k ∧ wx.heap[tg]? = some (.cells tabC.toArray 84 (0, 0)))
          case first =>
            cases r
            case true =>
              have hm : ms = (k : Int) := of_decide_eq_true HRr.out
              have HM : Hid (evT p.on ms k = onQ p.on k p.on.length ++ [109, 105, 115, 115, 58, 10]) := by
                show onQ p.on k p.on.length ++ misT ms k = _
                rw [misT, if_pos hm]
              clear hm
              go_wp2_with (at_builtin; refine app_txt (ys := [109, 105, 115, 115, 58, 10]) rfl _ _ rfl rfl HI.out.1 (low_lit (by decide)) rfl (by have := HYl.out; simp only [List.length_cons, List.length_nil]; omega) ?_)
              intro Y2 b3 c3' w4 hY2 hB2 hG2
              have HM2 : Hid (Bo w0 w4 b3 c3' Y2 ∧ Y2 = lisT p.on ms (toPr p).cd k ++ evT p.on ms k ∧ w4.heap[tg]? = some (.cells tabC.toArray 84 (0, 0))) := ⟨hB2, by rw [hY2, HY.out, HM.out, List.append_assoc], HI.out.1.keepO hG2 HI.out.2.2.1 (by decide)⟩
              clear hY2 hB2 hG2
              go_wp2_with fail
              go_meet
              exact ⟨Y2, b3, c3', rfl, HM2.out.1, HM2.out.2.1, HM2.out.2.2⟩
            case false =>
              have hm : ¬ ms = (k : Int) := of_decide_eq_false HRr.out
              have HM : Hid (evT p.on ms k = onQ p.on k p.on.length) := by
                show onQ p.on k p.on.length ++ misT ms k = _
                rw [misT, if_neg hm, List.append_nil]
              clear hm
              go_wp2_with fail
              go_meet
              exact ⟨Y, bj, cj, rfl, HI.out.1, by rw [HM.out]; exact HY.out, HI.out.2.2.1⟩
          case rest =>
            obtain ⟨Z, bz, cz, rfl, hB, hZ, hT⟩ := hcut
            have HZ : Hid (Bo w0 wc bz cz Z ∧ Z = lisT p.on ms (toPr p).cd k ++ evT p.on ms k ∧ wc.heap[tg]? = some (.cells tabC.toArray 84 (0, 0))) := ⟨hB, hZ, hT⟩
            clear hB hZ hT HI HY HYl c0 c1 c2 c3 c4 c5 hj1
            obtain ⟨c0, c1, c2, c3, c4, c5⟩ := cells6 (HX.out wc HZ.out.1.2).1
            have hk1 : (k : Int) < (p.cd.length : Int) := by have := HKm.out; omega
            obtain ⟨g1, f1, hg1, hg2, u0, u1, u2, u3, u4⟩ := rd_ins (HX.out wc HZ.out.1.2).2.cd HKm.out
            obtain rfl : co = some ⟨g1, f1, none⟩ := hg1
            have hne : ¬ g1 = wc.heap.size := by omega
            have hvr := HOk.out.cr _ (List.getElem_mem HKm.out)
            have hen := HEd.out _ (List.getElem_mem HKm.out)
            have hme : ((p.cd[k]'HKm.out).op.toNat, insI (p.cd[k]'HKm.out)) ∈ (toPr p).cd := List.mem_map.2 ⟨_, List.getElem_mem HKm.out, rfl⟩
            have hgd : (toPr p).cd.getD k (0, fun _ => 0) = ((p.cd[k]'HKm.out).op.toNat, insI (p.cd[k]'HKm.out)) := by
              have hk := HKm.out
              simp [toPr, List.getD, List.getElem?_eq_getElem hk]
            have HLs : Hid (lisT p.on ms (toPr p).cd (k + 1) = lisT p.on ms (toPr p).cd k ++ (evT p.on ms k ++ insT k (p.cd[k]'HKm.out).op.toNat (insI (p.cd[k]'HKm.out)))) := by
              show _ = _
              rw [lisT, hgd]
            generalize p.cd[k]'HKm.out = y at *
            obtain ⟨xo, xa, xb, xc, xd⟩ := y
            dsimp only at u0 u1 u2 u3 u4
            have ho := hvr.op
            dsimp only at ho
            obtain ⟨op, rfl⟩ : ∃ op : Nat, xo = (op : Int) := ⟨xo.toNat, by omega⟩
            have HOp : Hid (op < 42) := (by omega : op < 42)
            have HIn := show Hid _ from hvr
            have HMe : Hid ((op, insI ⟨(op : Int), xa, xb, xc, xd⟩) ∈ (toPr p).cd) := hme
            have HE4 : Hid (∀ j, j < 4 → kdN op j = 4 → opN ⟨(op : Int), xa, xb, xc, xd⟩ j = 0 ∨ opN ⟨(op : Int), xa, xb, xc, xd⟩ j = 1) := hen
            have HV : Hid (Bo w0 (wc.alloc (.cells #[.int .i64 (op : Int), .int .i64 xa, .int .i64 xb, .int .i64 xc, .int .i64 xd] 53)) bz cz Z ∧ (wc.alloc (.cells #[.int .i64 (op : Int), .int .i64 xa, .int .i64 xb, .int .i64 xc, .int .i64 xd] 53)).heap[tg]? = some (.cells tabC.toArray 84 (0, 0)) ∧ (wc.alloc (.cells #[.int .i64 (op : Int), .int .i64 xa, .int .i64 xb, .int .i64 xc, .int .i64 xd] 53)).heap[wc.heap.size]? = some (.cells #[.int .i64 (op : Int), .int .i64 xa, .int .i64 xb, .int .i64 xc, .int .i64 xd] 53 (0, 0))) := by
              have hb9 : Below wc.heap.size wc (wc.alloc (.cells #[.int .i64 (op : Int), .int .i64 xa, .int .i64 xb, .int .i64 xc, .int .i64 xd] 53)) := (Below.refl _ wc).alloc (Nat.le_refl _) _
              exact ⟨HZ.out.1.below hb9, (hb9.block _ (blk_lt HZ.out.2.2)).trans HZ.out.2.2, heap_alloc_new _ _⟩
            have HZ2 := show Hid _ from HZ.out.2.1
            clear hg2 ho hvr hen hgd hme HZ
            go_upto_region 17 with fail
            generalize (wc.alloc (.cells #[.int .i64 (op : Int), .int .i64 xa, .int .i64 xb, .int .i64 xc, .int .i64 xd] 53)) = w6 at *
            generalize wc.heap.size = ib at *
            clear u0 u1 u2 u3 u4 hne c0 c1 c2 c3 c4 c5
            have q0 : w6.cell? ⟨ib, 0, none⟩ = some (.int .i64 (op : Int)) := by
              have h9 := HV.out.2.2
              simp only [World.cell?, h9]
              rfl
            have q1 : w6.cell? ⟨ib, 1, none⟩ = some (.int .i64 xa) := by
              have h9 := HV.out.2.2
              simp only [World.cell?, h9]
              rfl
            have q2 : w6.cell? ⟨ib, 2, none⟩ = some (.int .i64 xb) := by
              have h9 := HV.out.2.2
              simp only [World.cell?, h9]
              rfl
            have q3 : w6.cell? ⟨ib, 3, none⟩ = some (.int .i64 xc) := by
              have h9 := HV.out.2.2
              simp only [World.cell?, h9]
              rfl
            have q4 : w6.cell? ⟨ib, 4, none⟩ = some (.int .i64 xd) := by
              have h9 := HV.out.2.2
              simp only [World.cell?, h9]
              rfl
            go_wp2_with fail
            refine (ropers_any ⟨(op : Int), xa, xb, xc, xd⟩ _).mono ?_
            rintro e w7 ⟨rfl, hb7⟩
            dsimp only
            have HW : Hid (Bo w0 (w7.alloc (.cells #[.int .i64 xa, .int .i64 xb, .int .i64 xc, .int .i64 xd] 81)) bz cz Z ∧ (w7.alloc (.cells #[.int .i64 xa, .int .i64 xb, .int .i64 xc, .int .i64 xd] 81)).heap[tg]? = some (.cells tabC.toArray 84 (0, 0)) ∧ (w7.alloc (.cells #[.int .i64 xa, .int .i64 xb, .int .i64 xc, .int .i64 xd] 81)).heap[ib]? = some (.cells #[.int .i64 (op : Int), .int .i64 xa, .int .i64 xb, .int .i64 xc, .int .i64 xd] 53 (0, 0)) ∧ (w7.alloc (.cells #[.int .i64 xa, .int .i64 xb, .int .i64 xc, .int .i64 xd] 81)).heap[w7.heap.size]? = some (.cells #[.int .i64 xa, .int .i64 xb, .int .i64 xc, .int .i64 xd] 81 (0, 0))) := by
              have hb9 : Below w7.heap.size w7 (w7.alloc (.cells #[.int .i64 xa, .int .i64 xb, .int .i64 xc, .int .i64 xd] 81)) := (Below.refl _ w7).alloc (Nat.le_refl _) _
              have hk : ∀ {k : Nat} {o : Obj}, w6.heap[k]? = some o → (w7.alloc (.cells #[.int .i64 xa, .int .i64 xb, .int .i64 xc, .int .i64 xd] 81)).heap[k]? = some o := fun h => by
                have h1 := (hb7.block _ (blk_lt h)).trans h
                exact (hb9.block _ (blk_lt h1)).trans h1
              exact ⟨(HV.out.1.below hb7).below hb9, hk HV.out.2.1, hk HV.out.2.2, heap_alloc_new _ _⟩
            clear hb7 HV q0 q1 q2 q3 q4
            go_upto_region 18 with fail
            generalize (w7.alloc (.cells #[.int .i64 xa, .int .i64 xb, .int .i64 xc, .int .i64 xd] 81)) = w8 at *
            generalize w7.heap.size = ab at *
            have hop' : (op : Int) < 42 := by have := HOp.out; omega
            have ho2 : ¬ (op : Int) < 0 := by omega
            have ho3 : ¬ 42 ≤ (op : Int) := by omega
            have HIl : Hid ((insT k op (insI ⟨(op : Int), xa, xb, xc, xd⟩)).length ≤ 300) := insT_len k (by omega) (op, insI ⟨(op : Int), xa, xb, xc, xd⟩) (inB_of HOk.out (op, insI ⟨(op : Int), xa, xb, xc, xd⟩) HMe.out)
            have HPl : Hid ((decB (k : Int)).length + 2 + (strB (name op)).length ≤ 300) := by
              have h9 := HIl.out
              unfold insT at h9
              simp only [List.length_append, List.length_cons, List.length_nil] at h9
              show _ ≤ _
              omega
            have HZl : Hid (Z.length ≤ 20000000000) := by
              have h8 := HLk.out
              have h7 := onQ_len p.on k p.on.length (by omega)
              have h6 : (misT ms k).length ≤ 6 := by unfold misT; split <;> simp
              show _ ≤ _
              rw [HZ2.out, List.length_append, evT, List.length_append]
              omega
            have hsz1 : (txt (decB (k : Int))).size ≤ 9223372036854775805 := by
              rw [txt_size]
              have := HPl.out
              omega
            have e58 : txt (decB (k : Int)) ++ (⟨#[58, 32]⟩ : ByteArray) = txt (decB (k : Int) ++ [58, 32]) := by
              rw [txt_app]
              rfl
            have hsz2 : (txt (decB (k : Int))).size + 2 + (name op).size ≤ 9223372036854775807 := by
              rw [txt_size, ← strB_len (name op)]
              have := HPl.out
              omega
            have HTx : Hid (txt (decB (k : Int)) ++ (⟨#[58, 32]⟩ : ByteArray) ++ name op = txt (decB (k : Int) ++ ([58, 32] ++ strB (name op)))) := by
              show _ = _
              rw [e58, ← List.append_assoc, txt_app (_ ++ _), txt_strB]
            clear e58
            have HSS : Hid (∀ X, Below w8.heap.size w8 X → X.cell? ⟨ib, 0, none⟩ = some (.int .i64 (op : Int)) ∧ X.cell? ⟨tg, op * 5, none⟩ = some (.string (name op))) := fun X hX => ⟨cell_of (cs := [.int .i64 (op : Int), .int .i64 xa, .int .i64 xb, .int .i64 xc, .int .i64 xd]) ((hX.block _ (blk_lt HW.out.2.2.1)).trans HW.out.2.2.1) rfl, cell_of ((hX.block _ (blk_lt HW.out.2.1)).trans HW.out.2.1) (tab_name HOp.out)⟩
            refine wp_region_held (S := fun w' : World => w'.cell? ⟨ib, 0, none⟩ = some (.int .i64 (op : Int)) ∧ w'.cell? ⟨tg, op * 5, none⟩ = some (.string (name op))) (by kernel_rfl) ?_
            change wpAnyH _ _ _ _ _ _ _ _ w8.drew
            have hbd : Below w8.heap.size w8 w8.drew := (Below.refl _ w8).drew
            have hS := HSS.out _ hbd
            have HBd := show Hid _ from hbd
            clear hbd
            generalize w8.drew = wd at *
            refine tqA 0 rfl hS ?_
            refine tqA 1 rfl hS ?_
            refine tqA 4 rfl hS ?_
            refine tqA 5 rfl hS ?_
            refine tqA 6 rfl hS ?_
            refine tqA 7 rfl hS ?_
            refine tqA 8 rfl hS ?_
            refine tqA 9 rfl hS ?_
            refine wpAnyH_ready (rs := [2]) (by kernel_rfl) (by simp) ?_
            refine AllReadyH.cons rfl (fun K hK => ?_) AllReadyH.nil
            go_simp
            refine Calls.mono (rdec_any (k : Int) ⟨by omega, by omega⟩ _) ?_
            rintro e w9 ⟨rfl, hb9⟩
            have HB9 : Hid (Below w8.heap.size w8 w9) := HBd.out.trans (hb9.mono HBd.out.size)
            refine hK.out _ _ (HSS.out _ HB9.out) (fun hS => ?_)
            clear hK K hb9
            refine tqA 3 (v := .string (txt (decB (k : Int)) ++ (⟨#[58, 32]⟩ : ByteArray))) rfl hS ?_
            refine tqA 10 (v := .string (txt (decB (k : Int)) ++ (⟨#[58, 32]⟩ : ByteArray) ++ name op)) rfl hS ?_
            refine wpAnyH_ready (rs := [11]) (by kernel_rfl) (by simp) ?_
            have HB1z : Hid (Bo w0 w9 bz cz Z) := (HW.out.1.below HB9.out)
            refine AllReadyH.cons rfl (fun K hK => step_txt (ys := decB (k : Int) ++ ([58, 32] ++ strB (name op))) rfl _ _ rfl rfl HB1z.out (low_app (low_decB _) (low_app (low_lit (by decide)) (low_strB _))) (congrArg Value.string HTx.out) (by have := HZl.out; have := HPl.out; simp only [List.length_append, List.length_cons, List.length_nil]; omega) (fun Z2 b3 c3' w10 hZ2 hB2 hG2 => ?_)) AllReadyH.nil
            have HM : Hid (Bo w0 w10 b3 c3' Z2 ∧ Z2 = Z ++ (decB (k : Int) ++ ([58, 32] ++ strB (name op))) ∧ w10.heap[tg]? = some (.cells tabC.toArray 84 (0, 0)) ∧ w10.heap[ib]? = some (.cells #[.int .i64 (op : Int), .int .i64 xa, .int .i64 xb, .int .i64 xc, .int .i64 xd] 53 (0, 0)) ∧ w10.heap[ab]? = some (.cells #[.int .i64 xa, .int .i64 xb, .int .i64 xc, .int .i64 xd] 81 (0, 0))) := by
              have hk : ∀ {q : Nat} {o : Obj}, w8.heap[q]? = some o → w9.heap[q]? = some o := fun h => (HB9.out.block _ (blk_lt h)).trans h
              exact ⟨hB2, hZ2, HB1z.out.keepO hG2 (hk HW.out.2.1) (by decide), HB1z.out.keepO hG2 (hk HW.out.2.2.1) (by decide), HB1z.out.keepO hG2 (hk HW.out.2.2.2) (by decide)⟩
            refine hK.out _ _ ⟨cell_of (cs := [.int .i64 (op : Int), .int .i64 xa, .int .i64 xb, .int .i64 xc, .int .i64 xd]) HM.out.2.2.2.1 rfl, cell_of HM.out.2.2.1 (tab_name HOp.out)⟩ (fun hS => ?_)
            clear hK K hZ2 hB2 hG2
            refine tqA 12 rfl hS ?_
            refine wpAnyH_done (by kernel_rfl) ?_ _
            clear hS hsz1 hsz2
            go_simp
            go_wp2_with fail
            go_loopg [5, 11] 4 (fun gq ov iv wr => ∃ (j : Nat) (V : List Nat) (b : Option Addr) (c : Nat), j + gq = 4 ∧ iv = .int .i64 (j : Int) ∧ ov = .slice b V.length c ∧ Bo w0 wr b c V ∧ V = Z2 ++ opsT (pick4 (Cd.kd4 op)) (insI ⟨(op : Int), xa, xb, xc, xd⟩) j ∧ wr.heap[tg]? = some (.cells tabC.toArray 84 (0, 0)) ∧ wr.heap[ib]? = some (.cells #[.int .i64 (op : Int), .int .i64 xa, .int .i64 xb, .int .i64 xc, .int .i64 xd] 53 (0, 0)) ∧ wr.heap[ab]? = some (.cells #[.int .i64 xa, .int .i64 xb, .int .i64 xc, .int .i64 xd] 81 (0, 0)))
            case atStart => exact ⟨0, Z2, _, _, by omega, rfl, rfl, HM.out.1, (List.append_nil _).symm, HM.out.2.2⟩
            case round =>
              obtain ⟨j, V, bv, cv, hjg, rfl, rfl, hB, hV, h1, h2, h3⟩ := hrel
              have HL : Hid (Bo w0 wr bv cv V ∧ V = Z2 ++ opsT (pick4 (Cd.kd4 op)) (insI ⟨(op : Int), xa, xb, xc, xd⟩) j ∧ wr.heap[tg]? = some (.cells tabC.toArray 84 (0, 0)) ∧ wr.heap[ib]? = some (.cells #[.int .i64 (op : Int), .int .i64 xa, .int .i64 xb, .int .i64 xc, .int .i64 xd] 53 (0, 0)) ∧ wr.heap[ab]? = some (.cells #[.int .i64 xa, .int .i64 xb, .int .i64 xc, .int .i64 xd] 81 (0, 0)) ∧ j + gk = 4) := ⟨hB, hV, h1, h2, h3, hjg⟩
              clear hjg hB hV h1 h2 h3
              have HVl : Hid (V.length ≤ 30000000000) := by
                have h9 := opsT_len (pick4 (Cd.kd4 op)) (insI ⟨(op : Int), xa, xb, xc, xd⟩) (inB_of HOk.out (op, insI ⟨(op : Int), xa, xb, xc, xd⟩) HMe.out).2 j (by have := HL.out.2.2.2.2.2; omega)
                have h8 := HZl.out
                have h7 := HPl.out
                have h6 := HL.out.2.2.2.2.2
                show _ ≤ _
                rw [HL.out.2.1, List.length_append, HM.out.2.1]
                simp only [List.length_append, List.length_cons, List.length_nil]
                omega
              by_cases hjm : j < 4
              case pos =>
                have hj1 : (j : Int) < 4 := by omega
                have HJm : Hid (j < 4) := hjm
                have HJ9 : Hid (j + gk = 4) := HL.out.2.2.2.2.2
                obtain ⟨q, hq9, hqe⟩ := kdN_lt op HOp.out j hjm
                have HQ9 : Hid (q < 9) := hq9
                have hyb := op_bd (op_bnd HIn.out j hjm)
                have h44 : q = 4 → opN ⟨(op : Int), xa, xb, xc, xd⟩ j = 0 ∨ opN ⟨(op : Int), xa, xb, xc, xd⟩ j = 1 := fun e => HE4.out j hjm (by rw [hqe, e]; rfl)
                have HON : Hid (opsT (pick4 (Cd.kd4 op)) (insI ⟨(op : Int), xa, xb, xc, xd⟩) (j + 1) = opsT (pick4 (Cd.kd4 op)) (insI ⟨(op : Int), xa, xb, xc, xd⟩) j ++ opT (q : Int) (opN ⟨(op : Int), xa, xb, xc, xd⟩ j)) := by
                  show opsT (pick4 (Cd.kd4 op)) (insI ⟨(op : Int), xa, xb, xc, xd⟩) j ++ opT (pick4 (Cd.kd4 op) j) (insI ⟨(op : Int), xa, xb, xc, xd⟩ j) = _
                  rw [pick_kd op j hjm, insI_op _ j hjm, hqe]
                have HSS2 : Hid (∀ X : World, X.heap[tg]? = some (.cells tabC.toArray 84 (0, 0)) → X.heap[ib]? = some (.cells #[.int .i64 (op : Int), .int .i64 xa, .int .i64 xb, .int .i64 xc, .int .i64 xd] 53 (0, 0)) → X.heap[ab]? = some (.cells #[.int .i64 xa, .int .i64 xb, .int .i64 xc, .int .i64 xd] 81 (0, 0)) → X.cell? ⟨ib, 0, none⟩ = some (.int .i64 (op : Int)) ∧ X.cell? ⟨tg, op * 5 + 1 + j, none⟩ = some (.int .i64 (q : Int)) ∧ X.cell? ⟨ab, j, none⟩ = some (.int .i64 (opN ⟨(op : Int), xa, xb, xc, xd⟩ j))) := fun X h1 h2 h3 => ⟨cell_of (cs := [.int .i64 (op : Int), .int .i64 xa, .int .i64 xb, .int .i64 xc, .int .i64 xd]) h2 rfl, by have h9 := cell_of h1 (tabC_kd HOp.out hjm); rwa [hqe] at h9, opN_cell h3 j hjm⟩
                have HCal : Hid (∀ X, Calls Tryd.prog 39 #[.int .i64 (q : Int), .int .i64 (opN ⟨(op : Int), xa, xb, xc, xd⟩ j)] X fun e W' => e = .returned (.string (txt (opT (q : Int) (opN ⟨(op : Int), xa, xb, xc, xd⟩ j)))) ∧ Below X.heap.size X W') := fun X => roper_any q hq9 (opN ⟨(op : Int), xa, xb, xc, xd⟩ j) hyb h44 X
                have HOl : Hid ((opT (q : Int) (opN ⟨(op : Int), xa, xb, xc, xd⟩ j)).length ≤ 40) := opT_len (q : Int) (opN ⟨(op : Int), xa, xb, xc, xd⟩ j) (by omega) (by omega)
                clear hjm hqe hq9 hyb h44
                generalize opN ⟨(op : Int), xa, xb, xc, xd⟩ j = y at *
                go_upto_region 22 with fail
                refine wp_region_held (S := fun w' : World => w'.cell? ⟨ib, 0, none⟩ = some (.int .i64 (op : Int)) ∧ w'.cell? ⟨tg, op * 5 + 1 + j, none⟩ = some (.int .i64 (q : Int)) ∧ w'.cell? ⟨ab, j, none⟩ = some (.int .i64 y)) (by kernel_rfl) ?_
                change wpAnyH _ _ _ _ _ _ _ _ wr.drew
                have hbd : Below wr.heap.size wr wr.drew := (Below.refl _ wr).drew
                have HD : Hid (Bo w0 wr.drew bv cv V ∧ wr.drew.heap[tg]? = some (.cells tabC.toArray 84 (0, 0)) ∧ wr.drew.heap[ib]? = some (.cells #[.int .i64 (op : Int), .int .i64 xa, .int .i64 xb, .int .i64 xc, .int .i64 xd] 53 (0, 0)) ∧ wr.drew.heap[ab]? = some (.cells #[.int .i64 xa, .int .i64 xb, .int .i64 xc, .int .i64 xd] 81 (0, 0))) := ⟨HL.out.1.below hbd, (hbd.block _ (blk_lt HL.out.2.2.1)).trans HL.out.2.2.1, (hbd.block _ (blk_lt HL.out.2.2.2.1)).trans HL.out.2.2.2.1, (hbd.block _ (blk_lt HL.out.2.2.2.2.1)).trans HL.out.2.2.2.2.1⟩
                clear hbd
                have hS := HSS2.out _ HD.out.2.1 HD.out.2.2.1 HD.out.2.2.2
                generalize wr.drew = wd at *
                refine tqA 0 rfl hS ?_
                refine tqA 1 rfl hS ?_
                refine tqA 2 rfl hS ?_
                refine tqA 3 rfl hS ?_
                refine tqA 4 rfl hS ?_
                refine tqA 5 rfl hS ?_
                refine tqA 6 rfl hS ?_
                refine tqA 7 rfl hS ?_
                refine tqA 8 rfl hS ?_
                refine tqA 9 rfl hS ?_
                refine tqA 10 rfl hS ?_
                refine tqA 11 rfl hS ?_
                refine wpAnyH_ready (rs := [12]) (by kernel_rfl) (by simp) ?_
                refine AllReadyH.cons rfl (fun K hK => ?_) AllReadyH.nil
                go_simp
                refine Calls.mono (HCal.out _) ?_
                rintro e w11 ⟨rfl, hb⟩
                have HD2 : Hid (Bo w0 w11 bv cv V ∧ w11.heap[tg]? = some (.cells tabC.toArray 84 (0, 0)) ∧ w11.heap[ib]? = some (.cells #[.int .i64 (op : Int), .int .i64 xa, .int .i64 xb, .int .i64 xc, .int .i64 xd] 53 (0, 0)) ∧ w11.heap[ab]? = some (.cells #[.int .i64 xa, .int .i64 xb, .int .i64 xc, .int .i64 xd] 81 (0, 0))) := ⟨HD.out.1.below hb, (hb.block _ (blk_lt HD.out.2.1)).trans HD.out.2.1, (hb.block _ (blk_lt HD.out.2.2.1)).trans HD.out.2.2.1, (hb.block _ (blk_lt HD.out.2.2.2)).trans HD.out.2.2.2⟩
                refine hK.out _ _ (HSS2.out _ HD2.out.2.1 HD2.out.2.2.1 HD2.out.2.2.2) (fun hS => ?_)
                clear hK K hb
                refine wpAnyH_ready (rs := [13]) (by kernel_rfl) (by simp) ?_
                refine AllReadyH.cons rfl (fun K hK => step_txt (ys := opT (q : Int) y) rfl _ _ rfl rfl HD2.out.1 (low_opT _ _) rfl (by have := HVl.out; have := HOl.out; omega) (fun V2 b4 c4' w12 hV2 hB2 hG2 => ?_)) AllReadyH.nil
                have HM3 : Hid (Bo w0 w12 b4 c4' V2 ∧ V2 = Z2 ++ opsT (pick4 (Cd.kd4 op)) (insI ⟨(op : Int), xa, xb, xc, xd⟩) (j + 1) ∧ w12.heap[tg]? = some (.cells tabC.toArray 84 (0, 0)) ∧ w12.heap[ib]? = some (.cells #[.int .i64 (op : Int), .int .i64 xa, .int .i64 xb, .int .i64 xc, .int .i64 xd] 53 (0, 0)) ∧ w12.heap[ab]? = some (.cells #[.int .i64 xa, .int .i64 xb, .int .i64 xc, .int .i64 xd] 81 (0, 0))) := ⟨hB2, by rw [hV2, HL.out.2.1, HON.out, List.append_assoc], HD2.out.1.keepO hG2 HD2.out.2.1 (by decide), HD2.out.1.keepO hG2 HD2.out.2.2.1 (by decide), HD2.out.1.keepO hG2 HD2.out.2.2.2 (by decide)⟩
                refine hK.out _ _ (HSS2.out _ HM3.out.2.2.1 HM3.out.2.2.2.1 HM3.out.2.2.2.2) (fun hS => ?_)
                clear hK K hV2 hB2 hG2
                refine tqA 14 rfl hS ?_
                refine wpAnyH_done (by kernel_rfl) ?_ _
                clear hS
                go_simp
                go_wp2_with fail
                go_roundg (4 - (j + 1))
                case measure => have := HJ9.out; have := HJm.out; omega
                case rel => exact ⟨j + 1, V2, b4, c4', by have := HJm.out; omega, by go_num, rfl, HM3.out.1, HM3.out.2.1, HM3.out.2.2⟩
              case neg =>
                have hj1 : ¬ (j : Int) < 4 := by omega
                have HJ4 : Hid (j = 4) := by have := HL.out.2.2.2.2.2; show _ = _; omega
                have HY : Hid (Bo w0 (wr.alloc (.cells #[.int .u8 10] 5)) bv cv V ∧ (wr.alloc (.cells #[.int .u8 10] 5)).heap[tg]? = some (.cells tabC.toArray 84 (0, 0))) := by
                  have hb9 : Below wr.heap.size wr (wr.alloc (.cells #[.int .u8 10] 5)) := (Below.refl _ wr).alloc (Nat.le_refl _) _
                  exact ⟨HL.out.1.below hb9, (hb9.block _ (blk_lt HL.out.2.2.1)).trans HL.out.2.2.1⟩
                clear hjm
                go_wp2_with (at_builtin; refine app_bytesL (ys := [10]) rfl _ _ rfl rfl HY.out.1 rfl (Nm.cell_one wr 5 (.int .u8 10)) (by decide) (by have := HVl.out; simp only [List.length_cons, List.length_nil]; omega) ?_)
                intro X2 b5 c5' w13 hX2 hB2 hG2
                have HF : Hid (Bo w0 w13 b5 c5' X2 ∧ X2 = lisT p.on ms (toPr p).cd (k + 1) ∧ w13.heap[tg]? = some (.cells tabC.toArray 84 (0, 0))) := by
                  refine ⟨hB2, ?_, HY.out.1.keepO hG2.1 HY.out.2 (by decide)⟩
                  rw [hX2, HL.out.2.1, HJ4.out, HM.out.2.1, HZ2.out, HLs.out]
                  show _ = _ ++ (_ ++ (decB (k : Int) ++ ([58, 32] ++ (strB (name op) ++ (opsT (pick4 (Cd.kd4 op)) (insI ⟨(op : Int), xa, xb, xc, xd⟩) 4 ++ [10])))))
                  simp only [List.append_assoc]
                clear hX2 hB2 hG2
                go_wp2_with fail
                go_roundg (p.cd.length - (k + 1))
                case measure => have := HT9.out; have := HKm.out; omega
                case rel => exact ⟨k + 1, X2, b5, c5', by have := HKm.out; omega, by go_num, rfl, HF.out.1, HF.out.2.1, HF.out.2.2⟩
    case neg =>
      have hk1 : ¬ (k : Int) < (p.cd.length : Int) := by omega
      obtain rfl : k = p.cd.length := by have := HT.out.2.2.2; omega
      have HLw : Hid (Low X) := by
        show Low X
        rw [HT.out.2.1]
        exact (HLn.out p.cd.length (Nat.le_refl _)).2
      have hcv := conv_own HT.out.1.1 HLw.out
      clear hkm
      go_wp2_with fail
      go_ret2
      exact ⟨by rw [HE.out, ← HT.out.2.1, HC0.out]; rfl, HB0.out.1.trans (HT.out.1.2.mono HB0.out.1.size)⟩
end Go.Proofs.YtcicifcnffacpaaDoor.Cd
