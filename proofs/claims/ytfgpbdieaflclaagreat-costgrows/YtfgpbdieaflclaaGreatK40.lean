import Derived.Test.YtfgpbdieaflclaaGreatK39
set_option maxHeartbeats 6400000
set_option maxRecDepth 100000
namespace Go.Proofs.YtfgpbdieaflclaaGreat.Gr
open Go.RowKit Sp Lx
theorem refCheck_any (ao:Option Addr) (l:List Rz) (cap:Nat) (w:World) (h:IsRz w ao l) (hn:l.length<=2932031007317) (hkd:∀ r ∈ l,r.kids<=9223372036854775807/\r.name.size<=4611686018427387000):
  Calls Tryz.prog 13 #[.slice ao l.length cap] w fun e w'=>e=.returned (.agg #[.int .i64 ((chk l).1:Nat),.int .i64 ((chk l).2:Nat)])/\Below w.heap.size w w':=by
 have hb1:Below w.heap.size w (w.alloc (.cells #[.int .i64 0,.int .i64 0] 31)):=bAl w _
 have HF:=show Hid (Calls Tryz.prog 31 #[.slice ao l.length cap] (w.alloc (.cells #[.int .i64 0,.int .i64 0] 31)) fun e w'=>e=.returned (.int .i64 (shp [] false 0 l))/\Below (w.alloc (.cells #[.int .i64 0,.int .i64 0] 31)).heap.size (w.alloc (.cells #[.int .i64 0,.int .i64 0] 31)) w') from
  shape_any ao l cap _ (h.below hb1) hn hkd
 have HL:Hid ((wrong [ab1] 0 l).2=false->∀ W,Below w.heap.size w W->Calls Tryz.prog 32 #[.slice ao l.length cap] W fun e w'=>e=.returned (.int .i64 (mx opn loose l l.length))/\Below W.heap.size W w'):=fun hf W hW=>
  refLevels_any ao l cap W (h.below hW) hn (tree_of hf).1 (tree_of hf).2
 have HC:Hid (chk l=if (wrong [ab1] 0 l).2 then (23,(wrong [ab1] 0 l).1) else if 64 < mx opn loose l l.length then (22,0) else (0,0)):=rfl
 have HB1:Hid (Below w.heap.size w (w.alloc (.cells #[.int .i64 0,.int .i64 0] 31))):=hb1
 have hsame:=shp_wrong0 l
 clear h hn hb1 hkd
 generalize chk l=C at *
 generalize wrong [ab1] 0 l=F at *
 generalize shp [] false 0 l=S at *
 generalize mx opn loose l l.length=X at *
 obtain ⟨f1,f2⟩:=F
 go_enter Tryz.func13,Tryz.ntmps13
 go_wp2_with fail
 refine HF.out.mono ?_
 rintro e w1 ⟨rfl,hB1⟩
 have hz:=hB1.size
 rw [World.size_alloc] at hz
 have hT1:w1.heap[w.heap.size]?=some (.cells #[.int .i64 0,.int .i64 0] 31 (0,0)):=(hB1.block w.heap.size (by simp)).trans (heap_alloc_new w _)
 have HB2:Hid (Below w.heap.size w w1):=HB1.out.trans (hB1.mono HB1.out.size)
 have hgz:w.heap.size < w1.heap.size:=by omega
 clear hB1 hz
 rcases hsame with ⟨e2,e1⟩ | ⟨e2,e1⟩
 ·simp only at e1 e2
  subst e1 e2
  have HC2:Hid (C=(23,f1)):=by show _=_;rw [HC.out];simp
  clear HC HL
  have HT2:Hid (w1.heap[w.heap.size]?=some (.cells #[.int .i64 0,.int .i64 0] 31 (0,0))):=hT1
  have d0:w1.cell? ⟨w.heap.size,0,none⟩=some (.int .i64 0):=by rw [World.cell?,HT2.out];rfl
  have d1:w1.cell? ⟨w.heap.size,1,none⟩=some (.int .i64 0):=by rw [World.cell?,HT2.out];rfl
  have hf2:∀ j,w1.frozen? ⟨w.heap.size,j,none⟩=false:=fun j=>by rw [World.frozen?,HT2.out];rfl
  clear hT1
  go_wp2_with fail
  obtain ⟨q0,q1⟩:=two_cells (.int .i64 23) (.int .i64 (f1:Int)) HT2.out
  exact bodyPost_ret (v:=.agg #[.int .i64 23,.int .i64 f1]) (by simp [results,Tryz.results13,go_sem,q0,q1]) rfl ⟨by rw [HC2.out];rfl,(HB2.out.setCell (p:=⟨w.heap.size,0,none⟩) (Nat.le_refl _) _).setCell (p:=⟨w.heap.size,1,none⟩) (Nat.le_refl _) _⟩
 ·simp only at e1 e2
  subst e1 e2
  have HL2:=hdn <| HL.out rfl
  go_wp2_with fail
  refine (HL2.out w1 HB2.out).mono ?_
  rintro e w2 ⟨rfl,hB3⟩
  have HT2:Hid (w2.heap[w.heap.size]?=some (.cells #[.int .i64 0,.int .i64 0] 31 (0,0))):=(hB3.block w.heap.size hgz).trans hT1
  have d0:w2.cell? ⟨w.heap.size,0,none⟩=some (.int .i64 0):=by rw [World.cell?,HT2.out];rfl
  have d1:w2.cell? ⟨w.heap.size,1,none⟩=some (.int .i64 0):=by rw [World.cell?,HT2.out];rfl
  have hf2:∀ j,w2.frozen? ⟨w.heap.size,j,none⟩=false:=fun j=>by rw [World.frozen?,HT2.out];rfl
  have HB4:Hid (Below w.heap.size w w2):=HB2.out.trans (hB3.mono HB2.out.size)
  clear hB3 hT1
  by_cases hx:64 < X
  ·have HC2:Hid (C=(22,0)):=by show _=_;rw [HC.out];simp [hx]
   clear HC
   go_wp2_with fail
   obtain ⟨q0,q1⟩:=two_cells (.int .i64 22) (.int .i64 0) HT2.out
   exact bodyPost_ret (v:=.agg #[.int .i64 22,.int .i64 0]) (by simp [results,Tryz.results13,go_sem,q0,q1]) rfl ⟨by rw [HC2.out];rfl,(HB4.out.setCell (p:=⟨w.heap.size,0,none⟩) (Nat.le_refl _) _).setCell (p:=⟨w.heap.size,1,none⟩) (Nat.le_refl _) _⟩
  ·have HC2:Hid (C=(0,0)):=by show _=_;rw [HC.out];simp [hx]
   clear HC
   go_wp2_with fail
   obtain ⟨q0,q1⟩:=two_cells (.int .i64 0) (.int .i64 0) HT2.out
   exact bodyPost_ret (v:=.agg #[.int .i64 0,.int .i64 0]) (by simp [results,Tryz.results13,go_sem,q0,q1]) rfl ⟨by rw [HC2.out];rfl,(HB4.out.setCell (p:=⟨w.heap.size,0,none⟩) (Nat.le_refl _) _).setCell (p:=⟨w.heap.size,1,none⟩) (Nat.le_refl _) _⟩
end Go.Proofs.YtfgpbdieaflclaaGreat.Gr
namespace Go.Proofs.YtfgpbdieaflclaaGreat.Nm
open Go.RowKit Go.Maps Sp Lx Gr
def errAt (k:Nat) (r:Except Nat Rs):Except (Nat × Nat) Rs:=match r with | .error c=>.error (c,k) | .ok t=>.ok t
theorem upto_next {s0 s:Rs} {k:Nat} (h:upto s0 k=.ok s):upto s0 (k+1)=errAt k (askN k s 3):=by
 simp only [upto,h,errAt]
 rfl
theorem askN3 (k:Nat) (s:Rs):askN k s 3=match askD k s with | .error c=>.error c | .ok a=>match askM k a with | .error c=>.error c | .ok b=>askH k b:=by
 have h1:askN k s 1=askD k s:=askN_succ (j:=0) rfl
 cases hD:askD k s with
 | error c=>exact askN_err (h1.trans hD) 2
 | ok a=>
  have h2:askN k s 2=askM k a:=askN_succ (h1.trans hD)
  dsimp only
  cases hM:askM k a with
  | error c=>exact askN_err (h2.trans hM) 1
  | ok b=>exact askN_succ (h2.trans hM)
theorem kinds_D {k:Int} (h:decl k ≠ 0):nmd k=0/\¬ (k=8\/k=9\/k=10):=by
 rcases decl_cases k with ⟨rfl,_⟩ | ⟨rfl,_⟩ | ⟨rfl,_⟩ | ⟨rfl,_⟩ | ⟨rfl,_⟩ | ⟨_,_,_,_,_,e⟩
 all_goals first | exact absurd e h | exact ⟨by decide,by decide⟩
theorem evt_no {x:Rz} (h:¬ (x.kind=8\/x.kind=9\/x.kind=10)):(evt x).1=0:=by
 unfold evt
 rw [if_neg (fun e=>h (by rcases e with e | e<;>simp [e])),if_neg (fun e=>h (by simp [e]))]
theorem evt_yes {x:Rz} (h:x.kind=8\/x.kind=9\/x.kind=10):(evt x).1 ≠ 0:=by
 unfold evt
 split
 ·simp
 ·rename_i h8
  rw [if_pos (by rcases h with e | e | e;exact absurd (Or.inl e) h8;exact absurd (Or.inr e) h8;exact e)]
  simp
theorem nmd_ev {k:Int} (h:k=8\/k=9):nmd k=1:=by rcases h with rfl | rfl<;>rfl
theorem evt_one {x:Rz} (h:(evt x).1=1):x.kind=8\/x.kind=9:=by
 unfold evt at h
 split at h
 ·assumption
 ·split at h
  ·cases h
  ·cases h
theorem askD_no {k:Nat} {s:Rs} (h:decl (rat s.rows k).kind=0):askD k s=.ok s:=by unfold askD;rw [if_pos h]
theorem askM_no {k:Nat} {s:Rs} (h:nmd (rat s.rows k).kind=0):askM k s=.ok s:=by unfold askM;rw [if_pos h]
theorem askH_no {k:Nat} {s:Rs} (h:¬ ((rat s.rows k).kind=8\/(rat s.rows k).kind=9\/(rat s.rows k).kind=10)):askH k s=.ok s:=by unfold askH;rw [if_pos (evt_no h)]
theorem next_D {l:List Rz} {m k:Nat} {s:Rs} (hB:Base l) (hu:upto (start l) k=.ok s) (hg:Good l m s) (hk:k < l.length) (hd:decl (rat s.rows k).kind ≠ 0):upto (start l) (k+1)=errAt k (askD k s):=by
 rw [upto_next hu,askN3]
 cases hA:askD k s with
 | error c=>rfl
 | ok a=>
  have hga:=good_D hB hk hg hA
  have e:(rat a.rows k).kind=(rat s.rows k).kind:=((like_kind hga.like hk).1).trans (like_kind hg.like hk).1.symm
  obtain ⟨n0,ne⟩:=kinds_D hd
  simp only [askM_no (s:=a) (k:=k) (by rw [e];exact n0),askH_no (s:=a) (k:=k) (by rw [e];exact ne)]
theorem next_ME {s0 s:Rs} {k c:Nat} (hu:upto s0 k=.ok s) (hd:decl (rat s.rows k).kind=0) (hM:askM k s=.error c):upto s0 (k+1)=.error (c,k):=by
 rw [upto_next hu,askN3,askD_no hd]
 simp only [hM,errAt]
theorem next_MH {s0 s b:Rs} {k:Nat} (hu:upto s0 k=.ok s) (hd:decl (rat s.rows k).kind=0) (hM:askM k s=.ok b):upto s0 (k+1)=errAt k (askH k b):=by
 rw [upto_next hu,askN3,askD_no hd]
 simp only [hM]
theorem upto_inv {l:List Rz} (hB:Base l) (n:Nat) (hn:n<=l.length) {s:Rs} (h:upto (start l) n=.ok s):Inv2 s:=by
 induction n generalizing s with
 | zero=>
  cases h
  exact inv_start l
 | succ n ih=>
  simp only [upto] at h
  split at h
  ·cases h
  ·rename_i t ht
   have hc:=ih (by omega) ht
   have hg:=upto_good hB n (by omega) ht
   split at h
   ·cases h
   ·rename_i t' h3
    cases h
    cases h1:askN n t 1 with
    | error c=>rw [askN_err h1 2] at h3;cases h3
    | ok t1=>
     cases h2:askN n t 2 with
     | error c=>rw [askN_err h2 1] at h3;cases h3
     | ok t2=>
      have a1:askD n t=.ok t1:=(askN_succ (j:=0) rfl).symm.trans h1
      have a2:askM n t1=.ok t2:=(askN_succ h1).symm.trans h2
      have a3:askH n t2=.ok s:=(askN_succ h2).symm.trans h3
      exact inv_H (inv_M (inv_D hc a1) a2) (num_M2 (by omega) (good_D hB (by omega) hg a1) a2) a3
theorem upto_end {s0:Rs} {n k:Nat} {e:Nat × Nat} (h:upto s0 k=.error e) (hk:k<=n):upto s0 n=.error e:=by
 have:=upto_err h (n - k)
 rw [show k+(n - k)=n by omega] at this
 exact this
theorem Rsl.fb {w wr w6:World} {mb rb base:Nat} (h:Rsl w wr) (hF:Fb [mb,rb] base wr w6) (h1:w.heap.size+1 < mb) (h2:w.heap.size+1 < rb) (h3:w.heap.size+1 < base):Rsl w w6:=
 ⟨(hF.block _ (by omega) (by simp;omega)).trans h.p,(hF.block _ (by omega) (by simp;omega)).trans h.f,h.b.trans (fb_below hF (by omega) (fun k hk=>by simp at hk;rcases hk with rfl | rfl<;>omega))⟩
structure Md7 (w wx:World) (l:List Rz) (nm:ByteArray) (mb eb:Nat):Prop where
 r:Rsl w wx
 p:wx.heap[mb]?=some (.cells #[.string nm,pz,pz,pz,pz,pz,pz,.int .i64 (-1),.slice (some ⟨eb,0,none⟩) l.length l.length,pz,.int .i64 0,.int .i64 0,.int .i64 0,.int .i64 0,.int .i64 0] 55 (0,0))
 e:∀ i,i < l.length->wx.cell? ⟨eb,i,none⟩=some (.int .i64 (endp l i:Nat))
 l1:w.heap.size+1 < mb/\w.heap.size+1 < eb/\eb < wx.heap.size/\eb ≠ mb
theorem rresolve_no {w:World} {ao:Option Addr} {l:List Rz} {cap c1 c2:Nat} (h:IsRz w ao l) (hl:l.length<=2932031007317) (hc:chk l=(c1,c2)) (h0:c1 ≠ 0) (hkd:∀ r ∈ l,r.kids<=9223372036854775807/\r.name.size<=4611686018427387000):
  Calls Tryz.prog 5 #[.slice ao l.length cap] w fun e w'=>e=.returned (.tuple #[.agg #[.string ⟨#[]⟩,pz,pz,pz,pz,pz,pz,.int .i64 0],.agg #[.int .i64 (c1:Int),.int .i64 (c2:Int)]])/\Below w.heap.size w w':=by
 have hb1:Below w.heap.size w ((w.alloc (.cells #[.string ⟨#[]⟩,pz,pz,pz,pz,pz,pz,.int .i64 0] 28)).alloc (.cells #[.int .i64 0,.int .i64 0] 31)):=(bAl w _).alloc (by simp) _
 have HR:Hid (Rsl w ((w.alloc (.cells #[.string ⟨#[]⟩,pz,pz,pz,pz,pz,pz,.int .i64 0] 28)).alloc (.cells #[.int .i64 0,.int .i64 0] 31))):=⟨by rw [alloc_old _ _ _ (by simp)];exact alloc_at _ _ _ rfl,alloc_at _ _ _ (by simp),hb1⟩
 have HC:=hdn <| refCheck_any ao l cap _ (h.below hb1) hl hkd
 rw [hc] at HC
 dsimp only at HC
 have hc0:((c1:Int) != 0)=true:=by simp;omega
 clear hc h0 hkd
 go_enter Tryz.func5,Tryz.ntmps5
 go_wp2_with fail
 refine Calls.mono HC.out ?_
 rintro e w1 ⟨rfl,hB1⟩
 have HR1:=hdn <| (HR.out.below hB1)
 have hR2:=HR1.out.below (bAl w1 (.cells #[.int .i64 (c1:Int),.int .i64 (c2:Int)] 31))
 have HR2:=hdn <| hR2
 obtain ⟨r0,r1,r2,r3,r4,r5,r6,r7⟩:=hR2.cells
 obtain ⟨s0,s1,s2,s3⟩:=hR2.fault
 have z0:=hR2.frozen 0
 have z1:=hR2.frozen 1
 have z2:=hR2.frozen 2
 have z3:=hR2.frozen 3
 have z4:=hR2.frozen 4
 have z5:=hR2.frozen 5
 have z6:=hR2.frozen 6
 have z7:=hR2.frozen 7
 have hnew:=heap_alloc_new w1 (.cells #[.int .i64 (c1:Int),.int .i64 (c2:Int)] 31)
 have t0:(w1.alloc (.cells #[.int .i64 (c1:Int),.int .i64 (c2:Int)] 31)).cell? ⟨w1.heap.size,0,none⟩=some (.int .i64 (c1:Int)):=by rw [World.cell?,hnew];rfl
 have t1:(w1.alloc (.cells #[.int .i64 (c1:Int),.int .i64 (c2:Int)] 31)).cell? ⟨w1.heap.size,1,none⟩=some (.int .i64 (c2:Int)):=by rw [World.cell?,hnew];rfl
 have hlt:=(Array.getElem?_eq_some_iff.1 HR1.out.f).1
 have n1:w.heap.size ≠ w1.heap.size:=by omega
 have n2:w1.heap.size ≠ w.heap.size:=by omega
 have n3:w.heap.size+1 ≠ w1.heap.size:=by omega
 have n4:w1.heap.size ≠ w.heap.size+1:=by omega
 clear hR2 hb1 hB1 HR HC hlt hnew HR1
 go_wp2_with fail
 generalize w1.alloc (.cells #[.int .i64 (c1:Int),.int .i64 (c2:Int)] 31)=w2 at *
 generalize w1.heap.size=fb at *
 go_region
 all_goals
  obtain ⟨x1,x2,x3⟩:=HR2.out.wrote (.string ⟨#[]⟩) pz pz pz pz pz pz (.int .i64 0) (.int .i64 (c1:Int)) (.int .i64 (c2:Int))
  have HX:Hid (Below w.heap.size w _):=x3
  obtain ⟨y0,y1,y2,y3,y4,y5,y6,y7,y8,y9⟩:=wrote_cells x1 x2
  clear x1 x2 x3 r0 r1 r2 r3 r4 r5 r6 r7 s0 s1 s2 s3 z0 z1 z2 z3 z4 z5 z6 z7 t0 t1
  generalize ((((((((((w2.setCell ⟨w.heap.size,0,none⟩ (.string ⟨#[]⟩)).setCell ⟨w.heap.size,1,none⟩ pz).setCell ⟨w.heap.size,2,none⟩ pz).setCell ⟨w.heap.size,3,none⟩ pz).setCell ⟨w.heap.size,4,none⟩ pz).setCell ⟨w.heap.size,5,none⟩ pz).setCell ⟨w.heap.size,6,none⟩ pz).setCell ⟨w.heap.size,7,none⟩ (.int .i64 0)).setCell ⟨w.heap.size+1,0,none⟩ (.int .i64 (c1:Int))).setCell ⟨w.heap.size+1,1,none⟩ (.int .i64 (c2:Int)))=w9 at *
  have u0:w9.drew.cell? ⟨w.heap.size,0,none⟩=some (.string ⟨#[]⟩):=y0
  go_wp2_with fail
  exact bodyPost_ret (v:=.tuple #[.agg #[.string ⟨#[]⟩,pz,pz,pz,pz,pz,pz,.int .i64 0],.agg #[.int .i64 (c1:Int),.int .i64 (c2:Int)]]) (by simp [results,Tryz.results5,go_sem,y0,y1,y2,y3,y4,y5,y6,y7,y8,y9]) rfl ⟨rfl,HX.out.drew⟩
end Go.Proofs.YtfgpbdieaflclaaGreat.Nm
