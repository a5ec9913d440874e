import Derived.Test.YthbnjhamfcefkaaGreatK33
set_option maxHeartbeats 12800000
set_option maxRecDepth 100000
namespace Go.Proofs.YthbnjhamfcefkaaGreat.Gr
open Go.RowKit Sp Lx
theorem refCheck_any (ao:Option Addr) (l:List Rz) (cap:Nat) (w:World) (h:IsRz w ao l) (hn:l.length<=2932031007317) (hkd:∀ r ∈ l,r.kids<=9223372036854775807/\r.name.size<=4611686018427387000):
  Calls Tryz.prog 12 #[.slice ao l.length cap] w fun e w'=>e=.returned (.agg #[.int .i64 ((chk l).1:Nat),.int .i64 ((chk l).2:Nat)])/\Below w.heap.size w w':=by
 have hb1:Below w.heap.size w (w.alloc (.cells #[.int .i64 0,.int .i64 0] 32)):=bAl w _
 have HF:=show Hid (Calls Tryz.prog 34 #[.slice ao l.length cap] (w.alloc (.cells #[.int .i64 0,.int .i64 0] 32)) fun e w'=>e=.returned (.int .i64 (shp [] false 0 l))/\Below (w.alloc (.cells #[.int .i64 0,.int .i64 0] 32)).heap.size (w.alloc (.cells #[.int .i64 0,.int .i64 0] 32)) w') from
  shape_any ao l cap _ (h.below hb1) hn hkd
 have HL:Hid ((wrong [ab1] 0 l).2=false->∀ W,Below w.heap.size w W->Calls Tryz.prog 35 #[.slice ao l.length cap] W fun e w'=>e=.returned (.int .i64 (mx opn loose l l.length))/\Below W.heap.size W w'):=fun hf W hW=>
  refLevels_any ao l cap W (h.below hW) hn (tree_of hf).1 (tree_of hf).2
 have HC:Hid (chk l=if (wrong [ab1] 0 l).2 then (23,(wrong [ab1] 0 l).1) else if 64 < mx opn loose l l.length then (22,0) else (0,0)):=rfl
 have HB1:Hid (Below w.heap.size w (w.alloc (.cells #[.int .i64 0,.int .i64 0] 32))):=hb1
 have hsame:=shp_wrong0 l
 clear h hn hb1 hkd
 generalize chk l=C at *
 generalize wrong [ab1] 0 l=F at *
 generalize shp [] false 0 l=S at *
 generalize mx opn loose l l.length=X at *
 obtain ⟨f1,f2⟩:=F
 go_enter Tryz.func12,Tryz.ntmps12
 go_wp2_with fail
 refine HF.out.mono ?_
 rintro e w1 ⟨rfl,hB1⟩
 have hz:=hB1.size
 rw [World.size_alloc] at hz
 have hT1:w1.heap[w.heap.size]?=some (.cells #[.int .i64 0,.int .i64 0] 32 (0,0)):=(hB1.block w.heap.size (by simp)).trans (heap_alloc_new w _)
 have HB2:Hid (Below w.heap.size w w1):=HB1.out.trans (hB1.mono HB1.out.size)
 have hgz:w.heap.size < w1.heap.size:=by omega
 clear hB1 hz
 rcases hsame with ⟨e2,e1⟩ | ⟨e2,e1⟩
 ·simp only at e1 e2
  subst e1 e2
  have HC2:Hid (C=(23,f1)):=by show _=_;rw [HC.out];simp
  clear HC HL
  have HT2:Hid (w1.heap[w.heap.size]?=some (.cells #[.int .i64 0,.int .i64 0] 32 (0,0))):=hT1
  have d0:w1.cell? ⟨w.heap.size,0,none⟩=some (.int .i64 0):=by rw [World.cell?,HT2.out];rfl
  have d1:w1.cell? ⟨w.heap.size,1,none⟩=some (.int .i64 0):=by rw [World.cell?,HT2.out];rfl
  have hf2:∀ j,w1.frozen? ⟨w.heap.size,j,none⟩=false:=fun j=>by rw [World.frozen?,HT2.out];rfl
  clear hT1
  go_wp2_with fail
  obtain ⟨q0,q1⟩:=two_cells (.int .i64 23) (.int .i64 (f1:Int)) HT2.out
  exact bodyPost_ret (v:=.agg #[.int .i64 23,.int .i64 f1]) (by simp [results,Tryz.results12,go_sem,q0,q1]) rfl ⟨by rw [HC2.out];rfl,(HB2.out.setCell (p:=⟨w.heap.size,0,none⟩) (Nat.le_refl _) _).setCell (p:=⟨w.heap.size,1,none⟩) (Nat.le_refl _) _⟩
 ·simp only at e1 e2
  subst e1 e2
  have HL2:=hdn <| HL.out rfl
  go_wp2_with fail
  refine (HL2.out w1 HB2.out).mono ?_
  rintro e w2 ⟨rfl,hB3⟩
  have HT2:Hid (w2.heap[w.heap.size]?=some (.cells #[.int .i64 0,.int .i64 0] 32 (0,0))):=(hB3.block w.heap.size hgz).trans hT1
  have d0:w2.cell? ⟨w.heap.size,0,none⟩=some (.int .i64 0):=by rw [World.cell?,HT2.out];rfl
  have d1:w2.cell? ⟨w.heap.size,1,none⟩=some (.int .i64 0):=by rw [World.cell?,HT2.out];rfl
  have hf2:∀ j,w2.frozen? ⟨w.heap.size,j,none⟩=false:=fun j=>by rw [World.frozen?,HT2.out];rfl
  have HB4:Hid (Below w.heap.size w w2):=HB2.out.trans (hB3.mono HB2.out.size)
  clear hB3 hT1
  by_cases hx:64 < X
  ·have HC2:Hid (C=(22,0)):=by show _=_;rw [HC.out];simp [hx]
   clear HC
   go_wp2_with fail
   obtain ⟨q0,q1⟩:=two_cells (.int .i64 22) (.int .i64 0) HT2.out
   exact bodyPost_ret (v:=.agg #[.int .i64 22,.int .i64 0]) (by simp [results,Tryz.results12,go_sem,q0,q1]) rfl ⟨by rw [HC2.out];rfl,(HB4.out.setCell (p:=⟨w.heap.size,0,none⟩) (Nat.le_refl _) _).setCell (p:=⟨w.heap.size,1,none⟩) (Nat.le_refl _) _⟩
  ·have HC2:Hid (C=(0,0)):=by show _=_;rw [HC.out];simp [hx]
   clear HC
   go_wp2_with fail
   obtain ⟨q0,q1⟩:=two_cells (.int .i64 0) (.int .i64 0) HT2.out
   exact bodyPost_ret (v:=.agg #[.int .i64 0,.int .i64 0]) (by simp [results,Tryz.results12,go_sem,q0,q1]) rfl ⟨by rw [HC2.out];rfl,(HB4.out.setCell (p:=⟨w.heap.size,0,none⟩) (Nat.le_refl _) _).setCell (p:=⟨w.heap.size,1,none⟩) (Nat.le_refl _) _⟩
end Go.Proofs.YthbnjhamfcefkaaGreat.Gr
namespace Go.Proofs.YthbnjhamfcefkaaGreat.Nm
open Go.RowKit Go.Maps Sp Lx Gr
def errAt (k:Nat) (r:Except Nat Rs):Except (Nat × Nat) Rs:=match r with | .error c=>.error (c,k) | .ok t=>.ok t
theorem upto_next {s0 s:Rs} {k:Nat} (h:upto s0 k=.ok s):upto s0 (k+1)=errAt k (askN k s 3):=by
 simp only [upto,h,errAt]
 rfl
theorem askN3 (k:Nat) (s:Rs):askN k s 3=match askD k s with | .error c=>.error c | .ok a=>match askM k a with | .error c=>.error c | .ok b=>askH k b:=by
 have h1:askN k s 1=askD k s:=askN_succ (j:=0) rfl
 cases hD:askD k s with
 | error c=>exact askN_err (h1.trans hD) 2
 | ok a=>
  have h2:askN k s 2=askM k a:=askN_succ (h1.trans hD)
  dsimp only
  cases hM:askM k a with
  | error c=>exact askN_err (h2.trans hM) 1
  | ok b=>exact askN_succ (h2.trans hM)
theorem kinds_D {k:Int} (h:decl k ≠ 0):nmd k=0/\¬ (k=8\/k=9\/k=10):=by
 rcases decl_cases k with ⟨rfl,_⟩ | ⟨rfl,_⟩ | ⟨rfl,_⟩ | ⟨rfl,_⟩ | ⟨rfl,_⟩ | ⟨_,_,_,_,_,e⟩
 all_goals first | exact absurd e h | exact ⟨by decide,by decide⟩
theorem evt_no {x:Rz} (h:¬ (x.kind=8\/x.kind=9\/x.kind=10)):(evt x).1=0:=by
 unfold evt
 rw [if_neg (fun e=>h (by rcases e with e | e<;>simp [e])),if_neg (fun e=>h (by simp [e]))]
theorem evt_yes {x:Rz} (h:x.kind=8\/x.kind=9\/x.kind=10):(evt x).1 ≠ 0:=by
 unfold evt
 split
 ·simp
 ·rename_i h8
  rw [if_pos (by rcases h with e | e | e;exact absurd (Or.inl e) h8;exact absurd (Or.inr e) h8;exact e)]
  simp
theorem nmd_ev {k:Int} (h:k=8\/k=9):nmd k=1:=by rcases h with rfl | rfl<;>rfl
theorem evt_one {x:Rz} (h:(evt x).1=1):x.kind=8\/x.kind=9:=by
 unfold evt at h
 split at h
 ·assumption
 ·split at h
  ·cases h
  ·cases h
theorem askD_no {k:Nat} {s:Rs} (h:decl (rat s.rows k).kind=0):askD k s=.ok s:=by unfold askD;rw [if_pos h]
theorem askM_no {k:Nat} {s:Rs} (h:nmd (rat s.rows k).kind=0):askM k s=.ok s:=by unfold askM;rw [if_pos h]
theorem askH_no {k:Nat} {s:Rs} (h:¬ ((rat s.rows k).kind=8\/(rat s.rows k).kind=9\/(rat s.rows k).kind=10)):askH k s=.ok s:=by unfold askH;rw [if_pos (evt_no h)]
theorem next_D {l:List Rz} {m k:Nat} {s:Rs} (hB:Base l) (hu:upto (start l) k=.ok s) (hg:Good l m s) (hk:k < l.length) (hd:decl (rat s.rows k).kind ≠ 0):upto (start l) (k+1)=errAt k (askD k s):=by
 rw [upto_next hu,askN3]
 cases hA:askD k s with
 | error c=>rfl
 | ok a=>
  have hga:=good_D hB hk hg hA
  have e:(rat a.rows k).kind=(rat s.rows k).kind:=((like_kind hga.like hk).1).trans (like_kind hg.like hk).1.symm
  obtain ⟨n0,ne⟩:=kinds_D hd
  simp only [askM_no (s:=a) (k:=k) (by rw [e];exact n0),askH_no (s:=a) (k:=k) (by rw [e];exact ne)]
theorem next_ME {s0 s:Rs} {k c:Nat} (hu:upto s0 k=.ok s) (hd:decl (rat s.rows k).kind=0) (hM:askM k s=.error c):upto s0 (k+1)=.error (c,k):=by
 rw [upto_next hu,askN3,askD_no hd]
 simp only [hM,errAt]
theorem next_MH {s0 s b:Rs} {k:Nat} (hu:upto s0 k=.ok s) (hd:decl (rat s.rows k).kind=0) (hM:askM k s=.ok b):upto s0 (k+1)=errAt k (askH k b):=by
 rw [upto_next hu,askN3,askD_no hd]
 simp only [hM]
theorem upto_inv {l:List Rz} (hB:Base l) (n:Nat) (hn:n<=l.length) {s:Rs} (h:upto (start l) n=.ok s):Inv2 s:=by
 induction n generalizing s with
 | zero=>
  cases h
  exact inv_start l
 | succ n ih=>
  simp only [upto] at h
  split at h
  ·cases h
  ·rename_i t ht
   have hc:=ih (by omega) ht
   have hg:=upto_good hB n (by omega) ht
   split at h
   ·cases h
   ·rename_i t' h3
    cases h
    cases h1:askN n t 1 with
    | error c=>rw [askN_err h1 2] at h3;cases h3
    | ok t1=>
     cases h2:askN n t 2 with
     | error c=>rw [askN_err h2 1] at h3;cases h3
     | ok t2=>
      have a1:askD n t=.ok t1:=(askN_succ (j:=0) rfl).symm.trans h1
      have a2:askM n t1=.ok t2:=(askN_succ h1).symm.trans h2
      have a3:askH n t2=.ok s:=(askN_succ h2).symm.trans h3
      exact inv_H (inv_M (inv_D hc a1) a2) (num_M2 (by omega) (good_D hB (by omega) hg a1) a2) a3
theorem upto_end {s0:Rs} {n k:Nat} {e:Nat × Nat} (h:upto s0 k=.error e) (hk:k<=n):upto s0 n=.error e:=by
 have:=upto_err h (n - k)
 rw [show k+(n - k)=n by omega] at this
 exact this
theorem Rsl.fb {w wr w6:World} {mb rb base:Nat} (h:Rsl w wr) (hF:Fb [mb,rb] base wr w6) (h1:w.heap.size+1 < mb) (h2:w.heap.size+1 < rb) (h3:w.heap.size+1 < base):Rsl w w6:=
 ⟨(hF.block _ (by omega) (by simp;omega)).trans h.p,(hF.block _ (by omega) (by simp;omega)).trans h.f,h.b.trans (fb_below hF (by omega) (fun k hk=>by simp at hk;rcases hk with rfl | rfl<;>omega))⟩
structure Md7 (w wx:World) (l:List Rz) (nm:ByteArray) (mb eb:Nat):Prop where
 r:Rsl w wx
 p:wx.heap[mb]?=some (.cells #[.string nm,pz,pz,pz,pz,pz,pz,.int .i64 (-1),.slice (some ⟨eb,0,none⟩) l.length l.length,pz,.int .i64 0,.int .i64 0,.int .i64 0,.int .i64 0,.int .i64 0] 56 (0,0))
 e:∀ i,i < l.length->wx.cell? ⟨eb,i,none⟩=some (.int .i64 (endp l i:Nat))
 l1:w.heap.size+1 < mb/\w.heap.size+1 < eb/\eb < wx.heap.size/\eb ≠ mb
theorem rresolve_no {w:World} {ao:Option Addr} {l:List Rz} {cap c1 c2:Nat} (h:IsRz w ao l) (hl:l.length<=2932031007317) (hc:chk l=(c1,c2)) (h0:c1 ≠ 0) (hkd:∀ r ∈ l,r.kids<=9223372036854775807/\r.name.size<=4611686018427387000):
  Calls Tryz.prog 4 #[.slice ao l.length cap] w fun e w'=>e=.returned (.tuple #[.agg #[.string ⟨#[]⟩,pz,pz,pz,pz,pz,pz,.int .i64 0],.agg #[.int .i64 (c1:Int),.int .i64 (c2:Int)]])/\Below w.heap.size w w':=by
 have hb1:Below w.heap.size w ((w.alloc (.cells #[.string ⟨#[]⟩,pz,pz,pz,pz,pz,pz,.int .i64 0] 29)).alloc (.cells #[.int .i64 0,.int .i64 0] 32)):=(bAl w _).alloc (by simp) _
 have HR:Hid (Rsl w ((w.alloc (.cells #[.string ⟨#[]⟩,pz,pz,pz,pz,pz,pz,.int .i64 0] 29)).alloc (.cells #[.int .i64 0,.int .i64 0] 32))):=⟨by rw [alloc_old _ _ _ (by simp)];exact alloc_at _ _ _ rfl,alloc_at _ _ _ (by simp),hb1⟩
 have HC:=hdn <| refCheck_any ao l cap _ (h.below hb1) hl hkd
 rw [hc] at HC
 dsimp only at HC
 have hc0:((c1:Int) != 0)=true:=by simp;omega
 clear hc h0 hkd
 go_enter Tryz.func4,Tryz.ntmps4
 go_wp2_with fail
 refine Calls.mono HC.out ?_
 rintro e w1 ⟨rfl,hB1⟩
 have HR1:=hdn <| (HR.out.below hB1)
 have hR2:=HR1.out.below (bAl w1 (.cells #[.int .i64 (c1:Int),.int .i64 (c2:Int)] 32))
 have HR2:=hdn <| hR2
 obtain ⟨r0,r1,r2,r3,r4,r5,r6,r7⟩:=hR2.cells
 obtain ⟨s0,s1,s2,s3⟩:=hR2.fault
 have z0:=hR2.frozen 0
 have z1:=hR2.frozen 1
 have z2:=hR2.frozen 2
 have z3:=hR2.frozen 3
 have z4:=hR2.frozen 4
 have z5:=hR2.frozen 5
 have z6:=hR2.frozen 6
 have z7:=hR2.frozen 7
 have hnew:=heap_alloc_new w1 (.cells #[.int .i64 (c1:Int),.int .i64 (c2:Int)] 32)
 have t0:(w1.alloc (.cells #[.int .i64 (c1:Int),.int .i64 (c2:Int)] 32)).cell? ⟨w1.heap.size,0,none⟩=some (.int .i64 (c1:Int)):=by rw [World.cell?,hnew];rfl
 have t1:(w1.alloc (.cells #[.int .i64 (c1:Int),.int .i64 (c2:Int)] 32)).cell? ⟨w1.heap.size,1,none⟩=some (.int .i64 (c2:Int)):=by rw [World.cell?,hnew];rfl
 have hlt:=(Array.getElem?_eq_some_iff.1 HR1.out.f).1
 have n1:w.heap.size ≠ w1.heap.size:=by omega
 have n2:w1.heap.size ≠ w.heap.size:=by omega
 have n3:w.heap.size+1 ≠ w1.heap.size:=by omega
 have n4:w1.heap.size ≠ w.heap.size+1:=by omega
 clear hR2 hb1 hB1 HR HC hlt hnew HR1
 go_wp2_with fail
 generalize w1.alloc (.cells #[.int .i64 (c1:Int),.int .i64 (c2:Int)] 32)=w2 at *
 generalize w1.heap.size=fb at *
 go_region
 all_goals
  obtain ⟨x1,x2,x3⟩:=HR2.out.wrote (.string ⟨#[]⟩) pz pz pz pz pz pz (.int .i64 0) (.int .i64 (c1:Int)) (.int .i64 (c2:Int))
  have HX:Hid (Below w.heap.size w _):=x3
  obtain ⟨y0,y1,y2,y3,y4,y5,y6,y7,y8,y9⟩:=wrote_cells x1 x2
  clear x1 x2 x3 r0 r1 r2 r3 r4 r5 r6 r7 s0 s1 s2 s3 z0 z1 z2 z3 z4 z5 z6 z7 t0 t1
  generalize ((((((((((w2.setCell ⟨w.heap.size,0,none⟩ (.string ⟨#[]⟩)).setCell ⟨w.heap.size,1,none⟩ pz).setCell ⟨w.heap.size,2,none⟩ pz).setCell ⟨w.heap.size,3,none⟩ pz).setCell ⟨w.heap.size,4,none⟩ pz).setCell ⟨w.heap.size,5,none⟩ pz).setCell ⟨w.heap.size,6,none⟩ pz).setCell ⟨w.heap.size,7,none⟩ (.int .i64 0)).setCell ⟨w.heap.size+1,0,none⟩ (.int .i64 (c1:Int))).setCell ⟨w.heap.size+1,1,none⟩ (.int .i64 (c2:Int)))=w9 at *
  have u0:w9.drew.cell? ⟨w.heap.size,0,none⟩=some (.string ⟨#[]⟩):=y0
  go_wp2_with fail
  exact bodyPost_ret (v:=.tuple #[.agg #[.string ⟨#[]⟩,pz,pz,pz,pz,pz,pz,.int .i64 0],.agg #[.int .i64 (c1:Int),.int .i64 (c2:Int)]]) (by simp [results,Tryz.results4,go_sem,y0,y1,y2,y3,y4,y5,y6,y7,y8,y9]) rfl ⟨rfl,HX.out.drew⟩
def MkL (W:World) (b base rb rc eb:Nat) (nm:ByteArray) (l0:List Rz) (r:Except Nat Rs) (e:Ending) (w':World):Prop:=Fb [b,rb] base W w'/\match r with
 | .error c=>e=.returned (.int .i64 (c:Int))
 | .ok s'=>e=.returned (.int .i64 0)/\∃ qv vv tv uv ov hv,Mkr w' b base rb rc eb nm l0 s' qv vv tv uv ov hv
theorem refer_any {W:World} {b base rb rc eb m i:Nat} {nm:ByteArray} {l0:List Rz} {s:Rs} {qv vv tv uv ov hv:Value} (h:Mkr W b base rb rc eb nm l0 s qv vv tv uv ov hv) (hg:Good l0 m s) (hnd:Nd s) (hi:i < l0.length) (hl:l0.length<=2932031007317) (hk:nmd (rat s.rows i).kind ≠ 0):
  Calls Tryz.prog 17 #[.pointer (some ⟨b,0,none⟩),.int .i64 (i:Int),.int .i64 (nmd (rat s.rows i).kind:Nat)] W (MkL W b base rb rc eb nm l0 (askM i s)):=by
 have hlen:=like_len hg.like
 have his:i < s.rows.length:=by omega
 obtain ⟨c0,c1,c2,c3,c4,fz⟩:=h.r.cells (some_rat his)
 have fz3:=fz (i * 5+3)
 have b1:=h.cell 1 _ rfl
 obtain ⟨ho,hc,hhv,hth⟩:=h.things
 subst hhv
 have b9:=h.cell 9 _ rfl
 have hkl:s.known.reverse.length<=1000:=by
  rw [List.length_reverse,hg.kl]
  have:=hg.q
  have:=hg.v
  have:=hg.t
  have:=hg.u
  omega
 have HFd:=hdn <| find_any (nm:=(rat s.rows i).name) b9 hth hkl
 have HTh:=hdn <| hth
 have HM:=hdn <| h
 have HNum:=hdn <| fun mm=>h.num his mm
 have HKn:Hid (∀ e ∈ s.known,e.2.1<=4/\e.2.2.1<=64):=fun e he=>by
  obtain ⟨a,b,c⟩:=hg.kn e he
  have:=hg.cnt_le e.2.1
  have:=mst_le e.2.1
  exact ⟨b,by omega⟩
 have HA:Hid (askM i s=if nmd (rat s.rows i).kind=0 then .ok s else match lk s.known (rat s.rows i).name with
  | none=>.error 32
  | some (k,m,p)=>if i < p then .error 32 else if k ≠ nmd (rat s.rows i).kind then .error 33 else .ok { s with rows:=numb s.rows i m }):=rfl
 rw [if_neg hk] at HA
 have HNd:=hdn <| hnd
 have hi':(i:Int) < (l0.length:Int):=by omega
 have hi2:(i:Int)<=2932031007317:=by omega
 have hkl2:(s.known.reverse.length:Int)<=1000:=by omega
 have hnz:nmd (rat s.rows i).kind<=4:=nmd_le _
 have hnz2:(nmd (rat s.rows i).kind:Int)<=4:=by omega
 have hmx:s.rows=s.rows:=rfl
 clear h hg hnd hi hl hk hlen hth fz hkl his hnz hmx
 generalize nmd (rat s.rows i).kind=kd at *
 generalize askM i s=R at *
 go_enter Tryz.func17,Tryz.ntmps17
 go_wp2_with fail
 refine Calls.mono HFd.out ?_
 rintro e w1 ⟨⟨j,hj,hnm,rfl⟩ | ⟨hno,rfl⟩,rfl⟩
 ·have hjm:s.known.reverse[j] ∈ s.known:=List.mem_reverse.1 (List.getElem_mem hj)
  have hlk:lk s.known (rat s.rows i).name=some s.known.reverse[j].2:=lk_nodup HNd.out (by rw [<-hnm];exact hjm)
  obtain ⟨hk4,hm64⟩:=HKn.out _ hjm
  rw [hlk] at HA
  obtain ⟨g,o,rfl,d0,d1,d2,d3⟩:=HTh.out j hj
  have hj2:(j:Int) < (s.known.reverse.length:Int):=by omega
  have hj0:decide ((j:Int) < 0)=false:=decide_eq_false (by omega)
  clear hjm hlk hnm HFd HKn HTh HNd
  generalize s.known.reverse[j]=th at *
  obtain ⟨t1,tk,tm,tp⟩:=th
  dsimp only at *
  have hm64':(tm:Int)<=64:=by omega
  have hk4':(tk:Int)<=4:=by omega
  clear hj hk4 hm64
  generalize s.known.reverse.length=hn at *
  by_cases hp:i < tp
  ·rw [if_pos hp] at HA
   have hp':decide ((i:Int) < (tp:Int))=true:=decide_eq_true (by omega)
   have hp2:(i:Int) < (tp:Int):=by omega
   clear hp
   go_wp2
   go_ret
   rw [HA.out]
   exact ⟨Fb.of_below (Below.refl _ _),rfl⟩
  ·rw [if_neg hp] at HA
   have hp':decide ((i:Int) < (tp:Int))=false:=decide_eq_false (by omega)
   have hp2:decide (i < tp)=false:=decide_eq_false hp
   clear hp
   by_cases hkd:tk=kd
   ·have hkd':((tk:Int) != (kd:Int))=false:=by simp [hkd]
    rw [if_neg (fun e=>e hkd)] at HA
    have HS:=hdn <| HNum.out tm
    have HF:Hid (Fb [b,rb] base w1 (w1.setCell ⟨rb,i * 5+3,none⟩ (.int .i64 (tm:Int)))):=(Fr.set (F:=[b,rb]) w1 (i * 5+3) (.int .i64 (tm:Int)) (by simp)).fbw HM.out.ob.sz
    clear hkd
    go_wp2_with fail
    go_region
    all_goals
     go_wp2
     go_ret
     rw [HA.out]
     exact ⟨HF.out.trans (Fb.of_below ((Below.refl _ _).drew.mono (by have:=HM.out.ob.sz;simpa [World.setCell] using this))),rfl,qv,vv,tv,uv,ov,_,HS.out.below (Below.refl _ _).drew⟩
   ·have hkd':((tk:Int) != (kd:Int))=true:=by simp;omega
    rw [if_pos hkd] at HA
    clear hkd
    go_wp2
    go_ret
    rw [HA.out]
    exact ⟨Fb.of_below (Below.refl _ _),rfl⟩
 ·have hlk:lk s.known (rat s.rows i).name=none:=lk_none (fun x hx=>hno x (List.mem_reverse.2 hx))
  rw [hlk] at HA
  clear hno hlk HFd HKn HTh HNd
  go_wp2
  go_ret
  rw [HA.out]
  exact ⟨Fb.of_below (Below.refl _ _),rfl⟩
theorem fzb {u:World} {B:Nat} {cs:Array Value} {T:TypeId} (h:u.heap[B]?=some (.cells cs T (0,0))) (j:Nat):u.frozen? ⟨B,j,none⟩=false:=by simp [World.frozen?,h]
section
variable {W W':World} {b base rb rc eb:Nat} {nm:ByteArray} {l0:List Rz} {s:Rs} {qv vv tv uv ov hv:Value}
theorem Mkr.miss (h:Mkr W b base rb rc eb nm l0 s qv vv tv uv ov hv) (a:Nat):Mkr (W.setCell ⟨b,7,none⟩ (.int .i64 (a:Int))) b base rb rc eb nm l0 { s with ev:=((5,0),a) :: s.ev } qv vv tv uv ov hv:=by
 obtain ⟨h1,h2,h3,h4,h5⟩:=h.lt
 have ho:=h.ob.set 7 (.int .i64 (a:Int)) (by simp)
 refine ⟨?_,h.r.same (Below.heap_setCell W _ _ rb (fun e=>h3 e)),fun j hj=>?_,h.lt⟩
 ·dsimp only
  rw [onsOf_miss,plc_cons]
  exact ho
 ·rw [World.cell?_of_block (a:=⟨eb,j,none⟩) (Below.heap_setCell W _ _ eb (fun e=>h4 e))]
  exact h.e j hj
theorem Mkr.onq {g oc:Nat} (h:Mkr W b base rb rc eb nm l0 s qv vv tv uv (.slice (some ⟨g,0,none⟩) s.qs.length oc) hv) (k a:Nat):Mkr (W.setCell ⟨g,k,none⟩ (.int .i64 (a:Int))) b base rb rc eb nm l0 { s with ev:=((1,k),a) :: s.ev } qv vv tv uv (.slice (some ⟨g,0,none⟩) s.qs.length oc) hv:=by
 obtain ⟨h1,h2,h3,h4,h5⟩:=h.lt
 have hg:=World.ownsRow.lt (h.ob.own ⟨6,3,1,.slice (some ⟨g,0,none⟩) s.qs.length oc,s.qs.length,iv (onsOf s.ev s.qs.length)⟩ (by simp)).2 g rfl
 have ho:=Ob.store (os1:=[⟨2,69,2,qv,s.qs.length,qF s.qs⟩,⟨3,9,1,vv,s.vs.length,s.vs.map Value.string⟩,⟨4,9,1,tv,s.ts.length,s.ts.map Value.string⟩,⟨5,3,1,uv,s.us.length,nv s.us⟩]) (os2:=[⟨9,80,4,hv,s.known.length,thF s.known.reverse⟩]) (j:=k) (.int .i64 (a:Int)) h.ob
 refine ⟨?_,h.r.same (Below.heap_setCell W _ _ rb (fun e=>by have e2:rb=g:=e;omega)),fun j hj=>?_,h.lt⟩
 ·dsimp only
  rw [onsOf_cons,plc_other,show iv ((onsOf s.ev s.qs.length).set k (a:Int))=(iv (onsOf s.ev s.qs.length)).set k (.int .i64 (a:Int)) from List.map_set ..]
  exact ho
 ·rw [World.cell?_of_block (a:=⟨eb,j,none⟩) (Below.heap_setCell W _ _ eb (fun e=>by have e2:eb=g:=e;omega))]
  exact h.e j hj
end
theorem eventR_any {W:World} {b base rb rc eb m i:Nat} {nm:ByteArray} {l0:List Rz} {s:Rs} {qv vv tv uv ov hv:Value} (h:Mkr W b base rb rc eb nm l0 s qv vv tv uv ov hv) (hg:Good l0 m s) (hi:i < l0.length) (hl:l0.length<=2932031007317) (hev:(evt (rat s.rows i)).1 ≠ 0) (hq:(evt (rat s.rows i)).1=1->0<=(rat s.rows i).n/\(rat s.rows i).n < (s.qs.length:Int)):
  Calls Tryz.prog 19 #[.pointer (some ⟨b,0,none⟩),.int .i64 (i:Int)] W (MkL W b base rb rc eb nm l0 (askH i s)):=by
 have hlen:=like_len hg.like
 have his:i < s.rows.length:=by omega
 obtain ⟨c0,c1,c2,c3,c4,_⟩:=h.r.cells (some_rat his)
 have b1:W.cell? ⟨b,1,none⟩=some (.slice (some ⟨rb,0,none⟩) l0.length rc):=h.cell 1 _ rfl
 have hb1:Below W.heap.size W (W.alloc (.cells #[.int .i64 (rat s.rows i).kind,.string (rat s.rows i).name,.int .i64 (rat s.rows i).stop,.int .i64 (rat s.rows i).n,.int .i64 (rat s.rows i).kids] 51)):=bAl W _
 have h1:=h.below hb1
 obtain ⟨a0,a1,a2,a3,a4⟩:=row_cells W (rat s.rows i)
 have b7:(W.alloc (.cells #[.int .i64 (rat s.rows i).kind,.string (rat s.rows i).name,.int .i64 (rat s.rows i).stop,.int .i64 (rat s.rows i).n,.int .i64 (rat s.rows i).kids] 51)).cell? ⟨b,7,none⟩=some (.int .i64 (plc s.ev (5,0))):=h1.cell 7 _ rfl
 have f7:(W.alloc (.cells #[.int .i64 (rat s.rows i).kind,.string (rat s.rows i).name,.int .i64 (rat s.rows i).stop,.int .i64 (rat s.rows i).n,.int .i64 (rat s.rows i).kids] 51)).frozen? ⟨b,7,none⟩=false:=fzb h1.ob.blk 7
 have HB:Hid (Fb [b,rb] base W (W.alloc (.cells #[.int .i64 (rat s.rows i).kind,.string (rat s.rows i).name,.int .i64 (rat s.rows i).stop,.int .i64 (rat s.rows i).n,.int .i64 (rat s.rows i).kids] 51))):=Fb.of_below (hb1.mono h.ob.sz)
 have HM:=hdn <| h1
 have hi':(i:Int) < (l0.length:Int):=by omega
 have hi2:(i:Int)<=2932031007317:=by omega
 have hAx:askH i s=if (lk s.ev (evn (rat s.rows i))).isSome then .error 31 else .ok { s with ev:=(evn (rat s.rows i),i+1) :: s.ev } := by
  unfold askH
  rw [if_neg hev]
 have HA:=hdn <| hAx
 have hkinds:(rat s.rows i).kind=10/\evn (rat s.rows i)=(5,0)\/(rat s.rows i).kind ≠ 10/\(evt (rat s.rows i)).1=1/\evn (rat s.rows i)=(1,(rat s.rows i).n.toNat):=by
  unfold evn evt at *
  split at hev
  ·rename_i h8
   rw [if_pos h8]
   exact Or.inr ⟨by rcases h8 with e | e<;>omega,rfl,rfl⟩
  ·rename_i h8
   split at hev
   ·rename_i h10
    rw [if_neg h8,if_pos h10]
    exact Or.inl ⟨h10,rfl⟩
   ·exact absurd rfl hev
 clear hAx hev hlen his hi hl hb1 h1
 generalize askH i s=R at *
 rcases hkinds with ⟨hk,hen⟩ | ⟨hk,he1,hen⟩
 ·have hk':((rat s.rows i).kind == 10)=true:=beq_iff_eq.2 hk
  rw [hen] at HA
  clear hk hen hq
  generalize rat s.rows i=x at *
  obtain ⟨kd,nm1,st,n,ks⟩:=x
  dsimp only at *
  by_cases hp:0<=plc s.ev (5,0)
  ·have hp':decide (0<=plc s.ev (5,0))=true:=decide_eq_true hp
   rw [if_pos (plc_some.2 hp)] at HA
   clear h hg hp
   generalize plc s.ev (5,0)=z at *
   go_enter Tryz.func19,Tryz.ntmps19
   go_wp2
   go_ret
   rw [HA.out]
   exact ⟨HB.out,rfl⟩
  ·have hp':decide (0<=plc s.ev (5,0))=false:=decide_eq_false hp
   rw [if_neg (fun e=>hp (plc_some.1 e))] at HA
   have HS:Hid (Mkr ((W.alloc (.cells #[.int .i64 kd,.string nm1,.int .i64 st,.int .i64 n,.int .i64 ks] 51)).setCell ⟨b,7,none⟩ (.int .i64 ((i:Int)+1))) b base rb rc eb nm l0 { s with ev:=((5,0),i+1) :: s.ev } qv vv tv uv ov hv):=HM.out.miss (i+1)
   have HF:Hid (Fb [b,rb] base W ((W.alloc (.cells #[.int .i64 kd,.string nm1,.int .i64 st,.int .i64 n,.int .i64 ks] 51)).setCell ⟨b,7,none⟩ (.int .i64 ((i:Int)+1)))):=HB.out.trans ((Fr.set (F:=[b,rb]) _ 7 (.int .i64 ((i:Int)+1)) (by simp)).fbw HM.out.ob.sz)
   clear h hg hp
   generalize plc s.ev (5,0)=z at *
   go_enter Tryz.func19,Tryz.ntmps19
   go_wp2
   go_ret
   rw [HA.out]
   exact ⟨HF.out,rfl,qv,vv,tv,uv,ov,hv,HS.out⟩
 ·have hk':((rat s.rows i).kind == 10)=false:=beq_eq_false_iff_ne.2 hk
  obtain ⟨hn0,hn1⟩:=hq he1
  rw [hen] at HA
  have hown:World.ownsRow _ base 3 1 ov s.qs.length (iv (onsOf s.ev s.qs.length)):=(HM.out.ob.own ⟨6,3,1,ov,s.qs.length,iv (onsOf s.ev s.qs.length)⟩ (by simp)).2
  obtain ⟨oo,oc,rfl⟩:=own_form hown
  have b6:(W.alloc (.cells #[.int .i64 (rat s.rows i).kind,.string (rat s.rows i).name,.int .i64 (rat s.rows i).stop,.int .i64 (rat s.rows i).n,.int .i64 (rat s.rows i).kids] 51)).cell? ⟨b,6,none⟩=some (.slice oo s.qs.length oc):=HM.out.cell 6 _ rfl
  have hql:=hg.q
  clear hk hen hq he1 h hg b7 f7
  generalize rat s.rows i=x at *
  obtain ⟨kd,nm1,st,n,ks⟩:=x
  dsimp only at *
  obtain ⟨k,rfl⟩:=Int.eq_ofNat_of_zero_le hn0
  have hkq:k < s.qs.length:=by omega
  have hn2:(k:Int) < (s.qs.length:Int):=by omega
  have hk16:(k:Int)<=16:=by omega
  have hxo:(iv (onsOf s.ev s.qs.length))[k]?=some (.int .i64 (plc s.ev (1,k))):=by simp [iv,onsOf,List.getElem?_range hkq]
  obtain ⟨g,o,hoo,hgl,d0⟩:=vals_of hown k _ hxo
  have hgo:o=0:=by
   rcases hown.2 with ⟨e,_⟩ | ⟨g',cap',cur,e,_⟩
   ·rw [hoo] at e;cases e
   ·rw [hoo] at e;cases e;rfl
  subst hgo
  subst hoo
  rw [Nat.zero_add] at d0
  have hfz:(W.alloc (.cells #[.int .i64 kd,.string nm1,.int .i64 st,.int .i64 (k:Int),.int .i64 ks] 51)).frozen? ⟨g,k,none⟩=false:=by
   rcases hown.2 with ⟨e,_⟩ | ⟨g',cap',cur,e,_,h4,_⟩
   ·cases e
   ·cases e;exact fzb h4 k
  have hkn:((k:Nat):Int).toNat=k:=by simp
  rw [hkn] at HA
  clear hn0 hn1 hown hxo hkn hgl hql
  by_cases hp:0<=plc s.ev (1,k)
  ·have hp':decide (0<=plc s.ev (1,k))=true:=decide_eq_true hp
   rw [if_pos (plc_some.2 hp)] at HA
   clear hp hkq
   generalize plc s.ev (1,k)=z at *
   go_enter Tryz.func19,Tryz.ntmps19
   go_wp2_with fail
   go_quiet (fail)
   go_wp2
   go_ret
   rw [HA.out]
   exact ⟨HB.out.trans (Fb.of_below ((below_drewN _ _).mono HM.out.ob.sz)),rfl⟩
  ·have hp':decide (0<=plc s.ev (1,k))=false:=decide_eq_false hp
   rw [if_neg (fun e=>hp (plc_some.1 e))] at HA
   have HS:Hid (∀ j,Mkr (((W.alloc (.cells #[.int .i64 kd,.string nm1,.int .i64 st,.int .i64 (k:Int),.int .i64 ks] 51)).drewN j).setCell ⟨g,k,none⟩ (.int .i64 ((i:Int)+1))) b base rb rc eb nm l0 { s with ev:=((1,k),i+1) :: s.ev } qv vv tv uv (.slice (some ⟨g,0,none⟩) s.qs.length oc) hv):=fun j=>(HM.out.below (below_drewN _ j)).onq k (i+1)
   have hgb:=(World.ownsRow.lt (HM.out.ob.own ⟨6,3,1,.slice (some ⟨g,0,none⟩) s.qs.length oc,s.qs.length,iv (onsOf s.ev s.qs.length)⟩ (by simp)).2 g rfl).1
   have HF:Hid (∀ j,Fb [b,rb] base W (((W.alloc (.cells #[.int .i64 kd,.string nm1,.int .i64 st,.int .i64 (k:Int),.int .i64 ks] 51)).drewN j).setCell ⟨g,k,none⟩ (.int .i64 ((i:Int)+1)))):=fun j=>(HB.out.trans (Fb.of_below ((below_drewN _ j).mono HM.out.ob.sz))).trans (Fb.set _ _ _ hgb)
   clear hp hkq hgb
   generalize plc s.ev (1,k)=z at *
   go_enter Tryz.func19,Tryz.ntmps19
   go_wp2_with fail
   go_quiet (fail)
   go_wp2_with fail
   go_region
   all_goals
    go_wp2
    go_ret
    rw [HA.out]
    exact ⟨HF.out (nq+1),rfl,qv,vv,tv,uv,_,hv,HS.out (nq+1)⟩
end Go.Proofs.YthbnjhamfcefkaaGreat.Nm
