import Derived.Test.YtfgpbdieaflclaaGreatK19
set_option maxHeartbeats 12800000
set_option maxRecDepth 100000
namespace Go.Proofs.YtfgpbdieaflclaaGreat.Nm
open Go.RowKit Go.Maps Sp Lx Gr
def evR (l:List Rz) (rd:List Int) (us:List Nat) (q:Nat):Except (Nat × Nat) Co:=match evN l rd (rsAll l rd us) q l.length with
 | .error a=>.error (61,a)
 | .ok c=>.ok c
def CTold (w:World) (r:Except (Nat × Nat) Co) (e:Ending) (w':World):Prop:=Below w.heap.size w w'/\match r with
 | .error ci=>e=.returned (.tuple #[.agg #[.slice none 0 0,.int .i64 0],.agg #[.int .i64 (ci.1:Int),.int .i64 (ci.2:Int)]])
 | .ok c=>∃ ob,e=.returned (.tuple #[.agg #[.slice (some ⟨ob,0,none⟩) c.on.length c.on.length,.int .i64 (c.miss:Int)],.agg #[.int .i64 0,.int .i64 0]])/\w.heap.size<=ob/\RowN w' ob c.on
structure EvW (w wr:World) (B q:Nat) (c:Co):Prop where
 b0:wr.heap[B]?=some (.cells #[.slice none 0 0,.int .i64 0] 36 (0,0))
 b1:wr.heap[B+1]?=some (.cells #[.int .i64 0,.int .i64 0] 31 (0,0))
 on:RowN wr (B+1+1) c.on
 bx:wr.heap[B+1+1+1]?=some (.cells #[.slice (some ⟨B+1+1,0,none⟩) q q,.int .i64 (c.miss:Int)] 36 (0,0))
 be:Below B w wr
theorem EvW.below {w wr w':World} {B q:Nat} {c:Co} (h:EvW w wr B q c) (hb:Below wr.heap.size wr w') (hB:B<=wr.heap.size):EvW w w' B q c:=
 ⟨(hb.block _ (blk_in h.b0)).trans h.b0,(hb.block _ (blk_in h.b1)).trans h.b1,h.on.below hb h.on.lt,(hb.block _ (blk_in h.bx)).trans h.bx,h.be.trans (hb.mono hB)⟩
theorem EvW.setMiss {w wr:World} {B q:Nat} {c:Co} (h:EvW w wr B q c) (n:Nat):EvW w (wr.setCell ⟨B+1+1+1,1,none⟩ (.int .i64 (n:Int))) B q ⟨c.on,n⟩:=
 ⟨(Below.heap_setCell wr _ _ B (by show B ≠ B+1+1+1;omega)).trans h.b0,(Below.heap_setCell wr _ _ (B+1) (by show B+1 ≠ B+1+1+1;omega)).trans h.b1,(Below.heap_setCell wr _ _ (B+1+1) (by show B+1+1 ≠ B+1+1+1;omega)).trans h.on,by rw [heap_setCell_same wr (B+1+1+1) 1 _ _ _ h.bx];rfl,h.be.setCell (p:=⟨B+1+1+1,1,none⟩) (by show B<=B+1+1+1;omega) _⟩
theorem EvW.setOn {w wr:World} {B q:Nat} {c:Co} (h:EvW w wr B q c) (k n:Nat):EvW w (wr.setCell ⟨B+1+1,k,none⟩ (.int .i64 (n:Int))) B q ⟨c.on.set k n,c.miss⟩:=
 ⟨(Below.heap_setCell wr _ _ B (by show B ≠ B+1+1;omega)).trans h.b0,(Below.heap_setCell wr _ _ (B+1) (by show B+1 ≠ B+1+1;omega)).trans h.b1,h.on.set k n,(Below.heap_setCell wr _ _ (B+1+1+1) (by show B+1+1+1 ≠ B+1+1;omega)).trans h.bx,h.be.setCell (p:=⟨B+1+1,k,none⟩) (by show B<=B+1+1;omega) _⟩
theorem read2 {wq:World} {B:Nat} {v0 v1:Value} {T:TypeId} (h:wq.heap[B]?=some (.cells #[v0,v1] T (0,0))):wq.cell? ⟨B,0,none⟩=some v0/\wq.cell? ⟨B,1,none⟩=some v1/\∀ j,wq.frozen? ⟨B,j,none⟩=false:=by
 refine ⟨?_,?_,fun j=>?_⟩
 ·simp only [World.cell?,h]
  rfl
 ·simp only [World.cell?,h]
  rfl
 ·simp [World.frozen?,h]
theorem wrote4 {w u:World} {n B:Nat} {a0 a1 c0 c1:Value} {T0 T1:TypeId} (h0:u.heap[B]?=some (.cells #[a0,a1] T0 (0,0))) (h1:u.heap[B+1]?=some (.cells #[c0,c1] T1 (0,0))) (hn:n<=B) (hb:Below n w u) (v0 v1 v2 v3:Value):
  ((((u.setCell ⟨B,0,none⟩ v0).setCell ⟨B,1,none⟩ v1).setCell ⟨B+1,0,none⟩ v2).setCell ⟨B+1,1,none⟩ v3).heap[B]?=some (.cells #[v0,v1] T0 (0,0)) /\
  ((((u.setCell ⟨B,0,none⟩ v0).setCell ⟨B,1,none⟩ v1).setCell ⟨B+1,0,none⟩ v2).setCell ⟨B+1,1,none⟩ v3).heap[B+1]?=some (.cells #[v2,v3] T1 (0,0)) /\
  Below n w ((((u.setCell ⟨B,0,none⟩ v0).setCell ⟨B,1,none⟩ v1).setCell ⟨B+1,0,none⟩ v2).setCell ⟨B+1,1,none⟩ v3) /\
  ∀ k,k ≠ B->k ≠ B+1->((((u.setCell ⟨B,0,none⟩ v0).setCell ⟨B,1,none⟩ v1).setCell ⟨B+1,0,none⟩ v2).setCell ⟨B+1,1,none⟩ v3).heap[k]?=u.heap[k]?:=by
 have e1:(u.setCell ⟨B,0,none⟩ v0).heap[B]?=some (.cells #[v0,a1] T0 (0,0)):=by rw [heap_setCell_same u B 0 _ _ _ h0];rfl
 have e2:((u.setCell ⟨B,0,none⟩ v0).setCell ⟨B,1,none⟩ v1).heap[B]?=some (.cells #[v0,v1] T0 (0,0)):=by rw [heap_setCell_same _ B 1 _ _ _ e1];rfl
 have e3:((u.setCell ⟨B,0,none⟩ v0).setCell ⟨B,1,none⟩ v1).heap[B+1]?=some (.cells #[c0,c1] T1 (0,0)):=(Below.heap_setCell _ _ _ _ (by show B+1 ≠ B;omega)).trans ((Below.heap_setCell _ _ _ _ (by show B+1 ≠ B;omega)).trans h1)
 have e4:∀ k,k ≠ B->((u.setCell ⟨B,0,none⟩ v0).setCell ⟨B,1,none⟩ v1).heap[k]?=u.heap[k]?:=fun k hk=>(Below.heap_setCell _ _ _ _ hk).trans (Below.heap_setCell _ _ _ _ hk)
 have e5:Below n w ((u.setCell ⟨B,0,none⟩ v0).setCell ⟨B,1,none⟩ v1):=(hb.setCell (p:=⟨B,0,none⟩) hn _).setCell (p:=⟨B,1,none⟩) hn _
 generalize (u.setCell ⟨B,0,none⟩ v0).setCell ⟨B,1,none⟩ v1=u2 at *
 have f1:(u2.setCell ⟨B+1,0,none⟩ v2).heap[B+1]?=some (.cells #[v2,c1] T1 (0,0)):=by rw [heap_setCell_same u2 (B+1) 0 _ _ _ e3];rfl
 have f2:((u2.setCell ⟨B+1,0,none⟩ v2).setCell ⟨B+1,1,none⟩ v3).heap[B+1]?=some (.cells #[v2,v3] T1 (0,0)):=by rw [heap_setCell_same _ (B+1) 1 _ _ _ f1];rfl
 have f4:∀ k,k ≠ B+1->((u2.setCell ⟨B+1,0,none⟩ v2).setCell ⟨B+1,1,none⟩ v3).heap[k]?=u2.heap[k]?:=fun k hk=>(Below.heap_setCell _ _ _ _ hk).trans (Below.heap_setCell _ _ _ _ hk)
 exact ⟨(f4 B (by omega)).trans e2,f2,(e5.setCell (p:=⟨B+1,0,none⟩) (Nat.le_succ_of_le hn) _).setCell (p:=⟨B+1,1,none⟩) (Nat.le_succ_of_le hn) _,fun k h2 h3=>(f4 k h3).trans (e4 k h2)⟩
theorem evw_start (w:World) (q:Nat):EvW w ((((w.alloc (.cells #[.slice none 0 0,.int .i64 0] 36)).alloc (.cells #[.int .i64 0,.int .i64 0] 31)).alloc (.cells (Array.replicate q (.int .i64 0)) 3)).alloc (.cells #[.slice (some ⟨w.heap.size+1+1,0,none⟩) q q,.int .i64 0] 36)) w.heap.size q ⟨List.replicate q 0,0⟩:=by
 refine ⟨?_,?_,?_,?_,?_⟩
 ·rw [alloc_old _ _ _ (by simp;omega),alloc_old _ _ _ (by simp;omega),alloc_old _ _ _ (by simp)]
  exact alloc_at _ _ _ rfl
 ·rw [alloc_old _ _ _ (by simp),alloc_old _ _ _ (by simp)]
  exact alloc_at _ _ _ (by simp)
 ·unfold RowN
  rw [zeros_eq,alloc_old _ _ _ (by simp)]
  exact alloc_at _ _ _ (by simp)
 ·exact alloc_at _ _ _ (by simp)
 ·exact (((bAl w _).alloc (by simp) _).alloc (by simp;omega) _).alloc (by simp;omega) _
theorem events_any {w:World} {b:Nat} {ao uo eo:Option Addr} {ac uc ec q:Nat} {l:List Rz} {us:List Nat} {rd:List Int} (hS:Pc l us rd) (h:Rg w b ao uo eo ac uc ec l us rd) (hq:q<=16)
  (hev:∀ i,i < l.length->(rat l i).kind=8\/(rat l i).kind=9->∃ n:Nat,(rat l i).n=(n:Int)/\n < q):
  Calls Tryz.prog 27 #[.pointer (some ⟨b,0,none⟩),.int .i64 (q:Int)] w (CTold w (evR l rd us q)):=by
 have hmk:=mk_nats q (by omega)
 have hq2:(q:Int)<=16:=by omega
 have HS0:=hdn <| evw_start w q
 have HR:=hdn <| h
 have HSt:=hdn <| hS
 have HEv:=hdn <| hev
 have hl2:(l.length:Int)<=65536:=by have:=hS.len;omega
 obtain ⟨b0,_,_⟩:=read3 ((HS0.out.be.block _ (blk_in h.box)).trans h.box)
 have HBd:Hid (∀ i,i < l.length->∀ W,Rg W b ao uo eo ac uc ec l us rd->Calls Tryz.prog 39 #[.pointer (some ⟨b,0,none⟩),.int .i64 (i:Int)] W fun e w'=>e=.returned (.tuple #[.int .i64 (bnd l rd (rsAll l rd us) i:Nat),.int .i64 (endp l i:Nat)])/\Below W.heap.size W w'):=fun i hi W hW=>bound_any hS hi hW
 have HE:Hid (evR l rd us q=match evN l rd (rsAll l rd us) q l.length with
 | .error a=>.error (61,a)
 | .ok c=>.ok c):=rfl
 generalize evR l rd us q=res at *
 generalize rsAll l rd us=rs at *
 clear h hS hev hq
 go_enter Tryz.func27,Tryz.ntmps27
 go_wp2_with fail
 clear hmk b0
 have HB:Hid (∀ wr c,EvW w wr w.heap.size q c->Below w.heap.size w wr/\w.heap.size<=wr.heap.size):=fun wr c h=>⟨h.be,h.be.size⟩
 generalize ((((w.alloc (.cells #[.slice none 0 0,.int .i64 0] 36)).alloc (.cells #[.int .i64 0,.int .i64 0] 31)).alloc (.cells (Array.replicate q (.int .i64 0)) 3)).alloc (.cells #[.slice (some ⟨w.heap.size+1+1,0,none⟩) q q,.int .i64 0] 36))=w1 at *
 go_loopg [19] l.length (fun gq y wr=>∃ (k:Nat) (c:Co),k+gq=l.length/\y=.int .i64 (k:Int)/\evN l rd rs q k=.ok c/\EvW w wr w.heap.size q c)
 case atStart=>exact ⟨0,_,by omega,rfl,rfl,HS0.out⟩
 case round=>
  obtain ⟨k,c,hkg,rfl,hev,hw⟩:=hrel
  have HG:Hid (k+gk=l.length/\evN l rd rs q k=.ok c/\EvW w wr w.heap.size q c):=⟨hkg,hev,hw⟩
  by_cases hlt:k < l.length
  ·have hk':(k:Int) < (l.length:Int):=by omega
   have hk2:(k:Int)<=65536:=by omega
   have hRg:=Rg.below HR.out hw.be
   obtain ⟨g,o,rfl,hg,c0,c1,c2,c3,c4⟩:=hRg.r k _ (some_rat hlt)
   have HLt:Hid (k < l.length):=hlt
   have HNx:Hid (evN l rd rs q (k+1)=evSt l rd rs k c):=by
    show evNx l rd rs k (evN l rd rs q k)=_
    rw [hev]
    rfl
   have HSx:Hid (evSt l rd rs k c=if (rat l k).kind=8\/(rat l k).kind=9\/(rat l k).kind=10 then
  if 72057594037927936 < bnd l rd rs (k+1) then .error k
  else if (rat l k).kind=10 then .ok ⟨c.on,bnd l rd rs (k+1)⟩
  else .ok ⟨c.on.set (rat l k).n.toNat (bnd l rd rs (k+1)),c.miss⟩
 else .ok c):=rfl
   have HKd:Hid ((rat l k).kind=8\/(rat l k).kind=9\/(rat l k).kind=10->k+1 < l.length):=fun e=>by
    have h1:=HSt.out.ev k hlt e
    have h2:=(kidIn HSt.out.tree.whole hlt (k:=0) (by omega)).2.1
    rwa [kid_zero] at h2
   have HEk:=hdn <| HEv.out k hlt
   generalize rat l k=x at *
   obtain ⟨kd,nm,st,n,kk⟩:=x
   dsimp only at *
   have hbx:Below wr.heap.size wr (wr.alloc (.cells #[.int .i64 kd,.string nm,.int .i64 st,.int .i64 n,.int .i64 kk] 47)):=bAl wr _
   have HW2:Hid (EvW w (wr.alloc (.cells #[.int .i64 kd,.string nm,.int .i64 st,.int .i64 n,.int .i64 kk] 47)) w.heap.size q c):=hw.below hbx (HB.out wr c hw).2
   have hnew:=heap_alloc_new wr (.cells #[.int .i64 kd,.string nm,.int .i64 st,.int .i64 n,.int .i64 kk] 47)
   have HNw:Hid ((wr.alloc (.cells #[.int .i64 kd,.string nm,.int .i64 st,.int .i64 n,.int .i64 kk] 47)).heap[wr.heap.size]?=some (.cells #[.int .i64 kd,.string nm,.int .i64 st,.int .i64 n,.int .i64 kk] 47 (0,0))):=hnew
   have HRx:Hid (Rg (wr.alloc (.cells #[.int .i64 kd,.string nm,.int .i64 st,.int .i64 n,.int .i64 kk] 47)) b (some ⟨g,o,none⟩) uo eo ac uc ec l us rd):=hRg.below hbx
   obtain ⟨x0,x3⟩:=row5 hnew
   by_cases hE:kd=8\/kd=9\/kd=10
   ·have HC:=hdn <| HBd.out (k+1) (HKd.out hE) _ HRx.out
    have HS2:Hid (evN l rd rs q (k+1)=if 72057594037927936 < bnd l rd rs (k+1) then .error k
  else if kd=10 then .ok ⟨c.on,bnd l rd rs (k+1)⟩
  else .ok ⟨c.on.set n.toNat (bnd l rd rs (k+1)),c.miss⟩):=by
     show _=_
     rw [HNx.out,HSx.out,if_pos hE]
    have hbl:=bnd_le l rd rs (k+1)
    generalize bnd l rd rs (k+1)=bk at *
    generalize endp l (k+1)=ek at *
    have hwr:IntKind.i64.wrap ((k:Int)+1)=((k+1:Nat):Int):=by rw [IntKind.wrap_i64];omega
    have hbl2:(bk:Int)<=4611686018427387904:=by omega
    clear hkg hlt hbl hev hw hRg hbx hnew HSx HKd HNx
    by_cases hov:72057594037927936 < bk
    ·have HOv:Hid (evN l rd rs q (k+1)=.error k):=by
      show _=_
      rw [HS2.out,if_pos hov]
     have hov1:decide ((72057594037927936:Int) < (bk:Int))=true:=decide_eq_true (by omega)
     have hov2:(72057594037927936:Int) < (bk:Int):=by omega
     have HFin:Hid (res=.error (61,k)):=by
      show _=_
      have e1:=evN_err HOv.out (l.length - (k+1))
      rw [show k+1+(l.length - (k+1))=l.length by have:=HLt.out;omega] at e1
      rw [HE.out,e1]
     clear hov HOv HS2 HEk
     rcases hE with rfl | rfl | rfl
     all_goals
      go_wp2_with fail
      generalize wr.alloc (.cells #[.int .i64 _,.string nm,.int .i64 st,.int .i64 n,.int .i64 kk] 47)=W2 at *
      refine Calls.mono HC.out ?_
      rintro e w3 ⟨rfl,hb3⟩
      have h3:=HW2.out.below hb3 (HB.out W2 c HW2.out).2
      obtain ⟨r0,r1,r2⟩:=read2 h3.b0
      obtain ⟨s0,s1,s2⟩:=read2 h3.b1
      have z0:=r2 0
      have z1:=r2 1
      have z2:=s2 0
      have z3:=s2 1
      obtain ⟨p1,p2,p3,_⟩:=wrote4 h3.b0 h3.b1 (Nat.le_refl _) h3.be (.slice none 0 0) (.int .i64 0) (.int .i64 61) (.int .i64 (k:Int))
      have HP:Hid (_/\_/\Below w.heap.size w _):=⟨p1,p2,p3⟩
      clear hb3 h3 r2 s2 p1 p2 p3 HC x0 x3 c0 c1 c2 c3 c4
      go_wp2_with fail
      clear r0 r1 s0 s1 z0 z1 z2 z3
      obtain ⟨y0,y1,_⟩:=read2 HP.out.1
      obtain ⟨y2,y3,_⟩:=read2 HP.out.2.1
      have HX:Hid (Below w.heap.size w _):=HP.out.2.2
      clear HP
      generalize ((((w3.setCell ⟨w.heap.size,0,none⟩ (.slice none 0 0)).setCell ⟨w.heap.size,1,none⟩ (.int .i64 0)).setCell ⟨w.heap.size+1,0,none⟩ (.int .i64 61)).setCell ⟨w.heap.size+1,1,none⟩ (.int .i64 (k:Int)))=w4 at *
      exact bodyPost_ret (v:=.tuple #[.agg #[.slice none 0 0,.int .i64 0],.agg #[.int .i64 61,.int .i64 (k:Int)]]) (by simp [results,Tryz.results27,go_sem,y0,y1,y2,y3]) rfl (by rw [HFin.out];exact ⟨HX.out,rfl⟩)
    ·have hov1:decide ((72057594037927936:Int) < (bk:Int))=false:=decide_eq_false (by omega)
     have hov3:decide (72057594037927936 < bk)=false:=decide_eq_false hov
     by_cases h10:kd=10
     ·subst h10
      have HS3:Hid (evN l rd rs q (k+1)=.ok ⟨c.on,bk⟩):=by
       show _=_
       rw [HS2.out,if_neg hov,if_pos rfl]
      clear hov HS2 HEk hE
      go_wp2_with fail
      generalize wr.alloc (.cells #[.int .i64 _,.string nm,.int .i64 st,.int .i64 n,.int .i64 kk] 47)=W2 at *
      refine Calls.mono HC.out ?_
      rintro e w3 ⟨rfl,hb3⟩
      have h3:=HW2.out.below hb3 (HB.out W2 c HW2.out).2
      obtain ⟨r0,r1,r2⟩:=read2 h3.bx
      obtain ⟨x0',_⟩:=row5 ((hb3.block _ (blk_in HNw.out)).trans HNw.out)
      have z1:=r2 1
      have HP:=hdn <| h3.setMiss bk
      clear hb3 h3 r2 HC x0 x3 c0 c1 c2 c3 c4
      go_wp2_with fail
      go_roundg (l.length - (k+1))
      case measure=>have:=HG.out.1;have:=HLt.out;omega
      case rel=>exact ⟨k+1,_,by have:=HLt.out;omega,by go_num,HS3.out,HP.out⟩
     ·have hE2:kd=8\/kd=9:=by
       rcases hE with h | h | h
       ·exact Or.inl h
       ·exact Or.inr h
       ·exact absurd h h10
      obtain ⟨m,hm,hmq⟩:=HEk.out hE2
      subst hm
      have HS3:Hid (evN l rd rs q (k+1)=.ok ⟨c.on.set m bk,c.miss⟩):=by
       show _=_
       rw [HS2.out,if_neg hov,if_neg h10]
       rfl
      have hmq2:(m:Int) < (q:Int):=by omega
      have HMq:Hid (m < c.on.length):=by
       show _ < _
       rw [evN_len HG.out.2.1]
       exact hmq
      clear hov HS2 HEk hE hmq h10
      rcases hE2 with rfl | rfl
      all_goals
       go_wp2_with fail
       generalize wr.alloc (.cells #[.int .i64 _,.string nm,.int .i64 st,.int .i64 (m:Int),.int .i64 kk] 47)=W2 at *
       refine Calls.mono HC.out ?_
       rintro e w3 ⟨rfl,hb3⟩
       have h3:=HW2.out.below hb3 (HB.out W2 c HW2.out).2
       obtain ⟨r0,r1,r2⟩:=read2 h3.bx
       obtain ⟨x0',x3'⟩:=row5 ((hb3.block _ (blk_in HNw.out)).trans HNw.out)
       have z1:=h3.on.frozen m
       have ce:=h3.on.cell HMq.out
       have HP:=hdn <| h3.setOn m bk
       generalize c.on[m]'HMq.out=old at ce
       clear hb3 h3 r2 HC x0 x3 c0 c1 c2 c3 c4
       go_wp2_with fail
       go_roundg (l.length - (k+1))
       case measure=>have:=HG.out.1;have:=HLt.out;omega
       case rel=>exact ⟨k+1,_,by have:=HLt.out;omega,by go_num,HS3.out,HP.out⟩
   ·have HS3:Hid (evN l rd rs q (k+1)=.ok c):=by
     show _=_
     rw [HNx.out,HSx.out,if_neg hE]
    have q8:(kd != 8)=true:=by simp;omega
    have q9:(kd != 9)=true:=by simp;omega
    have q10:(kd != 10)=true:=by simp;omega
    clear hkg hlt hev hw hRg hbx hnew HSx HKd HNx HEk hE
    go_wp2_with fail
    go_roundg (l.length - (k+1))
    case measure=>have:=HG.out.1;have:=HLt.out;omega
    case rel=>exact ⟨k+1,_,by have:=HLt.out;omega,by go_num,HS3.out,HW2.out⟩
  ·have hk':decide (k < l.length)=false:=decide_eq_false hlt
   have hk3:decide ((k:Int) < (l.length:Int))=false:=decide_eq_false (by omega)
   have hke:k=l.length:=by omega
   have HFin:Hid (res=.ok c/\c.on.length=q):=by
    refine ⟨?_,evN_len hev⟩
    rw [HE.out,<-hke,hev]
   obtain ⟨r0,r1,r2⟩:=read2 hw.b0
   obtain ⟨s0,s1,s2⟩:=read2 hw.b1
   obtain ⟨t0,t1,_⟩:=read2 hw.bx
   have z0:=r2 0
   have z1:=r2 1
   have z2:=s2 0
   have z3:=s2 1
   obtain ⟨p1,p2,p3,p4⟩:=wrote4 hw.b0 hw.b1 (Nat.le_refl _) hw.be (.slice (some ⟨w.heap.size+1+1,0,none⟩) q q) (.int .i64 (c.miss:Int)) (.int .i64 0) (.int .i64 0)
   have HP:Hid (_/\_/\Below w.heap.size w _/\RowN _ (w.heap.size+1+1) c.on):=⟨p1,p2,p3,(p4 _ (by omega) (by omega)).trans hw.on⟩
   clear hkg hlt hev hw hke r2 s2 p1 p2 p3 p4
   go_wp2_with fail
   clear r0 r1 s0 s1 t0 t1 z0 z1 z2 z3
   obtain ⟨y0,y1,_⟩:=read2 HP.out.1
   obtain ⟨y2,y3,_⟩:=read2 HP.out.2.1
   have HX:Hid (Below w.heap.size w _/\RowN _ (w.heap.size+1+1) c.on):=HP.out.2.2
   clear HP
   generalize ((((wr.setCell ⟨w.heap.size,0,none⟩ (.slice (some ⟨w.heap.size+1+1,0,none⟩) q q)).setCell ⟨w.heap.size,1,none⟩ (.int .i64 (c.miss:Int))).setCell ⟨w.heap.size+1,0,none⟩ (.int .i64 0)).setCell ⟨w.heap.size+1,1,none⟩ (.int .i64 0))=w4 at *
   refine bodyPost_ret (v:=.tuple #[.agg #[.slice (some ⟨w.heap.size+1+1,0,none⟩) q q,.int .i64 (c.miss:Int)],.agg #[.int .i64 0,.int .i64 0]]) (by simp [results,Tryz.results27,go_sem,y0,y1,y2,y3]) rfl ?_
   rw [HFin.out.1]
   exact ⟨HX.out.1,_,by rw [HFin.out.2],by omega,HX.out.2⟩
def badN (n:Int):Bool:=decide (n < 0) || decide (4194304 < n)
theorem enters_bad (args:Array Value) (w:World):(callFunc 26 args).run Tryz.prog w=.ok (.enter 26 args) w:=enters_of Tryz.func26 (by kernel_rfl) rfl args w
theorem bad_any (n:Int) (w:World):Calls Tryz.prog 26 #[.int .i64 n] w fun e w'=>e=.returned (.bool (badN n))/\w'=w:=by
 have HB:Hid (badN n=(decide (n < 0) || decide (4194304 < n))):=rfl
 generalize badN n=z at *
 by_cases h0:n < 0
 ·have h1:decide (n < 0)=true:=decide_eq_true h0
  go_enter Tryz.func26,Tryz.ntmps26
  go_wp2
  go_ret
  exact ⟨by rw [HB.out];simp [h0],rfl⟩
 ·have h1:decide (n < 0)=false:=decide_eq_false h0
  go_enter Tryz.func26,Tryz.ntmps26
  go_wp2
  go_ret
  exact ⟨by rw [HB.out,h1];rfl,rfl⟩
theorem any_take {l:List Int} {k:Nat} (h:k < l.length):(l.take (k+1)).any badN=((l.take k).any badN || badN l[k]):=by
 rw [take_step (List.getElem?_eq_getElem h),List.any_append]
 simp
theorem any_of {l:List Int} {k:Nat} (h:k < l.length) (hb:badN l[k]=true):l.any badN=true:=List.any_eq_true.2 ⟨_,List.getElem_mem h,hb⟩
theorem index_any {w:World} {ao:Option Addr} {l:List Int} {c:Nat} (h:IsVals w ao (iv l)) (hn:l.length<=17592186043904):
  Calls Tryz.prog 38 #[.slice ao l.length c,.func (.func 26) #[] #[]] w fun e w'=>(∃ z:Int,e=.returned (.int .i64 z)/\(l.any badN=true ↔ 0<=z))/\w'=w:=by
 have H:=hdn <| h
 have hn2:(l.length:Int)<=17592186043904:=by omega
 have hen:∀ (args:Array Value) (w:World),(callFunc 26 args).run Tryz.prog w=.ok (.enter 26 args) w:=enters_bad
 have HE:Hid (l.take l.length=l):=List.take_length
 clear h hn
 go_enter Tryz.func38,Tryz.ntmps38
 go_wp2_with fail
 go_loopg [8] l.length (fun gq y wr=>∃ k:Nat,k+gq=l.length/\y=.int .i64 (k:Int)/\(l.take k).any badN=false/\wr=w)
 case atStart=>exact ⟨0,by omega,rfl,by simp,rfl⟩
 case round=>
  obtain ⟨k,hkg,rfl,hnb,hw⟩:=hrel
  have HG:Hid (k+gk=l.length/\(l.take k).any badN=false):=⟨hkg,hnb⟩
  subst hw
  by_cases hlt:k < l.length
  ·have hk':(k:Int) < (l.length:Int):=by omega
   have hk2:(k:Int)<=17592186043904:=by omega
   obtain ⟨g,o,rfl,_,d0⟩:=H.out k _ (iv_at hlt)
   have HS:Hid ((l.take (k+1)).any badN=((l.take k).any badN || badN l[k])):=any_take hlt
   have HY:Hid (badN l[k]=true->l.any badN=true):=any_of hlt
   have HLt:Hid (k < l.length):=hlt
   generalize l[k]=x at *
   have HC:=hdn <| bad_any x wr
   clear hkg hlt hnb
   cases hb:badN x with
   | true=>
    rw [hb] at HC
    have HT:Hid (l.any badN=true):=HY.out hb
    clear hb HS HY
    go_wp2_with fail
    refine Calls.mono HC.out ?_
    rintro e w2 ⟨rfl,rfl⟩
    go_wp2
    go_ret
    exact ⟨⟨_,rfl,by rw [HT.out];simp⟩,rfl⟩
   | false=>
    rw [hb] at HC HS
    have HT:Hid ((l.take (k+1)).any badN=false):=by
     show _=_
     rw [HS.out,HG.out.2]
     rfl
    clear hb HS HY
    go_wp2_with fail
    refine Calls.mono HC.out ?_
    rintro e w2 ⟨rfl,rfl⟩
    go_wp2_with fail
    go_roundg (l.length - (k+1))
    case measure=>have:=HG.out.1;have:=HLt.out;omega
    case rel=>exact ⟨k+1,by have:=HLt.out;omega,by go_num,HT.out,rfl⟩
  ·have hk':decide (k < l.length)=false:=decide_eq_false hlt
   have hk2:decide ((k:Int) < (l.length:Int))=false:=decide_eq_false (by omega)
   have hke:k=l.length:=by omega
   have HR:Hid (l.any badN=false):=by
    show _=_
    rw [hke,HE.out] at hnb
    exact hnb
   clear hkg hlt hke hnb
   go_wp2
   go_ret
   exact ⟨⟨-1,rfl,by rw [HR.out];simp⟩,rfl⟩
theorem contains_any {w:World} {ao:Option Addr} {l:List Int} {c:Nat} (h:IsVals w ao (iv l)) (hn:l.length<=17592186043904):
  Calls Tryz.prog 25 #[.slice ao l.length c,.func (.func 26) #[] #[]] w fun e w'=>e=.returned (.bool (l.any badN))/\w'=w:=by
 have HI:=hdn <| index_any (c:=c) h hn
 clear h hn
 go_enter Tryz.func25,Tryz.ntmps25
 go_wp2_with fail
 refine Calls.mono HI.out ?_
 rintro e w2 ⟨⟨z,rfl,hz⟩,rfl⟩
 have HZ:=hdn <| hz
 clear hz HI
 go_wp2
 go_ret
 refine ⟨?_,rfl⟩
 have e1:l.any badN=decide (0<=z):=by
  rw [Bool.eq_iff_iff,HZ.out]
  simp
 rw [e1]
 rfl
end Go.Proofs.YtfgpbdieaflclaaGreat.Nm
namespace Go.Proofs.YtfgpbdieaflclaaGreat.Gr
open Go.RowKit Sp Lx
theorem stand_in {d s c k:Int} (h0:d ≠ 0) (h1:d ≠ 1) (h:mayStand d s c k=true):k ≠ 7/\k ≠ 1/\k ≠ 0:=by
 unfold mayStand at h
 rw [if_neg h0,if_neg h1] at h
 refine ⟨?_,?_,?_⟩
 all_goals
  rintro rfl
  split at h
  ·exact absurd h (by decide)
  split at h
  ·exact absurd h (by decide)
  split at h
  ·exact absurd h (by decide)
  split at h
  ·exact absurd h (by decide)
  unfold mayFollow at h
  repeat' split at h
  all_goals exact absurd h (by decide)
theorem pop_app (v b:List Ab):pop (v++b)=if pop v=[] then pop b else pop v++b:=by
 induction v with
 | nil=>simp [pop]
 | cons a v ih=>
  simp only [List.cons_append,pop]
  split
  ·exact ih
  ·simp
theorem pop_mem (v:List Ab):∀ a ∈ pop v,a ∈ v:=by
 induction v with
 | nil=>intro a h;exact h
 | cons c v ih=>
  intro a h
  simp only [pop] at h
  split at h
  ·exact List.mem_cons_of_mem _ (ih a h)
  ·exact h
theorem in_rule (l:List Rz):∀ (u b:List Ab) (i:Nat),(∀ a ∈ u,a.kind ≠ 0/\a.kind ≠ 1)->(u=[]\/∃ a r,u=a :: r/\(a.seen:Int) < a.kids)->(wrong (u++b) i l).2=false->∀ j x,sz l (mis u)=some x->j < x->(rat l j).kind ≠ 7:=by
 induction l with
 | nil=>
  intro u b i _ _ _ j x hx hj
  simp only [sz] at hx
  split at hx
  ·cases hx;omega
  ·cases hx
 | cons r l ih=>
  intro u b i hu ht h j x hx hj
  rcases ht with rfl | ⟨a,t,rfl,hlt⟩
  ·rw [show mis []=0 from rfl,sz_zero] at hx
   cases hx
   omega
  ·simp only [wrong,List.cons_append] at h
   split at h
   ·cases h
   ·rename_i hc
    simp only [List.isEmpty_cons,Bool.false_or,Bool.not_eq_true',Bool.not_eq_false,Bool.and_eq_true] at hc
    have hk:=filled_kids hc.2
    obtain ⟨a0,a1⟩:=hu a (by simp)
    obtain ⟨k7,k1,k0⟩:=stand_in (d:=a.kind) a0 a1 hc.1
    cases j with
    | zero=>exact k7
    | succ j=>
     have hm:mis (pop (⟨r.kind,r.kids,0,0,0⟩ :: bump r.kind (a :: t)))=mis (a :: t) - 1+r.m:=by
      rw [mis_pop]
      simp only [mis,bump,Rz.m]
      omega
     obtain ⟨x1,hx1⟩:=sz_cons (by simp only [mis];omega) hx
     rw [<-hm] at hx1
     have hpa:past (a :: (t++b)) r 0=if pop (⟨r.kind,r.kids,0,0,0⟩ :: bump r.kind (a :: t))=[] then pop b else pop (⟨r.kind,r.kids,0,0,0⟩ :: bump r.kind (a :: t))++b:=by
      rw [<-pop_app]
      rfl
     rw [hpa] at h
     by_cases hp:pop (⟨r.kind,r.kids,0,0,0⟩ :: bump r.kind (a :: t))=[]
     ·rw [hp,show mis []=0 from rfl,sz_zero] at hx1
      have:=Option.some.inj hx1
      omega
     ·rw [if_neg hp] at h
      have hmem:∀ c ∈ pop (⟨r.kind,r.kids,0,0,0⟩ :: bump r.kind (a :: t)),c.kind ≠ 0/\c.kind ≠ 1:=fun c hc2=>by
       have:=pop_mem _ c hc2
       simp only [bump,List.mem_cons] at this
       rcases this with rfl | rfl | hm2
       ·exact ⟨k0,k1⟩
       ·exact ⟨a0,a1⟩
       ·exact hu c (by simp [hm2])
      have hpp:∀ x:List Ab,pop x=[]\/∃ b q,pop x=b :: q/\(b.seen:Int) < b.kids:=by
       intro x
       induction x with
       | nil=>exact Or.inl rfl
       | cons c x ihx=>
        simp only [pop]
        split
        ·exact ihx
        ·exact Or.inr ⟨c,x,rfl,by omega⟩
      have:=ih _ b (i+1) hmem (hpp _) h j (x - 1) hx1 (by omega)
      exact this
theorem wrong_drop (l:List Rz):∀ (t:List Ab) (i a:Nat),a<=l.length->(wrong t i l).2=false->∃ t',(wrong t' (i+a) (l.drop a)).2=false:=by
 induction l with
 | nil=>
  intro t i a ha h
  have h0:a=0:=by simpa using ha
  subst h0
  exact ⟨t,h⟩
 | cons r l ih=>
  intro t i a ha h
  cases a with
  | zero=>exact ⟨t,h⟩
  | succ a=>
   simp only [wrong] at h
   split at h
   ·cases h
   ·obtain ⟨t',h'⟩:=ih _ (i+1) a (by simpa using ha) h
    exact ⟨t',by rw [show i+(a+1)=i+1+a by omega];exact h'⟩
theorem rat_drop (l:List Rz) (a j:Nat):rat (l.drop a) j=rat l (a+j):=by simp [rat,List.getD_eq_getElem?_getD,List.getElem?_drop]
theorem rule_apart {l:List Rz} (h:(wrong [ab1] 0 l).2=false) {a c:Nat} (ha:a < l.length) (hk:(rat l a).kind=7) (hac:a < c) (hce:c < endp l a):(rat l c).kind ≠ 7:=by
 have hW:=whole_of h
 have hf:=wrong_all l _ _ h _ (List.mem_of_getElem? (some_rat ha))
 have hk1:1<=(rat l a).kids:=Nm.filled_kid hf (Or.inl hk)
 obtain ⟨t,ht⟩:=wrong_drop l [ab1] 0 a (by omega) h
 obtain ⟨r,hr1,hr2,_⟩:=drop_at ha
 have hr:r=rat l a:=by rw [some_rat ha] at hr1;exact (Option.some.inj hr1).symm
 subst hr
 rw [hr2] at ht
 simp only [wrong] at ht
 split at ht
 ·cases ht
 ·have hpa:past t (rat l a) 0=[⟨(rat l a).kind,(rat l a).kids,0,0,0⟩]++bump (rat l a).kind t:=by
   unfold past
   simp only [pop]
   rw [if_neg (by omega)]
   rfl
  rw [hpa] at ht
  have hE:∃ x,sz (l.drop (a+1)) (mis [⟨(rat l a).kind,(rat l a).kids,0,0,0⟩])=some x/\endp l a=a+1+x:=by
   obtain ⟨h1,h2⟩:=end_kid hW ha
   unfold endp at *
   rw [hr2] at *
   cases hs:sz (rat l a :: l.drop (a+1)) 1 with
   | none=>rw [hs] at h2;simp at h2
   | some y=>
    obtain ⟨hy,hz⟩:=sz_cons (Nat.le_refl 1) hs
    refine ⟨y - 1,?_,?_⟩
    ·rw [<-hz]
     congr 1
     simp [mis,Rz.m]
    ·simp
     omega
  obtain ⟨x,hx1,hx2⟩:=hE
  have:=in_rule (l.drop (a+1)) [⟨(rat l a).kind,(rat l a).kids,0,0,0⟩] (bump (rat l a).kind t) _ (by intro q hq;simp only [List.mem_singleton] at hq;subst hq;dsimp only;rw [hk];decide) (Or.inr ⟨_,[],rfl,by show (0:Int) < (rat l a).kids;omega⟩) ht (c - (a+1)) x hx1 (by omega)
  rw [rat_drop,show a+1+(c - (a+1))=c by omega] at this
  exact this
end Go.Proofs.YtfgpbdieaflclaaGreat.Gr
