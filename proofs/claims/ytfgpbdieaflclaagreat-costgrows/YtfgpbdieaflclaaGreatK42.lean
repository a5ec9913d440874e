import Derived.Test.YtfgpbdieaflclaaGreatK41
set_option maxHeartbeats 25600000
set_option maxRecDepth 100000
namespace Go.Proofs.YtfgpbdieaflclaaGreat.Nm
open Go.RowKit Go.Maps Sp Lx Gr
theorem declareQ {kd:Int} {gb:Bool} (hkg:kd=2/\gb=false\/kd=3/\gb=true) {W:World} {b base rb rc eb m i:Nat} {nm:ByteArray} {l0:List Rz} {s:Rs} {qv vv tv uv ov hv:Value} (h:Mkr W b base rb rc eb nm l0 s qv vv tv uv ov hv) (hg:Good l0 m s) (hnd:Nd s) (hi:i < l0.length) (hl:l0.length<=2932031007317) (hT:TreeZ l0) (hon:lk s.ev (1,s.qs.length)=none) (hk:(rat s.rows i).kind=kd):
  Calls Tryz.prog 16 #[.pointer (some ⟨b,0,none⟩),.int .i64 (i:Int),.int .i64 1] W (MkL W b base rb rc eb nm l0 (askD i s)):=by
 have HOn:=hdn <| hon
 have hlen:=like_len hg.like
 have his:i < s.rows.length:=by omega
 obtain ⟨c0,c1,c2,c3,c4,_⟩:=h.r.cells (some_rat his)
 have b1:W.cell? ⟨b,1,none⟩=some (.slice (some ⟨rb,0,none⟩) l0.length rc):=h.cell 1 _ rfl
 obtain ⟨a0,a1,a2,a3,a4⟩:=row_cells W (rat s.rows i)
 have hkl:s.known.reverse.length<=1000:=by
  rw [List.length_reverse,hg.kl]
  have:=hg.q
  have:=hg.v
  have:=hg.t
  have:=hg.u
  omega
 have hcl:s.cnt 1<=16:=hg.cnt_le 1
 have hgb:(kd == 3)=gb:=by rcases hkg with ⟨rfl,rfl⟩ | ⟨rfl,rfl⟩<;>rfl
 have hdk:decl (rat s.rows i).kind=1:=by rw [hk];rcases hkg with ⟨rfl,_⟩ | ⟨rfl,_⟩<;>rfl
 have HA:Hid (askD i s=if (lk s.known (rat s.rows i).name).isSome then .error 31 else if s.cnt 1=16 then .error 3 else .ok (s.dec i)):=by
  show _=_
  unfold askD
  rw [hdk,if_neg (by decide)]
  rfl
 have HD:Hid (s.dec i=⟨numb s.rows i (s.cnt 1),((rat s.rows i).name,1,s.cnt 1,endp l0 i) :: s.known,s.qs++[((rat s.rows i).name,gb)],s.vs,s.ts,s.us,s.ev⟩):=by
  show _=_
  have he:endp (numb s.rows i (s.cnt 1)) i=endp l0 i:=endp_like ((numb_clr _ _ _).trans hg.like) i
  unfold Rs.dec
  rw [hdk,hk,he]
  rcases hkg with ⟨rfl,rfl⟩ | ⟨rfl,rfl⟩<;>rfl
 have HCn:Hid ((s.dec i).cnt 1=s.cnt 1+1/\(s.dec i).cnt 2=s.cnt 2/\(s.dec i).cnt 3=s.cnt 3/\(s.dec i).cnt 4=s.cnt 4):=by
  refine ⟨?_,?_,?_,?_⟩
  all_goals
   rw [cnt_dec s i _ (by rw [hdk];decide),hdk]
   rfl
 have hR5:rat s.rows i=⟨kd,(rat s.rows i).name,(rat s.rows i).stop,(rat s.rows i).n,(rat s.rows i).kids⟩:=by
  rw [<-hk]
 have hep:endp l0 i<=l0.length:=(end_kid hT.whole hi).2.2
 have hb1:Below W.heap.size W (W.alloc (.cells #[.int .i64 (rat s.rows i).kind,.string (rat s.rows i).name,.int .i64 (rat s.rows i).stop,.int .i64 (rat s.rows i).n,.int .i64 (rat s.rows i).kids] 47)):=bAl W _
 have h1:=h.below hb1
 obtain ⟨ho,hc,hhv,hth⟩:=h1.things
 subst hhv
 have HM:=hdn <| h1
 have HB1:Hid (Fb [b,rb] base W (W.alloc (.cells #[.int .i64 (rat s.rows i).kind,.string (rat s.rows i).name,.int .i64 (rat s.rows i).stop,.int .i64 (rat s.rows i).n,.int .i64 (rat s.rows i).kids] 47))/\b < W.heap.size/\eb < W.heap.size/\rb < W.heap.size):=⟨Fb.of_below (hb1.mono h.ob.sz),blk_lt h.ob.blk,Nat.lt_of_lt_of_le h.lt.2.1 h.ob.sz,h.r.lt⟩
 have HNd:=hdn <| hnd
 have HV:Hid (s.qs.length<=1000):=by show _<=_;have:=hg.q;have:=hg.v;have:=hg.t;have:=hg.u;omega
 have HS:Hid (i < s.rows.length/\i < l0.length/\s.us.length<=64/\s.known.length<=1000):=⟨his,hi,hg.u,by rw [<-List.length_reverse];exact hkl⟩
 generalize hxx:rat s.rows i=x at *
 have HX:Hid (rat s.rows i=x):=hxx
 obtain ⟨kd0,nm1,st,n,ks⟩:=x
 dsimp only at *
 replace hk:=hk.symm
 subst hk
 have b9:(W.alloc (.cells #[.int .i64 kd,.string nm1,.int .i64 st,.int .i64 n,.int .i64 ks] 47)).cell? ⟨b,9,none⟩=some (.slice ho s.known.reverse.length hc):=h1.cell 9 _ rfl
 have bz:(W.alloc (.cells #[.int .i64 kd,.string nm1,.int .i64 st,.int .i64 n,.int .i64 ks] 47)).cell? ⟨b,11,none⟩=some (.int .i64 (s.cnt 1:Nat)):=h1.cell 11 _ rfl
 have fz:(W.alloc (.cells #[.int .i64 kd,.string nm1,.int .i64 st,.int .i64 n,.int .i64 ks] 47)).frozen? ⟨b,11,none⟩=false:=fzb h1.ob.blk 11
 have HFd:=hdn <| find_any (nm:=nm1) b9 hth hkl
 have HMs:Hid (∀ u,Calls Tryz.prog 34 #[.int .i64 1] u fun e w'=>e=.returned (.int .i64 16)/\w'=u):=fun u=>rmost_any 1 (by decide) (by decide) u
 have hi':(i:Int) < (l0.length:Int):=by omega
 have hi2:(i:Int)<=2932031007317:=by omega
 have hcl2:(s.cnt 1:Int)<=16:=by omega
 have hep2:(endp l0 i:Int)<=2932031007317:=by omega
 clear h hg hnd hi hl hlen his hkl hcl hdk hb1 h1 hth hep hR5 hT hxx hkg
 generalize askD i s=R at *
 go_enter Tryz.func16,Tryz.ntmps16
 go_wp2_with fail
 refine Calls.mono HFd.out ?_
 rintro e w1 ⟨⟨j,hj,hnm,rfl⟩ | ⟨hno,rfl⟩,rfl⟩
 ·have hlk:(lk s.known nm1).isSome=true:=by
   rw [lk_nodup HNd.out (nm:=nm1) (v:=s.known.reverse[j].2) (by rw [<-hnm];exact List.mem_reverse.1 (List.getElem_mem hj))]
   rfl
  rw [if_pos hlk] at HA
  have hj0:decide ((0:Int)<=(j:Int))=true:=decide_eq_true (by omega)
  have hj1:(0:Int)<=(j:Int):=by omega
  clear hlk hnm hj HFd HNd HD
  go_wp2
  go_ret
  rw [HA.out]
  exact ⟨HB1.out.1,rfl⟩
 ·have hlk:(lk s.known nm1).isSome=false:=by rw [lk_none (fun x hx=>hno x (List.mem_reverse.2 hx))];rfl
  rw [hlk,if_neg (by decide)] at HA
  clear hno hlk HFd HNd
  by_cases hfull:s.cnt 1=16
  ·have hfb:((s.cnt 1:Int) == 16)=true:=by simp [hfull]
   rw [if_pos hfull] at HA
   clear hfull HD
   go_wp2_with fail
   refine Calls.mono (HMs.out _) ?_
   rintro e w2 ⟨rfl,rfl⟩
   go_wp2
   go_ret
   rw [HA.out]
   exact ⟨HB1.out.1,rfl⟩
  ·have hfb:((s.cnt 1:Int) == 16)=false:=by simp;omega
   rw [if_neg hfull] at HA
   clear hfull
   go_wp2_with fail
   refine Calls.mono (HMs.out _) ?_
   rintro e w2 ⟨rfl,rfl⟩
   go_upto_region 8 with fail
   have hO2:Ob ((W.alloc (.cells #[.int .i64 kd,.string nm1,.int .i64 st,.int .i64 n,.int .i64 ks] 47)).setCell ⟨b,11,none⟩ (.int .i64 ((s.cnt 1:Int)+1))) b base 55 (mkC nm rb rc l0.length eb qv vv tv uv ov (plc s.ev (5,0)) (.slice ho s.known.reverse.length hc) (s.cnt 1+1) (s.cnt 2) (s.cnt 3) (s.cnt 4)) ((o5 s qv vv tv uv ov)++[⟨9,73,4,.slice ho s.known.reverse.length hc,s.known.length,thF s.known.reverse⟩]):=HM.out.ob.set 11 (.int .i64 ((s.cnt 1:Int)+1)) (by simp)
   have hset:∀ k,k ≠ b->((W.alloc (.cells #[.int .i64 kd,.string nm1,.int .i64 st,.int .i64 n,.int .i64 ks] 47)).setCell ⟨b,11,none⟩ (.int .i64 ((s.cnt 1:Int)+1))).heap[k]?=(W.alloc (.cells #[.int .i64 kd,.string nm1,.int .i64 st,.int .i64 n,.int .i64 ks] 47)).heap[k]?:=fun k hk=>Below.heap_setCell _ _ _ k (fun e=>hk e)
   have hlt:=HM.out.lt
   have hnb:W.heap.size ≠ b:=by have:=HB1.out.2.1;omega
   have x1:((W.alloc (.cells #[.int .i64 kd,.string nm1,.int .i64 st,.int .i64 n,.int .i64 ks] 47)).setCell ⟨b,11,none⟩ (.int .i64 ((s.cnt 1:Int)+1))).cell? ⟨W.heap.size,1,none⟩=some (.string nm1):=(World.cell?_of_block (a:=⟨W.heap.size,1,none⟩) (hset _ hnb)).trans a1
   have x0:((W.alloc (.cells #[.int .i64 kd,.string nm1,.int .i64 st,.int .i64 n,.int .i64 ks] 47)).setCell ⟨b,11,none⟩ (.int .i64 ((s.cnt 1:Int)+1))).cell? ⟨W.heap.size,0,none⟩=some (.int .i64 kd):=(World.cell?_of_block (a:=⟨W.heap.size,0,none⟩) (hset _ hnb)).trans a0
   have H2:Hid (Ob ((W.alloc (.cells #[.int .i64 kd,.string nm1,.int .i64 st,.int .i64 n,.int .i64 ks] 47)).setCell ⟨b,11,none⟩ (.int .i64 ((s.cnt 1:Int)+1))) b base 55 (mkC nm rb rc l0.length eb qv vv tv uv ov (plc s.ev (5,0)) (.slice ho s.known.reverse.length hc) (s.cnt 1+1) (s.cnt 2) (s.cnt 3) (s.cnt 4)) ((o5 s qv vv tv uv ov)++[⟨9,73,4,.slice ho s.known.reverse.length hc,s.known.length,thF s.known.reverse⟩])/\Rw ((W.alloc (.cells #[.int .i64 kd,.string nm1,.int .i64 st,.int .i64 n,.int .i64 ks] 47)).setCell ⟨b,11,none⟩ (.int .i64 ((s.cnt 1:Int)+1))) rb s.rows/\(∀ k,k < l0.length->((W.alloc (.cells #[.int .i64 kd,.string nm1,.int .i64 st,.int .i64 n,.int .i64 ks] 47)).setCell ⟨b,11,none⟩ (.int .i64 ((s.cnt 1:Int)+1))).cell? ⟨eb,k,none⟩=some (.int .i64 (endp l0 k:Nat)))/\Fb [b,rb] base W ((W.alloc (.cells #[.int .i64 kd,.string nm1,.int .i64 st,.int .i64 n,.int .i64 ks] 47)).setCell ⟨b,11,none⟩ (.int .i64 ((s.cnt 1:Int)+1)))/\((W.alloc (.cells #[.int .i64 kd,.string nm1,.int .i64 st,.int .i64 n,.int .i64 ks] 47)).setCell ⟨b,11,none⟩ (.int .i64 ((s.cnt 1:Int)+1))).cell? ⟨W.heap.size,1,none⟩=some (.string nm1)/\((W.alloc (.cells #[.int .i64 kd,.string nm1,.int .i64 st,.int .i64 n,.int .i64 ks] 47)).setCell ⟨b,11,none⟩ (.int .i64 ((s.cnt 1:Int)+1))).cell? ⟨W.heap.size,0,none⟩=some (.int .i64 kd)):=⟨hO2,HM.out.r.same (hset _ hlt.2.2.1),fun k hk=>(World.cell?_of_block (a:=⟨eb,k,none⟩) (hset _ hlt.2.2.2.1)).trans (HM.out.e k hk),HB1.out.1.trans ((Fr.set (F:=[b,rb]) _ 11 (.int .i64 ((s.cnt 1:Int)+1)) (by simp)).fbw HM.out.ob.sz),x1,x0⟩
   have HXb:Hid (((W.alloc (.cells #[.int .i64 kd,.string nm1,.int .i64 st,.int .i64 n,.int .i64 ks] 47)).setCell ⟨b,11,none⟩ (.int .i64 ((s.cnt 1:Int)+1))).drew.heap[W.heap.size]?=some (.cells #[.int .i64 kd,.string nm1,.int .i64 st,.int .i64 n,.int .i64 ks] 47 (0,0))):=(hset _ hnb).trans (heap_alloc_new W _)
   have HLt:=hdn <| hlt
   clear hO2 hset hlt x1 x0 a0 a1 a2 a3 a4 b1 b9 bz fz c0 c1 c2 c3 c4 HMs hfb
   generalize (W.alloc (.cells #[.int .i64 kd,.string nm1,.int .i64 st,.int .i64 n,.int .i64 ks] 47)).setCell ⟨b,11,none⟩ (.int .i64 ((s.cnt 1:Int)+1))=w3 at *
   go_cut [] (fun wx=>∃ bo bc,Ob wx b base 55 (mkC nm rb rc l0.length eb qv vv tv uv ov (plc s.ev (5,0)) (.slice bo (s.known.length+1) bc) (s.cnt 1+1) (s.cnt 2) (s.cnt 3) (s.cnt 4)) ((o5 s qv vv tv uv ov)++[⟨9,73,4,.slice bo (s.known.length+1) bc,s.known.length+1,thF ((nm1,1,s.cnt 1,endp l0 i) :: s.known).reverse⟩])/\Rw wx rb s.rows/\(∀ k,k < l0.length->wx.cell? ⟨eb,k,none⟩=some (.int .i64 (endp l0 k:Nat)))/\Fb [b,rb] base W wx/\wx.heap[W.heap.size]?=some (.cells #[.int .i64 kd,.string nm1,.int .i64 st,.int .i64 n,.int .i64 ks] 47 (0,0)))
   case rest=>
    obtain ⟨bo,bc,hO,hR,hE,hF,hXB⟩:=hcut
    have y1:wc.cell? ⟨b,1,none⟩=some (.slice (some ⟨rb,0,none⟩) l0.length rc):=by simp only [World.cell?,hO.blk];rfl
    have hxr:=some_rat HS.out.1
    rw [HX.out] at hxr
    obtain ⟨_,_,_,d3,_,dfz⟩:=hR.cells hxr
    have df3:=dfz (i * 5+3)
    dsimp only at d3
    have hbk:∀ k,k ≠ rb->(wc.setCell ⟨rb,i * 5+3,none⟩ (.int .i64 (s.cnt 1:Int))).heap[k]?=wc.heap[k]?:=fun k hk=>Below.heap_setCell wc _ _ k (fun e=>hk e)
    have hnr:W.heap.size ≠ rb:=by have:=HB1.out.2.2.2;omega
    have hR6:=hR.setN hxr (s.cnt 1:Int)
    have H6:Hid (Ob (wc.setCell ⟨rb,i * 5+3,none⟩ (.int .i64 (s.cnt 1:Int))) b base 55 (mkC nm rb rc l0.length eb qv vv tv uv ov (plc s.ev (5,0)) (.slice bo (s.known.length+1) bc) (s.cnt 1+1) (s.cnt 2) (s.cnt 3) (s.cnt 4)) ((o5 s qv vv tv uv ov)++[⟨9,73,4,.slice bo (s.known.length+1) bc,s.known.length+1,thF ((nm1,1,s.cnt 1,endp l0 i) :: s.known).reverse⟩])/\Rw (wc.setCell ⟨rb,i * 5+3,none⟩ (.int .i64 (s.cnt 1:Int))) rb (numb s.rows i (s.cnt 1))/\(∀ k,k < l0.length->(wc.setCell ⟨rb,i * 5+3,none⟩ (.int .i64 (s.cnt 1:Int))).cell? ⟨eb,k,none⟩=some (.int .i64 (endp l0 k:Nat)))/\Fb [b,rb] base W (wc.setCell ⟨rb,i * 5+3,none⟩ (.int .i64 (s.cnt 1:Int)))/\(wc.setCell ⟨rb,i * 5+3,none⟩ (.int .i64 (s.cnt 1:Int))).heap[W.heap.size]?=some (.cells #[.int .i64 kd,.string nm1,.int .i64 st,.int .i64 n,.int .i64 ks] 47 (0,0))):=by
     refine ⟨hO.other HLt.out.1 HLt.out.2.2.1 (Fr.set wc _ _ (by simp)),?_,fun k hk=>(World.cell?_of_block (a:=⟨eb,k,none⟩) (hbk _ (Ne.symm HLt.out.2.2.2.2))).trans (hE k hk),hF.trans ((Fr.set (F:=[b,rb]) wc (i * 5+3) (.int .i64 (s.cnt 1:Int)) (by simp)).fbw hO.sz),(hbk _ hnr).trans hXB⟩
     unfold numb
     rw [HX.out]
     exact hR6
    clear hO hR hE hF hXB hbk hxr hR6 dfz HXb H2 HM
    go_upto_region 12 with fail
    generalize wc.setCell ⟨rb,i * 5+3,none⟩ (.int .i64 (s.cnt 1:Int))=w6 at *
    have y3:w6.cell? ⟨b,2,none⟩=some qv:=by simp only [World.cell?,H6.out.1.blk];rfl
    have x1:w6.cell? ⟨W.heap.size,1,none⟩=some (.string nm1):=by rw [World.cell?,H6.out.2.2.2.2];rfl
    have x0:w6.cell? ⟨W.heap.size,0,none⟩=some (.int .i64 kd):=by rw [World.cell?,H6.out.2.2.2.2];rfl
    have hbU:Below w6.heap.size w6 (w6.alloc (.cells #[.string nm1,.bool gb] 67)):=bAl w6 _
    have yA:(w6.alloc (.cells #[.string nm1,.bool gb] 67)).cell? ⟨b,2,none⟩=some qv:=(hbU.cell (p:=⟨b,2,none⟩) (blk_lt H6.out.1.blk)).trans y3
    have HO7:=hdn <| H6.out.1.below hbU.drew
    have HR7:Hid (Rw (w6.alloc (.cells #[.string nm1,.bool gb] 67)).drew rb (numb s.rows i (s.cnt 1))/\(∀ k,k < l0.length->(w6.alloc (.cells #[.string nm1,.bool gb] 67)).drew.cell? ⟨eb,k,none⟩=some (.int .i64 (endp l0 k:Nat)))/\Fb [b,rb] base W (w6.alloc (.cells #[.string nm1,.bool gb] 67)).drew):=⟨H6.out.2.1.same (hbU.drew.block _ H6.out.2.1.lt),fun k hk=>(hbU.drew.cell (p:=⟨eb,k,none⟩) (World.block_lt_of_cell? w6 ⟨eb,k,none⟩ (H6.out.2.2.1 k hk))).trans (H6.out.2.2.1 k hk),H6.out.2.2.2.1.trans (Fb.of_below (hbU.drew.mono H6.out.1.sz))⟩
    have HOw:Hid ((w6.alloc (.cells #[.string nm1,.bool gb] 67)).drew.ownsRow base 67 2 qv s.qs.length (qF s.qs)):=(HO7.out.own ⟨2,67,2,qv,s.qs.length,qF s.qs⟩ (by simp)).2
    obtain ⟨j0,hj,hj0,hj1,hj2⟩:=info_parts infoQ
    have hln:s.qs.length<=1000:=HV.out
    have HLn:=hdn <| hln
    clear hbU hln
    go_region_law (refine step_gone _ rfl (.tmp 77) (.tmp 84) 25 rfl base 67 j0 (.agg #[.string ByteArray.empty,.bool false]) 2 24 Tryz.underlying25 hj hj0 hj1 hj2 rfl (by decide) qv _ (qF s.qs) (by simp [Act.eval]) HOw.out ⟨w6.heap.size,0,none⟩ 1 1 [.string nm1,.bool gb] (by simp [Act.eval]) rfl (cell_twod w6 _ _ _ _ rfl) (by intro u hu;simp only [List.mem_cons,List.not_mem_nil,or_false] at hu;rcases hu with rfl | rfl<;>rfl) (by have:=HLn.out;unfold maxLen;omega) (by have:=HLn.out;omega) HO7.out.sz (by decide) ?_
                   intro xv' w8 hown8 hG8
                   obtain ⟨p1,p2,p3,p4,p5⟩:=Ob.putF (os1:=[]) (os2:=[⟨3,9,1,vv,s.vs.length,s.vs.map Value.string⟩,⟨4,9,1,tv,s.ts.length,s.ts.map Value.string⟩,⟨5,3,1,uv,s.us.length,nv s.us⟩,⟨6,3,1,ov,s.qs.length,iv (onsOf s.ev s.qs.length)⟩,⟨9,73,4,.slice bo (s.known.length+1) bc,s.known.length+1,thF ((nm1,1,s.cnt 1,endp l0 i) :: s.known).reverse⟩]) HO7.out hG8 hown8
                   have e3:w8.cell? ⟨b,2,none⟩=some qv:=by simp only [World.cell?,p1];rfl
                   have f3:w8.frozen? ⟨b,2,none⟩=false:=fzb p1 2
                   have HP2:=hdn <| p2
                   have HP3:=hdn <| p3
                   have HP5:=hdn <| p5
                   obtain ⟨uo',uc',rfl⟩:=own_form hown8
                   clear hown8 hG8 p1 p2 p3 p4 p5)
    all_goals
     have hne:∀ k,k ≠ b->(w8.setCell ⟨b,2,none⟩ (.slice uo' (s.qs.length+1) uc')).heap[k]?=w8.heap[k]?:=fun k hk=>Below.heap_setCell w8 _ _ k (fun e=>hk e)
     have H9:Hid (Ob (w8.setCell ⟨b,2,none⟩ (.slice uo' (s.qs.length+1) uc')) b base 55 (mkC nm rb rc l0.length eb (.slice uo' (s.qs.length+1) uc') vv tv uv ov (plc s.ev (5,0)) (.slice bo (s.known.length+1) bc) (s.cnt 1+1) (s.cnt 2) (s.cnt 3) (s.cnt 4)) ([⟨2,67,2,.slice uo' (s.qs.length+1) uc',s.qs.length+1,qF s.qs++[.string nm1,.bool gb]⟩]++[⟨3,9,1,vv,s.vs.length,s.vs.map Value.string⟩,⟨4,9,1,tv,s.ts.length,s.ts.map Value.string⟩,⟨5,3,1,uv,s.us.length,nv s.us⟩,⟨6,3,1,ov,s.qs.length,iv (onsOf s.ev s.qs.length)⟩,⟨9,73,4,.slice bo (s.known.length+1) bc,s.known.length+1,thF ((nm1,1,s.cnt 1,endp l0 i) :: s.known).reverse⟩])/\Rw (w8.setCell ⟨b,2,none⟩ (.slice uo' (s.qs.length+1) uc')) rb (numb s.rows i (s.cnt 1))/\(∀ k,k < l0.length->(w8.setCell ⟨b,2,none⟩ (.slice uo' (s.qs.length+1) uc')).cell? ⟨eb,k,none⟩=some (.int .i64 (endp l0 k:Nat)))/\Fb [b,rb] base W (w8.setCell ⟨b,2,none⟩ (.slice uo' (s.qs.length+1) uc'))):=⟨HP2.out,HR7.out.1.same ((hne _ HLt.out.2.2.1).trans (HP3.out _ HLt.out.1)),fun k hk=>(World.cell?_of_block (a:=⟨eb,k,none⟩) ((hne _ HLt.out.2.2.2.1).trans (HP3.out _ HLt.out.2.1))).trans (HR7.out.2.1 k hk),HR7.out.2.2.trans (HP5.out.wide (by simp))⟩
     clear hne HO7 HOw HP2 HP3 HP5 HR7 H6 y3 x1 x0 yA
     go_upto_region 13 with fail
     clear e3 f3
     generalize w8.setCell ⟨b,2,none⟩ (.slice uo' (s.qs.length+1) uc')=w9 at *
     have y6:w9.cell? ⟨b,6,none⟩=some ov:=by simp only [World.cell?,H9.out.1.blk];rfl
     have hbV:Below w9.heap.size w9 (w9.alloc (.cells #[.int .i64 (-1)] 3)):=bAl w9 _
     have HOa:=hdn <| H9.out.1.below hbV
     have HRa:Hid (Rw (w9.alloc (.cells #[.int .i64 (-1)] 3)) rb (numb s.rows i (s.cnt 1))/\(∀ k,k < l0.length->(w9.alloc (.cells #[.int .i64 (-1)] 3)).cell? ⟨eb,k,none⟩=some (.int .i64 (endp l0 k:Nat)))/\Fb [b,rb] base W (w9.alloc (.cells #[.int .i64 (-1)] 3))):=⟨H9.out.2.1.same (hbV.block _ H9.out.2.1.lt),fun k hk=>(hbV.cell (p:=⟨eb,k,none⟩) (World.block_lt_of_cell? w9 ⟨eb,k,none⟩ (H9.out.2.2.1 k hk))).trans (H9.out.2.2.1 k hk),H9.out.2.2.2.trans (Fb.of_below (hbV.mono H9.out.1.sz))⟩
     have HOx:Hid ((w9.alloc (.cells #[.int .i64 (-1)] 3)).ownsRow base 3 1 ov s.qs.length (iv (onsOf s.ev s.qs.length))):=(HOa.out.own ⟨6,3,1,ov,s.qs.length,iv (onsOf s.ev s.qs.length)⟩ (by simp)).2
     obtain ⟨j0,hj,hj0,hj1,hj2⟩:=info_parts infoI
     clear hbV
     go_wp2_with (at_builtin;refine append_gone _ rfl _ _ 23 rfl base 3 j0 (.int .i64 0) 1 8 Tryz.underlying23 hj hj0 hj1 hj2 rfl (by decide) ov _ (iv (onsOf s.ev s.qs.length)) rfl HOx.out ⟨w9.heap.size,0,none⟩ 1 1 [.int .i64 (-1)] rfl rfl (cell_one w9 _ _) (by intro u hu;simp only [List.mem_cons,List.not_mem_nil,or_false] at hu;subst hu;rfl) (by have:=HLn.out;unfold maxLen;omega) (by have:=HLn.out;omega) HOa.out.sz (by decide) ?_)
     intro ov' wE hownE hGE
     obtain ⟨p1,p2,p3,p4,p5⟩:=Ob.putF (os1:=[⟨2,67,2,.slice uo' (s.qs.length+1) uc',s.qs.length+1,qF s.qs++[.string nm1,.bool gb]⟩,⟨3,9,1,vv,s.vs.length,s.vs.map Value.string⟩,⟨4,9,1,tv,s.ts.length,s.ts.map Value.string⟩,⟨5,3,1,uv,s.us.length,nv s.us⟩]) (os2:=[⟨9,73,4,.slice bo (s.known.length+1) bc,s.known.length+1,thF ((nm1,1,s.cnt 1,endp l0 i) :: s.known).reverse⟩]) HOa.out hGE hownE
     have e6:wE.cell? ⟨b,6,none⟩=some ov:=by simp only [World.cell?,p1];rfl
     have f6:wE.frozen? ⟨b,6,none⟩=false:=fzb p1 6
     have hne:∀ k,k ≠ b->(wE.setCell ⟨b,6,none⟩ ov').heap[k]?=wE.heap[k]?:=fun k hk=>Below.heap_setCell wE _ _ k (fun e=>hk e)
     have HF:Hid (Fb [b,rb] base W (wE.setCell ⟨b,6,none⟩ ov')):=HRa.out.2.2.trans (p5.wide (by simp))
     have HEnd:Hid (Mkr (wE.setCell ⟨b,6,none⟩ ov') b base rb rc eb nm l0 (s.dec i) (.slice uo' (s.qs.length+1) uc') vv tv uv ov' (.slice bo (s.known.length+1) bc)):=by
      have hd:=HD.out
      have g1:(s.dec i).rows=numb s.rows i (s.cnt 1):=by rw [hd]
      have g2:(s.dec i).known=(nm1,1,s.cnt 1,endp l0 i) :: s.known:=by rw [hd]
      have g3:(s.dec i).qs=s.qs++[(nm1,gb)]:=by rw [hd]
      have g4:(s.dec i).vs=s.vs:=by rw [hd]
      have g5:(s.dec i).ts=s.ts:=by rw [hd]
      have g6:(s.dec i).us=s.us:=by rw [hd]
      have g7:(s.dec i).ev=s.ev:=by rw [hd]
      refine ⟨?_,by rw [g1];exact HRa.out.1.same ((hne _ HLt.out.2.2.1).trans (p3 _ HLt.out.1)),fun k hk=>(World.cell?_of_block (a:=⟨eb,k,none⟩) ((hne _ HLt.out.2.2.2.1).trans (p3 _ HLt.out.2.1))).trans (HRa.out.2.1 k hk),HLt.out⟩
      have e1:qF (s.qs++[(nm1,gb)])=qF s.qs++[.string nm1,.bool gb]:=by simp [qF]
      have e2:(s.qs++[(nm1,gb)]).length=s.qs.length+1:=by simp
      have e3:iv (onsOf s.ev (s.qs.length+1))=iv (onsOf s.ev s.qs.length)++[.int .i64 (-1)]:=by
       rw [onsOf_succ]
       have hpl:plc s.ev (1,s.qs.length)=-1:=by unfold plc;rw [HOn.out]
       rw [hpl]
       simp [iv]
      rw [HCn.out.1,HCn.out.2.1,HCn.out.2.2.1,HCn.out.2.2.2,g2,g3,g4,g5,g6,g7,e1,e2,e3,List.length_cons]
      exact p2
     obtain ⟨oo',oc',rfl⟩:=own_form hownE
     clear hownE hGE p1 p2 p3 p4 p5 hne
     go_wp2
     go_ret
     rw [HA.out]
     exact ⟨HF.out,rfl,_,_,_,_,_,_,HEnd.out⟩
   have hbd:Below w3.heap.size w3 w3.drew:=(Below.refl _ w3).drew
   have HLd:Hid (Ob w3.drew b base 55 (mkC nm rb rc l0.length eb qv vv tv uv ov (plc s.ev (5,0)) (.slice ho s.known.reverse.length hc) (s.cnt 1+1) (s.cnt 2) (s.cnt 3) (s.cnt 4)) ((o5 s qv vv tv uv ov)++[⟨9,73,4,.slice ho s.known.reverse.length hc,s.known.length,thF s.known.reverse⟩])/\Rw w3.drew rb s.rows/\(∀ k,k < l0.length->w3.drew.cell? ⟨eb,k,none⟩=some (.int .i64 (endp l0 k:Nat)))/\Fb [b,rb] base W w3.drew/\w3.drew.cell? ⟨W.heap.size,1,none⟩=some (.string nm1)/\w3.drew.cell? ⟨W.heap.size,0,none⟩=some (.int .i64 kd)):=⟨H2.out.1.below hbd,H2.out.2.1.same rfl,H2.out.2.2.1,H2.out.2.2.2.1.trans (Fb.of_below (hbd.mono H2.out.1.sz)),H2.out.2.2.2.2.1,H2.out.2.2.2.2.2⟩
   clear hbd H2
   have hS0:w3.drew.cell? ⟨W.heap.size,1,none⟩=some (.string nm1)/\w3.drew.cell? ⟨b,8,none⟩=some (.slice (some ⟨eb,0,none⟩) l0.length l0.length)/\w3.drew.cell? ⟨eb,i,none⟩=some (.int .i64 (endp l0 i:Int)):=⟨HLd.out.2.2.2.2.1,by simp only [World.cell?,HLd.out.1.blk];rfl,HLd.out.2.2.1 i HS.out.2.1⟩
   obtain ⟨j0,hj,hj0,hj1,hj2⟩:=info_parts infoTh
   refine wp_region_held (S:=fun w'=>w'.cell? ⟨W.heap.size,1,none⟩=some (.string nm1)/\w'.cell? ⟨b,8,none⟩=some (.slice (some ⟨eb,0,none⟩) l0.length l0.length)/\w'.cell? ⟨eb,i,none⟩=some (.int .i64 (endp l0 i:Int))) (by kernel_rfl) ?_
   have hS:(fun w':World=>w'.cell? ⟨W.heap.size,1,none⟩=some (.string nm1)/\w'.cell? ⟨b,8,none⟩=some (.slice (some ⟨eb,0,none⟩) l0.length l0.length)/\w'.cell? ⟨eb,i,none⟩=some (.int .i64 (endp l0 i:Int))) w3.drew:=hS0
   change wpAnyH _ _ _ _ _ _ _ _ w3.drew
   refine tq 0 rfl hS ?_
   refine tq 1 rfl hS ?_
   refine tq 2 rfl hS ?_
   refine tq 3 rfl hS ?_
   refine tq 5 rfl hS ?_
   refine tq 6 rfl hS ?_
   refine tq 7 rfl hS ?_
   refine tq 8 rfl hS ?_
   refine tq 9 rfl hS ?_
   refine tq 10 rfl hS ?_
   refine tq 11 rfl hS ?_
   refine tq 12 rfl hS ?_
   refine tq 13 rfl hS ?_
   refine tq 14 rfl hS ?_
   refine tq 15 rfl hS ?_
   refine tq 16 rfl hS ?_
   have hXB:w3.drew.heap[W.heap.size]?=some (.cells #[.int .i64 kd,.string nm1,.int .i64 st,.int .i64 n,.int .i64 ks] 47 (0,0)):=HXb.out
   generalize w3.drew=wd at *
   have hbA:Below wd.heap.size wd (wd.alloc (.cells #[.string nm1,.int .i64 1,.int .i64 (s.cnt 1:Int),.int .i64 (endp l0 i:Int)] 73)):=bAl wd _
   have HOA:=hdn <| HLd.out.1.below hbA
   have HRA:Hid (Rw (wd.alloc (.cells #[.string nm1,.int .i64 1,.int .i64 (s.cnt 1:Int),.int .i64 (endp l0 i:Int)] 73)) rb s.rows/\(∀ k,k < l0.length->(wd.alloc (.cells #[.string nm1,.int .i64 1,.int .i64 (s.cnt 1:Int),.int .i64 (endp l0 i:Int)] 73)).cell? ⟨eb,k,none⟩=some (.int .i64 (endp l0 k:Nat)))/\Fb [b,rb] base W (wd.alloc (.cells #[.string nm1,.int .i64 1,.int .i64 (s.cnt 1:Int),.int .i64 (endp l0 i:Int)] 73))):=⟨HLd.out.2.1.same (hbA.block _ HLd.out.2.1.lt),fun k hk=>(hbA.cell (p:=⟨eb,k,none⟩) (World.block_lt_of_cell? wd ⟨eb,k,none⟩ (HLd.out.2.2.1 k hk))).trans (HLd.out.2.2.1 k hk),HLd.out.2.2.2.1.trans (Fb.of_below (hbA.mono HLd.out.1.sz))⟩
   have HXB:Hid ((wd.alloc (.cells #[.string nm1,.int .i64 1,.int .i64 (s.cnt 1:Int),.int .i64 (endp l0 i:Int)] 73)).heap[W.heap.size]?=some (.cells #[.int .i64 kd,.string nm1,.int .i64 st,.int .i64 n,.int .i64 ks] 47 (0,0))):=(hbA.block _ (blk_lt hXB)).trans hXB
   have hSA:(wd.alloc (.cells #[.string nm1,.int .i64 1,.int .i64 (s.cnt 1:Int),.int .i64 (endp l0 i:Int)] 73)).cell? ⟨W.heap.size,1,none⟩=some (.string nm1)/\(wd.alloc (.cells #[.string nm1,.int .i64 1,.int .i64 (s.cnt 1:Int),.int .i64 (endp l0 i:Int)] 73)).cell? ⟨b,8,none⟩=some (.slice (some ⟨eb,0,none⟩) l0.length l0.length)/\(wd.alloc (.cells #[.string nm1,.int .i64 1,.int .i64 (s.cnt 1:Int),.int .i64 (endp l0 i:Int)] 73)).cell? ⟨eb,i,none⟩=some (.int .i64 (endp l0 i:Int)):=⟨by rw [World.cell?,HXB.out];rfl,by simp only [World.cell?,HOA.out.blk];rfl,HRA.out.2.1 i HS.out.2.1⟩
   have HSA:=hdn <| hSA
   have y9:wd.cell? ⟨b,9,none⟩=some (.slice ho s.known.reverse.length hc):=by simp only [World.cell?,HLd.out.1.blk];rfl
   have yA:(wd.alloc (.cells #[.string nm1,.int .i64 1,.int .i64 (s.cnt 1:Int),.int .i64 (endp l0 i:Int)] 73)).cell? ⟨b,9,none⟩=some (.slice ho s.known.reverse.length hc):=by simp only [World.cell?,HOA.out.blk];rfl
   have HOw:Hid ((wd.alloc (.cells #[.string nm1,.int .i64 1,.int .i64 (s.cnt 1:Int),.int .i64 (endp l0 i:Int)] 73)).ownsRow base 73 4 (.slice ho s.known.reverse.length hc) s.known.length (thF s.known.reverse)):=(HOA.out.own ⟨9,73,4,.slice ho s.known.reverse.length hc,s.known.length,thF s.known.reverse⟩ (by simp)).2
   clear hbA hXB
   refine rd2 4 17 (by kernel_rfl) rfl rfl (fun K hK=>?_) (fun K hK=>?_)
   rotate_right
   focus
    go_simp
    refine hK.out _ _ hSA (fun hS=>?_)
    refine wpAnyH_ready (rs:=[4]) (by kernel_rfl) (by simp) ?_
   rotate_right
   focus
    go_simp
    refine hK.out _ _ hS0 (fun hS=>?_)
    refine wpAnyH_ready (rs:=[17]) (by kernel_rfl) (by simp) ?_
   all_goals
    refine AllReadyH.cons rfl (fun K hK=>?_) AllReadyH.nil
    go_simp
    refine hK.out _ _ hSA (fun hS=>?_)
    refine rd1 18 rfl fun K hK=>?_
    refine step_gone _ rfl (.tmp 43) (.tmp 56) 52 rfl base 73 j0 (.agg #[.string ⟨#[]⟩,.int .i64 0,.int .i64 0,.int .i64 0]) 4 40 Tryz.underlying52 hj hj0 hj1 hj2 rfl (by decide) (.slice ho s.known.reverse.length hc) _ (thF s.known.reverse) (by simp [Act.eval]) HOw.out ⟨wd.heap.size,0,none⟩ 1 1 [.string nm1,.int .i64 1,.int .i64 (s.cnt 1:Int),.int .i64 (endp l0 i:Int)] (by simp [Act.eval]) rfl (cell_fourd wd _ _ _ _ _) (by intro u hu;simp only [List.mem_cons,List.not_mem_nil,or_false] at hu;rcases hu with rfl | rfl | rfl | rfl<;>rfl) (by have:=HS.out.2.2.2;unfold maxLen;omega) (by have:=HS.out.2.2.2;omega) HOA.out.sz (by decide) ?_
    intro hv' w4 hown4 hG4
    obtain ⟨p1,p2,p3,p4,p5⟩:=Ob.putF (os1:=(o5 s qv vv tv uv ov)) (os2:=[]) HOA.out hG4 hown4
    have e9:w4.cell? ⟨b,9,none⟩=some (.slice ho s.known.reverse.length hc):=by simp only [World.cell?,p1];rfl
    have f9:w4.frozen? ⟨b,9,none⟩=false:=fzb p1 9
    have s4:w4.cell? ⟨W.heap.size,1,none⟩=some (.string nm1)/\w4.cell? ⟨b,8,none⟩=some (.slice (some ⟨eb,0,none⟩) l0.length l0.length)/\w4.cell? ⟨eb,i,none⟩=some (.int .i64 (endp l0 i:Int)):=⟨by rw [World.cell?,p4 _ _ _ HXB.out (show (47:TypeId) ≠ 73 by decide)];rfl,by simp only [World.cell?,p1];rfl,(World.cell?_of_block (a:=⟨eb,i,none⟩) (p3 eb HLt.out.2.1)).trans HSA.out.2.2⟩
    obtain ⟨bo,bc,rfl⟩:=own_form hown4
    have H5:Hid (Ob (w4.setCell ⟨b,9,none⟩ (.slice bo (s.known.length+1) bc)) b base 55 (mkC nm rb rc l0.length eb qv vv tv uv ov (plc s.ev (5,0)) (.slice bo (s.known.length+1) bc) (s.cnt 1+1) (s.cnt 2) (s.cnt 3) (s.cnt 4)) ((o5 s qv vv tv uv ov)++[⟨9,73,4,.slice bo (s.known.length+1) bc,s.known.length+1,thF ((nm1,1,s.cnt 1,endp l0 i) :: s.known).reverse⟩])/\Rw (w4.setCell ⟨b,9,none⟩ (.slice bo (s.known.length+1) bc)) rb s.rows/\(∀ k,k < l0.length->(w4.setCell ⟨b,9,none⟩ (.slice bo (s.known.length+1) bc)).cell? ⟨eb,k,none⟩=some (.int .i64 (endp l0 k:Nat)))/\Fb [b,rb] base W (w4.setCell ⟨b,9,none⟩ (.slice bo (s.known.length+1) bc))/\(w4.setCell ⟨b,9,none⟩ (.slice bo (s.known.length+1) bc)).heap[W.heap.size]?=some (.cells #[.int .i64 kd,.string nm1,.int .i64 st,.int .i64 n,.int .i64 ks] 47 (0,0))):=by
     have hne:∀ k,k ≠ b->(w4.setCell ⟨b,9,none⟩ (.slice bo (s.known.length+1) bc)).heap[k]?=w4.heap[k]?:=fun k hk=>Below.heap_setCell w4 _ _ k (fun e=>hk e)
     refine ⟨by rw [thF_snoc];exact p2,HRA.out.1.same ((hne _ HLt.out.2.2.1).trans (p3 _ HLt.out.1)),fun k hk=>(World.cell?_of_block (a:=⟨eb,k,none⟩) ((hne _ HLt.out.2.2.2.1).trans (p3 _ HLt.out.2.1))).trans (HRA.out.2.1 k hk),HRA.out.2.2.trans (p5.wide (by simp)),(hne _ hnb).trans (p4 _ _ _ HXB.out (show (47:TypeId) ≠ 73 by decide))⟩
    have s5:(w4.setCell ⟨b,9,none⟩ (.slice bo (s.known.length+1) bc)).cell? ⟨W.heap.size,1,none⟩=some (.string nm1)/\(w4.setCell ⟨b,9,none⟩ (.slice bo (s.known.length+1) bc)).cell? ⟨b,8,none⟩=some (.slice (some ⟨eb,0,none⟩) l0.length l0.length)/\(w4.setCell ⟨b,9,none⟩ (.slice bo (s.known.length+1) bc)).cell? ⟨eb,i,none⟩=some (.int .i64 (endp l0 i:Int)):=⟨by rw [World.cell?,H5.out.2.2.2.2];rfl,by simp only [World.cell?,H5.out.1.blk];rfl,H5.out.2.2.1 i HS.out.2.1⟩
    clear hown4 hG4 p1 p2 p3 p4 p5
    refine hK.out _ _ s4 (fun hS=>?_)
    refine rd1 19 rfl fun K hK=>?_
    go_simp
    refine hK.out _ _ s4 (fun hS=>?_)
    refine rd1 20 rfl fun K hK=>?_
    go_simp
    refine hK.out _ _ s4 (fun hS=>?_)
    refine rd1 21 rfl fun K hK=>?_
    go_simp
    refine hK.out _ _ s5 (fun hS=>?_)
    refine wpAnyH_done (by kernel_rfl) ?_ _
    clear e9 f9 s4 s5 hS
    go_wp2_with fail
    go_meet
    case rel=>exact ⟨bo,bc,H5.out⟩
end Go.Proofs.YtfgpbdieaflclaaGreat.Nm
