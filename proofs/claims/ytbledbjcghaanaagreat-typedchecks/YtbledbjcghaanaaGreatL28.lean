import Derived.Test.YtbledbjcghaanaaGreatL27
import Derived.Test.YtbledbjcghaanaaGreatTl
import Derived.Deep.RegionHeld3
set_option maxHeartbeats 25600000
set_option maxRecDepth 100000
namespace Go.Proofs.YtbledbjcghaanaaGreat.Nm
open Go.RowKit Go.Maps Sp Lx Gr
theorem declareQ {kd:Int} {gb:Bool} (hkg:kd=2/\gb=false\/kd=3/\gb=true) {W:World} {b base rb rc eb m i:Nat} {nm:ByteArray} {l0:List Rz} {s:Rs} {qv vv tv uv ov hv:Value} (h:Mkr W b base rb rc eb nm l0 s qv vv tv uv ov hv) (hg:Good l0 m s) (hnd:Nd s) (hi:i < l0.length) (hl:l0.length<=2932031007317) (hT:TreeZ l0) (hon:lk s.ev (1,s.qs.length)=none) (hk:(rat s.rows i).kind=kd):
  Calls Tryz.prog 97 #[.pointer (pZ b),I (i:Int),I 1] W (MkL W b base rb rc eb nm l0 (askD i s)):=by
 have HOn:=hdn <| hon;have hlen:=like_len hg.like;have his:i < s.rows.length:=by omega
 obtain ⟨c0,c1,c2,c3,c4,_⟩:=h.r.cells (some_rat his);have b1:W.cell? ⟨b,1,none⟩=some (.slice (pZ rb) l0.length rc):=h.cell 1 _ rfl;obtain ⟨a0,a1,a2,a3,a4⟩:=row_cells W (rat s.rows i);have hkl:s.known.reverse.length<=1000:=by
  rw [List.length_reverse,hg.kl];have:=hg.q;have:=hg.v;have:=hg.t;have:=hg.u;omega
 have hcl:s.cnt 1<=16:=hg.cnt_le 1;have hgb:(kd == 3)=gb:=by rcases hkg with ⟨rfl,rfl⟩ | ⟨rfl,rfl⟩<;>rfl
 have hdk:decl (rat s.rows i).kind=1:=by rw [hk];rcases hkg with ⟨rfl,_⟩ | ⟨rfl,_⟩<;>rfl
 have HA:Hid (askD i s=if (lk s.known (rat s.rows i).name).isSome then .error 31 else if s.cnt 1=16 then .error 3 else .ok (s.dec i)):=by
  show _=_
  unfold askD;rw [hdk,if_neg (by decide)]
  rfl
 have HD:Hid (s.dec i=⟨numb s.rows i (s.cnt 1),((rat s.rows i).name,1,s.cnt 1,endp l0 i) :: s.known,s.qs++[((rat s.rows i).name,gb)],s.vs,s.ts,s.us,s.ev⟩):=by
  show _=_
  have he:endp (numb s.rows i (s.cnt 1)) i=endp l0 i:=endp_like ((numb_clr _ _ _).trans hg.like) i;unfold Rs.dec;rw [hdk,hk,he];rcases hkg with ⟨rfl,rfl⟩ | ⟨rfl,rfl⟩<;>rfl
 have HCn:Hid ((s.dec i).cnt 1=s.cnt 1+1/\(s.dec i).cnt 2=s.cnt 2/\(s.dec i).cnt 3=s.cnt 3/\(s.dec i).cnt 4=s.cnt 4):=by
  refine ⟨?_,?_,?_,?_⟩
  all_goals
   rw [cnt_dec s i _ (by rw [hdk];decide),hdk]
   rfl
 have hR5:rat s.rows i=⟨kd,(rat s.rows i).name,(rat s.rows i).stop,(rat s.rows i).n,(rat s.rows i).kids⟩:=by
  rw [<-hk]
 have hep:endp l0 i<=l0.length:=(end_kid hT.whole hi).2.2;have hb1:Below W.heap.size W (W.alloc (.cells #[I (rat s.rows i).kind,.string (rat s.rows i).name,I (rat s.rows i).stop,I (rat s.rows i).n,I (rat s.rows i).kids] 61)):=bAl W _;have h1:=h.below hb1;obtain ⟨ho,hc,hhv,hth⟩:=h1.things;subst hhv;have HM:=hdn <| h1;have HB1:Hid (Fb [b,rb] base W (W.alloc (.cells #[I (rat s.rows i).kind,.string (rat s.rows i).name,I (rat s.rows i).stop,I (rat s.rows i).n,I (rat s.rows i).kids] 61))/\b < W.heap.size/\eb < W.heap.size/\rb < W.heap.size):=⟨Fb.of_below (hb1.mono h.ob.sz),blk_lt h.ob.blk,Nat.lt_of_lt_of_le h.lt.2.1 h.ob.sz,h.r.lt⟩;have HNd:=hdn <| hnd;have HV:Hid (s.qs.length<=1000):=by show _<=_;have:=hg.q;have:=hg.v;have:=hg.t;have:=hg.u;omega
 have HS:Hid (i < s.rows.length/\i < l0.length/\s.us.length<=64/\s.known.length<=1000):=⟨his,hi,hg.u,by rw [<-List.length_reverse];exact hkl⟩
 generalize hxx:rat s.rows i=x at *;have HX:Hid (rat s.rows i=x):=hxx;obtain ⟨kd0,nm1,st,n,ks⟩:=x;dsimp only at *;replace hk:=hk.symm;subst hk;have b9:(W.alloc (.cells #[I kd,.string nm1,I st,I n,I ks] 61)).cell? ⟨b,9,none⟩=some (.slice ho s.known.reverse.length hc):=h1.cell 9 _ rfl;have bz:(W.alloc (.cells #[I kd,.string nm1,I st,I n,I ks] 61)).cell? ⟨b,11,none⟩=some (I (s.cnt 1:Nat)):=h1.cell 11 _ rfl;have fz:(W.alloc (.cells #[I kd,.string nm1,I st,I n,I ks] 61)).frozen? ⟨b,11,none⟩=false:=fzb h1.ob.blk 11;have HFd:=hdn <| find_any (nm:=nm1) b9 hth hkl;have HMs:Hid (∀ u,Calls Tryz.prog 128 #[I 1] u fun e w'=>e=.returned (I 16)/\w'=u):=fun u=>rmost_any 1 (by decide) (by decide) u
 have hi':(i:Int) < (l0.length:Int):=by omega
 have hi2:(i:Int)<=2932031007317:=by omega
 have hcl2:(s.cnt 1:Int)<=16:=by omega
 have hep2:(endp l0 i:Int)<=2932031007317:=by omega
 clear h hg hnd hi hl hlen his hkl hcl hdk hb1 h1 hth hep hR5 hT hxx hkg;generalize askD i s=R at *;go_enter Tryz.func97,Tryz.ntmps97;go_wp2_with fail;refine Calls.mono HFd.out ?_;rintro e w1 ⟨⟨j,hj,hnm,rfl⟩ | ⟨hno,rfl⟩,rfl⟩
 ·have hlk:(lk s.known nm1).isSome=true:=by
   rw [lk_nodup HNd.out (nm:=nm1) (v:=s.known.reverse[j].2) (by rw [<-hnm];exact List.mem_reverse.1 (List.getElem_mem hj))]
   rfl
  rw [if_pos hlk] at HA;have hj0:decide ((0:Int)<=(j:Int))=true:=decide_eq_true (by omega)
  have hj1:(0:Int)<=(j:Int):=by omega
  clear hlk hnm hj HFd HNd HD;go_wp2;go_ret;rw [HA.out];exact ⟨HB1.out.1,rfl⟩
 ·have hlk:(lk s.known nm1).isSome=false:=by rw [lk_none (fun x hx=>hno x (List.mem_reverse.2 hx))];rfl
  rw [hlk,if_neg (by decide)] at HA
  clear hno hlk HFd HNd;by_cases hfull:s.cnt 1=16
  ·have hfb:((s.cnt 1:Int) == 16)=true:=by simp [hfull]
   rw [if_pos hfull] at HA;clear hfull HD;go_wp2_with fail;refine Calls.mono (HMs.out _) ?_;rintro e w2 ⟨rfl,rfl⟩;go_wp2;go_ret;rw [HA.out];exact ⟨HB1.out.1,rfl⟩
  ·have hfb:((s.cnt 1:Int) == 16)=false:=by simp;omega
   rw [if_neg hfull] at HA;clear hfull;go_wp2_with fail;refine Calls.mono (HMs.out _) ?_;rintro e w2 ⟨rfl,rfl⟩
   go_upto_region 8 with fail
   have hO2:Ob ((W.alloc (.cells #[I kd,.string nm1,I st,I n,I ks] 61)).setCell ⟨b,11,none⟩ (I ((s.cnt 1:Int)+1))) b base 155 (mkC nm rb rc l0.length eb qv vv tv uv ov (plc s.ev (5,0)) (.slice ho s.known.reverse.length hc) (s.cnt 1+1) (s.cnt 2) (s.cnt 3) (s.cnt 4)) ((o5 s qv vv tv uv ov)++[⟨9,176,4,.slice ho s.known.reverse.length hc,s.known.length,thF s.known.reverse⟩]):=HM.out.ob.set 11 (I ((s.cnt 1:Int)+1)) (by simp)
   have hset:∀ k,k ≠ b->((W.alloc (.cells #[I kd,.string nm1,I st,I n,I ks] 61)).setCell ⟨b,11,none⟩ (I ((s.cnt 1:Int)+1))).heap[k]?=(W.alloc (.cells #[I kd,.string nm1,I st,I n,I ks] 61)).heap[k]?:=fun k hk=>Below.heap_setCell _ _ _ k (fun e=>hk e);have hlt:=HM.out.lt;have hnb:W.heap.size ≠ b:=by have:=HB1.out.2.1;omega
   have x1:((W.alloc (.cells #[I kd,.string nm1,I st,I n,I ks] 61)).setCell ⟨b,11,none⟩ (I ((s.cnt 1:Int)+1))).cell? ⟨W.heap.size,1,none⟩=some (.string nm1):=(World.cell?_of_block (a:=⟨W.heap.size,1,none⟩) (hset _ hnb)).trans a1;have x0:((W.alloc (.cells #[I kd,.string nm1,I st,I n,I ks] 61)).setCell ⟨b,11,none⟩ (I ((s.cnt 1:Int)+1))).cell? ⟨W.heap.size,0,none⟩=some (I kd):=(World.cell?_of_block (a:=⟨W.heap.size,0,none⟩) (hset _ hnb)).trans a0;have H2:Hid (Ob ((W.alloc (.cells #[I kd,.string nm1,I st,I n,I ks] 61)).setCell ⟨b,11,none⟩ (I ((s.cnt 1:Int)+1))) b base 155 (mkC nm rb rc l0.length eb qv vv tv uv ov (plc s.ev (5,0)) (.slice ho s.known.reverse.length hc) (s.cnt 1+1) (s.cnt 2) (s.cnt 3) (s.cnt 4)) ((o5 s qv vv tv uv ov)++[⟨9,176,4,.slice ho s.known.reverse.length hc,s.known.length,thF s.known.reverse⟩])/\Rw ((W.alloc (.cells #[I kd,.string nm1,I st,I n,I ks] 61)).setCell ⟨b,11,none⟩ (I ((s.cnt 1:Int)+1))) rb s.rows/\(∀ k,k < l0.length->((W.alloc (.cells #[I kd,.string nm1,I st,I n,I ks] 61)).setCell ⟨b,11,none⟩ (I ((s.cnt 1:Int)+1))).cell? ⟨eb,k,none⟩=some (I (endp l0 k:Nat)))/\Fb [b,rb] base W ((W.alloc (.cells #[I kd,.string nm1,I st,I n,I ks] 61)).setCell ⟨b,11,none⟩ (I ((s.cnt 1:Int)+1)))/\((W.alloc (.cells #[I kd,.string nm1,I st,I n,I ks] 61)).setCell ⟨b,11,none⟩ (I ((s.cnt 1:Int)+1))).cell? ⟨W.heap.size,1,none⟩=some (.string nm1)/\((W.alloc (.cells #[I kd,.string nm1,I st,I n,I ks] 61)).setCell ⟨b,11,none⟩ (I ((s.cnt 1:Int)+1))).cell? ⟨W.heap.size,0,none⟩=some (I kd)):=⟨hO2,HM.out.r.same (hset _ hlt.2.2.1),fun k hk=>(World.cell?_of_block (a:=⟨eb,k,none⟩) (hset _ hlt.2.2.2.1)).trans (HM.out.e k hk),HB1.out.1.trans ((Fr.set (F:=[b,rb]) _ 11 (I ((s.cnt 1:Int)+1)) (by simp)).fbw HM.out.ob.sz),x1,x0⟩
   have HXb:Hid (((W.alloc (.cells #[I kd,.string nm1,I st,I n,I ks] 61)).setCell ⟨b,11,none⟩ (I ((s.cnt 1:Int)+1))).drew.heap[W.heap.size]?=some (.cells #[I kd,.string nm1,I st,I n,I ks] 61 (0,0))):=(hset _ hnb).trans (heap_alloc_new W _);have HLt:=hdn <| hlt;clear hO2 hset hlt x1 x0 a0 a1 a2 a3 a4 b1 b9 bz fz c0 c1 c2 c3 c4 HMs hfb;generalize (W.alloc (.cells #[I kd,.string nm1,I st,I n,I ks] 61)).setCell ⟨b,11,none⟩ (I ((s.cnt 1:Int)+1))=w3 at *
   go_cut [] (fun wx=>∃ bo bc,Ob wx b base 155 (mkC nm rb rc l0.length eb qv vv tv uv ov (plc s.ev (5,0)) (.slice bo (s.known.length+1) bc) (s.cnt 1+1) (s.cnt 2) (s.cnt 3) (s.cnt 4)) ((o5 s qv vv tv uv ov)++[⟨9,176,4,.slice bo (s.known.length+1) bc,s.known.length+1,thF ((nm1,1,s.cnt 1,endp l0 i) :: s.known).reverse⟩])/\Rw wx rb s.rows/\(∀ k,k < l0.length->wx.cell? ⟨eb,k,none⟩=some (I (endp l0 k:Nat)))/\Fb [b,rb] base W wx/\wx.heap[W.heap.size]?=some (.cells #[I kd,.string nm1,I st,I n,I ks] 61 (0,0)))
   case rest=>
    obtain ⟨bo,bc,hO,hR,hE,hF,hXB⟩:=hcut;have y1:wc.cell? ⟨b,1,none⟩=some (.slice (pZ rb) l0.length rc):=by simp only [World.cell?,hO.blk];rfl
    have hxr:=some_rat HS.out.1;rw [HX.out] at hxr;obtain ⟨_,_,_,d3,_,dfz⟩:=hR.cells hxr;have df3:=dfz (i * 5+3);dsimp only at d3;have hbk:∀ k,k ≠ rb->(wc.setCell ⟨rb,i * 5+3,none⟩ (I (s.cnt 1:Int))).heap[k]?=wc.heap[k]?:=fun k hk=>Below.heap_setCell wc _ _ k (fun e=>hk e);have hnr:W.heap.size ≠ rb:=by have:=HB1.out.2.2.2;omega
    have hR6:=hR.setN hxr (s.cnt 1:Int);have H6:Hid (Ob (wc.setCell ⟨rb,i * 5+3,none⟩ (I (s.cnt 1:Int))) b base 155 (mkC nm rb rc l0.length eb qv vv tv uv ov (plc s.ev (5,0)) (.slice bo (s.known.length+1) bc) (s.cnt 1+1) (s.cnt 2) (s.cnt 3) (s.cnt 4)) ((o5 s qv vv tv uv ov)++[⟨9,176,4,.slice bo (s.known.length+1) bc,s.known.length+1,thF ((nm1,1,s.cnt 1,endp l0 i) :: s.known).reverse⟩])/\Rw (wc.setCell ⟨rb,i * 5+3,none⟩ (I (s.cnt 1:Int))) rb (numb s.rows i (s.cnt 1))/\(∀ k,k < l0.length->(wc.setCell ⟨rb,i * 5+3,none⟩ (I (s.cnt 1:Int))).cell? ⟨eb,k,none⟩=some (I (endp l0 k:Nat)))/\Fb [b,rb] base W (wc.setCell ⟨rb,i * 5+3,none⟩ (I (s.cnt 1:Int)))/\(wc.setCell ⟨rb,i * 5+3,none⟩ (I (s.cnt 1:Int))).heap[W.heap.size]?=some (.cells #[I kd,.string nm1,I st,I n,I ks] 61 (0,0))):=by
     refine ⟨hO.other HLt.out.1 HLt.out.2.2.1 (Fr.set wc _ _ (by simp)),?_,fun k hk=>(World.cell?_of_block (a:=⟨eb,k,none⟩) (hbk _ (Ne.symm HLt.out.2.2.2.2))).trans (hE k hk),hF.trans ((Fr.set (F:=[b,rb]) wc (i * 5+3) (I (s.cnt 1:Int)) (by simp)).fbw hO.sz),(hbk _ hnr).trans hXB⟩
     unfold numb;rw [HX.out];exact hR6
    clear hO hR hE hF hXB hbk hxr hR6 dfz HXb H2 HM
    go_upto_region 12 with fail
    generalize wc.setCell ⟨rb,i * 5+3,none⟩ (I (s.cnt 1:Int))=w6 at *;have y3:w6.cell? ⟨b,2,none⟩=some qv:=by simp only [World.cell?,H6.out.1.blk];rfl
    have x1:w6.cell? ⟨W.heap.size,1,none⟩=some (.string nm1):=by rw [World.cell?,H6.out.2.2.2.2];rfl
    have x0:w6.cell? ⟨W.heap.size,0,none⟩=some (I kd):=by rw [World.cell?,H6.out.2.2.2.2];rfl
    have hbU:Below w6.heap.size w6 (w6.alloc (.cells #[.string nm1,.bool gb] 77)):=bAl w6 _;have yA:(w6.alloc (.cells #[.string nm1,.bool gb] 77)).cell? ⟨b,2,none⟩=some qv:=(hbU.cell (p:=⟨b,2,none⟩) (blk_lt H6.out.1.blk)).trans y3;have HO7:=hdn <| H6.out.1.below hbU.drew;have HR7:Hid (Rw (w6.alloc (.cells #[.string nm1,.bool gb] 77)).drew rb (numb s.rows i (s.cnt 1))/\(∀ k,k < l0.length->(w6.alloc (.cells #[.string nm1,.bool gb] 77)).drew.cell? ⟨eb,k,none⟩=some (I (endp l0 k:Nat)))/\Fb [b,rb] base W (w6.alloc (.cells #[.string nm1,.bool gb] 77)).drew):=⟨H6.out.2.1.same (hbU.drew.block _ H6.out.2.1.lt),fun k hk=>(hbU.drew.cell (p:=⟨eb,k,none⟩) (World.block_lt_of_cell? w6 ⟨eb,k,none⟩ (H6.out.2.2.1 k hk))).trans (H6.out.2.2.1 k hk),H6.out.2.2.2.1.trans (Fb.of_below (hbU.drew.mono H6.out.1.sz))⟩;have HOw:Hid ((w6.alloc (.cells #[.string nm1,.bool gb] 77)).drew.ownsRow base 77 2 qv s.qs.length (qF s.qs)):=(HO7.out.own ⟨2,77,2,qv,s.qs.length,qF s.qs⟩ (by simp)).2
    obtain ⟨j0,hj,hj0,hj1,hj2⟩:=info_parts infoQ;have hln:s.qs.length<=1000:=HV.out;have HLn:=hdn <| hln;clear hbU hln
    go_region_law (refine step_gone _ rfl (.tmp 77) (.tmp 84) 23 rfl base 77 j0 (.agg #[.string ByteArray.empty,.bool false]) 2 24 Tryz.underlying23 hj hj0 hj1 hj2 rfl (by decide) qv _ (qF s.qs) (by simp [Act.eval]) HOw.out ⟨w6.heap.size,0,none⟩ 1 1 [.string nm1,.bool gb] (by simp [Act.eval]) rfl (cell_twod w6 _ _ _ _ rfl) (by intro u hu;simp only [List.mem_cons,List.not_mem_nil,or_false] at hu;rcases hu with rfl | rfl<;>rfl) (by have:=HLn.out;unfold maxLen;omega) (by have:=HLn.out;omega) HO7.out.sz (by decide) ?_
                   intro xv' w8 hown8 hG8;obtain ⟨p1,p2,p3,p4,p5⟩:=Ob.putF (os1:=[]) (os2:=[⟨3,9,1,vv,s.vs.length,s.vs.map Value.string⟩,⟨4,9,1,tv,s.ts.length,s.ts.map Value.string⟩,⟨5,3,1,uv,s.us.length,nv s.us⟩,⟨6,3,1,ov,s.qs.length,iv (onsOf s.ev s.qs.length)⟩,⟨9,176,4,.slice bo (s.known.length+1) bc,s.known.length+1,thF ((nm1,1,s.cnt 1,endp l0 i) :: s.known).reverse⟩]) HO7.out hG8 hown8;have e3:w8.cell? ⟨b,2,none⟩=some qv:=by simp only [World.cell?,p1];rfl
                   have f3:w8.frozen? ⟨b,2,none⟩=false:=fzb p1 2;have HP2:=hdn <| p2;have HP3:=hdn <| p3;have HP5:=hdn <| p5;obtain ⟨uo',uc',rfl⟩:=own_form hown8;clear hown8 hG8 p1 p2 p3 p4 p5)
    all_goals
     have hne:∀ k,k ≠ b->(w8.setCell ⟨b,2,none⟩ (.slice uo' (s.qs.length+1) uc')).heap[k]?=w8.heap[k]?:=fun k hk=>Below.heap_setCell w8 _ _ k (fun e=>hk e);have H9:Hid (Ob (w8.setCell ⟨b,2,none⟩ (.slice uo' (s.qs.length+1) uc')) b base 155 (mkC nm rb rc l0.length eb (.slice uo' (s.qs.length+1) uc') vv tv uv ov (plc s.ev (5,0)) (.slice bo (s.known.length+1) bc) (s.cnt 1+1) (s.cnt 2) (s.cnt 3) (s.cnt 4)) ([⟨2,77,2,.slice uo' (s.qs.length+1) uc',s.qs.length+1,qF s.qs++[.string nm1,.bool gb]⟩]++[⟨3,9,1,vv,s.vs.length,s.vs.map Value.string⟩,⟨4,9,1,tv,s.ts.length,s.ts.map Value.string⟩,⟨5,3,1,uv,s.us.length,nv s.us⟩,⟨6,3,1,ov,s.qs.length,iv (onsOf s.ev s.qs.length)⟩,⟨9,176,4,.slice bo (s.known.length+1) bc,s.known.length+1,thF ((nm1,1,s.cnt 1,endp l0 i) :: s.known).reverse⟩])/\Rw (w8.setCell ⟨b,2,none⟩ (.slice uo' (s.qs.length+1) uc')) rb (numb s.rows i (s.cnt 1))/\(∀ k,k < l0.length->(w8.setCell ⟨b,2,none⟩ (.slice uo' (s.qs.length+1) uc')).cell? ⟨eb,k,none⟩=some (I (endp l0 k:Nat)))/\Fb [b,rb] base W (w8.setCell ⟨b,2,none⟩ (.slice uo' (s.qs.length+1) uc'))):=⟨HP2.out,HR7.out.1.same ((hne _ HLt.out.2.2.1).trans (HP3.out _ HLt.out.1)),fun k hk=>(World.cell?_of_block (a:=⟨eb,k,none⟩) ((hne _ HLt.out.2.2.2.1).trans (HP3.out _ HLt.out.2.1))).trans (HR7.out.2.1 k hk),HR7.out.2.2.trans (HP5.out.wide (by simp))⟩
     clear hne HO7 HOw HP2 HP3 HP5 HR7 H6 y3 x1 x0 yA
     go_upto_region 13 with fail
     clear e3 f3;generalize w8.setCell ⟨b,2,none⟩ (.slice uo' (s.qs.length+1) uc')=w9 at *;have y6:w9.cell? ⟨b,6,none⟩=some ov:=by simp only [World.cell?,H9.out.1.blk];rfl
     have hbV:Below w9.heap.size w9 (w9.alloc (.cells #[I (-1)] 3)):=bAl w9 _;have HOa:=hdn <| H9.out.1.below hbV;have HRa:Hid (Rw (w9.alloc (.cells #[I (-1)] 3)) rb (numb s.rows i (s.cnt 1))/\(∀ k,k < l0.length->(w9.alloc (.cells #[I (-1)] 3)).cell? ⟨eb,k,none⟩=some (I (endp l0 k:Nat)))/\Fb [b,rb] base W (w9.alloc (.cells #[I (-1)] 3))):=⟨H9.out.2.1.same (hbV.block _ H9.out.2.1.lt),fun k hk=>(hbV.cell (p:=⟨eb,k,none⟩) (World.block_lt_of_cell? w9 ⟨eb,k,none⟩ (H9.out.2.2.1 k hk))).trans (H9.out.2.2.1 k hk),H9.out.2.2.2.trans (Fb.of_below (hbV.mono H9.out.1.sz))⟩;have HOx:Hid ((w9.alloc (.cells #[I (-1)] 3)).ownsRow base 3 1 ov s.qs.length (iv (onsOf s.ev s.qs.length))):=(HOa.out.own ⟨6,3,1,ov,s.qs.length,iv (onsOf s.ev s.qs.length)⟩ (by simp)).2
     obtain ⟨j0,hj,hj0,hj1,hj2⟩:=info_parts infoI;clear hbV;go_wp2_with (at_builtin;refine append_gone _ rfl _ _ 25 rfl base 3 j0 (I 0) 1 8 Tryz.underlying25 hj hj0 hj1 hj2 rfl (by decide) ov _ (iv (onsOf s.ev s.qs.length)) rfl HOx.out ⟨w9.heap.size,0,none⟩ 1 1 [I (-1)] rfl rfl (cell_one w9 _ _) (by intro u hu;simp only [List.mem_cons,List.not_mem_nil,or_false] at hu;subst hu;rfl) (by have:=HLn.out;unfold maxLen;omega) (by have:=HLn.out;omega) HOa.out.sz (by decide) ?_)
     intro ov' wE hownE hGE;obtain ⟨p1,p2,p3,p4,p5⟩:=Ob.putF (os1:=[⟨2,77,2,.slice uo' (s.qs.length+1) uc',s.qs.length+1,qF s.qs++[.string nm1,.bool gb]⟩,⟨3,9,1,vv,s.vs.length,s.vs.map Value.string⟩,⟨4,9,1,tv,s.ts.length,s.ts.map Value.string⟩,⟨5,3,1,uv,s.us.length,nv s.us⟩]) (os2:=[⟨9,176,4,.slice bo (s.known.length+1) bc,s.known.length+1,thF ((nm1,1,s.cnt 1,endp l0 i) :: s.known).reverse⟩]) HOa.out hGE hownE;have e6:wE.cell? ⟨b,6,none⟩=some ov:=by simp only [World.cell?,p1];rfl
     have f6:wE.frozen? ⟨b,6,none⟩=false:=fzb p1 6;have hne:∀ k,k ≠ b->(wE.setCell ⟨b,6,none⟩ ov').heap[k]?=wE.heap[k]?:=fun k hk=>Below.heap_setCell wE _ _ k (fun e=>hk e);have HF:Hid (Fb [b,rb] base W (wE.setCell ⟨b,6,none⟩ ov')):=HRa.out.2.2.trans (p5.wide (by simp))
     have HEnd:Hid (Mkr (wE.setCell ⟨b,6,none⟩ ov') b base rb rc eb nm l0 (s.dec i) (.slice uo' (s.qs.length+1) uc') vv tv uv ov' (.slice bo (s.known.length+1) bc)):=by
      have hd:=HD.out;have g1:(s.dec i).rows=numb s.rows i (s.cnt 1):=by rw [hd]
      have g2:(s.dec i).known=(nm1,1,s.cnt 1,endp l0 i) :: s.known:=by rw [hd]
      have g3:(s.dec i).qs=s.qs++[(nm1,gb)]:=by rw [hd]
      have g4:(s.dec i).vs=s.vs:=by rw [hd]
      have g5:(s.dec i).ts=s.ts:=by rw [hd]
      have g6:(s.dec i).us=s.us:=by rw [hd]
      have g7:(s.dec i).ev=s.ev:=by rw [hd]
      refine ⟨?_,by rw [g1];exact HRa.out.1.same ((hne _ HLt.out.2.2.1).trans (p3 _ HLt.out.1)),fun k hk=>(World.cell?_of_block (a:=⟨eb,k,none⟩) ((hne _ HLt.out.2.2.2.1).trans (p3 _ HLt.out.2.1))).trans (HRa.out.2.1 k hk),HLt.out⟩
      have e1:qF (s.qs++[(nm1,gb)])=qF s.qs++[.string nm1,.bool gb]:=by simp [qF]
      have e2:(s.qs++[(nm1,gb)]).length=s.qs.length+1:=by simp
      have e3:iv (onsOf s.ev (s.qs.length+1))=iv (onsOf s.ev s.qs.length)++[I (-1)]:=by
       rw [onsOf_succ];have hpl:plc s.ev (1,s.qs.length)=-1:=by unfold plc;rw [HOn.out]
       rw [hpl];simp [iv]
      rw [HCn.out.1,HCn.out.2.1,HCn.out.2.2.1,HCn.out.2.2.2,g2,g3,g4,g5,g6,g7,e1,e2,e3,List.length_cons];exact p2
     obtain ⟨oo',oc',rfl⟩:=own_form hownE;clear hownE hGE p1 p2 p3 p4 p5 hne;go_wp2;go_ret;rw [HA.out];exact ⟨HF.out,rfl,_,_,_,_,_,_,HEnd.out⟩
   have hbd:Below w3.heap.size w3 w3.drew:=(Below.refl _ w3).drew;have HLd:Hid (Ob w3.drew b base 155 (mkC nm rb rc l0.length eb qv vv tv uv ov (plc s.ev (5,0)) (.slice ho s.known.reverse.length hc) (s.cnt 1+1) (s.cnt 2) (s.cnt 3) (s.cnt 4)) ((o5 s qv vv tv uv ov)++[⟨9,176,4,.slice ho s.known.reverse.length hc,s.known.length,thF s.known.reverse⟩])/\Rw w3.drew rb s.rows/\(∀ k,k < l0.length->w3.drew.cell? ⟨eb,k,none⟩=some (I (endp l0 k:Nat)))/\Fb [b,rb] base W w3.drew/\w3.drew.cell? ⟨W.heap.size,1,none⟩=some (.string nm1)/\w3.drew.cell? ⟨W.heap.size,0,none⟩=some (I kd)):=⟨H2.out.1.below hbd,H2.out.2.1.same rfl,H2.out.2.2.1,H2.out.2.2.2.1.trans (Fb.of_below (hbd.mono H2.out.1.sz)),H2.out.2.2.2.2.1,H2.out.2.2.2.2.2⟩;clear hbd H2;have hS0:w3.drew.cell? ⟨W.heap.size,1,none⟩=some (.string nm1)/\w3.drew.cell? ⟨b,8,none⟩=some (.slice (pZ eb) l0.length l0.length)/\w3.drew.cell? ⟨eb,i,none⟩=some (I (endp l0 i:Int)):=⟨HLd.out.2.2.2.2.1,by simp only [World.cell?,HLd.out.1.blk];rfl,HLd.out.2.2.1 i HS.out.2.1⟩
   obtain ⟨j0,hj,hj0,hj1,hj2⟩:=info_parts infoTh;refine wp_region_held (S:=fun w'=>w'.cell? ⟨W.heap.size,1,none⟩=some (.string nm1)/\w'.cell? ⟨b,8,none⟩=some (.slice (pZ eb) l0.length l0.length)/\w'.cell? ⟨eb,i,none⟩=some (I (endp l0 i:Int))) (by kernel_rfl) ?_
   have hS:(fun w':World=>w'.cell? ⟨W.heap.size,1,none⟩=some (.string nm1)/\w'.cell? ⟨b,8,none⟩=some (.slice (pZ eb) l0.length l0.length)/\w'.cell? ⟨eb,i,none⟩=some (I (endp l0 i:Int))) w3.drew:=hS0;change wpAnyH _ _ _ _ _ _ _ _ w3.drew;refine tq 0 rfl hS ?_;refine tq 1 rfl hS ?_;refine tq 2 rfl hS ?_;refine tq 3 rfl hS ?_;refine tq 5 rfl hS ?_;refine tq 6 rfl hS ?_;refine tq 7 rfl hS ?_;refine tq 8 rfl hS ?_;refine tq 9 rfl hS ?_;refine tq 10 rfl hS ?_;refine tq 11 rfl hS ?_;refine tq 12 rfl hS ?_;refine tq 13 rfl hS ?_;refine tq 14 rfl hS ?_;refine tq 15 rfl hS ?_;refine tq 16 rfl hS ?_;have hXB:w3.drew.heap[W.heap.size]?=some (.cells #[I kd,.string nm1,I st,I n,I ks] 61 (0,0)):=HXb.out;generalize w3.drew=wd at *;have hbA:Below wd.heap.size wd (wd.alloc (.cells #[.string nm1,I 1,I (s.cnt 1:Int),I (endp l0 i:Int)] 176)):=bAl wd _;have HOA:=hdn <| HLd.out.1.below hbA;have HRA:Hid (Rw (wd.alloc (.cells #[.string nm1,I 1,I (s.cnt 1:Int),I (endp l0 i:Int)] 176)) rb s.rows/\(∀ k,k < l0.length->(wd.alloc (.cells #[.string nm1,I 1,I (s.cnt 1:Int),I (endp l0 i:Int)] 176)).cell? ⟨eb,k,none⟩=some (I (endp l0 k:Nat)))/\Fb [b,rb] base W (wd.alloc (.cells #[.string nm1,I 1,I (s.cnt 1:Int),I (endp l0 i:Int)] 176))):=⟨HLd.out.2.1.same (hbA.block _ HLd.out.2.1.lt),fun k hk=>(hbA.cell (p:=⟨eb,k,none⟩) (World.block_lt_of_cell? wd ⟨eb,k,none⟩ (HLd.out.2.2.1 k hk))).trans (HLd.out.2.2.1 k hk),HLd.out.2.2.2.1.trans (Fb.of_below (hbA.mono HLd.out.1.sz))⟩;have HXB:Hid ((wd.alloc (.cells #[.string nm1,I 1,I (s.cnt 1:Int),I (endp l0 i:Int)] 176)).heap[W.heap.size]?=some (.cells #[I kd,.string nm1,I st,I n,I ks] 61 (0,0))):=(hbA.block _ (blk_lt hXB)).trans hXB;have hSA:(wd.alloc (.cells #[.string nm1,I 1,I (s.cnt 1:Int),I (endp l0 i:Int)] 176)).cell? ⟨W.heap.size,1,none⟩=some (.string nm1)/\(wd.alloc (.cells #[.string nm1,I 1,I (s.cnt 1:Int),I (endp l0 i:Int)] 176)).cell? ⟨b,8,none⟩=some (.slice (pZ eb) l0.length l0.length)/\(wd.alloc (.cells #[.string nm1,I 1,I (s.cnt 1:Int),I (endp l0 i:Int)] 176)).cell? ⟨eb,i,none⟩=some (I (endp l0 i:Int)):=⟨by rw [World.cell?,HXB.out];rfl,by simp only [World.cell?,HOA.out.blk];rfl,HRA.out.2.1 i HS.out.2.1⟩
   have HSA:=hdn <| hSA;have y9:wd.cell? ⟨b,9,none⟩=some (.slice ho s.known.reverse.length hc):=by simp only [World.cell?,HLd.out.1.blk];rfl
   have yA:(wd.alloc (.cells #[.string nm1,I 1,I (s.cnt 1:Int),I (endp l0 i:Int)] 176)).cell? ⟨b,9,none⟩=some (.slice ho s.known.reverse.length hc):=by simp only [World.cell?,HOA.out.blk];rfl
   have HOw:Hid ((wd.alloc (.cells #[.string nm1,I 1,I (s.cnt 1:Int),I (endp l0 i:Int)] 176)).ownsRow base 176 4 (.slice ho s.known.reverse.length hc) s.known.length (thF s.known.reverse)):=(HOA.out.own ⟨9,176,4,.slice ho s.known.reverse.length hc,s.known.length,thF s.known.reverse⟩ (by simp)).2
   clear hbA hXB;refine rd2 4 17 (by kernel_rfl) rfl rfl (fun K hK=>?_) (fun K hK=>?_)
   rotate_right
   focus
    go_simp;refine hK.out _ _ hSA (fun hS=>?_);refine wpAnyH_ready (rs:=[4]) (by kernel_rfl) (by simp) ?_
   rotate_right
   focus
    go_simp;refine hK.out _ _ hS0 (fun hS=>?_);refine wpAnyH_ready (rs:=[17]) (by kernel_rfl) (by simp) ?_
   all_goals
    refine AllReadyH.cons rfl (fun K hK=>?_) AllReadyH.nil;go_simp;refine hK.out _ _ hSA (fun hS=>?_);refine rd1 18 rfl fun K hK=>?_;refine step_gone _ rfl (.tmp 43) (.tmp 56) 152 rfl base 176 j0 (.agg #[.string ⟨#[]⟩,I 0,I 0,I 0]) 4 40 Tryz.underlying152 hj hj0 hj1 hj2 rfl (by decide) (.slice ho s.known.reverse.length hc) _ (thF s.known.reverse) (by simp [Act.eval]) HOw.out ⟨wd.heap.size,0,none⟩ 1 1 [.string nm1,I 1,I (s.cnt 1:Int),I (endp l0 i:Int)] (by simp [Act.eval]) rfl (cell_fourd wd _ _ _ _ _) (by intro u hu;simp only [List.mem_cons,List.not_mem_nil,or_false] at hu;rcases hu with rfl | rfl | rfl | rfl<;>rfl) (by have:=HS.out.2.2.2;unfold maxLen;omega) (by have:=HS.out.2.2.2;omega) HOA.out.sz (by decide) ?_
    intro hv' w4 hown4 hG4;obtain ⟨p1,p2,p3,p4,p5⟩:=Ob.putF (os1:=(o5 s qv vv tv uv ov)) (os2:=[]) HOA.out hG4 hown4;have e9:w4.cell? ⟨b,9,none⟩=some (.slice ho s.known.reverse.length hc):=by simp only [World.cell?,p1];rfl
    have f9:w4.frozen? ⟨b,9,none⟩=false:=fzb p1 9;have s4:w4.cell? ⟨W.heap.size,1,none⟩=some (.string nm1)/\w4.cell? ⟨b,8,none⟩=some (.slice (pZ eb) l0.length l0.length)/\w4.cell? ⟨eb,i,none⟩=some (I (endp l0 i:Int)):=⟨by rw [World.cell?,p4 _ _ _ HXB.out (show (61:TypeId) ≠ 176 by decide)];rfl,by simp only [World.cell?,p1];rfl,(World.cell?_of_block (a:=⟨eb,i,none⟩) (p3 eb HLt.out.2.1)).trans HSA.out.2.2⟩
    obtain ⟨bo,bc,rfl⟩:=own_form hown4;have H5:Hid (Ob (w4.setCell ⟨b,9,none⟩ (.slice bo (s.known.length+1) bc)) b base 155 (mkC nm rb rc l0.length eb qv vv tv uv ov (plc s.ev (5,0)) (.slice bo (s.known.length+1) bc) (s.cnt 1+1) (s.cnt 2) (s.cnt 3) (s.cnt 4)) ((o5 s qv vv tv uv ov)++[⟨9,176,4,.slice bo (s.known.length+1) bc,s.known.length+1,thF ((nm1,1,s.cnt 1,endp l0 i) :: s.known).reverse⟩])/\Rw (w4.setCell ⟨b,9,none⟩ (.slice bo (s.known.length+1) bc)) rb s.rows/\(∀ k,k < l0.length->(w4.setCell ⟨b,9,none⟩ (.slice bo (s.known.length+1) bc)).cell? ⟨eb,k,none⟩=some (I (endp l0 k:Nat)))/\Fb [b,rb] base W (w4.setCell ⟨b,9,none⟩ (.slice bo (s.known.length+1) bc))/\(w4.setCell ⟨b,9,none⟩ (.slice bo (s.known.length+1) bc)).heap[W.heap.size]?=some (.cells #[I kd,.string nm1,I st,I n,I ks] 61 (0,0))):=by
     have hne:∀ k,k ≠ b->(w4.setCell ⟨b,9,none⟩ (.slice bo (s.known.length+1) bc)).heap[k]?=w4.heap[k]?:=fun k hk=>Below.heap_setCell w4 _ _ k (fun e=>hk e);refine ⟨by rw [thF_snoc];exact p2,HRA.out.1.same ((hne _ HLt.out.2.2.1).trans (p3 _ HLt.out.1)),fun k hk=>(World.cell?_of_block (a:=⟨eb,k,none⟩) ((hne _ HLt.out.2.2.2.1).trans (p3 _ HLt.out.2.1))).trans (HRA.out.2.1 k hk),HRA.out.2.2.trans (p5.wide (by simp)),(hne _ hnb).trans (p4 _ _ _ HXB.out (show (61:TypeId) ≠ 176 by decide))⟩
    have s5:(w4.setCell ⟨b,9,none⟩ (.slice bo (s.known.length+1) bc)).cell? ⟨W.heap.size,1,none⟩=some (.string nm1)/\(w4.setCell ⟨b,9,none⟩ (.slice bo (s.known.length+1) bc)).cell? ⟨b,8,none⟩=some (.slice (pZ eb) l0.length l0.length)/\(w4.setCell ⟨b,9,none⟩ (.slice bo (s.known.length+1) bc)).cell? ⟨eb,i,none⟩=some (I (endp l0 i:Int)):=⟨by rw [World.cell?,H5.out.2.2.2.2];rfl,by simp only [World.cell?,H5.out.1.blk];rfl,H5.out.2.2.1 i HS.out.2.1⟩
    clear hown4 hG4 p1 p2 p3 p4 p5;refine hK.out _ _ s4 (fun hS=>?_);refine rd1 19 rfl fun K hK=>?_;go_simp;refine hK.out _ _ s4 (fun hS=>?_);refine rd1 20 rfl fun K hK=>?_;go_simp;refine hK.out _ _ s4 (fun hS=>?_);refine rd1 21 rfl fun K hK=>?_;go_simp;refine hK.out _ _ s5 (fun hS=>?_);refine wpAnyH_done (by kernel_rfl) ?_ _
    clear e9 f9 s4 s5 hS;go_wp2_with fail;go_meet
    case rel=>exact ⟨bo,bc,H5.out⟩
theorem declareR_any {W:World} {b base rb rc eb m i:Nat} {nm:ByteArray} {l0:List Rz} {s:Rs} {qv vv tv uv ov hv:Value} (h:Mkr W b base rb rc eb nm l0 s qv vv tv uv ov hv) (hg:Good l0 m s) (hI:Inv2 s) (hi:i < l0.length) (hl:l0.length<=2932031007317) (hT:TreeZ l0) (hk:decl (rat s.rows i).kind ≠ 0):
  Calls Tryz.prog 97 #[.pointer (pZ b),I (i:Int),I (decl (rat s.rows i).kind:Nat)] W (MkL W b base rb rc eb nm l0 (askD i s)):=by
 rcases decl_cases (rat s.rows i).kind with ⟨e,ed⟩ | ⟨e,ed⟩ | ⟨e,ed⟩ | ⟨e,ed⟩ | ⟨e,ed⟩ | ⟨_,_,_,_,_,ed⟩
 ·rw [ed];exact declareQ (Or.inl ⟨rfl,rfl⟩) h hg hI.nd hi hl hT hI.on e
 ·rw [ed];exact declareQ (Or.inr ⟨rfl,rfl⟩) h hg hI.nd hi hl hT hI.on e
 ·rw [ed];exact declare4 h hg hI.nd hi hl hT e
 ·rw [ed];exact declare5 h hg hI.nd hi hl hT e
 ·rw [ed];exact declare7 h hg hI.nd hi hl hT e
 ·exact absurd ed hk
theorem rlaid_any {W:World} {c0 c2 c3 c4 c5 c6 c7:Value} {cap uc eb row:Nat} {ao uo:Option Addr} {l:List Rz} {sums:List Nat} (hr:IsRz W ao l) (hu:IsSums W uo sums) (he:W.cell? ⟨eb,row,none⟩=some (I (endp l row:Nat)))
  (hT:TreeZ l) (hl:l.length<=2932031007317) (hs:sums.length<=1000) (hrow:row < l.length) (hcall:∀ j,row<=j->j < endp l row->(rat l j).kind=22->0<=(rat l j).n/\(rat l j).n < (sums.length:Int)):
  Calls Tryz.prog 104 #[.agg #[c0,.slice ao l.length cap,c2,c3,c4,c5,c6,c7],.slice (pZ eb) l.length l.length,.slice uo sums.length uc,I (row:Int)] W fun e w'=>e=.returned (I (laidAt l sums row:Nat))/\Below W.heap.size W w':=by
 have hb1:Below W.heap.size W (W.alloc (.cells #[c0,.slice ao l.length cap,c2,c3,c4,c5,c6,c7] 27)):=bAl W _;have hnew:=heap_alloc_new W (.cells #[c0,.slice ao l.length cap,c2,c3,c4,c5,c6,c7] 27);have k1:(W.alloc (.cells #[c0,.slice ao l.length cap,c2,c3,c4,c5,c6,c7] 27)).cell? ⟨W.heap.size,1,none⟩=some (.slice ao l.length cap):=by rw [World.cell?,hnew];rfl
 have e1:(W.alloc (.cells #[c0,.slice ao l.length cap,c2,c3,c4,c5,c6,c7] 27)).cell? ⟨eb,row,none⟩=some (I (endp l row:Nat)):=(hb1.cell (p:=⟨eb,row,none⟩) (World.block_lt_of_cell? W ⟨eb,row,none⟩ he)).trans he;have HB:Hid (Below W.heap.size W (W.alloc (.cells #[c0,.slice ao l.length cap,c2,c3,c4,c5,c6,c7] 27))):=hb1;have HD:Hid (row < endp l row/\endp l row<=l.length):=(end_kid hT.whole hrow).2;have HP:Hid (∀ (a b:Nat) (w:World),a<=4611686018427387904->b<=4611686018427387904->Calls Tryz.prog 103 #[I (a:Int),I (b:Int)] w fun e w'=>e=.returned (I (pls a b:Nat))/\w'=w):=fun a b w ha hb=>rplus_any a b ha hb w;have HR:Hid (IsRz (W.alloc (.cells #[c0,.slice ao l.length cap,c2,c3,c4,c5,c6,c7] 27)) ao l):=hr.below hb1;have HU:Hid (IsSums (W.alloc (.cells #[c0,.slice ao l.length cap,c2,c3,c4,c5,c6,c7] 27)) uo sums):=fun k x hx=>by
  obtain ⟨g,e,hc,hle⟩:=hu k x hx;exact ⟨g,e,(hb1.cell (p:=⟨g,k,none⟩) (World.block_lt_of_cell? W ⟨g,k,none⟩ hc)).trans hc,hle⟩
 have HCall:=hdn <| hcall;have hl2:(l.length:Int)<=2932031007317:=by omega
 have hs2:(sums.length:Int)<=1000:=by omega
 have hrow2:(row:Int)<=2932031007317:=by omega
 have hrow3:(row:Int) < (l.length:Int):=by omega
 have HL:Hid (laidAt l sums row=layN l sums row (endp l row - row)):=rfl;generalize laidAt l sums row=res at *;generalize endp l row=E at *;have hE:(E:Int)<=2932031007317:=by have:=HD.out.2;omega
 clear hr hu hT hl hs hrow he hb1 hnew hcall;go_enter Tryz.func104,Tryz.ntmps104;go_wp2_with fail;generalize W.alloc (.cells #[c0,.slice ao l.length cap,c2,c3,c4,c5,c6,c7] 27)=w1 at *
 go_loopg [9,10] (E - row) (fun gq x y wr=>∃ k:Nat,row+k<=E/\gq=E - (row+k)/\x=I (layN l sums row k:Nat)/\y=I ((row+k:Nat):Int)/\wr=w1)
 case atStart=>exact ⟨0,by have:=HD.out.1;omega,rfl,rfl,rfl,rfl⟩
 case round=>
  obtain ⟨k,hk,hgk,rfl,rfl,hw⟩:=hrel;have HG:Hid (row+k<=E/\gk=E - (row+k)):=⟨hk,hgk⟩;rw [hw];have HS:Hid (layN l sums row k<=4611686018427387904):=layN_le (IsSums.le HU.out) row k;have HN:Hid (layN l sums row (k+1)=addRow l sums (row+k) (layN l sums row k)):=rfl;have HEnd:Hid (row+k=E->res=layN l sums row k):=fun e=>by rw [HL.out,<-e];congr 1;omega
  clear hgk hw;by_cases hlt:row+k < E
  ·have hat:row+k < l.length:=by have:=HD.out.2;omega
   obtain ⟨g,o,rfl,hg,c0',c1',c2',c3',c4'⟩:=HR.out (row+k) _ (some_rat hat);have HA:Hid (addRow l sums (row+k) (layN l sums row k)=if (rat l (row+k)).kind=22/\0<=(rat l (row+k)).n/\(rat l (row+k)).n < (sums.length:Int) then pls (pls (layN l sums row k) 1) (sums.getD (rat l (row+k)).n.toNat 0) else pls (layN l sums row k) 1):=rfl;have HLt:Hid (row+k < E):=hlt;have HCx:=HCall.out (row+k) (by omega) hlt
   generalize hlk:layN l sums row k=s at *;generalize hlk1:layN l sums row (k+1)=s1 at *;have HK1:Hid (layN l sums row (k+1)=s1):=hlk1;clear hlk hlk1;rw [HA.out] at HN;generalize rat l (row+k)=x at *;obtain ⟨kd,nm,st,n,ks⟩:=x;dsimp only at *;have hat2:((row+k:Nat):Int) < (l.length:Int):=by omega
   have hat3:((row+k:Nat):Int) < (E:Int):=by omega
   have hat4:((row+k:Nat):Int)<=2932031007317:=by omega
   have HP1:=hdn <| HP.out s 1 w1 HS.out (by decide)
   have HB1:Hid (pls s 1<=4611686018427387904):=pls_le _ _ (by decide)
   generalize pls s 1=p1 at *;generalize hrk:row+k=rk at *;have HRk:Hid (row+k=rk):=hrk;clear hlt hat hrk hk HA hg;by_cases hkd:kd=22
   ·have hkd':(kd == 22)=true:=by simp [hkd]
    obtain ⟨hn0,hn1⟩:=HCx hkd;obtain ⟨m,rfl⟩:=Int.eq_ofNat_of_zero_le hn0;have hm:m < sums.length:=by omega
    obtain ⟨ug,rfl,u1,u2⟩:=HU.out m _ (List.getElem?_eq_getElem hm);have HN1:Hid (s1=pls p1 sums[m]):=by
     show _=_
     rw [HN.out,if_pos ⟨hkd,hn0,hn1⟩];simp [List.getD_eq_getElem?_getD,List.getElem?_eq_getElem hm]
    have HP2:=hdn <| HP.out p1 sums[m] w1 HB1.out u2;generalize sums[m]=um at *;have hm2:(m:Int) < (sums.length:Int):=by omega
    clear HN hn0 hm u2 HCx hkd;go_wp2_with fail;refine Calls.mono HP1.out ?_;rintro e w2 ⟨rfl,rfl⟩;go_wp2_with fail;refine Calls.mono HP2.out ?_;rintro e w3 ⟨rfl,rfl⟩;go_wp2_with fail;go_roundg (E - (rk+1))
    case measure=>have h1:=HG.out;have h2:=HLt.out;omega
    case rel=>exact ⟨k+1,by have:=HLt.out;have:=HRk.out;omega,by rw [<-HRk.out];rfl,by rw [HK1.out,HN1.out],by rw [<-HRk.out];go_num,rfl⟩
   ·have hkd':(kd == 22)=false:=by simp [hkd]
    have HN1:Hid (s1=p1):=by
     show _=_
     rw [HN.out,if_neg (fun h=>hkd h.1)]
    clear HN hkd HCx;go_wp2_with fail;refine Calls.mono HP1.out ?_;rintro e w2 ⟨rfl,rfl⟩;go_wp2_with fail;go_roundg (E - (rk+1))
    case measure=>have h1:=HG.out;have h2:=HLt.out;omega
    case rel=>exact ⟨k+1,by have:=HLt.out;have:=HRk.out;omega,by rw [<-HRk.out];rfl,by rw [HK1.out,HN1.out],by rw [<-HRk.out];go_num,rfl⟩
  ·have hge:row+k=E:=by omega
   have hat3:decide (((row+k:Nat):Int) < (E:Int))=false:=by simp;omega
   have HRes2:Hid (res=layN l sums row k):=HEnd.out hge;generalize layN l sums row k=s at *;generalize row+k=rk at *;clear hlt;go_wp2;go_ret;exact ⟨by rw [HRes2.out];rfl,HB.out⟩
theorem sums_of {w:World} {base n c:Nat} {ao:Option Addr} {l:List Nat} (h:w.ownsRow base 3 1 (.slice ao n c) l.length (nv l)) (hl:∀ i x:Nat,l[i]?=some x->x<=4611686018427387904):IsSums w ao l:=by
 intro k x hx;have hc:=h;rcases h.2 with ⟨_,hz⟩ | ⟨g,cap,cur,e,_⟩
 ·have:=(List.getElem?_eq_some_iff.1 hx).1;omega
 ·cases e;refine ⟨g,rfl,?_,hl k x hx⟩;have:=hc.cells (g:=g) rfl k (I (x:Int)) (by simp [nv,hx])
  rw [Lib.addr_add] at this
  simpa using this
theorem rsums_any {W:World} {c0 c2 c3 c4 c6 c7:Value} {ao uo:Option Addr} {l:List Rz} {us:List Nat} {cap uc eb:Nat} (hr:IsRz W ao l) (hu:IsNats W uo us) (he:∀ i,i < l.length->W.cell? ⟨eb,i,none⟩=some (I (endp l i:Nat))) (hT:TreeZ l) (hl:l.length<=2932031007317) (hn:us.length<=64) (hul:∀ u ∈ us,u < l.length)
  (hcall:∀ k (hk:k < us.length) j,us[k]<=j->j < endp l us[k]->(rat l j).kind=22->0<=(rat l j).n/\(rat l j).n < (k:Int)):
  Calls Tryz.prog 102 #[.agg #[c0,.slice ao l.length cap,c2,c3,c4,.slice uo us.length uc,c6,c7],.slice (pZ eb) l.length l.length] W fun e w'=>∃ sv,e=.returned sv/\w'.ownsRow (W.heap.size+1) 3 1 sv us.length (nv (sumsOf l us))/\Below W.heap.size W w':=by
 have hb1:Below W.heap.size W (W.alloc (.cells #[c0,.slice ao l.length cap,c2,c3,c4,.slice uo us.length uc,c6,c7] 27)):=bAl W _;have HNw:Hid ((W.alloc (.cells #[c0,.slice ao l.length cap,c2,c3,c4,.slice uo us.length uc,c6,c7] 27)).heap[W.heap.size]?=some (.cells #[c0,.slice ao l.length cap,c2,c3,c4,.slice uo us.length uc,c6,c7] 27 (0,0))/\Below W.heap.size W (W.alloc (.cells #[c0,.slice ao l.length cap,c2,c3,c4,.slice uo us.length uc,c6,c7] 27))/\(W.alloc (.cells #[c0,.slice ao l.length cap,c2,c3,c4,.slice uo us.length uc,c6,c7] 27)).heap.size=W.heap.size+1):=⟨heap_alloc_new W _,hb1,by simp⟩
 have k5:(W.alloc (.cells #[c0,.slice ao l.length cap,c2,c3,c4,.slice uo us.length uc,c6,c7] 27)).cell? ⟨W.heap.size,5,none⟩=some (.slice uo us.length uc):=by rw [World.cell?,HNw.out.1];rfl
 have HR:Hid (IsRz W ao l/\IsNats W uo us/\(∀ i,i < l.length->W.cell? ⟨eb,i,none⟩=some (I (endp l i:Nat)))/\TreeZ l/\l.length<=2932031007317/\us.length<=64):=⟨hr,hu,he,hT,hl,hn⟩;have HUL:=hdn <| hul;have HCall:=hdn <| hcall;have hn2:(us.length:Int)<=64:=by omega
 have HSS:Hid (sumsOf l us=sumsN l us us.length):=rfl;generalize sumsOf l us=SS at *;clear hr hu he hT hl hn hul hcall hb1;go_enter Tryz.func102,Tryz.ntmps102;go_wp2_with fail;generalize W.alloc (.cells #[c0,.slice ao l.length cap,c2,c3,c4,.slice uo us.length uc,c6,c7] 27)=w1 at *
 go_loopg [5,6] us.length (fun gq x y wr=>∃ k:Nat,k+gq=us.length/\y=I (k:Int)/\wr.ownsRow (W.heap.size+1) 3 1 x k (nv (sumsN l us k))/\Below (W.heap.size+1) w1 wr)
 case atStart=>exact ⟨0,by omega,rfl,⟨rfl,Or.inl ⟨rfl,rfl⟩⟩,Below.refl _ _⟩
 case round=>
  obtain ⟨k,hkg,rfl,hown,hbw⟩:=hrel;obtain ⟨so,sc,rfl⟩:=own_form hown;have HG:Hid (k+gk=us.length/\wr.ownsRow (W.heap.size+1) 3 1 (.slice so k sc) k (nv (sumsN l us k))/\Below (W.heap.size+1) w1 wr):=⟨hkg,hown,hbw⟩;have hblk:wr.heap[W.heap.size]?=some (.cells #[c0,.slice ao l.length cap,c2,c3,c4,.slice uo us.length uc,c6,c7] 27 (0,0)):=(hbw.block _ (Nat.lt_succ_self _)).trans HNw.out.1;have HBk:Hid (wr.heap[W.heap.size]?=some (.cells #[c0,.slice ao l.length cap,c2,c3,c4,.slice uo us.length uc,c6,c7] 27 (0,0))/\Below W.heap.size W wr):=⟨hblk,HNw.out.2.1.trans (hbw.mono (Nat.le_succ _))⟩;have r5:wr.cell? ⟨W.heap.size,5,none⟩=some (.slice uo us.length uc):=by rw [World.cell?,hblk];rfl
  by_cases hlt:k < us.length
  ·have hk':(k:Int) < (us.length:Int):=by omega
   have hk64:(k:Int)<=64:=by omega
   have hgx:=List.getElem?_eq_getElem hlt;obtain ⟨ug,uof,rfl,hug,ucl⟩:=(IsNats.below HR.out.2.1 HBk.out.2) k us[k] hgx;have HX:Hid (us[k] < l.length/\sumsN l us (k+1)=sumsN l us k++[laidAt l (sumsN l us k) us[k]]/\∀ j,us[k]<=j->j < endp l us[k]->(rat l j).kind=22->0<=(rat l j).n/\(rat l j).n < ((sumsN l us k).length:Int)):=⟨HUL.out _ (List.getElem_mem hlt),by simp [sumsN,List.getD_eq_getElem?_getD,hgx],by rw [sumsN_len];exact HCall.out k hlt⟩
   generalize us[k]=ux at *;have HC:Hid (∀ wq,Below wr.heap.size wr wq->Calls Tryz.prog 104 #[.agg #[c0,.slice ao l.length cap,c2,c3,c4,.slice (some ⟨ug,uof,none⟩) us.length uc,c6,c7],.slice (pZ eb) l.length l.length,.slice so k sc,I (ux:Int)] wq fun e w'=>e=.returned (I (laidAt l (sumsN l us k) ux:Nat))/\Below wq.heap.size wq w'):=fun wq hb=>by
    have hbW:Below W.heap.size W wq:=HBk.out.2.trans (hb.mono HBk.out.2.size);have ho:wq.ownsRow (W.heap.size+1) 3 1 (.slice so k sc) (sumsN l us k).length (nv (sumsN l us k)):=by rw [sumsN_len];exact own_below HG.out.2.1 hb
    have:=rlaid_any (c0:=c0) (c2:=c2) (c3:=c3) (c4:=c4) (c5:=.slice (some ⟨ug,uof,none⟩) us.length uc) (c6:=c6) (c7:=c7) (cap:=cap) (uc:=sc) (HR.out.1.below hbW) (sums_of ho (sumsN_le l us k)) ((hbW.cell (p:=⟨eb,ux,none⟩) (World.block_lt_of_cell? W ⟨eb,ux,none⟩ (HR.out.2.2.1 ux HX.out.1))).trans (HR.out.2.2.1 ux HX.out.1)) HR.out.2.2.2.1 HR.out.2.2.2.2.1 (by rw [sumsN_len];have:=HR.out.2.2.2.2.2;omega) HX.out.1 HX.out.2.2
    rw [sumsN_len] at this;exact this
   have hS0:wr.drew.cell? ⟨W.heap.size,0,none⟩=some c0/\wr.drew.cell? ⟨W.heap.size,1,none⟩=some (.slice ao l.length cap)/\wr.drew.cell? ⟨W.heap.size,2,none⟩=some c2/\wr.drew.cell? ⟨W.heap.size,3,none⟩=some c3/\wr.drew.cell? ⟨W.heap.size,4,none⟩=some c4/\wr.drew.cell? ⟨W.heap.size,5,none⟩=some (.slice (some ⟨ug,uof,none⟩) us.length uc)/\wr.drew.cell? ⟨W.heap.size,6,none⟩=some c6/\wr.drew.cell? ⟨W.heap.size,7,none⟩=some c7/\wr.drew.cell? ⟨ug,uof+k,none⟩=some (I (ux:Int)):=by
    obtain ⟨q0,q1,q2,q3,q4,q5,q6,q7⟩:=pol8 hblk;exact ⟨q0,q1,q2,q3,q4,q5,q6,q7,ucl⟩
   have HUg:Hid (ug < wr.heap.size):=hug;clear hkg hown hbw hblk hlt hgx k5 hug;go_wp2_with fail;refine wp_region_held (S:=fun w'=>w'.cell? ⟨W.heap.size,0,none⟩=some c0/\w'.cell? ⟨W.heap.size,1,none⟩=some (.slice ao l.length cap)/\w'.cell? ⟨W.heap.size,2,none⟩=some c2/\w'.cell? ⟨W.heap.size,3,none⟩=some c3/\w'.cell? ⟨W.heap.size,4,none⟩=some c4/\w'.cell? ⟨W.heap.size,5,none⟩=some (.slice (some ⟨ug,uof,none⟩) us.length uc)/\w'.cell? ⟨W.heap.size,6,none⟩=some c6/\w'.cell? ⟨W.heap.size,7,none⟩=some c7/\w'.cell? ⟨ug,uof+k,none⟩=some (I (ux:Int))) (by kernel_rfl) ?_
   have hS:(fun w':World=>w'.cell? ⟨W.heap.size,0,none⟩=some c0/\w'.cell? ⟨W.heap.size,1,none⟩=some (.slice ao l.length cap)/\w'.cell? ⟨W.heap.size,2,none⟩=some c2/\w'.cell? ⟨W.heap.size,3,none⟩=some c3/\w'.cell? ⟨W.heap.size,4,none⟩=some c4/\w'.cell? ⟨W.heap.size,5,none⟩=some (.slice (some ⟨ug,uof,none⟩) us.length uc)/\w'.cell? ⟨W.heap.size,6,none⟩=some c6/\w'.cell? ⟨W.heap.size,7,none⟩=some c7/\w'.cell? ⟨ug,uof+k,none⟩=some (I (ux:Int))) wr.drew:=hS0;change wpAnyH _ _ _ _ _ _ _ _ wr.drew;refine tq 0 rfl hS ?_;refine tq 1 rfl hS ?_;refine tq 2 rfl hS ?_;refine tq 3 rfl hS ?_;refine tq 4 rfl hS ?_;refine tq 5 rfl hS ?_;refine tq 6 rfl hS ?_;refine tq 7 rfl hS ?_;refine rd1 8 rfl fun K hK=>?_;go_simp;refine Calls.mono (HC.out _ (Below.refl _ wr).drew) ?_;rintro e w2 ⟨rfl,hb2⟩;have hb3:Below wr.heap.size wr w2:=(Below.refl _ wr).drew.trans (hb2.mono (Nat.le_refl _));have hS2:w2.cell? ⟨W.heap.size,0,none⟩=some c0/\w2.cell? ⟨W.heap.size,1,none⟩=some (.slice ao l.length cap)/\w2.cell? ⟨W.heap.size,2,none⟩=some c2/\w2.cell? ⟨W.heap.size,3,none⟩=some c3/\w2.cell? ⟨W.heap.size,4,none⟩=some c4/\w2.cell? ⟨W.heap.size,5,none⟩=some (.slice (some ⟨ug,uof,none⟩) us.length uc)/\w2.cell? ⟨W.heap.size,6,none⟩=some c6/\w2.cell? ⟨W.heap.size,7,none⟩=some c7/\w2.cell? ⟨ug,uof+k,none⟩=some (I (ux:Int)):=by
    obtain ⟨q0,q1,q2,q3,q4,q5,q6,q7⟩:=pol8 ((hb3.block _ (blk_lt HBk.out.1)).trans HBk.out.1);exact ⟨q0,q1,q2,q3,q4,q5,q6,q7,(hb3.cell (p:=⟨ug,uof+k,none⟩) HUg.out).trans ucl⟩
   have HB3:=hdn <| hb3;clear hb2 hb3 HC;refine hK.out _ _ hS2 (fun hS=>?_);refine rd1 9 rfl fun K hK=>?_;go_simp;refine hK.out _ _ hS2 (fun hS=>?_);refine wpAnyH_done (by kernel_rfl) ?_ _
   clear hS hS2 hS0 ucl r5;have hbU:Below w2.heap.size w2 (w2.alloc (.cells #[I (laidAt l (sumsN l us k) ux:Nat)] 3)):=bAl w2 _;have HOw:Hid ((w2.alloc (.cells #[I (laidAt l (sumsN l us k) ux:Nat)] 3)).ownsRow (W.heap.size+1) 3 1 (.slice so k sc) k (nv (sumsN l us k))/\Below (W.heap.size+1) w1 (w2.alloc (.cells #[I (laidAt l (sumsN l us k) ux:Nat)] 3))/\k<=64):=⟨own_below (own_below HG.out.2.1 HB3.out) hbU,(HG.out.2.2.trans (HB3.out.mono (by have:=HG.out.2.2.size;have:=HNw.out.2.2;omega))).trans (hbU.mono (by have:=HG.out.2.2.size;have:=HNw.out.2.2;have:=HB3.out.size;omega)),by omega⟩
   obtain ⟨j0,hj,hj0,hj1,hj2⟩:=info_parts infoI;clear hbU;go_wp2_with (at_builtin;refine append_gone _ rfl _ _ 25 rfl (W.heap.size+1) 3 j0 (I 0) 1 8 Tryz.underlying25 hj hj0 hj1 hj2 rfl (by decide) (.slice so k sc) _ (nv (sumsN l us k)) rfl HOw.out.1 ⟨w2.heap.size,0,none⟩ 1 1 [I (laidAt l (sumsN l us k) ux:Nat)] rfl rfl (cell_one w2 _ _) (by intro u hu;simp only [List.mem_cons,List.not_mem_nil,or_false] at hu;subst hu;rfl) (by have:=HOw.out.2.2;unfold maxLen;omega) (by have:=HOw.out.2.2;omega) (by have:=HOw.out.2.1.size;have:=HNw.out.2.2;omega) (by decide) ?_)
   intro sv' w4 hown4 hG4;have H4:Hid (w4.ownsRow (W.heap.size+1) 3 1 sv' (k+1) (nv (sumsN l us (k+1)))/\Below (W.heap.size+1) w1 w4):=by
    refine ⟨by rw [HX.out.2.1];simpa [nv] using hown4,HOw.out.2.1.grown hG4.1 (by have:=HOw.out.2.1.size;have:=HNw.out.2.2;omega) (fun q e=>(World.ownsRow.lt HOw.out.1 q e).1)⟩
   obtain ⟨bo,bc,rfl⟩:=own_form hown4;clear hown4 hG4;go_wp2_with fail;go_roundg (us.length - (k+1))
   case measure=>have:=HG.out.1;omega
   case rel=>exact ⟨k+1,by have:=HG.out.1;omega,by go_num,H4.out.1,H4.out.2⟩
  ·have hk':decide (k < us.length)=false:=decide_eq_false hlt;have hk2:decide ((k:Int) < (us.length:Int))=false:=decide_eq_false (by omega)
   have hke:k=us.length:=by omega
   have HE:Hid (wr.ownsRow (W.heap.size+1) 3 1 (.slice so k sc) us.length (nv SS)):=by rw [HSS.out];rw [hke] at hown ⊢;exact hown
   clear hkg hown hbw hblk hlt hke k5;go_wp2;go_ret;exact ⟨_,rfl,HE.out,HBk.out.2⟩
end Go.Proofs.YtbledbjcghaanaaGreat.Nm
