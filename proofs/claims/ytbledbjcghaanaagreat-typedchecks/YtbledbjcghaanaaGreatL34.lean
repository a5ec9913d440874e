import Derived.Test.YtbledbjcghaanaaGreatL32
import Derived.Test.YtbledbjcghaanaaGreatL33
import Derived.Test.YtbledbjcghaanaaGreatTl
set_option maxHeartbeats 25600000
set_option maxRecDepth 100000
namespace Go.Proofs.YtbledbjcghaanaaGreat.Nm.Ty
open Go.RowKit Go.Maps Sp Lx Gr Nm
structure Stz (l:List Rz):Prop where
 v:∀ i,i < l.length->(rat l i).kind=4->km l i=3
 o:∀ i,i < l.length->(rat l i).kind=5\/(rat l i).kind=6\/(rat l i).kind=13->i+1 < l.length
theorem settle_any {l:List Rz} {qv:List Value} {nq:Nat} {ao qo po eo vo:Option Addr} {ac qc pc ec vcap i tb rb:Nat} {w0 w:World} {v:Nat->Int} {vv tv:Value} {vs:List (Int × Int × Int)} {ts:List Int} {rf:Nat->Int} (h:IsRg w0 l qv ao qo po eo) (hB:Below w0.heap.size w0 w) (hn:l.length<=2932031007317) (hi:i < l.length) (hv:IsVals w0 vo (fL l.length (fun j=>I (v j)))) (hS:Sd w l.length tb rb vv tv vs ts rf) (hr:w0.heap.size<=rb) (hT:TreeZ l) (hz:Stz l) (hvl:vs.length<=2932031007317) (htl:ts.length<=2932031007317):
  Calls Tryz.prog 74 #[.agg (rgC l nq ao qo po eo ac qc pc ec),.pointer (pZ tb),.slice vo l.length vcap,I (i:Int)] w (SetQ l v i tb rb vs ts rf w0 w):=by
 by_cases h4:(rat l i).kind=4
 ·exact settle_var h hB hn hi hv hS hr h4 hT (hz.v i hi h4) hvl
 ·by_cases h5:(rat l i).kind=5
  ·exact settle_tag h hB hn hi hv hS hr h5 (hz.o i hi (Or.inl h5)) htl
  ·by_cases h6:(rat l i).kind=6
   ·exact settle_req h hB hn hi hv hS hr h6 (hz.o i hi (Or.inr (Or.inl h6)))
   ·by_cases h13:(rat l i).kind=13
    ·exact settle_loop h hB hn hi hv hS hr h13 (hz.o i hi (Or.inr (Or.inr h13)))
    ·exact settle_oth h hB hn hi hv hS hr h4 h5 h6 h13
structure Dq (w wx:World) (rc cc:Array Value):Prop where
 r:wx.heap[w.heap.size]?=some (.cells rc 65 (0,0))
 c:wx.heap[w.heap.size+1]?=some (.cells cc 39 (0,0))
 t:wx.heap[w.heap.size+1+1]?=some (.cells #[pz,pz,pz] 51 (0,0))
 f:wx.heap[w.heap.size+1+1+1]?=some (.cells #[I 0,I 0] 32 (0,0))
 be:Below w.heap.size w wx
theorem Dq.below {w wx w':World} {rc cc:Array Value} (h:Dq w wx rc cc) (hb:Below (w.heap.size+4) wx w'):Dq w w' rc cc:=⟨(hb.block _ (by omega)).trans h.r,(hb.block _ (by omega)).trans h.c,(hb.block _ (by omega)).trans h.t,(hb.block _ (by omega)).trans h.f,h.be.trans (hb.mono (by omega))⟩
theorem dq_start (w:World) (rc cc:Array Value):Dq w ((((w.alloc (.cells rc 65)).alloc (.cells cc 39)).alloc (.cells #[pz,pz,pz] 51)).alloc (.cells #[I 0,I 0] 32)) rc cc:=by
 refine ⟨?_,?_,?_,?_,(((bAl w _).alloc (by simp) _).alloc (by simp;omega) _).alloc (by simp;omega) _⟩
 ·rw [alloc_old _ _ _ (by simp;omega),alloc_old _ _ _ (by simp;omega),alloc_old _ _ _ (by simp)]
  exact alloc_at _ _ _ rfl
 ·rw [alloc_old _ _ _ (by first | (simp;done) | (simp;omega)),alloc_old _ _ _ (by simp)]
  exact alloc_at _ _ _ (by simp)
 ·rw [alloc_old _ _ _ (by simp)]
  exact alloc_at _ _ _ (by simp)
 ·exact alloc_at _ _ _ (by simp)
theorem put3M {n:Nat} {w wx:World} {B:Nat} {T:TypeId} {a b c v0 v1 v2:Value} (hb:Below n w wx) (hB:n<=B) (hz:wx.heap[B]?=some (.cells #[a,b,c] T (0,0))):(((wx.setCell ⟨B,0,none⟩ v0).setCell ⟨B,1,none⟩ v1).setCell ⟨B,2,none⟩ v2).heap[B]?=some (.cells #[v0,v1,v2] T (0,0))/\Below n w (((wx.setCell ⟨B,0,none⟩ v0).setCell ⟨B,1,none⟩ v1).setCell ⟨B,2,none⟩ v2)/\∀ k,k ≠ B->(((wx.setCell ⟨B,0,none⟩ v0).setCell ⟨B,1,none⟩ v1).setCell ⟨B,2,none⟩ v2).heap[k]?=wx.heap[k]?:=by
 have h0:=set_at hz v0 (cs':=#[v0,b,c]) (i:=0) rfl;have h1:=set_at h0 v1 (cs':=#[v0,v1,c]) (i:=1) rfl;have h2:=set_at h1 v2 (cs':=#[v0,v1,v2]) (i:=2) rfl;refine ⟨h2,((hb.trans ((Below.refl n wx).setCell (p:=⟨B,0,none⟩) hB _)).trans ((Below.refl n _).setCell (p:=⟨B,1,none⟩) hB _)).trans ((Below.refl n _).setCell (p:=⟨B,2,none⟩) hB _),fun k hk=>?_⟩;rw [Below.heap_setCell _ _ _ _ hk,Below.heap_setCell _ _ _ _ hk,Below.heap_setCell _ _ _ _ hk]
theorem own_keepY {w w':World} {base b':Nat} {T:TypeId} {sz n:Nat} {v:Value} {xs:List Value} (h:w.ownsRow base T sz v n xs) (hk:∀ k,base<=k->w'.heap[k]?=w.heap[k]?) (hb:b'<=base):w'.ownsRow b' T sz v n xs:=by
 refine ⟨h.1,?_⟩;rcases h.2 with h1 | ⟨g,cap,cur,h1,h2,h3,h4⟩
 ·exact Or.inl h1
 ·exact Or.inr ⟨g,cap,cur,h1,by omega,(hk g h2).trans h3,h4⟩
def StlQ (l:List Rz) (v:Nat->Int) (w:World) (e:Ending) (w':World):Prop:=((setN l v l.length).1 ≠ 0/\e=.returned (.tuple #[.agg #[pz,pz,pz],.agg #[I ((setN l v l.length).1:Int),I ((setN l v l.length).2:Int)]])) \/
 ((setN l v l.length).1=0/\∃ vv tv rb,e=.returned (.tuple #[.agg #[vv,tv,.slice (pZ rb) l.length l.length],.agg #[I 0,I 0]])/\w.heap.size<=rb/\RowI w' rb l.length (setR l v l.length)/\w'.ownsRow w.heap.size 59 3 vv (setV l v l.length).length (vC (setV l v l.length))/\w'.ownsRow w.heap.size 3 1 tv (setT l v l.length).length (tC (setT l v l.length)))
theorem settled_any {l:List Rz} {qv:List Value} {nq:Nat} {ao qo po eo co:Option Addr} {ac qc pc ec nc cc:Nat} {size:Int} {cq:Nat->Int} {w:World} (h:IsRg w l qv ao qo po eo) (hn:l.length<=2932031007317) (hT:TreeZ l) (h0:0 < l.length) (hc:IsVals w co (fL nc (fun i=>I (cq i)))) (hcn:nc<=17592186043904)
  (hcp:∀ i,i < l.length->(rat l i).kind=32->∃ n:Nat,(rat l i).n=(n:Int)/\n < nc) (hN:∀ i,i < l.length->in64 (rat l i).n) (hsz:in64 size) (hcq:∀ i,in64 (cq i)) (hz:Stz l):
  Calls Tryz.prog 48 #[.agg (rgC l nq ao qo po eo ac qc pc ec),.agg #[I size,.slice co nc cc]] w fun e w'=>Below w.heap.size w w'/\StlQ l (vB l size cq l.length) w e w':=by
 have HD1:=hdn <| dq_start w (rgC l nq ao qo po eo ac qc pc ec) #[I size,.slice co nc cc];have HVl:=hdn <| values_any (nq:=nq) (ac:=ac) (qc:=qc) (pc:=pc) (ec:=ec) (cc:=cc) (h.below HD1.out.be) (by omega) hT h0 (hc.below HD1.out.be) hcn hcp hN hsz hcq
 obtain ⟨M,hmk,hM⟩:=mk_ints l.length (by omega)
 have HM:Hid (∀ W:World,RowI (W.alloc (.cells M 3)) W.heap.size l.length (fun _=>0)):=hM;have HI:=hdn <| h;have HT:Hid (TreeZ l):=hT;have HZ:Hid (Stz l):=hz;have HN:Hid (l.length<=2932031007317):=hn;have hln:(l.length:Int)<=2932031007317:=by omega
 have HSz:Hid (((((w.alloc (.cells #[.slice ao l.length ac,.slice qo nq qc,.slice po l.length pc,.slice eo l.length ec] 65)).alloc (.cells #[I size,.slice co nc cc] 39)).alloc (.cells #[pz,pz,pz] 51)).alloc (.cells #[I 0,I 0] 32)).heap.size=w.heap.size+4):=by simp [Hid]
 obtain ⟨b0,b1,b2,b3⟩:=cells4 HD1.out.r;obtain ⟨d0,d1⟩:=vcells2 HD1.out.c;generalize hvb:vB l size cq l.length=V at *;clear h hn hT h0 hc hcn hcp hN hsz hcq hz hM hvb;dsimp only [rgC] at *;go_enter Tryz.func48,Tryz.ntmps48;go_wp2_with fail;generalize ((((w.alloc (.cells #[.slice ao l.length ac,.slice qo nq qc,.slice po l.length pc,.slice eo l.length ec] 65)).alloc (.cells #[I size,.slice co nc cc] 39)).alloc (.cells #[pz,pz,pz] 51)).alloc (.cells #[I 0,I 0] 32))=w1 at *;refine Calls.mono HVl.out ?_;rintro e w2 ⟨gv,rfl,hgv,hrow,hb2⟩;have HD2:Hid (Dq w w2 #[.slice ao l.length ac,.slice qo nq qc,.slice po l.length pc,.slice eo l.length ec] #[I size,.slice co nc cc]):=HD1.out.below (hb2.mono (by have:=HSz.out;omega))
 have HSz2:Hid (w.heap.size+4<=w2.heap.size):=by have h1:=HSz.out;have h2:=hb2.size;show _<=_;omega
 have HI2:Hid (IsRg w2 l qv ao qo po eo):=(HI.out.below HD1.out.be).below hb2;have HV2:Hid (IsVals w2 (pZ gv) (fL l.length (fun j=>I (V j)))):=fun k x hx=>by
  have hk:k < l.length:=by have:=(List.getElem?_eq_some_iff.1 hx).1;simpa [fL] using this
  rw [fL_at hk] at hx;cases hx;exact ⟨gv,0,rfl,hrow.lt,by rw [Nat.zero_add];exact hrow.cell hk⟩
 clear hb2 hrow hgv HVl HD1 HSz HI b0 b1 b2 b3 d0 d1;obtain ⟨b0,b1,b2,b3⟩:=cells4 HD2.out.r;have hb3:Below w2.heap.size w2 ((w2.alloc (.cells M 3)).alloc (.cells #[pz,pz,.slice (pZ w2.heap.size) l.length l.length] 51)):=(bAl w2 _).alloc (by simp) _
 have HS3:Hid (Sd ((w2.alloc (.cells M 3)).alloc (.cells #[pz,pz,.slice (pZ w2.heap.size) l.length l.length] 51)) l.length (w2.heap.size+1) w2.heap.size pz pz [] [] (fun _=>0)):=⟨alloc_at _ _ _ (by simp),(HM.out w2).of_block (alloc_old _ _ _ (by simp)),World.ownsRow_nil _ _ _ _,World.ownsRow_nil _ _ _ _,Nat.lt_succ_self _⟩
 have HB3:=hdn <| hb3;have HZ3:=hdn <| HD2.out.below (hb3.mono HSz2.out);obtain ⟨a0,a1,a2,a3⟩:=cells4 HZ3.out.r;clear hb3;go_wp2_with fail;generalize ((w2.alloc (.cells M 3)).alloc (.cells #[pz,pz,.slice (pZ w2.heap.size) l.length l.length] 51))=w3 at *;clear a0 a1 a2 a3 b0 b1 b2 b3 hmk HM HZ3
 go_loopg [21] l.length (fun gq x wr=>∃ (k:Nat) (vv tv:Value),k<=l.length/\gq=l.length - k/\x=I (k:Int)/\(setN l V k).1=0/\Sd wr l.length (w2.heap.size+1) w2.heap.size vv tv (setV l V k) (setT l V k) (setR l V k)/\Below w2.heap.size w2 wr)
 case atStart=>exact ⟨0,pz,pz,Nat.zero_le _,rfl,rfl,rfl,HS3.out,HB3.out⟩
 case round=>
  obtain ⟨k,vv,tv,hk,hgk,rfl,hno,hS,hB⟩:=hrel;have HG:Hid (gk=l.length - k):=hgk;have HSr:=hdn <| hS;have HBr:Hid (Below w2.heap.size w2 wr):=hB;have HNo:Hid ((setN l V k).1=0):=hno;have HDr:Hid (Dq w wr #[.slice ao l.length ac,.slice qo nq qc,.slice po l.length pc,.slice eo l.length ec] #[I size,.slice co nc cc]):=HD2.out.below (hB.mono HSz2.out);obtain ⟨a0,a1,a2,a3⟩:=cells4 HDr.out.r;have hkl:(k:Int)<=2932031007317:=by omega
  clear hgk hS hB hno;by_cases hlt:k < l.length
  ·have hlt':(k:Int) < (l.length:Int):=by omega
   have HC:=hdn <| settle_any (nq:=nq) (ac:=ac) (qc:=qc) (pc:=pc) (ec:=ec) (vcap:=l.length) HI2.out HBr.out HN.out hlt HV2.out HSr.out (Nat.le_refl _) HT.out HZ.out (by have:=setV_le l V k;omega) (by have:=setT_le l V k;omega)
   have HLt:Hid (k < l.length):=hlt;dsimp only [rgC] at *;clear hlt hk;go_wp2_with fail;refine Calls.mono HC.out ?_;rintro e w4 ⟨rfl,hb4,hpost⟩;have HB4:Hid (Below w2.heap.size w2 w4):=HBr.out.trans hb4;have HD4:Hid (Dq w w4 #[.slice ao l.length ac,.slice qo nq qc,.slice po l.length pc,.slice eo l.length ec] #[I size,.slice co nc cc]):=HD2.out.below (HB4.out.mono HSz2.out);clear hb4 HC a0 a1 a2 a3;by_cases he:setE l V k=0
   ·obtain ⟨vv',tv',hS4⟩:=hpost he;have HS4:Hid (Sd w4 l.length (w2.heap.size+1) w2.heap.size vv' tv' (setV l V (k+1)) (setT l V (k+1)) (setR l V (k+1))):=hS4;have HN4:Hid ((setN l V (k+1)).1=0):=setN_pass HNo.out he;rw [he];clear hS4 hpost he;go_wp2_with fail;go_roundg (l.length - (k+1))
    case measure=>have h1:=HG.out;have:=HLt.out;omega
    case rel=>exact ⟨k+1,vv',tv',HLt.out,rfl,by go_num,HN4.out,HS4.out,HB4.out⟩
   ·have HN4:Hid (setN l V l.length=(setE l V k,k)/\setE l V k ≠ 0):=⟨by
     have h1:=setN_next HNo.out he;rw [setN_stays (n:=k+1) (by rw [h1];exact he) l.length HLt.out]
     exact h1,he⟩
    have he':((setE l V k:Int) != 0)=true:=by simp [he]
    clear hpost he;obtain ⟨t0,t1,t2⟩:=cells3 HD4.out.t;obtain ⟨f0,f1⟩:=cells2 HD4.out.f;have ft:∀ j,w4.frozen? ⟨w.heap.size+1+1,j,none⟩=false:=fun j=>by have:=HD4.out.t;simp only [World.frozen?,this];rfl
    have ff:∀ j,w4.frozen? ⟨w.heap.size+1+1+1,j,none⟩=false:=fun j=>by have:=HD4.out.f;simp only [World.frozen?,this];rfl
    generalize setE l V k=en at *;go_wp2_with fail;obtain ⟨a1,a2,a3⟩:=put3M (B:=w.heap.size+1+1) (v0:=pz) (v1:=pz) (v2:=pz) HD4.out.be (by omega) HD4.out.t
    obtain ⟨c1,c2,c3⟩:=put2M (B:=w.heap.size+1+1+1) (v0:=I (en:Int)) (v1:=I (k:Int)) a2 (by omega) ((a3 _ (by omega)).trans HD4.out.f)
    obtain ⟨y0,y1⟩:=cells2 c1;obtain ⟨u0,u1,u2⟩:=cells3 ((c3 _ (by omega)).trans a1)
    refine bodyPost_ret (v:=.tuple #[.agg #[pz,pz,pz],.agg #[I (en:Int),I (k:Int)]]) (by simp [results,Tryz.results48,go_sem,y0,y1,u0,u1,u2]) rfl ?_
    exact ⟨c2,Or.inl ⟨by rw [HN4.out.1];exact HN4.out.2,by rw [HN4.out.1]⟩⟩
  ·have hlt':¬ (k:Int) < (l.length:Int):=by omega
   obtain rfl:k=l.length:=by omega
   obtain ⟨vo1,vc1,rfl⟩:=own_form HSr.out.v;obtain ⟨to1,tc1,rfl⟩:=own_form HSr.out.t;obtain ⟨q0,q1,q2⟩:=cells3 HSr.out.b;obtain ⟨t0,t1,t2⟩:=cells3 HDr.out.t;obtain ⟨f0,f1⟩:=cells2 HDr.out.f;have ft:∀ j,wr.frozen? ⟨w.heap.size+1+1,j,none⟩=false:=fun j=>by have:=HDr.out.t;simp only [World.frozen?,this];rfl
   have ff:∀ j,wr.frozen? ⟨w.heap.size+1+1+1,j,none⟩=false:=fun j=>by have:=HDr.out.f;simp only [World.frozen?,this];rfl
   clear hlt hk;go_wp2_with fail;obtain ⟨a1,a2,a3⟩:=put3M (B:=w.heap.size+1+1) (v0:=.slice vo1 (setV l V l.length).length vc1) (v1:=.slice to1 (setT l V l.length).length tc1) (v2:=.slice (pZ w2.heap.size) l.length l.length) HDr.out.be (by omega) HDr.out.t
   obtain ⟨c1,c2,c3⟩:=put2M (B:=w.heap.size+1+1+1) (v0:=I 0) (v1:=I 0) a2 (by omega) ((a3 _ (by omega)).trans HDr.out.f)
   obtain ⟨y0,y1⟩:=cells2 c1;obtain ⟨u0,u1,u2⟩:=cells3 ((c3 _ (by omega)).trans a1)
   have hz2:=HSz2.out;have hkp:∀ k,w2.heap.size<=k->_:=fun k (hk:w2.heap.size<=k)=>(c3 k (by omega)).trans (a3 k (by omega))
   refine bodyPost_ret (v:=.tuple #[.agg #[.slice vo1 (setV l V l.length).length vc1,.slice to1 (setT l V l.length).length tc1,.slice (pZ w2.heap.size) l.length l.length],.agg #[I 0,I 0]]) (by simp [results,Tryz.results48,go_sem,y0,y1,u0,u1,u2]) rfl ?_
   exact ⟨c2,Or.inr ⟨HNo.out,_,_,_,rfl,by omega,HSr.out.r.of_block (hkp _ (Nat.le_refl _)),own_keepY HSr.out.v (fun k hk=>hkp k (by omega)) (by omega),own_keepY HSr.out.t (fun k hk=>hkp k (by omega)) (by omega)⟩⟩
end Go.Proofs.YtbledbjcghaanaaGreat.Nm.Ty
namespace Go.Proofs.YtbledbjcghaanaaGreat.Nm.Ty
open Go.RowKit Go.Maps Sp Lx Gr
structure Uq (w wx:World) (pc cc:Array Value):Prop where
 p:wx.heap[w.heap.size]?=some (.cells pc 27 (0,0))
 c:wx.heap[w.heap.size+1]?=some (.cells cc 39 (0,0))
 r:wx.heap[w.heap.size+1+1]?=some (.cells #[pz,pz,pz,pz] 65 (0,0))
 f:wx.heap[w.heap.size+1+1+1]?=some (.cells #[I 0,I 0] 32 (0,0))
 be:Below w.heap.size w wx
theorem Uq.below {w wx w':World} {pc cc:Array Value} (h:Uq w wx pc cc) (hb:Below wx.heap.size wx w'):Uq w w' pc cc:=⟨(hb.block _ (blk_lt h.p)).trans h.p,(hb.block _ (blk_lt h.c)).trans h.c,(hb.block _ (blk_lt h.r)).trans h.r,(hb.block _ (blk_lt h.f)).trans h.f,h.be.trans (hb.mono h.be.size)⟩
theorem uq_start (w:World) (pc cc:Array Value):Uq w ((((w.alloc (.cells pc 27)).alloc (.cells cc 39)).alloc (.cells #[pz,pz,pz,pz] 65)).alloc (.cells #[I 0,I 0] 32)) pc cc:=by
 refine ⟨?_,?_,?_,?_,(((bAl w _).alloc (by simp) _).alloc (by simp;omega) _).alloc (by simp;omega) _⟩
 ·rw [alloc_old _ _ _ (by simp;omega),alloc_old _ _ _ (by simp;omega),alloc_old _ _ _ (by simp)]
  exact alloc_at _ _ _ rfl
 ·rw [alloc_old _ _ _ (by first | (simp;done) | (simp;omega)),alloc_old _ _ _ (by simp)]
  exact alloc_at _ _ _ (by simp)
 ·rw [alloc_old _ _ _ (by simp)]
  exact alloc_at _ _ _ (by simp)
 ·exact alloc_at _ _ _ (by simp)
def ruZ (P:Pg) (size:Int) (cs:Nat->Int) (nc:Nat):Int × Int:=if (fltN P.rows (ghL P.qs) P.rows.length).1=0 then (fitE (ghL P.qs) P.qs.length size cs nc,0) else (((fltN P.rows (ghL P.qs) P.rows.length).1:Int),((fltN P.rows (ghL P.qs) P.rows.length).2:Int))
theorem under_any {P:Pg} {ao qo vo tto uo oo co:Option Addr} {ac qc vc tc uc oc nc cc:Nat} {size:Int} {cs:Nat->Int} {w:World} (h:RdG w P ao qo vo tto uo oo) (hs:P.Sm) (hnil:ao=none->ac=0) (hR:IsOk P->Rdy P) (hc:IsVals w co (fL nc (fun i=>I (cs i)))) (hcl:nc<=17592186043904):
  Calls Tryz.prog 43 #[pvG P ao qo vo tto uo oo ac qc vc tc uc oc,.agg #[I size,.slice co nc cc]] w fun e w'=>Below w.heap.size w w'/\((¬ IsOk P/\e=.returned (.tuple #[.agg #[pz,pz,pz,pz],.agg #[I 23,I 0]]))\/(IsOk P/\∃ po eo pc ec,e=.returned (.tuple #[.agg (rgC P.rows P.qs.length ao qo po eo ac qc pc ec),.agg #[I (ruZ P size cs nc).1,I (ruZ P size cs nc).2]])/\IsRg w' P.rows (qF P.qs) ao qo po eo/\(∀ a,po=some a\/eo=some a->w.heap.size<=a.block)/\P.rows.length<=pc)):=by
 have H1:Hid (Uq w ((((w.alloc (.cells (pC P ao ac qo qc vo vc tto tc uo uc oo oc) 27)).alloc (.cells #[I size,.slice co nc cc] 39)).alloc (.cells #[pz,pz,pz,pz] 65)).alloc (.cells #[I 0,I 0] 32)) (pC P ao ac qo qc vo vc tto tc uo uc oo oc) #[I size,.slice co nc cc]):=uq_start w _ _;have HG:=hdn <| h;have HC:Hid (IsVals w co (fL nc (fun i=>I (cs i)))):=hc;have HCl:Hid (nc<=17592186043904/\P.qs.length<=5864062014634):=⟨hcl,hs.q⟩;have HRe:=hdn <| read_any (ac:=ac) (qc:=qc) (vc:=vc) (tc:=tc) (uc:=uc) (oc:=oc) (h.below H1.out.be) hs hnil hR;have HRd:=hdn <| hR;obtain ⟨k0,k1,k2,k3,k4,k5,k6,k7⟩:=pol8 H1.out.p;dsimp only [pvG] at *;clear h hs hnil hR hc hcl;go_enter Tryz.func43,Tryz.ntmps43;go_wp2_with fail;generalize ((((w.alloc (.cells (pC P ao ac qo qc vo vc tto tc uo uc oo oc) 27)).alloc (.cells #[I size,.slice co nc cc] 39)).alloc (.cells #[pz,pz,pz,pz] 65)).alloc (.cells #[I 0,I 0] 32))=w1 at *;refine Calls.mono HRe.out ?_;rintro e w2 ⟨hb2,hr⟩;have H2:=hdn <| H1.out.below hb2;have HSz1:Hid (w.heap.size+1+1+1 < w1.heap.size):=blk_lt H1.out.f;clear HRe H1 hb2 k0 k1 k2 k3 k4 k5 k6 k7;rcases hr with ⟨hno,rfl⟩ | ⟨his,po,eo,pc,ec,rfl,hIr,hloc,hcap⟩
 ·have HNo:Hid (¬ IsOk P):=hno;clear hno;have hbW:Below w2.heap.size w2 ((w2.alloc (.cells #[pz,pz,pz,pz] 65)).alloc (.cells #[I 23,I 0] 32)):=(bAl w2 _).alloc (by simp) _
  have H3:=hdn <| H2.out.below hbW;have HX:Hid (((w2.alloc (.cells #[pz,pz,pz,pz] 65)).alloc (.cells #[I 23,I 0] 32)).heap[w2.heap.size]?=some (.cells #[pz,pz,pz,pz] 65 (0,0))/\((w2.alloc (.cells #[pz,pz,pz,pz] 65)).alloc (.cells #[I 23,I 0] 32)).heap[w2.heap.size+1]?=some (.cells #[I 23,I 0] 32 (0,0))):=⟨by rw [alloc_old _ _ _ (by simp)];exact alloc_at _ _ _ rfl,alloc_at _ _ _ (by simp)⟩
  obtain ⟨t0,t1,t2,t3⟩:=cells4 HX.out.1;obtain ⟨q0,q1⟩:=cells2 HX.out.2;clear hbW;go_wp2_with fail;generalize ((w2.alloc (.cells #[pz,pz,pz,pz] 65)).alloc (.cells #[I 23,I 0] 32))=w3 at *;obtain ⟨e0,e1,e2,e3⟩:=cells4 H3.out.r;obtain ⟨f0,f1⟩:=cells2 H3.out.f;have hr:∀ j,w3.frozen? ⟨w.heap.size+1+1,j,none⟩=false:=fun j=>by have:=H3.out.r;simp only [World.frozen?,this];rfl
  have hf:∀ j,w3.frozen? ⟨w.heap.size+1+1+1,j,none⟩=false:=fun j=>by have:=H3.out.f;simp only [World.frozen?,this];rfl
  have hlt2:=blk_lt H2.out.f;generalize w2.heap.size=m2 at *;have n1:¬ m2+1=w.heap.size+1+1:=by omega
  have n2:¬ m2+1=w.heap.size+1+1+1:=by omega
  have n3:¬ m2=w.heap.size+1+1:=by omega
  have n4:¬ m2=w.heap.size+1+1+1:=by omega
  have n5:¬ m2=w.heap.size+1:=by omega
  go_region
  all_goals
   go_wp2_with fail
   obtain ⟨a1,a2,a3⟩:=put4L (B:=w.heap.size+1+1) (v0:=pz) (v1:=pz) (v2:=pz) (v3:=pz) H3.out.be (by omega) H3.out.r
   obtain ⟨c1,c2,c3⟩:=put2M (B:=w.heap.size+1+1+1) (v0:=I 23) (v1:=I 0) a2 (by omega) ((a3 _ (by omega)).trans H3.out.f)
   obtain ⟨y0,y1⟩:=cells2 c1;obtain ⟨u0,u1,u2,u3⟩:=cells4 ((c3 _ (by omega)).trans a1)
   refine bodyPost_ret (v:=.tuple #[.agg #[pz,pz,pz,pz],.agg #[I 23,I 0]]) (by simp [results,Tryz.results43,go_sem,y0,y1,u0,u1,u2,u3]) rfl ?_
   exact ⟨c2.drew,Or.inl ⟨HNo.out,rfl⟩⟩
 ·have HIs:Hid (IsOk P):=his;have HIr:=hdn <| hIr;have HLo:Hid (∀ a,po=some a\/eo=some a->w.heap.size+1+1+1 < a.block):=fun a ha=>by have:=hloc a ha;have:=HSz1.out;omega
  have HL2:Hid (∀ a,po=some a\/eo=some a->a.block < w2.heap.size):=by
   have hn:=(HRd.out his).n;obtain ⟨g1,o1,e1,l1,_⟩:=hIr.part hn;obtain ⟨g2,o2,e2,l2,_⟩:=hIr.ends hn;rintro a (ha | ha)
   ·rw [e1] at ha;cases ha;exact l1
   ·rw [e2] at ha;cases ha;exact l2
  have HCap:Hid (P.rows.length<=pc):=hcap;clear hcap;have HRu:Hid (ruZ P size cs nc=if (fltN P.rows (ghL P.qs) P.rows.length).1=0 then (fitE (ghL P.qs) P.qs.length size cs nc,0) else (((fltN P.rows (ghL P.qs) P.rows.length).1:Int),((fltN P.rows (ghL P.qs) P.rows.length).2:Int))):=rfl;clear his hIr hloc;generalize (fltN P.rows (ghL P.qs) P.rows.length).1=fc at *;generalize (fltN P.rows (ghL P.qs) P.rows.length).2=fa at *;have hbW:Below w2.heap.size w2 ((w2.alloc (.cells #[.slice ao P.rows.length ac,.slice qo P.qs.length qc,.slice po P.rows.length pc,.slice eo P.rows.length ec] 65)).alloc (.cells #[I (fc:Int),I (fa:Int)] 32)):=(bAl w2 _).alloc (by simp) _
  have H3:=hdn <| H2.out.below hbW;have HI3:=hdn <| HIr.out.below hbW;have HX:Hid (((w2.alloc (.cells #[.slice ao P.rows.length ac,.slice qo P.qs.length qc,.slice po P.rows.length pc,.slice eo P.rows.length ec] 65)).alloc (.cells #[I (fc:Int),I (fa:Int)] 32)).heap[w2.heap.size]?=some (.cells #[.slice ao P.rows.length ac,.slice qo P.qs.length qc,.slice po P.rows.length pc,.slice eo P.rows.length ec] 65 (0,0))/\((w2.alloc (.cells #[.slice ao P.rows.length ac,.slice qo P.qs.length qc,.slice po P.rows.length pc,.slice eo P.rows.length ec] 65)).alloc (.cells #[I (fc:Int),I (fa:Int)] 32)).heap[w2.heap.size+1]?=some (.cells #[I (fc:Int),I (fa:Int)] 32 (0,0))/\w.heap.size+1+1+1 < w2.heap.size):=⟨by rw [alloc_old _ _ _ (by simp)];exact alloc_at _ _ _ rfl,alloc_at _ _ _ (by simp),blk_lt H2.out.f⟩
  obtain ⟨t0,t1,t2,t3⟩:=cells4 HX.out.1;obtain ⟨q0,q1⟩:=cells2 HX.out.2.1;dsimp only [rgC];clear hbW HIr;by_cases h0:fc=0
  ·have h0':((fc:Int) == 0)=true:=by simp [h0]
   have HR1:Hid (ruZ P size cs nc=(fitE (ghL P.qs) P.qs.length size cs nc,0)):=by show _=_;rw [HRu.out,if_pos h0]
   have HFi:=hdn <| fits_any (qc:=qc) (cc:=cc) (size:=size) (HG.out.below H3.out.be).q (HC.out.below H3.out.be) HCl.out.2 HCl.out.1;obtain ⟨k0,k1,k2,k3,k4,k5,k6,k7⟩:=pol8 H3.out.p;obtain ⟨d0,d1⟩:=cells2 H3.out.c;clear h0;go_wp2_with fail;generalize ((w2.alloc (.cells #[.slice ao P.rows.length ac,.slice qo P.qs.length qc,.slice po P.rows.length pc,.slice eo P.rows.length ec] 65)).alloc (.cells #[I (fc:Int),I (fa:Int)] 32))=w3 at *;refine Calls.mono HFi.out ?_;rintro e w4 ⟨rfl,hb4⟩;have H4:=hdn <| H3.out.below hb4;have HI4:=hdn <| HI3.out.below hb4;have HX4:Hid (w4.heap[w2.heap.size]?=some (.cells #[.slice ao P.rows.length ac,.slice qo P.qs.length qc,.slice po P.rows.length pc,.slice eo P.rows.length ec] 65 (0,0))/\w4.heap[w2.heap.size+1]?=some (.cells #[I (fc:Int),I (fa:Int)] 32 (0,0))):=⟨(hb4.block _ (blk_lt HX.out.1)).trans HX.out.1,(hb4.block _ (blk_lt HX.out.2.1)).trans HX.out.2.1⟩;clear hb4 HFi H3 HI3 k0 k1 k2 k3 k4 k5 k6 k7 d0 d1 t0 t1 t2 t3 q0 q1;generalize fitE (ghL P.qs) P.qs.length size cs nc=fe at *;have hlt2:=HX.out.2.2;clear HX;generalize w2.heap.size=m2 at *;obtain ⟨q0,q1⟩:=cells2 HX4.out.2;have hq:∀ j,w4.frozen? ⟨m2+1,j,none⟩=false:=fun j=>by have:=HX4.out.2;simp only [World.frozen?,this];rfl
   obtain ⟨b1,b2,b3⟩:=put2M (B:=m2+1) (v0:=I fe) (v1:=I 0) H4.out.be (by omega) HX4.out.2
   have hlo2:∀ a,po=some a\/eo=some a->a.block ≠ m2+1:=fun a ha=>by have:=HL2.out a ha;omega
   have H5:Hid (Uq w ((w4.setCell ⟨m2+1,0,none⟩ (I fe)).setCell ⟨m2+1,1,none⟩ (I 0)) (pC P ao ac qo qc vo vc tto tc uo uc oo oc) #[I size,.slice co nc cc]):=⟨(b3 _ (by omega)).trans H4.out.p,(b3 _ (by omega)).trans H4.out.c,(b3 _ (by omega)).trans H4.out.r,(b3 _ (by omega)).trans H4.out.f,b2⟩
   have HX5:Hid (((w4.setCell ⟨m2+1,0,none⟩ (I fe)).setCell ⟨m2+1,1,none⟩ (I 0)).heap[m2]?=some (.cells #[.slice ao P.rows.length ac,.slice qo P.qs.length qc,.slice po P.rows.length pc,.slice eo P.rows.length ec] 65 (0,0))/\((w4.setCell ⟨m2+1,0,none⟩ (I fe)).setCell ⟨m2+1,1,none⟩ (I 0)).heap[m2+1]?=some (.cells #[I fe,I 0] 32 (0,0))):=⟨(b3 _ (by omega)).trans HX4.out.1,b1⟩
   have HI5p:Hid (IsVals ((w4.setCell ⟨m2+1,0,none⟩ (I fe)).setCell ⟨m2+1,1,none⟩ (I 0)) po (fL P.rows.length (fun i=>(rP P.rows i).V))/\IsVals ((w4.setCell ⟨m2+1,0,none⟩ (I fe)).setCell ⟨m2+1,1,none⟩ (I 0)) eo (fL P.rows.length (eV P.rows))):=⟨vals_keep HI4.out.p (fun a ha=>b3 a.block (hlo2 a (Or.inl ha))) (by simp),vals_keep HI4.out.e (fun a ha=>b3 a.block (hlo2 a (Or.inr ha))) (by simp)⟩
   clear b1 b2 b3 HX4 HI4 H4 hlo2;go_wp2_with fail;generalize ((w4.setCell ⟨m2+1,0,none⟩ (I fe)).setCell ⟨m2+1,1,none⟩ (I 0))=w5 at *;clear q0 q1 hq;obtain ⟨t0,t1,t2,t3⟩:=cells4 HX5.out.1;obtain ⟨q0,q1⟩:=cells2 HX5.out.2;have n1:¬ m2+1=w.heap.size+1+1:=by omega
   have n2:¬ m2+1=w.heap.size+1+1+1:=by omega
   have n3:¬ m2=w.heap.size+1+1:=by omega
   have n4:¬ m2=w.heap.size+1+1+1:=by omega
   have n5:¬ m2=w.heap.size+1:=by omega
   obtain ⟨e0,e1,e2,e3⟩:=cells4 H5.out.r;obtain ⟨f0,f1⟩:=cells2 H5.out.f;have hr:∀ j,w5.frozen? ⟨w.heap.size+1+1,j,none⟩=false:=fun j=>by have:=H5.out.r;simp only [World.frozen?,this];rfl
   have hf:∀ j,w5.frozen? ⟨w.heap.size+1+1+1,j,none⟩=false:=fun j=>by have:=H5.out.f;simp only [World.frozen?,this];rfl
   go_region
   all_goals
    go_wp2_with fail
    obtain ⟨a1,a2,a3⟩:=put4L (B:=w.heap.size+1+1) (v0:=.slice ao P.rows.length ac) (v1:=.slice qo P.qs.length qc) (v2:=.slice po P.rows.length pc) (v3:=.slice eo P.rows.length ec) H5.out.be (by omega) H5.out.r
    obtain ⟨c1,c2,c3⟩:=put2M (B:=w.heap.size+1+1+1) (v0:=I fe) (v1:=I 0) a2 (by omega) ((a3 _ (by omega)).trans H5.out.f)
    obtain ⟨y0,y1⟩:=cells2 c1;obtain ⟨u0,u1,u2,u3⟩:=cells4 ((c3 _ (by omega)).trans a1)
    refine bodyPost_ret (v:=.tuple #[.agg #[.slice ao P.rows.length ac,.slice qo P.qs.length qc,.slice po P.rows.length pc,.slice eo P.rows.length ec],.agg #[I fe,I 0]]) (by simp [results,Tryz.results43,go_sem,y0,y1,u0,u1,u2,u3]) rfl ?_
    have c4:=fun k (hk:w.heap.size+1+1+1 < k)=>(c3 k (by omega)).trans (a3 k (by omega))
    have hp:=vals_keep HI5p.out.1 (fun a ha=>c4 a.block (HLo.out a (Or.inl ha))) (by simp)
    have he:=vals_keep HI5p.out.2 (fun a ha=>c4 a.block (HLo.out a (Or.inr ha))) (by simp)
    have hlo:∀ a,po=some a\/eo=some a->w.heap.size<=a.block:=fun a ha=>by have:=HLo.out a ha;omega
    rw [HR1.out];exact ⟨c2.drew,Or.inr ⟨HIs.out,po,eo,pc,ec,rfl,⟨(HG.out.below c2.drew).r,(HG.out.below c2.drew).q,hp.below (Below.refl _ _).drew,he.below (Below.refl _ _).drew⟩,hlo,HCap.out⟩⟩
  ·have h0':((fc:Int) == 0)=false:=beq_false_of_ne (by omega)
   have HR1:Hid (ruZ P size cs nc=((fc:Int),(fa:Int))):=by show _=_;rw [HRu.out,if_neg h0]
   clear h0;go_wp2_with fail;generalize ((w2.alloc (.cells #[.slice ao P.rows.length ac,.slice qo P.qs.length qc,.slice po P.rows.length pc,.slice eo P.rows.length ec] 65)).alloc (.cells #[I (fc:Int),I (fa:Int)] 32))=w3 at *;obtain ⟨e0,e1,e2,e3⟩:=cells4 H3.out.r;obtain ⟨f0,f1⟩:=cells2 H3.out.f;have hr:∀ j,w3.frozen? ⟨w.heap.size+1+1,j,none⟩=false:=fun j=>by have:=H3.out.r;simp only [World.frozen?,this];rfl
   have hf:∀ j,w3.frozen? ⟨w.heap.size+1+1+1,j,none⟩=false:=fun j=>by have:=H3.out.f;simp only [World.frozen?,this];rfl
   have hlt2:=blk_lt H2.out.f;generalize w2.heap.size=m2 at *;have n1:¬ m2+1=w.heap.size+1+1:=by omega
   have n2:¬ m2+1=w.heap.size+1+1+1:=by omega
   have n3:¬ m2=w.heap.size+1+1:=by omega
   have n4:¬ m2=w.heap.size+1+1+1:=by omega
   have n5:¬ m2=w.heap.size+1:=by omega
   go_region
   all_goals
    go_wp2_with fail
    obtain ⟨a1,a2,a3⟩:=put4L (B:=w.heap.size+1+1) (v0:=.slice ao P.rows.length ac) (v1:=.slice qo P.qs.length qc) (v2:=.slice po P.rows.length pc) (v3:=.slice eo P.rows.length ec) H3.out.be (by omega) H3.out.r
    obtain ⟨c1,c2,c3⟩:=put2M (B:=w.heap.size+1+1+1) (v0:=I (fc:Int)) (v1:=I (fa:Int)) a2 (by omega) ((a3 _ (by omega)).trans H3.out.f)
    obtain ⟨y0,y1⟩:=cells2 c1;obtain ⟨u0,u1,u2,u3⟩:=cells4 ((c3 _ (by omega)).trans a1)
    refine bodyPost_ret (v:=.tuple #[.agg #[.slice ao P.rows.length ac,.slice qo P.qs.length qc,.slice po P.rows.length pc,.slice eo P.rows.length ec],.agg #[I (fc:Int),I (fa:Int)]]) (by simp [results,Tryz.results43,go_sem,y0,y1,u0,u1,u2,u3]) rfl ?_
    have c4:=fun k (hk:w.heap.size+1+1+1 < k)=>(c3 k (by omega)).trans (a3 k (by omega))
    have hp:=vals_keep HI3.out.p (fun a ha=>c4 a.block (HLo.out a (Or.inl ha))) (by simp)
    have he:=vals_keep HI3.out.e (fun a ha=>c4 a.block (HLo.out a (Or.inr ha))) (by simp)
    have hlo:∀ a,po=some a\/eo=some a->w.heap.size<=a.block:=fun a ha=>by have:=HLo.out a ha;omega
    rw [HR1.out];exact ⟨c2.drew,Or.inr ⟨HIs.out,po,eo,pc,ec,rfl,⟨(HG.out.below c2.drew).r,(HG.out.below c2.drew).q,hp.below (Below.refl _ _).drew,he.below (Below.refl _ _).drew⟩,hlo,HCap.out⟩⟩
end Go.Proofs.YtbledbjcghaanaaGreat.Nm.Ty
