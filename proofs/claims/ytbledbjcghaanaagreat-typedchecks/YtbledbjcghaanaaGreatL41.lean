import Derived.Test.YtbledbjcghaanaaGreatL40
import Derived.Test.YtbledbjcghaanaaGreatTl
set_option maxHeartbeats 25600000
set_option maxRecDepth 100000
namespace Go.Proofs.YtbledbjcghaanaaGreat.Nm.Ty
open Go.RowKit Go.Maps Sp Lx Gr Nm
def Kd9 (l:List Rz):Prop:=Kd8 l/\∀ j,j < l.length->(rat l j).kind=13->0 < km l j
def tyq (l:List Rz) (k:Nat):List Int:=(List.range k).map fun i=>(rP l i).is
theorem tyq_succ (l:List Rz) (k:Nat):iv (tyq l (k+1))=iv (tyq l k)++[I (rP l k).is]:=by simp [tyq,iv,List.range_succ]
theorem tyq_len (l:List Rz) (k:Nat):(tyq l k).length=k:=by simp [tyq]
structure Tb8 (w X:World) (pc:Array Value) (l:List Rz) (ga gf:Nat):Prop where
 p:X.heap[w.heap.size]?=some (.cells pc 27 (0,0))
 f:X.heap[w.heap.size+1]?=some (.cells #[I 0,I 0] 32 (0,0))
 a:RowI X ga l.length (asksN l l.length)
 x:RowT X gf l.length (fixN l l.length)
 be:Below w.heap.size w X
theorem Tb8.below {w X Y:World} {pc:Array Value} {l:List Rz} {ga gf:Nat} (h:Tb8 w X pc l ga gf) (hb:Below X.heap.size X Y):Tb8 w Y pc l ga gf:=⟨(hb.block _ (blk_lt h.p)).trans h.p,(hb.block _ (blk_lt h.f)).trans h.f,h.a.below hb h.a.lt,h.x.below hb h.x.lt,h.be.trans (hb.mono h.be.size)⟩
theorem rtypes8 {P:Pg} {ao qo vo tto uo oo:Option Addr} {ac qc vc tc uc oc:Nat} {w:World} (h:RdG w P ao qo vo tto uo oo) (hs:P.Sm) (hkd:∀ r ∈ P.rows,r.kids<=9223372036854775807/\r.name.size<=4611686018427387000) (hR:IsOk P->Rdy P/\Kd9 P.rows):
  Calls Tryz.prog 12 #[pvG P ao qo vo tto uo oo ac qc vc tc uc oc] w fun e w'=>Below w.heap.size w w'/\((¬ IsOk P/\e=.returned (.tuple #[pz,.agg #[I 23,I 0]]))\/(IsOk P/\(fltN P.rows (ghL P.qs) P.rows.length).1 ≠ 0/\e=.returned (.tuple #[pz,.agg #[I ((fltN P.rows (ghL P.qs) P.rows.length).1:Nat),I ((fltN P.rows (ghL P.qs) P.rows.length).2:Nat)]]))
   \/ (IsOk P/\(fltN P.rows (ghL P.qs) P.rows.length).1=0/\∃ v,e=.returned (.tuple #[v,.agg #[I 0,I 0]])/\w'.ownsRow w.heap.size 3 1 v P.rows.length (iv (tyq P.rows P.rows.length)))):=by
 obtain ⟨j0,hj,hj0,hj1,hj2⟩:=info_parts info3;have hb1:Below w.heap.size w ((w.alloc (.cells (pC P ao ac qo qc vo vc tto tc uo uc oo oc) 27)).alloc (.cells #[I 0,I 0] 32)):=(bAl w _).alloc (by simp) _
 have H1:Hid (((w.alloc (.cells (pC P ao ac qo qc vo vc tto tc uo uc oo oc) 27)).alloc (.cells #[I 0,I 0] 32)).heap[w.heap.size]?=some (.cells (pC P ao ac qo qc vo vc tto tc uo uc oo oc) 27 (0,0))/\((w.alloc (.cells (pC P ao ac qo qc vo vc tto tc uo uc oo oc) 27)).alloc (.cells #[I 0,I 0] 32)).heap[w.heap.size+1]?=some (.cells #[I 0,I 0] 32 (0,0))/\Below w.heap.size w ((w.alloc (.cells (pC P ao ac qo qc vo vc tto tc uo uc oo oc) 27)).alloc (.cells #[I 0,I 0] 32))):=⟨by rw [alloc_old _ _ _ (by simp)];exact alloc_at _ _ _ rfl,alloc_at _ _ _ (by simp),hb1⟩
 have HD:=hdn <| h;have HRy:=hdn <| hR;have HSr:Hid (P.rows.length<=2932031007317):=hs.r;have HCk:=hdn <| rcheck_any (ac:=ac) (qc:=qc) (vc:=vc) (tc:=tc) (uc:=uc) (oc:=oc) (h.below hb1) hs hkd;obtain ⟨k0,k1,k2,k3,k4,k5,k6,k7⟩:=zr8 H1.out.1;dsimp only [pvG] at *;clear h hs hkd hR hb1;go_enter Tryz.func12,Tryz.ntmps12;go_wp2_with fail;generalize ((w.alloc (.cells (pC P ao ac qo qc vo vc tto tc uo uc oo oc) 27)).alloc (.cells #[I 0,I 0] 32))=w1 at *;refine Calls.mono HCk.out ?_;rintro e w2 ⟨hck,hb2⟩;have H2:Hid (w2.heap[w.heap.size]?=some (.cells (pC P ao ac qo qc vo vc tto tc uo uc oo oc) 27 (0,0))/\w2.heap[w.heap.size+1]?=some (.cells #[I 0,I 0] 32 (0,0))/\Below w.heap.size w w2):=⟨(hb2.block _ (blk_lt H1.out.1)).trans H1.out.1,(hb2.block _ (blk_lt H1.out.2.1)).trans H1.out.2.1,H1.out.2.2.trans (hb2.mono H1.out.2.2.size)⟩;clear H1 hb2 HCk k0 k1 k2 k3 k4 k5 k6 k7;rcases hck with ⟨p',hp1,hp2,rfl⟩ | ⟨hno,rfl⟩
 ·have hok:IsOk P:=⟨p',hp1,hp2⟩;have HIs:Hid (IsOk P):=hok;obtain ⟨hRd,hKd⟩:=HRy.out hok;have HRd:=hdn <| hRd;have HKd:=hdn <| hKd;have HMk:=hdn <| rmarks8 (cap:=ac) (HD.out.below H2.out.2.2).r HSr.out hRd.t hKd.1;have HFc:Hid (∀ i,i < P.rows.length->fixN P.rows P.rows.length i=decide (i < conN P.rows i)):=fun i hi=>fix_con hRd.t.whole hKd.2 _ (Nat.le_refl _) hi;obtain ⟨k0,k1,k2,k3,k4,k5,k6,k7⟩:=zr8 H2.out.1;clear hp1 hp2 p' hok hRd hKd;go_wp2_with fail;refine Calls.mono HMk.out ?_;rintro e x2 ⟨rfl,hra,hrx,hb⟩;have HT2:Hid (Tb8 w x2 (pC P ao ac qo qc vo vc tto tc uo uc oo oc) P.rows w2.heap.size (w2.heap.size+1)):=⟨(hb.block _ (blk_lt H2.out.1)).trans H2.out.1,(hb.block _ (blk_lt H2.out.2.1)).trans H2.out.2.1,hra,hrx,H2.out.2.2.trans (hb.mono H2.out.2.2.size)⟩;have hln:(P.rows.length:Int)<=2932031007317:=by have:=HSr.out;omega
  clear hra hrx hb HMk H2 k0 k1 k2 k3 k4 k5 k6 k7;generalize w2.heap.size+1=gf at *;generalize w2.heap.size=ga at *;go_wp2_with fail
  go_loopg [7,8] P.rows.length (fun gq x c wr=>∃ (k:Nat) (v:Value),k<=P.rows.length/\gq=P.rows.length - k/\v=x/\c=I (k:Int)/\wr.ownsRow x2.heap.size 3 1 v k (iv (tyq P.rows k))/\Below x2.heap.size x2 wr/\fltN P.rows (ghL P.qs) k=(0,0))
  case atStart=>exact ⟨0,_,Nat.zero_le _,rfl,rfl,by go_num,World.ownsRow_nil _ _ _ _,Below.refl _ _,rfl⟩
  case round=>
   obtain ⟨k,v,hk,hgk,rfl,rfl,hO,hB,hF⟩:=hrel;have HG:Hid (gk=P.rows.length - k):=hgk;have HO:Hid (wr.ownsRow x2.heap.size 3 1 v k (iv (tyq P.rows k))/\Below x2.heap.size x2 wr/\fltN P.rows (ghL P.qs) k=(0,0)):=⟨hO,hB,hF⟩;have HT:=hdn <| HT2.out.below hB;obtain ⟨_,k1,_⟩:=zr8 HT.out.p;obtain ⟨bo,bc,rfl⟩:=own_form hO;clear hgk hO hB hF;by_cases hlk:k < P.rows.length
   ·have hlk':(k:Int) < (P.rows.length:Int):=by omega
    obtain ⟨gr,or,rfl,_,c0,_⟩:=row_cells (HD.out.below HT.out.be).r hlk;have ca:=HT.out.a.cell hlk;have cx:=HT.out.x.cell hlk;rw [HFc.out k hlk] at cx;have HZ:Hid (fltZ P.rows (ghL P.qs) k=if asksN P.rows P.rows.length k ≠ 0/\asksN P.rows P.rows.length k ≠ (rP P.rows k).is then 41 else if k < conN P.rows k/\(rP P.rows k).changing=true then 42 else if othZ P.rows (ghL P.qs) k=true then 46 else 0):=rfl;have HTy:Hid (∀ W,Calls Tryz.prog 35 #[I (rat P.rows k).kind] W fun e w'=>e=.returned (I (rP P.rows k).is)/\w'=W):=fun W=>rtype8 _ (rat P.rows k).n W;have HFr:Hid (∀ W,Calls Tryz.prog 36 #[I (rat P.rows k).kind] W fun e w'=>e=.returned (.bool (rP P.rows k).changing)/\w'=W):=fun W=>rfree8 _ (rat P.rows k).n W;have HOt:=hdn <| rother8 (P:=P) (ao:=some ⟨gr,or,none⟩) (qo:=qo) (vo:=vo) (tto:=tto) (uo:=uo) (oo:=oo) (ac:=ac) (qc:=qc) (vc:=vc) (tc:=tc) (uc:=uc) (oc:=oc) k (HD.out.below HT.out.be).r (HD.out.below HT.out.be).q HSr.out hlk HRd.out.q HRd.out.k;have HFa:Hid (∀ c,fltZ P.rows (ghL P.qs) k=c->c ≠ 0->fltN P.rows (ghL P.qs) P.rows.length=(c,k)):=fun c hc h0=>by rw [flt_at HO.out.2.2 (by omega) hlk,hc]
    have HFn:Hid (fltZ P.rows (ghL P.qs) k=0->fltN P.rows (ghL P.qs) (k+1)=(0,0)):=fun hc=>flt_no HO.out.2.2 hc;have HTl:Hid (iv (tyq P.rows (k+1))=iv (tyq P.rows k)++[I (rP P.rows k).is]):=tyq_succ _ _;have HKl:Hid (k < P.rows.length/\P.rows.length<=2932031007317):=⟨hlk,HSr.out⟩;obtain ⟨f0,f1⟩:=fcells2 HT.out.f;have hff:=zr8f HT.out.f;obtain ⟨_,_,k2,k3,k4,k5,k6,k7⟩:=zr8 HT.out.p;have k0:=(zr8 HT.out.p).1;clear hlk;generalize asksN P.rows P.rows.length k=ak at *;generalize (rP P.rows k).is=ty at *;generalize (rP P.rows k).changing=ch at *;generalize othZ P.rows (ghL P.qs) k=oz at *;generalize (rat P.rows k).kind=kd at *;generalize conN P.rows k=cn at *;by_cases h0:ak=0
    ·have h0b:(ak != 0)=false:=by simp [h0]
     have hA:¬ (ak ≠ 0/\ak ≠ ty):=fun h=>h.1 h0;by_cases hc:k < cn
     ·have hcd:decide (k < cn)=true:=decide_eq_true hc;rw [hcd] at cx;cases ch with
      | true=>
       go_wp2_with fail
       refine Calls.mono (HTy.out _) ?_;rintro e w5 ⟨rfl,rfl⟩;go_wp2_with fail;refine Calls.mono (HFr.out _) ?_;rintro e w6 ⟨rfl,rfl⟩;have HE:=hdn <| HFa.out 42 (by rw [HZ.out];rw [if_neg hA,if_pos ⟨hc,by simp⟩]) (by decide)
       go_wp2_with fail
       obtain ⟨q1,q2,q3⟩:=put2M (B:=w.heap.size+1) (v0:=I 42) (v1:=I (k:Int)) HT.out.be (Nat.le_succ _) HT.out.f;obtain ⟨y0,y1⟩:=cells2 q1;refine bodyPost_ret (v:=.tuple #[pz,.agg #[I 42,I (k:Int)]]) (by simp [results,Tryz.results12,go_sem,y0,y1]) rfl ?_
       exact ⟨q2,Or.inr (Or.inl ⟨HIs.out,by rw [HE.out];simp,by rw [HE.out];rfl⟩)⟩
      | false=>
       go_wp2_with fail
       refine Calls.mono (HTy.out _) ?_;rintro e w5 ⟨rfl,rfl⟩;go_wp2_with fail;refine Calls.mono (HFr.out _) ?_;rintro e w7 ⟨rfl,rfl⟩;go_wp2_with fail;refine Calls.mono HOt.out ?_;rintro e w6 ⟨rfl,hb6⟩;have HT5:=hdn <| HT.out.below hb6;have HO5:Hid (w6.ownsRow x2.heap.size 3 1 (.slice bo k bc) k (iv (tyq P.rows k))/\Below x2.heap.size x2 w6):=⟨own_below HO.out.1 hb6,HO.out.2.1.trans (hb6.mono HO.out.2.1.size)⟩;clear hb6 HOt f0 f1 hff k0 k1 k2 k3 k4 k5 k6 k7 c0 ca cx;obtain ⟨f0,f1⟩:=fcells2 HT5.out.f;have hff:=zr8f HT5.out.f;cases oz with
       | true=>
        have HE:=hdn <| HFa.out 46 (by rw [HZ.out];rw [if_neg hA,if_neg (fun h=>by cases h.2)];rfl) (by decide)
        go_wp2_with fail
        obtain ⟨q1,q2,q3⟩:=put2M (B:=w.heap.size+1) (v0:=I 46) (v1:=I (k:Int)) HT5.out.be (Nat.le_succ _) HT5.out.f;obtain ⟨y0,y1⟩:=cells2 q1;refine bodyPost_ret (v:=.tuple #[pz,.agg #[I 46,I (k:Int)]]) (by simp [results,Tryz.results12,go_sem,y0,y1]) rfl ?_
        exact ⟨q2,Or.inr (Or.inl ⟨HIs.out,by rw [HE.out];simp,by rw [HE.out];rfl⟩)⟩
       | false=>
        have HF1:=hdn <| HFn.out (by rw [HZ.out];rw [if_neg hA,if_neg (fun h=>by cases h.2)];rfl)
        have hb2:Below w6.heap.size w6 (w6.alloc (.cells #[I ty] 3)):=bAl w6 _;have HO2:Hid ((w6.alloc (.cells #[I ty] 3)).ownsRow x2.heap.size 3 1 (.slice bo k bc) k (iv (tyq P.rows k))):=own_below HO5.out.1 hb2;clear hb2;go_wp2_with (at_builtin;refine append_gone _ rfl _ _ 25 rfl x2.heap.size 3 j0 (I 0) 1 8 Tryz.underlying25 hj hj0 hj1 hj2 rfl (by decide) (.slice bo k bc) k (iv (tyq P.rows k)) rfl HO2.out ⟨w6.heap.size,0,none⟩ 1 1 [I ty] rfl rfl (cell_one w6 _ _) (by intro u hu;simp only [List.mem_cons,List.not_mem_nil,or_false] at hu;subst hu;rfl) (by have:=HKl.out;unfold maxLen;omega) (by have:=HKl.out;omega) (by have h1:=HO5.out.2.size;rw [World.size_alloc];omega) (by decide) ?_)
        intro v4 w4 ho hG;have HO4:Hid (w4.ownsRow x2.heap.size 3 1 v4 (k+1) (iv (tyq P.rows (k+1)))):=by rw [HTl.out];exact ho
        have hb4:Below x2.heap.size (w6.alloc (.cells #[I ty] 3)) w4:=(Went.gone hG).low (fun j hj=>(World.ownsRow.lt HO2.out j hj).1) (by have h1:=HO5.out.2.size;rw [World.size_alloc];omega)
        have HB4:Hid (Below x2.heap.size x2 w4):=(HO5.out.2.alloc HO5.out.2.size _).trans hb4;clear ho hG hb4;go_wp2_with fail;go_roundg (P.rows.length - (k+1))
        case measure=>have h1:=HG.out;have:=HKl.out;omega
        case rel=>exact ⟨k+1,_,by have:=HKl.out;omega,rfl,rfl,by go_num,HO4.out,HB4.out,HF1.out⟩
     ·have hcd:decide (k < cn)=false:=decide_eq_false hc;rw [hcd] at cx;go_wp2_with fail;refine Calls.mono (HTy.out _) ?_;rintro e w5 ⟨rfl,rfl⟩;go_wp2_with fail;refine Calls.mono HOt.out ?_;rintro e w6 ⟨rfl,hb6⟩;have HT5:=hdn <| HT.out.below hb6;have HO5:Hid (w6.ownsRow x2.heap.size 3 1 (.slice bo k bc) k (iv (tyq P.rows k))/\Below x2.heap.size x2 w6):=⟨own_below HO.out.1 hb6,HO.out.2.1.trans (hb6.mono HO.out.2.1.size)⟩;clear hb6 HOt f0 f1 hff k0 k1 k2 k3 k4 k5 k6 k7 c0 ca cx;obtain ⟨f0,f1⟩:=fcells2 HT5.out.f;have hff:=zr8f HT5.out.f;cases oz with
      | true=>
       have HE:=hdn <| HFa.out 46 (by rw [HZ.out];rw [if_neg hA,if_neg (fun h=>hc h.1)];rfl) (by decide)
       go_wp2_with fail
       obtain ⟨q1,q2,q3⟩:=put2M (B:=w.heap.size+1) (v0:=I 46) (v1:=I (k:Int)) HT5.out.be (Nat.le_succ _) HT5.out.f;obtain ⟨y0,y1⟩:=cells2 q1;refine bodyPost_ret (v:=.tuple #[pz,.agg #[I 46,I (k:Int)]]) (by simp [results,Tryz.results12,go_sem,y0,y1]) rfl ?_
       exact ⟨q2,Or.inr (Or.inl ⟨HIs.out,by rw [HE.out];simp,by rw [HE.out];rfl⟩)⟩
      | false=>
       have HF1:=hdn <| HFn.out (by rw [HZ.out];rw [if_neg hA,if_neg (fun h=>hc h.1)];rfl)
       have hb2:Below w6.heap.size w6 (w6.alloc (.cells #[I ty] 3)):=bAl w6 _;have HO2:Hid ((w6.alloc (.cells #[I ty] 3)).ownsRow x2.heap.size 3 1 (.slice bo k bc) k (iv (tyq P.rows k))):=own_below HO5.out.1 hb2;clear hb2;go_wp2_with (at_builtin;refine append_gone _ rfl _ _ 25 rfl x2.heap.size 3 j0 (I 0) 1 8 Tryz.underlying25 hj hj0 hj1 hj2 rfl (by decide) (.slice bo k bc) k (iv (tyq P.rows k)) rfl HO2.out ⟨w6.heap.size,0,none⟩ 1 1 [I ty] rfl rfl (cell_one w6 _ _) (by intro u hu;simp only [List.mem_cons,List.not_mem_nil,or_false] at hu;subst hu;rfl) (by have:=HKl.out;unfold maxLen;omega) (by have:=HKl.out;omega) (by have h1:=HO5.out.2.size;rw [World.size_alloc];omega) (by decide) ?_)
       intro v4 w4 ho hG;have HO4:Hid (w4.ownsRow x2.heap.size 3 1 v4 (k+1) (iv (tyq P.rows (k+1)))):=by rw [HTl.out];exact ho
       have hb4:Below x2.heap.size (w6.alloc (.cells #[I ty] 3)) w4:=(Went.gone hG).low (fun j hj=>(World.ownsRow.lt HO2.out j hj).1) (by have h1:=HO5.out.2.size;rw [World.size_alloc];omega)
       have HB4:Hid (Below x2.heap.size x2 w4):=(HO5.out.2.alloc HO5.out.2.size _).trans hb4;clear ho hG hb4;go_wp2_with fail;go_roundg (P.rows.length - (k+1))
       case measure=>have h1:=HG.out;have:=HKl.out;omega
       case rel=>exact ⟨k+1,_,by have:=HKl.out;omega,rfl,rfl,by go_num,HO4.out,HB4.out,HF1.out⟩
    ·have h0b:(ak != 0)=true:=by simp [h0]
     by_cases h1:ak=ty
     ·have h1b:(ak != ty)=false:=by simp [h1]
      have hA:¬ (ak ≠ 0/\ak ≠ ty):=fun h=>h.2 h1;by_cases hc:k < cn
      ·have hcd:decide (k < cn)=true:=decide_eq_true hc;rw [hcd] at cx;cases ch with
       | true=>
        go_wp2_with fail
        refine Calls.mono (HTy.out _) ?_;rintro e w5 ⟨rfl,rfl⟩;go_wp2_with fail;refine Calls.mono (HFr.out _) ?_;rintro e w6 ⟨rfl,rfl⟩;have HE:=hdn <| HFa.out 42 (by rw [HZ.out];rw [if_neg hA,if_pos ⟨hc,by simp⟩]) (by decide)
        go_wp2_with fail
        obtain ⟨q1,q2,q3⟩:=put2M (B:=w.heap.size+1) (v0:=I 42) (v1:=I (k:Int)) HT.out.be (Nat.le_succ _) HT.out.f;obtain ⟨y0,y1⟩:=cells2 q1;refine bodyPost_ret (v:=.tuple #[pz,.agg #[I 42,I (k:Int)]]) (by simp [results,Tryz.results12,go_sem,y0,y1]) rfl ?_
        exact ⟨q2,Or.inr (Or.inl ⟨HIs.out,by rw [HE.out];simp,by rw [HE.out];rfl⟩)⟩
       | false=>
        go_wp2_with fail
        refine Calls.mono (HTy.out _) ?_;rintro e w5 ⟨rfl,rfl⟩;go_wp2_with fail;refine Calls.mono (HFr.out _) ?_;rintro e w7 ⟨rfl,rfl⟩;go_wp2_with fail;refine Calls.mono HOt.out ?_;rintro e w6 ⟨rfl,hb6⟩;have HT5:=hdn <| HT.out.below hb6;have HO5:Hid (w6.ownsRow x2.heap.size 3 1 (.slice bo k bc) k (iv (tyq P.rows k))/\Below x2.heap.size x2 w6):=⟨own_below HO.out.1 hb6,HO.out.2.1.trans (hb6.mono HO.out.2.1.size)⟩;clear hb6 HOt f0 f1 hff k0 k1 k2 k3 k4 k5 k6 k7 c0 ca cx;obtain ⟨f0,f1⟩:=fcells2 HT5.out.f;have hff:=zr8f HT5.out.f;cases oz with
        | true=>
         have HE:=hdn <| HFa.out 46 (by rw [HZ.out];rw [if_neg hA,if_neg (fun h=>by cases h.2)];rfl) (by decide)
         go_wp2_with fail
         obtain ⟨q1,q2,q3⟩:=put2M (B:=w.heap.size+1) (v0:=I 46) (v1:=I (k:Int)) HT5.out.be (Nat.le_succ _) HT5.out.f;obtain ⟨y0,y1⟩:=cells2 q1;refine bodyPost_ret (v:=.tuple #[pz,.agg #[I 46,I (k:Int)]]) (by simp [results,Tryz.results12,go_sem,y0,y1]) rfl ?_
         exact ⟨q2,Or.inr (Or.inl ⟨HIs.out,by rw [HE.out];simp,by rw [HE.out];rfl⟩)⟩
        | false=>
         have HF1:=hdn <| HFn.out (by rw [HZ.out];rw [if_neg hA,if_neg (fun h=>by cases h.2)];rfl)
         have hb2:Below w6.heap.size w6 (w6.alloc (.cells #[I ty] 3)):=bAl w6 _;have HO2:Hid ((w6.alloc (.cells #[I ty] 3)).ownsRow x2.heap.size 3 1 (.slice bo k bc) k (iv (tyq P.rows k))):=own_below HO5.out.1 hb2;clear hb2;go_wp2_with (at_builtin;refine append_gone _ rfl _ _ 25 rfl x2.heap.size 3 j0 (I 0) 1 8 Tryz.underlying25 hj hj0 hj1 hj2 rfl (by decide) (.slice bo k bc) k (iv (tyq P.rows k)) rfl HO2.out ⟨w6.heap.size,0,none⟩ 1 1 [I ty] rfl rfl (cell_one w6 _ _) (by intro u hu;simp only [List.mem_cons,List.not_mem_nil,or_false] at hu;subst hu;rfl) (by have:=HKl.out;unfold maxLen;omega) (by have:=HKl.out;omega) (by have h1:=HO5.out.2.size;rw [World.size_alloc];omega) (by decide) ?_)
         intro v4 w4 ho hG;have HO4:Hid (w4.ownsRow x2.heap.size 3 1 v4 (k+1) (iv (tyq P.rows (k+1)))):=by rw [HTl.out];exact ho
         have hb4:Below x2.heap.size (w6.alloc (.cells #[I ty] 3)) w4:=(Went.gone hG).low (fun j hj=>(World.ownsRow.lt HO2.out j hj).1) (by have h1:=HO5.out.2.size;rw [World.size_alloc];omega)
         have HB4:Hid (Below x2.heap.size x2 w4):=(HO5.out.2.alloc HO5.out.2.size _).trans hb4;clear ho hG hb4;go_wp2_with fail;go_roundg (P.rows.length - (k+1))
         case measure=>have h1:=HG.out;have:=HKl.out;omega
         case rel=>exact ⟨k+1,_,by have:=HKl.out;omega,rfl,rfl,by go_num,HO4.out,HB4.out,HF1.out⟩
      ·have hcd:decide (k < cn)=false:=decide_eq_false hc;rw [hcd] at cx;go_wp2_with fail;refine Calls.mono (HTy.out _) ?_;rintro e w5 ⟨rfl,rfl⟩;go_wp2_with fail;refine Calls.mono HOt.out ?_;rintro e w6 ⟨rfl,hb6⟩;have HT5:=hdn <| HT.out.below hb6;have HO5:Hid (w6.ownsRow x2.heap.size 3 1 (.slice bo k bc) k (iv (tyq P.rows k))/\Below x2.heap.size x2 w6):=⟨own_below HO.out.1 hb6,HO.out.2.1.trans (hb6.mono HO.out.2.1.size)⟩;clear hb6 HOt f0 f1 hff k0 k1 k2 k3 k4 k5 k6 k7 c0 ca cx;obtain ⟨f0,f1⟩:=fcells2 HT5.out.f;have hff:=zr8f HT5.out.f;cases oz with
       | true=>
        have HE:=hdn <| HFa.out 46 (by rw [HZ.out];rw [if_neg hA,if_neg (fun h=>hc h.1)];rfl) (by decide)
        go_wp2_with fail
        obtain ⟨q1,q2,q3⟩:=put2M (B:=w.heap.size+1) (v0:=I 46) (v1:=I (k:Int)) HT5.out.be (Nat.le_succ _) HT5.out.f;obtain ⟨y0,y1⟩:=cells2 q1;refine bodyPost_ret (v:=.tuple #[pz,.agg #[I 46,I (k:Int)]]) (by simp [results,Tryz.results12,go_sem,y0,y1]) rfl ?_
        exact ⟨q2,Or.inr (Or.inl ⟨HIs.out,by rw [HE.out];simp,by rw [HE.out];rfl⟩)⟩
       | false=>
        have HF1:=hdn <| HFn.out (by rw [HZ.out];rw [if_neg hA,if_neg (fun h=>hc h.1)];rfl)
        have hb2:Below w6.heap.size w6 (w6.alloc (.cells #[I ty] 3)):=bAl w6 _;have HO2:Hid ((w6.alloc (.cells #[I ty] 3)).ownsRow x2.heap.size 3 1 (.slice bo k bc) k (iv (tyq P.rows k))):=own_below HO5.out.1 hb2;clear hb2;go_wp2_with (at_builtin;refine append_gone _ rfl _ _ 25 rfl x2.heap.size 3 j0 (I 0) 1 8 Tryz.underlying25 hj hj0 hj1 hj2 rfl (by decide) (.slice bo k bc) k (iv (tyq P.rows k)) rfl HO2.out ⟨w6.heap.size,0,none⟩ 1 1 [I ty] rfl rfl (cell_one w6 _ _) (by intro u hu;simp only [List.mem_cons,List.not_mem_nil,or_false] at hu;subst hu;rfl) (by have:=HKl.out;unfold maxLen;omega) (by have:=HKl.out;omega) (by have h1:=HO5.out.2.size;rw [World.size_alloc];omega) (by decide) ?_)
        intro v4 w4 ho hG;have HO4:Hid (w4.ownsRow x2.heap.size 3 1 v4 (k+1) (iv (tyq P.rows (k+1)))):=by rw [HTl.out];exact ho
        have hb4:Below x2.heap.size (w6.alloc (.cells #[I ty] 3)) w4:=(Went.gone hG).low (fun j hj=>(World.ownsRow.lt HO2.out j hj).1) (by have h1:=HO5.out.2.size;rw [World.size_alloc];omega)
        have HB4:Hid (Below x2.heap.size x2 w4):=(HO5.out.2.alloc HO5.out.2.size _).trans hb4;clear ho hG hb4;go_wp2_with fail;go_roundg (P.rows.length - (k+1))
        case measure=>have h1:=HG.out;have:=HKl.out;omega
        case rel=>exact ⟨k+1,_,by have:=HKl.out;omega,rfl,rfl,by go_num,HO4.out,HB4.out,HF1.out⟩
     ·have h1b:(ak != ty)=true:=by simp [h1]
      go_wp2_with fail
      refine Calls.mono (HTy.out _) ?_;rintro e w5 ⟨rfl,rfl⟩;have HE:=hdn <| HFa.out 41 (by rw [HZ.out];exact if_pos ⟨h0,h1⟩) (by decide)
      go_wp2_with fail
      obtain ⟨q1,q2,q3⟩:=put2M (B:=w.heap.size+1) (v0:=I 41) (v1:=I (k:Int)) HT.out.be (Nat.le_succ _) HT.out.f;obtain ⟨y0,y1⟩:=cells2 q1;refine bodyPost_ret (v:=.tuple #[pz,.agg #[I 41,I (k:Int)]]) (by simp [results,Tryz.results12,go_sem,y0,y1]) rfl ?_
      exact ⟨q2,Or.inr (Or.inl ⟨HIs.out,by rw [HE.out];simp,by rw [HE.out];rfl⟩)⟩
   ·have hke:k=P.rows.length:=by omega
    have hlk':¬ (k:Int) < (P.rows.length:Int):=by omega
    have HE:Hid (fltN P.rows (ghL P.qs) P.rows.length=(0,0)):=by rw [<-hke];exact HO.out.2.2
    have HO9:Hid (wr.ownsRow w.heap.size 3 1 (.slice bo k bc) P.rows.length (iv (tyq P.rows P.rows.length))/\w.heap.size+1 < x2.heap.size):=by
     refine ⟨?_,blk_lt HT2.out.f⟩;have h1:=own_base HO.out.1 (show w.heap.size<=x2.heap.size from HT2.out.be.size);rw [hke] at h1 ⊢;exact h1
    obtain ⟨f0,f1⟩:=fcells2 HT.out.f;have hff:=zr8f HT.out.f;have HOb:=hdn <| HO.out.1;clear hke hlk hk;go_wp2_with fail;obtain ⟨q1,q2,q3⟩:=put2M (B:=w.heap.size+1) (v0:=I 0) (v1:=I 0) HT.out.be (Nat.le_succ _) HT.out.f;obtain ⟨y0,y1⟩:=cells2 q1;refine bodyPost_ret (v:=.tuple #[.slice bo k bc,.agg #[I 0,I 0]]) (by simp [results,Tryz.results12,go_sem,y0,y1]) rfl ?_
    refine ⟨q2,Or.inr (Or.inr ⟨HIs.out,by rw [HE.out],_,rfl,?_⟩)⟩
    exact own_keepB HO9.out.1 (fun j hj=>q3 j (by have:=(World.ownsRow.lt HOb.out j hj).1;have:=HO9.out.2;omega))
 ·have HNo:Hid (¬ IsOk P):=hno;obtain ⟨f0,f1⟩:=fcells2 H2.out.2.1;have hff:=zr8f H2.out.2.1;clear hno;go_wp2_with fail;obtain ⟨q1,q2,q3⟩:=put2M (B:=w.heap.size+1) (v0:=I 23) (v1:=I 0) H2.out.2.2 (Nat.le_succ _) H2.out.2.1;obtain ⟨y0,y1⟩:=cells2 q1;refine bodyPost_ret (v:=.tuple #[pz,.agg #[I 23,I 0]]) (by simp [results,Tryz.results12,go_sem,y0,y1]) rfl ?_
  exact ⟨q2,Or.inl ⟨HNo.out,rfl⟩⟩
theorem kd9_of {P:Pg} (h:IsOk P):Kd9 P.rows:=by
 obtain ⟨p,h1,rfl⟩:=h;have t:=res_told8 h1;refine ⟨fun i hi=>⟨fun hk=>?_,fun hk=>?_⟩,fun i hi hk=>?_⟩
 ·have h2:=(t.kids i hi).2;rw [show (rat p.rows i).kind=4 from hk] at h2;have e:greatest 4=3:=by decide
  rw [e] at h2;show km p.rows i<=3;omega
 ·have h2:=(t.kids i hi).2;have e:greatest (rat p.rows i).kind=1:=by
   rcases hk with hk | hk | hk
   ·rw [show (rat p.rows i).kind=5 from hk];decide
   ·rw [show (rat p.rows i).kind=6 from hk];decide
   ·rw [show (rat p.rows i).kind=14 from hk];decide
  rw [e] at h2;show km p.rows i<=1;omega
 ·have h2:=(t.kids i hi).1;rw [show (rat p.rows i).kind=13 from hk] at h2;have e:0 < least 13:=by decide
  show 0 < km p.rows i
  omega
def TyO (P:Pg) (vo:Option Addr) (L:List Int) (fe fa:Int) (W:World) (N:Nat):Prop:=
 IsVals W vo (iv L)/\(∀ a,vo=some a->N<=a.block)/\L.length<=2932031007317/\((¬ IsOk P/\L=[]/\fe=23/\fa=0)\/(IsOk P/\(fltN P.rows (ghL P.qs) P.rows.length).1 ≠ 0/\L=[]/\fe=((fltN P.rows (ghL P.qs) P.rows.length).1:Nat)/\fa=((fltN P.rows (ghL P.qs) P.rows.length).2:Nat))\/(IsOk P/\(fltN P.rows (ghL P.qs) P.rows.length).1=0/\L=tyq P.rows P.rows.length/\fe=0/\fa=0))
theorem nil_vals (W:World) (vo:Option Addr):IsVals W vo (iv []):=fun k x hx=>by cases hx
theorem tyo_ref {P:Pg} {ao qo vo tto uo oo:Option Addr} {ac qc vc tc uc oc:Nat} {w:World} (h:RdG w P ao qo vo tto uo oo) (hs:P.Sm) (hkd:∀ r ∈ P.rows,r.kids<=9223372036854775807/\r.name.size<=4611686018427387000):
  Calls Tryz.prog 12 #[pvG P ao qo vo tto uo oo ac qc vc tc uc oc] w fun e w'=>(∃ xo L xc fe fa,e=.returned (.tuple #[.slice xo (List.length L) xc,.agg #[I fe,I fa]])/\TyO P xo L fe fa w' w.heap.size)/\Below w.heap.size w w':=by
 refine Calls.mono (rtypes8 h hs hkd (fun hk=>⟨(rdy_of hs hk).1,kd9_of hk⟩)) ?_;rintro e w' ⟨hb,⟨h1,rfl⟩ | ⟨h1,h2,rfl⟩ | ⟨h1,h2,v,rfl,h3⟩⟩
 ·exact ⟨⟨none,[],0,_,_,rfl,nil_vals _ _,nofun,by simp,Or.inl ⟨h1,rfl,rfl,rfl⟩⟩,hb⟩
 ·exact ⟨⟨none,[],0,_,_,rfl,nil_vals _ _,nofun,by simp,Or.inr (Or.inl ⟨h1,h2,rfl,rfl,rfl⟩)⟩,hb⟩
 ·obtain ⟨bo,bc,rfl⟩:=own_form h3;refine ⟨⟨bo,tyq P.rows P.rows.length,bc,_,_,by rw [tyq_len],vals_of h3,fun a e=>?_,by rw [tyq_len];exact hs.r,Or.inr (Or.inr ⟨h1,h2,rfl,rfl,rfl⟩)⟩,hb⟩
  subst e;rcases h3.2 with ⟨e,_⟩ | ⟨g',cap,cur,e,h4,_⟩
  ·cases e
  ·cases e;exact h4
theorem kd_val {P:Pg} (h:IsOk P):∀ i,i < P.rows.length->((rat P.rows i).kind=41\/(rat P.rows i).kind=42->0 < km P.rows i)/\(39<=(rat P.rows i).kind/\¬ (rat P.rows i).kind=41/\¬ (rat P.rows i).kind=42->(rat P.rows i).kind<=54->1 < km P.rows i):=by
 obtain ⟨p,h1,rfl⟩:=h;have t:=res_told8 h1;intro i hi;have h2:=(t.kids i hi).1;refine ⟨fun hk=>?_,fun hk hk2=>?_⟩
 ·show 0 < km p.rows i
  have e:0 < least (rat p.rows i).kind:=by
   rcases hk with hk | hk
   ·rw [show (rat p.rows i).kind=41 from hk];decide
   ·rw [show (rat p.rows i).kind=42 from hk];decide
  omega
 ·show 1 < km p.rows i
  have hk':39<=(rat p.rows i).kind/\¬ (rat p.rows i).kind=41/\¬ (rat p.rows i).kind=42:=hk;have hk2':(rat p.rows i).kind<=54:=hk2;have e:1 < least (rat p.rows i).kind:=by
   generalize (rat p.rows i).kind=k at *;have h3:k=39\/k=40\/k=43\/k=44\/k=45\/k=46\/k=47\/k=48\/k=49\/k=50\/k=51\/k=52\/k=53\/k=54:=by omega
   rcases h3 with rfl | rfl | rfl | rfl | rfl | rfl | rfl | rfl | rfl | rfl | rfl | rfl | rfl | rfl<;>decide
  omega
theorem fit_rng8 {gh:Nat->Bool} {nq:Nat} {size:Int} {cs:Nat->Int} {nc:Nat} (h:fitE gh nq size cs nc=0):(0<=size/\size<=1048576)/\nc=nq/\∀ k,k < nc->0<=cs k/\cs k<=1048576:=by
 unfold fitE at h
 split at h
 ·rename_i h1
  exact ⟨⟨by have:=h1.1;omega,h1.2.1⟩,h1.2.2.1,fun k hk=>by have:=h1.2.2.2.1 k hk;unfold okC at this;omega⟩
 ·omega
theorem num_of {P:Pg} (h:IsOk P):∀ i,i < P.rows.length->0<=(rat P.rows i).n/\(rat P.rows i).n<=1073741824:=by
 obtain ⟨p,h1,rfl⟩:=h;exact (res_told8 h1).num
theorem in64_get {l:List Int} (h:∀ n ∈ l,in64 n) (i:Nat):in64 (l.getD i 0):=by
 by_cases hi:i < l.length
 ·rw [List.getD_eq_getElem?_getD,List.getElem?_eq_getElem hi];exact h _ (List.getElem_mem hi)
 ·rw [List.getD_eq_getElem?_getD,List.getElem?_eq_none (by omega)]
  exact ⟨by decide,by decide⟩
end Go.Proofs.YtbledbjcghaanaaGreat.Nm.Ty
