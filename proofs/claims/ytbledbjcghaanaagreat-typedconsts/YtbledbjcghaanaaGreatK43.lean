import Derived.Test.YtbledbjcghaanaaGreatK42
import Derived.Test.YtbledbjcghaanaaGreatTk
set_option maxHeartbeats 51200000
set_option maxRecDepth 100000
namespace Go.Proofs.YtbledbjcghaanaaGreat.Nm.Ty
open Go.RowKit Go.Maps Sp Lx Gr Nm
def Kd9 (l:List Rz):Prop:=Kd8 l/\∀ j,j < l.length->(rat l j).kind=13->0 < km l j
def tyq (l:List Rz) (k:Nat):List Int:=(List.range k).map fun i=>(rP l i).is
theorem tyq_succ (l:List Rz) (k:Nat):iv (tyq l (k+1))=iv (tyq l k)++[I (rP l k).is]:=by simp [tyq,iv,List.range_succ]
theorem tyq_len (l:List Rz) (k:Nat):(tyq l k).length=k:=by simp [tyq]
structure Tb8 (w X:World) (pc:Array Value) (l:List Rz) (ga gf:Nat):Prop where
 p:X.heap[w.heap.size]?=some (.cells pc 27 (0,0))
 f:X.heap[w.heap.size+1]?=some (.cells #[I 0,I 0] 32 (0,0))
 a:RowI X ga l.length (asksN l l.length)
 x:RowT X gf l.length (fixN l l.length)
 be:Below w.heap.size w X
theorem Tb8.below {w X Y:World} {pc:Array Value} {l:List Rz} {ga gf:Nat} (h:Tb8 w X pc l ga gf) (hb:Below X.heap.size X Y):Tb8 w Y pc l ga gf:=⟨(hb.block _ (blk_lt h.p)).trans h.p,(hb.block _ (blk_lt h.f)).trans h.f,h.a.below hb h.a.lt,h.x.below hb h.x.lt,h.be.trans (hb.mono h.be.size)⟩
theorem rtypes8 {P:Pg} {ao qo vo tto uo oo:Option Addr} {ac qc vc tc uc oc:Nat} {w:World} (h:RdG w P ao qo vo tto uo oo) (hs:P.Sm) (hkd:∀ r ∈ P.rows,r.kids<=9223372036854775807/\r.name.size<=4611686018427387000) (hR:IsOk P->Rdy P/\Kd9 P.rows):
  Calls Tryz.prog 12 #[pvG P ao qo vo tto uo oo ac qc vc tc uc oc] w fun e w'=>Below w.heap.size w w'/\((¬ IsOk P/\e=.returned (.tuple #[pz,.agg #[I 23,I 0]]))\/(IsOk P/\(fltN P.rows (ghL P.qs) P.rows.length).1 ≠ 0/\e=.returned (.tuple #[pz,.agg #[I ((fltN P.rows (ghL P.qs) P.rows.length).1:Nat),I ((fltN P.rows (ghL P.qs) P.rows.length).2:Nat)]]))
   \/ (IsOk P/\(fltN P.rows (ghL P.qs) P.rows.length).1=0/\∃ v,e=.returned (.tuple #[v,.agg #[I 0,I 0]])/\w'.ownsRow w.heap.size 3 1 v P.rows.length (iv (tyq P.rows P.rows.length)))):=by
 obtain ⟨j0,hj,hj0,hj1,hj2⟩:=info_parts info3
 have hb1:Below w.heap.size w ((w.alloc (.cells (pC P ao ac qo qc vo vc tto tc uo uc oo oc) 27)).alloc (.cells #[I 0,I 0] 32)):=(bAl w _).alloc (by simp) _
 have H1:Hid (((w.alloc (.cells (pC P ao ac qo qc vo vc tto tc uo uc oo oc) 27)).alloc (.cells #[I 0,I 0] 32)).heap[w.heap.size]?=some (.cells (pC P ao ac qo qc vo vc tto tc uo uc oo oc) 27 (0,0))/\((w.alloc (.cells (pC P ao ac qo qc vo vc tto tc uo uc oo oc) 27)).alloc (.cells #[I 0,I 0] 32)).heap[w.heap.size+1]?=some (.cells #[I 0,I 0] 32 (0,0))/\Below w.heap.size w ((w.alloc (.cells (pC P ao ac qo qc vo vc tto tc uo uc oo oc) 27)).alloc (.cells #[I 0,I 0] 32))):=⟨by rw [alloc_old _ _ _ (by simp)];exact alloc_at _ _ _ rfl,alloc_at _ _ _ (by simp),hb1⟩
 have HD:=hdn <| h
 have HRy:=hdn <| hR
 have HSr:Hid (P.rows.length<=2932031007317):=hs.r
 have HCk:=hdn <| rcheck_any (ac:=ac) (qc:=qc) (vc:=vc) (tc:=tc) (uc:=uc) (oc:=oc) (h.below hb1) hs hkd
 obtain ⟨k0,k1,k2,k3,k4,k5,k6,k7⟩:=zr8 H1.out.1
 dsimp only [pvG] at *
 clear h hs hkd hR hb1
 go_enter Tryz.func12,Tryz.ntmps12
 go_wp2_with fail
 generalize ((w.alloc (.cells (pC P ao ac qo qc vo vc tto tc uo uc oo oc) 27)).alloc (.cells #[I 0,I 0] 32))=w1 at *
 refine Calls.mono HCk.out ?_
 rintro e w2 ⟨hck,hb2⟩
 have H2:Hid (w2.heap[w.heap.size]?=some (.cells (pC P ao ac qo qc vo vc tto tc uo uc oo oc) 27 (0,0))/\w2.heap[w.heap.size+1]?=some (.cells #[I 0,I 0] 32 (0,0))/\Below w.heap.size w w2):=⟨(hb2.block _ (blk_lt H1.out.1)).trans H1.out.1,(hb2.block _ (blk_lt H1.out.2.1)).trans H1.out.2.1,H1.out.2.2.trans (hb2.mono H1.out.2.2.size)⟩
 clear H1 hb2 HCk k0 k1 k2 k3 k4 k5 k6 k7
 rcases hck with ⟨p',hp1,hp2,rfl⟩ | ⟨hno,rfl⟩
 ·have hok:IsOk P:=⟨p',hp1,hp2⟩
  have HIs:Hid (IsOk P):=hok
  obtain ⟨hRd,hKd⟩:=HRy.out hok
  have HRd:=hdn <| hRd
  have HKd:=hdn <| hKd
  have HMk:=hdn <| rmarks8 (cap:=ac) (HD.out.below H2.out.2.2).r HSr.out hRd.t hKd.1
  have HFc:Hid (∀ i,i < P.rows.length->fixN P.rows P.rows.length i=decide (i < conN P.rows i)):=fun i hi=>fix_con hRd.t.whole hKd.2 _ (Nat.le_refl _) hi
  obtain ⟨k0,k1,k2,k3,k4,k5,k6,k7⟩:=zr8 H2.out.1
  clear hp1 hp2 p' hok hRd hKd
  go_wp2_with fail
  refine Calls.mono HMk.out ?_
  rintro e x2 ⟨rfl,hra,hrx,hb⟩
  have HT2:Hid (Tb8 w x2 (pC P ao ac qo qc vo vc tto tc uo uc oo oc) P.rows w2.heap.size (w2.heap.size+1)):=⟨(hb.block _ (blk_lt H2.out.1)).trans H2.out.1,(hb.block _ (blk_lt H2.out.2.1)).trans H2.out.2.1,hra,hrx,H2.out.2.2.trans (hb.mono H2.out.2.2.size)⟩
  have hln:(P.rows.length:Int)<=2932031007317:=by have:=HSr.out;omega
  clear hra hrx hb HMk H2 k0 k1 k2 k3 k4 k5 k6 k7
  generalize w2.heap.size+1=gf at *
  generalize w2.heap.size=ga at *
  go_wp2_with fail
  go_loopg [7,8] P.rows.length (fun gq x c wr=>∃ (k:Nat) (v:Value),k<=P.rows.length/\gq=P.rows.length - k/\v=x/\c=I (k:Int)/\wr.ownsRow x2.heap.size 3 1 v k (iv (tyq P.rows k))/\Below x2.heap.size x2 wr/\fltN P.rows (ghL P.qs) k=(0,0))
  case atStart=>exact ⟨0,_,Nat.zero_le _,rfl,rfl,by go_num,World.ownsRow_nil _ _ _ _,Below.refl _ _,rfl⟩
  case round=>
   obtain ⟨k,v,hk,hgk,rfl,rfl,hO,hB,hF⟩:=hrel
   have HG:Hid (gk=P.rows.length - k):=hgk
   have HO:Hid (wr.ownsRow x2.heap.size 3 1 v k (iv (tyq P.rows k))/\Below x2.heap.size x2 wr/\fltN P.rows (ghL P.qs) k=(0,0)):=⟨hO,hB,hF⟩
   have HT:=hdn <| HT2.out.below hB
   obtain ⟨_,k1,_⟩:=zr8 HT.out.p
   obtain ⟨bo,bc,rfl⟩:=own_form hO
   clear hgk hO hB hF
   by_cases hlk:k < P.rows.length
   ·have hlk':(k:Int) < (P.rows.length:Int):=by omega
    obtain ⟨gr,or,rfl,_,c0,_⟩:=row_cells (HD.out.below HT.out.be).r hlk
    have ca:=HT.out.a.cell hlk
    have cx:=HT.out.x.cell hlk
    rw [HFc.out k hlk] at cx
    have HZ:Hid (fltZ P.rows (ghL P.qs) k=if asksN P.rows P.rows.length k ≠ 0/\asksN P.rows P.rows.length k ≠ (rP P.rows k).is then 41 else if k < conN P.rows k/\(rP P.rows k).changing=true then 42 else if othZ P.rows (ghL P.qs) k=true then 46 else 0):=rfl
    have HTy:Hid (∀ W,Calls Tryz.prog 35 #[I (rat P.rows k).kind] W fun e w'=>e=.returned (I (rP P.rows k).is)/\w'=W):=fun W=>rtype8 _ (rat P.rows k).n W
    have HFr:Hid (∀ W,Calls Tryz.prog 36 #[I (rat P.rows k).kind] W fun e w'=>e=.returned (.bool (rP P.rows k).changing)/\w'=W):=fun W=>rfree8 _ (rat P.rows k).n W
    have HOt:=hdn <| rother8 (P:=P) (ao:=some ⟨gr,or,none⟩) (qo:=qo) (vo:=vo) (tto:=tto) (uo:=uo) (oo:=oo) (ac:=ac) (qc:=qc) (vc:=vc) (tc:=tc) (uc:=uc) (oc:=oc) k (HD.out.below HT.out.be).r (HD.out.below HT.out.be).q HSr.out hlk HRd.out.q HRd.out.k
    have HFa:Hid (∀ c,fltZ P.rows (ghL P.qs) k=c->c ≠ 0->fltN P.rows (ghL P.qs) P.rows.length=(c,k)):=fun c hc h0=>by rw [flt_at HO.out.2.2 (by omega) hlk,hc]
    have HFn:Hid (fltZ P.rows (ghL P.qs) k=0->fltN P.rows (ghL P.qs) (k+1)=(0,0)):=fun hc=>flt_no HO.out.2.2 hc
    have HTl:Hid (iv (tyq P.rows (k+1))=iv (tyq P.rows k)++[I (rP P.rows k).is]):=tyq_succ _ _
    have HKl:Hid (k < P.rows.length/\P.rows.length<=2932031007317):=⟨hlk,HSr.out⟩
    obtain ⟨f0,f1⟩:=fcells2 HT.out.f
    have hff:=zr8f HT.out.f
    obtain ⟨_,_,k2,k3,k4,k5,k6,k7⟩:=zr8 HT.out.p
    have k0:=(zr8 HT.out.p).1
    clear hlk
    generalize asksN P.rows P.rows.length k=ak at *
    generalize (rP P.rows k).is=ty at *
    generalize (rP P.rows k).changing=ch at *
    generalize othZ P.rows (ghL P.qs) k=oz at *
    generalize (rat P.rows k).kind=kd at *
    generalize conN P.rows k=cn at *
    by_cases h0:ak=0
    ·have h0b:(ak != 0)=false:=by simp [h0]
     have hA:¬ (ak ≠ 0/\ak ≠ ty):=fun h=>h.1 h0
     by_cases hc:k < cn
     ·have hcd:decide (k < cn)=true:=decide_eq_true hc
      rw [hcd] at cx
      cases ch with
      | true=>
       go_wp2_with fail
       refine Calls.mono (HTy.out _) ?_
       rintro e w5 ⟨rfl,rfl⟩
       go_wp2_with fail
       refine Calls.mono (HFr.out _) ?_
       rintro e w6 ⟨rfl,rfl⟩
       have HE:=hdn <| HFa.out 42 (by rw [HZ.out];rw [if_neg hA,if_pos ⟨hc,by simp⟩]) (by decide)
       go_wp2_with fail
       obtain ⟨q1,q2,q3⟩:=put2M (B:=w.heap.size+1) (v0:=I 42) (v1:=I (k:Int)) HT.out.be (Nat.le_succ _) HT.out.f
       obtain ⟨y0,y1⟩:=cells2 q1
       refine bodyPost_ret (v:=.tuple #[pz,.agg #[I 42,I (k:Int)]]) (by simp [results,Tryz.results12,go_sem,y0,y1]) rfl ?_
       exact ⟨q2,Or.inr (Or.inl ⟨HIs.out,by rw [HE.out];simp,by rw [HE.out];rfl⟩)⟩
      | false=>
       go_wp2_with fail
       refine Calls.mono (HTy.out _) ?_
       rintro e w5 ⟨rfl,rfl⟩
       go_wp2_with fail
       refine Calls.mono (HFr.out _) ?_
       rintro e w7 ⟨rfl,rfl⟩
       go_wp2_with fail
       refine Calls.mono HOt.out ?_
       rintro e w6 ⟨rfl,hb6⟩
       have HT5:=hdn <| HT.out.below hb6
       have HO5:Hid (w6.ownsRow x2.heap.size 3 1 (.slice bo k bc) k (iv (tyq P.rows k))/\Below x2.heap.size x2 w6):=⟨own_below HO.out.1 hb6,HO.out.2.1.trans (hb6.mono HO.out.2.1.size)⟩
       clear hb6 HOt f0 f1 hff k0 k1 k2 k3 k4 k5 k6 k7 c0 ca cx
       obtain ⟨f0,f1⟩:=fcells2 HT5.out.f
       have hff:=zr8f HT5.out.f
       cases oz with
       | true=>
        have HE:=hdn <| HFa.out 46 (by rw [HZ.out];rw [if_neg hA,if_neg (fun h=>by cases h.2)];rfl) (by decide)
        go_wp2_with fail
        obtain ⟨q1,q2,q3⟩:=put2M (B:=w.heap.size+1) (v0:=I 46) (v1:=I (k:Int)) HT5.out.be (Nat.le_succ _) HT5.out.f
        obtain ⟨y0,y1⟩:=cells2 q1
        refine bodyPost_ret (v:=.tuple #[pz,.agg #[I 46,I (k:Int)]]) (by simp [results,Tryz.results12,go_sem,y0,y1]) rfl ?_
        exact ⟨q2,Or.inr (Or.inl ⟨HIs.out,by rw [HE.out];simp,by rw [HE.out];rfl⟩)⟩
       | false=>
        have HF1:=hdn <| HFn.out (by rw [HZ.out];rw [if_neg hA,if_neg (fun h=>by cases h.2)];rfl)
        have hb2:Below w6.heap.size w6 (w6.alloc (.cells #[I ty] 3)):=bAl w6 _
        have HO2:Hid ((w6.alloc (.cells #[I ty] 3)).ownsRow x2.heap.size 3 1 (.slice bo k bc) k (iv (tyq P.rows k))):=own_below HO5.out.1 hb2
        clear hb2
        go_wp2_with (at_builtin;refine append_gone _ rfl _ _ 25 rfl x2.heap.size 3 j0 (I 0) 1 8 Tryz.underlying25 hj hj0 hj1 hj2 rfl (by decide) (.slice bo k bc) k (iv (tyq P.rows k)) rfl HO2.out ⟨w6.heap.size,0,none⟩ 1 1 [I ty] rfl rfl (cell_one w6 _ _) (by intro u hu;simp only [List.mem_cons,List.not_mem_nil,or_false] at hu;subst hu;rfl) (by have:=HKl.out;unfold maxLen;omega) (by have:=HKl.out;omega) (by have h1:=HO5.out.2.size;rw [World.size_alloc];omega) (by decide) ?_)
        intro v4 w4 ho hG
        have HO4:Hid (w4.ownsRow x2.heap.size 3 1 v4 (k+1) (iv (tyq P.rows (k+1)))):=by rw [HTl.out];exact ho
        have hb4:Below x2.heap.size (w6.alloc (.cells #[I ty] 3)) w4:=(Went.gone hG).low (fun j hj=>(World.ownsRow.lt HO2.out j hj).1) (by have h1:=HO5.out.2.size;rw [World.size_alloc];omega)
        have HB4:Hid (Below x2.heap.size x2 w4):=(HO5.out.2.alloc HO5.out.2.size _).trans hb4
        clear ho hG hb4
        go_wp2_with fail
        go_roundg (P.rows.length - (k+1))
        case measure=>have h1:=HG.out;have:=HKl.out;omega
        case rel=>exact ⟨k+1,_,by have:=HKl.out;omega,rfl,rfl,by go_num,HO4.out,HB4.out,HF1.out⟩
     ·have hcd:decide (k < cn)=false:=decide_eq_false hc
      rw [hcd] at cx
      go_wp2_with fail
      refine Calls.mono (HTy.out _) ?_
      rintro e w5 ⟨rfl,rfl⟩
      go_wp2_with fail
      refine Calls.mono HOt.out ?_
      rintro e w6 ⟨rfl,hb6⟩
      have HT5:=hdn <| HT.out.below hb6
      have HO5:Hid (w6.ownsRow x2.heap.size 3 1 (.slice bo k bc) k (iv (tyq P.rows k))/\Below x2.heap.size x2 w6):=⟨own_below HO.out.1 hb6,HO.out.2.1.trans (hb6.mono HO.out.2.1.size)⟩
      clear hb6 HOt f0 f1 hff k0 k1 k2 k3 k4 k5 k6 k7 c0 ca cx
      obtain ⟨f0,f1⟩:=fcells2 HT5.out.f
      have hff:=zr8f HT5.out.f
      cases oz with
      | true=>
       have HE:=hdn <| HFa.out 46 (by rw [HZ.out];rw [if_neg hA,if_neg (fun h=>hc h.1)];rfl) (by decide)
       go_wp2_with fail
       obtain ⟨q1,q2,q3⟩:=put2M (B:=w.heap.size+1) (v0:=I 46) (v1:=I (k:Int)) HT5.out.be (Nat.le_succ _) HT5.out.f
       obtain ⟨y0,y1⟩:=cells2 q1
       refine bodyPost_ret (v:=.tuple #[pz,.agg #[I 46,I (k:Int)]]) (by simp [results,Tryz.results12,go_sem,y0,y1]) rfl ?_
       exact ⟨q2,Or.inr (Or.inl ⟨HIs.out,by rw [HE.out];simp,by rw [HE.out];rfl⟩)⟩
      | false=>
       have HF1:=hdn <| HFn.out (by rw [HZ.out];rw [if_neg hA,if_neg (fun h=>hc h.1)];rfl)
       have hb2:Below w6.heap.size w6 (w6.alloc (.cells #[I ty] 3)):=bAl w6 _
       have HO2:Hid ((w6.alloc (.cells #[I ty] 3)).ownsRow x2.heap.size 3 1 (.slice bo k bc) k (iv (tyq P.rows k))):=own_below HO5.out.1 hb2
       clear hb2
       go_wp2_with (at_builtin;refine append_gone _ rfl _ _ 25 rfl x2.heap.size 3 j0 (I 0) 1 8 Tryz.underlying25 hj hj0 hj1 hj2 rfl (by decide) (.slice bo k bc) k (iv (tyq P.rows k)) rfl HO2.out ⟨w6.heap.size,0,none⟩ 1 1 [I ty] rfl rfl (cell_one w6 _ _) (by intro u hu;simp only [List.mem_cons,List.not_mem_nil,or_false] at hu;subst hu;rfl) (by have:=HKl.out;unfold maxLen;omega) (by have:=HKl.out;omega) (by have h1:=HO5.out.2.size;rw [World.size_alloc];omega) (by decide) ?_)
       intro v4 w4 ho hG
       have HO4:Hid (w4.ownsRow x2.heap.size 3 1 v4 (k+1) (iv (tyq P.rows (k+1)))):=by rw [HTl.out];exact ho
       have hb4:Below x2.heap.size (w6.alloc (.cells #[I ty] 3)) w4:=(Went.gone hG).low (fun j hj=>(World.ownsRow.lt HO2.out j hj).1) (by have h1:=HO5.out.2.size;rw [World.size_alloc];omega)
       have HB4:Hid (Below x2.heap.size x2 w4):=(HO5.out.2.alloc HO5.out.2.size _).trans hb4
       clear ho hG hb4
       go_wp2_with fail
       go_roundg (P.rows.length - (k+1))
       case measure=>have h1:=HG.out;have:=HKl.out;omega
       case rel=>exact ⟨k+1,_,by have:=HKl.out;omega,rfl,rfl,by go_num,HO4.out,HB4.out,HF1.out⟩
    ·have h0b:(ak != 0)=true:=by simp [h0]
     by_cases h1:ak=ty
     ·have h1b:(ak != ty)=false:=by simp [h1]
      have hA:¬ (ak ≠ 0/\ak ≠ ty):=fun h=>h.2 h1
      by_cases hc:k < cn
      ·have hcd:decide (k < cn)=true:=decide_eq_true hc
       rw [hcd] at cx
       cases ch with
       | true=>
        go_wp2_with fail
        refine Calls.mono (HTy.out _) ?_
        rintro e w5 ⟨rfl,rfl⟩
        go_wp2_with fail
        refine Calls.mono (HFr.out _) ?_
        rintro e w6 ⟨rfl,rfl⟩
        have HE:=hdn <| HFa.out 42 (by rw [HZ.out];rw [if_neg hA,if_pos ⟨hc,by simp⟩]) (by decide)
        go_wp2_with fail
        obtain ⟨q1,q2,q3⟩:=put2M (B:=w.heap.size+1) (v0:=I 42) (v1:=I (k:Int)) HT.out.be (Nat.le_succ _) HT.out.f
        obtain ⟨y0,y1⟩:=cells2 q1
        refine bodyPost_ret (v:=.tuple #[pz,.agg #[I 42,I (k:Int)]]) (by simp [results,Tryz.results12,go_sem,y0,y1]) rfl ?_
        exact ⟨q2,Or.inr (Or.inl ⟨HIs.out,by rw [HE.out];simp,by rw [HE.out];rfl⟩)⟩
       | false=>
        go_wp2_with fail
        refine Calls.mono (HTy.out _) ?_
        rintro e w5 ⟨rfl,rfl⟩
        go_wp2_with fail
        refine Calls.mono (HFr.out _) ?_
        rintro e w7 ⟨rfl,rfl⟩
        go_wp2_with fail
        refine Calls.mono HOt.out ?_
        rintro e w6 ⟨rfl,hb6⟩
        have HT5:=hdn <| HT.out.below hb6
        have HO5:Hid (w6.ownsRow x2.heap.size 3 1 (.slice bo k bc) k (iv (tyq P.rows k))/\Below x2.heap.size x2 w6):=⟨own_below HO.out.1 hb6,HO.out.2.1.trans (hb6.mono HO.out.2.1.size)⟩
        clear hb6 HOt f0 f1 hff k0 k1 k2 k3 k4 k5 k6 k7 c0 ca cx
        obtain ⟨f0,f1⟩:=fcells2 HT5.out.f
        have hff:=zr8f HT5.out.f
        cases oz with
        | true=>
         have HE:=hdn <| HFa.out 46 (by rw [HZ.out];rw [if_neg hA,if_neg (fun h=>by cases h.2)];rfl) (by decide)
         go_wp2_with fail
         obtain ⟨q1,q2,q3⟩:=put2M (B:=w.heap.size+1) (v0:=I 46) (v1:=I (k:Int)) HT5.out.be (Nat.le_succ _) HT5.out.f
         obtain ⟨y0,y1⟩:=cells2 q1
         refine bodyPost_ret (v:=.tuple #[pz,.agg #[I 46,I (k:Int)]]) (by simp [results,Tryz.results12,go_sem,y0,y1]) rfl ?_
         exact ⟨q2,Or.inr (Or.inl ⟨HIs.out,by rw [HE.out];simp,by rw [HE.out];rfl⟩)⟩
        | false=>
         have HF1:=hdn <| HFn.out (by rw [HZ.out];rw [if_neg hA,if_neg (fun h=>by cases h.2)];rfl)
         have hb2:Below w6.heap.size w6 (w6.alloc (.cells #[I ty] 3)):=bAl w6 _
         have HO2:Hid ((w6.alloc (.cells #[I ty] 3)).ownsRow x2.heap.size 3 1 (.slice bo k bc) k (iv (tyq P.rows k))):=own_below HO5.out.1 hb2
         clear hb2
         go_wp2_with (at_builtin;refine append_gone _ rfl _ _ 25 rfl x2.heap.size 3 j0 (I 0) 1 8 Tryz.underlying25 hj hj0 hj1 hj2 rfl (by decide) (.slice bo k bc) k (iv (tyq P.rows k)) rfl HO2.out ⟨w6.heap.size,0,none⟩ 1 1 [I ty] rfl rfl (cell_one w6 _ _) (by intro u hu;simp only [List.mem_cons,List.not_mem_nil,or_false] at hu;subst hu;rfl) (by have:=HKl.out;unfold maxLen;omega) (by have:=HKl.out;omega) (by have h1:=HO5.out.2.size;rw [World.size_alloc];omega) (by decide) ?_)
         intro v4 w4 ho hG
         have HO4:Hid (w4.ownsRow x2.heap.size 3 1 v4 (k+1) (iv (tyq P.rows (k+1)))):=by rw [HTl.out];exact ho
         have hb4:Below x2.heap.size (w6.alloc (.cells #[I ty] 3)) w4:=(Went.gone hG).low (fun j hj=>(World.ownsRow.lt HO2.out j hj).1) (by have h1:=HO5.out.2.size;rw [World.size_alloc];omega)
         have HB4:Hid (Below x2.heap.size x2 w4):=(HO5.out.2.alloc HO5.out.2.size _).trans hb4
         clear ho hG hb4
         go_wp2_with fail
         go_roundg (P.rows.length - (k+1))
         case measure=>have h1:=HG.out;have:=HKl.out;omega
         case rel=>exact ⟨k+1,_,by have:=HKl.out;omega,rfl,rfl,by go_num,HO4.out,HB4.out,HF1.out⟩
      ·have hcd:decide (k < cn)=false:=decide_eq_false hc
       rw [hcd] at cx
       go_wp2_with fail
       refine Calls.mono (HTy.out _) ?_
       rintro e w5 ⟨rfl,rfl⟩
       go_wp2_with fail
       refine Calls.mono HOt.out ?_
       rintro e w6 ⟨rfl,hb6⟩
       have HT5:=hdn <| HT.out.below hb6
       have HO5:Hid (w6.ownsRow x2.heap.size 3 1 (.slice bo k bc) k (iv (tyq P.rows k))/\Below x2.heap.size x2 w6):=⟨own_below HO.out.1 hb6,HO.out.2.1.trans (hb6.mono HO.out.2.1.size)⟩
       clear hb6 HOt f0 f1 hff k0 k1 k2 k3 k4 k5 k6 k7 c0 ca cx
       obtain ⟨f0,f1⟩:=fcells2 HT5.out.f
       have hff:=zr8f HT5.out.f
       cases oz with
       | true=>
        have HE:=hdn <| HFa.out 46 (by rw [HZ.out];rw [if_neg hA,if_neg (fun h=>hc h.1)];rfl) (by decide)
        go_wp2_with fail
        obtain ⟨q1,q2,q3⟩:=put2M (B:=w.heap.size+1) (v0:=I 46) (v1:=I (k:Int)) HT5.out.be (Nat.le_succ _) HT5.out.f
        obtain ⟨y0,y1⟩:=cells2 q1
        refine bodyPost_ret (v:=.tuple #[pz,.agg #[I 46,I (k:Int)]]) (by simp [results,Tryz.results12,go_sem,y0,y1]) rfl ?_
        exact ⟨q2,Or.inr (Or.inl ⟨HIs.out,by rw [HE.out];simp,by rw [HE.out];rfl⟩)⟩
       | false=>
        have HF1:=hdn <| HFn.out (by rw [HZ.out];rw [if_neg hA,if_neg (fun h=>hc h.1)];rfl)
        have hb2:Below w6.heap.size w6 (w6.alloc (.cells #[I ty] 3)):=bAl w6 _
        have HO2:Hid ((w6.alloc (.cells #[I ty] 3)).ownsRow x2.heap.size 3 1 (.slice bo k bc) k (iv (tyq P.rows k))):=own_below HO5.out.1 hb2
        clear hb2
        go_wp2_with (at_builtin;refine append_gone _ rfl _ _ 25 rfl x2.heap.size 3 j0 (I 0) 1 8 Tryz.underlying25 hj hj0 hj1 hj2 rfl (by decide) (.slice bo k bc) k (iv (tyq P.rows k)) rfl HO2.out ⟨w6.heap.size,0,none⟩ 1 1 [I ty] rfl rfl (cell_one w6 _ _) (by intro u hu;simp only [List.mem_cons,List.not_mem_nil,or_false] at hu;subst hu;rfl) (by have:=HKl.out;unfold maxLen;omega) (by have:=HKl.out;omega) (by have h1:=HO5.out.2.size;rw [World.size_alloc];omega) (by decide) ?_)
        intro v4 w4 ho hG
        have HO4:Hid (w4.ownsRow x2.heap.size 3 1 v4 (k+1) (iv (tyq P.rows (k+1)))):=by rw [HTl.out];exact ho
        have hb4:Below x2.heap.size (w6.alloc (.cells #[I ty] 3)) w4:=(Went.gone hG).low (fun j hj=>(World.ownsRow.lt HO2.out j hj).1) (by have h1:=HO5.out.2.size;rw [World.size_alloc];omega)
        have HB4:Hid (Below x2.heap.size x2 w4):=(HO5.out.2.alloc HO5.out.2.size _).trans hb4
        clear ho hG hb4
        go_wp2_with fail
        go_roundg (P.rows.length - (k+1))
        case measure=>have h1:=HG.out;have:=HKl.out;omega
        case rel=>exact ⟨k+1,_,by have:=HKl.out;omega,rfl,rfl,by go_num,HO4.out,HB4.out,HF1.out⟩
     ·have h1b:(ak != ty)=true:=by simp [h1]
      go_wp2_with fail
      refine Calls.mono (HTy.out _) ?_
      rintro e w5 ⟨rfl,rfl⟩
      have HE:=hdn <| HFa.out 41 (by rw [HZ.out];exact if_pos ⟨h0,h1⟩) (by decide)
      go_wp2_with fail
      obtain ⟨q1,q2,q3⟩:=put2M (B:=w.heap.size+1) (v0:=I 41) (v1:=I (k:Int)) HT.out.be (Nat.le_succ _) HT.out.f
      obtain ⟨y0,y1⟩:=cells2 q1
      refine bodyPost_ret (v:=.tuple #[pz,.agg #[I 41,I (k:Int)]]) (by simp [results,Tryz.results12,go_sem,y0,y1]) rfl ?_
      exact ⟨q2,Or.inr (Or.inl ⟨HIs.out,by rw [HE.out];simp,by rw [HE.out];rfl⟩)⟩
   ·have hke:k=P.rows.length:=by omega
    have hlk':¬ (k:Int) < (P.rows.length:Int):=by omega
    have HE:Hid (fltN P.rows (ghL P.qs) P.rows.length=(0,0)):=by rw [<-hke];exact HO.out.2.2
    have HO9:Hid (wr.ownsRow w.heap.size 3 1 (.slice bo k bc) P.rows.length (iv (tyq P.rows P.rows.length))/\w.heap.size+1 < x2.heap.size):=by
     refine ⟨?_,blk_lt HT2.out.f⟩
     have h1:=own_base HO.out.1 (show w.heap.size<=x2.heap.size from HT2.out.be.size)
     rw [hke] at h1 ⊢
     exact h1
    obtain ⟨f0,f1⟩:=fcells2 HT.out.f
    have hff:=zr8f HT.out.f
    have HOb:=hdn <| HO.out.1
    clear hke hlk hk
    go_wp2_with fail
    obtain ⟨q1,q2,q3⟩:=put2M (B:=w.heap.size+1) (v0:=I 0) (v1:=I 0) HT.out.be (Nat.le_succ _) HT.out.f
    obtain ⟨y0,y1⟩:=cells2 q1
    refine bodyPost_ret (v:=.tuple #[.slice bo k bc,.agg #[I 0,I 0]]) (by simp [results,Tryz.results12,go_sem,y0,y1]) rfl ?_
    refine ⟨q2,Or.inr (Or.inr ⟨HIs.out,by rw [HE.out],_,rfl,?_⟩)⟩
    exact own_keepB HO9.out.1 (fun j hj=>q3 j (by have:=(World.ownsRow.lt HOb.out j hj).1;have:=HO9.out.2;omega))
 ·have HNo:Hid (¬ IsOk P):=hno
  obtain ⟨f0,f1⟩:=fcells2 H2.out.2.1
  have hff:=zr8f H2.out.2.1
  clear hno
  go_wp2_with fail
  obtain ⟨q1,q2,q3⟩:=put2M (B:=w.heap.size+1) (v0:=I 23) (v1:=I 0) H2.out.2.2 (Nat.le_succ _) H2.out.2.1
  obtain ⟨y0,y1⟩:=cells2 q1
  refine bodyPost_ret (v:=.tuple #[pz,.agg #[I 23,I 0]]) (by simp [results,Tryz.results12,go_sem,y0,y1]) rfl ?_
  exact ⟨q2,Or.inl ⟨HNo.out,rfl⟩⟩
theorem kd9_of {P:Pg} (h:IsOk P):Kd9 P.rows:=by
 obtain ⟨p,h1,rfl⟩:=h
 have t:=res_told8 h1
 refine ⟨fun i hi=>⟨fun hk=>?_,fun hk=>?_⟩,fun i hi hk=>?_⟩
 ·have h2:=(t.kids i hi).2
  rw [show (rat p.rows i).kind=4 from hk] at h2
  have e:greatest 4=3:=by decide
  rw [e] at h2
  show km p.rows i<=3
  omega
 ·have h2:=(t.kids i hi).2
  have e:greatest (rat p.rows i).kind=1:=by
   rcases hk with hk | hk | hk
   ·rw [show (rat p.rows i).kind=5 from hk];decide
   ·rw [show (rat p.rows i).kind=6 from hk];decide
   ·rw [show (rat p.rows i).kind=14 from hk];decide
  rw [e] at h2
  show km p.rows i<=1
  omega
 ·have h2:=(t.kids i hi).1
  rw [show (rat p.rows i).kind=13 from hk] at h2
  have e:0 < least 13:=by decide
  show 0 < km p.rows i
  omega
def TyO (P:Pg) (vo:Option Addr) (L:List Int) (fe fa:Int) (W:World) (N:Nat):Prop:=
 IsVals W vo (iv L)/\(∀ a,vo=some a->N<=a.block)/\L.length<=2932031007317/\((¬ IsOk P/\L=[]/\fe=23/\fa=0)\/(IsOk P/\(fltN P.rows (ghL P.qs) P.rows.length).1 ≠ 0/\L=[]/\fe=((fltN P.rows (ghL P.qs) P.rows.length).1:Nat)/\fa=((fltN P.rows (ghL P.qs) P.rows.length).2:Nat))\/(IsOk P/\(fltN P.rows (ghL P.qs) P.rows.length).1=0/\L=tyq P.rows P.rows.length/\fe=0/\fa=0))
theorem nil_vals (W:World) (vo:Option Addr):IsVals W vo (iv []):=fun k x hx=>by cases hx
theorem tyo_ref {P:Pg} {ao qo vo tto uo oo:Option Addr} {ac qc vc tc uc oc:Nat} {w:World} (h:RdG w P ao qo vo tto uo oo) (hs:P.Sm) (hkd:∀ r ∈ P.rows,r.kids<=9223372036854775807/\r.name.size<=4611686018427387000):
  Calls Tryz.prog 12 #[pvG P ao qo vo tto uo oo ac qc vc tc uc oc] w fun e w'=>(∃ xo L xc fe fa,e=.returned (.tuple #[.slice xo (List.length L) xc,.agg #[I fe,I fa]])/\TyO P xo L fe fa w' w.heap.size)/\Below w.heap.size w w':=by
 refine Calls.mono (rtypes8 h hs hkd (fun hk=>⟨(rdy_of hs hk).1,kd9_of hk⟩)) ?_
 rintro e w' ⟨hb,⟨h1,rfl⟩ | ⟨h1,h2,rfl⟩ | ⟨h1,h2,v,rfl,h3⟩⟩
 ·exact ⟨⟨none,[],0,_,_,rfl,nil_vals _ _,nofun,by simp,Or.inl ⟨h1,rfl,rfl,rfl⟩⟩,hb⟩
 ·exact ⟨⟨none,[],0,_,_,rfl,nil_vals _ _,nofun,by simp,Or.inr (Or.inl ⟨h1,h2,rfl,rfl,rfl⟩)⟩,hb⟩
 ·obtain ⟨bo,bc,rfl⟩:=own_form h3
  refine ⟨⟨bo,tyq P.rows P.rows.length,bc,_,_,by rw [tyq_len],vals_of h3,fun a e=>?_,by rw [tyq_len];exact hs.r,Or.inr (Or.inr ⟨h1,h2,rfl,rfl,rfl⟩)⟩,hb⟩
  subst e
  rcases h3.2 with ⟨e,_⟩ | ⟨g',cap,cur,e,h4,_⟩
  ·cases e
  ·cases e
   exact h4
theorem kd_val {P:Pg} (h:IsOk P):∀ i,i < P.rows.length->((rat P.rows i).kind=41\/(rat P.rows i).kind=42->0 < km P.rows i)/\(39<=(rat P.rows i).kind/\¬ (rat P.rows i).kind=41/\¬ (rat P.rows i).kind=42->(rat P.rows i).kind<=54->1 < km P.rows i):=by
 obtain ⟨p,h1,rfl⟩:=h
 have t:=res_told8 h1
 intro i hi
 have h2:=(t.kids i hi).1
 refine ⟨fun hk=>?_,fun hk hk2=>?_⟩
 ·show 0 < km p.rows i
  have e:0 < least (rat p.rows i).kind:=by
   rcases hk with hk | hk
   ·rw [show (rat p.rows i).kind=41 from hk];decide
   ·rw [show (rat p.rows i).kind=42 from hk];decide
  omega
 ·show 1 < km p.rows i
  have hk':39<=(rat p.rows i).kind/\¬ (rat p.rows i).kind=41/\¬ (rat p.rows i).kind=42:=hk
  have hk2':(rat p.rows i).kind<=54:=hk2
  have e:1 < least (rat p.rows i).kind:=by
   generalize (rat p.rows i).kind=k at *
   have h3:k=39\/k=40\/k=43\/k=44\/k=45\/k=46\/k=47\/k=48\/k=49\/k=50\/k=51\/k=52\/k=53\/k=54:=by omega
   rcases h3 with rfl | rfl | rfl | rfl | rfl | rfl | rfl | rfl | rfl | rfl | rfl | rfl | rfl | rfl<;>decide
  omega
theorem anyC_no {f:Nat->Prt} : ∀ {n:Nat},anyC f n=false->∀ j,j < n->(f j).changing=false
 | 0,_,j,hj=>by omega
 | n+1,h,j,hj=>by
  unfold anyC at h
  rw [Bool.or_eq_false_iff] at h
  by_cases e:j=n
  ·subst e;exact h.2
  ·exact anyC_no h.1 j (by omega)
theorem fit_rng8 {gh:Nat->Bool} {nq:Nat} {size:Int} {cs:Nat->Int} {nc:Nat} (h:fitE gh nq size cs nc=0):(0<=size/\size<=1048576)/\nc=nq/\∀ k,k < nc->0<=cs k/\cs k<=1048576:=by
 unfold fitE at h
 split at h
 ·rename_i h1
  exact ⟨⟨by have:=h1.1;omega,h1.2.1⟩,h1.2.2.1,fun k hk=>by have:=h1.2.2.2.1 k hk;unfold okC at this;omega⟩
 ·omega
theorem num_of {P:Pg} (h:IsOk P):∀ i,i < P.rows.length->0<=(rat P.rows i).n/\(rat P.rows i).n<=1073741824:=by
 obtain ⟨p,h1,rfl⟩:=h
 exact (res_told8 h1).num
theorem rconst8 {P:Pg} {ao qo vo tto uo oo co:Option Addr} {ac qc vc tc uc oc nc cc:Nat} {size row:Int} {cs:Nat->Int} {w:World} (h:RdG w P ao qo vo tto uo oo) (hs:P.Sm) (hkd:∀ r ∈ P.rows,r.kids<=9223372036854775807/\r.name.size<=4611686018427387000) (hc:IsVals w co (fL nc (fun i=>I (cs i)))) (hcl:nc<=17592186043904):
  Calls Tryz.prog 24 #[pvG P ao qo vo tto uo oo ac qc vc tc uc oc,.agg #[I size,.slice co nc cc],I row] w fun e w'=>Below w.heap.size w w'/\ConQ P size cs nc row e:=by
 have H1:Hid (Fq w (((w.alloc (.cells (pC P ao ac qo qc vo vc tto tc uo uc oo oc) 27)).alloc (.cells #[I size,.slice co nc cc] 39)).alloc (.cells #[I 0,I 0] 32)) (pC P ao ac qo qc vo vc tto tc uo uc oo oc) #[I size,.slice co nc cc]):=fq_start w _ _
 have HG:=hdn <| h
 have HS:=hdn <| hs
 have HKd:=hdn <| hkd
 have HC:Hid (IsVals w co (fL nc (fun i=>I (cs i)))):=hc
 have HCl:Hid (nc<=17592186043904):=hcl
 have HTr:=hdn <| tyo_ref (ac:=ac) (qc:=qc) (vc:=vc) (tc:=tc) (uc:=uc) (oc:=oc) (h.below H1.out.be) hs hkd
 obtain ⟨k0,k1,k2,k3,k4,k5,k6,k7⟩:=zr8 H1.out.p
 dsimp only [pvG] at *
 clear h hs hkd hc hcl
 go_enter Tryz.func24,Tryz.ntmps24
 go_wp2_with fail
 generalize (((w.alloc (.cells (pC P ao ac qo qc vo vc tto tc uo uc oo oc) 27)).alloc (.cells #[I size,.slice co nc cc] 39)).alloc (.cells #[I 0,I 0] 32))=w1 at *
 refine Calls.mono HTr.out ?_
 rintro e w2 ⟨⟨xo,L,xc,fe,fa,rfl,hT⟩,hb2⟩
 have hb3:Below w2.heap.size w2 (w2.alloc (.cells #[I fe,I fa] 32)):=bAl w2 _
 have H3:=hdn <| (H1.out.below hb2).below hb3
 have HX3:=hdn <| heap_alloc_new w2 (.cells #[I fe,I fa] 32)
 have HT:=hdn <| hT.2.2.2
 have HL:Hid (w.heap.size+1+1 < w2.heap.size):=blk_lt (H1.out.below hb2).f
 clear H1 hb2 hb3 HTr hT k0 k1 k2 k3 k4 k5 k6 k7
 by_cases h0:fe=0
 ·subst h0
  obtain ⟨hok,hfl,rfl⟩:IsOk P/\(fltN P.rows (ghL P.qs) P.rows.length).1=0/\fa=0:=by
   rcases HT.out with ⟨_,_,c,_⟩ | ⟨_,b,_,d,_⟩ | ⟨a,b,_,_,e⟩
   ·cases c
   ·exact absurd (by omega) b
   ·exact ⟨a,b,e⟩
  have HOk:Hid (IsOk P):=hok
  have HFl:Hid ((fltN P.rows (ghL P.qs) P.rows.length).1=0):=hfl
  have HFt:=hdn <| rfit_any (ac:=ac) (qc:=qc) (vc:=vc) (tc:=tc) (uc:=uc) (oc:=oc) (cc:=cc) (size:=size) (HG.out.below H3.out.be) HS.out HKd.out (IsVals.below HC.out H3.out.be) HCl.out
  dsimp only [pvG] at HFt
  obtain ⟨k0,k1,k2,k3,k4,k5,k6,k7⟩:=zr8 H3.out.p
  obtain ⟨d0,d1⟩:=fcells2 H3.out.c
  obtain ⟨f0,f1⟩:=fcells2 HX3.out
  clear hok hfl HT
  go_wp2_with fail
  generalize w2.alloc (.cells #[I 0,I 0] 32)=w3 at *
  refine Calls.mono HFt.out ?_
  rintro e w4 ⟨hb4,hcase⟩
  obtain rfl:e=.returned (.agg #[I (fitE (ghL P.qs) P.qs.length size cs nc),I 0]):=by
   rcases hcase with ⟨h1,_⟩ | ⟨_,h2⟩
   ·exact absurd HOk.out h1
   ·exact h2
  have H4:=hdn <| H3.out.below hb4
  have HX4:Hid (w4.heap[w2.heap.size]?=some (.cells #[I 0,I 0] 32 (0,0))):=(hb4.block _ (blk_lt HX3.out)).trans HX3.out
  obtain ⟨fE,hfE⟩:∃ x,x=fitE (ghL P.qs) P.qs.length size cs nc:=⟨_,rfl⟩
  have HFe:Hid (fitE (ghL P.qs) P.qs.length size cs nc=fE):=hfE.symm
  rw [<-hfE]
  clear hb4 hcase HFt H3 HX3 k0 k1 k2 k3 k4 k5 k6 k7 d0 d1 f0 f1 hfE
  obtain ⟨f0,f1⟩:=fcells2 HX4.out
  have hfz:=zr8f HX4.out
  obtain ⟨p1,p2,p3⟩:=put2M (B:=w2.heap.size) (v0:=I fE) (v1:=I 0) H4.out.be (by have:=HL.out;omega) HX4.out
  have H5:Hid (Fq w ((w4.setCell ⟨w2.heap.size,0,none⟩ (I fE)).setCell ⟨w2.heap.size,1,none⟩ (I 0)) (pC P ao ac qo qc vo vc tto tc uo uc oo oc) #[I size,.slice co nc cc]):=⟨(p3 _ (by have:=HL.out;omega)).trans H4.out.p,(p3 _ (by have:=HL.out;omega)).trans H4.out.c,(p3 _ (by have:=HL.out;omega)).trans H4.out.f,p2⟩
  have HX5:=hdn <| p1
  clear p1 p2 p3
  by_cases hz:fE=0
  ·have z1:(fE != 0)=false:=by simp [hz]
   have HRu:Hid ((ruZ P size cs nc).1=0):=by
    show (ruZ P size cs nc).1=0
    unfold ruZ
    rw [if_pos HFl.out]
    show fitE (ghL P.qs) P.qs.length size cs nc=0
    rw [HFe.out,hz]
   have HZ:Hid (fE=0):=hz
   obtain ⟨e0,e1⟩:=fcells2 H5.out.f
   have hff:=zr8f H5.out.f
   have hln:(P.rows.length:Int)<=2932031007317:=by have:=HS.out.r;omega
   obtain ⟨_,k1,_⟩:=zr8 H5.out.p
   clear hz
   by_cases hr0:row < 0
   ·have HQ:Hid (ConQ P size cs nc row (.returned (.tuple #[I 0,.agg #[I 1,I 0]]))):=conQ_ok HOk.out HRu.out (by unfold conZ;rw [if_pos (Or.inl hr0)])
    have hr1:decide (row < 0)=true:=decide_eq_true hr0
    go_wp2_with fail
    obtain ⟨q1,q2,q3⟩:=put2M (B:=w.heap.size+1+1) (v0:=I 1) (v1:=I 0) H5.out.be (by omega) H5.out.f
    obtain ⟨y0,y1⟩:=cells2 q1
    refine bodyPost_ret (v:=.tuple #[I 0,.agg #[I 1,I 0]]) (by simp [results,Tryz.results24,go_sem,y0,y1]) rfl ?_
    exact ⟨q2,HQ.out⟩
   ·have hr1:decide (row < 0)=false:=decide_eq_false hr0
    by_cases hr2:(P.rows.length:Int)<=row
    ·have HQ:Hid (ConQ P size cs nc row (.returned (.tuple #[I 0,.agg #[I 1,I 0]]))):=conQ_ok HOk.out HRu.out (by unfold conZ;rw [if_pos (Or.inr hr2)])
     have hr3:decide ((P.rows.length:Int)<=row)=true:=decide_eq_true hr2
     go_wp2_with fail
     obtain ⟨q1,q2,q3⟩:=put2M (B:=w.heap.size+1+1) (v0:=I 1) (v1:=I 0) H5.out.be (by omega) H5.out.f
     obtain ⟨y0,y1⟩:=cells2 q1
     refine bodyPost_ret (v:=.tuple #[I 0,.agg #[I 1,I 0]]) (by simp [results,Tryz.results24,go_sem,y0,y1]) rfl ?_
     exact ⟨q2,HQ.out⟩
    ·have hr3:decide ((P.rows.length:Int)<=row)=false:=decide_eq_false hr2
     obtain ⟨r,rfl⟩:∃ r:Nat,row=(r:Int):=⟨row.toNat,by omega⟩
     have hrl:r < P.rows.length:=by omega
     have hrl':(r:Int) < (P.rows.length:Int):=by omega
     obtain ⟨hRd,hRc⟩:=rdy_of HS.out HOk.out
     obtain ⟨gr,or,rfl,_,c0,_⟩:=row_cells (HG.out.below H5.out.be).r hrl
     have hEl:=(end_kid hRd.t.whole hrl).2
     have HEl:Hid (r < endp P.rows r/\endp P.rows r<=P.rows.length):=hEl
     obtain ⟨T0,hT0⟩:∃ x,x=(rP P.rows r).is:=⟨_,rfl⟩
     have HTy:Hid (∀ W,Calls Tryz.prog 35 #[I (rat P.rows r).kind] W fun e w'=>e=.returned (I T0)/\w'=W):=fun W=>by rw [hT0];exact rtype8 _ (rat P.rows r).n W
     obtain ⟨b0,hb0⟩:∃ b,b=(T0 == 0):=⟨_,rfl⟩
     have HT0:Hid (b0=((rP P.rows r).is == 0)):=by rw [<-hT0];exact hb0
     have hb1:(T0 == 0)=b0:=hb0.symm
     clear hT0 hb0
     obtain ⟨kd0,hkd0⟩:∃ x,x=(rat P.rows r).kind:=⟨_,rfl⟩
     rw [<-hkd0] at HTy c0
     clear hkd0
     have HEn:=hdn <| rend8 (some ⟨gr,or,none⟩) P.rows ac r ((w4.setCell ⟨w2.heap.size,0,none⟩ (I fE)).setCell ⟨w2.heap.size,1,none⟩ (I 0)) (HG.out.below H5.out.be).r HS.out.r hRd.t hrl
     have HCz:Hid (conZ P.rows (vB P.rows size cs P.rows.length) (r:Int)=if (rP P.rows r).is=0\/anyC (fun j=>rP P.rows (r+j)) (endp P.rows r - r)=true then (0,42,(r:Int)) else (vB P.rows size cs P.rows.length r,0,0)):=by
      show _=_
      unfold conZ
      rw [if_neg (by omega),Int.toNat_natCast]
     have HFit:=hdn <| fit_rng8 (HFe.out.trans HZ.out)
     have h32:∀ i,i < P.rows.length->(rat P.rows i).kind=32->∃ m:Nat,(rat P.rows i).n=(m:Int)/\m < nc:=fun i hi hk=>by
      obtain ⟨m,h1,h2⟩:=hRc.c i hi hk
      exact ⟨m,h1,by rw [HFit.out.2.1];exact h2⟩
     have HVl:Hid ((rP P.rows r).is ≠ 0->anyC (fun j=>rP P.rows (r+j)) (endp P.rows r - r)=false->Calls Tryz.prog 47 #[.agg (pC P (some ⟨gr,or,none⟩) ac qo qc vo vc tto tc uo uc oo oc),.agg #[I size,.slice co nc cc],I (r:Int)] ((w4.setCell ⟨w2.heap.size,0,none⟩ (I fE)).setCell ⟨w2.heap.size,1,none⟩ (I 0)) fun e w'=>e=.returned (I (vB P.rows size cs P.rows.length r))/\Below ((w4.setCell ⟨w2.heap.size,0,none⟩ (I fE)).setCell ⟨w2.heap.size,1,none⟩ (I 0)).heap.size ((w4.setCell ⟨w2.heap.size,0,none⟩ (I fE)).setCell ⟨w2.heap.size,1,none⟩ (I 0)) w'):=fun h1 h2=>
      rvalue8 (gh:=ghL P.qs) HOk.out hRd.t HS.out.r HFl.out (kd_val HOk.out) (fun j hj=>vB_rng hRd.t.whole HFl.out HFit.out.1 (num_of HOk.out) (fun i hi hk=>by
       obtain ⟨m,e1,e2⟩:=h32 i hi hk
       rw [e1,Int.toNat_natCast]
       exact HFit.out.2.2 m e2) _ j (Nat.le_refl _) hj) h32 HCl.out _ r (Nat.le_refl _) hrl h1 (fun j j1 j2=>by
       have:=anyC_no h2 (j - r) (by omega)
       rw [show r+(j - r)=j by omega] at this
       exact this) _ (HG.out.below H5.out.be).r (IsVals.below HC.out H5.out.be)
     have HRr:=hdn <| (HG.out.below H5.out.be).r
     clear hr0 hr1 hr2 hr3 hEl hRd hRc h32 HFit
     have hr1:decide ((r:Int) < 0)=false:=decide_eq_false (by omega)
     have hr3:decide ((P.rows.length:Int)<=(r:Int))=false:=decide_eq_false (by omega)
     obtain ⟨E,hE⟩:∃ E,E=endp P.rows r:=⟨_,rfl⟩
     rw [<-hE] at HEl HEn HCz HVl
     clear hE
     have hEl:(E:Int)<=2932031007317:=by have:=HEl.out;omega
     go_wp2_with fail
     generalize ((w4.setCell ⟨w2.heap.size,0,none⟩ (I fE)).setCell ⟨w2.heap.size,1,none⟩ (I 0))=w5 at *
     refine Calls.mono (HTy.out _) ?_
     rintro e w6 ⟨rfl,rfl⟩
     go_wp2_with fail
     go_loopg [10,11] (E - r) (fun gq bd c wr=>∃ (k:Nat) (bb:Bool),k<=E - r/\gq=E - r - k/\bd=.bool bb/\bb=(b0 || anyC (fun j=>rP P.rows (r+j)) k)/\c=I ((r+k:Nat):Int)/\wr=w6)
     case atStart=>exact ⟨0,_,Nat.zero_le _,rfl,rfl,by simp [anyC],by simp,rfl⟩
     case round=>
      obtain ⟨k,bb,hk,hgk,rfl,hbb,rfl,hw⟩:=hrel
      have HBb:Hid (bb=(b0 || anyC (fun j=>rP P.rows (r+j)) k)):=hbb
      rw [hw]
      have HGk:Hid (gk=E - r - k):=hgk
      clear hw hgk hbb
      have hrk:((r+k:Nat):Int)<=2932031007317:=by have:=HEl.out;omega
      by_cases hlk:k < E - r
      ·have hlk':((r+k:Nat):Int) < (E:Int):=by omega
       have hrk2:r+k < P.rows.length:=by have:=HEl.out;omega
       have hrk3:((r+k:Nat):Int) < (P.rows.length:Int):=by omega
       obtain ⟨g',o',e',_,m0,_⟩:=row_cells HRr.out hrk2
       cases e'
       obtain ⟨ch,hch⟩:∃ x,x=(rP P.rows (r+k)).changing:=⟨_,rfl⟩
       have HFr:Hid (Calls Tryz.prog 36 #[I (rat P.rows (r+k)).kind] w6 fun e w'=>e=.returned (.bool ch)/\w'=w6):=by rw [hch];exact rfree8 _ (rat P.rows (r+k)).n w6
       have HAn:Hid ((b0 || anyC (fun j=>rP P.rows (r+j)) (k+1))=((b0 || anyC (fun j=>rP P.rows (r+j)) k) || ch)):=by
        show _=_
        rw [hch]
        simp only [anyC,Bool.or_assoc]
       obtain ⟨kd1,hkd1⟩:∃ x,x=(rat P.rows (r+k)).kind:=⟨_,rfl⟩
       rw [<-hkd1] at HFr m0
       clear hch hkd1
       cases bb with
       | true=>
        go_wp2_with fail
        refine Calls.mono HEn.out ?_
        rintro e w7 ⟨rfl,rfl⟩
        go_wp2_with fail
        go_roundg (E - r - (k+1))
        case measure=>have h1:=HGk.out;omega
        case rel=>exact ⟨k+1,true,by omega,rfl,rfl,by rw [HAn.out,<-HBb.out];rfl,by go_num,rfl⟩
       | false=>
        go_wp2_with fail
        refine Calls.mono HEn.out ?_
        rintro e w7 ⟨rfl,rfl⟩
        go_wp2_with fail
        refine Calls.mono HFr.out ?_
        rintro e w8 ⟨rfl,rfl⟩
        go_wp2_with fail
        go_roundg (E - r - (k+1))
        case measure=>have h1:=HGk.out;omega
        case rel=>exact ⟨k+1,ch,by omega,rfl,rfl,by rw [HAn.out,<-HBb.out];rfl,by go_num,rfl⟩
      ·have hlk':¬ ((r+k:Nat):Int) < (E:Int):=by have:=HEl.out;omega
       have hke:k=E - r:=by omega
       have hbb:bb=(((rP P.rows r).is == 0) || anyC (fun j=>rP P.rows (r+j)) (E - r)):=by rw [<-hke,<-HT0.out];exact HBb.out
       clear hke HBb
       cases bb with
       | true=>
        have HQ:Hid (ConQ P size cs nc (r:Int) (.returned (.tuple #[I 0,.agg #[I 42,I (r:Int)]]))):=conQ_ok HOk.out HRu.out (by rw [HCz.out,if_pos (by simpa using hbb.symm)])
        clear hbb
        go_wp2_with fail
        refine Calls.mono HEn.out ?_
        rintro e w7 ⟨rfl,rfl⟩
        go_wp2_with fail
        obtain ⟨q1,q2,q3⟩:=put2M (B:=w.heap.size+1+1) (v0:=I 42) (v1:=I (r:Int)) H5.out.be (by omega) H5.out.f
        obtain ⟨y0,y1⟩:=cells2 q1
        refine bodyPost_ret (v:=.tuple #[I 0,.agg #[I 42,I (r:Int)]]) (by simp [results,Tryz.results24,go_sem,y0,y1]) rfl ?_
        exact ⟨q2,HQ.out⟩
       | false=>
        have hbb2:¬ ((rP P.rows r).is=0\/anyC (fun j=>rP P.rows (r+j)) (E - r)=true):=fun h=>by
         have h3:(((rP P.rows r).is == 0) || anyC (fun j=>rP P.rows (r+j)) (E - r))=true:=by simpa using h
         rw [<-hbb] at h3
         cases h3
        have HQ:Hid (ConQ P size cs nc (r:Int) (.returned (.tuple #[I (vB P.rows size cs P.rows.length r),.agg #[I 0,I 0]]))):=conQ_ok HOk.out HRu.out (by rw [HCz.out,if_neg hbb2])
        have HVc:=hdn <| HVl.out (fun e=>hbb2 (Or.inl e)) (by
         cases hx:anyC (fun j=>rP P.rows (r+j)) (E - r) with
         | true=>exact absurd (Or.inr hx) hbb2
         | false=>rfl)
        obtain ⟨k0,k1,k2,k3,k4,k5,k6,k7⟩:=zr8 H5.out.p
        obtain ⟨d0,d1⟩:=fcells2 H5.out.c
        clear hbb2 hbb
        go_wp2_with fail
        refine Calls.mono HEn.out ?_
        rintro e w7 ⟨rfl,rfl⟩
        go_wp2_with fail
        refine Calls.mono HVc.out ?_
        rintro e w8 ⟨rfl,hb8⟩
        have H8:=hdn <| H5.out.below hb8
        clear hb8 e0 e1 hff k0 k1 k2 k3 k4 k5 k6 k7 d0 d1
        obtain ⟨e0,e1⟩:=fcells2 H8.out.f
        have hff:=zr8f H8.out.f
        go_wp2_with fail
        obtain ⟨q1,q2,q3⟩:=put2M (B:=w.heap.size+1+1) (v0:=I 0) (v1:=I 0) H8.out.be (by omega) H8.out.f
        obtain ⟨y0,y1⟩:=cells2 q1
        refine bodyPost_ret (v:=.tuple #[I (vB P.rows size cs P.rows.length r),.agg #[I 0,I 0]]) (by simp [results,Tryz.results24,go_sem,y0,y1]) rfl ?_
        exact ⟨q2,HQ.out⟩
  ·have hq:ConQ P size cs nc row (.returned (.tuple #[I 0,.agg #[I fE,I 0]])):=by
    refine Or.inr (Or.inl ⟨HOk.out,?_,?_⟩)
    ·unfold ruZ
     rw [if_pos HFl.out]
     show fitE (ghL P.qs) P.qs.length size cs nc ≠ 0
     rw [HFe.out]
     exact hz
    ·unfold ruZ
     rw [if_pos HFl.out,HFe.out]
   have HQ:=hdn <| hq
   have z1:(fE != 0)=true:=by simp [hz]
   obtain ⟨e0,e1⟩:=fcells2 H5.out.f
   have hff:=zr8f H5.out.f
   obtain ⟨g0,g1⟩:=fcells2 HX5.out
   clear hq hz
   go_wp2_with fail
   generalize ((w4.setCell ⟨w2.heap.size,0,none⟩ (I fE)).setCell ⟨w2.heap.size,1,none⟩ (I 0))=w5 at *
   go_region
   all_goals
    go_wp2_with fail
    obtain ⟨q1,q2,q3⟩:=put2M (B:=w.heap.size+1+1) (v0:=I fE) (v1:=I 0) H5.out.be (by omega) H5.out.f
    obtain ⟨y0,y1⟩:=cells2 q1
    refine bodyPost_ret (v:=.tuple #[I 0,.agg #[I fE,I 0]]) (by simp [results,Tryz.results24,go_sem,y0,y1]) rfl ?_
    exact ⟨q2.drew,HQ.out⟩
 ·have hq:ConQ P size cs nc row (.returned (.tuple #[I 0,.agg #[I fe,I fa]])):=by
   rcases HT.out with ⟨a,_,c,d⟩ | ⟨a,b,_,d,e⟩ | ⟨_,_,_,d,_⟩
   ·exact Or.inl ⟨a,by rw [c,d]⟩
   ·refine Or.inr (Or.inl ⟨a,?_,?_⟩)
    ·unfold ruZ
     rw [if_neg b]
     show ((fltN P.rows (ghL P.qs) P.rows.length).1:Int) ≠ 0
     omega
    ·unfold ruZ
     rw [if_neg b,d,e]
   ·exact absurd d h0
  have HQ:=hdn <| hq
  have z0:(fe == 0)=false:=beq_false_of_ne h0
  have z1:(fe != 0)=true:=by simp [h0]
  obtain ⟨f0,f1⟩:=fcells2 HX3.out
  obtain ⟨e0,e1⟩:=fcells2 H3.out.f
  have hff:=zr8f H3.out.f
  clear hq h0
  go_wp2_with fail
  go_region
  all_goals
   go_wp2_with fail
   obtain ⟨q1,q2,q3⟩:=put2M (B:=w.heap.size+1+1) (v0:=I fe) (v1:=I fa) H3.out.be (by omega) H3.out.f
   obtain ⟨y0,y1⟩:=cells2 q1
   refine bodyPost_ret (v:=.tuple #[I 0,.agg #[I fe,I fa]]) (by simp [results,Tryz.results24,go_sem,y0,y1]) rfl ?_
   exact ⟨q2.drew,HQ.out⟩
end Go.Proofs.YtbledbjcghaanaaGreat.Nm.Ty
