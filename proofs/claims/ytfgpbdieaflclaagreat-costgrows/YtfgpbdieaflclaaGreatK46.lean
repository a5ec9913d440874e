import Derived.Test.YtfgpbdieaflclaaGreatK31
import Derived.Test.YtfgpbdieaflclaaGreatK34
import Derived.Test.YtfgpbdieaflclaaGreatK44
import Derived.Test.YtfgpbdieaflclaaGreatK45
set_option maxHeartbeats 51200000
set_option maxRecDepth 2000000
set_option linter.unusedSimpArgs false
namespace Go.Proofs.YtfgpbdieaflclaaGreat.Nm.Ty
open Go.RowKit Go.Maps Sp Lx Gr Nm
theorem rz_of_ownG {w:World} {base n c:Nat} {bo:Option Addr} {l:List Rz} (h:w.ownsRow base 47 5 (.slice bo n c) n (l.flatMap rz5)) (hl:l.length=n):IsRz w bo l:=by
 subst hl
 cases l with
 | nil=>exact fun i x hx=>by simp at hx
 | cons x l=>
  obtain ⟨g,cap,cur,e,_⟩:=own_block h (by simp)
  cases e
  exact (rw_of_own h).rz
theorem below_grown {B:Nat} {w w':World} {v:Value} (h:w.grownBy w' v.ownBlock) (hB:B<=w.heap.size) (hv:∀ k,v.ownBlock=some k->B<=k):Below B w w':=⟨h.os,h.tape,h.output,h.size,fun k hk=>h.block k (by omega) (fun e=>by have:=hv k e.symm;omega)⟩
theorem longer_any {w:World} {ao lo po:Option Addr} {l:List Rz} {cap lc pq a:Nat} {L1:List Int} {p:Pl} {c:Co} (h:IsRz w ao l) (hcap:l.length<=cap) (hl:l.length<=4096) (hkd:∀ r ∈ l,r.kids<=9223372036854775807/\r.name.size<=4611686018427387000) (hr:res l=.ok p) (hm:p.miss=(a:Int)) (hL:IsVals w lo (iv L1)) (hL1:∀ n ∈ L1,0<=n/\n<=4194304) (hLn:L1.length<=100) (ho:IsVals w po (iv (zi c.on))) (hon:(zi c.on).length<=17592186043904) (hc:evR p.rows ((List.range p.rows.length).map (rdv p.rows L1)) p.us p.qs.length=.ok c):
  Calls Tryz.prog 10 #[.slice ao l.length cap,.int .i64 (a:Int),.slice lo L1.length lc,.agg #[.slice po (zi c.on).length pq,.int .i64 ((c.miss:Nat):Int)]] w fun e w'=>e=.returned (.bool true)/\Below w.heap.size w w':=by
 obtain ⟨ha,hk0,hk1⟩:=miss_at hr hm
 obtain ⟨g,of,rfl,hg,hcell⟩:=rz_cells h (by omega)
 obtain ⟨b,hb⟩:∃ b:Nat,b=a+1:=⟨_,rfl⟩
 have hb1:IntKind.i64.wrap ((a:Int)+1)=(b:Int):=by rw [IntKind.wrap_i64];omega
 have hb2:(b:Int)<=(cap:Int):=by omega
 have hb3:(b:Int)<=(l.length:Int):=by omega
 have hb0:(0:Int)<=(b:Int):=by omega
 have HC:Hid (∀ j u,(l.flatMap rz5)[j]?=some u->w.cell? ⟨g,of+j,none⟩=some u):=fun j u hu=>by have:=hcell j u hu;rwa [Lib.addr_add] at this
 have HA:Hid (a < l.length/\l.length<=4096/\b=a+1/\l.length<=cap/\0<=(rat l a).kids/\(rat l a).kids<=(l.length:Int)/\g < w.heap.size):=⟨ha,hl,hb,hcap,hk0,hk1,hg⟩
 have HK:Hid ((∀ r ∈ l,r.kids<=9223372036854775807/\r.name.size<=4611686018427387000)/\res l=.ok p/\p.miss=(a:Int)):=⟨hkd,hr,hm⟩
 have HL:Hid (IsVals w lo (iv L1)/\(∀ n ∈ L1,0<=n/\n<=4194304)/\L1.length<=100):=⟨hL,hL1,hLn⟩
 have HO:Hid (IsVals w po (iv (zi c.on))/\(zi c.on).length<=17592186043904):=⟨ho,hon⟩
 have HE:Hid (evR p.rows ((List.range p.rows.length).map (rdv p.rows L1)) p.us p.qs.length=.ok c):=hc
 have HM:Hid (((c.miss:Nat):Int)<=4611686018427387904):=by have:=(evR_top hc).1;show _<=_;omega
 obtain ⟨cm,hcm⟩:∃ cm:Int,cm=((c.miss:Nat):Int):=⟨_,rfl⟩
 obtain ⟨co,hco⟩:∃ co:List Int,co=zi c.on:=⟨_,rfl⟩
 have HCm:Hid (cm=((c.miss:Nat):Int)/\co=zi c.on):=⟨hcm,hco⟩
 rw [<-hcm,<-hco]
 rw [<-hco] at HO
 rw [<-hcm] at HM
 obtain ⟨ir,hir,hzr0,hzr1,hzr2⟩:=info_parts infoRw
 have hb4:Below w.heap.size w (w.alloc (.cells #[.slice po co.length pq,.int .i64 cm] 36)):=bAl _ _
 have HB1:=hdn <| hb4
 have HX1:=hdn <| heap_alloc_new w (.cells #[.slice po co.length pq,.int .i64 cm] 36)
 clear h hcap hl hkd hr hm hL hL1 hLn ho hon hc ha hk0 hk1 hcell hb hcm hco hb4 hg
 go_enter Tryz.func10,Tryz.ntmps10
 go_upto_region 2 with fail
 generalize (w.alloc (.cells #[.slice po co.length pq,.int .i64 cm] 36))=w1 at *
 have hs1:∀ ad,(some ⟨g,of,none⟩:Option Addr)=some ad->∀ j u,((l.take b).flatMap rz5)[j]?=some u->w1.cell? (ad.add j)=some u:=fun ad e j u hu=>by
  cases e
  rw [Lib.addr_add]
  refine (HB1.out.cell (by exact HA.out.2.2.2.2.2.2) ).trans (HC.out j u ?_)
  rw [take_rz5,List.getElem?_take] at hu
  split at hu
  ·exact hu
  ·cases hu
 have hl1:((l.take b).flatMap rz5).length=b * 5:=by rw [rz5_len,List.length_take,Nat.min_eq_left (by have:=HA.out;omega)]
 have HS1:=hdn <| hs1
 have HL1:=hdn <| hl1
 clear hs1 hl1
 go_wp2_with (at_builtin;refine wpl_app _ rfl _ _ 22 rfl w1.heap.size 47 ir (.agg #[.int .i64 0,.string ⟨#[]⟩,.int .i64 0,.int .i64 0,.int .i64 0]) 5 48 Tryz.underlying22 hir hzr0 hzr1 hzr2 rfl (by decide) pz 0 [] rfl (World.ownsRow_nil _ _ _ _) (some ⟨g,of,none⟩) b cap ((l.take b).flatMap rz5) rfl HL1.out nofun HS1.out (rz5_one _) (by have:=HA.out;unfold maxLen;omega) (by have:=HA.out;omega) (Nat.le_refl _) ?_)
 intro v2 w2 hv2 hg2 hb2'
 obtain ⟨ro2,c2,rfl⟩:=own_form hv2
 have H2:Hid (Below w1.heap.size w1 w2/\w2.ownsRow w1.heap.size 47 5 (.slice ro2 b c2) b ((l.take b).flatMap rz5)):=⟨below_grown hg2 (Nat.le_refl _) (fun k hk=>by simp [Value.ownBlock] at hk),hv2⟩
 clear hv2 hg2 hb2' HS1 HL1
 have hbA:Below w2.heap.size w2 (w2.alloc (.cells #[.int .i64 23,.string ⟨#[]⟩,.int .i64 0,.int .i64 0,.int .i64 0] 47)):=bAl _ _
 have H2A:Hid (Below w1.heap.size w1 (w2.alloc (.cells #[.int .i64 23,.string ⟨#[]⟩,.int .i64 0,.int .i64 0,.int .i64 0] 47))/\(w2.alloc (.cells #[.int .i64 23,.string ⟨#[]⟩,.int .i64 0,.int .i64 0,.int .i64 0] 47)).ownsRow w1.heap.size 47 5 (.slice ro2 b c2) b ((l.take b).flatMap rz5)/\w1.heap.size<=(w2.alloc (.cells #[.int .i64 23,.string ⟨#[]⟩,.int .i64 0,.int .i64 0,.int .i64 0] 47)).heap.size):=⟨H2.out.1.trans (hbA.mono H2.out.1.size),own_below H2.out.2 hbA,Nat.le_trans H2.out.1.size hbA.size⟩
 clear hbA
 go_wp2_with (at_builtin;refine wpl_app _ rfl _ _ 22 rfl w1.heap.size 47 ir (.agg #[.int .i64 0,.string ⟨#[]⟩,.int .i64 0,.int .i64 0,.int .i64 0]) 5 48 Tryz.underlying22 hir hzr0 hzr1 hzr2 rfl (by decide) (.slice ro2 b c2) b ((l.take b).flatMap rz5) rfl H2A.out.2.1 (some ⟨w2.heap.size,0,none⟩) 1 1 [.int .i64 23,.string ⟨#[]⟩,.int .i64 0,.int .i64 0,.int .i64 0] rfl rfl nofun (fun ad e=>by cases e;exact cells_newC w2 _ _) (by intro u hu;simp only [List.mem_cons,List.not_mem_nil,or_false] at hu;rcases hu with rfl | rfl | rfl | rfl | rfl<;>rfl) (by have:=HA.out;unfold maxLen;omega) (by have:=HA.out;omega) H2A.out.2.2 ?_)
 intro v3 w3 hv3 hg3 hb3'
 obtain ⟨ro3,c3,rfl⟩:=own_form hv3
 have H3:Hid (Below w1.heap.size w1 w3/\w3.ownsRow w1.heap.size 47 5 (.slice ro3 (b+1) c3) (b+1) ((l.take b).flatMap rz5++[.int .i64 23,.string ⟨#[]⟩,.int .i64 0,.int .i64 0,.int .i64 0])):=⟨H2A.out.1.trans (below_grown hg3 H2A.out.2.2 (fun k hk=>(World.ownsRow.lt H2A.out.2.1 k hk).1)),hv3⟩
 clear hv3 hg3 hb3' H2 H2A
 go_upto_region 4 with fail
 have hl4:((l.drop b).flatMap rz5).length=(l.length - b) * 5:=by rw [rz5_len,List.length_drop]
 have HL4:=hdn <| hl4
 have hs4:∀ ad,(if cap=b then (some ⟨g,of,none⟩:Option Addr) else some ⟨g,of+b * 5,none⟩)=some ad->∀ j u,((l.drop b).flatMap rz5)[j]?=some u->w3.cell? (ad.add j)=some u:=fun ad e j u hu=>by
  by_cases hcb:cap=b
  ·rw [List.drop_eq_nil_of_le (by have:=HA.out;omega)] at hu
   simp at hu
  ·rw [if_neg hcb] at e
   cases e
   rw [Lib.addr_add]
   rw [drop_rz5,List.getElem?_drop] at hu
   refine ((HB1.out.trans (H3.out.1.mono HB1.out.size)).cell (by exact HA.out.2.2.2.2.2.2)).trans ?_
   have h5:=HC.out _ u hu
   rw [show of+b * 5+j=of+(b * 5+j) by omega]
   exact h5
 have HS4:=hdn <| hs4
 have HN4:Hid ((if cap=b then (some ⟨g,of,none⟩:Option Addr) else some ⟨g,of+b * 5,none⟩)=none->l.length - b=0/\cap - b=0):=fun e=>by split at e<;>cases e
 have hcb:(l.length:Int)<=(cap:Int):=by have:=HA.out;omega
 have H3s:Hid (w1.heap.size<=w3.heap.size):=H3.out.1.size
 clear hl4 hs4
 go_cut [9] (fun s9 wx=>∃ gr c4,s9=.slice (some ⟨gr,0,none⟩) (l.length+1) c4/\Below w1.heap.size w1 wx/\wx.ownsRow w1.heap.size 47 5 (.slice (some ⟨gr,0,none⟩) (l.length+1) c4) (l.length+1) ((l.take b++ps :: l.drop b).flatMap rz5))
 case first=>
  by_cases hcb2:b=cap
  ·have HS5:Hid (∀ ad,(some ⟨g,of,none⟩:Option Addr)=some ad->∀ j u,((l.drop b).flatMap rz5)[j]?=some u->w3.cell? (ad.add j)=some u):=fun ad e j u hu=>by
    rw [List.drop_eq_nil_of_le (by have:=HA.out;omega)] at hu
    simp at hu
   subst hcb2
   go_wp2_with (at_builtin;refine wpl_app _ rfl _ _ 22 rfl w1.heap.size 47 ir (.agg #[.int .i64 0,.string ⟨#[]⟩,.int .i64 0,.int .i64 0,.int .i64 0]) 5 48 Tryz.underlying22 hir hzr0 hzr1 hzr2 rfl (by decide) (.slice ro3 (b+1) c3) (b+1) ((l.take b).flatMap rz5++[.int .i64 23,.string ⟨#[]⟩,.int .i64 0,.int .i64 0,.int .i64 0]) rfl H3.out.2 _ (l.length - b) _ ((l.drop b).flatMap rz5) rfl HL4.out nofun HS5.out (rz5_one _) (by have:=HA.out;unfold maxLen;omega) (by have:=HA.out;omega) H3s.out ?_)
   intro v4 w4 hv4 hg4 hb4'
   have e4:b+1+(l.length - b)=l.length+1:=by have:=HA.out;omega
   rw [e4] at hv4
   have eR:(l.take b).flatMap rz5++(.int .i64 23 :: .string ⟨#[]⟩ :: .int .i64 0 :: .int .i64 0 :: .int .i64 0 :: (l.drop b).flatMap rz5)=(l.take b++ps :: l.drop b).flatMap rz5:=by
    rw [List.flatMap_append,List.flatMap_cons]
    rfl
   rw [eR] at hv4
   obtain ⟨gr,c4,cur,ev,-⟩:=own_block hv4 (by omega)
   subst ev
   go_wp2_with fail
   go_meet
   exact ⟨gr,c4,rfl,H3.out.1.trans (below_grown hg4 H3s.out (fun k hk=>(World.ownsRow.lt H3.out.2 k hk).1)),hv4⟩
  ·have HS5:Hid (∀ ad,(some ⟨g,of+b * 5,none⟩:Option Addr)=some ad->∀ j u,((l.drop b).flatMap rz5)[j]?=some u->w3.cell? (ad.add j)=some u):=fun ad e=>HS4.out ad (by rw [if_neg (fun h=>hcb2 h.symm)];exact e)
   have hcb3:¬ cap=b:=fun h=>hcb2 h.symm
   clear hcb2
   go_wp2_with (at_builtin;refine wpl_app _ rfl _ _ 22 rfl w1.heap.size 47 ir (.agg #[.int .i64 0,.string ⟨#[]⟩,.int .i64 0,.int .i64 0,.int .i64 0]) 5 48 Tryz.underlying22 hir hzr0 hzr1 hzr2 rfl (by decide) (.slice ro3 (b+1) c3) (b+1) ((l.take b).flatMap rz5++[.int .i64 23,.string ⟨#[]⟩,.int .i64 0,.int .i64 0,.int .i64 0]) rfl H3.out.2 _ (l.length - b) _ ((l.drop b).flatMap rz5) rfl HL4.out nofun HS5.out (rz5_one _) (by have:=HA.out;unfold maxLen;omega) (by have:=HA.out;omega) H3s.out ?_)
   intro v4 w4 hv4 hg4 hb4'
   have e4:b+1+(l.length - b)=l.length+1:=by have:=HA.out;omega
   rw [e4] at hv4
   have eR:(l.take b).flatMap rz5++(.int .i64 23 :: .string ⟨#[]⟩ :: .int .i64 0 :: .int .i64 0 :: .int .i64 0 :: (l.drop b).flatMap rz5)=(l.take b++ps :: l.drop b).flatMap rz5:=by
    rw [List.flatMap_append,List.flatMap_cons]
    rfl
   rw [eR] at hv4
   obtain ⟨gr,c4,cur,ev,-⟩:=own_block hv4 (by omega)
   subst ev
   go_wp2_with fail
   go_meet
   exact ⟨gr,c4,rfl,H3.out.1.trans (below_grown hg4 H3s.out (fun k hk=>(World.ownsRow.lt H3.out.2 k hk).1)),hv4⟩
 case rest=>
  obtain ⟨gr,c4,rfl,hb4,hv4⟩:=hcut
  have H4:Hid (Below w1.heap.size w1 wc/\wc.ownsRow w1.heap.size 47 5 (.slice (some ⟨gr,0,none⟩) (l.length+1) c4) (l.length+1) ((l.take b++ps :: l.drop b).flatMap rz5)):=⟨hb4,hv4⟩
  generalize wc=w4 at *
  clear hv4 hb4 HS4 HL4 HN4 H3 H3s hcb hir hzr0 hzr1 hzr2 hb1 hb2 hb3 hb0
  have hR0:(l.take b++ps :: l.drop b)[a]?=some (rat l a):=by
   rw [List.getElem?_append_left (by rw [List.length_take];have:=HA.out;omega),List.getElem?_take_of_lt (by have:=HA.out;omega),some_rat HA.out.1]
  obtain ⟨kd,hkd⟩:∃ kd:Int,kd=(rat l a).kids:=⟨_,rfl⟩
  have HKd:Hid (kd=(rat l a).kids):=hkd
  have hcell:w4.cell? ⟨gr,a * 5+4,none⟩=some (.int .i64 kd):=by
   rw [H4.out.2.cellAt (a * 5+4) (by have:=HA.out;omega),rz5_at _ _ _ _ hR0 (by omega),hkd]
   rfl
  have hfz:=H4.out.2.frozenAt (a * 5+4)
  have hkb:kd<=4096:=by have:=HA.out;omega
  have hkb0:0<=kd:=by have:=HA.out;omega
  have hal:(a:Int) < (l.length:Int)+1:=by have:=HA.out;omega
  have hW5:(w4.setCell ⟨gr,a * 5+4,none⟩ (.int .i64 (kd+1))).ownsRow w1.heap.size 47 5 (.slice (some ⟨gr,0,none⟩) (l.length+1) c4) (l.length+1) ((insR l a).flatMap rz5):=by
   have h1:=(H4.out.2.stored (a * 5+4) (.int .i64 (kd+1))).1
   rw [<-rz5_set4 _ _ _ _ hR0] at h1
   have hb:b=a+1:=HA.out.2.2.1
   subst hb
   rw [insR_set l HA.out.1]
   unfold bk
   rw [<-hkd]
   exact h1
  have H5:Hid (Below w1.heap.size w1 (w4.setCell ⟨gr,a * 5+4,none⟩ (.int .i64 (kd+1)))/\IsRz (w4.setCell ⟨gr,a * 5+4,none⟩ (.int .i64 (kd+1))) (some ⟨gr,0,none⟩) (insR l a)):=⟨H4.out.1.setCell (p:=⟨gr,a * 5+4,none⟩) (World.ownsRow.lt H4.out.2 gr rfl).1 _,rz_of_ownG hW5 (insR_len HA.out.1)⟩
  have HK5:Hid (∀ r ∈ insR l a,r.kids<=9223372036854775807/\r.name.size<=4611686018427387000):=fun r hr=>by
   unfold insR at hr
   rcases List.mem_append.1 hr with h1 | h1
   ·exact HK.out.1 r (List.mem_of_mem_take h1)
   ·rcases List.mem_cons.1 h1 with rfl | h1
    ·have h2:=HK.out.1 _ (List.mem_of_getElem? (some_rat HA.out.1))
     exact ⟨by show (rat l a).kids+1<=_;have:=HA.out;omega,h2.2⟩
    ·rcases List.mem_cons.1 h1 with rfl | h1
     ·exact ⟨by decide,by decide⟩
     ·exact HK.out.1 r (List.mem_of_mem_drop h1)
  clear hR0 hkd hW5 H4
  go_upto_region 6 with fail
  generalize (w4.setCell ⟨gr,a * 5+4,none⟩ (.int .i64 (kd+1)))=w5 at *
  clear hcell hfz hkb hkb0 hal HKd
  have hll:(insR l a).length=l.length+1:=insR_len HA.out.1
  have HRr:=hdn <| rresolve_any (cap:=c4) H5.out.2 (by have:=HA.out;omega) HK5.out
  rw [hll] at HRr
  have HPk:=hdn <| res_kd (l:=insR l a) (by have:=HA.out;omega) HK5.out
  have HFw:=hdn <| resP_few (l:=insR l a) (by have:=HA.out;omega)
  clear hll
  go_wp2_with fail
  refine Calls.mono HRr.out ?_
  rintro e w6 hT2
  obtain ⟨ao1,qo1,vo1,to1,uo1,oo1,ac1,qc1,vc1,tc1,uc1,oc1,rfl,hb2,hrd2,n2,n3,n4,n5,n6⟩:=told_gn hT2
  have HNi:Hid ((qo1=none->qc1=0)/\(vo1=none->vc1=0)/\(to1=none->tc1=0)/\(uo1=none->uc1=0)/\(oo1=none->oc1=0)):=⟨n2,n3,n4,n5,n6⟩
  clear hT2 HRr n2 n3 n4 n5 n6
  obtain ⟨P,hP⟩:∃ P,P=resP (insR l a):=⟨_,rfl⟩
  obtain ⟨c1,hc1⟩:∃ c1,c1=(resC (insR l a)).1:=⟨_,rfl⟩
  obtain ⟨c2,hc2⟩:∃ c2,c2=(resC (insR l a)).2:=⟨_,rfl⟩
  rw [<-hP] at hrd2 HPk HFw ⊢
  rw [<-hc1,<-hc2]
  have HRs:Hid (P=resP (insR l a)/\c1=(resC (insR l a)).1):=⟨hP,hc1⟩
  clear hP hc1 hc2
  dsimp only [pvG]
  have hb3:Below w6.heap.size w6 ((w6.alloc (.cells #[.string P.name,.slice ao1 P.rows.length ac1,.slice qo1 P.qs.length qc1,.slice vo1 P.vs.length vc1,.slice to1 P.ts.length tc1,.slice uo1 P.us.length uc1,.slice oo1 P.on.length oc1,.int .i64 P.miss] 28)).alloc (.cells #[.int .i64 (c1:Int),.int .i64 (c2:Int)] 31)):=(bAl w6 _).alloc (by simp) _
  have H7:Hid (Below w5.heap.size w5 ((w6.alloc (.cells #[.string P.name,.slice ao1 P.rows.length ac1,.slice qo1 P.qs.length qc1,.slice vo1 P.vs.length vc1,.slice to1 P.ts.length tc1,.slice uo1 P.us.length uc1,.slice oo1 P.on.length oc1,.int .i64 P.miss] 28)).alloc (.cells #[.int .i64 (c1:Int),.int .i64 (c2:Int)] 31))/\RdG ((w6.alloc (.cells #[.string P.name,.slice ao1 P.rows.length ac1,.slice qo1 P.qs.length qc1,.slice vo1 P.vs.length vc1,.slice to1 P.ts.length tc1,.slice uo1 P.us.length uc1,.slice oo1 P.on.length oc1,.int .i64 P.miss] 28)).alloc (.cells #[.int .i64 (c1:Int),.int .i64 (c2:Int)] 31)) P ao1 qo1 vo1 to1 uo1 oo1/\((w6.alloc (.cells #[.string P.name,.slice ao1 P.rows.length ac1,.slice qo1 P.qs.length qc1,.slice vo1 P.vs.length vc1,.slice to1 P.ts.length tc1,.slice uo1 P.us.length uc1,.slice oo1 P.on.length oc1,.int .i64 P.miss] 28)).alloc (.cells #[.int .i64 (c1:Int),.int .i64 (c2:Int)] 31)).heap[w6.heap.size]?=some (.cells #[.string P.name,.slice ao1 P.rows.length ac1,.slice qo1 P.qs.length qc1,.slice vo1 P.vs.length vc1,.slice to1 P.ts.length tc1,.slice uo1 P.us.length uc1,.slice oo1 P.on.length oc1,.int .i64 P.miss] 28 (0,0))/\((w6.alloc (.cells #[.string P.name,.slice ao1 P.rows.length ac1,.slice qo1 P.qs.length qc1,.slice vo1 P.vs.length vc1,.slice to1 P.ts.length tc1,.slice uo1 P.us.length uc1,.slice oo1 P.on.length oc1,.int .i64 P.miss] 28)).alloc (.cells #[.int .i64 (c1:Int),.int .i64 (c2:Int)] 31)).heap[w6.heap.size+1]?=some (.cells #[.int .i64 (c1:Int),.int .i64 (c2:Int)] 31 (0,0))):=by
   refine ⟨hb2.trans (hb3.mono hb2.size),hrd2 _ (fun q _ q2=>hb3.block q q2),by rw [alloc_old _ _ _ (by simp)];exact alloc_at _ _ _ rfl,alloc_at _ _ _ (by simp)⟩
  clear hb2 hrd2 hb3
  go_upto_region 7 with fail
  generalize ((w6.alloc (.cells #[.string P.name,.slice ao1 P.rows.length ac1,.slice qo1 P.qs.length qc1,.slice vo1 P.vs.length vc1,.slice to1 P.ts.length tc1,.slice uo1 P.us.length uc1,.slice oo1 P.on.length oc1,.int .i64 P.miss] 28)).alloc (.cells #[.int .i64 (c1:Int),.int .i64 (c2:Int)] 31))=w7a at *
  generalize w6.heap.size=B10 at *
  obtain ⟨f0,f1⟩:=cells2 H7.out.2.2.2
  have H7w:Hid (Below w.heap.size w w7a):=HB1.out.trans ((H5.out.1.trans (H7.out.1.mono H5.out.1.size)).mono HB1.out.size)
  by_cases hc1:c1=0
  rotate_left
  ·have hc':((c1:Int) == 0)=false:=beq_false_of_ne (by omega)
   clear hc1
   go_wp2_with fail
   go_ret
   exact ⟨rfl,H7w.out⟩
  ·subst hc1
   clear f0 f1
   obtain ⟨f0,f1⟩:=cells2 H7.out.2.2.2
   have f0:w7a.cell? ⟨B10+1,0,none⟩=some (.int .i64 0):=f0
   go_upto_region 9 with fail
   clear f0 f1
   have HX:Hid (∀ X,Below w7a.heap.size w7a X->(fun w':World=>w'.heap[B10]?=some (.cells #[.string P.name,.slice ao1 P.rows.length ac1,.slice qo1 P.qs.length qc1,.slice vo1 P.vs.length vc1,.slice to1 P.ts.length tc1,.slice uo1 P.us.length uc1,.slice oo1 P.on.length oc1,.int .i64 P.miss] 28 (0,0))) X):=fun X hX=>(hX.block _ (blk_lt H7.out.2.2.1)).trans H7.out.2.2.1
   refine wp_region_held (S:=fun w':World=>w'.heap[B10]?=some (.cells #[.string P.name,.slice ao1 P.rows.length ac1,.slice qo1 P.qs.length qc1,.slice vo1 P.vs.length vc1,.slice to1 P.ts.length tc1,.slice uo1 P.us.length uc1,.slice oo1 P.on.length oc1,.int .i64 P.miss] 28 (0,0))) (by kernel_rfl) ?_
   change wpAnyH _ _ _ _ _ _ _ _ w7a.drew
   have HD:Hid (Below w7a.heap.size w7a w7a.drew):=(Below.refl _ _).drew
   have hS:=HX.out _ HD.out
   generalize hwd:w7a.drew=wd at *
   have HWd:Hid (wd.heap.size=w7a.heap.size):=by rw [<-hwd];rfl
   clear hwd
   refine tk (i:=0) (v:=?v0wd) rfl (Or.inl ⟨by rfl,?y0wd⟩) hS ?r0wd
   case y0wd=>
    intro w hSw
    obtain ⟨k0,k1,k2,k3,k4,k5,k6,k7⟩:=pol8 hSw
    first
     | (go_simp;done)
     | (go_simp;with_reducible rfl)
   refine tk (i:=2) (v:=?v2wd) rfl (Or.inl ⟨by rfl,?y2wd⟩) hS ?r2wd
   case y2wd=>
    intro w hSw
    obtain ⟨k0,k1,k2,k3,k4,k5,k6,k7⟩:=pol8 hSw
    first
     | (go_simp;done)
     | (go_simp;with_reducible rfl)
   refine tk (i:=3) (v:=?v3wd) rfl (Or.inl ⟨by rfl,?y3wd⟩) hS ?r3wd
   case y3wd=>
    intro w hSw
    first
     | (go_simp;done)
     | (go_simp;with_reducible rfl)
   go_simp
   have HLn:Hid (∀ X,Below w7a.heap.size w7a X->Calls Tryz.prog 8 #[.agg #[.string P.name,.slice ao1 P.rows.length ac1,.slice qo1 P.qs.length qc1,.slice vo1 P.vs.length vc1,.slice to1 P.ts.length tc1,.slice uo1 P.us.length uc1,.slice oo1 P.on.length oc1,.int .i64 P.miss]] X fun e w'=>Below X.heap.size X w'/\∃ v,e=.returned v/\Lp w' P v):=fun X hX=>lend_c (H7.out.2.1.below hX) HPk.out.1 HFw.out.2.1 HFw.out.2.2.1 HFw.out.2.2.2.1 HFw.out.2.2.2.2.1 HFw.out.2.2.2.2.2 HNi.out.1 HNi.out.2.1 HNi.out.2.2.1 HNi.out.2.2.2.1 HNi.out.2.2.2.2
   have HRo:Hid (∀ X,Below w7a.heap.size w7a X->Calls Tryz.prog 9 #[.agg #[.string P.name,.slice ao1 P.rows.length ac1,.slice qo1 P.qs.length qc1,.slice vo1 P.vs.length vc1,.slice to1 P.ts.length tc1,.slice uo1 P.us.length uc1,.slice oo1 P.on.length oc1,.int .i64 P.miss],.slice lo L1.length lc] X fun e w'=>Below X.heap.size X w'/\∃ v,e=.returned v/\Lt w' ((List.range P.rows.length).map (rdv P.rows L1)) v):=fun X hX=>rounds_c (H7.out.2.1.below hX) ((HL.out.1.below H7w.out).below hX) HPk.out.1 (by have:=HL.out.2.2;omega)
   obtain ⟨rd,hrd⟩:∃ rd:List Int,rd=(List.range P.rows.length).map (rdv P.rows L1):=⟨_,rfl⟩
   have HRd0:=hdn <| hrd
   have HRdl:Hid (rd.length=P.rows.length):=by rw [hrd,List.length_map,List.length_range];exact rfl
   rw [<-hrd] at HRo
   clear hrd
   refine held_from (b:=fun _=>false) (c:=fun _=>false) (n:=9) lT cN (fun a0 b c a w=>∃ s d:Nat->Value,a=((((((((a0.put (some 48) (s 0)).put (some 51) (s 1)).put (some 52) (s 2)).put (some 46) (s 3)).put (some 53) (s 4)).put (some 54) (s 5)).put (some 12) (d 0)).put (some 13) (d 1))/\Rg wd w P rd b c s d) 1 (by kernel_rfl) (by kernel_rfl) (by kernel_rfl) ?hstartwd ?hendwd ?hnewd ?hstepwd
   case hstartwd=>exact rg_start (by kernel_rfl)
   case hnewd=>
    intro b c hc
    cases b0:b 0 with
    | false=>
     rw [show lT b c=#[true,false,true,true,b 1,b 2,b 3,b 4,b 5,c 0,c 1,c 2,false] by unfold lT;rw [b0]]
     exact ready_ne 1 (of_decide_eq_true (by kernel_rfl)) (by kernel_rfl)
    | true=>?_
    cases b1:b 1 with
    | false=>
     rw [show lT b c=#[true,true,true,true,false,b 2,b 3,b 4,b 5,c 0,c 1,c 2,false] by unfold lT;rw [b1,b0]]
     exact ready_ne 4 (of_decide_eq_true (by kernel_rfl)) (by kernel_rfl)
    | true=>?_
    cases b2:b 2 with
    | false=>
     rw [show lT b c=#[true,true,true,true,true,false,b 3,b 4,b 5,c 0,c 1,c 2,false] by unfold lT;rw [b2,b0,b1]]
     exact ready_ne 5 (of_decide_eq_true (by kernel_rfl)) (by kernel_rfl)
    | true=>?_
    cases b3:b 3 with
    | false=>
     rw [show lT b c=#[true,true,true,true,true,true,false,b 4,b 5,c 0,c 1,c 2,false] by unfold lT;rw [b3,b0,b1,b2]]
     exact ready_ne 6 (of_decide_eq_true (by kernel_rfl)) (by kernel_rfl)
    | true=>?_
    cases b4:b 4 with
    | false=>
     rw [show lT b c=#[true,true,true,true,true,true,true,false,b 5,c 0,c 1,c 2,false] by unfold lT;rw [b4,b0,b1,b2,b3]]
     exact ready_ne 7 (of_decide_eq_true (by kernel_rfl)) (by kernel_rfl)
    | true=>?_
    cases b5:b 5 with
    | false=>
     rw [show lT b c=#[true,true,true,true,true,true,true,true,false,c 0,c 1,c 2,false] by unfold lT;rw [b5,b0,b1,b2,b3,b4]]
     exact ready_ne 8 (of_decide_eq_true (by kernel_rfl)) (by kernel_rfl)
    | true=>?_
    cases c0:c 0 with
    | false=>
     rw [show lT b c=#[true,true,true,true,true,true,true,true,true,false,c 1,c 2,false] by unfold lT;rw [c0,b0,b1,b2,b3,b4,b5]]
     exact ready_ne 9 (of_decide_eq_true (by kernel_rfl)) (by kernel_rfl)
    | true=>?_
    cases c1:c 1 with
    | false=>
     rw [show lT b c=#[true,true,true,true,true,true,true,true,true,true,false,c 2,false] by unfold lT;rw [c1,b0,b1,b2,b3,b4,b5,c0]]
     exact ready_ne 10 (of_decide_eq_true (by kernel_rfl)) (by kernel_rfl)
    | true=>?_
    cases c2:c 2 with
    | false=>
     rw [show lT b c=#[true,true,true,true,true,true,true,true,true,true,true,false,false] by unfold lT;rw [c2,b0,b1,b2,b3,b4,b5,c0,c1]]
     exact ready_ne 11 (of_decide_eq_true (by kernel_rfl)) (by kernel_rfl)
    | true=>?_
    exact absurd (by unfold cN;rw [b0,b1,b2,b3,b4,b5,c0,c1,c2];rfl) hc
   case hstepwd=>
    clear hS
    intro b c a w i hc hIl hr
    obtain ⟨s,d,rfl,hR⟩:=hIl
    obtain ⟨hrf,hro⟩:=ready_on hr
    have hX:∀ w',Below w.heap.size w w'->Below w7a.heap.size w7a w':=fun w' h=>by
     have h1:=HD.out.trans (hR.be.mono (by rw [HWd.out];exact Nat.le_refl _))
     exact h1.trans (h.mono h1.size)
    clear hr
    have hiN:i < 13:=by
     rcases Nat.lt_or_ge i 13 with h | h
     ·exact h
     ·have e:(lT b c).getD i true=true:=by
       rw [Array.getD_eq_getD_getElem?,Array.getElem?_eq_none (by exact h)]
       rfl
      rw [e] at hrf
      cases hrf
    have hi:i=1\/i=4\/i=5\/i=6\/i=7\/i=8\/i=9\/i=10\/i=11\/i=12\/i=0\/i=2\/i=3:=by omega
    clear hiN
    rcases hi with rfl | rfl | rfl | rfl | rfl | rfl | rfl | rfl | rfl | rfl | hi
    ·refine ⟨up b 0 true,c,rfl,cN_b (by omega) hrf,wpOp_step rfl fun K' hK=>?_⟩
     go_simp
     refine Calls.mono (HLn.out w (hX w (Below.refl _ _))) ?_
     rintro e w' ⟨hb,v,rfl,hv⟩
     exact hK _ _ ⟨HX.out _ (hX _ hb),up s 0 v,d,by kernel_rfl,(hR.below hb).b0 hrf hv⟩
    ·have q0:b 0=true:=hro ⟨1,.chain⟩ (by simp) rfl
     refine ⟨up b 1 true,c,rfl,cN_b (by omega) hrf,wpOp_step rfl fun K' hK=>?_⟩
     go_simp
     refine Calls.mono (HRo.out w (hX w (Below.refl _ _))) ?_
     rintro e w' ⟨hb,v,rfl,hv⟩
     exact hK _ _ ⟨HX.out _ (hX _ hb),up s 1 v,d,by kernel_rfl,(hR.below hb).b1 q0 hrf hv⟩
    ·have q0:b 0=true:=hro ⟨1,.data⟩ (by simp) rfl
     have q1:b 1=true:=hro ⟨4,.data⟩ (by simp) rfl
     refine ⟨up b 2 true,c,rfl,cN_b (by omega) hrf,wpOp_step rfl fun K' hK=>?_⟩
     go_simp
     refine Calls.mono (bound_c (Wd:=wd) hR.be.size (hR.f0 q0 hrf) ((hR.f1 q1).2 hrf) HFw.out.1 HPk.out.1 HFw.out.2.1 (by rw [HRdl.out];exact HPk.out.1)) ?_
     rintro e w' ⟨hb,v,rfl,hv⟩
     exact hK _ _ ⟨HX.out _ (hX _ hb),up s 2 v,d,by kernel_rfl,(hR.below hb).b2 q1 hrf hv⟩
    ·have q2:b 2=true:=hro ⟨5,.data⟩ (by simp) rfl
     refine ⟨up b 3 true,c,rfl,cN_b (by omega) hrf,wpOp_step rfl fun K' hK=>?_⟩
     go_simp
     exact hK _ _ ⟨HX.out _ (hX _ (Below.refl _ _)),up s 3 (s 2),d,by kernel_rfl,hR.b3 q2 hrf⟩
    ·have q3:b 3=true:=hro ⟨6,.data⟩ (by simp) rfl
     obtain ⟨q2,e3⟩:=hR.f3 q3
     obtain ⟨-,r,p1,q1,-,e2,-⟩:=hR.f2 q2
     rw [e2] at e3
     clear e2
     obtain ⟨x,y,e6⟩:∃ x y,s 3=.tuple #[x,y]:=⟨_,_,e3⟩
     clear e3
     refine ⟨up b 4 true,c,rfl,cN_b (by omega) hrf,wpOp_step rfl fun K' hK=>?_⟩
     go_simp
     exact hK _ _ ⟨HX.out _ (hX _ (Below.refl _ _)),up (up s 3 (.tuple #[x,y])) 4 x,d,by kernel_rfl,by rw [up_self e6];exact hR.b4 q3 hrf e6⟩
    ·have q3:b 3=true:=hro ⟨6,.data⟩ (by simp) rfl
     obtain ⟨q2,e3⟩:=hR.f3 q3
     obtain ⟨-,r,p1,q1,-,e2,-⟩:=hR.f2 q2
     rw [e2] at e3
     clear e2
     obtain ⟨x,y,e6⟩:∃ x y,s 3=.tuple #[x,y]:=⟨_,_,e3⟩
     clear e3
     refine ⟨up b 5 true,c,rfl,cN_b (by omega) hrf,wpOp_step rfl fun K' hK=>?_⟩
     go_simp
     exact hK _ _ ⟨HX.out _ (hX _ (Below.refl _ _)),up (up s 3 (.tuple #[x,y])) 5 y,d,by kernel_rfl,by rw [up_self e6];exact hR.b5 q3 e6⟩
    ·refine ⟨b,up c 0 true,rfl,cN_c (by omega) hrf,wpOp_step rfl fun K' hK=>?_⟩
     go_simp
     have hb:Below w.heap.size w (w.alloc (.cells #[.slice none 0 0,.int .i64 0] 36)):=bAl _ _
     exact hK _ _ ⟨HX.out _ (hX _ hb),s,up d 0 _,by kernel_rfl,(hR.below hb).c0 hrf ⟨w.heap.size,rfl,hR.be.size,heap_alloc_new _ _⟩⟩
    ·refine ⟨b,up c 1 true,rfl,cN_c (by omega) hrf,wpOp_step rfl fun K' hK=>?_⟩
     go_simp
     have hb:Below w.heap.size w (w.alloc (.cells #[.int .i64 0,.int .i64 0] 31)):=bAl _ _
     exact hK _ _ ⟨HX.out _ (hX _ hb),s,up d 1 _,by kernel_rfl,(hR.below hb).c1 ⟨w.heap.size,rfl,hR.be.size,heap_alloc_new _ _⟩⟩
    ·have q4:b 4=true:=hro ⟨7,.data⟩ (by simp) rfl
     have q0:c 0=true:=hro ⟨9,.data⟩ (by simp) rfl
     obtain ⟨q3,x4,y4,e34,e4⟩:=hR.f4 q4
     obtain ⟨q2,e3⟩:=hR.f3 q3
     obtain ⟨-,r,p1,q1,-,e2,-⟩:=hR.f2 q2
     rw [e3,e2] at e34
     cases e34
     obtain ⟨gc,hd,hgc,hhc⟩:=hR.d0 q0 hrf
     have hR2:=hR.c2 q4 q0 hrf e4 hd
     refine ⟨b,up c 2 true,rfl,cN_c (by omega) hrf,?_⟩
     apply wpOp_step rfl
     intro K' hK
     refine (step_store ?h1 36 (.tmp 12) (.tmp 53) ?h2 gc #[.slice p1 (zi (ctOf r).1).length q1,.int .i64 ((ctOf r).2.1:Int)] ?h3 ?h4 36 _ hhc (by kernel_rfl) rfl (by kernel_rfl) ?h5:_)
     case h1=>rfl
     case h2=>rfl
     case h3=>exact Eq.trans (b:=d 0) (by kernel_rfl) hd
     case h4=>exact Eq.trans (b:=s 4) (by kernel_rfl) e4
     exact hK _ _ ⟨HX.out _ (HD.out.trans (hR2.be.mono (by rw [HWd.out];exact Nat.le_refl _))),s,d,by kernel_rfl,hR2⟩
    ·have q5:b 5=true:=hro ⟨8,.data⟩ (by simp) rfl
     have q9:c 1=true:=hro ⟨10,.data⟩ (by simp) rfl
     have q10:c 2=true:=hro ⟨11,.chain⟩ (by simp) rfl
     obtain ⟨q8,q4,-⟩:=hR.d2 q10
     have q3:=(hR.f4 q4).1
     have q2:=(hR.f3 q3).1
     have q1:=(hR.f2 q2).1
     have q0:=(hR.f1 q1).1
     refine absurd ?_ hc
     unfold cN
     rw [q0,q1,q2,q3,q4,q5,q8,q9,q10]
     rfl
    ·rcases hi with rfl | rfl | rfl
     all_goals exact absurd (show true=false from hrf) (by decide)
   case hendwd=>
    clear hS
    intro b c a w7 hc hIf
    obtain ⟨s,d,rfl,hR⟩:=hIf
    obtain ⟨⟨k0,k1,k2,k3,k4,k5⟩,c0,c1,c2⟩:=cN_0 hc
    rw [show lT b c=#[true,true,true,true,true,true,true,true,true,true,true,true,false] by unfold lT;rw [k0,k1,k2,k3,k4,k5,c0,c1,c2]]
    obtain ⟨r,p1,q1,g0,g1,hBr,h5,hd0,hd1,hh1,hbe,hg0,hg1,ho⟩:=hR.fin hc
    clear hR k0 k1 k2 k3 k4 k5 c0 c1 c2 hc
    have HBr:=hdn <| hBr
    have HOn:=hdn <| zi_len hBr HFw.out.2.1
    clear hBr
    obtain ⟨on,eo⟩:∃ on:List Int,zi (ctOf r).1=on:=⟨_,rfl⟩
    obtain ⟨ms,em⟩:∃ ms:Int,(((ctOf r).2.1:Nat):Int)=ms:=⟨_,rfl⟩
    obtain ⟨e1,ee⟩:∃ e1:Int,(((ctOf r).2.2.1:Nat):Int)=e1:=⟨_,rfl⟩
    obtain ⟨a1,ea⟩:∃ a1:Int,(((ctOf r).2.2.2:Nat):Int)=a1:=⟨_,rfl⟩
    have HCt:Hid (zi (ctOf r).1=on/\(((ctOf r).2.1:Nat):Int)=ms/\(((ctOf r).2.2.1:Nat):Int)=e1):=⟨eo,em,ee⟩
    simp only [eo,em,ee,ea] at h5 hbe hg0 hg1 ho HOn
    clear eo em ee ea
    have hb68:Below w7a.heap.size w7a (w7.setRow g1 #[.int .i64 e1,.int .i64 a1]):=HD.out.trans (hbe.mono (by rw [HWd.out];exact Nat.le_refl _))
    have H8:Hid (Below w7a.heap.size w7a (w7.setRow g1 #[.int .i64 e1,.int .i64 a1])/\(w7.setRow g1 #[.int .i64 e1,.int .i64 a1]).heap[g0]?=some (.cells #[.slice p1 on.length q1,.int .i64 ms] 36 (0,0))/\(w7.setRow g1 #[.int .i64 e1,.int .i64 a1]).heap[g1]?=some (.cells #[.int .i64 e1,.int .i64 a1] 31 (0,0))/\IsVals (w7.setRow g1 #[.int .i64 e1,.int .i64 a1]) p1 (iv on)):=⟨hb68,hg0,hg1,vals_of ho⟩
    have HH1:=hdn <| hh1
    clear hbe hg0 hg1 ho hb68 hh1
    go_simp
    refine wpAnyH_ready (rs:=[12]) (by kernel_rfl) (by simp) ?_
    refine AllReadyH.cons rfl (fun K' hK=>?_) AllReadyH.nil
    refine (step_store ?h1 31 (.tmp 13) (.tmp 54) ?h2 g1 #[.int .i64 e1,.int .i64 a1] ?h3 ?h4 31 _ HH1.out (by kernel_rfl) rfl (by kernel_rfl) ?h6:_)
    case h1=>rfl
    case h2=>rfl
    case h3=>kernel_rfl
    case h4=>kernel_rfl
    refine hK.out _ _ (HX.out _ H8.out.1) (fun hS=>?_)
    clear hK K' hS HH1 HD HWd HLn HRo HX
    refine wpAnyH_done (by kernel_rfl) ?_ _
    go_simp
    generalize (w7.setRow g1 #[.int .i64 e1,.int .i64 a1])=w8 at *
    have HFin:Hid (e1=61\/(e1=0/\on=co/\ms=cm+1)):=by
     cases hres:res (insR l a) with
     | error ci=>
      exfalso
      have h1:=res_pos hres
      have h2:=HRs.out.2
      unfold resC at h2
      rw [hres] at h2
      simp only at h2
      omega
     | ok p'=>
      have hP:P=p'.g:=by
       have h1:=HRs.out.1
       unfold resP at h1
       rw [hres] at h1
       exact h1
      subst hP
      have hr:=bres_of hres HBr.out HRdl.out (by rw [HRd0.out];exact rd_bad HL.out.2.1 _)
      have hlc:=long_cost HK.out.2.1 HK.out.2.2 hres L1 HE.out
      have hrd:rd=(List.range p'.rows.length).map (rdv p'.rows L1):=HRd0.out
      rw [hrd] at hr
      obtain ⟨h1,h2,h3⟩:=HCt.out
      rcases hlc with ⟨e,he⟩ | ⟨c',hc1,hc2,hc3⟩
      ·left
       rw [<-h3,hr,he]
       rfl
      ·right
       rw [<-h1,<-h2,<-h3,hr,hc1,HCm.out.1,HCm.out.2]
       refine ⟨rfl,by show zi c'.on=_;rw [hc2],?_⟩
       show ((c'.miss:Nat):Int)=_
       rw [hc3]
       omega
    have HBw:Hid (Below w.heap.size w w8):=H7w.out.trans (H8.out.1.mono H7w.out.size)
    have HBx:=hdn <| ((H5.out.1.trans (H7.out.1.mono H5.out.1.size)).trans (H8.out.1.mono (H5.out.1.trans (H7.out.1.mono H5.out.1.size)).size)).block _ (blk_lt HX1.out) |>.trans HX1.out
    obtain ⟨t0,t1⟩:=cells2 H8.out.2.1
    obtain ⟨f0,f1⟩:=cells2 H8.out.2.2.1
    obtain ⟨x0,x1⟩:=cells2 HBx.out
    rcases HFin.out with h61 | ⟨h0,hon,hms⟩
    ·subst h61
     clear HCt HFin
     go_wp2_with fail
     go_ret
     exact ⟨rfl,HBw.out⟩
    ·subst hon
     have HSa:=hdn <| rSameIntsJ (w:=w8) (ca:=pq) (cb:=q1) (HO.out.1.below HBw.out) H8.out.2.2.2 HO.out.2
     have hw:IntKind.i64.wrap (cm+1)=ms:=by rw [hms,IntKind.wrap_i64];have:=HM.out;have:=HCm.out.1;omega
     subst h0
     clear HCt HFin
     go_wp2_with fail
     refine Calls.mono HSa.out ?_
     rintro e w9 ⟨⟨bb,rfl,hbi⟩,hb9⟩
     obtain rfl:bb=true:=hbi.2 (by first | rfl | trivial)
     have HB9:Hid (Below w.heap.size w w9):=HBw.out.trans (hb9.mono HBw.out.size)
     clear hb9 hbi HSa
     go_wp2_with fail
     go_ret
     exact ⟨rfl,HB9.out⟩
end Go.Proofs.YtfgpbdieaflclaaGreat.Nm.Ty
