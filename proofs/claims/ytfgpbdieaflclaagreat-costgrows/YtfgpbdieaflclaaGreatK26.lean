import Derived.Test.YtfgpbdieaflclaaGreatK25
set_option maxHeartbeats 6400000
set_option maxRecDepth 1759218604390400
namespace Go.Proofs.YtfgpbdieaflclaaGreat.Nm
open Go.RowKit Go.Maps Sp Lx Gr
def bp10:ByteArray:=⟨#[112]⟩
def hrows10:List Rz:=[⟨1,bp10,0,0,1⟩,⟨10,⟨#[]⟩,0,0,1⟩,⟨11,⟨#[]⟩,0,0,1⟩,⟨23,⟨#[]⟩,0,0,0⟩]
def hpl10:Pl:=⟨bp10,hrows10,[],[],[],[],[],2⟩
theorem isP_head:IsP hpl10.g hpl10:=⟨by kernel_rfl,rfl⟩
theorem ev_head:evR hrows10 [0,0,0,0] [] 0=.ok ⟨[],2⟩:=by kernel_rfl
theorem bres_head {r:Except (Nat × Nat) Co} (h:BRes hpl10.g [0,0,0,0] r):r=.ok ⟨[],2⟩:=by
 have k:BRes hpl10.g [0,0,0,0] (.ok ⟨[],2⟩):=Or.inr ⟨hpl10,isP_head,Or.inr ⟨rfl,by decide,ev_head.symm⟩⟩
 exact h.uniq k
abbrev hcells10:Array Value:=#[.int .i64 1,.string bp10,.int .i64 0,.int .i64 0,.int .i64 1,.int .i64 10,.string ⟨#[]⟩,.int .i64 0,.int .i64 0,.int .i64 1,.int .i64 11,.string ⟨#[]⟩,.int .i64 0,.int .i64 0,.int .i64 1,.int .i64 23,.string ⟨#[]⟩,.int .i64 0,.int .i64 0,.int .i64 0]
theorem rz_head (w:World):IsRz (w.alloc (.cells hcells10 47)) (some ⟨w.heap.size,0,none⟩) hrows10:=by
 have hb:=heap_alloc_new w (.cells hcells10 47)
 intro i x hx
 have hi:i < 4:=(List.getElem?_eq_some_iff.1 hx).1
 refine ⟨w.heap.size,0,rfl,by simp,?_⟩
 obtain rfl | rfl | rfl | rfl:i=0\/i=1\/i=2\/i=3:=by omega
 all_goals
  cases hx
  simp only [World.cell?,hb]
  exact ⟨rfl,rfl,rfl,rfl,rfl⟩
theorem sm_head10:hpl10.g.Sm:=⟨by decide,by decide,by decide,by decide,by decide,by decide⟩
theorem vals_empty (w:World) (ao:Option Addr):IsVals w ao []:=fun k x hx=>by simp at hx
theorem sum_head {W:World} {s:Nat} (hs:W.heap.size=s):Calls Tryz.prog 11 #[.slice (some ⟨s,0,none⟩) 3 3] (W.alloc (.cells #[.int .i64 3,.int .i64 (-5),.int .i64 4] 3)) fun e w'=>e=.returned (.int .i64 7)/\w'=W.alloc (.cells #[.int .i64 3,.int .i64 (-5),.int .i64 4] 3):=by
 subst hs
 exact sum_any (l:=[3,-5,4]) (c:=3) (vals_new W _ _) (show 3<=17592186043904 by decide)
theorem times_head {W:World} {s:Nat} (hs:W.heap.size=s):Calls Tryz.prog 12 #[.slice (some ⟨s,0,none⟩) 2 2] (W.alloc (.cells #[.int .i64 3,.int .i64 4] 3)) fun e w'=>e=.returned (.int .i64 12)/\w'=W.alloc (.cells #[.int .i64 3,.int .i64 4] 3):=by
 subst hs
 exact times_any (l:=[3,4]) (c:=2) (vals_new W _ _) (show 2<=17592186043904 by decide)
theorem bound_head {W:World} {g s:Nat} (h:IsRz W (some ⟨g,0,none⟩) hrows10) (hs:W.heap.size=s):Calls Tryz.prog 7 #[.agg #[.string ⟨#[112]⟩,.slice (some ⟨g,0,none⟩) 4 4,.slice none 0 0,.slice none 0 0,.slice none 0 0,.slice none 0 0,.slice none 0 0,.int .i64 2],.agg #[.slice none 0 0,.slice none 0 0,.slice (some ⟨s,0,none⟩) 4 4]] (W.alloc (.cells #[.int .i64 0,.int .i64 0,.int .i64 0,.int .i64 0] 3)) fun e w'=>∃ ob,e=.returned (.tuple #[.agg #[.slice (some ⟨ob,0,none⟩) 0 0,.int .i64 2],.agg #[.int .i64 0,.int .i64 0]])/\Below W.heap.size W w':=by
 subst hs
 have hb:Below W.heap.size W (W.alloc (.cells #[.int .i64 0,.int .i64 0,.int .i64 0,.int .i64 0] 3)):=bAl W _
 have:=cost_any (p:=hpl10.g) (rd:=[0,0,0,0]) (ao:=some ⟨g,0,none⟩) (qo:=none) (vo:=none) (tto:=none) (uo:=none) (oo:=none) (xo:=none) (yo:=none) (eo:=some ⟨W.heap.size,0,none⟩) (ac:=4) (qc:=0) (vc:=0) (tc:=0) (uc:=0) (oc:=0) (nx:=0) (cx:=0) (ny:=0) (cy:=0) (ec:=4) (w:=W.alloc (.cells #[.int .i64 0,.int .i64 0,.int .i64 0,.int .i64 0] 3)) ⟨h.below hb,vals_empty _ _,vals_empty _ _,vals_empty _ _,vals_empty _ _,vals_empty _ _⟩ sm_head10 (by decide) (fun e=>by cases e) (vals_new W _ _) (by decide)
 refine Calls.mono this ?_
 rintro e w' ⟨r,hr,hb',hm⟩
 rw [bres_head hr] at hm
 obtain ⟨ob,rfl,_⟩:=hm
 exact ⟨ob,rfl,hb.trans (hb'.mono hb.size)⟩
theorem head10 (w:World):Calls Tryz.prog 4 #[] w fun e w'=>e=.returned (.bool true)/\Below w.heap.size w w':=by
 have hb1:Below w.heap.size w (w.alloc (.cells hcells10 47)):=bAl w _
 have hb2:Below (w.alloc (.cells hcells10 47)).heap.size (w.alloc (.cells hcells10 47)) ((w.alloc (.cells hcells10 47)).alloc (.cells #[.string ⟨#[112]⟩,.slice (some ⟨w.heap.size,0,none⟩) 4 4,.slice none 0 0,.slice none 0 0,.slice none 0 0,.slice none 0 0,.slice none 0 0,.int .i64 2] 28)):=bAl _ _
 have hrz:=(rz_head w).below hb2
 have hbx:Below w.heap.size w ((w.alloc (.cells hcells10 47)).alloc (.cells #[.string ⟨#[112]⟩,.slice (some ⟨w.heap.size,0,none⟩) 4 4,.slice none 0 0,.slice none 0 0,.slice none 0 0,.slice none 0 0,.slice none 0 0,.int .i64 2] 28)):=hb1.trans (hb2.mono hb1.size)
 obtain ⟨k0,k1,k2,k3,k4,k5,k6,k7⟩:=pol8 (heap_alloc_new (w.alloc (.cells hcells10 47)) (.cells #[.string ⟨#[112]⟩,.slice (some ⟨w.heap.size,0,none⟩) 4 4,.slice none 0 0,.slice none 0 0,.slice none 0 0,.slice none 0 0,.slice none 0 0,.int .i64 2] 28))
 have HW:Hid (IsRz ((w.alloc (.cells hcells10 47)).alloc (.cells #[.string ⟨#[112]⟩,.slice (some ⟨w.heap.size,0,none⟩) 4 4,.slice none 0 0,.slice none 0 0,.slice none 0 0,.slice none 0 0,.slice none 0 0,.int .i64 2] 28)) (some ⟨w.heap.size,0,none⟩) hrows10/\Below w.heap.size w ((w.alloc (.cells hcells10 47)).alloc (.cells #[.string ⟨#[112]⟩,.slice (some ⟨w.heap.size,0,none⟩) 4 4,.slice none 0 0,.slice none 0 0,.slice none 0 0,.slice none 0 0,.slice none 0 0,.int .i64 2] 28))):=⟨hrz,hbx⟩
 clear hb1 hb2 hrz hbx
 unfold hcells10 bp10 at *
 go_enter Tryz.func4,Tryz.ntmps4
 go_wp2_with fail
 have HSz:Hid (((w.alloc (.cells #[.int .i64 1,.string ⟨#[112]⟩,.int .i64 0,.int .i64 0,.int .i64 1,.int .i64 10,.string ⟨#[]⟩,.int .i64 0,.int .i64 0,.int .i64 1,.int .i64 11,.string ⟨#[]⟩,.int .i64 0,.int .i64 0,.int .i64 1,.int .i64 23,.string ⟨#[]⟩,.int .i64 0,.int .i64 0,.int .i64 0] 47)).alloc (.cells #[.string ⟨#[112]⟩,.slice (some ⟨w.heap.size,0,none⟩) 4 4,.slice none 0 0,.slice none 0 0,.slice none 0 0,.slice none 0 0,.slice none 0 0,.int .i64 2] 28)).heap.size=w.heap.size+1+1):=by show _=_;simp
 clear k0 k1 k2 k3 k4 k5 k6 k7
 generalize ((w.alloc (.cells #[.int .i64 1,.string ⟨#[112]⟩,.int .i64 0,.int .i64 0,.int .i64 1,.int .i64 10,.string ⟨#[]⟩,.int .i64 0,.int .i64 0,.int .i64 1,.int .i64 11,.string ⟨#[]⟩,.int .i64 0,.int .i64 0,.int .i64 1,.int .i64 23,.string ⟨#[]⟩,.int .i64 0,.int .i64 0,.int .i64 0] 47)).alloc (.cells #[.string ⟨#[112]⟩,.slice (some ⟨w.heap.size,0,none⟩) 4 4,.slice none 0 0,.slice none 0 0,.slice none 0 0,.slice none 0 0,.slice none 0 0,.int .i64 2] 28))=W2 at *
 have HC:=hdn <| bound_head HW.out.1 HSz.out
 refine Calls.mono HC.out ?_
 rintro e w3 ⟨ob,rfl,hb3⟩
 have HB3:Hid (Below w.heap.size w w3):=HW.out.2.trans (hb3.mono HW.out.2.size)
 clear hb3 HC HSz HW
 have hx1:((w3.alloc (.cells #[.slice (some ⟨ob,0,none⟩) 0 0,.int .i64 2] 36)).alloc (.cells #[.int .i64 0,.int .i64 0] 31)).heap[w3.heap.size]?=some (.cells #[.slice (some ⟨ob,0,none⟩) 0 0,.int .i64 2] 36 (0,0)):=by rw [alloc_old _ _ _ (by simp)];exact alloc_at _ _ _ rfl
 have hx2:((w3.alloc (.cells #[.slice (some ⟨ob,0,none⟩) 0 0,.int .i64 2] 36)).alloc (.cells #[.int .i64 0,.int .i64 0] 31)).heap[w3.heap.size+1]?=some (.cells #[.int .i64 0,.int .i64 0] 31 (0,0)):=alloc_at _ _ _ (by simp)
 have HB4:Hid (Below w.heap.size w ((w3.alloc (.cells #[.slice (some ⟨ob,0,none⟩) 0 0,.int .i64 2] 36)).alloc (.cells #[.int .i64 0,.int .i64 0] 31))):=(HB3.out.alloc HB3.out.size _).alloc (by have:=HB3.out.size;simp;omega) _
 obtain ⟨r0,r1,_⟩:=read2 hx1
 obtain ⟨s0,s1,_⟩:=read2 hx2
 clear hx1 hx2
 have HSz:Hid (((w3.alloc (.cells #[.slice (some ⟨ob,0,none⟩) 0 0,.int .i64 2] 36)).alloc (.cells #[.int .i64 0,.int .i64 0] 31)).heap.size=w3.heap.size+1+1):=by show _=_;simp
 go_wp2_with fail
 clear r0 r1 s0 s1
 generalize ((w3.alloc (.cells #[.slice (some ⟨ob,0,none⟩) 0 0,.int .i64 2] 36)).alloc (.cells #[.int .i64 0,.int .i64 0] 31))=w4 at *
 have HSm:=hdn <| sum_head HSz.out
 have HB5:Hid (Below w.heap.size w (w4.alloc (.cells #[.int .i64 3,.int .i64 (-5),.int .i64 4] 3))):=HB4.out.alloc HB4.out.size _
 refine Calls.mono HSm.out ?_
 rintro e w5 ⟨rfl,rfl⟩
 clear HSm HB4 HB3 HSz
 generalize w4.alloc (.cells #[.int .i64 3,.int .i64 (-5),.int .i64 4] 3)=w5 at *
 have HSm:=hdn <| times_head (W:=w5) rfl
 have HB6:Hid (Below w.heap.size w (w5.alloc (.cells #[.int .i64 3,.int .i64 4] 3))):=HB5.out.alloc HB5.out.size _
 go_wp2_with fail
 refine Calls.mono HSm.out ?_
 rintro e w6 ⟨rfl,rfl⟩
 go_wp2
 go_ret
 exact ⟨rfl,HB6.out⟩
theorem lendJ_any {w:World} {ao:Option Addr} {l:List Int} {c:Nat} (h:IsVals w ao (iv l)) (hn:l.length<=17592186043904) (hnil:ao=none->c=0):
  Calls Tryz.prog 29 #[.slice ao l.length c] w fun e w'=>∃ g cap,e=.returned (.slice (some ⟨g,0,none⟩) l.length cap)/\w'.ownsRow w.heap.size 3 1 (.slice (some ⟨g,0,none⟩) (l.length+1) cap) (l.length+1) (iv l++[.int .i64 (-77)])/\Below w.heap.size w w':=by
 obtain ⟨i0,hi,hz0,hz1,hz2⟩:=info_parts infoI
 obtain ⟨M,hmk,hM⟩:=mk_capJ Tryz.underlying23 hi hz0 hz1 hz2 l.length (by omega) (by omega)
 have hb1:Below w.heap.size w (w.alloc (.cells M 3)):=bAl w _
 have HO:Hid ((w.alloc (.cells M 3)).ownsRow w.heap.size 3 1 (.slice (some ⟨w.heap.size,0,none⟩) 0 (l.length+3)) 0 []):=own_madeJ hM (Nat.le_refl _) (by omega)
 have HB1:=hdn <| hb1
 have HV:=hdn <| h.below hb1
 have HN:Hid (l.length<=17592186043904/\(ao=none->l.length=0/\c=0)/\(iv l).length=l.length * 1):=⟨hn,fun e=>⟨vals_nil (m:=l.length) (sz:=1) h (by simp) (by decide) e,hnil e⟩,by simp⟩
 have hln:(l.length:Int)<=17592186043904:=by omega
 clear h hn hnil hb1 hM
 go_enter Tryz.func29,Tryz.ntmps29
 go_wp2_with (at_builtin;refine wpl_app _ rfl _ _ 23 rfl w.heap.size 3 i0 (.int .i64 0) 1 8 Tryz.underlying23 hi hz0 hz1 hz2 rfl (by decide) (.slice (some ⟨w.heap.size,0,none⟩) 0 (l.length+3)) 0 [] rfl HO.out ao l.length c (iv l) rfl HN.out.2.2 HN.out.2.1 (vals_src HV.out) (iv_one l) ?c3 ?c4 HB1.out.size ?_)
 case c3=>have:=HN.out.1;unfold maxLen;omega
 case c4=>have:=HN.out.1;omega
 intro v1 w2 ho1 hg1 _
 have hb2:Below w.heap.size w w2:=HB1.out.grown hg1 HB1.out.size (fun q e=>by cases e;exact Nat.le_refl _)
 have hb3:Below w2.heap.size w2 (w2.alloc (.cells #[.int .i64 (-77)] 3)):=bAl w2 _
 have HO2:Hid ((w2.alloc (.cells #[.int .i64 (-77)] 3)).ownsRow w.heap.size 3 1 v1 l.length (iv l)/\Below w.heap.size w (w2.alloc (.cells #[.int .i64 (-77)] 3))):=⟨own_below ho1 hb3,hb2.trans (hb3.mono hb2.size)⟩
 clear ho1 hg1 hb2 hb3 HO HV
 go_wp2_with (at_builtin;refine wpl_app _ rfl _ _ 23 rfl w.heap.size 3 i0 (.int .i64 0) 1 8 Tryz.underlying23 hi hz0 hz1 hz2 rfl (by decide) v1 l.length (iv l) rfl HO2.out.1 (some ⟨w2.heap.size,0,none⟩) 1 1 [.int .i64 (-77)] rfl rfl (fun e=>by cases e) (fun ad e=>by cases e;exact cell_one w2 _ _) (by intro u hu;simp only [List.mem_cons,List.not_mem_nil,or_false] at hu;subst hu;rfl) ?c3 ?c4 HO2.out.2.size ?_)
 case c3=>have:=HN.out.1;unfold maxLen;omega
 case c4=>have:=HN.out.1;omega
 intro v2 w4 ho2 hg2 _
 have H4:Hid (w4.ownsRow w.heap.size 3 1 v2 (l.length+1) (iv l++[.int .i64 (-77)])/\Below w.heap.size w w4):=⟨ho2,HO2.out.2.grown hg2 HO2.out.2.size (fun q e=>(World.ownsRow.lt HO2.out.1 q e).1)⟩
 obtain ⟨g,cap,rfl,hcap,hcm⟩:=own_some ho2 (Nat.succ_pos _)
 have hc1:(l.length:Int)<=(cap:Int):=by omega
 have hc2:(l.length:Int)+1<=(cap:Int):=by omega
 have hc3:l.length<=cap:=by omega
 have hc4:(cap:Int)<=9223372036854775807:=by unfold maxLen at hcm;omega
 clear ho2 hg2 HO2 hcm
 go_wp2_with fail
 go_ret
 exact ⟨g,cap,rfl,H4.out.1,H4.out.2⟩
theorem lendI_any {w:World} {ao:Option Addr} {l:List Int} {c:Nat} (h:IsVals w ao (iv l)) (hn:l.length<=1000) (hnil:ao=none->c=0):
  Calls Tryz.prog 29 #[.slice ao l.length c] w fun e w'=>∃ g cap,e=.returned (.slice (some ⟨g,0,none⟩) l.length cap)/\w'.ownsRow w.heap.size 3 1 (.slice (some ⟨g,0,none⟩) (l.length+1) cap) (l.length+1) (iv l++[.int .i64 (-77)])/\Below w.heap.size w w':=lendJ_any h (by omega) hnil
end Go.Proofs.YtfgpbdieaflclaaGreat.Nm
