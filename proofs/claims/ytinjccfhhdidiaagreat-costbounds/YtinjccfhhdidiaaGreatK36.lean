import Derived.Test.YtinjccfhhdidiaaGreatK35
import Derived.Deep.DeepCutAuto
set_option maxHeartbeats 25600000
set_option maxRecDepth 100000
namespace Go.Proofs.YtinjccfhhdidiaaGreat.Gr
open Go.RowKit Sp Lx
theorem cell_op (w:World) (o:Op3):(w.alloc (.cells #[.int .i64 o.kind,.int .i64 o.left,.int .i64 o.next] 109)).cell? ⟨w.heap.size,0,none⟩=some (.int .i64 o.kind)/\(w.alloc (.cells #[.int .i64 o.kind,.int .i64 o.left,.int .i64 o.next] 109)).cell? ⟨w.heap.size,2,none⟩=some (.int .i64 o.next):=by
 constructor
 ·rw [World.cell?,heap_alloc_new];simp
 ·rw [World.cell?,heap_alloc_new];simp
theorem shp_stop {t:List Op3} {ev:Bool} {i:Nat} {r:Rz} {l:List Rz} (h:(stands r.kind (whatOf t) && filled r)=false):shp t ev i (r :: l)=i:=by
 simp only [shp];rw [h];simp
theorem shp_decl {t:List Op3} {ev:Bool} {i:Nat} {r:Rz} {l:List Rz} (h:(stands r.kind (whatOf t) && filled r)=true) (hd:(whatOf t == 1 && (ev && isDecl r.kind))=true):shp t ev i (r :: l)=i:=by
 simp only [shp];rw [h,hd];simp
theorem shp_step {t:List Op3} {ev:Bool} {i:Nat} {r:Rz} {l:List Rz} (h:(stands r.kind (whatOf t) && filled r)=true) (hd:(whatOf t == 1 && (ev && isDecl r.kind))=false):
  shp t ev i (r :: l)=if (rpop (⟨r.kind,r.kids,0⟩ :: rtake t)).isEmpty then (if l.isEmpty then -1 else ((i+1:Nat):Int)) else shp (rpop (⟨r.kind,r.kids,0⟩ :: rtake t)) (if whatOf t == 1 then ev || isEvent r.kind else ev) (i+1) l:=by
 rw [shp,h,hd]
 simp only [Bool.not_true,Bool.false_eq_true,if_false]
abbrev ShpI (w:World) (l:List Rz) (k:Nat) (v:Value) (t:List Op3) (ev:Bool) (wr:World):Prop:=
 k<=l.length/\OwnO wr w.heap.size v t/\Below w.heap.size w wr/\t.length<=k/\OkO k t/\(∀ o r,t=o :: r->o.left ≠ 0)/\((t=[]/\0 < k/\shp [] false 0 l=-1)\/((k=0\/t ≠ [])/\shp t ev k (l.drop k)=shp [] false 0 l))
theorem shape_any (ao:Option Addr) (l:List Rz) (cap:Nat) (w:World) (h:IsRz w ao l) (hn:l.length<=2932031007317) (hkd:∀ r ∈ l,r.kids<=9223372036854775807/\r.name.size<=4611686018427387000):
  Calls Tryz.prog 56 #[.slice ao l.length cap] w fun e w'=>e=.returned (.int .i64 (shp [] false 0 l))/\Below w.heap.size w w':=by
 obtain ⟨i0,hi,hz0,hz1,hz2⟩:=info_parts info109
 have HIn:=show Hid _ from And.intro hi (And.intro hz0 (And.intro hz1 hz2))
 have HI:Hid (IsRz w ao l):=h
 have HN:Hid (l.length<=2932031007317):=hn
 have HKd:Hid (∀ r ∈ l,r.kids<=9223372036854775807/\r.name.size<=4611686018427387000):=hkd
 have hln:(l.length:Int)<=2932031007317:=by omega
 clear h hn hkd hi hz0 hz1 hz2
 go_enter Tryz.func56,Tryz.ntmps56
 go_wp2_with fail
 go_loopg [3,4,5] (l.length+1) (fun gq x e i wr=>∃ (k:Nat) (v:Value) (t:List Op3) (ev:Bool),v=x/\e=.bool ev/\i=.int .i64 k/\gq=l.length+1 - k/\ShpI w l k v t ev wr)
 case atStart=>exact ⟨0,_,[],false,rfl,rfl,rfl,rfl,Nat.zero_le _,World.ownsRow_nil _ _ _ _,Below.refl _ _,Nat.le_refl _,fun _ h=>(by cases h),fun _ _ h=>(by cases h),Or.inr ⟨Or.inl rfl,rfl⟩⟩
 case round=>
  obtain ⟨k,v,t,ev,rfl,rfl,rfl,hgk,hk,hOw,hBr,htl,hok,hhd,hst⟩:=hrel
  have HG:Hid (gk=l.length+1 - k):=hgk
  have HOr:Hid (OwnO wr w.heap.size v t):=hOw
  have HBr:Hid (Below w.heap.size w wr):=hBr
  have HTL:Hid (t.length<=k/\OkO k t/\k<=l.length/\l.length<=2932031007317):=⟨htl,hok,hk,HN.out⟩
  have HHd:Hid (∀ o r,t=o :: r->o.left ≠ 0):=hhd
  have hkl:(k:Int)<=2932031007317:=by omega
  have htl':(t.length:Int)<=2932031007317:=by omega
  clear hgk hOw hBr htl hok hk hhd
  rcases hst with ⟨rfl,hk0,hfin⟩ | ⟨hkt,hsh⟩
  ·have HF:Hid (shp [] false 0 l=-1):=hfin
   have hk0':((k:Int) == 0)=false:=by simp;omega
   obtain ⟨bo,bc,rfl⟩:=own_form HOr.out
   simp only [List.length_nil] at *
   clear hfin hk0
   go_wp2_with fail
   go_ret
   exact ⟨by rw [HF.out];rfl,HBr.out⟩
  ·have HSh:Hid (shp t ev k (l.drop k)=shp [] false 0 l):=hsh
   obtain ⟨bo,bc,rfl⟩:=own_form HOr.out
   clear hsh
   go_upto_region 4 with fail
   go_cut [14] (fun c wx=>c=.bool true/\wx=wr)
   case first=>
    cases hkb:((k:Int) == 0)
    ·have htp:0 < t.length:=by
      rcases hkt with h1 | h1
      ·subst h1;simp at hkb
      ·exact List.length_pos_iff.2 h1
     go_wp2_with fail
     go_meet
     exact ⟨rfl,rfl⟩
    ·go_wp2_with fail
     go_meet
     exact ⟨rfl,rfl⟩
   case rest=>
    obtain ⟨rfl,hwc⟩:=hcut
    subst hwc
    clear hkt
    go_upto_if 19 with fail
    go_cut [6] (fun c wx=>c=.int .i64 (whatOf t)/\OwnO wx w.heap.size (.slice bo t.length bc) (rtake t)/\Below w.heap.size w wx)
    case first=>
     cases t with
     | nil=>
      simp only [List.length_nil] at *
      go_wp2_with fail
      go_meet
      exact ⟨rfl,HOr.out,HBr.out⟩
     | cons o t=>
      obtain ⟨g,cap2,hv,hbg,hg,hcp,hf,hWc⟩:=own_otop HOr.out
      cases hv
      have hon:=HTL.out.2.1 o (List.mem_cons_self ..)
      have hol:=HHd.out o t rfl
      have hw1:IntKind.i64.wrap (o.left - 1)=o.left - 1:=by rw [IntKind.wrap_i64];omega
      have hw2:wrap64 (o.left - 1)=o.left - 1:=by unfold wrap64;omega
      have ho2:(o.next:Int)<=2932031007317:=by omega
      have hb1:Below wc.heap.size wc (wc.alloc (.cells #[.int .i64 o.kind,.int .i64 o.left,.int .i64 o.next] 109)):=(Below.refl _ wc).alloc (Nat.le_refl _) _
      obtain ⟨c0,c1,c2⟩:=hWc wc rfl
      obtain ⟨d0,d1,d2⟩:=hWc (wc.alloc (.cells #[.int .i64 o.kind,.int .i64 o.left,.int .i64 o.next] 109)) (hb1.block g hg)
      have f1:∀ j,(wc.alloc (.cells #[.int .i64 o.kind,.int .i64 o.left,.int .i64 o.next] 109)).frozen? ⟨g,j,none⟩=false:=fun j=>(World.frozen?_of_block (a:=⟨g,j,none⟩) (hb1.block g hg)).trans (hf j)
      obtain ⟨n0,n2⟩:=cell_op wc o
      obtain ⟨ht1,ht2,ht3,ht4⟩:=own_take HOr.out
      have hz1:(wc.setCell ⟨g,t.length * 3+2,none⟩ (.int .i64 ((o.next:Int)+1))).heap.size=wc.heap.size:=by simp
      have hz2:((wc.setCell ⟨g,t.length * 3+2,none⟩ (.int .i64 ((o.next:Int)+1))).setCell ⟨g,t.length * 3+1,none⟩ (.int .i64 (o.left - 1))).heap.size=wc.heap.size:=by simp
      have f2:∀ j,((wc.setCell ⟨g,t.length * 3+2,none⟩ (.int .i64 ((o.next:Int)+1))).alloc (.cells #[.int .i64 o.kind,.int .i64 o.left,.int .i64 o.next] 109)).frozen? ⟨g,j,none⟩=false:=fun j=>
       (World.frozen?_of_block (a:=⟨g,j,none⟩) (Below.heap_alloc _ _ _ (by rw [hz1];exact hg))).trans (ht3 j)
      have d1':((wc.setCell ⟨g,t.length * 3+2,none⟩ (.int .i64 ((o.next:Int)+1))).alloc (.cells #[.int .i64 o.kind,.int .i64 o.left,.int .i64 o.next] 109)).cell? ⟨g,t.length * 3+1,none⟩=some (.int .i64 o.left):=
       (World.cell?_of_block (a:=⟨g,t.length * 3+1,none⟩) (Below.heap_alloc _ _ _ (by rw [hz1];exact hg))).trans ht4
      have HE:Hid (OwnO (((wc.setCell ⟨g,t.length * 3+2,none⟩ (.int .i64 ((o.next:Int)+1))).setCell ⟨g,t.length * 3+1,none⟩ (.int .i64 (o.left - 1))).alloc (.cells #[.int .i64 o.kind,.int .i64 o.left,.int .i64 o.next] 109)) w.heap.size (.slice (some ⟨g,0,none⟩) (t.length+1) bc) (rtake (o :: t)) /\
       Below w.heap.size w (((wc.setCell ⟨g,t.length * 3+2,none⟩ (.int .i64 ((o.next:Int)+1))).setCell ⟨g,t.length * 3+1,none⟩ (.int .i64 (o.left - 1))).alloc (.cells #[.int .i64 o.kind,.int .i64 o.left,.int .i64 o.next] 109))):=by
       have hb2:Below wc.heap.size ((wc.setCell ⟨g,t.length * 3+2,none⟩ (.int .i64 ((o.next:Int)+1))).setCell ⟨g,t.length * 3+1,none⟩ (.int .i64 (o.left - 1))) (((wc.setCell ⟨g,t.length * 3+2,none⟩ (.int .i64 ((o.next:Int)+1))).setCell ⟨g,t.length * 3+1,none⟩ (.int .i64 (o.left - 1))).alloc (.cells #[.int .i64 o.kind,.int .i64 o.left,.int .i64 o.next] 109)):=(Below.refl _ _).alloc (by rw [hz2];exact Nat.le_refl _) _
       have hb3:=hb2
       rw [<-hz2] at hb3
       exact ⟨own_below ht1 hb3,HBr.out.trans ((ht2.below hb3).low (fun j hj=>(World.ownsRow.lt HOr.out j hj).1) HBr.out.size)⟩
      have HKw:Hid (∀ w,Calls Tryz.prog 73 #[.int .i64 o.kind,.int .i64 o.next] w fun e w'=>e=.returned (.int .i64 (kidw o.kind o.next))/\w'=w):=fun w=>kidw_any o.kind o.next w
      have HWo:Hid (whatOf (o :: t)=kidw o.kind o.next):=rfl
      have htl3:(t.length:Int)<=2932031007317:=by simp only [List.length_cons] at htl';omega
      simp only [List.length_cons] at *
      clear hWc hf hb1 ht1 ht2 ht3 ht4 hz1 hz2 hon hol
      clear htl' hcp hbg
      go_wp2_with (go_at_call 73;refine (HKw.out _).mono ?_;rintro e w' ⟨rfl,rfl⟩)
      go_meet
      exact ⟨by rw [HWo.out],HE.out⟩
    case rest=>
     obtain ⟨rfl,hO1,hB1⟩:=hcut
     have HO1:Hid (OwnO wc w.heap.size (.slice bo t.length bc) (rtake t)):=hO1
     have HB1:Hid (Below w.heap.size w wc):=hB1
     clear hO1 hB1
     by_cases hlt:k < l.length
     ·have hlt':(k:Int) < (l.length:Int):=by omega
      obtain ⟨r,g,o,hdr,hlk,rfl,hg,c0,c1,c2,c3,c4⟩:=rows_at (HI.out.below HB1.out) hlt
      have HDr:Hid (l.drop k=r :: l.drop (k+1)):=hdr
      have hrm:r ∈ l:=List.mem_of_getElem? hlk
      have HR:Hid (Calls Tryz.prog 74 #[.agg #[.int .i64 r.kind,.string r.name,.int .i64 r.stop,.int .i64 r.n,.int .i64 r.kids],.int .i64 (whatOf t)] wc fun e w'=>e=.returned (.bool (stands r.kind (whatOf t) && filled r))/\Below wc.heap.size wc w'):=right_any r (whatOf t) wc (HKd.out r hrm).1 (HKd.out r hrm).2
      have HRk:Hid (r.kids<=9223372036854775807):=(HKd.out r hrm).1
      clear hdr hlk hrm
      go_wp2_with fail
      refine HR.out.mono ?_
      rintro e w5 ⟨rfl,hB5⟩
      have HB5:Hid (Below w.heap.size w w5):=HB1.out.trans (hB5.mono HB1.out.size)
      have HO5:Hid (OwnO w5 w.heap.size (.slice bo t.length bc) (rtake t)):=own_below HO1.out hB5
      have d0:w5.cell? ⟨g,o+k * 5,none⟩=some (.int .i64 r.kind):=(hB5.cell (p:=⟨g,o+k * 5,none⟩) hg).trans c0
      have d4:w5.cell? ⟨g,o+k * 5+4,none⟩=some (.int .i64 r.kids):=(hB5.cell (p:=⟨g,o+k * 5+4,none⟩) hg).trans c4
      clear hB5 c0 c1 c2 c3 c4 HR
      cases hs:(stands r.kind (whatOf t) && filled r)
      ·have HE:Hid (shp [] false 0 l=(k:Int)):=by show _=_;rw [<-HSh.out,HDr.out,shp_stop hs]
       clear hs
       go_wp2_with fail
       go_ret
       exact ⟨by rw [HE.out];rfl,HB5.out⟩
      ·have HD1:Hid (∀ w,Calls Tryz.prog 75 #[.int .i64 r.kind] w fun e w'=>e=.returned (.bool (isDecl r.kind))/\w'=w):=fun w=>refIsDecl_any r.kind w
       have HD2:Hid (∀ w,Calls Tryz.prog 76 #[.int .i64 r.kind] w fun e w'=>e=.returned (.bool (isEvent r.kind))/\w'=w):=fun w=>refIsEvent_any r.kind w
       cases hd:(whatOf t == 1 && (ev && isDecl r.kind))
       ·have HStep:Hid (shp [] false 0 l=if (rpop (⟨r.kind,r.kids,0⟩ :: rtake t)).isEmpty then (if (l.drop (k+1)).isEmpty then -1 else ((k+1:Nat):Int)) else shp (rpop (⟨r.kind,r.kids,0⟩ :: rtake t)) (if whatOf t == 1 then ev || isEvent r.kind else ev) (k+1) (l.drop (k+1))):=by
         show _=_
         rw [<-HSh.out,HDr.out,shp_step hs hd]
        have HOk:Hid (OkO (k+1) (rpop (⟨r.kind,r.kids,0⟩ :: rtake t))/\(rpop (⟨r.kind,r.kids,0⟩ :: rtake t)).length<=k+1):=by
         rw [Bool.and_eq_true] at hs
         refine ⟨ok_pop fun x hx=>?_,?_⟩
         ·rcases List.mem_cons.1 hx with rfl | hx
          ·exact ⟨filled_kids hs.2,HRk.out,Nat.zero_le _⟩
          ·exact ok_take HTL.out.2.1 HHd.out x hx
         ·have h1:=rpop_len (⟨r.kind,r.kids,0⟩ :: rtake t)
          have h2:=rtake_len t
          have h3:=HTL.out.1
          simp only [List.length_cons] at h1
          omega
        clear hs
        generalize hev:(if whatOf t == 1 then ev || isEvent r.kind else ev)=ev2 at *
        go_upto_if 66 with fail
        go_cut [4] (fun c wx=>c=.bool ev2/\wx=w5)
        case first=>
         cases hw:(whatOf t == 1)
         ·rw [hw] at hev
          go_wp2_with fail
          go_meet
          exact ⟨by rw [<-hev];rfl,rfl⟩
         ·rw [hw] at hev hd
          cases ev
          ·go_wp2_with (go_at_call 76;refine (HD2.out _).mono ?_;rintro e w' ⟨rfl,rfl⟩)
           go_meet
           exact ⟨by rw [<-hev];rfl,rfl⟩
          ·have hdd:isDecl r.kind=false:=by simpa using hd
           rw [hdd] at HD1
           clear hd hdd
           go_wp2_with (go_at_call 75;refine (HD1.out _).mono ?_;rintro e w' ⟨rfl,rfl⟩)
           go_meet
           exact ⟨by rw [<-hev];rfl,rfl⟩
        case rest=>
         obtain ⟨rfl,hwc5⟩:=hcut
         subst hwc5
         clear hev hd
         go_upto_region 18 with fail
         go_cut [3] (fun x wx=>∃ v',v'=x/\OwnO wx w.heap.size v' (⟨r.kind,r.kids,0⟩ :: rtake t)/\Below w.heap.size w wx)
         case first=>
          obtain ⟨hi,hz0,hz1,hz2⟩:=HIn.out
          have hbA:Below wc.heap.size wc ((wc.alloc (.cells #[.int .i64 r.kind,.int .i64 r.kids,.int .i64 0] 109)).drew):=((Below.refl _ wc).alloc (Nat.le_refl _) _).drew
          have HO6:Hid (OwnO ((wc.alloc (.cells #[.int .i64 r.kind,.int .i64 r.kids,.int .i64 0] 109)).drew) w.heap.size (.slice bo t.length bc) (rtake t)):=own_below HO5.out hbA
          have HB6:Hid (Below w.heap.size w ((wc.alloc (.cells #[.int .i64 r.kind,.int .i64 r.kids,.int .i64 0] 109)).drew)):=HB5.out.trans (hbA.mono HB5.out.size)
          have HTl2:Hid ((rtake t).length=t.length/\t.length<=2932031007317):=⟨rtake_len t,by have:=HTL.out;omega⟩
          have HCl:Hid (∀ j u,(oc ⟨r.kind,r.kids,0⟩)[j]?=some u->((wc.alloc (.cells #[.int .i64 r.kind,.int .i64 r.kids,.int .i64 0] 109)).drew).cell? ((⟨wc.heap.size,0,none⟩:Addr).add j)=some u):=fun j u hu=>cell_three wc _ _ _ _ j u hu
          clear hbA
          go_region_law (first
           | (refine step_gone _ rfl (.tmp 86) (.tmp 98) 107 rfl w.heap.size 109 i0 (.agg #[.int .i64 0,.int .i64 0,.int .i64 0]) 3 24 Tryz.underlying107 hi hz0 hz1 hz2 rfl (by decide) (.slice bo t.length bc) (rtake t).length (tox (rtake t)) (by simp [Act.eval]) HO6.out ⟨wc.heap.size,0,none⟩ 1 1 (oc ⟨r.kind,r.kids,0⟩) (by simp [Act.eval]) rfl HCl.out (by intro u hu;simp only [oc,List.mem_cons,List.not_mem_nil,or_false] at hu;rcases hu with rfl | rfl | rfl<;>rfl) (by have:=HTl2.out;unfold maxLen;omega) (by have:=HTl2.out;omega) HB6.out.size (by decide) ?_
              intro v3 w3 ho hG
              have HP4:Hid (OwnO w3 w.heap.size v3 (⟨r.kind,r.kids,0⟩ :: rtake t)/\Below w.heap.size w w3):=⟨own_opush ho,HB6.out.trans ((Went.gone hG).low (fun j hj=>(World.ownsRow.lt HO6.out j hj).1) HB6.out.size)⟩
              obtain ⟨po,pc,rfl⟩:=own_form ho
              clear ho hG))
          all_goals clear hi hz0 hz1 hz2
          all_goals go_wp2_with fail
          all_goals go_meet
          all_goals exact ⟨_,rfl,HP4.out⟩
         case rest=>
          obtain ⟨v8,rfl,hO8,hB8⟩:=hcut
          have HO8:Hid (OwnO wc w.heap.size v8 (⟨r.kind,r.kids,0⟩ :: rtake t)/\Below w.heap.size w wc):=⟨hO8,hB8⟩
          have HL8:Hid (t.length+1<=2932031007318/\(rtake t).length=t.length):=⟨by have:=HTL.out;omega,rtake_len t⟩
          obtain ⟨bo8,bc8,rfl⟩:=own_form hO8
          clear hO8 hB8 d0 d4
          go_wp2_with fail
          go_loopg [3] (t.length+1) (fun gq x wr=>∃ (tt:List Op3) (v:Value),v=x/\gq=tt.length/\OwnO wr w.heap.size v tt/\Below w.heap.size w wr/\rpop tt=rpop (⟨r.kind,r.kids,0⟩ :: rtake t)/\tt.length<=2932031007318)
          case atStart=>exact ⟨⟨r.kind,r.kids,0⟩ :: rtake t,_,rfl,by rw [List.length_cons,HL8.out.2],HO8.out.1,HO8.out.2,rfl,by rw [List.length_cons,HL8.out.2];exact HL8.out.1⟩
          case round=>
           obtain ⟨tt,v,rfl,hgk,hOt,hBt,hpt,htt⟩:=hrel
           have HG2:Hid (gk=tt.length):=hgk
           have HOt:Hid (OwnO wr w.heap.size v tt):=hOt
           have HBt:Hid (Below w.heap.size w wr):=hBt
           clear hgk hOt hBt
           cases tt with
           | nil=>
            have hpe:rpop (⟨r.kind,r.kids,0⟩ :: rtake t)=[]:=hpt.symm
            obtain ⟨bo9,bc9,rfl⟩:=own_form HOt.out
            simp only [List.length_nil] at *
            by_cases hk1:k+1 < l.length
            ·have hk1':(k:Int)+1 < (l.length:Int):=by omega
             have HE:Hid (shp [] false 0 l=((k+1:Nat):Int)):=by
              show _=_
              rw [HStep.out,hpe]
              have:(l.drop (k+1)).isEmpty=false:=by
               cases hx:l.drop (k+1) with
               | nil=>have:=congrArg List.length hx;rw [List.length_drop] at this;simp only [List.length_nil] at this;omega
               | cons=>rfl
              rw [this]
              rfl
             clear hpt hpe hk1 htt
             go_wp2_with fail
             go_ret
             exact ⟨by rw [HE.out];go_num,HBt.out⟩
            ·have hk1':¬ ((k:Int)+1 < (l.length:Int)):=by omega
             have HE:Hid (shp [] false 0 l=-1):=by
              show _=_
              rw [HStep.out,hpe,List.drop_eq_nil_of_le (by omega)]
              rfl
             clear hpt hpe hk1 htt
             go_wp2_with fail
             go_roundg (l.length+1 - (k+1))
             case measure=>have:=HG.out;have:=HTL.out;omega
             case rel=>exact ⟨k+1,_,[],_,rfl,rfl,by go_num,rfl,by have:=HTL.out;omega,HOt.out,HBt.out,Nat.zero_le _,fun _ h=>(by cases h),fun _ _ h=>(by cases h),Or.inl ⟨rfl,Nat.succ_pos _,HE.out⟩⟩
           | cons o5 t5=>
            obtain ⟨g5,cap5,rfl,_,hg5,hcp5,_,hW5⟩:=own_otop HOt.out
            obtain ⟨_,e1,_⟩:=hW5 wr rfl
            have ht5:(t5.length:Int)<=2932031007318:=by simp only [List.length_cons] at htt;omega
            have hcp5':(t5.length:Int)+1<=(cap5:Int):=by omega
            simp only [List.length_cons] at HG2 ⊢
            clear hW5 hcp5 htt
            by_cases hz5:o5.left=0
            ·have HP5:Hid (rpop t5=rpop (⟨r.kind,r.kids,0⟩ :: rtake t)):=by show _=_;rw [<-hpt];simp only [rpop];rw [if_pos hz5]
             rw [hz5] at e1
             clear hpt hz5
             go_wp2_with fail
             go_roundg t5.length
             case measure=>have:=HG2.out;omega
             case rel=>exact ⟨t5,_,rfl,rfl,own_opop HOt.out,HBt.out,HP5.out,by omega⟩
            ·have hz5':(o5.left == 0)=false:=by simp [hz5]
             have HP5:Hid (rpop (⟨r.kind,r.kids,0⟩ :: rtake t)=o5 :: t5):=by show _=_;rw [<-hpt];simp only [rpop];rw [if_neg hz5]
             clear hpt hz5
             go_wp2_with fail
             go_roundg (l.length+1 - (k+1))
             case measure=>have:=HG.out;have:=HTL.out;omega
             case rel=>
              have q1:=HOk.out
              have q2:=rpop_hd (⟨r.kind,r.kids,0⟩ :: rtake t)
              have q3:=HStep.out
              rw [HP5.out] at q1 q2 q3
              exact ⟨k+1,_,o5 :: t5,_,rfl,rfl,by go_num,rfl,by have:=HTL.out;omega,HOt.out,HBt.out,q1.2,q1.1,q2,Or.inr ⟨Or.inr (by simp),q3.symm⟩⟩
       ·have hd':=hd
        rw [Bool.and_eq_true,Bool.and_eq_true] at hd'
        have HE:Hid (shp [] false 0 l=(k:Int)):=by show _=_;rw [<-HSh.out,HDr.out,shp_decl hs hd]
        have hw:=hd'.1
        have hev:=hd'.2.1
        have hdd:=hd'.2.2
        rw [hdd] at HD1
        subst hev
        clear hs hd hd' hdd
        go_wp2_with (go_at_call 75;refine (HD1.out _).mono ?_;rintro e w' ⟨rfl,rfl⟩)
        go_ret
        exact ⟨by rw [HE.out];rfl,HB5.out⟩
     ·have hlt':¬ ((k:Int) < (l.length:Int)):=by omega
      have hle:(l.length:Int)<=(k:Int):=by omega
      have HE:Hid (shp [] false 0 l=(k:Int)):=by
       show _=_
       rw [<-HSh.out,List.drop_eq_nil_of_le (by omega)]
       simp only [shp]
      clear hlt
      go_wp2_with fail
      go_ret
      exact ⟨by rw [HE.out];rfl,HB1.out⟩
theorem refCheck_any (ao:Option Addr) (l:List Rz) (cap:Nat) (w:World) (h:IsRz w ao l) (hn:l.length<=2932031007317) (hkd:∀ r ∈ l,r.kids<=9223372036854775807/\r.name.size<=4611686018427387000):
  Calls Tryz.prog 37 #[.slice ao l.length cap] w fun e w'=>e=.returned (.agg #[.int .i64 ((chk l).1:Nat),.int .i64 ((chk l).2:Nat)])/\Below w.heap.size w w':=by
 have hb1:Below w.heap.size w (w.alloc (.cells #[.int .i64 0,.int .i64 0] 39)):=(Below.refl _ w).alloc (Nat.le_refl _) _
 have HF:=show Hid (Calls Tryz.prog 56 #[.slice ao l.length cap] (w.alloc (.cells #[.int .i64 0,.int .i64 0] 39)) fun e w'=>e=.returned (.int .i64 (shp [] false 0 l))/\Below (w.alloc (.cells #[.int .i64 0,.int .i64 0] 39)).heap.size (w.alloc (.cells #[.int .i64 0,.int .i64 0] 39)) w') from
  shape_any ao l cap _ (h.below hb1) hn hkd
 have HL:Hid ((wrong [ab1] 0 l).2=false->∀ W,Below w.heap.size w W->Calls Tryz.prog 57 #[.slice ao l.length cap] W fun e w'=>e=.returned (.int .i64 (mx opn loose l l.length))/\Below W.heap.size W w'):=fun hf W hW=>
  refLevels_any ao l cap W (h.below hW) hn (tree_of hf).1 (tree_of hf).2
 have HC:Hid (chk l=if (wrong [ab1] 0 l).2 then (23,(wrong [ab1] 0 l).1) else if 64 < mx opn loose l l.length then (22,0) else (0,0)):=rfl
 have HB1:Hid (Below w.heap.size w (w.alloc (.cells #[.int .i64 0,.int .i64 0] 39))):=hb1
 have hsame:=shp_wrong0 l
 clear h hn hb1 hkd
 generalize chk l=C at *
 generalize wrong [ab1] 0 l=F at *
 generalize shp [] false 0 l=S at *
 generalize mx opn loose l l.length=X at *
 obtain ⟨f1,f2⟩:=F
 go_enter Tryz.func37,Tryz.ntmps37
 go_wp2_with fail
 refine HF.out.mono ?_
 rintro e w1 ⟨rfl,hB1⟩
 have hz:=hB1.size
 rw [World.size_alloc] at hz
 have hT1:w1.heap[w.heap.size]?=some (.cells #[.int .i64 0,.int .i64 0] 39 (0,0)):=(hB1.block w.heap.size (by simp)).trans (heap_alloc_new w _)
 have HB2:Hid (Below w.heap.size w w1):=HB1.out.trans (hB1.mono HB1.out.size)
 have hgz:w.heap.size < w1.heap.size:=by omega
 clear hB1 hz
 rcases hsame with ⟨e2,e1⟩ | ⟨e2,e1⟩
 ·simp only at e1 e2
  subst e1 e2
  have HC2:Hid (C=(23,f1)):=by show _=_;rw [HC.out];simp
  clear HC HL
  have HT2:Hid (w1.heap[w.heap.size]?=some (.cells #[.int .i64 0,.int .i64 0] 39 (0,0))):=hT1
  have d0:w1.cell? ⟨w.heap.size,0,none⟩=some (.int .i64 0):=by rw [World.cell?,HT2.out];rfl
  have d1:w1.cell? ⟨w.heap.size,1,none⟩=some (.int .i64 0):=by rw [World.cell?,HT2.out];rfl
  have hf2:∀ j,w1.frozen? ⟨w.heap.size,j,none⟩=false:=fun j=>by rw [World.frozen?,HT2.out];rfl
  clear hT1
  go_wp2_with fail
  obtain ⟨q0,q1⟩:=two_cells (.int .i64 23) (.int .i64 (f1:Int)) HT2.out
  exact bodyPost_ret (v:=.agg #[.int .i64 23,.int .i64 f1]) (by simp [results,Tryz.results37,go_sem,q0,q1]) rfl ⟨by rw [HC2.out];rfl,(HB2.out.setCell (p:=⟨w.heap.size,0,none⟩) (Nat.le_refl _) _).setCell (p:=⟨w.heap.size,1,none⟩) (Nat.le_refl _) _⟩
 ·simp only at e1 e2
  subst e1 e2
  have HL2:=show Hid _ from HL.out rfl
  go_wp2_with fail
  refine (HL2.out w1 HB2.out).mono ?_
  rintro e w2 ⟨rfl,hB3⟩
  have HT2:Hid (w2.heap[w.heap.size]?=some (.cells #[.int .i64 0,.int .i64 0] 39 (0,0))):=(hB3.block w.heap.size hgz).trans hT1
  have d0:w2.cell? ⟨w.heap.size,0,none⟩=some (.int .i64 0):=by rw [World.cell?,HT2.out];rfl
  have d1:w2.cell? ⟨w.heap.size,1,none⟩=some (.int .i64 0):=by rw [World.cell?,HT2.out];rfl
  have hf2:∀ j,w2.frozen? ⟨w.heap.size,j,none⟩=false:=fun j=>by rw [World.frozen?,HT2.out];rfl
  have HB4:Hid (Below w.heap.size w w2):=HB2.out.trans (hB3.mono HB2.out.size)
  clear hB3 hT1
  by_cases hx:64 < X
  ·have HC2:Hid (C=(22,0)):=by show _=_;rw [HC.out];simp [hx]
   clear HC
   go_wp2_with fail
   obtain ⟨q0,q1⟩:=two_cells (.int .i64 22) (.int .i64 0) HT2.out
   exact bodyPost_ret (v:=.agg #[.int .i64 22,.int .i64 0]) (by simp [results,Tryz.results37,go_sem,q0,q1]) rfl ⟨by rw [HC2.out];rfl,(HB4.out.setCell (p:=⟨w.heap.size,0,none⟩) (Nat.le_refl _) _).setCell (p:=⟨w.heap.size,1,none⟩) (Nat.le_refl _) _⟩
  ·have HC2:Hid (C=(0,0)):=by show _=_;rw [HC.out];simp [hx]
   clear HC
   go_wp2_with fail
   obtain ⟨q0,q1⟩:=two_cells (.int .i64 0) (.int .i64 0) HT2.out
   exact bodyPost_ret (v:=.agg #[.int .i64 0,.int .i64 0]) (by simp [results,Tryz.results37,go_sem,q0,q1]) rfl ⟨by rw [HC2.out];rfl,(HB4.out.setCell (p:=⟨w.heap.size,0,none⟩) (Nat.le_refl _) _).setCell (p:=⟨w.heap.size,1,none⟩) (Nat.le_refl _) _⟩
end Go.Proofs.YtinjccfhhdidiaaGreat.Gr
namespace Go.Proofs.YtinjccfhhdidiaaGreat.Nm
open Go.RowKit Go.Maps Sp Lx Gr
def errAt (k:Nat) (r:Except Nat Rs):Except (Nat × Nat) Rs:=match r with | .error c=>.error (c,k) | .ok t=>.ok t
theorem upto_next {s0 s:Rs} {k:Nat} (h:upto s0 k=.ok s):upto s0 (k+1)=errAt k (askN k s 3):=by
 simp only [upto,h,errAt]
 rfl
theorem askN3 (k:Nat) (s:Rs):askN k s 3=match askD k s with | .error c=>.error c | .ok a=>match askM k a with | .error c=>.error c | .ok b=>askH k b:=by
 have h1:askN k s 1=askD k s:=askN_succ (j:=0) rfl
 cases hD:askD k s with
 | error c=>exact askN_err (h1.trans hD) 2
 | ok a=>
  have h2:askN k s 2=askM k a:=askN_succ (h1.trans hD)
  dsimp only
  cases hM:askM k a with
  | error c=>exact askN_err (h2.trans hM) 1
  | ok b=>exact askN_succ (h2.trans hM)
theorem kinds_D {k:Int} (h:decl k ≠ 0):nmd k=0/\¬ (k=8\/k=9\/k=10):=by
 rcases decl_cases k with ⟨rfl,_⟩ | ⟨rfl,_⟩ | ⟨rfl,_⟩ | ⟨rfl,_⟩ | ⟨rfl,_⟩ | ⟨_,_,_,_,_,e⟩
 all_goals first | exact absurd e h | exact ⟨by decide,by decide⟩
theorem evt_no {x:Rz} (h:¬ (x.kind=8\/x.kind=9\/x.kind=10)):(evt x).1=0:=by
 unfold evt
 rw [if_neg (fun e=>h (by rcases e with e | e<;>simp [e])),if_neg (fun e=>h (by simp [e]))]
theorem evt_yes {x:Rz} (h:x.kind=8\/x.kind=9\/x.kind=10):(evt x).1 ≠ 0:=by
 unfold evt
 split
 ·simp
 ·rename_i h8
  rw [if_pos (by rcases h with e | e | e;exact absurd (Or.inl e) h8;exact absurd (Or.inr e) h8;exact e)]
  simp
theorem nmd_ev {k:Int} (h:k=8\/k=9):nmd k=1:=by rcases h with rfl | rfl<;>rfl
theorem evt_one {x:Rz} (h:(evt x).1=1):x.kind=8\/x.kind=9:=by
 unfold evt at h
 split at h
 ·assumption
 ·split at h
  ·cases h
  ·cases h
theorem askD_no {k:Nat} {s:Rs} (h:decl (rat s.rows k).kind=0):askD k s=.ok s:=by unfold askD;rw [if_pos h]
theorem askM_no {k:Nat} {s:Rs} (h:nmd (rat s.rows k).kind=0):askM k s=.ok s:=by unfold askM;rw [if_pos h]
theorem askH_no {k:Nat} {s:Rs} (h:¬ ((rat s.rows k).kind=8\/(rat s.rows k).kind=9\/(rat s.rows k).kind=10)):askH k s=.ok s:=by unfold askH;rw [if_pos (evt_no h)]
theorem next_D {l:List Rz} {m k:Nat} {s:Rs} (hB:Base l) (hu:upto (start l) k=.ok s) (hg:Good l m s) (hk:k < l.length) (hd:decl (rat s.rows k).kind ≠ 0):upto (start l) (k+1)=errAt k (askD k s):=by
 rw [upto_next hu,askN3]
 cases hA:askD k s with
 | error c=>rfl
 | ok a=>
  have hga:=good_D hB hk hg hA
  have e:(rat a.rows k).kind=(rat s.rows k).kind:=((like_kind hga.like hk).1).trans (like_kind hg.like hk).1.symm
  obtain ⟨n0,ne⟩:=kinds_D hd
  simp only [askM_no (s:=a) (k:=k) (by rw [e];exact n0),askH_no (s:=a) (k:=k) (by rw [e];exact ne)]
theorem next_ME {s0 s:Rs} {k c:Nat} (hu:upto s0 k=.ok s) (hd:decl (rat s.rows k).kind=0) (hM:askM k s=.error c):upto s0 (k+1)=.error (c,k):=by
 rw [upto_next hu,askN3,askD_no hd]
 simp only [hM,errAt]
theorem next_MH {s0 s b:Rs} {k:Nat} (hu:upto s0 k=.ok s) (hd:decl (rat s.rows k).kind=0) (hM:askM k s=.ok b):upto s0 (k+1)=errAt k (askH k b):=by
 rw [upto_next hu,askN3,askD_no hd]
 simp only [hM]
theorem upto_inv {l:List Rz} (hB:Base l) (n:Nat) (hn:n<=l.length) {s:Rs} (h:upto (start l) n=.ok s):Inv2 s:=by
 induction n generalizing s with
 | zero=>
  cases h
  exact inv_start l
 | succ n ih=>
  simp only [upto] at h
  split at h
  ·cases h
  ·rename_i t ht
   have hc:=ih (by omega) ht
   have hg:=upto_good hB n (by omega) ht
   split at h
   ·cases h
   ·rename_i t' h3
    cases h
    cases h1:askN n t 1 with
    | error c=>rw [askN_err h1 2] at h3;cases h3
    | ok t1=>
     cases h2:askN n t 2 with
     | error c=>rw [askN_err h2 1] at h3;cases h3
     | ok t2=>
      have a1:askD n t=.ok t1:=(askN_succ (j:=0) rfl).symm.trans h1
      have a2:askM n t1=.ok t2:=(askN_succ h1).symm.trans h2
      have a3:askH n t2=.ok s:=(askN_succ h2).symm.trans h3
      exact inv_H (inv_M (inv_D hc a1) a2) (num_M2 (by omega) (good_D hB (by omega) hg a1) a2) a3
theorem upto_end {s0:Rs} {n k:Nat} {e:Nat × Nat} (h:upto s0 k=.error e) (hk:k<=n):upto s0 n=.error e:=by
 have:=upto_err h (n - k)
 rw [show k+(n - k)=n by omega] at this
 exact this
theorem Rsl.fb {w wr w6:World} {mb rb base:Nat} (h:Rsl w wr) (hF:Fb [mb,rb] base wr w6) (h1:w.heap.size+1 < mb) (h2:w.heap.size+1 < rb) (h3:w.heap.size+1 < base):Rsl w w6:=
 ⟨(hF.block _ (by omega) (by simp;omega)).trans h.p,(hF.block _ (by omega) (by simp;omega)).trans h.f,h.b.trans (fb_below hF (by omega) (fun k hk=>by simp at hk;rcases hk with rfl | rfl<;>omega))⟩
structure Md7 (w wx:World) (l:List Rz) (nm:ByteArray) (mb eb:Nat):Prop where
 r:Rsl w wx
 p:wx.heap[mb]?=some (.cells #[.string nm,pz,pz,pz,pz,pz,pz,.int .i64 (-1),.slice (some ⟨eb,0,none⟩) l.length l.length,pz,.int .i64 0,.int .i64 0,.int .i64 0,.int .i64 0,.int .i64 0] 81 (0,0))
 e:∀ i,i < l.length->wx.cell? ⟨eb,i,none⟩=some (.int .i64 (endp l i:Nat))
 l1:w.heap.size+1 < mb/\w.heap.size+1 < eb/\eb < wx.heap.size/\eb ≠ mb
theorem rresolve_no {w:World} {ao:Option Addr} {l:List Rz} {cap c1 c2:Nat} (h:IsRz w ao l) (hl:l.length<=2932031007317) (hc:chk l=(c1,c2)) (h0:c1 ≠ 0) (hkd:∀ r ∈ l,r.kids<=9223372036854775807/\r.name.size<=4611686018427387000):
  Calls Tryz.prog 16 #[.slice ao l.length cap] w fun e w'=>e=.returned (.tuple #[.agg #[.string ⟨#[]⟩,pz,pz,pz,pz,pz,pz,.int .i64 0],.agg #[.int .i64 (c1:Int),.int .i64 (c2:Int)]])/\Below w.heap.size w w':=by
 have hb1:Below w.heap.size w ((w.alloc (.cells #[.string ⟨#[]⟩,pz,pz,pz,pz,pz,pz,.int .i64 0] 27)).alloc (.cells #[.int .i64 0,.int .i64 0] 39)):=((Below.refl _ w).alloc (Nat.le_refl _) _).alloc (by simp) _
 have HR:Hid (Rsl w ((w.alloc (.cells #[.string ⟨#[]⟩,pz,pz,pz,pz,pz,pz,.int .i64 0] 27)).alloc (.cells #[.int .i64 0,.int .i64 0] 39))):=⟨by rw [alloc_old _ _ _ (by simp)];exact alloc_at _ _ _ rfl,alloc_at _ _ _ (by simp),hb1⟩
 have HC:=show Hid _ from refCheck_any ao l cap _ (h.below hb1) hl hkd
 rw [hc] at HC
 dsimp only at HC
 have hc0:((c1:Int) != 0)=true:=by simp;omega
 clear hc h0 hkd
 go_enter Tryz.func16,Tryz.ntmps16
 go_wp2_with fail
 refine Calls.mono HC.out ?_
 rintro e w1 ⟨rfl,hB1⟩
 have HR1:=show Hid _ from (HR.out.below hB1)
 have hR2:=HR1.out.below ((Below.refl _ w1).alloc (Nat.le_refl _) (.cells #[.int .i64 (c1:Int),.int .i64 (c2:Int)] 39))
 have HR2:=show Hid _ from hR2
 obtain ⟨r0,r1,r2,r3,r4,r5,r6,r7⟩:=hR2.cells
 obtain ⟨s0,s1,s2,s3⟩:=hR2.fault
 have z0:=hR2.frozen 0
 have z1:=hR2.frozen 1
 have z2:=hR2.frozen 2
 have z3:=hR2.frozen 3
 have z4:=hR2.frozen 4
 have z5:=hR2.frozen 5
 have z6:=hR2.frozen 6
 have z7:=hR2.frozen 7
 have hnew:=heap_alloc_new w1 (.cells #[.int .i64 (c1:Int),.int .i64 (c2:Int)] 39)
 have t0:(w1.alloc (.cells #[.int .i64 (c1:Int),.int .i64 (c2:Int)] 39)).cell? ⟨w1.heap.size,0,none⟩=some (.int .i64 (c1:Int)):=by rw [World.cell?,hnew];rfl
 have t1:(w1.alloc (.cells #[.int .i64 (c1:Int),.int .i64 (c2:Int)] 39)).cell? ⟨w1.heap.size,1,none⟩=some (.int .i64 (c2:Int)):=by rw [World.cell?,hnew];rfl
 have hlt:=(Array.getElem?_eq_some_iff.1 HR1.out.f).1
 have n1:w.heap.size ≠ w1.heap.size:=by omega
 have n2:w1.heap.size ≠ w.heap.size:=by omega
 have n3:w.heap.size+1 ≠ w1.heap.size:=by omega
 have n4:w1.heap.size ≠ w.heap.size+1:=by omega
 clear hR2 hb1 hB1 HR HC hlt hnew HR1
 go_wp2_with fail
 generalize w1.alloc (.cells #[.int .i64 (c1:Int),.int .i64 (c2:Int)] 39)=w2 at *
 generalize w1.heap.size=fb at *
 go_region
 all_goals
  obtain ⟨x1,x2,x3⟩:=HR2.out.wrote (.string ⟨#[]⟩) pz pz pz pz pz pz (.int .i64 0) (.int .i64 (c1:Int)) (.int .i64 (c2:Int))
  have HX:Hid (Below w.heap.size w _):=x3
  obtain ⟨y0,y1,y2,y3,y4,y5,y6,y7,y8,y9⟩:=wrote_cells x1 x2
  clear x1 x2 x3 r0 r1 r2 r3 r4 r5 r6 r7 s0 s1 s2 s3 z0 z1 z2 z3 z4 z5 z6 z7 t0 t1
  generalize ((((((((((w2.setCell ⟨w.heap.size,0,none⟩ (.string ⟨#[]⟩)).setCell ⟨w.heap.size,1,none⟩ pz).setCell ⟨w.heap.size,2,none⟩ pz).setCell ⟨w.heap.size,3,none⟩ pz).setCell ⟨w.heap.size,4,none⟩ pz).setCell ⟨w.heap.size,5,none⟩ pz).setCell ⟨w.heap.size,6,none⟩ pz).setCell ⟨w.heap.size,7,none⟩ (.int .i64 0)).setCell ⟨w.heap.size+1,0,none⟩ (.int .i64 (c1:Int))).setCell ⟨w.heap.size+1,1,none⟩ (.int .i64 (c2:Int)))=w9 at *
  have u0:w9.drew.cell? ⟨w.heap.size,0,none⟩=some (.string ⟨#[]⟩):=y0
  go_wp2_with fail
  exact bodyPost_ret (v:=.tuple #[.agg #[.string ⟨#[]⟩,pz,pz,pz,pz,pz,pz,.int .i64 0],.agg #[.int .i64 (c1:Int),.int .i64 (c2:Int)]]) (by simp [results,Tryz.results16,go_sem,y0,y1,y2,y3,y4,y5,y6,y7,y8,y9]) rfl ⟨rfl,HX.out.drew⟩
end Go.Proofs.YtinjccfhhdidiaaGreat.Nm
