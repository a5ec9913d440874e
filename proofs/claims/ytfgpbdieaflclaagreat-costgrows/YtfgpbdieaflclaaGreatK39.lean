import Derived.Test.YtfgpbdieaflclaaGreatK38
import Derived.Deep.DeepCutAuto
set_option maxHeartbeats 25600000
set_option maxRecDepth 100000
namespace Go.Proofs.YtfgpbdieaflclaaGreat.Gr
open Go.RowKit Sp Lx
theorem cell_op (w:World) (o:Op3):(w.alloc (.cells #[.int .i64 o.kind,.int .i64 o.left,.int .i64 o.next] 81)).cell? ⟨w.heap.size,0,none⟩=some (.int .i64 o.kind)/\(w.alloc (.cells #[.int .i64 o.kind,.int .i64 o.left,.int .i64 o.next] 81)).cell? ⟨w.heap.size,2,none⟩=some (.int .i64 o.next):=by
 constructor
 ·rw [World.cell?,heap_alloc_new];simp
 ·rw [World.cell?,heap_alloc_new];simp
theorem shp_stop {t:List Op3} {ev:Bool} {i:Nat} {r:Rz} {l:List Rz} (h:(stands r.kind (whatOf t) && filled r)=false):shp t ev i (r :: l)=i:=by
 simp only [shp];rw [h];simp
theorem shp_decl {t:List Op3} {ev:Bool} {i:Nat} {r:Rz} {l:List Rz} (h:(stands r.kind (whatOf t) && filled r)=true) (hd:(whatOf t == 1 && (ev && isDecl r.kind))=true):shp t ev i (r :: l)=i:=by
 simp only [shp];rw [h,hd];simp
theorem shp_step {t:List Op3} {ev:Bool} {i:Nat} {r:Rz} {l:List Rz} (h:(stands r.kind (whatOf t) && filled r)=true) (hd:(whatOf t == 1 && (ev && isDecl r.kind))=false):
  shp t ev i (r :: l)=if (rpop (⟨r.kind,r.kids,0⟩ :: rtake t)).isEmpty then (if l.isEmpty then -1 else ((i+1:Nat):Int)) else shp (rpop (⟨r.kind,r.kids,0⟩ :: rtake t)) (if whatOf t == 1 then ev || isEvent r.kind else ev) (i+1) l:=by
 rw [shp,h,hd]
 simp only [Bool.not_true,Bool.false_eq_true,if_false]
abbrev ShpI (w:World) (l:List Rz) (k:Nat) (v:Value) (t:List Op3) (ev:Bool) (wr:World):Prop:=
 k<=l.length/\OwnO wr w.heap.size v t/\Below w.heap.size w wr/\t.length<=k/\OkO k t/\(∀ o r,t=o :: r->o.left ≠ 0)/\((t=[]/\0 < k/\shp [] false 0 l=-1)\/((k=0\/t ≠ [])/\shp t ev k (l.drop k)=shp [] false 0 l))
theorem shape_any (ao:Option Addr) (l:List Rz) (cap:Nat) (w:World) (h:IsRz w ao l) (hn:l.length<=2932031007317) (hkd:∀ r ∈ l,r.kids<=9223372036854775807/\r.name.size<=4611686018427387000):
  Calls Tryz.prog 31 #[.slice ao l.length cap] w fun e w'=>e=.returned (.int .i64 (shp [] false 0 l))/\Below w.heap.size w w':=by
 obtain ⟨i0,hi,hz0,hz1,hz2⟩:=info_parts info81
 have HIn:=hdn <| And.intro hi (And.intro hz0 (And.intro hz1 hz2))
 have HI:Hid (IsRz w ao l):=h
 have HN:Hid (l.length<=2932031007317):=hn
 have HKd:Hid (∀ r ∈ l,r.kids<=9223372036854775807/\r.name.size<=4611686018427387000):=hkd
 have hln:(l.length:Int)<=2932031007317:=by omega
 clear h hn hkd hi hz0 hz1 hz2
 go_enter Tryz.func31,Tryz.ntmps31
 go_wp2_with fail
 go_loopg [3,4,5] (l.length+1) (fun gq x e i wr=>∃ (k:Nat) (v:Value) (t:List Op3) (ev:Bool),v=x/\e=.bool ev/\i=.int .i64 k/\gq=l.length+1 - k/\ShpI w l k v t ev wr)
 case atStart=>exact ⟨0,_,[],false,rfl,rfl,rfl,rfl,Nat.zero_le _,World.ownsRow_nil _ _ _ _,Below.refl _ _,Nat.le_refl _,fun _ h=>(by cases h),fun _ _ h=>(by cases h),Or.inr ⟨Or.inl rfl,rfl⟩⟩
 case round=>
  obtain ⟨k,v,t,ev,rfl,rfl,rfl,hgk,hk,hOw,hBr,htl,hok,hhd,hst⟩:=hrel
  have HG:Hid (gk=l.length+1 - k):=hgk
  have HOr:Hid (OwnO wr w.heap.size v t):=hOw
  have HBr:Hid (Below w.heap.size w wr):=hBr
  have HTL:Hid (t.length<=k/\OkO k t/\k<=l.length/\l.length<=2932031007317):=⟨htl,hok,hk,HN.out⟩
  have HHd:Hid (∀ o r,t=o :: r->o.left ≠ 0):=hhd
  have hkl:(k:Int)<=2932031007317:=by omega
  have htl':(t.length:Int)<=2932031007317:=by omega
  clear hgk hOw hBr htl hok hk hhd
  rcases hst with ⟨rfl,hk0,hfin⟩ | ⟨hkt,hsh⟩
  ·have HF:Hid (shp [] false 0 l=-1):=hfin
   have hk0':((k:Int) == 0)=false:=by simp;omega
   obtain ⟨bo,bc,rfl⟩:=own_form HOr.out
   simp only [List.length_nil] at *
   clear hfin hk0
   go_wp2_with fail
   go_ret
   exact ⟨by rw [HF.out];rfl,HBr.out⟩
  ·have HSh:Hid (shp t ev k (l.drop k)=shp [] false 0 l):=hsh
   obtain ⟨bo,bc,rfl⟩:=own_form HOr.out
   clear hsh
   go_upto_region 4 with fail
   go_cut [14] (fun c wx=>c=.bool true/\wx=wr)
   case first=>
    cases hkb:((k:Int) == 0)
    ·have htp:0 < t.length:=by
      rcases hkt with h1 | h1
      ·subst h1;simp at hkb
      ·exact List.length_pos_iff.2 h1
     go_wp2_with fail
     go_meet
     exact ⟨rfl,rfl⟩
    ·go_wp2_with fail
     go_meet
     exact ⟨rfl,rfl⟩
   case rest=>
    obtain ⟨rfl,hwc⟩:=hcut
    subst hwc
    clear hkt
    go_upto_if 19 with fail
    go_cut [6] (fun c wx=>c=.int .i64 (whatOf t)/\OwnO wx w.heap.size (.slice bo t.length bc) (rtake t)/\Below w.heap.size w wx)
    case first=>
     cases t with
     | nil=>
      simp only [List.length_nil] at *
      go_wp2_with fail
      go_meet
      exact ⟨rfl,HOr.out,HBr.out⟩
     | cons o t=>
      obtain ⟨g,cap2,hv,hbg,hg,hcp,hf,hWc⟩:=own_otop HOr.out
      cases hv
      have hon:=HTL.out.2.1 o (List.mem_cons_self ..)
      have hol:=HHd.out o t rfl
      have hw1:IntKind.i64.wrap (o.left - 1)=o.left - 1:=by rw [IntKind.wrap_i64];omega
      have hw2:wrap64 (o.left - 1)=o.left - 1:=by unfold wrap64;omega
      have ho2:(o.next:Int)<=2932031007317:=by omega
      have hb1:Below wc.heap.size wc (wc.alloc (.cells #[.int .i64 o.kind,.int .i64 o.left,.int .i64 o.next] 81)):=bAl wc _
      obtain ⟨c0,c1,c2⟩:=hWc wc rfl
      obtain ⟨d0,d1,d2⟩:=hWc (wc.alloc (.cells #[.int .i64 o.kind,.int .i64 o.left,.int .i64 o.next] 81)) (hb1.block g hg)
      have f1:∀ j,(wc.alloc (.cells #[.int .i64 o.kind,.int .i64 o.left,.int .i64 o.next] 81)).frozen? ⟨g,j,none⟩=false:=fun j=>(World.frozen?_of_block (a:=⟨g,j,none⟩) (hb1.block g hg)).trans (hf j)
      obtain ⟨n0,n2⟩:=cell_op wc o
      obtain ⟨ht1,ht2,ht3,ht4⟩:=own_take HOr.out
      have hz1:(wc.setCell ⟨g,t.length * 3+2,none⟩ (.int .i64 ((o.next:Int)+1))).heap.size=wc.heap.size:=by simp
      have hz2:((wc.setCell ⟨g,t.length * 3+2,none⟩ (.int .i64 ((o.next:Int)+1))).setCell ⟨g,t.length * 3+1,none⟩ (.int .i64 (o.left - 1))).heap.size=wc.heap.size:=by simp
      have f2:∀ j,((wc.setCell ⟨g,t.length * 3+2,none⟩ (.int .i64 ((o.next:Int)+1))).alloc (.cells #[.int .i64 o.kind,.int .i64 o.left,.int .i64 o.next] 81)).frozen? ⟨g,j,none⟩=false:=fun j=>
       (World.frozen?_of_block (a:=⟨g,j,none⟩) (Below.heap_alloc _ _ _ (by rw [hz1];exact hg))).trans (ht3 j)
      have d1':((wc.setCell ⟨g,t.length * 3+2,none⟩ (.int .i64 ((o.next:Int)+1))).alloc (.cells #[.int .i64 o.kind,.int .i64 o.left,.int .i64 o.next] 81)).cell? ⟨g,t.length * 3+1,none⟩=some (.int .i64 o.left):=
       (World.cell?_of_block (a:=⟨g,t.length * 3+1,none⟩) (Below.heap_alloc _ _ _ (by rw [hz1];exact hg))).trans ht4
      have HE:Hid (OwnO (((wc.setCell ⟨g,t.length * 3+2,none⟩ (.int .i64 ((o.next:Int)+1))).setCell ⟨g,t.length * 3+1,none⟩ (.int .i64 (o.left - 1))).alloc (.cells #[.int .i64 o.kind,.int .i64 o.left,.int .i64 o.next] 81)) w.heap.size (.slice (some ⟨g,0,none⟩) (t.length+1) bc) (rtake (o :: t)) /\
       Below w.heap.size w (((wc.setCell ⟨g,t.length * 3+2,none⟩ (.int .i64 ((o.next:Int)+1))).setCell ⟨g,t.length * 3+1,none⟩ (.int .i64 (o.left - 1))).alloc (.cells #[.int .i64 o.kind,.int .i64 o.left,.int .i64 o.next] 81))):=by
       have hb2:Below wc.heap.size ((wc.setCell ⟨g,t.length * 3+2,none⟩ (.int .i64 ((o.next:Int)+1))).setCell ⟨g,t.length * 3+1,none⟩ (.int .i64 (o.left - 1))) (((wc.setCell ⟨g,t.length * 3+2,none⟩ (.int .i64 ((o.next:Int)+1))).setCell ⟨g,t.length * 3+1,none⟩ (.int .i64 (o.left - 1))).alloc (.cells #[.int .i64 o.kind,.int .i64 o.left,.int .i64 o.next] 81)):=(Below.refl _ _).alloc (by rw [hz2];exact Nat.le_refl _) _
       have hb3:=hb2
       rw [<-hz2] at hb3
       exact ⟨own_below ht1 hb3,HBr.out.trans ((ht2.below hb3).low (fun j hj=>(World.ownsRow.lt HOr.out j hj).1) HBr.out.size)⟩
      have HKw:Hid (∀ w,Calls Tryz.prog 40 #[.int .i64 o.kind,.int .i64 o.next] w fun e w'=>e=.returned (.int .i64 (kidw o.kind o.next))/\w'=w):=fun w=>kidw_any o.kind o.next w
      have HWo:Hid (whatOf (o :: t)=kidw o.kind o.next):=rfl
      have htl3:(t.length:Int)<=2932031007317:=by simp only [List.length_cons] at htl';omega
      simp only [List.length_cons] at *
      clear hWc hf hb1 ht1 ht2 ht3 ht4 hz1 hz2 hon hol
      clear htl' hcp hbg
      go_wp2_with (go_at_call 40;refine (HKw.out _).mono ?_;rintro e w' ⟨rfl,rfl⟩)
      go_meet
      exact ⟨by rw [HWo.out],HE.out⟩
    case rest=>
     obtain ⟨rfl,hO1,hB1⟩:=hcut
     have HO1:Hid (OwnO wc w.heap.size (.slice bo t.length bc) (rtake t)):=hO1
     have HB1:Hid (Below w.heap.size w wc):=hB1
     clear hO1 hB1
     by_cases hlt:k < l.length
     ·have hlt':(k:Int) < (l.length:Int):=by omega
      obtain ⟨r,g,o,hdr,hlk,rfl,hg,c0,c1,c2,c3,c4⟩:=rows_at (HI.out.below HB1.out) hlt
      have HDr:Hid (l.drop k=r :: l.drop (k+1)):=hdr
      have hrm:r ∈ l:=List.mem_of_getElem? hlk
      have HR:Hid (Calls Tryz.prog 41 #[.agg #[.int .i64 r.kind,.string r.name,.int .i64 r.stop,.int .i64 r.n,.int .i64 r.kids],.int .i64 (whatOf t)] wc fun e w'=>e=.returned (.bool (stands r.kind (whatOf t) && filled r))/\Below wc.heap.size wc w'):=right_any r (whatOf t) wc (HKd.out r hrm).1 (HKd.out r hrm).2
      have HRk:Hid (r.kids<=9223372036854775807):=(HKd.out r hrm).1
      clear hdr hlk hrm
      go_wp2_with fail
      refine HR.out.mono ?_
      rintro e w5 ⟨rfl,hB5⟩
      have HB5:Hid (Below w.heap.size w w5):=HB1.out.trans (hB5.mono HB1.out.size)
      have HO5:Hid (OwnO w5 w.heap.size (.slice bo t.length bc) (rtake t)):=own_below HO1.out hB5
      have d0:w5.cell? ⟨g,o+k * 5,none⟩=some (.int .i64 r.kind):=(hB5.cell (p:=⟨g,o+k * 5,none⟩) hg).trans c0
      have d4:w5.cell? ⟨g,o+k * 5+4,none⟩=some (.int .i64 r.kids):=(hB5.cell (p:=⟨g,o+k * 5+4,none⟩) hg).trans c4
      clear hB5 c0 c1 c2 c3 c4 HR
      cases hs:(stands r.kind (whatOf t) && filled r)
      ·have HE:Hid (shp [] false 0 l=(k:Int)):=by show _=_;rw [<-HSh.out,HDr.out,shp_stop hs]
       clear hs
       go_wp2_with fail
       go_ret
       exact ⟨by rw [HE.out];rfl,HB5.out⟩
      ·have HD1:Hid (∀ w,Calls Tryz.prog 42 #[.int .i64 r.kind] w fun e w'=>e=.returned (.bool (isDecl r.kind))/\w'=w):=fun w=>refIsDecl_any r.kind w
       have HD2:Hid (∀ w,Calls Tryz.prog 43 #[.int .i64 r.kind] w fun e w'=>e=.returned (.bool (isEvent r.kind))/\w'=w):=fun w=>refIsEvent_any r.kind w
       cases hd:(whatOf t == 1 && (ev && isDecl r.kind))
       ·have HStep:Hid (shp [] false 0 l=if (rpop (⟨r.kind,r.kids,0⟩ :: rtake t)).isEmpty then (if (l.drop (k+1)).isEmpty then -1 else ((k+1:Nat):Int)) else shp (rpop (⟨r.kind,r.kids,0⟩ :: rtake t)) (if whatOf t == 1 then ev || isEvent r.kind else ev) (k+1) (l.drop (k+1))):=by
         show _=_
         rw [<-HSh.out,HDr.out,shp_step hs hd]
        have HOk:Hid (OkO (k+1) (rpop (⟨r.kind,r.kids,0⟩ :: rtake t))/\(rpop (⟨r.kind,r.kids,0⟩ :: rtake t)).length<=k+1):=by
         rw [Bool.and_eq_true] at hs
         refine ⟨ok_pop fun x hx=>?_,?_⟩
         ·rcases List.mem_cons.1 hx with rfl | hx
          ·exact ⟨filled_kids hs.2,HRk.out,Nat.zero_le _⟩
          ·exact ok_take HTL.out.2.1 HHd.out x hx
         ·have h1:=rpop_len (⟨r.kind,r.kids,0⟩ :: rtake t)
          have h2:=rtake_len t
          have h3:=HTL.out.1
          simp only [List.length_cons] at h1
          omega
        clear hs
        generalize hev:(if whatOf t == 1 then ev || isEvent r.kind else ev)=ev2 at *
        go_upto_if 66 with fail
        go_cut [4] (fun c wx=>c=.bool ev2/\wx=w5)
        case first=>
         cases hw:(whatOf t == 1)
         ·rw [hw] at hev
          go_wp2_with fail
          go_meet
          exact ⟨by rw [<-hev];rfl,rfl⟩
         ·rw [hw] at hev hd
          cases ev
          ·go_wp2_with (go_at_call 43;refine (HD2.out _).mono ?_;rintro e w' ⟨rfl,rfl⟩)
           go_meet
           exact ⟨by rw [<-hev];rfl,rfl⟩
          ·have hdd:isDecl r.kind=false:=by simpa using hd
           rw [hdd] at HD1
           clear hd hdd
           go_wp2_with (go_at_call 42;refine (HD1.out _).mono ?_;rintro e w' ⟨rfl,rfl⟩)
           go_meet
           exact ⟨by rw [<-hev];rfl,rfl⟩
        case rest=>
         obtain ⟨rfl,hwc5⟩:=hcut
         subst hwc5
         clear hev hd
         go_upto_region 18 with fail
         go_cut [3] (fun x wx=>∃ v',v'=x/\OwnO wx w.heap.size v' (⟨r.kind,r.kids,0⟩ :: rtake t)/\Below w.heap.size w wx)
         case first=>
          obtain ⟨hi,hz0,hz1,hz2⟩:=HIn.out
          have hbA:Below wc.heap.size wc ((wc.alloc (.cells #[.int .i64 r.kind,.int .i64 r.kids,.int .i64 0] 81)).drew):=(bAl wc _).drew
          have HO6:Hid (OwnO ((wc.alloc (.cells #[.int .i64 r.kind,.int .i64 r.kids,.int .i64 0] 81)).drew) w.heap.size (.slice bo t.length bc) (rtake t)):=own_below HO5.out hbA
          have HB6:Hid (Below w.heap.size w ((wc.alloc (.cells #[.int .i64 r.kind,.int .i64 r.kids,.int .i64 0] 81)).drew)):=HB5.out.trans (hbA.mono HB5.out.size)
          have HTl2:Hid ((rtake t).length=t.length/\t.length<=2932031007317):=⟨rtake_len t,by have:=HTL.out;omega⟩
          have HCl:Hid (∀ j u,(oc ⟨r.kind,r.kids,0⟩)[j]?=some u->((wc.alloc (.cells #[.int .i64 r.kind,.int .i64 r.kids,.int .i64 0] 81)).drew).cell? ((⟨wc.heap.size,0,none⟩:Addr).add j)=some u):=fun j u hu=>cell_three wc _ _ _ _ j u hu
          clear hbA
          go_region_law (first
           | (refine step_gone _ rfl (.tmp 86) (.tmp 98) 79 rfl w.heap.size 81 i0 (.agg #[.int .i64 0,.int .i64 0,.int .i64 0]) 3 24 Tryz.underlying79 hi hz0 hz1 hz2 rfl (by decide) (.slice bo t.length bc) (rtake t).length (tox (rtake t)) (by simp [Act.eval]) HO6.out ⟨wc.heap.size,0,none⟩ 1 1 (oc ⟨r.kind,r.kids,0⟩) (by simp [Act.eval]) rfl HCl.out (by intro u hu;simp only [oc,List.mem_cons,List.not_mem_nil,or_false] at hu;rcases hu with rfl | rfl | rfl<;>rfl) (by have:=HTl2.out;unfold maxLen;omega) (by have:=HTl2.out;omega) HB6.out.size (by decide) ?_
              intro v3 w3 ho hG
              have HP4:Hid (OwnO w3 w.heap.size v3 (⟨r.kind,r.kids,0⟩ :: rtake t)/\Below w.heap.size w w3):=⟨own_opush ho,HB6.out.trans ((Went.gone hG).low (fun j hj=>(World.ownsRow.lt HO6.out j hj).1) HB6.out.size)⟩
              obtain ⟨po,pc,rfl⟩:=own_form ho
              clear ho hG))
          all_goals clear hi hz0 hz1 hz2
          all_goals go_wp2_with fail
          all_goals go_meet
          all_goals exact ⟨_,rfl,HP4.out⟩
         case rest=>
          obtain ⟨v8,rfl,hO8,hB8⟩:=hcut
          have HO8:Hid (OwnO wc w.heap.size v8 (⟨r.kind,r.kids,0⟩ :: rtake t)/\Below w.heap.size w wc):=⟨hO8,hB8⟩
          have HL8:Hid (t.length+1<=2932031007318/\(rtake t).length=t.length):=⟨by have:=HTL.out;omega,rtake_len t⟩
          obtain ⟨bo8,bc8,rfl⟩:=own_form hO8
          clear hO8 hB8 d0 d4
          go_wp2_with fail
          go_loopg [3] (t.length+1) (fun gq x wr=>∃ (tt:List Op3) (v:Value),v=x/\gq=tt.length/\OwnO wr w.heap.size v tt/\Below w.heap.size w wr/\rpop tt=rpop (⟨r.kind,r.kids,0⟩ :: rtake t)/\tt.length<=2932031007318)
          case atStart=>exact ⟨⟨r.kind,r.kids,0⟩ :: rtake t,_,rfl,by rw [List.length_cons,HL8.out.2],HO8.out.1,HO8.out.2,rfl,by rw [List.length_cons,HL8.out.2];exact HL8.out.1⟩
          case round=>
           obtain ⟨tt,v,rfl,hgk,hOt,hBt,hpt,htt⟩:=hrel
           have HG2:Hid (gk=tt.length):=hgk
           have HOt:Hid (OwnO wr w.heap.size v tt):=hOt
           have HBt:Hid (Below w.heap.size w wr):=hBt
           clear hgk hOt hBt
           cases tt with
           | nil=>
            have hpe:rpop (⟨r.kind,r.kids,0⟩ :: rtake t)=[]:=hpt.symm
            obtain ⟨bo9,bc9,rfl⟩:=own_form HOt.out
            simp only [List.length_nil] at *
            by_cases hk1:k+1 < l.length
            ·have hk1':(k:Int)+1 < (l.length:Int):=by omega
             have HE:Hid (shp [] false 0 l=((k+1:Nat):Int)):=by
              show _=_
              rw [HStep.out,hpe]
              have:(l.drop (k+1)).isEmpty=false:=by
               cases hx:l.drop (k+1) with
               | nil=>have:=congrArg List.length hx;rw [List.length_drop] at this;simp only [List.length_nil] at this;omega
               | cons=>rfl
              rw [this]
              rfl
             clear hpt hpe hk1 htt
             go_wp2_with fail
             go_ret
             exact ⟨by rw [HE.out];go_num,HBt.out⟩
            ·have hk1':¬ ((k:Int)+1 < (l.length:Int)):=by omega
             have HE:Hid (shp [] false 0 l=-1):=by
              show _=_
              rw [HStep.out,hpe,List.drop_eq_nil_of_le (by omega)]
              rfl
             clear hpt hpe hk1 htt
             go_wp2_with fail
             go_roundg (l.length+1 - (k+1))
             case measure=>have:=HG.out;have:=HTL.out;omega
             case rel=>exact ⟨k+1,_,[],_,rfl,rfl,by go_num,rfl,by have:=HTL.out;omega,HOt.out,HBt.out,Nat.zero_le _,fun _ h=>(by cases h),fun _ _ h=>(by cases h),Or.inl ⟨rfl,Nat.succ_pos _,HE.out⟩⟩
           | cons o5 t5=>
            obtain ⟨g5,cap5,rfl,_,hg5,hcp5,_,hW5⟩:=own_otop HOt.out
            obtain ⟨_,e1,_⟩:=hW5 wr rfl
            have ht5:(t5.length:Int)<=2932031007318:=by simp only [List.length_cons] at htt;omega
            have hcp5':(t5.length:Int)+1<=(cap5:Int):=by omega
            simp only [List.length_cons] at HG2 ⊢
            clear hW5 hcp5 htt
            by_cases hz5:o5.left=0
            ·have HP5:Hid (rpop t5=rpop (⟨r.kind,r.kids,0⟩ :: rtake t)):=by show _=_;rw [<-hpt];simp only [rpop];rw [if_pos hz5]
             rw [hz5] at e1
             clear hpt hz5
             go_wp2_with fail
             go_roundg t5.length
             case measure=>have:=HG2.out;omega
             case rel=>exact ⟨t5,_,rfl,rfl,own_opop HOt.out,HBt.out,HP5.out,by omega⟩
            ·have hz5':(o5.left == 0)=false:=by simp [hz5]
             have HP5:Hid (rpop (⟨r.kind,r.kids,0⟩ :: rtake t)=o5 :: t5):=by show _=_;rw [<-hpt];simp only [rpop];rw [if_neg hz5]
             clear hpt hz5
             go_wp2_with fail
             go_roundg (l.length+1 - (k+1))
             case measure=>have:=HG.out;have:=HTL.out;omega
             case rel=>
              have q1:=HOk.out
              have q2:=rpop_hd (⟨r.kind,r.kids,0⟩ :: rtake t)
              have q3:=HStep.out
              rw [HP5.out] at q1 q2 q3
              exact ⟨k+1,_,o5 :: t5,_,rfl,rfl,by go_num,rfl,by have:=HTL.out;omega,HOt.out,HBt.out,q1.2,q1.1,q2,Or.inr ⟨Or.inr (by simp),q3.symm⟩⟩
       ·have hd':=hd
        rw [Bool.and_eq_true,Bool.and_eq_true] at hd'
        have HE:Hid (shp [] false 0 l=(k:Int)):=by show _=_;rw [<-HSh.out,HDr.out,shp_decl hs hd]
        have hw:=hd'.1
        have hev:=hd'.2.1
        have hdd:=hd'.2.2
        rw [hdd] at HD1
        subst hev
        clear hs hd hd' hdd
        go_wp2_with (go_at_call 42;refine (HD1.out _).mono ?_;rintro e w' ⟨rfl,rfl⟩)
        go_ret
        exact ⟨by rw [HE.out];rfl,HB5.out⟩
     ·have hlt':¬ ((k:Int) < (l.length:Int)):=by omega
      have hle:(l.length:Int)<=(k:Int):=by omega
      have HE:Hid (shp [] false 0 l=(k:Int)):=by
       show _=_
       rw [<-HSh.out,List.drop_eq_nil_of_le (by omega)]
       simp only [shp]
      clear hlt
      go_wp2_with fail
      go_ret
      exact ⟨by rw [HE.out];rfl,HB1.out⟩
end Go.Proofs.YtfgpbdieaflclaaGreat.Gr
