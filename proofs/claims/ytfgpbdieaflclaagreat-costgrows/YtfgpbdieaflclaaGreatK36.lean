import Derived.Test.YtfgpbdieaflclaaGreatK35
import Derived.Deep.DeepCutAuto
import Derived.Deep.CutBlock
set_option maxHeartbeats 12800000
set_option maxRecDepth 100000
namespace Go.Proofs.YtfgpbdieaflclaaGreat.Gr
open Go.RowKit Sp Lx
theorem isExpr_any (k:Int) (w:World):Calls Tryz.prog 81 #[.int .i64 k] w fun e w'=>e=.returned (.bool (decide (27<=k/\k<=54)))/\w'=w:=by
 by_cases h1:27<=k
 ·go_enter Tryz.func81,Tryz.ntmps81
  go_wp2
  all_goals go_ret
  all_goals exact ⟨by simp [h1],rfl⟩
 ·go_enter Tryz.func81,Tryz.ntmps81
  go_wp2
  all_goals go_ret
  all_goals exact ⟨by simp;omega,rfl⟩
theorem rank_any (k:Int) (w:World):Calls Tryz.prog 64 #[.int .i64 k] w fun e w'=>e=.returned (.int .i64 (rank k:Nat))/\w'=w:=by
 have HE:Hid (∀ w,Calls Tryz.prog 81 #[.int .i64 k] w fun e w'=>e=.returned (.bool (decide (27<=k/\k<=54)))/\w'=w):=fun w=>isExpr_any k w
 go_enter Tryz.func64,Tryz.ntmps64
 go_wp2_with (go_at_call 81;refine (HE.out _).mono ?_;rintro e w' ⟨rfl,rfl⟩)
 all_goals go_ret
 all_goals refine ⟨?_,rfl⟩
 all_goals simp only [beq_iff_eq,beq_eq_false_iff_ne,ne_eq] at *
 all_goals unfold rank
 all_goals repeat' split
 all_goals first
  | rfl
  | (exfalso;omega)
theorem refLoose_any (p k d:Int) (w:World):Calls Tryz.prog 45 #[.int .i64 p,.int .i64 k,.int .i64 d] w fun e w'=>e=.returned (.bool (loose p k d))/\w'=w:=by
 rw [<-loose_same]
 have HL:Hid (refLoose p k d=if rank p=0\/rank d=0\/rank p=7 then false else if rank p=6 then decide (rank d < 6) else (decide (rank d < rank p) || (rank d == rank p && (k == 1 || rank p == 3)))):=rfl
 have H1:Hid (∀ w,Calls Tryz.prog 64 #[.int .i64 p] w fun e w'=>e=.returned (.int .i64 (rank p:Nat))/\w'=w):=fun w=>rank_any p w
 have H2:Hid (∀ w,Calls Tryz.prog 64 #[.int .i64 d] w fun e w'=>e=.returned (.int .i64 (rank d:Nat))/\w'=w):=fun w=>rank_any d w
 generalize refLoose p k d=res at *
 generalize rank p=a at *
 generalize rank d=b at *
 by_cases hz:a=0\/b=0\/a=7
 ·have HRes:Hid (res=false):=by show _=_;rw [HL.out,if_pos hz]
  clear HL
  by_cases ha:a=0
  ·have q1:((a:Int) == 0)=true:=by simp;omega
   have HQ:=hdn <| And.intro hz (ha)
   clear hz ha
   go_enter Tryz.func45,Tryz.ntmps45
   go_wp2_with fail
   refine (H1.out _).mono ?_
   rintro e w' ⟨rfl,rfl⟩
   go_wp2_with fail
   refine (H2.out _).mono ?_
   rintro e w' ⟨rfl,rfl⟩
   go_wp2
   all_goals go_ret
   all_goals refine ⟨?_,rfl⟩
   all_goals rw [HRes.out]
   all_goals first
    | rfl
    | (have hq:=HQ.out;simp at *;omega)
  ·have q1:((a:Int) == 0)=false:=by simp;omega
   by_cases hb:b=0
   rotate_right
   focus
    have q2:((b:Int) == 0)=false:=by simp;omega
    have q3:((a:Int) == 7)=true:=by simp;omega
   rotate_right
   focus
    have q2:((b:Int) == 0)=true:=by simp;omega
   all_goals
    have HQ:=hdn <| And.intro hz (And.intro ha (hb))
    clear hz ha hb
    go_enter Tryz.func45,Tryz.ntmps45
    go_wp2_with fail
    refine (H1.out _).mono ?_
    rintro e w' ⟨rfl,rfl⟩
    go_wp2_with fail
    refine (H2.out _).mono ?_
    rintro e w' ⟨rfl,rfl⟩
    go_wp2
    all_goals go_ret
    all_goals refine ⟨?_,rfl⟩
    all_goals rw [HRes.out]
    all_goals first
     | rfl
     | (have hq:=HQ.out;simp at *;omega)
 ·have q1:((a:Int) == 0)=false:=by simp;omega
  have q2:((b:Int) == 0)=false:=by simp;omega
  have q3:((a:Int) == 7)=false:=by simp;omega
  by_cases h6:a=6
  ·have q4:((a:Int) == 6)=true:=by simp;omega
   have HRes:Hid (res=decide ((b:Int) < 6)):=by show _=_;rw [HL.out,if_neg hz,if_pos h6,decide_eq_decide];omega
   have HQ:=hdn <| And.intro hz (h6)
   clear hz h6 HL
   go_enter Tryz.func45,Tryz.ntmps45
   go_wp2_with fail
   refine (H1.out _).mono ?_
   rintro e w' ⟨rfl,rfl⟩
   go_wp2_with fail
   refine (H2.out _).mono ?_
   rintro e w' ⟨rfl,rfl⟩
   go_wp2
   all_goals go_ret
   all_goals refine ⟨?_,rfl⟩
   all_goals rw [HRes.out]
   all_goals first
    | rfl
    | (have hq:=HQ.out;simp at *;omega)
  ·have q4:((a:Int) == 6)=false:=by simp;omega
   have HR0:Hid (res=(decide (b < a) || (b == a && (k == 1 || a == 3)))):=by show _=_;rw [HL.out,if_neg hz,if_neg h6]
   clear hz h6 HL
   by_cases hlt:b < a
   ·have q5:decide ((b:Int) < (a:Int))=true:=by simp;omega
    have HRes:Hid (res=true):=by show _=_;rw [HR0.out];simp [hlt]
    have HQ:=hdn <| hlt
    clear hlt HR0
    go_enter Tryz.func45,Tryz.ntmps45
    go_wp2_with fail
    refine (H1.out _).mono ?_
    rintro e w' ⟨rfl,rfl⟩
    go_wp2_with fail
    refine (H2.out _).mono ?_
    rintro e w' ⟨rfl,rfl⟩
    go_wp2
    all_goals go_ret
    all_goals refine ⟨?_,rfl⟩
    all_goals rw [HRes.out]
    all_goals first
     | rfl
     | (have hq:=HQ.out;simp at *;omega)
   ·have q5:decide ((b:Int) < (a:Int))=false:=by simp;omega
    by_cases hab:b=a
    ·have q6:((b:Int) == (a:Int))=true:=by simp;omega
     by_cases hk:k=1
     ·have q7:(k == 1)=true:=by simp [hk]
      have HRes:Hid (res=true):=by show _=_;rw [HR0.out];simp [hab,hk]
      have HQ:=hdn <| And.intro hlt (And.intro hab (hk))
      clear hlt HR0 hab hk
      go_enter Tryz.func45,Tryz.ntmps45
      go_wp2_with fail
      refine (H1.out _).mono ?_
      rintro e w' ⟨rfl,rfl⟩
      go_wp2_with fail
      refine (H2.out _).mono ?_
      rintro e w' ⟨rfl,rfl⟩
      go_wp2
      all_goals go_ret
      all_goals refine ⟨?_,rfl⟩
      all_goals rw [HRes.out]
      all_goals first
       | rfl
       | (have hq:=HQ.out;simp at *;omega)
     ·have q7:(k == 1)=false:=by simp [hk]
      by_cases h3:a=3
      rotate_right
      focus
       have q8:((a:Int) == 3)=false:=by simp;omega
       have HRes:Hid (res=false):=by show _=_;rw [HR0.out];simp [hab,hk,h3]
      rotate_right
      focus
       have q8:((a:Int) == 3)=true:=by simp;omega
       have HRes:Hid (res=true):=by show _=_;rw [HR0.out];simp [hab,h3]
      all_goals
       have HQ:=hdn <| And.intro hlt (And.intro hab (And.intro hk (h3)))
       clear hlt HR0 hab hk h3
       go_enter Tryz.func45,Tryz.ntmps45
       go_wp2_with fail
       refine (H1.out _).mono ?_
       rintro e w' ⟨rfl,rfl⟩
       go_wp2_with fail
       refine (H2.out _).mono ?_
       rintro e w' ⟨rfl,rfl⟩
       go_wp2
       all_goals go_ret
       all_goals refine ⟨?_,rfl⟩
       all_goals rw [HRes.out]
       all_goals first
        | rfl
        | (have hq:=HQ.out;simp at *;omega)
    ·have q6:((b:Int) == (a:Int))=false:=by simp;omega
     have HRes:Hid (res=false):=by show _=_;rw [HR0.out];simp [hab,hlt]
     have HQ:=hdn <| And.intro hlt (hab)
     clear hlt HR0 hab
     go_enter Tryz.func45,Tryz.ntmps45
     go_wp2_with fail
     refine (H1.out _).mono ?_
     rintro e w' ⟨rfl,rfl⟩
     go_wp2_with fail
     refine (H2.out _).mono ?_
     rintro e w' ⟨rfl,rfl⟩
     go_wp2
     all_goals go_ret
     all_goals refine ⟨?_,rfl⟩
     all_goals rw [HRes.out]
     all_goals first
      | rfl
      | (have hq:=HQ.out;simp at *;omega)
theorem fits_all (l:List Rz) (k:Nat):Fits l k:=by
 induction k with
 | zero=>exact fits_zero l
 | succ k ih=>exact fits_succ l ih
def lev0 (l:List Rz) (i:Nat):Int:=if i=0 then 0 else lev opn loose l (up l i)+if loose (rat l (up l i)).kind (wh l i) (rat l i).kind then 1 else 0
theorem lev_parts {l:List Rz} (h:Whole l) {i:Nat} (hi:i < l.length):lev opn loose l i=lev0 l i+opn (rat l i).kind:=by
 unfold lev0
 by_cases h0:i=0
 ·subst h0
  rw [if_pos rfl,lev_zero]
  have:loose 0 0 (rat l 0).kind=false:=by unfold loose;rw [if_pos (by decide)]
  rw [this]
  simp
 ·rw [if_neg h0,lev_up opn loose h (by omega) hi]
  omega
structure Lev3 (w0:World) (l:List Rz) (go i:Nat) (wr:World):Prop where
 u:RowI wr w0.heap.size l.length (upv l)
 v:RowI wr (w0.heap.size+1) l.length (fun p=>(wh l p:Int))
 d:RowI wr go l.length (fun p=>if p < i then lev opn loose l p else 0)
 b:Below w0.heap.size w0 wr
theorem Lev3.below {w0:World} {l:List Rz} {go i:Nat} {wr wx:World} (h:Lev3 w0 l go i wr) (hb:Below wr.heap.size wr wx):Lev3 w0 l go i wx:=
 ⟨h.u.below hb h.u.lt,h.v.below hb h.v.lt,h.d.below hb h.d.lt,h.b.trans (hb.mono h.b.size)⟩
theorem refLevels_any (ao:Option Addr) (l:List Rz) (cap:Nat) (w:World) (h:IsRz w ao l) (hn:l.length<=2932031007317) (hT:TreeZ l) (h0:0 < l.length):
  Calls Tryz.prog 32 #[.slice ao l.length cap] w fun e w'=>e=.returned (.int .i64 (mx opn loose l l.length))/\Below w.heap.size w w':=by
 obtain ⟨M,hmk,hM⟩:=mk_ints l.length hn
 have HM:Hid (∀ u:World,RowI (u.alloc (.cells M 3)) u.heap.size l.length (fun _=>0)):=hM
 have HN:Hid (l.length<=2932031007317):=hn
 have HT:Hid (TreeZ l):=hT
 have HI:Hid (IsRz w ao l):=h
 have HP:=show Hid (Calls Tryz.prog 44 #[.slice ao l.length cap] w fun e w'=>e=.returned (.tuple #[.slice (some ⟨w.heap.size,0,none⟩) l.length l.length,.slice (some ⟨w.heap.size+1,0,none⟩) l.length l.length]) /\
   RowI w' w.heap.size l.length (upv l)/\RowI w' (w.heap.size+1) l.length (fun p=>(wh l p:Int))/\Below w.heap.size w w') from parents_any ao l cap w h hn hT h0
 have hln:(l.length:Int)<=2932031007317:=by omega
 clear h hn hT hM
 go_enter Tryz.func32,Tryz.ntmps32
 go_wp2_with fail
 refine HP.out.mono ?_
 rintro e w1 ⟨rfl,hU,hV,hB⟩
 have hD:Lev3 w l w1.heap.size 0 (w1.alloc (.cells M 3)):=
  ⟨hU.of_block (Below.heap_alloc _ _ _ hU.lt),hV.of_block (Below.heap_alloc _ _ _ hV.lt),(HM.out w1).ext fun i _=>by rw [if_neg (by omega)],hB.alloc hB.size _⟩
 have HD:Hid (Lev3 w l w1.heap.size 0 (w1.alloc (.cells M 3))):=hD
 have HB1:Hid (w.heap.size+1 < w1.heap.size):=hV.lt
 clear hU hV hB hD
 go_wp2_with fail
 generalize w1.heap.size=gd at *
 go_loopg [6,7] l.length (fun gq mo x wr=>∃ i:Nat,i<=l.length/\gq=l.length - i/\mo=.int .i64 (mx opn loose l i)/\x=.int .i64 i/\Lev3 w l gd i wr)
 case atStart=>exact ⟨0,Nat.zero_le _,rfl,rfl,rfl,HD.out⟩
 case round=>
  obtain ⟨i,hi,hgk,rfl,rfl,hP⟩:=hrel
  have HG:Hid (gk=l.length - i):=hgk
  have HP2:Hid (Lev3 w l gd i wr):=hP
  clear hgk hP hmk
  by_cases hlt:i < l.length
  ·have hlt':(i:Int) < (l.length:Int):=by omega
   have HL:Hid (lev opn loose l i=lev0 l i+opn (rat l i).kind/\0<=lev opn loose l i/\lev opn loose l i<=2 * i+2):=⟨lev_parts HT.out.whole hlt,lev_le (fits_all l i)⟩
   have a1:=HP2.out.u.cell hlt
   obtain ⟨g,o,rfl,hg,c0,_⟩:=kids_at (HI.out.below HP2.out.b) HT.out hlt
   go_upto_if 27 with fail
   go_cut [8] (fun c wx=>c=.int .i64 (lev0 l i)/\Below wr.heap.size wr wx)
   case first=>
    by_cases hi0:i=0
    ·subst hi0
     unfold upv at a1
     rw [if_pos rfl] at a1
     go_wp2_with fail
     go_meet
     exact ⟨rfl,Below.refl _ _⟩
    ·have hq:(0:Int)<=upv l i:=by unfold upv;rw [if_neg hi0];omega
     unfold upv at a1
     rw [if_neg hi0] at a1
     have hup:=(up_at HT.out.whole (Nat.pos_of_ne_zero hi0) hlt).2.2.1
     have hul:up l i < l.length:=by omega
     have hul':(up l i:Int) < (l.length:Int):=by omega
     have hu0:(0:Int)<=(up l i:Int):=by omega
     have a2:=HP2.out.d.cell hul
     rw [if_pos hup] at a2
     have a3:=HP2.out.v.cell hlt
     obtain ⟨g',o',he,_,c1,_⟩:=kids_at (HI.out.below HP2.out.b) HT.out hul
     cases he
     have y1:∀ y:Kin wr,y.u.cell? ⟨w.heap.size,i,none⟩=some (.int .i64 (up l i:Int)):=fun y=>y.cell (a:=⟨w.heap.size,i,none⟩) HP2.out.u.lt a1
     have y2:∀ y:Kin wr,y.u.cell? ⟨g,o+up l i * 5,none⟩=some (.int .i64 (rat l (up l i)).kind):=fun y=>y.cell (a:=⟨g,o+up l i * 5,none⟩) hg c1
     have y3:∀ y:Kin wr,y.u.cell? ⟨w.heap.size+1,i,none⟩=some (.int .i64 (wh l i:Int)):=fun y=>y.cell (a:=⟨w.heap.size+1,i,none⟩) HP2.out.v.lt a3
     have y4:∀ y:Kin wr,y.u.cell? ⟨g,o+i * 5,none⟩=some (.int .i64 (rat l i).kind):=fun y=>y.cell (a:=⟨g,o+i * 5,none⟩) hg c0
     have hne:Nonempty (Kin wr):=Kin.there _
     have HLo:Hid (∀ w,Calls Tryz.prog 45 #[.int .i64 (rat l (up l i)).kind,.int .i64 (wh l i:Int),.int .i64 (rat l i).kind] w fun e w'=>e=.returned (.bool (loose (rat l (up l i)).kind (wh l i) (rat l i).kind))/\w'=w):=fun w=>refLoose_any _ _ _ w
     have HL0:Hid (lev0 l i=lev opn loose l (up l i)+if loose (rat l (up l i)).kind (wh l i) (rat l i).kind then 1 else 0):=by show _=_;unfold lev0;rw [if_neg hi0]
     have hlu:0<=lev opn loose l (up l i)/\lev opn loose l (up l i)<=5864062014640:=by have h1:=lev_le (fits_all l (up l i));have h2:=HN.out;omega
     clear hup hul hi0 c0 c1
     generalize loose (rat l (up l i)).kind (wh l i) (rat l i).kind=lb at *
     generalize lev opn loose l (up l i)=lu at *
     generalize (rat l (up l i)).kind=ku at *
     generalize (rat l i).kind=ki at *
     go_wp2_with fail
     refine wp_region_kin (by kernel_rfl) (by kernel_rfl) ?_
     iterate 17 quiet_step (fail)
     iterate 1 quiet_step (exact kin_same (HLo.out _))
     refine wpQuiet_nil ?_
     rintro _ ⟨z,rfl⟩
     have HZ:Hid (Below wr.heap.size wr z.u):=z.ok
     generalize z.u=wz at *
     clear y1 y2 y3 y4 hne a1 a2 a3
     cases lb
     all_goals go_wp2_with fail
     all_goals go_meet
     all_goals exact ⟨by rw [HL0.out];simp,HZ.out⟩
   case rest=>
    obtain ⟨rfl,hBc⟩:=hcut
    have HP3:Hid (Lev3 w l gd i wc):=HP2.out.below hBc
    have d0:wc.cell? ⟨g,o+i * 5,none⟩=some (.int .i64 (rat l i).kind):=(hBc.cell (p:=⟨g,o+i * 5,none⟩) hg).trans c0
    have hb0:0<=lev0 l i/\lev0 l i<=5864062014640:=by
     have h1:=HL.out
     have h2:=opn_two (rat l i).kind
     have h3:=HN.out
     have h4:0<=lev0 l i:=by
      unfold lev0
      split
      ·exact Int.le_refl _
      ·have h5:=lev_le (fits_all l (up l i));split<;>omega
     omega
    have HKo:Hid (opn (rat l i).kind=if (rat l i).kind=1\/(rat l i).kind=11\/(rat l i).kind=26\/(rat l i).kind=38\/(rat l i).kind=39\/(rat l i).kind=40\/(rat l i).kind=41\/(rat l i).kind=42\/(rat l i).kind=31\/(rat l i).kind=32\/(rat l i).kind=35\/(rat l i).kind=36\/(rat l i).kind=37 then 1 else 0):=rfl
    clear hBc a1 c0
    generalize (rat l i).kind=ki at *
    generalize opn ki=ok at *
    generalize lev0 l i=l0 at *
    go_upto_block 2 with fail
    go_cut [8] (fun c wx=>c=.int .i64 (lev opn loose l i)/\wx=wc)
    case first=>
     go_wp2_with fail
     all_goals go_meet
     all_goals refine ⟨?_,rfl⟩
     all_goals rw [HL.out.1,HKo.out]
     all_goals simp only [beq_iff_eq,beq_eq_false_iff_ne,ne_eq] at *
     all_goals simp [*]
    case rest=>
     obtain ⟨rfl,hw⟩:=hcut
     subst hw
     have HL2:Hid (0<=lev opn loose l i/\lev opn loose l i<=2 * i+2):=HL.out.2
     have HM2:Hid (mx opn loose l (i+1)=if mx opn loose l i < lev opn loose l i then lev opn loose l i else mx opn loose l i):=rfl
     have HS:Hid (Lev3 w l gd (i+1) (wc.setCell ⟨gd,i,none⟩ (.int .i64 (lev opn loose l i)))):=by
      refine ⟨HP3.out.u.other (by show w.heap.size ≠ gd;have:=HB1.out;omega) _,HP3.out.v.other (by show w.heap.size+1 ≠ gd;have:=HB1.out;omega) _,(HP3.out.d.set i _).ext fun q hq=>?_,HP3.out.b.setCell (p:=⟨gd,i,none⟩) (by have:=HB1.out;show w.heap.size<=gd;omega) _⟩
      by_cases e:q=i
      ·subst e
       rw [if_pos rfl,if_pos (by omega)]
      ·rw [if_neg e]
       by_cases e2:q < i
       ·rw [if_pos e2,if_pos (by omega)]
       ·rw [if_neg e2,if_neg (by omega)]
     have a3:=HP3.out.d.cell hlt
     have a4:=HP3.out.d.frozen i
     generalize (if i < i then lev opn loose l i else 0)=y at a3
     clear HL HKo hb0 d0
     generalize lev opn loose l i=lv at *
     generalize mx opn loose l i=mo at *
     clear hlt
     by_cases hm:mo < lv
     ·rw [if_pos hm] at HM2
      go_wp2_with fail
      go_roundg (l.length - (i+1))
      case measure=>have h1:=HG.out;omega
      case rel=>exact ⟨i+1,by omega,rfl,by rw [HM2.out],by go_num,HS.out⟩
     ·rw [if_neg hm] at HM2
      go_wp2_with fail
      go_roundg (l.length - (i+1))
      case measure=>have h1:=HG.out;omega
      case rel=>exact ⟨i+1,by omega,rfl,by rw [HM2.out],by go_num,HS.out⟩
  ·have hlt':¬ ((i:Int) < (l.length:Int)):=by omega
   have hie:i=l.length:=by omega
   have HB9:Hid (Below w.heap.size w wr):=HP2.out.b
   clear hlt
   subst hie
   go_wp2_with fail
   go_ret
   exact ⟨rfl,HB9.out⟩
end Go.Proofs.YtfgpbdieaflclaaGreat.Gr
