import Derived.Test.YtbledbjcghaanaaGreatL22
import Derived.Test.YtbledbjcghaanaaGreatTl
import Derived.Deep.DeepCutAuto
import Derived.Deep.CutBlock
set_option maxHeartbeats 12800000
set_option maxRecDepth 100000
namespace Go.Proofs.YtbledbjcghaanaaGreat.Gr
open Go.RowKit Sp Lx
def fu (l:List Rz) (i k p:Nat):Int:=if p=0 then -1 else if up l p < i\/(up l p=i/\wh l p < k) then (up l p:Int) else 0
def fw (l:List Rz) (i k p:Nat):Int:=if p=0 then 0 else if up l p < i\/(up l p=i/\wh l p < k) then (wh l p:Int) else 0
theorem f_iff {l:List Rz} (h:Whole l) {i k q:Nat} (h0:0 < q) (hq:q < l.length) (hne:q ≠ kidp l i k):(up l q < i\/(up l q=i/\wh l q < k+1)) ↔ (up l q < i\/(up l q=i/\wh l q < k)):=by
 have h1:=(up_at h h0 hq).1;constructor
 ·rintro (h2 | ⟨h2,h3⟩)
  ·exact Or.inl h2
  ·refine Or.inr ⟨h2,?_⟩;rcases Nat.lt_or_ge (wh l q) k with h4 | h4
   ·exact h4
   ·have:wh l q=k:=by omega
    rw [h2,this] at h1;exact absurd h1.symm hne
 ·rintro (h2 | ⟨h2,h3⟩)
  ·exact Or.inl h2
  ·exact Or.inr ⟨h2,by omega⟩
theorem fu_step {l:List Rz} (h:Whole l) {i k:Nat} (hi:i < l.length) (hk:k < km l i) (q:Nat) (hq:q < l.length):(if q=kidp l i k then (i:Int) else fu l i k q)=fu l i (k+1) q:=by
 obtain ⟨e1,e2⟩:=up_kid h hi hk;have h3:=(kid_at h hi hk).2.2;by_cases e:q=kidp l i k
 ·rw [if_pos e];unfold fu;rw [if_neg (by omega),if_pos (Or.inr ⟨by rw [e];exact e1,by rw [e,e2];omega⟩),e,e1]
 ·rw [if_neg e];unfold fu;by_cases h0:q=0
  ·rw [if_pos h0,if_pos h0]
  ·rw [if_neg h0,if_neg h0];simp only [f_iff h (by omega) hq e]
theorem fw_step {l:List Rz} (h:Whole l) {i k:Nat} (hi:i < l.length) (hk:k < km l i) (q:Nat) (hq:q < l.length):(if q=kidp l i k then (k:Int) else fw l i k q)=fw l i (k+1) q:=by
 obtain ⟨e1,e2⟩:=up_kid h hi hk;have h3:=(kid_at h hi hk).2.2;by_cases e:q=kidp l i k
 ·rw [if_pos e];unfold fw;rw [if_neg (by omega),if_pos (Or.inr ⟨by rw [e];exact e1,by rw [e,e2];omega⟩),e,e2]
 ·rw [if_neg e];unfold fw;by_cases h0:q=0
  ·rw [if_pos h0,if_pos h0]
  ·rw [if_neg h0,if_neg h0];simp only [f_iff h (by omega) hq e]
theorem f_done {l:List Rz} (h:Whole l) {i q:Nat} (h0:0 < q) (hq:q < l.length):(up l q < i\/(up l q=i/\wh l q < km l i)) ↔ (up l q < i+1\/(up l q=i+1/\wh l q < 0)):=by
 have h1:=(up_at h h0 hq).2.1;constructor
 ·rintro (h2 | ⟨h2,h3⟩)<;>left<;>omega
 ·rintro (h2 | ⟨h2,h3⟩)
  ·rcases Nat.lt_or_ge (up l q) i with h4 | h4
   ·exact Or.inl h4
   ·have:up l q=i:=by omega
    rw [this] at h1;exact Or.inr ⟨this,h1⟩
  ·omega
theorem fu_done {l:List Rz} (h:Whole l) {i q:Nat} (hq:q < l.length):fu l i (km l i) q=fu l (i+1) 0 q:=by
 unfold fu;by_cases h0:q=0
 ·rw [if_pos h0,if_pos h0]
 ·rw [if_neg h0,if_neg h0];simp only [f_done h (by omega) hq]
theorem fw_done {l:List Rz} (h:Whole l) {i q:Nat} (hq:q < l.length):fw l i (km l i) q=fw l (i+1) 0 q:=by
 unfold fw;by_cases h0:q=0
 ·rw [if_pos h0,if_pos h0]
 ·rw [if_neg h0,if_neg h0];simp only [f_done h (by omega) hq]
def upv (l:List Rz) (p:Nat):Int:=if p=0 then -1 else (up l p:Int)
theorem fu_all {l:List Rz} (h:Whole l) {q:Nat} (hq:q < l.length):fu l l.length 0 q=upv l q:=by
 unfold fu upv;by_cases h0:q=0
 ·rw [if_pos h0,if_pos h0]
 ·have:=(up_at h (by omega) hq).2.2.1
  rw [if_neg h0,if_neg h0,if_pos (Or.inl (by omega))]
theorem fw_all {l:List Rz} (h:Whole l) {q:Nat} (hq:q < l.length):fw l l.length 0 q=(wh l q:Int):=by
 unfold fw;by_cases h0:q=0
 ·rw [if_pos h0,h0];rfl
 ·have:=(up_at h (by omega) hq).2.2.1
  rw [if_neg h0,if_pos (Or.inl (by omega))]
structure Par3 (w0:World) (l:List Rz) (ge i k:Nat) (wr:World):Prop where
 u:RowI wr w0.heap.size l.length (fu l i k)
 v:RowI wr (w0.heap.size+1) l.length (fw l i k)
 e:RowI wr ge l.length (fun i=>(endp l i:Int))
 b:Below w0.heap.size w0 wr
theorem parents_any (ao:Option Addr) (l:List Rz) (cap:Nat) (w:World) (h:IsRz w ao l) (hn:l.length<=2932031007317) (hT:TreeZ l) (h0:0 < l.length):
  Calls Tryz.prog 144 #[.slice ao l.length cap] w fun e w'=>e=.returned (.tuple #[.slice (pZ w.heap.size) l.length l.length,.slice (pZ (w.heap.size+1)) l.length l.length]) /\
   RowI w' w.heap.size l.length (upv l)/\RowI w' (w.heap.size+1) l.length (fun p=>(wh l p:Int))/\Below w.heap.size w w':=by
 obtain ⟨M,hmk,hM⟩:=mk_ints l.length hn;have hb1:Below w.heap.size w (w.alloc (.cells M 3)):=bAl w _;have hb2:Below w.heap.size w ((w.alloc (.cells M 3)).alloc (.cells M 3)):=hb1.alloc hb1.size _;have HE:=show Hid (Calls Tryz.prog 95 #[.slice ao l.length cap] ((w.alloc (.cells M 3)).alloc (.cells M 3)) fun e w'=>∃ g,e=.returned (.slice (pZ g) l.length l.length)/\((w.alloc (.cells M 3)).alloc (.cells M 3)).heap.size<=g/\RowI w' g l.length (fun i=>(endp l i:Int))/\Below ((w.alloc (.cells M 3)).alloc (.cells M 3)).heap.size ((w.alloc (.cells M 3)).alloc (.cells M 3)) w') from
  ends_any ao l cap _ (h.below hb2) hn hT
 have HU:Hid (RowI ((w.alloc (.cells M 3)).alloc (.cells M 3)) w.heap.size l.length (fun _=>0)):=(hM w).of_block (Below.heap_alloc _ _ _ (by simp))
 have HV:Hid (RowI ((w.alloc (.cells M 3)).alloc (.cells M 3)) (w.heap.size+1) l.length (fun _=>0)):=by
  have:=hM (w.alloc (.cells M 3));rw [World.size_alloc] at this;exact this
 have HB2:Hid (Below w.heap.size w ((w.alloc (.cells M 3)).alloc (.cells M 3))):=hb2;have hz2:((w.alloc (.cells M 3)).alloc (.cells M 3)).heap.size=w.heap.size+2:=by simp
 have HZ2:Hid (((w.alloc (.cells M 3)).alloc (.cells M 3)).heap.size=w.heap.size+2):=hz2;have HI:Hid (IsRz w ao l):=h;have HN:Hid (l.length<=2932031007317):=hn;have HT:Hid (TreeZ l):=hT;have hln:(l.length:Int)<=2932031007317:=by omega
 have h0':(0:Int) < (l.length:Int):=by omega
 clear h hn hT hM hb1 hb2 hz2;go_enter Tryz.func144,Tryz.ntmps144;go_wp2_with fail;refine HE.out.mono ?_;rintro e w3 ⟨ge,rfl,hge,hRe,hB3⟩;rw [HZ2.out] at hge hB3;have hU3:=HU.out.below hB3 (by omega)
 have hV3:=HV.out.below hB3 (by omega)
 have hc:=hU3.cell h0;have hf:=hU3.frozen 0;have hP0:Par3 w l ge 0 0 (w3.setCell ⟨w.heap.size,0,none⟩ (I (-1))):=by
  refine ⟨(hU3.set 0 (-1)).ext fun i _=>?_,(hV3.other (by simp) _).ext fun i _=>?_,hRe.other (by show ge ≠ w.heap.size;omega) _,(HB2.out.trans (hB3.mono (by omega))).setCell (p:=⟨w.heap.size,0,none⟩) (Nat.le_refl _) _⟩
  ·unfold fu;by_cases e:i=0
   ·rw [if_pos e,if_pos e]
   ·rw [if_neg e,if_neg e,if_neg (by omega)]
  ·unfold fw;by_cases e:i=0
   ·rw [if_pos e]
   ·rw [if_neg e,if_neg (by omega)]
 have HP0:Hid (Par3 w l ge 0 0 (w3.setCell ⟨w.heap.size,0,none⟩ (I (-1)))):=hP0;have HGe:Hid (w.heap.size+2<=ge):=hge;clear hRe hB3 hU3 hV3 hP0 hge hmk;go_wp2_with fail
 go_loopg [7] l.length (fun gq x wr=>∃ i:Nat,i<=l.length/\gq=l.length - i/\x=I i/\Par3 w l ge i 0 wr)
 case atStart=>exact ⟨0,Nat.zero_le _,rfl,rfl,HP0.out⟩
 case round=>
  obtain ⟨i,hi,hgk,rfl,hP⟩:=hrel;have HG:Hid (gk=l.length - i):=hgk;have HP:Hid (Par3 w l ge i 0 wr):=hP;clear hgk hP hc hf;by_cases hlt:i < l.length
  ·have hlt':(i:Int) < (l.length:Int):=by omega
   have HKm:Hid (km l i<=l.length):=km_le HT.out.whole hlt;have hkm:(km l i:Int)<=2932031007317:=by have h1:=HKm.out;have h2:=HN.out;omega
   go_wp2_with fail
   go_loopg [8,9] (km l i) (fun gq nx kk wr=>∃ k:Nat,k<=km l i/\gq=km l i - k/\nx=I (kidp l i k:Int)/\kk=I k/\Par3 w l ge i k wr)
   case atStart=>exact ⟨0,Nat.zero_le _,rfl,by rw [kid_zero];go_num,rfl,HP.out⟩
   case round=>
    obtain ⟨k,hk,hgk,rfl,rfl,hP⟩:=hrel;have HG2:Hid (gk=km l i - k):=hgk;have HP2:Hid (Par3 w l ge i k wr):=hP;clear hgk hP;have hkl:(kidp l i k:Int)<=2932031007317:=by have h1:=kid_le HT.out.whole hlt hk;have h2:=HN.out;omega
    obtain ⟨g,o,rfl,hg,c0,c4⟩:=kids_at (HI.out.below HP2.out.b) HT.out hlt;by_cases hlk:k < km l i
    ·obtain ⟨h1,h2,h3⟩:=kid_at HT.out.whole hlt hlk;have hlk':(k:Int) < (km l i:Int):=by omega
     have h1':(kidp l i k:Int) < (l.length:Int):=by omega
     have hr1:=HP2.out.u.set (kidp l i k) i;have hr2:=HP2.out.v.other (a:=⟨w.heap.size,kidp l i k,none⟩) (by simp) (I i)
     have hr3:=HP2.out.e.other (a:=⟨w.heap.size,kidp l i k,none⟩) (by show ge ≠ w.heap.size;have:=HGe.out;omega) (I i)
     have hs1:=hr1.other (a:=⟨w.heap.size+1,kidp l i k,none⟩) (by simp) (I k)
     have hs2:=hr2.set (kidp l i k) k;have hs3:=hr3.other (a:=⟨w.heap.size+1,kidp l i k,none⟩) (by show ge ≠ w.heap.size+1;have:=HGe.out;omega) (I k)
     have a1:=HP2.out.u.cell h1;have a2:=HP2.out.u.frozen (kidp l i k);have a3:=hr2.cell h1;have a4:=hr2.frozen (kidp l i k);have a5:=hs3.cell h1;have HP3:Hid (Par3 w l ge i (k+1) ((wr.setCell ⟨w.heap.size,kidp l i k,none⟩ (I i)).setCell ⟨w.heap.size+1,kidp l i k,none⟩ (I k))):=
      ⟨hs1.ext fun q hq=>fu_step HT.out.whole hlt hlk q hq,hs2.ext fun q hq=>fw_step HT.out.whole hlt hlk q hq,hs3,(HP2.out.b.setCell (p:=⟨w.heap.size,kidp l i k,none⟩) (Nat.le_refl _) _).setCell (p:=⟨w.heap.size+1,kidp l i k,none⟩) (Nat.le_succ _) _⟩
     have HN2:Hid (kidp l i (k+1)=endp l (kidp l i k)):=h2;have hge1:ge < wr.heap.size:=HP2.out.e.lt;clear hr1 hr2 hr3 hs1 hs2 hs3 h1 h2 h3 hlk hk;generalize fu l i k (kidp l i k)=y1 at a1;generalize fw l i k (kidp l i k)=y2 at a3;go_wp2_with fail;go_roundg (km l i - (k+1))
     case measure=>have h1:=HG2.out;omega
     case rel=>exact ⟨k+1,by omega,rfl,by rw [HN2.out],by go_num,HP3.out⟩
    ·have hlk':¬ ((k:Int) < (km l i:Int)):=by omega
     have hke:k=km l i:=by omega
     have HP3:Hid (Par3 w l ge (i+1) 0 wr):=by
      obtain ⟨q1,q2,q3,q4⟩:=HP2.out;rw [hke] at q1 q2;exact ⟨q1.ext fun q hq=>fu_done HT.out.whole hq,q2.ext fun q hq=>fw_done HT.out.whole hq,q3,q4⟩
     clear hke hlk hk;go_wp2_with fail;go_roundg (l.length - (i+1))
     case measure=>have h1:=HG.out;omega
     case rel=>exact ⟨i+1,by omega,rfl,by go_num,HP3.out⟩
  ·have hlt':¬ ((i:Int) < (l.length:Int)):=by omega
   have hie:i=l.length:=by omega
   have HF:Hid (Par3 w l ge l.length 0 wr):=by rw [hie] at HP;exact HP
   clear hie hlt;go_wp2_with fail
   go_ret2
   exact ⟨rfl,HF.out.u.ext fun q hq=>fu_all HT.out.whole hq,HF.out.v.ext fun q hq=>fw_all HT.out.whole hq,HF.out.b⟩
theorem isExpr_any (k:Int) (w:World):Calls Tryz.prog 160 #[I k] w fun e w'=>e=.returned (.bool (decide (27<=k/\k<=54)))/\w'=w:=by
 by_cases h1:27<=k
 ·go_enter Tryz.func160,Tryz.ntmps160
  go_wp2
  all_goals go_ret
  all_goals exact ⟨by simp [h1],rfl⟩
 ·go_enter Tryz.func160,Tryz.ntmps160
  go_wp2
  all_goals go_ret
  all_goals exact ⟨by simp;omega,rfl⟩
theorem rank_any (k:Int) (w:World):Calls Tryz.prog 154 #[I k] w fun e w'=>e=.returned (I (rank k:Nat))/\w'=w:=by
 have HE:Hid (∀ w,Calls Tryz.prog 160 #[I k] w fun e w'=>e=.returned (.bool (decide (27<=k/\k<=54)))/\w'=w):=fun w=>isExpr_any k w;go_enter Tryz.func154,Tryz.ntmps154;go_wp2_with (go_at_call 160;refine (HE.out _).mono ?_;rintro e w' ⟨rfl,rfl⟩)
 all_goals go_ret
 all_goals refine ⟨?_,rfl⟩
 all_goals simp only [beq_iff_eq,beq_eq_false_iff_ne,ne_eq] at *
 all_goals unfold rank
 all_goals repeat' split
 all_goals first
  | rfl
  | (exfalso;omega)
theorem refLoose_any (p k d:Int) (w:World):Calls Tryz.prog 145 #[I p,I k,I d] w fun e w'=>e=.returned (.bool (loose p k d))/\w'=w:=by
 rw [<-loose_same];have HL:Hid (refLoose p k d=if rank p=0\/rank d=0\/rank p=7 then false else if rank p=6 then decide (rank d < 6) else (decide (rank d < rank p) || (rank d == rank p && (k == 1 || rank p == 3)))):=rfl;have H1:Hid (∀ w,Calls Tryz.prog 154 #[I p] w fun e w'=>e=.returned (I (rank p:Nat))/\w'=w):=fun w=>rank_any p w;have H2:Hid (∀ w,Calls Tryz.prog 154 #[I d] w fun e w'=>e=.returned (I (rank d:Nat))/\w'=w):=fun w=>rank_any d w;generalize refLoose p k d=res at *;generalize rank p=a at *;generalize rank d=b at *;by_cases hz:a=0\/b=0\/a=7
 ·have HRes:Hid (res=false):=by show _=_;rw [HL.out,if_pos hz]
  clear HL;by_cases ha:a=0
  ·have q1:((a:Int) == 0)=true:=by simp;omega
   have HQ:=hdn <| And.intro hz (ha);clear hz ha;go_enter Tryz.func145,Tryz.ntmps145;go_wp2_with fail;refine (H1.out _).mono ?_;rintro e w' ⟨rfl,rfl⟩;go_wp2_with fail;refine (H2.out _).mono ?_;rintro e w' ⟨rfl,rfl⟩;go_wp2
   all_goals go_ret
   all_goals refine ⟨?_,rfl⟩
   all_goals rw [HRes.out]
   all_goals first
    | rfl
    | (have hq:=HQ.out;simp at *;omega)
  ·have q1:((a:Int) == 0)=false:=by simp;omega
   by_cases hb:b=0
   rotate_right
   focus
    have q2:((b:Int) == 0)=false:=by simp;omega
    have q3:((a:Int) == 7)=true:=by simp;omega
   rotate_right
   focus
    have q2:((b:Int) == 0)=true:=by simp;omega
   all_goals
    have HQ:=hdn <| And.intro hz (And.intro ha (hb));clear hz ha hb;go_enter Tryz.func145,Tryz.ntmps145;go_wp2_with fail;refine (H1.out _).mono ?_;rintro e w' ⟨rfl,rfl⟩;go_wp2_with fail;refine (H2.out _).mono ?_;rintro e w' ⟨rfl,rfl⟩;go_wp2
    all_goals go_ret
    all_goals refine ⟨?_,rfl⟩
    all_goals rw [HRes.out]
    all_goals first
     | rfl
     | (have hq:=HQ.out;simp at *;omega)
 ·have q1:((a:Int) == 0)=false:=by simp;omega
  have q2:((b:Int) == 0)=false:=by simp;omega
  have q3:((a:Int) == 7)=false:=by simp;omega
  by_cases h6:a=6
  ·have q4:((a:Int) == 6)=true:=by simp;omega
   have HRes:Hid (res=decide ((b:Int) < 6)):=by show _=_;rw [HL.out,if_neg hz,if_pos h6,decide_eq_decide];omega
   have HQ:=hdn <| And.intro hz (h6);clear hz h6 HL;go_enter Tryz.func145,Tryz.ntmps145;go_wp2_with fail;refine (H1.out _).mono ?_;rintro e w' ⟨rfl,rfl⟩;go_wp2_with fail;refine (H2.out _).mono ?_;rintro e w' ⟨rfl,rfl⟩;go_wp2
   all_goals go_ret
   all_goals refine ⟨?_,rfl⟩
   all_goals rw [HRes.out]
   all_goals first
    | rfl
    | (have hq:=HQ.out;simp at *;omega)
  ·have q4:((a:Int) == 6)=false:=by simp;omega
   have HR0:Hid (res=(decide (b < a) || (b == a && (k == 1 || a == 3)))):=by show _=_;rw [HL.out,if_neg hz,if_neg h6]
   clear hz h6 HL;by_cases hlt:b < a
   ·have q5:decide ((b:Int) < (a:Int))=true:=by simp;omega
    have HRes:Hid (res=true):=by show _=_;rw [HR0.out];simp [hlt]
    have HQ:=hdn <| hlt;clear hlt HR0;go_enter Tryz.func145,Tryz.ntmps145;go_wp2_with fail;refine (H1.out _).mono ?_;rintro e w' ⟨rfl,rfl⟩;go_wp2_with fail;refine (H2.out _).mono ?_;rintro e w' ⟨rfl,rfl⟩;go_wp2
    all_goals go_ret
    all_goals refine ⟨?_,rfl⟩
    all_goals rw [HRes.out]
    all_goals first
     | rfl
     | (have hq:=HQ.out;simp at *;omega)
   ·have q5:decide ((b:Int) < (a:Int))=false:=by simp;omega
    by_cases hab:b=a
    ·have q6:((b:Int) == (a:Int))=true:=by simp;omega
     by_cases hk:k=1
     ·have q7:(k == 1)=true:=by simp [hk]
      have HRes:Hid (res=true):=by show _=_;rw [HR0.out];simp [hab,hk]
      have HQ:=hdn <| And.intro hlt (And.intro hab (hk));clear hlt HR0 hab hk;go_enter Tryz.func145,Tryz.ntmps145;go_wp2_with fail;refine (H1.out _).mono ?_;rintro e w' ⟨rfl,rfl⟩;go_wp2_with fail;refine (H2.out _).mono ?_;rintro e w' ⟨rfl,rfl⟩;go_wp2
      all_goals go_ret
      all_goals refine ⟨?_,rfl⟩
      all_goals rw [HRes.out]
      all_goals first
       | rfl
       | (have hq:=HQ.out;simp at *;omega)
     ·have q7:(k == 1)=false:=by simp [hk]
      by_cases h3:a=3
      rotate_right
      focus
       have q8:((a:Int) == 3)=false:=by simp;omega
       have HRes:Hid (res=false):=by show _=_;rw [HR0.out];simp [hab,hk,h3]
      rotate_right
      focus
       have q8:((a:Int) == 3)=true:=by simp;omega
       have HRes:Hid (res=true):=by show _=_;rw [HR0.out];simp [hab,h3]
      all_goals
       have HQ:=hdn <| And.intro hlt (And.intro hab (And.intro hk (h3)));clear hlt HR0 hab hk h3;go_enter Tryz.func145,Tryz.ntmps145;go_wp2_with fail;refine (H1.out _).mono ?_;rintro e w' ⟨rfl,rfl⟩;go_wp2_with fail;refine (H2.out _).mono ?_;rintro e w' ⟨rfl,rfl⟩;go_wp2
       all_goals go_ret
       all_goals refine ⟨?_,rfl⟩
       all_goals rw [HRes.out]
       all_goals first
        | rfl
        | (have hq:=HQ.out;simp at *;omega)
    ·have q6:((b:Int) == (a:Int))=false:=by simp;omega
     have HRes:Hid (res=false):=by show _=_;rw [HR0.out];simp [hab,hlt]
     have HQ:=hdn <| And.intro hlt (hab);clear hlt HR0 hab;go_enter Tryz.func145,Tryz.ntmps145;go_wp2_with fail;refine (H1.out _).mono ?_;rintro e w' ⟨rfl,rfl⟩;go_wp2_with fail;refine (H2.out _).mono ?_;rintro e w' ⟨rfl,rfl⟩;go_wp2
     all_goals go_ret
     all_goals refine ⟨?_,rfl⟩
     all_goals rw [HRes.out]
     all_goals first
      | rfl
      | (have hq:=HQ.out;simp at *;omega)
theorem fits_all (l:List Rz) (k:Nat):Fits l k:=by
 induction k with
 | zero=>exact fits_zero l
 | succ k ih=>exact fits_succ l ih
def lev0 (l:List Rz) (i:Nat):Int:=if i=0 then 0 else lev opn loose l (up l i)+if loose (rat l (up l i)).kind (wh l i) (rat l i).kind then 1 else 0
theorem lev_parts {l:List Rz} (h:Whole l) {i:Nat} (hi:i < l.length):lev opn loose l i=lev0 l i+opn (rat l i).kind:=by
 unfold lev0;by_cases h0:i=0
 ·subst h0;rw [if_pos rfl,lev_zero];have:loose 0 0 (rat l 0).kind=false:=by unfold loose;rw [if_pos (by decide)]
  rw [this];simp
 ·rw [if_neg h0,lev_up opn loose h (by omega) hi]
  omega
structure Lev3 (w0:World) (l:List Rz) (go i:Nat) (wr:World):Prop where
 u:RowI wr w0.heap.size l.length (upv l)
 v:RowI wr (w0.heap.size+1) l.length (fun p=>(wh l p:Int))
 d:RowI wr go l.length (fun p=>if p < i then lev opn loose l p else 0)
 b:Below w0.heap.size w0 wr
theorem Lev3.below {w0:World} {l:List Rz} {go i:Nat} {wr wx:World} (h:Lev3 w0 l go i wr) (hb:Below wr.heap.size wr wx):Lev3 w0 l go i wx:=
 ⟨h.u.below hb h.u.lt,h.v.below hb h.v.lt,h.d.below hb h.d.lt,h.b.trans (hb.mono h.b.size)⟩
theorem refLevels_any (ao:Option Addr) (l:List Rz) (cap:Nat) (w:World) (h:IsRz w ao l) (hn:l.length<=2932031007317) (hT:TreeZ l) (h0:0 < l.length):
  Calls Tryz.prog 126 #[.slice ao l.length cap] w fun e w'=>e=.returned (I (mx opn loose l l.length))/\Below w.heap.size w w':=by
 obtain ⟨M,hmk,hM⟩:=mk_ints l.length hn;have HM:Hid (∀ u:World,RowI (u.alloc (.cells M 3)) u.heap.size l.length (fun _=>0)):=hM;have HN:Hid (l.length<=2932031007317):=hn;have HT:Hid (TreeZ l):=hT;have HI:Hid (IsRz w ao l):=h;have HP:=show Hid (Calls Tryz.prog 144 #[.slice ao l.length cap] w fun e w'=>e=.returned (.tuple #[.slice (pZ w.heap.size) l.length l.length,.slice (pZ (w.heap.size+1)) l.length l.length]) /\
   RowI w' w.heap.size l.length (upv l)/\RowI w' (w.heap.size+1) l.length (fun p=>(wh l p:Int))/\Below w.heap.size w w') from parents_any ao l cap w h hn hT h0
 have hln:(l.length:Int)<=2932031007317:=by omega
 clear h hn hT hM;go_enter Tryz.func126,Tryz.ntmps126;go_wp2_with fail;refine HP.out.mono ?_;rintro e w1 ⟨rfl,hU,hV,hB⟩;have hD:Lev3 w l w1.heap.size 0 (w1.alloc (.cells M 3)):=
  ⟨hU.of_block (Below.heap_alloc _ _ _ hU.lt),hV.of_block (Below.heap_alloc _ _ _ hV.lt),(HM.out w1).ext fun i _=>by rw [if_neg (by omega)],hB.alloc hB.size _⟩
 have HD:Hid (Lev3 w l w1.heap.size 0 (w1.alloc (.cells M 3))):=hD;have HB1:Hid (w.heap.size+1 < w1.heap.size):=hV.lt;clear hU hV hB hD;go_wp2_with fail;generalize w1.heap.size=gd at *
 go_loopg [6,7] l.length (fun gq mo x wr=>∃ i:Nat,i<=l.length/\gq=l.length - i/\mo=I (mx opn loose l i)/\x=I i/\Lev3 w l gd i wr)
 case atStart=>exact ⟨0,Nat.zero_le _,rfl,rfl,rfl,HD.out⟩
 case round=>
  obtain ⟨i,hi,hgk,rfl,rfl,hP⟩:=hrel;have HG:Hid (gk=l.length - i):=hgk;have HP2:Hid (Lev3 w l gd i wr):=hP;clear hgk hP hmk;by_cases hlt:i < l.length
  ·have hlt':(i:Int) < (l.length:Int):=by omega
   have HL:Hid (lev opn loose l i=lev0 l i+opn (rat l i).kind/\0<=lev opn loose l i/\lev opn loose l i<=2 * i+2):=⟨lev_parts HT.out.whole hlt,lev_le (fits_all l i)⟩;have a1:=HP2.out.u.cell hlt;obtain ⟨g,o,rfl,hg,c0,_⟩:=kids_at (HI.out.below HP2.out.b) HT.out hlt
   go_upto_if 27 with fail
   go_cut [8] (fun c wx=>c=I (lev0 l i)/\Below wr.heap.size wr wx)
   case first=>
    by_cases hi0:i=0
    ·subst hi0;unfold upv at a1;rw [if_pos rfl] at a1;go_wp2_with fail;go_meet;exact ⟨rfl,Below.refl _ _⟩
    ·have hq:(0:Int)<=upv l i:=by unfold upv;rw [if_neg hi0];omega
     unfold upv at a1;rw [if_neg hi0] at a1;have hup:=(up_at HT.out.whole (Nat.pos_of_ne_zero hi0) hlt).2.2.1;have hul:up l i < l.length:=by omega
     have hul':(up l i:Int) < (l.length:Int):=by omega
     have hu0:(0:Int)<=(up l i:Int):=by omega
     have a2:=HP2.out.d.cell hul;rw [if_pos hup] at a2;have a3:=HP2.out.v.cell hlt;obtain ⟨g',o',he,_,c1,_⟩:=kids_at (HI.out.below HP2.out.b) HT.out hul;cases he;have y1:∀ y:Kin wr,y.u.cell? ⟨w.heap.size,i,none⟩=some (I (up l i:Int)):=fun y=>y.cell (a:=⟨w.heap.size,i,none⟩) HP2.out.u.lt a1;have y2:∀ y:Kin wr,y.u.cell? ⟨g,o+up l i * 5,none⟩=some (I (rat l (up l i)).kind):=fun y=>y.cell (a:=⟨g,o+up l i * 5,none⟩) hg c1;have y3:∀ y:Kin wr,y.u.cell? ⟨w.heap.size+1,i,none⟩=some (I (wh l i:Int)):=fun y=>y.cell (a:=⟨w.heap.size+1,i,none⟩) HP2.out.v.lt a3;have y4:∀ y:Kin wr,y.u.cell? ⟨g,o+i * 5,none⟩=some (I (rat l i).kind):=fun y=>y.cell (a:=⟨g,o+i * 5,none⟩) hg c0;have hne:Nonempty (Kin wr):=Kin.there _;have HLo:Hid (∀ w,Calls Tryz.prog 145 #[I (rat l (up l i)).kind,I (wh l i:Int),I (rat l i).kind] w fun e w'=>e=.returned (.bool (loose (rat l (up l i)).kind (wh l i) (rat l i).kind))/\w'=w):=fun w=>refLoose_any _ _ _ w;have HL0:Hid (lev0 l i=lev opn loose l (up l i)+if loose (rat l (up l i)).kind (wh l i) (rat l i).kind then 1 else 0):=by show _=_;unfold lev0;rw [if_neg hi0]
     have hlu:0<=lev opn loose l (up l i)/\lev opn loose l (up l i)<=5864062014640:=by have h1:=lev_le (fits_all l (up l i));have h2:=HN.out;omega
     clear hup hul hi0 c0 c1;generalize loose (rat l (up l i)).kind (wh l i) (rat l i).kind=lb at *;generalize lev opn loose l (up l i)=lu at *;generalize (rat l (up l i)).kind=ku at *;generalize (rat l i).kind=ki at *;go_wp2_with fail;refine wp_region_kin (by kernel_rfl) (by kernel_rfl) ?_
     iterate 17 quiet_step (fail)
     iterate 1 quiet_step (exact kin_same (HLo.out _))
     refine wpQuiet_nil ?_;rintro _ ⟨z,rfl⟩;have HZ:Hid (Below wr.heap.size wr z.u):=z.ok;generalize z.u=wz at *;clear y1 y2 y3 y4 hne a1 a2 a3;cases lb
     all_goals go_wp2_with fail
     all_goals go_meet
     all_goals exact ⟨by rw [HL0.out];simp,HZ.out⟩
   case rest=>
    obtain ⟨rfl,hBc⟩:=hcut;have HP3:Hid (Lev3 w l gd i wc):=HP2.out.below hBc;have d0:wc.cell? ⟨g,o+i * 5,none⟩=some (I (rat l i).kind):=(hBc.cell (p:=⟨g,o+i * 5,none⟩) hg).trans c0;have hb0:0<=lev0 l i/\lev0 l i<=5864062014640:=by
     have h1:=HL.out;have h2:=opn_two (rat l i).kind;have h3:=HN.out;have h4:0<=lev0 l i:=by
      unfold lev0
      split
      ·exact Int.le_refl _
      ·have h5:=lev_le (fits_all l (up l i));split<;>omega
     omega
    have HKo:Hid (opn (rat l i).kind=if (rat l i).kind=1\/(rat l i).kind=11\/(rat l i).kind=26\/(rat l i).kind=38\/(rat l i).kind=39\/(rat l i).kind=40\/(rat l i).kind=41\/(rat l i).kind=42\/(rat l i).kind=31\/(rat l i).kind=32\/(rat l i).kind=35\/(rat l i).kind=36\/(rat l i).kind=37 then 1 else 0):=rfl;clear hBc a1 c0;generalize (rat l i).kind=ki at *;generalize opn ki=ok at *;generalize lev0 l i=l0 at *
    go_upto_block 2 with fail
    go_cut [8] (fun c wx=>c=I (lev opn loose l i)/\wx=wc)
    case first=>
     go_wp2_with fail
     all_goals go_meet
     all_goals refine ⟨?_,rfl⟩
     all_goals rw [HL.out.1,HKo.out]
     all_goals simp only [beq_iff_eq,beq_eq_false_iff_ne,ne_eq] at *
     all_goals simp [*]
    case rest=>
     obtain ⟨rfl,hw⟩:=hcut;subst hw;have HL2:Hid (0<=lev opn loose l i/\lev opn loose l i<=2 * i+2):=HL.out.2;have HM2:Hid (mx opn loose l (i+1)=if mx opn loose l i < lev opn loose l i then lev opn loose l i else mx opn loose l i):=rfl;have HS:Hid (Lev3 w l gd (i+1) (wc.setCell ⟨gd,i,none⟩ (I (lev opn loose l i)))):=by
      refine ⟨HP3.out.u.other (by show w.heap.size ≠ gd;have:=HB1.out;omega) _,HP3.out.v.other (by show w.heap.size+1 ≠ gd;have:=HB1.out;omega) _,(HP3.out.d.set i _).ext fun q hq=>?_,HP3.out.b.setCell (p:=⟨gd,i,none⟩) (by have:=HB1.out;show w.heap.size<=gd;omega) _⟩
      by_cases e:q=i
      ·subst e;rw [if_pos rfl,if_pos (by omega)]
      ·rw [if_neg e];by_cases e2:q < i
       ·rw [if_pos e2,if_pos (by omega)]
       ·rw [if_neg e2,if_neg (by omega)]
     have a3:=HP3.out.d.cell hlt;have a4:=HP3.out.d.frozen i;generalize (if i < i then lev opn loose l i else 0)=y at a3;clear HL HKo hb0 d0;generalize lev opn loose l i=lv at *;generalize mx opn loose l i=mo at *;clear hlt;by_cases hm:mo < lv
     ·rw [if_pos hm] at HM2;go_wp2_with fail;go_roundg (l.length - (i+1))
      case measure=>have h1:=HG.out;omega
      case rel=>exact ⟨i+1,by omega,rfl,by rw [HM2.out],by go_num,HS.out⟩
     ·rw [if_neg hm] at HM2;go_wp2_with fail;go_roundg (l.length - (i+1))
      case measure=>have h1:=HG.out;omega
      case rel=>exact ⟨i+1,by omega,rfl,by rw [HM2.out],by go_num,HS.out⟩
  ·have hlt':¬ ((i:Int) < (l.length:Int)):=by omega
   have hie:i=l.length:=by omega
   have HB9:Hid (Below w.heap.size w wr):=HP2.out.b;clear hlt;subst hie;go_wp2_with fail;go_ret;exact ⟨rfl,HB9.out⟩
def stands (k a:Int):Bool:=
 if a=0 then k == 1 else if a=1 then isDecl k || isEvent k else if a=2 then k == 11 else if a=3 then isDoing k else if a=4 then k == 11 || k == 12
 else if a=5 then k == 25 || k == 26 else if a=6 then k == 24 else isEx k
def kidw (d s:Int):Int:=
 if d=1 then 1 else if d=11 then 3 else if d=7\/d=8\/d=9\/d=10 then 2 else if d=19\/d=20 then 6 else if d=38 then 5
 else if d=12 then (if s=1 then 2 else if s=2 then 4 else 7) else if d=13 then (if s=2 then 2 else 7) else if d=15 then (if s=0 then 5 else 7) else 7
def mostk (k:Int):Int:=if k=1\/k=11 then -1 else greatest k
theorem refIsDecl_any (k:Int) (w:World):Calls Tryz.prog 142 #[I k] w fun e w'=>e=.returned (.bool (isDecl k))/\w'=w:=by
 by_cases h1:2<=k
 ·go_enter Tryz.func142,Tryz.ntmps142
  go_wp2
  all_goals go_ret
  all_goals exact ⟨by simp [isDecl,wtn,h1],rfl⟩
 ·go_enter Tryz.func142,Tryz.ntmps142
  go_wp2
  all_goals go_ret
  all_goals exact ⟨by simp [isDecl,wtn];omega,rfl⟩
theorem refIsEvent_any (k:Int) (w:World):Calls Tryz.prog 143 #[I k] w fun e w'=>e=.returned (.bool (isEvent k))/\w'=w:=by
 by_cases h1:8<=k
 ·go_enter Tryz.func143,Tryz.ntmps143
  go_wp2
  all_goals go_ret
  all_goals exact ⟨by simp [isEvent,wtn,h1],rfl⟩
 ·go_enter Tryz.func143,Tryz.ntmps143
  go_wp2
  all_goals go_ret
  all_goals exact ⟨by simp [isEvent,wtn];omega,rfl⟩
theorem refIsDoing_any (k:Int) (w:World):Calls Tryz.prog 159 #[I k] w fun e w'=>e=.returned (.bool (isDoing k))/\w'=w:=by
 by_cases h1:11<=k
 ·go_enter Tryz.func159,Tryz.ntmps159
  go_wp2
  all_goals go_ret
  all_goals exact ⟨by simp [isDoing,wtn,h1],rfl⟩
 ·go_enter Tryz.func159,Tryz.ntmps159
  go_wp2
  all_goals go_ret
  all_goals exact ⟨by simp [isDoing,wtn];omega,rfl⟩
theorem refIsEx_any (k:Int) (w:World):Calls Tryz.prog 160 #[I k] w fun e w'=>e=.returned (.bool (isEx k))/\w'=w:=by
 have:isEx k=decide (27<=k/\k<=54):=by simp [isEx,wtn]
 rw [this];exact isExpr_any k w
theorem refNamed_any (k:Int) (w:World):Calls Tryz.prog 151 #[I k] w fun e w'=>e=.returned (.bool (nmd k))/\w'=w:=by
 have HN:Hid (nmd k=(k == 1 || k == 2 || k == 3 || k == 4 || k == 5 || k == 7 || k == 8 || k == 9 || k == 14 || k == 15 || k == 22 || k == 28 || k == 38 || k == 31 || k == 32 || k == 35 || k == 36 || k == 37 || decide (0 < lastEnd k))):=rfl;generalize nmd k=R at *;go_enter Tryz.func151,Tryz.ntmps151;go_wp2
 all_goals go_ret
 all_goals refine ⟨?_,rfl⟩
 all_goals rw [HN.out]
 all_goals simp only [beq_iff_eq,beq_eq_false_iff_ne,ne_eq] at *
 all_goals simp [lastEnd, *]
theorem refEnded_any (k:Int) (w:World):Calls Tryz.prog 150 #[I k] w fun e w'=>e=.returned (.bool (lastEnd k == 1))/\w'=w:=by
 go_enter Tryz.func150,Tryz.ntmps150
 go_wp2
 all_goals go_ret
 all_goals refine ⟨?_,rfl⟩
 all_goals simp only [beq_iff_eq,beq_eq_false_iff_ne,ne_eq] at *
 all_goals simp [lastEnd, *]
theorem many_any (k:Int) (w:World):Calls Tryz.prog 153 #[I k] w fun e w'=>e=.returned (.tuple #[I (least k:Nat),I (mostk k)])/\w'=w:=by
 have HR:Hid (ruleOf k < 6 ↔ (43<=k/\k<=54)):=by
  show _ ↔ _
  unfold ruleOf
  repeat' split
  all_goals omega
 go_enter Tryz.func153,Tryz.ntmps153
 go_wp2
 all_goals go_ret2
 all_goals refine ⟨?_,rfl⟩
 all_goals simp only [beq_iff_eq,beq_eq_false_iff_ne,ne_eq] at *
 all_goals first
  | (simp [least,greatest,mostk, *];done)
  | (have hr:=HR.out
     by_cases hq:ruleOf k < 6
     ·first
       | (exfalso;omega)
       | (clear hr;simp [least,greatest,mostk, *])
     ·first
       | (exfalso;omega)
       | (clear hr;simp [least,greatest,mostk, *]))
theorem kidw_any (d s:Int) (w:World):Calls Tryz.prog 140 #[I d,I s] w fun e w'=>e=.returned (I (kidw d s))/\w'=w:=by
 go_enter Tryz.func140,Tryz.ntmps140
 go_wp2
 all_goals go_ret
 all_goals refine ⟨?_,rfl⟩
 all_goals simp only [beq_iff_eq,beq_eq_false_iff_ne,ne_eq] at *
 all_goals simp [kidw, *]
theorem stands_any (k a:Int) (w:World):Calls Tryz.prog 149 #[I k,I a] w fun e w'=>e=.returned (.bool (stands k a))/\w'=w:=by
 have HS:Hid (stands k a=if a=0 then k == 1 else if a=1 then isDecl k || isEvent k else if a=2 then k == 11 else if a=3 then isDoing k else if a=4 then k == 11 || k == 12
  else if a=5 then k == 25 || k == 26 else if a=6 then k == 24 else isEx k):=rfl
 generalize stands k a=R at *;have H1:Hid (∀ w,Calls Tryz.prog 142 #[I k] w fun e w'=>e=.returned (.bool (isDecl k))/\w'=w):=fun w=>refIsDecl_any k w;have H2:Hid (∀ w,Calls Tryz.prog 143 #[I k] w fun e w'=>e=.returned (.bool (isEvent k))/\w'=w):=fun w=>refIsEvent_any k w;have H3:Hid (∀ w,Calls Tryz.prog 159 #[I k] w fun e w'=>e=.returned (.bool (isDoing k))/\w'=w):=fun w=>refIsDoing_any k w;have H4:Hid (∀ w,Calls Tryz.prog 160 #[I k] w fun e w'=>e=.returned (.bool (isEx k))/\w'=w):=fun w=>refIsEx_any k w;generalize isDecl k=b1 at *;generalize isEvent k=b2 at *;generalize isDoing k=b3 at *;generalize isEx k=b4 at *;go_enter Tryz.func149,Tryz.ntmps149;cases b1
 all_goals go_wp2_with (first
  | (go_at_call 142;refine (H1.out _).mono ?_;rintro e w' ⟨rfl,rfl⟩)
  | (go_at_call 143;refine (H2.out _).mono ?_;rintro e w' ⟨rfl,rfl⟩)
  | (go_at_call 159;refine (H3.out _).mono ?_;rintro e w' ⟨rfl,rfl⟩)
  | (go_at_call 160;refine (H4.out _).mono ?_;rintro e w' ⟨rfl,rfl⟩))
 all_goals go_ret
 all_goals refine ⟨?_,rfl⟩
 all_goals rw [HS.out]
 all_goals simp only [beq_iff_eq,beq_eq_false_iff_ne,ne_eq] at *
 all_goals simp [*]
end Go.Proofs.YtbledbjcghaanaaGreat.Gr
