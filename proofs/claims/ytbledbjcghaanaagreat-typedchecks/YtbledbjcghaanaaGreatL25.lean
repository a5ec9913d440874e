import Derived.Test.YtbledbjcghaanaaGreatL24
import Derived.Test.YtbledbjcghaanaaGreatTl
import Derived.Deep.DeepCutAuto
set_option maxHeartbeats 25600000
set_option maxRecDepth 100000
namespace Go.Proofs.YtbledbjcghaanaaGreat.Lx
open Go.RowKit Sp
theorem sub_any (s:ByteArray) (l h:Nat) (L H:Int) (hL:L=(l:Int)) (hH:H=(h:Int)) (h1:l<=h) (h2:h<=s.size) (w:World):(Instr.slice 9 (.string s) (some (I L)) (some (I H)) none).run Tryz.prog w=.ok (.string (s.extract l h)) w:=by
 subst hL hH;have:=run_slice_string (P:=Tryz.prog) w 9 s .i64 .i64 (l:Int) (h:Int) Tryz.underlying9 (by omega) (by omega) (by omega)
 simpa using this
theorem among_any (K t:ByteArray) (w:World) (hK:K.size<=4096) (ht:t.size<=4611686018427387000):
  Calls Tryz.prog 166 #[.string K,.string t] w fun e w'=>e=.returned (.bool (am (tx K) (tx t)))/\w'=w:=by
 have HL:Hid ((tx t).length=t.size/\(tx K).length=K.size):=⟨tx_len t,tx_len K⟩;go_enter Tryz.func166,Tryz.ntmps166;go_wp2
 go_loop [6] (fun i=>∃ k:Nat,k<=t.size/\i=I k/\∀ j,j < k->nb t j ≠ 32) (fun i=>t.size - (intOf i).toNat)
 case atStart=>exact ⟨0,Nat.zero_le _,rfl,fun j hj=>by omega⟩
 case round=>
  obtain ⟨k,hk,rfl,hr⟩:=hrel;have HR:Hid (∀ j,j < k->nb t j ≠ 32):=hr;clear hr;by_cases hlt:k < t.size
  ·have hix:=index_any t k _ rfl hlt;by_cases h32:nb t k=32
   ·have hq:((nb t k:Int) == 32)=true:=by simp [h32]
    have HN:Hid (am (tx K) (tx t)=false):=am_blank (i:=k) (by rw [HL.out.1];exact hlt) h32
    clear h32;generalize nb t k=c at *;go_wp2;go_ret;exact ⟨ret_b HN.out.symm,rfl⟩
   ·have hq:((nb t k:Int) == 32)=false:=by simp;omega
    have HN:Hid (∀ j,j < k+1->nb t j ≠ 32):=fun j hj=>by
     by_cases e:j=k
     ·rw [e];exact h32
     ·exact HR.out j (by omega)
    clear h32;generalize nb t k=c at *;go_wp2
    go_round
    case rel=>exact ⟨k+1,by omega,by go_num,HN.out⟩
    case measure=>simp [intOf];omega
  ·obtain rfl:k=t.size:=by omega
   have hd:decide ((t.size:Int) < (t.size:Int))=false:=by simp
   go_wp2;clear hd hlt hk
   go_loop [7] (fun i=>∃ k:Nat,k<=K.size/\i=I k/\∀ j,j < k->¬ Occurs (tx K) (tx t) j) (fun i=>K.size - (intOf i).toNat)
   case atStart=>exact ⟨0,Nat.zero_le _,rfl,fun j hj=>by omega⟩
   case round=>
    obtain ⟨k,hk,rfl,hr⟩:=hrel;have HO:Hid (∀ j,j < k->¬ Occurs (tx K) (tx t) j):=hr;clear hr;by_cases hin:k+t.size+2<=K.size
    ·have HI:Hid (Occurs (tx K) (tx t) k ↔ (nb K k=32/\nb K (k+t.size+1)=32/\(K.extract (k+1) (k+t.size+1)).toList=t.toList)):=by
      have h1:=occurs_iff (K:=tx K) (t:=tx t) (i:=k) (by rw [HL.out.1,HL.out.2];exact hin)
      rw [HL.out.1] at h1;show _ ↔ _;rw [h1];refine and_congr Iff.rfl (and_congr Iff.rfl ?_);have h2:((tx K).drop (k+1)).take t.size=tx (K.extract (k+1) (k+t.size+1)):=by
       rw [tx_extract,show k+t.size+1 - (k+1)=t.size by omega]
      rw [h2,tx_toList,tx_toList];exact List.map_inj_right (fun x y e=>UInt8.toNat_inj.1 e)
     have HN:Hid (¬ Occurs (tx K) (tx t) k->∀ j,j < k+1->¬ Occurs (tx K) (tx t) j):=fun h1 j hj=>by
      by_cases e:j=k
      ·rw [e];exact h1
      ·exact HO.out j (by omega)
     have hx1:=index_any K k _ rfl (by omega)
     have hx2:=index_any K (k+t.size+1) ((k:Int)+((t.size:Int)+2) - 1) (by omega) (by omega)
     have hx3:=sub_any K (k+1) (k+t.size+1) ((k:Int)+1) ((k:Int)+((t.size:Int)+2) - 1) (by omega) (by omega) (by omega) (by omega)
     have hle:(k:Int)+((t.size:Int)+2)<=(K.size:Int):=by omega
     generalize K.extract (k+1) (k+t.size+1)=X at *;generalize nb K k=c at *;generalize nb K (k+t.size+1)=d at *;by_cases h1:c=32
     ·have q1:((c:Int) == 32)=true:=by simp;omega
      by_cases h2:d=32
      ·have q2:((d:Int) == 32)=true:=by simp;omega
       by_cases h3:X.toList=t.toList
       ·have q3:(X.toList == t.toList)=true:=by simp [h3]
        have HA:Hid (am (tx K) (tx t)=decide (0 < (tx t).length)):=am_hit (fun j hj=>HR.out j (by rw [HL.out.1] at hj;exact hj)) (HI.out.2 ⟨h1,h2,h3⟩)
        clear h1 h2 h3;go_wp2;go_ret;exact ⟨ret_b (by rw [HA.out,HL.out.1,Bool.eq_iff_iff]),rfl⟩
       ·have q3:(X.toList == t.toList)=false:=by simpa using h3
        have HM:Hid (∀ j,j < k+1->¬ Occurs (tx K) (tx t) j):=HN.out fun h=>h3 (HI.out.1 h).2.2;clear h1 h2 h3;go_wp2
        go_round
        case rel=>exact ⟨k+1,by omega,by go_num,HM.out⟩
        case measure=>simp [intOf];omega
      ·have q2:((d:Int) == 32)=false:=by simp;omega
       have HM:Hid (∀ j,j < k+1->¬ Occurs (tx K) (tx t) j):=HN.out fun h=>h2 (HI.out.1 h).2.1;clear h1 h2 hx3;go_wp2
       go_round
       case rel=>exact ⟨k+1,by omega,by go_num,HM.out⟩
       case measure=>simp [intOf];omega
     ·have q1:((c:Int) == 32)=false:=by simp;omega
      have HM:Hid (∀ j,j < k+1->¬ Occurs (tx K) (tx t) j):=HN.out fun h=>h1 (HI.out.1 h).1;clear h1 hx2 hx3;go_wp2
      go_round
      case rel=>exact ⟨k+1,by omega,by go_num,HM.out⟩
      case measure=>simp [intOf];omega
    ·have HA:Hid (am (tx K) (tx t)=false):=am_none (fun j hj=>HR.out j (by rw [HL.out.1] at hj;exact hj)) fun i hi=>by
      have h1:=occurs_len hi;rw [HL.out.1,HL.out.2] at h1;exact HO.out i (by omega) hi
     have hd:decide ((k:Int)+((t.size:Int)+2)<=(K.size:Int))=false:=by simp;omega
     go_wp2;go_ret;exact ⟨ret_b HA.out.symm,rfl⟩
theorem am_kept (t:List Nat):am keptText t=kp t:=by
 unfold am kp;rw [inner_kept,Bool.eq_iff_iff];simp only [Bool.and_eq_true,decide_eq_true_eq,List.contains_iff_mem];constructor
 ·exact fun h=>h.2
 ·intro h;have h1:=shaped_of_kept (t:=t) (by simpa using h)
  refine ⟨⟨?_,?_⟩,h⟩
  ·cases t with
   | nil=>cases h1.1
   | cons=>simp
  ·cases t with
   | nil=>rfl
   | cons c r=>
    simp only [shaped,Bool.and_eq_true] at h1;refine List.all_eq_true.2 fun x hx=>?_;have h2:isW x=true:=by
     rcases List.mem_cons.1 hx with rfl | h3
     ·exact isL_W _ h1.1.1
     ·exact List.all_eq_true.1 h1.1.2 x h3
    by_cases e:x=32
    ·subst e;cases h2
    ·simpa using e
theorem among_at (K t:ByteArray) (k:List Nat) (w:World) (h:tx K=k/\K.size<=4096) (ht:t.size<=4611686018427387000):
  Calls Tryz.prog 166 #[.string K,.string t] w fun e w'=>e=.returned (.bool (am k (tx t)))/\w'=w:=by
 rw [<-h.1];exact among_any K t w h.2 ht
theorem refIs_any (s:ByteArray) (w:World) (hs:s.size<=4611686018427387000):Calls Tryz.prog 162 #[.string s] w fun e w'=>e=.returned (.bool (kp (tx s)))/\w'=w:=by
 rw [<-am_kept];go_enter Tryz.func162,Tryz.ntmps162;go_wp2_with fail;refine (among_at _ s keptText _ (by decide +kernel) hs).mono ?_
 rintro e w' ⟨rfl,rfl⟩;go_wp2;go_ret;exact ⟨rfl,rfl⟩
theorem shp_shaped (s:ByteArray):(shp s s.size && decide (0 < s.size))=shaped (tx s):=by
 by_cases h:0 < s.size
 ·have e:tx s=nb s 0 :: (tx s).drop 1:=by have:=tx_drop h;simpa using this
  rw [e,Bool.eq_iff_iff];simp only [shaped,Bool.and_eq_true,decide_eq_true_eq,h,and_true];have hl:((tx s).drop 1).length=s.size - 1:=drop_len s 1;have hg:∀ i (hi:i < ((tx s).drop 1).length),((tx s).drop 1)[i]=nb s (i+1):=fun i hi=>by
   have hi2:1+i < (tx s).length:=by rw [tx_len];omega
   rw [List.getElem_drop,nb,List.getD,show i+1=1+i by omega,List.getElem?_eq_getElem hi2]
   rfl
  constructor
  ·intro h1;unfold shp at h1;have h2:=List.all_eq_true.1 h1;refine ⟨by have:=h2 0 (by simp;omega);simpa using this,List.all_eq_true.2 fun c hc=>?_⟩
   obtain ⟨i,hi,rfl⟩:=List.getElem_of_mem hc;have:=h2 (i+1) (by simp;omega)
   rw [hg]
   simpa [isW] using this
  ·rintro ⟨h1,h2⟩;unfold shp;refine List.all_eq_true.2 fun i hi=>?_;cases i with
   | zero=>simp [h1]
   | succ i=>
    have hi2:i < ((tx s).drop 1).length:=by simp at hi;omega
    have:=List.all_eq_true.1 h2 _ (List.getElem_mem hi2);rw [hg] at this
    simpa [isW] using this
 ·have e:tx s=[]:=by
   apply List.eq_nil_of_length_eq_zero
   rw [tx_len];omega
  rw [e];simp [shaped,h]
theorem refIsName_any (s:ByteArray) (w:World) (hs:s.size<=4611686018427387000):Calls Tryz.prog 152 #[.string s] w fun e w'=>e=.returned (.bool (isName (tx s)))/\w'=w:=by
 have HF:Hid (isName (tx s)=(decide (s.size<=64) && shaped (tx s) && !kp (tx s))):=by
  show _=_
  unfold isName kp;rw [tx_len]
 generalize isName (tx s)=z at *;have HS:Hid (∀ w,Calls Tryz.prog 161 #[.string s] w fun e w'=>e=.returned (.bool (shaped (tx s)))/\w'=w):=fun w=>by
  have:=shaped_any s w (by omega)
  rw [shp_shaped] at this;exact this
 have HI:Hid (∀ w,Calls Tryz.prog 162 #[.string s] w fun e w'=>e=.returned (.bool (kp (tx s)))/\w'=w):=fun w=>refIs_any s w hs;generalize shaped (tx s)=y at *;generalize kp (tx s)=x at *;by_cases h64:s.size<=64
 ·cases y with
  | false=>
   go_enter Tryz.func152,Tryz.ntmps152
   go_wp2_with (first | (go_at_call 161;refine (HS.out _).mono ?_;rintro e w' ⟨rfl,rfl⟩) | (go_at_call 162;refine (HI.out _).mono ?_;rintro e w' ⟨rfl,rfl⟩))
   go_ret;exact ⟨ret_b (by rw [HF.out];simp),rfl⟩
  | true=>
   go_enter Tryz.func152,Tryz.ntmps152
   go_wp2_with (first | (go_at_call 161;refine (HS.out _).mono ?_;rintro e w' ⟨rfl,rfl⟩) | (go_at_call 162;refine (HI.out _).mono ?_;rintro e w' ⟨rfl,rfl⟩))
   go_ret;exact ⟨ret_b (by rw [HF.out];simp [h64]),rfl⟩
 ·have hd:decide ((s.size:Int)<=64)=false:=by simp;omega
  go_enter Tryz.func152,Tryz.ntmps152
  go_wp2_with (first | (go_at_call 161;refine (HS.out _).mono ?_;rintro e w' ⟨rfl,rfl⟩) | (go_at_call 162;refine (HI.out _).mono ?_;rintro e w' ⟨rfl,rfl⟩))
  go_ret;exact ⟨ret_b (by rw [HF.out];simp [h64]),rfl⟩
end Go.Proofs.YtbledbjcghaanaaGreat.Lx
namespace Go.Proofs.YtbledbjcghaanaaGreat.Gr
open Go.RowKit Sp Lx
theorem lastEnd_two (k:Int):lastEnd k=0\/lastEnd k=1:=by unfold lastEnd;split<;>simp
theorem mostk_two (k:Int):(mostk k=-1/\greatest k=9223372036854775807)\/(mostk k=greatest k/\0<=greatest k):=by
 unfold mostk;by_cases h:k=1\/k=11
 ·rw [if_pos h];unfold greatest;rw [if_pos h];exact Or.inl ⟨rfl,rfl⟩
 ·rw [if_neg h];unfold greatest;refine Or.inr ⟨rfl,?_⟩
  repeat' split
  all_goals omega
theorem bool_four (a b c d e:Bool):(a && (c && (b && (d && e))))=((a && b) && (c && (d && e))):=by cases a<;>cases b<;>cases c<;>rfl
theorem bad_one {st:Bool} {e le:Int} (h:le=0\/le=1):(!(st && wtn e 0 le))=(!st || (decide (e < 0) || (decide (1 < e) || (e == 1 && !(le == 1))))):=by
 unfold wtn;cases st
 ·rfl
 ·rw [Bool.eq_iff_iff];simp;omega
theorem right_any (r:Rz) (a:Int) (w:World) (hk:r.kids<=9223372036854775807) (hz:r.name.size<=4611686018427387000):Calls Tryz.prog 141 #[agr r,I a] w fun e w'=>e=.returned (.bool (stands r.kind a && filled r))/\Below w.heap.size w w':=by
 obtain ⟨k,s,e,n,m⟩:=r;have H1:Hid (∀ w,Calls Tryz.prog 149 #[I k,I a] w fun e' w'=>e'=.returned (.bool (stands k a))/\w'=w):=fun w=>stands_any k a w;have H2:Hid (∀ w,Calls Tryz.prog 150 #[I k] w fun e' w'=>e'=.returned (.bool (lastEnd k == 1))/\w'=w):=fun w=>refEnded_any k w;have H3:Hid (∀ w,Calls Tryz.prog 151 #[I k] w fun e' w'=>e'=.returned (.bool (nmd k))/\w'=w):=fun w=>refNamed_any k w;have H4:Hid (∀ w,Calls Tryz.prog 152 #[.string s] w fun e' w'=>e'=.returned (.bool (isName (tx s)))/\w'=w):=fun w=>refIsName_any s w hz;have H5:Hid (∀ w,Calls Tryz.prog 153 #[I k] w fun e' w'=>e'=.returned (.tuple #[I (least k:Nat),I (mostk k)])/\w'=w):=fun w=>many_any k w;have HF:Hid ((stands k a && filled ⟨k,s,e,n,m⟩)=((stands k a && wtn e 0 (lastEnd k)) && ((if nmd k then isName (tx s) else none0 s) && (wtn n 0 (lastNum k) && wtn m (least k:Nat) (greatest k))))):=bool_four _ _ _ _ _;have HLN:Hid (lastNum k=if k=27 then 1073741824 else 0):=rfl;have HLE:Hid ((!(stands k a && wtn e 0 (lastEnd k)))=(!stands k a || (decide (e < 0) || (decide (1 < e) || (e == 1 && !(lastEnd k == 1)))))):=bad_one (lastEnd_two k);have HMK:=hdn <| mostk_two k;have HKM:Hid (m<=9223372036854775807):=hk;have hn0:(s.toList == ([]:List UInt8))=none0 s:=rfl;have hn1:(s.toList != ([]:List UInt8))=!none0 s:=rfl;simp only;generalize (stands k a && filled ⟨k,s,e,n,m⟩)=R at *;generalize (stands k a && wtn e 0 (lastEnd k))=b1 at *;generalize nmd k=nm at *;generalize isName (tx s)=isn at *;generalize none0 s=z0 at *;generalize stands k a=st at *;generalize (lastEnd k == 1)=en at *;generalize least k=lo at *;generalize greatest k=gr at *;generalize mostk k=hi at *;have HB:Hid (Below w.heap.size w (w.alloc (.cells #[I k,.string s,I e,I n,I m] 61))):=bAl w _;clear hk hz;go_enter Tryz.func141,Tryz.ntmps141
 go_upto_region 1 with fail
 go_cut [32] (fun c wx=>c=.bool (!b1)/\wx=(w.alloc (.cells #[I k,.string s,I e,I n,I m] 61)))
 case first=>
  cases hq:(e == 1)
  all_goals go_wp2_with (first
   | (go_at_call 149;refine (H1.out _).mono ?_;rintro e w' ⟨rfl,rfl⟩)
   | (go_at_call 150;refine (H2.out _).mono ?_;rintro e w' ⟨rfl,rfl⟩))
  all_goals go_meet
  all_goals refine ⟨?_,rfl⟩
  all_goals rw [HLE.out]
  all_goals first
   | (simp [*];done)
   | simp [*,Bool.or_assoc]
 case rest=>
  obtain ⟨rfl,rfl⟩:=hcut;cases b1
  ·go_wp2_with fail
   go_ret;exact ⟨by rw [HF.out];simp,HB.out⟩
  ·go_upto_region 3 with fail
   go_cut [52] (fun c wx=>c=.bool (!(if nm then isn else z0))/\wx=(w.alloc (.cells #[I k,.string s,I e,I n,I m] 61)))
   case first=>
    cases nm
    all_goals go_wp2_with (first
     | (go_at_call 151;refine (H3.out _).mono ?_;rintro e w' ⟨rfl,rfl⟩)
     | (go_at_call 152;refine (H4.out _).mono ?_;rintro e w' ⟨rfl,rfl⟩))
    all_goals go_meet
    all_goals refine ⟨?_,rfl⟩
    all_goals simp [*]
   case rest=>
    obtain ⟨rfl,rfl⟩:=hcut;generalize (if nm then isn else z0)=nf at *;cases nf
    ·go_wp2_with fail
     go_ret;exact ⟨by rw [HF.out];simp,HB.out⟩
    ·have h27:(!wtn n 0 (lastNum k))=if k=27 then (decide (n < 0) || decide (1073741824 < n)) else !(n == 0):=by
      rw [HLN.out];unfold wtn;split
      ·rw [Bool.eq_iff_iff];simp<;>omega
      ·rw [Bool.eq_iff_iff];simp<;>omega
     have H27:Hid ((!wtn n 0 (lastNum k))=if k=27 then (decide (n < 0) || decide (1073741824 < n)) else !(n == 0)):=h27;clear h27;generalize wtn n 0 (lastNum k)=wn at *
     go_upto_region 5 with fail
     go_cut [75] (fun c wx=>c=.bool (!wn)/\wx=(w.alloc (.cells #[I k,.string s,I e,I n,I m] 61)))
     case first=>
      by_cases k27:k=27
      ·rw [if_pos k27] at H27;have kb1:(k == 27)=true:=by simp [k27]
       have kb2:(k != 27)=false:=by simp [k27]
       clear k27;go_wp2_with fail
       all_goals go_meet
       all_goals refine ⟨?_,rfl⟩
       all_goals rw [H27.out]
       all_goals simp [*]
      ·rw [if_neg k27] at H27;have kb1:(k == 27)=false:=by simp [k27]
       have kb2:(k != 27)=true:=by simp [k27]
       clear k27;go_wp2_with fail
       all_goals go_meet
       all_goals refine ⟨?_,rfl⟩
       all_goals rw [H27.out]
       all_goals rfl
     case rest=>
      obtain ⟨rfl,rfl⟩:=hcut;cases wn
      ·go_wp2_with fail
       go_ret;exact ⟨by rw [HF.out];simp,HB.out⟩
      ·have HFm:Hid (R=wtn m (lo:Nat) gr):=by show _=_;rw [HF.out];simp
       go_wp2_with (go_at_call 153;refine (H5.out _).mono ?_;rintro e w' ⟨rfl,rfl⟩)
       all_goals go_ret
       all_goals refine ⟨congrArg (fun b=>Ending.returned (Value.bool b)) ?_,HB.out⟩
       all_goals rw [HFm.out]
       all_goals (have h1:=HMK.out;have h2:=HKM.out)
       all_goals (unfold wtn;rw [Bool.eq_iff_iff];simp;omega)
theorem cell_op (w:World) (o:Op3):(w.alloc (.cells #[I o.kind,I o.left,I o.next] 182)).cell? ⟨w.heap.size,0,none⟩=some (I o.kind)/\(w.alloc (.cells #[I o.kind,I o.left,I o.next] 182)).cell? ⟨w.heap.size,2,none⟩=some (I o.next):=by
 constructor
 ·rw [World.cell?,heap_alloc_new];simp
 ·rw [World.cell?,heap_alloc_new];simp
theorem shp_stop {t:List Op3} {ev:Bool} {i:Nat} {r:Rz} {l:List Rz} (h:(stands r.kind (whatOf t) && filled r)=false):shp t ev i (r :: l)=i:=by
 simp only [shp];rw [h];simp
theorem shp_decl {t:List Op3} {ev:Bool} {i:Nat} {r:Rz} {l:List Rz} (h:(stands r.kind (whatOf t) && filled r)=true) (hd:(whatOf t == 1 && (ev && isDecl r.kind))=true):shp t ev i (r :: l)=i:=by
 simp only [shp];rw [h,hd];simp
theorem shp_step {t:List Op3} {ev:Bool} {i:Nat} {r:Rz} {l:List Rz} (h:(stands r.kind (whatOf t) && filled r)=true) (hd:(whatOf t == 1 && (ev && isDecl r.kind))=false):
  shp t ev i (r :: l)=if (rpop (⟨r.kind,r.kids,0⟩ :: rtake t)).isEmpty then (if l.isEmpty then -1 else ((i+1:Nat):Int)) else shp (rpop (⟨r.kind,r.kids,0⟩ :: rtake t)) (if whatOf t == 1 then ev || isEvent r.kind else ev) (i+1) l:=by
 rw [shp,h,hd];simp only [Bool.not_true,Bool.false_eq_true,if_false]
abbrev ShpI (w:World) (l:List Rz) (k:Nat) (v:Value) (t:List Op3) (ev:Bool) (wr:World):Prop:=
 k<=l.length/\OwnO wr w.heap.size v t/\Below w.heap.size w wr/\t.length<=k/\OkO k t/\(∀ o r,t=o :: r->o.left ≠ 0)/\((t=[]/\0 < k/\shp [] false 0 l=-1)\/((k=0\/t ≠ [])/\shp t ev k (l.drop k)=shp [] false 0 l))
theorem shape_any (ao:Option Addr) (l:List Rz) (cap:Nat) (w:World) (h:IsRz w ao l) (hn:l.length<=2932031007317) (hkd:∀ r ∈ l,r.kids<=9223372036854775807/\r.name.size<=4611686018427387000):
  Calls Tryz.prog 125 #[.slice ao l.length cap] w fun e w'=>e=.returned (I (shp [] false 0 l))/\Below w.heap.size w w':=by
 obtain ⟨i0,hi,hz0,hz1,hz2⟩:=info_parts info182;have HIn:=hdn <| And.intro hi (And.intro hz0 (And.intro hz1 hz2));have HI:Hid (IsRz w ao l):=h;have HN:Hid (l.length<=2932031007317):=hn;have HKd:Hid (∀ r ∈ l,r.kids<=9223372036854775807/\r.name.size<=4611686018427387000):=hkd;have hln:(l.length:Int)<=2932031007317:=by omega
 clear h hn hkd hi hz0 hz1 hz2;go_enter Tryz.func125,Tryz.ntmps125;go_wp2_with fail
 go_loopg [3,4,5] (l.length+1) (fun gq x e i wr=>∃ (k:Nat) (v:Value) (t:List Op3) (ev:Bool),v=x/\e=.bool ev/\i=I k/\gq=l.length+1 - k/\ShpI w l k v t ev wr)
 case atStart=>exact ⟨0,_,[],false,rfl,rfl,rfl,rfl,Nat.zero_le _,World.ownsRow_nil _ _ _ _,Below.refl _ _,Nat.le_refl _,fun _ h=>(by cases h),fun _ _ h=>(by cases h),Or.inr ⟨Or.inl rfl,rfl⟩⟩
 case round=>
  obtain ⟨k,v,t,ev,rfl,rfl,rfl,hgk,hk,hOw,hBr,htl,hok,hhd,hst⟩:=hrel;have HG:Hid (gk=l.length+1 - k):=hgk;have HOr:Hid (OwnO wr w.heap.size v t):=hOw;have HBr:Hid (Below w.heap.size w wr):=hBr;have HTL:Hid (t.length<=k/\OkO k t/\k<=l.length/\l.length<=2932031007317):=⟨htl,hok,hk,HN.out⟩;have HHd:Hid (∀ o r,t=o :: r->o.left ≠ 0):=hhd;have hkl:(k:Int)<=2932031007317:=by omega
  have htl':(t.length:Int)<=2932031007317:=by omega
  clear hgk hOw hBr htl hok hk hhd;rcases hst with ⟨rfl,hk0,hfin⟩ | ⟨hkt,hsh⟩
  ·have HF:Hid (shp [] false 0 l=-1):=hfin;have hk0':((k:Int) == 0)=false:=by simp;omega
   obtain ⟨bo,bc,rfl⟩:=own_form HOr.out;simp only [List.length_nil] at *;clear hfin hk0;go_wp2_with fail;go_ret;exact ⟨by rw [HF.out];rfl,HBr.out⟩
  ·have HSh:Hid (shp t ev k (l.drop k)=shp [] false 0 l):=hsh;obtain ⟨bo,bc,rfl⟩:=own_form HOr.out;clear hsh
   go_upto_region 4 with fail
   go_cut [14] (fun c wx=>c=.bool true/\wx=wr)
   case first=>
    cases hkb:((k:Int) == 0)
    ·have htp:0 < t.length:=by
      rcases hkt with h1 | h1
      ·subst h1;simp at hkb
      ·exact List.length_pos_iff.2 h1
     go_wp2_with fail
     go_meet
     exact ⟨rfl,rfl⟩
    ·go_wp2_with fail
     go_meet
     exact ⟨rfl,rfl⟩
   case rest=>
    obtain ⟨rfl,hwc⟩:=hcut;subst hwc;clear hkt
    go_upto_if 19 with fail
    go_cut [6] (fun c wx=>c=I (whatOf t)/\OwnO wx w.heap.size (.slice bo t.length bc) (rtake t)/\Below w.heap.size w wx)
    case first=>
     cases t with
     | nil=>
      simp only [List.length_nil] at *;go_wp2_with fail;go_meet;exact ⟨rfl,HOr.out,HBr.out⟩
     | cons o t=>
      obtain ⟨g,cap2,hv,hbg,hg,hcp,hf,hWc⟩:=own_otop HOr.out;cases hv;have hon:=HTL.out.2.1 o (List.mem_cons_self ..);have hol:=HHd.out o t rfl;have hw1:IntKind.i64.wrap (o.left - 1)=o.left - 1:=by rw [IntKind.wrap_i64];omega
      have hw2:wrap64 (o.left - 1)=o.left - 1:=by unfold wrap64;omega
      have ho2:(o.next:Int)<=2932031007317:=by omega
      have hb1:Below wc.heap.size wc (wc.alloc (.cells #[I o.kind,I o.left,I o.next] 182)):=bAl wc _;obtain ⟨c0,c1,c2⟩:=hWc wc rfl;obtain ⟨d0,d1,d2⟩:=hWc (wc.alloc (.cells #[I o.kind,I o.left,I o.next] 182)) (hb1.block g hg);have f1:∀ j,(wc.alloc (.cells #[I o.kind,I o.left,I o.next] 182)).frozen? ⟨g,j,none⟩=false:=fun j=>(World.frozen?_of_block (a:=⟨g,j,none⟩) (hb1.block g hg)).trans (hf j);obtain ⟨n0,n2⟩:=cell_op wc o;obtain ⟨ht1,ht2,ht3,ht4⟩:=own_take HOr.out;have hz1:(wc.setCell ⟨g,t.length * 3+2,none⟩ (I ((o.next:Int)+1))).heap.size=wc.heap.size:=by simp
      have hz2:((wc.setCell ⟨g,t.length * 3+2,none⟩ (I ((o.next:Int)+1))).setCell ⟨g,t.length * 3+1,none⟩ (I (o.left - 1))).heap.size=wc.heap.size:=by simp
      have f2:∀ j,((wc.setCell ⟨g,t.length * 3+2,none⟩ (I ((o.next:Int)+1))).alloc (.cells #[I o.kind,I o.left,I o.next] 182)).frozen? ⟨g,j,none⟩=false:=fun j=>
       (World.frozen?_of_block (a:=⟨g,j,none⟩) (Below.heap_alloc _ _ _ (by rw [hz1];exact hg))).trans (ht3 j)
      have d1':((wc.setCell ⟨g,t.length * 3+2,none⟩ (I ((o.next:Int)+1))).alloc (.cells #[I o.kind,I o.left,I o.next] 182)).cell? ⟨g,t.length * 3+1,none⟩=some (I o.left):=
       (World.cell?_of_block (a:=⟨g,t.length * 3+1,none⟩) (Below.heap_alloc _ _ _ (by rw [hz1];exact hg))).trans ht4
      have HE:Hid (OwnO (((wc.setCell ⟨g,t.length * 3+2,none⟩ (I ((o.next:Int)+1))).setCell ⟨g,t.length * 3+1,none⟩ (I (o.left - 1))).alloc (.cells #[I o.kind,I o.left,I o.next] 182)) w.heap.size (.slice (pZ g) (t.length+1) bc) (rtake (o :: t)) /\
       Below w.heap.size w (((wc.setCell ⟨g,t.length * 3+2,none⟩ (I ((o.next:Int)+1))).setCell ⟨g,t.length * 3+1,none⟩ (I (o.left - 1))).alloc (.cells #[I o.kind,I o.left,I o.next] 182))):=by
       have hb2:Below wc.heap.size ((wc.setCell ⟨g,t.length * 3+2,none⟩ (I ((o.next:Int)+1))).setCell ⟨g,t.length * 3+1,none⟩ (I (o.left - 1))) (((wc.setCell ⟨g,t.length * 3+2,none⟩ (I ((o.next:Int)+1))).setCell ⟨g,t.length * 3+1,none⟩ (I (o.left - 1))).alloc (.cells #[I o.kind,I o.left,I o.next] 182)):=(Below.refl _ _).alloc (by rw [hz2];exact Nat.le_refl _) _
       have hb3:=hb2;rw [<-hz2] at hb3;exact ⟨own_below ht1 hb3,HBr.out.trans ((ht2.below hb3).low (fun j hj=>(World.ownsRow.lt HOr.out j hj).1) HBr.out.size)⟩
      have HKw:Hid (∀ w,Calls Tryz.prog 140 #[I o.kind,I o.next] w fun e w'=>e=.returned (I (kidw o.kind o.next))/\w'=w):=fun w=>kidw_any o.kind o.next w;have HWo:Hid (whatOf (o :: t)=kidw o.kind o.next):=rfl;have htl3:(t.length:Int)<=2932031007317:=by simp only [List.length_cons] at htl';omega
      simp only [List.length_cons] at *;clear hWc hf hb1 ht1 ht2 ht3 ht4 hz1 hz2 hon hol;clear htl' hcp hbg;go_wp2_with (go_at_call 140;refine (HKw.out _).mono ?_;rintro e w' ⟨rfl,rfl⟩);go_meet;exact ⟨by rw [HWo.out],HE.out⟩
    case rest=>
     obtain ⟨rfl,hO1,hB1⟩:=hcut;have HO1:Hid (OwnO wc w.heap.size (.slice bo t.length bc) (rtake t)):=hO1;have HB1:Hid (Below w.heap.size w wc):=hB1;clear hO1 hB1;by_cases hlt:k < l.length
     ·have hlt':(k:Int) < (l.length:Int):=by omega
      obtain ⟨r,g,o,hdr,hlk,rfl,hg,c0,c1,c2,c3,c4⟩:=rows_at (HI.out.below HB1.out) hlt;have HDr:Hid (l.drop k=r :: l.drop (k+1)):=hdr;have hrm:r ∈ l:=List.mem_of_getElem? hlk;have HR:Hid (Calls Tryz.prog 141 #[.agg #[I r.kind,.string r.name,I r.stop,I r.n,I r.kids],I (whatOf t)] wc fun e w'=>e=.returned (.bool (stands r.kind (whatOf t) && filled r))/\Below wc.heap.size wc w'):=right_any r (whatOf t) wc (HKd.out r hrm).1 (HKd.out r hrm).2;have HRk:Hid (r.kids<=9223372036854775807):=(HKd.out r hrm).1;clear hdr hlk hrm;go_wp2_with fail;refine HR.out.mono ?_;rintro e w5 ⟨rfl,hB5⟩;have HB5:Hid (Below w.heap.size w w5):=HB1.out.trans (hB5.mono HB1.out.size);have HO5:Hid (OwnO w5 w.heap.size (.slice bo t.length bc) (rtake t)):=own_below HO1.out hB5;have d0:w5.cell? ⟨g,o+k * 5,none⟩=some (I r.kind):=(hB5.cell (p:=⟨g,o+k * 5,none⟩) hg).trans c0;have d4:w5.cell? ⟨g,o+k * 5+4,none⟩=some (I r.kids):=(hB5.cell (p:=⟨g,o+k * 5+4,none⟩) hg).trans c4;clear hB5 c0 c1 c2 c3 c4 HR;cases hs:(stands r.kind (whatOf t) && filled r)
      ·have HE:Hid (shp [] false 0 l=(k:Int)):=by show _=_;rw [<-HSh.out,HDr.out,shp_stop hs]
       clear hs;go_wp2_with fail;go_ret;exact ⟨by rw [HE.out];rfl,HB5.out⟩
      ·have HD1:Hid (∀ w,Calls Tryz.prog 142 #[I r.kind] w fun e w'=>e=.returned (.bool (isDecl r.kind))/\w'=w):=fun w=>refIsDecl_any r.kind w;have HD2:Hid (∀ w,Calls Tryz.prog 143 #[I r.kind] w fun e w'=>e=.returned (.bool (isEvent r.kind))/\w'=w):=fun w=>refIsEvent_any r.kind w;cases hd:(whatOf t == 1 && (ev && isDecl r.kind))
       ·have HStep:Hid (shp [] false 0 l=if (rpop (⟨r.kind,r.kids,0⟩ :: rtake t)).isEmpty then (if (l.drop (k+1)).isEmpty then -1 else ((k+1:Nat):Int)) else shp (rpop (⟨r.kind,r.kids,0⟩ :: rtake t)) (if whatOf t == 1 then ev || isEvent r.kind else ev) (k+1) (l.drop (k+1))):=by
         show _=_
         rw [<-HSh.out,HDr.out,shp_step hs hd]
        have HOk:Hid (OkO (k+1) (rpop (⟨r.kind,r.kids,0⟩ :: rtake t))/\(rpop (⟨r.kind,r.kids,0⟩ :: rtake t)).length<=k+1):=by
         rw [Bool.and_eq_true] at hs;refine ⟨ok_pop fun x hx=>?_,?_⟩
         ·rcases List.mem_cons.1 hx with rfl | hx
          ·exact ⟨filled_kids hs.2,HRk.out,Nat.zero_le _⟩
          ·exact ok_take HTL.out.2.1 HHd.out x hx
         ·have h1:=rpop_len (⟨r.kind,r.kids,0⟩ :: rtake t);have h2:=rtake_len t;have h3:=HTL.out.1;simp only [List.length_cons] at h1;omega
        clear hs;generalize hev:(if whatOf t == 1 then ev || isEvent r.kind else ev)=ev2 at *
        go_upto_if 66 with fail
        go_cut [4] (fun c wx=>c=.bool ev2/\wx=w5)
        case first=>
         cases hw:(whatOf t == 1)
         ·rw [hw] at hev;go_wp2_with fail;go_meet;exact ⟨by rw [<-hev];rfl,rfl⟩
         ·rw [hw] at hev hd;cases ev
          ·go_wp2_with (go_at_call 143;refine (HD2.out _).mono ?_;rintro e w' ⟨rfl,rfl⟩)
           go_meet
           exact ⟨by rw [<-hev];rfl,rfl⟩
          ·have hdd:isDecl r.kind=false:=by simpa using hd
           rw [hdd] at HD1;clear hd hdd;go_wp2_with (go_at_call 142;refine (HD1.out _).mono ?_;rintro e w' ⟨rfl,rfl⟩);go_meet;exact ⟨by rw [<-hev];rfl,rfl⟩
        case rest=>
         obtain ⟨rfl,hwc5⟩:=hcut;subst hwc5;clear hev hd
         go_upto_region 18 with fail
         go_cut [3] (fun x wx=>∃ v',v'=x/\OwnO wx w.heap.size v' (⟨r.kind,r.kids,0⟩ :: rtake t)/\Below w.heap.size w wx)
         case first=>
          obtain ⟨hi,hz0,hz1,hz2⟩:=HIn.out;have hbA:Below wc.heap.size wc ((wc.alloc (.cells #[I r.kind,I r.kids,I 0] 182)).drew):=(bAl wc _).drew;have HO6:Hid (OwnO ((wc.alloc (.cells #[I r.kind,I r.kids,I 0] 182)).drew) w.heap.size (.slice bo t.length bc) (rtake t)):=own_below HO5.out hbA;have HB6:Hid (Below w.heap.size w ((wc.alloc (.cells #[I r.kind,I r.kids,I 0] 182)).drew)):=HB5.out.trans (hbA.mono HB5.out.size);have HTl2:Hid ((rtake t).length=t.length/\t.length<=2932031007317):=⟨rtake_len t,by have:=HTL.out;omega⟩
          have HCl:Hid (∀ j u,(oc ⟨r.kind,r.kids,0⟩)[j]?=some u->((wc.alloc (.cells #[I r.kind,I r.kids,I 0] 182)).drew).cell? ((⟨wc.heap.size,0,none⟩:Addr).add j)=some u):=fun j u hu=>cell_three wc _ _ _ _ j u hu;clear hbA
          go_region_law (first
           | (refine step_gone _ rfl (.tmp 86) (.tmp 98) 180 rfl w.heap.size 182 i0 (.agg #[I 0,I 0,I 0]) 3 24 Tryz.underlying180 hi hz0 hz1 hz2 rfl (by decide) (.slice bo t.length bc) (rtake t).length (tox (rtake t)) (by simp [Act.eval]) HO6.out ⟨wc.heap.size,0,none⟩ 1 1 (oc ⟨r.kind,r.kids,0⟩) (by simp [Act.eval]) rfl HCl.out (by intro u hu;simp only [oc,List.mem_cons,List.not_mem_nil,or_false] at hu;rcases hu with rfl | rfl | rfl<;>rfl) (by have:=HTl2.out;unfold maxLen;omega) (by have:=HTl2.out;omega) HB6.out.size (by decide) ?_
              intro v3 w3 ho hG;have HP4:Hid (OwnO w3 w.heap.size v3 (⟨r.kind,r.kids,0⟩ :: rtake t)/\Below w.heap.size w w3):=⟨own_opush ho,HB6.out.trans ((Went.gone hG).low (fun j hj=>(World.ownsRow.lt HO6.out j hj).1) HB6.out.size)⟩;obtain ⟨po,pc,rfl⟩:=own_form ho;clear ho hG))
          all_goals clear hi hz0 hz1 hz2
          all_goals go_wp2_with fail
          all_goals go_meet
          all_goals exact ⟨_,rfl,HP4.out⟩
         case rest=>
          obtain ⟨v8,rfl,hO8,hB8⟩:=hcut;have HO8:Hid (OwnO wc w.heap.size v8 (⟨r.kind,r.kids,0⟩ :: rtake t)/\Below w.heap.size w wc):=⟨hO8,hB8⟩;have HL8:Hid (t.length+1<=2932031007318/\(rtake t).length=t.length):=⟨by have:=HTL.out;omega,rtake_len t⟩
          obtain ⟨bo8,bc8,rfl⟩:=own_form hO8;clear hO8 hB8 d0 d4;go_wp2_with fail
          go_loopg [3] (t.length+1) (fun gq x wr=>∃ (tt:List Op3) (v:Value),v=x/\gq=tt.length/\OwnO wr w.heap.size v tt/\Below w.heap.size w wr/\rpop tt=rpop (⟨r.kind,r.kids,0⟩ :: rtake t)/\tt.length<=2932031007318)
          case atStart=>exact ⟨⟨r.kind,r.kids,0⟩ :: rtake t,_,rfl,by rw [List.length_cons,HL8.out.2],HO8.out.1,HO8.out.2,rfl,by rw [List.length_cons,HL8.out.2];exact HL8.out.1⟩
          case round=>
           obtain ⟨tt,v,rfl,hgk,hOt,hBt,hpt,htt⟩:=hrel;have HG2:Hid (gk=tt.length):=hgk;have HOt:Hid (OwnO wr w.heap.size v tt):=hOt;have HBt:Hid (Below w.heap.size w wr):=hBt;clear hgk hOt hBt;cases tt with
           | nil=>
            have hpe:rpop (⟨r.kind,r.kids,0⟩ :: rtake t)=[]:=hpt.symm;obtain ⟨bo9,bc9,rfl⟩:=own_form HOt.out;simp only [List.length_nil] at *;by_cases hk1:k+1 < l.length
            ·have hk1':(k:Int)+1 < (l.length:Int):=by omega
             have HE:Hid (shp [] false 0 l=((k+1:Nat):Int)):=by
              show _=_
              rw [HStep.out,hpe];have:(l.drop (k+1)).isEmpty=false:=by
               cases hx:l.drop (k+1) with
               | nil=>have:=congrArg List.length hx;rw [List.length_drop] at this;simp only [List.length_nil] at this;omega
               | cons=>rfl
              rw [this];rfl
             clear hpt hpe hk1 htt;go_wp2_with fail;go_ret;exact ⟨by rw [HE.out];go_num,HBt.out⟩
            ·have hk1':¬ ((k:Int)+1 < (l.length:Int)):=by omega
             have HE:Hid (shp [] false 0 l=-1):=by
              show _=_
              rw [HStep.out,hpe,List.drop_eq_nil_of_le (by omega)]
              rfl
             clear hpt hpe hk1 htt;go_wp2_with fail;go_roundg (l.length+1 - (k+1))
             case measure=>have:=HG.out;have:=HTL.out;omega
             case rel=>exact ⟨k+1,_,[],_,rfl,rfl,by go_num,rfl,by have:=HTL.out;omega,HOt.out,HBt.out,Nat.zero_le _,fun _ h=>(by cases h),fun _ _ h=>(by cases h),Or.inl ⟨rfl,Nat.succ_pos _,HE.out⟩⟩
           | cons o5 t5=>
            obtain ⟨g5,cap5,rfl,_,hg5,hcp5,_,hW5⟩:=own_otop HOt.out;obtain ⟨_,e1,_⟩:=hW5 wr rfl;have ht5:(t5.length:Int)<=2932031007318:=by simp only [List.length_cons] at htt;omega
            have hcp5':(t5.length:Int)+1<=(cap5:Int):=by omega
            simp only [List.length_cons] at HG2 ⊢;clear hW5 hcp5 htt;by_cases hz5:o5.left=0
            ·have HP5:Hid (rpop t5=rpop (⟨r.kind,r.kids,0⟩ :: rtake t)):=by show _=_;rw [<-hpt];simp only [rpop];rw [if_pos hz5]
             rw [hz5] at e1;clear hpt hz5;go_wp2_with fail;go_roundg t5.length
             case measure=>have:=HG2.out;omega
             case rel=>exact ⟨t5,_,rfl,rfl,own_opop HOt.out,HBt.out,HP5.out,by omega⟩
            ·have hz5':(o5.left == 0)=false:=by simp [hz5]
             have HP5:Hid (rpop (⟨r.kind,r.kids,0⟩ :: rtake t)=o5 :: t5):=by show _=_;rw [<-hpt];simp only [rpop];rw [if_neg hz5]
             clear hpt hz5;go_wp2_with fail;go_roundg (l.length+1 - (k+1))
             case measure=>have:=HG.out;have:=HTL.out;omega
             case rel=>
              have q1:=HOk.out;have q2:=rpop_hd (⟨r.kind,r.kids,0⟩ :: rtake t);have q3:=HStep.out;rw [HP5.out] at q1 q2 q3;exact ⟨k+1,_,o5 :: t5,_,rfl,rfl,by go_num,rfl,by have:=HTL.out;omega,HOt.out,HBt.out,q1.2,q1.1,q2,Or.inr ⟨Or.inr (by simp),q3.symm⟩⟩
       ·have hd':=hd;rw [Bool.and_eq_true,Bool.and_eq_true] at hd';have HE:Hid (shp [] false 0 l=(k:Int)):=by show _=_;rw [<-HSh.out,HDr.out,shp_decl hs hd]
        have hw:=hd'.1;have hev:=hd'.2.1;have hdd:=hd'.2.2;rw [hdd] at HD1;subst hev;clear hs hd hd' hdd;go_wp2_with (go_at_call 142;refine (HD1.out _).mono ?_;rintro e w' ⟨rfl,rfl⟩);go_ret;exact ⟨by rw [HE.out];rfl,HB5.out⟩
     ·have hlt':¬ ((k:Int) < (l.length:Int)):=by omega
      have hle:(l.length:Int)<=(k:Int):=by omega
      have HE:Hid (shp [] false 0 l=(k:Int)):=by
       show _=_
       rw [<-HSh.out,List.drop_eq_nil_of_le (by omega)]
       simp only [shp]
      clear hlt;go_wp2_with fail;go_ret;exact ⟨by rw [HE.out];rfl,HB1.out⟩
end Go.Proofs.YtbledbjcghaanaaGreat.Gr
