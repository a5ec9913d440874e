import Derived.Test.YtfgpbdieaflclaaGreatK37
import Derived.Deep.DeepCutAuto
set_option maxHeartbeats 12800000
set_option maxRecDepth 100000
namespace Go.Proofs.YtfgpbdieaflclaaGreat.Lx
open Go.RowKit Sp
theorem sub_any (s:ByteArray) (l h:Nat) (L H:Int) (hL:L=(l:Int)) (hH:H=(h:Int)) (h1:l<=h) (h2:h<=s.size) (w:World):(Instr.slice 9 (.string s) (some (.int .i64 L)) (some (.int .i64 H)) none).run Tryz.prog w=.ok (.string (s.extract l h)) w:=by
 subst hL hH
 have:=run_slice_string (P:=Tryz.prog) w 9 s .i64 .i64 (l:Int) (h:Int) Tryz.underlying9 (by omega) (by omega) (by omega)
 simpa using this
theorem among_any (K t:ByteArray) (w:World) (hK:K.size<=4096) (ht:t.size<=4611686018427387000):
  Calls Tryz.prog 93 #[.string K,.string t] w fun e w'=>e=.returned (.bool (am (tx K) (tx t)))/\w'=w:=by
 have HL:Hid ((tx t).length=t.size/\(tx K).length=K.size):=⟨tx_len t,tx_len K⟩
 go_enter Tryz.func93,Tryz.ntmps93
 go_wp2
 go_loop [6] (fun i=>∃ k:Nat,k<=t.size/\i=.int .i64 k/\∀ j,j < k->nb t j ≠ 32) (fun i=>t.size - (intOf i).toNat)
 case atStart=>exact ⟨0,Nat.zero_le _,rfl,fun j hj=>by omega⟩
 case round=>
  obtain ⟨k,hk,rfl,hr⟩:=hrel
  have HR:Hid (∀ j,j < k->nb t j ≠ 32):=hr
  clear hr
  by_cases hlt:k < t.size
  ·have hix:=index_any t k _ rfl hlt
   by_cases h32:nb t k=32
   ·have hq:((nb t k:Int) == 32)=true:=by simp [h32]
    have HN:Hid (am (tx K) (tx t)=false):=am_blank (i:=k) (by rw [HL.out.1];exact hlt) h32
    clear h32
    generalize nb t k=c at *
    go_wp2
    go_ret
    exact ⟨ret_b HN.out.symm,rfl⟩
   ·have hq:((nb t k:Int) == 32)=false:=by simp;omega
    have HN:Hid (∀ j,j < k+1->nb t j ≠ 32):=fun j hj=>by
     by_cases e:j=k
     ·rw [e];exact h32
     ·exact HR.out j (by omega)
    clear h32
    generalize nb t k=c at *
    go_wp2
    go_round
    case rel=>exact ⟨k+1,by omega,by go_num,HN.out⟩
    case measure=>simp [intOf];omega
  ·obtain rfl:k=t.size:=by omega
   have hd:decide ((t.size:Int) < (t.size:Int))=false:=by simp
   go_wp2
   clear hd hlt hk
   go_loop [7] (fun i=>∃ k:Nat,k<=K.size/\i=.int .i64 k/\∀ j,j < k->¬ Occurs (tx K) (tx t) j) (fun i=>K.size - (intOf i).toNat)
   case atStart=>exact ⟨0,Nat.zero_le _,rfl,fun j hj=>by omega⟩
   case round=>
    obtain ⟨k,hk,rfl,hr⟩:=hrel
    have HO:Hid (∀ j,j < k->¬ Occurs (tx K) (tx t) j):=hr
    clear hr
    by_cases hin:k+t.size+2<=K.size
    ·have HI:Hid (Occurs (tx K) (tx t) k ↔ (nb K k=32/\nb K (k+t.size+1)=32/\(K.extract (k+1) (k+t.size+1)).toList=t.toList)):=by
      have h1:=occurs_iff (K:=tx K) (t:=tx t) (i:=k) (by rw [HL.out.1,HL.out.2];exact hin)
      rw [HL.out.1] at h1
      show _ ↔ _
      rw [h1]
      refine and_congr Iff.rfl (and_congr Iff.rfl ?_)
      have h2:((tx K).drop (k+1)).take t.size=tx (K.extract (k+1) (k+t.size+1)):=by
       rw [tx_extract,show k+t.size+1 - (k+1)=t.size by omega]
      rw [h2,tx_toList,tx_toList]
      exact List.map_inj_right (fun x y e=>UInt8.toNat_inj.1 e)
     have HN:Hid (¬ Occurs (tx K) (tx t) k->∀ j,j < k+1->¬ Occurs (tx K) (tx t) j):=fun h1 j hj=>by
      by_cases e:j=k
      ·rw [e];exact h1
      ·exact HO.out j (by omega)
     have hx1:=index_any K k _ rfl (by omega)
     have hx2:=index_any K (k+t.size+1) ((k:Int)+((t.size:Int)+2) - 1) (by omega) (by omega)
     have hx3:=sub_any K (k+1) (k+t.size+1) ((k:Int)+1) ((k:Int)+((t.size:Int)+2) - 1) (by omega) (by omega) (by omega) (by omega)
     have hle:(k:Int)+((t.size:Int)+2)<=(K.size:Int):=by omega
     generalize K.extract (k+1) (k+t.size+1)=X at *
     generalize nb K k=c at *
     generalize nb K (k+t.size+1)=d at *
     by_cases h1:c=32
     ·have q1:((c:Int) == 32)=true:=by simp;omega
      by_cases h2:d=32
      ·have q2:((d:Int) == 32)=true:=by simp;omega
       by_cases h3:X.toList=t.toList
       ·have q3:(X.toList == t.toList)=true:=by simp [h3]
        have HA:Hid (am (tx K) (tx t)=decide (0 < (tx t).length)):=am_hit (fun j hj=>HR.out j (by rw [HL.out.1] at hj;exact hj)) (HI.out.2 ⟨h1,h2,h3⟩)
        clear h1 h2 h3
        go_wp2
        go_ret
        exact ⟨ret_b (by rw [HA.out,HL.out.1,Bool.eq_iff_iff]),rfl⟩
       ·have q3:(X.toList == t.toList)=false:=by simpa using h3
        have HM:Hid (∀ j,j < k+1->¬ Occurs (tx K) (tx t) j):=HN.out fun h=>h3 (HI.out.1 h).2.2
        clear h1 h2 h3
        go_wp2
        go_round
        case rel=>exact ⟨k+1,by omega,by go_num,HM.out⟩
        case measure=>simp [intOf];omega
      ·have q2:((d:Int) == 32)=false:=by simp;omega
       have HM:Hid (∀ j,j < k+1->¬ Occurs (tx K) (tx t) j):=HN.out fun h=>h2 (HI.out.1 h).2.1
       clear h1 h2 hx3
       go_wp2
       go_round
       case rel=>exact ⟨k+1,by omega,by go_num,HM.out⟩
       case measure=>simp [intOf];omega
     ·have q1:((c:Int) == 32)=false:=by simp;omega
      have HM:Hid (∀ j,j < k+1->¬ Occurs (tx K) (tx t) j):=HN.out fun h=>h1 (HI.out.1 h).1
      clear h1 hx2 hx3
      go_wp2
      go_round
      case rel=>exact ⟨k+1,by omega,by go_num,HM.out⟩
      case measure=>simp [intOf];omega
    ·have HA:Hid (am (tx K) (tx t)=false):=am_none (fun j hj=>HR.out j (by rw [HL.out.1] at hj;exact hj)) fun i hi=>by
      have h1:=occurs_len hi
      rw [HL.out.1,HL.out.2] at h1
      exact HO.out i (by omega) hi
     have hd:decide ((k:Int)+((t.size:Int)+2)<=(K.size:Int))=false:=by simp;omega
     go_wp2
     go_ret
     exact ⟨ret_b HA.out.symm,rfl⟩
theorem am_kept (t:List Nat):am keptText t=kp t:=by
 unfold am kp
 rw [inner_kept,Bool.eq_iff_iff]
 simp only [Bool.and_eq_true,decide_eq_true_eq,List.contains_iff_mem]
 constructor
 ·exact fun h=>h.2
 ·intro h
  have h1:=shaped_of_kept (t:=t) (by simpa using h)
  refine ⟨⟨?_,?_⟩,h⟩
  ·cases t with
   | nil=>cases h1.1
   | cons=>simp
  ·cases t with
   | nil=>rfl
   | cons c r=>
    simp only [shaped,Bool.and_eq_true] at h1
    refine List.all_eq_true.2 fun x hx=>?_
    have h2:isW x=true:=by
     rcases List.mem_cons.1 hx with rfl | h3
     ·exact isL_W _ h1.1.1
     ·exact List.all_eq_true.1 h1.1.2 x h3
    by_cases e:x=32
    ·subst e;cases h2
    ·simpa using e
theorem among_at (K t:ByteArray) (k:List Nat) (w:World) (h:tx K=k/\K.size<=4096) (ht:t.size<=4611686018427387000):
  Calls Tryz.prog 93 #[.string K,.string t] w fun e w'=>e=.returned (.bool (am k (tx t)))/\w'=w:=by
 rw [<-h.1];exact among_any K t w h.2 ht
theorem refIs_any (s:ByteArray) (w:World) (hs:s.size<=4611686018427387000):Calls Tryz.prog 83 #[.string s] w fun e w'=>e=.returned (.bool (kp (tx s)))/\w'=w:=by
 rw [<-am_kept]
 go_enter Tryz.func83,Tryz.ntmps83
 go_wp2_with fail
 refine (among_at _ s keptText _ (by decide +kernel) hs).mono ?_
 rintro e w' ⟨rfl,rfl⟩
 go_wp2
 go_ret
 exact ⟨rfl,rfl⟩
theorem shp_shaped (s:ByteArray):(shp s s.size && decide (0 < s.size))=shaped (tx s):=by
 by_cases h:0 < s.size
 ·have e:tx s=nb s 0 :: (tx s).drop 1:=by have:=tx_drop h;simpa using this
  rw [e,Bool.eq_iff_iff]
  simp only [shaped,Bool.and_eq_true,decide_eq_true_eq,h,and_true]
  have hl:((tx s).drop 1).length=s.size - 1:=drop_len s 1
  have hg:∀ i (hi:i < ((tx s).drop 1).length),((tx s).drop 1)[i]=nb s (i+1):=fun i hi=>by
   have hi2:1+i < (tx s).length:=by rw [tx_len];omega
   rw [List.getElem_drop,nb,List.getD,show i+1=1+i by omega,List.getElem?_eq_getElem hi2]
   rfl
  constructor
  ·intro h1
   unfold shp at h1
   have h2:=List.all_eq_true.1 h1
   refine ⟨by have:=h2 0 (by simp;omega);simpa using this,List.all_eq_true.2 fun c hc=>?_⟩
   obtain ⟨i,hi,rfl⟩:=List.getElem_of_mem hc
   have:=h2 (i+1) (by simp;omega)
   rw [hg]
   simpa [isW] using this
  ·rintro ⟨h1,h2⟩
   unfold shp
   refine List.all_eq_true.2 fun i hi=>?_
   cases i with
   | zero=>simp [h1]
   | succ i=>
    have hi2:i < ((tx s).drop 1).length:=by simp at hi;omega
    have:=List.all_eq_true.1 h2 _ (List.getElem_mem hi2)
    rw [hg] at this
    simpa [isW] using this
 ·have e:tx s=[]:=by
   apply List.eq_nil_of_length_eq_zero
   rw [tx_len];omega
  rw [e]
  simp [shaped,h]
theorem refIsName_any (s:ByteArray) (w:World) (hs:s.size<=4611686018427387000):Calls Tryz.prog 62 #[.string s] w fun e w'=>e=.returned (.bool (isName (tx s)))/\w'=w:=by
 have HF:Hid (isName (tx s)=(decide (s.size<=64) && shaped (tx s) && !kp (tx s))):=by
  show _=_
  unfold isName kp
  rw [tx_len]
 generalize isName (tx s)=z at *
 have HS:Hid (∀ w,Calls Tryz.prog 82 #[.string s] w fun e w'=>e=.returned (.bool (shaped (tx s)))/\w'=w):=fun w=>by
  have:=shaped_any s w (by omega)
  rw [shp_shaped] at this
  exact this
 have HI:Hid (∀ w,Calls Tryz.prog 83 #[.string s] w fun e w'=>e=.returned (.bool (kp (tx s)))/\w'=w):=fun w=>refIs_any s w hs
 generalize shaped (tx s)=y at *
 generalize kp (tx s)=x at *
 by_cases h64:s.size<=64
 ·cases y with
  | false=>
   go_enter Tryz.func62,Tryz.ntmps62
   go_wp2_with (first | (go_at_call 82;refine (HS.out _).mono ?_;rintro e w' ⟨rfl,rfl⟩) | (go_at_call 83;refine (HI.out _).mono ?_;rintro e w' ⟨rfl,rfl⟩))
   go_ret
   exact ⟨ret_b (by rw [HF.out];simp),rfl⟩
  | true=>
   go_enter Tryz.func62,Tryz.ntmps62
   go_wp2_with (first | (go_at_call 82;refine (HS.out _).mono ?_;rintro e w' ⟨rfl,rfl⟩) | (go_at_call 83;refine (HI.out _).mono ?_;rintro e w' ⟨rfl,rfl⟩))
   go_ret
   exact ⟨ret_b (by rw [HF.out];simp [h64]),rfl⟩
 ·have hd:decide ((s.size:Int)<=64)=false:=by simp;omega
  go_enter Tryz.func62,Tryz.ntmps62
  go_wp2_with (first | (go_at_call 82;refine (HS.out _).mono ?_;rintro e w' ⟨rfl,rfl⟩) | (go_at_call 83;refine (HI.out _).mono ?_;rintro e w' ⟨rfl,rfl⟩))
  go_ret
  exact ⟨ret_b (by rw [HF.out];simp [h64]),rfl⟩
end Go.Proofs.YtfgpbdieaflclaaGreat.Lx
namespace Go.Proofs.YtfgpbdieaflclaaGreat.Gr
open Go.RowKit Sp Lx
theorem lastEnd_two (k:Int):lastEnd k=0\/lastEnd k=1:=by unfold lastEnd;split<;>simp
theorem mostk_two (k:Int):(mostk k=-1/\greatest k=9223372036854775807)\/(mostk k=greatest k/\0<=greatest k):=by
 unfold mostk
 by_cases h:k=1\/k=11
 ·rw [if_pos h];unfold greatest;rw [if_pos h];exact Or.inl ⟨rfl,rfl⟩
 ·rw [if_neg h];unfold greatest
  refine Or.inr ⟨rfl,?_⟩
  repeat' split
  all_goals omega
theorem bool_four (a b c d e:Bool):(a && (c && (b && (d && e))))=((a && b) && (c && (d && e))):=by cases a<;>cases b<;>cases c<;>rfl
theorem bad_one {st:Bool} {e le:Int} (h:le=0\/le=1):(!(st && wtn e 0 le))=(!st || (decide (e < 0) || (decide (1 < e) || (e == 1 && !(le == 1))))):=by
 unfold wtn
 cases st
 ·rfl
 ·rw [Bool.eq_iff_iff]
  simp
  omega
theorem right_any (r:Rz) (a:Int) (w:World) (hk:r.kids<=9223372036854775807) (hz:r.name.size<=4611686018427387000):Calls Tryz.prog 41 #[agr r,.int .i64 a] w fun e w'=>e=.returned (.bool (stands r.kind a && filled r))/\Below w.heap.size w w':=by
 obtain ⟨k,s,e,n,m⟩:=r
 have H1:Hid (∀ w,Calls Tryz.prog 59 #[.int .i64 k,.int .i64 a] w fun e' w'=>e'=.returned (.bool (stands k a))/\w'=w):=fun w=>stands_any k a w
 have H2:Hid (∀ w,Calls Tryz.prog 60 #[.int .i64 k] w fun e' w'=>e'=.returned (.bool (lastEnd k == 1))/\w'=w):=fun w=>refEnded_any k w
 have H3:Hid (∀ w,Calls Tryz.prog 61 #[.int .i64 k] w fun e' w'=>e'=.returned (.bool (nmd k))/\w'=w):=fun w=>refNamed_any k w
 have H4:Hid (∀ w,Calls Tryz.prog 62 #[.string s] w fun e' w'=>e'=.returned (.bool (isName (tx s)))/\w'=w):=fun w=>refIsName_any s w hz
 have H5:Hid (∀ w,Calls Tryz.prog 63 #[.int .i64 k] w fun e' w'=>e'=.returned (.tuple #[.int .i64 (least k:Nat),.int .i64 (mostk k)])/\w'=w):=fun w=>many_any k w
 have HF:Hid ((stands k a && filled ⟨k,s,e,n,m⟩)=((stands k a && wtn e 0 (lastEnd k)) && ((if nmd k then isName (tx s) else none0 s) && (wtn n 0 (lastNum k) && wtn m (least k:Nat) (greatest k))))):=bool_four _ _ _ _ _
 have HLN:Hid (lastNum k=if k=27 then 1073741824 else 0):=rfl
 have HLE:Hid ((!(stands k a && wtn e 0 (lastEnd k)))=(!stands k a || (decide (e < 0) || (decide (1 < e) || (e == 1 && !(lastEnd k == 1)))))):=bad_one (lastEnd_two k)
 have HMK:=hdn <| mostk_two k
 have HKM:Hid (m<=9223372036854775807):=hk
 have hn0:(s.toList == ([]:List UInt8))=none0 s:=rfl
 have hn1:(s.toList != ([]:List UInt8))=!none0 s:=rfl
 simp only
 generalize (stands k a && filled ⟨k,s,e,n,m⟩)=R at *
 generalize (stands k a && wtn e 0 (lastEnd k))=b1 at *
 generalize nmd k=nm at *
 generalize isName (tx s)=isn at *
 generalize none0 s=z0 at *
 generalize stands k a=st at *
 generalize (lastEnd k == 1)=en at *
 generalize least k=lo at *
 generalize greatest k=gr at *
 generalize mostk k=hi at *
 have HB:Hid (Below w.heap.size w (w.alloc (.cells #[.int .i64 k,.string s,.int .i64 e,.int .i64 n,.int .i64 m] 47))):=bAl w _
 clear hk hz
 go_enter Tryz.func41,Tryz.ntmps41
 go_upto_region 1 with fail
 go_cut [32] (fun c wx=>c=.bool (!b1)/\wx=(w.alloc (.cells #[.int .i64 k,.string s,.int .i64 e,.int .i64 n,.int .i64 m] 47)))
 case first=>
  cases hq:(e == 1)
  all_goals go_wp2_with (first
   | (go_at_call 59;refine (H1.out _).mono ?_;rintro e w' ⟨rfl,rfl⟩)
   | (go_at_call 60;refine (H2.out _).mono ?_;rintro e w' ⟨rfl,rfl⟩))
  all_goals go_meet
  all_goals refine ⟨?_,rfl⟩
  all_goals rw [HLE.out]
  all_goals first
   | (simp [*];done)
   | simp [*,Bool.or_assoc]
 case rest=>
  obtain ⟨rfl,rfl⟩:=hcut
  cases b1
  ·go_wp2_with fail
   go_ret
   exact ⟨by rw [HF.out];simp,HB.out⟩
  ·go_upto_region 3 with fail
   go_cut [52] (fun c wx=>c=.bool (!(if nm then isn else z0))/\wx=(w.alloc (.cells #[.int .i64 k,.string s,.int .i64 e,.int .i64 n,.int .i64 m] 47)))
   case first=>
    cases nm
    all_goals go_wp2_with (first
     | (go_at_call 61;refine (H3.out _).mono ?_;rintro e w' ⟨rfl,rfl⟩)
     | (go_at_call 62;refine (H4.out _).mono ?_;rintro e w' ⟨rfl,rfl⟩))
    all_goals go_meet
    all_goals refine ⟨?_,rfl⟩
    all_goals simp [*]
   case rest=>
    obtain ⟨rfl,rfl⟩:=hcut
    generalize (if nm then isn else z0)=nf at *
    cases nf
    ·go_wp2_with fail
     go_ret
     exact ⟨by rw [HF.out];simp,HB.out⟩
    ·have h27:(!wtn n 0 (lastNum k))=if k=27 then (decide (n < 0) || decide (1073741824 < n)) else !(n == 0):=by
      rw [HLN.out];unfold wtn;split
      ·rw [Bool.eq_iff_iff];simp<;>omega
      ·rw [Bool.eq_iff_iff];simp<;>omega
     have H27:Hid ((!wtn n 0 (lastNum k))=if k=27 then (decide (n < 0) || decide (1073741824 < n)) else !(n == 0)):=h27
     clear h27
     generalize wtn n 0 (lastNum k)=wn at *
     go_upto_region 5 with fail
     go_cut [75] (fun c wx=>c=.bool (!wn)/\wx=(w.alloc (.cells #[.int .i64 k,.string s,.int .i64 e,.int .i64 n,.int .i64 m] 47)))
     case first=>
      by_cases k27:k=27
      ·rw [if_pos k27] at H27
       have kb1:(k == 27)=true:=by simp [k27]
       have kb2:(k != 27)=false:=by simp [k27]
       clear k27
       go_wp2_with fail
       all_goals go_meet
       all_goals refine ⟨?_,rfl⟩
       all_goals rw [H27.out]
       all_goals simp [*]
      ·rw [if_neg k27] at H27
       have kb1:(k == 27)=false:=by simp [k27]
       have kb2:(k != 27)=true:=by simp [k27]
       clear k27
       go_wp2_with fail
       all_goals go_meet
       all_goals refine ⟨?_,rfl⟩
       all_goals rw [H27.out]
       all_goals rfl
     case rest=>
      obtain ⟨rfl,rfl⟩:=hcut
      cases wn
      ·go_wp2_with fail
       go_ret
       exact ⟨by rw [HF.out];simp,HB.out⟩
      ·have HFm:Hid (R=wtn m (lo:Nat) gr):=by show _=_;rw [HF.out];simp
       go_wp2_with (go_at_call 63;refine (H5.out _).mono ?_;rintro e w' ⟨rfl,rfl⟩)
       all_goals go_ret
       all_goals refine ⟨congrArg (fun b=>Ending.returned (Value.bool b)) ?_,HB.out⟩
       all_goals rw [HFm.out]
       all_goals (have h1:=HMK.out;have h2:=HKM.out)
       all_goals (unfold wtn;rw [Bool.eq_iff_iff];simp;omega)
end Go.Proofs.YtfgpbdieaflclaaGreat.Gr
