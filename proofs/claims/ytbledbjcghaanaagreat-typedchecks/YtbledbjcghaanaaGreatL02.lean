import Derived.Test.YtbledbjcghaanaaGreatL01
import Derived.Test.YtbledbjcghaanaaGreatTl
import Derived.Laws.IdiomStrings
import Derived.Lib.ConvBytes
import Derived.Shelf.Abstract
set_option maxHeartbeats 12800000
set_option maxRecDepth 100000
namespace Go.Proofs.YtbledbjcghaanaaGreat.Gr
open Go.RowKit Sp Lx
theorem mayFollow_any (a:Ab) (k:Int) (w:World):Calls Tryz.prog 133 #[agb a,I k] w fun e w'=>e=.returned (.bool (mayFollow a.kind a.seen k))/\Below w.heap.size w w':=by
 obtain ⟨d,m,s,c,v⟩:=a;have H1:Hid (∀ w,Calls Tryz.prog 132 #[I k] w fun e w'=>e=.returned (.bool (isItem k))/\w'=w):=fun w=>isItem_any k w;have H2:Hid (∀ w,Calls Tryz.prog 146 #[I k] w fun e w'=>e=.returned (.bool (isEx k))/\w'=w):=fun w=>isEx_any k w;have HM:Hid (mayFollow d s k=if d=15/\(s:Int)=0 then isItem k else if (d=13/\(s:Int)=2)\/(d=12/\(s:Int)=1) then k == 11 else if d=12/\(s:Int)=2 then k == 11 || k == 12 else isEx k):=rfl;simp only;generalize mayFollow d s k=R at *;generalize isItem k=b1 at *;generalize isEx k=b2 at *;have hb:Below w.heap.size w (w.alloc (.cells #[I d,I m,I s,I c,I v] 164)):=bAl w _;have HB:Hid (Below w.heap.size w (w.alloc (.cells #[I d,I m,I s,I c,I v] 164))):=hb;clear hb;by_cases d15:d=15
 ·subst d15;by_cases s0:s=0
  ·subst s0;go_enter Tryz.func133,Tryz.ntmps133;go_wp2_with (go_at_call 132;refine (H1.out _).mono ?_;rintro e w' ⟨rfl,rfl⟩)
   all_goals go_ret
   all_goals exact ⟨by rw [HM.out];simp,HB.out⟩
  ·have q0:((s:Int) == 0)=false:=by simp;omega
   have HS:Hid (¬ s=0):=s0;clear s0;go_enter Tryz.func133,Tryz.ntmps133;go_wp2_with (go_at_call 146;refine (H2.out _).mono ?_;rintro e w' ⟨rfl,rfl⟩)
   all_goals go_ret
   all_goals exact ⟨by rw [HM.out];simp [HS.out],HB.out⟩
 ·have q15:(d == 15)=false:=by simp [d15]
  have D15:Hid (¬ d=15):=d15;clear d15;by_cases d13:d=13
  ·subst d13;by_cases s0:s=2
   ·subst s0;go_enter Tryz.func133,Tryz.ntmps133;go_wp2
    all_goals go_ret
    all_goals exact ⟨by rw [HM.out];simp,HB.out⟩
   ·have q0:((s:Int) == 2)=false:=by simp;omega
    have HS:Hid (¬ (s:Int)=2):=by show ¬ _;omega
    clear s0;go_enter Tryz.func133,Tryz.ntmps133;go_wp2_with (go_at_call 146;refine (H2.out _).mono ?_;rintro e w' ⟨rfl,rfl⟩)
    all_goals go_ret
    all_goals exact ⟨by rw [HM.out];simp [HS.out],HB.out⟩
  ·have q13:(d == 13)=false:=by simp [d13]
   have D13:Hid (¬ d=13):=d13;clear d13;by_cases d12:d=12
   ·subst d12;by_cases s1:s=1
    ·subst s1;go_enter Tryz.func133,Tryz.ntmps133;go_wp2
     all_goals go_ret
     all_goals exact ⟨by rw [HM.out];simp,HB.out⟩
    ·have q1:((s:Int) == 1)=false:=by simp;omega
     have HS1:Hid (¬ (s:Int)=1):=by show ¬ _;omega
     clear s1;by_cases s2:s=2
     ·subst s2;go_enter Tryz.func133,Tryz.ntmps133;go_wp2
      all_goals go_ret
      all_goals exact ⟨by rw [HM.out];simp [*],HB.out⟩
     ·have q2:((s:Int) == 2)=false:=by simp;omega
      have HS2:Hid (¬ (s:Int)=2):=by show ¬ _;omega
      clear s2;go_enter Tryz.func133,Tryz.ntmps133;go_wp2_with (go_at_call 146;refine (H2.out _).mono ?_;rintro e w' ⟨rfl,rfl⟩)
      all_goals go_ret
      all_goals exact ⟨by rw [HM.out];simp [HS1.out,HS2.out],HB.out⟩
   ·have q12:(d == 12)=false:=by simp [d12]
    have D12:Hid (¬ d=12):=d12;clear d12;go_enter Tryz.func133,Tryz.ntmps133;go_wp2_with (go_at_call 146;refine (H2.out _).mono ?_;rintro e w' ⟨rfl,rfl⟩)
    all_goals go_ret
    all_goals exact ⟨by rw [HM.out];simp [D15.out,D13.out,D12.out],HB.out⟩
theorem mayStand_any (a:Ab) (k:Int) (w:World):Calls Tryz.prog 115 #[agb a,I k] w fun e w'=>e=.returned (.bool (mayStand a.kind a.seen a.kid k))/\Below w.heap.size w w':=by
 obtain ⟨d,m,s,c,v⟩:=a;have H1:Hid (∀ w,Calls Tryz.prog 132 #[I k] w fun e w'=>e=.returned (.bool (isItem k))/\w'=w):=fun w=>isItem_any k w;have H2:Hid (∀ w,Calls Tryz.prog 131 #[I k] w fun e w'=>e=.returned (.bool (isDoing k))/\w'=w):=fun w=>isDoing_any k w;have H3:Hid (∀ w,Calls Tryz.prog 129 #[I k] w fun e w'=>e=.returned (.bool (isEvent k))/\w'=w):=fun w=>isEvent_any k w;have H4:Hid (∀ w,Calls Tryz.prog 130 #[I k] w fun e w'=>e=.returned (.bool (isDecl k))/\w'=w):=fun w=>isDecl_any k w;have H5:Hid (∀ w,Calls Tryz.prog 129 #[I c] w fun e w'=>e=.returned (.bool (isEvent c))/\w'=w):=fun w=>isEvent_any c w;have H6:Hid (∀ w,Calls Tryz.prog 133 #[.agg #[I d,I m,I s,I c,I v],I k] w fun e w'=>e=.returned (.bool (mayFollow d s k))/\Below w.heap.size w w'):=fun w=>mayFollow_any ⟨d,m,s,c,v⟩ k w;have HM:Hid (mayStand d s c k=if d=0 then k == 1 else if d=1 then isEvent k || (isDecl k && !isEvent c) else if d=7\/d=8\/d=9\/d=10 then k == 11
  else if d=11 then isDoing k else if d=19\/d=20 then k == 24 else if d=38 then isItem k else mayFollow d s k):=rfl
 simp only;generalize mayStand d s c k=R at *;generalize mayFollow d s k=b6 at *;generalize isItem k=b1 at *;generalize isDoing k=b2 at *;generalize isEvent k=b3 at *;generalize isDecl k=b4 at *;generalize isEvent c=b5 at *;have hb:Below w.heap.size w (w.alloc (.cells #[I d,I m,I s,I c,I v] 164)):=bAl w _;have HB:Hid (Below w.heap.size w (w.alloc (.cells #[I d,I m,I s,I c,I v] 164))):=hb;clear hb;by_cases d1:d=1
 ·subst d1;cases b3
  ·cases b4
   ·go_enter Tryz.func115,Tryz.ntmps115
    go_wp2_with (first
     | (go_at_call 129;refine (H3.out _).mono ?_;rintro e w' ⟨rfl,rfl⟩)
     | (go_at_call 130;refine (H4.out _).mono ?_;rintro e w' ⟨rfl,rfl⟩))
    all_goals go_ret
    all_goals exact ⟨by rw [HM.out];simp,HB.out⟩
   ·go_enter Tryz.func115,Tryz.ntmps115
    go_wp2_with fail
    refine (H3.out _).mono ?_;rintro e w' ⟨rfl,rfl⟩;go_wp2_with fail;refine (H4.out _).mono ?_;rintro e w' ⟨rfl,rfl⟩;go_wp2_with fail;refine (H5.out _).mono ?_;rintro e w' ⟨rfl,rfl⟩;go_wp2_with fail
    all_goals go_ret
    all_goals exact ⟨by rw [HM.out];simp,HB.out⟩
  ·go_enter Tryz.func115,Tryz.ntmps115
   go_wp2_with (go_at_call 129;refine (H3.out _).mono ?_;rintro e w' ⟨rfl,rfl⟩)
   all_goals go_ret
   all_goals exact ⟨by rw [HM.out];simp,HB.out⟩
 ·have q1:(d == 1)=false:=by simp [d1]
  have D1:Hid (¬ d=1):=d1;clear d1;go_enter Tryz.func115,Tryz.ntmps115;go_wp2_with (first
   | (go_at_call 132;refine (H1.out _).mono ?_;rintro e w' ⟨rfl,rfl⟩)
   | (go_at_call 131;refine (H2.out _).mono ?_;rintro e w' ⟨rfl,rfl⟩)
   | (go_at_call 133;refine (H6.out _).mono ?_;rintro e w' ⟨rfl,hB7⟩;have HB7:Hid (Below w.heap.size w w'):=HB.out.trans (hB7.mono HB.out.size);clear hB7))
  all_goals go_ret
  all_goals simp only [beq_iff_eq,beq_eq_false_iff_ne,ne_eq] at *
  all_goals (have d1:=D1.out)
  all_goals first
   | exact ⟨by rw [HM.out];simp [*],HB.out⟩
   | exact ⟨by rw [HM.out];simp [*],HB7.out⟩
end Go.Proofs.YtbledbjcghaanaaGreat.Gr
namespace Go.Proofs.YtbledbjcghaanaaGreat.Lx
open Go.RowKit Sp
theorem beginsWord_any (c:Nat) (w:World):Calls Tryz.prog 156 #[.int .u8 c] w fun e w'=>e=.returned (.bool (isL c))/\w'=w:=by
 have HF:Hid (isL c=((decide (97<=c) && decide (c<=122)) || (decide (65<=c) && decide (c<=90)) || c == 95)):=rfl;by_cases h1:97<=c
 ·by_cases h2:c<=122
  ·go_enter Tryz.func156,Tryz.ntmps156
   go_wp2;go_ret;exact ⟨ret_b (by rw [HF.out];simp [h1,h2]),rfl⟩
  ·have h3:((c:Int) == 95)=false:=by simp;omega
   go_enter Tryz.func156,Tryz.ntmps156
   go_wp2;go_ret;exact ⟨ret_b (by rw [HF.out,Bool.eq_iff_iff];simp;omega),rfl⟩
 ·by_cases h2:65<=c
  ·by_cases h3:c<=90
   ·go_enter Tryz.func156,Tryz.ntmps156
    go_wp2;go_ret;exact ⟨ret_b (by rw [HF.out];simp [h2,h3]),rfl⟩
   ·go_enter Tryz.func156,Tryz.ntmps156
    go_wp2;go_ret;exact ⟨ret_b (by rw [HF.out,Bool.eq_iff_iff];simp;omega),rfl⟩
  ·have h3:((c:Int) == 95)=false:=by simp;omega
   go_enter Tryz.func156,Tryz.ntmps156
   go_wp2;go_ret;exact ⟨ret_b (by rw [HF.out,Bool.eq_iff_iff];simp;omega),rfl⟩
theorem isDigit_any (c:Nat) (w:World):Calls Tryz.prog 163 #[.int .u8 c] w fun e w'=>e=.returned (.bool (isD c))/\w'=w:=by
 have HF:Hid (isD c=(decide (48<=c) && decide (c<=57))):=rfl;by_cases h1:48<=c
 ·go_enter Tryz.func163,Tryz.ntmps163
  go_wp2;go_ret;exact ⟨ret_b (by rw [HF.out,Bool.eq_iff_iff];simp;omega),rfl⟩
 ·go_enter Tryz.func163,Tryz.ntmps163
  go_wp2;go_ret;exact ⟨ret_b (by rw [HF.out];simp [h1]),rfl⟩
theorem inWord_any (c:Nat) (w:World):Calls Tryz.prog 158 #[.int .u8 c] w fun e w'=>e=.returned (.bool (isW c))/\w'=w:=by
 have HF:Hid (isW c=(isL c || isD c)):=rfl;by_cases h1:isL c=true
 ·go_enter Tryz.func158,Tryz.ntmps158
  go_wp2_with (first | (go_at_call 156;refine (beginsWord_any c _).mono ?_;rintro e w' ⟨rfl,rfl⟩) | (go_at_call 163;refine (isDigit_any c _).mono ?_;rintro e w' ⟨rfl,rfl⟩))
  go_ret;exact ⟨ret_b (by rw [HF.out];simp [h1]),rfl⟩
 ·have h1:isL c=false:=by simpa using h1
  go_enter Tryz.func158,Tryz.ntmps158
  go_wp2_with (first | (go_at_call 156;refine (beginsWord_any c _).mono ?_;rintro e w' ⟨rfl,rfl⟩) | (go_at_call 163;refine (isDigit_any c _).mono ?_;rintro e w' ⟨rfl,rfl⟩))
  go_ret;exact ⟨ret_b (by rw [HF.out];simp [h1]),rfl⟩
def kp (t:List Nat):Bool:=kept.contains t
theorem tx_toList (s:ByteArray):tx s=s.toList.map UInt8.toNat:=by rw [Lib.toList_data];rfl
def keptB:List (List UInt8):=[[112,111,108,105,99,121],[113,117,101,117,101],[114,101,115,105,100,101,110,116],[103,104,111,115,116],[118,97,114],[105,110],[116,97,103],[114,101,113,117,105,114,101],[114,117,108,101],[111,110],[104,105,116],[109,105,115,115],[105,102],[101,108,115,101],[108,111,111,112],[119,104,105,108,101],[115,101,116],[109,97,114,107],[105,110,115,101,114,116],[109,111,118,101],[102,111,114,103,101,116],[115,104,105,102,116],[101,118,105,99,116],[116,111],[100,114,111,112],[99,97,108,108],[112,97,115,115],[102,114,111,110,116],[98,97,99,107],[120],[116,114,117,101],[102,97,108,115,101],[108,101,110],[99,97,112],[115,105,122,101],[116,111,116,97,108],[101,109,112,116,121],[102,117,108,108],[97,116],[109,105,110],[109,97,120]]
theorem keptB_map:kept=keptB.map (List.map UInt8.toNat):=by decide +kernel
theorem kp_iff (s:ByteArray):kp (tx s)=decide (s.toList ∈ keptB):=by
 rw [Bool.eq_iff_iff,kp,keptB_map,tx_toList];simp only [List.contains_iff_mem,decide_eq_true_eq,List.mem_map];constructor
 ·rintro ⟨a,h1,h2⟩
  rwa [<-(List.map_inj_right (fun x y e=>UInt8.toNat_inj.1 e)).1 h2]
 ·exact fun h=>⟨_,h,rfl⟩
theorem is_any (s:ByteArray) (w:World):Calls Tryz.prog 155 #[.string s] w fun e w'=>e=.returned (.bool (kp (tx s)))/\w'=w:=by
 have HF:Hid (kp (tx s)=decide (s.toList ∈ keptB)):=kp_iff s;generalize kp (tx s)=z at *;go_enter Tryz.func155,Tryz.ntmps155;go_wp2
 all_goals try go_ret
 all_goals refine ⟨ret_b ?_,rfl⟩
 all_goals rw [HF.out]
 all_goals generalize s.toList=t at *
 all_goals simp only [beq_iff_eq,beq_eq_false_iff_ne,ne_eq] at *
 all_goals (first | contradiction | (rename_i h;rw [h];decide) | (symm;apply decide_eq_false;intro hm;simp only [keptB,List.mem_cons,List.not_mem_nil,or_false] at hm;rcases hm with h | h | h | h | h | h | h | h | h | h | h | h | h | h | h | h | h | h | h | h | h | h | h | h | h | h | h | h | h | h | h | h | h | h | h | h | h | h | h | h | h<;>contradiction))
theorem while_any (f:Nat) (p:Nat->Bool) (hk:∀ (c:Nat) (w:World),Calls Tryz.prog f #[.int .u8 c] w fun e w'=>e=.returned (.bool (p c))/\w'=w) (he:∀ (args:Array Value) (w:World),(callFunc f args).run Tryz.prog w=.ok (.enter f args) w) (ao:Option Addr) (s:ByteArray) (cap a:Nat) (w:World) (h:IsBytes w ao s) (ha:a<=s.size) (hs:s.size<=2097152):
  Calls Tryz.prog 157 #[.slice ao s.size cap,.func (.func f) #[] #[],I a] w fun e w'=>e=.returned (I (ru p s a:Nat))/\w'=w:=by
 have HB:Hid (IsBytes w ao s):=h;have HK:Hid (∀ (c:Nat) (w:World),Calls Tryz.prog f #[.int .u8 c] w fun e w'=>e=.returned (.bool (p c))/\w'=w):=hk;clear h hk;go_enter Tryz.func157,Tryz.ntmps157;go_wp2
 go_loop [2] (fun i=>∃ k:Nat,k<=s.size/\i=I k/\ru p s k=ru p s a) (fun i=>s.size - (intOf i).toNat)
 case atStart=>exact ⟨a,ha,rfl,rfl⟩
 case round=>
  obtain ⟨k,hk,rfl,hr⟩:=hrel;have HR:Hid (ru p s k=ru p s a):=hr;clear hr;by_cases hlt:k < s.size
  ·obtain ⟨g,o,rfl,hg,hc⟩:=HB.out k hlt;by_cases hp:p (nb s k)=true
   ·have HN:Hid (ru p s (k+1)=ru p s a):=by rw [<-HR.out,ru_in hlt hp];exact rfl
    generalize nb s k=c at *;go_wp2_with fail;refine (HK.out _ _).mono ?_;rintro e w' ⟨rfl,rfl⟩;go_wp2
    go_round
    case rel=>exact ⟨k+1,by omega,by go_num,HN.out⟩
    case measure=>simp [intOf];omega
   ·have hp:p (nb s k)=false:=by simpa using hp
    have HN:Hid (k=ru p s a):=by rw [<-HR.out,ru_out hlt hp];exact rfl
    generalize nb s k=c at *;go_wp2_with fail;refine (HK.out _ _).mono ?_;rintro e w' ⟨rfl,rfl⟩;go_wp2;go_ret;exact ⟨ret_i (by rw [<-HN.out]),rfl⟩
  ·have HN:Hid (k=ru p s a):=by rw [<-HR.out,ru_end (by omega)];exact rfl
   have hd:decide ((k:Int) < (s.size:Int))=false:=by simp;omega
   go_wp2;go_ret;exact ⟨ret_i (by rw [<-HN.out]),rfl⟩
theorem bytes_any {T:TypeId} (hT:Tryz.prog.underlying T=some (.slice 5)) (s:ByteArray) (w:World):∃ cap w',(convert 9 T (.string s)).run Tryz.prog w=.ok (.slice (pZ w.heap.size) s.size cap) w'/\IsBytes w' (pZ w.heap.size) s/\Below w.heap.size w w'/\s.size<=cap:=by
 have h1:=Lib.run_convert_string_bytes (P:=Tryz.prog) w 9 T 5 s Tryz.underlying9 hT Tryz.underlying5;refine ⟨_,_,h1,fun i hi=>⟨w.heap.size,0,rfl,by rw [Lib.bytesWorld_size];omega,?_⟩,⟨?_,?_,?_,?_,fun k hk=>Lib.bytesWorld_at_old w 5 s k hk⟩,grownCap_ge w s.size 0 5⟩
 ·have:=Lib.bytesWorld_cell w 5 s i hi;rw [Nat.zero_add,this,nb_get s i hi];have e:s.data.toList[i]?=some s[i]:=byte_at s i hi;simp only [List.getD,e,Option.getD_some]
 ·simp [Lib.bytesWorld,World.freeze,World.alloc,World.drew,-World.alloc_eq,-World.drew_eq]
 ·simp [Lib.bytesWorld,World.freeze,World.alloc,World.drew,-World.alloc_eq,-World.drew_eq]
 ·simp [Lib.bytesWorld,World.freeze,World.alloc,World.drew,-World.alloc_eq,-World.drew_eq]
 ·rw [Lib.bytesWorld_size];omega
theorem at_any (s:ByteArray) (k:Nat) (K:Int) (hK:K=(k:Int)) (hk:k < s.size) (w:World):(Instr.index 9 (.string s) (I K)).run Tryz.prog w=.ok (.int .u8 (nb s k:Nat)) w:=by
 subst hK;rw [run_index_string w 9 s .i64 (k:Int) Tryz.underlying9,dif_pos ⟨by omega,by omega⟩,nb_get s k hk]
 simp
end Go.Proofs.YtbledbjcghaanaaGreat.Lx
namespace Go.Proofs.YtbledbjcghaanaaGreat.Lx
open Go.RowKit Sp Go.Shelf
theorem enters_inWord (args:Array Value) (w:World):(callFunc 158 args).run Tryz.prog w=.ok (.enter 158 args) w:=enters_of Tryz.func158 (by kernel_rfl) rfl args w
section
variable (ao:Option Addr) (s:ByteArray) (cap a:Nat) (w:World) (h:IsBytes w ao s) (ha:a<=s.size) (hs:s.size<=2097152)
include h ha hs
theorem whileWord:Calls Tryz.prog 157 #[.slice ao s.size cap,.func (.func 158) #[] #[],I a] w fun e w'=>e=.returned (I (ru isW s a:Nat))/\w'=w:=
 while_any _ _ inWord_any enters_inWord ao s cap a w h ha hs
end
theorem drop_len (s:ByteArray) (i:Nat):((tx s).drop i).length=s.size - i:=by rw [List.length_drop,tx_len]
theorem shaped_iff {s:ByteArray} (h:0 < s.size):shaped (tx s)=(isL (nb s 0) && decide (ru isW s 1=s.size)):=by
 have e:tx s=nb s 0 :: (tx s).drop 1:=by have:=tx_drop h;simpa using this
 rw [e];simp only [shaped]
 congr 1
 rw [Bool.eq_iff_iff,decide_eq_true_eq];have hl:((tx s).drop 1).length=s.size - 1:=drop_len s 1;constructor
 ·intro h1;unfold ru;rw [takeWhile_all (List.all_eq_true.1 h1),hl];omega
 ·intro h1;unfold ru at h1;refine List.all_eq_true.2 fun c hc=>?_;have h2:((tx s).drop 1).takeWhile isW=(tx s).drop 1:=by
   have h3:=takeWhile_take (p:=isW) ((tx s).drop 1);rw [<-h3,List.take_of_length_le (by omega)]
  rw [<-h2] at hc;exact takeWhile_mem _ hc
theorem isName_of (s:ByteArray):isName (tx s)=(decide (0 < s.size) && decide (s.size<=64) && !kp (tx s) && isL (nb s 0) && decide (ru isW s 1=s.size)):=by
 by_cases h:0 < s.size
 ·unfold isName;rw [shaped_iff h,tx_len];show _=(_ && _ && !kept.contains (tx s) && _ && _);rw [Bool.eq_iff_iff];simp [h];constructor
  ·rintro ⟨⟨a,b,c⟩,d⟩;exact ⟨⟨⟨a,d⟩,b⟩,c⟩
  ·rintro ⟨⟨⟨a,d⟩,b⟩,c⟩;exact ⟨⟨a,b,c⟩,d⟩
 ·have e:tx s=[]:=by
   apply List.eq_nil_of_length_eq_zero
   rw [tx_len];omega
  rw [e];simp [isName,shaped,h]
theorem isName_any (s:ByteArray) (w:World):Calls Tryz.prog 148 #[.string s] w fun e w'=>e=.returned (.bool (isName (tx s)))/\Below w.heap.size w w':=by
 have HF:Hid (isName (tx s)=(decide (0 < s.size) && decide (s.size<=64) && !kp (tx s) && isL (nb s 0) && decide (ru isW s 1=s.size))):=isName_of s;generalize isName (tx s)=z at *;have HL:Hid (s.toList.length=s.size):=by rw [Lib.toList_data];simp [Hid]
 by_cases h0:s.size=0
 ·have e0:s.toList=[]:=List.eq_nil_of_length_eq_zero (by rw [HL.out,h0])
  have HZ:Hid (z=false):=by show _=_;rw [HF.out,h0];rfl
  go_enter Tryz.func148,Tryz.ntmps148
  go_wp2;go_ret;exact ⟨ret_b HZ.out.symm,Below.refl _ _⟩
 ·have e0:s.toList.isEmpty=false:=by
   cases h1:s.toList with
   | nil=>have:=HL.out;rw [h1] at this;simp at this;omega
   | cons=>rfl
  have e1:(s.toList == [])=false:=by
   cases h1:s.toList with
   | nil=>rw [h1] at e0;cases e0
   | cons=>rfl
  by_cases h64:64 < s.size
  ·have HZ:Hid (z=false):=by
    show _=_
    rw [HF.out];have:decide (s.size<=64)=false:=by simp;omega
    rw [this];simp
   go_enter Tryz.func148,Tryz.ntmps148
   go_wp2;go_ret;exact ⟨ret_b HZ.out.symm,Below.refl _ _⟩
  ·have hd:decide ((64:Int) < (s.size:Int))=false:=by simp;omega
   have HD:Hid (decide (0 < s.size)=true/\decide (s.size<=64)=true):=⟨by simp;omega,by simp;omega⟩
   by_cases hkp:kp (tx s)=true
   ·have HZ:Hid (z=false):=by show _=_;rw [HF.out,hkp];simp
    go_enter Tryz.func148,Tryz.ntmps148
    go_wp2_with (go_at_call 155;refine (is_any s _).mono ?_;rintro e w' ⟨rfl,rfl⟩)
    go_ret;exact ⟨ret_b HZ.out.symm,Below.refl _ _⟩
   ·have hkp:kp (tx s)=false:=by simpa using hkp
    have hix:=at_any s 0 0 rfl (by omega)
    by_cases hl:isL (nb s 0)=true
    ·have HZ:Hid (z=decide ((ru isW s 1:Int)=(s.size:Int))):=by
      show _=_
      rw [HF.out,HD.out.1,HD.out.2,hkp,hl,Bool.eq_iff_iff];simp;omega
     obtain ⟨cap,w1,hcv,hB1,hbel,hcap⟩:=bytes_any Tryz.underlying189 s w;have HB1:Hid (IsBytes w1 (pZ w.heap.size) s):=hB1;have HE:Hid (Below w.heap.size w w1):=hbel;clear hB1 hbel;go_enter Tryz.func148,Tryz.ntmps148;go_wp2_with (first | (go_at_call 155;refine (is_any s _).mono ?_;rintro e w' ⟨rfl,rfl⟩) | (go_at_call 156;refine (beginsWord_any _ _).mono ?_;rintro e w' ⟨rfl,rfl⟩) | (go_at_call 157;refine (whileWord _ s cap 1 _ HB1.out (by omega) (by omega)).mono ?_;rintro e w' ⟨rfl,rfl⟩))
     go_ret;exact ⟨ret_b (by rw [HZ.out];rfl),HE.out⟩
    ·have hl:isL (nb s 0)=false:=by simpa using hl
     have HZ:Hid (z=false):=by show _=_;rw [HF.out,hl];simp
     go_enter Tryz.func148,Tryz.ntmps148
     go_wp2_with (first | (go_at_call 155;refine (is_any s _).mono ?_;rintro e w' ⟨rfl,rfl⟩) | (go_at_call 156;refine (beginsWord_any _ _).mono ?_;rintro e w' ⟨rfl,rfl⟩))
     go_ret;exact ⟨ret_b HZ.out.symm,Below.refl _ _⟩
end Go.Proofs.YtbledbjcghaanaaGreat.Lx
namespace Go.Proofs.YtbledbjcghaanaaGreat.Lx
open Go.RowKit Sp
structure Kin (w:World) where
 u:World
 ok:Below w.heap.size w u
theorem Kin.there (w:World):Nonempty (Kin w):=⟨⟨w,Below.refl _ _⟩⟩
theorem wp_region_kin {P:Program} {id:Nat} {Q:Exit->Act->World->Prop} {a:Act} {w:World} {l:List Oper} (hm:P.follows .mixedOrders=true) (hB:Region.lexB .any l.toArray=true)
  (h:wpQuiet P l.toArray (fun w'=>∃ y:Kin w,w'=y.u) (fun a'=>∀ w',(∃ y:Kin w,w'=y.u)->Q .normal a' w') l a):(Code.region id l.toArray true).wp P Q a w:=
 wp_region_quiet (C:=fun w'=>∃ y:Kin w,w'=y.u) hm hB ⟨⟨w.drew,(Below.refl _ _).drew⟩,rfl⟩ (by simpa using h)
theorem kin_of {P:Program} {f:FuncId} {args:Array Value} {w:World} {y:Kin w} {v:Value} (h:Calls P f args y.u fun e w'=>e=.returned v/\Below y.u.heap.size y.u w'):
  Calls P f args y.u fun e w''=>e=.returned v/\∃ y':Kin w,w''=y'.u:=
 h.mono fun _ w' ⟨he,hb⟩=>⟨he,⟨w',y.ok.trans (hb.mono y.ok.size)⟩,rfl⟩
theorem kin_same {P:Program} {f:FuncId} {args:Array Value} {w:World} {y:Kin w} {v:Value} (h:Calls P f args y.u fun e w'=>e=.returned v/\w'=y.u):
  Calls P f args y.u fun e w''=>e=.returned v/\∃ y':Kin w,w''=y'.u:=
 h.mono fun _ _ ⟨he,hw⟩=>⟨he,y,hw⟩
theorem Kin.cell {w:World} (y:Kin w) {a:Addr} (h:a.block < w.heap.size) {v:Value} (hc:w.cell? a=some v):y.u.cell? a=some v:=(y.ok.cell h).trans hc
end Go.Proofs.YtbledbjcghaanaaGreat.Lx
namespace Go.Proofs.YtbledbjcghaanaaGreat.Gr
open Go.RowKit Sp Lx
def none0 (s:ByteArray):Bool:=s.toList == []
def nameFits (r:Rz):Bool:=if nmd r.kind then isName (tx r.name) else none0 r.name
def filled (r:Rz):Bool:=nameFits r && (wtn r.stop 0 (lastEnd r.kind) && (wtn r.n 0 (lastNum r.kind) && wtn r.kids (least r.kind:Nat) (greatest r.kind)))
theorem nameFits_any (r:Rz) (w:World):Calls Tryz.prog 135 #[agr r] w fun e w'=>e=.returned (.bool (nameFits r))/\Below w.heap.size w w':=by
 obtain ⟨k,s,e,n,m⟩:=r;have H1:Hid (∀ w,Calls Tryz.prog 147 #[I k] w fun e w'=>e=.returned (.bool (nmd k))/\w'=w):=fun w=>nmd_any k w;have H2:Hid (∀ w,Calls Tryz.prog 148 #[.string s] w fun e w'=>e=.returned (.bool (isName (tx s)))/\Below w.heap.size w w'):=fun w=>isName_any s w;have HF:Hid (nameFits ⟨k,s,e,n,m⟩=if nmd k then isName (tx s) else none0 s):=rfl;have hn0:(s.toList == ([]:List UInt8))=none0 s:=rfl;generalize nameFits ⟨k,s,e,n,m⟩=R at *;generalize nmd k=b1 at *;generalize isName (tx s)=b2 at *;have hb:Below w.heap.size w (w.alloc (.cells #[I k,.string s,I e,I n,I m] 61)):=bAl w _;have HB:Hid (Below w.heap.size w (w.alloc (.cells #[I k,.string s,I e,I n,I m] 61))):=hb;clear hb;cases b1
 ·go_enter Tryz.func135,Tryz.ntmps135
  go_wp2_with (go_at_call 147;refine (H1.out _).mono ?_;rintro e w' ⟨rfl,rfl⟩)
  all_goals go_ret
  all_goals exact ⟨by rw [HF.out];simp,HB.out⟩
 ·go_enter Tryz.func135,Tryz.ntmps135
  go_wp2_with (first
   | (go_at_call 147;refine (H1.out _).mono ?_;rintro e w' ⟨rfl,rfl⟩)
   | (go_at_call 148;refine (H2.out _).mono ?_;rintro e w' ⟨rfl,hB7⟩;have HB7:Hid (Below w.heap.size w w'):=HB.out.trans (hB7.mono HB.out.size);clear hB7))
  all_goals go_ret
  all_goals exact ⟨by rw [HF.out];simp,HB7.out⟩
theorem filled_any (r:Rz) (w:World):Calls Tryz.prog 117 #[agr r] w fun e w'=>e=.returned (.bool (filled r))/\Below w.heap.size w w':=by
 obtain ⟨k,s,e,n,m⟩:=r;have H1:Hid (∀ w,Calls Tryz.prog 135 #[.agg #[I k,.string s,I e,I n,I m]] w fun e' w'=>e'=.returned (.bool (nameFits ⟨k,s,e,n,m⟩))/\Below w.heap.size w w'):=fun w=>nameFits_any ⟨k,s,e,n,m⟩ w;have H2:Hid (∀ w,Calls Tryz.prog 137 #[I k] w fun e' w'=>e'=.returned (I (lastEnd k))/\w'=w):=fun w=>lastEnd_any k w;have H3:Hid (∀ w,Calls Tryz.prog 136 #[I e,I 0,I (lastEnd k)] w fun e' w'=>e'=.returned (.bool (wtn e 0 (lastEnd k)))/\w'=w):=fun w=>within_any _ _ _ w;have H4:Hid (∀ w,Calls Tryz.prog 138 #[I k] w fun e' w'=>e'=.returned (I (lastNum k))/\w'=w):=fun w=>lastNum_any k w;have H5:Hid (∀ w,Calls Tryz.prog 136 #[I n,I 0,I (lastNum k)] w fun e' w'=>e'=.returned (.bool (wtn n 0 (lastNum k)))/\w'=w):=fun w=>within_any _ _ _ w;have H6:Hid (∀ w,Calls Tryz.prog 136 #[I m,I (least k:Nat),I (greatest k)] w fun e' w'=>e'=.returned (.bool (wtn m (least k:Nat) (greatest k)))/\w'=w):=fun w=>within_any _ _ _ w;have HK:Hid (∀ w,Calls Tryz.prog 134 #[I k] w fun e' w'=>e'=.returned (.tuple #[I (least k:Nat),I (greatest k)])/\w'=w):=fun w=>kidsOf_any k w;have HF:Hid (filled ⟨k,s,e,n,m⟩=(nameFits ⟨k,s,e,n,m⟩ && (wtn e 0 (lastEnd k) && (wtn n 0 (lastNum k) && wtn m (least k:Nat) (greatest k))))):=rfl;generalize filled ⟨k,s,e,n,m⟩=R at *;generalize nameFits ⟨k,s,e,n,m⟩=b1 at *;generalize wtn e 0 (lastEnd k)=b2 at *;generalize wtn n 0 (lastNum k)=b3 at *;generalize wtn m (least k:Nat) (greatest k)=b4 at *;generalize lastEnd k=le at *;generalize lastNum k=ln at *;generalize least k=lo at *;generalize greatest k=hi at *;have HB:Hid (Below w.heap.size w (w.alloc (.cells #[I k,.string s,I e,I n,I m] 61))):=bAl w _;have hne:Nonempty (Kin (w.alloc (.cells #[I k,.string s,I e,I n,I m] 61))):=Kin.there _;have hc:∀ j v,([I k,.string s,I e,I n,I m]:List Value)[j]?=some v->∀ y:Kin (w.alloc (.cells #[I k,.string s,I e,I n,I m] 61)),y.u.cell? ⟨w.heap.size,j,none⟩=some v:=fun j v hv y=>
  y.cell (a:=⟨w.heap.size,j,none⟩) (by simp) (by rw [World.cell?,heap_alloc_new];simpa using hv)
 have y0:=hc 0 _ rfl;have y1:=hc 1 _ rfl;have y2:=hc 2 _ rfl;have y3:=hc 3 _ rfl;have y4:=hc 4 _ rfl;clear hc;cases b1
 ·go_enter Tryz.func117,Tryz.ntmps117
  go_wp2_with (go_at_call 134;refine (HK.out _).mono ?_;rintro e w' ⟨rfl,rfl⟩)
  refine wp_region_kin (by kernel_rfl) (by kernel_rfl) ?_
  iterate 2 quiet_step (exact kin_of (H1.out _))
  iterate 6 quiet_step (exact kin_same (H2.out _))
  iterate 1 quiet_step (exact kin_same (H3.out _))
  iterate 7 quiet_step (exact kin_same (H4.out _))
  iterate 1 quiet_step (exact kin_same (H5.out _))
  iterate 7 quiet_step (exact kin_same (H6.out _))
  iterate 2 quiet_step (fail)
  refine wpQuiet_nil ?_;rintro _ ⟨z,rfl⟩;have HZ:Hid (Below w.heap.size w z.u):=HB.out.trans (z.ok.mono HB.out.size);generalize z.u=wz at *;go_wp2_with fail;go_ret;exact ⟨by rw [HF.out];simp,HZ.out⟩
 ·cases b2
  ·go_enter Tryz.func117,Tryz.ntmps117
   go_wp2_with (go_at_call 134;refine (HK.out _).mono ?_;rintro e w' ⟨rfl,rfl⟩)
   refine wp_region_kin (by kernel_rfl) (by kernel_rfl) ?_
   iterate 2 quiet_step (exact kin_of (H1.out _))
   iterate 6 quiet_step (exact kin_same (H2.out _))
   iterate 1 quiet_step (exact kin_same (H3.out _))
   iterate 7 quiet_step (exact kin_same (H4.out _))
   iterate 1 quiet_step (exact kin_same (H5.out _))
   iterate 7 quiet_step (exact kin_same (H6.out _))
   iterate 2 quiet_step (fail)
   refine wpQuiet_nil ?_;rintro _ ⟨z,rfl⟩;have HZ:Hid (Below w.heap.size w z.u):=HB.out.trans (z.ok.mono HB.out.size);generalize z.u=wz at *;go_wp2_with fail;go_ret;exact ⟨by rw [HF.out];simp,HZ.out⟩
  ·cases b3
   ·go_enter Tryz.func117,Tryz.ntmps117
    go_wp2_with (go_at_call 134;refine (HK.out _).mono ?_;rintro e w' ⟨rfl,rfl⟩)
    refine wp_region_kin (by kernel_rfl) (by kernel_rfl) ?_
    iterate 2 quiet_step (exact kin_of (H1.out _))
    iterate 6 quiet_step (exact kin_same (H2.out _))
    iterate 1 quiet_step (exact kin_same (H3.out _))
    iterate 7 quiet_step (exact kin_same (H4.out _))
    iterate 1 quiet_step (exact kin_same (H5.out _))
    iterate 7 quiet_step (exact kin_same (H6.out _))
    iterate 2 quiet_step (fail)
    refine wpQuiet_nil ?_;rintro _ ⟨z,rfl⟩;have HZ:Hid (Below w.heap.size w z.u):=HB.out.trans (z.ok.mono HB.out.size);generalize z.u=wz at *;go_wp2_with fail;go_ret;exact ⟨by rw [HF.out];simp,HZ.out⟩
   ·go_enter Tryz.func117,Tryz.ntmps117
    go_wp2_with (go_at_call 134;refine (HK.out _).mono ?_;rintro e w' ⟨rfl,rfl⟩)
    refine wp_region_kin (by kernel_rfl) (by kernel_rfl) ?_
    iterate 2 quiet_step (exact kin_of (H1.out _))
    iterate 6 quiet_step (exact kin_same (H2.out _))
    iterate 1 quiet_step (exact kin_same (H3.out _))
    iterate 7 quiet_step (exact kin_same (H4.out _))
    iterate 1 quiet_step (exact kin_same (H5.out _))
    iterate 7 quiet_step (exact kin_same (H6.out _))
    iterate 2 quiet_step (fail)
    refine wpQuiet_nil ?_;rintro _ ⟨z,rfl⟩;have HZ:Hid (Below w.heap.size w z.u):=HB.out.trans (z.ok.mono HB.out.size);generalize z.u=wz at *;go_wp2_with fail;go_ret;exact ⟨by rw [HF.out];simp,HZ.out⟩
def IsRz (w:World) (ao:Option Addr) (l:List Rz):Prop:=∀ (i:Nat) (x:Rz),l[i]?=some x->∃ g o,ao=some ⟨g,o,none⟩/\g < w.heap.size /\
 w.cell? ⟨g,o+i * 5,none⟩=some (I x.kind)/\w.cell? ⟨g,o+i * 5+1,none⟩=some (.string x.name)/\w.cell? ⟨g,o+i * 5+2,none⟩=some (I x.stop)/\w.cell? ⟨g,o+i * 5+3,none⟩=some (I x.n)/\w.cell? ⟨g,o+i * 5+4,none⟩=some (I x.kids)
theorem IsRz.below {w w':World} {ao:Option Addr} {l:List Rz} (h:IsRz w ao l) (hb:Below w.heap.size w w'):IsRz w' ao l:=by
 intro i x hx;obtain ⟨g,o,e,hg,h1,h2,h3,h4,h5⟩:=h i x hx;have hc:∀ j,w'.cell? ⟨g,j,none⟩=w.cell? ⟨g,j,none⟩:=fun j=>hb.cell (p:=⟨g,j,none⟩) hg;exact ⟨g,o,e,Nat.lt_of_lt_of_le hg hb.size,(hc _).trans h1,(hc _).trans h2,(hc _).trans h3,(hc _).trans h4,(hc _).trans h5⟩
def wrong:List Ab->Nat->List Rz->Nat × Bool
 | t,i,[]=>(i,!t.isEmpty)
 | t,i,r :: l=>if t.isEmpty || !(mayStand (top t).kind (top t).seen (top t).kid r.kind && filled r) then (i,true) else wrong (past t r 0) (i+1) l
def ab1:Ab:=⟨0,1,0,0,0⟩
theorem rows_at {w:World} {ao:Option Addr} {l:List Rz} (h:IsRz w ao l) {k:Nat} (hk:k < l.length):∃ r g o,l.drop k=r :: l.drop (k+1)/\l[k]?=some r/\ao=some ⟨g,o,none⟩/\g < w.heap.size /\
  w.cell? ⟨g,o+k * 5,none⟩=some (I r.kind)/\w.cell? ⟨g,o+k * 5+1,none⟩=some (.string r.name)/\w.cell? ⟨g,o+k * 5+2,none⟩=some (I r.stop)/\w.cell? ⟨g,o+k * 5+3,none⟩=some (I r.n)/\w.cell? ⟨g,o+k * 5+4,none⟩=some (I r.kids):=by
 obtain ⟨r,h1,h2,_⟩:=drop_at hk;obtain ⟨g,o,e,hg,c0,c1,c2,c3,c4⟩:=h k r h1;exact ⟨r,g,o,h2,h1,e,hg,c0,c1,c2,c3,c4⟩
theorem wrong_no {t:List Ab} {i:Nat} {r:Rz} {l:List Rz} (h:(t.isEmpty || !(mayStand (top t).kind (top t).seen (top t).kid r.kind && filled r))=true):wrong t i (r :: l)=(i,true):=by
 rw [wrong,if_pos h]
theorem wrong_go {t:List Ab} {i:Nat} {r:Rz} {l:List Rz} (h:(t.isEmpty || !(mayStand (top t).kind (top t).seen (top t).kid r.kind && filled r))=false):wrong t i (r :: l)=wrong (past t r 0) (i+1) l:=by
 rw [wrong,if_neg (by rw [h];simp)]
theorem firstWrong_any (ao:Option Addr) (l:List Rz) (cap:Nat) (w:World) (h:IsRz w ao l) (hn:l.length<=2932031007317):
  Calls Tryz.prog 75 #[.slice ao l.length cap] w fun e w'=>e=.returned (.tuple #[I ((wrong [ab1] 0 l).1:Nat),.bool (wrong [ab1] 0 l).2])/\Below w.heap.size w w':=by
 have HI:Hid (IsRz w ao l):=h;have HN:Hid (l.length<=2932031007317):=hn;have hO:OwnT (w.alloc (.cells #[I 0,I 1,I 0,I 0,I 0] 164)) w.heap.size (.slice (pZ w.heap.size) 1 1) [ab1]:=
  World.ownsRow_lit w #[I 0,I 1,I 0,I 0,I 0] 1 (Nat.le_refl _) (by unfold maxLen;omega) rfl
 have HO:Hid (OwnT (w.alloc (.cells #[I 0,I 1,I 0,I 0,I 0] 164)) w.heap.size (.slice (pZ w.heap.size) 1 1) [ab1]):=hO;have HB0:Hid (Below w.heap.size w (w.alloc (.cells #[I 0,I 1,I 0,I 0,I 0] 164))):=bAl w _;have hln:(l.length:Int)<=2932031007317:=by omega
 clear h hn hO;go_enter Tryz.func75,Tryz.ntmps75;go_wp2_with fail
 go_loopg [4,11] l.length (fun gq x i wr=>∃ (k:Nat) (v:Value) (t:List Ab),v=x/\i=I k/\gq=l.length - k/\k<=l.length/\OwnT wr w.heap.size v t/\Below w.heap.size w wr/\t.length<=k+1/\SeenLe k t/\wrong t k (l.drop k)=wrong [ab1] 0 l)
 case atStart=>exact ⟨0,_,[ab1],rfl,rfl,rfl,Nat.zero_le _,HO.out,HB0.out,Nat.le_refl _,fun a ha=>by simp only [List.mem_singleton] at ha;subst ha;exact Nat.le_refl _,rfl⟩
 case round=>
  obtain ⟨k,v,t,rfl,rfl,hgk,hk,hOw,hBr,htl,hsn,hwr⟩:=hrel;have HG:Hid (gk=l.length - k):=hgk;have HOr:Hid (OwnT wr w.heap.size v t):=hOw;have HBr:Hid (Below w.heap.size w wr):=hBr;have HTL:Hid (t.length<=k+1/\SeenLe k t/\k<=l.length/\l.length<=2932031007317):=⟨htl,hsn,hk,HN.out⟩;have HWr:Hid (wrong t k (l.drop k)=wrong [ab1] 0 l):=hwr;clear hgk hOw hBr htl hsn hwr;by_cases hlt:k < l.length
  ·have hlt':(k:Int) < (l.length:Int):=by omega
   obtain ⟨r,g,o,hdr,hlk,rfl,hg,c0,c1,c2,c3,c4⟩:=rows_at (HI.out.below HBr.out) hlt;have HDr:Hid (l.drop k=r :: l.drop (k+1)):=hdr;have HB1:Hid (Below wr.heap.size wr (wr.alloc (.cells #[I r.kind,.string r.name,I r.stop,I r.n,I r.kids] 61))):=bAl wr _;have hne:Nonempty (Kin (wr.alloc (.cells #[I r.kind,.string r.name,I r.stop,I r.n,I r.kids] 61))):=Kin.there _;have hc:∀ j u,([I r.kind,.string r.name,I r.stop,I r.n,I r.kids]:List Value)[j]?=some u->∀ y:Kin (wr.alloc (.cells #[I r.kind,.string r.name,I r.stop,I r.n,I r.kids] 61)),y.u.cell? ⟨wr.heap.size,j,none⟩=some u:=fun j u hu y=>
    y.cell (a:=⟨wr.heap.size,j,none⟩) (by simp) (by rw [World.cell?,heap_alloc_new];simpa using hu)
   have y0:=hc 0 _ rfl;have y1:=hc 1 _ rfl;have y2:=hc 2 _ rfl;have y3:=hc 3 _ rfl;have y4:=hc 4 _ rfl;have H3:Hid (∀ w,Calls Tryz.prog 117 #[.agg #[I r.kind,.string r.name,I r.stop,I r.n,I r.kids]] w fun e w'=>e=.returned (.bool (filled r))/\Below w.heap.size w w'):=fun w=>filled_any r w;have HPst:Hid (∀ W,Below wr.heap.size wr W->Calls Tryz.prog 118 #[v,.agg #[I r.kind,.string r.name,I r.stop,I r.n,I r.kids],I 0] W fun e w'=>∃ v',e=.returned v'/\OwnT w' w.heap.size v' (past t r 0)/\Went W v w' v'):=fun W hW=>
    past_any t r 0 w.heap.size v W (own_below HOr.out hW) (Nat.le_trans HBr.out.size hW.size) (fun a ha=>by have h1:=HTL.out.2.1 a ha;have h2:=HTL.out.2.2;omega) (by have h1:=HTL.out;omega)
   have HV:Hid (∀ j,v.ownBlock=some j->w.heap.size<=j):=fun j hj=>(World.ownsRow.lt HOr.out j hj).1;clear hc hdr hlk hlt;cases t with
   | nil=>
    obtain ⟨bo,bc,rfl⟩:=own_form HOr.out;simp only [List.length_nil] at *;have H1:Hid (∀ y:Kin (wr.alloc (.cells #[I r.kind,.string r.name,I r.stop,I r.n,I r.kids] 61)),Calls Tryz.prog 116 #[.slice bo 0 bc] y.u fun e w'=>e=.returned (agb ab0)/\Below y.u.heap.size y.u w'):=fun y=>last_any [] w.heap.size _ y.u (own_below HOr.out (HB1.out.trans (y.ok.mono HB1.out.size))) (by simp)
    have H2:Hid (∀ w,Calls Tryz.prog 115 #[agb ab0,I r.kind] w fun e w'=>e=.returned (.bool (mayStand 0 0 0 r.kind))/\Below w.heap.size w w'):=fun w=>mayStand_any ab0 r.kind w;go_wp2_with fail;refine wp_region_kin (by kernel_rfl) (by kernel_rfl) ?_
    iterate 6 quiet_step (exact kin_of (H1.out _))
    iterate 3 quiet_step (exact kin_of (H2.out _))
    iterate 5 quiet_step (exact kin_of (H3.out _))
    iterate 2 quiet_step (fail)
    refine wpQuiet_nil ?_;rintro _ ⟨z,rfl⟩;have HZ:Hid (Below wr.heap.size wr z.u):=HB1.out.trans (z.ok.mono HB1.out.size);have z0:=y0 z;have z1:=y1 z;have z2:=y2 z;have z3:=y3 z;have z4:=y4 z;clear y0 y1 y2 y3 y4;generalize z.u=wz at *;go_wp2_with fail
    go_ret2
    refine ⟨?_,HBr.out.trans (HZ.out.mono HBr.out.size)⟩;rw [<-HWr.out,HDr.out];rw [wrong_no rfl];rfl
   | cons a t=>
    obtain ⟨ga,capa,rfl,_,_,_,_⟩:=own_top HOr.out;have htl:(t.length:Int)<=2932031007317:=by have:=HTL.out;simp only [List.length_cons] at this;omega
    have H1:Hid (∀ y:Kin (wr.alloc (.cells #[I r.kind,.string r.name,I r.stop,I r.n,I r.kids] 61)),Calls Tryz.prog 116 #[.slice (pZ ga) (t.length+1) capa] y.u fun e w'=>e=.returned (.agg #[I a.kind,I a.kids,I a.seen,I a.kid,I a.levels])/\Below y.u.heap.size y.u w'):=fun y=>last_any (a :: t) w.heap.size _ y.u (own_below HOr.out (HB1.out.trans (y.ok.mono HB1.out.size))) (by simp only [List.length_cons];omega)
    have H2:Hid (∀ w,Calls Tryz.prog 115 #[.agg #[I a.kind,I a.kids,I a.seen,I a.kid,I a.levels],I r.kind] w fun e w'=>e=.returned (.bool (mayStand a.kind a.seen a.kid r.kind))/\Below w.heap.size w w'):=fun w=>mayStand_any a r.kind w;have HQ:Hid ((a :: t).isEmpty=false/\top (a :: t)=a):=⟨rfl,rfl⟩;cases hb1:mayStand a.kind a.seen a.kid r.kind
    ·have HX:Hid (((a :: t).isEmpty || !(mayStand (top (a :: t)).kind (top (a :: t)).seen (top (a :: t)).kid r.kind && filled r))=true):=by show _=_;rw [HQ.out.1,HQ.out.2,hb1];rfl
     rw [hb1] at H2;clear hb1;go_wp2_with fail;refine wp_region_kin (by kernel_rfl) (by kernel_rfl) ?_
     iterate 6 quiet_step (exact kin_of (H1.out _))
     iterate 3 quiet_step (exact kin_of (H2.out _))
     iterate 5 quiet_step (exact kin_of (H3.out _))
     iterate 2 quiet_step (fail)
     refine wpQuiet_nil ?_;rintro _ ⟨z,rfl⟩;have HZ:Hid (Below wr.heap.size wr z.u):=HB1.out.trans (z.ok.mono HB1.out.size);have z0:=y0 z;have z1:=y1 z;have z2:=y2 z;have z3:=y3 z;have z4:=y4 z;clear y0 y1 y2 y3 y4;generalize z.u=wz at *;go_wp2_with fail
     go_ret2
     refine ⟨?_,HBr.out.trans (HZ.out.mono HBr.out.size)⟩;rw [<-HWr.out,HDr.out];rw [wrong_no HX.out];rfl
    ·cases hb2:filled r
     ·have HX:Hid (((a :: t).isEmpty || !(mayStand (top (a :: t)).kind (top (a :: t)).seen (top (a :: t)).kid r.kind && filled r))=true):=by show _=_;rw [HQ.out.1,HQ.out.2,hb1,hb2];rfl
      rw [hb1] at H2;rw [hb2] at H3;clear hb1 hb2;go_wp2_with fail;refine wp_region_kin (by kernel_rfl) (by kernel_rfl) ?_
      iterate 6 quiet_step (exact kin_of (H1.out _))
      iterate 3 quiet_step (exact kin_of (H2.out _))
      iterate 5 quiet_step (exact kin_of (H3.out _))
      iterate 2 quiet_step (fail)
      refine wpQuiet_nil ?_;rintro _ ⟨z,rfl⟩;have HZ:Hid (Below wr.heap.size wr z.u):=HB1.out.trans (z.ok.mono HB1.out.size);have z0:=y0 z;have z1:=y1 z;have z2:=y2 z;have z3:=y3 z;have z4:=y4 z;clear y0 y1 y2 y3 y4;generalize z.u=wz at *;go_wp2_with fail
      go_ret2
      refine ⟨?_,HBr.out.trans (HZ.out.mono HBr.out.size)⟩;rw [<-HWr.out,HDr.out];rw [wrong_no HX.out];rfl
     ·have HX:Hid (((a :: t).isEmpty || !(mayStand (top (a :: t)).kind (top (a :: t)).seen (top (a :: t)).kid r.kind && filled r))=false):=by show _=_;rw [HQ.out.1,HQ.out.2,hb1,hb2];rfl
      rw [hb1] at H2;rw [hb2] at H3;clear hb1 hb2;go_wp2_with fail;refine wp_region_kin (by kernel_rfl) (by kernel_rfl) ?_
      iterate 6 quiet_step (exact kin_of (H1.out _))
      iterate 3 quiet_step (exact kin_of (H2.out _))
      iterate 5 quiet_step (exact kin_of (H3.out _))
      iterate 2 quiet_step (fail)
      refine wpQuiet_nil ?_;rintro _ ⟨z,rfl⟩;have HZ:Hid (Below wr.heap.size wr z.u):=HB1.out.trans (z.ok.mono HB1.out.size);have z0:=y0 z;have z1:=y1 z;have z2:=y2 z;have z3:=y3 z;have z4:=y4 z;clear y0 y1 y2 y3 y4;generalize z.u=wz at *;go_wp2_with fail;refine (HPst.out wz HZ.out).mono ?_;rintro e w8 ⟨v8,rfl,hO8,hW8⟩;have HO8:Hid (OwnT w8 w.heap.size v8 (past (a :: t) r 0)):=hO8;have HB8:Hid (Below w.heap.size w w8):=(HBr.out.trans (HZ.out.mono HBr.out.size)).trans (hW8.low HV.out (Nat.le_trans HBr.out.size HZ.out.size));obtain ⟨bo8,bc8,rfl⟩:=own_form hO8;clear hO8 hW8;go_wp2_with fail;go_roundg (l.length - (k+1))
      case measure=>have:=HG.out;omega
      case rel=>
       refine ⟨k+1,_,past (a :: t) r 0,rfl,by go_num,rfl,by omega,HO8.out,HB8.out,?_,seen_past HTL.out.2.1 r 0,?_⟩
       ·have h1:=past_len (a :: t) r 0;have h2:=HTL.out.1;omega
       ·rw [<-HWr.out,HDr.out,wrong_go HX.out]
  ·have hlt':¬ ((k:Int) < (l.length:Int)):=by omega
   have hke:k=l.length:=by have:=HTL.out;omega
   obtain ⟨bo,bc,rfl⟩:=own_form HOr.out;have htl:(t.length:Int)<=2932031007318:=by have:=HTL.out;omega
   have HE:Hid (wrong [ab1] 0 l=(l.length,decide (0 < t.length))):=by
    show _=_
    rw [<-HWr.out,List.drop_eq_nil_of_le (by omega),wrong,hke]
    cases t<;>simp
   clear hlt hke;go_wp2_with fail
   go_ret2
   refine ⟨?_,HBr.out⟩;rw [HE.out];rfl
def LvLe (n:Nat) (t:List Ab):Prop:=∀ a ∈ t,0<=a.levels/\a.levels<=n
theorem lv_pop {n:Nat} {t:List Ab} (h:LvLe n t):LvLe n (pop t):=by
 induction t with
 | nil=>exact h
 | cons a t ih=>
  simp only [pop]
  split
  ·exact ih fun b hb=>h b (List.mem_cons_of_mem _ hb)
  ·exact h
theorem lv_past {n:Nat} {t:List Ab} (h:LvLe n t) (r:Rz) (v:Int) (h0:0<=v) (h1:v<=n+2):LvLe (n+2) (past t r v):=by
 refine lv_pop fun a ha=>?_;rcases List.mem_cons.1 ha with rfl | ha
 ·exact ⟨h0,h1⟩
 ·cases t with
  | nil=>cases ha
  | cons b t=>
   rcases List.mem_cons.1 ha with rfl | ha
   ·have:=h b (List.mem_cons_self ..);exact ⟨this.1,by show b.levels<=_;omega⟩
   ·have:=h a (List.mem_cons_of_mem _ ha);omega
theorem opn_two (k:Int):0<=opn k/\opn k<=1:=by unfold opn;split<;>simp
def Fits (l:List Rz) (k:Nat):Prop:=(ast opn loose l k).length<=k/\SeenLe k (ast opn loose l k)/\LvLe (2 * k) (ast opn loose l k)/\0<=mx opn loose l k/\mx opn loose l k<=2 * k
theorem top_lv {n:Nat} {t:List Ab} (h:LvLe n t):0<=(top t).levels/\(top t).levels<=n:=by
 cases t with
 | nil=>exact ⟨Int.le_refl _,by show (0:Int)<=_;omega⟩
 | cons a t=>exact h a (List.mem_cons_self ..)
theorem lev_le {l:List Rz} {k:Nat} (h:Fits l k):0<=lev opn loose l k/\lev opn loose l k<=2 * k+2:=by
 have h1:=top_lv h.2.2.1;have h2:=opn_two (rat l k).kind;show 0<=(top (ast opn loose l k)).levels+opn (rat l k).kind+_/\(top (ast opn loose l k)).levels+opn (rat l k).kind+_<=_
 split<;>omega
theorem fits_zero (l:List Rz):Fits l 0:=⟨Nat.le_refl _,fun _ h=>(by cases h),fun _ h=>(by cases h),Int.le_refl _,(by show (0:Int)<=_;omega)⟩
theorem fits_succ (l:List Rz) {k:Nat} (h:Fits l k):Fits l (k+1):=by
 have h1:=lev_le h;obtain ⟨a1,a2,a3,a4,a5⟩:=h;refine ⟨?_,seen_past a2 _ _,?_,?_⟩
 ·have:=past_len (ast opn loose l k) (rat l k) (lvl opn loose (ast opn loose l k) (rat l k));show (past _ _ _).length<=_;omega
 ·have:=lv_past a3 (rat l k) (lev opn loose l k) h1.1 (by omega)
  rw [show 2 * (k+1)=2 * k+2 by omega]
  exact this
 ·show 0<=(if mx opn loose l k < lev opn loose l k then lev opn loose l k else mx opn loose l k)/\(if mx opn loose l k < lev opn loose l k then lev opn loose l k else mx opn loose l k)<=_
  split<;>omega
theorem mx_succ (l:List Rz) (k:Nat):mx opn loose l (k+1)=if mx opn loose l k < lev opn loose l k then lev opn loose l k else mx opn loose l k:=rfl
theorem ast_succ (l:List Rz) (k:Nat):ast opn loose l (k+1)=past (ast opn loose l k) (rat l k) (lev opn loose l k):=rfl
theorem lev_max (a b:Int):Value.int .i64 (max a b)=Value.int .i64 (if a < b then b else a):=by
 congr 1
 split<;>omega
end Go.Proofs.YtbledbjcghaanaaGreat.Gr
