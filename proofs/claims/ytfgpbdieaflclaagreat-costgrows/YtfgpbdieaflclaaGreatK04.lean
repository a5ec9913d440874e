import Derived.Test.YtfgpbdieaflclaaGreatK02
import Derived.Laws.IdiomStrings
import Derived.Lib.ConvBytes
import Derived.Shelf.Abstract
set_option maxHeartbeats 4000000
set_option maxRecDepth 100000
namespace Go.Proofs.YtfgpbdieaflclaaGreat.Gr
open Go.RowKit Sp Lx
theorem mayFollow_any (a:Ab) (k:Int) (w:World):Calls Tryz.prog 98 #[agb a,.int .i64 k] w fun e w'=>e=.returned (.bool (mayFollow a.kind a.seen k))/\Below w.heap.size w w':=by
 obtain ⟨d,m,s,c,v⟩:=a
 have H1:Hid (∀ w,Calls Tryz.prog 97 #[.int .i64 k] w fun e w'=>e=.returned (.bool (isItem k))/\w'=w):=fun w=>isItem_any k w
 have H2:Hid (∀ w,Calls Tryz.prog 105 #[.int .i64 k] w fun e w'=>e=.returned (.bool (isEx k))/\w'=w):=fun w=>isEx_any k w
 have HM:Hid (mayFollow d s k=if d=15/\(s:Int)=0 then isItem k else if (d=13/\(s:Int)=2)\/(d=12/\(s:Int)=1) then k == 11 else if d=12/\(s:Int)=2 then k == 11 || k == 12 else isEx k):=rfl
 simp only
 generalize mayFollow d s k=R at *
 generalize isItem k=b1 at *
 generalize isEx k=b2 at *
 have hb:Below w.heap.size w (w.alloc (.cells #[.int .i64 d,.int .i64 m,.int .i64 s,.int .i64 c,.int .i64 v] 119)):=bAl w _
 have HB:Hid (Below w.heap.size w (w.alloc (.cells #[.int .i64 d,.int .i64 m,.int .i64 s,.int .i64 c,.int .i64 v] 119))):=hb
 clear hb
 by_cases d15:d=15
 ·subst d15
  by_cases s0:s=0
  ·subst s0
   go_enter Tryz.func98,Tryz.ntmps98
   go_wp2_with (go_at_call 97;refine (H1.out _).mono ?_;rintro e w' ⟨rfl,rfl⟩)
   all_goals go_ret
   all_goals exact ⟨by rw [HM.out];simp,HB.out⟩
  ·have q0:((s:Int) == 0)=false:=by simp;omega
   have HS:Hid (¬ s=0):=s0
   clear s0
   go_enter Tryz.func98,Tryz.ntmps98
   go_wp2_with (go_at_call 105;refine (H2.out _).mono ?_;rintro e w' ⟨rfl,rfl⟩)
   all_goals go_ret
   all_goals exact ⟨by rw [HM.out];simp [HS.out],HB.out⟩
 ·have q15:(d == 15)=false:=by simp [d15]
  have D15:Hid (¬ d=15):=d15
  clear d15
  by_cases d13:d=13
  ·subst d13
   by_cases s0:s=2
   ·subst s0
    go_enter Tryz.func98,Tryz.ntmps98
    go_wp2
    all_goals go_ret
    all_goals exact ⟨by rw [HM.out];simp,HB.out⟩
   ·have q0:((s:Int) == 2)=false:=by simp;omega
    have HS:Hid (¬ (s:Int)=2):=by show ¬ _;omega
    clear s0
    go_enter Tryz.func98,Tryz.ntmps98
    go_wp2_with (go_at_call 105;refine (H2.out _).mono ?_;rintro e w' ⟨rfl,rfl⟩)
    all_goals go_ret
    all_goals exact ⟨by rw [HM.out];simp [HS.out],HB.out⟩
  ·have q13:(d == 13)=false:=by simp [d13]
   have D13:Hid (¬ d=13):=d13
   clear d13
   by_cases d12:d=12
   ·subst d12
    by_cases s1:s=1
    ·subst s1
     go_enter Tryz.func98,Tryz.ntmps98
     go_wp2
     all_goals go_ret
     all_goals exact ⟨by rw [HM.out];simp,HB.out⟩
    ·have q1:((s:Int) == 1)=false:=by simp;omega
     have HS1:Hid (¬ (s:Int)=1):=by show ¬ _;omega
     clear s1
     by_cases s2:s=2
     ·subst s2
      go_enter Tryz.func98,Tryz.ntmps98
      go_wp2
      all_goals go_ret
      all_goals exact ⟨by rw [HM.out];simp [*],HB.out⟩
     ·have q2:((s:Int) == 2)=false:=by simp;omega
      have HS2:Hid (¬ (s:Int)=2):=by show ¬ _;omega
      clear s2
      go_enter Tryz.func98,Tryz.ntmps98
      go_wp2_with (go_at_call 105;refine (H2.out _).mono ?_;rintro e w' ⟨rfl,rfl⟩)
      all_goals go_ret
      all_goals exact ⟨by rw [HM.out];simp [HS1.out,HS2.out],HB.out⟩
   ·have q12:(d == 12)=false:=by simp [d12]
    have D12:Hid (¬ d=12):=d12
    clear d12
    go_enter Tryz.func98,Tryz.ntmps98
    go_wp2_with (go_at_call 105;refine (H2.out _).mono ?_;rintro e w' ⟨rfl,rfl⟩)
    all_goals go_ret
    all_goals exact ⟨by rw [HM.out];simp [D15.out,D13.out,D12.out],HB.out⟩
theorem mayStand_any (a:Ab) (k:Int) (w:World):Calls Tryz.prog 84 #[agb a,.int .i64 k] w fun e w'=>e=.returned (.bool (mayStand a.kind a.seen a.kid k))/\Below w.heap.size w w':=by
 obtain ⟨d,m,s,c,v⟩:=a
 have H1:Hid (∀ w,Calls Tryz.prog 97 #[.int .i64 k] w fun e w'=>e=.returned (.bool (isItem k))/\w'=w):=fun w=>isItem_any k w
 have H2:Hid (∀ w,Calls Tryz.prog 96 #[.int .i64 k] w fun e w'=>e=.returned (.bool (isDoing k))/\w'=w):=fun w=>isDoing_any k w
 have H3:Hid (∀ w,Calls Tryz.prog 94 #[.int .i64 k] w fun e w'=>e=.returned (.bool (isEvent k))/\w'=w):=fun w=>isEvent_any k w
 have H4:Hid (∀ w,Calls Tryz.prog 95 #[.int .i64 k] w fun e w'=>e=.returned (.bool (isDecl k))/\w'=w):=fun w=>isDecl_any k w
 have H5:Hid (∀ w,Calls Tryz.prog 94 #[.int .i64 c] w fun e w'=>e=.returned (.bool (isEvent c))/\w'=w):=fun w=>isEvent_any c w
 have H6:Hid (∀ w,Calls Tryz.prog 98 #[.agg #[.int .i64 d,.int .i64 m,.int .i64 s,.int .i64 c,.int .i64 v],.int .i64 k] w fun e w'=>e=.returned (.bool (mayFollow d s k))/\Below w.heap.size w w'):=fun w=>mayFollow_any ⟨d,m,s,c,v⟩ k w
 have HM:Hid (mayStand d s c k=if d=0 then k == 1 else if d=1 then isEvent k || (isDecl k && !isEvent c) else if d=7\/d=8\/d=9\/d=10 then k == 11
  else if d=11 then isDoing k else if d=19\/d=20 then k == 24 else if d=38 then isItem k else mayFollow d s k):=rfl
 simp only
 generalize mayStand d s c k=R at *
 generalize mayFollow d s k=b6 at *
 generalize isItem k=b1 at *
 generalize isDoing k=b2 at *
 generalize isEvent k=b3 at *
 generalize isDecl k=b4 at *
 generalize isEvent c=b5 at *
 have hb:Below w.heap.size w (w.alloc (.cells #[.int .i64 d,.int .i64 m,.int .i64 s,.int .i64 c,.int .i64 v] 119)):=bAl w _
 have HB:Hid (Below w.heap.size w (w.alloc (.cells #[.int .i64 d,.int .i64 m,.int .i64 s,.int .i64 c,.int .i64 v] 119))):=hb
 clear hb
 by_cases d1:d=1
 ·subst d1
  cases b3
  ·cases b4
   ·go_enter Tryz.func84,Tryz.ntmps84
    go_wp2_with (first
     | (go_at_call 94;refine (H3.out _).mono ?_;rintro e w' ⟨rfl,rfl⟩)
     | (go_at_call 95;refine (H4.out _).mono ?_;rintro e w' ⟨rfl,rfl⟩))
    all_goals go_ret
    all_goals exact ⟨by rw [HM.out];simp,HB.out⟩
   ·go_enter Tryz.func84,Tryz.ntmps84
    go_wp2_with fail
    refine (H3.out _).mono ?_
    rintro e w' ⟨rfl,rfl⟩
    go_wp2_with fail
    refine (H4.out _).mono ?_
    rintro e w' ⟨rfl,rfl⟩
    go_wp2_with fail
    refine (H5.out _).mono ?_
    rintro e w' ⟨rfl,rfl⟩
    go_wp2_with fail
    all_goals go_ret
    all_goals exact ⟨by rw [HM.out];simp,HB.out⟩
  ·go_enter Tryz.func84,Tryz.ntmps84
   go_wp2_with (go_at_call 94;refine (H3.out _).mono ?_;rintro e w' ⟨rfl,rfl⟩)
   all_goals go_ret
   all_goals exact ⟨by rw [HM.out];simp,HB.out⟩
 ·have q1:(d == 1)=false:=by simp [d1]
  have D1:Hid (¬ d=1):=d1
  clear d1
  go_enter Tryz.func84,Tryz.ntmps84
  go_wp2_with (first
   | (go_at_call 97;refine (H1.out _).mono ?_;rintro e w' ⟨rfl,rfl⟩)
   | (go_at_call 96;refine (H2.out _).mono ?_;rintro e w' ⟨rfl,rfl⟩)
   | (go_at_call 98;refine (H6.out _).mono ?_;rintro e w' ⟨rfl,hB7⟩;have HB7:Hid (Below w.heap.size w w'):=HB.out.trans (hB7.mono HB.out.size);clear hB7))
  all_goals go_ret
  all_goals simp only [beq_iff_eq,beq_eq_false_iff_ne,ne_eq] at *
  all_goals (have d1:=D1.out)
  all_goals first
   | exact ⟨by rw [HM.out];simp [*],HB.out⟩
   | exact ⟨by rw [HM.out];simp [*],HB7.out⟩
end Go.Proofs.YtfgpbdieaflclaaGreat.Gr
namespace Go.Proofs.YtfgpbdieaflclaaGreat.Lx
open Go.RowKit Sp
theorem beginsWord_any (c:Nat) (w:World):Calls Tryz.prog 109 #[.int .u8 c] w fun e w'=>e=.returned (.bool (isL c))/\w'=w:=by
 have HF:Hid (isL c=((decide (97<=c) && decide (c<=122)) || (decide (65<=c) && decide (c<=90)) || c == 95)):=rfl
 by_cases h1:97<=c
 ·by_cases h2:c<=122
  ·go_enter Tryz.func109,Tryz.ntmps109
   go_wp2
   go_ret
   exact ⟨ret_b (by rw [HF.out];simp [h1,h2]),rfl⟩
  ·have h3:((c:Int) == 95)=false:=by simp;omega
   go_enter Tryz.func109,Tryz.ntmps109
   go_wp2
   go_ret
   exact ⟨ret_b (by rw [HF.out,Bool.eq_iff_iff];simp;omega),rfl⟩
 ·by_cases h2:65<=c
  ·by_cases h3:c<=90
   ·go_enter Tryz.func109,Tryz.ntmps109
    go_wp2
    go_ret
    exact ⟨ret_b (by rw [HF.out];simp [h2,h3]),rfl⟩
   ·go_enter Tryz.func109,Tryz.ntmps109
    go_wp2
    go_ret
    exact ⟨ret_b (by rw [HF.out,Bool.eq_iff_iff];simp;omega),rfl⟩
  ·have h3:((c:Int) == 95)=false:=by simp;omega
   go_enter Tryz.func109,Tryz.ntmps109
   go_wp2
   go_ret
   exact ⟨ret_b (by rw [HF.out,Bool.eq_iff_iff];simp;omega),rfl⟩
theorem isDigit_any (c:Nat) (w:World):Calls Tryz.prog 112 #[.int .u8 c] w fun e w'=>e=.returned (.bool (isD c))/\w'=w:=by
 have HF:Hid (isD c=(decide (48<=c) && decide (c<=57))):=rfl
 by_cases h1:48<=c
 ·go_enter Tryz.func112,Tryz.ntmps112
  go_wp2
  go_ret
  exact ⟨ret_b (by rw [HF.out,Bool.eq_iff_iff];simp;omega),rfl⟩
 ·go_enter Tryz.func112,Tryz.ntmps112
  go_wp2
  go_ret
  exact ⟨ret_b (by rw [HF.out];simp [h1]),rfl⟩
theorem inWord_any (c:Nat) (w:World):Calls Tryz.prog 111 #[.int .u8 c] w fun e w'=>e=.returned (.bool (isW c))/\w'=w:=by
 have HF:Hid (isW c=(isL c || isD c)):=rfl
 by_cases h1:isL c=true
 ·go_enter Tryz.func111,Tryz.ntmps111
  go_wp2_with (first | (go_at_call 109;refine (beginsWord_any c _).mono ?_;rintro e w' ⟨rfl,rfl⟩) | (go_at_call 112;refine (isDigit_any c _).mono ?_;rintro e w' ⟨rfl,rfl⟩))
  go_ret
  exact ⟨ret_b (by rw [HF.out];simp [h1]),rfl⟩
 ·have h1:isL c=false:=by simpa using h1
  go_enter Tryz.func111,Tryz.ntmps111
  go_wp2_with (first | (go_at_call 109;refine (beginsWord_any c _).mono ?_;rintro e w' ⟨rfl,rfl⟩) | (go_at_call 112;refine (isDigit_any c _).mono ?_;rintro e w' ⟨rfl,rfl⟩))
  go_ret
  exact ⟨ret_b (by rw [HF.out];simp [h1]),rfl⟩
def kp (t:List Nat):Bool:=kept.contains t
theorem tx_toList (s:ByteArray):tx s=s.toList.map UInt8.toNat:=by rw [Lib.toList_data];rfl
def keptB:List (List UInt8):=[[112,111,108,105,99,121],[113,117,101,117,101],[114,101,115,105,100,101,110,116],[103,104,111,115,116],[118,97,114],[105,110],[116,97,103],[114,101,113,117,105,114,101],[114,117,108,101],[111,110],[104,105,116],[109,105,115,115],[105,102],[101,108,115,101],[108,111,111,112],[119,104,105,108,101],[115,101,116],[109,97,114,107],[105,110,115,101,114,116],[109,111,118,101],[102,111,114,103,101,116],[115,104,105,102,116],[101,118,105,99,116],[116,111],[100,114,111,112],[99,97,108,108],[112,97,115,115],[102,114,111,110,116],[98,97,99,107],[120],[116,114,117,101],[102,97,108,115,101],[108,101,110],[99,97,112],[115,105,122,101],[116,111,116,97,108],[101,109,112,116,121],[102,117,108,108],[97,116],[109,105,110],[109,97,120]]
theorem keptB_map:kept=keptB.map (List.map UInt8.toNat):=by decide +kernel
theorem kp_iff (s:ByteArray):kp (tx s)=decide (s.toList ∈ keptB):=by
 rw [Bool.eq_iff_iff,kp,keptB_map,tx_toList]
 simp only [List.contains_iff_mem,decide_eq_true_eq,List.mem_map]
 constructor
 ·rintro ⟨a,h1,h2⟩
  rwa [<-(List.map_inj_right (fun x y e=>UInt8.toNat_inj.1 e)).1 h2]
 ·exact fun h=>⟨_,h,rfl⟩
theorem is_any (s:ByteArray) (w:World):Calls Tryz.prog 108 #[.string s] w fun e w'=>e=.returned (.bool (kp (tx s)))/\w'=w:=by
 have HF:Hid (kp (tx s)=decide (s.toList ∈ keptB)):=kp_iff s
 generalize kp (tx s)=z at *
 go_enter Tryz.func108,Tryz.ntmps108
 go_wp2
 all_goals try go_ret
 all_goals refine ⟨ret_b ?_,rfl⟩
 all_goals rw [HF.out]
 all_goals generalize s.toList=t at *
 all_goals simp only [beq_iff_eq,beq_eq_false_iff_ne,ne_eq] at *
 all_goals (first | contradiction | (rename_i h;rw [h];decide) | (symm;apply decide_eq_false;intro hm;simp only [keptB,List.mem_cons,List.not_mem_nil,or_false] at hm;rcases hm with h | h | h | h | h | h | h | h | h | h | h | h | h | h | h | h | h | h | h | h | h | h | h | h | h | h | h | h | h | h | h | h | h | h | h | h | h | h | h | h | h<;>contradiction))
theorem while_any (f:Nat) (p:Nat->Bool) (hk:∀ (c:Nat) (w:World),Calls Tryz.prog f #[.int .u8 c] w fun e w'=>e=.returned (.bool (p c))/\w'=w) (he:∀ (args:Array Value) (w:World),(callFunc f args).run Tryz.prog w=.ok (.enter f args) w) (ao:Option Addr) (s:ByteArray) (cap a:Nat) (w:World) (h:IsBytes w ao s) (ha:a<=s.size) (hs:s.size<=2097152):
  Calls Tryz.prog 110 #[.slice ao s.size cap,.func (.func f) #[] #[],.int .i64 a] w fun e w'=>e=.returned (.int .i64 (ru p s a:Nat))/\w'=w:=by
 have HB:Hid (IsBytes w ao s):=h
 have HK:Hid (∀ (c:Nat) (w:World),Calls Tryz.prog f #[.int .u8 c] w fun e w'=>e=.returned (.bool (p c))/\w'=w):=hk
 clear h hk
 go_enter Tryz.func110,Tryz.ntmps110
 go_wp2
 go_loop [2] (fun i=>∃ k:Nat,k<=s.size/\i=.int .i64 k/\ru p s k=ru p s a) (fun i=>s.size - (intOf i).toNat)
 case atStart=>exact ⟨a,ha,rfl,rfl⟩
 case round=>
  obtain ⟨k,hk,rfl,hr⟩:=hrel
  have HR:Hid (ru p s k=ru p s a):=hr
  clear hr
  by_cases hlt:k < s.size
  ·obtain ⟨g,o,rfl,hg,hc⟩:=HB.out k hlt
   by_cases hp:p (nb s k)=true
   ·have HN:Hid (ru p s (k+1)=ru p s a):=by rw [<-HR.out,ru_in hlt hp];exact rfl
    generalize nb s k=c at *
    go_wp2_with fail
    refine (HK.out _ _).mono ?_
    rintro e w' ⟨rfl,rfl⟩
    go_wp2
    go_round
    case rel=>exact ⟨k+1,by omega,by go_num,HN.out⟩
    case measure=>simp [intOf];omega
   ·have hp:p (nb s k)=false:=by simpa using hp
    have HN:Hid (k=ru p s a):=by rw [<-HR.out,ru_out hlt hp];exact rfl
    generalize nb s k=c at *
    go_wp2_with fail
    refine (HK.out _ _).mono ?_
    rintro e w' ⟨rfl,rfl⟩
    go_wp2
    go_ret
    exact ⟨ret_i (by rw [<-HN.out]),rfl⟩
  ·have HN:Hid (k=ru p s a):=by rw [<-HR.out,ru_end (by omega)];exact rfl
   have hd:decide ((k:Int) < (s.size:Int))=false:=by simp;omega
   go_wp2
   go_ret
   exact ⟨ret_i (by rw [<-HN.out]),rfl⟩
theorem bytes_any {T:TypeId} (hT:Tryz.prog.underlying T=some (.slice 5)) (s:ByteArray) (w:World):∃ cap w',(convert 9 T (.string s)).run Tryz.prog w=.ok (.slice (some ⟨w.heap.size,0,none⟩) s.size cap) w'/\IsBytes w' (some ⟨w.heap.size,0,none⟩) s/\Below w.heap.size w w'/\s.size<=cap:=by
 have h1:=Lib.run_convert_string_bytes (P:=Tryz.prog) w 9 T 5 s Tryz.underlying9 hT Tryz.underlying5
 refine ⟨_,_,h1,fun i hi=>⟨w.heap.size,0,rfl,by rw [Lib.bytesWorld_size];omega,?_⟩,⟨?_,?_,?_,?_,fun k hk=>Lib.bytesWorld_at_old w 5 s k hk⟩,grownCap_ge w s.size 0 5⟩
 ·have:=Lib.bytesWorld_cell w 5 s i hi
  rw [Nat.zero_add,this,nb_get s i hi]
  have e:s.data.toList[i]?=some s[i]:=byte_at s i hi
  simp only [List.getD,e,Option.getD_some]
 ·simp [Lib.bytesWorld,World.freeze,World.alloc,World.drew,-World.alloc_eq,-World.drew_eq]
 ·simp [Lib.bytesWorld,World.freeze,World.alloc,World.drew,-World.alloc_eq,-World.drew_eq]
 ·simp [Lib.bytesWorld,World.freeze,World.alloc,World.drew,-World.alloc_eq,-World.drew_eq]
 ·rw [Lib.bytesWorld_size];omega
theorem at_any (s:ByteArray) (k:Nat) (K:Int) (hK:K=(k:Int)) (hk:k < s.size) (w:World):(Instr.index 9 (.string s) (.int .i64 K)).run Tryz.prog w=.ok (.int .u8 (nb s k:Nat)) w:=by
 subst hK
 rw [run_index_string w 9 s .i64 (k:Int) Tryz.underlying9,dif_pos ⟨by omega,by omega⟩,nb_get s k hk]
 simp
end Go.Proofs.YtfgpbdieaflclaaGreat.Lx
namespace Go.Proofs.YtfgpbdieaflclaaGreat.Lx
open Go.RowKit Sp Go.Shelf
theorem enters_inWord (args:Array Value) (w:World):(callFunc 111 args).run Tryz.prog w=.ok (.enter 111 args) w:=enters_of Tryz.func111 (by kernel_rfl) rfl args w
section
variable (ao:Option Addr) (s:ByteArray) (cap a:Nat) (w:World) (h:IsBytes w ao s) (ha:a<=s.size) (hs:s.size<=2097152)
include h ha hs
theorem whileWord:Calls Tryz.prog 110 #[.slice ao s.size cap,.func (.func 111) #[] #[],.int .i64 a] w fun e w'=>e=.returned (.int .i64 (ru isW s a:Nat))/\w'=w:=
 while_any _ _ inWord_any enters_inWord ao s cap a w h ha hs
end
theorem drop_len (s:ByteArray) (i:Nat):((tx s).drop i).length=s.size - i:=by rw [List.length_drop,tx_len]
theorem shaped_iff {s:ByteArray} (h:0 < s.size):shaped (tx s)=(isL (nb s 0) && decide (ru isW s 1=s.size)):=by
 have e:tx s=nb s 0 :: (tx s).drop 1:=by have:=tx_drop h;simpa using this
 rw [e]
 simp only [shaped]
 congr 1
 rw [Bool.eq_iff_iff,decide_eq_true_eq]
 have hl:((tx s).drop 1).length=s.size - 1:=drop_len s 1
 constructor
 ·intro h1
  unfold ru
  rw [takeWhile_all (List.all_eq_true.1 h1),hl]
  omega
 ·intro h1
  unfold ru at h1
  refine List.all_eq_true.2 fun c hc=>?_
  have h2:((tx s).drop 1).takeWhile isW=(tx s).drop 1:=by
   have h3:=takeWhile_take (p:=isW) ((tx s).drop 1)
   rw [<-h3,List.take_of_length_le (by omega)]
  rw [<-h2] at hc
  exact takeWhile_mem _ hc
theorem isName_of (s:ByteArray):isName (tx s)=(decide (0 < s.size) && decide (s.size<=64) && !kp (tx s) && isL (nb s 0) && decide (ru isW s 1=s.size)):=by
 by_cases h:0 < s.size
 ·unfold isName
  rw [shaped_iff h,tx_len]
  show _=(_ && _ && !kept.contains (tx s) && _ && _)
  rw [Bool.eq_iff_iff]
  simp [h]
  constructor
  ·rintro ⟨⟨a,b,c⟩,d⟩;exact ⟨⟨⟨a,d⟩,b⟩,c⟩
  ·rintro ⟨⟨⟨a,d⟩,b⟩,c⟩;exact ⟨⟨a,b,c⟩,d⟩
 ·have e:tx s=[]:=by
   apply List.eq_nil_of_length_eq_zero
   rw [tx_len];omega
  rw [e]
  simp [isName,shaped,h]
theorem isName_any (s:ByteArray) (w:World):Calls Tryz.prog 107 #[.string s] w fun e w'=>e=.returned (.bool (isName (tx s)))/\Below w.heap.size w w':=by
 have HF:Hid (isName (tx s)=(decide (0 < s.size) && decide (s.size<=64) && !kp (tx s) && isL (nb s 0) && decide (ru isW s 1=s.size))):=isName_of s
 generalize isName (tx s)=z at *
 have HL:Hid (s.toList.length=s.size):=by rw [Lib.toList_data];simp [Hid]
 by_cases h0:s.size=0
 ·have e0:s.toList=[]:=List.eq_nil_of_length_eq_zero (by rw [HL.out,h0])
  have HZ:Hid (z=false):=by show _=_;rw [HF.out,h0];rfl
  go_enter Tryz.func107,Tryz.ntmps107
  go_wp2
  go_ret
  exact ⟨ret_b HZ.out.symm,Below.refl _ _⟩
 ·have e0:s.toList.isEmpty=false:=by
   cases h1:s.toList with
   | nil=>have:=HL.out;rw [h1] at this;simp at this;omega
   | cons=>rfl
  have e1:(s.toList == [])=false:=by
   cases h1:s.toList with
   | nil=>rw [h1] at e0;cases e0
   | cons=>rfl
  by_cases h64:64 < s.size
  ·have HZ:Hid (z=false):=by
    show _=_
    rw [HF.out]
    have:decide (s.size<=64)=false:=by simp;omega
    rw [this];simp
   go_enter Tryz.func107,Tryz.ntmps107
   go_wp2
   go_ret
   exact ⟨ret_b HZ.out.symm,Below.refl _ _⟩
  ·have hd:decide ((64:Int) < (s.size:Int))=false:=by simp;omega
   have HD:Hid (decide (0 < s.size)=true/\decide (s.size<=64)=true):=⟨by simp;omega,by simp;omega⟩
   by_cases hkp:kp (tx s)=true
   ·have HZ:Hid (z=false):=by show _=_;rw [HF.out,hkp];simp
    go_enter Tryz.func107,Tryz.ntmps107
    go_wp2_with (go_at_call 108;refine (is_any s _).mono ?_;rintro e w' ⟨rfl,rfl⟩)
    go_ret
    exact ⟨ret_b HZ.out.symm,Below.refl _ _⟩
   ·have hkp:kp (tx s)=false:=by simpa using hkp
    have hix:=at_any s 0 0 rfl (by omega)
    by_cases hl:isL (nb s 0)=true
    ·have HZ:Hid (z=decide ((ru isW s 1:Int)=(s.size:Int))):=by
      show _=_
      rw [HF.out,HD.out.1,HD.out.2,hkp,hl,Bool.eq_iff_iff]
      simp
      omega
     obtain ⟨cap,w1,hcv,hB1,hbel,hcap⟩:=bytes_any Tryz.underlying130 s w
     have HB1:Hid (IsBytes w1 (some ⟨w.heap.size,0,none⟩) s):=hB1
     have HE:Hid (Below w.heap.size w w1):=hbel
     clear hB1 hbel
     go_enter Tryz.func107,Tryz.ntmps107
     go_wp2_with (first | (go_at_call 108;refine (is_any s _).mono ?_;rintro e w' ⟨rfl,rfl⟩) | (go_at_call 109;refine (beginsWord_any _ _).mono ?_;rintro e w' ⟨rfl,rfl⟩) | (go_at_call 110;refine (whileWord _ s cap 1 _ HB1.out (by omega) (by omega)).mono ?_;rintro e w' ⟨rfl,rfl⟩))
     go_ret
     exact ⟨ret_b (by rw [HZ.out];rfl),HE.out⟩
    ·have hl:isL (nb s 0)=false:=by simpa using hl
     have HZ:Hid (z=false):=by show _=_;rw [HF.out,hl];simp
     go_enter Tryz.func107,Tryz.ntmps107
     go_wp2_with (first | (go_at_call 108;refine (is_any s _).mono ?_;rintro e w' ⟨rfl,rfl⟩) | (go_at_call 109;refine (beginsWord_any _ _).mono ?_;rintro e w' ⟨rfl,rfl⟩))
     go_ret
     exact ⟨ret_b HZ.out.symm,Below.refl _ _⟩
end Go.Proofs.YtfgpbdieaflclaaGreat.Lx
namespace Go.Proofs.YtfgpbdieaflclaaGreat.Lx
open Go.RowKit Sp
structure Kin (w:World) where
 u:World
 ok:Below w.heap.size w u
theorem Kin.there (w:World):Nonempty (Kin w):=⟨⟨w,Below.refl _ _⟩⟩
theorem wp_region_kin {P:Program} {id:Nat} {Q:Exit->Act->World->Prop} {a:Act} {w:World} {l:List Oper} (hm:P.follows .mixedOrders=true) (hB:Region.lexB .any l.toArray=true)
  (h:wpQuiet P l.toArray (fun w'=>∃ y:Kin w,w'=y.u) (fun a'=>∀ w',(∃ y:Kin w,w'=y.u)->Q .normal a' w') l a):(Code.region id l.toArray true).wp P Q a w:=
 wp_region_quiet (C:=fun w'=>∃ y:Kin w,w'=y.u) hm hB ⟨⟨w.drew,(Below.refl _ _).drew⟩,rfl⟩ (by simpa using h)
theorem kin_of {P:Program} {f:FuncId} {args:Array Value} {w:World} {y:Kin w} {v:Value} (h:Calls P f args y.u fun e w'=>e=.returned v/\Below y.u.heap.size y.u w'):
  Calls P f args y.u fun e w''=>e=.returned v/\∃ y':Kin w,w''=y'.u:=
 h.mono fun _ w' ⟨he,hb⟩=>⟨he,⟨w',y.ok.trans (hb.mono y.ok.size)⟩,rfl⟩
theorem kin_same {P:Program} {f:FuncId} {args:Array Value} {w:World} {y:Kin w} {v:Value} (h:Calls P f args y.u fun e w'=>e=.returned v/\w'=y.u):
  Calls P f args y.u fun e w''=>e=.returned v/\∃ y':Kin w,w''=y'.u:=
 h.mono fun _ _ ⟨he,hw⟩=>⟨he,y,hw⟩
theorem Kin.cell {w:World} (y:Kin w) {a:Addr} (h:a.block < w.heap.size) {v:Value} (hc:w.cell? a=some v):y.u.cell? a=some v:=(y.ok.cell h).trans hc
end Go.Proofs.YtfgpbdieaflclaaGreat.Lx
