import Derived.Test.YtbledbjcghaanaaGreatK19
import Derived.Test.YtbledbjcghaanaaGreatTk
set_option maxHeartbeats 12800000
set_option maxRecDepth 100000
namespace Go.Proofs.YtbledbjcghaanaaGreat.Nm.Ty
open Go.RowKit Go.Maps Sp Lx Gr
theorem rtype8 (k n:Int) (w:World):Calls Tryz.prog 35 #[.int .i64 k] w fun e w'=>e=.returned (.int .i64 (pOf k n).is)/\w'=w:=by
 rcases part_cases k with rfl | rfl | rfl | rfl | rfl | rfl | rfl | rfl | rfl | rfl | rfl | rfl | rfl | rfl | rfl | rfl | rfl | rfl | rfl | rfl | rfl | rfl | rfl | rfl | rfl | rfl | rfl | rfl | ⟨h27,h29,h30,h32,h33,h28,h31,h34,h38,h35,h36,h37,h39,h40,h41,h43,h44,h45,h46,h49,h50,h51,h52,h42,h53,h54,h47,h48⟩
 iterate 28 (focus (go_enter Tryz.func35,Tryz.ntmps35;go_wp2;go_ret;exact ⟨rfl,rfl⟩))
 ·have HP:Hid (pOf k n=.dng (askA k) (askB k) (askC k)):=by
   simp [Hid,pOf,h27,h29,h30,h32,h33,h28,h31,h34,h38,h35,h36,h37,h39,h40,h41,h43,h44,h45,h46,h49,h50,h51,h52,h42,h53,h54,h47,h48]
  have b27:(k == 27)=false:=beq_false_of_ne h27
  have b29:(k == 29)=false:=beq_false_of_ne h29
  have b30:(k == 30)=false:=beq_false_of_ne h30
  have b32:(k == 32)=false:=beq_false_of_ne h32
  have b33:(k == 33)=false:=beq_false_of_ne h33
  have b28:(k == 28)=false:=beq_false_of_ne h28
  have b31:(k == 31)=false:=beq_false_of_ne h31
  have b34:(k == 34)=false:=beq_false_of_ne h34
  have b38:(k == 38)=false:=beq_false_of_ne h38
  have b35:(k == 35)=false:=beq_false_of_ne h35
  have b36:(k == 36)=false:=beq_false_of_ne h36
  have b37:(k == 37)=false:=beq_false_of_ne h37
  have b39:(k == 39)=false:=beq_false_of_ne h39
  have b40:(k == 40)=false:=beq_false_of_ne h40
  have b41:(k == 41)=false:=beq_false_of_ne h41
  have b43:(k == 43)=false:=beq_false_of_ne h43
  have b44:(k == 44)=false:=beq_false_of_ne h44
  have b45:(k == 45)=false:=beq_false_of_ne h45
  have b46:(k == 46)=false:=beq_false_of_ne h46
  have b49:(k == 49)=false:=beq_false_of_ne h49
  have b50:(k == 50)=false:=beq_false_of_ne h50
  have b51:(k == 51)=false:=beq_false_of_ne h51
  have b52:(k == 52)=false:=beq_false_of_ne h52
  have b42:(k == 42)=false:=beq_false_of_ne h42
  have b53:(k == 53)=false:=beq_false_of_ne h53
  have b54:(k == 54)=false:=beq_false_of_ne h54
  have b47:(k == 47)=false:=beq_false_of_ne h47
  have b48:(k == 48)=false:=beq_false_of_ne h48
  clear h27 h29 h30 h32 h33 h28 h31 h34 h38 h35 h36 h37 h39 h40 h41 h43 h44 h45 h46 h49 h50 h51 h52 h42 h53 h54 h47 h48
  go_enter Tryz.func35,Tryz.ntmps35
  go_wp2
  go_ret
  rw [HP.out]
  exact ⟨rfl,rfl⟩
theorem rfree8 (k n:Int) (w:World):Calls Tryz.prog 36 #[.int .i64 k] w fun e w'=>e=.returned (.bool (pOf k n).changing)/\w'=w:=by
 rcases part_cases k with rfl | rfl | rfl | rfl | rfl | rfl | rfl | rfl | rfl | rfl | rfl | rfl | rfl | rfl | rfl | rfl | rfl | rfl | rfl | rfl | rfl | rfl | rfl | rfl | rfl | rfl | rfl | rfl | ⟨h27,h29,h30,h32,h33,h28,h31,h34,h38,h35,h36,h37,h39,h40,h41,h43,h44,h45,h46,h49,h50,h51,h52,h42,h53,h54,h47,h48⟩
 iterate 28 (focus (go_enter Tryz.func36,Tryz.ntmps36;go_wp2;go_ret;exact ⟨rfl,rfl⟩))
 ·have HP:Hid (pOf k n=.dng (askA k) (askB k) (askC k)):=by
   simp [Hid,pOf,h27,h29,h30,h32,h33,h28,h31,h34,h38,h35,h36,h37,h39,h40,h41,h43,h44,h45,h46,h49,h50,h51,h52,h42,h53,h54,h47,h48]
  have b28:(k == 28)=false:=beq_false_of_ne h28
  have b31:(k == 31)=false:=beq_false_of_ne h31
  have b34:(k == 34)=false:=beq_false_of_ne h34
  have b35:(k == 35)=false:=beq_false_of_ne h35
  have b36:(k == 36)=false:=beq_false_of_ne h36
  have b37:(k == 37)=false:=beq_false_of_ne h37
  have b38:(k == 38)=false:=beq_false_of_ne h38
  clear h27 h29 h30 h32 h33 h28 h31 h34 h38 h35 h36 h37 h39 h40 h41 h43 h44 h45 h46 h49 h50 h51 h52 h42 h53 h54 h47 h48
  go_enter Tryz.func36,Tryz.ntmps36
  go_wp2
  go_ret
  rw [HP.out]
  exact ⟨rfl,rfl⟩
theorem rend8 (ao:Option Addr) (l:List Rz) (cap i:Nat) (w:World) (h:IsRz w ao l) (hn:l.length<=2932031007317) (hT:TreeZ l) (hi:i < l.length):
  Calls Tryz.prog 46 #[.slice ao l.length cap,.int .i64 i] w fun e w'=>e=.returned (.int .i64 (endp l i:Nat))/\w'=w:=by
 have HI:Hid (IsRz w ao l):=h
 have HT:Hid (TreeZ l):=hT
 have HN:Hid (l.length<=2932031007317):=hn
 have HM:Hid (Mis l (endp l i) 1 i):=mis_start hT.whole hi
 have hln:(l.length:Int)<=2932031007317:=by omega
 have hi2:(i:Int)<=2932031007317:=by omega
 clear h hn hT
 go_enter Tryz.func46,Tryz.ntmps46
 go_wp2_with fail
 go_loopg [1,5] (l.length - i) (fun gq x y wr=>∃ j m:Nat,j<=l.length/\gq=l.length - j/\x=.int .i64 j/\y=.int .i64 m/\Mis l (endp l i) m j/\wr=w)
 case atStart=>exact ⟨i,1,by omega,rfl,rfl,rfl,HM.out,rfl⟩
 case round=>
  obtain ⟨j,m,hj,hgk,rfl,rfl,hMs,hw⟩:=hrel
  have HG:Hid (gk=l.length - j):=hgk
  have HMs:Hid (Mis l (endp l i) m j):=hMs
  rw [hw]
  clear hgk hMs hw
  have hj2:(j:Int)<=2932031007317:=by omega
  have hm2:(m:Int)<=2932031007317:=by
   obtain ⟨x,h1,_⟩:=HMs.out
   have:=mis_le _ _ _ h1
   rw [List.length_drop] at this
   omega
  cases m with
  | zero=>
   have HE:=hdn <| mis_done HMs.out
   go_wp2_with fail
   go_ret
   exact ⟨by rw [HE.out];rfl,rfl⟩
  | succ m=>
   obtain ⟨hjl,hnx⟩:=mis_step HMs.out
   have HNx:Hid (Mis l (endp l i) (m+km l j) (j+1)):=hnx
   have hjl':(j:Int) < (l.length:Int):=by omega
   obtain ⟨g,o,rfl,hg,_,c4⟩:=kids_at HI.out HT.out hjl
   have hkm:(km l j:Int)<=2932031007317:=by have:=km_le HT.out.whole hjl;omega
   have hmp:(0:Int) < ((m+1:Nat):Int):=by omega
   have hcast:((m+1:Nat):Int)=(m:Int)+1:=by omega
   rw [hcast] at hm2 hmp ⊢
   clear hnx hjl hj hcast
   go_wp2_with fail
   go_roundg (l.length - (j+1))
   case measure=>have h1:=HG.out;omega
   case rel=>exact ⟨j+1,m+km l j,by omega,rfl,by go_num,by go_num,HNx.out,rfl⟩
theorem rkids8 {l:List Rz} {ao:Option Addr} {cap:Nat} (i:Nat) {w:World} (h:IsRz w ao l) (hn:l.length<=2932031007317) (hT:TreeZ l) (hi:i < l.length):
  Calls Tryz.prog 49 #[.slice ao l.length cap,.int .i64 i] w fun e w'=>∃ v,e=.returned v/\w'.ownsRow w.heap.size 3 1 v (km l i) ((kl l i (km l i)).map nc)/\Below w.heap.size w w':=by
 obtain ⟨j0,hj,hj0,hj1,hj2⟩:=info_parts info3
 have HI:Hid (IsRz w ao l):=h
 have HT:Hid (TreeZ l):=hT
 have HN:Hid (l.length<=2932031007317):=hn
 have hln:(l.length:Int)<=2932031007317:=by omega
 have hi1:(i:Int) < (l.length:Int):=by omega
 have HKm:Hid (km l i<=2932031007317):=by have:=km_le hT.whole hi;show _<=_;omega
 have hkm:(km l i:Int)<=2932031007317:=by have:=HKm.out;omega
 clear h hn hT
 go_enter Tryz.func49,Tryz.ntmps49
 go_wp2_with fail
 go_loopg [5,6,7] (km l i) (fun gq x nx c wr=>∃ (k:Nat) (v:Value),k<=km l i/\gq=km l i - k/\v=x/\nx=.int .i64 (kidp l i k:Int)/\c=.int .i64 (k:Int)/\wr.ownsRow w.heap.size 3 1 v k ((kl l i k).map nc)/\Below w.heap.size w wr)
 case atStart=>exact ⟨0,_,Nat.zero_le _,rfl,rfl,by rw [kid_zero];go_num,rfl,World.ownsRow_nil _ _ _ _,Below.refl _ _⟩
 case round=>
  obtain ⟨k,v,hk,hgk,rfl,rfl,rfl,hO,hB⟩:=hrel
  have HG:Hid (gk=km l i - k):=hgk
  have HO:Hid (wr.ownsRow w.heap.size 3 1 v k ((kl l i k).map nc)):=hO
  have HBr:Hid (Below w.heap.size w wr):=hB
  have HKl:Hid (k<=2932031007317):=by have:=HKm.out;show _<=_;omega
  have HKp:Hid (kidp l i k<=l.length):=kid_le HT.out.whole hi hk
  have hkp:(kidp l i k:Int)<=2932031007317:=by have:=HKp.out;omega
  obtain ⟨gr,or,rfl,_,_,c4⟩:=kids_at (HI.out.below HBr.out) HT.out hi
  clear hgk hO hB
  by_cases hlk:k < km l i
  ·obtain ⟨h1,h2,h3⟩:=kid_at HT.out.whole hi hlk
   have hlk':(k:Int) < (km l i:Int):=by omega
   have h1':(kidp l i k:Int) < (l.length:Int):=by omega
   have HNx:Hid (kidp l i (k+1)=endp l (kidp l i k)):=h2
   have hb2:Below wr.heap.size wr (wr.alloc (.cells #[.int .i64 (kidp l i k:Int)] 3)):=bAl wr _
   have HO2:Hid ((wr.alloc (.cells #[.int .i64 (kidp l i k:Int)] 3)).ownsRow w.heap.size 3 1 v k ((kl l i k).map nc)):=own_below HO.out hb2
   obtain ⟨bo,bc,rfl⟩:=own_form HO.out
   have HLk:Hid (k < km l i/\kidp l i k < l.length):=⟨hlk,h1⟩
   clear h1 h2 h3 hlk hk hb2
   go_wp2_with (at_builtin;refine append_gone _ rfl _ _ 25 rfl w.heap.size 3 j0 (.int .i64 0) 1 8 Tryz.underlying25 hj hj0 hj1 hj2 rfl (by decide) (.slice bo k bc) k ((kl l i k).map nc) rfl HO2.out ⟨wr.heap.size,0,none⟩ 1 1 [nc (kidp l i k)] rfl rfl (cell_one wr _ _) (by intro u hu;simp only [nc,List.mem_cons,List.not_mem_nil,or_false] at hu;subst hu;rfl) (by have:=HKl.out;unfold maxLen;omega) (by have:=HKl.out;omega) (by have h1:=HBr.out.size;rw [World.size_alloc];omega) (by decide) ?_)
   intro v4 w4 ho hG
   have HO4:Hid (w4.ownsRow w.heap.size 3 1 v4 (k+1) ((kl l i (k+1)).map nc)):=by
    show w4.ownsRow w.heap.size 3 1 v4 (k+1) ((kl l i (k+1)).map nc)
    rw [kl_succ]
    simpa using ho
   have hb4:Below w.heap.size (wr.alloc (.cells #[.int .i64 (kidp l i k:Int)] 3)) w4:=(Went.gone hG).low (fun j hj=>(World.ownsRow.lt HO2.out j hj).1) (by have h1:=HBr.out.size;rw [World.size_alloc];omega)
   have HB4:Hid (Below w.heap.size w w4):=(HBr.out.alloc HBr.out.size _).trans hb4
   obtain ⟨bo4,bc4,rfl⟩:=own_form ho
   have HE:=hdn <| rend8 (some ⟨gr,or,none⟩) l cap (kidp l i k) w4 (HI.out.below HB4.out) HN.out HT.out HLk.out.2
   clear ho hG hb4 c4
   go_wp2_with fail
   refine Calls.mono HE.out ?_
   rintro e w5 ⟨rfl,rfl⟩
   go_wp2_with fail
   go_roundg (km l i - (k+1))
   case measure=>have h1:=HG.out;have:=HLk.out;omega
   case rel=>exact ⟨k+1,_,by have:=HLk.out;omega,rfl,rfl,by rw [HNx.out],by go_num,HO4.out,HB4.out⟩
  ·have hke:k=km l i:=by omega
   have hlk':¬ ((k:Int) < (km l i:Int)):=by omega
   have HF:Hid (wr.ownsRow w.heap.size 3 1 v (km l i) ((kl l i (km l i)).map nc)):=by rw [hke] at HO;exact HO
   clear hke hlk hk
   go_wp2_with fail
   go_ret
   exact ⟨_,rfl,HF.out,HBr.out⟩
structure Qs (l:List Rz) (qs:List (ByteArray × Bool)):Prop where
 n:∀ i,i < l.length->(rat l i).kind=8\/(rat l i).kind=9\/(rat l i).kind=17\/(rat l i).kind=19\/(rat l i).kind=20\/(rat l i).kind=21\/(rat l i).kind=24->∃ n:Nat,(rat l i).n=(n:Int)/\n < qs.length
 up:∀ i,i < l.length->(rat l i).kind=24->0 < i/\((rat l (i - 1)).kind=19\/(rat l (i - 1)).kind=20)
def ghL (qs:List (ByteArray × Bool)) (i:Nat):Bool:=(qs.getD i (⟨#[]⟩,false)).2
theorem qF_at {qs:List (ByteArray × Bool)} {n:Nat} (h:n < qs.length):(qF qs)[n * 2+1]?=some (.bool (ghL qs n)):=by
 induction qs generalizing n with
 | nil=>simp at h
 | cons q qs ih=>
  cases n with
  | zero=>simp [qF,ghL]
  | succ n=>
   have:=ih (n:=n) (by simpa using h)
   simp only [qF,List.flatMap_cons] at this ⊢
   rw [show (n+1) * 2+1=n * 2+1+2 by omega]
   simpa [ghL] using this
theorem row_cells {w:World} {ao:Option Addr} {l:List Rz} (h:IsRz w ao l) {k:Nat} (hk:k < l.length):∃ g o,ao=some ⟨g,o,none⟩/\g < w.heap.size/\w.cell? ⟨g,o+k * 5,none⟩=some (.int .i64 (rat l k).kind)/\w.cell? ⟨g,o+k * 5+1,none⟩=some (.string (rat l k).name)/\w.cell? ⟨g,o+k * 5+2,none⟩=some (.int .i64 (rat l k).stop)/\w.cell? ⟨g,o+k * 5+3,none⟩=some (.int .i64 (rat l k).n)/\w.cell? ⟨g,o+k * 5+4,none⟩=some (.int .i64 (rat l k).kids):=h k _ (some_rat hk)
theorem ghost_any {l:List Rz} {qs:List (ByteArray × Bool)} {ao qo po eo:Option Addr} {ac qc pc ec:Nat} (i n:Nat) {w:World} (h:IsRg w l (qF qs) ao qo po eo) (hn:l.length<=2932031007317) (hi:i < l.length) (hN:(rat l i).n=(n:Int)) (hq:n < qs.length) (hql:qs.length<=2932031007317):
  Calls Tryz.prog 124 #[.agg (rgC l qs.length ao qo po eo ac qc pc ec),.int .i64 i] w fun e w'=>e=.returned (.bool (ghL qs n))/\Below w.heap.size w w':=by
 have hln:(l.length:Int)<=2932031007317:=by omega
 have hi1:(i:Int) < (l.length:Int):=by omega
 have hq1:(n:Int) < (qs.length:Int):=by omega
 have hq2:(qs.length:Int)<=2932031007317:=by omega
 have hb:Below w.heap.size w (w.alloc (.cells (rgC l qs.length ao qo po eo ac qc pc ec) 65)):=bAl w _
 have h2:=h.below hb
 obtain ⟨g,o,rfl,hg,c0,c1,c2,c3,c4⟩:=row_cells h2.r hi
 rw [hN] at c3
 obtain ⟨gq,oq,rfl,hgq,cq⟩:=h2.q (n * 2+1) _ (qF_at hq)
 have cq':=cq
 rw [<-Nat.add_assoc] at cq'
 have HB:=hdn <| hb
 have hx:=heap_alloc_new w (.cells (rgC l qs.length (some ⟨g,o,none⟩) (some ⟨gq,oq,none⟩) po eo ac qc pc ec) 65)
 obtain ⟨b0,b1,b2,b3⟩:=cells4 hx
 have HX:=hdn <| hx
 dsimp only [rgC] at *
 clear h hb h2 hx c0 c1 c2 c4 cq hN
 generalize ghL qs n=z at *
 generalize hW:w.alloc (.cells #[.slice (some ⟨g,o,none⟩) l.length ac,.slice (some ⟨gq,oq,none⟩) qs.length qc,.slice po l.length pc,.slice eo l.length ec] 65)=w1 at *
 go_enter Tryz.func124,Tryz.ntmps124
 go_wp2_with fail
 clear hW HX
 go_region
 go_wp2
 go_ret
 exact ⟨rfl,HB.out.drew⟩
theorem till_any {l:List Rz} {qv:List Value} {nq:Nat} {ao qo po eo:Option Addr} {ac qc pc ec:Nat} (i:Nat) {w:World} (h:IsRg w l qv ao qo po eo) (hn:l.length<=2932031007317) (hi:i < l.length) (hL:(rat l i).kind=13->i+1 < l.length):
  Calls Tryz.prog 93 #[.agg (rgC l nq ao qo po eo ac qc pc ec),.int .i64 i] w fun e w'=>e=.returned (.int .i64 (tillZ l i:Nat))/\Below w.heap.size w w':=by
 have hln:(l.length:Int)<=2932031007317:=by omega
 have hi1:(i:Int) < (l.length:Int):=by omega
 have HT:Hid (tillZ l i=if (rat l i).kind=4\/(rat l i).kind=5\/(rat l i).kind=6 then endp l i else if (rat l i).kind=13 then endp l (i+1) else 0):=rfl
 have hb:Below w.heap.size w (w.alloc (.cells (rgC l nq ao qo po eo ac qc pc ec) 65)):=bAl w _
 have HI:=hdn <| h.below hb
 have HB:=hdn <| hb
 have HX:=hdn <| heap_alloc_new w (.cells (rgC l nq ao qo po eo ac qc pc ec) 65)
 obtain ⟨g,o,rfl,hg,c0,_⟩:=row_cells HI.out.r hi
 obtain ⟨ge,oe,rfl,hge,ce⟩:=HI.out.ends hi
 obtain ⟨b0,b1,b2,b3⟩:=cells4 HX.out
 dsimp only [rgC] at *
 clear h hb hn
 by_cases h13:(rat l i).kind=13
 ·obtain ⟨ge2,oe2,hge0,_,ce2⟩:=HI.out.ends (hL h13)
  obtain ⟨rfl,rfl⟩:ge=ge2/\oe=oe2:=by cases hge0;exact ⟨rfl,rfl⟩
  have HR:Hid (tillZ l i=endp l (i+1)):=by show _=_;rw [HT.out,h13];rfl
  have hi2:(i:Int)+1 < (l.length:Int):=by have:=hL h13;omega
  have hi3:((i+1:Nat):Int)=(i:Int)+1:=by omega
  rw [h13] at c0
  clear HT hge0 hL
  go_enter Tryz.func93,Tryz.ntmps93
  go_wp2
  go_ret
  rw [HR.out]
  exact ⟨rfl,HB.out⟩
 ·by_cases h4:(rat l i).kind=4\/(rat l i).kind=5\/(rat l i).kind=6
  ·have HR:Hid (tillZ l i=endp l i):=by show _=_;rw [HT.out,if_pos h4]
   clear HT hL
   rcases h4 with h | h | h
   all_goals
    rw [h] at c0
    go_enter Tryz.func93,Tryz.ntmps93
    go_wp2
    go_ret
    rw [HR.out]
    exact ⟨rfl,HB.out⟩
  ·have HR:Hid (tillZ l i=0):=by show _=_;rw [HT.out,if_neg h4,if_neg h13]
   generalize (rat l i).kind=kd at *
   have q1:(kd == 13)=false:=beq_false_of_ne h13
   have q2:(kd == 4)=false:=beq_false_of_ne (fun e=>h4 (Or.inl e))
   have q3:(kd == 5)=false:=beq_false_of_ne (fun e=>h4 (Or.inr (Or.inl e)))
   have q4:(kd == 6)=false:=beq_false_of_ne (fun e=>h4 (Or.inr (Or.inr e)))
   clear HT hL h4 h13
   go_enter Tryz.func93,Tryz.ntmps93
   go_wp2
   go_ret
   rw [HR.out]
   exact ⟨rfl,HB.out⟩
theorem other_any {l:List Rz} {qs:List (ByteArray × Bool)} {ao qo po eo:Option Addr} {ac qc pc ec:Nat} (i:Nat) {w:World} (h:IsRg w l (qF qs) ao qo po eo) (hn:l.length<=2932031007317) (hi:i < l.length) (hQ:Qs l qs) (hql:qs.length<=2932031007317):
  Calls Tryz.prog 92 #[.agg (rgC l qs.length ao qo po eo ac qc pc ec),.int .i64 i] w fun e w'=>e=.returned (.bool (othZ l (ghL qs) i))/\Below w.heap.size w w':=by
 have hln:(l.length:Int)<=2932031007317:=by omega
 have hi1:(i:Int) < (l.length:Int):=by omega
 have HO:Hid (othZ l (ghL qs) i=if (rat l i).kind=8\/(rat l i).kind=17\/(rat l i).kind=20 then ghZ l (ghL qs) i else if (rat l i).kind=9\/(rat l i).kind=21 then !ghZ l (ghL qs) i
  else if (rat l i).kind=24 then (if (rat l (i - 1)).kind=20 then !ghZ l (ghL qs) i else ghZ l (ghL qs) i != ghZ l (ghL qs) (i - 1)) else false):=rfl
 have hb:Below w.heap.size w (w.alloc (.cells (rgC l qs.length ao qo po eo ac qc pc ec) 65)):=bAl w _
 have HI:=hdn <| h.below hb
 have HB:=hdn <| hb
 have HX:=hdn <| heap_alloc_new w (.cells (rgC l qs.length ao qo po eo ac qc pc ec) 65)
 have HGh:Hid (∀ (j n:Nat) (W:World),IsRg W l (qF qs) ao qo po eo->j < l.length->(rat l j).n=(n:Int)->n < qs.length->Calls Tryz.prog 124 #[.agg (rgC l qs.length ao qo po eo ac qc pc ec),.int .i64 j] W fun e w'=>e=.returned (.bool (ghL qs n))/\Below W.heap.size W w'):=fun j n W hW hj hN hq=>ghost_any j n hW hn hj hN hq hql
 obtain ⟨g,o,rfl,hg,c0,_⟩:=row_cells HI.out.r hi
 obtain ⟨b0,b1,b2,b3⟩:=cells4 HX.out
 dsimp only [rgC] at *
 clear h hb hn
 by_cases hA:(rat l i).kind=8\/(rat l i).kind=17\/(rat l i).kind=20
 ·obtain ⟨n,hN,hq⟩:=hQ.n i hi (by omega)
  have HR:Hid (othZ l (ghL qs) i=ghL qs n):=by show _=_;rw [HO.out,if_pos hA];unfold ghZ;rw [hN];rfl
  have HC:=hdn <| HGh.out i n _ HI.out hi hN hq
  clear HO HGh hQ
  generalize ghL qs n=z at *
  rcases hA with h | h | h
  all_goals
   rw [h] at c0
   go_enter Tryz.func92,Tryz.ntmps92
   go_wp2_with fail
   refine Calls.mono HC.out ?_
   rintro e w2 ⟨rfl,hb2⟩
   have HB2:Hid (Below w.heap.size w w2):=HB.out.trans (hb2.mono HB.out.size)
   clear hb2
   go_wp2
   go_ret
   rw [HR.out]
   exact ⟨rfl,HB2.out⟩
 ·by_cases hD:(rat l i).kind=9\/(rat l i).kind=21
  ·obtain ⟨n,hN,hq⟩:=hQ.n i hi (by omega)
   have HR:Hid (othZ l (ghL qs) i=!ghL qs n):=by show _=_;rw [HO.out,if_neg hA,if_pos hD];unfold ghZ;rw [hN];rfl
   have HC:=hdn <| HGh.out i n _ HI.out hi hN hq
   clear HO HGh hQ hA
   generalize ghL qs n=z at *
   rcases hD with h | h
   all_goals
    rw [h] at c0
    go_enter Tryz.func92,Tryz.ntmps92
    go_wp2_with fail
    refine Calls.mono HC.out ?_
    rintro e w2 ⟨rfl,hb2⟩
    have HB2:Hid (Below w.heap.size w w2):=HB.out.trans (hb2.mono HB.out.size)
    clear hb2
    go_wp2
    go_ret
    rw [HR.out]
    exact ⟨rfl,HB2.out⟩
  ·by_cases hP:(rat l i).kind=24
   ·obtain ⟨n,hN,hq⟩:=hQ.n i hi (by omega)
    obtain ⟨hi0,hup⟩:=hQ.up i hi hP
    obtain ⟨n2,hN2,hq2⟩:=hQ.n (i - 1) (by omega) (by omega)
    have hs:((i:Int) - 1)=((i - 1:Nat):Int):=by omega
    obtain ⟨g2,o2,hg0,_,d0,_⟩:=row_cells HI.out.r (k:=i - 1) (by omega)
    obtain ⟨rfl,rfl⟩:g=g2/\o=o2:=by cases hg0;exact ⟨rfl,rfl⟩
    have hi2:((i - 1:Nat):Int) < (l.length:Int):=by omega
    have HC:=hdn <| HGh.out i n _ HI.out hi hN hq
    rw [hP] at c0
    rcases hup with h19 | h20
    ·have HR:Hid (othZ l (ghL qs) i=(ghZ l (ghL qs) i != ghZ l (ghL qs) (i - 1))):=by show _=_;rw [HO.out,if_neg hA,if_neg hD,if_pos hP,h19];rfl
     rw [h19] at d0
     have HC2:Hid (∀ (j:Nat) (W:World),IsRg W l (qF qs) (some ⟨g,o,none⟩) qo po eo->(j=i\/j=i - 1)->Calls Tryz.prog 124 #[.agg #[.slice (some ⟨g,o,none⟩) l.length ac,.slice qo qs.length qc,.slice po l.length pc,.slice eo l.length ec],.int .i64 j] W fun e w'=>e=.returned (.bool (ghZ l (ghL qs) j))/\Below W.heap.size W w'):=by
      intro j W hW hj
      rcases hj with rfl | rfl
      ·unfold ghZ;rw [hN];exact HGh.out _ n W hW hi hN hq
      ·unfold ghZ;rw [hN2];exact HGh.out _ n2 W hW (by omega) hN2 hq2
     clear HO HGh hQ hA hD hP hg0 hN hN2 HC
     generalize i - 1=i1 at *
     generalize ghZ l (ghL qs)=gz at *
     go_enter Tryz.func92,Tryz.ntmps92
     go_wp2_with fail
     generalize (w.alloc (.cells #[.slice (some ⟨g,o,none⟩) l.length ac,.slice qo qs.length qc,.slice po l.length pc,.slice eo l.length ec] 65))=w1 at *
     have hlt:=blk_lt HX.out
     have y0:∀ y:Kin w1,y.u.cell? ⟨w.heap.size,0,none⟩=some (.slice (some ⟨g,o,none⟩) l.length ac):=fun y=>y.cell (a:=⟨w.heap.size,0,none⟩) hlt b0
     have y1:∀ y:Kin w1,y.u.cell? ⟨w.heap.size,1,none⟩=some (.slice qo qs.length qc):=fun y=>y.cell (a:=⟨w.heap.size,1,none⟩) hlt b1
     have y2:∀ y:Kin w1,y.u.cell? ⟨w.heap.size,2,none⟩=some (.slice po l.length pc):=fun y=>y.cell (a:=⟨w.heap.size,2,none⟩) hlt b2
     have y3:∀ y:Kin w1,y.u.cell? ⟨w.heap.size,3,none⟩=some (.slice eo l.length ec):=fun y=>y.cell (a:=⟨w.heap.size,3,none⟩) hlt b3
     have HC3:Hid (∀ (y:Kin w1) (j:Nat),(j=i\/j=i1)->Calls Tryz.prog 124 #[.agg #[.slice (some ⟨g,o,none⟩) l.length ac,.slice qo qs.length qc,.slice po l.length pc,.slice eo l.length ec],.int .i64 j] y.u fun e w'=>e=.returned (.bool (gz j))/\Below y.u.heap.size y.u w'):=fun y j hj=>HC2.out j y.u (HI.out.below y.ok) hj
     clear HC2 b0 b1 b2 b3 c0 d0
     refine wp_region_kin (by kernel_rfl) (by kernel_rfl) ?_
     have hw1:IntKind.i64.wrap (i1:Int)=(i1:Int):=by rw [IntKind.wrap_i64];omega
     have HCa:=hdn <| fun y=>HC3.out y i (Or.inl rfl)
     have HCb:=hdn <| fun y=>HC3.out y i1 (Or.inr rfl)
     clear HC3
     iterate 3 quiet_step (first | with_reducible rfl | exact kin_of (HCa.out _))
     clear HCa
     iterate 4 quiet_step (first | with_reducible rfl | exact kin_of (HCb.out _))
     iterate 2 quiet_step (with_reducible rfl)
     refine wpQuiet_nil ?_
     rintro _ ⟨y,rfl⟩
     have HYk:Hid (Below w.heap.size w y.u):=HB.out.trans (y.ok.mono HB.out.size)
     clear y0 y1 y2 y3 HCb
     generalize y.u=w4 at *
     go_wp2
     go_ret
     rw [HR.out]
     exact ⟨rfl,HYk.out⟩
    ·have HR:Hid (othZ l (ghL qs) i=!ghL qs n):=by show _=_;rw [HO.out,if_neg hA,if_neg hD,if_pos hP,h20];unfold ghZ;rw [hN];rfl
     rw [h20] at d0
     clear HO HGh hQ hA hD hP hg0 hN hN2
     generalize ghL qs n=z at *
     generalize i - 1=i1 at *
     go_enter Tryz.func92,Tryz.ntmps92
     go_wp2_with fail
     refine Calls.mono HC.out ?_
     rintro e w2 ⟨rfl,hb2⟩
     have HB2:Hid (Below w.heap.size w w2):=HB.out.trans (hb2.mono HB.out.size)
     clear hb2
     go_wp2
     go_ret
     rw [HR.out]
     exact ⟨rfl,HB2.out⟩
   ·have HR:Hid (othZ l (ghL qs) i=false):=by show _=_;rw [HO.out,if_neg hA,if_neg hD,if_neg hP]
    generalize (rat l i).kind=kd at *
    have q1:(kd == 8)=false:=beq_false_of_ne (by omega)
    have q2:(kd == 17)=false:=beq_false_of_ne (by omega)
    have q3:(kd == 20)=false:=beq_false_of_ne (by omega)
    have q4:(kd == 9)=false:=beq_false_of_ne (by omega)
    have q5:(kd == 21)=false:=beq_false_of_ne (by omega)
    have q6:(kd == 24)=false:=beq_false_of_ne (by omega)
    clear HO HGh hQ hA hD hP
    go_enter Tryz.func92,Tryz.ntmps92
    go_wp2
    go_ret
    rw [HR.out]
    exact ⟨rfl,HB.out⟩
end Go.Proofs.YtbledbjcghaanaaGreat.Nm.Ty
namespace Go.Proofs.YtbledbjcghaanaaGreat.Nm.Ty
open Go.RowKit Go.Maps Sp Lx Gr Nm
theorem ask_cases2 (k:Int):k=4\/k=5\/k=14\/k=6\/k=15\/k=12\/k=13\/(¬ k=4/\¬ k=5/\¬ k=14/\¬ k=6/\¬ k=15/\¬ k=12/\¬ k=13):=by omega
theorem rasked8 {l:List Rz} {ao:Option Addr} {cap:Nat} (i kid:Nat) {w:World} (h:IsRz w ao l) (hn:l.length<=2932031007317) (hf:i+1 < l.length) (hk4:(rat l i).kind=4->kid<=2) (hk1:(rat l i).kind=5\/(rat l i).kind=6\/(rat l i).kind=14->kid=0):
  Calls Tryz.prog 64 #[.slice ao l.length cap,.int .i64 (i:Int),.int .i64 ((i+1:Nat):Int),.int .i64 (kid:Int)] w fun e w'=>e=.returned (.int .i64 ((rP l i).asked kid (rP l (i+1)).is))/\w'=w:=by
 have hln:(l.length:Int)<=2932031007317:=by omega
 have hi':(i:Int) < (l.length:Int):=by omega
 have hi2:((i+1:Nat):Int) < (l.length:Int):=by omega
 obtain ⟨g,o,rfl,hg,c0,_⟩:=row_cells h (show i < l.length by omega)
 obtain ⟨g2,o2,e2,_,d0,_⟩:=row_cells h hf
 cases e2
 have HR:Hid (rP l i=pOf (rat l i).kind (rat l i).n):=rfl
 have HT:Hid (∀ W,Calls Tryz.prog 35 #[.int .i64 (rat l (i+1)).kind] W fun e w'=>e=.returned (.int .i64 (rP l (i+1)).is)/\w'=W):=fun W=>rtype8 _ (rat l (i+1)).n W
 have HK4:=hdn <| hk4
 have HK1:=hdn <| hk1
 rw [HR.out]
 clear h hn hf hk4 hk1 hg HR
 generalize (rat l i).kind=k at *
 generalize (rat l i).n=n at *
 generalize (rat l (i+1)).kind=k2 at *
 generalize (rP l (i+1)).is=t2 at *
 generalize i+1=i1 at *
 rcases part_cases k with rfl | rfl | rfl | rfl | rfl | rfl | rfl | rfl | rfl | rfl | rfl | rfl | rfl | rfl | rfl | rfl | rfl | rfl | rfl | rfl | rfl | rfl | rfl | rfl | rfl | rfl | rfl | rfl | ⟨h27,h29,h30,h32,h33,h28,h31,h34,h38,h35,h36,h37,h39,h40,h41,h43,h44,h45,h46,h49,h50,h51,h52,h42,h53,h54,h47,h48⟩
 ·clear HT HK4 HK1
  go_enter Tryz.func64,Tryz.ntmps64
  go_wp2
  go_ret
  exact ⟨rfl,rfl⟩
 ·clear HT HK4 HK1
  go_enter Tryz.func64,Tryz.ntmps64
  go_wp2
  go_ret
  exact ⟨rfl,rfl⟩
 ·clear HT HK4 HK1
  go_enter Tryz.func64,Tryz.ntmps64
  go_wp2
  go_ret
  exact ⟨rfl,rfl⟩
 ·clear HT HK4 HK1
  go_enter Tryz.func64,Tryz.ntmps64
  go_wp2
  go_ret
  exact ⟨rfl,rfl⟩
 ·clear HT HK4 HK1
  go_enter Tryz.func64,Tryz.ntmps64
  go_wp2
  go_ret
  exact ⟨rfl,rfl⟩
 ·clear HT HK4 HK1
  go_enter Tryz.func64,Tryz.ntmps64
  go_wp2
  go_ret
  exact ⟨rfl,rfl⟩
 ·clear HT HK4 HK1
  go_enter Tryz.func64,Tryz.ntmps64
  go_wp2
  go_ret
  exact ⟨rfl,rfl⟩
 ·clear HT HK4 HK1
  go_enter Tryz.func64,Tryz.ntmps64
  go_wp2
  go_ret
  exact ⟨rfl,rfl⟩
 ·clear HT HK4 HK1
  go_enter Tryz.func64,Tryz.ntmps64
  go_wp2
  go_ret
  exact ⟨rfl,rfl⟩
 ·clear HT HK4 HK1
  go_enter Tryz.func64,Tryz.ntmps64
  go_wp2
  go_ret
  exact ⟨rfl,rfl⟩
 ·clear HT HK4 HK1
  go_enter Tryz.func64,Tryz.ntmps64
  go_wp2
  go_ret
  exact ⟨rfl,rfl⟩
 ·clear HT HK4 HK1
  go_enter Tryz.func64,Tryz.ntmps64
  go_wp2
  go_ret
  exact ⟨rfl,rfl⟩
 ·clear HT HK4 HK1
  go_enter Tryz.func64,Tryz.ntmps64
  go_wp2
  go_ret
  exact ⟨rfl,rfl⟩
 ·clear HT HK4 HK1
  go_enter Tryz.func64,Tryz.ntmps64
  go_wp2
  go_ret
  exact ⟨rfl,rfl⟩
 ·clear HT HK4 HK1
  go_enter Tryz.func64,Tryz.ntmps64
  go_wp2
  go_ret
  exact ⟨rfl,rfl⟩
 ·clear HT HK4 HK1
  go_enter Tryz.func64,Tryz.ntmps64
  go_wp2
  go_ret
  exact ⟨rfl,rfl⟩
 ·clear HT HK4 HK1
  go_enter Tryz.func64,Tryz.ntmps64
  go_wp2
  go_ret
  exact ⟨rfl,rfl⟩
 ·clear HT HK4 HK1
  go_enter Tryz.func64,Tryz.ntmps64
  go_wp2
  go_ret
  exact ⟨rfl,rfl⟩
 ·clear HT HK4 HK1
  go_enter Tryz.func64,Tryz.ntmps64
  go_wp2
  go_ret
  exact ⟨rfl,rfl⟩
 ·clear HT HK4 HK1
  go_enter Tryz.func64,Tryz.ntmps64
  go_wp2
  go_ret
  exact ⟨rfl,rfl⟩
 ·clear HT HK4 HK1
  go_enter Tryz.func64,Tryz.ntmps64
  go_wp2
  go_ret
  exact ⟨rfl,rfl⟩
 ·clear HT HK4 HK1
  go_enter Tryz.func64,Tryz.ntmps64
  go_wp2
  go_ret
  exact ⟨rfl,rfl⟩
 ·clear HT HK4 HK1
  go_enter Tryz.func64,Tryz.ntmps64
  go_wp2
  go_ret
  exact ⟨rfl,rfl⟩
 ·clear HT HK4 HK1
  go_enter Tryz.func64,Tryz.ntmps64
  go_wp2
  go_ret
  exact ⟨rfl,rfl⟩
 ·clear HT HK4 HK1
  go_enter Tryz.func64,Tryz.ntmps64
  go_wp2
  go_ret
  exact ⟨rfl,rfl⟩
 ·clear HT HK4 HK1
  go_enter Tryz.func64,Tryz.ntmps64
  go_wp2
  go_ret
  exact ⟨rfl,rfl⟩
 ·by_cases hk:kid=1
  ·subst hk
   go_enter Tryz.func64,Tryz.ntmps64
   go_wp2_with fail
   refine Calls.mono (HT.out _) ?_
   rintro e w2 ⟨rfl,rfl⟩
   go_wp2
   go_ret
   exact ⟨rfl,rfl⟩
  ·have hk':((kid:Int) == 1)=false:=beq_false_of_ne (by omega)
   have HZ:Hid ((pOf 47 n).asked kid t2=0):=if_neg hk
   rw [HZ.out]
   clear hk
   go_enter Tryz.func64,Tryz.ntmps64
   go_wp2
   go_ret
   exact ⟨rfl,rfl⟩
 ·by_cases hk:kid=1
  ·subst hk
   go_enter Tryz.func64,Tryz.ntmps64
   go_wp2_with fail
   refine Calls.mono (HT.out _) ?_
   rintro e w2 ⟨rfl,rfl⟩
   go_wp2
   go_ret
   exact ⟨rfl,rfl⟩
  ·have hk':((kid:Int) == 1)=false:=beq_false_of_ne (by omega)
   have HZ:Hid ((pOf 48 n).asked kid t2=0):=if_neg hk
   rw [HZ.out]
   clear hk
   go_enter Tryz.func64,Tryz.ntmps64
   go_wp2
   go_ret
   exact ⟨rfl,rfl⟩
 ·have HP:Hid (pOf k n=.dng (askA k) (askB k) (askC k)):=by
   simp [Hid,pOf,h27,h29,h30,h32,h33,h28,h31,h34,h38,h35,h36,h37,h39,h40,h41,h43,h44,h45,h46,h49,h50,h51,h52,h42,h53,h54,h47,h48]
  rw [HP.out]
  clear HT HP
  rcases ask_cases2 k with rfl | rfl | rfl | rfl | rfl | rfl | rfl | ⟨h4,h5,h14,h6,h15,h12,h13⟩
  ·have hk:kid=0\/kid=1\/kid=2:=by have:=HK4.out rfl;omega
   have HZ:Hid ((Prt.dng (askA 4) (askB 4) (askC 4)).asked kid t2=1):=by rcases hk with rfl | rfl | rfl<;>rfl
   rw [HZ.out]
   clear h27 h29 h30 h32 h33 h28 h31 h34 h38 h35 h36 h37 h39 h40 h41 h43 h44 h45 h46 h49 h50 h51 h52 h42 h53 h54 h47 h48 hk
   go_enter Tryz.func64,Tryz.ntmps64
   go_wp2
   go_ret
   exact ⟨rfl,rfl⟩
  ·obtain rfl:=HK1.out (by omega)
   clear h27 h29 h30 h32 h33 h28 h31 h34 h38 h35 h36 h37 h39 h40 h41 h43 h44 h45 h46 h49 h50 h51 h52 h42 h53 h54 h47 h48
   go_enter Tryz.func64,Tryz.ntmps64
   go_wp2
   go_ret
   exact ⟨rfl,rfl⟩
  ·obtain rfl:=HK1.out (by omega)
   clear h27 h29 h30 h32 h33 h28 h31 h34 h38 h35 h36 h37 h39 h40 h41 h43 h44 h45 h46 h49 h50 h51 h52 h42 h53 h54 h47 h48
   go_enter Tryz.func64,Tryz.ntmps64
   go_wp2
   go_ret
   exact ⟨rfl,rfl⟩
  ·obtain rfl:=HK1.out (by omega)
   clear h27 h29 h30 h32 h33 h28 h31 h34 h38 h35 h36 h37 h39 h40 h41 h43 h44 h45 h46 h49 h50 h51 h52 h42 h53 h54 h47 h48
   go_enter Tryz.func64,Tryz.ntmps64
   go_wp2
   go_ret
   exact ⟨rfl,rfl⟩
  ·clear h27 h29 h30 h32 h33 h28 h31 h34 h38 h35 h36 h37 h39 h40 h41 h43 h44 h45 h46 h49 h50 h51 h52 h42 h53 h54 h47 h48
   by_cases hk:kid=1
   ·subst hk
    go_enter Tryz.func64,Tryz.ntmps64
    go_wp2
    go_ret
    exact ⟨rfl,rfl⟩
   ·have hk':((kid:Int) == 1)=false:=beq_false_of_ne (by omega)
    have HZ:Hid ((Prt.dng (askA 15) (askB 15) (askC 15)).asked kid t2=0):=by
     show (if kid=0 then askA 15 else if kid=1 then askB 15 else if kid=2 then askC 15 else 0)=0
     rw [if_neg hk]
     split
     ·rfl
     ·split<;>rfl
    rw [HZ.out]
    clear hk
    go_enter Tryz.func64,Tryz.ntmps64
    go_wp2
    go_ret
    exact ⟨rfl,rfl⟩
  ·clear h27 h29 h30 h32 h33 h28 h31 h34 h38 h35 h36 h37 h39 h40 h41 h43 h44 h45 h46 h49 h50 h51 h52 h42 h53 h54 h47 h48
   by_cases hk:kid=0
   ·subst hk
    go_enter Tryz.func64,Tryz.ntmps64
    go_wp2
    go_ret
    exact ⟨rfl,rfl⟩
   ·have hk':((kid:Int) == 0)=false:=beq_false_of_ne (by omega)
    have HZ:Hid ((Prt.dng (askA 12) (askB 12) (askC 12)).asked kid t2=0):=by
     show (if kid=0 then askA 12 else if kid=1 then askB 12 else if kid=2 then askC 12 else 0)=0
     rw [if_neg hk]
     split
     ·rfl
     ·split<;>rfl
    rw [HZ.out]
    clear hk
    go_enter Tryz.func64,Tryz.ntmps64
    go_wp2
    go_ret
    exact ⟨rfl,rfl⟩
  ·clear h27 h29 h30 h32 h33 h28 h31 h34 h38 h35 h36 h37 h39 h40 h41 h43 h44 h45 h46 h49 h50 h51 h52 h42 h53 h54 h47 h48
   by_cases hk:kid=0
   ·subst hk
    go_enter Tryz.func64,Tryz.ntmps64
    go_wp2
    go_ret
    exact ⟨rfl,rfl⟩
   ·have hk':((kid:Int) == 0)=false:=beq_false_of_ne (by omega)
    by_cases hj:kid=1
    ·subst hj
     go_enter Tryz.func64,Tryz.ntmps64
     go_wp2
     go_ret
     exact ⟨rfl,rfl⟩
    ·have hj':((kid:Int) == 1)=false:=beq_false_of_ne (by omega)
     have HZ:Hid ((Prt.dng (askA 13) (askB 13) (askC 13)).asked kid t2=0):=by
      show (if kid=0 then askA 13 else if kid=1 then askB 13 else if kid=2 then askC 13 else 0)=0
      rw [if_neg hk,if_neg hj]
      split<;>rfl
     rw [HZ.out]
     clear hk hj
     go_enter Tryz.func64,Tryz.ntmps64
     go_wp2
     go_ret
     exact ⟨rfl,rfl⟩
  ·have HZ:Hid ((Prt.dng (askA k) (askB k) (askC k)).asked kid t2=0):=by
    have z1:askA k=0:=by simp [askA,h4,h5,h14,h6,h15,h12,h13]
    have z2:askB k=0:=by simp [askB,h4,h5,h14,h15,h13]
    have z3:askC k=0:=by simp [askC,h4]
    show (if kid=0 then askA k else if kid=1 then askB k else if kid=2 then askC k else 0)=0
    rw [z1,z2,z3]
    split
    ·rfl
    ·split
     ·rfl
     ·split<;>rfl
   rw [HZ.out]
   have b4:(k == 4)=false:=beq_false_of_ne h4
   have b5:(k == 5)=false:=beq_false_of_ne h5
   have b14:(k == 14)=false:=beq_false_of_ne h14
   have b41:(k == 41)=false:=beq_false_of_ne h41
   have b39:(k == 39)=false:=beq_false_of_ne h39
   have b40:(k == 40)=false:=beq_false_of_ne h40
   have b43:(k == 43)=false:=beq_false_of_ne h43
   have b44:(k == 44)=false:=beq_false_of_ne h44
   have b45:(k == 45)=false:=beq_false_of_ne h45
   have b46:(k == 46)=false:=beq_false_of_ne h46
   have b49:(k == 49)=false:=beq_false_of_ne h49
   have b50:(k == 50)=false:=beq_false_of_ne h50
   have b51:(k == 51)=false:=beq_false_of_ne h51
   have b52:(k == 52)=false:=beq_false_of_ne h52
   have b6:(k == 6)=false:=beq_false_of_ne h6
   have b42:(k == 42)=false:=beq_false_of_ne h42
   have b53:(k == 53)=false:=beq_false_of_ne h53
   have b54:(k == 54)=false:=beq_false_of_ne h54
   have b15:(k == 15)=false:=beq_false_of_ne h15
   have b12:(k == 12)=false:=beq_false_of_ne h12
   have b13:(k == 13)=false:=beq_false_of_ne h13
   have b47:(k == 47)=false:=beq_false_of_ne h47
   have b48:(k == 48)=false:=beq_false_of_ne h48
   clear h27 h29 h30 h32 h33 h28 h31 h34 h38 h35 h36 h37 h39 h40 h41 h43 h44 h45 h46 h49 h50 h51 h52 h42 h53 h54 h47 h48 h4 h5 h14 h6 h15 h12 h13
   go_enter Tryz.func64,Tryz.ntmps64
   go_wp2
   go_ret
   exact ⟨rfl,rfl⟩
theorem qgh {w:World} {qo:Option Addr} {qs:List (ByteArray × Bool)} (h:IsVals w qo (qF qs)) {n:Nat} (hn:n < qs.length):∃ g o,qo=some ⟨g,o,none⟩/\g < w.heap.size/\w.cell? ⟨g,o+n * 2+1,none⟩=some (.bool (ghL qs n)):=by
 obtain ⟨g,o,e,hg,hc⟩:=h _ _ (qF_at hn)
 exact ⟨g,o,e,hg,by rw [Nat.add_assoc];exact hc⟩
theorem rother8 {P:Pg} {ao qo vo tto uo oo:Option Addr} {ac qc vc tc uc oc:Nat} (i:Nat) {w:World} (hr:IsRz w ao P.rows) (hq:IsVals w qo (qF P.qs)) (hn:P.rows.length<=2932031007317) (hi:i < P.rows.length) (hQ:Qs P.rows P.qs) (hql:P.qs.length<=16):
  Calls Tryz.prog 37 #[.agg #[.string P.name,.slice ao P.rows.length ac,.slice qo P.qs.length qc,.slice vo P.vs.length vc,.slice tto P.ts.length tc,.slice uo P.us.length uc,.slice oo P.on.length oc,.int .i64 P.miss],.int .i64 (i:Int)] w fun e w'=>e=.returned (.bool (othZ P.rows (ghL P.qs) i))/\Below w.heap.size w w':=by
 have hln:(P.rows.length:Int)<=2932031007317:=by omega
 have hi1:(i:Int) < (P.rows.length:Int):=by omega
 have hqn:(P.qs.length:Int)<=16:=by omega
 have HO:Hid (othZ P.rows (ghL P.qs) i=if (rat P.rows i).kind=8\/(rat P.rows i).kind=17\/(rat P.rows i).kind=20 then ghZ P.rows (ghL P.qs) i else if (rat P.rows i).kind=9\/(rat P.rows i).kind=21 then !ghZ P.rows (ghL P.qs) i
  else if (rat P.rows i).kind=24 then (if (rat P.rows (i - 1)).kind=20 then !ghZ P.rows (ghL P.qs) i else ghZ P.rows (ghL P.qs) i != ghZ P.rows (ghL P.qs) (i - 1)) else false):=rfl
 have hb:Below w.heap.size w (w.alloc (.cells #[.string P.name,.slice ao P.rows.length ac,.slice qo P.qs.length qc,.slice vo P.vs.length vc,.slice tto P.ts.length tc,.slice uo P.us.length uc,.slice oo P.on.length oc,.int .i64 P.miss] 27)):=bAl w _
 have HX:=hdn <| heap_alloc_new w (.cells #[.string P.name,.slice ao P.rows.length ac,.slice qo P.qs.length qc,.slice vo P.vs.length vc,.slice tto P.ts.length tc,.slice uo P.us.length uc,.slice oo P.on.length oc,.int .i64 P.miss] 27)
 obtain ⟨g,o,rfl,hg,c0,c1,c2,c3,c4⟩:=row_cells (hr.below hb) hi
 have HB:=hdn <| hb
 have hB2:∀ cs:Array Value,Below w.heap.size w ((w.alloc (.cells #[.string P.name,.slice (some ⟨g,o,none⟩) P.rows.length ac,.slice qo P.qs.length qc,.slice vo P.vs.length vc,.slice tto P.ts.length tc,.slice uo P.us.length uc,.slice oo P.on.length oc,.int .i64 P.miss] 27)).alloc (.cells cs 61)):=fun cs=>hb.alloc (by simp) _
 have HB2:=hdn <| hB2
 have HB3:Hid (∀ cs cs2:Array Value,Below w.heap.size w (((w.alloc (.cells #[.string P.name,.slice (some ⟨g,o,none⟩) P.rows.length ac,.slice qo P.qs.length qc,.slice vo P.vs.length vc,.slice tto P.ts.length tc,.slice uo P.us.length uc,.slice oo P.on.length oc,.int .i64 P.miss] 27)).alloc (.cells cs 61)).alloc (.cells cs2 61))):=fun cs cs2=>(hB2 cs).alloc (by simp;omega) _
 clear hB2
 by_cases hA:(rat P.rows i).kind=8\/(rat P.rows i).kind=17\/(rat P.rows i).kind=20
 ·obtain ⟨n,hN,hq1⟩:=hQ.n i hi (by omega)
  have HR:Hid (othZ P.rows (ghL P.qs) i=ghL P.qs n):=by show _=_;rw [HO.out,if_pos hA];unfold ghZ;rw [hN];rfl
  rw [HR.out]
  rw [hN] at c3
  have hnq:(n:Int) < (P.qs.length:Int):=by omega
  obtain ⟨g2,o2,rfl,hg2,q0⟩:=qgh hq hq1
  have q1:∀ cs:Array Value,((w.alloc (.cells #[.string P.name,.slice (some ⟨g,o,none⟩) P.rows.length ac,.slice (some ⟨g2,o2,none⟩) P.qs.length qc,.slice vo P.vs.length vc,.slice tto P.ts.length tc,.slice uo P.us.length uc,.slice oo P.on.length oc,.int .i64 P.miss] 27)).alloc (.cells cs 61)).cell? ⟨g2,o2+n * 2+1,none⟩=some (.bool (ghL P.qs n)):=fun cs=>((HB2.out cs).cell (p:=⟨g2,o2+n * 2+1,none⟩) hg2).trans q0
  clear HO hQ hN HR hr hq hb HB HX q0 hn hql hq1 hg hg2 HB3
  generalize ghL P.qs n=z at *
  rcases hA with h | h | h
  all_goals
   rw [h] at c0
   go_enter Tryz.func37,Tryz.ntmps37
   go_wp2
   go_ret
   exact ⟨rfl,HB2.out _⟩
 ·by_cases hD:(rat P.rows i).kind=9\/(rat P.rows i).kind=21
  ·obtain ⟨n,hN,hq1⟩:=hQ.n i hi (by omega)
   have HR:Hid (othZ P.rows (ghL P.qs) i=!ghL P.qs n):=by show _=_;rw [HO.out,if_neg hA,if_pos hD];unfold ghZ;rw [hN];rfl
   rw [HR.out]
   rw [hN] at c3
   have hnq:(n:Int) < (P.qs.length:Int):=by omega
   obtain ⟨g2,o2,rfl,hg2,q0⟩:=qgh hq hq1
   have q1:∀ cs:Array Value,((w.alloc (.cells #[.string P.name,.slice (some ⟨g,o,none⟩) P.rows.length ac,.slice (some ⟨g2,o2,none⟩) P.qs.length qc,.slice vo P.vs.length vc,.slice tto P.ts.length tc,.slice uo P.us.length uc,.slice oo P.on.length oc,.int .i64 P.miss] 27)).alloc (.cells cs 61)).cell? ⟨g2,o2+n * 2+1,none⟩=some (.bool (ghL P.qs n)):=fun cs=>((HB2.out cs).cell (p:=⟨g2,o2+n * 2+1,none⟩) hg2).trans q0
   clear HO hQ hN HR hr hq hb HB HX q0 hn hql hq1 hg hg2 HB3 hA
   generalize ghL P.qs n=z at *
   rcases hD with h | h
   all_goals
    rw [h] at c0
    go_enter Tryz.func37,Tryz.ntmps37
    go_wp2
    go_ret
    exact ⟨rfl,HB2.out _⟩
  ·by_cases hP:(rat P.rows i).kind=24
   ·obtain ⟨n,hN,hq1⟩:=hQ.n i hi (by omega)
    obtain ⟨hi0,hup⟩:=hQ.up i hi hP
    obtain ⟨n2,hN2,hq2⟩:=hQ.n (i - 1) (by omega) (by omega)
    have hs:((i:Int) - 1)=((i - 1:Nat):Int):=by omega
    have hi2:((i - 1:Nat):Int) < (P.rows.length:Int):=by omega
    obtain ⟨g3,o3,hg0,_,d0',d1',d2',d3',d4'⟩:=row_cells (hr.below hb) (k:=i - 1) (by omega)
    cases hg0
    rw [hN] at c3
    rw [hN2] at d3'
    have hnq:(n:Int) < (P.qs.length:Int):=by omega
    have hnq2:(n2:Int) < (P.qs.length:Int):=by omega
    obtain ⟨g2,o2,rfl,hg2,q0⟩:=qgh hq hq1
    obtain ⟨_,_,eq2,_,q0'⟩:=qgh hq hq2
    cases eq2
    have hrow:∀ cs:Array Value,∀ (j:Nat) (v:Value),(w.alloc (.cells #[.string P.name,.slice (some ⟨g,o,none⟩) P.rows.length ac,.slice (some ⟨g2,o2,none⟩) P.qs.length qc,.slice vo P.vs.length vc,.slice tto P.ts.length tc,.slice uo P.us.length uc,.slice oo P.on.length oc,.int .i64 P.miss] 27)).cell? ⟨g,j,none⟩=some v->((w.alloc (.cells #[.string P.name,.slice (some ⟨g,o,none⟩) P.rows.length ac,.slice (some ⟨g2,o2,none⟩) P.qs.length qc,.slice vo P.vs.length vc,.slice tto P.ts.length tc,.slice uo P.us.length uc,.slice oo P.on.length oc,.int .i64 P.miss] 27)).alloc (.cells cs 61)).cell? ⟨g,j,none⟩=some v:=fun cs j v hv=>((bAl _ _).cell (p:=⟨g,j,none⟩) hg).trans hv
    have d0:=fun cs=>hrow cs _ _ d0'
    have d1:=fun cs=>hrow cs _ _ d1'
    have d2:=fun cs=>hrow cs _ _ d2'
    have d3:=fun cs=>hrow cs _ _ d3'
    have d4:=fun cs=>hrow cs _ _ d4'
    have q1:∀ cs cs2:Array Value,(((w.alloc (.cells #[.string P.name,.slice (some ⟨g,o,none⟩) P.rows.length ac,.slice (some ⟨g2,o2,none⟩) P.qs.length qc,.slice vo P.vs.length vc,.slice tto P.ts.length tc,.slice uo P.us.length uc,.slice oo P.on.length oc,.int .i64 P.miss] 27)).alloc (.cells cs 61)).alloc (.cells cs2 61)).cell? ⟨g2,o2+n * 2+1,none⟩=some (.bool (ghL P.qs n)):=fun cs cs2=>((HB3.out cs cs2).cell (p:=⟨g2,o2+n * 2+1,none⟩) hg2).trans q0
    have q2:∀ cs cs2:Array Value,(((w.alloc (.cells #[.string P.name,.slice (some ⟨g,o,none⟩) P.rows.length ac,.slice (some ⟨g2,o2,none⟩) P.qs.length qc,.slice vo P.vs.length vc,.slice tto P.ts.length tc,.slice uo P.us.length uc,.slice oo P.on.length oc,.int .i64 P.miss] 27)).alloc (.cells cs 61)).alloc (.cells cs2 61)).cell? ⟨g2,o2+n2 * 2+1,none⟩=some (.bool (ghL P.qs n2)):=fun cs cs2=>((HB3.out cs cs2).cell (p:=⟨g2,o2+n2 * 2+1,none⟩) hg2).trans q0'
    rw [hP] at c0
    rcases hup with h19 | h20
    ·have HR:Hid (othZ P.rows (ghL P.qs) i=(ghL P.qs n != ghL P.qs n2)):=by show _=_;rw [HO.out,if_neg hA,if_neg hD,if_pos hP,h19];unfold ghZ;rw [hN,hN2];rfl
     rw [HR.out]
     rw [h19] at d0
     clear HO hQ hN hN2 HR hr hq hb HB HX q0 q0' hn hql hq1 hq2 hg hg2 HB2 hA hD hP h19 d0' d1' d2' d3' d4' hrow
     generalize i - 1=i1 at *
     generalize ghL P.qs n=z at *
     generalize ghL P.qs n2=z2 at *
     go_enter Tryz.func37,Tryz.ntmps37
     go_wp2_with fail
     go_quiet (fail)
     go_wp2
     go_ret
     exact ⟨rfl,(HB3.out _ _).trans ((below_drewN _ _).mono (HB3.out _ _).size)⟩
    ·have HR:Hid (othZ P.rows (ghL P.qs) i=!ghL P.qs n):=by show _=_;rw [HO.out,if_neg hA,if_neg hD,if_pos hP,if_pos h20];unfold ghZ;rw [hN];rfl
     rw [HR.out]
     rw [h20] at d0
     clear HO hQ hN hN2 HR hr hq hb HB HX q0 q0' hn hql hq1 hq2 hg hg2 HB2 hA hD hP h20 d0' d1' d2' d3' d4' hrow
     generalize i - 1=i1 at *
     generalize ghL P.qs n=z at *
     generalize ghL P.qs n2=z2 at *
     go_enter Tryz.func37,Tryz.ntmps37
     go_wp2
     go_ret
     exact ⟨rfl,HB3.out _ _⟩
   ·have HR:Hid (othZ P.rows (ghL P.qs) i=false):=by show _=_;rw [HO.out,if_neg hA,if_neg hD,if_neg hP]
    rw [HR.out]
    clear HO HR hr hq hb HB HX hn hql hg HB3 hQ
    generalize (rat P.rows i).kind=k at *
    have b8:(k == 8)=false:=beq_false_of_ne (by omega)
    have b17:(k == 17)=false:=beq_false_of_ne (by omega)
    have b20:(k == 20)=false:=beq_false_of_ne (by omega)
    have b9:(k == 9)=false:=beq_false_of_ne (by omega)
    have b21:(k == 21)=false:=beq_false_of_ne (by omega)
    have b24:(k == 24)=false:=beq_false_of_ne (by omega)
    clear hA hD hP
    go_enter Tryz.func37,Tryz.ntmps37
    go_wp2
    go_ret
    exact ⟨rfl,HB2.out _⟩
end Go.Proofs.YtbledbjcghaanaaGreat.Nm.Ty
