import Derived.Test.YtfgpbdieaflclaaGreatK02
set_option maxHeartbeats 6400000
set_option maxRecDepth 100000
namespace Go.Proofs.YtfgpbdieaflclaaGreat.Gr
open Go.RowKit Sp Lx
theorem pop_done {a:Ab} {t:List Ab} (h:a.kids<=a.seen):pop (a :: t)=pop t:=by simp only [pop];rw [if_pos h]
theorem pop_stay {a:Ab} {t:List Ab} (h:¬ a.kids<=a.seen):pop (a :: t)=a :: t:=by simp only [pop];rw [if_neg h]
theorem abf1 (a b c d e:Value) (w:World):(Instr.field 119 (.agg #[a,b,c,d,e]) 1).run Tryz.prog w=.ok b w:=by kernel_rfl
theorem abf2 (a b c d e:Value) (w:World):(Instr.field 119 (.agg #[a,b,c,d,e]) 2).run Tryz.prog w=.ok c w:=by kernel_rfl
abbrev PastL (w0:World) (v0:Value) (base:Nat) (T:List Ab) (tt:List Ab) (v:Value) (w:World):Prop:=OwnT w base v tt/\Went w0 v0 w v/\pop tt=T/\tt.length<=3000000000001
theorem cell_row (w:World) (r:Rz):(w.alloc (.cells #[.int .i64 r.kind,.string r.name,.int .i64 r.stop,.int .i64 r.n,.int .i64 r.kids] 47)).cell? ⟨w.heap.size,0,none⟩=some (.int .i64 r.kind)/\(w.alloc (.cells #[.int .i64 r.kind,.string r.name,.int .i64 r.stop,.int .i64 r.n,.int .i64 r.kids] 47)).cell? ⟨w.heap.size,4,none⟩=some (.int .i64 r.kids):=by
 constructor
 ·rw [World.cell?,heap_alloc_new];simp
 ·rw [World.cell?,heap_alloc_new];simp
theorem past_any (t:List Ab) (r:Rz) (lv:Int) (base:Nat) (v:Value) (w:World) (h:OwnT w base v t) (hb:base<=w.heap.size) (hs:SeenLe 4611686018427387000 t) (hn:t.length<=3000000000000):
  Calls Tryz.prog 87 #[v,agr r,.int .i64 lv] w fun e w'=>∃ v',e=.returned v'/\OwnT w' base v' (past t r lv)/\Went w v w' v':=by
 obtain ⟨i0,hi,hz0,hz1,hz2⟩:=info_parts info119
 have HN:Hid (t.length<=3000000000000):=hn
 have HB:Hid (base<=w.heap.size):=hb
 have hBx:Below w.heap.size w (w.alloc (.cells #[.int .i64 r.kind,.string r.name,.int .i64 r.stop,.int .i64 r.n,.int .i64 r.kids] 47)):=bAl w _
 have HP:Hid (past t r lv=pop (⟨r.kind,r.kids,0,0,lv⟩ :: bump r.kind t)):=rfl
 have hL:∀ (tt:List Ab) (v:Value) (w:World),OwnT w base v tt->tt.length<=4611686018427387904->Calls Tryz.prog 85 #[v] w fun e w'=>e=.returned (agb (top tt))/\Below w.heap.size w w':=fun tt v w h hn=>last_any tt base v w h hn
 have HL:Hid (∀ (tt:List Ab) (v:Value) (w:World),OwnT w base v tt->tt.length<=4611686018427387904->Calls Tryz.prog 85 #[v] w fun e w'=>e=.returned (agb (top tt))/\Below w.heap.size w w'):=hL
 clear hL hn hb
 cases t with
 | nil=>
  have HO:Hid (OwnT (w.alloc (.cells #[.int .i64 r.kind,.string r.name,.int .i64 r.stop,.int .i64 r.n,.int .i64 r.kids] 47)) base v []):=own_below h hBx
  have HW:Hid (Went w v (w.alloc (.cells #[.int .i64 r.kind,.string r.name,.int .i64 r.stop,.int .i64 r.n,.int .i64 r.kids] 47)) v):=(Went.refl w v).below hBx
  obtain ⟨bo,bc,rfl⟩:=own_form h
  simp only [List.length_nil] at *
  obtain ⟨k0,k4⟩:=cell_row w r
  clear h hs hBx
  have HO3:Hid (OwnT ((w.alloc (.cells #[.int .i64 r.kind,.string r.name,.int .i64 r.stop,.int .i64 r.n,.int .i64 r.kids] 47)).alloc (.cells #[.int .i64 r.kind,.int .i64 r.kids,.int .i64 0,.int .i64 0,.int .i64 lv] 119)) base (.slice bo 0 bc) ([])):=own_below HO.out (bAl _ _)
  have HW3:Hid (Went w (.slice bo 0 bc) ((w.alloc (.cells #[.int .i64 r.kind,.string r.name,.int .i64 r.stop,.int .i64 r.n,.int .i64 r.kids] 47)).alloc (.cells #[.int .i64 r.kind,.int .i64 r.kids,.int .i64 0,.int .i64 0,.int .i64 lv] 119)) (.slice bo 0 bc)):=HW.out.below (bAl _ _)
  have HN1:Hid ((0)+1<=3000000000001):=by have:=HN.out;show _+1<=_;omega
  have hsz3:((w.alloc (.cells #[.int .i64 r.kind,.string r.name,.int .i64 r.stop,.int .i64 r.n,.int .i64 r.kids] 47))).heap.size=w.heap.size+1:=by simp
  have HC:Hid (∀ j u,(ac ⟨r.kind,r.kids,0,0,lv⟩)[j]?=some u->((w.alloc (.cells #[.int .i64 r.kind,.string r.name,.int .i64 r.stop,.int .i64 r.n,.int .i64 r.kids] 47)).alloc (.cells #[.int .i64 r.kind,.int .i64 r.kids,.int .i64 0,.int .i64 0,.int .i64 lv] 119)).cell? ((⟨w.heap.size+1,0,none⟩:Addr).add j)=some u):=fun j u hu=>by
   rw [<-hsz3]
   exact cell_five _ _ _ _ _ _ _ j u hu
  clear hsz3
  go_enter Tryz.func87,Tryz.ntmps87
  go_wp2_with (at_builtin;refine append_gone _ rfl _ _ 121 rfl base 119 i0 (.agg #[.int .i64 0,.int .i64 0,.int .i64 0,.int .i64 0,.int .i64 0]) 5 40 Tryz.underlying121 hi hz0 hz1 hz2 rfl (by decide) (.slice bo 0 bc) (0) (tc ([])) rfl HO3.out ⟨w.heap.size+1,0,none⟩ 1 1 (ac ⟨r.kind,r.kids,0,0,lv⟩) rfl rfl ?c1 ?c2 ?c3 ?c4 ?c5 ?c6 ?_)
  case c1=>exact HC.out
  case c2=>intro u hu;simp only [ac,List.mem_cons,List.not_mem_nil,or_false] at hu;rcases hu with rfl | rfl | rfl | rfl | rfl<;>rfl
  case c3=>have:=HN1.out;unfold maxLen;omega
  case c4=>have:=HN1.out;omega
  case c5=>have h1:=HB.out;have h2:=HW3.out.by_.size;omega
  case c6=>decide
  intro v4 w4 ho hG
  have hP4:PastL w (.slice bo 0 bc) base (pop (⟨r.kind,r.kids,0,0,lv⟩ :: [])) (⟨r.kind,r.kids,0,0,lv⟩ :: []) v4 w4:=
   ⟨own_push ho,HW3.out.trans (Went.gone hG),rfl,HN1.out⟩
  have HP4:Hid (PastL w (.slice bo 0 bc) base (pop (⟨r.kind,r.kids,0,0,lv⟩ :: [])) (⟨r.kind,r.kids,0,0,lv⟩ :: []) v4 w4):=hP4
  rw [show pop (⟨r.kind,r.kids,0,0,lv⟩ :: [])=past [] r lv from rfl] at HP4
  clear ho hG hP4 hi hz0 hz1 hz2
  go_wp2_with fail
  go_loopg [0] ((0)+1) (fun gq x wr=>∃ tt v,x=v/\gq=tt.length/\PastL w (.slice bo 0 bc) base (past [] r lv) tt v wr)
  case atStart=>exact ⟨⟨r.kind,r.kids,0,0,lv⟩ :: [],_,rfl,rfl,HP4.out⟩
  case round=>
   obtain ⟨tt,v,rfl,hgk,hPL⟩:=hrel
   have HG:Hid (gk=tt.length):=hgk
   clear hgk
   cases tt with
   | nil=>
    obtain ⟨bo5,bc5,rfl⟩:=own_form hPL.1
    have HPL:Hid (PastL w (.slice bo 0 bc) base (past [] r lv) [] (.slice bo5 ([]:List Ab).length bc5) wr):=hPL
    clear hPL
    simp only [List.length_nil] at *
    go_wp2_with fail
    go_ret
    exact ⟨_,rfl,by rw [<-HPL.out.2.2.1];exact HPL.out.1,HPL.out.2.1⟩
   | cons a5 t5=>
    obtain ⟨g5,cap5,cur5,rfl,_,_,hc5,_,_,_⟩:=own_block hPL.1 (by simp)
    have HPL:Hid (PastL w (.slice bo 0 bc) base (past [] r lv) (a5 :: t5) (.slice (some ⟨g5,0,none⟩) (t5.length+1) cap5) wr):=hPL
    have hl5:(t5.length:Int)<=3000000000001:=by have:=hPL.2.2.2;simp only [List.length_cons] at this;omega
    have hc5':(t5.length:Int)+1<=(cap5:Int):=by simp only [List.length_cons] at hc5;omega
    simp only [List.length_cons] at HG ⊢
    clear hPL hc5
    have hf1:=abf1
    have hf2:=abf2
    go_wp2_with fail
    refine (show Calls Tryz.prog 85 _ wr fun e w'=>e=.returned (.agg #[.int .i64 a5.kind,.int .i64 a5.kids,.int .i64 a5.seen,.int .i64 a5.kid,.int .i64 a5.levels])/\Below wr.heap.size wr w' from HL.out (a5 :: t5) _ _ HPL.out.1 (by simp only [List.length_cons];omega)).mono ?_
    rintro e w5 ⟨rfl,hB5⟩
    have HB5:Hid (Below wr.heap.size wr w5):=hB5
    clear hB5
    go_wp2_with fail
    refine (show Calls Tryz.prog 85 _ w5 fun e w'=>e=.returned (.agg #[.int .i64 a5.kind,.int .i64 a5.kids,.int .i64 a5.seen,.int .i64 a5.kid,.int .i64 a5.levels])/\Below w5.heap.size w5 w' from HL.out (a5 :: t5) _ _ (own_below HPL.out.1 HB5.out) (by simp only [List.length_cons];omega)).mono ?_
    rintro e w6 ⟨rfl,hB6⟩
    have HB6:Hid (Below wr.heap.size wr w6):=HB5.out.trans (hB6.mono HB5.out.size)
    clear hB6
    by_cases hd:a5.kids<=(a5.seen:Int)
    ·have HD:Hid (a5.kids<=(a5.seen:Int)):=hd
     go_wp2_with fail
     go_roundg t5.length
     case measure=>have:=HG.out;omega
     case rel=>exact ⟨t5,_,rfl,rfl,own_pop (own_below HPL.out.1 HB6.out),(HPL.out.2.1.below HB6.out).trans ⟨⟨rfl,rfl,rfl,Nat.le_refl _,fun _ _ _=>rfl⟩,Or.inl rfl⟩,by rw [<-HPL.out.2.2.1,pop_done HD.out],by omega⟩
    ·have HD:Hid (pop (a5 :: t5)=a5 :: t5):=pop_stay hd
     go_wp2_with fail
     go_ret
     exact ⟨_,rfl,by rw [<-HPL.out.2.2.1,HD.out];exact own_below HPL.out.1 HB6.out,HPL.out.2.1.below HB6.out⟩
 | cons a t=>
  have hsa:a.seen<=4611686018427387000:=hs a (List.mem_cons_self ..)
  obtain ⟨g,cap,rfl,hbg,hg,hf,hWc⟩:=own_top h
  obtain ⟨_,_,c2,_,_⟩:=hWc (w.alloc (.cells #[.int .i64 r.kind,.string r.name,.int .i64 r.stop,.int .i64 r.n,.int .i64 r.kids] 47)) (hBx.block g hg)
  have hst1:=World.ownsRow.stored h (t.length * 5+2) (.int .i64 (a.seen+1:Nat))
  have hbm:=own_bump r.kind h
  have hcast:((a.seen+1:Nat):Int)=(a.seen:Int)+1:=by omega
  rw [hcast] at hst1 hbm
  have hlt:(t.length:Int)<=3000000000000:=by have:=HN.out;simp only [List.length_cons] at this;omega
  have hsa2:(a.seen:Int)<=4611686018427387000:=by omega
  have f1:∀ j,(w.alloc (.cells #[.int .i64 r.kind,.string r.name,.int .i64 r.stop,.int .i64 r.n,.int .i64 r.kids] 47)).frozen? ⟨g,j,none⟩=false:=fun j=>(World.frozen?_of_block (a:=⟨g,j,none⟩) (hBx.block g hg)).trans (hf j)
  have hz1':(w.setCell ⟨g,t.length * 5+2,none⟩ (.int .i64 ((a.seen:Int)+1))).heap.size=w.heap.size:=by simp
  have hz2':((w.setCell ⟨g,t.length * 5+2,none⟩ (.int .i64 ((a.seen:Int)+1))).setCell ⟨g,t.length * 5+3,none⟩ (.int .i64 r.kind)).heap.size=w.heap.size:=by simp
  have f2:∀ j,((w.setCell ⟨g,t.length * 5+2,none⟩ (.int .i64 ((a.seen:Int)+1))).alloc (.cells #[.int .i64 r.kind,.string r.name,.int .i64 r.stop,.int .i64 r.n,.int .i64 r.kids] 47)).frozen? ⟨g,j,none⟩=false:=fun j=>
   (World.frozen?_of_block (a:=⟨g,j,none⟩) (Below.heap_alloc _ _ _ (by rw [hz1'];exact hg))).trans (World.ownsRow.frozenAt hst1.1 j)
  have c3':((w.setCell ⟨g,t.length * 5+2,none⟩ (.int .i64 ((a.seen:Int)+1))).alloc (.cells #[.int .i64 r.kind,.string r.name,.int .i64 r.stop,.int .i64 r.n,.int .i64 r.kids] 47)).cell? ⟨g,t.length * 5+3,none⟩=some (.int .i64 a.kid):=by
   rw [World.cell?_of_block (a:=⟨g,t.length * 5+3,none⟩) (Below.heap_alloc _ _ _ (by rw [hz1'];exact hg)),World.ownsRow.cellAt hst1.1 _ (by omega),List.getElem?_set_ne (by omega)]
   exact tc_top a t 3
  have n1:=cell_row (w.setCell ⟨g,t.length * 5+2,none⟩ (.int .i64 ((a.seen:Int)+1))) r
  have n2:=cell_row ((w.setCell ⟨g,t.length * 5+2,none⟩ (.int .i64 ((a.seen:Int)+1))).setCell ⟨g,t.length * 5+3,none⟩ (.int .i64 r.kind)) r
  rw [hz1'] at n1
  rw [hz2'] at n2
  obtain ⟨k0,_⟩:=n1
  obtain ⟨k1,k4⟩:=n2
  have hbel:Below w.heap.size ((w.setCell ⟨g,t.length * 5+2,none⟩ (.int .i64 ((a.seen:Int)+1))).setCell ⟨g,t.length * 5+3,none⟩ (.int .i64 r.kind)) (((w.setCell ⟨g,t.length * 5+2,none⟩ (.int .i64 ((a.seen:Int)+1))).setCell ⟨g,t.length * 5+3,none⟩ (.int .i64 r.kind)).alloc (.cells #[.int .i64 r.kind,.string r.name,.int .i64 r.stop,.int .i64 r.n,.int .i64 r.kids] 47)):=(Below.refl _ _).alloc (by rw [hz2'];exact Nat.le_refl _) _
  have hbel2:=hbel
  rw [<-hz2'] at hbel2
  have HO2:Hid (OwnT (((w.setCell ⟨g,t.length * 5+2,none⟩ (.int .i64 ((a.seen:Int)+1))).setCell ⟨g,t.length * 5+3,none⟩ (.int .i64 r.kind)).alloc (.cells #[.int .i64 r.kind,.string r.name,.int .i64 r.stop,.int .i64 r.n,.int .i64 r.kids] 47)) base (.slice (some ⟨g,0,none⟩) (t.length+1) cap) (bump r.kind (a :: t))):=own_below hbm.1 hbel2
  have HW2:Hid (Went w (.slice (some ⟨g,0,none⟩) (t.length+1) cap) (((w.setCell ⟨g,t.length * 5+2,none⟩ (.int .i64 ((a.seen:Int)+1))).setCell ⟨g,t.length * 5+3,none⟩ (.int .i64 r.kind)).alloc (.cells #[.int .i64 r.kind,.string r.name,.int .i64 r.stop,.int .i64 r.n,.int .i64 r.kids] 47)) (.slice (some ⟨g,0,none⟩) (t.length+1) cap)):=hbm.2.below hbel2
  clear hbm h hs hWc hst1 hBx hf hcast hsa hz1' hz2' hbel hbel2
  have HO3:Hid (OwnT ((((w.setCell ⟨g,t.length * 5+2,none⟩ (.int .i64 ((a.seen:Int)+1))).setCell ⟨g,t.length * 5+3,none⟩ (.int .i64 r.kind)).alloc (.cells #[.int .i64 r.kind,.string r.name,.int .i64 r.stop,.int .i64 r.n,.int .i64 r.kids] 47)).alloc (.cells #[.int .i64 r.kind,.int .i64 r.kids,.int .i64 0,.int .i64 0,.int .i64 lv] 119)) base (.slice (some ⟨g,0,none⟩) (t.length+1) cap) (bump r.kind (a :: t))):=own_below HO2.out (bAl _ _)
  have HW3:Hid (Went w (.slice (some ⟨g,0,none⟩) (t.length+1) cap) ((((w.setCell ⟨g,t.length * 5+2,none⟩ (.int .i64 ((a.seen:Int)+1))).setCell ⟨g,t.length * 5+3,none⟩ (.int .i64 r.kind)).alloc (.cells #[.int .i64 r.kind,.string r.name,.int .i64 r.stop,.int .i64 r.n,.int .i64 r.kids] 47)).alloc (.cells #[.int .i64 r.kind,.int .i64 r.kids,.int .i64 0,.int .i64 0,.int .i64 lv] 119)) (.slice (some ⟨g,0,none⟩) (t.length+1) cap)):=HW2.out.below (bAl _ _)
  have HN1:Hid ((t.length+1)+1<=3000000000001):=by have:=HN.out;simp only [List.length_cons] at this;show _+1<=_;omega
  have hsz3:((((w.setCell ⟨g,t.length * 5+2,none⟩ (.int .i64 ((a.seen:Int)+1))).setCell ⟨g,t.length * 5+3,none⟩ (.int .i64 r.kind)).alloc (.cells #[.int .i64 r.kind,.string r.name,.int .i64 r.stop,.int .i64 r.n,.int .i64 r.kids] 47))).heap.size=w.heap.size+1:=by simp
  have HC:Hid (∀ j u,(ac ⟨r.kind,r.kids,0,0,lv⟩)[j]?=some u->((((w.setCell ⟨g,t.length * 5+2,none⟩ (.int .i64 ((a.seen:Int)+1))).setCell ⟨g,t.length * 5+3,none⟩ (.int .i64 r.kind)).alloc (.cells #[.int .i64 r.kind,.string r.name,.int .i64 r.stop,.int .i64 r.n,.int .i64 r.kids] 47)).alloc (.cells #[.int .i64 r.kind,.int .i64 r.kids,.int .i64 0,.int .i64 0,.int .i64 lv] 119)).cell? ((⟨w.heap.size+1,0,none⟩:Addr).add j)=some u):=fun j u hu=>by
   rw [<-hsz3]
   exact cell_five _ _ _ _ _ _ _ j u hu
  clear hsz3
  go_enter Tryz.func87,Tryz.ntmps87
  go_wp2_with (at_builtin;refine append_gone _ rfl _ _ 121 rfl base 119 i0 (.agg #[.int .i64 0,.int .i64 0,.int .i64 0,.int .i64 0,.int .i64 0]) 5 40 Tryz.underlying121 hi hz0 hz1 hz2 rfl (by decide) (.slice (some ⟨g,0,none⟩) (t.length+1) cap) (t.length+1) (tc (bump r.kind (a :: t))) rfl HO3.out ⟨w.heap.size+1,0,none⟩ 1 1 (ac ⟨r.kind,r.kids,0,0,lv⟩) rfl rfl ?c1 ?c2 ?c3 ?c4 ?c5 ?c6 ?_)
  case c1=>exact HC.out
  case c2=>intro u hu;simp only [ac,List.mem_cons,List.not_mem_nil,or_false] at hu;rcases hu with rfl | rfl | rfl | rfl | rfl<;>rfl
  case c3=>have:=HN1.out;unfold maxLen;omega
  case c4=>have:=HN1.out;omega
  case c5=>have h1:=HB.out;have h2:=HW3.out.by_.size;omega
  case c6=>decide
  intro v4 w4 ho hG
  have hP4:PastL w (.slice (some ⟨g,0,none⟩) (t.length+1) cap) base (pop (⟨r.kind,r.kids,0,0,lv⟩ :: bump r.kind (a :: t))) (⟨r.kind,r.kids,0,0,lv⟩ :: bump r.kind (a :: t)) v4 w4:=
   ⟨own_push ho,HW3.out.trans (Went.gone hG),rfl,HN1.out⟩
  have HP4:Hid (PastL w (.slice (some ⟨g,0,none⟩) (t.length+1) cap) base (pop (⟨r.kind,r.kids,0,0,lv⟩ :: bump r.kind (a :: t))) (⟨r.kind,r.kids,0,0,lv⟩ :: bump r.kind (a :: t)) v4 w4):=hP4
  rw [show pop (⟨r.kind,r.kids,0,0,lv⟩ :: bump r.kind (a :: t))=past (a :: t) r lv from rfl] at HP4
  clear ho hG hP4 hi hz0 hz1 hz2
  go_wp2_with fail
  go_loopg [0] ((t.length+1)+1) (fun gq x wr=>∃ tt v,x=v/\gq=tt.length/\PastL w (.slice (some ⟨g,0,none⟩) (t.length+1) cap) base (past (a :: t) r lv) tt v wr)
  case atStart=>exact ⟨⟨r.kind,r.kids,0,0,lv⟩ :: bump r.kind (a :: t),_,rfl,rfl,HP4.out⟩
  case round=>
   obtain ⟨tt,v,rfl,hgk,hPL⟩:=hrel
   have HG:Hid (gk=tt.length):=hgk
   clear hgk
   cases tt with
   | nil=>
    obtain ⟨bo5,bc5,rfl⟩:=own_form hPL.1
    have HPL:Hid (PastL w (.slice (some ⟨g,0,none⟩) (t.length+1) cap) base (past (a :: t) r lv) [] (.slice bo5 ([]:List Ab).length bc5) wr):=hPL
    clear hPL
    simp only [List.length_nil] at *
    go_wp2_with fail
    go_ret
    exact ⟨_,rfl,by rw [<-HPL.out.2.2.1];exact HPL.out.1,HPL.out.2.1⟩
   | cons a5 t5=>
    obtain ⟨g5,cap5,cur5,rfl,_,_,hc5,_,_,_⟩:=own_block hPL.1 (by simp)
    have HPL:Hid (PastL w (.slice (some ⟨g,0,none⟩) (t.length+1) cap) base (past (a :: t) r lv) (a5 :: t5) (.slice (some ⟨g5,0,none⟩) (t5.length+1) cap5) wr):=hPL
    have hl5:(t5.length:Int)<=3000000000001:=by have:=hPL.2.2.2;simp only [List.length_cons] at this;omega
    have hc5':(t5.length:Int)+1<=(cap5:Int):=by simp only [List.length_cons] at hc5;omega
    simp only [List.length_cons] at HG ⊢
    clear hPL hc5
    have hf1:=abf1
    have hf2:=abf2
    go_wp2_with fail
    refine (show Calls Tryz.prog 85 _ wr fun e w'=>e=.returned (.agg #[.int .i64 a5.kind,.int .i64 a5.kids,.int .i64 a5.seen,.int .i64 a5.kid,.int .i64 a5.levels])/\Below wr.heap.size wr w' from HL.out (a5 :: t5) _ _ HPL.out.1 (by simp only [List.length_cons];omega)).mono ?_
    rintro e w5 ⟨rfl,hB5⟩
    have HB5:Hid (Below wr.heap.size wr w5):=hB5
    clear hB5
    go_wp2_with fail
    refine (show Calls Tryz.prog 85 _ w5 fun e w'=>e=.returned (.agg #[.int .i64 a5.kind,.int .i64 a5.kids,.int .i64 a5.seen,.int .i64 a5.kid,.int .i64 a5.levels])/\Below w5.heap.size w5 w' from HL.out (a5 :: t5) _ _ (own_below HPL.out.1 HB5.out) (by simp only [List.length_cons];omega)).mono ?_
    rintro e w6 ⟨rfl,hB6⟩
    have HB6:Hid (Below wr.heap.size wr w6):=HB5.out.trans (hB6.mono HB5.out.size)
    clear hB6
    by_cases hd:a5.kids<=(a5.seen:Int)
    ·have HD:Hid (a5.kids<=(a5.seen:Int)):=hd
     go_wp2_with fail
     go_roundg t5.length
     case measure=>have:=HG.out;omega
     case rel=>exact ⟨t5,_,rfl,rfl,own_pop (own_below HPL.out.1 HB6.out),(HPL.out.2.1.below HB6.out).trans ⟨⟨rfl,rfl,rfl,Nat.le_refl _,fun _ _ _=>rfl⟩,Or.inl rfl⟩,by rw [<-HPL.out.2.2.1,pop_done HD.out],by omega⟩
    ·have HD:Hid (pop (a5 :: t5)=a5 :: t5):=pop_stay hd
     go_wp2_with fail
     go_ret
     exact ⟨_,rfl,by rw [<-HPL.out.2.2.1,HD.out];exact own_below HPL.out.1 HB6.out,HPL.out.2.1.below HB6.out⟩
end Go.Proofs.YtfgpbdieaflclaaGreat.Gr
