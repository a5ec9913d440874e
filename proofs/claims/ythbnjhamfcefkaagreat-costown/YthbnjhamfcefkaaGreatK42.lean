import Derived.Test.YthbnjhamfcefkaaGreatK17
import Derived.Laws.CopyOwn
import Derived.Laws.Externs
import Derived.BigQuiet
set_option maxHeartbeats 6400000
set_option maxRecDepth 1759218604390400
namespace Go.Proofs.YthbnjhamfcefkaaGreat.Nm
open Go.RowKit Go.Maps Sp Lx Gr
theorem lendJ_any {w:World} {ao:Option Addr} {l:List Int} {c:Nat} (h:IsVals w ao (iv l)) (hn:l.length<=17592186043904) (hnil:ao=none->c=0):
  Calls Tryz.prog 28 #[.slice ao l.length c] w fun e w'=>∃ g cap,e=.returned (.slice (some ⟨g,0,none⟩) l.length cap)/\w'.ownsRow w.heap.size 3 1 (.slice (some ⟨g,0,none⟩) (l.length+1) cap) (l.length+1) (iv l++[.int .i64 (-77)])/\Below w.heap.size w w':=by
 obtain ⟨i0,hi,hz0,hz1,hz2⟩:=info_parts infoI
 obtain ⟨M,hmk,hM⟩:=mk_capJ Tryz.underlying23 hi hz0 hz1 hz2 l.length (by omega) (by omega)
 have hb1:Below w.heap.size w (w.alloc (.cells M 3)):=bAl w _
 have HO:Hid ((w.alloc (.cells M 3)).ownsRow w.heap.size 3 1 (.slice (some ⟨w.heap.size,0,none⟩) 0 (l.length+3)) 0 []):=own_madeJ hM (Nat.le_refl _) (by omega)
 have HB1:=hdn <| hb1
 have HV:=hdn <| h.below hb1
 have HN:Hid (l.length<=17592186043904/\(ao=none->l.length=0/\c=0)/\(iv l).length=l.length * 1):=⟨hn,fun e=>⟨vals_nil (m:=l.length) (sz:=1) h (by simp) (by decide) e,hnil e⟩,by simp⟩
 have hln:(l.length:Int)<=17592186043904:=by omega
 clear h hn hnil hb1 hM
 go_enter Tryz.func28,Tryz.ntmps28
 go_wp2_with (at_builtin;refine wpl_app _ rfl _ _ 23 rfl w.heap.size 3 i0 (.int .i64 0) 1 8 Tryz.underlying23 hi hz0 hz1 hz2 rfl (by decide) (.slice (some ⟨w.heap.size,0,none⟩) 0 (l.length+3)) 0 [] rfl HO.out ao l.length c (iv l) rfl HN.out.2.2 HN.out.2.1 (vals_src HV.out) (iv_one l) ?c3 ?c4 HB1.out.size ?_)
 case c3=>have:=HN.out.1;unfold maxLen;omega
 case c4=>have:=HN.out.1;omega
 intro v1 w2 ho1 hg1 _
 have hb2:Below w.heap.size w w2:=HB1.out.grown hg1 HB1.out.size (fun q e=>by cases e;exact Nat.le_refl _)
 have hb3:Below w2.heap.size w2 (w2.alloc (.cells #[.int .i64 (-77)] 3)):=bAl w2 _
 have HO2:Hid ((w2.alloc (.cells #[.int .i64 (-77)] 3)).ownsRow w.heap.size 3 1 v1 l.length (iv l)/\Below w.heap.size w (w2.alloc (.cells #[.int .i64 (-77)] 3))):=⟨own_below ho1 hb3,hb2.trans (hb3.mono hb2.size)⟩
 clear ho1 hg1 hb2 hb3 HO HV
 go_wp2_with (at_builtin;refine wpl_app _ rfl _ _ 23 rfl w.heap.size 3 i0 (.int .i64 0) 1 8 Tryz.underlying23 hi hz0 hz1 hz2 rfl (by decide) v1 l.length (iv l) rfl HO2.out.1 (some ⟨w2.heap.size,0,none⟩) 1 1 [.int .i64 (-77)] rfl rfl (fun e=>by cases e) (fun ad e=>by cases e;exact cell_one w2 _ _) (by intro u hu;simp only [List.mem_cons,List.not_mem_nil,or_false] at hu;subst hu;rfl) ?c3 ?c4 HO2.out.2.size ?_)
 case c3=>have:=HN.out.1;unfold maxLen;omega
 case c4=>have:=HN.out.1;omega
 intro v2 w4 ho2 hg2 _
 have H4:Hid (w4.ownsRow w.heap.size 3 1 v2 (l.length+1) (iv l++[.int .i64 (-77)])/\Below w.heap.size w w4):=⟨ho2,HO2.out.2.grown hg2 HO2.out.2.size (fun q e=>(World.ownsRow.lt HO2.out.1 q e).1)⟩
 obtain ⟨g,cap,rfl,hcap,hcm⟩:=own_some ho2 (Nat.succ_pos _)
 have hc1:(l.length:Int)<=(cap:Int):=by omega
 have hc2:(l.length:Int)+1<=(cap:Int):=by omega
 have hc3:l.length<=cap:=by omega
 have hc4:(cap:Int)<=9223372036854775807:=by unfold maxLen at hcm;omega
 clear ho2 hg2 HO2 hcm
 go_wp2_with fail
 go_ret
 exact ⟨g,cap,rfl,H4.out.1,H4.out.2⟩
theorem lendI_any {w:World} {ao:Option Addr} {l:List Int} {c:Nat} (h:IsVals w ao (iv l)) (hn:l.length<=1000) (hnil:ao=none->c=0):
  Calls Tryz.prog 28 #[.slice ao l.length c] w fun e w'=>∃ g cap,e=.returned (.slice (some ⟨g,0,none⟩) l.length cap)/\w'.ownsRow w.heap.size 3 1 (.slice (some ⟨g,0,none⟩) (l.length+1) cap) (l.length+1) (iv l++[.int .i64 (-77)])/\Below w.heap.size w w':=lendJ_any h (by omega) hnil
theorem run_copy_rows {P:Program} (w:World) (dT sT ty elem:TypeId) (i:TypeInfo) (hq:P.info? elem=some i) (g o dLen dCap:Nat) (a:Addr) (sLen sCap k:Nat) (hk:Nat.min sLen dLen=k) (cur:List Value) (t:TypeId) (cs:List Value)
  (hu:P.underlying dT=some (.slice elem))
  (hg:w.heap[g]?=some (.cells cur.toArray t (0,0))) (hn:cs.length=k * i.size)
  (hsrc:∀ j v,cs[j]?=some v->w.cell? (a.add j)=some v) (hfit:o+cs.length<=cur.length) (h1:∀ v ∈ cs,v.oneCell'=true):
  (Builtin.copy_ #[dT,sT] ty #[.slice (some ⟨g,o,none⟩) dLen dCap,.slice (some a) sLen sCap]).run P w=.ok (goInt k) (w.setRow g (splice cur o cs).toArray):=by
 have hl:=run_loadCells_list (P:=P) w a cs hsrc
 have hst:=run_storeCells_at P g o t cs 0 cur.toArray w hg (by simpa using hfit) h1
 simp only [Nat.add_zero] at hst
 simp [Builtin.copy_,run_underlying hu,Builtin.lenOf,Builtin.firstCells,sizeOf,typeInfo,hq,hk,<-hn,hl,hst,splice]
theorem rz5_set (l:List Rz) (i:Nat) (r r':Rz) (h:l[i]?=some r):(l.set i r').flatMap rz5=(((((l.flatMap rz5).set (i * 5) (.int .i64 r'.kind)).set (i * 5+1) (.string r'.name)).set (i * 5+2) (.int .i64 r'.stop)).set (i * 5+3) (.int .i64 r'.n)).set (i * 5+4) (.int .i64 r'.kids):=by
 induction l generalizing i with
 | nil=>simp at h
 | cons y l ih=>
  cases i with
  | zero=>
   rw [List.set_cons_zero,List.flatMap_cons,List.flatMap_cons]
   simp [rz5]
  | succ i=>
   have e:∀ k,(i+1) * 5+k=i * 5+k+1+1+1+1+1:=fun k=>by omega
   rw [List.set_cons_succ,List.flatMap_cons,List.flatMap_cons,ih i (by simpa using h)]
   rw [show (i+1) * 5=i * 5+1+1+1+1+1 by omega]
   rw [show i * 5+1+1+1+1+1+1=i * 5+1+1+1+1+1+1 from rfl]
   simp only [rz5,List.cons_append,List.nil_append]
   simp only [show i * 5+1+1+1+1+1+1=(i * 5+1)+1+1+1+1+1 by omega,show i * 5+1+1+1+1+1+2=(i * 5+2)+1+1+1+1+1 by omega,show i * 5+1+1+1+1+1+3=(i * 5+3)+1+1+1+1+1 by omega,show i * 5+1+1+1+1+1+4=(i * 5+4)+1+1+1+1+1 by omega,List.set_cons_succ]
def RowZ (w:World) (g:Nat) (l:List Rz):Prop:=w.heap[g]?=some (.cells (l.flatMap rz5).toArray 51 (0,0))
theorem RowZ.lt {w:World} {g:Nat} {l:List Rz} (h:RowZ w g l):g < w.heap.size:=(Array.getElem?_eq_some_iff.1 h).1
theorem RowZ.cell {w:World} {g:Nat} {l:List Rz} (h:RowZ w g l) {i:Nat} {r:Rz} (hi:l[i]?=some r) (j:Nat) (hj:j < 5):w.cell? ⟨g,i * 5+j,none⟩=(rz5 r)[j]?:=by
 rw [World.cell?,h,<-rz5_at l i j r hi hj]
 simp
theorem RowZ.frozen {w:World} {g:Nat} {l:List Rz} (h:RowZ w g l) (j:Nat):w.frozen? ⟨g,j,none⟩=false:=by rw [World.frozen?,h];simp
theorem RowZ.cells {w:World} {g:Nat} {l:List Rz} (h:RowZ w g l) {i:Nat} {r:Rz} (hi:l[i]?=some r):w.cell? ⟨g,i * 5,none⟩=some (.int .i64 r.kind)/\w.cell? ⟨g,i * 5+1,none⟩=some (.string r.name)/\w.cell? ⟨g,i * 5+2,none⟩=some (.int .i64 r.stop)/\w.cell? ⟨g,i * 5+3,none⟩=some (.int .i64 r.n)/\w.cell? ⟨g,i * 5+4,none⟩=some (.int .i64 r.kids):=
 ⟨h.cell hi 0 (by omega),h.cell hi 1 (by omega),h.cell hi 2 (by omega),h.cell hi 3 (by omega),h.cell hi 4 (by omega)⟩
theorem RowZ.below {w w':World} {g:Nat} {l:List Rz} (h:RowZ w g l) {b:Nat} (hb:Below b w w') (hg:g < b):RowZ w' g l:=(hb.block g hg).trans h
theorem RowZ.reads {w:World} {g:Nat} {l l':List Rz} (h:RowZ w g (l++l')):IsRz w (some ⟨g,0,none⟩) l:=by
 intro i x hx
 have hx':(l++l')[i]?=some x:=by rw [List.getElem?_append_left (List.getElem?_eq_some_iff.1 hx).1];exact hx
 obtain ⟨c0,c1,c2,c3,c4⟩:=h.cells hx'
 refine ⟨g,0,rfl,h.lt,?_,?_,?_,?_,?_⟩<;>simp only [Nat.zero_add]<;>assumption
abbrev storeRow (w:World) (g i:Nat) (r:Rz):World:=((((w.setCell ⟨g,i * 5,none⟩ (.int .i64 r.kind)).setCell ⟨g,i * 5+1,none⟩ (.string r.name)).setCell ⟨g,i * 5+2,none⟩ (.int .i64 r.stop)).setCell ⟨g,i * 5+3,none⟩ (.int .i64 r.n)).setCell ⟨g,i * 5+4,none⟩ (.int .i64 r.kids)
theorem RowZ.set {w:World} {g:Nat} {l:List Rz} (h:RowZ w g l) {i:Nat} {r:Rz} (hi:l[i]?=some r) (r':Rz):RowZ (storeRow w g i r') g (l.set i r'):=by
 have h1:=heap_setCell_same w g (i * 5) _ _ (.int .i64 r'.kind) h
 have h2:=heap_setCell_same _ g (i * 5+1) _ _ (.string r'.name) h1
 have h3:=heap_setCell_same _ g (i * 5+2) _ _ (.int .i64 r'.stop) h2
 have h4:=heap_setCell_same _ g (i * 5+3) _ _ (.int .i64 r'.n) h3
 have h5:=heap_setCell_same _ g (i * 5+4) _ _ (.int .i64 r'.kids) h4
 unfold RowZ storeRow
 rw [h5,rz5_set l i r r' hi]
 simp
theorem mk_cells (n:Nat):madeCells (Value.agg #[.int .i64 0,.string ⟨#[]⟩,.int .i64 0,.int .i64 0,.int .i64 0]).cells (n * 5)=((List.replicate n rz0).flatMap rz5).toArray:=by
 apply Array.ext'
 apply List.ext_getElem?
 intro j
 have e1:(Value.agg #[.int .i64 0,.string ⟨#[]⟩,.int .i64 0,.int .i64 0,.int .i64 0]).cells=#[.int .i64 0,.string ⟨#[]⟩,.int .i64 0,.int .i64 0,.int .i64 0]:=rfl
 rw [e1]
 by_cases hj:j < n * 5
 ·have hq:(List.replicate n rz0)[j / 5]?=some rz0:=by rw [List.getElem?_replicate,if_pos (by omega)]
  have h2:=rz5_at (List.replicate n rz0) (j / 5) (j % 5) rz0 hq (by omega)
  rw [show j / 5 * 5+j % 5=j by omega] at h2
  rw [List.toList_toArray,h2,Array.getElem?_toList]
  simp only [madeCells]
  have hm:j % 5 < 5:=by omega
  simp [hj]
  generalize j % 5=m at hm
  match m,hm with
  | 0,_=>rfl
  | 1,_=>rfl
  | 2,_=>rfl
  | 3,_=>rfl
  | 4,_=>rfl
 ·rw [List.getElem?_eq_none (by rw [Array.length_toList,size_madeCells];omega),List.getElem?_eq_none (by rw [List.toList_toArray,rz5_len,List.length_replicate];omega)]
theorem mk_rows (n:Nat) (hn:n<=2932031007330):∃ M:List Value,(∀ u:World,(Instr.makeSlice 25 (.int .i64 (n:Int)) (.int .i64 (n:Int))).run Tryz.prog u=.ok (.slice (some ⟨u.heap.size,0,none⟩) n n) (u.alloc (.cells M.toArray 51)))/\M=(List.replicate n rz0).flatMap rz5:=by
 obtain ⟨i0,hi,hz0,hz1,hz2⟩:=info_parts infoRw
 refine ⟨_,fun u=>?_,rfl⟩
 have h:=run_make (P:=Tryz.prog) u 25 51 i0 (.agg #[.int .i64 0,.string ⟨#[]⟩,.int .i64 0,.int .i64 0,.int .i64 0]) Tryz.underlying25 hi hz0 .i64 .i64 (n:Int) (n:Int) (by omega) (Int.le_refl _) (by rw [hz2];omega) (by omega)
 have e:(n:Int).toNat=n:=by omega
 rw [e,hz1] at h
 refine h.trans ?_
 have key:madeCells (Value.agg #[.int .i64 0,.string ⟨#[]⟩,.int .i64 0,.int .i64 0,.int .i64 0]).cells (n * 5)=((List.replicate n rz0).flatMap rz5).toArray:=mk_cells n
 rw [key]
def mkL (i:Nat):Rz:=⟨-7,⟨#[108,101,110,116]⟩,0,0,i⟩
def fillL (l:List Rz) (k:Nat):List Rz:=l++((List.range k).map (fun j=>mkL (l.length+j))++List.replicate (9 - k) rz0)
theorem fillL_len (l:List Rz) (k:Nat) (hk:k<=9):(fillL l k).length=l.length+9:=by
 simp [fillL]
 omega
theorem fillL_at (l:List Rz) (k:Nat) (hk:k < 9):(fillL l k)[l.length+k]?=some rz0:=by
 unfold fillL
 rw [List.getElem?_append_right (by omega),show l.length+k - l.length=k by omega,List.getElem?_append_right (by simp),List.length_map,List.length_range,Nat.sub_self,List.getElem?_replicate,if_pos (by omega)]
theorem fillL_set (l:List Rz) (k:Nat) (hk:k < 9):(fillL l k).set (l.length+k) (mkL (l.length+k))=fillL l (k+1):=by
 unfold fillL
 rw [List.set_append_right _ _ (by omega),show l.length+k - l.length=k by omega]
 congr 1
 rw [List.set_append_right _ _ (by simp),List.length_map,List.length_range,Nat.sub_self,show 9 - k=(9 - (k+1))+1 by omega,List.replicate_succ,List.set_cons_zero,List.range_succ,List.map_append,List.append_assoc]
 rfl
theorem copied_rows (ao:Option Addr) (l:List Rz) (cap:Nat) (w:World) (M:List Value) (hM:M=(List.replicate (l.length+9) rz0).flatMap rz5) (h:IsRz w ao l):
  ∃ W2,(Builtin.copy_ #[25,25] 3 #[.slice (some ⟨w.heap.size,0,none⟩) (l.length+9) (l.length+9),.slice ao l.length cap]).run Tryz.prog (w.alloc (.cells M.toArray 51))=.ok (goInt l.length) W2 /\
   RowZ W2 w.heap.size (fillL l 0)/\Below w.heap.size w W2:=by
 obtain ⟨i0,hi,hz0,hz1,hz2⟩:=info_parts infoRw
 have hB:Below w.heap.size w (w.alloc (.cells M.toArray 51)):=bAl w _
 by_cases h0:l.length=0
 ·obtain rfl:l=[]:=List.eq_nil_of_length_eq_zero h0
  refine ⟨w.alloc (.cells M.toArray 51),?_,?_,hB⟩
  ·simp [Builtin.copy_,run_underlying Tryz.underlying25,Builtin.lenOf,Builtin.firstCells,sizeOf,typeInfo,hi]
   cases ao<;>simp [storeCells,loadCells,go_sem]
  ·show _=_
   rw [heap_alloc_new,hM]
   rfl
 ·obtain ⟨g,o,rfl,hg,hc⟩:=rz_cells h (by omega)
  have hr:=run_copy_rows (P:=Tryz.prog) (w.alloc (.cells M.toArray 51)) 25 25 3 51 i0 hi w.heap.size 0 (l.length+9) (l.length+9) ⟨g,o,none⟩ l.length cap l.length (Nat.min_eq_left (by omega)) M 51 (l.flatMap rz5) Tryz.underlying25 (heap_alloc_new w _)
   (by rw [rz5_len,hz1]) (fun j v hv=>by
    have h1:=hc j v hv
    rw [Lib.addr_add] at h1 ⊢
    exact (World.cell?_of_block (a:=⟨g,o+j,none⟩) (Below.heap_alloc w _ g hg)).trans h1) (by rw [rz5_len,hM,rz5_len,List.length_replicate];omega) (rz5_one l)
  refine ⟨_,hr,?_,below_setRow hB (Nat.le_refl _) _⟩
  have this:∀ n,((List.replicate (n+9) rz0).flatMap rz5).drop (n * 5)=(List.replicate 9 rz0).flatMap rz5:=by
   intro n
   induction n with
   | zero=>rfl
   | succ n ih=>
    rw [show n+1+9=(n+9)+1 by omega,List.replicate_succ,List.flatMap_cons,show (n+1) * 5=(rz5 rz0).length+n * 5 by show _=5+_;omega,List.drop_length_add_append,ih]
  have key:splice M 0 (l.flatMap rz5)=(fillL l 0).flatMap rz5:=by
   unfold splice fillL
   rw [List.take_zero,List.nil_append,List.flatMap_append,Nat.zero_add,rz5_len,hM,this]
   rfl
  have h5:=setRow_heap (w.alloc (.cells M.toArray 51)) w.heap.size M.toArray (splice M 0 (l.flatMap rz5)).toArray 51 (0,0) (heap_alloc_new w _)
  rw [key] at h5
  unfold RowZ
  rw [key]
  exact h5
theorem lendR_any (ao:Option Addr) (l:List Rz) (cap:Nat) (w:World) (h:IsRz w ao l) (hn:l.length<=2932031007300):
  Calls Tryz.prog 27 #[.slice ao l.length cap] w fun e w'=>e=.returned (.slice (some ⟨w.heap.size,0,none⟩) l.length (l.length+9))/\RowZ w' w.heap.size (fillL l 9)/\Below w.heap.size w w':=by
 obtain ⟨M,hmk,hM⟩:=mk_rows (l.length+9) (by omega)
 have hmk2:∀ u:World,(Instr.makeSlice 25 (.int .i64 ((l.length:Int)+9)) (.int .i64 ((l.length:Int)+9))).run Tryz.prog u=.ok (.slice (some ⟨u.heap.size,0,none⟩) (l.length+9) (l.length+9)) (u.alloc (.cells M.toArray 51)):=fun u=>by
  have:=hmk u
  rw [show ((l.length+9:Nat):Int)=(l.length:Int)+9 by omega] at this
  exact this
 obtain ⟨W2,hcp,hR,hB⟩:=copied_rows ao l cap w M hM h
 have H0:Hid (RowZ W2 w.heap.size (fillL l 0)/\Below w.heap.size w W2):=⟨hR,hB⟩
 have hln:(l.length:Int)<=2932031007300:=by omega
 clear hmk hM h hn hR hB
 go_enter Tryz.func27,Tryz.ntmps27
 go_wp2_with fail
 go_loopg [4] 9 (fun gq i wr=>∃ k:Nat,k<=9/\gq=9 - k/\i=.int .i64 ((l.length:Int)+k)/\RowZ wr w.heap.size (fillL l k)/\Below w.heap.size w wr)
 case atStart=>exact ⟨0,by omega,rfl,by go_num,H0.out.1,H0.out.2⟩
 case round=>
  obtain ⟨k,hk,hgk,rfl,hR,hB⟩:=hrel
  have HG:Hid (gk=9 - k):=hgk
  have HR:Hid (RowZ wr w.heap.size (fillL l k)/\Below w.heap.size w wr):=⟨hR,hB⟩
  have hk3:(k:Int)<=9:=by omega
  clear hgk hB
  by_cases hlt:k < 9
  ·have hlt':(l.length:Int)+(k:Int) < (l.length:Int)+9:=by omega
   obtain ⟨c0,c1,c2,c3,c4⟩:=hR.cells (fillL_at l k hlt)
   have hf:=hR.frozen
   have hs:=hR.set (fillL_at l k hlt) (mkL (l.length+k))
   rw [fillL_set l k hlt] at hs
   have HS:Hid (RowZ (storeRow wr w.heap.size (l.length+k) (mkL (l.length+k))) w.heap.size (fillL l (k+1))):=hs
   have htn:((l.length:Int)+(k:Int)).toNat=l.length+k:=by omega
   have hcast:((l.length+k:Nat):Int)=(l.length:Int)+(k:Int):=by omega
   clear hR hs hlt
   rw [<-hcast] at hlt' ⊢
   go_wp2_with fail
   go_roundg (9 - (k+1))
   case measure=>have h1:=HG.out;omega
   case rel=>exact ⟨k+1,by omega,rfl,by go_num,HS.out,((((HR.out.2.setCell (p:=⟨w.heap.size,(l.length+k) * 5,none⟩) (Nat.le_refl _) _).setCell (p:=⟨w.heap.size,(l.length+k) * 5+1,none⟩) (Nat.le_refl _) _).setCell (p:=⟨w.heap.size,(l.length+k) * 5+2,none⟩) (Nat.le_refl _) _).setCell (p:=⟨w.heap.size,(l.length+k) * 5+3,none⟩) (Nat.le_refl _) _).setCell (p:=⟨w.heap.size,(l.length+k) * 5+4,none⟩) (Nat.le_refl _) _⟩
  ·have hlt':¬ ((l.length:Int)+(k:Int) < (l.length:Int)+9):=by omega
   have hke:k=9:=by omega
   have HF:Hid (RowZ wr w.heap.size (fillL l 9)/\Below w.heap.size w wr):=by rw [hke] at HR;exact HR
   clear hR hke hlt
   go_wp2_with fail
   go_ret
   exact ⟨rfl,HF.out⟩
end Go.Proofs.YthbnjhamfcefkaaGreat.Nm
