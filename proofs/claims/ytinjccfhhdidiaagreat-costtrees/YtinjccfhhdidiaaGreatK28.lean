import Derived.Test.YtinjccfhhdidiaaGreatK27
set_option maxHeartbeats 51200000
set_option maxRecDepth 100000
namespace Go.Proofs.YtinjccfhhdidiaaGreat.Nm
open Go.RowKit Go.Maps Sp Lx Gr
structure BK (K:Nat->Prop) (w0 w X:World):Prop where
 be:Below w0.heap.size w0 X
 ke:∀ k,K k->X.heap[k]?=w.heap[k]?
 sz:w.heap.size<=X.heap.size
theorem BK.below {K:Nat->Prop} {w0 w X Y:World} (h:BK K w0 w X) (hK:∀ k,K k->k < w.heap.size) (hb:Below X.heap.size X Y):BK K w0 w Y:=⟨h.be.trans (hb.mono h.be.size),fun k hk=>(hb.block k (Nat.lt_of_lt_of_le (hK k hk) h.sz)).trans (h.ke k hk),Nat.le_trans h.sz hb.size⟩
theorem frBK {K:Nat->Prop} {w0 w w5 w6:World} {g:Nat} (h:BK K w0 w w5) (hF:Fr [g] w5 w6) (hg:w0.heap.size<=g) (hK:∀ k,K k->k < w.heap.size/\k ∉ [g]):BK K w0 w w6:=
 ⟨frB h.be hF hg (Nat.le_refl _),fun k hk=>(hF.block k (Nat.lt_of_lt_of_le (hK k hk).1 h.sz) (hK k hk).2).trans (h.ke k hk),Nat.le_trans h.sz hF.size⟩
theorem keptQ_any {K:Nat->Prop} {w0 w:World} {p:Pg} {ao qo vo tto uo oo:Option Addr} {ac qc vc tc uc oc g gq cq gv cv gt ct gu cu go co:Nat} (h:RdG w0 p ao qo vo tto uo oo) (hb:Below w0.heap.size w0 w) (hL:Ls w w0.heap.size (lentOs p g gq cq gv cv gt ct gu cu go co)) (h0:p.rows.length<=2932031007300) (h2:p.qs.length<=1000) (h3:p.vs.length<=1000) (h4:p.ts.length<=1000) (h5:p.us.length<=1000) (h6:p.on.length<=1000) (hK:∀ k,K k->k < w.heap.size/\k ≠ g/\k ≠ gq/\k ≠ gv/\k ≠ gt/\k ≠ gu/\k ≠ go):
  Calls Tryz.prog 13 #[lentV p g gq cq gv cv gt ct gu cu go co,pvG p ao qo vo tto uo oo ac qc vc tc uc oc] w fun e w'=>e=.returned (.bool true)/\Below w0.heap.size w0 w'/\∀ k,K k->w'.heap[k]?=w.heap[k]?:=by
 have HKK:=show Hid _ from hK
 dsimp only [pvG,lentV]
 have HNe:=show Hid _ from lent_ne hL
 have HLt:=show Hid _ from lent_lt hL
 have HD:Hid (RdG w0 p ao qo vo tto uo oo):=h
 have HSz:Hid (p.rows.length<=2932031007300/\p.qs.length<=1000/\p.vs.length<=1000/\p.ts.length<=1000/\p.us.length<=1000/\p.on.length<=1000):=⟨h0,h2,h3,h4,h5,h6⟩
 have hb1:Below w.heap.size w ((w.alloc (.cells #[.string p.name,.slice (some ⟨g,0,none⟩) p.rows.length (p.rows.length+9),.slice (some ⟨gq,0,none⟩) p.qs.length cq,.slice (some ⟨gv,0,none⟩) p.vs.length cv,.slice (some ⟨gt,0,none⟩) p.ts.length ct,.slice (some ⟨gu,0,none⟩) p.us.length cu,.slice (some ⟨go,0,none⟩) p.on.length co,.int .i64 p.miss] 27)).alloc (.cells #[.string p.name,.slice ao p.rows.length ac,.slice qo p.qs.length qc,.slice vo p.vs.length vc,.slice tto p.ts.length tc,.slice uo p.us.length uc,.slice oo p.on.length oc,.int .i64 p.miss] 27)):=((Below.refl _ w).alloc (Nat.le_refl _) _).alloc (by simp) _
 have hwA:∀ (i:Nat) (hi:i < (lentOs p g gq cq gv cv gt ct gu cu go co).length),((w.alloc (.cells #[.string p.name,.slice (some ⟨g,0,none⟩) p.rows.length (p.rows.length+9),.slice (some ⟨gq,0,none⟩) p.qs.length cq,.slice (some ⟨gv,0,none⟩) p.vs.length cv,.slice (some ⟨gt,0,none⟩) p.ts.length ct,.slice (some ⟨gu,0,none⟩) p.us.length cu,.slice (some ⟨go,0,none⟩) p.on.length co,.int .i64 p.miss] 27)).alloc (.cells #[.string p.name,.slice ao p.rows.length ac,.slice qo p.qs.length qc,.slice vo p.vs.length vc,.slice tto p.ts.length tc,.slice uo p.us.length uc,.slice oo p.on.length oc,.int .i64 p.miss] 27)).ownsRow w0.heap.size ((lentOs p g gq cq gv cv gt ct gu cu go co)[i]).T ((lentOs p g gq cq gv cv gt ct gu cu go co)[i]).sz ((lentOs p g gq cq gv cv gt ct gu cu go co)[i]).v ((lentOs p g gq cq gv cv gt ct gu cu go co)[i]).n ((lentOs p g gq cq gv cv gt ct gu cu go co)[i]).xs:=fun i hi=>own_below (hL.own _ (List.getElem_mem hi)) hb1
 have HS0:Hid (((w.alloc (.cells #[.string p.name,.slice (some ⟨g,0,none⟩) p.rows.length (p.rows.length+9),.slice (some ⟨gq,0,none⟩) p.qs.length cq,.slice (some ⟨gv,0,none⟩) p.vs.length cv,.slice (some ⟨gt,0,none⟩) p.ts.length ct,.slice (some ⟨gu,0,none⟩) p.us.length cu,.slice (some ⟨go,0,none⟩) p.on.length co,.int .i64 p.miss] 27)).alloc (.cells #[.string p.name,.slice ao p.rows.length ac,.slice qo p.qs.length qc,.slice vo p.vs.length vc,.slice tto p.ts.length tc,.slice uo p.us.length uc,.slice oo p.on.length oc,.int .i64 p.miss] 27)).heap[w.heap.size]?=some (.cells #[.string p.name,.slice (some ⟨g,0,none⟩) p.rows.length (p.rows.length+9),.slice (some ⟨gq,0,none⟩) p.qs.length cq,.slice (some ⟨gv,0,none⟩) p.vs.length cv,.slice (some ⟨gt,0,none⟩) p.ts.length ct,.slice (some ⟨gu,0,none⟩) p.us.length cu,.slice (some ⟨go,0,none⟩) p.on.length co,.int .i64 p.miss] 27 (0,0))/\((w.alloc (.cells #[.string p.name,.slice (some ⟨g,0,none⟩) p.rows.length (p.rows.length+9),.slice (some ⟨gq,0,none⟩) p.qs.length cq,.slice (some ⟨gv,0,none⟩) p.vs.length cv,.slice (some ⟨gt,0,none⟩) p.ts.length ct,.slice (some ⟨gu,0,none⟩) p.us.length cu,.slice (some ⟨go,0,none⟩) p.on.length co,.int .i64 p.miss] 27)).alloc (.cells #[.string p.name,.slice ao p.rows.length ac,.slice qo p.qs.length qc,.slice vo p.vs.length vc,.slice tto p.ts.length tc,.slice uo p.us.length uc,.slice oo p.on.length oc,.int .i64 p.miss] 27)).heap[w.heap.size+1]?=some (.cells #[.string p.name,.slice ao p.rows.length ac,.slice qo p.qs.length qc,.slice vo p.vs.length vc,.slice tto p.ts.length tc,.slice uo p.us.length uc,.slice oo p.on.length oc,.int .i64 p.miss] 27 (0,0))/\BK K w0 w ((w.alloc (.cells #[.string p.name,.slice (some ⟨g,0,none⟩) p.rows.length (p.rows.length+9),.slice (some ⟨gq,0,none⟩) p.qs.length cq,.slice (some ⟨gv,0,none⟩) p.vs.length cv,.slice (some ⟨gt,0,none⟩) p.ts.length ct,.slice (some ⟨gu,0,none⟩) p.us.length cu,.slice (some ⟨go,0,none⟩) p.on.length co,.int .i64 p.miss] 27)).alloc (.cells #[.string p.name,.slice ao p.rows.length ac,.slice qo p.qs.length qc,.slice vo p.vs.length vc,.slice tto p.ts.length tc,.slice uo p.us.length uc,.slice oo p.on.length oc,.int .i64 p.miss] 27))/\((w.alloc (.cells #[.string p.name,.slice (some ⟨g,0,none⟩) p.rows.length (p.rows.length+9),.slice (some ⟨gq,0,none⟩) p.qs.length cq,.slice (some ⟨gv,0,none⟩) p.vs.length cv,.slice (some ⟨gt,0,none⟩) p.ts.length ct,.slice (some ⟨gu,0,none⟩) p.us.length cu,.slice (some ⟨go,0,none⟩) p.on.length co,.int .i64 p.miss] 27)).alloc (.cells #[.string p.name,.slice ao p.rows.length ac,.slice qo p.qs.length qc,.slice vo p.vs.length vc,.slice tto p.ts.length tc,.slice uo p.us.length uc,.slice oo p.on.length oc,.int .i64 p.miss] 27)).ownsRow w0.heap.size 57 5 (.slice (some ⟨g,0,none⟩) (p.rows.length+9) (p.rows.length+9)) (p.rows.length+9) ((fillL p.rows 9).flatMap rz5)/\((w.alloc (.cells #[.string p.name,.slice (some ⟨g,0,none⟩) p.rows.length (p.rows.length+9),.slice (some ⟨gq,0,none⟩) p.qs.length cq,.slice (some ⟨gv,0,none⟩) p.vs.length cv,.slice (some ⟨gt,0,none⟩) p.ts.length ct,.slice (some ⟨gu,0,none⟩) p.us.length cu,.slice (some ⟨go,0,none⟩) p.on.length co,.int .i64 p.miss] 27)).alloc (.cells #[.string p.name,.slice ao p.rows.length ac,.slice qo p.qs.length qc,.slice vo p.vs.length vc,.slice tto p.ts.length tc,.slice uo p.us.length uc,.slice oo p.on.length oc,.int .i64 p.miss] 27)).ownsRow w0.heap.size 61 2 (.slice (some ⟨gq,0,none⟩) (p.qs.length+1) cq) (p.qs.length+1) (qF p.qs++[.string ⟨#[108,101,110,116]⟩,.bool false])/\((w.alloc (.cells #[.string p.name,.slice (some ⟨g,0,none⟩) p.rows.length (p.rows.length+9),.slice (some ⟨gq,0,none⟩) p.qs.length cq,.slice (some ⟨gv,0,none⟩) p.vs.length cv,.slice (some ⟨gt,0,none⟩) p.ts.length ct,.slice (some ⟨gu,0,none⟩) p.us.length cu,.slice (some ⟨go,0,none⟩) p.on.length co,.int .i64 p.miss] 27)).alloc (.cells #[.string p.name,.slice ao p.rows.length ac,.slice qo p.qs.length qc,.slice vo p.vs.length vc,.slice tto p.ts.length tc,.slice uo p.us.length uc,.slice oo p.on.length oc,.int .i64 p.miss] 27)).ownsRow w0.heap.size 9 1 (.slice (some ⟨gv,0,none⟩) (p.vs.length+1) cv) (p.vs.length+1) (p.vs.map Value.string++[.string ⟨#[108,101,110,116]⟩])/\((w.alloc (.cells #[.string p.name,.slice (some ⟨g,0,none⟩) p.rows.length (p.rows.length+9),.slice (some ⟨gq,0,none⟩) p.qs.length cq,.slice (some ⟨gv,0,none⟩) p.vs.length cv,.slice (some ⟨gt,0,none⟩) p.ts.length ct,.slice (some ⟨gu,0,none⟩) p.us.length cu,.slice (some ⟨go,0,none⟩) p.on.length co,.int .i64 p.miss] 27)).alloc (.cells #[.string p.name,.slice ao p.rows.length ac,.slice qo p.qs.length qc,.slice vo p.vs.length vc,.slice tto p.ts.length tc,.slice uo p.us.length uc,.slice oo p.on.length oc,.int .i64 p.miss] 27)).ownsRow w0.heap.size 9 1 (.slice (some ⟨gt,0,none⟩) (p.ts.length+1) ct) (p.ts.length+1) (p.ts.map Value.string++[.string ⟨#[108,101,110,116]⟩])/\((w.alloc (.cells #[.string p.name,.slice (some ⟨g,0,none⟩) p.rows.length (p.rows.length+9),.slice (some ⟨gq,0,none⟩) p.qs.length cq,.slice (some ⟨gv,0,none⟩) p.vs.length cv,.slice (some ⟨gt,0,none⟩) p.ts.length ct,.slice (some ⟨gu,0,none⟩) p.us.length cu,.slice (some ⟨go,0,none⟩) p.on.length co,.int .i64 p.miss] 27)).alloc (.cells #[.string p.name,.slice ao p.rows.length ac,.slice qo p.qs.length qc,.slice vo p.vs.length vc,.slice tto p.ts.length tc,.slice uo p.us.length uc,.slice oo p.on.length oc,.int .i64 p.miss] 27)).ownsRow w0.heap.size 3 1 (.slice (some ⟨gu,0,none⟩) (p.us.length+1) cu) (p.us.length+1) (iv p.us++[.int .i64 (-77)])/\((w.alloc (.cells #[.string p.name,.slice (some ⟨g,0,none⟩) p.rows.length (p.rows.length+9),.slice (some ⟨gq,0,none⟩) p.qs.length cq,.slice (some ⟨gv,0,none⟩) p.vs.length cv,.slice (some ⟨gt,0,none⟩) p.ts.length ct,.slice (some ⟨gu,0,none⟩) p.us.length cu,.slice (some ⟨go,0,none⟩) p.on.length co,.int .i64 p.miss] 27)).alloc (.cells #[.string p.name,.slice ao p.rows.length ac,.slice qo p.qs.length qc,.slice vo p.vs.length vc,.slice tto p.ts.length tc,.slice uo p.us.length uc,.slice oo p.on.length oc,.int .i64 p.miss] 27)).ownsRow w0.heap.size 3 1 (.slice (some ⟨go,0,none⟩) (p.on.length+1) co) (p.on.length+1) (iv p.on++[.int .i64 (-77)])):=⟨by rw [alloc_old _ _ _ (by simp)];exact alloc_at _ _ _ rfl,alloc_at _ _ _ (by simp),⟨hb.trans (hb1.mono hb.size),fun k hk=>hb1.block k (HKK.out k hk).1,hb1.size⟩,hwA 0 (by simp),hwA 1 (by simp),hwA 2 (by simp),hwA 3 (by simp),hwA 4 (by simp),hwA 5 (by simp)⟩
 have hq1:(p.qs.length:Int)<=1000:=by omega
 have hv1:(p.vs.length:Int)<=1000:=by omega
 have ht1:(p.ts.length:Int)<=1000:=by omega
 clear h hb hL h0 h2 h3 h4 h5 h6 hb1 hwA hK
 have HRd:Hid (RdG ((w.alloc (.cells #[.string p.name,.slice (some ⟨g,0,none⟩) p.rows.length (p.rows.length+9),.slice (some ⟨gq,0,none⟩) p.qs.length cq,.slice (some ⟨gv,0,none⟩) p.vs.length cv,.slice (some ⟨gt,0,none⟩) p.ts.length ct,.slice (some ⟨gu,0,none⟩) p.us.length cu,.slice (some ⟨go,0,none⟩) p.on.length co,.int .i64 p.miss] 27)).alloc (.cells #[.string p.name,.slice ao p.rows.length ac,.slice qo p.qs.length qc,.slice vo p.vs.length vc,.slice tto p.ts.length tc,.slice uo p.us.length uc,.slice oo p.on.length oc,.int .i64 p.miss] 27)) p (some ⟨g,0,none⟩) (some ⟨gq,0,none⟩) (some ⟨gv,0,none⟩) (some ⟨gt,0,none⟩) (some ⟨gu,0,none⟩) (some ⟨go,0,none⟩)):=⟨RowZ.reads (l':=(List.range 9).map (fun j=>mkL (p.rows.length+j))++List.replicate (9 - 9) rz0) (rowz_own (l:=fillL p.rows 9) HS0.out.2.2.2.1),vals_front (vals_of HS0.out.2.2.2.2.1),vals_front (vals_of HS0.out.2.2.2.2.2.1),vals_front (vals_of HS0.out.2.2.2.2.2.2.1),vals_front (vals_of HS0.out.2.2.2.2.2.2.2.1),vals_front (vals_of HS0.out.2.2.2.2.2.2.2.2)⟩
 have HSm:=show Hid _ from rsame_any (ac:=p.rows.length+9) (qc:=cq) (vc:=cv) (tc:=ct) (uc:=cu) (oc:=co) (ac2:=ac) (qc2:=qc) (vc2:=vc) (tc2:=tc) (uc2:=uc) (oc2:=oc) HRd.out (HD.out.below HS0.out.2.2.1.be) ⟨by have:=HSz.out.1;omega,by have:=HSz.out.2.1;omega,by have:=HSz.out.2.2.1;omega,by have:=HSz.out.2.2.2.1;omega,by have:=HSz.out.2.2.2.2.1;omega,by have:=HSz.out.2.2.2.2.2;omega⟩
 dsimp only [pvG] at HSm
 obtain ⟨a0,a1,a2,a3,a4,a5,a6,a7⟩:=pol8 HS0.out.1
 obtain ⟨b0,b1,b2,b3,b4,b5,b6,b7⟩:=pol8 HS0.out.2.1
 go_enter Tryz.func13,Tryz.ntmps13
 go_wp2_with fail
 generalize ((w.alloc (.cells #[.string p.name,.slice (some ⟨g,0,none⟩) p.rows.length (p.rows.length+9),.slice (some ⟨gq,0,none⟩) p.qs.length cq,.slice (some ⟨gv,0,none⟩) p.vs.length cv,.slice (some ⟨gt,0,none⟩) p.ts.length ct,.slice (some ⟨gu,0,none⟩) p.us.length cu,.slice (some ⟨go,0,none⟩) p.on.length co,.int .i64 p.miss] 27)).alloc (.cells #[.string p.name,.slice ao p.rows.length ac,.slice qo p.qs.length qc,.slice vo p.vs.length vc,.slice tto p.ts.length tc,.slice uo p.us.length uc,.slice oo p.on.length oc,.int .i64 p.miss] 27))=w1 at *
 refine Calls.mono HSm.out ?_
 rintro e w3 ⟨⟨b,rfl,hbt⟩,hb3⟩
 obtain rfl:b=true:=by simpa using hbt
 have HS:Hid (w3.heap[w.heap.size]?=some (.cells #[.string p.name,.slice (some ⟨g,0,none⟩) p.rows.length (p.rows.length+9),.slice (some ⟨gq,0,none⟩) p.qs.length cq,.slice (some ⟨gv,0,none⟩) p.vs.length cv,.slice (some ⟨gt,0,none⟩) p.ts.length ct,.slice (some ⟨gu,0,none⟩) p.us.length cu,.slice (some ⟨go,0,none⟩) p.on.length co,.int .i64 p.miss] 27 (0,0))/\w3.heap[w.heap.size+1]?=some (.cells #[.string p.name,.slice ao p.rows.length ac,.slice qo p.qs.length qc,.slice vo p.vs.length vc,.slice tto p.ts.length tc,.slice uo p.us.length uc,.slice oo p.on.length oc,.int .i64 p.miss] 27 (0,0))/\BK K w0 w w3/\w3.ownsRow w0.heap.size 57 5 (.slice (some ⟨g,0,none⟩) (p.rows.length+9) (p.rows.length+9)) (p.rows.length+9) ((fillL p.rows 9).flatMap rz5)/\w3.ownsRow w0.heap.size 61 2 (.slice (some ⟨gq,0,none⟩) (p.qs.length+1) cq) (p.qs.length+1) (qF p.qs++[.string ⟨#[108,101,110,116]⟩,.bool false])/\w3.ownsRow w0.heap.size 9 1 (.slice (some ⟨gv,0,none⟩) (p.vs.length+1) cv) (p.vs.length+1) (p.vs.map Value.string++[.string ⟨#[108,101,110,116]⟩])/\w3.ownsRow w0.heap.size 9 1 (.slice (some ⟨gt,0,none⟩) (p.ts.length+1) ct) (p.ts.length+1) (p.ts.map Value.string++[.string ⟨#[108,101,110,116]⟩])/\w3.ownsRow w0.heap.size 3 1 (.slice (some ⟨gu,0,none⟩) (p.us.length+1) cu) (p.us.length+1) (iv p.us++[.int .i64 (-77)])/\w3.ownsRow w0.heap.size 3 1 (.slice (some ⟨go,0,none⟩) (p.on.length+1) co) (p.on.length+1) (iv p.on++[.int .i64 (-77)])):=⟨(hb3.block _ (blk_lt HS0.out.1)).trans HS0.out.1,(hb3.block _ (blk_lt HS0.out.2.1)).trans HS0.out.2.1,HS0.out.2.2.1.below (fun k hk=>(HKK.out k hk).1) hb3,own_below HS0.out.2.2.2.1 hb3,own_below HS0.out.2.2.2.2.1 hb3,own_below HS0.out.2.2.2.2.2.1 hb3,own_below HS0.out.2.2.2.2.2.2.1 hb3,own_below HS0.out.2.2.2.2.2.2.2.1 hb3,own_below HS0.out.2.2.2.2.2.2.2.2 hb3⟩
 clear hbt hb3 HSm HRd HS0 a0 a1 a2 a3 a4 a5 a6 a7 b0 b1 b2 b3 b4 b5 b6 b7
 obtain ⟨a0,a1,a2,a3,a4,a5,a6,a7⟩:=pol8 HS.out.1
 obtain ⟨b0,b1,b2,b3,b4,b5,b6,b7⟩:=pol8 HS.out.2.1
 obtain ⟨_,_,_,cp2,cm2⟩:=own_cells HS.out.2.2.2.2.1
 obtain ⟨_,_,_,cp3,cm3⟩:=own_cells HS.out.2.2.2.2.2.1
 obtain ⟨_,_,_,cp4,cm4⟩:=own_cells HS.out.2.2.2.2.2.2.1
 have e2:(p.qs.length:Int)+1<=(cq:Int):=by omega
 have e3:(p.vs.length:Int)+1<=(cv:Int):=by omega
 have e4:(p.ts.length:Int)+1<=(ct:Int):=by omega
 unfold maxLen at cm2 cm3 cm4
 have f2:(cq:Int)<=9223372036854775807:=by omega
 have f3:(cv:Int)<=9223372036854775807:=by omega
 have f4:(ct:Int)<=9223372036854775807:=by omega
 have k2:w3.cell? ⟨gq,p.qs.length * 2,none⟩=some (.string ⟨#[108,101,110,116]⟩):=by
  obtain ⟨g',o',e',_,hc⟩:=vals_of HS.out.2.2.2.2.1 (p.qs.length * 2) (.string ⟨#[108,101,110,116]⟩) (by rw [List.getElem?_append_right (by rw [qF_len];omega),qF_len,Nat.sub_self];rfl)
  cases e'
  rw [Nat.zero_add] at hc
  exact hc
 have k3:w3.cell? ⟨gv,p.vs.length,none⟩=some (.string ⟨#[108,101,110,116]⟩):=by
  obtain ⟨g',o',e',_,hc⟩:=vals_of HS.out.2.2.2.2.2.1 p.vs.length (.string ⟨#[108,101,110,116]⟩) (by rw [List.getElem?_append_right (by simp)];simp)
  cases e'
  rw [Nat.zero_add] at hc
  exact hc
 have k4:w3.cell? ⟨gt,p.ts.length,none⟩=some (.string ⟨#[108,101,110,116]⟩):=by
  obtain ⟨g',o',e',_,hc⟩:=vals_of HS.out.2.2.2.2.2.2.1 p.ts.length (.string ⟨#[108,101,110,116]⟩) (by rw [List.getElem?_append_right (by simp)];simp)
  cases e'
  rw [Nat.zero_add] at hc
  exact hc
 clear cm2 cm3 cm4
 go_wp2_with fail
 go_quiet (fail)
 go_wp2_with fail
 clear k2 k3 k4 a0 a1 a2 a3 a4 a5 a6 a7 b0 b1 b2 b3 b4 b5 b6 b7 cp2 cp3 cp4 e2 e3 e4 f2 f3 f4
 have hbd:Below w3.heap.size w3 (w3.drewN nq):=below_drewN _ _
 have HS1:Hid ((w3.drewN nq).heap[w.heap.size]?=some (.cells #[.string p.name,.slice (some ⟨g,0,none⟩) p.rows.length (p.rows.length+9),.slice (some ⟨gq,0,none⟩) p.qs.length cq,.slice (some ⟨gv,0,none⟩) p.vs.length cv,.slice (some ⟨gt,0,none⟩) p.ts.length ct,.slice (some ⟨gu,0,none⟩) p.us.length cu,.slice (some ⟨go,0,none⟩) p.on.length co,.int .i64 p.miss] 27 (0,0))/\(w3.drewN nq).heap[w.heap.size+1]?=some (.cells #[.string p.name,.slice ao p.rows.length ac,.slice qo p.qs.length qc,.slice vo p.vs.length vc,.slice tto p.ts.length tc,.slice uo p.us.length uc,.slice oo p.on.length oc,.int .i64 p.miss] 27 (0,0))/\BK K w0 w (w3.drewN nq)/\(w3.drewN nq).ownsRow w0.heap.size 57 5 (.slice (some ⟨g,0,none⟩) (p.rows.length+9) (p.rows.length+9)) (p.rows.length+9) ((fillL p.rows 9).flatMap rz5)/\(w3.drewN nq).ownsRow w0.heap.size 61 2 (.slice (some ⟨gq,0,none⟩) (p.qs.length+1) cq) (p.qs.length+1) (qF p.qs++[.string ⟨#[108,101,110,116]⟩,.bool false])/\(w3.drewN nq).ownsRow w0.heap.size 9 1 (.slice (some ⟨gv,0,none⟩) (p.vs.length+1) cv) (p.vs.length+1) (p.vs.map Value.string++[.string ⟨#[108,101,110,116]⟩])/\(w3.drewN nq).ownsRow w0.heap.size 9 1 (.slice (some ⟨gt,0,none⟩) (p.ts.length+1) ct) (p.ts.length+1) (p.ts.map Value.string++[.string ⟨#[108,101,110,116]⟩])/\(w3.drewN nq).ownsRow w0.heap.size 3 1 (.slice (some ⟨gu,0,none⟩) (p.us.length+1) cu) (p.us.length+1) (iv p.us++[.int .i64 (-77)])/\(w3.drewN nq).ownsRow w0.heap.size 3 1 (.slice (some ⟨go,0,none⟩) (p.on.length+1) co) (p.on.length+1) (iv p.on++[.int .i64 (-77)])):=⟨(hbd.block _ (blk_lt HS.out.1)).trans HS.out.1,(hbd.block _ (blk_lt HS.out.2.1)).trans HS.out.2.1,HS.out.2.2.1.below (fun k hk=>(HKK.out k hk).1) hbd,own_below HS.out.2.2.2.1 hbd,own_below HS.out.2.2.2.2.1 hbd,own_below HS.out.2.2.2.2.2.1 hbd,own_below HS.out.2.2.2.2.2.2.1 hbd,own_below HS.out.2.2.2.2.2.2.2.1 hbd,own_below HS.out.2.2.2.2.2.2.2.2 hbd⟩
 clear hbd
 generalize (w3.drewN nq)=W1 at *
 obtain ⟨curq,hcurq,hszq,hcpq,_⟩:=own_cells HS1.out.2.2.2.2.1
 have HCq:Hid (W1.heap[gq]?=some (.cells curq 61 (0,0))/\curq.size=cq * 2/\p.qs.length+1<=cq):=⟨hcurq,hszq,hcpq⟩
 have hcBq:(p.qs.length:Int)<=(cq:Int):=by omega
 clear hcurq hszq hcpq
 go_loopg [6] p.qs.length (fun gq' x' wr=>∃ (k:Nat) (cA:Array Value),k+gq'=p.qs.length/\x'=.int .i64 (k:Int)/\wr.heap[gq]?=some (.cells cA 61 (0,0))/\cA.size=cq * 2/\Fr [gq] W1 wr)
 case atStart=>exact ⟨0,curq,by omega,rfl,HCq.out.1,HCq.out.2.1,Fr.refl _ _⟩
 case round=>
  obtain ⟨k,cA,hkg,rfl,hcu,hsz,hFr⟩:=hrel
  have HG:Hid (k+gk=p.qs.length/\wr.heap[gq]?=some (.cells cA 61 (0,0))/\cA.size=cq * 2/\Fr [gq] W1 wr):=⟨hkg,hcu,hsz,hFr⟩
  have hbx:wr.heap[w.heap.size]?=some (.cells #[.string p.name,.slice (some ⟨g,0,none⟩) p.rows.length (p.rows.length+9),.slice (some ⟨gq,0,none⟩) p.qs.length cq,.slice (some ⟨gv,0,none⟩) p.vs.length cv,.slice (some ⟨gt,0,none⟩) p.ts.length ct,.slice (some ⟨gu,0,none⟩) p.us.length cu,.slice (some ⟨go,0,none⟩) p.on.length co,.int .i64 p.miss] 27 (0,0)):=(hFr.block _ (blk_lt HS1.out.1) (by have:=HLt.out.2.1.1;simp;omega)).trans HS1.out.1
  have hb2:wr.cell? ⟨w.heap.size,2,none⟩=some (.slice (some ⟨gq,0,none⟩) p.qs.length cq):=by rw [World.cell?,hbx];rfl
  have hcpn:=HCq.out.2.2
  clear hbx
  by_cases hlt:k < p.qs.length
  ·have hk':(k:Int) < (p.qs.length:Int):=by omega
   have hk1:(k:Int)<=1000:=by omega
   have hce0:∃ old,wr.cell? ⟨gq,k * 2,none⟩=some old:=⟨_,cell_in hcu (j:=k * 2) (by omega)⟩
   obtain ⟨old0,hce0⟩:=hce0
   have hfz0:wr.frozen? ⟨gq,k * 2,none⟩=false:=by simp [World.frozen?,hcu]
   have hce1:∃ old,wr.cell? ⟨gq,k * 2+1,none⟩=some old:=⟨_,cell_in hcu (j:=k * 2+1) (by omega)⟩
   obtain ⟨old1,hce1⟩:=hce1
   have hfz1:wr.frozen? ⟨gq,k * 2+1,none⟩=false:=by simp [World.frozen?,hcu]
   have HS2:Hid (((wr.setCell ⟨gq,k * 2,none⟩ (.string ⟨#[115,112,111,105,108,116]⟩)).setCell ⟨gq,k * 2+1,none⟩ (.bool false)).heap[gq]?=some (.cells ((cA.setIfInBounds (k * 2) (.string ⟨#[115,112,111,105,108,116]⟩)).setIfInBounds (k * 2+1) (.bool false)) 61 (0,0))/\Fr [gq] W1 ((wr.setCell ⟨gq,k * 2,none⟩ (.string ⟨#[115,112,111,105,108,116]⟩)).setCell ⟨gq,k * 2+1,none⟩ (.bool false))):=⟨set_in (set_in hcu _) _,(fr_set (fr_set hFr _ _) _ _)⟩
   have HLk:Hid (k < p.qs.length):=hlt
   clear hkg hcu hsz hFr hlt hcpn
   go_wp2_with fail
   go_roundg (p.qs.length - (k+1))
   case measure=>have:=HG.out.1;have:=HLk.out;omega
   case rel=>exact ⟨k+1,_,by have:=HLk.out;omega,by go_num,HS2.out.1,by simpa using HG.out.2.2.1,HS2.out.2⟩
  ·have hk':decide (k < p.qs.length)=false:=decide_eq_false hlt
   have hk2:decide ((k:Int) < (p.qs.length:Int))=false:=decide_eq_false (by omega)
   have HS2:Hid (wr.heap[w.heap.size]?=some (.cells #[.string p.name,.slice (some ⟨g,0,none⟩) p.rows.length (p.rows.length+9),.slice (some ⟨gq,0,none⟩) p.qs.length cq,.slice (some ⟨gv,0,none⟩) p.vs.length cv,.slice (some ⟨gt,0,none⟩) p.ts.length ct,.slice (some ⟨gu,0,none⟩) p.us.length cu,.slice (some ⟨go,0,none⟩) p.on.length co,.int .i64 p.miss] 27 (0,0))/\wr.heap[w.heap.size+1]?=some (.cells #[.string p.name,.slice ao p.rows.length ac,.slice qo p.qs.length qc,.slice vo p.vs.length vc,.slice tto p.ts.length tc,.slice uo p.us.length uc,.slice oo p.on.length oc,.int .i64 p.miss] 27 (0,0))/\BK K w0 w wr/\wr.ownsRow w0.heap.size 57 5 (.slice (some ⟨g,0,none⟩) (p.rows.length+9) (p.rows.length+9)) (p.rows.length+9) ((fillL p.rows 9).flatMap rz5)/\wr.ownsRow w0.heap.size 9 1 (.slice (some ⟨gv,0,none⟩) (p.vs.length+1) cv) (p.vs.length+1) (p.vs.map Value.string++[.string ⟨#[108,101,110,116]⟩])/\wr.ownsRow w0.heap.size 9 1 (.slice (some ⟨gt,0,none⟩) (p.ts.length+1) ct) (p.ts.length+1) (p.ts.map Value.string++[.string ⟨#[108,101,110,116]⟩])/\wr.ownsRow w0.heap.size 3 1 (.slice (some ⟨gu,0,none⟩) (p.us.length+1) cu) (p.us.length+1) (iv p.us++[.int .i64 (-77)])/\wr.ownsRow w0.heap.size 3 1 (.slice (some ⟨go,0,none⟩) (p.on.length+1) co) (p.on.length+1) (iv p.on++[.int .i64 (-77)])):=by
    have st0:=(HG.out.2.2.2.block _ (blk_lt HS1.out.1) (by have:=HLt.out.2.1.1;simp;omega)).trans HS1.out.1
    have st1:=(HG.out.2.2.2.block _ (blk_lt HS1.out.2.1) (by have:=HLt.out.2.1.1;simp;omega)).trans HS1.out.2.1
    have st2:=frBK HS1.out.2.2.1 HG.out.2.2.2 HLt.out.2.1.2 (fun k hk=>by have:=HKK.out k hk;exact ⟨this.1,by simp;omega⟩)
    have str:wr.ownsRow w0.heap.size 57 5 (.slice (some ⟨g,0,none⟩) (p.rows.length+9) (p.rows.length+9)) (p.rows.length+9) ((fillL p.rows 9).flatMap rz5):=own_other HS1.out.2.2.2.1 HG.out.2.2.2 HNe.out.1
    have stv:wr.ownsRow w0.heap.size 9 1 (.slice (some ⟨gv,0,none⟩) (p.vs.length+1) cv) (p.vs.length+1) (p.vs.map Value.string++[.string ⟨#[108,101,110,116]⟩]):=own_other HS1.out.2.2.2.2.2.1 HG.out.2.2.2 HNe.out.2.2.2.2.2.1.symm
    have stt:wr.ownsRow w0.heap.size 9 1 (.slice (some ⟨gt,0,none⟩) (p.ts.length+1) ct) (p.ts.length+1) (p.ts.map Value.string++[.string ⟨#[108,101,110,116]⟩]):=own_other HS1.out.2.2.2.2.2.2.1 HG.out.2.2.2 HNe.out.2.2.2.2.2.2.1.symm
    have stu:wr.ownsRow w0.heap.size 3 1 (.slice (some ⟨gu,0,none⟩) (p.us.length+1) cu) (p.us.length+1) (iv p.us++[.int .i64 (-77)]):=own_other HS1.out.2.2.2.2.2.2.2.1 HG.out.2.2.2 HNe.out.2.2.2.2.2.2.2.1.symm
    have sto:wr.ownsRow w0.heap.size 3 1 (.slice (some ⟨go,0,none⟩) (p.on.length+1) co) (p.on.length+1) (iv p.on++[.int .i64 (-77)]):=own_other HS1.out.2.2.2.2.2.2.2.2 HG.out.2.2.2 HNe.out.2.2.2.2.2.2.2.2.1.symm
    exact ⟨st0,st1,st2,str,stv,stt,stu,sto⟩
   clear hkg hcu hsz hFr hlt hcpn
   go_wp2_with fail
   clear hb2
   obtain ⟨W2,rfl⟩:∃ W2,W2=wr:=⟨_,rfl⟩
   obtain ⟨curv,hcurv,hszv,hcpv,_⟩:=own_cells HS2.out.2.2.2.2.1
   have HCv:Hid (W2.heap[gv]?=some (.cells curv 9 (0,0))/\curv.size=cv * 1/\p.vs.length+1<=cv):=⟨hcurv,hszv,hcpv⟩
   have hcBv:(p.vs.length:Int)<=(cv:Int):=by omega
   clear hcurv hszv hcpv
   go_loopg [7] p.vs.length (fun gq' x' wr=>∃ (k:Nat) (cA:Array Value),k+gq'=p.vs.length/\x'=.int .i64 (k:Int)/\wr.heap[gv]?=some (.cells cA 9 (0,0))/\cA.size=cv * 1/\Fr [gv] W2 wr)
   case atStart=>exact ⟨0,curv,by omega,rfl,HCv.out.1,HCv.out.2.1,Fr.refl _ _⟩
   case round=>
    obtain ⟨k,cA,hkg,rfl,hcu,hsz,hFr⟩:=hrel
    have HG:Hid (k+gk=p.vs.length/\wr.heap[gv]?=some (.cells cA 9 (0,0))/\cA.size=cv * 1/\Fr [gv] W2 wr):=⟨hkg,hcu,hsz,hFr⟩
    have hbx:wr.heap[w.heap.size]?=some (.cells #[.string p.name,.slice (some ⟨g,0,none⟩) p.rows.length (p.rows.length+9),.slice (some ⟨gq,0,none⟩) p.qs.length cq,.slice (some ⟨gv,0,none⟩) p.vs.length cv,.slice (some ⟨gt,0,none⟩) p.ts.length ct,.slice (some ⟨gu,0,none⟩) p.us.length cu,.slice (some ⟨go,0,none⟩) p.on.length co,.int .i64 p.miss] 27 (0,0)):=(hFr.block _ (blk_lt HS2.out.1) (by have:=HLt.out.2.2.1.1;simp;omega)).trans HS2.out.1
    have hb3:wr.cell? ⟨w.heap.size,3,none⟩=some (.slice (some ⟨gv,0,none⟩) p.vs.length cv):=by rw [World.cell?,hbx];rfl
    have hcpn:=HCv.out.2.2
    clear hbx
    by_cases hlt:k < p.vs.length
    ·have hk':(k:Int) < (p.vs.length:Int):=by omega
     have hk1:(k:Int)<=1000:=by omega
     have hce0:∃ old,wr.cell? ⟨gv,k,none⟩=some old:=⟨_,cell_in hcu (j:=k) (by omega)⟩
     obtain ⟨old0,hce0⟩:=hce0
     have hfz0:wr.frozen? ⟨gv,k,none⟩=false:=by simp [World.frozen?,hcu]
     have HS2:Hid ((wr.setCell ⟨gv,k,none⟩ (.string ⟨#[115,112,111,105,108,116]⟩)).heap[gv]?=some (.cells (cA.setIfInBounds (k) (.string ⟨#[115,112,111,105,108,116]⟩)) 9 (0,0))/\Fr [gv] W2 (wr.setCell ⟨gv,k,none⟩ (.string ⟨#[115,112,111,105,108,116]⟩))):=⟨set_in hcu _,(fr_set hFr _ _)⟩
     have HLk:Hid (k < p.vs.length):=hlt
     clear hkg hcu hsz hFr hlt hcpn
     go_wp2_with fail
     go_roundg (p.vs.length - (k+1))
     case measure=>have:=HG.out.1;have:=HLk.out;omega
     case rel=>exact ⟨k+1,_,by have:=HLk.out;omega,by go_num,HS2.out.1,by simpa using HG.out.2.2.1,HS2.out.2⟩
    ·have hk':decide (k < p.vs.length)=false:=decide_eq_false hlt
     have hk2:decide ((k:Int) < (p.vs.length:Int))=false:=decide_eq_false (by omega)
     have HS3:Hid (wr.heap[w.heap.size]?=some (.cells #[.string p.name,.slice (some ⟨g,0,none⟩) p.rows.length (p.rows.length+9),.slice (some ⟨gq,0,none⟩) p.qs.length cq,.slice (some ⟨gv,0,none⟩) p.vs.length cv,.slice (some ⟨gt,0,none⟩) p.ts.length ct,.slice (some ⟨gu,0,none⟩) p.us.length cu,.slice (some ⟨go,0,none⟩) p.on.length co,.int .i64 p.miss] 27 (0,0))/\wr.heap[w.heap.size+1]?=some (.cells #[.string p.name,.slice ao p.rows.length ac,.slice qo p.qs.length qc,.slice vo p.vs.length vc,.slice tto p.ts.length tc,.slice uo p.us.length uc,.slice oo p.on.length oc,.int .i64 p.miss] 27 (0,0))/\BK K w0 w wr/\wr.ownsRow w0.heap.size 57 5 (.slice (some ⟨g,0,none⟩) (p.rows.length+9) (p.rows.length+9)) (p.rows.length+9) ((fillL p.rows 9).flatMap rz5)/\wr.ownsRow w0.heap.size 9 1 (.slice (some ⟨gt,0,none⟩) (p.ts.length+1) ct) (p.ts.length+1) (p.ts.map Value.string++[.string ⟨#[108,101,110,116]⟩])/\wr.ownsRow w0.heap.size 3 1 (.slice (some ⟨gu,0,none⟩) (p.us.length+1) cu) (p.us.length+1) (iv p.us++[.int .i64 (-77)])/\wr.ownsRow w0.heap.size 3 1 (.slice (some ⟨go,0,none⟩) (p.on.length+1) co) (p.on.length+1) (iv p.on++[.int .i64 (-77)])):=by
      have st0:=(HG.out.2.2.2.block _ (blk_lt HS2.out.1) (by have:=HLt.out.2.2.1.1;simp;omega)).trans HS2.out.1
      have st1:=(HG.out.2.2.2.block _ (blk_lt HS2.out.2.1) (by have:=HLt.out.2.2.1.1;simp;omega)).trans HS2.out.2.1
      have st2:=frBK HS2.out.2.2.1 HG.out.2.2.2 HLt.out.2.2.1.2 (fun k hk=>by have:=HKK.out k hk;exact ⟨this.1,by simp;omega⟩)
      have str:wr.ownsRow w0.heap.size 57 5 (.slice (some ⟨g,0,none⟩) (p.rows.length+9) (p.rows.length+9)) (p.rows.length+9) ((fillL p.rows 9).flatMap rz5):=own_other HS2.out.2.2.2.1 HG.out.2.2.2 HNe.out.2.1
      have stt:wr.ownsRow w0.heap.size 9 1 (.slice (some ⟨gt,0,none⟩) (p.ts.length+1) ct) (p.ts.length+1) (p.ts.map Value.string++[.string ⟨#[108,101,110,116]⟩]):=own_other HS2.out.2.2.2.2.2.1 HG.out.2.2.2 HNe.out.2.2.2.2.2.2.2.2.2.1.symm
      have stu:wr.ownsRow w0.heap.size 3 1 (.slice (some ⟨gu,0,none⟩) (p.us.length+1) cu) (p.us.length+1) (iv p.us++[.int .i64 (-77)]):=own_other HS2.out.2.2.2.2.2.2.1 HG.out.2.2.2 HNe.out.2.2.2.2.2.2.2.2.2.2.1.symm
      have sto:wr.ownsRow w0.heap.size 3 1 (.slice (some ⟨go,0,none⟩) (p.on.length+1) co) (p.on.length+1) (iv p.on++[.int .i64 (-77)]):=own_other HS2.out.2.2.2.2.2.2.2 HG.out.2.2.2 HNe.out.2.2.2.2.2.2.2.2.2.2.2.1.symm
      exact ⟨st0,st1,st2,str,stt,stu,sto⟩
     clear hkg hcu hsz hFr hlt hcpn
     go_wp2_with fail
     clear hb3
     obtain ⟨W3,rfl⟩:∃ W3,W3=wr:=⟨_,rfl⟩
     obtain ⟨curt,hcurt,hszt,hcpt,_⟩:=own_cells HS3.out.2.2.2.2.1
     have HCt:Hid (W3.heap[gt]?=some (.cells curt 9 (0,0))/\curt.size=ct * 1/\p.ts.length+1<=ct):=⟨hcurt,hszt,hcpt⟩
     have hcBt:(p.ts.length:Int)<=(ct:Int):=by omega
     clear hcurt hszt hcpt
     go_loopg [8] p.ts.length (fun gq' x' wr=>∃ (k:Nat) (cA:Array Value),k+gq'=p.ts.length/\x'=.int .i64 (k:Int)/\wr.heap[gt]?=some (.cells cA 9 (0,0))/\cA.size=ct * 1/\Fr [gt] W3 wr)
     case atStart=>exact ⟨0,curt,by omega,rfl,HCt.out.1,HCt.out.2.1,Fr.refl _ _⟩
     case round=>
      obtain ⟨k,cA,hkg,rfl,hcu,hsz,hFr⟩:=hrel
      have HG:Hid (k+gk=p.ts.length/\wr.heap[gt]?=some (.cells cA 9 (0,0))/\cA.size=ct * 1/\Fr [gt] W3 wr):=⟨hkg,hcu,hsz,hFr⟩
      have hbx:wr.heap[w.heap.size]?=some (.cells #[.string p.name,.slice (some ⟨g,0,none⟩) p.rows.length (p.rows.length+9),.slice (some ⟨gq,0,none⟩) p.qs.length cq,.slice (some ⟨gv,0,none⟩) p.vs.length cv,.slice (some ⟨gt,0,none⟩) p.ts.length ct,.slice (some ⟨gu,0,none⟩) p.us.length cu,.slice (some ⟨go,0,none⟩) p.on.length co,.int .i64 p.miss] 27 (0,0)):=(hFr.block _ (blk_lt HS3.out.1) (by have:=HLt.out.2.2.2.1.1;simp;omega)).trans HS3.out.1
      have hb4:wr.cell? ⟨w.heap.size,4,none⟩=some (.slice (some ⟨gt,0,none⟩) p.ts.length ct):=by rw [World.cell?,hbx];rfl
      have hcpn:=HCt.out.2.2
      clear hbx
      by_cases hlt:k < p.ts.length
      ·have hk':(k:Int) < (p.ts.length:Int):=by omega
       have hk1:(k:Int)<=1000:=by omega
       have hce0:∃ old,wr.cell? ⟨gt,k,none⟩=some old:=⟨_,cell_in hcu (j:=k) (by omega)⟩
       obtain ⟨old0,hce0⟩:=hce0
       have hfz0:wr.frozen? ⟨gt,k,none⟩=false:=by simp [World.frozen?,hcu]
       have HS2:Hid ((wr.setCell ⟨gt,k,none⟩ (.string ⟨#[115,112,111,105,108,116]⟩)).heap[gt]?=some (.cells (cA.setIfInBounds (k) (.string ⟨#[115,112,111,105,108,116]⟩)) 9 (0,0))/\Fr [gt] W3 (wr.setCell ⟨gt,k,none⟩ (.string ⟨#[115,112,111,105,108,116]⟩))):=⟨set_in hcu _,(fr_set hFr _ _)⟩
       have HLk:Hid (k < p.ts.length):=hlt
       clear hkg hcu hsz hFr hlt hcpn
       go_wp2_with fail
       go_roundg (p.ts.length - (k+1))
       case measure=>have:=HG.out.1;have:=HLk.out;omega
       case rel=>exact ⟨k+1,_,by have:=HLk.out;omega,by go_num,HS2.out.1,by simpa using HG.out.2.2.1,HS2.out.2⟩
      ·have hk':decide (k < p.ts.length)=false:=decide_eq_false hlt
       have hk2:decide ((k:Int) < (p.ts.length:Int))=false:=decide_eq_false (by omega)
       have HS4:Hid (wr.heap[w.heap.size]?=some (.cells #[.string p.name,.slice (some ⟨g,0,none⟩) p.rows.length (p.rows.length+9),.slice (some ⟨gq,0,none⟩) p.qs.length cq,.slice (some ⟨gv,0,none⟩) p.vs.length cv,.slice (some ⟨gt,0,none⟩) p.ts.length ct,.slice (some ⟨gu,0,none⟩) p.us.length cu,.slice (some ⟨go,0,none⟩) p.on.length co,.int .i64 p.miss] 27 (0,0))/\wr.heap[w.heap.size+1]?=some (.cells #[.string p.name,.slice ao p.rows.length ac,.slice qo p.qs.length qc,.slice vo p.vs.length vc,.slice tto p.ts.length tc,.slice uo p.us.length uc,.slice oo p.on.length oc,.int .i64 p.miss] 27 (0,0))/\BK K w0 w wr/\wr.ownsRow w0.heap.size 57 5 (.slice (some ⟨g,0,none⟩) (p.rows.length+9) (p.rows.length+9)) (p.rows.length+9) ((fillL p.rows 9).flatMap rz5)/\wr.ownsRow w0.heap.size 3 1 (.slice (some ⟨gu,0,none⟩) (p.us.length+1) cu) (p.us.length+1) (iv p.us++[.int .i64 (-77)])/\wr.ownsRow w0.heap.size 3 1 (.slice (some ⟨go,0,none⟩) (p.on.length+1) co) (p.on.length+1) (iv p.on++[.int .i64 (-77)])):=by
        have st0:=(HG.out.2.2.2.block _ (blk_lt HS3.out.1) (by have:=HLt.out.2.2.2.1.1;simp;omega)).trans HS3.out.1
        have st1:=(HG.out.2.2.2.block _ (blk_lt HS3.out.2.1) (by have:=HLt.out.2.2.2.1.1;simp;omega)).trans HS3.out.2.1
        have st2:=frBK HS3.out.2.2.1 HG.out.2.2.2 HLt.out.2.2.2.1.2 (fun k hk=>by have:=HKK.out k hk;exact ⟨this.1,by simp;omega⟩)
        have str:wr.ownsRow w0.heap.size 57 5 (.slice (some ⟨g,0,none⟩) (p.rows.length+9) (p.rows.length+9)) (p.rows.length+9) ((fillL p.rows 9).flatMap rz5):=own_other HS3.out.2.2.2.1 HG.out.2.2.2 HNe.out.2.2.1
        have stu:wr.ownsRow w0.heap.size 3 1 (.slice (some ⟨gu,0,none⟩) (p.us.length+1) cu) (p.us.length+1) (iv p.us++[.int .i64 (-77)]):=own_other HS3.out.2.2.2.2.2.1 HG.out.2.2.2 HNe.out.2.2.2.2.2.2.2.2.2.2.2.2.1.symm
        have sto:wr.ownsRow w0.heap.size 3 1 (.slice (some ⟨go,0,none⟩) (p.on.length+1) co) (p.on.length+1) (iv p.on++[.int .i64 (-77)]):=own_other HS3.out.2.2.2.2.2.2 HG.out.2.2.2 HNe.out.2.2.2.2.2.2.2.2.2.2.2.2.2.1.symm
        exact ⟨st0,st1,st2,str,stu,sto⟩
       clear hkg hcu hsz hFr hlt hcpn
       obtain ⟨W4,rfl⟩:∃ W4,W4=wr:=⟨_,rfl⟩
       have s1:W4.cell? ⟨w.heap.size,1,none⟩=some (.slice (some ⟨g,0,none⟩) p.rows.length (p.rows.length+9)):=by rw [World.cell?,HS4.out.1];rfl
       have s2:W4.cell? ⟨w.heap.size+1,1,none⟩=some (.slice ao p.rows.length ac):=by rw [World.cell?,HS4.out.2.1];rfl
       have HKr:=show Hid _ from keptR_any g ao p.rows ac W4 (rowz_own HS4.out.2.2.2.1) (HD.out.below HS4.out.2.2.1.be).r HSz.out.1
       go_wp2_with fail
       refine Calls.mono HKr.out ?_
       rintro e W5 ⟨rfl,hF5⟩
       have HS5:Hid (W5.heap[w.heap.size]?=some (.cells #[.string p.name,.slice (some ⟨g,0,none⟩) p.rows.length (p.rows.length+9),.slice (some ⟨gq,0,none⟩) p.qs.length cq,.slice (some ⟨gv,0,none⟩) p.vs.length cv,.slice (some ⟨gt,0,none⟩) p.ts.length ct,.slice (some ⟨gu,0,none⟩) p.us.length cu,.slice (some ⟨go,0,none⟩) p.on.length co,.int .i64 p.miss] 27 (0,0))/\W5.heap[w.heap.size+1]?=some (.cells #[.string p.name,.slice ao p.rows.length ac,.slice qo p.qs.length qc,.slice vo p.vs.length vc,.slice tto p.ts.length tc,.slice uo p.us.length uc,.slice oo p.on.length oc,.int .i64 p.miss] 27 (0,0))/\BK K w0 w W5/\W5.ownsRow w0.heap.size 3 1 (.slice (some ⟨gu,0,none⟩) (p.us.length+1) cu) (p.us.length+1) (iv p.us++[.int .i64 (-77)])/\W5.ownsRow w0.heap.size 3 1 (.slice (some ⟨go,0,none⟩) (p.on.length+1) co) (p.on.length+1) (iv p.on++[.int .i64 (-77)])):=by
        have st0:=(hF5.block _ (blk_lt HS4.out.1) (by have:=HLt.out.1.1;simp;omega)).trans HS4.out.1
        have st1:=(hF5.block _ (blk_lt HS4.out.2.1) (by have:=HLt.out.1.1;simp;omega)).trans HS4.out.2.1
        have st2:=frBK HS4.out.2.2.1 hF5 HLt.out.1.2 (fun k hk=>by have:=HKK.out k hk;exact ⟨this.1,by simp;omega⟩)
        have stu:W5.ownsRow w0.heap.size 3 1 (.slice (some ⟨gu,0,none⟩) (p.us.length+1) cu) (p.us.length+1) (iv p.us++[.int .i64 (-77)]):=own_other HS4.out.2.2.2.2.1 hF5 HNe.out.2.2.2.1.symm
        have sto:W5.ownsRow w0.heap.size 3 1 (.slice (some ⟨go,0,none⟩) (p.on.length+1) co) (p.on.length+1) (iv p.on++[.int .i64 (-77)]):=own_other HS4.out.2.2.2.2.2 hF5 HNe.out.2.2.2.2.1.symm
        exact ⟨st0,st1,st2,stu,sto⟩
       clear hF5 HKr s1 s2
       have s1:W5.cell? ⟨w.heap.size,5,none⟩=some (.slice (some ⟨gu,0,none⟩) p.us.length cu):=by rw [World.cell?,HS5.out.1];rfl
       have s2:W5.cell? ⟨w.heap.size+1,5,none⟩=some (.slice uo p.us.length uc):=by rw [World.cell?,HS5.out.2.1];rfl
       have HKu:=show Hid _ from keptI_any (c:=uc) HS5.out.2.2.2.1 (HD.out.below HS5.out.2.2.1.be).u HSz.out.2.2.2.2.1
       go_wp2_with fail
       refine Calls.mono HKu.out ?_
       rintro e W6 ⟨rfl,hF6⟩
       have HS6:Hid (W6.heap[w.heap.size]?=some (.cells #[.string p.name,.slice (some ⟨g,0,none⟩) p.rows.length (p.rows.length+9),.slice (some ⟨gq,0,none⟩) p.qs.length cq,.slice (some ⟨gv,0,none⟩) p.vs.length cv,.slice (some ⟨gt,0,none⟩) p.ts.length ct,.slice (some ⟨gu,0,none⟩) p.us.length cu,.slice (some ⟨go,0,none⟩) p.on.length co,.int .i64 p.miss] 27 (0,0))/\W6.heap[w.heap.size+1]?=some (.cells #[.string p.name,.slice ao p.rows.length ac,.slice qo p.qs.length qc,.slice vo p.vs.length vc,.slice tto p.ts.length tc,.slice uo p.us.length uc,.slice oo p.on.length oc,.int .i64 p.miss] 27 (0,0))/\BK K w0 w W6/\W6.ownsRow w0.heap.size 3 1 (.slice (some ⟨go,0,none⟩) (p.on.length+1) co) (p.on.length+1) (iv p.on++[.int .i64 (-77)])):=by
        have st0:=(hF6.block _ (blk_lt HS5.out.1) (by have:=HLt.out.2.2.2.2.1.1;simp;omega)).trans HS5.out.1
        have st1:=(hF6.block _ (blk_lt HS5.out.2.1) (by have:=HLt.out.2.2.2.2.1.1;simp;omega)).trans HS5.out.2.1
        have st2:=frBK HS5.out.2.2.1 hF6 HLt.out.2.2.2.2.1.2 (fun k hk=>by have:=HKK.out k hk;exact ⟨this.1,by simp;omega⟩)
        have sto:W6.ownsRow w0.heap.size 3 1 (.slice (some ⟨go,0,none⟩) (p.on.length+1) co) (p.on.length+1) (iv p.on++[.int .i64 (-77)]):=own_other HS5.out.2.2.2.2 hF6 HNe.out.2.2.2.2.2.2.2.2.2.2.2.2.2.2.symm
        exact ⟨st0,st1,st2,sto⟩
       clear hF6 HKu s1 s2
       have s1:W6.cell? ⟨w.heap.size,6,none⟩=some (.slice (some ⟨go,0,none⟩) p.on.length co):=by rw [World.cell?,HS6.out.1];rfl
       have s2:W6.cell? ⟨w.heap.size+1,6,none⟩=some (.slice oo p.on.length oc):=by rw [World.cell?,HS6.out.2.1];rfl
       have HKo:=show Hid _ from keptI_any (c:=oc) HS6.out.2.2.2 (HD.out.below HS6.out.2.2.1.be).o HSz.out.2.2.2.2.2
       go_wp2_with fail
       refine Calls.mono HKo.out ?_
       rintro e W7 ⟨rfl,hF7⟩
       have HB7:Hid (BK K w0 w W7):=frBK HS6.out.2.2.1 hF7 HLt.out.2.2.2.2.2.2 (fun k hk=>by have:=HKK.out k hk;exact ⟨this.1,by simp;omega⟩)
       clear hF7 HKo s1 s2
       go_wp2_with fail
       go_ret
       exact ⟨rfl,HB7.out.be,HB7.out.ke⟩
end Go.Proofs.YtinjccfhhdidiaaGreat.Nm
