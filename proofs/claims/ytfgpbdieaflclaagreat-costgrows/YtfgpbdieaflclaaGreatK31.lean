import Derived.Test.YtfgpbdieaflclaaGreatK30
set_option linter.unusedSimpArgs false
namespace Go.Proofs.YtfgpbdieaflclaaGreat.Nm.Ty
open Go.RowKit Go.Maps Sp Lx Gr Nm
def Lp (w:World) (P:Pg) (v:Value):Prop:=∃ g gq cq gv cv gt ct gu cu go co,v=lentV P g gq cq gv cv gt ct gu cu go co/\RdG w P (some ⟨g,0,none⟩) (some ⟨gq,0,none⟩) (some ⟨gv,0,none⟩) (some ⟨gt,0,none⟩) (some ⟨gu,0,none⟩) (some ⟨go,0,none⟩)
def Lt (w:World) (rd:List Int) (v:Value):Prop:=∃ vo cv tto ct go cr,v=.agg #[.slice vo 0 cv,.slice tto 0 ct,.slice go rd.length cr]/\IsVals w go (iv rd)
def Bd (Wd w:World) (P:Pg) (rd:List Int) (v:Value):Prop:=∃ r p1 q1,BRes P rd r/\v=.tuple #[.agg #[.slice p1 (zi (ctOf r).1).length q1,.int .i64 ((ctOf r).2.1:Int)],.agg #[.int .i64 ((ctOf r).2.2.1:Int),.int .i64 ((ctOf r).2.2.2:Int)]]/\w.ownsRow Wd.heap.size 3 1 (.slice p1 (zi (ctOf r).1).length q1) (zi (ctOf r).1).length (iv (zi (ctOf r).1))
def Bo (Wd w:World) (cs:Array Value) (T:TypeId) (v:Value):Prop:=∃ g,v=.pointer (some ⟨g,0,none⟩)/\Wd.heap.size<=g/\w.heap[g]?=some (.cells cs T (0,0))
theorem Lp.below {w w':World} {P:Pg} {v:Value} (h:Lp w P v) (hb:Below w.heap.size w w'):Lp w' P v:=by
 obtain ⟨g,gq,cq,gv,cv,gt,ct,gu,cu,go,co,h1,h2⟩:=h
 exact ⟨g,gq,cq,gv,cv,gt,ct,gu,cu,go,co,h1,h2.below hb⟩
theorem Lt.below {w w':World} {rd:List Int} {v:Value} (h:Lt w rd v) (hb:Below w.heap.size w w'):Lt w' rd v:=by
 obtain ⟨vo,cv,tto,ct,go,cr,h1,h2⟩:=h
 exact ⟨vo,cv,tto,ct,go,cr,h1,h2.below hb⟩
theorem Bd.below {Wd w w':World} {P:Pg} {rd:List Int} {v:Value} (h:Bd Wd w P rd v) (hb:Below w.heap.size w w'):Bd Wd w' P rd v:=by
 obtain ⟨r,p1,q1,h0,h1,h2⟩:=h
 exact ⟨r,p1,q1,h0,h1,own_below h2 hb⟩
theorem Bo.below {Wd w w':World} {cs:Array Value} {T:TypeId} {v:Value} (h:Bo Wd w cs T v) (hb:Below w.heap.size w w'):Bo Wd w' cs T v:=by
 obtain ⟨g,h1,h2,h3⟩:=h
 exact ⟨g,h1,h2,(hb.block _ (blk_lt h3)).trans h3⟩
structure Rg (Wd w:World) (P:Pg) (rd:List Int) (b c:Nat->Bool) (s d:Nat->Value):Prop where
 be:Below Wd.heap.size Wd w
 f0:b 0=true->b 2=false->Lp w P (s 0)
 f1:b 1=true->b 0=true/\(b 2=false->Lt w rd (s 1))
 f2:b 2=true->b 1=true/\Bd Wd w P rd (s 2)
 f3:b 3=true->b 2=true/\s 3=s 2
 f4:b 4=true->b 3=true/\∃ x y,s 3=.tuple #[x,y]/\s 4=x
 f5:b 5=true->b 3=true/\∃ x y,s 3=.tuple #[x,y]/\s 5=y
 d0:c 0=true->c 2=false->Bo Wd w #[pz,.int .i64 0] 36 (d 0)
 d1:c 1=true->Bo Wd w #[.int .i64 0,.int .i64 0] 31 (d 1)
 d2:c 2=true->c 0=true/\b 4=true/\∃ cs,s 4=.agg cs/\Bo Wd w cs 36 (d 0)
section
variable {Wd w w':World} {P:Pg} {rd:List Int} {b c:Nat->Bool} {s d:Nat->Value} {v:Value}
theorem Rg.below (h:Rg Wd w P rd b c s d) (hb:Below w.heap.size w w'):Rg Wd w' P rd b c s d:=
 ⟨h.be.trans (hb.mono h.be.size),fun e e2=>(h.f0 e e2).below hb,fun e=>⟨(h.f1 e).1,fun e2=>((h.f1 e).2 e2).below hb⟩,fun e=>⟨(h.f2 e).1,(h.f2 e).2.below hb⟩,h.f3,h.f4,h.f5,fun e e2=>(h.d0 e e2).below hb,fun e=>(h.d1 e).below hb,fun e=>by
  obtain ⟨h1,h2,cs,h3,h4⟩:=h.d2 e
  exact ⟨h1,h2,cs,h3,h4.below hb⟩⟩
theorem ft {p:Prop} {x:Bool} (h:x=false) (e:x=true):p:=by rw [h] at e;cases e
theorem Rg.no0 (h:Rg Wd w P rd b c s d) (e:b 0=false):b 1=false:=by
 cases h1:b 1 with
 | false=>rfl
 | true=>exact ft e (h.f1 h1).1
theorem Rg.no1 (h:Rg Wd w P rd b c s d) (e:b 1=false):b 2=false:=by
 cases h1:b 2 with
 | false=>rfl
 | true=>exact ft e (h.f2 h1).1
theorem Rg.no2 (h:Rg Wd w P rd b c s d) (e:b 2=false):b 3=false:=by
 cases h1:b 3 with
 | false=>rfl
 | true=>exact ft e (h.f3 h1).1
theorem Rg.no3 (h:Rg Wd w P rd b c s d) (e:b 3=false):b 4=false/\b 5=false:=by
 constructor
 ·cases h1:b 4 with
  | false=>rfl
  | true=>exact ft e (h.f4 h1).1
 ·cases h1:b 5 with
  | false=>rfl
  | true=>exact ft e (h.f5 h1).1
theorem Rg.no4 (h:Rg Wd w P rd b c s d) (e:b 4=false):c 2=false:=by
 cases h1:c 2 with
 | false=>rfl
 | true=>exact ft e (h.d2 h1).2.1
theorem Rg.b0 (h:Rg Wd w P rd b c s d) (e:b 0=false) (hv:Lp w P v):Rg Wd w P rd (up b 0 true) c (up s 0 v) d:=by
 have e1:=h.no0 e
 have e2:=h.no1 e1
 have e3:=h.no2 e2
 have e4:=h.no3 e3
 have e5:=h.no4 e4.1
 refine ⟨h.be,fun _ _=>by rw [up_same];exact hv,fun q=>?_,fun q=>?_,fun q=>?_,fun q=>?_,fun q=>?_,h.d0,h.d1,fun q=>ft e5 q⟩<;>rw [up_ne (by omega)] at q
 ·exact ft e1 q
 ·exact ft e2 q
 ·exact ft e3 q
 ·exact ft e4.1 q
 ·exact ft e4.2 q
theorem Rg.b1 (h:Rg Wd w P rd b c s d) (e0:b 0=true) (e:b 1=false) (hv:Lt w rd v):Rg Wd w P rd (up b 1 true) c (up s 1 v) d:=by
 have e2:=h.no1 e
 have e3:=h.no2 e2
 have e4:=h.no3 e3
 have e5:=h.no4 e4.1
 refine ⟨h.be,fun q q2=>?_,fun q=>⟨by rw [up_ne (by omega)];exact e0,fun _=>by rw [up_same];exact hv⟩,fun q=>?_,fun q=>?_,fun q=>?_,fun q=>?_,h.d0,h.d1,fun q=>ft e5 q⟩
 ·rw [up_ne (by omega)] at q q2 ⊢
  exact h.f0 q q2
 all_goals rw [up_ne (by omega)] at q
 ·exact ft e2 q
 ·exact ft e3 q
 ·exact ft e4.1 q
 ·exact ft e4.2 q
theorem Rg.b2 (h:Rg Wd w P rd b c s d) (e1:b 1=true) (e:b 2=false) (hv:Bd Wd w P rd v):Rg Wd w P rd (up b 2 true) c (up s 2 v) d:=by
 have e3:=h.no2 e
 have e4:=h.no3 e3
 have e5:=h.no4 e4.1
 refine ⟨h.be,fun q q2=>?_,fun q=>⟨?_,fun q2=>?_⟩,fun q=>⟨by rw [up_ne (by omega)];exact e1,by rw [up_same];exact hv⟩,fun q=>?_,fun q=>?_,fun q=>?_,h.d0,h.d1,fun q=>ft e5 q⟩
 ·rw [up_same] at q2
  cases q2
 ·rw [up_ne (by omega)] at q ⊢
  exact (h.f1 q).1
 ·rw [up_same] at q2
  cases q2
 all_goals rw [up_ne (by omega)] at q
 ·exact ft e3 q
 ·exact ft e4.1 q
 ·exact ft e4.2 q
theorem Rg.b3 (h:Rg Wd w P rd b c s d) (e2:b 2=true) (e:b 3=false):Rg Wd w P rd (up b 3 true) c (up s 3 (s 2)) d:=by
 have e4:=h.no3 e
 have e5:=h.no4 e4.1
 refine ⟨h.be,fun q q2=>?_,fun q=>⟨?_,fun q2=>?_⟩,fun q=>⟨?_,?_⟩,fun q=>⟨by rw [up_ne (by omega)];exact e2,by rw [up_same,up_ne (by omega)]⟩,fun q=>?_,fun q=>?_,h.d0,h.d1,fun q=>ft e5 q⟩
 ·rw [up_ne (by omega)] at q2
  exact ft q2 e2
 ·rw [up_ne (by omega)] at q ⊢
  exact (h.f1 q).1
 ·rw [up_ne (by omega)] at q2
  exact ft q2 e2
 ·rw [up_ne (by omega)] at q ⊢
  exact (h.f2 q).1
 ·rw [up_ne (by omega)] at q ⊢
  exact (h.f2 q).2
 all_goals rw [up_ne (by omega)] at q
 ·exact ft e4.1 q
 ·exact ft e4.2 q
theorem Rg.b4 {x y:Value} (h:Rg Wd w P rd b c s d) (e3:b 3=true) (e:b 4=false) (hx:s 3=.tuple #[x,y]):Rg Wd w P rd (up b 4 true) c (up s 4 x) d:=by
 have e5:=h.no4 e
 have e2:=(h.f3 e3).1
 refine ⟨h.be,fun q q2=>?_,fun q=>⟨?_,fun q2=>?_⟩,fun q=>⟨?_,?_⟩,fun q=>⟨?_,?_⟩,fun q=>⟨by rw [up_ne (by omega)];exact e3,x,y,by rw [up_ne (by omega)];exact hx,up_same _ _ _⟩,fun q=>⟨by rw [up_ne (by omega)];exact e3,?_⟩,h.d0,h.d1,fun q=>ft e5 q⟩
 ·rw [up_ne (by omega)] at q2
  exact ft q2 e2
 ·rw [up_ne (by omega)] at q ⊢
  exact (h.f1 q).1
 ·rw [up_ne (by omega)] at q2
  exact ft q2 e2
 ·rw [up_ne (by omega)] at q ⊢
  exact (h.f2 q).1
 ·rw [up_ne (by omega)] at q ⊢
  exact (h.f2 q).2
 ·rw [up_ne (by omega)]
  exact e2
 ·rw [up_ne (by omega),up_ne (by omega)]
  exact (h.f3 e3).2
 ·rw [up_ne (by omega)] at q
  rw [up_ne (by omega),up_ne (by omega)]
  exact (h.f5 q).2
theorem Rg.b5 {x y:Value} (h:Rg Wd w P rd b c s d) (e3:b 3=true) (hx:s 3=.tuple #[x,y]):Rg Wd w P rd (up b 5 true) c (up s 5 y) d:=by
 have e2:=(h.f3 e3).1
 refine ⟨h.be,fun q q2=>?_,fun q=>⟨?_,fun q2=>?_⟩,fun q=>⟨?_,?_⟩,fun q=>⟨?_,?_⟩,fun q=>⟨by rw [up_ne (by omega)];exact e3,?_⟩,fun q=>⟨by rw [up_ne (by omega)];exact e3,x,y,by rw [up_ne (by omega)];exact hx,up_same _ _ _⟩,h.d0,h.d1,fun q=>?_⟩
 ·rw [up_ne (by omega)] at q2
  exact ft q2 e2
 ·rw [up_ne (by omega)] at q ⊢
  exact (h.f1 q).1
 ·rw [up_ne (by omega)] at q2
  exact ft q2 e2
 ·rw [up_ne (by omega)] at q ⊢
  exact (h.f2 q).1
 ·rw [up_ne (by omega)] at q ⊢
  exact (h.f2 q).2
 ·rw [up_ne (by omega)]
  exact e2
 ·rw [up_ne (by omega),up_ne (by omega)]
  exact (h.f3 e3).2
 ·rw [up_ne (by omega)] at q
  rw [up_ne (by omega),up_ne (by omega)]
  exact (h.f4 q).2
 ·obtain ⟨h1,h2,h3⟩:=h.d2 q
  rw [up_ne (by omega),up_ne (by omega)]
  exact ⟨h1,h2,h3⟩
theorem Rg.c0 (h:Rg Wd w P rd b c s d) (e:c 0=false) (hv:Bo Wd w #[pz,.int .i64 0] 36 v):Rg Wd w P rd b (up c 0 true) s (up d 0 v):=by
 refine ⟨h.be,h.f0,h.f1,h.f2,h.f3,h.f4,h.f5,fun _ _=>by rw [up_same];exact hv,fun q=>?_,fun q=>?_⟩<;>rw [up_ne (by omega)] at q
 ·rw [up_ne (by omega)]
  exact h.d1 q
 ·exact ft e (h.d2 q).1
theorem Rg.c1 (h:Rg Wd w P rd b c s d) (hv:Bo Wd w #[.int .i64 0,.int .i64 0] 31 v):Rg Wd w P rd b (up c 1 true) s (up d 1 v):=by
 refine ⟨h.be,h.f0,h.f1,h.f2,h.f3,h.f4,h.f5,fun q q2=>?_,fun _=>by rw [up_same];exact hv,fun q=>?_⟩
 ·rw [up_ne (by omega)] at q q2 ⊢
  exact h.d0 q q2
 ·rw [up_ne (by omega)] at q
  rw [up_ne (by omega),up_ne (by omega)]
  exact h.d2 q
theorem Rg.c2 {cs:Array Value} {g:Nat} (h:Rg Wd w P rd b c s d) (e4:b 4=true) (e0:c 0=true) (e:c 2=false) (hs:s 4=.agg cs) (hd:d 0=.pointer (some ⟨g,0,none⟩)):Rg Wd (w.setRow g cs) P rd b (up c 2 true) s d:=by
 obtain ⟨g',h1,h2,h3⟩:=h.d0 e0 e
 rw [hd] at h1
 cases h1
 have e3:=(h.f4 e4).1
 have e2:=(h.f3 e3).1
 have hsz:(w.setRow g cs).heap.size=w.heap.size:=by simp [World.setRow]
 have hne:∀ (q:Nat) (xs:Array Value) (T:TypeId),T ≠ 36->w.heap[q]?=some (.cells xs T (0,0))->q ≠ g:=fun q xs T hT hq e=>by
  subst e
  rw [h3] at hq
  cases hq
  exact hT rfl
 refine ⟨⟨h.be.os,h.be.tape,h.be.output,by rw [hsz];exact h.be.size,fun k hk=>(setRow_other w g k _ (by omega)).trans (h.be.block k hk)⟩,fun _ q2=>ft q2 e2,fun q=>⟨(h.f1 q).1,fun q2=>ft q2 e2⟩,fun q=>⟨(h.f2 q).1,?_⟩,h.f3,h.f4,h.f5,fun q q2=>?_,fun q=>?_,fun q=>⟨?_,e4,cs,hs,g,hd,h2,setRow_heap _ _ _ _ _ _ h3⟩⟩
 ·obtain ⟨r,p1,q1,k0,k1,k2⟩:=(h.f2 q).2
  refine ⟨r,p1,q1,k0,k1,own_kb k2 fun k hk=>?_⟩
  rcases k2.2 with ⟨k3,_⟩ | ⟨g',cap,cur,k3,_,k4,_⟩
  ·rw [k3] at hk
   cases hk
  ·rw [k3] at hk
   cases hk
   exact setRow_other w g _ _ (hne _ _ _ (by decide) k4)
 ·rw [up_same] at q2
  cases q2
 ·rw [up_ne (by omega)] at q
  obtain ⟨g1,k1,k2,k3⟩:=h.d1 q
  exact ⟨g1,k1,k2,(setRow_other w g _ _ (hne _ _ _ (by decide) k3)).trans k3⟩
 ·rw [up_ne (by omega)]
  exact e0
def lT (b c:Nat->Bool):Array Bool:=#[true,b 0,true,true,b 1,b 2,b 3,b 4,b 5,c 0,c 1,c 2,false]
def cN (b c:Nat->Bool):Nat:=cond (b 0) 0 1+cond (b 1) 0 1+cond (b 2) 0 1+cond (b 3) 0 1+cond (b 4) 0 1+cond (b 5) 0 1+cond (c 0) 0 1+cond (c 1) 0 1+cond (c 2) 0 1
theorem cN_b {b c:Nat->Bool} {j:Nat} (hj:j < 6) (h:b j=false):cN (up b j true) c+1=cN b c:=by
 unfold cN
 match j,hj with
 | 0,_=>rw [up_same,up_ne (by omega),up_ne (by omega),up_ne (by omega),up_ne (by omega),up_ne (by omega),h];simp only [cond_true,cond_false];omega
 | 1,_=>rw [up_same,up_ne (by omega),up_ne (by omega),up_ne (by omega),up_ne (by omega),up_ne (by omega),h];simp only [cond_true,cond_false];omega
 | 2,_=>rw [up_same,up_ne (by omega),up_ne (by omega),up_ne (by omega),up_ne (by omega),up_ne (by omega),h];simp only [cond_true,cond_false];omega
 | 3,_=>rw [up_same,up_ne (by omega),up_ne (by omega),up_ne (by omega),up_ne (by omega),up_ne (by omega),h];simp only [cond_true,cond_false];omega
 | 4,_=>rw [up_same,up_ne (by omega),up_ne (by omega),up_ne (by omega),up_ne (by omega),up_ne (by omega),h];simp only [cond_true,cond_false];omega
 | 5,_=>rw [up_same,up_ne (by omega),up_ne (by omega),up_ne (by omega),up_ne (by omega),up_ne (by omega),h];simp only [cond_true,cond_false];omega
theorem cN_c {b c:Nat->Bool} {j:Nat} (hj:j < 3) (h:c j=false):cN b (up c j true)+1=cN b c:=by
 unfold cN
 match j,hj with
 | 0,_=>rw [up_same,up_ne (by omega),up_ne (by omega),h];simp only [cond_true,cond_false];omega
 | 1,_=>rw [up_same,up_ne (by omega),up_ne (by omega),h];simp only [cond_true,cond_false];omega
 | 2,_=>rw [up_same,up_ne (by omega),up_ne (by omega),h];simp only [cond_true,cond_false]
theorem c1z {x:Bool} (h:cond x 0 1=0):x=true:=by cases x<;>simp_all
theorem cN_0 {b c:Nat->Bool} (h:cN b c=0):(b 0=true/\b 1=true/\b 2=true/\b 3=true/\b 4=true/\b 5=true)/\c 0=true/\c 1=true/\c 2=true:=by
 unfold cN at h
 exact ⟨⟨c1z (by omega),c1z (by omega),c1z (by omega),c1z (by omega),c1z (by omega),c1z (by omega)⟩,c1z (by omega),c1z (by omega),c1z (by omega)⟩
def lU (b c:Nat->Bool):Array Bool:=#[true,b 0,true,true,b 1,b 2,b 3,b 4,b 5,c 0,c 2,false]
def cU (b c:Nat->Bool):Nat:=cond (b 0) 0 1+cond (b 1) 0 1+cond (b 2) 0 1+cond (b 3) 0 1+cond (b 4) 0 1+cond (b 5) 0 1+cond (c 0) 0 1+cond (c 2) 0 1
theorem cU_b {b c:Nat->Bool} {j:Nat} (hj:j < 6) (h:b j=false):cU (up b j true) c+1=cU b c:=by
 have:=cN_b (c:=c) hj h
 unfold cN at this
 unfold cU
 omega
theorem cU_c {b c:Nat->Bool} {j:Nat} (hj:j=0\/j=2) (h:c j=false):cU b (up c j true)+1=cU b c:=by
 unfold cU
 rcases hj with rfl | rfl
 ·rw [up_same,up_ne (by omega),h];simp only [cond_true,cond_false];omega
 ·rw [up_same,up_ne (by omega),h];simp only [cond_true,cond_false]
theorem cU_0 {b c:Nat->Bool} (h:cU b c=0):(b 0=true/\b 1=true/\b 2=true/\b 3=true/\b 4=true/\b 5=true)/\c 0=true/\c 2=true:=by
 unfold cU at h
 exact ⟨⟨c1z (by omega),c1z (by omega),c1z (by omega),c1z (by omega),c1z (by omega),c1z (by omega)⟩,c1z (by omega),c1z (by omega)⟩
end
theorem bd_of {Wd w w':World} {P:Pg} {rd:List Int} {e:Ending} {r:Except (Nat × Nat) Co} (hW:Wd.heap.size<=w.heap.size) (h0:BRes P rd r) (hq:P.qs.length<=100) (h:CTold w r e w'):Below w.heap.size w w'/\∃ v,e=.returned v/\Bd Wd w' P rd v:=by
 have hlen:=on_len h0 hq
 obtain ⟨hb,h2⟩:=h
 refine ⟨hb,?_⟩
 cases r with
 | error ci=>exact ⟨_,h2,_,none,0,h0,rfl,World.ownsRow_nil _ _ _ _⟩
 | ok c=>
  obtain ⟨ob,he,h3,h4⟩:=h2
  have hz:(zi c.on).length=c.on.length:=by simp [zi]
  refine ⟨_,he,_,some ⟨ob,0,none⟩,c.on.length,h0,by simp only [ctOf,hz];rfl,?_⟩
  dsimp only [ctOf] at hlen ⊢
  rw [hz]
  refine ⟨by simp [iv,hz],Or.inr ⟨ob,c.on.length,_,rfl,by omega,h4,Nat.le_refl _,by unfold maxLen;omega,by simp [iv,hz],?_⟩⟩
  rw [List.take_of_length_le (by simp [iv,hz])]
theorem Rg.fin {Wd w:World} {P:Pg} {rd:List Int} {b c:Nat->Bool} {s d:Nat->Value} (h:Rg Wd w P rd b c s d) (hn:cN b c=0):∃ r p1 q1 g0 g1,BRes P rd r/\s 5=.agg #[.int .i64 ((ctOf r).2.2.1:Int),.int .i64 ((ctOf r).2.2.2:Int)]/\d 0=.pointer (some ⟨g0,0,none⟩)/\d 1=.pointer (some ⟨g1,0,none⟩)/\w.heap[g1]?=some (.cells #[.int .i64 0,.int .i64 0] 31 (0,0)) /\
  Below Wd.heap.size Wd (w.setRow g1 #[.int .i64 ((ctOf r).2.2.1:Int),.int .i64 ((ctOf r).2.2.2:Int)]) /\
  (w.setRow g1 #[.int .i64 ((ctOf r).2.2.1:Int),.int .i64 ((ctOf r).2.2.2:Int)]).heap[g0]?=some (.cells #[.slice p1 (zi (ctOf r).1).length q1,.int .i64 ((ctOf r).2.1:Int)] 36 (0,0)) /\
  (w.setRow g1 #[.int .i64 ((ctOf r).2.2.1:Int),.int .i64 ((ctOf r).2.2.2:Int)]).heap[g1]?=some (.cells #[.int .i64 ((ctOf r).2.2.1:Int),.int .i64 ((ctOf r).2.2.2:Int)] 31 (0,0)) /\
  (w.setRow g1 #[.int .i64 ((ctOf r).2.2.1:Int),.int .i64 ((ctOf r).2.2.2:Int)]).ownsRow Wd.heap.size 3 1 (.slice p1 (zi (ctOf r).1).length q1) (zi (ctOf r).1).length (iv (zi (ctOf r).1)):=by
 obtain ⟨⟨k0,k1,k2,k3,k4,k5⟩,c0,c1,c2⟩:=cN_0 hn
 obtain ⟨-,r,p1,q1,hr,hs2,ho⟩:=h.f2 k2
 have hs3:=(h.f3 k3).2
 obtain ⟨-,x4,y4,h43,hs4⟩:=h.f4 k4
 obtain ⟨-,x5,y5,h53,hs5⟩:=h.f5 k5
 obtain ⟨g1,hd1,hg1,hh1⟩:=h.d1 c1
 obtain ⟨-,-,cs,hcs,g0,hd0,hg0,hh0⟩:=h.d2 c2
 rw [hs3,hs2] at h43 h53
 cases h43
 cases h53
 rw [hs4] at hcs
 cases hcs
 have hsz:∀ cs:Array Value,(w.setRow g1 cs).heap.size=w.heap.size:=fun cs=>by simp [World.setRow]
 refine ⟨r,p1,q1,g0,g1,hr,hs5,hd0,hd1,hh1,⟨h.be.os,h.be.tape,h.be.output,by rw [hsz];exact h.be.size,fun k hk=>(setRow_other w g1 k _ (by omega)).trans (h.be.block k hk)⟩,(setRow_other w g1 _ _ fun e=>?_).trans hh0,setRow_heap _ _ _ _ _ _ hh1,own_kb ho fun k hk=>setRow_other w g1 _ _ fun e=>?_⟩
 ·subst e
  rw [hh1] at hh0
  cases hh0
 ·rcases ho.2 with ⟨k3,_⟩ | ⟨g',cap,cur,k3,_,k4,_⟩
  ·rw [k3] at hk
   cases hk
  ·rw [k3] at hk
   cases hk
   subst e
   rw [hh1] at k4
   cases k4
theorem Rg.finU {Wd w:World} {P:Pg} {rd:List Int} {b c:Nat->Bool} {s d:Nat->Value} (h:Rg Wd w P rd b c s d) (hn:cU b c=0):∃ r p1 q1 g0,BRes P rd r/\s 5=.agg #[.int .i64 ((ctOf r).2.2.1:Int),.int .i64 ((ctOf r).2.2.2:Int)]/\d 0=.pointer (some ⟨g0,0,none⟩)/\Wd.heap.size<=g0/\Below Wd.heap.size Wd w /\
  w.heap[g0]?=some (.cells #[.slice p1 (zi (ctOf r).1).length q1,.int .i64 ((ctOf r).2.1:Int)] 36 (0,0))/\w.ownsRow Wd.heap.size 3 1 (.slice p1 (zi (ctOf r).1).length q1) (zi (ctOf r).1).length (iv (zi (ctOf r).1)):=by
 obtain ⟨⟨k0,k1,k2,k3,k4,k5⟩,c0,c2⟩:=cU_0 hn
 obtain ⟨-,r,p1,q1,hr,hs2,ho⟩:=h.f2 k2
 have hs3:=(h.f3 k3).2
 obtain ⟨-,x4,y4,h43,hs4⟩:=h.f4 k4
 obtain ⟨-,x5,y5,h53,hs5⟩:=h.f5 k5
 obtain ⟨-,-,cs,hcs,g0,hd0,hg0,hh0⟩:=h.d2 c2
 rw [hs3,hs2] at h43 h53
 cases h43
 cases h53
 rw [hs4] at hcs
 cases hcs
 exact ⟨r,p1,q1,g0,hr,hs5,hd0,hg0,h.be,hh0,ho⟩
theorem Rg.zero (Wd:World) (P:Pg) (rd:List Int) (s d:Nat->Value):Rg Wd Wd P rd (fun _=>false) (fun _=>false) s d:=
 ⟨Below.refl _ _,nofun,nofun,nofun,nofun,nofun,nofun,nofun,nofun,nofun⟩
theorem rg_start {a0:Act} {Wd:World} {P:Pg} {rd:List Int} {q0 q1 q2 q3 q4 q5 q6 q7:Nat} (h:a0=((((((((a0.put (some q0) (a0.eval (.tmp q0))).put (some q1) (a0.eval (.tmp q1))).put (some q2) (a0.eval (.tmp q2))).put (some q3) (a0.eval (.tmp q3))).put (some q4) (a0.eval (.tmp q4))).put (some q5) (a0.eval (.tmp q5))).put (some q6) (a0.eval (.tmp q6))).put (some q7) (a0.eval (.tmp q7)))):∃ s d:Nat->Value,a0=((((((((a0.put (some q0) (s 0)).put (some q1) (s 1)).put (some q2) (s 2)).put (some q3) (s 3)).put (some q4) (s 4)).put (some q5) (s 5)).put (some q6) (d 0)).put (some q7) (d 1))/\Rg Wd Wd P rd (fun _=>false) (fun _=>false) s d:=
 ⟨fun | 0=>a0.eval (.tmp q0) | 1=>a0.eval (.tmp q1) | 2=>a0.eval (.tmp q2) | 3=>a0.eval (.tmp q3) | 4=>a0.eval (.tmp q4) | _=>a0.eval (.tmp q5),fun | 0=>a0.eval (.tmp q6) | _=>a0.eval (.tmp q7),h,Rg.zero _ _ _ _ _⟩
theorem rg_startU {a0:Act} {Wd:World} {P:Pg} {rd:List Int} {q0 q1 q2 q3 q4 q5 q6:Nat} (h:a0=(((((((a0.put (some q0) (a0.eval (.tmp q0))).put (some q1) (a0.eval (.tmp q1))).put (some q2) (a0.eval (.tmp q2))).put (some q3) (a0.eval (.tmp q3))).put (some q4) (a0.eval (.tmp q4))).put (some q5) (a0.eval (.tmp q5))).put (some q6) (a0.eval (.tmp q6)))):∃ s d:Nat->Value,a0=(((((((a0.put (some q0) (s 0)).put (some q1) (s 1)).put (some q2) (s 2)).put (some q3) (s 3)).put (some q4) (s 4)).put (some q5) (s 5)).put (some q6) (d 0))/\Rg Wd Wd P rd (fun _=>false) (fun _=>false) s d/\(fun _:Nat=>false) 1=false:=
 ⟨fun | 0=>a0.eval (.tmp q0) | 1=>a0.eval (.tmp q1) | 2=>a0.eval (.tmp q2) | 3=>a0.eval (.tmp q3) | 4=>a0.eval (.tmp q4) | _=>a0.eval (.tmp q5),fun _=>a0.eval (.tmp q6),h,Rg.zero _ _ _ _ _,rfl⟩
theorem lend_c {w:World} {P:Pg} {ao qo vo tto uo oo:Option Addr} {ac qc vc tc uc oc:Nat} (h:RdG w P ao qo vo tto uo oo) (h0:P.rows.length<=65536) (h2:P.qs.length<=100) (h3:P.vs.length<=100) (h4:P.ts.length<=100) (h5:P.us.length<=100) (h6:P.on.length<=100)
  (n2:qo=none->qc=0) (n3:vo=none->vc=0) (n4:tto=none->tc=0) (n5:uo=none->uc=0) (n6:oo=none->oc=0):
  Calls Tryz.prog 8 #[pvG P ao qo vo tto uo oo ac qc vc tc uc oc] w fun e w'=>Below w.heap.size w w'/\∃ v,e=.returned v/\Lp w' P v:=by
 refine Calls.mono (lendP_any h (by omega) (by omega) (by omega) (by omega) (by omega) (by omega) n2 n3 n4 n5 n6) ?_
 rintro e w' ⟨g,gq,cq,gv,cv,gt,ct,gu,cu,go,co,he,hL,hb⟩
 exact ⟨hb,_,he,g,gq,cq,gv,cv,gt,ct,gu,cu,go,co,rfl,lsRd hL⟩
theorem rounds_c {w:World} {P:Pg} {ao qo vo tto uo oo eo:Option Addr} {ac qc vc tc uc oc ec:Nat} {rl:List Int} (h:RdG w P ao qo vo tto uo oo) (hr:IsVals w eo (iv rl)) (h0:P.rows.length<=65536) (hR:rl.length<=1152921504606846975):
  Calls Tryz.prog 9 #[pvG P ao qo vo tto uo oo ac qc vc tc uc oc,.slice eo rl.length ec] w fun e w'=>Below w.heap.size w w'/\∃ v,e=.returned v/\Lt w' ((List.range P.rows.length).map (rdv P.rows rl)) v:=by
 refine Calls.mono (rounds_any h.r hr h0 hR) ?_
 rintro e w' ⟨g,he,hg,hrow,hb⟩
 refine ⟨hb,_,he,none,0,none,0,some ⟨g,0,none⟩,P.rows.length,?_,rowi_vals hrow⟩
 rw [List.length_map,List.length_range]
theorem bound_c {Wd w:World} {P:Pg} {rd:List Int} {v0 v1:Value} (hW:Wd.heap.size<=w.heap.size) (h0:Lp w P v0) (h1:Lt w rd v1) (hs:P.Sm) (hl:P.rows.length<=65536) (hq:P.qs.length<=100) (hrd:rd.length<=65536):
  Calls Tryz.prog 7 #[v0,v1] w fun e w'=>Below w.heap.size w w'/\∃ v,e=.returned v/\Bd Wd w' P rd v:=by
 obtain ⟨g,gq,cq,gv,cv,gt,ct,gu,cu,go,co,rfl,hr⟩:=h0
 obtain ⟨vo,cv,tto,ct,go,cr,rfl,hi⟩:=h1
 refine Calls.mono (cost_any hr hs hl nofun hi (by omega)) ?_
 rintro e w' ⟨r,hr,hc⟩
 exact bd_of hW hr hq hc
theorem zi_len {P:Pg} {rd:List Int} {r:Except (Nat × Nat) Co} (h:BRes P rd r) (hq:P.qs.length<=100):(zi (ctOf r).1).length<=17592186043904:=by
 rw [show (zi (ctOf r).1).length=(ctOf r).1.length by simp [zi]]
 exact on_len h hq
theorem cells_newC (w:World) (T:TypeId) (xs:List Value):∀ j u,xs[j]?=some u->(w.alloc (.cells xs.toArray T)).cell? ((⟨w.heap.size,0,none⟩:Addr).add j)=some u:=by
 intro j u h
 rw [Lib.addr_add]
 simp only [World.cell?,heap_alloc_new w (.cells xs.toArray T),Nat.zero_add]
 simpa using h
theorem cells2 {wq:World} {B:Nat} {v0 v1:Value} {T:TypeId} (h:wq.heap[B]?=some (.cells #[v0,v1] T (0,0))):wq.cell? ⟨B,0,none⟩=some v0/\wq.cell? ⟨B,1,none⟩=some v1:=by
 refine ⟨?_,?_⟩
 all_goals
  simp only [World.cell?,h]
  rfl
structure Gw (w3 wq:World) (pb:Nat) (E:Nat->Option Ent) (L1 L2:List Int) (v1 v2:Value):Prop where
 be:Below w3.heap.size w3 wq
 pe:pb+1=w3.heap.size
 ap:Ap wq pb E
 e0:∃ n,n<=wq.heap.size/\E 0=some ⟨n,3,1,v1,L1.length,iv L1⟩
 e1:∃ n,n<=wq.heap.size/\E 1=some ⟨n,3,1,v2,L2.length,iv L2⟩
section
variable {w3 wq wz:World} {pb:Nat} {E:Nat->Option Ent} {L1 L2:List Int} {v1 v2:Value}
theorem Gw.start (hp:pb+1=w3.heap.size):Gw w3 w3 pb (fun j=>if j < 2 then some ⟨w3.heap.size,3,1,pz,0,[]⟩ else none) [] [] pz pz:=by
 refine ⟨Below.refl _ _,hp,⟨fun j x hx=>?_,fun i j x y _ hx hy k hk=>?_⟩,⟨_,Nat.le_refl _,rfl⟩,⟨_,Nat.le_refl _,rfl⟩⟩
 ·split at hx
  ·cases hx
   exact ⟨by show pb < w3.heap.size;omega,World.ownsRow_nil _ _ _ _⟩
  ·cases hx
 ·split at hx
  ·cases hx
   simp [Value.ownBlock] at hk
  ·cases hx
theorem Gw.below (h:Gw w3 wq pb E L1 L2 v1 v2) (hb:Below wq.heap.size wq wz):Gw w3 wz pb E L1 L2 v1 v2:=by
 obtain ⟨n,hn,he⟩:=h.e0
 obtain ⟨m,hm,hf⟩:=h.e1
 exact ⟨h.be.trans (hb.mono h.be.size),h.pe,h.ap.below hb,⟨n,Nat.le_trans hn hb.size,he⟩,⟨m,Nat.le_trans hm hb.size,hf⟩⟩
theorem Gw.own0 (h:Gw w3 wq pb E L1 L2 v1 v2):∃ n,n<=wq.heap.size/\wq.ownsRow n 3 1 v1 L1.length (iv L1)/\∀ wz v' z,wq.grownBy wz (v1).ownBlock->wz.ownsRow n 3 1 v' (L1.length+1) (iv L1++[.int .i64 z])->(v'.ownBlock=(v1).ownBlock\/v'.ownBlock=some wq.heap.size)->∃ E',Gw w3 wz pb E' (L1++[z]) L2 v' v2:=by
 obtain ⟨n,hn,he⟩:=h.e0
 refine ⟨n,hn,(h.ap.ow 0 _ he).2,fun wz v' z hg ho hv=>?_⟩
 have hA:=h.ap.app he hg ho hv
 have hlow:∀ k,(v1).ownBlock=some k->w3.heap.size<=k:=fun k hk=>by
  have h1:=(World.ownsRow.lt (h.ap.ow 0 _ he).2 k hk).1
  have h2:=(h.ap.ow 0 _ he).1
  have h3:=h.pe
  dsimp only at h1 h2
  omega
 obtain ⟨m,hm,hf⟩:=h.e1
 refine ⟨_,⟨⟨hg.os.trans h.be.os,hg.tape.trans h.be.tape,hg.output.trans h.be.output,Nat.le_trans h.be.size hg.size,fun k hk=>(hg.block k (Nat.lt_of_lt_of_le hk h.be.size) fun e=>by have:=hlow k e.symm;omega).trans (h.be.block k hk)⟩,h.pe,hA,⟨n,Nat.le_trans hn hg.size,?_⟩,⟨m,Nat.le_trans hm hg.size,(up_ne (by omega)).trans hf⟩⟩⟩
 rw [up_same,List.length_append]
 simp only [iv,List.map_append,List.map_cons,List.map_nil,List.length_cons,List.length_nil]
theorem Gw.own1 (h:Gw w3 wq pb E L1 L2 v1 v2):∃ n,n<=wq.heap.size/\wq.ownsRow n 3 1 v2 L2.length (iv L2)/\∀ wz v' z,wq.grownBy wz (v2).ownBlock->wz.ownsRow n 3 1 v' (L2.length+1) (iv L2++[.int .i64 z])->(v'.ownBlock=(v2).ownBlock\/v'.ownBlock=some wq.heap.size)->∃ E',Gw w3 wz pb E' L1 (L2++[z]) v1 v':=by
 obtain ⟨n,hn,he⟩:=h.e1
 refine ⟨n,hn,(h.ap.ow 1 _ he).2,fun wz v' z hg ho hv=>?_⟩
 have hA:=h.ap.app he hg ho hv
 have hlow:∀ k,(v2).ownBlock=some k->w3.heap.size<=k:=fun k hk=>by
  have h1:=(World.ownsRow.lt (h.ap.ow 1 _ he).2 k hk).1
  have h2:=(h.ap.ow 1 _ he).1
  have h3:=h.pe
  dsimp only at h1 h2
  omega
 obtain ⟨m,hm,hf⟩:=h.e0
 refine ⟨_,⟨⟨hg.os.trans h.be.os,hg.tape.trans h.be.tape,hg.output.trans h.be.output,Nat.le_trans h.be.size hg.size,fun k hk=>(hg.block k (Nat.lt_of_lt_of_le hk h.be.size) fun e=>by have:=hlow k e.symm;omega).trans (h.be.block k hk)⟩,h.pe,hA,⟨m,Nat.le_trans hm hg.size,(up_ne (by omega)).trans hf⟩,⟨n,Nat.le_trans hn hg.size,?_⟩⟩⟩
 rw [up_same,List.length_append]
 simp only [iv,List.map_append,List.map_cons,List.map_nil,List.length_cons,List.length_nil]
theorem Gw.fin (h:Gw w3 wq pb E L1 L2 v1 v2):wq.ownsRow w3.heap.size 3 1 v1 L1.length (iv L1)/\wq.ownsRow w3.heap.size 3 1 v2 L2.length (iv L2):=by
 obtain ⟨n,-,he⟩:=h.e0
 obtain ⟨m,-,hf⟩:=h.e1
 have h1:=h.ap.ow 0 _ he
 have h2:=h.ap.ow 1 _ hf
 have h3:=h.pe
 dsimp only at h1 h2
 exact ⟨own_base h1.2 (by omega),own_base h2.2 (by omega)⟩
end
end Go.Proofs.YtfgpbdieaflclaaGreat.Nm.Ty
