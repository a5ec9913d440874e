import Derived.Test.YtbledbjcghaanaaGreatL34
import Derived.Test.YtbledbjcghaanaaGreatTl
set_option maxHeartbeats 6400000
set_option maxRecDepth 100000
namespace Go.Proofs.YtbledbjcghaanaaGreat.Nm.Ty
open Go.RowKit Go.Maps Sp Lx Gr Nm
theorem vC_at {l:List (Int × Int × Int)} {k:Nat} (h:k < l.length):(vC l)[k * 3]?=some (I l[k].1)/\(vC l)[k * 3+1]?=some (I l[k].2.1)/\(vC l)[k * 3+2]?=some (I l[k].2.2):=by
 induction l generalizing k with
 | nil=>simp at h
 | cons x l ih=>
  have e:vC (x :: l)=[I x.1,I x.2.1,I x.2.2]++vC l:=by simp [vC]
  cases k with
  | zero=>rw [e];exact ⟨rfl,rfl,rfl⟩
  | succ k=>
   have h2:=ih (k:=k) (by simpa using h)
   rw [e];refine ⟨?_,?_,?_⟩
   ·rw [List.getElem?_append_right (by simp;omega)]
    have:(k+1) * 3 - [Value.int .i64 x.1,I x.2.1,I x.2.2].length=k * 3:=by simp;omega
    rw [this];exact h2.1
   ·rw [List.getElem?_append_right (by simp;omega)]
    have:(k+1) * 3+1 - [Value.int .i64 x.1,I x.2.1,I x.2.2].length=k * 3+1:=by simp;omega
    rw [this];exact h2.2.1
   ·rw [List.getElem?_append_right (by simp;omega)]
    have:(k+1) * 3+2 - [Value.int .i64 x.1,I x.2.1,I x.2.2].length=k * 3+2:=by simp;omega
    rw [this];exact h2.2.2
theorem sameTyped_any {vs:List (Int × Int × Int)} {ts rl:List Int} {vo1 to1 ro1 vo2 to2 ro2:Option Addr} {vc1 tc1 rc1 vc2 tc2 rc2:Nat} {w:World} (h1:IsVals w vo1 (vC vs)) (h2:IsVals w vo2 (vC vs)) (h3:IsVals w to1 (iv ts)) (h4:IsVals w to2 (iv ts)) (h5:IsVals w ro1 (iv rl)) (h6:IsVals w ro2 (iv rl)) (hv:vs.length<=2932031007317) (ht:ts.length<=2932031007317) (hr:rl.length<=2932031007317):
  Calls Tryz.prog 27 #[.agg #[.slice vo1 vs.length vc1,.slice to1 ts.length tc1,.slice ro1 rl.length rc1],.agg #[.slice vo2 vs.length vc2,.slice to2 ts.length tc2,.slice ro2 rl.length rc2]] w fun e w'=>e=.returned (.bool true)/\Below w.heap.size w w':=by
 have hb:Below w.heap.size w ((w.alloc (.cells #[.slice vo1 vs.length vc1,.slice to1 ts.length tc1,.slice ro1 rl.length rc1] 51)).alloc (.cells #[.slice vo2 vs.length vc2,.slice to2 ts.length tc2,.slice ro2 rl.length rc2] 51)):=(bAl w _).alloc (by simp) _
 have HB:=hdn <| hb;have HX:Hid (((w.alloc (.cells #[.slice vo1 vs.length vc1,.slice to1 ts.length tc1,.slice ro1 rl.length rc1] 51)).alloc (.cells #[.slice vo2 vs.length vc2,.slice to2 ts.length tc2,.slice ro2 rl.length rc2] 51)).heap[w.heap.size]?=some (.cells #[.slice vo1 vs.length vc1,.slice to1 ts.length tc1,.slice ro1 rl.length rc1] 51 (0,0))/\((w.alloc (.cells #[.slice vo1 vs.length vc1,.slice to1 ts.length tc1,.slice ro1 rl.length rc1] 51)).alloc (.cells #[.slice vo2 vs.length vc2,.slice to2 ts.length tc2,.slice ro2 rl.length rc2] 51)).heap[w.heap.size+1]?=some (.cells #[.slice vo2 vs.length vc2,.slice to2 ts.length tc2,.slice ro2 rl.length rc2] 51 (0,0))):=⟨by rw [alloc_old _ _ _ (by simp)];exact alloc_at _ _ _ rfl,alloc_at _ _ _ (by simp)⟩
 have HS1:=hdn <| same17 (ca:=tc1) (cb:=tc2) (h3.below hb) (h4.below hb) (by omega)
 have H5:=hdn <| h5.below hb;have H6:=hdn <| h6.below hb;have H1:=hdn <| h1.below hb;have H2:=hdn <| h2.below hb;have HL:Hid (rl.length<=2932031007317):=hr;have hvl:(vs.length:Int)<=2932031007317:=by omega
 obtain ⟨a0,a1,a2⟩:=cells3 HX.out.1;obtain ⟨b0,b1,b2⟩:=cells3 HX.out.2;clear h1 h2 h3 h4 h5 h6 hv ht hr hb;go_enter Tryz.func27,Tryz.ntmps27;go_wp2_with fail;generalize ((w.alloc (.cells #[.slice vo1 vs.length vc1,.slice to1 ts.length tc1,.slice ro1 rl.length rc1] 51)).alloc (.cells #[.slice vo2 vs.length vc2,.slice to2 ts.length tc2,.slice ro2 rl.length rc2] 51))=w2 at *;refine Calls.mono HS1.out ?_;rintro e w3 ⟨⟨bb,rfl,hbb⟩,hb3⟩;have hbt:bb=true:=hbb.2 (by first | rfl | trivial)
 subst hbt;have HS2:=hdn <| same17 (ca:=rc1) (cb:=rc2) (IsVals.below H5.out hb3) (IsVals.below H6.out hb3) (by have:=HL.out;omega)
 have HX3:Hid (w3.heap[w.heap.size]?=some (.cells #[.slice vo1 vs.length vc1,.slice to1 ts.length tc1,.slice ro1 rl.length rc1] 51 (0,0))/\w3.heap[w.heap.size+1]?=some (.cells #[.slice vo2 vs.length vc2,.slice to2 ts.length tc2,.slice ro2 rl.length rc2] 51 (0,0))):=⟨(hb3.block _ (blk_lt HX.out.1)).trans HX.out.1,(hb3.block _ (blk_lt HX.out.2)).trans HX.out.2⟩;have HB3:Hid (Below w2.heap.size w2 w3):=hb3;clear hb3 hbb HS1 a0 a1 a2 b0 b1 b2;obtain ⟨a0,a1,a2⟩:=cells3 HX3.out.1;obtain ⟨b0,b1,b2⟩:=cells3 HX3.out.2;go_wp2_with fail;refine Calls.mono HS2.out ?_;rintro e w4 ⟨⟨bb,rfl,hbb⟩,hb4⟩;have hbt:bb=true:=hbb.2 (by first | rfl | trivial)
 subst hbt;have HB4:Hid (Below w2.heap.size w2 w4):=HB3.out.trans (hb4.mono HB3.out.size);have HX4:Hid (w4.heap[w.heap.size]?=some (.cells #[.slice vo1 vs.length vc1,.slice to1 ts.length tc1,.slice ro1 rl.length rc1] 51 (0,0))/\w4.heap[w.heap.size+1]?=some (.cells #[.slice vo2 vs.length vc2,.slice to2 ts.length tc2,.slice ro2 rl.length rc2] 51 (0,0))):=⟨(hb4.block _ (blk_lt HX3.out.1)).trans HX3.out.1,(hb4.block _ (blk_lt HX3.out.2)).trans HX3.out.2⟩;clear hb4 hbb HS2 a0 a1 a2 b0 b1 b2 HX HX3 HB3;go_wp2_with fail
 go_loopg [5] vs.length (fun gq x wr=>∃ k:Nat,k<=vs.length/\gq=vs.length - k/\x=I (k:Int)/\Below w4.heap.size w4 wr)
 case atStart=>exact ⟨0,Nat.zero_le _,rfl,rfl,Below.refl _ _⟩
 case round=>
  obtain ⟨k,hk,hgk,rfl,hbr⟩:=hrel;have HG:Hid (gk=vs.length - k):=hgk;have HBr:Hid (Below w4.heap.size w4 wr):=hbr;have hx1:=(hbr.block _ (blk_lt HX4.out.1)).trans HX4.out.1;have hx2:=(hbr.block _ (blk_lt HX4.out.2)).trans HX4.out.2;obtain ⟨a0,a1,a2⟩:=cells3 hx1;obtain ⟨b0,b1,b2⟩:=cells3 hx2;clear hgk hx1 hx2;by_cases hlt:k < vs.length
  ·have hlt':(k:Int) < (vs.length:Int):=by omega
   have HLt:Hid (k < vs.length):=hlt;have hbx:=HB4.out.trans (hbr.mono HB4.out.size);obtain ⟨q0,q1,q2⟩:=vC_at hlt;obtain ⟨g1,o1,e1,_,x0⟩:=(IsVals.below H1.out hbx) _ _ q0;obtain ⟨_,_,ea,_,x1⟩:=(IsVals.below H1.out hbx) _ _ q1;rw [e1] at ea;cases ea;obtain ⟨_,_,ea,_,x2⟩:=(IsVals.below H1.out hbx) _ _ q2;rw [e1] at ea;cases ea;obtain ⟨g2,o2,e2,_,y0⟩:=(IsVals.below H2.out hbx) _ _ q0;obtain ⟨_,_,ea,_,y1⟩:=(IsVals.below H2.out hbx) _ _ q1;rw [e2] at ea;cases ea;obtain ⟨_,_,ea,_,y2⟩:=(IsVals.below H2.out hbx) _ _ q2;rw [e2] at ea;cases ea;subst e1;subst e2;generalize vs[k].1=z0 at *;generalize vs[k].2.1=z1 at *;generalize vs[k].2.2=z2 at *;rw [<-Nat.add_assoc] at x1 x2 y1 y2;clear hlt hk hbr hbx q0 q1 q2;go_wp2_with fail
   go_quiet (fail)
   go_wp2_with fail
   go_roundg (vs.length - (k+1))
   case measure=>have h1:=HG.out;have:=HLt.out;omega
   case rel=>exact ⟨k+1,HLt.out,rfl,by go_num,HBr.out.trans ((below_drewN _ _).mono HBr.out.size)⟩
  ·have hlt':¬ (k:Int) < (vs.length:Int):=by omega
   clear hlt hk hbr;go_wp2_with fail;go_ret;exact ⟨rfl,HB.out.trans ((HB4.out.trans (HBr.out.mono HB4.out.size)).mono HB.out.size)⟩
end Go.Proofs.YtbledbjcghaanaaGreat.Nm.Ty
