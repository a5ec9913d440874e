import Derived.Test.YtfgpbdieaflclaaGreatK13
import Derived.Deep.RegionHeld3
set_option maxHeartbeats 12800000
set_option maxRecDepth 100000
namespace Go.Proofs.YtfgpbdieaflclaaGreat.Nm
open Go.RowKit Go.Maps Sp Lx Gr
def plc (ev:List ((Nat × Nat) × Nat)) (x:Nat × Nat):Int:=match lk ev x with | some a=>(a:Int) | none=>-1
def onsOf (ev:List ((Nat × Nat) × Nat)) (n:Nat):List Int:=(List.range n).map fun q=>plc ev (1,q)
theorem onsOf_succ (ev:List ((Nat × Nat) × Nat)) (n:Nat):onsOf ev (n+1)=onsOf ev n++[plc ev (1,n)]:=by simp [onsOf,List.range_succ]
theorem onsOf_len (ev:List ((Nat × Nat) × Nat)) (n:Nat):(onsOf ev n).length=n:=by simp [onsOf]
abbrev iv (l:List Int):List Value:=l.map fun n:Int=>Value.int .i64 n
theorem place_any {W:World} {hb mb n k m:Nat} {ev:List ((Nat × Nat) × Nat)} (hbox:W.heap[hb]?=some (.cells #[.map (some mb)] 87 (0,0))) (hm:IsMp bmap W mb (ef ev) n) (hk:k<=5/\m<=16):
  Calls Tryz.prog 76 #[.agg #[.int .i64 (k:Int),.int .i64 (m:Int)],ptr0 hb] W fun e w'=>e=.returned (.int .i64 (plc ev (k,m)))/\Below W.heap.size W w':=by
 have hb2:Below W.heap.size W (W.alloc (.cells #[.int .i64 (k:Int),.int .i64 (m:Int)] 108)):=bAl W _
 have hn2:(W.alloc (.cells #[.int .i64 (k:Int),.int .i64 (m:Int)] 108)).heap[W.heap.size]?=some (.cells #[.int .i64 (k:Int),.int .i64 (m:Int)] 108 (0,0)):=heap_alloc_new W _
 have e0:(W.alloc (.cells #[.int .i64 (k:Int),.int .i64 (m:Int)] 108)).cell? ⟨W.heap.size,0,none⟩=some (.int .i64 (k:Int)):=by rw [World.cell?,hn2];rfl
 have e1:(W.alloc (.cells #[.int .i64 (k:Int),.int .i64 (m:Int)] 108)).cell? ⟨W.heap.size,1,none⟩=some (.int .i64 (m:Int)):=by rw [World.cell?,hn2];rfl
 obtain ⟨d2,_⟩:=box_cell ((hb2.block hb (Array.getElem?_eq_some_iff.1 hbox).1).trans hbox)
 have hlk:=(hm.same (hb2.block mb hm.lt)).lookOk bmap_law (k:=(k,m)) hk
 have hlk':(Instr.lookup 87 (.map (some mb)) (.agg #[.int .i64 (k:Int),.int .i64 (m:Int)]) true).run Tryz.prog (W.alloc (.cells #[.int .i64 (k:Int),.int .i64 (m:Int)] 108))=.ok (.tuple #[((ef ev) (k,m)).getD (.int .i64 0),.bool ((ef ev) (k,m)).isSome]) (W.alloc (.cells #[.int .i64 (k:Int),.int .i64 (m:Int)] 108)):=hlk
 have HB:Hid (Below W.heap.size W (W.alloc (.cells #[.int .i64 (k:Int),.int .i64 (m:Int)] 108))):=hb2
 have HP:Hid (plc ev (k,m)=match lk ev (k,m) with | some a=>(a:Int) | none=>-1):=rfl
 have hef:(ef ev) (k,m)=(lk ev (k,m)).map fun e:Nat=>.int .i64 (e:Int):=rfl
 rw [hef] at hlk'
 clear hbox hm hk hb2 hn2 hlk hef
 unfold ptr0
 generalize plc ev (k,m)=z at *
 cases hf:lk ev (k,m) with
 | none=>
  rw [hf] at hlk' HP
  simp only [Option.map_none,Option.getD_none,Option.isSome_none] at hlk' HP
  go_enter Tryz.func76,Tryz.ntmps76
  go_wp2
  go_ret
  exact ⟨by rw [HP.out];rfl,HB.out⟩
 | some v=>
  rw [hf] at hlk' HP
  simp only [Option.map_some,Option.getD_some,Option.isSome_some] at hlk' HP
  go_enter Tryz.func76,Tryz.ntmps76
  go_wp2
  go_ret
  exact ⟨by rw [HP.out];rfl,HB.out⟩
structure Plc (W wr:World) (pb:Nat) (nm rows qv vv tv uv ov:Value) (ev:List ((Nat × Nat) × Nat)) (mb j:Nat):Prop where
 fb:Fb [pb] W.heap.size W wr
 bx:wr.heap[W.heap.size]?=some (.cells #[.map (some mb)] 87 (0,0))
 blk:wr.heap[pb]?=some (.cells #[nm,rows,qv,vv,tv,uv,ov,.int .i64 0] 28 (0,0))
 own:wr.ownsRow (W.heap.size+1) 3 1 ov j (iv (onsOf ev j))
section
variable {W wr w':World} {pb mb j:Nat} {nm rows qv vv tv uv ov:Value} {ev:List ((Nat × Nat) × Nat)}
theorem Plc.lt (h:Plc W wr pb nm rows qv vv tv uv ov ev mb j):W.heap.size+1<=wr.heap.size:=(Array.getElem?_eq_some_iff.1 h.bx).1
theorem Plc.below (h:Plc W wr pb nm rows qv vv tv uv ov ev mb j) (hb:Below wr.heap.size wr w'):Plc W w' pb nm rows qv vv tv uv ov ev mb j:=
 ⟨h.fb.trans (Fb.of_below (hb.mono h.fb.size)),(hb.block _ (Array.getElem?_eq_some_iff.1 h.bx).1).trans h.bx,(hb.block _ (Array.getElem?_eq_some_iff.1 h.blk).1).trans h.blk,own_below h.own hb⟩
theorem Plc.put {v':Value} (h:Plc W wr pb nm rows qv vv tv uv ov ev mb j) (hpb:pb < W.heap.size) (hg:Gone wr ov w' v') (ho:w'.ownsRow (W.heap.size+1) 3 1 v' (j+1) (iv (onsOf ev j)++[.int .i64 (plc ev (1,j))])):
  w'.heap[pb]?=some (.cells #[nm,rows,qv,vv,tv,uv,ov,.int .i64 0] 28 (0,0))/\Plc W (w'.setCell ⟨pb,6,none⟩ v') pb nm rows qv vv tv uv v' ev mb (j+1):=by
 have hov:∀ k,ov.ownBlock=some k->W.heap.size+1<=k:=fun k e=>(World.ownsRow.lt h.own k e).1
 have hlt:=h.lt
 have hkeep:∀ k,k < W.heap.size+1->w'.heap[k]?=wr.heap[k]?:=fun k hk=>hg.1.block k (by omega) (fun e=>by have:=hov k e.symm;omega)
 have hp:=(hkeep pb (by omega)).trans h.blk
 have hset:∀ k,k ≠ pb->(w'.setCell ⟨pb,6,none⟩ v').heap[k]?=w'.heap[k]?:=fun k hk=>Below.heap_setCell w' _ v' k (fun e=>hk e)
 refine ⟨hp,⟨⟨hg.1.os.trans h.fb.os,hg.1.tape.trans h.fb.tape,hg.1.output.trans h.fb.output,?_,fun k hk hn=>?_⟩,?_,?_,?_⟩⟩
 ·have:=hg.1.size
  simp [World.setCell]
  omega
 ·rw [hset k (by simpa using hn),hkeep k (by omega)]
  exact h.fb.block k hk hn
 ·rw [hset _ (by omega),hkeep _ (by omega)]
  exact h.bx
 ·have:=heap_setCell_same w' pb 6 _ 28 v' hp
  simpa using this
 ·rw [onsOf_succ]
  have:(w'.setCell ⟨pb,6,none⟩ v').ownsRow (W.heap.size+1) 3 1 v' (j+1) (iv (onsOf ev j)++[.int .i64 (plc ev (1,j))]):=own_keepB ho (fun k hk=>hset k (by have:=(World.ownsRow.lt ho k hk).1;omega))
  simpa [iv] using this
end
theorem placeEvents_any {W:World} {pb mb n nq qc:Nat} {nm rows vv tv uv:Value} {qo:Option Addr} {ev:List ((Nat × Nat) × Nat)} (hp:W.heap[pb]?=some (.cells #[nm,rows,.slice qo nq qc,vv,tv,uv,.slice none 0 0,.int .i64 0] 28 (0,0))) (hm:IsMp bmap W mb (ef ev) n) (hq:nq<=16):
  Calls Tryz.prog 52 #[.pointer (some ⟨pb,0,none⟩),.map (some mb)] W fun e w'=>e=.returned (.tuple #[])/\Fb [pb] W.heap.size W w'/\∃ ov,w'.heap[pb]?=some (.cells #[nm,rows,.slice qo nq qc,vv,tv,uv,ov,.int .i64 (plc ev (5,0))] 28 (0,0))/\w'.ownsRow (W.heap.size+1) 3 1 ov nq (iv (onsOf ev nq)):=by
 have hpl:pb < W.heap.size:=(Array.getElem?_eq_some_iff.1 hp).1
 have hb1:Below W.heap.size W (W.alloc (.cells #[.map (some mb)] 87)):=bAl W _
 have h0:Plc W (W.alloc (.cells #[.map (some mb)] 87)) pb nm rows (.slice qo nq qc) vv tv uv (.slice none 0 0) ev mb 0:=⟨Fb.of_below hb1,heap_alloc_new W _,(hb1.block pb hpl).trans hp,⟨by simp [onsOf],Or.inl ⟨rfl,rfl⟩⟩⟩
 have H0:=hdn <| h0
 have c2:(W.alloc (.cells #[.map (some mb)] 87)).cell? ⟨pb,2,none⟩=some (.slice qo nq qc):=by simp only [World.cell?,h0.blk];rfl
 have HM:Hid (IsMp bmap W mb (ef ev) n/\mb ≠ pb/\pb < W.heap.size):=⟨hm,Ne.symm (hm.ne_cells hp),hpl⟩
 obtain ⟨j0,hj,hj0,hj1,hj2⟩:=info_parts infoI
 have hq2:(nq:Int)<=16:=by omega
 have HC:Hid (∀ (k m:Nat) (wq:World) (ov:Value) (j:Nat),k<=5->m<=16->Plc W wq pb nm rows (.slice qo nq qc) vv tv uv ov ev mb j->Calls Tryz.prog 76 #[.agg #[.int .i64 (k:Int),.int .i64 (m:Int)],.pointer (some ⟨W.heap.size,0,none⟩)] wq fun e w'=>e=.returned (.int .i64 (plc ev (k,m)))/\Below wq.heap.size wq w'):=fun k m wq ov j hk hm2 hP=>place_any hP.bx (HM.out.1.same (hP.fb.block mb HM.out.1.lt (by have:=HM.out.2.1;simpa using this))) ⟨hk,hm2⟩
 clear hp hm h0 hb1 hpl
 go_enter Tryz.func52,Tryz.ntmps52
 go_wp2_with fail
 go_loopg [12] nq (fun gq x wr=>∃ j ov,j+gq=nq/\x=.int .i64 (j:Int)/\Plc W wr pb nm rows (.slice qo nq qc) vv tv uv ov ev mb j)
 case atStart=>exact ⟨0,_,by omega,rfl,H0.out⟩
 case round=>
  obtain ⟨j,ov,hjg,rfl,hP⟩:=hrel
  have HJ:Hid (j+gk=nq):=hjg
  have HP:=hdn <| hP
  by_cases hlt:j < nq
  ·have hj':(j:Int) < (nq:Int):=by omega
   have HL:Hid (j<=16):=by show _<=_;omega
   have c6:wr.drew.cell? ⟨pb,6,none⟩=some ov:=by simp only [World.cell?,(hP.below (Below.refl _ wr).drew).blk];rfl
   clear hjg hP hlt c2
   go_wp2_with fail
   refine wp_region_held (S:=fun _=>True) (by kernel_rfl) ?_
   have hS:(fun _:World=>True) wr.drew:=trivial
   change wpAnyH _ _ _ _ _ _ _ _ wr.drew
   refine tk (i:=0) (v:=?v0) rfl (Or.inl ⟨by rfl,?y0⟩) hS ?r0
   case y0=>
    intro w hSw
    first
     | (go_simp;done)
     | (go_simp;with_reducible rfl)
   refine tk (i:=1) (v:=?v1) rfl (Or.inl ⟨by rfl,?y1⟩) hS ?r1
   case y1=>
    intro w hSw
    first
     | (go_simp;done)
     | (go_simp;with_reducible rfl)
   refine tk (i:=2) (v:=?v2) rfl (Or.inl ⟨by rfl,?y2⟩) hS ?r2
   case y2=>
    intro w hSw
    first
     | (go_simp;done)
     | (go_simp;with_reducible rfl)
   refine tk (i:=3) (v:=?v3) rfl (Or.inl ⟨by rfl,?y3⟩) hS ?r3
   case y3=>
    intro w hSw
    first
     | (go_simp;done)
     | (go_simp;with_reducible rfl)
   refine tk (i:=5) (v:=?v4) rfl (Or.inl ⟨by rfl,?y4⟩) hS ?r4
   case y4=>
    intro w hSw
    first
     | (go_simp;done)
     | (go_simp;with_reducible rfl)
   refine tk (i:=6) (v:=?v5) rfl (Or.inl ⟨by rfl,?y5⟩) hS ?r5
   case y5=>
    intro w hSw
    first
     | (go_simp;done)
     | (go_simp;with_reducible rfl)
   refine tk (i:=7) (v:=?v6) rfl (Or.inl ⟨by rfl,?y6⟩) hS ?r6
   case y6=>
    intro w hSw
    first
     | (go_simp;done)
     | (go_simp;with_reducible rfl)
   have HPd:=hdn <| HP.out.below (Below.refl _ wr).drew
   generalize wr.drew=wd at *
   refine rd2 4 8 (by kernel_rfl) rfl rfl (fun K hK=>?_) (fun K hK=>?_)
   ·go_simp
    refine hK.out _ _ trivial (fun hS=>?_)
    refine rd1 8 rfl fun K hK=>?_
    go_simp
    refine Calls.mono (HC.out 1 j wd ov j (by decide) HL.out HPd.out) ?_
    rintro e w2 ⟨rfl,hb2⟩
    have HP2:=hdn <| HPd.out.below hb2
    have c62:w2.cell? ⟨pb,6,none⟩=some ov:=by simp only [World.cell?,HP2.out.blk];rfl
    have HP3:=hdn <| HP2.out.below (bAl w2 (.cells #[.int .i64 (plc ev (1,j))] 3))
    have c63:(w2.alloc (.cells #[.int .i64 (plc ev (1,j))] 3)).cell? ⟨pb,6,none⟩=some ov:=by simp only [World.cell?,HP3.out.blk];rfl
    clear hb2
    refine hK.out _ _ trivial (fun hS=>?_)
    refine rd1 9 rfl fun K hK=>?_
    go_simp
    refine hK.out _ _ trivial (fun hS=>?_)
    refine rd1 10 rfl fun K hK=>?_
    refine step_gone _ rfl (.tmp 19) (.tmp 24) 23 rfl (W.heap.size+1) 3 j0 (.int .i64 0) 1 8 Tryz.underlying23 hj hj0 hj1 hj2 rfl (by decide) ov _ (iv (onsOf ev j)) (by simp [Act.eval]) HP3.out.own ⟨w2.heap.size,0,none⟩ 1 1 [.int .i64 (plc ev (1,j))] (by simp [Act.eval]) rfl (cell_one w2 _ _) (by intro u hu;simp only [List.mem_cons,List.not_mem_nil,or_false] at hu;subst hu;rfl) (by have:=HL.out;unfold maxLen;omega) (by have:=HL.out;omega) HP3.out.lt (by decide) ?_
    intro xv' w4 ho hG
    obtain ⟨hpb4,hP4⟩:=HP3.out.put HM.out.2.2 hG ho
    have HP4:=hdn <| hP4
    have e6:w4.cell? ⟨pb,6,none⟩=some ov:=by simp only [World.cell?,hpb4];rfl
    have f6:w4.frozen? ⟨pb,6,none⟩=false:=by simp only [World.frozen?,hpb4];rfl
    obtain ⟨bo,bc,rfl⟩:=own_form ho
    clear ho hG hP4 hpb4
    refine hK.out _ _ trivial (fun hS=>?_)
    refine rd1 11 rfl fun K hK=>?_
    go_simp
    refine hK.out _ _ trivial (fun hS=>?_)
    refine rd1 12 rfl fun K hK=>?_
    go_simp
    refine hK.out _ _ trivial (fun hS=>?_)
    refine rd1 13 rfl fun K hK=>?_
    go_simp
    refine hK.out _ _ trivial (fun hS=>?_)
    refine wpAnyH_done (by kernel_rfl) ?_ _
    go_wp2_with fail
    go_roundg (nq - (j+1))
    case measure=>have:=HJ.out;omega
    case rel=>exact ⟨j+1,_,by have:=HJ.out;omega,by go_num,HP4.out⟩
   ·go_simp
    refine Calls.mono (HC.out 1 j wd ov j (by decide) HL.out HPd.out) ?_
    rintro e w2 ⟨rfl,hb2⟩
    have HP2:=hdn <| HPd.out.below hb2
    have c62:w2.cell? ⟨pb,6,none⟩=some ov:=by simp only [World.cell?,HP2.out.blk];rfl
    have HP3:=hdn <| HP2.out.below (bAl w2 (.cells #[.int .i64 (plc ev (1,j))] 3))
    have c63:(w2.alloc (.cells #[.int .i64 (plc ev (1,j))] 3)).cell? ⟨pb,6,none⟩=some ov:=by simp only [World.cell?,HP3.out.blk];rfl
    clear hb2
    refine hK.out _ _ trivial (fun hS=>?_)
    refine rd2 4 9 (by kernel_rfl) rfl rfl (fun K hK=>?_) (fun K hK=>?_)
    rotate_right
    focus
     go_simp
     refine hK.out _ _ trivial (fun hS=>?_)
     refine wpAnyH_ready (rs:=[4]) (by kernel_rfl) (by simp) ?_
    rotate_right
    focus
     go_simp
     refine hK.out _ _ trivial (fun hS=>?_)
     refine wpAnyH_ready (rs:=[9]) (by kernel_rfl) (by simp) ?_
    all_goals
     refine AllReadyH.cons rfl (fun K hK=>?_) AllReadyH.nil
     go_simp
     refine hK.out _ _ trivial (fun hS=>?_)
     refine rd1 10 rfl fun K hK=>?_
     refine step_gone _ rfl (.tmp 19) (.tmp 24) 23 rfl (W.heap.size+1) 3 j0 (.int .i64 0) 1 8 Tryz.underlying23 hj hj0 hj1 hj2 rfl (by decide) ov _ (iv (onsOf ev j)) (by simp [Act.eval]) HP3.out.own ⟨w2.heap.size,0,none⟩ 1 1 [.int .i64 (plc ev (1,j))] (by simp [Act.eval]) rfl (cell_one w2 _ _) (by intro u hu;simp only [List.mem_cons,List.not_mem_nil,or_false] at hu;subst hu;rfl) (by have:=HL.out;unfold maxLen;omega) (by have:=HL.out;omega) HP3.out.lt (by decide) ?_
     intro xv' w4 ho hG
     obtain ⟨hpb4,hP4⟩:=HP3.out.put HM.out.2.2 hG ho
     have HP4:=hdn <| hP4
     have e6:w4.cell? ⟨pb,6,none⟩=some ov:=by simp only [World.cell?,hpb4];rfl
     have f6:w4.frozen? ⟨pb,6,none⟩=false:=by simp only [World.frozen?,hpb4];rfl
     obtain ⟨bo,bc,rfl⟩:=own_form ho
     clear ho hG hP4 hpb4
     refine hK.out _ _ trivial (fun hS=>?_)
     refine rd1 11 rfl fun K hK=>?_
     go_simp
     refine hK.out _ _ trivial (fun hS=>?_)
     refine rd1 12 rfl fun K hK=>?_
     go_simp
     refine hK.out _ _ trivial (fun hS=>?_)
     refine rd1 13 rfl fun K hK=>?_
     go_simp
     refine hK.out _ _ trivial (fun hS=>?_)
     refine wpAnyH_done (by kernel_rfl) ?_ _
     go_wp2_with fail
     go_roundg (nq - (j+1))
     case measure=>have:=HJ.out;omega
     case rel=>exact ⟨j+1,_,by have:=HJ.out;omega,by go_num,HP4.out⟩
  ·have hj':decide ((j:Int) < (nq:Int))=false:=by simp;omega
   obtain rfl:j=nq:=by have:=HJ.out;omega
   have HC5:=hdn <| HC.out 5 0 wr ov j (by decide) (by decide) hP
   clear hjg hP hlt c2
   go_wp2_with fail
   refine Calls.mono HC5.out ?_
   rintro e w2 ⟨rfl,hb2⟩
   have hP2:=HP.out.below hb2
   have e7:w2.cell? ⟨pb,7,none⟩=some (.int .i64 0):=by simp only [World.cell?,hP2.blk];rfl
   have f7:w2.frozen? ⟨pb,7,none⟩=false:=by simp only [World.frozen?,hP2.blk];rfl
   have hset:∀ k,k ≠ pb->(w2.setCell ⟨pb,7,none⟩ (.int .i64 (plc ev (5,0)))).heap[k]?=w2.heap[k]?:=fun k hk=>Below.heap_setCell w2 _ _ k (fun e=>hk e)
   have HX:Hid (Fb [pb] W.heap.size W (w2.setCell ⟨pb,7,none⟩ (.int .i64 (plc ev (5,0))))/\(w2.setCell ⟨pb,7,none⟩ (.int .i64 (plc ev (5,0)))).heap[pb]?=some (.cells #[nm,rows,.slice qo j qc,vv,tv,uv,ov,.int .i64 (plc ev (5,0))] 28 (0,0))/\(w2.setCell ⟨pb,7,none⟩ (.int .i64 (plc ev (5,0)))).ownsRow (W.heap.size+1) 3 1 ov j (iv (onsOf ev j))):=by
    refine ⟨hP2.fb.trans set_fb,?_,own_keepB hP2.own (fun k hk=>hset k (by have:=(World.ownsRow.lt hP2.own k hk).1;have:=HM.out.2.2;omega))⟩
    have:=heap_setCell_same w2 pb 7 _ 28 (.int .i64 (plc ev (5,0))) hP2.blk
    simpa using this
   clear hb2 hP2 hset
   go_wp2
   go_end0
   exact ⟨rfl,HX.out.1,ov,HX.out.2⟩
def rz5 (r:Rz):List Value:=[.int .i64 r.kind,.string r.name,.int .i64 r.stop,.int .i64 r.n,.int .i64 r.kids]
theorem rz5_len (l:List Rz):(l.flatMap rz5).length=l.length * 5:=by
 induction l with
 | nil=>rfl
 | cons r l ih=>rw [List.flatMap_cons,List.length_append,ih,List.length_cons];show 5+_=_;omega
theorem rz5_at (l:List Rz) (i j:Nat) (r:Rz) (h:l[i]?=some r) (hj:j < 5):(l.flatMap rz5)[i * 5+j]?=(rz5 r)[j]?:=by
 induction l generalizing i with
 | nil=>simp at h
 | cons y l ih=>
  rw [List.flatMap_cons]
  cases i with
  | zero=>
   simp at h
   subst h
   rw [List.getElem?_append_left (by show _ < 5;omega)]
   simp
  | succ i=>
   rw [List.getElem?_append_right (by show 5<=_;omega),show (i+1) * 5+j - (rz5 y).length=i * 5+j by show _ - 5=_;omega]
   exact ih i (by simpa using h)
theorem rz_cells {w:World} {ao:Option Addr} {l:List Rz} (h:IsRz w ao l) (h0:0 < l.length):∃ g o,ao=some ⟨g,o,none⟩/\g < w.heap.size/\∀ j u,(l.flatMap rz5)[j]?=some u->w.cell? ((⟨g,o,none⟩:Addr).add j)=some u:=by
 obtain ⟨g,o,rfl,hg,_⟩:=h 0 l[0] (List.getElem?_eq_getElem h0)
 refine ⟨g,o,rfl,hg,fun j u hu=>?_⟩
 have hj:j < l.length * 5:=by
  have:=(List.getElem?_eq_some_iff.1 hu).1
  rw [rz5_len] at this
  exact this
 have hi:j / 5 < l.length:=by omega
 have hx:=List.getElem?_eq_getElem hi
 have hd:j=(j / 5) * 5+j % 5:=by omega
 rw [hd,rz5_at l (j / 5) (j % 5) _ hx (by omega)] at hu
 obtain ⟨g',o',he,_,c0,c1,c2,c3,c4⟩:=h (j / 5) _ hx
 simp only [Option.some.injEq,Addr.mk.injEq,and_true] at he
 obtain ⟨rfl,rfl⟩:=he
 rw [Lib.addr_add]
 have hm:j % 5 < 5:=by omega
 generalize j % 5=m at hu hd hm
 generalize j / 5=q at *
 show w.cell? ⟨g,o+j,none⟩=_
 rw [hd]
 match m,hm with
 | 0,_=>simpa [rz5,Nat.add_assoc] using c0.trans hu
 | 1,_=>rw [<-Nat.add_assoc];exact c1.trans hu
 | 2,_=>rw [<-Nat.add_assoc];exact c2.trans hu
 | 3,_=>rw [<-Nat.add_assoc];exact c3.trans hu
 | 4,_=>rw [<-Nat.add_assoc];exact c4.trans hu
theorem rz5_one (l:List Rz):∀ v ∈ l.flatMap rz5,v.oneCell'=true:=by
 intro v hv
 rw [List.mem_flatMap] at hv
 obtain ⟨r,_,hv⟩:=hv
 simp only [rz5,List.mem_cons,List.not_mem_nil,or_false] at hv
 rcases hv with rfl | rfl | rfl | rfl | rfl<;>rfl
theorem infoRw:(Tryz.prog.info? 47).map (fun i=>(i.zero,i.size,i.bytes))=some (some (.agg #[.int .i64 0,.string ⟨#[]⟩,.int .i64 0,.int .i64 0,.int .i64 0]),5,48):=by kernel_rfl
theorem rw_of_own {w:World} {base ad c:Nat} {l:List Rz} (h:w.ownsRow base 47 5 (.slice (some ⟨ad,0,none⟩) l.length c) l.length (l.flatMap rz5)):Rw w ad l:=by
 have hc:=h.cells (g:=ad) rfl
 rcases h.2 with ⟨e,_⟩ | ⟨g,cap,cur,e,h3,h4,h5⟩
 ·cases e
 ·cases e
  refine ⟨_,h4,fun i x hx=>?_⟩
  have hat:∀ j,j < 5->∀ u,(rz5 x)[j]?=some u->w.cell? ⟨ad,i * 5+j,none⟩=some u:=fun j hj u hu=>by
   have:=hc (i * 5+j) u ((rz5_at l i j x hx hj).trans hu)
   rw [Lib.addr_add] at this
   simpa using this
  have hce:∀ j u,w.cell? ⟨ad,j,none⟩=some u->cur[j]?=some u:=fun j u hu=>by
   simp only [World.cell?,h4] at hu
   exact hu
  exact ⟨hce _ _ (hat 0 (by decide) _ rfl),hce _ _ (hat 1 (by decide) _ rfl),hce _ _ (hat 2 (by decide) _ rfl),hce _ _ (hat 3 (by decide) _ rfl),hce _ _ (hat 4 (by decide) _ rfl)⟩
theorem clone_rows (w:World) (a:Addr) (c:Nat) (l:List Rz) (h:IsRz w (some a) l) (hn:l.length<=2932031007317):
  Calls Tryz.prog 47 #[.slice (some a) l.length c] w fun r w'=>∃ ad c',r=.returned (.slice (some ⟨ad,0,none⟩) l.length c')/\Rw w' ad l/\w.heap.size<=ad/\Below w.heap.size w w':=by
 have hnil:∀ u:World,(binOp BinOp.eql 22 (.slice (some a) l.length c) (.slice none 0 0)).run Tryz.prog u=.ok (.bool false) u:=fun _=>rfl
 obtain ⟨i0,hi,hz0,hz1,hz2⟩:=info_parts infoRw
 have hb1:Below w.heap.size w (w.alloc (.cells #[] 47)):=bAl w _
 have HB:Hid (Below w.heap.size w (w.alloc (.cells #[] 47))):=hb1
 have HO:Hid ((w.alloc (.cells #[] 47)).ownsRow w.heap.size 47 5 (.slice (some ⟨w.heap.size,0,none⟩) 0 0) 0 []):=own_mk (cur:=[]) rfl (Nat.le_refl _) (heap_alloc_new w _) (Nat.le_refl _) (Nat.zero_le _) rfl rfl
 have HC:Hid ((∀ j u,(l.flatMap rz5)[j]?=some u->(w.alloc (.cells #[] 47)).cell? (a.add j)=some u)/\(∀ u ∈ l.flatMap rz5,u.oneCell'=true)/\(l.flatMap rz5).length=l.length * 5/\l.length<=2932031007317):=by
  refine ⟨fun j u hu=>?_,rz5_one l,rz5_len l,hn⟩
  have h0:0 < l.length:=by
   have:=(List.getElem?_eq_some_iff.1 hu).1
   rw [rz5_len] at this
   omega
  obtain ⟨g,o,e,hg,hc⟩:=rz_cells (h.below hb1) h0
  cases e
  exact hc j u hu
 generalize hxs:l.flatMap rz5=xs at *
 have HX:Hid (l.flatMap rz5=xs):=hxs
 clear hxs
 clear h hn hb1
 go_enter Tryz.func47,Tryz.ntmps47
 go_wp2_with (at_builtin;refine wpList_append_own _ rfl _ _ 22 rfl w.heap.size 47 i0 (.agg #[.int .i64 0,.string ⟨#[]⟩,.int .i64 0,.int .i64 0,.int .i64 0]) 5 48 Tryz.underlying22 hi hz0 hz1 hz2 rfl (by decide) (.slice (some ⟨w.heap.size,0,none⟩) 0 0) 0 [] rfl HO.out a l.length c xs rfl HC.out.2.2.1 HC.out.1 HC.out.2.1 ?c3 ?c4 ?c5 ?_)
 case c3=>have:=HC.out.2.2.2;unfold maxLen;omega
 case c4=>have:=HC.out.2.2.2;omega
 case c5=>exact HB.out.size
 intro v' w2 ho hg hiff
 have HR:Hid (w2.ownsRow w.heap.size 47 5 v' l.length xs/\Below w.heap.size w w2):=⟨ho,HB.out.grown hg HB.out.size (fun k e=>by cases e;exact Nat.le_refl _)⟩
 have hform:∃ ad c',v'=.slice (some ⟨ad,0,none⟩) l.length c':=by
  rcases HR.out.1.2 with ⟨e1,_⟩ | ⟨g,cap,cur,e1,_⟩
  ·exact absurd e1 hiff
  ·exact ⟨g,cap,e1⟩
 obtain ⟨ad,c',rfl⟩:=hform
 clear ho hg hiff
 go_wp2
 go_ret
 have ho:=HR.out.1
 rw [<-HX.out] at ho
 exact ⟨_,_,rfl,rw_of_own ho,(World.ownsRow.lt ho ad rfl).1,HR.out.2⟩
end Go.Proofs.YtfgpbdieaflclaaGreat.Nm
