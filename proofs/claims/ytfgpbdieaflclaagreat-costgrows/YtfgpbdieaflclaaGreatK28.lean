import Derived.Deep.LoopGhost
import Derived.Test.YtfgpbdieaflclaaGreatK27
import Derived.Test.YtfgpbdieaflclaaGreatK17
set_option maxHeartbeats 12800000
set_option maxRecDepth 100000
namespace Go.Proofs.YtfgpbdieaflclaaGreat.Nm
open Go.RowKit Sp Lx
theorem declares_any (k:Int) (w:World):Calls Tryz.prog 15 #[.int .i64 k] w fun e w'=>e=.returned (.int .i64 (decl k:Nat))/\w'=w:=by
 have HD:Hid (decl k=if k=2\/k=3 then 1 else if k=4 then 2 else if k=5 then 3 else if k=7 then 4 else 0):=rfl
 generalize decl k=z at *
 go_enter Tryz.func15,Tryz.ntmps15
 go_wp2
 all_goals
  go_ret
  refine ⟨?_,rfl⟩
  rw [HD.out]
  simp_all
theorem names_any (k:Int) (w:World):Calls Tryz.prog 17 #[.int .i64 k] w fun e w'=>e=.returned (.int .i64 (nmd k:Nat))/\w'=w:=by
 have HD:Hid (nmd k=if k=8\/k=9\/k=16\/k=17\/k=21\/k=19\/k=20\/k=24\/k=26\/k=31\/k=32\/k=35\/k=36\/k=37 then 1 else if k=14\/k=28 then 2 else if k=15\/k=38 then 3 else if k=22 then 4 else 0):=rfl
 generalize nmd k=z at *
 go_enter Tryz.func17,Tryz.ntmps17
 go_wp2
 all_goals
  go_ret
  refine ⟨?_,rfl⟩
  rw [HD.out]
  simp_all
theorem rmost_any (k:Nat) (h1:1<=k) (h4:k<=4) (w:World):Calls Tryz.prog 34 #[.int .i64 (k:Int)] w fun e w'=>e=.returned (.int .i64 (mst k:Nat))/\w'=w:=by
 obtain rfl | rfl | rfl | rfl:k=1\/k=2\/k=3\/k=4:=by omega
 all_goals
  go_enter Tryz.func34,Tryz.ntmps34
  go_wp2
  go_ret
  exact ⟨rfl,rfl⟩
theorem isEvent_any (k:Int) (w:World):Calls Tryz.prog 19 #[.int .i64 k] w fun e w'=>(∃ b,e=.returned (.bool b)/\(b=true ↔ (k=8\/k=9\/k=10)))/\w'=w:=by
 by_cases h8:k=8
 ·subst h8
  go_enter Tryz.func19,Tryz.ntmps19
  go_wp2
  go_ret
  exact ⟨⟨true,rfl,by simp⟩,rfl⟩
 ·have b8:(k == 8)=false:=by simp [h8]
  by_cases h9:k=9
  ·subst h9
   go_enter Tryz.func19,Tryz.ntmps19
   go_wp2
   go_ret
   exact ⟨⟨true,rfl,by simp⟩,rfl⟩
  ·have b9:(k == 9)=false:=by simp [h9]
   have H89:Hid (k ≠ 8/\k ≠ 9):=⟨h8,h9⟩
   clear h8 h9
   by_cases h10:k=10
   ·have b10:(k == 10)=true:=by simp [h10]
    have H10:=hdn <| h10
    clear h10
    go_enter Tryz.func19,Tryz.ntmps19
    go_wp2
    go_ret
    exact ⟨⟨true,rfl,by simp [H10.out]⟩,rfl⟩
   ·have b10:(k == 10)=false:=by simp [h10]
    have H10:=hdn <| h10
    clear h10
    go_enter Tryz.func19,Tryz.ntmps19
    go_wp2
    go_ret
    refine ⟨⟨false,rfl,⟨fun h=>(by cases h),fun h=>?_⟩⟩,rfl⟩
    rcases h with h | h | h
    ·exact absurd h H89.out.1
    ·exact absurd h H89.out.2
    ·exact absurd h H10.out
theorem rplus_any (a b:Nat) (ha:a<=4611686018427387904) (hb:b<=4611686018427387904) (w:World):Calls Tryz.prog 22 #[.int .i64 a,.int .i64 b] w fun e w'=>e=.returned (.int .i64 (pls a b:Nat))/\w'=w:=by
 have h1:(a:Int)<=4611686018427387904:=by omega
 have h2:(b:Int)<=4611686018427387904:=by omega
 by_cases h:(4611686018427387904:Int) - b < a
 ·have HP:Hid ((pls a b:Int)=4611686018427387904):=by
   show _=_
   unfold pls
   omega
  have hd:decide ((4611686018427387904:Int) - b < a)=true:=decide_eq_true h
  clear h
  generalize pls a b=z at *
  go_enter Tryz.func22,Tryz.ntmps22
  go_wp2
  all_goals
   go_ret
   exact ⟨by rw [HP.out];rfl,rfl⟩
 ·have HP:Hid ((pls a b:Int)=a+b):=by
   show _=_
   unfold pls
   omega
  have hd:decide ((4611686018427387904:Int) - b < a)=false:=decide_eq_false h
  have h3:(a:Int)+b<=4611686018427387904:=by omega
  clear h
  generalize pls a b=z at *
  go_enter Tryz.func22,Tryz.ntmps22
  go_wp2
  all_goals
   go_ret
   exact ⟨by rw [HP.out];rfl,rfl⟩
abbrev Th:=ByteArray × Nat × Nat × Nat
def thF (l:List Th):List Value:=l.flatMap fun x=>[.string x.1,.int .i64 (x.2.1:Int),.int .i64 (x.2.2.1:Int),.int .i64 (x.2.2.2:Int)]
theorem thF_at (l:List Th) (k:Nat) (hk:k < l.length):(thF l)[k * 4]?=some (.string l[k].1)/\(thF l)[k * 4+1]?=some (.int .i64 (l[k].2.1:Int))/\(thF l)[k * 4+2]?=some (.int .i64 (l[k].2.2.1:Int))/\(thF l)[k * 4+3]?=some (.int .i64 (l[k].2.2.2:Int)):=by
 induction l generalizing k with
 | nil=>simp at hk
 | cons x l ih=>
  cases k with
  | zero=>exact ⟨rfl,rfl,rfl,rfl⟩
  | succ k=>
   have:=ih k (by simpa using hk)
   have e:thF (x :: l)=.string x.1 :: .int .i64 (x.2.1:Int) :: .int .i64 (x.2.2.1:Int) :: .int .i64 (x.2.2.2:Int) :: thF l:=rfl
   rw [e,show (k+1) * 4=k * 4+1+1+1+1 by omega]
   exact ⟨by simpa using this.1,by simpa using this.2.1,by simpa using this.2.2.1,by simpa using this.2.2.2⟩
def IsTh (w:World) (ao:Option Addr) (l:List Th):Prop:=∀ k (hk:k < l.length),∃ g o,ao=some ⟨g,o,none⟩/\w.cell? ⟨g,o+k * 4,none⟩=some (.string l[k].1)/\w.cell? ⟨g,o+k * 4+1,none⟩=some (.int .i64 (l[k].2.1:Int))/\w.cell? ⟨g,o+k * 4+2,none⟩=some (.int .i64 (l[k].2.2.1:Int))/\w.cell? ⟨g,o+k * 4+3,none⟩=some (.int .i64 (l[k].2.2.2:Int))
theorem th_of {w:World} {base n c:Nat} {ao:Option Addr} {l:List Th} (h:w.ownsRow base 73 4 (.slice ao n c) l.length (thF l)):IsTh w ao l:=by
 intro k hk
 have hc:=h
 rcases h.2 with ⟨_,hz⟩ | ⟨g,cap,cur,e,h3,h4,_⟩
 ·omega
 ·cases e
  obtain ⟨a0,a1,a2,a3⟩:=thF_at l k hk
  have hat:∀ j u,(thF l)[j]?=some u->w.cell? ⟨g,0+j,none⟩=some u:=fun j u hu=>by
   have:=hc.cells (g:=g) rfl j u hu
   rw [Lib.addr_add] at this
   exact this
  exact ⟨g,0,rfl,hat _ _ a0,by rw [Nat.add_assoc];exact hat _ _ a1,by rw [Nat.add_assoc];exact hat _ _ a2,by rw [Nat.add_assoc];exact hat _ _ a3⟩
theorem find_any {W:World} {b hc:Nat} {ho:Option Addr} {l:List Th} {nm:ByteArray} (h9:W.cell? ⟨b,9,none⟩=some (.slice ho l.length hc)) (ht:IsTh W ho l) (hl:l.length<=1000):
  Calls Tryz.prog 33 #[.pointer (some ⟨b,0,none⟩),.string nm] W fun e w'=>((∃ i,∃ hi:i < l.length,l[i].1=nm/\e=.returned (.int .i64 (i:Int)))\/((∀ x ∈ l,x.1 ≠ nm)/\e=.returned (.int .i64 (-1))))/\w'=W:=by
 have HT:=hdn <| ht
 have hl2:(l.length:Int)<=1000:=by omega
 clear ht hl
 go_enter Tryz.func33,Tryz.ntmps33
 go_wp2_with fail
 go_loopg [5] l.length (fun gq x wr=>∃ k:Nat,k+gq=l.length/\x=.int .i64 (k:Int)/\(∀ j (hj:j < l.length),j < k->l[j].1 ≠ nm)/\wr=W)
 case atStart=>exact ⟨0,by omega,rfl,fun j _ h=>by omega,rfl⟩
 case round=>
  obtain ⟨k,hkg,rfl,hno,hw⟩:=hrel
  have HG:Hid (k+gk=l.length/\(∀ j (hj:j < l.length),j < k->l[j].1 ≠ nm)):=⟨hkg,hno⟩
  rw [hw]
  clear hw
  by_cases hlt:k < l.length
  ·have hk':(k:Int) < (l.length:Int):=by omega
   have hk2:(k:Int)<=1000:=by omega
   obtain ⟨g,o,rfl,d0,-⟩:=HT.out k hlt
   have HLt:=hdn <| hlt
   by_cases he:l[k].1=nm
   ·have hq:(l[k].1.toList == nm.toList)=true:=by rw [he];simp
    have HE:Hid (∃ hi:k < l.length,l[k].1=nm):=⟨hlt,he⟩
    clear hkg hno he
    generalize l[k].1=x at *
    clear hlt
    go_wp2
    go_ret
    exact ⟨Or.inl ⟨k,HE.out.1,HE.out.2,rfl⟩,rfl⟩
   ·have hq:(l[k].1.toList == nm.toList)=false:=by
     simp only [beq_eq_false_iff_ne]
     intro e
     rw [ByteArray.toList_eq,ByteArray.toList_eq] at e
     exact he (by cases hx:l[k].1;cases nm;rw [hx] at e;simpa using e)
    have HN:Hid (∀ j (hj:j < l.length),j < k+1->l[j].1 ≠ nm):=fun j hj hjk=>by
     by_cases e:j=k
     ·subst e;exact he
     ·exact hno j hj (by omega)
    clear hkg hno he
    generalize l[k].1=x at *
    clear hlt
    go_wp2_with fail
    go_roundg (l.length - (k+1))
    case measure=>have:=HG.out.1;have:=HLt.out;omega
    case rel=>exact ⟨k+1,by have:=HLt.out;omega,by go_num,HN.out,rfl⟩
  ·have hk':decide (k < l.length)=false:=decide_eq_false hlt
   have hk2:decide ((k:Int) < (l.length:Int))=false:=decide_eq_false (by omega)
   have HN:Hid (∀ x ∈ l,x.1 ≠ nm):=fun x hx=>by
    obtain ⟨j,hj,rfl⟩:=List.mem_iff_getElem.1 hx
    exact hno j hj (by omega)
   clear hkg hno hlt
   go_wp2
   go_ret
   exact ⟨Or.inr ⟨HN.out,rfl⟩,rfl⟩
end Go.Proofs.YtfgpbdieaflclaaGreat.Nm
namespace Go.Proofs.YtfgpbdieaflclaaGreat.Nm
open Go.RowKit Go.Maps Sp Lx Gr
def Nd (s:Rs):Prop:=(s.known.map (·.1)).Nodup
theorem lk_nodup {k:List Th} (hn:(k.map (·.1)).Nodup) {nm:ByteArray} {v:Nat × Nat × Nat} (h:(nm,v) ∈ k):lk k nm=some v:=by
 induction k with
 | nil=>cases h
 | cons x k ih=>
  obtain ⟨x1,x2⟩:=x
  simp only [List.map_cons,List.nodup_cons] at hn
  simp only [lk]
  rcases List.mem_cons.1 h with e | h
  ·cases e
   rw [if_pos rfl]
  ·rw [if_neg (fun e=>hn.1 (by rw [<-e];exact List.mem_map.2 ⟨(nm,v),h,rfl⟩))]
   exact ih hn.2 h
theorem lk_none {k:List Th} {nm:ByteArray} (h:∀ x ∈ k,x.1 ≠ nm):lk k nm=none:=by
 induction k with
 | nil=>rfl
 | cons x k ih=>
  obtain ⟨x1,x2⟩:=x
  simp only [lk]
  rw [if_neg (fun e=>h (x1,x2) (by simp) e.symm)]
  exact ih (fun y hy=>h y (by simp [hy]))
abbrev mkC (nm:ByteArray) (rb rc n eb:Nat) (qv vv tv uv ov:Value) (miss:Int) (hv:Value) (c1 c2 c3 c4:Nat):Array Value:=#[.string nm,.slice (some ⟨rb,0,none⟩) n rc,qv,vv,tv,uv,ov,.int .i64 miss,.slice (some ⟨eb,0,none⟩) n n,hv,.int .i64 0,.int .i64 (c1:Int),.int .i64 (c2:Int),.int .i64 (c3:Int),.int .i64 (c4:Int)]
structure Mkr (W:World) (b base rb rc eb:Nat) (nm:ByteArray) (l0:List Rz) (s:Rs) (qv vv tv uv ov hv:Value):Prop where
 ob:Ob W b base 55 (mkC nm rb rc l0.length eb qv vv tv uv ov (plc s.ev (5,0)) hv (s.cnt 1) (s.cnt 2) (s.cnt 3) (s.cnt 4)) [⟨2,67,2,qv,s.qs.length,qF s.qs⟩,⟨3,9,1,vv,s.vs.length,s.vs.map Value.string⟩,⟨4,9,1,tv,s.ts.length,s.ts.map Value.string⟩,⟨5,3,1,uv,s.us.length,nv s.us⟩,⟨6,3,1,ov,s.qs.length,iv (onsOf s.ev s.qs.length)⟩,⟨9,73,4,hv,s.known.length,thF s.known.reverse⟩]
 r:Rw W rb s.rows
 e:∀ i,i < l0.length->W.cell? ⟨eb,i,none⟩=some (.int .i64 (endp l0 i:Nat))
 lt:rb < base/\eb < base/\rb ≠ b/\eb ≠ b/\rb ≠ eb
section
variable {W W':World} {b base rb rc eb:Nat} {nm:ByteArray} {l0:List Rz} {s:Rs} {qv vv tv uv ov hv:Value}
theorem Mkr.below (h:Mkr W b base rb rc eb nm l0 s qv vv tv uv ov hv) (hb:Below W.heap.size W W'):Mkr W' b base rb rc eb nm l0 s qv vv tv uv ov hv:=
 ⟨h.ob.below hb,h.r.same (hb.block _ h.r.lt),fun i hi=>(hb.cell (p:=⟨eb,i,none⟩) (World.block_lt_of_cell? W ⟨eb,i,none⟩ (h.e i hi))).trans (h.e i hi),h.lt⟩
theorem Mkr.cell (h:Mkr W b base rb rc eb nm l0 s qv vv tv uv ov hv) (i:Nat) (v:Value) (hv:(mkC nm rb rc l0.length eb qv vv tv uv ov (plc s.ev (5,0)) hv (s.cnt 1) (s.cnt 2) (s.cnt 3) (s.cnt 4))[i]?=some v):W.cell? ⟨b,i,none⟩=some v:=by
 simp only [World.cell?,h.ob.blk]
 exact hv
theorem Mkr.things (h:Mkr W b base rb rc eb nm l0 s qv vv tv uv ov hv):∃ ho hc,hv=.slice ho s.known.reverse.length hc/\IsTh W ho s.known.reverse:=by
 have h9:W.ownsRow base 73 4 hv s.known.length (thF s.known.reverse):=(h.ob.own ⟨9,73,4,hv,s.known.length,thF s.known.reverse⟩ (by simp)).2
 obtain ⟨ho,hc,rfl⟩:=own_form h9
 refine ⟨ho,hc,by rw [List.length_reverse],th_of (base:=base) (n:=s.known.length) (c:=hc) ?_⟩
 rw [List.length_reverse]
 exact h9
theorem Mkr.num (h:Mkr W b base rb rc eb nm l0 s qv vv tv uv ov hv) {i:Nat} (hi:i < s.rows.length) (m:Nat):Mkr (W.setCell ⟨rb,i * 5+3,none⟩ (.int .i64 (m:Int))) b base rb rc eb nm l0 { s with rows:=numb s.rows i m } qv vv tv uv ov hv:=by
 obtain ⟨h1,h2,h3,h4,h5⟩:=h.lt
 refine ⟨h.ob.other h1 h3 (Fr.set W _ _ (by simp)),h.r.setN (some_rat hi) (m:Int),fun j hj=>?_,h.lt⟩
 rw [World.cell?_of_block (a:=⟨eb,j,none⟩) (Below.heap_setCell W _ _ eb (fun e=>h5 e.symm))]
 exact h.e j hj
end
def MkL (W:World) (b base rb rc eb:Nat) (nm:ByteArray) (l0:List Rz) (r:Except Nat Rs) (e:Ending) (w':World):Prop:=Fb [b,rb] base W w'/\match r with
 | .error c=>e=.returned (.int .i64 (c:Int))
 | .ok s'=>e=.returned (.int .i64 0)/\∃ qv vv tv uv ov hv,Mkr w' b base rb rc eb nm l0 s' qv vv tv uv ov hv
theorem refer_any {W:World} {b base rb rc eb m i:Nat} {nm:ByteArray} {l0:List Rz} {s:Rs} {qv vv tv uv ov hv:Value} (h:Mkr W b base rb rc eb nm l0 s qv vv tv uv ov hv) (hg:Good l0 m s) (hnd:Nd s) (hi:i < l0.length) (hl:l0.length<=2932031007317) (hk:nmd (rat s.rows i).kind ≠ 0):
  Calls Tryz.prog 18 #[.pointer (some ⟨b,0,none⟩),.int .i64 (i:Int),.int .i64 (nmd (rat s.rows i).kind:Nat)] W (MkL W b base rb rc eb nm l0 (askM i s)):=by
 have hlen:=like_len hg.like
 have his:i < s.rows.length:=by omega
 obtain ⟨c0,c1,c2,c3,c4,fz⟩:=h.r.cells (some_rat his)
 have fz3:=fz (i * 5+3)
 have b1:=h.cell 1 _ rfl
 obtain ⟨ho,hc,hhv,hth⟩:=h.things
 subst hhv
 have b9:=h.cell 9 _ rfl
 have hkl:s.known.reverse.length<=1000:=by
  rw [List.length_reverse,hg.kl]
  have:=hg.q
  have:=hg.v
  have:=hg.t
  have:=hg.u
  omega
 have HFd:=hdn <| find_any (nm:=(rat s.rows i).name) b9 hth hkl
 have HTh:=hdn <| hth
 have HM:=hdn <| h
 have HNum:=hdn <| fun mm=>h.num his mm
 have HKn:Hid (∀ e ∈ s.known,e.2.1<=4/\e.2.2.1<=64):=fun e he=>by
  obtain ⟨a,b,c⟩:=hg.kn e he
  have:=hg.cnt_le e.2.1
  have:=mst_le e.2.1
  exact ⟨b,by omega⟩
 have HA:Hid (askM i s=if nmd (rat s.rows i).kind=0 then .ok s else match lk s.known (rat s.rows i).name with
  | none=>.error 32
  | some (k,m,p)=>if i < p then .error 32 else if k ≠ nmd (rat s.rows i).kind then .error 33 else .ok { s with rows:=numb s.rows i m }):=rfl
 rw [if_neg hk] at HA
 have HNd:=hdn <| hnd
 have hi':(i:Int) < (l0.length:Int):=by omega
 have hi2:(i:Int)<=2932031007317:=by omega
 have hkl2:(s.known.reverse.length:Int)<=1000:=by omega
 have hnz:nmd (rat s.rows i).kind<=4:=nmd_le _
 have hnz2:(nmd (rat s.rows i).kind:Int)<=4:=by omega
 have hmx:s.rows=s.rows:=rfl
 clear h hg hnd hi hl hk hlen hth fz hkl his hnz hmx
 generalize nmd (rat s.rows i).kind=kd at *
 generalize askM i s=R at *
 go_enter Tryz.func18,Tryz.ntmps18
 go_wp2_with fail
 refine Calls.mono HFd.out ?_
 rintro e w1 ⟨⟨j,hj,hnm,rfl⟩ | ⟨hno,rfl⟩,rfl⟩
 ·have hjm:s.known.reverse[j] ∈ s.known:=List.mem_reverse.1 (List.getElem_mem hj)
  have hlk:lk s.known (rat s.rows i).name=some s.known.reverse[j].2:=lk_nodup HNd.out (by rw [<-hnm];exact hjm)
  obtain ⟨hk4,hm64⟩:=HKn.out _ hjm
  rw [hlk] at HA
  obtain ⟨g,o,rfl,d0,d1,d2,d3⟩:=HTh.out j hj
  have hj2:(j:Int) < (s.known.reverse.length:Int):=by omega
  have hj0:decide ((j:Int) < 0)=false:=decide_eq_false (by omega)
  clear hjm hlk hnm HFd HKn HTh HNd
  generalize s.known.reverse[j]=th at *
  obtain ⟨t1,tk,tm,tp⟩:=th
  dsimp only at *
  have hm64':(tm:Int)<=64:=by omega
  have hk4':(tk:Int)<=4:=by omega
  clear hj hk4 hm64
  generalize s.known.reverse.length=hn at *
  by_cases hp:i < tp
  ·rw [if_pos hp] at HA
   have hp':decide ((i:Int) < (tp:Int))=true:=decide_eq_true (by omega)
   have hp2:(i:Int) < (tp:Int):=by omega
   clear hp
   go_wp2
   go_ret
   rw [HA.out]
   exact ⟨Fb.of_below (Below.refl _ _),rfl⟩
  ·rw [if_neg hp] at HA
   have hp':decide ((i:Int) < (tp:Int))=false:=decide_eq_false (by omega)
   have hp2:decide (i < tp)=false:=decide_eq_false hp
   clear hp
   by_cases hkd:tk=kd
   ·have hkd':((tk:Int) != (kd:Int))=false:=by simp [hkd]
    rw [if_neg (fun e=>e hkd)] at HA
    have HS:=hdn <| HNum.out tm
    have HF:Hid (Fb [b,rb] base w1 (w1.setCell ⟨rb,i * 5+3,none⟩ (.int .i64 (tm:Int)))):=(Fr.set (F:=[b,rb]) w1 (i * 5+3) (.int .i64 (tm:Int)) (by simp)).fbw HM.out.ob.sz
    clear hkd
    go_wp2_with fail
    go_region
    all_goals
     go_wp2
     go_ret
     rw [HA.out]
     exact ⟨HF.out.trans (Fb.of_below ((Below.refl _ _).drew.mono (by have:=HM.out.ob.sz;simpa [World.setCell] using this))),rfl,qv,vv,tv,uv,ov,_,HS.out.below (Below.refl _ _).drew⟩
   ·have hkd':((tk:Int) != (kd:Int))=true:=by simp;omega
    rw [if_pos hkd] at HA
    clear hkd
    go_wp2
    go_ret
    rw [HA.out]
    exact ⟨Fb.of_below (Below.refl _ _),rfl⟩
 ·have hlk:lk s.known (rat s.rows i).name=none:=lk_none (fun x hx=>hno x (List.mem_reverse.2 hx))
  rw [hlk] at HA
  clear hno hlk HFd HKn HTh HNd
  go_wp2
  go_ret
  rw [HA.out]
  exact ⟨Fb.of_below (Below.refl _ _),rfl⟩
theorem fzb {u:World} {B:Nat} {cs:Array Value} {T:TypeId} (h:u.heap[B]?=some (.cells cs T (0,0))) (j:Nat):u.frozen? ⟨B,j,none⟩=false:=by simp [World.frozen?,h]
section
variable {W W':World} {b base rb rc eb:Nat} {nm:ByteArray} {l0:List Rz} {s:Rs} {qv vv tv uv ov hv:Value}
theorem Mkr.miss (h:Mkr W b base rb rc eb nm l0 s qv vv tv uv ov hv) (a:Nat):Mkr (W.setCell ⟨b,7,none⟩ (.int .i64 (a:Int))) b base rb rc eb nm l0 { s with ev:=((5,0),a) :: s.ev } qv vv tv uv ov hv:=by
 obtain ⟨h1,h2,h3,h4,h5⟩:=h.lt
 have ho:=h.ob.set 7 (.int .i64 (a:Int)) (by simp)
 refine ⟨?_,h.r.same (Below.heap_setCell W _ _ rb (fun e=>h3 e)),fun j hj=>?_,h.lt⟩
 ·dsimp only
  rw [onsOf_miss,plc_cons]
  exact ho
 ·rw [World.cell?_of_block (a:=⟨eb,j,none⟩) (Below.heap_setCell W _ _ eb (fun e=>h4 e))]
  exact h.e j hj
theorem Mkr.onq {g oc:Nat} (h:Mkr W b base rb rc eb nm l0 s qv vv tv uv (.slice (some ⟨g,0,none⟩) s.qs.length oc) hv) (k a:Nat):Mkr (W.setCell ⟨g,k,none⟩ (.int .i64 (a:Int))) b base rb rc eb nm l0 { s with ev:=((1,k),a) :: s.ev } qv vv tv uv (.slice (some ⟨g,0,none⟩) s.qs.length oc) hv:=by
 obtain ⟨h1,h2,h3,h4,h5⟩:=h.lt
 have hg:=World.ownsRow.lt (h.ob.own ⟨6,3,1,.slice (some ⟨g,0,none⟩) s.qs.length oc,s.qs.length,iv (onsOf s.ev s.qs.length)⟩ (by simp)).2 g rfl
 have ho:=Ob.store (os1:=[⟨2,67,2,qv,s.qs.length,qF s.qs⟩,⟨3,9,1,vv,s.vs.length,s.vs.map Value.string⟩,⟨4,9,1,tv,s.ts.length,s.ts.map Value.string⟩,⟨5,3,1,uv,s.us.length,nv s.us⟩]) (os2:=[⟨9,73,4,hv,s.known.length,thF s.known.reverse⟩]) (j:=k) (.int .i64 (a:Int)) h.ob
 refine ⟨?_,h.r.same (Below.heap_setCell W _ _ rb (fun e=>by have e2:rb=g:=e;omega)),fun j hj=>?_,h.lt⟩
 ·dsimp only
  rw [onsOf_cons,plc_other,show iv ((onsOf s.ev s.qs.length).set k (a:Int))=(iv (onsOf s.ev s.qs.length)).set k (.int .i64 (a:Int)) from List.map_set ..]
  exact ho
 ·rw [World.cell?_of_block (a:=⟨eb,j,none⟩) (Below.heap_setCell W _ _ eb (fun e=>by have e2:eb=g:=e;omega))]
  exact h.e j hj
end
theorem eventR_any {W:World} {b base rb rc eb m i:Nat} {nm:ByteArray} {l0:List Rz} {s:Rs} {qv vv tv uv ov hv:Value} (h:Mkr W b base rb rc eb nm l0 s qv vv tv uv ov hv) (hg:Good l0 m s) (hi:i < l0.length) (hl:l0.length<=2932031007317) (hev:(evt (rat s.rows i)).1 ≠ 0) (hq:(evt (rat s.rows i)).1=1->0<=(rat s.rows i).n/\(rat s.rows i).n < (s.qs.length:Int)):
  Calls Tryz.prog 20 #[.pointer (some ⟨b,0,none⟩),.int .i64 (i:Int)] W (MkL W b base rb rc eb nm l0 (askH i s)):=by
 have hlen:=like_len hg.like
 have his:i < s.rows.length:=by omega
 obtain ⟨c0,c1,c2,c3,c4,_⟩:=h.r.cells (some_rat his)
 have b1:W.cell? ⟨b,1,none⟩=some (.slice (some ⟨rb,0,none⟩) l0.length rc):=h.cell 1 _ rfl
 have hb1:Below W.heap.size W (W.alloc (.cells #[.int .i64 (rat s.rows i).kind,.string (rat s.rows i).name,.int .i64 (rat s.rows i).stop,.int .i64 (rat s.rows i).n,.int .i64 (rat s.rows i).kids] 47)):=bAl W _
 have h1:=h.below hb1
 obtain ⟨a0,a1,a2,a3,a4⟩:=row_cells W (rat s.rows i)
 have b7:(W.alloc (.cells #[.int .i64 (rat s.rows i).kind,.string (rat s.rows i).name,.int .i64 (rat s.rows i).stop,.int .i64 (rat s.rows i).n,.int .i64 (rat s.rows i).kids] 47)).cell? ⟨b,7,none⟩=some (.int .i64 (plc s.ev (5,0))):=h1.cell 7 _ rfl
 have f7:(W.alloc (.cells #[.int .i64 (rat s.rows i).kind,.string (rat s.rows i).name,.int .i64 (rat s.rows i).stop,.int .i64 (rat s.rows i).n,.int .i64 (rat s.rows i).kids] 47)).frozen? ⟨b,7,none⟩=false:=fzb h1.ob.blk 7
 have HB:Hid (Fb [b,rb] base W (W.alloc (.cells #[.int .i64 (rat s.rows i).kind,.string (rat s.rows i).name,.int .i64 (rat s.rows i).stop,.int .i64 (rat s.rows i).n,.int .i64 (rat s.rows i).kids] 47))):=Fb.of_below (hb1.mono h.ob.sz)
 have HM:=hdn <| h1
 have hi':(i:Int) < (l0.length:Int):=by omega
 have hi2:(i:Int)<=2932031007317:=by omega
 have hAx:askH i s=if (lk s.ev (evn (rat s.rows i))).isSome then .error 31 else .ok { s with ev:=(evn (rat s.rows i),i+1) :: s.ev } := by
  unfold askH
  rw [if_neg hev]
 have HA:=hdn <| hAx
 have hkinds:(rat s.rows i).kind=10/\evn (rat s.rows i)=(5,0)\/(rat s.rows i).kind ≠ 10/\(evt (rat s.rows i)).1=1/\evn (rat s.rows i)=(1,(rat s.rows i).n.toNat):=by
  unfold evn evt at *
  split at hev
  ·rename_i h8
   rw [if_pos h8]
   exact Or.inr ⟨by rcases h8 with e | e<;>omega,rfl,rfl⟩
  ·rename_i h8
   split at hev
   ·rename_i h10
    rw [if_neg h8,if_pos h10]
    exact Or.inl ⟨h10,rfl⟩
   ·exact absurd rfl hev
 clear hAx hev hlen his hi hl hb1 h1
 generalize askH i s=R at *
 rcases hkinds with ⟨hk,hen⟩ | ⟨hk,he1,hen⟩
 ·have hk':((rat s.rows i).kind == 10)=true:=beq_iff_eq.2 hk
  rw [hen] at HA
  clear hk hen hq
  generalize rat s.rows i=x at *
  obtain ⟨kd,nm1,st,n,ks⟩:=x
  dsimp only at *
  by_cases hp:0<=plc s.ev (5,0)
  ·have hp':decide (0<=plc s.ev (5,0))=true:=decide_eq_true hp
   rw [if_pos (plc_some.2 hp)] at HA
   clear h hg hp
   generalize plc s.ev (5,0)=z at *
   go_enter Tryz.func20,Tryz.ntmps20
   go_wp2
   go_ret
   rw [HA.out]
   exact ⟨HB.out,rfl⟩
  ·have hp':decide (0<=plc s.ev (5,0))=false:=decide_eq_false hp
   rw [if_neg (fun e=>hp (plc_some.1 e))] at HA
   have HS:Hid (Mkr ((W.alloc (.cells #[.int .i64 kd,.string nm1,.int .i64 st,.int .i64 n,.int .i64 ks] 47)).setCell ⟨b,7,none⟩ (.int .i64 ((i:Int)+1))) b base rb rc eb nm l0 { s with ev:=((5,0),i+1) :: s.ev } qv vv tv uv ov hv):=HM.out.miss (i+1)
   have HF:Hid (Fb [b,rb] base W ((W.alloc (.cells #[.int .i64 kd,.string nm1,.int .i64 st,.int .i64 n,.int .i64 ks] 47)).setCell ⟨b,7,none⟩ (.int .i64 ((i:Int)+1)))):=HB.out.trans ((Fr.set (F:=[b,rb]) _ 7 (.int .i64 ((i:Int)+1)) (by simp)).fbw HM.out.ob.sz)
   clear h hg hp
   generalize plc s.ev (5,0)=z at *
   go_enter Tryz.func20,Tryz.ntmps20
   go_wp2
   go_ret
   rw [HA.out]
   exact ⟨HF.out,rfl,qv,vv,tv,uv,ov,hv,HS.out⟩
 ·have hk':((rat s.rows i).kind == 10)=false:=beq_eq_false_iff_ne.2 hk
  obtain ⟨hn0,hn1⟩:=hq he1
  rw [hen] at HA
  have hown:World.ownsRow _ base 3 1 ov s.qs.length (iv (onsOf s.ev s.qs.length)):=(HM.out.ob.own ⟨6,3,1,ov,s.qs.length,iv (onsOf s.ev s.qs.length)⟩ (by simp)).2
  obtain ⟨oo,oc,rfl⟩:=own_form hown
  have b6:(W.alloc (.cells #[.int .i64 (rat s.rows i).kind,.string (rat s.rows i).name,.int .i64 (rat s.rows i).stop,.int .i64 (rat s.rows i).n,.int .i64 (rat s.rows i).kids] 47)).cell? ⟨b,6,none⟩=some (.slice oo s.qs.length oc):=HM.out.cell 6 _ rfl
  have hql:=hg.q
  clear hk hen hq he1 h hg b7 f7
  generalize rat s.rows i=x at *
  obtain ⟨kd,nm1,st,n,ks⟩:=x
  dsimp only at *
  obtain ⟨k,rfl⟩:=Int.eq_ofNat_of_zero_le hn0
  have hkq:k < s.qs.length:=by omega
  have hn2:(k:Int) < (s.qs.length:Int):=by omega
  have hk16:(k:Int)<=16:=by omega
  have hxo:(iv (onsOf s.ev s.qs.length))[k]?=some (.int .i64 (plc s.ev (1,k))):=by simp [iv,onsOf,List.getElem?_range hkq]
  obtain ⟨g,o,hoo,hgl,d0⟩:=vals_of hown k _ hxo
  have hgo:o=0:=by
   rcases hown.2 with ⟨e,_⟩ | ⟨g',cap',cur,e,_⟩
   ·rw [hoo] at e;cases e
   ·rw [hoo] at e;cases e;rfl
  subst hgo
  subst hoo
  rw [Nat.zero_add] at d0
  have hfz:(W.alloc (.cells #[.int .i64 kd,.string nm1,.int .i64 st,.int .i64 (k:Int),.int .i64 ks] 47)).frozen? ⟨g,k,none⟩=false:=by
   rcases hown.2 with ⟨e,_⟩ | ⟨g',cap',cur,e,_,h4,_⟩
   ·cases e
   ·cases e;exact fzb h4 k
  have hkn:((k:Nat):Int).toNat=k:=by simp
  rw [hkn] at HA
  clear hn0 hn1 hown hxo hkn hgl hql
  by_cases hp:0<=plc s.ev (1,k)
  ·have hp':decide (0<=plc s.ev (1,k))=true:=decide_eq_true hp
   rw [if_pos (plc_some.2 hp)] at HA
   clear hp hkq
   generalize plc s.ev (1,k)=z at *
   go_enter Tryz.func20,Tryz.ntmps20
   go_wp2_with fail
   go_quiet (fail)
   go_wp2
   go_ret
   rw [HA.out]
   exact ⟨HB.out.trans (Fb.of_below ((below_drewN _ _).mono HM.out.ob.sz)),rfl⟩
  ·have hp':decide (0<=plc s.ev (1,k))=false:=decide_eq_false hp
   rw [if_neg (fun e=>hp (plc_some.1 e))] at HA
   have HS:Hid (∀ j,Mkr (((W.alloc (.cells #[.int .i64 kd,.string nm1,.int .i64 st,.int .i64 (k:Int),.int .i64 ks] 47)).drewN j).setCell ⟨g,k,none⟩ (.int .i64 ((i:Int)+1))) b base rb rc eb nm l0 { s with ev:=((1,k),i+1) :: s.ev } qv vv tv uv (.slice (some ⟨g,0,none⟩) s.qs.length oc) hv):=fun j=>(HM.out.below (below_drewN _ j)).onq k (i+1)
   have hgb:=(World.ownsRow.lt (HM.out.ob.own ⟨6,3,1,.slice (some ⟨g,0,none⟩) s.qs.length oc,s.qs.length,iv (onsOf s.ev s.qs.length)⟩ (by simp)).2 g rfl).1
   have HF:Hid (∀ j,Fb [b,rb] base W (((W.alloc (.cells #[.int .i64 kd,.string nm1,.int .i64 st,.int .i64 (k:Int),.int .i64 ks] 47)).drewN j).setCell ⟨g,k,none⟩ (.int .i64 ((i:Int)+1)))):=fun j=>(HB.out.trans (Fb.of_below ((below_drewN _ j).mono HM.out.ob.sz))).trans (Fb.set _ _ _ hgb)
   clear hp hkq hgb
   generalize plc s.ev (1,k)=z at *
   go_enter Tryz.func20,Tryz.ntmps20
   go_wp2_with fail
   go_quiet (fail)
   go_wp2_with fail
   go_region
   all_goals
    go_wp2
    go_ret
    rw [HA.out]
    exact ⟨HF.out (nq+1),rfl,qv,vv,tv,uv,_,hv,HS.out (nq+1)⟩
end Go.Proofs.YtfgpbdieaflclaaGreat.Nm
