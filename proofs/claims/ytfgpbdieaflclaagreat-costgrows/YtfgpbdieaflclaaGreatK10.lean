import Derived.Test.YtfgpbdieaflclaaGreatK09
set_option maxHeartbeats 6400000
set_option maxRecDepth 100000
namespace Go.Proofs.YtfgpbdieaflclaaGreat.Nm
open Go.RowKit Go.Maps Sp Lx Gr
abbrev mv (k n from_:Nat):Value:=.agg #[.int .i64 (k:Int),.int .i64 (n:Int),.int .i64 (from_:Int)]
theorem naming_any {W:World} {rb r1 r2 mb cap at_ n:Nat} {l:List Rz} {x:Rz} {f:ByteArray->Option Value} (hr:Rw W rb l) (h1:W.heap[r1]?=some (.cells #[.slice (some ⟨rb,0,none⟩) l.length cap] 22 (0,0))) (h2:W.heap[r2]?=some (.cells #[.map (some mb)] 86 (0,0)))
  (hm:IsMp kmap W mb f n) (hx:l[at_]?=some x) (hl:l.length<=2932031007317) (hs:x.name.size<=maxLen) (hf:∀ v,f x.name=some v->∃ k m p,v=mv k m p/\k<=4/\m<=64):
  Calls Tryz.prog 72 #[.int .i64 at_,.pointer (some ⟨r1,0,none⟩),.pointer (some ⟨r2,0,none⟩)] W fun e w'=>
   (nmd x.kind=0/\e=.returned (.int .i64 0)/\Below W.heap.size W w') \/
   (nmd x.kind ≠ 0/\(f x.name=none\/∃ k m p,f x.name=some (mv k m p)/\at_ < p)/\e=.returned (.int .i64 32)/\Below W.heap.size W w') \/
   (∃ k m p,nmd x.kind ≠ 0/\f x.name=some (mv k m p)/\p<=at_/\((k ≠ nmd x.kind/\e=.returned (.int .i64 33)/\Below W.heap.size W w') \/
    (k=nmd x.kind/\e=.returned (.int .i64 0)/\Fr [rb] W w'/\Rw w' rb (l.set at_ { x with n:=(m:Int) })))):=by
 have hat:at_ < l.length:=(List.getElem?_eq_some_iff.1 hx).1
 have h3:(at_:Int) < (l.length:Int):=by omega
 have h4:(at_:Int)<=2932031007317:=by omega
 obtain ⟨c0,c1,c2,c3,c4,fz⟩:=hr.cells hx
 have fz3:=fz (at_ * 5+3)
 obtain ⟨d1,_⟩:=box_cell h1
 obtain ⟨d2,_⟩:=box_cell h2
 have HN:=hdn <| named_any x.kind W
 have hle:=nmd_le x.kind
 have hlk:=hm.lookOk kmap_law (k:=x.name) hs
 have hlk':(Instr.lookup 86 (.map (some mb)) (.string x.name) true).run Tryz.prog W=.ok (.tuple #[(f x.name).getD (mv 0 0 0),.bool (f x.name).isSome]) W:=hlk
 have hbM:Below W.heap.size W (W.alloc (.cells #[.int .i64 0,.int .i64 0,.int .i64 0] 110)):=bAl W _
 have hmD:(Instr.lookup 86 (.map (some mb)) (.string x.name) true).run Tryz.prog W.drew=.ok (.tuple #[(f x.name).getD (mv 0 0 0),.bool (f x.name).isSome]) W.drew:=(hm.same (w':=W.drew) rfl).lookOk kmap_law (k:=x.name) hs
 have hmA:(Instr.lookup 86 (.map (some mb)) (.string x.name) true).run Tryz.prog (W.alloc (.cells #[.int .i64 0,.int .i64 0,.int .i64 0] 110)).drew=.ok (.tuple #[(f x.name).getD (mv 0 0 0),.bool (f x.name).isSome]) (W.alloc (.cells #[.int .i64 0,.int .i64 0,.int .i64 0] 110)).drew:=(hm.same (w':=(W.alloc (.cells #[.int .i64 0,.int .i64 0,.int .i64 0] 110)).drew) (hbM.block mb hm.lt)).lookOk kmap_law (k:=x.name) hs
 have ca:∀ {b i:Nat} {v:Value},W.cell? ⟨b,i,none⟩=some v->(W.alloc (.cells #[.int .i64 0,.int .i64 0,.int .i64 0] 110)).cell? ⟨b,i,none⟩=some v:=fun {b i v} hv=>(World.cell?_of_block (a:=⟨b,i,none⟩) (hbM.block b (World.block_lt_of_cell? W _ hv))).trans hv
 have ca1:=ca d1
 have ca2:=ca d2
 have ca3:=ca c1
 have HR:Hid (Rw W rb l/\l[at_]?=some x):=⟨hr,hx⟩
 clear hlk hm h1 h2 hl hs hat fz hbM ca
 generalize hnk:nmd x.kind=z at *
 have hz4:(z:Int)<=4:=by omega
 clear hle
 by_cases hz0:z=0
 ·have hz0':((z:Int) == 0)=true:=by simp [hz0]
  have HZ:Hid (z=0):=hz0
  clear hz0
  go_enter Tryz.func72,Tryz.ntmps72
  go_wp2_with fail
  refine Calls.mono HN.out ?_
  rintro e w1 ⟨rfl,rfl⟩
  go_wp2
  go_ret
  exact Or.inl ⟨HZ.out,rfl,Below.refl _ _⟩
 ·have hz0':((z:Int) == 0)=false:=by simp;omega
  have HZ:Hid (z ≠ 0):=hz0
  clear hz0
  cases hfx:f x.name with
  | none=>
   rw [hfx] at hlk' hmD hmA
   simp only [Option.getD_none,Option.isSome_none] at hlk' hmD hmA
   have HF:Hid (f x.name=none):=hfx
   clear hfx hf
   go_enter Tryz.func72,Tryz.ntmps72
   go_wp2_with fail
   refine Calls.mono HN.out ?_
   rintro e w1 ⟨rfl,rfl⟩
   go_wp2_with fail
   go_region
   all_goals
    have HB:Hid (Below w1.heap.size w1 (w1.alloc (.cells #[.int .i64 0,.int .i64 0,.int .i64 0] 110)).drew):=(bAl w1 _).drew
    go_wp2
    go_ret
    exact Or.inr (Or.inl ⟨HZ.out,Or.inl (by first | trivial | exact HF.out),rfl,HB.out⟩)
  | some v=>
   obtain ⟨k,m,p,rfl,hk4,hm64⟩:=hf v hfx
   rw [hfx] at hlk' hmD hmA
   simp only [Option.getD_some,Option.isSome_some] at hlk' hmD hmA
   have HF:Hid (f x.name=some (mv k m p)):=hfx
   have hk4':(k:Int)<=4:=by omega
   have hm64':(m:Int)<=64:=by omega
   have hbV:Below W.heap.size W (W.alloc (.cells #[.int .i64 (k:Int),.int .i64 (m:Int),.int .i64 (p:Int)] 110)):=bAl W _
   have hnV:(W.alloc (.cells #[.int .i64 (k:Int),.int .i64 (m:Int),.int .i64 (p:Int)] 110)).heap[W.heap.size]?=some (.cells #[.int .i64 (k:Int),.int .i64 (m:Int),.int .i64 (p:Int)] 110 (0,0)):=heap_alloc_new W _
   have e0:(W.alloc (.cells #[.int .i64 (k:Int),.int .i64 (m:Int),.int .i64 (p:Int)] 110)).cell? ⟨W.heap.size,0,none⟩=some (.int .i64 (k:Int)):=by rw [World.cell?,hnV];rfl
   have e1:(W.alloc (.cells #[.int .i64 (k:Int),.int .i64 (m:Int),.int .i64 (p:Int)] 110)).cell? ⟨W.heap.size,1,none⟩=some (.int .i64 (m:Int)):=by rw [World.cell?,hnV];rfl
   have e2:(W.alloc (.cells #[.int .i64 (k:Int),.int .i64 (m:Int),.int .i64 (p:Int)] 110)).cell? ⟨W.heap.size,2,none⟩=some (.int .i64 (p:Int)):=by rw [World.cell?,hnV];rfl
   have cb:∀ {b i:Nat} {v:Value},W.cell? ⟨b,i,none⟩=some v->(W.alloc (.cells #[.int .i64 (k:Int),.int .i64 (m:Int),.int .i64 (p:Int)] 110)).cell? ⟨b,i,none⟩=some v:=fun {b i v} hv=>(World.cell?_of_block (a:=⟨b,i,none⟩) (hbV.block b (World.block_lt_of_cell? W _ hv))).trans hv
   have cb1:=cb d1
   have cb3:=cb c3
   have fb3:(W.alloc (.cells #[.int .i64 (k:Int),.int .i64 (m:Int),.int .i64 (p:Int)] 110)).frozen? ⟨rb,at_ * 5+3,none⟩=false:=by rw [World.frozen?,hbV.block rb hr.lt];exact fz3
   have HV:Hid (Below W.heap.size W (W.alloc (.cells #[.int .i64 (k:Int),.int .i64 (m:Int),.int .i64 (p:Int)] 110)).drew):=hbV.drew
   clear hfx hf hbV hnV cb hk4 hm64
   by_cases hp:at_ < p
   ·have hp1:(at_:Int) < (p:Int):=by omega
    have HP:Hid (at_ < p):=hp
    go_enter Tryz.func72,Tryz.ntmps72
    go_wp2_with fail
    refine Calls.mono HN.out ?_
    rintro e w1 ⟨rfl,rfl⟩
    go_wp2_with fail
    go_region
    all_goals
     go_wp2
     go_ret
     exact Or.inr (Or.inl ⟨HZ.out,Or.inr ⟨k,m,p,by first | rfl | exact HF.out,HP.out⟩,rfl,HV.out⟩)
   ·have hp1:decide ((at_:Int) < (p:Int))=false:=decide_eq_false (by omega)
    have hp2:decide (at_ < p)=false:=decide_eq_false hp
    have HP:Hid (p<=at_):=by show _<=_;omega
    clear hp
    by_cases hkz:k=z
    ·have hkz':((k:Int) != (z:Int))=false:=by simp [hkz]
     have HK:Hid (k=z):=hkz
     clear hkz
     go_enter Tryz.func72,Tryz.ntmps72
     go_wp2_with fail
     refine Calls.mono HN.out ?_
     rintro e w1 ⟨rfl,rfl⟩
     go_wp2_with fail
     go_region
     all_goals
      have HX:Hid (Fr [rb] w1 ((w1.alloc (.cells #[.int .i64 (k:Int),.int .i64 (m:Int),.int .i64 (p:Int)] 110)).drew.setCell ⟨rb,at_ * 5+3,none⟩ (.int .i64 (m:Int)))/\Rw ((w1.alloc (.cells #[.int .i64 (k:Int),.int .i64 (m:Int),.int .i64 (p:Int)] 110)).drew.setCell ⟨rb,at_ * 5+3,none⟩ (.int .i64 (m:Int))) rb (l.set at_ { x with n:=(m:Int) })):=⟨(Fr.of_below HV.out).trans (Fr.set (F:=[rb]) _ _ _ (by simp)) (fun _ hx=>Or.inl hx),(HR.out.1.same (HV.out.block rb HR.out.1.lt)).setN HR.out.2 (m:Int)⟩
      go_wp2
      go_ret
      exact Or.inr (Or.inr ⟨k,m,p,HZ.out,by first | rfl | exact HF.out,HP.out,Or.inr ⟨HK.out,rfl,HX.out.1,HX.out.2⟩⟩)
    ·have hkz':((k:Int) != (z:Int))=true:=by simp;omega
     have HK:Hid (k ≠ z):=hkz
     clear hkz
     go_enter Tryz.func72,Tryz.ntmps72
     go_wp2_with fail
     refine Calls.mono HN.out ?_
     rintro e w1 ⟨rfl,rfl⟩
     go_wp2_with fail
     go_region
     all_goals
      go_wp2
      go_ret
      exact Or.inr (Or.inr ⟨k,m,p,HZ.out,by first | rfl | exact HF.out,HP.out,Or.inl ⟨HK.out,rfl,HV.out⟩⟩)
end Go.Proofs.YtfgpbdieaflclaaGreat.Nm
namespace Go.Proofs.YtfgpbdieaflclaaGreat.Nm
open Go.RowKit Go.Maps Sp Lx Gr
structure Dec (W:World) (b1 b2 b3 pb base rb kb cb cap:Nat) (nm:ByteArray) (on miss qv vv tv uv:Value) (qs:List (ByteArray × Bool)) (vs ts:List ByteArray) (us:List Nat) (l:List Rz) (f:ByteArray->Option Value) (nk:Nat) (c:Nat->Option Value) (nc:Nat):Prop where
 p:Pol W pb base nm (.slice (some ⟨rb,0,none⟩) l.length cap) on miss qv vv tv uv qs vs ts us
 r:Rw W rb l
 x1:W.heap[b1]?=some (.cells #[.pointer (some ⟨pb,0,none⟩)] 91 (0,0))
 x2:W.heap[b2]?=some (.cells #[.map (some kb)] 86 (0,0))
 x3:W.heap[b3]?=some (.cells #[.map (some cb)] 105 (0,0))
 k:IsMp kmap W kb f nk
 c:IsMp cmap W cb c nc
theorem declaring_no {W:World} {b1 b2 b3 pb base rb kb cb cap at_ nk nc:Nat} {nm:ByteArray} {on miss qv vv tv uv:Value} {qs:List (ByteArray × Bool)} {vs ts:List ByteArray} {us:List Nat} {l:List Rz} {x:Rz} {f:ByteArray->Option Value} {c:Nat->Option Value}
  (h:Dec W b1 b2 b3 pb base rb kb cb cap nm on miss qv vv tv uv qs vs ts us l f nk c nc) (hx:l[at_]?=some x) (hl:l.length<=2932031007317) (hs:x.name.size<=maxLen) (hf:∀ v,f x.name=some v->∃ k m p,v=mv k m p) (hno:decl x.kind=0\/(f x.name).isSome=true):
  Calls Tryz.prog 67 #[.int .i64 (at_:Int),.pointer (some ⟨b1,0,none⟩),.pointer (some ⟨b2,0,none⟩),.pointer (some ⟨b3,0,none⟩)] W fun e w'=>e=.returned (.int .i64 (if decl x.kind=0 then 0 else 31))/\Below W.heap.size W w':=by
 have hat:at_ < l.length:=(List.getElem?_eq_some_iff.1 hx).1
 have h3:(at_:Int) < (l.length:Int):=by omega
 have h4:(at_:Int)<=2932031007317:=by omega
 obtain ⟨c0,c1,c2,c3,c4,_⟩:=h.r.cells hx
 obtain ⟨p1,_,_,_,_⟩:=h.p.cells
 obtain ⟨d1,_⟩:=box_cell h.x1
 obtain ⟨d2,_⟩:=box_cell h.x2
 have HN:=hdn <| declared_any x.kind W
 have hbM:Below W.heap.size W (W.alloc (.cells #[.int .i64 0,.int .i64 0,.int .i64 0] 110)):=bAl W _
 have hmD:(Instr.lookup 86 (.map (some kb)) (.string x.name) true).run Tryz.prog W.drew=.ok (.tuple #[(f x.name).getD (mv 0 0 0),.bool (f x.name).isSome]) W.drew:=(h.k.same (w':=W.drew) rfl).lookOk kmap_law (k:=x.name) hs
 have hmA:(Instr.lookup 86 (.map (some kb)) (.string x.name) true).run Tryz.prog (W.alloc (.cells #[.int .i64 0,.int .i64 0,.int .i64 0] 110)).drew=.ok (.tuple #[(f x.name).getD (mv 0 0 0),.bool (f x.name).isSome]) (W.alloc (.cells #[.int .i64 0,.int .i64 0,.int .i64 0] 110)).drew:=(h.k.same (w':=(W.alloc (.cells #[.int .i64 0,.int .i64 0,.int .i64 0] 110)).drew) (hbM.block kb h.k.lt)).lookOk kmap_law (k:=x.name) hs
 have ca:∀ {b i:Nat} {v:Value},W.cell? ⟨b,i,none⟩=some v->(W.alloc (.cells #[.int .i64 0,.int .i64 0,.int .i64 0] 110)).cell? ⟨b,i,none⟩=some v:=fun {b i v} hv=>(World.cell?_of_block (a:=⟨b,i,none⟩) (hbM.block b (World.block_lt_of_cell? W _ hv))).trans hv
 have ca2:=ca d2
 have ca3:=ca c1
 clear h hx hl hs hat hbM ca
 generalize hz:decl x.kind=z at *
 clear hz
 by_cases hz0:z=0
 ·have hz0':((z:Int) == 0)=true:=by simp [hz0]
  rw [if_pos hz0]
  clear hz0 hno hf
  go_enter Tryz.func67,Tryz.ntmps67
  go_wp2_with fail
  refine Calls.mono HN.out ?_
  rintro e w1 ⟨rfl,rfl⟩
  go_wp2
  go_ret
  exact ⟨rfl,Below.refl _ _⟩
 ·have hz0':((z:Int) == 0)=false:=by simp;omega
  rw [if_neg hz0]
  obtain ⟨v,hv⟩:=Option.isSome_iff_exists.1 (hno.resolve_left hz0)
  obtain ⟨k,m,p,rfl⟩:=hf v hv
  rw [hv] at hmD hmA
  simp only [Option.getD_some,Option.isSome_some] at hmD hmA
  have HV:Hid (Below W.heap.size W (W.alloc (.cells #[.int .i64 (k:Int),.int .i64 (m:Int),.int .i64 (p:Int)] 110)).drew):=(bAl W _).drew
  clear hno hz0 hv hf
  go_enter Tryz.func67,Tryz.ntmps67
  go_wp2_with fail
  refine Calls.mono HN.out ?_
  rintro e w1 ⟨rfl,rfl⟩
  go_wp2_with fail
  go_region
  all_goals
   go_wp2
   go_ret
   exact ⟨rfl,HV.out⟩
end Go.Proofs.YtfgpbdieaflclaaGreat.Nm
namespace Go.Proofs.YtfgpbdieaflclaaGreat.Nm
open Go.RowKit Go.Maps Sp Lx Gr
theorem bel_drewN (w:World) (n:Nat):Below w.heap.size w (w.drewN n):=below_drewN w n
theorem declaring_many {W:World} {b1 b2 b3 pb base rb kb cb cap at_ nk nc z:Nat} {nm:ByteArray} {on miss qv vv tv uv:Value} {qs:List (ByteArray × Bool)} {vs ts:List ByteArray} {us:List Nat} {l:List Rz} {x:Rz} {f:ByteArray->Option Value} {c:Nat->Option Value}
  (h:Dec W b1 b2 b3 pb base rb kb cb cap nm on miss qv vv tv uv qs vs ts us l f nk c nc) (hx:l[at_]?=some x) (hl:l.length<=2932031007317) (hs:x.name.size<=maxLen) (hf:f x.name=none) (hz:decl x.kind=z) (hz0:z ≠ 0) (hc:(c z).getD (.int .i64 0)=.int .i64 (mst z:Nat)):
  Calls Tryz.prog 67 #[.int .i64 (at_:Int),.pointer (some ⟨b1,0,none⟩),.pointer (some ⟨b2,0,none⟩),.pointer (some ⟨b3,0,none⟩)] W fun e w'=>e=.returned (.int .i64 3)/\Below W.heap.size W w':=by
 have hat:at_ < l.length:=(List.getElem?_eq_some_iff.1 hx).1
 have h3:(at_:Int) < (l.length:Int):=by omega
 have h4:(at_:Int)<=2932031007317:=by omega
 obtain ⟨c0,c1,c2,c3,c4,_⟩:=h.r.cells hx
 obtain ⟨p1,_,_,_,_⟩:=h.p.cells
 obtain ⟨d1,_⟩:=box_cell h.x1
 obtain ⟨d2,_⟩:=box_cell h.x2
 obtain ⟨d3,_⟩:=box_cell h.x3
 have HN:=hdn <| declared_any x.kind W
 have hz4:z<=4:=hz ▸ decl_le x.kind
 have hbM:Below W.heap.size W (W.alloc (.cells #[.int .i64 0,.int .i64 0,.int .i64 0] 110)):=bAl W _
 have hmD:(Instr.lookup 86 (.map (some kb)) (.string x.name) true).run Tryz.prog W.drew=.ok (.tuple #[(f x.name).getD (mv 0 0 0),.bool (f x.name).isSome]) W.drew:=(h.k.same (w':=W.drew) rfl).lookOk kmap_law (k:=x.name) hs
 have hmA:(Instr.lookup 86 (.map (some kb)) (.string x.name) true).run Tryz.prog (W.alloc (.cells #[.int .i64 0,.int .i64 0,.int .i64 0] 110)).drew=.ok (.tuple #[(f x.name).getD (mv 0 0 0),.bool (f x.name).isSome]) (W.alloc (.cells #[.int .i64 0,.int .i64 0,.int .i64 0] 110)).drew:=(h.k.same (w':=(W.alloc (.cells #[.int .i64 0,.int .i64 0,.int .i64 0] 110)).drew) (hbM.block kb h.k.lt)).lookOk kmap_law (k:=x.name) hs
 rw [hf] at hmD hmA
 simp only [Option.getD_none,Option.isSome_none] at hmD hmA
 have ca:∀ {b i:Nat} {v:Value},W.cell? ⟨b,i,none⟩=some v->(W.alloc (.cells #[.int .i64 0,.int .i64 0,.int .i64 0] 110)).cell? ⟨b,i,none⟩=some v:=fun {b i v} hv=>(World.cell?_of_block (a:=⟨b,i,none⟩) (hbM.block b (World.block_lt_of_cell? W _ hv))).trans hv
 have ca2:=ca d2
 have ca3:=ca c1
 have HL:Hid (∀ j,(Instr.lookup 105 (.map (some cb)) (.int .i64 (z:Int)) false).run Tryz.prog ((W.alloc (.cells #[.int .i64 0,.int .i64 0,.int .i64 0] 110)).drew.drewN j)=.ok (.int .i64 (mst z:Nat)) ((W.alloc (.cells #[.int .i64 0,.int .i64 0,.int .i64 0] 110)).drew.drewN j)):=fun j=>by
  have hb:=hbM.drew.trans ((bel_drewN (W.alloc (.cells #[.int .i64 0,.int .i64 0,.int .i64 0] 110)).drew j).mono hbM.drew.size)
  have:=(h.c.same (hb.block cb h.c.lt)).look cmap_law (k:=z) (show z<=4 from hz4)
  have e:(c z).getD cmap.z=.int .i64 (mst z:Nat):=hc
  rw [e] at this
  exact this
 have HV:Hid (Below W.heap.size W (W.alloc (.cells #[.int .i64 0,.int .i64 0,.int .i64 0] 110)).drew):=hbM.drew
 have HD3:Hid ((W.alloc (.cells #[.int .i64 0,.int .i64 0,.int .i64 0] 110)).drew.cell? ⟨b3,0,none⟩=some (.map (some cb))):=ca d3
 have HMo:Hid (∀ u,Calls Tryz.prog 69 #[.int .i64 (z:Int)] u fun e w'=>e=.returned (.int .i64 (mst z:Nat))/\w'=u):=fun u=>most_any z hz4 u
 rw [hz] at HN
 have hz0':((z:Int) == 0)=false:=by simp;omega
 clear h hx hl hs hat hbM ca hf hz hz0 hc hz4
 generalize mst z=mz at *
 go_enter Tryz.func67,Tryz.ntmps67
 go_wp2_with fail
 refine Calls.mono HN.out ?_
 rintro e w1 ⟨rfl,rfl⟩
 go_wp2_with fail
 go_region
 all_goals
  generalize (w1.alloc (.cells #[.int .i64 0,.int .i64 0,.int .i64 0] 110)).drew=w5 at *
  have e3:=HD3.out
  have hlk:=HL.out
  clear HL HD3 hmD hmA ca2 ca3
  go_wp2_with fail
  go_quiet ((go_at_call 69;exact Calls.quiet_of_same (HMo.out _)))
  have HV2:Hid (Below w1.heap.size w1 (w5.drewN nq)):=HV.out.trans ((bel_drewN w5 nq).mono HV.out.size)
  generalize w5.drewN nq=w6 at *
  have hmm:((mz:Int) == (mz:Int))=true:=by simp
  clear hlk
  go_wp2
  go_ret
  exact ⟨rfl,HV2.out⟩
end Go.Proofs.YtfgpbdieaflclaaGreat.Nm
namespace Go.Proofs.YtfgpbdieaflclaaGreat.Nm
open Go.RowKit Go.Maps Sp Lx Gr
section
variable {W W':World} {b1 b2 b3 pb base rb kb cb cap at_ nk nc g:Nat} {nm:ByteArray} {on miss qv vv tv uv rows:Value} {qs:List (ByteArray × Bool)} {vs ts:List ByteArray} {us:List Nat} {l:List Rz} {x:Rz} {f:ByteArray->Option Value} {c:Nat->Option Value}
theorem Pol.kept (h:Pol W pb base nm rows on miss qv vv tv uv qs vs ts us) (hF:Fr [g] W W') (hg:g < base) (hne:g ≠ pb):Pol W' pb base nm rows on miss qv vv tv uv qs vs ts us:=by
 have hb:∀ k,k < W.heap.size->k ≠ g->W'.heap[k]?=W.heap[k]?:=fun k hk hn=>hF.block k hk (by simpa using hn)
 have ho:∀ {T:TypeId} {s n:Nat} {v:Value} {xs:List Value},W.ownsRow base T s v n xs->W'.ownsRow base T s v n xs:=fun h1=>own_keepB h1 (fun k hk=>hb k (World.ownsRow.lt h1 k hk).2 (by have:=(World.ownsRow.lt h1 k hk).1;omega))
 exact ⟨(hb pb (Array.getElem?_eq_some_iff.1 h.blk).1 (Ne.symm hne)).trans h.blk,ho h.oq,ho h.ov,ho h.ot,ho h.ou,h.ne,h.lt,Nat.le_trans h.sz hF.size⟩
theorem Dec.below (h:Dec W b1 b2 b3 pb base rb kb cb cap nm on miss qv vv tv uv qs vs ts us l f nk c nc) (hb:Below W.heap.size W W'):Dec W' b1 b2 b3 pb base rb kb cb cap nm on miss qv vv tv uv qs vs ts us l f nk c nc:=
 ⟨h.p.below hb,h.r.same (hb.block rb h.r.lt),(hb.block b1 (Array.getElem?_eq_some_iff.1 h.x1).1).trans h.x1,(hb.block b2 (Array.getElem?_eq_some_iff.1 h.x2).1).trans h.x2,(hb.block b3 (Array.getElem?_eq_some_iff.1 h.x3).1).trans h.x3,h.k.same (hb.block kb h.k.lt),h.c.same (hb.block cb h.c.lt)⟩
theorem ne_types {w:World} {a b:Nat} {d e:Array Value} {T T':TypeId} {i j:Nat × Nat} (h:w.heap[a]?=some (.cells d T i)) (h':w.heap[b]?=some (.cells e T' j)) (hT:T ≠ T'):a ≠ b:=by
 rintro rfl
 rw [h] at h'
 cases h'
 exact hT rfl
theorem Dec.setN (h:Dec W b1 b2 b3 pb base rb kb cb cap nm on miss qv vv tv uv qs vs ts us l f nk c nc) (hx:l[at_]?=some x) (hrb:rb < base) (n:Int):Dec (W.setCell ⟨rb,at_ * 5+3,none⟩ (.int .i64 n)) b1 b2 b3 pb base rb kb cb cap nm on miss qv vv tv uv qs vs ts us (l.set at_ { x with n:=n }) f nk c nc:=by
 have hr:=h.r
 obtain ⟨cs,hc,_⟩:=h.r
 have hb:∀ k,k ≠ rb->(W.setCell ⟨rb,at_ * 5+3,none⟩ (.int .i64 n)).heap[k]?=W.heap[k]?:=fun k hn=>Below.heap_setCell W _ _ k (fun e=>hn e)
 have hfr:Fr [rb] W (W.setCell ⟨rb,at_ * 5+3,none⟩ (.int .i64 n)):=Fr.set W (at_ * 5+3) (.int .i64 n) (List.mem_singleton.2 rfl)
 have hp:=h.p.kept hfr hrb (ne_types hc h.p.blk (by decide))
 refine ⟨by rw [List.length_set];exact hp,hr.setN hx n,(hb b1 (ne_types h.x1 hc (by decide))).trans h.x1,(hb b2 (ne_types h.x2 hc (by decide))).trans h.x2,(hb b3 (ne_types h.x3 hc (by decide))).trans h.x3,h.k.same (hb kb (Ne.symm (h.k.ne_cells hc))),h.c.same (hb cb (Ne.symm (h.c.ne_cells hc)))⟩
theorem Dec.cput {c':Nat->Option Value} {nc':Nat} (h:Dec W b1 b2 b3 pb base rb kb cb cap nm on miss qv vv tv uv qs vs ts us l f nk c nc) (hcb:cb < base) (hkc:kb ≠ cb) (hg:W.grownBy W' (some cb)) (hm:IsMp cmap W' cb c' nc'):Dec W' b1 b2 b3 pb base rb kb cb cap nm on miss qv vv tv uv qs vs ts us l f nk c' nc':=by
 have hr:=h.r
 obtain ⟨cs,hc,_⟩:=h.r
 have hF:=Fr.grown hg
 have hb:∀ k,k < W.heap.size->k ≠ cb->W'.heap[k]?=W.heap[k]?:=fun k hk hn=>hF.block k hk (by simpa using hn)
 have hlt:∀ {k:Nat} {o:Obj},W.heap[k]?=some o->k < W.heap.size:=fun h=>(Array.getElem?_eq_some_iff.1 h).1
 exact ⟨h.p.kept hF hcb (Ne.symm (h.c.ne_cells h.p.blk)),hr.same (hb rb hr.lt (h.c.ne_cells hc)),(hb b1 (hlt h.x1) (h.c.ne_cells h.x1)).trans h.x1,(hb b2 (hlt h.x2) (h.c.ne_cells h.x2)).trans h.x2,(hb b3 (hlt h.x3) (h.c.ne_cells h.x3)).trans h.x3,h.k.same (hb kb h.k.lt hkc),hm⟩
theorem Dec.kput {f':ByteArray->Option Value} {nk':Nat} (h:Dec W b1 b2 b3 pb base rb kb cb cap nm on miss qv vv tv uv qs vs ts us l f nk c nc) (hkb:kb < base) (hkc:kb ≠ cb) (hg:W.grownBy W' (some kb)) (hm:IsMp kmap W' kb f' nk'):Dec W' b1 b2 b3 pb base rb kb cb cap nm on miss qv vv tv uv qs vs ts us l f' nk' c nc:=by
 have hr:=h.r
 obtain ⟨cs,hc,_⟩:=h.r
 have hF:=Fr.grown hg
 have hb:∀ k,k < W.heap.size->k ≠ kb->W'.heap[k]?=W.heap[k]?:=fun k hk hn=>hF.block k hk (by simpa using hn)
 have hlt:∀ {k:Nat} {o:Obj},W.heap[k]?=some o->k < W.heap.size:=fun h=>(Array.getElem?_eq_some_iff.1 h).1
 exact ⟨h.p.kept hF hkb (Ne.symm (h.k.ne_cells h.p.blk)),hr.same (hb rb hr.lt (h.k.ne_cells hc)),(hb b1 (hlt h.x1) (h.k.ne_cells h.x1)).trans h.x1,(hb b2 (hlt h.x2) (h.k.ne_cells h.x2)).trans h.x2,(hb b3 (hlt h.x3) (h.k.ne_cells h.x3)).trans h.x3,hm,h.c.same (hb cb h.c.lt (Ne.symm hkc))⟩
end
end Go.Proofs.YtfgpbdieaflclaaGreat.Nm
