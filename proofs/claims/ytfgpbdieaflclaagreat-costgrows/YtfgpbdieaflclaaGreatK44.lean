import Derived.Test.YtfgpbdieaflclaaGreatK40
import Derived.Test.YtfgpbdieaflclaaGreatK43
set_option maxHeartbeats 51200000
set_option maxRecDepth 100000
namespace Go.Proofs.YtfgpbdieaflclaaGreat.Nm
open Go.RowKit Go.Maps Sp Lx Gr
theorem rresolve_yes {w:World} {ao:Option Addr} {l:List Rz} {cap:Nat} (h:IsRz w ao l) (hl:l.length<=2932031007317) (hkd:∀ r ∈ l,r.kids<=9223372036854775807/\r.name.size<=4611686018427387000) (hc:(chk l).1=0):
  Calls Tryz.prog 5 #[.slice ao l.length cap] w (Told w (resR (rat l 0).name (upto (start l) l.length))):=by
 obtain ⟨hc1,hc2⟩:=chk_ok hc
 have HBs:Hid (Base l):=base_of hc2
 have HW:Hid ((wrong [ab1] 0 l).2=false):=hc2
 have hb1:Below w.heap.size w ((w.alloc (.cells #[.string ⟨#[]⟩,pz,pz,pz,pz,pz,pz,.int .i64 0] 28)).alloc (.cells #[.int .i64 0,.int .i64 0] 31)):=(bAl w _).alloc (by simp) _
 have HR:Hid (Rsl w ((w.alloc (.cells #[.string ⟨#[]⟩,pz,pz,pz,pz,pz,pz,.int .i64 0] 28)).alloc (.cells #[.int .i64 0,.int .i64 0] 31))):=⟨by rw [alloc_old _ _ _ (by simp)];exact alloc_at _ _ _ rfl,alloc_at _ _ _ (by simp),hb1⟩
 have HC:=hdn <| refCheck_any ao l cap _ (h.below hb1) hl hkd
 rw [hc1] at HC
 dsimp only at HC
 obtain ⟨g,o,rfl,hg,_,d0,_⟩:=h 0 _ (some_rat HBs.out.pos)
 have HI:Hid (IsRz w (some ⟨g,o,none⟩) l/\l.length<=2932031007317/\g < w.heap.size):=⟨h,hl,hg⟩
 have hposN:0 < l.length:=HBs.out.pos
 have hl2:(l.length:Int)<=2932031007317:=by omega
 have d1:w.cell? ⟨g,o+1,none⟩=some (.string (rat l 0).name):=by simpa using d0
 obtain ⟨i0,hi,hz0,hz1,hz2⟩:=info_parts infoRw
 clear d0
 generalize hRR:resR (rat l 0).name (upto (start l) l.length)=RR at *
 have HRR:Hid (resR (rat l 0).name (upto (start l) l.length)=RR):=hRR
 clear hRR
 generalize (rat l 0).name=nm at *
 clear hc hc1 hc2 h hl hg hkd
 go_enter Tryz.func5,Tryz.ntmps5
 go_wp2_with fail
 refine Calls.mono HC.out ?_
 rintro e w1 ⟨rfl,hB1⟩
 have HR2:=hdn <| (HR.out.below hB1).below (bAl w1 (.cells #[.int .i64 0,.int .i64 0] 31))
 clear hb1 hB1 HR HC
 go_wp2_with fail
 generalize w1.alloc (.cells #[.int .i64 0,.int .i64 0] 31)=w2 at *
 generalize w1.heap.size=fb at *
 go_cut [5] (fun s5 wx=>∃ mb eb:Nat,s5=.pointer (some ⟨mb,0,none⟩)/\Md7 w wx l nm mb eb)
 case first=>
  have d2:w2.drew.cell? ⟨g,o+1,none⟩=some (.string nm):=(HR2.out.b.drew.cell (p:=⟨g,o+1,none⟩) HI.out.2.2).trans d1
  refine wp_region_held (S:=fun w'=>w'.cell? ⟨g,o+1,none⟩=some (.string nm)) (by kernel_rfl) ?_
  have hS:(fun w':World=>w'.cell? ⟨g,o+1,none⟩=some (.string nm)) w2.drew:=d2
  change wpAnyH _ _ _ _ _ _ _ _ w2.drew
  refine tq 0 rfl hS ?_
  refine tq 1 rfl hS ?_
  refine tq 2 rfl hS ?_
  refine tq 3 rfl hS ?_
  refine tq 4 rfl hS ?_
  refine tq 5 rfl hS ?_
  have HR3:=hdn <| HR2.out.below (Below.refl _ w2).drew
  generalize w2.drew=w3 at *
  refine rd1 6 rfl fun K hK=>?_
  go_simp
  refine Calls.mono (ends_any (some ⟨g,o,none⟩) l cap w3 (HI.out.1.below HR3.out.b) HI.out.2.1 HBs.out.tree) ?_
  rintro e w4 ⟨eb,rfl,heb,hrow,hb4⟩
  have HR4:=hdn <| HR3.out.below hb4
  have d4:w4.cell? ⟨g,o+1,none⟩=some (.string nm):=(HR4.out.b.cell (p:=⟨g,o+1,none⟩) HI.out.2.2).trans d1
  have d6:(w4.alloc (.cells #[.string nm,pz,pz,pz,pz,pz,pz,.int .i64 (-1),.slice (some ⟨eb,0,none⟩) l.length l.length,pz,.int .i64 0,.int .i64 0,.int .i64 0,.int .i64 0,.int .i64 0] 55)).cell? ⟨g,o+1,none⟩=some (.string nm):=by
   rw [World.cell?_of_block (a:=⟨g,o+1,none⟩) (alloc_old w4 _ g (Nat.lt_of_lt_of_le HI.out.2.2 HR4.out.b.size))]
   exact d4
  have hMd:Md7 w (w4.alloc (.cells #[.string nm,pz,pz,pz,pz,pz,pz,.int .i64 (-1),.slice (some ⟨eb,0,none⟩) l.length l.length,pz,.int .i64 0,.int .i64 0,.int .i64 0,.int .i64 0,.int .i64 0] 55)) l nm w4.heap.size eb:=by
   have hb:Below w4.heap.size w4 (w4.alloc (.cells #[.string nm,pz,pz,pz,pz,pz,pz,.int .i64 (-1),.slice (some ⟨eb,0,none⟩) l.length l.length,pz,.int .i64 0,.int .i64 0,.int .i64 0,.int .i64 0,.int .i64 0] 55)):=bAl w4 _
   have h1:=blk_lt HR4.out.f
   have h2:=blk_lt HR3.out.f
   have h3:=hrow.lt
   have h4:=hb.size
   exact ⟨HR4.out.below hb,heap_alloc_new w4 _,fun i hi=>(hb.cell (p:=⟨eb,i,none⟩) h3).trans (hrow.cell hi),by omega,by omega,by omega,by omega⟩
  have HMd:=hdn <| hMd
  clear hMd hrow heb hb4
  refine hK.out _ _ d4 (fun hS=>?_)
  refine rd1 7 rfl fun K hK=>?_
  go_simp
  refine hK.out _ _ d4 (fun hS=>?_)
  refine rd1 8 rfl fun K hK=>?_
  go_simp
  refine hK.out _ _ d6 (fun hS=>?_)
  refine rd1 9 rfl fun K hK=>?_
  go_simp
  refine hK.out _ _ d6 (fun hS=>?_)
  refine wpAnyH_done (by kernel_rfl) ?_ _
  go_wp2_with fail
  go_meet
  case rel=>exact ⟨_,eb,rfl,HMd.out⟩
 case rest=>
  obtain ⟨mb,eb,rfl,hMd⟩:=hcut
  have HMd:=hdn <| hMd
  have k1:wc.cell? ⟨mb,1,none⟩=some pz:=by simp only [World.cell?,hMd.p];rfl
  have HO:Hid (wc.ownsRow wc.heap.size 47 5 pz 0 []):=⟨rfl,Or.inl ⟨rfl,rfl⟩⟩
  have HCl:Hid (∀ j u,(l.flatMap rz5)[j]?=some u->wc.cell? ((⟨g,o,none⟩:Addr).add j)=some u):=by
   obtain ⟨g',o',e,_,hcl⟩:=rz_cells (HI.out.1.below hMd.r.b) hposN
   cases e
   exact hcl
  clear hMd HR2 d1
  go_wp2_with (at_builtin;refine append_gone _ rfl _ _ 22 rfl wc.heap.size 47 i0 (.agg #[.int .i64 0,.string ⟨#[]⟩,.int .i64 0,.int .i64 0,.int .i64 0]) 5 48 Tryz.underlying22 hi hz0 hz1 hz2 rfl (by decide) pz 0 [] rfl HO.out ⟨g,o,none⟩ l.length cap (l.flatMap rz5) rfl (rz5_len l) HCl.out (rz5_one l) ?c3 ?c4 (Nat.le_refl _) hposN ?_)
  case c3=>have:=HI.out.2.1;unfold maxLen;omega
  case c4=>have:=HI.out.2.1;omega
  intro v' w2 hown2 hG2
  have hb2:Below wc.heap.size wc w2:=(Below.refl _ wc).grown hG2.1 (Nat.le_refl _) (fun q e=>by simp [Value.ownBlock] at e)
  have hform:∃ rb rc,v'=.slice (some ⟨rb,0,none⟩) l.length rc:=by
   rcases hown2.2 with ⟨_,hz⟩ | ⟨g',cap',cur,e1,_⟩
   ·omega
   ·exact ⟨g',cap',e1⟩
  obtain ⟨rb,rc,rfl⟩:=hform
  try rw [List.nil_append] at hown2
  have hrlt:=World.ownsRow.lt hown2 rb rfl
  have hp2:=(hb2.block _ (blk_lt HMd.out.p)).trans HMd.out.p
  have q1:w2.cell? ⟨mb,1,none⟩=some pz:=by simp only [World.cell?,hp2];rfl
  have f1:w2.frozen? ⟨mb,1,none⟩=false:=zero8f hp2 1
  have hmlt:=blk_lt HMd.out.p
  have hM0:Mkr (w2.setCell ⟨mb,1,none⟩ (.slice (some ⟨rb,0,none⟩) l.length rc)) mb w2.heap.size rb rc eb nm l (start l) pz pz pz pz pz pz:=by
   have hsz2:=hb2.size
   have hl3:=HMd.out.l1
   have hkp:∀ k,k ≠ mb->(w2.setCell ⟨mb,1,none⟩ (.slice (some ⟨rb,0,none⟩) l.length rc)).heap[k]?=w2.heap[k]?:=fun k hk=>Below.heap_setCell w2 _ _ k (fun e=>hk e)
   refine ⟨⟨?_,?_,?_,?_,by omega,by simp [World.setCell]⟩,(rw_of_own hown2).same (hkp _ (by omega)),fun i hi=>?_,by omega⟩
   ·exact set_at hp2 (.slice (some ⟨rb,0,none⟩) l.length rc) rfl
   ·intro o ho
    simp only [List.mem_cons,List.not_mem_nil,or_false] at ho
    rcases ho with rfl | rfl | rfl | rfl | rfl | rfl<;>exact ⟨rfl,rfl,Or.inl ⟨rfl,rfl⟩⟩
   ·simp [Value.ownBlock]
   ·simp
   ·rw [World.cell?_of_block (a:=⟨eb,i,none⟩) (hkp eb hl3.2.2.2)]
    exact (hb2.cell (p:=⟨eb,i,none⟩) hl3.2.2.1).trans (HMd.out.e i hi)
  have HM0:=hdn <| hM0
  have HRs0:Hid (Rsl w (w2.setCell ⟨mb,1,none⟩ (.slice (some ⟨rb,0,none⟩) l.length rc))):=by
   have h1:=HMd.out.r.below hb2
   have hl3:=HMd.out.l1
   have hkp:∀ k,k ≠ mb->(w2.setCell ⟨mb,1,none⟩ (.slice (some ⟨rb,0,none⟩) l.length rc)).heap[k]?=w2.heap[k]?:=fun k hk=>Below.heap_setCell w2 _ _ k (fun e=>hk e)
   exact ⟨(hkp _ (by omega)).trans h1.p,(hkp _ (by omega)).trans h1.f,below_set h1.b (by omega) 1 _⟩
  have HA:Hid (w.heap.size+1 < mb/\w.heap.size+1 < rb/\w.heap.size+1 < w2.heap.size):=by
   have hl3:=HMd.out.l1
   have hsz2:=hb2.size
   exact ⟨by omega,by omega,by omega⟩
  clear hG2 hb2 hown2 hrlt hp2 hmlt hM0 HMd HCl HO
  go_wp2_with fail
  generalize w2.setCell ⟨mb,1,none⟩ (.slice (some ⟨rb,0,none⟩) l.length rc)=w3 at *
  generalize w2.heap.size=base at *
  clear q1 f1 k1
  go_loopg [6] l.length (fun gq x wr=>∃ (k:Nat) (s:Rs) (qv vv tv uv ov hv:Value),k+gq=l.length/\x=.int .i64 (k:Int)/\upto (start l) k=.ok s/\Mkr wr mb base rb rc eb nm l s qv vv tv uv ov hv/\Rsl w wr)
  case atStart=>exact ⟨0,start l,pz,pz,pz,pz,pz,pz,by omega,rfl,rfl,HM0.out,HRs0.out⟩
  case round=>
   obtain ⟨k,s,qv,vv,tv,uv,ov,hv,hkg,rfl,hup0,hMk,hRk⟩:=hrel
   have HMk:=hdn <| hMk
   have HRk:=hdn <| hRk
   have HUp:=hdn <| hup0
   have hkle:k<=l.length:=by omega
   have HG:Hid (Good l k s):=upto_good HBs.out k hkle hup0
   have HI2:Hid (Inv2 s):=upto_inv HBs.out k hkle hup0
   by_cases hlt:k < l.length
   ·have hk':(k:Int) < (l.length:Int):=by omega
    have hk2:(k:Int)<=2932031007317:=by omega
    obtain ⟨g',o',e',_,d0,_⟩:=(HI.out.1.below hRk.b) k _ (some_rat hlt)
    cases e'
    have HK:Hid (k+gk=l.length/\k < l.length):=⟨hkg,hlt⟩
    have HKd:Hid ((rat s.rows k).kind=(rat l k).kind):=(like_kind HG.out.like hlt).1
    generalize hkl:(rat l k).kind=kd at *
    have HKl:Hid ((rat l k).kind=kd):=hkl
    clear hkl
    have HDc:Hid (∀ W,Calls Tryz.prog 15 #[.int .i64 kd] W fun e w'=>e=.returned (.int .i64 (decl kd:Nat))/\W=w'):=fun W=>Calls.mono (declares_any kd W) (fun _ _ h=>⟨h.1,h.2.symm⟩)
    have HNc:Hid (∀ W,Calls Tryz.prog 17 #[.int .i64 kd] W fun e w'=>e=.returned (.int .i64 (nmd kd:Nat))/\W=w'):=fun W=>Calls.mono (names_any kd W) (fun _ _ h=>⟨h.1,h.2.symm⟩)
    have HEn:Hid (¬ (kd=8\/kd=9\/kd=10)->∀ W,Calls Tryz.prog 19 #[.int .i64 kd] W fun e w'=>e=.returned (.bool false)/\W=w'):=fun hne W=>Calls.mono (isEvent_any kd W) (fun _ _ ⟨⟨b,h1,h2⟩,h3⟩=>⟨by cases b with | false=>exact h1 | true=>exact absurd (h2.1 rfl) hne,h3.symm⟩)
    have HEy:Hid ((kd=8\/kd=9\/kd=10)->∀ W,Calls Tryz.prog 19 #[.int .i64 kd] W fun e w'=>e=.returned (.bool true)/\W=w'):=fun hye W=>Calls.mono (isEvent_any kd W) (fun _ _ ⟨⟨b,h1,h2⟩,h3⟩=>⟨by rw [h2.2 hye] at h1;exact h1,h3.symm⟩)
    clear hkg hup0 hMk hRk hkle hlt HM0 HRs0
    by_cases hd:decl kd=0
    ·have hd':(((decl kd:Nat):Int) != 0)=false:=by simp [hd]
     by_cases hn:nmd kd=0
     ·have hn':(((nmd kd:Nat):Int) != 0)=false:=by simp [hn]
      have HNx:Hid (upto (start l) (k+1)=errAt k (askH k s)):=next_MH HUp.out (by rw [HKd.out];exact hd) (askM_no (by rw [HKd.out];exact hn))
      by_cases he:kd=8\/kd=9\/kd=10
      ·have HEv:=hdn <| HEy.out he
       have HEvt:Hid (Calls Tryz.prog 20 #[.pointer (some ⟨mb,0,none⟩),.int .i64 (k:Int)] wr (MkL wr mb base rb rc eb nm l (askH k s))):=eventR_any HMk.out HG.out HK.out.2 HI.out.2.1 (evt_yes (by rw [HKd.out];exact he)) (fun e1=>by
        have:=nmd_ev (evt_one e1)
        rw [HKd.out,hn] at this
        cases this)
       clear he hn
       go_wp2_with fail
       refine Calls.mono (HDc.out _) ?_
       rintro _ _ ⟨rfl,rfl⟩
       go_wp2_with fail
       refine Calls.mono (HNc.out _) ?_
       rintro _ _ ⟨rfl,rfl⟩
       go_wp2_with fail
       refine Calls.mono (HEv.out _) ?_
       rintro _ _ ⟨rfl,rfl⟩
       go_wp2_with fail
       cases hA:askH k s with
       | error c=>
        rw [hA] at HEvt
        refine Calls.mono HEvt.out ?_
        rintro e w6 ⟨hF6,rfl⟩
        have HR6:=hdn <| HRk.out.fb hF6 HA.out.1 HA.out.2.1 HA.out.2.2
        have hup:upto (start l) (k+1)=.error (c,k):=(by rw [HNx.out,hA];rfl)
        have hcp:0 < c:=upto_pos _ hup
        have hc1:((c:Int) != 0)=true:=by simp;omega
        have hc2:((c:Int) == 0)=false:=by simp;omega
        have HE:Hid (RR=.error (c,k)):=by show _=_;rw [<-HRR.out,upto_end hup HK.out.2];rfl
        obtain ⟨r0,r1,r2,r3,r4,r5,r6,r7⟩:=HR6.out.cells
        obtain ⟨s0,s1,s2,s3⟩:=HR6.out.fault
        have z0:=HR6.out.frozen 0
        have z1:=HR6.out.frozen 1
        have z2:=HR6.out.frozen 2
        have z3:=HR6.out.frozen 3
        have z4:=HR6.out.frozen 4
        have z5:=HR6.out.frozen 5
        have z6:=HR6.out.frozen 6
        have z7:=HR6.out.frozen 7
        clear hF6 hup hcp
        go_wp2_with fail
        obtain ⟨x1,x2,x3⟩:=HR6.out.wrote (.string ⟨#[]⟩) pz pz pz pz pz pz (.int .i64 0) (.int .i64 (c:Int)) (.int .i64 (k:Int))
        obtain ⟨y0,y1,y2,y3,y4,y5,y6,y7,y8,y9⟩:=wrote_cells x1 x2
        exact bodyPost_ret (v:=.tuple #[.agg #[.string ⟨#[]⟩,pz,pz,pz,pz,pz,pz,.int .i64 0],.agg #[.int .i64 (c:Int),.int .i64 (k:Int)]]) (by simp [results,Tryz.results5,go_sem,y0,y1,y2,y3,y4,y5,y6,y7,y8,y9]) rfl (by rw [HE.out];exact ⟨x3,rfl⟩)
       | ok s'=>
        rw [hA] at HEvt
        refine Calls.mono HEvt.out ?_
        rintro e w6 ⟨hF6,rfl,qv',vv',tv',uv',ov',hv',hM6⟩
        have HR6:=hdn <| HRk.out.fb hF6 HA.out.1 HA.out.2.1 HA.out.2.2
        have HM6:=hdn <| hM6
        have HU6:Hid (upto (start l) (k+1)=.ok s'):=(by show _=_;rw [HNx.out,hA];rfl)
        clear hF6 hM6
        go_wp2_with fail
        go_roundg (l.length - (k+1))
        case measure=>have:=HK.out.1;have:=HK.out.2;omega
        case rel=>exact ⟨k+1,s',qv',vv',tv',uv',ov',hv',by have:=HK.out.1;have:=HK.out.2;omega,by go_num,HU6.out,HM6.out,HR6.out⟩
      ·have HEv:=hdn <| HEn.out he
       have HU6:Hid (upto (start l) (k+1)=.ok s):=by show _=_;rw [HNx.out,askH_no (by rw [HKd.out];exact he)];rfl
       clear he hn
       go_wp2_with fail
       refine Calls.mono (HDc.out _) ?_
       rintro _ _ ⟨rfl,rfl⟩
       go_wp2_with fail
       refine Calls.mono (HNc.out _) ?_
       rintro _ _ ⟨rfl,rfl⟩
       go_wp2_with fail
       refine Calls.mono (HEv.out _) ?_
       rintro _ _ ⟨rfl,rfl⟩
       go_wp2_with fail
       go_roundg (l.length - (k+1))
       case measure=>have:=HK.out.1;have:=HK.out.2;omega
       case rel=>exact ⟨k+1,s,qv,vv,tv,uv,ov,hv,by have:=HK.out.1;have:=HK.out.2;omega,by go_num,HU6.out,HMk.out,HRk.out⟩
     ·have HRefer:Hid (Calls Tryz.prog 18 #[.pointer (some ⟨mb,0,none⟩),.int .i64 (k:Int),.int .i64 (nmd kd:Nat)] wr (MkL wr mb base rb rc eb nm l (askM k s))):=by
       have:=refer_any HMk.out HG.out HI2.out.nd (m:=k) HK.out.2 HI.out.2.1 (by rw [HKd.out];exact hn)
       rw [HKd.out] at this
       exact this
      have hn':(((nmd kd:Nat):Int) != 0)=true:=by simp;exact hn
      clear hn
      go_wp2_with fail
      refine Calls.mono (HDc.out _) ?_
      rintro _ _ ⟨rfl,rfl⟩
      go_wp2_with fail
      refine Calls.mono (HNc.out _) ?_
      rintro _ _ ⟨rfl,rfl⟩
      go_wp2_with fail
      refine Calls.mono (HNc.out _) ?_
      rintro _ _ ⟨rfl,rfl⟩
      go_wp2_with fail
      cases hA:askM k s with
      | error c=>
       rw [hA] at HRefer
       refine Calls.mono HRefer.out ?_
       rintro e w6 ⟨hF6,rfl⟩
       have HR6:=hdn <| HRk.out.fb hF6 HA.out.1 HA.out.2.1 HA.out.2.2
       have hup:upto (start l) (k+1)=.error (c,k):=next_ME HUp.out (by rw [HKd.out];exact hd) hA
       have hcp:0 < c:=upto_pos _ hup
       have hc1:((c:Int) != 0)=true:=by simp;omega
       have hc2:((c:Int) == 0)=false:=by simp;omega
       have HE:Hid (RR=.error (c,k)):=by show _=_;rw [<-HRR.out,upto_end hup HK.out.2];rfl
       obtain ⟨r0,r1,r2,r3,r4,r5,r6,r7⟩:=HR6.out.cells
       obtain ⟨s0,s1,s2,s3⟩:=HR6.out.fault
       have z0:=HR6.out.frozen 0
       have z1:=HR6.out.frozen 1
       have z2:=HR6.out.frozen 2
       have z3:=HR6.out.frozen 3
       have z4:=HR6.out.frozen 4
       have z5:=HR6.out.frozen 5
       have z6:=HR6.out.frozen 6
       have z7:=HR6.out.frozen 7
       clear hF6 hup hcp
       go_wp2_with fail
       obtain ⟨x1,x2,x3⟩:=HR6.out.wrote (.string ⟨#[]⟩) pz pz pz pz pz pz (.int .i64 0) (.int .i64 (c:Int)) (.int .i64 (k:Int))
       obtain ⟨y0,y1,y2,y3,y4,y5,y6,y7,y8,y9⟩:=wrote_cells x1 x2
       exact bodyPost_ret (v:=.tuple #[.agg #[.string ⟨#[]⟩,pz,pz,pz,pz,pz,pz,.int .i64 0],.agg #[.int .i64 (c:Int),.int .i64 (k:Int)]]) (by simp [results,Tryz.results5,go_sem,y0,y1,y2,y3,y4,y5,y6,y7,y8,y9]) rfl (by rw [HE.out];exact ⟨x3,rfl⟩)
      | ok b=>
       rw [hA] at HRefer
       have hNx:upto (start l) (k+1)=errAt k (askH k b):=next_MH HUp.out (by rw [HKd.out];exact hd) hA
       have hgb:Good l k b:=good_M HG.out hA
       have hkb:(rat b.rows k).kind=kd:=((like_kind hgb.like HK.out.2).1).trans HKl.out
       have hqb:(evt (rat b.rows k)).1=1->0<=(rat b.rows k).n/\(rat b.rows k).n < (b.qs.length:Int):=num_M2 HK.out.2 HG.out hA
       have HB3:Hid (upto (start l) (k+1)=errAt k (askH k b)/\Good l k b/\(rat b.rows k).kind=kd/\((evt (rat b.rows k)).1=1->0<=(rat b.rows k).n/\(rat b.rows k).n < (b.qs.length:Int))):=⟨hNx,hgb,hkb,hqb⟩
       clear hNx hgb hkb hqb hA
       by_cases he:kd=8\/kd=9\/kd=10
       ·have HEv:=hdn <| HEy.out he
        refine Calls.mono HRefer.out ?_
        rintro e w6 ⟨hF6,rfl,qv',vv',tv',uv',ov',hv',hM6⟩
        have HR6:=hdn <| HRk.out.fb hF6 HA.out.1 HA.out.2.1 HA.out.2.2
        have HEvt:Hid (Calls Tryz.prog 20 #[.pointer (some ⟨mb,0,none⟩),.int .i64 (k:Int)] w6 (MkL w6 mb base rb rc eb nm l (askH k b))):=eventR_any hM6 HB3.out.2.1 HK.out.2 HI.out.2.1 (evt_yes (by rw [HB3.out.2.2.1];exact he)) HB3.out.2.2.2
        have HRk:=HR6
        clear hF6 hM6 HRefer he
        go_wp2_with fail
        refine Calls.mono (HEv.out _) ?_
        rintro _ _ ⟨rfl,rfl⟩
        go_wp2_with fail
        cases hA:askH k b with
        | error c=>
         rw [hA] at HEvt
         refine Calls.mono HEvt.out ?_
         rintro e w7 ⟨hF6,rfl⟩
         have HR7:=hdn <| HRk.out.fb hF6 HA.out.1 HA.out.2.1 HA.out.2.2
         have hup:upto (start l) (k+1)=.error (c,k):=(by rw [HB3.out.1,hA];rfl)
         have hcp:0 < c:=upto_pos _ hup
         have hc1:((c:Int) != 0)=true:=by simp;omega
         have hc2:((c:Int) == 0)=false:=by simp;omega
         have HE:Hid (RR=.error (c,k)):=by show _=_;rw [<-HRR.out,upto_end hup HK.out.2];rfl
         obtain ⟨r0,r1,r2,r3,r4,r5,r6,r7⟩:=HR7.out.cells
         obtain ⟨s0,s1,s2,s3⟩:=HR7.out.fault
         have z0:=HR7.out.frozen 0
         have z1:=HR7.out.frozen 1
         have z2:=HR7.out.frozen 2
         have z3:=HR7.out.frozen 3
         have z4:=HR7.out.frozen 4
         have z5:=HR7.out.frozen 5
         have z6:=HR7.out.frozen 6
         have z7:=HR7.out.frozen 7
         clear hF6 hup hcp
         go_wp2_with fail
         obtain ⟨x1,x2,x3⟩:=HR7.out.wrote (.string ⟨#[]⟩) pz pz pz pz pz pz (.int .i64 0) (.int .i64 (c:Int)) (.int .i64 (k:Int))
         obtain ⟨y0,y1,y2,y3,y4,y5,y6,y7,y8,y9⟩:=wrote_cells x1 x2
         exact bodyPost_ret (v:=.tuple #[.agg #[.string ⟨#[]⟩,pz,pz,pz,pz,pz,pz,.int .i64 0],.agg #[.int .i64 (c:Int),.int .i64 (k:Int)]]) (by simp [results,Tryz.results5,go_sem,y0,y1,y2,y3,y4,y5,y6,y7,y8,y9]) rfl (by rw [HE.out];exact ⟨x3,rfl⟩)
        | ok s'=>
         rw [hA] at HEvt
         refine Calls.mono HEvt.out ?_
         rintro e w7 ⟨hF6,rfl,qv',vv',tv',uv',ov',hv',hM6⟩
         have HR7:=hdn <| HRk.out.fb hF6 HA.out.1 HA.out.2.1 HA.out.2.2
         have HM6:=hdn <| hM6
         have HU6:Hid (upto (start l) (k+1)=.ok s'):=(by show _=_;rw [HB3.out.1,hA];rfl)
         clear hF6 hM6
         go_wp2_with fail
         go_roundg (l.length - (k+1))
         case measure=>have:=HK.out.1;have:=HK.out.2;omega
         case rel=>exact ⟨k+1,s',qv',vv',tv',uv',ov',hv',by have:=HK.out.1;have:=HK.out.2;omega,by go_num,HU6.out,HM6.out,HR7.out⟩
       ·have HEv:=hdn <| HEn.out he
        have HNx:Hid (upto (start l) (k+1)=.ok b):=by show _=_;rw [HB3.out.1,askH_no (by rw [HB3.out.2.2.1];exact he)];rfl
        clear he
        refine Calls.mono HRefer.out ?_
        rintro e w6 ⟨hF6,rfl,qv',vv',tv',uv',ov',hv',hM6⟩
        have HR6:=hdn <| HRk.out.fb hF6 HA.out.1 HA.out.2.1 HA.out.2.2
        have HM6:=hdn <| hM6
        have HU6:Hid (upto (start l) (k+1)=.ok b):=HNx.out
        clear hF6 hM6
        go_wp2_with fail
        refine Calls.mono (HEv.out _) ?_
        rintro _ _ ⟨rfl,rfl⟩
        go_wp2_with fail
        go_roundg (l.length - (k+1))
        case measure=>have:=HK.out.1;have:=HK.out.2;omega
        case rel=>exact ⟨k+1,b,qv',vv',tv',uv',ov',hv',by have:=HK.out.1;have:=HK.out.2;omega,by go_num,HU6.out,HM6.out,HR6.out⟩
    ·have HDecl:Hid (Calls Tryz.prog 16 #[.pointer (some ⟨mb,0,none⟩),.int .i64 (k:Int),.int .i64 (decl kd:Nat)] wr (MkL wr mb base rb rc eb nm l (askD k s))):=by
      have:=declareR_any HMk.out HG.out HI2.out (m:=k) HK.out.2 HI.out.2.1 HBs.out.tree (by rw [HKd.out];exact hd)
      rw [HKd.out] at this
      exact this
     have hd':(((decl kd:Nat):Int) != 0)=true:=by simp;exact hd
     have hn':(((nmd kd:Nat):Int) != 0)=false:=by simp [(kinds_D hd).1]
     have HEv:Hid (∀ W,Calls Tryz.prog 19 #[.int .i64 kd] W fun e w'=>e=.returned (.bool false)/\W=w'):=HEn.out (kinds_D hd).2
     have HNx:Hid (upto (start l) (k+1)=errAt k (askD k s)):=next_D HBs.out HUp.out HG.out HK.out.2 (by rw [HKd.out];exact hd)
     clear hd
     go_wp2_with fail
     refine Calls.mono (HDc.out _) ?_
     rintro _ _ ⟨rfl,rfl⟩
     go_wp2_with fail
     refine Calls.mono (HDc.out _) ?_
     rintro _ _ ⟨rfl,rfl⟩
     go_wp2_with fail
     cases hA:askD k s with
     | error c=>
      rw [hA] at HDecl HNx
      refine Calls.mono HDecl.out ?_
      rintro e w6 ⟨hF6,rfl⟩
      have HR6:=hdn <| HRk.out.fb hF6 HA.out.1 HA.out.2.1 HA.out.2.2
      have hup:upto (start l) (k+1)=.error (c,k):=HNx.out
      have hcp:0 < c:=upto_pos _ hup
      have hc1:((c:Int) != 0)=true:=by simp;omega
      have hc2:((c:Int) == 0)=false:=by simp;omega
      have HE:Hid (RR=.error (c,k)):=by show _=_;rw [<-HRR.out,upto_end hup HK.out.2];rfl
      obtain ⟨r0,r1,r2,r3,r4,r5,r6,r7⟩:=HR6.out.cells
      obtain ⟨s0,s1,s2,s3⟩:=HR6.out.fault
      have z0:=HR6.out.frozen 0
      have z1:=HR6.out.frozen 1
      have z2:=HR6.out.frozen 2
      have z3:=HR6.out.frozen 3
      have z4:=HR6.out.frozen 4
      have z5:=HR6.out.frozen 5
      have z6:=HR6.out.frozen 6
      have z7:=HR6.out.frozen 7
      clear hF6 hup hcp
      go_wp2_with fail
      refine Calls.mono (HNc.out _) ?_
      rintro _ _ ⟨rfl,rfl⟩
      go_wp2_with fail
      obtain ⟨x1,x2,x3⟩:=HR6.out.wrote (.string ⟨#[]⟩) pz pz pz pz pz pz (.int .i64 0) (.int .i64 (c:Int)) (.int .i64 (k:Int))
      obtain ⟨y0,y1,y2,y3,y4,y5,y6,y7,y8,y9⟩:=wrote_cells x1 x2
      exact bodyPost_ret (v:=.tuple #[.agg #[.string ⟨#[]⟩,pz,pz,pz,pz,pz,pz,.int .i64 0],.agg #[.int .i64 (c:Int),.int .i64 (k:Int)]]) (by simp [results,Tryz.results5,go_sem,y0,y1,y2,y3,y4,y5,y6,y7,y8,y9]) rfl (by rw [HE.out];exact ⟨x3,rfl⟩)
     | ok s'=>
      rw [hA] at HDecl HNx
      refine Calls.mono HDecl.out ?_
      rintro e w6 ⟨hF6,rfl,qv',vv',tv',uv',ov',hv',hM6⟩
      have HR6:=hdn <| HRk.out.fb hF6 HA.out.1 HA.out.2.1 HA.out.2.2
      have HM6:=hdn <| hM6
      have HU6:Hid (upto (start l) (k+1)=.ok s'):=HNx.out
      clear hF6 hM6
      go_wp2_with fail
      refine Calls.mono (HNc.out _) ?_
      rintro _ _ ⟨rfl,rfl⟩
      go_wp2_with fail
      refine Calls.mono (HEv.out _) ?_
      rintro _ _ ⟨rfl,rfl⟩
      go_wp2_with fail
      go_roundg (l.length - (k+1))
      case measure=>have:=HK.out.1;have:=HK.out.2;omega
      case rel=>exact ⟨k+1,s',qv',vv',tv',uv',ov',hv',by have:=HK.out.1;have:=HK.out.2;omega,by go_num,HU6.out,HM6.out,HR6.out⟩
   ·have hke:k=l.length:=by omega
    subst hke
    have hlen:=like_len HG.out.like
    have hcl:=upto_cl HBs.out l.length (Nat.le_refl _) HUp.out
    have hou0:wr.ownsRow base 3 1 uv s.us.length (nv s.us):=(HMk.out.ob.own ⟨5,3,1,uv,s.us.length,nv s.us⟩ (by simp)).2
    obtain ⟨uo,uc,rfl⟩:=own_form hou0
    have hoq0:wr.ownsRow base 67 2 qv s.qs.length (qF s.qs):=(HMk.out.ob.own ⟨2,67,2,qv,s.qs.length,qF s.qs⟩ (by simp)).2
    obtain ⟨qo,qc,rfl⟩:=own_form hoq0
    have hov0:wr.ownsRow base 9 1 vv s.vs.length (s.vs.map Value.string):=(HMk.out.ob.own ⟨3,9,1,vv,s.vs.length,s.vs.map Value.string⟩ (by simp)).2
    obtain ⟨vo,vc,rfl⟩:=own_form hov0
    have hot0:wr.ownsRow base 9 1 tv s.ts.length (s.ts.map Value.string):=(HMk.out.ob.own ⟨4,9,1,tv,s.ts.length,s.ts.map Value.string⟩ (by simp)).2
    obtain ⟨tto,tc,rfl⟩:=own_form hot0
    have hoo0:wr.ownsRow base 3 1 ov s.qs.length (iv (onsOf s.ev s.qs.length)):=(HMk.out.ob.own ⟨6,3,1,ov,s.qs.length,iv (onsOf s.ev s.qs.length)⟩ (by simp)).2
    obtain ⟨oo,oc,rfl⟩:=own_form hoo0
    have hTs:TreeZ s.rows:=like_tree HG.out.like HBs.out.tree
    have hes:∀ i,i < s.rows.length->wr.cell? ⟨eb,i,none⟩=some (.int .i64 (endp s.rows i:Nat)):=fun i hi=>by rw [endp_like HG.out.like];exact HMk.out.e i (by omega)
    have HFx:Hid (Cl l l.length l.length s/\s.rows.length=l.length/\TreeZ s.rows/\s.us.length<=64/\(∀ i,i < s.rows.length->wr.cell? ⟨eb,i,none⟩=some (.int .i64 (endp s.rows i:Nat)))):=⟨hcl,hlen,hTs,HG.out.u,hes⟩
    have HSm:Hid (∀ wq,Below wr.heap.size wr wq->Calls Tryz.prog 21 #[.agg #[.string nm,.slice (some ⟨rb,0,none⟩) l.length rc,.slice qo s.qs.length qc,.slice vo s.vs.length vc,.slice tto s.ts.length tc,.slice uo s.us.length uc,.slice oo s.qs.length oc,.int .i64 (plc s.ev (5,0))],.slice (some ⟨eb,0,none⟩) l.length l.length] wq fun e w'=>∃ sv,e=.returned sv/\w'.ownsRow (wq.heap.size+1) 3 1 sv s.us.length (nv (sumsOf s.rows s.us))/\Below wq.heap.size wq w'):=fun wq hb=>by
     have hou:=(HMk.out.below hb).ob.own ⟨5,3,1,.slice uo s.us.length uc,s.us.length,nv s.us⟩ (by simp)
     have:=rsums_any (c0:=.string nm) (c2:=.slice qo s.qs.length qc) (c3:=.slice vo s.vs.length vc) (c4:=.slice tto s.ts.length tc) (c6:=.slice oo s.qs.length oc) (c7:=.int .i64 (plc s.ev (5,0))) (cap:=rc) (uc:=uc) ((HMk.out.below hb).r.rz) (nats_of hou.2).1 (fun i hi=>(hb.cell (p:=⟨eb,i,none⟩) (World.block_lt_of_cell? wr ⟨eb,i,none⟩ (HFx.out.2.2.2.2 i hi))).trans (HFx.out.2.2.2.2 i hi)) HFx.out.2.2.1 (by rw [HFx.out.2.1];exact HI.out.2.1) HFx.out.2.2.2.1 (fun u hu=>by rw [HFx.out.2.1];exact HG.out.ul u hu) (calls_ahead HW.out HG.out HFx.out.1)
     rw [HFx.out.2.1] at this
     exact this
    have hS0:wr.drew.cell? ⟨mb,0,none⟩=some (.string nm)/\wr.drew.cell? ⟨mb,1,none⟩=some (.slice (some ⟨rb,0,none⟩) l.length rc)/\wr.drew.cell? ⟨mb,2,none⟩=some (.slice qo s.qs.length qc)/\wr.drew.cell? ⟨mb,3,none⟩=some (.slice vo s.vs.length vc)/\wr.drew.cell? ⟨mb,4,none⟩=some (.slice tto s.ts.length tc)/\wr.drew.cell? ⟨mb,5,none⟩=some (.slice uo s.us.length uc)/\wr.drew.cell? ⟨mb,6,none⟩=some (.slice oo s.qs.length oc)/\wr.drew.cell? ⟨mb,7,none⟩=some (.int .i64 (plc s.ev (5,0)))/\wr.drew.cell? ⟨mb,8,none⟩=some (.slice (some ⟨eb,0,none⟩) l.length l.length):=⟨HMk.out.cell 0 _ rfl,HMk.out.cell 1 _ rfl,HMk.out.cell 2 _ rfl,HMk.out.cell 3 _ rfl,HMk.out.cell 4 _ rfl,HMk.out.cell 5 _ rfl,HMk.out.cell 6 _ rfl,HMk.out.cell 7 _ rfl,HMk.out.cell 8 _ rfl⟩
    have hk2:decide ((l.length:Int) < (l.length:Int))=false:=decide_eq_false (by omega)
    clear hcl hlen hTs hes hlt hou0 hoq0 hov0 hot0 hoo0
    go_wp2_with fail
    refine wp_region_held (S:=fun w'=>w'.cell? ⟨mb,0,none⟩=some (.string nm)/\w'.cell? ⟨mb,1,none⟩=some (.slice (some ⟨rb,0,none⟩) l.length rc)/\w'.cell? ⟨mb,2,none⟩=some (.slice qo s.qs.length qc)/\w'.cell? ⟨mb,3,none⟩=some (.slice vo s.vs.length vc)/\w'.cell? ⟨mb,4,none⟩=some (.slice tto s.ts.length tc)/\w'.cell? ⟨mb,5,none⟩=some (.slice uo s.us.length uc)/\w'.cell? ⟨mb,6,none⟩=some (.slice oo s.qs.length oc)/\w'.cell? ⟨mb,7,none⟩=some (.int .i64 (plc s.ev (5,0)))/\w'.cell? ⟨mb,8,none⟩=some (.slice (some ⟨eb,0,none⟩) l.length l.length)) (by kernel_rfl) ?_
    have hS:(fun w':World=>w'.cell? ⟨mb,0,none⟩=some (.string nm)/\w'.cell? ⟨mb,1,none⟩=some (.slice (some ⟨rb,0,none⟩) l.length rc)/\w'.cell? ⟨mb,2,none⟩=some (.slice qo s.qs.length qc)/\w'.cell? ⟨mb,3,none⟩=some (.slice vo s.vs.length vc)/\w'.cell? ⟨mb,4,none⟩=some (.slice tto s.ts.length tc)/\w'.cell? ⟨mb,5,none⟩=some (.slice uo s.us.length uc)/\w'.cell? ⟨mb,6,none⟩=some (.slice oo s.qs.length oc)/\w'.cell? ⟨mb,7,none⟩=some (.int .i64 (plc s.ev (5,0)))/\w'.cell? ⟨mb,8,none⟩=some (.slice (some ⟨eb,0,none⟩) l.length l.length)) wr.drew:=hS0
    change wpAnyH _ _ _ _ _ _ _ _ wr.drew
    refine tk (i:=0) (v:=?av0) rfl (Or.inl ⟨by rfl,?ay0⟩) hS ?ar0
    case ay0=>intro w hSw;(try dsimp only at hSw);obtain ⟨g0,g1,g2,g3,g4,g5,g6,g7,g8⟩:=hSw;first | (go_simp;done) | (go_simp;with_reducible rfl)
    refine tk (i:=1) (v:=?av1) rfl (Or.inl ⟨by rfl,?ay1⟩) hS ?ar1
    case ay1=>intro w hSw;(try dsimp only at hSw);obtain ⟨g0,g1,g2,g3,g4,g5,g6,g7,g8⟩:=hSw;first | (go_simp;done) | (go_simp;with_reducible rfl)
    refine tk (i:=2) (v:=?av2) rfl (Or.inl ⟨by rfl,?ay2⟩) hS ?ar2
    case ay2=>intro w hSw;(try dsimp only at hSw);obtain ⟨g0,g1,g2,g3,g4,g5,g6,g7,g8⟩:=hSw;first | (go_simp;done) | (go_simp;with_reducible rfl)
    refine tk (i:=3) (v:=?av3) rfl (Or.inl ⟨by rfl,?ay3⟩) hS ?ar3
    case ay3=>intro w hSw;(try dsimp only at hSw);obtain ⟨g0,g1,g2,g3,g4,g5,g6,g7,g8⟩:=hSw;first | (go_simp;done) | (go_simp;with_reducible rfl)
    refine tk (i:=4) (v:=?av4) rfl (Or.inl ⟨by rfl,?ay4⟩) hS ?ar4
    case ay4=>intro w hSw;(try dsimp only at hSw);obtain ⟨g0,g1,g2,g3,g4,g5,g6,g7,g8⟩:=hSw;first | (go_simp;done) | (go_simp;with_reducible rfl)
    refine tk (i:=5) (v:=?av5) rfl (Or.inl ⟨by rfl,?ay5⟩) hS ?ar5
    case ay5=>intro w hSw;(try dsimp only at hSw);obtain ⟨g0,g1,g2,g3,g4,g5,g6,g7,g8⟩:=hSw;first | (go_simp;done) | (go_simp;with_reducible rfl)
    refine tk (i:=6) (v:=?av6) rfl (Or.inl ⟨by rfl,?ay6⟩) hS ?ar6
    case ay6=>intro w hSw;(try dsimp only at hSw);obtain ⟨g0,g1,g2,g3,g4,g5,g6,g7,g8⟩:=hSw;first | (go_simp;done) | (go_simp;with_reducible rfl)
    refine tk (i:=7) (v:=?av7) rfl (Or.inl ⟨by rfl,?ay7⟩) hS ?ar7
    case ay7=>intro w hSw;(try dsimp only at hSw);obtain ⟨g0,g1,g2,g3,g4,g5,g6,g7,g8⟩:=hSw;first | (go_simp;done) | (go_simp;with_reducible rfl)
    refine rd1 8 rfl fun K hK=>?_
    go_simp
    refine Calls.mono (HSm.out _ (Below.refl _ wr).drew) ?_
    rintro e w8 ⟨sv,rfl,hsv,hb8⟩
    have hb3:Below wr.heap.size wr w8:=(Below.refl _ wr).drew.trans (hb8.mono (Nat.le_refl _))
    have hM8:=HMk.out.below hb3
    have hS8:w8.cell? ⟨mb,0,none⟩=some (.string nm)/\w8.cell? ⟨mb,1,none⟩=some (.slice (some ⟨rb,0,none⟩) l.length rc)/\w8.cell? ⟨mb,2,none⟩=some (.slice qo s.qs.length qc)/\w8.cell? ⟨mb,3,none⟩=some (.slice vo s.vs.length vc)/\w8.cell? ⟨mb,4,none⟩=some (.slice tto s.ts.length tc)/\w8.cell? ⟨mb,5,none⟩=some (.slice uo s.us.length uc)/\w8.cell? ⟨mb,6,none⟩=some (.slice oo s.qs.length oc)/\w8.cell? ⟨mb,7,none⟩=some (.int .i64 (plc s.ev (5,0)))/\w8.cell? ⟨mb,8,none⟩=some (.slice (some ⟨eb,0,none⟩) l.length l.length):=⟨hM8.cell 0 _ rfl,hM8.cell 1 _ rfl,hM8.cell 2 _ rfl,hM8.cell 3 _ rfl,hM8.cell 4 _ rfl,hM8.cell 5 _ rfl,hM8.cell 6 _ rfl,hM8.cell 7 _ rfl,hM8.cell 8 _ rfl⟩
    have HM8:=hdn <| hM8
    have HR8:=hdn <| HRk.out.below hb3
    have HSv:Hid (w8.ownsRow (wr.drew.heap.size+1) 3 1 sv s.us.length (nv (sumsOf s.rows s.us))):=hsv
    obtain ⟨so,sc,rfl⟩:=own_form hsv
    generalize wr.drew.heap.size+1=bs at *
    clear hb8 hb3 hM8 hsv HSm
    refine hK.out _ _ hS8 (fun hS=>?_)
    refine rd1 9 rfl fun K hK=>?_
    go_simp
    refine hK.out _ _ hS8 (fun hS=>?_)
    refine wpAnyH_done (by kernel_rfl) ?_ _
    clear hS hS0 hS8
    go_wp2_with fail
    have HSN:Hid (∀ i x:Nat,(sumsOf s.rows s.us)[i]?=some x->x<=4611686018427387904):=sumsN_le s.rows s.us _
    have HSL:Hid ((sumsOf s.rows s.us).length=s.us.length):=sumsN_len _ _ _
    have HRs:Hid (∀ r,big s.rows (sumsOf s.rows s.us) l.length=r->RR=match r with | .error k=>.error (34,k) | .ok _=>.ok ⟨nm,s.rows,s.qs,s.vs,s.ts,s.us,onsOf s.ev s.qs.length,plc s.ev (5,0)⟩):=fun r hr=>by
     rw [<-HRR.out,HUp.out]
     simp only [resR]
     rw [HFx.out.2.1,hr]
     cases r<;>rfl
    have HBg:Hid (∀ k,big s.rows (sumsOf s.rows s.us) (k+1)=match big s.rows (sumsOf s.rows s.us) k with | .error e=>.error e | .ok sm=>if (evt (rat s.rows k)).1=0 then .ok sm else if 16384 < pls sm (laidAt s.rows (sumsOf s.rows s.us) (k+1)) then .error k else .ok (pls sm (laidAt s.rows (sumsOf s.rows s.us) (k+1)))):=fun _=>rfl
    have HBF:Hid (∀ k e,big s.rows (sumsOf s.rows s.us) k=.error e->k<=l.length->big s.rows (sumsOf s.rows s.us) l.length=.error e):=fun k e h hk=>by
     have:=big_err h (l.length - k)
     rw [show k+(l.length - k)=l.length by omega] at this
     exact this
    have HB0:Hid (big s.rows (sumsOf s.rows s.us) 0=.ok 0):=rfl
    generalize sumsOf s.rows s.us=SS at *
    go_loopg [10,11] l.length (fun gq x y wr=>∃ j sm:Nat,j+gq=l.length/\x=.int .i64 (sm:Int)/\y=.int .i64 (j:Int)/\big s.rows SS j=.ok sm/\sm<=4611686018427387904/\Below w8.heap.size w8 wr)
    case atStart=>exact ⟨0,0,by omega,rfl,rfl,HB0.out,by omega,Below.refl _ _⟩
    case round=>
     obtain ⟨j,sm,hjg,rfl,rfl,hbig,hsm,hbq⟩:=hrel
     have HMq:=hdn <| HM8.out.below hbq
     have HRq:=hdn <| HR8.out.below hbq
     have HSq:Hid (wr.ownsRow bs 3 1 (.slice so s.us.length sc) s.us.length (nv SS)):=own_below HSv.out hbq
     have HBq:=hdn <| hbq
     have hsm2:(sm:Int)<=4611686018427387904:=by omega
     have HSmm:=hdn <| hsm
     by_cases hlt:j < l.length
     ·have hj':(j:Int) < (l.length:Int):=by omega
      have hj2:(j:Int)<=2932031007317:=by omega
      obtain ⟨g',o',e',_,d0,_⟩:=(HI.out.1.below HRq.out.b) j _ (some_rat hlt)
      cases e'
      have HK2:Hid (j+gk=l.length/\j < l.length):=⟨hjg,hlt⟩
      have HBk:=HBg.out j
      rw [hbig] at HBk
      have HBk:Hid (big s.rows SS (j+1)=if (evt (rat s.rows j)).1=0 then .ok sm else if 16384 < pls sm (laidAt s.rows SS (j+1)) then .error j else .ok (pls sm (laidAt s.rows SS (j+1)))):=HBk
      have HKd:Hid ((rat s.rows j).kind=(rat l j).kind):=(like_kind HG.out.like hlt).1
      generalize (rat l j).kind=kd at *
      have HEn:Hid (¬ (kd=8\/kd=9\/kd=10)->∀ W,Calls Tryz.prog 19 #[.int .i64 kd] W fun e w'=>e=.returned (.bool false)/\W=w'):=fun hne W=>Calls.mono (isEvent_any kd W) (fun _ _ ⟨⟨b,h1,h2⟩,h3⟩=>⟨by cases b with | false=>exact h1 | true=>exact absurd (h2.1 rfl) hne,h3.symm⟩)
      have HEy:Hid ((kd=8\/kd=9\/kd=10)->∀ W,Calls Tryz.prog 19 #[.int .i64 kd] W fun e w'=>e=.returned (.bool true)/\W=w'):=fun hye W=>Calls.mono (isEvent_any kd W) (fun _ _ ⟨⟨b,h1,h2⟩,h3⟩=>⟨by rw [h2.2 hye] at h1;exact h1,h3.symm⟩)
      clear hjg hbig hsm hbq hlt
      by_cases he:kd=8\/kd=9\/kd=10
      ·have HEv:=hdn <| HEy.out he
       have hez:=evt_yes (x:=rat s.rows j) (by rw [HKd.out];exact he)
       have HIn:Hid (j+1 < l.length):=by
        have:=ev_in HBs.out HG.out j (by rw [HFx.out.2.1];exact HK2.out.2) hez
        rw [HFx.out.2.1] at this
        exact this
       rw [if_neg hez] at HBk
       have HLd:Hid (∀ wv,Below wr.heap.size wr wv->Calls Tryz.prog 23 #[.agg #[.string nm,.slice (some ⟨rb,0,none⟩) l.length rc,.slice qo s.qs.length qc,.slice vo s.vs.length vc,.slice tto s.ts.length tc,.slice uo s.us.length uc,.slice oo s.qs.length oc,.int .i64 (plc s.ev (5,0))],.slice (some ⟨eb,0,none⟩) l.length l.length,.slice so s.us.length sc,.int .i64 ((j:Int)+1)] wv fun e w'=>e=.returned (.int .i64 (laidAt s.rows SS (j+1):Nat))/\Below wv.heap.size wv w'):=fun wv hb=>by
        have hMv:=HMq.out.below hb
        have hos:wv.ownsRow bs 3 1 (.slice so s.us.length sc) SS.length (nv SS):=by rw [HSL.out];exact own_below HSq.out hb
        have hrow:j+1 < s.rows.length:=by rw [HFx.out.2.1];exact HIn.out
        have:=rlaid_any (c0:=.string nm) (c2:=.slice qo s.qs.length qc) (c3:=.slice vo s.vs.length vc) (c4:=.slice tto s.ts.length tc) (c5:=.slice uo s.us.length uc) (c6:=.slice oo s.qs.length oc) (c7:=.int .i64 (plc s.ev (5,0))) (cap:=rc) (uc:=sc) hMv.r.rz (sums_of hos HSN.out) (by rw [endp_like HG.out.like];exact hMv.e (j+1) HIn.out) HFx.out.2.2.1 (by rw [HFx.out.2.1];exact HI.out.2.1) (by rw [HSL.out];have:=HFx.out.2.2.2.1;omega) hrow (fun q _ hq2 hq3=>by
         rw [HSL.out]
         exact calls_there HG.out HFx.out.1 q (by have:=(end_kid HFx.out.2.2.1.whole hrow).2.2;have:=HFx.out.2.1;omega) hq3)
        rw [HFx.out.2.1,HSL.out,show ((j+1:Nat):Int)=(j:Int)+1 by omega] at this
        exact this
       have HPl:Hid (∀ W,Calls Tryz.prog 22 #[.int .i64 (sm:Int),.int .i64 (laidAt s.rows SS (j+1):Nat)] W fun e w'=>e=.returned (.int .i64 (pls sm (laidAt s.rows SS (j+1)):Nat))/\W=w'):=fun W=>Calls.mono (rplus_any sm _ HSmm.out (laidAt_le HSN.out _) W) (fun _ _ h=>⟨h.1,h.2.symm⟩)
       have HPs:Hid (pls sm (laidAt s.rows SS (j+1))<=4611686018427387904):=pls_le _ _ (laidAt_le HSN.out _)
       generalize laidAt s.rows SS (j+1)=la at *
       generalize pls sm la=s1 at *
       have hs1:(s1:Int)<=4611686018427387904:=by have:=HPs.out;omega
       have hS0:wr.drew.cell? ⟨mb,0,none⟩=some (.string nm)/\wr.drew.cell? ⟨mb,1,none⟩=some (.slice (some ⟨rb,0,none⟩) l.length rc)/\wr.drew.cell? ⟨mb,2,none⟩=some (.slice qo s.qs.length qc)/\wr.drew.cell? ⟨mb,3,none⟩=some (.slice vo s.vs.length vc)/\wr.drew.cell? ⟨mb,4,none⟩=some (.slice tto s.ts.length tc)/\wr.drew.cell? ⟨mb,5,none⟩=some (.slice uo s.us.length uc)/\wr.drew.cell? ⟨mb,6,none⟩=some (.slice oo s.qs.length oc)/\wr.drew.cell? ⟨mb,7,none⟩=some (.int .i64 (plc s.ev (5,0)))/\wr.drew.cell? ⟨mb,8,none⟩=some (.slice (some ⟨eb,0,none⟩) l.length l.length):=⟨HMq.out.cell 0 _ rfl,HMq.out.cell 1 _ rfl,HMq.out.cell 2 _ rfl,HMq.out.cell 3 _ rfl,HMq.out.cell 4 _ rfl,HMq.out.cell 5 _ rfl,HMq.out.cell 6 _ rfl,HMq.out.cell 7 _ rfl,HMq.out.cell 8 _ rfl⟩
       clear he hez
       go_wp2_with fail
       refine Calls.mono (HEv.out _) ?_
       rintro _ _ ⟨rfl,rfl⟩
       go_wp2_with fail
       refine wp_region_held (S:=fun w'=>w'.cell? ⟨mb,0,none⟩=some (.string nm)/\w'.cell? ⟨mb,1,none⟩=some (.slice (some ⟨rb,0,none⟩) l.length rc)/\w'.cell? ⟨mb,2,none⟩=some (.slice qo s.qs.length qc)/\w'.cell? ⟨mb,3,none⟩=some (.slice vo s.vs.length vc)/\w'.cell? ⟨mb,4,none⟩=some (.slice tto s.ts.length tc)/\w'.cell? ⟨mb,5,none⟩=some (.slice uo s.us.length uc)/\w'.cell? ⟨mb,6,none⟩=some (.slice oo s.qs.length oc)/\w'.cell? ⟨mb,7,none⟩=some (.int .i64 (plc s.ev (5,0)))/\w'.cell? ⟨mb,8,none⟩=some (.slice (some ⟨eb,0,none⟩) l.length l.length)) (by kernel_rfl) ?_
       have hS:(fun w':World=>w'.cell? ⟨mb,0,none⟩=some (.string nm)/\w'.cell? ⟨mb,1,none⟩=some (.slice (some ⟨rb,0,none⟩) l.length rc)/\w'.cell? ⟨mb,2,none⟩=some (.slice qo s.qs.length qc)/\w'.cell? ⟨mb,3,none⟩=some (.slice vo s.vs.length vc)/\w'.cell? ⟨mb,4,none⟩=some (.slice tto s.ts.length tc)/\w'.cell? ⟨mb,5,none⟩=some (.slice uo s.us.length uc)/\w'.cell? ⟨mb,6,none⟩=some (.slice oo s.qs.length oc)/\w'.cell? ⟨mb,7,none⟩=some (.int .i64 (plc s.ev (5,0)))/\w'.cell? ⟨mb,8,none⟩=some (.slice (some ⟨eb,0,none⟩) l.length l.length)) wr.drew:=hS0
       change wpAnyH _ _ _ _ _ _ _ _ wr.drew
       refine tk (i:=0) (v:=?bv0) rfl (Or.inl ⟨by rfl,?by0⟩) hS ?br0
       case by0=>intro w hSw;(try dsimp only at hSw);obtain ⟨g0,g1,g2,g3,g4,g5,g6,g7,g8⟩:=hSw;first | (go_simp;done) | (go_simp;with_reducible rfl)
       refine tk (i:=1) (v:=?bv1) rfl (Or.inl ⟨by rfl,?by1⟩) hS ?br1
       case by1=>intro w hSw;(try dsimp only at hSw);obtain ⟨g0,g1,g2,g3,g4,g5,g6,g7,g8⟩:=hSw;first | (go_simp;done) | (go_simp;with_reducible rfl)
       refine tk (i:=2) (v:=?bv2) rfl (Or.inl ⟨by rfl,?by2⟩) hS ?br2
       case by2=>intro w hSw;(try dsimp only at hSw);obtain ⟨g0,g1,g2,g3,g4,g5,g6,g7,g8⟩:=hSw;first | (go_simp;done) | (go_simp;with_reducible rfl)
       refine tk (i:=3) (v:=?bv3) rfl (Or.inl ⟨by rfl,?by3⟩) hS ?br3
       case by3=>intro w hSw;(try dsimp only at hSw);obtain ⟨g0,g1,g2,g3,g4,g5,g6,g7,g8⟩:=hSw;first | (go_simp;done) | (go_simp;with_reducible rfl)
       refine tk (i:=4) (v:=?bv4) rfl (Or.inl ⟨by rfl,?by4⟩) hS ?br4
       case by4=>intro w hSw;(try dsimp only at hSw);obtain ⟨g0,g1,g2,g3,g4,g5,g6,g7,g8⟩:=hSw;first | (go_simp;done) | (go_simp;with_reducible rfl)
       refine tk (i:=5) (v:=?bv5) rfl (Or.inl ⟨by rfl,?by5⟩) hS ?br5
       case by5=>intro w hSw;(try dsimp only at hSw);obtain ⟨g0,g1,g2,g3,g4,g5,g6,g7,g8⟩:=hSw;first | (go_simp;done) | (go_simp;with_reducible rfl)
       refine tk (i:=6) (v:=?bv6) rfl (Or.inl ⟨by rfl,?by6⟩) hS ?br6
       case by6=>intro w hSw;(try dsimp only at hSw);obtain ⟨g0,g1,g2,g3,g4,g5,g6,g7,g8⟩:=hSw;first | (go_simp;done) | (go_simp;with_reducible rfl)
       refine tk (i:=7) (v:=?bv7) rfl (Or.inl ⟨by rfl,?by7⟩) hS ?br7
       case by7=>intro w hSw;(try dsimp only at hSw);obtain ⟨g0,g1,g2,g3,g4,g5,g6,g7,g8⟩:=hSw;first | (go_simp;done) | (go_simp;with_reducible rfl)
       refine tk (i:=8) (v:=?bv8) rfl (Or.inl ⟨by rfl,?by8⟩) hS ?br8
       case by8=>intro w hSw;(try dsimp only at hSw);obtain ⟨g0,g1,g2,g3,g4,g5,g6,g7,g8⟩:=hSw;first | (go_simp;done) | (go_simp;with_reducible rfl)
       refine tk (i:=9) (v:=?bv9) rfl (Or.inl ⟨by rfl,?by9⟩) hS ?br9
       case by9=>intro w hSw;(try dsimp only at hSw);obtain ⟨g0,g1,g2,g3,g4,g5,g6,g7,g8⟩:=hSw;first | (go_simp;done) | (go_simp;with_reducible rfl)
       refine tk (i:=10) (v:=?bv10) rfl (Or.inl ⟨by rfl,?by10⟩) hS ?br10
       case by10=>intro w hSw;(try dsimp only at hSw);obtain ⟨g0,g1,g2,g3,g4,g5,g6,g7,g8⟩:=hSw;first | (go_simp;done) | (go_simp;with_reducible rfl)
       refine tk (i:=11) (v:=?bv11) rfl (Or.inl ⟨by rfl,?by11⟩) hS ?br11
       case by11=>intro w hSw;(try dsimp only at hSw);obtain ⟨g0,g1,g2,g3,g4,g5,g6,g7,g8⟩:=hSw;first | (go_simp;done) | (go_simp;with_reducible rfl)
       refine rd1 12 rfl fun K hK=>?_
       go_simp
       have hwp:IntKind.i64.wrap ((j:Int)+1)=(j:Int)+1:=by rw [IntKind.wrap_i64];omega
       rw [hwp]
       refine Calls.mono (HLd.out _ (Below.refl _ wr).drew) ?_
       rintro e w9 ⟨rfl,hb9⟩
       have hb10:Below wr.heap.size wr w9:=(Below.refl _ wr).drew.trans (hb9.mono (Nat.le_refl _))
       have hM9:=HMq.out.below hb10
       have hS9:w9.cell? ⟨mb,0,none⟩=some (.string nm)/\w9.cell? ⟨mb,1,none⟩=some (.slice (some ⟨rb,0,none⟩) l.length rc)/\w9.cell? ⟨mb,2,none⟩=some (.slice qo s.qs.length qc)/\w9.cell? ⟨mb,3,none⟩=some (.slice vo s.vs.length vc)/\w9.cell? ⟨mb,4,none⟩=some (.slice tto s.ts.length tc)/\w9.cell? ⟨mb,5,none⟩=some (.slice uo s.us.length uc)/\w9.cell? ⟨mb,6,none⟩=some (.slice oo s.qs.length oc)/\w9.cell? ⟨mb,7,none⟩=some (.int .i64 (plc s.ev (5,0)))/\w9.cell? ⟨mb,8,none⟩=some (.slice (some ⟨eb,0,none⟩) l.length l.length):=⟨hM9.cell 0 _ rfl,hM9.cell 1 _ rfl,hM9.cell 2 _ rfl,hM9.cell 3 _ rfl,hM9.cell 4 _ rfl,hM9.cell 5 _ rfl,hM9.cell 6 _ rfl,hM9.cell 7 _ rfl,hM9.cell 8 _ rfl⟩
       have HR9:=hdn <| HRq.out.below hb10
       have HB9:Hid (Below w8.heap.size w8 w9):=HBq.out.trans (hb10.mono HBq.out.size)
       clear hb9 hb10 hM9 HLd
       refine hK.out _ _ hS9 (fun hS=>?_)
       refine rd1 13 rfl fun K hK=>?_
       go_simp
       refine Calls.mono (HPl.out _) ?_
       rintro _ _ ⟨rfl,rfl⟩
       refine hK.out _ _ hS9 (fun hS=>?_)
       refine rd1 14 rfl fun K hK=>?_
       go_simp
       refine hK.out _ _ hS9 (fun hS=>?_)
       refine wpAnyH_done (by kernel_rfl) ?_ _
       clear hS hS0 hS9 d0
       by_cases hgt:16384 < s1
       ·have hgt':decide ((16384:Int) < (s1:Int))=true:=decide_eq_true (by omega)
        have hgt2:(16384:Int) < (s1:Int):=by omega
        have HE:Hid (RR=.error (34,j)):=HRs.out _ (HBF.out (j+1) j (by rw [HBk.out,if_pos hgt]) (by have:=HK2.out.2;omega))
        obtain ⟨r0,r1,r2,r3,r4,r5,r6,r7⟩:=HR9.out.cells
        obtain ⟨s0,s1,s2,s3⟩:=HR9.out.fault
        have z0:=HR9.out.frozen 0
        have z1:=HR9.out.frozen 1
        have z2:=HR9.out.frozen 2
        have z3:=HR9.out.frozen 3
        have z4:=HR9.out.frozen 4
        have z5:=HR9.out.frozen 5
        have z6:=HR9.out.frozen 6
        have z7:=HR9.out.frozen 7
        clear hgt HBk
        go_wp2_with fail
        obtain ⟨x1,x2,x3⟩:=HR9.out.wrote (.string ⟨#[]⟩) pz pz pz pz pz pz (.int .i64 0) (.int .i64 34) (.int .i64 (j:Int))
        obtain ⟨y0,y1,y2,y3,y4,y5,y6,y7,y8,y9⟩:=wrote_cells x1 x2
        exact bodyPost_ret (v:=.tuple #[.agg #[.string ⟨#[]⟩,pz,pz,pz,pz,pz,pz,.int .i64 0],.agg #[.int .i64 34,.int .i64 (j:Int)]]) (by simp [results,Tryz.results5,go_sem,y0,y1,y2,y3,y4,y5,y6,y7,y8,y9]) rfl (by rw [HE.out];exact ⟨x3,rfl⟩)
       ·have hgt':decide ((16384:Int) < (s1:Int))=false:=decide_eq_false (by omega)
        have HBn:Hid (big s.rows SS (j+1)=.ok s1):=by
         show _=_
         rw [HBk.out,if_neg hgt]
        clear hgt HBk
        go_wp2_with fail
        go_roundg (l.length - (j+1))
        case measure=>have:=HK2.out.1;have:=HK2.out.2;omega
        case rel=>exact ⟨j+1,s1,by have:=HK2.out.2;omega,rfl,by go_num,HBn.out,HPs.out,HB9.out⟩
      ·have HEv:=hdn <| HEn.out he
       have HBn:Hid (big s.rows SS (j+1)=.ok sm):=by
        show _=_
        rw [HBk.out,if_pos (evt_no (by rw [HKd.out];exact he))]
       clear he HBk
       go_wp2_with fail
       refine Calls.mono (HEv.out _) ?_
       rintro _ _ ⟨rfl,rfl⟩
       go_wp2_with fail
       go_roundg (l.length - (j+1))
       case measure=>have:=HK2.out.1;have:=HK2.out.2;omega
       case rel=>exact ⟨j+1,sm,by have:=HK2.out.2;omega,rfl,by go_num,HBn.out,HSmm.out,HBq.out⟩
     ·have hje:j=l.length:=by omega
      have hj':decide ((j:Int) < (l.length:Int))=false:=decide_eq_false (by omega)
      have hj3:decide (j < l.length)=false:=decide_eq_false hlt
      have HE:Hid (RR=.ok ⟨nm,s.rows,s.qs,s.vs,s.ts,s.us,onsOf s.ev s.qs.length,plc s.ev (5,0)⟩):=HRs.out (.ok sm) (by rw [<-hje];exact hbig)
      obtain ⟨r0,r1,r2,r3,r4,r5,r6,r7⟩:=HRq.out.cells
      obtain ⟨s0,s1,s2,s3⟩:=HRq.out.fault
      have z0:=HRq.out.frozen 0
      have z1:=HRq.out.frozen 1
      have z2:=HRq.out.frozen 2
      have z3:=HRq.out.frozen 3
      have z4:=HRq.out.frozen 4
      have z5:=HRq.out.frozen 5
      have z6:=HRq.out.frozen 6
      have z7:=HRq.out.frozen 7
      obtain ⟨m0,m1,m2,m3,m4,m5,m6,m7,_⟩:wr.cell? ⟨mb,0,none⟩=some (.string nm)/\wr.cell? ⟨mb,1,none⟩=some (.slice (some ⟨rb,0,none⟩) l.length rc)/\wr.cell? ⟨mb,2,none⟩=some (.slice qo s.qs.length qc)/\wr.cell? ⟨mb,3,none⟩=some (.slice vo s.vs.length vc)/\wr.cell? ⟨mb,4,none⟩=some (.slice tto s.ts.length tc)/\wr.cell? ⟨mb,5,none⟩=some (.slice uo s.us.length uc)/\wr.cell? ⟨mb,6,none⟩=some (.slice oo s.qs.length oc)/\wr.cell? ⟨mb,7,none⟩=some (.int .i64 (plc s.ev (5,0)))/\wr.cell? ⟨mb,8,none⟩=some (.slice (some ⟨eb,0,none⟩) l.length l.length):=⟨HMq.out.cell 0 _ rfl,HMq.out.cell 1 _ rfl,HMq.out.cell 2 _ rfl,HMq.out.cell 3 _ rfl,HMq.out.cell 4 _ rfl,HMq.out.cell 5 _ rfl,HMq.out.cell 6 _ rfl,HMq.out.cell 7 _ rfl,HMq.out.cell 8 _ rfl⟩
      clear hjg hbig hsm hbq hlt hje
      go_wp2_with fail
      obtain ⟨x1,x2,x3⟩:=HRq.out.wrote (.string nm) (.slice (some ⟨rb,0,none⟩) l.length rc) (.slice qo s.qs.length qc) (.slice vo s.vs.length vc) (.slice tto s.ts.length tc) (.slice uo s.us.length uc) (.slice oo s.qs.length oc) (.int .i64 (plc s.ev (5,0))) (.int .i64 0) (.int .i64 0)
      obtain ⟨y0,y1,y2,y3,y4,y5,y6,y7,y8,y9⟩:=wrote_cells x1 x2
      refine bodyPost_ret (v:=.tuple #[.agg #[.string nm,.slice (some ⟨rb,0,none⟩) l.length rc,.slice qo s.qs.length qc,.slice vo s.vs.length vc,.slice tto s.ts.length tc,.slice uo s.us.length uc,.slice oo s.qs.length oc,.int .i64 (plc s.ev (5,0))],.agg #[.int .i64 0,.int .i64 0]]) (by simp [results,Tryz.results5,go_sem,y0,y1,y2,y3,y4,y5,y6,y7,y8,y9]) rfl ?_
      rw [HE.out]
      have hkeep:=HRq.out.kept (.string nm) (.slice (some ⟨rb,0,none⟩) l.length rc) (.slice qo s.qs.length qc) (.slice vo s.vs.length vc) (.slice tto s.ts.length tc) (.slice uo s.us.length uc) (.slice oo s.qs.length oc) (.int .i64 (plc s.ev (5,0))) (.int .i64 0) (.int .i64 0)
      have hA:=HA.out
      refine ⟨x3,_,rfl,⟨rb,rc,_,_,_,_,_,by rw [show (Pl.mk nm s.rows s.qs s.vs s.ts s.us (onsOf s.ev s.qs.length) (plc s.ev (5,0))).rows.length=l.length from HFx.out.2.1],by show _<=_;omega,?_⟩⟩
      have hob:=HMq.out.ob.own
      have hfin:∀ {T:TypeId} {sz n:Nat} {v':Value} {xs:List Value},wr.ownsRow base T sz v' n xs->World.ownsRow _ w.heap.size T sz v' n xs:=fun h1=>own_base (own_keepB h1 (fun k hk=>hkeep k (by have:=(World.ownsRow.lt h1 k hk).1;omega))) (by omega)
      refine ⟨HMq.out.r.same (hkeep rb (by omega)),hfin (hob ⟨2,67,2,.slice qo s.qs.length qc,s.qs.length,qF s.qs⟩ (by simp)).2,hfin (hob ⟨3,9,1,.slice vo s.vs.length vc,s.vs.length,s.vs.map Value.string⟩ (by simp)).2,hfin (hob ⟨4,9,1,.slice tto s.ts.length tc,s.ts.length,s.ts.map Value.string⟩ (by simp)).2,hfin (hob ⟨5,3,1,.slice uo s.us.length uc,s.us.length,nv s.us⟩ (by simp)).2,?_⟩
      have:=hfin (hob ⟨6,3,1,.slice oo s.qs.length oc,s.qs.length,iv (onsOf s.ev s.qs.length)⟩ (by simp)).2
      rw [show (onsOf s.ev s.qs.length).length=s.qs.length from onsOf_len _ _]
      exact this
theorem rresolve_any {w:World} {ao:Option Addr} {l:List Rz} {cap:Nat} (h:IsRz w ao l) (hl:l.length<=2932031007317) (hkd:∀ r ∈ l,r.kids<=9223372036854775807/\r.name.size<=4611686018427387000):Calls Tryz.prog 5 #[.slice ao l.length cap] w (Told w (res l)):=by
 by_cases hc:(chk l).1=0
 ·have e:res l=resR (rat l 0).name (upto (start l) l.length):=by
   unfold res
   rw [if_neg (by simpa using hc)]
  rw [e]
  exact rresolve_yes h hl hkd hc
 ·have e:res l=.error (chk l):=by
   unfold res
   rw [if_pos hc]
  rw [e]
  refine Calls.mono (rresolve_no h hl (c1:=(chk l).1) (c2:=(chk l).2) rfl hc hkd) ?_
  rintro e w' ⟨rfl,hb⟩
  exact ⟨hb,rfl⟩
end Go.Proofs.YtfgpbdieaflclaaGreat.Nm
