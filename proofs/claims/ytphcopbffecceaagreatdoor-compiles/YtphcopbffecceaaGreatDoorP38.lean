import Derived.Test.YtphcopbffecceaaGreatDoorP37
set_option maxRecDepth 100000
set_option maxHeartbeats 1000000
namespace Go.Proofs.YtphcopbffecceaaGreatDoor
open Go.RowKit
variable{a:PV}{f to u:ByteArray}{P:Nat->Bool}{b' k n:Nat}{ws:List ByteArray}
def CLoads(D:Nat->Prop)(w:World)(bm:Nat)(acc:List (List Ic)):Prop:=
 ∃lab mb tv ts,CMach D lab w bm mb tv (λ_=>0) ts/\ts.map (λt=>t.code)=acc/\ ∀t∈ts,t.T=Th.init
section
variable{D:Nat->Prop}{w:World}{bm bw c:Nat}{us:List ByteArray}{u:ByteArray}{acc:List (List Ic)}
theorem CLoads.below{w':World}(h:CLoads D w bm acc)(hb:Below w.heap.size w w'):CLoads D w' bm acc:=by
 obtain ⟨lab,mb,tv,ts,h1,h2⟩:=h
 exact ⟨lab,mb,tv,ts,h1.below hb,h2⟩
theorem zyc(h:CLoads D w bm acc)(hacc:zqk acc)(hD: ∀k,w.heap.size<=k->D k)(hbw:bw<w.heap.size)(hw:StrsAt w bw (u::us)):
  Cl 14 #[ptr bm, .slice (some ⟨bw,0,none⟩) (us.length+1) c] w λe w'=>(match Gj (u::us) acc with
   | .ok acc'=>e= .returned (.int .i64 0)/\CLoads D w' bm acc'
   | .error er=>e= .returned (.int .i64 er))/\Chg (λj _=>D j) w w':=by
 obtain ⟨lab,mb,tv,ts,h1,h2,h3⟩:=h
 subst h2
 have hl3:ts.length<=3:=by have:=hacc.1;simpa using this
 by_cases hhead:us=[]/\u=Vj
 ·obtain ⟨rfl,rfl⟩:=hhead
  by_cases hfull:ts.length=3
  ·have e:Gj [Vj] (ts.map λt=>t.code)= .error 5:=by simp [Gj,hfull]
   rw [e]
   refine (zpw (c:=c) h1 hw hfull).mono ?_
   rintro e w' ⟨rfl,rfl⟩
   exact ⟨rfl,Chg.refl _ _⟩
  ·have e:Gj [Vj] (ts.map λt=>t.code)= .ok ((ts.map λt=>t.code)++[[]]):=by simp [Gj,hfull]
   rw [e]
   refine (zln (c:=c) h1 hD hw yai).mono ?_
   rintro e w' ⟨rfl,⟨lab',tv',t,g1,g2,g3⟩,g4⟩
   refine ⟨⟨rfl,lab',mb,tv',_,g1,by simp [g3],?_⟩,g4⟩
   intro x hx
   simp at hx
   rcases hx with hx|rfl
   ·exact h3 x hx
   ·exact g2
 ·have hN:zcg u us:=by
   by_cases e:us=[]
   ·exact .inr (λe2=>hhead ⟨e,e2⟩)
   ·exact .inl e
  have hlin:Gj (u::us) (ts.map λt=>t.code)=match zbm u us with
    |none=> .error 2
    |some (_,_::_)=> .error 2
    |some (ic,[])=>match (ts.map λt=>t.code).getLast? with
     |none=> .error 3
     |some c=>if c.length=4000 then .error 5 else .ok ((ts.map λt=>t.code).dropLast++[c++[ic]]):=by
   by_cases e:u=Vj
   ·subst e
    have hus:us≠[]:=λe=>hhead ⟨e,rfl⟩
    have:zbm Vj us=none:=by
     rw [zi4 yal]
     rfl
    rw [this]
    cases us with
    |nil=>exact absurd rfl hus
    |cons x xs=>simp [Gj]
   ·unfold Gj
    simp only [if_neg e]
    cases zbm u us with
    |none=>rfl
    |some p=>
     obtain ⟨ic,r⟩:=p
     cases r<;>rfl
  rw [hlin]
  have hany:=zx4 w bw c u us hbw hw
  cases hg:zbm u us with
  |none=>
   refine (zeu h1 hN hw (hid (hany.mono ?_))).mono ?_
   ·rintro e w' ⟨⟨i,ok,rfl,(⟨rfl,_⟩|⟨rfl,ic,hx,_⟩)⟩,hb⟩
    ·exact ⟨⟨i,rfl⟩,hb⟩
    ·rw [hg] at hx;cases hx
   ·rintro e w' ⟨rfl,hb⟩
    exact ⟨rfl,Chg.of_below hb⟩
  |some p=>
   obtain ⟨ic,r⟩:=p
   cases r with
   |cons x xs=>
    refine (zeu h1 hN hw (hid (hany.mono ?_))).mono ?_
    ·rintro e w' ⟨⟨i,ok,rfl,(⟨rfl,_⟩|⟨rfl,ic,hx,_⟩)⟩,hb⟩
     ·exact ⟨⟨i,rfl⟩,hb⟩
     ·rw [hg] at hx;simp at hx
    ·rintro e w' ⟨rfl,hb⟩
     exact ⟨rfl,Chg.of_below hb⟩
   |nil=>
    have hok:Cl 26 #[.slice (some ⟨bw,0,none⟩) (us.length+1) c] w λe w'=>e= .returned (.tuple #[Vm (dOf ic), .bool true])/\Below w.heap.size w w':=by
     refine hany.mono ?_
     rintro e w' ⟨⟨i,ok,rfl,(⟨rfl,hx|⟨ic',x,xs,hx⟩⟩|⟨rfl,ic',hx,rfl⟩)⟩,hb⟩
     ·rw [hg] at hx;cases hx
     ·rw [hg] at hx;simp at hx
     ·rw [hg] at hx
      simp at hx
      subst hx
      exact ⟨rfl,hb⟩
    have hok':=hok.mono (R':=λe w'=>(∃i,e= .returned (.tuple #[Vm i, .bool true]))/\Below w.heap.size w w') (λe w' h=>⟨⟨_,h.1⟩,h.2⟩)
    by_cases hts:ts=[]
    ·subst hts
     refine (zpx h1 hN hw hok').mono ?_
     rintro e w' ⟨rfl,hb⟩
     exact ⟨rfl,Chg.of_below hb⟩
    ·obtain ⟨k,hk⟩: ∃k,ts.length=k+1:=⟨ts.length- 1,by have:=List.length_pos_iff.2 hts;omega⟩
     have hlast:(ts.map λt=>t.code).getLast?=some (ts[k]'(by omega)).code:=by
      rw [List.getLast?_eq_getElem?]
      simp [hk]
     simp only [hlast]
     by_cases hf:(ts[k]'(by omega)).code.length=4000
     ·rw [if_pos hf]
      refine (zuf h1 k hk hf hN hw yai hok').mono ?_
      rintro e w' ⟨rfl,hb⟩
      exact ⟨rfl,Chg.of_below hb⟩
     ·rw [if_neg hf]
      have hle:(ts[k]'(by omega)).code.length<=4000:=(hacc.2 _ (List.mem_map.2 ⟨_,List.getElem_mem (show k<ts.length by omega),rfl⟩)).1
      refine (zyb h1 hD k hk yai hN hw ic yai hok).mono ?_
      rintro e w' ⟨rfl,⟨lab',cv,g1⟩,g2⟩
      refine ⟨⟨rfl,lab',mb,tv,_,g1,?_,?_⟩,g2⟩
      ·apply List.ext_getElem
       ·simp [hk]
       ·intro j j1 j2
        have hj:j<ts.length:=by simpa using j1
        simp only [List.getElem_map,List.getElem_set]
        by_cases e:k=j
        ·subst e
         rw [if_pos rfl,List.getElem_append_right (by simp [hk])]
         simp [hk]
        ·rw [if_neg e,List.getElem_append_left yan]
         simp
      ·intro x hx
       obtain ⟨j,hj,rfl⟩:=List.mem_iff_getElem.1 hx
       have hj':j<ts.length:=ya4
       rw [List.getElem_set]
       by_cases e:k=j
       ·subst e
        rw [if_pos rfl]
        exact h3 (ts[k]'hj') (List.getElem_mem hj')
       ·rw [if_neg e]
        exact h3 _ (List.getElem_mem hj')
end
theorem z1x(l r:List UInt8)(h:(10:UInt8)∉l):Lib.cut (l++10::r) [10]=(l,r,true):=by
 unfold Lib.cut
 rw [zc8 10 l r h,if_pos yai]
 simp
theorem zyd(l:List UInt8)(h:(10:UInt8)∉l):(Lib.cut l [10]).2.2=false:=by
 unfold Lib.cut
 rw [Fs 10 l h,if_neg yai]
def Gh(s:ByteArray)(a b:Nat):List UInt8:=(s.data.toList.drop a).take (b- a)
theorem zpy(s:ByteArray)(a b:Nat)(hab:a<=b)(hb:b<s.size):Gh s a (b+1)=Gh s a b++[s[b]]:=by
 unfold Gh
 have hl:b- a<(s.data.toList.drop a).length:=by rw [List.length_drop,Array.length_toList];show b- a<s.size- a;omega
 rw [show b+1- a=(b- a)+1 by omega,List.take_succ_eq_append_getElem hl]
 congr 2
 simp [ByteArray.getElem_eq_getElem_data,show a+(b- a)=b by omega]
theorem zpz(s:ByteArray)(a b:Nat)(hab:a<=b)(hb:b<s.size):s.data.toList.drop a=Gh s a b++s[b]::s.data.toList.drop (b+1):=by
 unfold Gh
 have hl:b<s.data.toList.length:=by rw [Array.length_toList];exact hb
 have h1:s.data.toList.drop b=s[b]::s.data.toList.drop (b+1):=by rw [List.drop_eq_getElem_cons hl];simp [ByteArray.getElem_eq_getElem_data]
 rw [<-h1]
 have:=(List.take_append_drop (b- a) (s.data.toList.drop a)).symm
 rw [List.drop_drop,show a+(b- a)=b by omega] at this
 exact this
theorem zug(s:ByteArray)(a:Nat):Gh s a s.size=s.data.toList.drop a:=by
 unfold Gh
 rw [List.take_of_length_le (by rw [List.length_drop,Array.length_toList];exact Nat.le_refl _)]
theorem zi9(s:ByteArray)(a b:Nat):s.extract a b=⟨(Gh s a b).toArray⟩:=by
 apply ByteArray.ext
 apply Array.ext'
 rw [ByteArray.data_extract]
 simp [Gh,List.extract_eq_take_drop]
structure z50(s:ByteArray)(D:Nat->Prop)(W0 W:World)(bm:Nat)(a n i:Nat)(R:Except (Int×Int) (List (List Ic))):Prop where
 le:a<=i
 na:n<=a
 no:(10:UInt8)∉Gh s a i
 mach: ∃f acc,s.size- a+1<=f/\zdo f (s.data.toList.drop a) n acc=R/\zqk acc/\CLoads D W bm acc
 bel:Below W0.heap.size W0 W
theorem zlo(W:World)(s:ByteArray)(h:131072<s.size):Cl 7 #[.string s] W λe w'=>e= .returned (.tuple #[.pointer none, .int .i64 1, .int .i64 0])/\w'=W:=by
 have h':(131072:Int)<(s.size:Int):=yai
 go_enter Tryz.func7,Tryz.ntmps7
 go_wp2
 go_ret3
 exact ⟨rfl,rfl⟩
theorem CLoads.new(W:World)(D:Nat->Prop)(hD: ∀k,W.heap.size<=k->D k):CLoads D ((W.alloc (.cells (Em 256) 2)).alloc (.cells #[.slice (some ⟨W.heap.size,0,none⟩) 256 256, .slice none 0 0] 37)) (W.heap.size+1) []:=by
 have hs:(W.alloc (.cells (Em 256) 2)).heap.size=W.heap.size+1:=yaj
 have c:=λo=>World.cell?_alloc_new (W.alloc (.cells (Em 256) 2)) #[.slice (some ⟨W.heap.size,0,none⟩) 256 256, .slice none 0 0] 37 o
 have sh:=Fi (W.alloc (.cells (Em 256) 2)) #[.slice (some ⟨W.heap.size,0,none⟩) 256 256, .slice none 0 0] 37
 rw [hs] at c sh
 refine ⟨λk=>if k=W.heap.size then (0,1) else (0,0),W.heap.size, .slice none 0 0,[],⟨sh,c 0,c 1,?_,?_,?_,?_,⟨rfl, .inl ⟨rfl,rfl⟩⟩,λi h=>absurd h yaj,?_,?_,λg e=>by simp [Value.ownBlock] at e,λi h=>absurd h yaj⟩,rfl,λt h=>by simp at h⟩
 ·intro j _
  rw [<-hs]
  simp
 ·exact (Jw (Below.heap_alloc _ _ _ yaj)).trans ((Fi W _ _).trans (by rw [zf2]))
 ·exact λj hj=>(World.cell?_alloc_past _ _ _ yaj).trans ((World.cell?_alloc_new W _ _ j).trans (zi6 256 j hj))
 ·exact λj _=>(World.frozen?_alloc_past _ _ _ yaj).trans yaj
 ·exact ⟨by simp,hD _ yai⟩
 ·exact ⟨by simp,hD _ (Nat.le_refl _)⟩
def zja(D:Nat->Prop)(W:World)(R:Except (Int×Int) (List (List Ic)))(e:Ending)(w':World):Prop:=(match R with
   | .ok acc=>e= .returned (.tuple #[ptr (W.heap.size+1), .int .i64 0, .int .i64 0])/\CLoads D w' (W.heap.size+1) acc/\zqk acc
   | .error (er,ln)=>e= .returned (.tuple #[.pointer none, .int .i64 er, .int .i64 ln]))/\Below W.heap.size W w'
theorem zuh{acc:List (List Ic)}{er:Int}(h:Gj ws acc= .error er):er=2\/er=3\/er=5:=by
 unfold Gj at h
 repeat (first|(split at h)|(simp at h;omega)|simp at h)
theorem zye{w W:World}{g cap:Nat}{L:List (List UInt8)}(h:CutInv w W g cap L):StrsAt W g (L.map λx=>⟨x.toArray⟩):=z9f
theorem zlp(W:World)(s:ByteArray)(hs:s.size<=131072)(D:Nat->Prop)(hD: ∀k,W.heap.size<=k->D k)(hDo: ∀k,D k->W.heap.size<=k)(R:Except (Int×Int) (List (List Ic)))(hR:Hid (zdo (s.size+2) s.data.toList 0 []=R)):
  Cl 7 #[.string s] W (zja D W R):=by
 have hs': ¬(131072:Int)<(s.size:Int):=yai
 have hmk: ∀w,(Instr.makeSlice 34 (.int .i64 256) (.int .i64 256)).run Tryz.prog w= .ok (.slice (some ⟨w.heap.size,0,none⟩) 256 256) (w.alloc (.cells (Em 256) 2)):=λw=>zf3 256 yal w
 have HN:=hid (CLoads.new W D hD)
 go_enter Tryz.func7,Tryz.ntmps7
 go_wp2
 go_loopw [6,7,8] (λv6 v7 v8 wr=>∃(a n i:Nat),i<=s.size/\v6= .int .i64 a/\v7= .int .i64 n/\v8= .int .i64 i/\Hid (z50 s D W wr (W.heap.size+1) a n i R)) (λ_ _ v8 _=>s.size+1- (intOf v8).toNat)
 case atStart=>
  refine ⟨0,0,0,by omega,rfl,rfl,rfl,hid ⟨by omega,by omega,by simp [Gh],⟨s.size+2,[],by omega,by simpa using hR.out,⟨by simp,λc hc=>by simp at hc⟩,HN.out⟩,?_⟩⟩
  exact ((Below.refl _ W).alloc (Nat.le_refl _) _).alloc yaj _
 case round=>
  clear HN hmk
  obtain ⟨a,n,i,hi,rfl,rfl,rfl,HI⟩:=hrel
  have hai:=HI.out.le
  have hna:=HI.out.na
  have hi':(i:Int)<=(s.size:Int):=yai
  by_cases hlt:i<s.size
  ·have hlt':(i:Int)<(s.size:Int):=by omega
   have hne': ¬(i:Int)=(s.size:Int):=yai
   by_cases h10:s[i]=10
   ·have h10':(s[i].toNat:Int)=10:=by rw [h10];rfl
    have hai':(a:Int)<=(i:Int):=yai
    have hrest:=zpz s a i hai hlt
    rw [h10] at hrest
    obtain ⟨f,acc,hf,hg,hacc,hm⟩:=HI.out.mach
    obtain ⟨f,rfl⟩: ∃f',f=f'+1:=⟨f- 1,by omega⟩
    have hg2:(match Gj (Ql (Gh s a i)) acc with| .ok acc'=>zdo f (s.data.toList.drop (i+1)) (n+1) acc'| .error er=> .error (er,(n:Int)+1))=R:=by
     rw [<-hg,zdo,if_neg (by rw [hrest];simp),hrest,z1x _ _ HI.out.no]
     rfl
    have hbel:=HI.out.bel
    clear HI hrest hg h10
    go_wp2_with fail
    rw [zi9]
    refine (za6 wr ⟨(Gh s a i).toArray⟩ 32 (by rw [zgu];unfold Gh;simp;omega)).mono ?_
    rintro e W2 ⟨g,cap,rfl,hcut⟩
    have hcut':CutInv wr W2 g cap (Xe 32 (Gh s a i)):=hcut
    have hwl:Ql (Gh s a i)=(Xe 32 (Gh s a i)).map λx=>⟨x.toArray⟩:=Ix _
    have hst:=zye hcut'
    rw [<-hwl] at hst
    obtain ⟨u,us,hus⟩: ∃u us,Ql (Gh s a i)=u::us:=by
     cases h:Ql (Gh s a i) with
     |nil=>rw [hwl] at h;simp at h;exact absurd h (zb4 _ _)
     |cons u us=>exact ⟨u,us,rfl⟩
    have hlen:(Xe 32 (⟨(Gh s a i).toArray⟩:ByteArray).data.toList).length=us.length+1:=by
     have:=congrArg List.length hwl
     rw [hus] at this
     simpa using this.symm
    rw [hlen]
    rw [hus] at hst hg2
    have hm2:=hm.below (hcut'.bel.mono (Nat.le_refl _))
    have hrow:=zyc (c:=cap) hm2 hacc (λk hk=>hD k (by have:=hbel.size;have:=hcut'.bel.size;omega)) (bw:=g) (by obtain ⟨_,_,q3⟩:=Qm hcut'.own 0 (List.length_pos_iff.2 (zb4 _ _));exact q3) hst
    have HB2:=hid (hbel.trans (hcut'.bel.mono hbel.size))
    clear hcut hcut' hst hlen hwl hus hm hm2 hbel
    have hn1:wrap64 ((n:Int)+1)=(n:Int)+1:=yao
    cases hgl:Gj (u::us) acc with
    |ok acc'=>
     rw [hgl] at hrow hg2
     have hacc':=(zu8 hgl hacc).1
     have HROW:=hid hrow
     have HG2:=hid hg2
     clear hrow hg2
     go_wp2_with fail
     refine HROW.out.mono ?_
     rintro e W3 ⟨⟨rfl,hm3⟩,hc3⟩
     have HM3:=hid hm3
     have HC3:=hid hc3
     clear hm3 hc3 HROW
     go_wp2
     refine ⟨⟨i+1,n+1,i+1,by omega,by go_num,by go_num,by go_num,hid ⟨by omega,by omega,by simp [Gh],⟨f,acc',by omega,HG2.out,hacc',HM3.out⟩,?_⟩⟩,by simp [intOf];omega⟩
     exact HB2.out.trans (HC3.out.below HB2.out.size (λk _ hk=>hDo k hk))
    |error er=>
     rw [hgl] at hrow hg2
     have hRR:R= .error (er,(n:Int)+1):=hg2.symm
     subst hRR
     have her:=zuh hgl
     have her': ¬er=0:=yai
     have HROW:=hid hrow
     clear hrow hg2
     go_wp2_with fail
     refine HROW.out.mono ?_
     rintro e W3 ⟨rfl,hc3⟩
     have HC3:=hid hc3
     clear hc3 HROW
     go_wp2
     go_ret3
     exact ⟨rfl,HB2.out.trans (HC3.out.below HB2.out.size (λk _ hk=>hDo k hk))⟩
   ·have h10': ¬(s[i].toNat:Int)=10:=λe=>h10 (UInt8.toNat_inj.1 ycd)
    have hp:=zpy s a i hai hlt
    go_wp2
    refine ⟨⟨a,n,i+1,by omega,rfl,rfl,by go_num,hid ⟨by omega,by omega,?_,HI.out.mach,HI.out.bel⟩⟩,by simp [intOf];omega⟩
    rw [hp]
    simp only [List.mem_append,List.mem_singleton,not_or]
    exact ⟨HI.out.no,λe=>h10 e.symm⟩
  ·have hlt': ¬(i:Int)<(s.size:Int):=by omega
   obtain rfl:i=s.size:=yai
   obtain ⟨f,acc,hf,hg,hacc,hm⟩:=HI.out.mach
   obtain ⟨f,rfl⟩: ∃f',f=f'+1:=⟨f- 1,by omega⟩
   have hno:=HI.out.no
   rw [zug] at hno
   by_cases hz:a=s.size/\0<n
   ·have hz1:(a:Int)=(s.size:Int):=by omega
    have hz2:(0:Int)<(n:Int):=yai
    have hRR:R= .ok acc:=by
     rw [<-hg,zdo,if_pos ⟨List.drop_eq_nil_of_le (by rw [Array.length_toList,hz.1];exact Nat.le_refl _),by omega⟩]
    subst hRR
    have HB:=hid HI.out.bel
    have HM:=hid hm
    have HA:=hid hacc
    clear HI hg hno hm hacc
    go_wp2
    go_ret3
    exact ⟨⟨rfl,HM.out,HA.out⟩,HB.out⟩
   ·have hRR:R= .error (2,(n:Int)+1):=by
     rw [<-hg,zdo,if_neg (λe=>hz ⟨?_,by omega⟩)]
     ·have:=zyd _ hno
      split
      ·rfl
      ·rename_i h;rw [h] at this;cases this
     ·have:=congrArg List.length e.1
      simp at this
      have h2:s.data.size=s.size:=rfl
      omega
    subst hRR
    have hai':(a:Int)<=(s.size:Int):=yai
    have HB:=hid HI.out.bel
    clear HI hg hno hm hacc
    have hzz: ¬((a:Int)=(s.size:Int))\/((a:Int)=(s.size:Int)/\ ¬(0:Int)<(n:Int)):=yai
    rcases hzz with hz1|⟨hz1,hz2⟩
    ·go_wp2_with fail
     rw [zi9]
     refine (za6 wr ⟨(Gh s a s.size).toArray⟩ 32 (by rw [zgu];unfold Gh;simp;omega)).mono ?_
     rintro e W2 ⟨g,cap,rfl,hcut⟩
     have HC:=hid hcut
     clear hcut
     go_wp2
     go_ret3
     exact ⟨rfl,HB.out.trans (HC.out.bel.mono HB.out.size)⟩
    ·go_wp2_with fail
     refine (za6 wr ByteArray.empty 32 yal).mono ?_
     rintro e W2 ⟨g,cap,rfl,hcut⟩
     have HC:=hid hcut
     clear hcut
     go_wp2
     go_ret3
     exact ⟨rfl,HB.out.trans (HC.out.bel.mono HB.out.size)⟩
theorem zp0(W:World)(s:ByteArray)(D:Nat->Prop)(hD: ∀k,W.heap.size<=k->D k)(hDo: ∀k,D k->W.heap.size<=k):Cl 7 #[.string s] W (zja D W (zu9 s)):=by
 unfold zu9
 by_cases h:131072<s.size
 ·rw [if_pos h]
  refine (zlo W s h).mono ?_
  rintro e w' ⟨rfl,rfl⟩
  exact ⟨rfl,Below.refl _ _⟩
 ·rw [if_neg h]
  exact zlp W s yai D hD hDo _ rfl
theorem zg5(n:Nat)(h:n<256):(UInt8.ofNat n).toNat=n:=by
 rw [UInt8.toNat_ofNat']
 exact Nat.mod_eq_of_lt h
theorem zlq(u:Nat):Dig (Lib.decDigits u)/\Xi (Lib.decDigits u)=(u:Int)/\((Lib.decDigits u).head?=some 48->Lib.decDigits u=[48])/\Lib.decDigits u≠[]:=by
 induction u using Nat.strongRecOn with
 |_ u ih=>
  by_cases h:u<10
  ·rw [Lib.decDigits,dif_pos h]
   have e:=zg5 (48+u) yai
   refine ⟨λb hb=>?_,?_,λhh=>?_,by simp⟩
   ·rw [List.mem_singleton.1 hb,e];omega
   ·show 10*(0:Int)+(((UInt8.ofNat (48+u)).toNat:Int)- 48)=u
    rw [e];omega
   ·have hh:UInt8.ofNat (48+u)=48:=by simpa using hh
    rw [hh]
  ·obtain ⟨h1,h2,h3,h4⟩:=ih (u / 10) yai
   rw [Lib.decDigits,dif_neg h]
   have e:=zg5 (48+u%10) yai
   refine ⟨λb hb=>?_,?_,λhh=>?_,by simp⟩
   ·rcases List.mem_append.1 hb with hb|hb
    ·exact h1 b hb
    ·rw [List.mem_singleton.1 hb,e];omega
   ·rw [zig,h2,e];omega
   ·have h5:(Lib.decDigits (u / 10)).head?=some 48:=by
     cases hq:Lib.decDigits (u / 10) with
     |nil=>exact absurd hq h4
     |cons a r=>rw [hq] at hh;simpa using hh
    rw [h3 h5] at h2
    have:Xi [48]=0:=rfl
    omega
theorem zlr(n:Int)(h0:-9223372036854775808<=n)(h1:n<=9223372036854775807):Qk (dec n)=some n:=by
 unfold dec Lib.itoa
 by_cases h:n<0
 ·rw [if_pos h]
  obtain ⟨q1,q2,q3,q4⟩:=zlq n.natAbs
  have hne:(Lib.decDigits n.natAbs).head?≠some 48:=λe=>by
   rw [q3 e] at q2
   have:Xi [48]=0:=rfl
   omega
  rw [Xa q4 q1 hne (by rw [q2];omega),q2]
  congr 1
  omega
 ·rw [if_neg h]
  obtain ⟨q1,q2,q3,q4⟩:=zlq n.toNat
  rw [Zp q4 q1 q3 (by rw [q2];omega),q2]
  congr 1
  omega
def NoS(u:ByteArray):Prop:=∀b∈u.data.toList,b≠32/\b≠10
theorem zex(n:Int):NoS (dec n):=by
 intro b hb
 have hb:b∈Lib.itoa n:=by simpa [dec] using hb
 have hd: ∀u,b∈Lib.decDigits u->b≠32/\b≠10:=λu hb=>by
  have:=(zlq u).1 b hb
  refine ⟨λe=>?_,λe=>?_⟩<;>(rw [e] at this;exact absurd this yal)
 unfold Lib.itoa at hb
 split at hb
 ·rcases List.mem_cons.1 hb with rfl|hb
  ·decide
  ·exact hd _ hb
 ·exact hd _ hb
theorem zjb(n:Nat)(k:Nat)(hk:n<10^(k+1)):(dec (n:Int)).size<=k+1:=by
 have:(dec (n:Int)).size=(Lib.decDigits n).length:=by
  unfold dec Lib.itoa
  rw [if_neg yai]
  simp [ByteArray.size]
 rw [this]
 clear this
 induction k generalizing n with
 |zero=>rw [Lib.decDigits,dif_pos (by simpa using hk)];simp
 |succ k ih=>
  by_cases h:n<10
  ·rw [Lib.decDigits,dif_pos h];simp
  ·rw [Lib.decDigits,dif_neg h,List.length_append,List.length_singleton]
   have:=ih (n / 10) (by rw [Nat.pow_succ] at hk;omega)
   omega
def VW(k:Nat)(u:ByteArray):Prop:=(∃v,∀ws,zbp (u::ws)=some (v,ws))/\NoS u/\u.size<=k
def RW(u:ByteArray):Prop:=(∃v,∀ws,zhi (u::ws)=some (v,ws))/\NoS u/\u.size<=2
def NW(k:Nat)(u:ByteArray):Prop:=(∃v,∀ws,zco (u::ws)=some (v,ws))/\NoS u/\u.size<=k
def TW(u:ByteArray):Prop:=(∃v,∀ws,gIn 0 4000 (u::ws)=some (v,ws))/\NoS u/\u.size<=4
theorem zzd(u:ByteArray)(ws:List ByteArray):zhi (u::ws)=(Jt u).map λr=>(r,ws):=rfl
theorem znp(u:ByteArray)(ws:List ByteArray):zco (u::ws)=(Qk u).map λv=>(v,ws):=rfl
theorem zui(u:ByteArray)(ws:List ByteArray):zbp (u::ws)=match Jt u with
  |some r=>some (⟨true,r⟩,ws)
  |none=>(Qk u).map λv=>(⟨false,v⟩,ws):=rfl
theorem RW.val(h:RW u):VW 2 u:=by
 obtain ⟨⟨r,hr⟩,h2⟩:=h
 refine ⟨⟨⟨true,r⟩,λws=>?_⟩,h2⟩
 have:=hr ws
 rw [zzd] at this
 obtain ⟨q,q1,q2⟩:=Option.map_eq_some_iff.1 this
 rw [zui,q1]
 simp at q2
 rw [q2]
theorem NW.val(h:NW k u):VW k u:=by
 obtain ⟨⟨r,hr⟩,h2⟩:=h
 cases hq:Jt u with
 |some v=>exact ⟨⟨⟨true,v⟩,λws=>by rw [zui,hq]⟩,h2⟩
 |none=>
  refine ⟨⟨⟨false,r⟩,λws=>?_⟩,h2⟩
  have:=hr ws
  rw [znp] at this
  obtain ⟨q,q1,q2⟩:=Option.map_eq_some_iff.1 this
  rw [zui,hq,q1]
  simp at q2
  simp [q2]
theorem VW.mono{k':Nat}(h:VW k u)(hk:k<=k'):VW k' u:=⟨h.1,h.2.1,Nat.le_trans h.2.2 hk⟩
theorem zuj(n:Int)(h0:-9223372036854775808<=n)(h1:n<=9223372036854775807):NW 21 (dec n):=
 ⟨⟨n,λws=>by rw [znp,zlr n h0 h1];rfl⟩,zex n,zaf n h0 h1⟩
theorem Xp(n:Nat)(k:Nat)(hk:n<10^(k+1))(hn:n<100000):NW (k+1) (dec (n:Int)):=
 ⟨⟨n,λws=>by rw [znp,zlr n yai yai];rfl⟩,zex n,zjb n k hk⟩
theorem zjc(n:Nat)(h:n<=4000):TW (dec (n:Int)):=by
 refine ⟨⟨n,λws=>?_⟩,zex n,zjb n 3 yai⟩
 unfold gIn
 rw [znp,zlr n yai yai]
 show (if (0:Int)<=n/\(n:Int)<=4000 then some ((n:Int),ws) else none)=_
 rw [if_pos yai]
theorem zls(n:Nat)(h:n<10):dec (n:Int)=⟨#[UInt8.ofNat (48+n)]⟩:=by
 unfold dec Lib.itoa
 rw [if_neg yai,show ((n:Int).toNat)=n by omega,Lib.decDigits_one yai]
theorem zey(n:Nat)(h:n<10):Zy (n:Int)=⟨#[114,UInt8.ofNat (48+n)]⟩:=by
 unfold Zy
 rw [zls n h]
 rfl
theorem zez(n:Nat)(h:n<8):RW (Zy (n:Int)):=by
 have e:=zey n yai
 have q:=zg5 (48+n) yai
 rw [e]
 refine ⟨⟨n,λws=>?_⟩,λb hb=>?_,Nat.le_refl _⟩
 ·rw [zzd]
  unfold Jt
  dsimp only
  rw [if_pos ⟨rfl,by rw [q];omega,by rw [q];omega⟩,q]
  simp
 ·have hb:b=114\/b=UInt8.ofNat (48+n):=by simpa using hb
  rcases hb with rfl|rfl
  ·decide
  ·refine ⟨λe=>?_,λe=>?_⟩<;>(rw [e] at q;have:(UInt8.toNat 32)=32:=rfl;have:(UInt8.toNat 10)=10:=rfl;omega)
theorem rw4:RW yR4:=(show Zy ((4:Nat):Int)=yR4 from zey 4 yai)▸zez 4 yai
theorem rw5:RW yR5:=(show Zy ((5:Nat):Int)=yR5 from zey 5 yai)▸zez 5 yai
theorem rw6:RW yR6:=(show Zy ((6:Nat):Int)=yR6 from zey 6 yai)▸zez 6 yai
theorem rw7:RW yR7:=(show Zy ((7:Nat):Int)=yR7 from zey 7 yai)▸zez 7 yai
theorem nw0:NW 1 y0:=(show dec ((0:Nat):Int)=y0 from zls 0 yai)▸Xp 0 0 yai yai
theorem nw1:NW 1 y1:=(show dec ((1:Nat):Int)=y1 from zls 1 yai)▸Xp 1 0 yai yai
theorem Zx(c:UInt8)(u:ByteArray)(us:List ByteArray):(Zt c (u::us)).data.toList=u.data.toList++(us.map λv=>c::v.data.toList).flatten:=by
 unfold Zt
 rw [List.map_cons,Lib.join_cons]
 unfold Lib.joinTail
 simp [Function.comp_def]
theorem zci(c:UInt8)(u:ByteArray)(us:List ByteArray):(Zt c (u::us)).size=u.size+(us.map λv=>v.size+1).sum:=by
 have h:(Zt c (u::us)).size=(Zt c (u::us)).data.toList.length:=ybz
 rw [h,Zx,List.length_append,List.length_flatten,List.map_map]
 congr 1
theorem znq(c:UInt8): ∀(us:List ByteArray) (u:ByteArray),(∀v∈u::us,c∉v.data.toList)->Xe c (Zt c (u::us)).data.toList=(u::us).map λv=>v.data.toList
 |[],u,h=>by
  rw [Zx]
  simp only [List.map_nil,List.flatten_nil,List.append_nil]
  rw [Iw c _ (h u yaj)]
  rfl
 |v::us,u,h=>by
  have e:(Zt c (u::v::us)).data.toList=u.data.toList++c::(Zt c (v::us)).data.toList:=by
   rw [Zx,Zx]
   simp
  rw [e,zc9 c _ _ (h u yaj),znq c us v λx hx=>h x (List.mem_cons_of_mem _ hx)]
  rfl
theorem zf4(u:ByteArray)(us:List ByteArray)(h: ∀v∈u::us,NoS v):Ql (Zt 32 (u::us)).data.toList=u::us:=by
 rw [Ix,znq 32 us u λv hv e=>(h v hv 32 e).1 rfl,List.map_map]
 exact List.map_id' _
theorem zp1(u:ByteArray)(us:List ByteArray)(h: ∀v∈u::us,NoS v):(10:UInt8)∉(Zt 32 (u::us)).data.toList:=by
 rw [Zx]
 intro hm
 rcases List.mem_append.1 hm with hm|hm
 ·exact (h u yaj 10 hm).2 rfl
 ·obtain ⟨l,hl,hm⟩:=List.mem_flatten.1 hm
  obtain ⟨v,hv,rfl⟩:=List.mem_map.1 hl
  rcases List.mem_cons.1 hm with e|hm
  ·cases e
  ·exact (h v (List.mem_cons_of_mem _ hv) 10 hm).2 rfl
def ze0(l:ByteArray):Prop:=(10:UInt8)∉l.data.toList/\ ∃u us,Ql l.data.toList=u::us/\u≠Vj/\(zbm u us).map (·.2)=some []
def InsW(c:Nat)(ws:List ByteArray):Prop:=∃u us,ws=u::us/\u≠Vj/\(zbm u us).map (·.2)=some []/\(∀v∈u::us,NoS v)/\u.size+(us.map λv=>v.size+1).sum+1<=c
def zyf(c:Nat)(ws:List ByteArray):Prop:=ws≠[]/\(∀t,TW t->InsW c (ws++[t]))/\(Zt 32 ws).size+6<=c
theorem InsW.line{c:Nat}(h:InsW c ws):ze0 (Zt 32 ws)/\(Zt 32 ws).size+1<=c:=by
 obtain ⟨u,us,rfl,h1,h2,h3,h4⟩:=h
 exact ⟨⟨zp1 u us h3,u,us,zf4 u us h3,h1,h2⟩,by rw [zci];exact h4⟩
theorem zuk(ws:List ByteArray)(t:ByteArray)(h:ws≠[]):Zt 32 ws++(ySp++t)=Zt 32 (ws++[t]):=by
 cases ws with
 |nil=>exact absurd rfl h
 |cons u us=>
  apply ByteArray.ext
  apply Array.ext'
  rw [List.cons_append,Zx,ByteArray.data_append,Array.toList_append,Zx]
  simp
theorem zcj: ∀u∈[Qw,Qh,zdp,zp6,yJz,zaa,zvf,Xf,Yn,Ex,zj1],u≠Vj/\ ∀b∈u.data.toList,b≠32/\b≠10:=yal
theorem z4f: ∀o,o<12->Jc o≠Vj/\(∀b∈(Jc o).data.toList,b≠32/\b≠10)/\(Jc o).size<=3:=yal
section
variable{c ka kb kn kv:Nat}{r a b n v t:ByteArray}
theorem Zb(hr:RW r)(ha:VW ka a)(hn:NW kn n)(hc:ka+kn+10<=c):InsW c [Qw,r,a,n]:=by
 obtain ⟨⟨_,e1⟩,s1,z1⟩:=hr
 obtain ⟨⟨_,e2⟩,s2,z2⟩:=ha
 obtain ⟨⟨_,e3⟩,s3,z3⟩:=hn
 obtain ⟨k1,k2⟩:=zcj Qw yaj
 refine ⟨Qw,[r,a,n],rfl,k1,?_,?_,?_⟩
 ·rw [show zbm Qw [r,a,n]=Ia [r,a,n] by kernel_rfl]
  simp only [Ia,Ez,e1,e2,e3,Option.bind_some,Option.map_some]
 ·exact z8w
 ·have:Qw.size=4:=rfl
  simp only [List.map_cons,List.map_nil,List.sum_cons,List.sum_nil]
  omega
theorem Vi(ha:VW ka a)(hn:NW kn n)(hv:VW kv v)(hc:ka+kn+kv+9<=c):InsW c [Qh,a,n,v]:=by
 obtain ⟨⟨_,e1⟩,s1,z1⟩:=ha
 obtain ⟨⟨_,e2⟩,s2,z2⟩:=hn
 obtain ⟨⟨_,e3⟩,s3,z3⟩:=hv
 obtain ⟨k1,k2⟩:=zcj Qh yaj
 refine ⟨Qh,[a,n,v],rfl,k1,?_,?_,?_⟩
 ·rw [show zbm Qh [a,n,v]=Xq [a,n,v] by kernel_rfl]
  simp only [Xq,Ez,e1,e2,e3,Option.bind_some,Option.map_some]
 ·exact z8w
 ·have:Qh.size=5:=rfl
  simp only [List.map_cons,List.map_nil,List.sum_cons,List.sum_nil]
  omega
theorem Ew(o:Nat)(ho:o<12)(hr:RW r)(ha:VW ka a)(hb:VW kb b)(hc:ka+kb+9<=c):InsW c [Jc o,r,a,b]:=by
 obtain ⟨⟨_,e1⟩,s1,z1⟩:=hr
 obtain ⟨⟨_,e2⟩,s2,z2⟩:=ha
 obtain ⟨⟨_,e3⟩,s3,z3⟩:=hb
 obtain ⟨k1,k2,k3⟩:=z4f o ho
 refine ⟨Jc o,[r,a,b],rfl,k1,?_,?_,?_⟩
 ·unfold zbm
  cases h:zqi (Jc o) with
  |none=>exact absurd rfl (zdk h o ho)
  |some k=>
   dsimp only
   simp only [gop,e1,e2,e3,Option.bind_some,Option.map_some]
 ·exact z8w
 ·simp only [List.map_cons,List.map_nil,List.sum_cons,List.sum_nil]
  omega
theorem zg6(hr:RW r)(ha:VW ka a)(hc:ka+8<=c):InsW c [zdp,r,a]:=by
 obtain ⟨⟨_,e1⟩,s1,z1⟩:=hr
 obtain ⟨⟨_,e2⟩,s2,z2⟩:=ha
 obtain ⟨k1,k2⟩:=zcj zdp yaj
 refine ⟨zdp,[r,a],rfl,k1,?_,?_,?_⟩
 ·rw [show zbm zdp [r,a]=zly [r,a] by kernel_rfl]
  simp only [zly,e1,e2,Option.bind_some,Option.map_some]
 ·exact z9z
 ·have:zdp.size=3:=rfl
  simp only [List.map_cons,List.map_nil,List.sum_cons,List.sum_nil]
  omega
theorem zul(ha:VW ka a)(hc:ka+5<=c):InsW c [zp6,a]:=by
 obtain ⟨⟨_,e1⟩,s1,z1⟩:=ha
 obtain ⟨k1,k2⟩:=zcj zp6 yaj
 refine ⟨zp6,[a],rfl,k1,?_,?_,?_⟩
 ·rw [show zbm zp6 [a]=zqg [a] by kernel_rfl]
  simp only [zqg,e1,Option.map_some]
 ·exact z92
 ·have:zp6.size=3:=rfl
  simp only [List.map_cons,List.map_nil,List.sum_cons,List.sum_nil]
  omega
theorem zum(ha:VW ka a)(ht:TW t)(hc:ka+9<=c):InsW c [yJz,a,t]:=by
 obtain ⟨⟨_,e1⟩,s1,z1⟩:=ha
 obtain ⟨⟨_,e2⟩,s2,z2⟩:=ht
 obtain ⟨k1,k2⟩:=zcj yJz yaj
 refine ⟨yJz,[a,t],rfl,k1,?_,?_,?_⟩
 ·rw [show zbm yJz [a,t]=gjz [a,t] by kernel_rfl]
  simp only [gjz,e1,e2,Option.bind_some,Option.map_some]
 ·exact z9z
 ·have:yJz.size=2:=rfl
  simp only [List.map_cons,List.map_nil,List.sum_cons,List.sum_nil]
  omega
theorem zg7(ht:TW t)(hc:9<=c):InsW c [zaa,t]:=by
 obtain ⟨⟨_,e1⟩,s1,z1⟩:=ht
 obtain ⟨k1,k2⟩:=zcj zaa yaj
 refine ⟨zaa,[t],rfl,k1,?_,?_,?_⟩
 ·rw [show zbm zaa [t]=zqh [t] by kernel_rfl]
  simp only [zqh,e1,Option.map_some]
 ·exact z92
 ·have:zaa.size=3:=rfl
  simp only [List.map_cons,List.map_nil,List.sum_cons,List.sum_nil]
  omega
theorem zyg(hr:RW r)(ha:VW ka a)(hn:NW kn n)(hv:VW kv v)(hc:ka+kn+kv+11<=c):InsW c [Xf,r,a,n,v]:=by
 obtain ⟨⟨_,e1⟩,s1,z1⟩:=hr
 obtain ⟨⟨_,e2⟩,s2,z2⟩:=ha
 obtain ⟨⟨_,e3⟩,s3,z3⟩:=hn
 obtain ⟨⟨_,e4⟩,s4,z4⟩:=hv
 obtain ⟨k1,k2⟩:=zcj Xf yaj
 refine ⟨Xf,[r,a,n,v],rfl,k1,?_,?_,?_⟩
 ·rw [show zbm Xf [r,a,n,v]=Fh [r,a,n,v] by kernel_rfl]
  simp only [Fh,Ez,e1,e2,e3,e4,Option.bind_some,Option.map_some]
 ·simp only [List.mem_cons,List.not_mem_nil,or_false,forall_eq_or_imp,forall_eq]
  exact ⟨k2,s1,s2,s3,s4⟩
 ·have:Xf.size=4:=rfl
  simp only [List.map_cons,List.map_nil,List.sum_cons,List.sum_nil]
  omega
theorem z1y(hr:RW r)(ha:VW ka a)(hn:NW kn n)(hv:VW kv v)(hb:VW kb b)(hc:ka+kn+kv+kb+11<=c):InsW c [zvf,r,a,n,v,b]:=by
 obtain ⟨⟨_,e1⟩,s1,z1⟩:=hr
 obtain ⟨⟨_,e2⟩,s2,z2⟩:=ha
 obtain ⟨⟨_,e3⟩,s3,z3⟩:=hn
 obtain ⟨⟨_,e4⟩,s4,z4⟩:=hv
 obtain ⟨⟨_,e5⟩,s5,z5⟩:=hb
 obtain ⟨k1,k2⟩:=zcj zvf yaj
 refine ⟨zvf,[r,a,n,v,b],rfl,k1,?_,?_,?_⟩
 ·rw [show zbm zvf [r,a,n,v,b]=zdj [r,a,n,v,b] by kernel_rfl]
  simp only [zdj,Ez,e1,e2,e3,e4,e5,Option.bind_some,Option.map_some]
 ·simp only [List.mem_cons,List.not_mem_nil,or_false,forall_eq_or_imp,forall_eq]
  exact ⟨k2,s1,s2,s3,s4,s5⟩
 ·have:zvf.size=3:=rfl
  simp only [List.map_cons,List.map_nil,List.sum_cons,List.sum_nil]
  omega
theorem zun:InsW 9 [Yn]:=⟨Yn,[],rfl,(zcj Yn yaj).1,by kernel_rfl,λv hv=>by rw [List.mem_singleton.1 hv];exact (zcj Yn yaj).2,by decide⟩
theorem znr:InsW 9 [Ex]:=⟨Ex,[],rfl,(zcj Ex yaj).1,by kernel_rfl,λv hv=>by rw [List.mem_singleton.1 hv];exact (zcj Ex yaj).2,by decide⟩
theorem z6s:dec 2=⟨#[50]⟩:=by
 unfold dec Lib.itoa
 rw [if_neg yai,show ((2:Int).toNat)=2 from rfl,Lib.decDigits_one yai]
 rfl
theorem zyh:InsW 9 [zj1,dec 2]:=by
 rw [z6s]
 obtain ⟨k1,k2⟩:=zcj zj1 yaj
 refine ⟨zj1,[⟨#[50]⟩],rfl,k1,by kernel_rfl,?_,by decide⟩
 simp only [List.mem_cons,List.not_mem_nil,or_false,forall_eq_or_imp,forall_eq]
 exact ⟨k2,by unfold NoS;decide⟩
theorem Fd(ha:VW ka a)(hc:ka+9<=c):zyf c [yJz,a]:=by
 refine ⟨by simp,λt ht=>zum ha ht hc,?_⟩
 have:=ha.2.2
 have:yJz.size=2:=rfl
 rw [zci]
 simp only [List.map_cons,List.map_nil,List.sum_cons,List.sum_nil]
 omega
theorem zns(hc:9<=c):zyf c [zaa]:=by
 refine ⟨by simp,λt ht=>zg7 ht hc,?_⟩
 have:zaa.size=3:=rfl
 rw [zci]
 simp only [List.map_nil,List.sum_nil]
 omega
end
def wt(P:Nat->Bool):Nat->List ByteArray->Nat
 |_,[]=>0
 |i,l::r=>l.size+cond (P i) 6 1+wt P (i+1) r
theorem zuo(P:Nat->Bool): ∀(L:List ByteArray) (i:Nat) (l:ByteArray),wt P i (L++[l])=wt P i L+(l.size+cond (P (i+L.length)) 6 1)
 |[],i,l=>by simp [wt]
 |a::r,i,l=>by
  simp only [List.cons_append,wt,List.length_cons]
  rw [zuo P r (i+1) l,show i+(r.length+1)=i+1+r.length by omega]
  omega
theorem zup{P':Nat->Bool}: ∀(L:List ByteArray) (i:Nat),(∀j,i<=j->j<i+L.length->P' j=P j)->wt P' i L=wt P i L
 |[],_,_=>rfl
 |a::r,i,h=>by
  simp only [wt]
  rw [h i (Nat.le_refl _) yaj,zup r (i+1) λj h1 h2=>h j yai (by rw [List.length_cons];omega)]
def ze1(P:Nat->Bool)(n:Nat):Nat->Bool:=λj=>P j&&!decide (j=n)
def zck(P:Nat->Bool)(n:Nat):Nat->Bool:=λj=>P j||decide (j=n)
theorem zbl{j:Nat}(h:j≠n):ze1 P n j=P j:=by simp [ze1,h]
theorem zg8(P:Nat->Bool)(n:Nat):ze1 P n n=false:=by simp [ze1]
theorem zze: ∀(L:List ByteArray) (i n:Nat) (l l':ByteArray),L[n]?=some l->P (i+n)=true->l'.size<=l.size+5->wt (ze1 P (i+n)) i (L.set n l')<=wt P i L
 |[],_,_,_,_,h,_,_=>by simp at h
 |a::r,i,0,l,l',h,hp,hz=>by
  have h:a=l:=yb2
  subst h
  simp only [List.set_cons_zero,wt]
  rw [zup (P:=P) r (i+1) λj h1 _=>zbl yai]
  have hp:P i=true:=hp
  have:=zg8 P i
  rw [show i+0=i from rfl,this,hp]
  simp only [cond_true,cond_false]
  omega
 |a::r,i,n+1,l,l',h,hp,hz=>by
  simp only [List.set_cons_succ,wt]
  have ih:=zze (P:=P) r (i+1) n l l' yb2 (by rw [show i+1+n=i+(n+1) by omega];exact hp) hz
  rw [show i+1+n=i+(n+1) by omega] at ih
  rw [zbl (show i≠i+(n+1) by omega)]
  omega
def z51(l:ByteArray):Prop:=∀t,TW t->ze0 (l++(ySp++t))
structure GoodP(P:Nat->Bool)(b:Nat)(L:List ByteArray):Prop where
 lt: ∀i,P i=true->i<L.length
 n9:9*L.length<=b
 ok:L.length<=4000->(∀i l,L[i]?=some l->(P i=true->z51 l)/\(P i=false->ze0 l))/\wt P 0 L<=b
section
variable{P:Nat->Bool}{b c:Nat}{L:List ByteArray}{ws:List ByteArray}
theorem GoodP.len(h:GoodP P b L):P L.length=false:=by
 cases e:P L.length with
 |false=>rfl
 |true=>exact absurd (h.lt _ e) (Nat.lt_irrefl _)
theorem GoodP.add(h:GoodP P b L)(hw:L.length<=4000->InsW c ws)(h9:9<=c):GoodP P (b+c) (L++[Zt 32 ws]) where
 lt:=λi hi=>by have:=h.lt i hi;rw [List.length_append];omega
 n9:=ydu
 ok:=λhl=>by
  rw [List.length_append,List.length_singleton] at hl
  obtain ⟨h1,h2⟩:=h.ok yai
  obtain ⟨q1,q2⟩:=(hw yai).line
  refine ⟨λi l hi=>?_,?_⟩
  ·by_cases c:i<L.length
   ·rw [List.getElem?_append_left c] at hi
    exact h1 i l hi
   ·have e:i=L.length:=by
     have:=(List.getElem?_eq_some_iff.1 hi).1
     rw [List.length_append,List.length_singleton] at this
     omega
    subst e
    have e:Zt 32 ws=l:=ybk
    rw [<-e]
    exact ⟨λq=>(by rw [h.len] at q;cases q),λ_=>q1⟩
  ·rw [zuo,Nat.zero_add,h.len]
   simp only [cond_false]
   omega
theorem GoodP.pend(h:GoodP P b L)(hw:zyf c ws)(h9:9<=c):GoodP (zck P L.length) (b+c) (L++[Zt 32 ws]) where
 lt:=λi hi=>by
  rw [List.length_append,List.length_singleton]
  by_cases e:i=L.length
  ·omega
  ·have:=h.lt i (by simpa [zck,e] using hi)
   omega
 n9:=ydu
 ok:=λhl=>by
  rw [List.length_append,List.length_singleton] at hl
  obtain ⟨h1,h2⟩:=h.ok yai
  obtain ⟨q0,q1,q2⟩:=hw
  have hp: ∀j,j<L.length->zck P L.length j=P j:=λj hj=>by simp [zck,show j≠L.length by omega]
  have hpl:zck P L.length L.length=true:=by simp [zck]
  refine ⟨λi l hi=>?_,?_⟩
  ·by_cases c:i<L.length
   ·rw [List.getElem?_append_left c] at hi
    rw [hp i c]
    exact h1 i l hi
   ·have e:i=L.length:=by
     have:=(List.getElem?_eq_some_iff.1 hi).1
     rw [List.length_append,List.length_singleton] at this
     omega
    subst e
    have e:Zt 32 ws=l:=ybk
    rw [<-e]
    refine ⟨λ_ t ht=>?_,λq=>by rw [hpl] at q;cases q⟩
    rw [zuk ws t q0]
    exact (q1 t ht).line.1
  ·rw [zuo,Nat.zero_add,hpl,zup (P:=P) L 0 λj _ hj=>hp j yai]
   simp only [cond_true]
   omega
theorem GoodP.land(h:GoodP P b L)(hn:P n=true):GoodP (ze1 P n) b (L.set n ((L[n]?).getD ⟨#[]⟩++(ySp++dec L.length))) where
 lt:=λi hi=>by
  rw [List.length_set]
  refine h.lt i ?_
  unfold ze1 at hi
  exact (Bool.and_eq_true_iff.1 hi).1
 n9:=by rw [List.length_set];exact h.n9
 ok:=λhl=>by
  rw [List.length_set] at hl
  obtain ⟨h1,h2⟩:=h.ok hl
  have hlt:=h.lt n hn
  have hT:=zjc L.length hl
  have hg:L[n]?=some L[n]:=List.getElem?_eq_getElem hlt
  have hp:=(h1 n L[n] hg).1 hn
  rw [hg,Option.getD_some]
  refine ⟨λi l hi=>?_,?_⟩
  ·by_cases e:i=n
   ·subst e
    rw [List.getElem?_set_self hlt] at hi
    rw [zg8,<-Option.some.inj hi]
    exact ⟨λq=>(by cases q),λ_=>hp _ hT⟩
   ·rw [List.getElem?_set_ne (λq=>e q.symm)] at hi
    rw [zbl e]
    exact h1 i l hi
  ·have:=zze (P:=P) L 0 n L[n] (L[n]++(ySp++dec L.length)) hg (by rw [Nat.zero_add];exact hn) (by
    have:=hT.2.2
    have e:ySp.size=1:=rfl
    rw [ByteArray.size_append,ByteArray.size_append]
    omega)
   rw [Nat.zero_add] at this
   omega
theorem GoodP.mono(h:GoodP P b L)(hb:b<=b'):GoodP P b' L:=⟨h.lt,Nat.le_trans h.n9 hb,λhl=>⟨(h.ok hl).1,Nat.le_trans (h.ok hl).2 hb⟩⟩
end
def pn(Q:Nat->Bool)(U T:List Nat):Nat->Bool:=λi=>Q i||(U.contains i||T.contains i)
def Ck.un(s:Ck)(u:Bool):List Nat:=if u=true then s.bk.undo else []
structure Good(u:Bool)(Q:Nat->Bool)(b:Nat)(s:Ck):Prop where
 g:GoodP (pn Q (s.un u) s.T) b s.L
 dis: ∀i,Q i=true->i∉s.un u/\i∉s.T
 nd:(s.un u++s.T).Nodup
 bl:s.bk.gets.length<=6/\s.bk.puts.length<=6/\s.bk.chgs.length<=4/\s.bk.again<=s.L.length
section
variable{u:Bool}{Q:Nat->Bool}{b c k:Nat}{s:Ck}{ws:List ByteArray}{x:Cx}
theorem Good.mono(h:Good u Q b s)(hb:b<=b'):Good u Q b' s:=⟨h.g.mono hb,h.dis,h.nd,h.bl⟩
theorem Good.fresh(h:Good u Q b s):Q s.L.length=false/\s.L.length∉s.un u/\s.L.length∉s.T:=by
 have:=h.g.len
 unfold pn at this
 simp only [Bool.or_eq_false_iff] at this
 exact ⟨this.1,by simpa using this.2.1,by simpa using this.2.2⟩
theorem Good.add(h:Good u Q b s)(hw:s.L.length<=4000->InsW c ws)(h9:9<=c):Good u Q (b+c) (s.add ws):=
 ⟨h.g.add hw h9,h.dis,h.nd,⟨h.bl.1,h.bl.2.1,h.bl.2.2.1,by have:=h.bl.2.2.2;rw [Qx];exact Nat.le_succ_of_le this⟩⟩
theorem z1z(n:Nat)(U T:List Nat):pn (zck Q n) U T=zck (pn Q U T) n:=by
 funext j
 show ((Q j||decide (j=n))||(U.contains j||T.contains j))=((Q j||(U.contains j||T.contains j))||decide (j=n))
 cases Q j<;>cases decide (j=n)<;>cases U.contains j<;>cases T.contains j<;>rfl
theorem Good.pend(h:Good u Q b s)(hw:zyf c ws)(h9:9<=c):Good u (zck Q s.L.length) (b+c) (s.add ws):=by
 obtain ⟨f1,f2,f3⟩:=h.fresh
 refine ⟨?_,λi hi=>?_,h.nd,⟨h.bl.1,h.bl.2.1,h.bl.2.2.1,by have:=h.bl.2.2.2;rw [Qx];exact Nat.le_succ_of_le this⟩⟩
 ·rw [z1z];exact h.g.pend hw h9
 ·by_cases e:i=s.L.length
  ·rw [e];exact ⟨f2,f3⟩
  ·exact h.dis i (by simpa [zck,e] using hi)
theorem Good.land(h:Good u (zck Q n) b s)(hn:Q n=false):Good u Q b (s.land n):=by
 have hq:zck Q n n=true:=by simp [zck]
 obtain ⟨d1,d2⟩:=h.dis n hq
 refine ⟨?_,λi hi=>h.dis i (by simp [zck,hi]),h.nd,⟨h.bl.1,h.bl.2.1,h.bl.2.2.1,by have:=h.bl.2.2.2;show _<=(s.L.set n _).length;rw [List.length_set];exact this⟩⟩
 have:=h.g.land (n:=n) (by unfold pn;rw [hq];rfl)
 have e:ze1 (pn (zck Q n) (s.un u) s.T) n=pn Q ((s.land n).un u) (s.land n).T:=by
  show _=pn Q (s.un u) s.T
  funext j
  by_cases e:j=n
  ·subst e
   rw [zg8]
   unfold pn
   rw [hn]
   have a1:(s.un u).contains j=false:=by simpa using d1
   have a2:s.T.contains j=false:=by simpa using d2
   rw [a1,a2]
   rfl
  ·rw [zbl e]
   unfold pn zck
   simp [e]
 rw [<-e]
 exact this
theorem Good.trapIf(h:Good u Q b s):Good u Q (b+11) s.trapIf:=by
 obtain ⟨f1,f2,f3⟩:=h.fresh
 have hp:=h.g.pend (c:=11) (Fd rw4.val (Nat.le_refl _)) yai
 refine ⟨?_,λi hi=>?_,?_,⟨h.bl.1,h.bl.2.1,h.bl.2.2.1,by have:=h.bl.2.2.2;show _<=(s.add _).L.length;rw [Qx];exact Nat.le_succ_of_le this⟩⟩
 ·have e:zck (pn Q (s.un u) s.T) s.L.length=pn Q (s.trapIf.un u) s.trapIf.T:=by
   show _=pn Q (s.un u) (s.T++[s.L.length])
   funext j
   unfold zck pn
   simp [Bool.or_assoc]
  rw [<-e]
  exact hp
 ·have:=h.dis i hi
  refine ⟨this.1,λhm=>?_⟩
  rcases List.mem_append.1 (show i∈s.T++[s.L.length] from hm) with hm|hm
  ·exact this.2 hm
  ·rw [List.mem_singleton.1 hm,f1] at hi;cases hi
 ·show (s.un u++(s.T++[s.L.length])).Nodup
  rw [<-List.append_assoc]
  refine List.nodup_append.2 ⟨h.nd,by simp,λa ha e he=>?_⟩
  rw [List.mem_singleton.1 he]
  rintro rfl
  exact (List.mem_append.1 ha).elim f2 f3
theorem Good.undoIf(h:Good true Q b s):Good true Q (b+11) s.undoIf:=by
 obtain ⟨f1,f2,f3⟩:=h.fresh
 have hp:=h.g.pend (c:=11) (Fd rw4.val (Nat.le_refl _)) yai
 have eu:s.undoIf.un true=s.bk.undo++[s.L.length]:=rfl
 have eu0:s.un true=s.bk.undo:=rfl
 refine ⟨?_,λi hi=>?_,?_,⟨h.bl.1,h.bl.2.1,h.bl.2.2.1,by have:=h.bl.2.2.2;show _<=(s.add _).L.length;rw [Qx];exact Nat.le_succ_of_le this⟩⟩
 ·have e:zck (pn Q (s.un true) s.T) s.L.length=pn Q (s.undoIf.un true) s.undoIf.T:=by
   rw [eu,eu0]
   show _=pn Q (s.bk.undo++[s.L.length]) s.T
   funext j
   unfold zck pn
   cases Q j<;>cases hu:s.bk.undo.contains j<;>cases ht:s.T.contains j<;>simp_all
  rw [<-e]
  exact hp
 ·have:=h.dis i hi
  refine ⟨λhm=>?_,this.2⟩
  rw [eu] at hm
  rcases List.mem_append.1 hm with hm|hm
  ·exact this.1 hm
  ·rw [List.mem_singleton.1 hm,f1] at hi;cases hi
 ·rw [eu]
  have hnd:=h.nd
  rw [eu0] at hnd f2
  show ((s.bk.undo++[s.L.length])++s.T).Nodup
  obtain ⟨n1,n2,n3⟩:=List.nodup_append.1 hnd
  refine List.nodup_append.2 ⟨List.nodup_append.2 ⟨n1,by simp,λa ha e he=>?_⟩,n2,λa ha e he=>?_⟩
  ·rw [List.mem_singleton.1 he]
   rintro rfl
   exact f2 ha
  ·rcases List.mem_append.1 ha with ha|ha
   ·exact n3 a ha e he
   ·rw [List.mem_singleton.1 ha]
    rintro rfl
    exact f3 he
theorem GoodP.lands: ∀(ns:List Nat) {P:Nat->Bool} {s:Ck},GoodP P b s.L->ns.Nodup->(∀n∈ns,P n=true)->GoodP (λj=>P j&&!ns.contains j) b (s.lands ns).L
 |[],P,s,h,_,_=>by simpa [Ck.lands] using h
 |n::r,P,s,h,hn,hp=>by
  have h1:GoodP (ze1 P n) b (s.land n).L:=h.land (hp n yaj)
  obtain ⟨n1,n2⟩:=List.nodup_cons.1 hn
  have h2:=GoodP.lands r (s:=s.land n) h1 n2 λi hi=>by
   have hin:i≠n:=λe=>n1 (by rw [<-e];exact hi)
   rw [zbl hin]
   exact hp i (List.mem_cons_of_mem _ hi)
  have e:(λj=>ze1 P n j&&!r.contains j)=λj=>P j&&!(n::r).contains j:=by
   funext j
   unfold ze1
   by_cases q:j=n
   ·subst q;simp
   ·simp [q]
  rw [e] at h2
  exact h2
theorem zcl: ∀(ns:List Nat) (s:Ck),(s.lands ns).T=s.T/\(s.lands ns).blk=s.blk/\(s.lands ns).L.length=s.L.length
 |[],_=>⟨rfl,rfl,rfl⟩
 |n::r,s=>by
  obtain ⟨h1,h2,h3⟩:=zcl r (s.land n)
  exact ⟨h1,h2,h3.trans (List.length_set ..)⟩
theorem zuq{s s':Ck}(h:s'.blk=s.blk):s'.bk=s.bk:=by unfold Ck.bk;rw [h]
theorem Good.landsU(h:Good true Q b s):Good false Q b (s.lands s.bk.undo):=by
 obtain ⟨k1,k2,k3⟩:=zcl s.bk.undo s
 have kb:=zuq k2
 obtain ⟨n1,n2,n3⟩:=List.nodup_append.1 (show (s.bk.undo++s.T).Nodup from h.nd)
 have hl:=GoodP.lands s.bk.undo h.g n1 λn hn=>by
  unfold pn
  have:(s.un true).contains n=true:=by show s.bk.undo.contains n=true;simpa using hn
  rw [this]
  simp
 refine ⟨?_,λi hi=>⟨by simp [Ck.un],by rw [k1];exact (h.dis i hi).2⟩,by rw [k1];simpa [Ck.un] using n2,by rw [kb,k3];exact h.bl⟩
 have e:(λj=>pn Q (s.un true) s.T j&&!s.bk.undo.contains j)=pn Q ((s.lands s.bk.undo).un false) (s.lands s.bk.undo).T:=by
  rw [k1]
  funext j
  show ((Q j||(s.bk.undo.contains j||s.T.contains j))&&!s.bk.undo.contains j)=(Q j||(false||s.T.contains j))
  cases hu:s.bk.undo.contains j with
  |false=>simp
  |true=>
   have hm:j∈s.bk.undo:=by simpa using hu
   have hq:Q j=false:=by
    cases e:Q j with
    |false=>rfl
    |true=>exact absurd hm (h.dis j e).1
   have ht:s.T.contains j=false:=by simpa using λe=>n3 j hm j e rfl
   rw [hq,ht]
   rfl
 rw [<-e]
 exact hl
theorem Xc{f:Nat->Ck->Ck}{N:Nat}(hf: ∀i,i<N->∀b s,Good u Q b s->Good u Q (b+c) (f i s)): ∀(l:List Bool) (i b:Nat) (s:Ck),i+l.length<=N->Good u Q b s->Good u Q (b+c*l.length) (Qn f l i s)
 |[],_,_,_,_,h=>h
 |a::r,i,b,s,hl,h=>by
  simp only [Qn]
  rw [List.length_cons] at hl⊢
  have h1:Good u Q (b+c) (if a=true then f i s else s):=by
   split
   ·exact hf i yai b s h
   ·exact h.mono yai
  have:=Xc hf r (i+1) (b+c) _ yai h1
  rw [show b+c*(r.length+1)=b+c+c*r.length by rw [Nat.mul_add];omega]
  exact this
structure Cx.Fit(x:Cx):Prop where
 t:x.th<=2
 l:x.loc.length<=4
theorem zf5(hx:x.Fit)(k:Nat)(hk:k<=38):NW 3 (x.own (k:Int)):=by
 have:=hx.t
 unfold Cx.own
 rw [show (13+(x.th:Int)*39+(k:Int))=((13+x.th*39+k:Nat):Int) by omega]
 exact Xp _ 2 yai yai
theorem Xd(hx:x.Fit)(j k:Nat)(hk:j+k<=38):NW 3 (x.own ((j:Int)+(k:Int))):=by
 rw [show ((j:Int)+(k:Int))=((j+k:Nat):Int) by omega]
 exact zf5 hx _ hk
theorem zf6(k:Nat)(hk:k<=5):NW 2 (ze5 (k:Int)):=by
 unfold ze5
 rw [show (6+(k:Int))=((6+k:Nat):Int) by omega]
 exact Xp _ 1 yai yai
theorem zur(hx:x.Fit):NW 21 x.lock:=by
 have:=hx.t
 exact zuj _ yai yai
theorem zdh(hx:x.Fit)(v:ByteArray):RW (x.local v):=by
 have:=hx.l
 refine zez _ ?_
 unfold Cx.locI
 cases h:x.loc.findIdx? λy=>decide (y=v) with
 |none=>simp
 |some i=>
  have:=(List.findIdx?_eq_some_iff_getElem.1 h).1
  simp
  omega
theorem Sm(hx:x.Fit)(ha:a.ok):VW 21 (x.val a):=by
 unfold Cx.val
 split
 ·exact (zuj _ ha.2.1 ha.2.2).val
 ·exact (zdh hx _).val.mono yai
theorem zcm{a:ByteArray}(ha:VW k a)(n:Nat)(hn:n<=5)(h:Good u Q b s):Good u Q (b+(k+25)) (Zu a (n:Int) s):=by
 refine ((h.add (c:=k+12) (λ_=>Zb rw4 ha (zf6 n hn) (Nat.le_refl _)) yai).add (c:=13) (λ_=>Ew 10 yai rw4 rw4.val rw6.val yai) yai).mono yai
theorem Good.agn(h:Good u Q b s)(hl:s.L.length<=4000):TW (dec (s.bk.again:Int)):=zjc _ (by have:=h.bl.2.2.2;omega)
theorem zjd(hx:x.Fit){a:ByteArray}(ht:RW to)(ha:VW 21 a)(n:Nat)(hn:n<=5)(h:Good u Q b s):Good u Q (b+190) (x.readC to a (n:Int) s):=by
 have h1:=zcm ha n hn h
 have h2:=h1.add (c:=11) (ws:=[yJz,yR4,dec (s.bk.again:Int)]) (λhl=>zum rw4.val (h1.agn hl) yai) yai
 have h3:=h2.add (c:=32) (ws:=[Qw,yR5,a,dec (n:Int)]) (λ_=>Zb rw5 ha (Xp n 0 yai yai) yai) yai
 have h4:=zcm ha n hn h3
 have h5:=h4.add (c:=11) (ws:=[yJz,yR4,dec (s.bk.again:Int)]) (λhl=>zum rw4.val (h4.agn hl) yai) yai
 have h6:=h5.add (c:=34) (ws:=[Qh,a,x.own (12+(n:Int)),y1]) (λ_=>Vi ha (Xd hx 12 n yai) nw1.val yai) yai
 have h7:=h6.add (c:=10) (ws:=[zdp,to,yR5]) (λ_=>zg6 ht rw5.val yai) yai
 exact h7.mono yai
theorem zf7(hx:x.Fit)(ha:a.ok)(hf:x.varOk f)(h:Good u Q b s):Good u Q (b+85) (x.check f a s):=by
 obtain ⟨_,i,n,hv,hi,hn⟩:=hf
 have hvn:VW 1 (dec (n:Int)):=(Xp n 0 yai yai).val
 have hm:VW 2 yM1:=by
  have:=(zuj (-1) yai yai).val
  have e:dec (-1)=yM1:=by
   unfold dec Lib.itoa
   rw [if_pos yai,show ((-1:Int).natAbs)=1 from rfl,Lib.decDigits_one yai]
   rfl
  rw [e] at this
  exact ⟨this.1,this.2.1,Nat.le_refl _⟩
 unfold Cx.check
 dsimp only
 rw [hv]
 dsimp only
 split
 ·exact h.mono yai
 ·have h1:=h.add (c:=32) (ws:=[yLt,yR4,yM1,x.val a]) (λ_=>Ew 10 yai rw4 hm (Sm hx ha) yai) yai
  have h2:=h1.trapIf
  have h3:=h2.add (c:=31) (ws:=[yLt,yR4,x.val a,dec (n:Int)]) (λ_=>Ew 10 yai rw4 (Sm hx ha) hvn yai) yai
  exact h3.trapIf.mono yai
theorem zyi(hx:x.Fit)(ha:a.ok)(hf:x.varOk f)(h:Good u Q b s):Good u Q (b+363) (x.get to f a s):=by
 have h1:=zf7 hx ha hf h
 obtain ⟨_,i,n,hv,hi,hn⟩:=hf
 have hvl:=Sm hx ha
 have ht:=zdh hx to
 unfold Cx.get
 dsimp only
 rw [hv]
 dsimp only
 generalize x.check f a s=s1 at h1⊢
 split
 ·exact (zjd hx ht hvl i yai h1).mono yai
 ·have h2:=h1.add (c:=34) (ws:=[Qw,yR4,x.val a,x.own (6+(i:Int))]) (λ_=>Zb rw4 hvl (Xd hx 6 i yai) yai) yai
  have h3:=h2.pend (c:=11) (ws:=[yJz,yR4]) (Fd rw4.val (Nat.le_refl _)) yai
  have h4:=h3.add (c:=34) (ws:=[Qw,x.local to,x.val a,x.own (i:Int)]) (λ_=>Zb ht hvl (zf5 hx i yai) yai) yai
  have h5:=h4.pend (c:=9) (ws:=[zaa]) (zns (Nat.le_refl _)) yai
  have f1:=h2.fresh.1
  have f2:=h4.fresh.1
  generalize s1.add [Qw,yR4,x.val a,x.own (6+(i:Int))]=s2 at*
  generalize hs4:(s2.add [yJz,yR4]).add [Qw,x.local to,x.val a,x.own (i:Int)]=s4 at*
  have e1:s4.L.length=s2.L.length+2:=by rw [<-hs4,Qx,Qx]
  have f3:Q s4.L.length=false:=by
   unfold zck at f2
   exact (Bool.or_eq_false_iff.1 f2).1
  have ec:zck (zck Q s2.L.length) s4.L.length=zck (zck Q s4.L.length) s2.L.length:=by
   funext j
   unfold zck
   rw [Bool.or_assoc,Bool.or_assoc,Bool.or_comm (decide (j=s2.L.length))]
  rw [ec] at h5
  have h6:=h5.land (by unfold zck;rw [f1];simp;omega)
  have h7:=zjd hx ht hvl i yai h6
  exact (h7.land f3).mono yai
theorem zyj(hx:x.Fit){v:PV}(ha:a.ok)(hv:v.ok)(hf:x.varOk f)(h:Good u Q b s):Good u Q (b+207) (x.put f a v s):=by
 have h1:=zf7 hx ha hf h
 obtain ⟨_,i,n,hw,hi,hn⟩:=hf
 have hvl:=Sm hx ha
 unfold Cx.put
 dsimp only
 rw [hw]
 dsimp only
 have h2:=h1.add (c:=54) (ws:=[Qh,x.val a,x.own (i:Int),x.val v]) (λ_=>Vi hvl (zf5 hx i yai) (Sm hx hv) yai) yai
 have h3:=h2.add (c:=34) (ws:=[Qh,x.val a,x.own (6+(i:Int)),y1]) (λ_=>Vi hvl (Xd hx 6 i yai) nw1.val yai) yai
 have h4:=h3.add (c:=34) (ws:=[Qh,x.val a,x.own (12+(i:Int)),y0]) (λ_=>Vi hvl (Xd hx 12 i yai) nw0.val yai) yai
 exact h4.mono yai
theorem zyk(hx:x.Fit)(ha:a.ok)(h:Good u Q b s):Good u Q (b+47) (x.outC a s):=by
 have hvl:=Sm hx ha
 unfold Cx.outC
 split
 ·exact (h.add (c:=26) (λ_=>zul hvl yai) yai).mono yai
 ·have h2:=h.add (c:=35) (ws:=[Qh,yR7,x.own 24,x.val a]) (λ_=>Vi rw7.val (zf5 hx 24 yai) hvl yai) yai
  exact (h2.add (c:=12) (ws:=[Fy,yR7,yR7,y1]) (λ_=>Ew 0 yai rw7 rw7.val nw1.val yai) yai).mono yai
end
end Go.Proofs.YtphcopbffecceaaGreatDoor
