import Derived.Test.YtkenoofmkbghiaaGreatDoorProg
import Derived.WalkKit
import Derived.WalkSpells
import Derived.Deep.Quiet
import Derived.Deep.RegionWith
set_option maxRecDepth 100000
set_option maxHeartbeats 1000000
namespace Go.Proofs.YtkenoofmkbghiaaGreatDoor
open Go.RowKit
variable{a w w':World}{M:Nat->Nat->Prop}{b c f i k o:Nat}{x y:Nat->Int}{v:Value}
theorem blt{p:Addr}(h:w.cell? p=some v):p.block<w.heap.size:=World.block_lt_of_cell? _ _ h
abbrev Cl(f:FuncId)(a:Array Value)(w:World)(Q:Ending->World->Prop):Prop:=Calls Tryz.prog f a w Q
section
variable{p:Prop}
theorem yry(h:p:=by
 obtain ⟨r,j,rfl,rfl,hi,hjl⟩:=hrel
 have HI:=hid hi
 clear hi
 by_cases hr:r=[]/\j≠0
 ·obtain ⟨rfl,hj0⟩:=hr
  have hj: ¬(j:Int)+1=1:=yue
  have hee:(ByteArray.mk ([]:List UInt8).toArray).toList.isEmpty=true:=by rw [ByteArray.toList_eq];rfl
  obtain ⟨e1,e2⟩:=herr.out _ _ _ HI.out
  have hjb:(((j:Int)+1)==1)=false:=yup
  go_wp2
  refine leaves_cons (f:=53) (args:=#[.pointer (some ⟨W.heap.size,0,none⟩)]) yuf yur ?_
  refine (zjq ⟨W.heap.size,0,none⟩ _).mono ?_
  rintro e u' w'' ⟨rfl,rfl,rfl⟩
  refine ⟨.nilIface,?_, .inl ⟨rfl,j,wr,hj0,HI.out,rfl⟩⟩
  simp [results,Tryz.results36,go_sem,World.cell?_setCell_same wr _ _ e1]
 ·have hr':r≠[]\/j=0:=by
   by_cases e:r=[]
   ·exact .inr (Decidable.byContradiction λh=>hr ⟨e,h⟩)
   ·exact .inl e
  obtain ⟨l,r',b,hcu,hll,hgo,hno⟩:=hstep.out r j wr HI.out hr'
  have HG:=hid hgo
  have HN:=hid hno
  clear hgo hno
  have hj6:j<=1000000:=yue
  have hwr:wrap64 ((j:Int)+1+1)=(j:Int)+1+1:=by
   unfold wrap64;omega
  have hL:LineAt (((wr.drewN 0).alloc (.cells ((Ql l).map Value.string).toArray 9)).alloc (.cells #[.int .i64 (j+1), .slice (some ⟨wr.heap.size,0,none⟩) (Ql l).length (Ql l).length] 150)) (wr.heap.size+1) (j+1) wr.heap.size (Ql l):=zbq (w:=wr.drewN 0)
  have hcase:((((j:Int)+1)==1)=true)\/((((j:Int)+1)==1)=false/\r.isEmpty=false):=by
   by_cases e:j=0
   ·left;subst e;rfl
   ·right
    refine ⟨by simpa using (show ¬(j:Int)+1=1 by omega),?_⟩
    rcases hr' with h|h
    ·simpa using h
    ·exact absurd h e
  clear hL
  rcases hcase with hjb|⟨hjb,hie⟩
  all_goals
   go_wp2_with fail
   refine (hcut.out r j wr yue HI.out).mono ?_
   rintro e w1 ⟨rfl,n,rfl⟩
   rw [hcu]
   go_wp2_with fail
   refine (hsplit.out r j wr l n HI.out yue).mono ?_
   rintro e w1 ⟨rfl,rfl⟩
   cases b with
   |false=>
    have hL:LineAt (((wr.drewN n).alloc (.cells ((Ql l).map Value.string).toArray 9)).alloc (.cells #[.int .i64 (j+1), .slice (some ⟨wr.heap.size,0,none⟩) (Ql l).length (Ql l).length] 150)) (wr.heap.size+1) (j+1) wr.heap.size (Ql l):=zbq (w:=wr.drewN n)
    have HN2:=hid (HN.out rfl n)
    clear HN HG
    go_wp2_with fail
    refine (Jv hL 2).mono ?_
    rintro e w2 ⟨bf,rfl,hf⟩
    exact HF.out bf w2 _ rfl (HN2.out bf w2 ⟨bf,rfl,hf⟩)
   |true=>
    obtain ⟨hlt,hcall⟩:=HG.out rfl
    have HC:=hid (hcall n)
    clear hcall HG HN
    go_wp2_with fail
    refine HC.out.mono ?_
    rintro e w2 (⟨rfl,h2⟩|⟨bf,rfl,h2⟩)
    ·have H2:=hid h2
     clear h2 HC HI
     go_wp2
     go_roundw
     case rel=>exact ⟨r',j+1,rfl,by go_num,H2.out,by omega⟩
     case measure=>show r'.toArray.size<r.toArray.size;simpa using hlt
    ·exact HF.out bf w2 _ rfl h2):p:=h
theorem yr0(h:p:=by
 obtain ⟨k,hk,rfl,hB⟩:=hrel
 by_cases hlt:k<6
 ·have hlt':(k:Int)<6:=by omega
  have C1:=hid (KC.out k wr hlt)
  have C2:=hid (KN.out k wr hlt)
  have hs: ∃b,[b0,b1,b2,b3,b4,b5][k]?=some b:=⟨_,List.getElem?_eq_getElem hlt⟩
  obtain ⟨b,hb⟩:=hs
  have hix:=z54 wr k hlt hb
  have hw1:wrap64 ((k:Int)+1)=((k+1:Nat):Int):=yul
  rw [hb] at C1 C2
  clear KC KN
  cases b with
  |true=>
   have D1:=hid (C1.out rfl hB.out)
   clear C1 C2
   go_wp2_with fail
   refine D1.out.mono ?_
   rintro e w1 ⟨rfl,h1⟩
   have H1:=hid h1
   clear h1 D1
   go_wp2
   go_roundw
   case rel=>exact ⟨k+1,by omega,by go_num,H1⟩
   case measure=>simp [intOf];omega
  |false=>
   have H1:=hid (C2.out rfl hB.out)
   clear C1 C2
   go_wp2
   go_roundw
   case rel=>exact ⟨k+1,by omega,by go_num,H1⟩
   case measure=>simp [intOf];omega
 ·have hlt': ¬(k:Int)<6:=by omega
  have hk6:k=6:=yue
  rw [hk6] at hB
  go_wp2
  go_end0
  exact ⟨rfl,hB.out⟩):p:=h
theorem yr1(h:p:=by
 simp only [stV,Ue]
 go_enter Tryz.func100,Tryz.ntmps100
 go_wp2
 go_ret
 exact ⟨rfl,by first|exact Below.refl _ _|exact (Below.refl _ w).alloc (Nat.le_refl _) _|exact ((Below.refl _ w).alloc (Nat.le_refl _) _).setCell (Nat.le_refl _) _⟩):p:=h
theorem yr2(h:p:=by
 go_enter Tryz.func37,Tryz.ntmps37
 go_wp2_with fail
 refine (Ve H.out hlen).mono ?_
 rintro e w1 ⟨rfl,h1,c1⟩
 have H1:=hid h1
 have C1:=hid c1
 clear h1 c1 H
 go_wp2_with fail
 refine (K.out w1 H1.out C1.out).mono ?_
 rintro e w2 ⟨rfl,h2,c2⟩
 have H2:=hid h2
 have C2:=hid ((C1.out.mono (M':=λk _=>D k) (λk i _ e=>e.1▸hDl)).trans c2)
 clear h2 c2
 go_wp2
 go_end0
 exact ⟨rfl,H2.out,C2.out⟩):p:=h
theorem yr4(h:p:=by
 go_enter Tryz.func37,Tryz.ntmps37
 go_wp2_with fail
 refine (Ve H.out hlen).mono ?_
 rintro e w1 ⟨rfl,h1,c1⟩
 have H1:=hid h1
 have C1:=hid c1
 clear h1 c1 H
 go_wp2_with fail
 refine (K.out w1 H1.out C1.out).mono ?_
 intro e w2 h2
 obtain ⟨bf,rfl,h4⟩:=Fails.after h2 C1.out
 exact ⟨rfl,bf,rfl,h4⟩):p:=h
theorem yr5(h:p:=by
 intro k hk
 rcases hrow.2 with ⟨_,e2⟩|⟨g',cap',cur,e1,_,_,e3,_⟩
 ·omega
 ·obtain ⟨rfl,rfl⟩:ra=some ⟨g',0,none⟩/\rk=cap':=by simpa using e1
  obtain ⟨q1,_,_⟩:=Qm hrow k hk
  refine ⟨g',rfl,e3,(hrow.lt g' rfl).2,?_⟩
  rw [q1,List.getElem?_map,List.getElem?_eq_getElem hk]
  rfl):p:=h
theorem yr6(h:p:=by
 have hql':(q:Int)<(tu:Int):=yue
 go_wp2_with fail
 refine (HR.out.st _ _ _ j 1 hjl yue (by have:=HN.out;have:=HTU.out;omega) hr.out).mono ?_
 rintro e w1 ⟨rfl,h1⟩
 have G1:=hid h1
 clear h1
 go_wp2_with fail
 refine (HR.out.fl _ _ _ j hjl G1.out).mono ?_
 rintro e w2 ⟨rfl,h2⟩
 have G2:=hid h2
 clear h2 G1
 go_wp2
 go_roundw
 case rel=>exact ⟨q+1,by omega,by rw [ykf (by have:=HTU.out;omega)],G2⟩
 case measure=>
  rw [ykf (by have:=HTU.out;omega)]
  simp [intOf]
  omega):p:=h
theorem yr7(h:p:=by
 simp only [hkT]
 go_enter Tryz.func100,Tryz.ntmps100
 go_wp2
 go_ret
 exact ⟨rfl,by first|exact Below.refl _ _|exact (Below.refl _ w).alloc (Nat.le_refl _) _|exact ((Below.refl _ w).alloc (Nat.le_refl _) _).setCell (Nat.le_refl _) _⟩):p:=h
theorem yr8(h:p:=by
 rcases h.orow.2 with ⟨e1,e2⟩|⟨g',cap',cur,e1,_⟩
 ·exact ⟨none,0,by rw [e1,e2]⟩
 ·exact ⟨_,_,e1⟩):p:=h
theorem yr9(h:p:=by
 obtain ⟨k',hk',_⟩:=hF.eachK ([b0,b1,b2,b3,b4,b5].take i) 0 s k hk
 have hg:=hF.eachG ([b0,b1,b2,b3,b4,b5].take i) 0 s
 rw [zc3 hb] at hg
 have:i*G<=6*G:=Nat.mul_le_mul_right _ yue
 refine (KC i wr _ k' hi hc hk' yue).mono ?_
 rintro e w' ⟨he,h'⟩
 refine ⟨he,?_⟩
 show Cw W x K w' c (Qn f ([b0,b1,b2,b3,b4,b5].take (i+1)) 0 s)
 rw [Fl f hb]
 exact h'):p:=h
theorem ysa(h:p:=by
 go_enter Tryz.func245,Tryz.ntmps245
 go_wp2
 go_ret2
 exact ⟨rfl,rfl⟩):p:=h
theorem ysb(h:p:=by
 simp only [stV]
 go_enter Tryz.func129,Tryz.ntmps129
 go_wp2
 go_ret
 exact ⟨rfl,rfl⟩):p:=h
theorem ysc(h:p:=by
 simp only [stV]
 go_enter Tryz.func128,Tryz.ntmps128
 go_wp2
 go_ret
 exact ⟨rfl,rfl⟩):p:=h
theorem ysd(h:p:=by
 show (Qn (λi s=>s.add [Qh,y0,x.own (12+(i:Nat)),y0]) s.bk.gets 0 _).blk=_
 refine (Zl (λi=>[Qh,y0,x.own (12+(i:Nat)),y0]) _ _ _).trans ?_
 refine (Zl (λi=>[Qh,y0,x.own (6+(i:Nat)),y0]) _ _ _).trans ?_
 refine (Zl (λi=>[Qw,Zy (i:Nat),y0,x.own (32+(i:Nat))]) s.bk.chgs 0 _).trans ?_
 show some _=some _
 rw [Sq hk]):p:=h
theorem yse(h:p:=by
 simp only [stV]
 go_enter Tryz.func97,Tryz.ntmps97
 go_wp2
 go_ret
 exact ⟨rfl,rfl⟩):p:=h
theorem ysf(h:p:=by
 rcases s with ⟨to,a⟩|⟨to,k,a,c⟩|⟨to,f,a⟩|⟨f,a,c⟩|a|⟨⟩|a|n
 ·simp [zb3] at h
 ·simp [zb3] at h
 ·simp [zb3] at h
 ·simp [zb3] at h
 ·simp [zb3] at h
 ·obtain rfl:=List.singleton_inj.1 h
  rfl
 ·obtain rfl:=List.singleton_inj.1 h
  rfl
 ·obtain rfl:=List.singleton_inj.1 h
  rfl):p:=h
theorem ysg(h:p:=by
 intro i y hy j hj
 rcases hinv i y hy with ⟨hi,hy'⟩|⟨_,rfl⟩
 ·have hjl:=hok.ent.1 y (List.mem_iff_getElem?.2 ⟨i,hy'⟩) j hj
  obtain ⟨q1,s2,q2,q3⟩:=h.nest i y hy' j hj
  refine ⟨?_,s2,(hko j hjl).trans q2,q3⟩
  rw [if_neg yue,if_neg yue]
  exact q1
 ·simp at hj):p:=h
theorem ysh(h:p:=by
 have H0:=hid h
 have C0:=hid (Chg.refl (Jo bl) w)
 clear h
 go_enter Tryz.func61,Tryz.ntmps61
 go_wp2_with fail
 refine (zqt H0.out (hE.out.line C0.out hbl) hbl hz hv0).mono ?_
 intro e w9 h9
 obtain ⟨bf,rfl,h8⟩:=Fails.after h9 C0.out
 exact ⟨rfl,bf,rfl,h8⟩):p:=h
theorem ysi(h:p:=by
 rw [List.getElem_append_left hi']
 have l:=h.lhd i hi'
 exact ⟨⟨(hold _ l.b.2).trans l.b.1,h0 _ l.b.2⟩,λg hg=>⟨(hold _ (l.rv g hg).2).trans (l.rv g hg).1,h0 _ (l.rv g hg).2⟩,λht=>⟨(hold _ (l.mb ht).2).trans (l.mb ht).1,h0 _ (l.mb ht).2⟩⟩):p:=h
theorem ysj(h:p:=by
 intro j x hx
 rw [hget] at hx
 cases hy:st.hs[j]? with
 |none=>simp [hy] at hx
 |some y=>exact ⟨y,rfl,by simpa [hy] using hx.symm⟩):p:=h
theorem ysk(h:p:=by
 simp only [Vk,stV,Vg]
 go_enter Tryz.func93,Tryz.ntmps93
 go_wp2
 go_ret
 exact ⟨rfl,(Below.refl _ w).alloc (Nat.le_refl _) _⟩):p:=h
theorem ysl(h:p:=by
 intro j y hy
 by_cases e:j<st.hs.length
 ·left;exact ⟨e,by rw [<-old j e];exact hy⟩
 ·right
  have hj:=(List.getElem?_eq_some_iff.1 hy).1
  obtain rfl:j=st.hs.length:=yue
  rw [new] at hy
  exact ⟨rfl,by simpa using hy.symm⟩):p:=h
theorem ysm(h:p:=by
 have H0:=hid h
 have C0:=hid (Chg.refl (Jo bl) w)
 clear h
 go_enter Tryz.func61,Tryz.ntmps61
 go_wp2_with fail
 refine (zqs H0.out hz hv0).mono ?_
 intro e w9 h9
 obtain ⟨bf,rfl,h8⟩:=Fails.after h9 C0.out
 exact ⟨rfl,bf,rfl,h8⟩):p:=h
theorem ysn(h:p:=by
 simp only [RS.mayStand,h1,decide_true,Vk,stV]
 go_enter Tryz.func89,Tryz.ntmps89
 go_wp2
 go_ret
 exact ⟨rfl,rfl⟩):p:=h
theorem yso(h:p:=by
 cases h1:gPV ws with
 |none=>simp [h1] at h
 |some p=>
  rw [h1] at h
  simp at h
  obtain ⟨rfl,_⟩:=h
  exact ⟨λv hv=>by simp [Qj] at hv;subst hv;exact Ej (y:=p.1) (ws1:=p.2) h1,Ei,λf hf=>by simp [Xg] at hf⟩):p:=h
theorem ysp(h:p:=by
 rcases hrow.2 with ⟨e1,e2⟩|⟨g',cap',cur,e1,_⟩
 ·exact ⟨none,0,by rw [e1,e2]⟩
 ·exact ⟨_,_,e1⟩):p:=h
theorem ysq(h:p:=by
 intro e
 apply (List.nodup_cons.1 nd).1
 rw [Ft] at e
 unfold zbd at e
 cases hg:ps.getLast? with
 |none=>rw [hg] at e;rw [e];simp
 |some y=>rw [hg] at e;rw [e];exact List.mem_cons_of_mem _ (List.mem_of_getLast? hg)):p:=h
theorem ysr(h:p:=by
 cases h1:gPV ws with
 |none=>simp [h1] at h
 |some p=>
  rw [h1] at h
  simp at h
  obtain ⟨rfl,_⟩:=h
  exact ⟨λv hv=>by simp [Qj] at hv;subst hv;exact Sv (y:=p.1) (ws1:=p.2) h1,(by decide:(0:Nat)<12)⟩):p:=h
theorem yss(h:p:=by
 obtain ⟨⟨zs,hz,hJz⟩,hb4⟩:=hq
 refine ⟨⟨k+1,by omega,rfl,⟨ys++[X]++zs,HS.out zs hz,by simpa [List.append_assoc] using hJz⟩,hB.out.trans (hJ3.out.2.trans hb4)⟩,?_⟩
 simp [intOf];omega):p:=h
theorem yst(h:p:=by
 intro k hk
 have e:es.take (k+1)=es.take k++[es[k]]:=by rw [List.take_add_one,List.getElem?_eq_getElem hk];rfl
 rw [e,List.flatMap_append]
 simp only [List.flatMap_cons,List.flatMap_nil,List.append_nil]):p:=h
theorem ysu(h:p:=by
 have:=Qc ho hset (λk hk j e=>by simp [Value.ownBlock] at hk;exact hgc (hk.trans e.1))
 simpa using this):p:=h
theorem ysv(h:p:=by
 have:=Qc ho hset (λk hk j e=>by simp [Value.ownBlock] at hk;exact hgb (hk.trans e.1))
 simpa using this):p:=h
theorem ysw(h:p:=by
 simp only [List.mem_cons,List.not_mem_nil,or_false,forall_eq_or_imp,forall_eq]
 exact ⟨k2,s1,s2,s3⟩):p:=h
theorem ysx(h:p:=by obtain ⟨c,hc⟩:=z7e H.out.out _ e;have:=Qd hc;omega):p:=h
theorem ysy(h:p:=by
 obtain rfl:i=ms.length:=yu9
 rw [List.getElem_append_right (Nat.le_refl _)]
 simp only [Nat.sub_self,List.getElem_cons_zero]
 exact ⟨hb.1,hb.2.1,zrj w,hb.2.2.1,hb.2.2.2⟩):p:=h
theorem ysz(h:p:=by
 by_cases ej:j=k
 ·subst ej
  rw [List.getElem?_set_self hl] at hj
  rw [<-Option.some.inj hj]
  exact hG (h.gd j e hk)
 ·rw [List.getElem?_set_ne (λq=>ej q.symm)] at hj
  exact h.gd j e' hj):p:=h
theorem ys0(h:p:=by
 rcases s with ⟨to,a⟩|⟨to,k,a,c⟩|⟨to,f,a⟩|⟨f,a,c⟩|a|⟨⟩|a|n
 ·simp [Qf] at hh
 ·simp [Qf] at hh
 ·simp [Qf] at hh
 ·simp [Qf] at hh
 ·simp [Qf] at hh
 ·rfl
 ·rfl
 ·rfl):p:=h
theorem ys1(h:p:=by
 simp only [Vk,Vg]
 go_enter Tryz.func93,Tryz.ntmps93
 go_wp2
 go_ret
 exact ⟨rfl,Below.refl _ w⟩):p:=h
theorem ys2(h:p:=by
 simp only [hkT,HK.isAtomic]
 go_enter Tryz.func97,Tryz.ntmps97
 go_wp2
 go_ret
 exact ⟨rfl,rfl⟩):p:=h
theorem ys3(h:p:=by
 intro x hx i hi
 rw [hlen]
 obtain ⟨j,hj⟩:=List.mem_iff_getElem?.1 hx
 rcases hinv j x hj with q|rfl
 ·have:=h.ent.1 x (List.mem_iff_getElem?.2 ⟨j,q⟩) i hi;omega
 ·simp at hi):p:=h
theorem ys4(h:p:=by
 intro g' hg'
 obtain ⟨c',hs⟩:=z7e hc2 g' hg'
 refine ⟨λe=>?_,λe=>?_,λe=>?_⟩
 ·rw [e,hL.sh] at hs;simp at hs
 ·rw [e,hws] at hs;simp at hs
 ·rw [e,hst] at hs;simp at hs):p:=h
theorem ys5(h:p:=by
 intro g hg
 obtain ⟨c,hs⟩:=z7e h.own g hg
 refine ⟨λe=>?_,λe=>?_,λe=>?_⟩
 ·rw [e,hL.sh] at hs;simp at hs
 ·rw [e,hws] at hs;simp at hs
 ·rw [e,hst] at hs;simp at hs):p:=h
theorem ys6(h:p:=by
 rw [<-hTu]
 rcases s with ⟨to,a⟩|⟨to,k,a,c⟩|⟨to,f,a⟩|⟨f,a,c⟩|a|⟨⟩|a|n
 ·rfl
 ·rfl
 ·rfl
 ·rfl
 ·rfl
 ·simp [Qf] at hh
 ·simp [Qf] at hh
 ·simp [Qf] at hh):p:=h
theorem ys7(h:p:=by
 unfold Ef at hg
 rcases us with _|⟨u1,us1⟩
 ·simp only at hg
  split at hg
  ·simp at hg
  ·simp only [Except.ok.injEq] at hg
   rw [<-hg];exact h.newT hok
 ·simp at hg):p:=h
theorem ys8(h:p:=by
 have e:(w.alloc (.cells cs t)).heap[w.heap.size]?=some (.cells cs t):=yvv
 unfold World.shape?
 rw [e]):p:=h
theorem ys9(h:p:=by
 unfold zwb at hg
 rcases us with _|⟨u1,us1⟩
 ·simp only at hg
  split at hg
  ·simp at hg
  ·simp only [Except.ok.injEq] at hg
   rw [<-hg];exact h.pop
 ·simp at hg):p:=h
theorem yta(h:p:=by
 simp only [hkT]
 go_enter Tryz.func129,Tryz.ntmps129
 go_wp2
 go_ret
 exact ⟨rfl,rfl⟩):p:=h
theorem ytb(h:p:=by
 intro k hk
 have hb:=h.bk k hk
 exact hb.keep hall hM (nk _ _ hb.lbk yue yue) (λq hq=>nk _ _ (hb.luv q hq) yue yue) hold rfl rfl rfl):p:=h
theorem ytc(h:p:=by
 rcases hr.2 with ⟨_,e2⟩|⟨g',cap',cur,e1,_⟩
 ·omega
 ·exact ⟨g',cap',e1⟩):p:=h
theorem ytd(h:p:=by exact ⟨0,h,trivial,λe=>by simp [Qf] at e⟩):p:=h
theorem yte(h:p:=by
 obtain ⟨c',hs⟩:=z7e h.own q (by simp [Value.ownBlock,e.1])
 exact .inr (.inr ⟨h.low q (by simp [Value.ownBlock,e.1]),_,c',hs, .inl rfl⟩)):p:=h
theorem ytf(h:p:=by
 try simp only
 rw [if_neg yue,zr9 wt _ y.ents λj hj=>by
  have:=hent i y hy' j hj
  rw [if_neg yue]]
 exact h.w i y hy'):p:=h
theorem ytg(h:p:=by
 have h3': ¬(st.opn.length:Int)<=3:=yue
 go_wp2
 go_ret
 exact ⟨by first|(simp [hem,h3];done)|(simp [hem,h3];omega),B2.out⟩):p:=h
theorem yth(h:p:=by
 cases h3:zbp p2.2 with
 |none=>simp [h1,h2,h3] at h
 |some p3=>
  simp [h1,h2,h3] at h
  obtain ⟨rfl,_⟩:=h
  intro hk;simp at hk):p:=h
theorem yti(h:p:=by
 intro q hq
 obtain ⟨r,hr⟩:=hq
 refine ⟨r++rest,?_⟩
 rw [hrest,hsn,<-hr,List.map_append,List.map_append,hy1]
 simp [hX]):p:=h
theorem ytj(h:p:=by
 cases h2:zbp p1.2 with
 |none=>simp [h1,h2] at h
 |some p2=>
  simp [h1,h2] at h
  obtain ⟨rfl,_⟩:=h
  intro hk;simp at hk):p:=h
theorem ytk(h:p:=by
 obtain ⟨q,hq1,hq2⟩:=hq
 go_ret
 exact .inr ⟨rfl,ys++[X]++q,HP.out q hq1,by simpa [List.append_assoc] using hq2⟩):p:=h
theorem ytl(h:p:=by
 rw [if_neg hb,if_neg hb]
 exact ⟨rfl,rfl⟩):p:=h
theorem ytm(h:p:=by
 rw [h2] at h
 simp only [Option.bind_some] at h
 cases h3:gAt q.2 with
 |none=>simp [h3] at h
 |some r=>simp [h3] at h):p:=h
theorem ytn(h:p:=by
 intro i y hy s2 hs2
 rcases hinv i y hy with ⟨hi,hy'⟩|⟨_,rfl⟩
 ·exact h.leaf i y hy' s2 hs2
 ·simp at hs2):p:=h
theorem yto(h:p:=by
 have hb':(b==0)=false:=by simpa using hb
 go_enter Tryz.func245,Tryz.ntmps245
 go_wp2
 go_ret2
 exact ⟨rfl,rfl⟩):p:=h
theorem ytp(h:p:=by
 simp only [RS.mayStand,h1,decide_true,Vk]
 go_enter Tryz.func89,Tryz.ntmps89
 go_wp2
 go_ret
 exact ⟨rfl,rfl⟩):p:=h
theorem ytq(h:p:=by
 rw [List.countP_eq_zero]
 intro e he
 cases e with
 |inl s=>simp [zb0]
 |inr q=>have:=hz0 q he;simp [zb0];omega):p:=h
theorem ytr(h:p:=by
 rcases h.own.2 with ⟨e1,e2⟩|⟨g',cap',cur,e1,_⟩
 ·simp at e2
 ·exact ⟨g',cap',by simpa using e1⟩):p:=h
theorem yts(h:p:=by
 intro k
 refine ⟨(es.drop k).flatMap λe=>e::sub e,?_⟩
 rw [<-List.flatMap_append,List.take_append_drop]):p:=h
theorem ytt(h:p:=by
 have hc:=z81 b
 unfold z68 at hc⊢
 go_enter Tryz.func245,Tryz.ntmps245
 go_wp2
 go_ret2
 exact ⟨rfl,rfl⟩):p:=h
theorem ytu(h:p:=by
 obtain ⟨⟨ys,hy,hJ2⟩,_⟩:=hJ1
 go_end0
 exact ⟨⟨_,rfl⟩, .inl ⟨ys,hy,by simpa using hJ2⟩⟩):p:=h
theorem ytv(h:p:=by
 go_ret
 exact .inr ⟨rfl,ys++[X]++[],HP.out [] yuf,by simpa [List.append_assoc] using hJx3.out⟩):p:=h
theorem ytw(h:p:=by
 intro k j hk e
 refine ⟨hM k j hk e,λec=>?_⟩
 rcases e with e|e
 ·exact (nc (ec▸e)).elim
 ·omega):p:=h
theorem ytx(h:p:=by
 simp only [Vk,stV,Vg]
 go_enter Tryz.func93,Tryz.ntmps93
 go_wp2
 go_ret
 exact ⟨rfl,Below.refl _ w⟩):p:=h
theorem yty(h:p:=by
 simp only [List.mem_cons,List.not_mem_nil,or_false,forall_eq_or_imp,forall_eq]
 exact ⟨k2,s1,s2⟩):p:=h
theorem ytz(h:p:=by
 try simp only
 rw [if_neg yue]
 have q:=h.leaf i y hy' s2 hs2
 exact ⟨q.nh,q.sz,q.nm,q.of⟩):p:=h
theorem yt0(h:p:=by
 rw [hf] at g1
 have:=hv.1.trans (atKey_of_not_has g1 _)
 have e2:v=z:=by injection this
 subst e2
 rfl):p:=h
theorem yt1(h:p:=by
 rw [List.getElem?_set_ne (λq=>ej q.symm)] at hj
 exact (h.rd j e' hj hc a d hd).goes hg yue):p:=h
theorem yt2(h:p:=by
 simp only [List.mem_cons,List.not_mem_nil,or_false,forall_eq_or_imp,forall_eq]
 exact ⟨k2,s1⟩):p:=h
theorem yt3(h:p:=by
 have h1:=HN.out
 rw [hrest,hsn] at h1
 simp only [List.length_append,List.length_cons] at h1
 omega):p:=h
theorem yt4(h:p:=by
 rw [if_neg e1] at hj
 obtain ⟨q1,s,q2,q3⟩:=h.nest i y hy j hj
 exact ⟨q1,s,hst j s q2,q3⟩):p:=h
theorem yt5(h:p:=by
 rcases hg with e|e
 ·exact λe'=>nr (e'▸e)
 ·omega):p:=h
theorem yt6(h:p:=by
 rcases hg with e|e
 ·exact λe'=>nc (e'▸e)
 ·omega):p:=h
theorem yt7(h:p:=by
 intro j
 unfold RS.hk
 rw [hget]
 cases st.hs[j]?<;>rfl):p:=h
theorem yt8(h:p:=by
 rcases hr.2 with ⟨_,e2⟩|⟨g',cap',cur,e1,_,_,e3,_⟩
 ·omega
 ·exact ⟨g',cap',e1,e3⟩):p:=h
theorem yt9(h:p:=by
 obtain ⟨q,hq,hx2⟩:=hx
 go_end0
 exact ⟨⟨_,rfl⟩, .inr ⟨q,hq,by simpa using hx2⟩⟩):p:=h
theorem yua(h:p:=by
 obtain ⟨c',hs⟩:=z7e hc2 q e
 exact .inr (.inr ⟨h.lowr _ _ hiv q e,_,c',hs, .inr rfl⟩)):p:=h
theorem yub(h:p:=by
 simp only [hkT,Jk]
 go_enter Tryz.func128,Tryz.ntmps128
 go_wp2
 go_ret
 exact ⟨rfl,rfl⟩):p:=h
theorem yuc(h:p:=by
 subst ej
 rw [List.getElem?_set_self hl] at hj
 rw [<-Option.some.inj hj] at hs
 cases hs):p:=h
theorem yud(h:p:=by
 rintro rfl
 rw [x1] at hy
 have:=Option.some.inj hy
 subst this
 rw [x2] at hs0
 cases hs0):p:=h
theorem yue(h:p:=by omega):p:=h
theorem yuf(h:p:=by simp):p:=h
theorem yug(h:p:=by kernel_rfl):p:=h
theorem yuh(h:p:=by decide):p:=h
theorem yui(h:p:=by simp [Jj]):p:=h
theorem yuj(h:p:=by simp;omega):p:=h
theorem yuk(h:p:=by unfold maxLen;omega):p:=h
theorem yul(h:p:=by unfold wrap64;omega):p:=h
theorem yum(h:p:=by rw [IntKind.wrap_i64];omega):p:=h
theorem yun(h:p:=by rw [hp];rfl):p:=h
theorem yuo(h:p:=by rw [ho];simp):p:=h
theorem yup(h:p:=by simpa using hj):p:=h
theorem yuq(h:p:=by show s.g+0<_;omega):p:=h
theorem yur(h:p:=by simp [go_sem]):p:=h
theorem yus(h:p:=by simp [Ck.add]):p:=h
theorem yut(h:p:=by unfold maxLen;decide):p:=h
theorem yuu(h:p:=by rw [z70,yaw];omega):p:=h
theorem yuv(h:p:=by show s.g+1<_;omega):p:=h
theorem yuw(h:p:=by show s.g+2<_;omega):p:=h
theorem yux(h:p:=by show s.g+3<_;omega):p:=h
theorem yuy(h:p:=by simp [Qj]):p:=h
theorem yuz(h:p:=by rw [z7u,z7m]):p:=h
theorem yu0(h:p:=by simpa using hi):p:=h
theorem yu1(h:p:=by simpa [Jq] using hk):p:=h
theorem yu2(h:p:=by rw [z7u,z7m];decide):p:=h
theorem yu3(h:p:=by rw [z70];omega):p:=h
theorem yu4(h:p:=by rw [e];rfl):p:=h
theorem yu5(h:p:=by rw [hp2];rfl):p:=h
theorem yu6(h:p:=by rw [hq2];rfl):p:=h
theorem yu7(h:p:=by rw [hq1];rfl):p:=h
theorem yu8(h:p:=by rw [hp3];rfl):p:=h
theorem yu9(h:p:=by simp at hi;omega):p:=h
theorem yva(h:p:=by simp [RS.newH]):p:=h
theorem yvb(h:p:=by rw [htl];simp):p:=h
theorem yvc(h:p:=by rw [z7u,z7m,b1];exact z0):p:=h
theorem yvd(h:p:=by show s.g+4<_;omega):p:=h
theorem yve(h:p:=by show s.g+5<_;omega):p:=h
theorem yvf(h:p:=by rw [e];simp):p:=h
theorem yvg(h:p:=by simp only [Jb,hj]):p:=h
theorem yvh(h:p:=by rintro ⟨_,_,hF⟩;exact hF):p:=h
theorem yvi(h:p:=by unfold z7o;split<;>exact ⟨_,_,rfl⟩):p:=h
theorem yvj(h:p:=by show l.toArray.size=_;simp):p:=h
theorem yvk(h:p:=by simp only [Qx];omega):p:=h
theorem yvl(h:p:=by rw [l4];simp;omega):p:=h
theorem yvm(h:p:=by rw [<-hY];exact (Below.refl _ W').alloc (Nat.le_refl _) _):p:=h
theorem yvn(h:p:=by rw [<-hY];exact World.cell?_alloc_new _ _ _ 0):p:=h
theorem yvo(h:p:=by have:=h1.1;omega):p:=h
theorem yvp(h:p:=by have:=hA.1;omega):p:=h
theorem yvq(h:p:=by show (1:Nat)≠3/\(1:Nat)≠4/\(1:Nat)≠5;decide):p:=h
theorem yvr(h:p:=by intro h;exact absurd h.1 (by omega)):p:=h
theorem yvs(h:p:=by unfold Qk;simp [hn,hp]):p:=h
theorem yvt(h:p:=by have:=hc1.size;simp at this;omega):p:=h
theorem yvu(h:p:=by rw [Array.length_toList];rfl):p:=h
theorem yvv(h:p:=by show (w.heap.push _)[w.heap.size]?=_;exact Array.getElem?_push_size):p:=h
theorem yvw(h:p:=by rw [<-hk,e.1];exact h.lc):p:=h
theorem yvx(h:p:=by rw [<-hPost];simp [Cx.atomicC,hS1,hB,hall,hs2.2.symm,hgb]):p:=h
theorem yvy(h:p:=by simpa [RS.newT] using hj):p:=h
theorem yvz(h:p:=by have:=C5.out.size;simp at hk;omega):p:=h
theorem yv0(h:p:=by have:=hy.opn.1;rw [hop] at this;simp at this;omega):p:=h
theorem yv1(h:p:=by rw [List.getElem?_eq_getElem hlt] at hp;exact Option.some.inj hp):p:=h
theorem yv2(h:p:=by rw [<-hb.n1];exact (List.getElem?_eq_some_iff.1 hv).1):p:=h
theorem yv3(h:p:=by rw [<-hb.n2];exact (List.getElem?_eq_some_iff.1 hv).1):p:=h
theorem yv4(h:p:=by rw [<-hb.n3];exact (List.getElem?_eq_some_iff.1 hv).1):p:=h
theorem yv5(h:p:=by intro u hu;simp only [List.mem_cons,List.not_mem_nil,or_false] at hu;rcases hu with rfl|rfl<;>rfl):p:=h
theorem yv6(h:p:=by rw [<-h.hs];exact List.mem_map.2 ⟨ms[i],List.getElem_mem hi',rfl⟩):p:=h
theorem yv7(h:p:=by rw [<-htv];exact (World.cell?_alloc_past _ _ _ lb).trans h.c1):p:=h
theorem yv8(h:p:=by rw [<-hW2];exact (Below.refl _ W1).alloc (Nat.le_refl _) _):p:=h
theorem yv9(h:p:=by unfold Lib.parseUintB;rw [if_neg h0];exact h2):p:=h
theorem ywa(h:p:=by have:=h.n9;rw [List.length_append,List.length_singleton];omega):p:=h
theorem ywb(h:p:=by rw [hfold];simp only [Cx.seen,hli];exact HR.out.2.2):p:=h
theorem ywc(h:p:=by show (9:Nat)≠3/\(9:Nat)≠4/\(9:Nat)≠5;decide):p:=h
theorem ywd(h:p:=by rw [show x.qBegin b=z7l (λi _=>[fin (z7p (Nm 0) (x.o+(32+(i:Nat))) (Rg i))]) b.chgs 0 0++x.qBeg b from rfl,List.length_append];rfl):p:=h
end
structure Chg(M:Nat->Nat->Prop)(w w':World):Prop where
 os:w'.os=w.os
 tape:w'.tape=w.tape
 output:w'.output=w.output
 size:w.heap.size<=w'.heap.size
 block: ∀k,k<w.heap.size->(∀i,¬M k i)->w'.heap[k]?=w.heap[k]?
 cell: ∀k i,k<w.heap.size->¬M k i->w'.cell? ⟨k,i,none⟩=w.cell? ⟨k,i,none⟩
 frozen: ∀k i,k<w.heap.size->w'.frozen? ⟨k,i,none⟩=w.frozen? ⟨k,i,none⟩
 shape: ∀k,k<w.heap.size->w'.shape? k=w.shape? k
theorem Chg.refl(M:Nat->Nat->Prop)(w:World):Chg M w w:=⟨rfl,rfl,rfl,Nat.le_refl _,λ_ _ _=>rfl,λ_ _ _ _=>rfl,λ_ _ _=>rfl,λ_ _=>rfl⟩
theorem Chg.trans{b c:World}(h:Chg M a b)(k:Chg M b c):Chg M a c:=
 ⟨k.os.trans h.os,k.tape.trans h.tape,k.output.trans h.output,Nat.le_trans h.size k.size,
  λj hj hm=>(k.block j (Nat.lt_of_lt_of_le hj h.size) hm).trans (h.block j hj hm),
  λj i hj hm=>(k.cell j i (Nat.lt_of_lt_of_le hj h.size) hm).trans (h.cell j i hj hm),
  λj i hj=>(k.frozen j i (Nat.lt_of_lt_of_le hj h.size)).trans (h.frozen j i hj),
  λj hj=>(k.shape j (Nat.lt_of_lt_of_le hj h.size)).trans (h.shape j hj)⟩
theorem Chg.mono{M':Nat->Nat->Prop}(h:Chg M w w')(hm: ∀k i,k<w.heap.size->M k i->M' k i):Chg M' w w':=
 ⟨h.os,h.tape,h.output,h.size,
  λk hk hn=>h.block k hk λi hi=>hn i (hm k i hk hi),
  λk i hk hn=>h.cell k i hk λhi=>hn (hm k i hk hi),
  h.frozen,h.shape⟩
theorem Chg.then{N:Nat->Nat->Prop}{b c:World}(h:Chg M a b)(k:Chg N b c)(hN: ∀j i,j<a.heap.size->N j i->M j i):Chg M a c:=
 ((h.mono (M':=λj i=>M j i\/a.heap.size<=j) (λ_ _ _ hm=> .inl hm)).trans (k.mono (λj i _ hn=>if hj:j<a.heap.size then .inl (hN j i hj hn) else .inr (Nat.le_of_not_lt hj)))).mono
  (λ_ _ hj hm=>hm.elim id (λhm=>absurd hj (Nat.not_lt_of_le hm)))
theorem Chg.drew(h:Chg M a w):Chg M a w.drew:=⟨h.os,h.tape,h.output,h.size,h.block,h.cell,h.frozen,h.shape⟩
theorem Chg.drewN(h:Chg M a w)(n:Nat):Chg M a (w.drewN n):=⟨h.os,h.tape,h.output,h.size,h.block,h.cell,h.frozen,h.shape⟩
theorem Jw(h:w'.heap[k]?=w.heap[k]?):w'.shape? k=w.shape? k:=by simp [World.shape?,h]
theorem Ui(w:World)(a:Addr)(v:Value)(k:Nat):(w.setCell a v).shape? k=w.shape? k:=by
 unfold World.setCell World.shape?
 simp only [Array.getElem?_modify]
 by_cases hk:a.block=k
 ·subst hk
  simp only [if_true]
  cases h:w.heap[a.block]? with
  |none=>simp
  |some o=>cases o<;>simp<;>split<;>simp
 ·simp [hk]
theorem Chg.alloc(h:Chg M a w)(o:Obj):Chg M a (w.alloc o):=by
 refine ⟨h.os,h.tape,h.output,?_,?_,?_,?_,?_⟩
 ·have:=h.size;simp;omega
 ·intro k hk hn;exact (Below.heap_alloc w o k (Nat.lt_of_lt_of_le hk h.size)).trans (h.block k hk hn)
 ·intro k i hk hn;exact (World.cell?_alloc_past o k i (Nat.lt_of_lt_of_le hk h.size)).trans (h.cell k i hk hn)
 ·intro k i hk;exact (World.frozen?_alloc_past o k i (Nat.lt_of_lt_of_le hk h.size)).trans (h.frozen k i hk)
 ·intro k hk;exact (Jw (Below.heap_alloc w o k (Nat.lt_of_lt_of_le hk h.size))).trans (h.shape k hk)
theorem Chg.setCell(h:Chg M a w)(hm:b<a.heap.size->M b o)(v:Value):Chg M a (w.setCell ⟨b,o,none⟩ v):=by
 refine ⟨h.os,h.tape,h.output,?_,?_,?_,?_,?_⟩
 ·have:=h.size;simpa [World.setCell] using this
 ·intro k hk hn
  have hkb:k≠b:=λe=>hn o (e▸hm (e▸hk))
  exact (Below.heap_setCell w ⟨b,o,none⟩ v k hkb).trans (h.block k hk hn)
 ·intro k i hk hn
  have hkb: ¬(k=b/\i=o):=λe=>hn (by rw [e.1,e.2];exact hm (e.1▸hk))
  exact (World.cell?_setCell_other w _ _ v yuj).trans (h.cell k i hk hn)
 ·intro k i hk
  exact (World.frozen?_setCell w _ _ v).trans (h.frozen k i hk)
 ·intro k hk;exact (Ui w _ v k).trans (h.shape k hk)
theorem Chg.of_below(h:Below w.heap.size w w'):Chg M w w':=
 ⟨h.os,h.tape,h.output,h.size,λk hk _=>h.block k hk,λk i hk _=>h.cell (p:=⟨k,i,none⟩) hk,λk i hk=>h.frozen (p:=⟨k,i,none⟩) hk,λk hk=>Jw (h.block k hk)⟩
theorem Chg.below{B:Nat}(h:Chg M w w')(hB:B<=w.heap.size)(hM: ∀k i,M k i->B<=k):Below B w w':=
 ⟨h.os,h.tape,h.output,h.size,λk hk=>h.block k (Nat.lt_of_lt_of_le hk hB) λi hi=>Nat.lt_irrefl _ (Nat.lt_of_lt_of_le hk (hM k i hi))⟩
theorem Qg{u:Value}(h:w.cell? ⟨b,o,none⟩=some u)(e:i=o):(w.setCell ⟨b,o,none⟩ v).cell? ⟨b,i,none⟩=some v:=by
 subst e;exact World.cell?_setCell_same w _ v h
theorem Qb(e:k≠b\/i≠o):(w.setCell ⟨b,o,none⟩ v).cell? ⟨k,i,none⟩=w.cell? ⟨k,i,none⟩:=
 World.cell?_setCell_other w _ _ v yuj
theorem Jq(w:World)(a:Addr)(v:Value):(w.setCell a v).heap.size=w.heap.size:=by simp [World.setCell]
structure RingAt(w:World)(b o:Nat)(x y:Nat->Int)(f c:Nat):Prop where
 lt:b<w.heap.size
 first:f<4
 count:c<=4
 at_: ∀j,j<4->w.cell? ⟨b,o+j*2,none⟩=some (.int .i64 (x j))
 what: ∀j,j<4->w.cell? ⟨b,o+j*2+1,none⟩=some (.int .i64 (y j))
 c8:w.cell? ⟨b,o+8,none⟩=some (.int .i64 f)
 c9:w.cell? ⟨b,o+9,none⟩=some (.int .i64 c)
 free: ∀j,j<10->w.frozen? ⟨b,o+j,none⟩=false
theorem RingAt.chg(h:RingAt w b o x y f c)(hc:Chg M w w')(hM: ∀j,j<10->¬M b (o+j)):RingAt w' b o x y f c:={
 lt:=Nat.lt_of_lt_of_le h.lt hc.size
 first:=h.first
 count:=h.count
 at_:=λj hj=>(hc.cell b _ h.lt (hM _ yue)).trans (h.at_ j hj)
 what:=λj hj=>(hc.cell b _ h.lt (hM (j*2+1) yue)).trans (h.what j hj)
 c8:=(hc.cell b _ h.lt (hM 8 yue)).trans h.c8
 c9:=(hc.cell b _ h.lt (hM 9 yue)).trans h.c9
 free:=λj hj=>(hc.frozen b _ h.lt).trans (h.free j hj)}
def z8b(b o:Nat):Nat->Nat->Prop:=λk i=>k=b/\o<=i/\i<o+10
theorem ye7(b o:Nat)(i f:Int)(w:World)(hf:w.cell? ⟨b,o+8,none⟩=some (.int .i64 f))(h0:0<=f)(h1:f<4)(i0:0<=i)(i1:i<=4):
  Cl 79 #[.pointer (some ⟨b,o,none⟩), .int .i64 i] w λe w'=>e= .returned (.int .i64 ((f+i)%4))/\w'=w:=by
 go_enter Tryz.func79,Tryz.ntmps79
 go_wp2
 go_ret
 exact ⟨rfl,rfl⟩
theorem ye8(b o:Nat)(w:World)(hb:b<w.heap.size)(h9:w.cell? ⟨b,o+9,none⟩=some (.int .i64 0)):
  Cl 51 #[.pointer (some ⟨b,o,none⟩)] w λe w'=>e= .returned (.tuple #[.agg #[.int .i64 0, .int .i64 0], .bool false])/\Below w.heap.size w w':=by
 have hb1:b<w.heap.size+1:=yue
 have hb2:b<w.heap.size+2:=yue
 go_enter Tryz.func51,Tryz.ntmps51
 go_wp2
 exact bodyPost_ret (v:= .tuple #[.agg #[.int .i64 0, .int .i64 0], .bool false]) (by simp [results,Tryz.results51,go_sem]) rfl ⟨rfl,((Below.refl _ _).alloc (Nat.le_refl _) _).alloc yuf _⟩
theorem ye9(h:RingAt w b o x y f c)(hc:1<=c)(o1 o2 o3:Obj):
  RingAt (((((((w.setCell ⟨b,o+f*2,none⟩ (.int .i64 0)).setCell ⟨b,o+f*2+1,none⟩ (.int .i64 0)).setCell ⟨b,o+8,none⟩ (.int .i64 (((f:Int)+1)%4))).setCell ⟨b,o+9,none⟩ (.int .i64 ((c:Int)- 1))).alloc o1).alloc o2).alloc o3).drew.drew
   b o (λj=>if j=f then 0 else x j) (λj=>if j=f then 0 else y j) ((f+1)%4) (c- 1):=by
 have hb:=h.lt
 have hf:=h.first
 have hc4:=h.count
 let u:=(((w.setCell ⟨b,o+f*2,none⟩ (.int .i64 0)).setCell ⟨b,o+f*2+1,none⟩ (.int .i64 0)).setCell ⟨b,o+8,none⟩ (.int .i64 (((f:Int)+1)%4))).setCell ⟨b,o+9,none⟩ (.int .i64 ((c:Int)- 1))
 have hu:RingAt u b o (λj=>if j=f then 0 else x j) (λj=>if j=f then 0 else y j) ((f+1)%4) (c- 1):=by
  refine ⟨by simpa [u,World.setCell] using hb,by omega,by omega,?_,?_,?_,?_,?_⟩
  ·intro j hj
   have e:=h.at_ j hj
   rw [Qb yue,Qb yue,Qb yue]
   by_cases ej:j=f
   ·subst ej;rw [if_pos rfl];exact Qg e rfl
   ·rw [if_neg ej,Qb yue];exact e
  ·intro j hj
   have e:=h.what j hj
   rw [Qb yue,Qb yue]
   by_cases ej:j=f
   ·subst ej;rw [if_pos rfl];exact Qg ((Qb yue).trans e) rfl
   ·rw [if_neg ej,Qb yue,Qb yue];exact e
  ·rw [Qb yue]
   have e:((f:Int)+1)%4=(((f+1)%4:Nat):Int):=yue
   rw [e]
   exact Qg ((Qb yue).trans ((Qb yue).trans h.c8)) rfl
  ·have e:(c:Int)- 1=((c- 1:Nat):Int):=by omega
   show u.cell? _=_
   rw [<-e]
   exact Qg ((Qb yue).trans ((Qb yue).trans ((Qb yue).trans h.c9))) rfl
  ·intro j hj
   simp only [u,World.frozen?_setCell]
   exact h.free j hj
 exact hu.chg (M:=λ_ _=>False) ((((((Chg.refl _ u).alloc o1).alloc o2).alloc o3).drew).drew) (λ_ _ h=>h)
theorem ycb(b o f c:Nat)(x y:Nat->Int)(w:World)(h:RingAt w b o x y f c)(hc:1<=c):
  Cl 51 #[.pointer (some ⟨b,o,none⟩)] w λe w'=>e= .returned (.tuple #[.agg #[.int .i64 (x f), .int .i64 (y f)], .bool true])/\Chg (z8b b o) w w'/\
   RingAt w' b o (λj=>if j=f then 0 else x j) (λj=>if j=f then 0 else y j) ((f+1)%4) (c- 1):=by
 have hb:=h.lt
 have hf:=h.first
 have hc4:=h.count
 have h8:=h.c8
 have h9:=h.c9
 have hx1:=h.at_ f hf
 have hy1:=h.what f hf
 have hz8:=h.free 8 yue
 have hz9:=h.free 9 yue
 have hzx:=h.free (f*2) yue
 have hzy:w.frozen? ⟨b,o+f*2+1,none⟩=false:=h.free (f*2+1) yue
 have hne:((c:Int)==0)=false:=yuj
 have hb1:b<w.heap.size+1:=yue
 have hb2:b<w.heap.size+2:=yue
 have hb3:b<w.heap.size+1+1:=yue
 have hb4:b<w.heap.size+3:=yue
 have hf':(f:Int)<4:=yue
 have HR:Hid (RingAt w b o x y f c):=h
 clear h
 go_enter Tryz.func51,Tryz.ntmps51
 go_wp2
 go_region
 all_goals go_wp2
 all_goals go_region
 all_goals go_wp2
 all_goals
  have h:=HR.out
  refine bodyPost_ret (v:= .tuple #[.agg #[.int .i64 (x f), .int .i64 (y f)], .bool true]) (by simp [results,Tryz.results51,go_sem]) rfl ⟨rfl,?_,?_⟩
  ·refine (((((((((Chg.refl _ w).setCell ?_ _).setCell ?_ _).setCell ?_ _).setCell ?_ _).alloc _).alloc _).alloc _).drew).drew<;>exact λ_=>⟨rfl,by omega,by omega⟩
  ·exact ye9 h hc _ _ _
theorem yax(h:RingAt w b o x y f c)(hc:c<4)(p q:Int):
  RingAt (((w.setCell ⟨b,o+(f+c)%4*2,none⟩ (.int .i64 p)).setCell ⟨b,o+(f+c)%4*2+1,none⟩ (.int .i64 q)).setCell ⟨b,o+9,none⟩ (.int .i64 ((c:Int)+1)))
   b o (λj=>if j=(f+c)%4 then p else x j) (λj=>if j=(f+c)%4 then q else y j) f (c+1):=by
 have hb:=h.lt
 have hf:=h.first
 generalize hg:(f+c)%4=g
 have hg4:g<4:=yue
 refine ⟨by simpa [World.setCell] using hb,hf,by omega,?_,?_,?_,?_,?_⟩
 ·intro j hj
  have e:=h.at_ j hj
  rw [Qb yue,Qb yue]
  by_cases ej:j=g
  ·subst ej;rw [if_pos rfl];exact Qg e rfl
  ·rw [if_neg ej,Qb yue];exact e
 ·intro j hj
  have e:=h.what j hj
  rw [Qb yue]
  by_cases ej:j=g
  ·subst ej;rw [if_pos rfl];exact Qg ((Qb yue).trans e) rfl
  ·rw [if_neg ej,Qb yue,Qb yue];exact e
 ·rw [Qb yue,Qb yue,Qb yue];exact h.c8
 ·have e:(c:Int)+1=((c+1:Nat):Int):=by omega
  rw [<-e]
  exact Qg ((Qb yue).trans ((Qb yue).trans h.c9)) rfl
 ·intro j hj
  simp only [World.frozen?_setCell]
  exact h.free j hj
theorem ydz(b o f c:Nat)(x y:Nat->Int)(p q:Int)(w:World)(h:RingAt w b o x y f c)(hc:c<4):
  Cl 275 #[.pointer (some ⟨b,o,none⟩), .agg #[.int .i64 p, .int .i64 q]] w λe w'=>e= .returned (.tuple #[.agg #[.int .i64 0, .int .i64 0], .bool false])/\Chg (z8b b o) w w'/\
   RingAt w' b o (λj=>if j=(f+c)%4 then p else x j) (λj=>if j=(f+c)%4 then q else y j) f (c+1):=by
 have hb:=h.lt
 have hf:=h.first
 have h8:=h.c8
 have h9:=h.c9
 have hx1:=h.at_ ((f+c)%4) yue
 have hy1:=h.what ((f+c)%4) yue
 have hz9:=h.free 9 yue
 have hzx:=h.free ((f+c)%4*2) yue
 have hzy:w.frozen? ⟨b,o+(f+c)%4*2+1,none⟩=false:=h.free ((f+c)%4*2+1) yue
 have hne:((c:Int)==4)=false:=yuj
 have hb1:b<w.heap.size+1:=yue
 have hb2:b<w.heap.size+2:=yue
 have hb3:b<w.heap.size+1+1:=yue
 have hb4:b<w.heap.size+3:=yue
 have hf':(f:Int)<4:=yue
 have HR:Hid (RingAt w b o x y f c):=h
 clear h
 go_enter Tryz.func275,Tryz.ntmps275
 go_wp2
 go_region_calls
 all_goals go_wp2
 all_goals
  have h:=HR.out
  refine bodyPost_ret (v:= .tuple #[.agg #[.int .i64 0, .int .i64 0], .bool false]) (by simp [results,Tryz.results275,go_sem]) rfl ⟨rfl,?_,?_⟩
  ·refine (((((((Chg.refl _ w).setCell ?_ _).setCell ?_ _).setCell ?_ _).alloc _).alloc _).alloc _).drew<;>exact λ_=>⟨rfl,by omega,by omega⟩
  ·exact (yax h hc p q).chg (M:=λ_ _=>False) (((((Chg.refl _ _).alloc _).alloc _).alloc _).drew) (λ_ _ h=>h)
theorem z96{g k1 k2:Nat}{p q u1 u2 u3 u4:Int}{w1:World}(h:RingAt w1 b o (λj=>if j=f then 0 else x j) (λj=>if j=f then 0 else y j) g 3)(hf:f<4)(hg:g<4)
  (he:((g:Int)+3)%4=f) (h1:b≠k1) (h2:b≠k2) (hgf:g=(f+1)%4):
  RingAt (((((((w1.setCell ⟨k2,0,none⟩ (.int .i64 u1)).setCell ⟨k2,1,none⟩ (.int .i64 u2)).setCell ⟨b,o+f*2,none⟩ (.int .i64 p)).setCell ⟨b,o+f*2+1,none⟩ (.int .i64 q)).setCell ⟨b,o+9,none⟩ (.int .i64 4)).setCell ⟨k1,0,none⟩ (.int .i64 u3)).setCell ⟨k1,1,none⟩ (.int .i64 u4)).drew
   b o (λj=>if j=f then p else x j) (λj=>if j=f then q else y j) ((f+1)%4) 4:=by
 have hu:RingAt ((w1.setCell ⟨k2,0,none⟩ (.int .i64 u1)).setCell ⟨k2,1,none⟩ (.int .i64 u2)) b o (λj=>if j=f then 0 else x j) (λj=>if j=f then 0 else y j) g 3:=
  h.chg (M:=λk _=>k=k2) (((Chg.refl (λk _=>k=k2) w1).setCell (b:=k2) (o:=0) (λ_=>rfl) _).setCell (b:=k2) (o:=1) (λ_=>rfl) _) (λ_ _ e=>h2 e)
 have hp:=yax hu yue p q
 have hn:(g+3)%4=f:=yue
 rw [hn] at hp
 have e1:(λj=>if j=f then p else if j=f then 0 else x j)=(λj=>if j=f then p else x j):=by funext j;split<;>rfl
 have e2:(λj=>if j=f then q else if j=f then 0 else y j)=(λj=>if j=f then q else y j):=by funext j;split<;>rfl
 rw [e1,e2] at hp
 subst hgf
 have e4:(((3:Nat):Int)+1)=4:=rfl
 rw [e4] at hp
 exact hp.chg (M:=λk _=>k=k1) ((((Chg.refl (λk _=>k=k1) _).setCell (b:=k1) (o:=0) (λ_=>rfl) _).setCell (b:=k1) (o:=1) (λ_=>rfl) _).drew) (λ_ _ e=>h1 e)
theorem yd0(b o f:Nat)(x y:Nat->Int)(p q:Int)(w:World)(h:RingAt w b o x y f 4):
  Cl 275 #[.pointer (some ⟨b,o,none⟩), .agg #[.int .i64 p, .int .i64 q]] w λe w'=>e= .returned (.tuple #[.agg #[.int .i64 (x f), .int .i64 (y f)], .bool true])/\Chg (z8b b o) w w'/\
   RingAt w' b o (λj=>if j=f then p else x j) (λj=>if j=f then q else y j) ((f+1)%4) 4:=by
 have hb:=h.lt
 have hf:=h.first
 have h9:=h.c9
 have HR:Hid (RingAt w b o x y f 4):=h
 have hb1:b<w.heap.size+1:=yue
 have hb2:b<w.heap.size+2:=yue
 clear h
 go_enter Tryz.func275,Tryz.ntmps275
 go_wp2_with fail
 refine (ycb b o f 4 x y _ (HR.out.chg (M:=λ_ _=>False) ((((Chg.refl _ w).alloc _).alloc _).alloc _) (λ_ _ h=>h)) yue).mono ?_
 rintro e w1 ⟨rfl,hchg,hr⟩
 have k0: ∀i v,(((w.alloc (.cells #[.int .i64 p, .int .i64 q] 81)).alloc (.cells #[.int .i64 0, .int .i64 0] 81)).alloc (.cells #[.int .i64 0, .int .i64 0] 81)).cell? ⟨w.heap.size,i,none⟩=v->w1.cell? ⟨w.heap.size,i,none⟩=v:=λi v hv=>(hchg.cell _ i yuj yvr).trans hv
 have k1: ∀i v,(((w.alloc (.cells #[.int .i64 p, .int .i64 q] 81)).alloc (.cells #[.int .i64 0, .int .i64 0] 81)).alloc (.cells #[.int .i64 0, .int .i64 0] 81)).cell? ⟨w.heap.size+1,i,none⟩=v->w1.cell? ⟨w.heap.size+1,i,none⟩=v:=λi v hv=>(hchg.cell _ i yuf yvr).trans hv
 have k2: ∀i v,(((w.alloc (.cells #[.int .i64 p, .int .i64 q] 81)).alloc (.cells #[.int .i64 0, .int .i64 0] 81)).alloc (.cells #[.int .i64 0, .int .i64 0] 81)).cell? ⟨w.heap.size+2,i,none⟩=v->w1.cell? ⟨w.heap.size+2,i,none⟩=v:=λi v hv=>(hchg.cell _ i yuf yvr).trans hv
 have a0:=k0 0 (some (.int .i64 p)) yur
 have a1:=k0 1 (some (.int .i64 q)) yur
 have b0:=k1 0 (some (.int .i64 0)) yur
 have b1:=k1 1 (some (.int .i64 0)) yur
 have c0:=k2 0 (some (.int .i64 0)) yur
 have c1:=k2 1 (some (.int .i64 0)) yur
 have z1: ∀i,w1.frozen? ⟨w.heap.size+1,i,none⟩=false:=λi=>(hchg.frozen _ i yuf).trans yur
 have z2: ∀i,w1.frozen? ⟨w.heap.size+2,i,none⟩=false:=λi=>(hchg.frozen _ i yuf).trans yur
 have hs1:w.heap.size+2<w1.heap.size:=by have:=hchg.size;simp at this;omega
 have hs2:w.heap.size+1<w1.heap.size:=yue
 have hs3:w.heap.size<w1.heap.size:=yue
 have HC:Hid (Chg (z8b b o) (((w.alloc (.cells #[.int .i64 p, .int .i64 q] 81)).alloc (.cells #[.int .i64 0, .int .i64 0] 81)).alloc (.cells #[.int .i64 0, .int .i64 0] 81)) w1):=hchg
 clear k0 k1 k2 hchg
 have e3:(f+1)%4<4:=yue
 have hx1:=hr.at_ f hf
 have hy1:=hr.what f hf
 have hz9:=hr.free 9 yue
 have hzx:=hr.free (f*2) yue
 have hzy:w1.frozen? ⟨b,o+f*2+1,none⟩=false:=hr.free (f*2+1) yue
 have h8:=hr.c8
 have h9':=hr.c9
 have HR1:Hid (RingAt w1 b o (λj=>if j=f then 0 else x j) (λj=>if j=f then 0 else y j) ((f+1)%4) 3):=hr
 have hbb:=hr.lt
 clear hr h9
 simp only [if_true] at hx1 hy1
 have he:((((f+1)%4:Nat):Int)+3)%4=(f:Int):=yue
 generalize (f+1)%4=g at*
 go_wp2
 go_region_calls
 all_goals go_wp2
 all_goals
  refine bodyPost_ret (v:= .tuple #[.agg #[.int .i64 (x f), .int .i64 (y f)], .bool true]) (by simp [results,Tryz.results275,go_sem, *]) rfl ⟨rfl,?_,?_⟩
  ·have hc0:Chg (z8b b o) w w1:=((((Chg.refl _ w).alloc _).alloc _).alloc _).trans HC.out
   refine (((((((hc0.setCell ?_ _).setCell ?_ _).setCell ?_ _).setCell ?_ _).setCell ?_ _).setCell ?_ _).setCell ?_ _).drew<;>first|exact λ_=>⟨rfl,by omega,by omega⟩|(intro h;exact absurd h yue)
  ·exact z96 HR1.out yue e3 he yue yue yue
abbrev ptr(b:Nat):Value:= .pointer (some ⟨b,0,none⟩)
abbrev ifc(b:Nat):Value:= .iface 54 (ptr b)
theorem yay(b:Nat)(r v:Int)(w:World)(h0:0<=r)(h1:r<8)(hc:w.cell? ⟨b,2+r.toNat,none⟩=some (.int .i64 v)):
  Cl 271 #[ptr b, .int .i64 r] w λe w'=>e= .returned (.int .i64 v)/\w'=w:=by
 obtain ⟨n,rfl⟩:=Int.eq_ofNat_of_zero_le h0
 simp only [Int.toNat_natCast] at hc
 go_enter Tryz.func271,Tryz.ntmps271
 go_wp2
 go_ret
 exact ⟨rfl,rfl⟩
theorem z9u(b:Nat)(r v:Int)(u:Value)(w:World)(h0:0<=r)(h1:r<8)(hc:w.cell? ⟨b,2+r.toNat,none⟩=some u)(hz:w.frozen? ⟨b,2+r.toNat,none⟩=false):
  Cl 272 #[ptr b, .int .i64 r, .int .i64 v] w λe w'=>e= .returned (.tuple #[])/\w'=w.setCell ⟨b,2+r.toNat,none⟩ (.int .i64 v):=by
 obtain ⟨n,rfl⟩:=Int.eq_ofNat_of_zero_le h0
 simp only [Int.toNat_natCast] at hc hz⊢
 go_enter Tryz.func272,Tryz.ntmps272
 go_wp2
 go_end0
 exact ⟨rfl,rfl⟩
theorem ycc(b:Nat)(p:Int)(u:Value)(w:World)(hc:w.cell? ⟨b,10,none⟩=some u)(hz:w.frozen? ⟨b,10,none⟩=false):
  Cl 269 #[ptr b, .int .i64 p] w λe w'=>e= .returned (.tuple #[])/\w'=w.setCell ⟨b,10,none⟩ (.int .i64 p):=by
 go_enter Tryz.func269,Tryz.ntmps269
 go_wp2
 go_end0
 exact ⟨rfl,rfl⟩
theorem z9c(b:Nat)(s:Int)(u:Value)(w:World)(hc:w.cell? ⟨b,22,none⟩=some u)(hz:w.frozen? ⟨b,22,none⟩=false):
  Cl 267 #[ptr b, .int .i64 s] w λe w'=>e= .returned (.tuple #[])/\w'=w.setCell ⟨b,22,none⟩ (.int .i64 s):=by
 go_enter Tryz.func267,Tryz.ntmps267
 go_wp2
 go_end0
 exact ⟨rfl,rfl⟩
theorem yd1(b:Nat)(s:Int)(w:World)(hc:w.cell? ⟨b,22,none⟩=some (.int .i64 s)):
  Cl 27 #[ptr b] w λe w'=>e= .returned (.int .i64 s)/\w'=w:=by
 go_enter Tryz.func27,Tryz.ntmps27
 go_wp2
 go_ret
 exact ⟨rfl,rfl⟩
theorem ybk(b bm:Nat)(a v:Int)(u:Value)(w:World)(h0:0<=a)(h1:a<256)(hp:w.cell? ⟨b,0,none⟩=some (ptr bm))(hc:w.cell? ⟨bm,a.toNat,none⟩=some u)(hz:w.frozen? ⟨bm,a.toNat,none⟩=false):
  Cl 52 #[ptr b, .int .i64 a, .int .i64 v] w λe w'=>e= .returned (.tuple #[])/\w'=w.setCell ⟨bm,a.toNat,none⟩ (.int .i64 v):=by
 obtain ⟨n,rfl⟩:=Int.eq_ofNat_of_zero_le h0
 simp only [Int.toNat_natCast] at hc hz⊢
 have hp':w.cell? ⟨b,0,none⟩=some (.pointer (some ⟨bm,0,none⟩)):=hp
 go_enter Tryz.func52,Tryz.ntmps52
 go_wp2
 go_end0
 exact ⟨rfl,by simp⟩
theorem z8f(b:Nat)(r v:Int)(w:World)(h0:0<=r)(h1:r<8)(hc:w.cell? ⟨b,2+r.toNat,none⟩=some (.int .i64 v)):
  Cl 243 #[.int .i64 r,ifc b] w λe w'=>e= .returned (.int .i64 v)/\w'=w:=by
 go_enter Tryz.func243,Tryz.ntmps243
 go_wp2_with fail
 refine (yay b r v _ h0 h1 hc).mono ?_
 rintro e w' ⟨rfl,rfl⟩
 go_wp2
 go_ret
 exact ⟨rfl,rfl⟩
theorem z8g(x:Value)(v:Int)(w:World):
  Cl 261 #[.int .i64 v,x] w λe w'=>e= .returned (.int .i64 v)/\w'=w:=by
 go_enter Tryz.func261,Tryz.ntmps261
 go_wp2
 go_ret
 exact ⟨rfl,rfl⟩
theorem z79(b:Nat)(r v:Int)(u:Value)(w:World)(h0:0<=r)(h1:r<8)(hc:w.cell? ⟨b,2+r.toNat,none⟩=some u)(hz:w.frozen? ⟨b,2+r.toNat,none⟩=false):
  Cl 246 #[.int .i64 r,ifc b, .int .i64 v] w λe w'=>e= .returned (.tuple #[])/\w'=w.setCell ⟨b,2+r.toNat,none⟩ (.int .i64 v):=by
 go_enter Tryz.func246,Tryz.ntmps246
 go_wp2_with fail
 refine (z9u b r v u _ h0 h1 hc hz).mono ?_
 rintro e w' ⟨rfl,rfl⟩
 go_wp2
 go_end0
 exact ⟨rfl,rfl⟩
end Go.Proofs.YtkenoofmkbghiaaGreatDoor
