import Derived.Test.YtphcopbffecceaaGreatDoorProg
import Derived.WalkKit
import Derived.WalkSpells
import Derived.Deep.Quiet
import Derived.Deep.RegionWith
namespace Go.Proofs.YtphcopbffecceaaGreatDoor
open Go.RowKit
variable{a c w w':World}{M:Nat->Nat->Prop}{v:Value}{b i k o:Nat}
theorem blt{p:Addr}(h:w.cell? p=some v):p.block<w.heap.size:=World.block_lt_of_cell? _ _ h
abbrev Cl(f:FuncId)(a:Array Value)(w:World)(Q:Ending->World->Prop):Prop:=Calls Tryz.prog f a w Q
section
variable{p:Prop}
theorem z7e(h:p:=by
 have hlt':(i:Int)<(d.opn.length:Int):=yai
 have hi0:(0:Int)<=(i:Int):=yai
 obtain ⟨a,ha⟩: ∃a,d.opn[i]?=some a:=⟨_,List.getElem?_eq_getElem hlti⟩
 obtain ⟨go,gn,cn,kk,rfl,rfl,q2,q1,q3⟩:=hJ.oc i a ha
 have hal:(a:Int)<(N.length:Int):=by have:=(List.getElem?_eq_some_iff.1 q2).1;omega
 have ha0:(0:Int)<=(a:Int):=yai
 have HS:=hid (Fv d N i a kk ha q2)
 clear hJ ha q2
 obtain ⟨kk1,kk2⟩:=kk
 dsimp only at q3
 cases hin:Xx d N i with
 |true=>
  go_wp2_with fail
  go_region
  all_goals
   go_wp2
   go_roundw
   case rel=>exact ⟨i+1,by omega,by go_num,by rw [HS.out,hin];rfl,hid (HB.out.trans (Qi _ _))⟩
   case measure=>simp [intOf];omega
 |false=>
  go_wp2_with fail
  go_region
  all_goals
   go_wp2
   go_roundw
   case rel=>exact ⟨i+1,by omega,by go_num,by rw [HS.out,hin];simp;exact zix kk1 40,hid (HB.out.trans (Qi _ _))⟩
   case measure=>simp [intOf];omega):p:=h
theorem z7f(h:p:=by (try dsimp only);exact ⟨(Qb (.inl HNT.out.1.symm)).trans HS9.out.1,(Qb (.inl HNT.out.2.1.symm)).trans HS9.out.2.1,(Qb (.inl HNT.out.2.2.symm)).trans HS9.out.2.2.1,(Qb (.inl HNT.out.2.2.symm)).trans HS9.out.2.2.2.1,(Qb (.inl HNT.out.2.2.symm)).trans HS9.out.2.2.2.2.1,(Qb (.inl HNT.out.2.2.symm)).trans HS9.out.2.2.2.2.2.1,(Qb (.inl HNT.out.2.2.symm)).trans HS9.out.2.2.2.2.2.2.1,(Qb (.inl HNT.out.2.2.symm)).trans HS9.out.2.2.2.2.2.2.2.1,(Qb (.inl HNT.out.2.2.symm)).trans HS9.out.2.2.2.2.2.2.2.2.1,(Qb (.inl HNT.out.2.2.symm)).trans HS9.out.2.2.2.2.2.2.2.2.2.1,(Qb (.inl HNT.out.2.2.symm)).trans HS9.out.2.2.2.2.2.2.2.2.2.2.1,(Qb (.inl HNT.out.2.2.symm)).trans HS9.out.2.2.2.2.2.2.2.2.2.2.2.1,(Qb (.inl HNT.out.2.2.symm)).trans HS9.out.2.2.2.2.2.2.2.2.2.2.2.2.1,(Qb (.inl HNT.out.2.2.symm)).trans HS9.out.2.2.2.2.2.2.2.2.2.2.2.2.2.1,(Qb (.inl HNT.out.2.2.symm)).trans HS9.out.2.2.2.2.2.2.2.2.2.2.2.2.2.2.1,(Qb (.inl HNT.out.2.2.symm)).trans HS9.out.2.2.2.2.2.2.2.2.2.2.2.2.2.2.2⟩):p:=h
theorem z7g(h:p:=by
 go_wp2_with fail
 generalize hW5:World.alloc (World.setCell (World.setCell W3 ⟨w.heap.size+1,3,none⟩ (.bool al)) ⟨w.heap.size+1,4,none⟩ (.int .i64 av)) (.cells #[.bool al, .int .i64 av] 75)=W5 at H5⊢
 clear hW5
 have r0:=H5.out.mach.c0
 have r1:=H5.out.mach.p3
 have lr0:m.br<W5.heap.size:=blt r0
 obtain ⟨gq,cq,eq,_⟩:=Za H5.out.mach.prow HT.out.1
 rw [eq,HT.out.2.2] at r1
 have PQ:Hid (gq≠m.br/\gq≠m.bp):=hid (by
  have hq:=H5.out.mach.lq gq (by rw [eq];rfl)
  exact ⟨λe=>(by have:=hq.1;rw [e,H5.out.mach.lb.1] at this;cases this),λe=>(by have:=hq.1;rw [e,H5.out.mach.lp.1] at this;cases this)⟩)
 have hprow:=H5.out.mach.prow
 rw [eq,HT.out.2.2] at hprow
 have r2:=Qm hprow T yai
 obtain ⟨bq,hbq⟩: ∃b,W5.cell? ⟨gq,T,none⟩=some b:=Sz hprow T yai
 have fq:=r2.2.1
 clear r2
 have lq5:gq<W5.heap.size:=blt hbq
 have H6:Hid (∃qs,NodeS D w (W5.setCell ⟨gq,T,none⟩ (.bool true)).drew lab {m with ps:=qs} d _):=hid (H5.out.put eq HT.out.2.2 hprow)
 clear hprow
 refine wp_region_held_drew (S:=(λw'=>w'.cell? ⟨m.br,0,none⟩=some (ptr m.bp)/\w'.cell? ⟨m.bp,3,none⟩=some (.slice (some ⟨gq,0,none⟩) (T+1) cq))) yak ?_ (λhHeld=>?_)
 ·(try dsimp only);exact ⟨r0,r1⟩
 refine Qa 0 (h:=Qa 1 (h:=Qa 2 (h:=Qa 3 (h:=Qa 4 (h:=Qa 5 (h:=Qa 6 (h:=Qa 7 (h:=Qa 8 (h:=Qa 9 (h:=Qa 10 (h:=Qa 11 (h:=Qa 12 (h:=Qa 13 (h:=Qa 14 (h:=Qa 15 (h:=Qa 16 (h:=?_)))))))))))))))))
 refine tr [17] (.cons rfl (λKQ hKQ=>?_) .nil)
 go_simp
 refine hKQ.out _ _ ?_ (λhHeld=>?_)
 ·(try dsimp only);exact ⟨(Qb (.inl PQ.out.1.symm)).trans hHeld.1,(Qb (.inl PQ.out.2.symm)).trans hHeld.2⟩
 clear hKQ KQ
 refine wpAnyH_done yak ?_ _
 obtain ⟨qs,h7⟩:=H6.out
 have H7:=hid h7
 clear h7 H6 r0 r1 hbq fq hHeld
 generalize (W5.setCell ⟨gq,T,none⟩ (.bool true)).drew=W7 at H7⊢
 obtain ⟨x0,x1,x2,x3,x4,x5,x6,x7,x8,x9,x10,x11,x12,x13⟩:=H7.out.s.x.all
 obtain ⟨y0,y1,y2,y3,y4,y5,y6,y7,y8,y9,y10,y11,y12,y13⟩:=H7.out.s.r.all
 have fx:=H7.out.s.x.f
 have fy:=H7.out.s.r.f
 have lx:=H7.out.s.x.lt
 have ly:=H7.out.s.r.lt
 dsimp only [xz] at x0 x1 x2 x3 x4 x5 x6 x7 x8 x9 x10 x11 x12 x13 y0 y1 y2 y3 y4 y5 y6 y7 y8 y9 y10 y11 y12 y13
 go_wp2
 exact Zi H7.out.s (Below.refl _ _) rfl rfl rfl rfl rfl rfl rfl):p:=h
theorem z7h(h:p:=by
 obtain ⟨k,hk,rfl,rfl,rfl⟩:=hrel
 by_cases hlt:k<(s.size- 1)
 ·have hlt':(k:Int)<((s.size- 1):Nat):=by omega
  have hlt2:k<(s.extract 1 s.size).size:=ya1
  have hq:=hd.out k hlt2
  have q1: ¬((s.extract 1 s.size)[k].toNat:Int)<48:=yai
  have q2: ¬(57:Int)<((s.extract 1 s.size)[k].toNat:Int):=yai
  have hs:=zba (s.extract 1 s.size) k hlt2
  have hwd:=zee (zgx (s.extract 1 s.size) k) (((s.extract 1 s.size)[k].toNat:Int)- 48)
  rw [<-hs] at hwd
  have HS:=hid hs
  clear hs
  go_wp2
  go_roundw
  case rel=>exact ⟨k+1,by omega,by go_num,by rw [hwd],trivial⟩
  case measure=>simp [intOf];omega
 ·have hlt': ¬(k:Int)<((s.size- 1):Nat):=by omega
  obtain rfl:k=(s.size- 1):=yai
  go_wp2
  go_ret2
  exact ⟨rfl,rfl⟩):p:=h
theorem z7j(h:p:=by
 obtain ⟨k,hk,rfl,hB⟩:=hrel
 by_cases hlt:k<6
 ·have hlt':(k:Int)<6:=by omega
  have C1:=hid (KC.out k wr hlt)
  have C2:=hid (KN.out k wr hlt)
  have hs: ∃b,[b0,b1,b2,b3,b4,b5][k]?=some b:=⟨_,List.getElem?_eq_getElem hlt⟩
  obtain ⟨b,hb⟩:=hs
  have hix:=z54 wr k hlt hb
  have hw1:wrap64 ((k:Int)+1)=((k+1:Nat):Int):=yao
  rw [hb] at C1 C2
  clear KC KN
  cases b with
  |true=>
   have D1:=hid (C1.out rfl hB.out)
   clear C1 C2
   go_wp2_with fail
   refine D1.out.mono ?_
   rintro e w1 ⟨rfl,h1⟩
   have H1:=hid h1
   clear h1 D1
   go_wp2
   go_roundw
   case rel=>exact ⟨k+1,by omega,by go_num,H1⟩
   case measure=>simp [intOf];omega
  |false=>
   have H1:=hid (C2.out rfl hB.out)
   clear C1 C2
   go_wp2
   go_roundw
   case rel=>exact ⟨k+1,by omega,by go_num,H1⟩
   case measure=>simp [intOf];omega
 ·have hlt': ¬(k:Int)<6:=by omega
  have hk6:k=6:=yai
  rw [hk6] at hB
  go_wp2
  go_end0
  exact ⟨rfl,hB.out⟩):p:=h
theorem z7k(h:p:=by
 simp only [stV,Ue]
 go_enter Tryz.func94,Tryz.ntmps94
 go_wp2
 go_ret
 exact ⟨rfl,by first|exact Below.refl _ _|exact (Below.refl _ w).alloc (Nat.le_refl _) _|exact ((Below.refl _ w).alloc (Nat.le_refl _) _).setCell (Nat.le_refl _) _⟩):p:=h
theorem z7l(h:p:=by
 obtain ⟨k,v,hk,rfl,rfl,rfl⟩:=hrel
 have hlt:k<(s.size- 1):=yai
 have hlt':(k:Int)<((s.size- 1):Nat):=yai
 have hlt2:k<(s.extract 1 s.size).size:=yai
 by_cases hkk:k<k0
 ·have hq:=hd.out k hlt2 hkk
  have q1: ¬((s.extract 1 s.size)[k].toNat:Int)<48:=yai
  have q2: ¬(57:Int)<((s.extract 1 s.size)[k].toNat:Int):=yai
  go_wp2
  go_roundw
  case rel=>exact ⟨k+1,_,by omega,by go_num,rfl,trivial⟩
  case measure=>simp [intOf];omega
 ·obtain rfl:k=k0:=by omega
  rcases hbad with hb|hb
  ·have q1:((s.extract 1 s.size)[k].toNat:Int)<48:=by omega
   go_wp2
   go_ret2
   exact ⟨rfl,rfl⟩
  ·have q1: ¬((s.extract 1 s.size)[k].toNat:Int)<48:=by omega
   have q2:(57:Int)<((s.extract 1 s.size)[k].toNat:Int):=yai
   go_wp2
   go_ret2
   exact ⟨rfl,rfl⟩):p:=h
theorem z7m(h:p:=by
 go_enter Tryz.func29,Tryz.ntmps29
 go_wp2_with fail
 refine (Ve H.out hlen).mono ?_
 rintro e w1 ⟨rfl,h1,c1⟩
 have H1:=hid h1
 have C1:=hid c1
 clear h1 c1 H
 go_wp2_with fail
 refine (K.out w1 H1.out C1.out).mono ?_
 rintro e w2 ⟨rfl,h2,c2⟩
 have H2:=hid h2
 have C2:=hid ((C1.out.mono (M':=λk _=>D k) (λk i _ e=>e.1▸hDl)).trans c2)
 clear h2 c2
 go_wp2
 go_end0
 exact ⟨rfl,H2.out,C2.out⟩):p:=h
theorem z7o(h:p:=by
 obtain ⟨k,hk,rfl,rfl,rfl⟩:=hrel
 by_cases hlt:k<t.size
 ·have hlt':(k:Int)<(t.size:Int):=by omega
  have hq:=hd.out k hlt
  have q1: ¬(t[k].toNat:Int)<48:=yai
  have q2: ¬(57:Int)<(t[k].toNat:Int):=yai
  have hs:=zed t k hlt
  have hwd:=zgy (Xi (t.data.toList.take k)) ((t[k].toNat:Int)- 48)
  rw [<-hs] at hwd
  have HS:=hid hs
  clear hs
  go_wp2
  go_roundw
  case rel=>exact ⟨k+1,by omega,by go_num,by rw [hwd],trivial⟩
  case measure=>simp [intOf];omega
 ·have hlt': ¬(k:Int)<(t.size:Int):=by omega
  obtain rfl:k=t.size:=yai
  have hall:t.data.toList.take t.size=t.data.toList:=List.take_of_length_le ycz
  rw [hall]
  go_wp2
  go_ret2
  exact ⟨rfl,rfl⟩):p:=h
theorem z7p(h:p:=by
 obtain ⟨k,v,hk,rfl,rfl,rfl⟩:=hrel
 have hlt:k<t.size:=yai
 have hlt':(k:Int)<(t.size:Int):=yai
 by_cases hkk:k<k0
 ·have hq:=hd.out k hlt hkk
  have q1: ¬(t[k].toNat:Int)<48:=yai
  have q2: ¬(57:Int)<(t[k].toNat:Int):=yai
  go_wp2
  go_roundw
  case rel=>exact ⟨k+1,_,by omega,by go_num,rfl,trivial⟩
  case measure=>simp [intOf];omega
 ·obtain rfl:k=k0:=by omega
  rcases hbad with hb|hb
  ·have q1:(t[k].toNat:Int)<48:=by omega
   go_wp2
   go_ret2
   exact ⟨rfl,rfl⟩
  ·have q1: ¬(t[k].toNat:Int)<48:=by omega
   have q2:(57:Int)<(t[k].toNat:Int):=yai
   go_wp2
   go_ret2
   exact ⟨rfl,rfl⟩):p:=h
theorem z7q(h:p:=by
 go_enter Tryz.func29,Tryz.ntmps29
 go_wp2_with fail
 refine (Ve H.out hlen).mono ?_
 rintro e w1 ⟨rfl,h1,c1⟩
 have H1:=hid h1
 have C1:=hid c1
 clear h1 c1 H
 go_wp2_with fail
 refine (K.out w1 H1.out C1.out).mono ?_
 intro e w2 h2
 obtain ⟨bf,rfl,h4⟩:=Fails.after h2 C1.out
 exact ⟨rfl,bf,rfl,h4⟩):p:=h
theorem z7r(h:p:=by
 intro k hk
 rcases hrow.2 with ⟨_,e2⟩|⟨g',cap',cur,e1,_,_,e3,_⟩
 ·omega
 ·obtain ⟨rfl,rfl⟩:ra=some ⟨g',0,none⟩/\rk=cap':=by simpa using e1
  obtain ⟨q1,_,_⟩:=Qm hrow k hk
  refine ⟨g',rfl,e3,(hrow.lt g' rfl).2,?_⟩
  rw [q1,List.getElem?_map,List.getElem?_eq_getElem hk]
  rfl):p:=h
theorem z7s(h:p:=by
 obtain ⟨k,hk,rfl,rfl⟩:=hrel
 have hlt:k<u.size:=yai
 have hlt':(k:Int)<(u.size:Int):=yai
 by_cases hkn:k<k0
 ·obtain ⟨d1,d2⟩:=hd.out k hlt hkn
  have q1: ¬(u[k].toNat:Int)<97:=yai
  have q2: ¬(122:Int)<(u[k].toNat:Int):=yai
  go_wp2
  go_roundw
  case rel=>exact ⟨k+1,by omega,by go_num,trivial⟩
  case measure=>simp [intOf];omega
 ·obtain rfl:k=k0:=by omega
  by_cases q1:(u[k].toNat:Int)<97
  ·go_wp2
   go_ret
   exact ⟨rfl,rfl⟩
  ·have q2:(122:Int)<(u[k].toNat:Int):=by omega
   go_wp2
   go_ret
   exact ⟨rfl,rfl⟩):p:=h
theorem z7u(h:p:=by
 simp only [hkT]
 go_enter Tryz.func94,Tryz.ntmps94
 go_wp2
 go_ret
 exact ⟨rfl,by first|exact Below.refl _ _|exact (Below.refl _ w).alloc (Nat.le_refl _) _|exact ((Below.refl _ w).alloc (Nat.le_refl _) _).setCell (Nat.le_refl _) _⟩):p:=h
theorem z7v(h:p:=by
 rcases h.orow.2 with ⟨e1,e2⟩|⟨g',cap',cur,e1,_⟩
 ·exact ⟨none,0,by rw [e1,e2]⟩
 ·exact ⟨_,_,e1⟩):p:=h
theorem z7w(h:p:=by
 rw [h3] at hc5
 dsimp only [XV.cells]
 go_wp2
 go_ret
 have hst: ¬d.stmts=14:=yai
 unfold zbg
 dsimp only
 rw [if_neg hst,if_pos h3]
 exact ⟨(HC.out.setCell (λ_=>hb1▸HM.out.lb.2) _).alloc _,rfl⟩):p:=h
theorem z7x(h:p:=by
 obtain ⟨k',hk',_⟩:=hF.eachK ([b0,b1,b2,b3,b4,b5].take i) 0 s k hk
 have hg:=hF.eachG ([b0,b1,b2,b3,b4,b5].take i) 0 s
 rw [zc3 hb] at hg
 have:i*G<=6*G:=Nat.mul_le_mul_right _ yai
 refine (KC i wr _ k' hi hc hk' yai).mono ?_
 rintro e w' ⟨he,h'⟩
 refine ⟨he,?_⟩
 show Cw W x K w' c (Qn f ([b0,b1,b2,b3,b4,b5].take (i+1)) 0 s)
 rw [Fl f hb]
 exact h'):p:=h
theorem z7y(h:p:=by
 have her:er=e':=hr
 subst her
 have hne: ¬er=0:=HR0.out er rfl
 dsimp only [XV.cells]
 go_wp2
 go_ret
 exact ⟨HC.out.alloc _,rfl⟩):p:=h
theorem z7z(h:p:=by
 subst h14
 dsimp only [XV.cells]
 go_wp2
 go_ret
 have hst:d.stmts=14:=yai
 unfold zbg
 dsimp only
 rw [if_pos hst]
 exact ⟨(HC.out.setCell (λ_=>HM.out.lb.2|>(hb1▸·)) _).alloc _,rfl⟩):p:=h
theorem z71(h:p:=by
 simp only [stV]
 go_enter Tryz.func118,Tryz.ntmps118
 go_wp2
 go_ret
 exact ⟨rfl,rfl⟩):p:=h
theorem z72(h:p:=by
 simp only [stV]
 go_enter Tryz.func117,Tryz.ntmps117
 go_wp2
 go_ret
 exact ⟨rfl,rfl⟩):p:=h
theorem z73(h:p:=by
 show (Qn (λi s=>s.add [Qh,y0,x.own (12+(i:Nat)),y0]) s.bk.gets 0 _).blk=_
 refine (Zl (λi=>[Qh,y0,x.own (12+(i:Nat)),y0]) _ _ _).trans ?_
 refine (Zl (λi=>[Qh,y0,x.own (6+(i:Nat)),y0]) _ _ _).trans ?_
 refine (Zl (λi=>[Qw,Zy (i:Nat),y0,x.own (32+(i:Nat))]) s.bk.chgs 0 _).trans ?_
 show some _=some _
 rw [Sq hk]):p:=h
theorem z74(h:p:=by
 simp only [stV]
 go_enter Tryz.func91,Tryz.ntmps91
 go_wp2
 go_ret
 exact ⟨rfl,rfl⟩):p:=h
theorem z75(h:p:=by (try dsimp only);exact ⟨(Qb (.inr (by omega))).trans HS5.out.1,(Qb (.inl HNB.out.1.symm)).trans HS5.out.2.1,(Qb (.inl HNB.out.2)).trans HS5.out.2.2⟩):p:=h
theorem z76(h:p:=by
 rcases s with ⟨to,a⟩|⟨to,k,a,c⟩|⟨to,f,a⟩|⟨f,a,c⟩|a|⟨⟩|a|n
 ·simp [zb3] at h
 ·simp [zb3] at h
 ·simp [zb3] at h
 ·simp [zb3] at h
 ·simp [zb3] at h
 ·obtain rfl:=List.singleton_inj.1 h
  rfl
 ·obtain rfl:=List.singleton_inj.1 h
  rfl
 ·obtain rfl:=List.singleton_inj.1 h
  rfl):p:=h
theorem z77(h:p:=by
 have:=Qc ho hset (λk hk j e=>by simp [Value.ownBlock] at hk;exact hgb (hk.trans e.1))
 simpa using this):p:=h
theorem z78(h:p:=by
 intro i y hy j hj
 rcases hinv i y hy with ⟨hi,hy'⟩|⟨_,rfl⟩
 ·have hjl:=hok.ent.1 y (List.mem_iff_getElem?.2 ⟨i,hy'⟩) j hj
  obtain ⟨q1,s2,q2,q3⟩:=h.nest i y hy' j hj
  refine ⟨?_,s2,(hko j hjl).trans q2,q3⟩
  rw [if_neg yai,if_neg yai]
  exact q1
 ·simp at hj):p:=h
theorem z79(h:p:=by
 have hlt':(k:Int)<(u.size:Int):=yai
 obtain ⟨d1,d2⟩:=hd.out k hlt
 have q1: ¬(u[k].toNat:Int)<97:=yai
 have q2: ¬(122:Int)<(u[k].toNat:Int):=yai
 go_wp2
 go_roundw
 case rel=>exact ⟨k+1,by omega,by go_num,trivial⟩
 case measure=>simp [intOf];omega):p:=h
theorem z8a(h:p:=by
 have H0:=hid h
 have C0:=hid (Chg.refl (Jo bl) w)
 clear h
 go_enter Tryz.func57,Tryz.ntmps57
 go_wp2_with fail
 refine (zqt H0.out (hE.out.line C0.out hbl) hbl hz hv0).mono ?_
 intro e w9 h9
 obtain ⟨bf,rfl,h8⟩:=Fails.after h9 C0.out
 exact ⟨rfl,bf,rfl,h8⟩):p:=h
theorem z8b(h:p:=by
 rw [List.getElem_append_left hi']
 have l:=h.lhd i hi'
 exact ⟨⟨(hold _ l.b.2).trans l.b.1,h0 _ l.b.2⟩,λg hg=>⟨(hold _ (l.rv g hg).2).trans (l.rv g hg).1,h0 _ (l.rv g hg).2⟩,λht=>⟨(hold _ (l.mb ht).2).trans (l.mb ht).1,h0 _ (l.mb ht).2⟩⟩):p:=h
theorem z8c(h:p:=by
 intro j x hx
 rw [hget] at hx
 cases hy:st.hs[j]? with
 |none=>simp [hy] at hx
 |some y=>exact ⟨y,rfl,by simpa [hy] using hx.symm⟩):p:=h
theorem z8d(h:p:=by
 simp only [Vk,stV,Vg]
 go_enter Tryz.func87,Tryz.ntmps87
 go_wp2
 go_ret
 exact ⟨rfl,(Below.refl _ w).alloc (Nat.le_refl _) _⟩):p:=h
theorem z8e(h:p:=by
 cases hv
 have hlt:=(Array.getElem?_eq_some_iff.1 hg).1
 refine .inr ⟨g,cap,cur.setIfInBounds j u,rfl,hb,?_,hn,hm,by simpa using hs,?_⟩
 ·rw [World.setCell];simp only [Array.getElem?_modify,hg];simp
 ·rw [<-ht];simp [List.take_set]):p:=h
theorem z8f(h:p:=by
 intro j y hy
 by_cases e:j<st.hs.length
 ·left;exact ⟨e,by rw [<-old j e];exact hy⟩
 ·right
  have hj:=(List.getElem?_eq_some_iff.1 hy).1
  obtain rfl:j=st.hs.length:=yai
  rw [new] at hy
  exact ⟨rfl,by simpa using hy.symm⟩):p:=h
theorem z8g(h:p:=by
 have H0:=hid h
 have C0:=hid (Chg.refl (Jo bl) w)
 clear h
 go_enter Tryz.func57,Tryz.ntmps57
 go_wp2_with fail
 refine (zqs H0.out hz hv0).mono ?_
 intro e w9 h9
 obtain ⟨bf,rfl,h8⟩:=Fails.after h9 C0.out
 exact ⟨rfl,bf,rfl,h8⟩):p:=h
theorem z8h(h:p:=by
 have h2:(y.ents.map (wE st.hs 3)).sum<=(y.ents.map (wtE wt)).sum:=by
  have ih:=z0w h 3
  generalize y.ents=es
  induction es with
  |nil=>simp
  |cons e r ih2=>
   have:=ih e
   simp only [List.map_cons,List.sum_cons]
   omega
 omega):p:=h
theorem z8i(h:p:=by
 have h1:d1.thr.length=tl.length+1:=hly.len
 rw [HT1.out] at h1
 have:=HTL.out
 omega):p:=h
theorem z8j(h:p:=by (try dsimp only);exact ⟨r0,r1,x0,x1,x2,x3,x4,x5,x6,x7,x8,x9,x10,x11,x12,x13⟩):p:=h
theorem z8k(h:p:=by
 simp only [RS.mayStand,h1,decide_true,Vk,stV]
 go_enter Tryz.func83,Tryz.ntmps83
 go_wp2
 go_ret
 exact ⟨rfl,rfl⟩):p:=h
theorem z8l(h:p:=by
 rcases h.trow.2 with ⟨e1,e2⟩|⟨g',cap',cur,e1,_⟩
 ·exact ⟨none,0,by rw [e1,e2]⟩
 ·exact ⟨_,_,e1⟩):p:=h
theorem z8m(h:p:=by
 rcases hly.row.2 with ⟨q1,q2⟩|⟨g,cap,cur,q1,_⟩
 ·exact ⟨none,0,by rw [q1,q2]⟩
 ·exact ⟨_,_,q1⟩):p:=h
theorem z8n(h:p:=by
 cases h1:gPV ws with
 |none=>simp [h1] at h
 |some p=>
  rw [h1] at h
  simp at h
  obtain ⟨rfl,_⟩:=h
  exact ⟨λv hv=>by simp [Qj] at hv;subst hv;exact Ej (y:=p.1) (ws1:=p.2) h1,Ei,λf hf=>by simp [Xg] at hf⟩):p:=h
theorem z8o(h:p:=by
 rcases hrow.2 with ⟨e1,e2⟩|⟨g',cap',cur,e1,_⟩
 ·exact ⟨none,0,by rw [e1,e2]⟩
 ·exact ⟨_,_,e1⟩):p:=h
theorem z8p(h:p:=by
 intro e
 apply (List.nodup_cons.1 nd).1
 rw [Ft] at e
 unfold zbd at e
 cases hg:ps.getLast? with
 |none=>rw [hg] at e;rw [e];simp
 |some y=>rw [hg] at e;rw [e];exact List.mem_cons_of_mem _ (List.mem_of_getLast? hg)):p:=h
theorem z8q(h:p:=by
 cases h1:gPV ws with
 |none=>simp [h1] at h
 |some p=>
  rw [h1] at h
  simp at h
  obtain ⟨rfl,_⟩:=h
  exact ⟨λv hv=>by simp [Qj] at hv;subst hv;exact Sv (y:=p.1) (ws1:=p.2) h1,(by decide:(0:Nat)<12)⟩):p:=h
theorem z8r(h:p:=by
 rcases ho5.2 with ⟨q1,q2⟩|⟨g,cap,cur,q1,_⟩
 ·exact ⟨none,0,by rw [q1,q2]⟩
 ·exact ⟨_,_,q1⟩):p:=h
theorem z8s(h:p:=by
 obtain ⟨⟨zs,hz,hJz⟩,hb4⟩:=hq
 refine ⟨⟨k+1,by omega,rfl,⟨ys++[X]++zs,HS.out zs hz,by simpa [List.append_assoc] using hJz⟩,hB.out.trans (hJ3.out.2.trans hb4)⟩,?_⟩
 simp [intOf];omega):p:=h
theorem z8t(h:p:=by
 intro k hk
 have e:es.take (k+1)=es.take k++[es[k]]:=by rw [List.take_add_one,List.getElem?_eq_getElem hk];rfl
 rw [e,List.flatMap_append]
 simp only [List.flatMap_cons,List.flatMap_nil,List.append_nil]):p:=h
theorem z8u(h:p:=by
 have:=Qc ho hset (λk hk j e=>by simp [Value.ownBlock] at hk;exact hgc (hk.trans e.1))
 simpa using this):p:=h
theorem z8v(h:p:=by
 go_enter Tryz.func19,Tryz.ntmps19
 go_wp2_with fail
 refine K1.out.mono ?_
 rintro e w1 ⟨rfl,rfl⟩
 go_wp2_with fail
 refine K2.out.mono ?_
 rintro e w1 ⟨rfl,rfl⟩
 go_wp2
 go_ret
 exact ⟨rfl,rfl⟩):p:=h
theorem z8w(h:p:=by
 simp only [List.mem_cons,List.not_mem_nil,or_false,forall_eq_or_imp,forall_eq]
 exact ⟨k2,s1,s2,s3⟩):p:=h
theorem z8x(h:p:=by
 intro l
 induction l with
 |nil=>intro _;rfl
 |cons e r ih=>
  intro hl
  simp only [List.map_cons,List.sum_cons]
  rw [zy7 f e (hl e yaj),ih λe' he'=>hl e' (List.mem_cons_of_mem _ he')]
  rfl):p:=h
theorem z8y(h:p:=by
 obtain rfl:i=ms.length:=ybj
 rw [List.getElem_append_right (Nat.le_refl _)]
 simp only [Nat.sub_self,List.getElem_cons_zero]
 exact ⟨hb.1,hb.2.1,zrj w,hb.2.2.1,hb.2.2.2⟩):p:=h
theorem z8z(h:p:=by
 rcases s with ⟨to,a⟩|⟨to,k,a,c⟩|⟨to,f,a⟩|⟨f,a,c⟩|a|⟨⟩|a|n
 ·simp [Qf] at hh
 ·simp [Qf] at hh
 ·simp [Qf] at hh
 ·simp [Qf] at hh
 ·simp [Qf] at hh
 ·rfl
 ·rfl
 ·rfl):p:=h
theorem z80(h:p:=by
 simp only [Vk,Vg]
 go_enter Tryz.func87,Tryz.ntmps87
 go_wp2
 go_ret
 exact ⟨rfl,Below.refl _ w⟩):p:=h
theorem z81(h:p:=by
 simp only [hkT,HK.isAtomic]
 go_enter Tryz.func91,Tryz.ntmps91
 go_wp2
 go_ret
 exact ⟨rfl,rfl⟩):p:=h
theorem z82(h:p:=by
 go_wp2
 exact Zi H2.out.s ((Below.refl _ _).alloc (Nat.le_refl _) _) rfl rfl rfl rfl rfl rfl rfl):p:=h
theorem z83(h:p:=by
 intro x hx i hi
 rw [hlen]
 obtain ⟨j,hj⟩:=List.mem_iff_getElem?.1 hx
 rcases hinv j x hj with q|rfl
 ·have:=h.ent.1 x (List.mem_iff_getElem?.2 ⟨j,q⟩) i hi;omega
 ·simp at hi):p:=h
theorem z84(h:p:=by
 rcases List.eq_nil_or_concat m.ts with e|⟨tl,t,e⟩
 ·rw [e] at hlen;exact absurd (List.length_eq_zero_iff.1 hlen.symm) hne
 ·exact ⟨tl,t,by rw [e,List.concat_eq_append]⟩):p:=h
theorem z85(h:p:=by
 rw [<-hTu]
 rcases s with ⟨to,a⟩|⟨to,k,a,c⟩|⟨to,f,a⟩|⟨f,a,c⟩|a|⟨⟩|a|n
 ·rfl
 ·rfl
 ·rfl
 ·rfl
 ·rfl
 ·simp [Qf] at hh
 ·simp [Qf] at hh
 ·simp [Qf] at hh):p:=h
theorem z86(h:p:=by
 unfold Ef at hg
 rcases us with _|⟨u1,us1⟩
 ·simp only at hg
  split at hg
  ·simp at hg
  ·simp only [Except.ok.injEq] at hg
   rw [<-hg];exact h.newT hok
 ·simp at hg):p:=h
theorem z87(h:p:=by
 have e:(w.alloc (.cells cs t)).heap[w.heap.size]?=some (.cells cs t):=yct
 unfold World.shape?
 rw [e]):p:=h
theorem z88(h:p:=by
 unfold zwb at hg
 rcases us with _|⟨u1,us1⟩
 ·simp only at hg
  split at hg
  ·simp at hg
  ·simp only [Except.ok.injEq] at hg
   rw [<-hg];exact h.pop
 ·simp at hg):p:=h
theorem z89(h:p:=by
 simp only [hkT]
 go_enter Tryz.func118,Tryz.ntmps118
 go_wp2
 go_ret
 exact ⟨rfl,rfl⟩):p:=h
theorem z9a(h:p:=by
 intro k hk
 have hb:=h.bk k hk
 exact hb.keep hall hM (nk _ _ hb.lbk yai yai) (λq hq=>nk _ _ (hb.luv q hq) yai yai) hold rfl rfl rfl):p:=h
theorem z9b(h:p:=by
 rcases hr.2 with ⟨_,e2⟩|⟨g',cap',cur,e1,_⟩
 ·omega
 ·exact ⟨g',cap',e1⟩):p:=h
theorem z9c(h:p:=by exact ⟨0,h,trivial,λe=>by simp [Qf] at e⟩):p:=h
theorem z9d(h:p:=by
 have h1:d1.thr.length=tl0.length+1:=hly.len
 rw [HT1.out] at h1
 have:=HTL.out
 omega):p:=h
theorem z9e(h:p:=by
 try simp only
 rw [if_neg yai,zr9 wt _ y.ents λj hj=>by
  have:=hent i y hy' j hj
  rw [if_neg yai]]
 exact h.w i y hy'):p:=h
theorem z9f(h:p:=by
 intro j hj
 have hj':j<L.length:=ya4
 obtain ⟨q1,_,_⟩:=Qm h.own j hj'
 rw [q1]
 simp [List.getElem?_eq_getElem hj']):p:=h
theorem z9g(h:p:=by
 have h3': ¬(st.opn.length:Int)<=3:=yai
 go_wp2
 go_ret
 exact ⟨by first|(simp [hem,h3];done)|(simp [hem,h3];omega),B2.out⟩):p:=h
theorem z9h(h:p:=by
 go_wp2
 exact Zi H2.out.s ((Below.refl _ _).alloc (Nat.le_refl _) _) ⟨rfl,lab,m,rfl,rfl,H2.out.mach⟩ rfl rfl rfl rfl rfl rfl):p:=h
theorem z9i(h:p:=by
 obtain ⟨k,k1,k2⟩:=l2 b hb
 exact ⟨k,by rw [List.getElem?_append_left (List.getElem?_eq_some_iff.1 k1).1];exact k1,k2⟩):p:=h
theorem z9j(h:p:=by
 intro q hq
 obtain ⟨r,hr⟩:=hq
 refine ⟨r++rest,?_⟩
 rw [hrest,hsn,<-hr,List.map_append,List.map_append,hy1]
 simp [hX]):p:=h
theorem z9k(h:p:=by
 have:=hnod.len
 exact ⟨_,List.getElem?_eq_getElem yai⟩):p:=h
theorem z9l(h:p:=by
 rw [Ju] at hs
 by_cases a:Vo v=true
 ·by_cases b:isAt x=true
  ·simp [a,b] at h
  ·simp [a,b,Vt] at hs
 ·simp [a] at hs):p:=h
theorem z9m(h:p:=by
 obtain ⟨q,hq1,hq2⟩:=hq
 go_ret
 exact .inr ⟨rfl,ys++[X]++q,HP.out q hq1,by simpa [List.append_assoc] using hq2⟩):p:=h
theorem z9n(h:p:=by
 rw [h2] at h
 simp only [Option.bind_some] at h
 cases h3:gAt q.2 with
 |none=>simp [h3] at h
 |some r=>simp [h3] at h):p:=h
theorem z9o(h:p:=by
 intro i y hy s2 hs2
 rcases hinv i y hy with ⟨hi,hy'⟩|⟨_,rfl⟩
 ·exact h.leaf i y hy' s2 hs2
 ·simp at hs2):p:=h
theorem z9p(h:p:=by
 simp only [RS.mayStand,h1,decide_true,Vk]
 go_enter Tryz.func83,Tryz.ntmps83
 go_wp2
 go_ret
 exact ⟨rfl,rfl⟩):p:=h
theorem z9q(h:p:=by
 rw [List.countP_eq_zero]
 intro e he
 cases e with
 |inl s=>simp [zb0]
 |inr q=>have:=hz0 q he;simp [zb0];omega):p:=h
theorem z9r(h:p:=by
 intro k
 refine ⟨(es.drop k).flatMap λe=>e::sub e,?_⟩
 rw [<-List.flatMap_append,List.take_append_drop]):p:=h
theorem z9s(h:p:=by
 have e:=h.thr
 rw [hts] at e
 have:d.thr.getLast?=some t.N:=by rw [<-e];simp
 rw [this] at hN
 simpa using hN):p:=h
theorem z9t(h:p:=by
 rcases h.2 with ⟨q1,q2⟩|⟨g,cap,cur,q1,_⟩
 ·exact ⟨none,0,by rw [q1,q2]⟩
 ·exact ⟨_,_,q1⟩):p:=h
theorem z9u(h:p:=by
 obtain ⟨⟨ys,hy,hJ2⟩,_⟩:=hJ1
 go_end0
 exact ⟨⟨_,rfl⟩, .inl ⟨ys,hy,by simpa using hJ2⟩⟩):p:=h
theorem z9v(h:p:=by
 go_ret
 exact .inr ⟨rfl,ys++[X]++[],HP.out [] yaj,by simpa [List.append_assoc] using hJx3.out⟩):p:=h
theorem z9w(h:p:=by
 intro k j hk e
 refine ⟨hM k j hk e,λec=>?_⟩
 rcases e with e|e
 ·exact (nc (ec▸e)).elim
 ·omega):p:=h
theorem z9x(h:p:=by
 unfold Vu zlf
 simp only [Qj,Xg,Vg,List.all_cons,List.all_nil,zbf d.locals hb,Bool.and_true,zcw]
 simp):p:=h
theorem z9y(h:p:=by
 simp only [Vk,stV,Vg]
 go_enter Tryz.func87,Tryz.ntmps87
 go_wp2
 go_ret
 exact ⟨rfl,Below.refl _ w⟩):p:=h
theorem z9z(h:p:=by
 simp only [List.mem_cons,List.not_mem_nil,or_false,forall_eq_or_imp,forall_eq]
 exact ⟨k2,s1,s2⟩):p:=h
theorem z90(h:p:=by
 try simp only
 rw [if_neg yai]
 have q:=h.leaf i y hy' s2 hs2
 exact ⟨q.nh,q.sz,q.nm,q.of⟩):p:=h
theorem z91(h:p:=by
 rw [hf] at g1
 have:=hv.1.trans (atKey_of_not_has g1 _)
 have e2:v=z:=by injection this
 subst e2
 rfl):p:=h
theorem z92(h:p:=by
 simp only [List.mem_cons,List.not_mem_nil,or_false,forall_eq_or_imp,forall_eq]
 exact ⟨k2,s1⟩):p:=h
theorem z93(h:p:=by
 have h1:=HN.out
 rw [hrest,hsn] at h1
 simp only [List.length_append,List.length_cons] at h1
 omega):p:=h
theorem z94(h:p:=by
 rw [if_neg e1] at hj
 obtain ⟨q1,s,q2,q3⟩:=h.nest i y hy j hj
 exact ⟨q1,s,hst j s q2,q3⟩):p:=h
theorem z95(h:p:=by
 rcases hg with e|e
 ·exact λe'=>nr (e'▸e)
 ·omega):p:=h
theorem z96(h:p:=by
 rcases hg with e|e
 ·exact λe'=>nc (e'▸e)
 ·omega):p:=h
theorem z97(h:p:=by
 intro j
 unfold RS.hk
 rw [hget]
 cases st.hs[j]?<;>rfl):p:=h
theorem z98(h:p:=by
 go_wp2
 exact Zi H8.out.s ((Below.refl _ _).alloc (Nat.le_refl _) _) rfl rfl rfl rfl rfl rfl rfl):p:=h
theorem z99(h:p:=by
 exfalso
 unfold Jr at hb
 simp [nshared,nthread,nend,natomic,nset,nget,nput,nout,nif,nloop] at hb):p:=h
theorem yaa(h:p:=by
 rcases hr.2 with ⟨_,e2⟩|⟨g',cap',cur,e1,_,_,e3,_⟩
 ·omega
 ·exact ⟨g',cap',e1,e3⟩):p:=h
theorem yab(h:p:=by
 obtain ⟨q,hq,hx2⟩:=hx
 go_end0
 exact ⟨⟨_,rfl⟩, .inr ⟨q,hq,by simpa using hx2⟩⟩):p:=h
theorem yac(h:p:=by
 rw [if_pos a,Option.bind_some,Vt,if_pos b,Option.bind_some,zcu,if_neg e] at hs
 simp at hs):p:=h
theorem yad(h:p:=by
 rw [if_pos a,Option.bind_some,Ju,if_pos b,Option.bind_some,zcu,if_neg e] at hs
 simp at hs):p:=h
theorem yae(h:p:=by
 simp only [hkT,Jk]
 go_enter Tryz.func117,Tryz.ntmps117
 go_wp2
 go_ret
 exact ⟨rfl,rfl⟩):p:=h
theorem yaf(h:p:=by
 intro j hj
 rw [<-hB,World.cell?_alloc_past _ _ _ yai,<-hA]
 exact zer W2 Xy 9 j hj):p:=h
theorem yag(h:p:=by
 unfold zay at hm
 simp only [Bool.or_eq_false_iff,decide_eq_false_iff_not] at hm
 omega):p:=h
theorem yah(h:p:=by
 rintro rfl
 rw [x1] at hy
 have:=Option.some.inj hy
 subst this
 rw [x2] at hs0
 cases hs0):p:=h
theorem yai(h:p:=by omega):p:=h
theorem yaj(h:p:=by simp):p:=h
theorem yak(h:p:=by kernel_rfl):p:=h
theorem yal(h:p:=by decide):p:=h
theorem yam(h:p:=by simp [Jj]):p:=h
theorem yan(h:p:=by simp;omega):p:=h
theorem yao(h:p:=by unfold wrap64;omega):p:=h
theorem yap(h:p:=by unfold maxLen;omega):p:=h
theorem yaq(h:p:=by assumption):p:=h
theorem yar(h:p:=by rw [IntKind.wrap_i64];omega):p:=h
theorem yas(h:p:=by rw [ho];simp):p:=h
theorem yat(h:p:=by rw [hp];rfl):p:=h
theorem yau(h:p:=by simp [Qj]):p:=h
theorem yav(h:p:=by show s.g+0<_;omega):p:=h
theorem yaw(h:p:=by unfold maxLen;decide):p:=h
theorem yax(h:p:=by simp [Value.oneCell']):p:=h
theorem yay(h:p:=by rw [HS.out];simp):p:=h
theorem yaz(h:p:=by rw [HST.out,if_neg (by rw [HS.out];simp),HS.out]):p:=h
theorem ya0(h:p:=by show s.g+1<_;omega):p:=h
theorem ya1(h:p:=by rw [ByteArray.size_extract];omega):p:=h
theorem ya2(h:p:=by simp [Vn,Qz,Qr,h0]):p:=h
theorem ya3(h:p:=by simp [d0]):p:=h
theorem ya4(h:p:=by simpa using hj):p:=h
theorem ya5(h:p:=by show s.g+2<_;omega):p:=h
theorem ya6(h:p:=by show s.g+3<_;omega):p:=h
theorem ya7(h:p:=by have:=hk.l;omega):p:=h
theorem ya8(h:p:=by show w.heap.size+1<_;omega):p:=h
theorem ya9(h:p:=by simpa [Jq] using hk):p:=h
theorem yba(h:p:=by rw [hly.tv];rfl):p:=h
theorem ybb(h:p:=by rw [HS.out]):p:=h
theorem ybc(h:p:=by rw [hc];rfl):p:=h
theorem ybd(h:p:=by simp [Vn,Qz,Qr,h0,h1]):p:=h
theorem ybe(h:p:=by show w.heap.size<=w.heap.size+1;omega):p:=h
theorem ybf(h:p:=by rw [hp2];rfl):p:=h
theorem ybg(h:p:=by rw [hq2];rfl):p:=h
theorem ybh(h:p:=by rw [hq1];rfl):p:=h
theorem ybi(h:p:=by rw [hp3];rfl):p:=h
theorem ybj(h:p:=by simp at hi;omega):p:=h
theorem ybk(h:p:=by simpa using hi):p:=h
theorem ybl(h:p:=by rw [e];simp):p:=h
theorem ybm(h:p:=by simp [RS.newH]):p:=h
theorem ybn(h:p:=by rw [htl];simp):p:=h
theorem ybo(h:p:=by rw [hts];simp):p:=h
theorem ybp(h:p:=by rw [E.nv];rfl):p:=h
theorem ybq(h:p:=by rcases hL with e|e<;>omega):p:=h
theorem ybr(h:p:=by simp [Slot.more]):p:=h
theorem ybs(h:p:=by rw [<-e];rfl):p:=h
theorem ybt(h:p:=by simp [Qz,HVX.out]):p:=h
theorem ybu(h:p:=by simpa using hb):p:=h
theorem ybv(h:p:=by show l.toArray.size=_;simp):p:=h
theorem ybw(h:p:=by show s.g+4<_;omega):p:=h
theorem ybx(h:p:=by show s.g+5<_;omega):p:=h
theorem yby(h:p:=by simp only [Jb,hj]):p:=h
theorem ybz(h:p:=by rw [Array.length_toList];rfl):p:=h
theorem yb0(h:p:=by rintro ⟨_,_,hF⟩;exact hF):p:=h
theorem yb1(h:p:=by simp [kdO,Ue]):p:=h
theorem yb2(h:p:=by simpa using h):p:=h
theorem yb3(h:p:=by rw [<-hlen,hts];simp):p:=h
theorem yb4(h:p:=by have:=HB.out.size;omega):p:=h
theorem yb5(h:p:=by rw [<-hA];simp):p:=h
theorem yb6(h:p:=by show w.heap.size<_;omega):p:=h
theorem yb7(h:p:=by simp [Vn,Qz,Qr,h0,h1,h2]):p:=h
theorem yb8(h:p:=by simp only [Qx];omega):p:=h
theorem yb9(h:p:=by rw [<-hY];exact (Below.refl _ W').alloc (Nat.le_refl _) _):p:=h
theorem yca(h:p:=by rw [<-hY];exact World.cell?_alloc_new _ _ _ 0):p:=h
theorem ycb(h:p:=by rw [Array.length_toList];exact h):p:=h
theorem ycc(h:p:=by rw [hq0];decide):p:=h
theorem ycd(h:p:=by simpa using Int.ofNat.inj e):p:=h
theorem yce(h:p:=by simpa using h19):p:=h
theorem ycf(h:p:=by rw [hT];exact hb):p:=h
theorem ycg(h:p:=by intro e;rw [e] at hN;simp at hN):p:=h
theorem ych(h:p:=by rw [hb1];exact (Qg hc6 rfl).trans (by rw [<-hsi];rfl)):p:=h
theorem yci(h:p:=by rw [show ({d1 with stmts:=d.stmts+1}:DR).thr=d.thr from HT1.out];exact HN.out):p:=h
theorem ycj(h:p:=by simp at hk;exact ⟨HD.out k (by omega),by omega⟩):p:=h
theorem yck(h:p:=by rw [hly.ts];simp):p:=h
theorem ycl(h:p:=by simp [XV.cells,Value.oneCell']):p:=h
theorem ycm(h:p:=by have:=HNL.out;unfold maxLen;omega):p:=h
theorem ycn(h:p:=by have:=HNL.out;omega):p:=h
theorem yco(h:p:=by have:=h.siz;omega):p:=h
theorem ycp(h:p:=by simp [Qz,HNA.out,HNB.out]):p:=h
theorem ycq(h:p:=by simp [Qz,HNA.out,HNB.out,hlo,hhi]):p:=h
theorem ycr(h:p:=by unfold Qk;simp [hn,hp]):p:=h
theorem ycs(h:p:=by simp [ByteArray.getElem_eq_getElem_data]):p:=h
theorem yct(h:p:=by show (w.heap.push _)[w.heap.size]?=_;exact Array.getElem?_push_size):p:=h
theorem ycu(h:p:=by rw [<-hk,e.1];exact h.lc):p:=h
theorem ycv(h:p:=by rw [<-hPost];simp [Cx.atomicC,hS1,hB,hall,hs2.2.symm,hgb]):p:=h
theorem ycw(h:p:=by simpa [RS.newT] using hj):p:=h
theorem ycx(h:p:=by have:=C5.out.size;simp at hk;omega):p:=h
theorem ycy(h:p:=by have:=hy.opn.1;rw [hop] at this;simp at this;omega):p:=h
theorem ycz(h:p:=by rw [Array.length_toList];exact Nat.le_refl _):p:=h
theorem yc0(h:p:=by simpa [Value.ownBlock] using e):p:=h
theorem yc1(h:p:=by rw [Array.length_toList];show 0+s.size<=2000;omega):p:=h
theorem yc2(h:p:=by rw [<-E.ov];exact h.c5):p:=h
theorem yc3(h:p:=by rw [<-E.tv];exact h.p0):p:=h
theorem yc4(h:p:=by rw [Jq] at hq;exact hq):p:=h
theorem yc5(h:p:=by rw [E.ts] at hlen;simp at hlen;omega):p:=h
theorem yc6(h:p:=by have e1:=hly.nt.1;rw [hb1] at e1;exact ⟨λe=>(by have:=hm4.lb.1;rw [hb1,e,<-hb2,hm4.lp.1] at this;cases this),e1⟩):p:=h
theorem yc7(h:p:=by have:=hm4.lb.1;rw [hb1,e,<-hb2,hm4.lp.1] at this;cases this):p:=h
theorem yc8(h:p:=by rw [<-hov];exact hm4.lo):p:=h
theorem yc9(h:p:=by rw [show ({d1 with stmts:=d.stmts+1,opn:=d.opn++[N.length]}:DR).thr=d.thr from HT1.out];exact HN.out):p:=h
theorem yda(h:p:=by have:=hly.nt;rw [hb1',hb2'] at this;exact this):p:=h
theorem ydb(h:p:=by have:=HM.out.free 5;rw [hb1] at this;exact this):p:=h
theorem ydc(h:p:=by rw [<-hB,<-hA];exact ((Below.refl _ w).alloc (Nat.le_refl _) _).alloc (by simp) _):p:=h
theorem ydd(h:p:=by rw [<-hB,<-sA];exact DIAt.new WA (Qr u) 88):p:=h
theorem yde(h:p:=by rw [<-hB];exact (by rw [<-hA];exact DIAt.new w (Qr ⟨#[]⟩) 88:DIAt WA w.heap.size (Qr ⟨#[]⟩)).below ((Below.refl WA.heap.size WA).alloc (Nat.le_refl _) _) (by omega)):p:=h
theorem ydf(h:p:=by intro j;rw [<-hB,World.frozen?_alloc_past _ _ _ (by omega),<-hA];simp):p:=h
theorem ydg(h:p:=by rw [<-hb.n1];exact (List.getElem?_eq_some_iff.1 hv).1):p:=h
theorem ydh(h:p:=by rw [<-hb.n2];exact (List.getElem?_eq_some_iff.1 hv).1):p:=h
theorem ydi(h:p:=by rw [<-hb.n3];exact (List.getElem?_eq_some_iff.1 hv).1):p:=h
theorem ydj(h:p:=by intro u hu;simp only [List.mem_cons,List.not_mem_nil,or_false] at hu;rcases hu with rfl|rfl<;>rfl):p:=h
theorem ydk(h:p:=by rw [<-h.hs];exact List.mem_map.2 ⟨ms[i],List.getElem_mem hi',rfl⟩):p:=h
theorem ydl(h:p:=by rw [<-htv];exact (World.cell?_alloc_past _ _ _ lb).trans h.c1):p:=h
theorem ydm(h:p:=by rw [<-hW2];exact (Below.refl _ W1).alloc (Nat.le_refl _) _):p:=h
theorem ydn(h:p:=by rw [hfold];simp only [Cx.seen,hli];exact HR.out.2.2):p:=h
theorem ydo(h:p:=by unfold Lib.parseUintB;rw [if_neg h0];exact h2):p:=h
theorem ydp(h:p:=by intro b hb;simp at hb;rcases hb with rfl|rfl|rfl|rfl|rfl|rfl|rfl|rfl|rfl|rfl|rfl|rfl|rfl|rfl|rfl|rfl|rfl|rfl|rfl<;>decide):p:=h
theorem ydq(h:p:=by rw [<-hs];exact Xa (by simp) hd hn48 (by omega)):p:=h
theorem ydr(h:p:=by rw [Array.length_toList];show s.size+1<=s.size+2;omega):p:=h
theorem yds(h:p:=by rw [<-hB,<-hA];exact ((Below.refl _ W2).alloc (Nat.le_refl _) _).alloc (by simp) _):p:=h
theorem ydt(h:p:=by have:=congrArg List.length h2;simp at this;omega):p:=h
theorem ydu(h:p:=by have:=h.n9;rw [List.length_append,List.length_singleton];omega):p:=h
end
structure Chg(M:Nat->Nat->Prop)(w w':World):Prop where
 os:w'.os=w.os
 tape:w'.tape=w.tape
 output:w'.output=w.output
 size:w.heap.size<=w'.heap.size
 block: ∀k,k<w.heap.size->(∀i,¬M k i)->w'.heap[k]?=w.heap[k]?
 cell: ∀k i,k<w.heap.size->¬M k i->w'.cell? ⟨k,i,none⟩=w.cell? ⟨k,i,none⟩
 frozen: ∀k i,k<w.heap.size->w'.frozen? ⟨k,i,none⟩=w.frozen? ⟨k,i,none⟩
 shape: ∀k,k<w.heap.size->w'.shape? k=w.shape? k
theorem Chg.refl(M:Nat->Nat->Prop)(w:World):Chg M w w:=⟨rfl,rfl,rfl,Nat.le_refl _,λ_ _ _=>rfl,λ_ _ _ _=>rfl,λ_ _ _=>rfl,λ_ _=>rfl⟩
theorem Chg.trans{b:World}(h:Chg M a b)(k:Chg M b c):Chg M a c:=
 ⟨k.os.trans h.os,k.tape.trans h.tape,k.output.trans h.output,Nat.le_trans h.size k.size,
  λj hj hm=>(k.block j (Nat.lt_of_lt_of_le hj h.size) hm).trans (h.block j hj hm),
  λj i hj hm=>(k.cell j i (Nat.lt_of_lt_of_le hj h.size) hm).trans (h.cell j i hj hm),
  λj i hj=>(k.frozen j i (Nat.lt_of_lt_of_le hj h.size)).trans (h.frozen j i hj),
  λj hj=>(k.shape j (Nat.lt_of_lt_of_le hj h.size)).trans (h.shape j hj)⟩
theorem Chg.mono{M':Nat->Nat->Prop}(h:Chg M w w')(hm: ∀k i,k<w.heap.size->M k i->M' k i):Chg M' w w':=
 ⟨h.os,h.tape,h.output,h.size,
  λk hk hn=>h.block k hk λi hi=>hn i (hm k i hk hi),
  λk i hk hn=>h.cell k i hk λhi=>hn (hm k i hk hi),
  h.frozen,h.shape⟩
theorem Chg.then{N:Nat->Nat->Prop}{b:World}(h:Chg M a b)(k:Chg N b c)(hN: ∀j i,j<a.heap.size->N j i->M j i):Chg M a c:=
 ((h.mono (M':=λj i=>M j i\/a.heap.size<=j) (λ_ _ _ hm=> .inl hm)).trans (k.mono (λj i _ hn=>if hj:j<a.heap.size then .inl (hN j i hj hn) else .inr (Nat.le_of_not_lt hj)))).mono
  (λ_ _ hj hm=>hm.elim id (λhm=>absurd hj (Nat.not_lt_of_le hm)))
theorem Chg.drew(h:Chg M a w):Chg M a w.drew:=⟨h.os,h.tape,h.output,h.size,h.block,h.cell,h.frozen,h.shape⟩
theorem Jw(h:w'.heap[k]?=w.heap[k]?):w'.shape? k=w.shape? k:=by simp [World.shape?,h]
theorem Ui(w:World)(a:Addr)(v:Value)(k:Nat):(w.setCell a v).shape? k=w.shape? k:=by
 unfold World.setCell World.shape?
 simp only [Array.getElem?_modify]
 by_cases hk:a.block=k
 ·subst hk
  simp only [if_true]
  cases h:w.heap[a.block]? with
  |none=>simp
  |some o=>cases o<;>simp<;>split<;>simp
 ·simp [hk]
theorem Chg.alloc(h:Chg M a w)(o:Obj):Chg M a (w.alloc o):=by
 refine ⟨h.os,h.tape,h.output,?_,?_,?_,?_,?_⟩
 ·have:=h.size;simp;omega
 ·intro k hk hn;exact (Below.heap_alloc w o k (Nat.lt_of_lt_of_le hk h.size)).trans (h.block k hk hn)
 ·intro k i hk hn;exact (World.cell?_alloc_past o k i (Nat.lt_of_lt_of_le hk h.size)).trans (h.cell k i hk hn)
 ·intro k i hk;exact (World.frozen?_alloc_past o k i (Nat.lt_of_lt_of_le hk h.size)).trans (h.frozen k i hk)
 ·intro k hk;exact (Jw (Below.heap_alloc w o k (Nat.lt_of_lt_of_le hk h.size))).trans (h.shape k hk)
theorem Chg.setCell(h:Chg M a w)(hm:b<a.heap.size->M b o)(v:Value):Chg M a (w.setCell ⟨b,o,none⟩ v):=by
 refine ⟨h.os,h.tape,h.output,?_,?_,?_,?_,?_⟩
 ·have:=h.size;simpa [World.setCell] using this
 ·intro k hk hn
  have hkb:k≠b:=λe=>hn o (e▸hm (e▸hk))
  exact (Below.heap_setCell w ⟨b,o,none⟩ v k hkb).trans (h.block k hk hn)
 ·intro k i hk hn
  have hkb: ¬(k=b/\i=o):=λe=>hn (by rw [e.1,e.2];exact hm (e.1▸hk))
  exact (World.cell?_setCell_other w _ _ v yan).trans (h.cell k i hk hn)
 ·intro k i hk
  exact (World.frozen?_setCell w _ _ v).trans (h.frozen k i hk)
 ·intro k hk;exact (Ui w _ v k).trans (h.shape k hk)
theorem Chg.of_below(h:Below w.heap.size w w'):Chg M w w':=
 ⟨h.os,h.tape,h.output,h.size,λk hk _=>h.block k hk,λk i hk _=>h.cell (p:=⟨k,i,none⟩) hk,λk i hk=>h.frozen (p:=⟨k,i,none⟩) hk,λk hk=>Jw (h.block k hk)⟩
theorem Chg.below{B:Nat}(h:Chg M w w')(hB:B<=w.heap.size)(hM: ∀k i,M k i->B<=k):Below B w w':=
 ⟨h.os,h.tape,h.output,h.size,λk hk=>h.block k (Nat.lt_of_lt_of_le hk hB) λi hi=>Nat.lt_irrefl _ (Nat.lt_of_lt_of_le hk (hM k i hi))⟩
theorem Qg{u:Value}(h:w.cell? ⟨b,o,none⟩=some u)(e:i=o):(w.setCell ⟨b,o,none⟩ v).cell? ⟨b,i,none⟩=some v:=by
 subst e;exact World.cell?_setCell_same w _ v h
theorem Qb(e:k≠b\/i≠o):(w.setCell ⟨b,o,none⟩ v).cell? ⟨k,i,none⟩=w.cell? ⟨k,i,none⟩:=
 World.cell?_setCell_other w _ _ v yan
theorem Jq(w:World)(a:Addr)(v:Value):(w.setCell a v).heap.size=w.heap.size:=by simp [World.setCell]
abbrev ptr(b:Nat):Value:= .pointer (some ⟨b,0,none⟩)
end Go.Proofs.YtphcopbffecceaaGreatDoor
