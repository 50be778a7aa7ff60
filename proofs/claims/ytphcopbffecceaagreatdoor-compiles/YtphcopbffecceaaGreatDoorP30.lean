import Derived.Test.YtphcopbffecceaaGreatDoorP29
set_option maxRecDepth 100000
set_option maxHeartbeats 2000000
namespace Go.Proofs.YtphcopbffecceaaGreatDoor
open Go.RowKit
variable{w w':World}{T g:Nat}{u:ByteArray}
theorem Sz{e:TypeId}{n cap:Nat}{xs:List Value}(h:w.ownsRow 0 e 1 (.slice (some ⟨g,0,none⟩) n cap) n xs)(j:Nat)(hj:j<n): ∃v,w.cell? ⟨g,j,none⟩=some v:=by
 have:=(Qm h j hj).1
 rw [this]
 have hl:j<xs.length:=by have:=h.1;omega
 exact ⟨_,List.getElem?_eq_getElem hl⟩
theorem NodeS.put{D:Nat->Prop}{lab:Nat->Nat×Nat}{m:DM}{d:DR}{X:XV}(h:NodeS D w w' lab m d X){gq cq:Nat}(hv:m.pv= .slice (some ⟨gq,0,none⟩) d.thr.length cq)(hT:d.thr.length=T+1)(hr:w'.ownsRow 0 4 1 (.slice (some ⟨gq,0,none⟩) (T+1) cq) (T+1) (m.ps.map .bool)):
  ∃qs,NodeS D w (w'.setCell ⟨gq,T,none⟩ (.bool true)).drew lab {m with ps:=qs} d X:=by
 have hq:=h.mach.lq gq (by rw [hv];rfl)
 have hc:Chg (λk j=>k=gq/\j=T) w' (w'.setCell ⟨gq,T,none⟩ (.bool true)):=(Chg.refl _ w').setCell (λ_=>⟨rfl,rfl⟩) _
 refine ⟨m.ps.set T true,NodeS.below ⟨h.mach.putF ?_ (hc.mono λk j _ e _=> .inl (by rw [e.1,hq.1];simp)),h.s.to (hc.mono λk j _ e=> .inl (e.1▸hq.2)) (h.s.x.keep hc λj e=>hq.2.2.2 e.1.symm)⟩ (Qi _ _)⟩
 have h2:=Ut hr T (.bool true)
 rw [hv,hT,List.map_set]
 exact h2
section
variable{D:Nat->Prop}{lab:Nat->Nat×Nat}{w:World}{m:DM}{d:DR}{u v x y s f:ByteArray}{bw cap:Nat}
theorem zng(h:DMach D lab w m d)(hk:DOk d)(hD: ∀k,w.heap.size<=k->D k)(w0:w.cell? ⟨bw,0,none⟩=some (.string Va))(w1:w.cell? ⟨bw,1,none⟩=some (.string f))(w2:w.cell? ⟨bw,2,none⟩=some (.string x)){L:Nat}(nw: ¬D bw)(ht:d.thr≠[])(hL:L=3\/(L=5/\w.cell? ⟨bw,4,none⟩=some (.string y))):
  Cl 25 #[ptr m.br, .slice (some ⟨bw,0,none⟩) L cap] w (Jm D w m 112 0 (okP ((Gc d.shared f&&(decide (L=3)||(atV d.locals y).2.2))&&(atV d.locals x).2.2) (.ok d))):=by
 have hlw:bw<w.heap.size:=blt w0
 have eSet:(Va.toList==[115,101,116])=false:=yak
 have eGet:(Va.toList==[103,101,116])=false:=yak
 have ePut:(Va.toList==[112,117,116])=true:=yak
 have hL0:(0:Int)<(L:Int):=ybq
 have hL1:(1:Int)<(L:Int):=ybq
 have hL2:(2:Int)<(L:Int):=ybq
 have H0:=hid (NodeS.init h hD 112 0)
 have hb0:Below w.heap.size w (zxp w 112 0):=((Below.refl _ w).alloc (Nat.le_refl _) _).alloc yaj _
 have K0:=hid (H0.out.mach.cell_is (u:=f) (cap:=cap) hk H0.out.s.x (λe=>e.2.2 rfl) (λe=>nw e.1) yai ht (hL.imp id (λe=>⟨e.1,(hb0.cell (p:=⟨bw,4,none⟩) hlw).trans e.2⟩)))
 have HL:Hid (d.locals.length<1000000):=hid ya7
 have NW:=hid nw
 obtain ⟨T,hT⟩: ∃T,d.thr.length=T+1:=⟨d.thr.length- 1,by have:=List.length_pos_iff.2 ht;omega⟩
 have HT:Hid (0<d.thr.length/\T<=2000/\d.thr.length=T+1):=hid ⟨by omega,by have:=hk.t;omega,hT⟩
 have hT0:(0:Int)<=(T:Int):=yai
 have hT1:(T:Int)<(T:Int)+1:=yai
 have eT:IntKind.i64.wrap (T:Int)=(T:Int):=by have:=HT.out.2.1;rw [IntKind.wrap_i64];omega
 have nb1:bw≠w.heap.size+1:=yai
 have nb2:w.heap.size+1≠bw:=yai
 clear h hD hk nw ht hL hb0 hT
 generalize (Gc d.shared f&&(decide (L=3)||(atV d.locals y).2.2))=cok at K0⊢
 generalize hav:atV d.locals x=av
 obtain ⟨al,av,fine⟩:=av
 dsimp only
 have HA:Hid (∀lab w',DMach (nD D w) lab w' m d->Cl 42 #[ptr m.br, .string x] w' λe w2=>e= .returned (.tuple #[.agg #[.bool al, .int .i64 av], .bool fine])/\Below w'.heap.size w' w2):=hid λlab w' hm=>by
  have:=hm.atom HL.out x
  rw [hav] at this
  exact this
 clear hav
 go_enter Tryz.func25,Tryz.ntmps25
 go_wp2_with fail
 refine K0.out.mono ?_
 rintro e W ⟨rfl,hm,hc,X,hx,s1,s2,s3⟩
 have H1:Hid (NodeS D w W lab m d {X with k:=112,n:=0,dp:=0}):=hid (by rw [ztk (k:=112) (n:=0) (dp:=0) s1 s2 s3];exact ⟨hm,H0.out.s.to hc hx⟩)
 have KA:=hid (HA.out _ _ hm)
 clear hm hc hx H0 K0 s1 s2 s3 HA
 have q2:=(H1.out.s.chg.cell bw 2 hlw NW.out).trans w2
 have lbw:bw<W.heap.size:=blt q2
 go_wp2_with fail
 refine KA.out.mono ?_
 rintro e W3 ⟨rfl,hb⟩
 have H2:=hid (H1.out.below hb)
 have H5:=hid (((H2.out.set (X':={X with k:=112,n:=0,dp:=0,al:=al}) (u:= .bool al) (j:=3) yai rfl).set (X':={X with k:=112,n:=0,dp:=0,al:=al,av:=av}) (u:= .int .i64 av) (j:=4) yai rfl).below ((Below.refl _ _).alloc (Nat.le_refl _) (.cells #[.bool al, .int .i64 av] 75)))
 have z3:=H2.out.s.x.c 3 _ rfl
 have z4:=H2.out.s.x.c 4 _ rfl
 have fz:=H2.out.s.x.f
 have lz:=H2.out.s.x.lt
 dsimp only at z3 z4
 clear hb H1 KA q2 lbw
 cases cok with
 |false=>exact z7g
 |true=>
  cases fine with
  |false=>exact z7g
  |true=>
   go_wp2_with fail
   generalize hW5:World.alloc (World.setCell (World.setCell W3 ⟨w.heap.size+1,3,none⟩ (.bool al)) ⟨w.heap.size+1,4,none⟩ (.int .i64 av)) (.cells #[.bool al, .int .i64 av] 75)=W5 at H5⊢
   clear hW5
   have r0:=H5.out.mach.c0
   have r1:=H5.out.mach.p3
   have lr0:m.br<W5.heap.size:=blt r0
   obtain ⟨gq,cq,eq,_⟩:=Za H5.out.mach.prow HT.out.1
   rw [eq,HT.out.2.2] at r1
   have PQ:Hid (gq≠m.br/\gq≠m.bp):=hid (by
    have hq:=H5.out.mach.lq gq (by rw [eq];rfl)
    exact ⟨λe=>(by have:=hq.1;rw [e,H5.out.mach.lb.1] at this;cases this),λe=>(by have:=hq.1;rw [e,H5.out.mach.lp.1] at this;cases this)⟩)
   have hprow:=H5.out.mach.prow
   rw [eq,HT.out.2.2] at hprow
   have r2:=Qm hprow T yai
   obtain ⟨bq,hbq⟩: ∃b,W5.cell? ⟨gq,T,none⟩=some b:=Sz hprow T yai
   have fq:=r2.2.1
   clear r2
   have lq5:gq<W5.heap.size:=blt hbq
   have H6:Hid (∃qs,NodeS D w (W5.setCell ⟨gq,T,none⟩ (.bool true)).drew lab {m with ps:=qs} d _):=hid (H5.out.put eq HT.out.2.2 hprow)
   clear hprow
   refine wp_region_held_drew (S:=(λw'=>w'.cell? ⟨m.br,0,none⟩=some (ptr m.bp)/\w'.cell? ⟨m.bp,3,none⟩=some (.slice (some ⟨gq,0,none⟩) (T+1) cq))) yak ?_ (λhHeld=>?_)
   ·(try dsimp only);exact ⟨r0,r1⟩
   refine Qa 0 (h:=Qa 1 (h:=Qa 2 (h:=Qa 3 (h:=Qa 4 (h:=Qa 5 (h:=Qa 6 (h:=Qa 7 (h:=Qa 8 (h:=Qa 9 (h:=Qa 10 (h:=Qa 11 (h:=Qa 12 (h:=Qa 13 (h:=Qa 14 (h:=Qa 15 (h:=Qa 16 (h:=?_)))))))))))))))))
   refine tr [17] (.cons rfl (λKQ hKQ=>?_) .nil)
   go_simp
   refine hKQ.out _ _ ?_ (λhHeld=>?_)
   ·(try dsimp only);exact ⟨(Qb (.inl PQ.out.1.symm)).trans hHeld.1,(Qb (.inl PQ.out.2.symm)).trans hHeld.2⟩
   clear hKQ KQ
   refine wpAnyH_done yak ?_ _
   obtain ⟨qs,h7⟩:=H6.out
   have H7:=hid h7
   clear h7 H6 r0 r1 hbq fq hHeld
   generalize (W5.setCell ⟨gq,T,none⟩ (.bool true)).drew=W7 at H7⊢
   obtain ⟨x0,x1,x2,x3,x4,x5,x6,x7,x8,x9,x10,x11,x12,x13⟩:=H7.out.s.x.all
   obtain ⟨y0,y1,y2,y3,y4,y5,y6,y7,y8,y9,y10,y11,y12,y13⟩:=H7.out.s.r.all
   have fx:=H7.out.s.x.f
   have fy:=H7.out.s.r.f
   have lx:=H7.out.s.x.lt
   have ly:=H7.out.s.r.lt
   dsimp only [xz] at x0 x1 x2 x3 x4 x5 x6 x7 x8 x9 x10 x11 x12 x13 y0 y1 y2 y3 y4 y5 y6 y7 y8 y9 y10 y11 y12 y13
   go_wp2
   exact Zi H7.out.s (Below.refl _ _) ⟨rfl,lab,{m with ps:=qs},rfl,rfl,H7.out.mach⟩ rfl rfl rfl rfl rfl rfl
end
theorem z31(h:Vo u=true):Qk u=none:=by
 unfold Vo at h
 simp only [Bool.and_eq_true,decide_eq_true_eq] at h
 obtain ⟨h1,_,h3⟩:=h
 obtain ⟨⟨l⟩⟩:=u
 have h3': ∀b∈l,97<=b.toNat:=λb hb=>by
  have:=List.all_eq_true.1 h3 b hb
  unfold small at this
  simp only [Bool.and_eq_true,decide_eq_true_eq] at this
  exact this.1
 cases l with
 |nil=>simp [ByteArray.size] at h1
 |cons b r=>
  have hb:=h3' b yaj
  refine Vc ?_ λhd _ _=>?_
  ·simp
   intro e
   rw [e] at hb
   simp at hb
  ·have:=hd b yaj
   omega
theorem zbf(l:List ByteArray)(hu:isAt u=true):((Ff u).name.toList.isEmpty||Uh l (Ff u).name)=(atV l u).2.2:=by
 unfold Ff atV
 by_cases h:Vo u=true
 ·rw [if_pos h,z31 h]
  simp [zla h]
 ·rw [if_neg h]
  unfold isAt at hu
  cases hn:Qk u with
  |none=>simp [hn] at hu;exact absurd hu h
  |some n=>
   show (ByteArray.empty.toList.isEmpty||_)=true
   rw [show ByteArray.empty.toList.isEmpty=true by kernel_rfl]
   rfl
def zlf(d:DR)(s:St):Bool:=match Xg s with
 |some f=>Gc d.shared f
 |none=>true
def Vu(d:DR)(s:St):Except Int DR:=okP ((Qj s).all (λv=>v.name.toList.isEmpty||Uh d.locals v.name)&&zlf d s) (if (Vg s).toList.isEmpty=true then .ok d else zcc d (Vg s))
def zcd(s:St):NK:=match zb3 s with
 |k::_=>k
 |[]=>(kL s,0)
def z1j(d:DR)(N:List NK)(s:St)(r:Except Int DR):Except Int DR:=match r with
 | .error e=> .error e
 | .ok d1=>if d.stmts=14 then .error 5 else if Qf s=true then (if d.opn.length=3 then .error 5 else .ok {d1 with thr:=d.thr.dropLast++[N++[zcd s]],opn:=d.opn++[N.length],stmts:=d.stmts+1}) else .ok {d1 with thr:=d.thr.dropLast++[N++[zcd s]],stmts:=d.stmts+1}
theorem zcw:ByteArray.empty.toList.isEmpty=true:=yak
theorem znh(s:St):(Qf s=true->(Vg s).toList.isEmpty=true/\zb3 s=[zcd s])/\(Qf s=false->zcd s=(kL s,0)):=by
 rcases s with ⟨to,a⟩|⟨to,k,a,c⟩|⟨to,f,a⟩|⟨f,a,c⟩|a|⟨⟩|a|n
 all_goals exact ⟨λh=>(by first|exact ⟨zcw,rfl⟩|cases h),λh=>(by first|rfl|cases h)⟩
theorem z1k(d:DR)(N:List NK)(s:St)(hN:d.thr.getLast?=some N)(ho:d.opn.length<=3):dSt d s=if Gd (zhf d N) s=false then .error 3 else z1j d N s (Vu d s):=by
 unfold dSt
 rw [hN]
 dsimp only
 by_cases h1:Gd (zhf d N) s=false
 ·rw [if_pos h1,if_pos h1]
 rw [if_neg h1,if_neg h1]
 obtain ⟨f1,f2⟩:=znh s
 have hn:zfv d s=((Qj s).all (λv=>v.name.toList.isEmpty||Uh d.locals v.name)&&(((Vg s).toList.isEmpty||!Gc d.shared (Vg s))&&zlf d s)):=rfl
 rw [hn]
 unfold zip Vu z1j zcc z4u
 have ho':decide (d.opn.length<=2)=!decide (d.opn.length=3):=by
  by_cases h:d.opn.length=3
  ·simp [h]
  ·simp [h];omega
 rw [ho']
 generalize (Qj s).all (λv=>v.name.toList.isEmpty||Uh d.locals v.name)=A
 generalize zlf d s=B
 generalize Gc d.shared (Vg s)=S
 generalize Uh d.locals (Vg s)=L
 generalize (Vg s).toList.isEmpty=C at f1⊢
 generalize zcd s=K at f1 f2⊢
 generalize zb3 s=O at f1⊢
 have e1:A=false\/B=false\/(A=true/\B=true):=by cases A<;>cases B<;>simp
 rcases e1 with rfl|rfl|⟨rfl,rfl⟩
 ·rfl
 ·rw [Bool.and_false,Bool.and_false];rfl
 cases hH:Qf s with
 |true=>
  obtain ⟨rfl,rfl⟩:=f1 hH
  by_cases h14:d.stmts=14
  ·simp [okP,h14]
  ·by_cases h3:d.opn.length=3<;>simp [okP,h14,h3]
 |false=>
  have:=f2 hH
  subst this
  cases C with
  |true=>by_cases h14:d.stmts=14<;>simp [okP,h14]
  |false=>
   cases S with
   |true=>simp [okP]
   |false=>
    cases L with
    |true=>by_cases h14:d.stmts=14<;>simp [okP,h14]
    |false=>
     by_cases h4:d.locals.length=4
     ·simp [okP,h4]
     ·by_cases h14:d.stmts=14<;>simp [okP,h14,h4]
theorem zto(us:List ByteArray):stW (Jz::us)=(match us with|[v,x]=>St.set v (Ff x)|[v,x,y,z]=>St.op v ((Uj y).getD 0) (Ff x) (Ff z)|_=>St.atomic):=by
 unfold stW
 dsimp only
 rw [if_pos rfl]
 rfl
theorem ztp(us:List ByteArray):stW (Vd::us)=(match us with|[v,x]=>St.get v x zPV|[v,x,_,z]=>St.get v x (Ff z)|_=>St.atomic):=by
 unfold stW
 dsimp only
 rw [if_neg yal,if_pos rfl]
 rfl
theorem ztq(us:List ByteArray):stW (Va::us)=(match us with|[v,x]=>St.put v zPV (Ff x)|[v,x,_,z]=>St.put v (Ff z) (Ff x)|_=>St.atomic):=by
 unfold stW
 dsimp only
 rw [if_neg yal,if_neg yal,if_pos rfl]
 rfl
theorem ztr(v:ByteArray):stW [Vp,v]=St.out (Ff v):=by
 unfold stW
 dsimp only
 rw [if_neg yal,if_neg yal,if_neg yal,if_pos rfl]
theorem zy9(v:ByteArray):stW [Fe,v]=St.iff (Ff v):=by
 unfold stW
 dsimp only
 rw [if_neg yal,if_neg yal,if_neg yal,if_neg yal,if_pos rfl]
theorem zni(v:ByteArray):stW [Jh,v]=St.loop ((Qk v).getD 0):=by
 unfold stW
 dsimp only
 rw [if_neg yal,if_neg yal,if_neg yal,if_neg yal,if_neg yal,if_pos rfl]
theorem zfz:stW [Qs]=St.atomic:=by
 unfold stW
 dsimp only
 rw [if_neg yal,if_neg yal,if_neg yal,if_neg yal,if_neg yal,if_neg yal]
theorem zza(l:List ByteArray):(zPV.name.toList.isEmpty||Uh l zPV.name)=true:=by
 show (ByteArray.empty.toList.isEmpty||_)=true
 rw [zcw]
 rfl
section
variable{D:Nat->Prop}{lab:Nat->Nat×Nat}{w:World}{m:DM}{d:DR}{bw cap:Nat}
theorem DMach.node_is(h:DMach D lab w m d)(hk:DOk d)(hD: ∀k,w.heap.size<=k->D k)(nw: ¬D bw)(ht:d.thr≠[])(u:ByteArray)(us:List ByteArray)(hw:StrsAt w bw (u::us))(hb:Jr (u::us)=true)(n1:u≠Qy)(n2:u≠Qt)(n3:u≠Zd):
  Cl 25 #[ptr m.br, .slice (some ⟨bw,0,none⟩) (us.length+1) cap] w (Jm D w m (zcd (stW (u::us))).1 (zcd (stW (u::us))).2 (Vu d (stW (u::us)))):=by
 rcases Yk u with rfl|rfl|rfl|rfl|rfl|rfl|rfl|rfl|rfl|rfl|⟨nshared,nthread,nend,natomic,nset,nget,nput,nout,nif,nloop⟩
 ·exact absurd rfl n1
 ·exact absurd rfl n2
 ·exact absurd rfl n3
 ·rw [Zg] at hb
  have:us=[]:=ybu
  subst this
  have e:Vu d St.atomic= .ok d:=by
   unfold Vu zlf
   simp only [Qj,Xg,Vg,List.all_nil,zcw]
   rfl
  rw [zfz,e]
  exact zle h hk hD (hw 0 yaj)
 ·rw [Gu] at hb
  rw [zto]
  match us,hb,hw with
  |[],hb,_=>simp at hb
  |[v],hb,_=>simp at hb
  |[v,x],hb,hw=>
   simp at hb
   have e:Vu d (St.set v (Ff x))=okP (atV d.locals x).2.2 (zcc d v):=by
    unfold Vu zlf
    simp only [Qj,Xg,Vg,List.all_cons,List.all_nil,zbf d.locals hb.2,Bool.and_true,zla hb.1]
    simp
   show Calls _ _ _ _ (Jm D w m _ _ (Vu d (St.set v (Ff x))))
   rw [e]
   exact ztm h hk hD (hw 0 yaj) (hw 1 yaj) (hw 2 yaj)
  |[v,x,y],hb,_=>simp at hb
  |[v,x,y,z],hb,hw=>
   simp at hb
   obtain ⟨h1,h2,h3,h4⟩:=hb
   obtain ⟨k,hy⟩:=Option.isSome_iff_exists.1 h3
   have e:Vu d (St.op v ((Uj y).getD 0) (Ff x) (Ff z))=okP ((atV d.locals x).2.2&&(atV d.locals z).2.2) (zcc d v):=by
    unfold Vu zlf
    simp only [Qj,Xg,Vg,List.all_cons,List.all_nil,zbf d.locals h2,zbf d.locals h4,Bool.and_true,zla h1]
    simp
   show Calls _ _ _ _ (Jm D w m _ _ (Vu d (St.op v ((Uj y).getD 0) (Ff x) (Ff z))))
   rw [e]
   exact ztn h hk hD (hw 0 yaj) (hw 1 yaj) (hw 2 yaj) (hw 3 yaj) (hw 4 yaj) nw hy
  |v::x::y::z::t::r,hb,_=>simp at hb
 ·rw [Es] at hb
  rw [ztp]
  match us,hb,hw with
  |[],hb,_=>simp at hb
  |[v],hb,_=>simp at hb
  |[v,x],hb,hw=>
   simp at hb
   have e:Vu d (St.get v x zPV)=okP (Gc d.shared x&&(decide (3=3)||(atV d.locals v).2.2)) (zcc d v):=by
    unfold Vu zlf
    simp only [Qj,Xg,Vg,List.all_cons,List.all_nil,zza,Bool.and_true,zla hb.1]
    simp
   show Calls _ _ _ _ (Jm D w m _ _ (Vu d (St.get v x zPV)))
   rw [e]
   exact znf h hk hD (hw 0 yaj) (hw 1 yaj) (hw 2 yaj) nw ht (.inl rfl)
  |[v,x,y],hb,_=>simp at hb
  |[v,x,y,z],hb,hw=>
   simp at hb
   obtain ⟨h1,h2,h3,h4⟩:=hb
   have e:Vu d (St.get v x (Ff z))=okP (Gc d.shared x&&(decide (5=3)||(atV d.locals z).2.2)) (zcc d v):=by
    unfold Vu zlf
    simp only [Qj,Xg,Vg,List.all_cons,List.all_nil,zbf d.locals h4,Bool.and_true,zla h1]
    simp [Bool.and_comm]
   show Calls _ _ _ _ (Jm D w m _ _ (Vu d (St.get v x (Ff z))))
   rw [e]
   exact znf h hk hD (hw 0 yaj) (hw 1 yaj) (hw 2 yaj) nw ht (.inr ⟨rfl,hw 4 yaj⟩)
  |v::x::y::z::t::r,hb,_=>simp at hb
 ·rw [Et] at hb
  rw [ztq]
  match us,hb,hw with
  |[],hb,_=>simp at hb
  |[v],hb,_=>simp at hb
  |[v,x],hb,hw=>
   simp at hb
   have e:Vu d (St.put v zPV (Ff x))=okP ((Gc d.shared v&&(decide (3=3)||(atV d.locals v).2.2))&&(atV d.locals x).2.2) (.ok d):=by
    unfold Vu zlf
    simp only [Qj,Xg,Vg,List.all_cons,List.all_nil,zza,zbf d.locals hb.2,Bool.and_true,zcw]
    simp [Bool.and_comm]
   show Calls _ _ _ _ (Jm D w m _ _ (Vu d (St.put v zPV (Ff x))))
   rw [e]
   exact zng h hk hD (hw 0 yaj) (hw 1 yaj) (hw 2 yaj) nw ht (.inl rfl)
  |[v,x,y],hb,_=>simp at hb
  |[v,x,y,z],hb,hw=>
   simp at hb
   obtain ⟨h1,h2,h3,h4⟩:=hb
   have e:Vu d (St.put v (Ff z) (Ff x))=okP ((Gc d.shared v&&(decide (5=3)||(atV d.locals z).2.2))&&(atV d.locals x).2.2) (.ok d):=by
    unfold Vu zlf
    simp only [Qj,Xg,Vg,List.all_cons,List.all_nil,zbf d.locals h4,zbf d.locals h2,Bool.and_true,zcw]
    generalize (atV d.locals z).2.2=a
    generalize (atV d.locals x).2.2=b
    generalize Gc d.shared v=c
    cases a<;>cases b<;>cases c<;>rfl
   show Calls _ _ _ _ (Jm D w m _ _ (Vu d (St.put v (Ff z) (Ff x))))
   rw [e]
   exact zng h hk hD (hw 0 yaj) (hw 1 yaj) (hw 2 yaj) nw ht (.inr ⟨rfl,hw 4 yaj⟩)
  |v::x::y::z::t::r,hb,_=>simp at hb
 ·rw [Eu] at hb
  obtain ⟨v,rfl,_⟩:=zb8 us hb
  have e:Vu d (St.out (Ff v))=okP (atV d.locals v).2.2 (.ok d):=z9x
  rw [ztr,e]
  exact zxr h hk hD (hw 0 yaj) (hw 1 yaj)
 ·rw [zcy] at hb
  obtain ⟨v,rfl,_⟩:=zb8 us hb
  have e:Vu d (St.iff (Ff v))=okP (atV d.locals v).2.2 (.ok d):=z9x
  rw [zy9,e]
  exact z1i h hk hD (hw 0 yaj) (hw 1 yaj)
 ·rw [Uf] at hb
  match us,hb,hw with
  |[],hb,_=>simp at hb
  |[v],hb,hw=>
   have hn: ∃n,Qk v=some n:=by
    unfold Sx at hb
    cases e:Qk v with
    |none=>simp [e] at hb
    |some n=>exact ⟨n,rfl⟩
   obtain ⟨n,hn⟩:=hn
   have e:Vu d (St.loop n)= .ok d:=by
    unfold Vu zlf
    simp only [Qj,Xg,Vg,List.all_nil,zcw]
    rfl
   rw [zni,hn]
   show Calls _ _ _ _ (Jm D w m _ _ (Vu d (St.loop n)))
   rw [e]
   exact ztl h hk hD (hw 0 yaj) (hw 1 yaj) hn
  |v::x::r,hb,_=>simp at hb
 ·exact z99
end
section
variable{w:World}{m:DM}{d:DR}
theorem zix(a b:Nat):((a:Int)==(b:Int))=decide (a=b):=by
 by_cases h:a=b
 ·simp [h]
 ·simp [h];omega
def Xx(d:DR)(N:List NK)(i:Nat):Bool:=(d.opn.take i).any λo=>decide ((N[o]?).map (·.1)=some 40)
theorem Fv(d:DR)(N:List NK)(i a:Nat)(k:NK)(hi:d.opn[i]?=some a)(ha:N[a]?=some k):Xx d N (i+1)=(Xx d N i||decide (k.1=40)):=by
 unfold Xx
 have hl:i<d.opn.length:=(List.getElem?_eq_some_iff.1 hi).1
 rw [List.take_succ_eq_append_getElem hl,List.any_append]
 have e:d.opn[i]=a:=by rw [List.getElem?_eq_getElem hl] at hi;simpa using hi
 simp [e,ha]
structure InAt(w:World)(m:DM)(d:DR)(N:List NK)(op:Option Addr)(tnv:Value)(co gt ct T:Nat):Prop where
 c0:w.cell? ⟨m.br,0,none⟩=some (ptr m.bp)
 c5:w.cell? ⟨m.br,5,none⟩=some (.slice op d.opn.length co)
 p0:w.cell? ⟨m.bp,0,none⟩=some (.slice (some ⟨gt,0,none⟩) (T+1) ct)
 tc:w.cell? ⟨gt,T,none⟩=some tnv
 oc: ∀(i a:Nat),d.opn[i]?=some a->∃go gn cn,∃k:NK,op=some ⟨go,0,none⟩/\tnv= .slice (some ⟨gn,0,none⟩) N.length cn/\N[a]?=some k/\w.cell? ⟨go,i,none⟩=some (.int .i64 (a:Int))/\w.cell? ⟨gn,a*14,none⟩=some (.int .u8 (k.1:Int))
theorem InAt.below{N:List NK}{op:Option Addr}{tnv:Value}{co gt ct:Nat}(h:InAt w m d N op tnv co gt ct T)(hb:Below w.heap.size w w'):InAt w' m d N op tnv co gt ct T where
 c0:=(hb.cell (p:=⟨m.br,0,none⟩) (blt h.c0)).trans h.c0
 c5:=(hb.cell (p:=⟨m.br,5,none⟩) (blt h.c5)).trans h.c5
 p0:=(hb.cell (p:=⟨m.bp,0,none⟩) (blt h.p0)).trans h.p0
 tc:=(hb.cell (p:=⟨gt,T,none⟩) (blt h.tc)).trans h.tc
 oc:=λi a hi=>by
  obtain ⟨go,gn,cn,k,h1,h2,h3,h4,h5⟩:=h.oc i a hi
  exact ⟨go,gn,cn,k,h1,h2,h3,(hb.cell (p:=⟨go,i,none⟩) (blt h4)).trans h4,(hb.cell (p:=⟨gn,a*14,none⟩) (blt h5)).trans h5⟩
end
structure LayAt(w:World)(m:DM)(d:DR)(N:List NK)(X:XV)(tl:List DT)(t:DT)(gt ct bx:Nat):Prop where
 ts:m.ts=tl++[t]
 tN:t.N=N
 len:d.thr.length=tl.length+1
 tv:m.tv= .slice (some ⟨gt,0,none⟩) (tl.length+1) ct
 row:w.ownsRow 0 77 14 t.nv N.length t.xs
 c0:w.cell? ⟨m.br,0,none⟩=some (ptr m.bp)
 p0:w.cell? ⟨m.bp,0,none⟩=some (.slice (some ⟨gt,0,none⟩) (tl.length+1) ct)
 tc:w.cell? ⟨gt,tl.length,none⟩=some t.nv
 tf:w.frozen? ⟨gt,tl.length,none⟩=false
 x:XAt w bx X
 nt:gt≠m.br/\gt≠m.bp/\gt≠bx
 nr: ∀g,t.nv.ownBlock=some g->g≠m.br/\g≠m.bp/\g≠bx/\g≠gt
section
variable{D:Nat->Prop}{lab:Nat->Nat×Nat}{w w3 W:World}{m:DM}{d:DR}{N:List NK}{X:XV}{tl:List DT}{t:DT}{gt ct bx:Nat}
theorem DMach.layAt(h:DMach D lab w m d)(hN:d.thr.getLast?=some N)(hx:XAt w bx X)(nx: ¬D bx): ∃tl t gt ct,LayAt w m d N X tl t gt ct bx:=by
 have hlen:=Sl h
 have hne:d.thr≠[]:=ycg
 obtain ⟨tl,t,hts⟩: ∃tl t,m.ts=tl++[t]:=z84
 have htl:d.thr.length=tl.length+1:=yb3
 obtain ⟨gt,ct,et,_⟩:=Za h.trow yai
 rw [htl] at et
 have hti:m.ts[tl.length]?=some t:=ybo
 have tN:t.N=N:=z9s
 have hth:=h.th tl.length t hti
 have rt:=h.trow
 rw [et,htl] at rt
 have q:=Qm rt tl.length yai
 have p0:=h.p0
 rw [et] at p0
 have lt:=h.lt gt (by rw [et];rfl)
 have ln:=h.ln tl.length t hti
 have nL: ∀k k' l l',lab k=l->lab k'=l'->l≠l'->k≠k':=λk k' l l' a b c e=>c (by rw [<-a,<-b,e])
 have row:=hth.row
 rw [tN] at row
 refine ⟨tl,t,gt,ct,hts,tN,htl,et,row,h.c0,p0,?_,q.2.1,hx,⟨nL _ _ _ _ lt.1 h.lb.1 yaj,nL _ _ _ _ lt.1 h.lp.1 yaj,λe=>nx (e▸lt.2)⟩,λg hg=>⟨nL _ _ _ _ (ln g hg).1 h.lb.1 yaj,nL _ _ _ _ (ln g hg).1 h.lp.1 yaj,λe=>nx (e▸(ln g hg).2),nL _ _ _ _ (ln g hg).1 lt.1 yaj⟩⟩
 rw [q.1,List.getElem?_map,hti]
 rfl
theorem DMach.lay(h:DMach D lab w m d)(hD: ∀k,w.heap.size<=k->D k)(hl:LayAt w m d N X tl t gt ct bx){cp:Nat}(hW:Below w.heap.size w W)(ho:w3.ownsRow 0 77 14 (.slice (some ⟨g,0,none⟩) (N.length+1) cp) (N.length+1) (t.xs++X.cells))
  (hc:Chg (λb _=>t.nv.ownBlock=some b) W w3) (hg:t.nv.ownBlock=some g\/g=W.heap.size):
  ∃lab' m',m'.br=m.br/\m'.bp=m.bp/\DMach D lab' (w3.setCell ⟨gt,tl.length,none⟩ (.slice (some ⟨g,0,none⟩) (N.length+1) cp)) m' {d with thr:=d.thr.dropLast++[N++[(X.k,X.n)]]}:=by
 have hti:m.ts[tl.length]?=some t:=by rw [hl.ts];simp
 have nd:=(h.th tl.length t hti).nodes
 rw [hl.tN] at nd
 have e:(N++[(X.k,X.n)]).length=N.length+1:=yaj
 obtain ⟨lab',h'⟩:=h.setThr hD hl.ts hl.tv (N:=N++[(X.k,X.n)]) (xs:=t.xs++X.cells) (by rw [e];exact ho) (nd.app (k:=(X.k,X.n)) (dp:=X.dp) rfl rfl rfl rfl) ((Chg.of_below (M:=λb _=>t.nv.ownBlock=some b) hW).trans hc) (hg.imp id λe=>by have:=hW.size;omega)
 rw [e] at h'
 exact ⟨lab',{m with ts:=tl++[⟨.slice (some ⟨g,0,none⟩) (N.length+1) cp,t.kb,t.xs++X.cells,N++[(X.k,X.n)]⟩]},rfl,rfl,h'⟩
theorem LayAt.mid(hl:LayAt w m d N X tl t gt ct bx)(hW:Below w.heap.size w W)(hc:Chg (λb _=>t.nv.ownBlock=some b) W w3):
  w3.cell? ⟨m.br,0,none⟩=some (ptr m.bp)/\w3.cell? ⟨m.bp,0,none⟩=some (.slice (some ⟨gt,0,none⟩) (tl.length+1) ct)/\w3.cell? ⟨gt,tl.length,none⟩=some t.nv/\w3.frozen? ⟨gt,tl.length,none⟩=false/\XAt w3 bx X:=by
 have hc':Chg (λb _=>t.nv.ownBlock=some b) w w3:=(Chg.of_below (M:=λb _=>t.nv.ownBlock=some b) hW).trans hc
 exact ⟨(hc'.cell _ _ (blt hl.c0) λe=>(hl.nr _ e).1 rfl).trans hl.c0,(hc'.cell _ _ (blt hl.p0) λe=>(hl.nr _ e).2.1 rfl).trans hl.p0,(hc'.cell _ _ (blt hl.tc) λe=>(hl.nr _ e).2.2.2 rfl).trans hl.tc,(hc'.frozen _ _ (blt hl.tc)).trans hl.tf,hl.x.keep hc' λj e=>(hl.nr _ e).2.2.1 rfl⟩
theorem LayAt.below(hl:LayAt w m d N X tl t gt ct bx)(hW:Below w.heap.size w W):LayAt W m d N X tl t gt ct bx:=
 {hl with
  row:=Qc hl.row (Chg.of_below (M:=λ_ _=>False) hW) λ_ _ _ e=>e
  c0:=(hW.cell (p:=⟨m.br,0,none⟩) (blt hl.c0)).trans hl.c0
  p0:=(hW.cell (p:=⟨m.bp,0,none⟩) (blt hl.p0)).trans hl.p0
  tc:=(hW.cell (p:=⟨gt,tl.length,none⟩) (blt hl.tc)).trans hl.tc
  tf:=(hW.frozen (p:=⟨gt,tl.length,none⟩) (blt hl.tc)).trans hl.tf
  x:=hl.x.below hW}
end
end Go.Proofs.YtphcopbffecceaaGreatDoor
