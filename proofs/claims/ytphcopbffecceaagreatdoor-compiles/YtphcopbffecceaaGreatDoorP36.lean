import Derived.Test.YtphcopbffecceaaGreatDoorP31
import Derived.Test.YtphcopbffecceaaGreatDoorP33
import Derived.Test.YtphcopbffecceaaGreatDoorP34
import Derived.Test.YtphcopbffecceaaGreatDoorP35
set_option maxRecDepth 100000
set_option maxHeartbeats 4000000
namespace Go.Proofs.YtphcopbffecceaaGreatDoor
open Go.RowKit
variable{d:DR}{s:St}
section
variable{D:Nat->Prop}{w:World}{m:DM}{d:DR}{u:ByteArray}{bw cap L:Nat}{N:List NK}{op:Option Addr}{tnv:Value}{co gt ct T:Nat}{gB pB aB:Bool}
theorem ztt(hk:DOk d)(hI:InAt w m d N op tnv co gt ct T)(hT:T<=2000)(w0:w.cell? ⟨bw,0,none⟩=some (.string u))(hL0:(0:Int)<(L:Int))
  (e1:(u.toList==[115,104,97,114,101,100])=false) (e2:(u.toList==[116,104,114,101,97,100])=false) (e3:(u.toList==[101,110,100])=false) (g1:(u.toList==[103,101,116])=gB) (g2:(u.toList==[112,117,116])=pB) (g3:(u.toList==[97,116,111,109,105,99])=aB)
  (hcls:(Xx d N d.opn.length=false/\gB=true)\/(Xx d N d.opn.length=false/\gB=false/\pB=true)\/(Xx d N d.opn.length=true/\gB=false/\pB=false/\aB=true)):
  Cl 12 #[ptr m.br, .slice (some ⟨bw,0,none⟩) L cap] w (DPost D w m (.error 3)):=by
 have c0:=hI.c0
 have c5:=hI.c5
 have p0:=hI.p0
 have hlw:bw<w.heap.size:=blt w0
 have hlt:m.br<w.heap.size:=blt c0
 have hlp:m.bp<w.heap.size:=blt p0
 have hT0:(0:Int)<=(T:Int):=yai
 have hT1:(T:Int)<(T:Int)+1:=yai
 have eT:wrap64 (((T+1:Nat):Int)- 1)=(T:Int):=yao
 have HI:=hid hI
 have HCL:=hid hcls
 have ho3:=hk.o
 have hneg: ¬(T:Int)<0:=yai
 clear hI hcls
 go_enter Tryz.func12,Tryz.ntmps12
 go_wp2
 go_loopw [6,7] (λv6 v7 wr=>∃i:Nat,i<=d.opn.length/\v7= .int .i64 i/\v6= .bool (Xx d N i)/\Hid (Below w.heap.size w wr)) (λ_ v7 _=>d.opn.length- (intOf v7).toNat)
 case atStart=>exact ⟨0,Nat.zero_le _,rfl,rfl,hid (Below.refl _ _)⟩
 case round=>
  obtain ⟨i,hi,rfl,rfl,HB⟩:=hrel
  have hJ:=HI.out.below HB.out
  have d0:=hJ.c0
  have d5:=hJ.c5
  have dp:=hJ.p0
  have dt:=hJ.tc
  have lr:m.br<wr.heap.size:=blt d0
  have lp:m.bp<wr.heap.size:=blt dp
  by_cases hlti:i<d.opn.length
  ·exact z7e
  ·have hii:i=d.opn.length:=by omega
   subst hii
   clear hJ hlti hi
   have lbw:bw<wr.heap.size:=yb4
   have w0':wr.cell? ⟨bw,0,none⟩=some (.string u):=(HB.out.cell (p:=⟨bw,0,none⟩) hlw).trans w0
   have hcl:=HCL.out
   generalize Xx d N d.opn.length=inn at hcl⊢
   rcases hcl with ⟨rfl,rfl⟩|⟨rfl,rfl,rfl⟩|⟨rfl,rfl,rfl,rfl⟩
   all_goals
    go_wp2
    go_ret
    exact ⟨Chg.of_below HB.out,rfl⟩
theorem zxu{pt po:Option Addr}(c0:w.cell? ⟨m.br,0,none⟩=some (ptr m.bp))(c5:w.cell? ⟨m.br,5,none⟩=some (.slice po 0 co))(p0:w.cell? ⟨m.bp,0,none⟩=some (.slice pt 0 ct))(w0:w.cell? ⟨bw,0,none⟩=some (.string u))(hL0:(0:Int)<(L:Int))
  (e1:(u.toList==[115,104,97,114,101,100])=false) (e2:(u.toList==[116,104,114,101,97,100])=false) (e3:(u.toList==[101,110,100])=false):
  Cl 12 #[ptr m.br, .slice (some ⟨bw,0,none⟩) L cap] w (DPost D w m (.error 3)):=by
 have hlw:bw<w.heap.size:=blt w0
 have hlt:m.br<w.heap.size:=blt c0
 have hlp:m.bp<w.heap.size:=blt p0
 go_enter Tryz.func12,Tryz.ntmps12
 go_wp2
 go_loopw [6,7] (λv6 v7 wr=>v6= .bool false/\v7= .int .i64 0/\wr=w) (λ_ _ _=>0)
 case atStart=>exact ⟨rfl,rfl,rfl⟩
 case round=>
  obtain ⟨rfl,rfl,rfl⟩:=hrel
  go_wp2
  go_ret
  exact ⟨Chg.refl _ _,rfl⟩
end
theorem z5x(s:St):kL s≠122/\kL s≠108/\kL s≠40:=by
 rcases s with ⟨to,a⟩|⟨to,k,a,c⟩|⟨to,f,a⟩|⟨f,a,c⟩|a|⟨⟩|a|n<;>exact ⟨by simp [kL],by simp [kL],by simp [kL]⟩
theorem zbh: ∀e,Vu d s= .error e->e≠0:=by
 intro e h
 unfold Vu at h
 generalize ((Qj s).all (λv=>v.name.toList.isEmpty||Uh d.locals v.name)&&zlf d s)=b at h
 cases b with
 |false=>cases h;decide
 |true=>
  unfold okP zcc at h
  dsimp only at h
  repeat' split at h
  all_goals first|(cases h;decide)|cases h
theorem zde: ∀d1,Vu d s= .ok d1->d1.thr=d.thr/\d1.opn=d.opn/\d1.stmts=d.stmts:=by
 intro d1 h
 unfold Vu at h
 generalize ((Qj s).all (λv=>v.name.toList.isEmpty||Uh d.locals v.name)&&zlf d s)=b at h
 cases b with
 |false=>cases h
 |true=>
  unfold okP zcc at h
  dsimp only at h
  repeat' split at h
  all_goals first|(cases h;exact ⟨rfl,rfl,rfl⟩)|cases h
theorem ztu(d:DR)(N:List NK)(s:St)(r:Except Int DR)(h:Qf s=false):z1j d N s r=zts d N (zcd s) r:=by
 unfold z1j zts
 cases r with
 |error e=>rfl
 |ok d1=>dsimp only;rw [if_neg (show ¬Qf s=true by simp [h])]
theorem zep(d:DR)(N:List NK)(s:St)(r:Except Int DR)(h:Qf s=true):z1j d N s r=zbg d N (zcd s) r:=by
 unfold z1j zbg
 cases r with
 |error e=>rfl
 |ok d1=>dsimp only;rw [if_pos h]
theorem zeq(d:DR)(N:List NK):Xx d N d.opn.length=zhf d N:=by
 unfold Xx zhf
 rw [List.take_length]
theorem z1l(us:List ByteArray)(hb:Jr (Jh::us)=true): ∃v,us=[v]:=by
 rw [Uf] at hb
 match us,hb with
 |[],hb=>simp at hb
 |[v],_=>exact ⟨v,rfl⟩
 |v::x::r,hb=>simp at hb
theorem z33(us:List ByteArray)(hb:Jr (Jz::us)=true):Qf (stW (Jz::us))=false/\ ∀b,Gd b (stW (Jz::us))=true:=by
 rw [Gu] at hb
 rw [zto]
 match us,hb with
 |[],hb=>simp at hb
 |[v],hb=>simp at hb
 |[v,x],_=>exact ⟨rfl,λ_=>rfl⟩
 |[v,x,y],hb=>simp at hb
 |[v,x,y,z],_=>exact ⟨rfl,λ_=>rfl⟩
 |v::x::y::z::t::r,hb=>simp at hb
theorem z34(us:List ByteArray)(hb:Jr (Vd::us)=true):Qf (stW (Vd::us))=false/\ ∀b,Gd b (stW (Vd::us))=b:=by
 rw [Es] at hb
 rw [ztp]
 match us,hb with
 |[],hb=>simp at hb
 |[v],hb=>simp at hb
 |[v,x],_=>exact ⟨rfl,λ_=>rfl⟩
 |[v,x,y],hb=>simp at hb
 |[v,x,y,z],_=>exact ⟨rfl,λ_=>rfl⟩
 |v::x::y::z::t::r,hb=>simp at hb
theorem z35(us:List ByteArray)(hb:Jr (Va::us)=true):Qf (stW (Va::us))=false/\ ∀b,Gd b (stW (Va::us))=b:=by
 rw [Et] at hb
 rw [ztq]
 match us,hb with
 |[],hb=>simp at hb
 |[v],hb=>simp at hb
 |[v,x],_=>exact ⟨rfl,λ_=>rfl⟩
 |[v,x,y],hb=>simp at hb
 |[v,x,y,z],_=>exact ⟨rfl,λ_=>rfl⟩
 |v::x::y::z::t::r,hb=>simp at hb
section
variable{D:Nat->Prop}{lab:Nat->Nat×Nat}{w:World}{m:DM}{d:DR}{bw cap:Nat}{N:List NK}
theorem DMach.inAt(h:DMach D lab w m d)(hN:d.thr.getLast?=some N)(ho: ∀a∈d.opn,∃k,N[a]?=some k): ∃op tnv co gt ct T,InAt w m d N op tnv co gt ct T/\d.thr.length=T+1:=by
 have hlen:=Sl h
 have hne:d.thr≠[]:=ycg
 obtain ⟨tl,t,hts⟩: ∃tl t,m.ts=tl++[t]:=z84
 have htl:d.thr.length=tl.length+1:=yb3
 obtain ⟨gt,ct,et,_⟩:=Za h.trow yai
 rw [htl] at et
 have hti:m.ts[tl.length]?=some t:=ybo
 have tN:t.N=N:=z9s
 have hth:=h.th tl.length t hti
 have rt:=h.trow
 rw [et,htl] at rt
 have q:=(Qm rt tl.length yai).1
 rw [List.getElem?_map,hti] at q
 have p0:=h.p0
 rw [et] at p0
 obtain ⟨op,co,hov⟩: ∃op co,m.ov= .slice op d.opn.length co:=by
  rcases h.orow.2 with ⟨q1,q2⟩|⟨g,cap,cur,q1,_⟩
  ·exact ⟨none,0,by rw [q1,q2]⟩
  ·exact ⟨_,_,q1⟩
 have c5:=h.c5
 rw [hov] at c5
 refine ⟨op,t.nv,co,gt,ct,tl.length,⟨h.c0,c5,p0,q,λi a hi=>?_⟩,htl⟩
 have hil:i<d.opn.length:=(List.getElem?_eq_some_iff.1 hi).1
 obtain ⟨k,hk⟩:=ho a (List.mem_of_getElem? hi)
 have hal:a<N.length:=(List.getElem?_eq_some_iff.1 hk).1
 have hro:=h.orow
 obtain ⟨go,cgo,eo,_⟩:=Za hro yai
 have hop:op=some ⟨go,0,none⟩:=by
  rw [hov] at eo
  injection eo
 rw [eo] at hro
 have q1:=(Qm hro i hil).1
 rw [List.getElem?_map,hi] at q1
 have hrn:=hth.row
 rw [tN] at hrn
 obtain ⟨gn,cgn,en,_⟩:=Za hrn yai
 rw [en] at hrn
 have q2:=(Zr hrn (a*14) yai).1
 have nd:=hth.nodes.kind a k (by rw [tN];exact hk)
 rw [nd] at q2
 exact ⟨go,gn,cgn,k,hop,en,hk,q1,q2⟩
theorem DMach.row_st(h:DMach D lab w m d)(hk:DOk d)(hD: ∀k,w.heap.size<=k->D k)(nw: ¬D bw)(u:ByteArray)(us:List ByteArray)(hw:StrsAt w bw (u::us))(hbw:bw<w.heap.size)(hb:Jr (u::us)=true)(n1:u≠Qy)(n2:u≠Qt)(n3:u≠Zd)(hno:d.thr=[]->d.opn=[])(hop: ∀N,d.thr.getLast?=some N->N.length<=1000/\ ∀a∈d.opn,∃k,N[a]?=some k):
  Cl 12 #[ptr m.br, .slice (some ⟨bw,0,none⟩) (us.length+1) cap] w (DPost D w m (dSt d (stW (u::us)))):=by
 have e1:(u.toList==[115,104,97,114,101,100])=false:=Qo n1
 have e2:(u.toList==[116,104,114,101,97,100])=false:=Qo n2
 have e3:(u.toList==[101,110,100])=false:=Qo n3
 have w0:=hw 0 yaj
 have hL0:(0:Int)<((us.length+1:Nat):Int):=yai
 cases hN:d.thr.getLast? with
 |none=>
  have ht:d.thr=[]:=List.getLast?_eq_none_iff.1 hN
  have hs:dSt d (stW (u::us))= .error 3:=by unfold dSt;rw [hN]
  rw [hs]
  have c5:=h.c5
  have p0:=h.p0
  obtain ⟨po,co,hov⟩: ∃po co,m.ov= .slice po 0 co:=by
   have hr:=h.orow
   rw [hno ht] at hr
   rcases hr.2 with ⟨q1,_⟩|⟨g,cap,cur,q1,_⟩
   ·exact ⟨_,_,q1⟩
   ·exact ⟨_,_,q1⟩
  obtain ⟨pt,ct,htv⟩: ∃pt ct,m.tv= .slice pt 0 ct:=by
   have hr:=h.trow
   rw [ht] at hr
   rcases hr.2 with ⟨q1,_⟩|⟨g,cap,cur,q1,_⟩
   ·exact ⟨_,_,q1⟩
   ·exact ⟨_,_,q1⟩
  rw [hov] at c5
  rw [htv] at p0
  exact zxu h.c0 c5 p0 w0 hL0 e1 e2 e3
 |some N=>
  obtain ⟨hNl,ha⟩:=hop N hN
  have ht:d.thr≠[]:=ycg
  obtain ⟨op,tnv,co,gt,ct,T,hI,hT⟩:=h.inAt hN ha
  have hT2:T<=2000:=by have:=hk.t;omega
  rw [z1k d N _ hN hk.o]
  have KN:Hid (∀wr,Below w.heap.size w wr->Cl 25 #[ptr m.br, .slice (some ⟨bw,0,none⟩) (us.length+1) cap] wr (Jm D wr m (zcd (stW (u::us))).1 (zcd (stW (u::us))).2 (Vu d (stW (u::us))))):=hid λwr hb'=>
   (h.below hb').node_is hk (λk hk=>hD k (Nat.le_trans hb'.size hk)) nw ht u us (hw.keep hbw hb') hb n1 n2 n3
  have LEAF: ∀(s:St) (gB pB aB:Bool),stW (u::us)=s->(u.toList==[103,101,116])=gB->(u.toList==[112,117,116])=pB->(u.toList==[97,116,111,109,105,99])=aB->Qf s=false ->
    ((zhf d N=true/\gB=true/\aB=false)\/(zhf d N=true/\gB=false/\pB=true/\aB=false)\/(gB=false/\pB=false/\aB=false)) ->
    Cl 12 #[ptr m.br, .slice (some ⟨bw,0,none⟩) (us.length+1) cap] w (DPost D w m (z1j d N s (Vu d s))):=λs gB pB aB hs g1 g2 g3 hH hc=>by
   subst hs
   rw [ztu d N _ _ hH]
   have hkk:=(znh (stW (u::us))).2 hH
   have:=zxs (K1:=(zcd (stW (u::us))).1) (K2:=(zcd (stW (u::us))).2) (r:=Vu d (stW (u::us))) hk hD hN hNl hI hT2 hT w0 hL0 e1 e2 e3 g1 g2 g3 zbh zde KN (by rw [zeq];exact hc) (by rw [hkk];exact z5x _)
   exact this
  have PLACE: ∀(gB pB aB:Bool),(u.toList==[103,101,116])=gB->(u.toList==[112,117,116])=pB->(u.toList==[97,116,111,109,105,99])=aB ->
    ((zhf d N=false/\gB=true)\/(zhf d N=false/\gB=false/\pB=true)\/(zhf d N=true/\gB=false/\pB=false/\aB=true)) ->
    Cl 12 #[ptr m.br, .slice (some ⟨bw,0,none⟩) (us.length+1) cap] w (DPost D w m (.error 3)):=λgB pB aB g1 g2 g3 hc=>
   ztt hk hI hT2 w0 hL0 e1 e2 e3 g1 g2 g3 (by rw [zeq];exact hc)
  rcases Yk u with rfl|rfl|rfl|rfl|rfl|rfl|rfl|rfl|rfl|rfl|⟨nshared,nthread,nend,natomic,nset,nget,nput,nout,nif,nloop⟩
  ·exact absurd rfl n1
  ·exact absurd rfl n2
  ·exact absurd rfl n3
  ·rw [Zg] at hb
   have:us=[]:=ybu
   subst this
   rw [zfz] at KN⊢
   cases hin:zhf d N with
   |true=>
    rw [if_pos (show Gd true St.atomic=false from rfl)]
    exact PLACE false false true yak yak yak (.inr (.inr ⟨hin,rfl,rfl,rfl⟩))
   |false=>
    rw [if_neg (by simp [Gd]),zep d N _ _ rfl]
    exact zph (r:=Vu d St.atomic) hk hD hN hNl hI hT2 hT w0 hL0 e1 e2 e3 yak yak yak zbh zde KN (by rw [zeq];exact ⟨hin,rfl,rfl,rfl⟩)
  ·have hs:=z33 us hb
   rw [if_neg (by rw [hs.2];simp)]
   exact LEAF _ false false false rfl yak yak yak hs.1 (.inr (.inr ⟨rfl,rfl,rfl⟩))
  ·have hs:=z34 us hb
   cases hin:zhf d N with
   |true=>
    rw [if_neg (by rw [hs.2];simp)]
    exact LEAF _ true false false rfl yak yak yak hs.1 (.inl ⟨hin,rfl,rfl⟩)
   |false=>
    rw [if_pos (hs.2 _)]
    exact PLACE true false false yak yak yak (.inl ⟨hin,rfl⟩)
  ·have hs:=z35 us hb
   cases hin:zhf d N with
   |true=>
    rw [if_neg (by rw [hs.2];simp)]
    exact LEAF _ false true false rfl yak yak yak hs.1 (.inr (.inl ⟨hin,rfl,rfl,rfl⟩))
   |false=>
    rw [if_pos (hs.2 _)]
    exact PLACE false true false yak yak yak (.inr (.inl ⟨hin,rfl,rfl⟩))
  ·rw [Eu] at hb
   obtain ⟨v,rfl,_⟩:=zb8 us hb
   have hs:=ztr v
   rw [if_neg (by rw [hs];simp [Gd])]
   exact LEAF _ false false false rfl yak yak yak (by rw [hs];rfl) (.inr (.inr ⟨rfl,rfl,rfl⟩))
  ·rw [zcy] at hb
   obtain ⟨v,rfl,_⟩:=zb8 us hb
   rw [zy9] at KN⊢
   rw [if_neg (by simp [Gd]),zep d N _ _ rfl]
   exact z32 (r:=Vu d (St.iff (Ff v))) hk hD hN hNl hI hT2 hT w0 hL0 e1 e2 e3 yak yak yak zbh zde KN ⟨rfl,rfl,rfl⟩
  ·obtain ⟨v,rfl⟩:=z1l us hb
   rw [zni] at KN⊢
   rw [if_neg (by simp [Gd]),zep d N _ _ rfl]
   exact zxt (r:=Vu d (St.loop ((Qk v).getD 0))) hk hD hN hNl hI hT2 hT w0 hL0 e1 e2 e3 yak yak yak zbh zde KN ⟨rfl,rfl,rfl⟩
  ·exact z99
end
end Go.Proofs.YtphcopbffecceaaGreatDoor
