import Derived.Test.YtphcopbffecceaaGreatDoorP26
set_option maxRecDepth 100000
set_option maxHeartbeats 2000000
namespace Go.Proofs.YtphcopbffecceaaGreatDoor
open Go.RowKit
variable{b j k:Nat}{er n:Int}{w:World}{ws:List ByteArray}{u:ByteArray}{r:Except Int DR}{a:Act}
theorem zg3{n i:Nat}{t:TypeId}(h:w.shape? k=some (t,n))(hi:i<n): ∃v,w.cell? ⟨k,i,none⟩=some v:=by
 unfold World.shape? at h
 unfold World.cell?
 cases e:w.heap[k]? with
 |none=>rw [e] at h;simp at h
 |some o=>
  rw [e] at h
  cases o<;>simp at h⊢
  rename_i cs ty fr
  exact ⟨cs[i]'(by omega),by simp [Array.getElem?_eq_getElem (show i<cs.size by omega)]⟩
theorem zdc(h:Uh ws u=true): ∃k:Nat,plc ws u=k/\ws[k]?=some u:=by
 have hp:=zlb ws u
 rw [h] at hp
 unfold plc at hp⊢
 cases hk:ws.findIdx? λx=>decide (x=u) with
 |none=>rw [hk] at hp;simp at hp
 |some k=>
  obtain ⟨hlt,he,_⟩:=List.findIdx?_eq_some_iff_getElem.1 hk
  exact ⟨k,rfl,by rw [List.getElem?_eq_getElem hlt];exact congrArg some (by simpa using he)⟩
theorem zdd(h:Uh ws u=false):plc ws u<0:=by
 have hp:=zlb ws u
 rw [h] at hp
 have:=of_decide_eq_false hp
 omega
def z3z(X X':XV):Prop:=X'.k=X.k/\X'.n=X.n/\X'.dp=X.dp
section
variable{D:Nat->Prop}{lab:Nat->Nat×Nat}{w:World}{m:DM}{d:DR}{u y:ByteArray}{bx bw L cap:Nat}{X:XV}
structure DOk(d:DR):Prop where
 l:d.locals.length<=4
 s:d.shared.length<1000000
 c:0<=d.cells/\d.cells<100000000
 p: ∀p∈d.shared,0<=p.2.1/\p.2.1<d.cells
 o:d.opn.length<=3
 t:d.thr.length<=2000
 n:d.stmts<=14
theorem DMach.cell_is(h:DMach D lab w m d)(hk:DOk d)(hx:XAt w bx X)(nx: ¬D bx)(nw: ¬D bw)(hwx:bw≠bx)(ht:d.thr≠[])(hL:L=3\/(L=5/\w.cell? ⟨bw,4,none⟩=some (.string y))):
  Cl 44 #[ptr m.br,ptr bx, .string u, .slice (some ⟨bw,0,none⟩) L cap] w λe w'=>e= .returned (.bool (Gc d.shared u&&(decide (L=3)||(atV d.locals y).2.2)))/\DMach D lab w' m d/\Chg (λk _=>D k\/k=bx) w w'/\ ∃X',XAt w' bx X'/\z3z X X':=by
 have KS:=h.inSh hk.s u w (Below.refl _ _)
 cases hs:Uh (d.shared.map (·.1)) u with
 |false=>
  refine (z1g h.c1 (zdd hs) (hid KS)).mono ?_
  rintro e w' ⟨rfl,rfl⟩
  rw [zit,hs]
  exact ⟨rfl,h,Chg.refl _ _,X,hx,rfl,rfl,rfl⟩
 |true=>
  obtain ⟨kk,hkk,hu⟩:=zdc hs
  rw [hkk] at KS
  rw [List.getElem?_map] at hu
  obtain ⟨p,hp,_⟩:=Option.map_eq_some_iff.1 hu
  have hlt:kk<d.shared.length:=(List.getElem?_eq_some_iff.1 hp).1
  have hpos:0<d.shared.length:=yai
  obtain ⟨gf,cf,ef,_⟩:=Za h.frow hpos
  obtain ⟨gz,cz,ez,_⟩:=Za h.zrow hpos
  have hlen:=Sl h
  obtain ⟨tl,t,hts⟩: ∃tl t,m.ts=tl++[t]:=by
   rcases List.eq_nil_or_concat m.ts with e|⟨tl,t,e⟩
   ·rw [e] at hlen;exact absurd (List.length_eq_zero_iff.1 hlen.symm) ht
   ·exact ⟨tl,t,by rw [e,List.concat_eq_append]⟩
  have htl:d.thr.length=tl.length+1:=yb3
  have hT:0<d.thr.length:=yai
  obtain ⟨gt,ct,et,_⟩:=Za h.trow hT
  obtain ⟨gc,cc,ec,_⟩:=Za h.crow hT
  have hti:m.ts[tl.length]?=some t:=ybo
  have hpp:=hk.p p (List.mem_of_getElem? hp)
  obtain ⟨fn,hfn⟩: ∃fn:Nat,p.2.1=fn:=⟨p.2.1.toNat,by omega⟩
  have hfc:fn<d.cells.toNat:=yai
  have hth:=h.th tl.length t hti
  obtain ⟨v0,hv0⟩:=zg3 hth.ksh hfc
  have c2:=h.c2
  have c3:=h.c3
  have p0:=h.p0
  have p2:=h.p2
  have rf:=h.frow
  have rz:=h.zrow
  have rc:=h.crow
  rw [ef] at c2 rf
  rw [ez] at c3 rz
  rw [et,htl] at p0
  rw [ec,htl] at p2 rc
  have qf:=(Qm rf kk hlt).1
  have qz:=(Qm rz kk hlt).1
  have qc:=(Qm rc tl.length yai).1
  rw [List.getElem?_map,hp] at qf qz
  rw [List.getElem?_map,hti] at qc
  simp only [Option.map_some,hfn] at qf qz qc
  have lf:=h.lf gf (by rw [ef];rfl)
  have lz:=h.lz gz (by rw [ez];rfl)
  have lc:=h.lc gc (by rw [ec];rfl)
  have lk:=h.lk tl.length t hti
  have nD: ∀k,D k->bx≠k:=λk hk e=>nx (e▸hk)
  have nL: ∀k k' l l',lab k=l->lab k'=l'->l≠l'->k≠k':=λk k' l l' a b c e=>c (by rw [<-a,<-b,e])
  have hM: ∀w',Chg (ziv bx t.kb fn) w w'->DMach D lab w' m d/\Chg (λk _=>D k\/k=bx) w w':=λw' hc=>
   ⟨h.touchF (i:=tl.length) (hc.mono λk j _ e hD=>e.elim (λe=>absurd (e.1▸hD) nx) (λe=> .inl (by rw [e.1,lk.1];simp))),hc.mono λk j _ e=>e.elim (λe=> .inr e.1) (λe=> .inl (e.1▸lk.2))⟩
  have hbw:bw≠t.kb:=λe=>nw (e▸lk.2)
  refine (z1h (y:=y) (ok:=decide (L=3)||(atV d.locals y).2.2) (tl:=(atV d.locals y).1) (tv:=(atV d.locals y).2.1) hx h.c0 h.c1 c2 c3 hlt hk.s qf qz p0 p2 qc (by have:=hk.t;omega) hfc (by have:=hk.c;omega) hv0 (hth.kfree fn) (nD _ h.lb.2) (nD _ h.lp.2) (nD _ lz.2) (nD _ lc.2) (nD _ lk.2) (nL _ _ _ _ lk.1 h.lb.1 yaj) (nL _ _ _ _ lk.1 h.lp.1 yaj) (nL _ _ _ _ lk.1 lc.1 yaj) ?_ (hid KS) (hid λe5 w' hc=>?_)).mono ?_
  ·rcases hL with rfl|⟨rfl,e⟩
   ·exact .inl ⟨rfl,rfl⟩
   ·exact .inr ⟨rfl,hwx,hbw,e⟩
  ·subst e5
   exact (hM w' hc).1.atom ya7 y
  ·rintro e w' ⟨rfl,hc,tl',tv',hx'⟩
   rw [zit,hs]
   exact ⟨rfl,(hM w' hc).1,(hM w' hc).2,_,hx',rfl,rfl,rfl⟩
def zcc(d:DR)(u:ByteArray):Except Int DR:=if Gc d.shared u=true then .error 4 else if Uh d.locals u=true then .ok d else if d.locals.length=4 then .error 5 else .ok {d with locals:=d.locals++[u]}
def MRes(D:Nat->Prop)(w':World)(m:DM)(r:Except Int DR)(er:Int):Prop:=match r with
 | .ok d'=>er=0/\ ∃lab' m',m'.br=m.br/\m'.bp=m.bp/\DMach D lab' w' m' d'
 | .error e'=>er=e'
theorem MRes.keep{D D':Nat->Prop}{w':World}{m:DM}{M:Nat->Nat->Prop}(h:MRes D w m r er)(hc:Chg M w w')(hM: ∀k i,D k->¬M k i)(hD: ∀k,D k->D' k):MRes D' w' m r er:=by
 cases r with
 |error _=>exact h
 |ok d'=>
  obtain ⟨h1,lab',m',h2,h3,h4⟩:=h
  exact ⟨h1,lab',m',h2,h3,(h4.keep hc hM).restrict λk _ hk=>hD k hk⟩
def z5w(D:Nat->Prop)(w:World)(m:DM)(bx:Nat)(X:XV)(r:Except Int DR)(e:Ending)(w':World):Prop:=Chg (λk _=>D k\/k=bx) w w'/\(∃X',XAt w' bx X'/\z3z X X')/\ ∃er,e= .returned (.int .i64 er)/\MRes D w' m r er
theorem DMach.made_is(h:DMach D lab w m d)(hk:DOk d)(hx:XAt w bx X)(nx: ¬D bx)(hD: ∀k,w.heap.size<=k->D k):
  Cl 45 #[ptr m.br,ptr bx, .string u] w (z5w D w m bx X (zcc d u)):=by
 have KS:=hid (h.inSh hk.s u w (Below.refl _ _))
 have KL:=hid (h.inLoc ya7 u w (Below.refl _ _))
 have hset: ∀(W:World) (v:Value),Chg (λk j=>k=bx/\j=1) W (W.setCell ⟨bx,1,none⟩ v):=λW v=>(Chg.refl _ W).setCell (λ_=>⟨rfl,rfl⟩) v
 have nD: ∀k i,D k->¬(k=bx/\i=1):=λk i hk e=>nx (e.1▸hk)
 unfold zcc
 rw [zit]
 cases hs:Uh (d.shared.map (·.1)) u with
 |true=>
  obtain ⟨kk,hkk,_⟩:=zdc hs
  rw [hkk] at KS
  refine (z1f h.c1 yai KS).mono ?_
  rintro e w' ⟨rfl,rfl⟩
  rw [if_pos rfl]
  exact ⟨Chg.refl _ _,⟨X,hx,rfl,rfl,rfl⟩,_,rfl,rfl⟩
 |false=>
  have hks:=zdd hs
  rw [if_neg yaj]
  cases hl:Uh d.locals u with
  |true=>
   obtain ⟨kk,hkk,_⟩:=zdc hl
   rw [hkk] at KL
   rw [if_pos rfl]
   refine (zxn h.c1 h.c4 (hx.c 1 _ rfl) (hx.f 1) yai yai KS KL).mono ?_
   rintro e w' ⟨rfl,rfl⟩
   exact ⟨(hset w _).mono λk j _ e=> .inr e.1,⟨_,hx.set (X':={X with v:=kk}) (j:=1) yai rfl,rfl,rfl,rfl⟩,_,rfl,rfl,lab,m,rfl,rfl,h.keep (hset w _) nD⟩
  |false=>
   have hkl:=zdd hl
   rw [if_neg yaj]
   have c4:=h.c4
   have lr:=h.lrow
   obtain ⟨p,c,hv⟩: ∃p c,m.lv= .slice p d.locals.length c:=by
    rcases lr.2 with ⟨e1,e2⟩|⟨g,cap,cur,e1,_⟩
    ·exact ⟨none,0,by rw [e1,e2]⟩
    ·exact ⟨_,_,e1⟩
   by_cases hf:d.locals.length=4
   ·rw [if_pos hf]
    rw [hv] at c4 KL
    rw [hf] at c4 KL
    refine (zti h.c1 c4 yai hkl KS KL).mono ?_
    rintro e w' ⟨rfl,rfl⟩
    exact ⟨Chg.refl _ _,⟨X,hx,rfl,rfl,rfl⟩,_,rfl,rfl⟩
   ·rw [if_neg hf]
    have nl: ∀b,m.lv.ownBlock=some b->b≠m.br/\b≠bx:=λb hb=>⟨λe=>(by
     have:=(h.ll b hb).1
     rw [e,h.lb.1] at this
     cases this),λe=>nx (e▸(h.ll b hb).2)⟩
    rw [hv] at c4 KL lr nl
    refine (zxo h.c1 c4 (h.free 4) ya7 lr nl (λe=>nx (e▸h.lb.2)) (hx.c 1 _ rfl) (hx.f 1) yai hkl KS KL).mono ?_
    rintro e w' ⟨rfl,w3,g,cp,ho,hc,hg,rfl⟩
    rw [<-hv] at hc hg
    have hc':Chg (λb _=>m.lv.ownBlock=some b) w w3:=((Chg.refl _ w).alloc _).trans hc
    obtain ⟨lab',h'⟩:=h.addLocal (u:=u) hD ho hc' (hg.imp id (λe=>by omega))
    have hb4:Chg (λk j=>k=m.br/\j=4) w3 (w3.setCell ⟨m.br,4,none⟩ (.slice (some ⟨g,0,none⟩) (d.locals.length+1) cp)):=(Chg.refl _ w3).setCell (λ_=>⟨rfl,rfl⟩) _
    have hc2:Chg (λk _=>D k\/k=bx) w (w3.setCell ⟨m.br,4,none⟩ (.slice (some ⟨g,0,none⟩) (d.locals.length+1) cp)):=(hc'.mono λk _ _ e=> .inl (h.ll k e).2).trans (hb4.mono λk _ _ e=> .inl (e.1▸h.lb.2))
    have hx3:XAt (w3.setCell ⟨m.br,4,none⟩ (.slice (some ⟨g,0,none⟩) (d.locals.length+1) cp)) bx X:=(hx.keep hc' λj e=>nx (h.ll bx e).2).keep hb4 λj e=>nx (e.1▸h.lb.2)
    exact ⟨hc2.trans ((hset _ _).mono λk j _ e=> .inr e.1),⟨_,hx3.set (X':={X with v:=(d.locals.length:Int)}) (j:=1) yai rfl,rfl,rfl,rfl⟩,_,rfl,rfl,lab',{m with lv:= .slice (some ⟨g,0,none⟩) (d.locals.length+1) cp},rfl,rfl,h'.keep (hset _ _) nD⟩
end
def xz(k:Nat)(n:Int):XV:=⟨k,0,ByteArray.empty,false,0,false,0,false,0,0,0,0,n,0⟩
abbrev zxp(w:World)(k:Nat)(n:Int):World:=(w.alloc (.cells (xz 0 0).cells.toArray 77)).alloc (.cells (xz k n).cells.toArray 77)
abbrev z30(w:World)(k:Nat)(n:Int):World:=(w.alloc (.cells (xz k n).cells.toArray 77)).alloc (.cells (xz k n).cells.toArray 77)
abbrev zld(w:World)(b:Nat)(X:XV):World:=((((((((((((((w.setCell ⟨b,0,none⟩ (.int .u8 X.k)).setCell ⟨b,1,none⟩ (.int .i64 X.v)).setCell ⟨b,2,none⟩ (.string X.op)).setCell ⟨b,3,none⟩ (.bool X.al)).setCell ⟨b,4,none⟩ (.int .i64 X.av)).setCell ⟨b,5,none⟩ (.bool X.bl)).setCell ⟨b,6,none⟩ (.int .i64 X.bv)).setCell ⟨b,7,none⟩ (.bool X.tl)).setCell ⟨b,8,none⟩ (.int .i64 X.tv)).setCell ⟨b,9,none⟩ (.int .i64 X.fi)).setCell ⟨b,10,none⟩ (.int .i64 X.si)).setCell ⟨b,11,none⟩ (.int .i64 X.to)).setCell ⟨b,12,none⟩ (.int .i64 X.n)).setCell ⟨b,13,none⟩ (.int .i64 X.dp))
def nD(D:Nat->Prop)(w:World)(k:Nat):Prop:=D k/\k≠w.heap.size/\k≠w.heap.size+1
structure NodeX(D:Nat->Prop)(w w':World)(X:XV):Prop where
 x:XAt w' (w.heap.size+1) X
 r:XAt w' w.heap.size (xz 0 0)
 chg:Chg (λk _=>D k) w w'
 hD: ∀k,w.heap.size<=k->D k
structure NodeS(D:Nat->Prop)(w w':World)(lab:Nat->Nat×Nat)(m:DM)(d:DR)(X:XV):Prop where
 mach:DMach (nD D w) lab w' m d
 s:NodeX D w w' X
def Jm(D:Nat->Prop)(w:World)(m:DM)(k:Nat)(n:Int)(r:Except Int DR)(e:Ending)(w':World):Prop:=Chg (λk _=>D k) w w'/\ ∃(X:XV) (er:Int),X.k=k/\X.n=n/\X.dp=0/\e= .returned (.tuple #[.agg X.cells.toArray, .int .i64 er])/\MRes D w' m r er
def okP:Bool->Except Int DR->Except Int DR
 |true,r=>r
 |false,_=> .error 4
section
variable{D:Nat->Prop}{lab:Nat->Nat×Nat}{w w' w2:World}{m:DM}{d:DR}{X X':XV}
theorem ztk{X:XV}{dp:Int}(h1:X.k=k)(h2:X.n=n)(h3:X.dp=dp):({X with k:=k,n:=n,dp:=dp}:XV)=X:=by
 subst h1 h2 h3
 rfl
theorem Sy(w:World)(X:XV):XAt (w.alloc (.cells X.cells.toArray 77)) w.heap.size X where
 c:=λj u hj=>by
  unfold World.cell?
  rw [World.alloc_heap_new]
  simpa using hj
 f:=λj=>by
  unfold World.frozen?
  rw [World.alloc_heap_new]
  simp
theorem NodeS.init(h:DMach D lab w m d)(hD: ∀k,w.heap.size<=k->D k)(k:Nat)(n:Int):NodeS D w (zxp w k n) lab m d (xz k n):=by
 have h1:(w.alloc (.cells (xz 0 0).cells.toArray 77)).heap.size=w.heap.size+1:=yaj
 have b:Below w.heap.size w (zxp w k n):=((Below.refl _ w).alloc (Nat.le_refl _) _).alloc yai _
 refine ⟨(h.restrict λk hk hd=>⟨hd,by omega,by omega⟩).below b,?_,(Sy w _).below ((Below.refl _ _).alloc (Nat.le_refl _) _),Chg.of_below b,hD⟩
 have:=Sy (w.alloc (.cells (xz 0 0).cells.toArray 77)) (xz k n)
 rw [h1] at this
 exact this
theorem NodeX.below(h:NodeX D w w' X)(hb:Below w'.heap.size w' w2):NodeX D w w2 X:=
 ⟨h.x.below hb,h.r.below hb,h.chg.then (Chg.of_below (M:=λ_ _=>False) hb) (λ_ _ _ e=>e.elim),h.hD⟩
theorem NodeS.below(h:NodeS D w w' lab m d X)(hb:Below w'.heap.size w' w2):NodeS D w w2 lab m d X:=⟨h.mach.below hb,h.s.below hb⟩
theorem NodeX.set(h:NodeX D w w' X){u:Value}(hj:j<14)(hX:X'.cells=X.cells.set j u):NodeX D w (w'.setCell ⟨w.heap.size+1,j,none⟩ u) X':=by
 have hc:Chg (λk i=>k=w.heap.size+1/\i=j) w' (w'.setCell ⟨w.heap.size+1,j,none⟩ u):=(Chg.refl _ w').setCell (λ_=>⟨rfl,rfl⟩) _
 exact ⟨h.x.set hj hX,h.r.keep hc λi e=>by omega,h.chg.then hc λk i hk e=>by omega,h.hD⟩
theorem NodeS.set(h:NodeS D w w' lab m d X){u:Value}(hj:j<14)(hX:X'.cells=X.cells.set j u):NodeS D w (w'.setCell ⟨w.heap.size+1,j,none⟩ u) lab m d X':=by
 have hc:Chg (λk i=>k=w.heap.size+1/\i=j) w' (w'.setCell ⟨w.heap.size+1,j,none⟩ u):=(Chg.refl _ w').setCell (λ_=>⟨rfl,rfl⟩) _
 exact ⟨h.mach.keep hc λk i hk e=>hk.2.2 e.1,h.s.set hj hX⟩
theorem NodeX.to(h:NodeX D w w' X)(hc:Chg (λk _=>nD D w k\/k=w.heap.size+1) w' w2)(hx:XAt w2 (w.heap.size+1) X'):NodeX D w w2 X':=
 ⟨hx,h.r.keep hc λi e=>e.elim (λe=>e.2.1 rfl) (λe=>by omega),h.chg.then hc λk i hk e=>e.elim (λe=>e.1) (λe=>by omega),h.hD⟩
theorem zxq(h:XAt w' b (xz 0 0))(X:XV):XAt (zld w' b X) b X:=((((((((((((((h.set (X':={xz 0 0 with k:=X.k}) (j:=0) yai rfl).set (X':={xz 0 0 with k:=X.k,v:=X.v}) (j:=1) yai rfl).set (X':={xz 0 0 with k:=X.k,v:=X.v,op:=X.op}) (j:=2) yai rfl).set (X':={xz 0 0 with k:=X.k,v:=X.v,op:=X.op,al:=X.al}) (j:=3) yai rfl).set (X':={xz 0 0 with k:=X.k,v:=X.v,op:=X.op,al:=X.al,av:=X.av}) (j:=4) yai rfl).set (X':={xz 0 0 with k:=X.k,v:=X.v,op:=X.op,al:=X.al,av:=X.av,bl:=X.bl}) (j:=5) yai rfl).set (X':={xz 0 0 with k:=X.k,v:=X.v,op:=X.op,al:=X.al,av:=X.av,bl:=X.bl,bv:=X.bv}) (j:=6) yai rfl).set (X':={xz 0 0 with k:=X.k,v:=X.v,op:=X.op,al:=X.al,av:=X.av,bl:=X.bl,bv:=X.bv,tl:=X.tl}) (j:=7) yai rfl).set (X':={xz 0 0 with k:=X.k,v:=X.v,op:=X.op,al:=X.al,av:=X.av,bl:=X.bl,bv:=X.bv,tl:=X.tl,tv:=X.tv}) (j:=8) yai rfl).set (X':={xz 0 0 with k:=X.k,v:=X.v,op:=X.op,al:=X.al,av:=X.av,bl:=X.bl,bv:=X.bv,tl:=X.tl,tv:=X.tv,fi:=X.fi}) (j:=9) yai rfl).set (X':={xz 0 0 with k:=X.k,v:=X.v,op:=X.op,al:=X.al,av:=X.av,bl:=X.bl,bv:=X.bv,tl:=X.tl,tv:=X.tv,fi:=X.fi,si:=X.si}) (j:=10) yai rfl).set (X':={xz 0 0 with k:=X.k,v:=X.v,op:=X.op,al:=X.al,av:=X.av,bl:=X.bl,bv:=X.bv,tl:=X.tl,tv:=X.tv,fi:=X.fi,si:=X.si,to:=X.to}) (j:=11) yai rfl).set (X':={xz 0 0 with k:=X.k,v:=X.v,op:=X.op,al:=X.al,av:=X.av,bl:=X.bl,bv:=X.bv,tl:=X.tl,tv:=X.tv,fi:=X.fi,si:=X.si,to:=X.to,n:=X.n}) (j:=12) yai rfl).set (X':={xz 0 0 with k:=X.k,v:=X.v,op:=X.op,al:=X.al,av:=X.av,bl:=X.bl,bv:=X.bv,tl:=X.tl,tv:=X.tv,fi:=X.fi,si:=X.si,to:=X.to,n:=X.n,dp:=X.dp}) (j:=13) yai rfl)
theorem NodeX.fin(h:NodeX D w w' X)(hb:Below (zld w' w.heap.size X).heap.size (zld w' w.heap.size X) w2):
  Chg (λk _=>D k) w w2/\XAt w2 w.heap.size X/\ ∀m r er,MRes (nD D w) w' m r er->MRes D w2 m r er:=by
 have hc:Chg (λk _=>k=w.heap.size) w' (zld w' w.heap.size X):=by
  unfold zld
  exact ((((((((((((((Chg.refl (λk _=>k=w.heap.size) w').setCell (λ_=>rfl) _).setCell (λ_=>rfl) _).setCell (λ_=>rfl) _).setCell (λ_=>rfl) _).setCell (λ_=>rfl) _).setCell (λ_=>rfl) _).setCell (λ_=>rfl) _).setCell (λ_=>rfl) _).setCell (λ_=>rfl) _).setCell (λ_=>rfl) _).setCell (λ_=>rfl) _).setCell (λ_=>rfl) _).setCell (λ_=>rfl) _).setCell (λ_=>rfl) _
 have hc2:Chg (λk _=>k=w.heap.size) w' w2:=hc.then (Chg.of_below (M:=λ_ _=>False) hb) (λ_ _ _ e=>e.elim)
 exact ⟨h.chg.then hc2 λk i hk e=>by omega,(zxq h.r X).below hb,λm r er hr=>hr.keep hc2 (λk i hk e=>hk.2.1 e) λk hk=>hk.1⟩
theorem zne{W:World}(ts:Array Value)(h:XAt W b X)(h4:ts.getD 4 undef=ptr b)(h5:ts.getD 5 undef= .int .i64 er):Sem.run Tryz.prog (results Tryz.f25 ts) W= .ok (.tuple #[.agg X.cells.toArray, .int .i64 er]) W:=by
 obtain ⟨x0,x1,x2,x3,x4,x5,x6,x7,x8,x9,x10,x11,x12,x13⟩:=h.all
 have q4:ts[4]?.getD undef= .pointer (some ⟨b,0,none⟩):=by simpa [ptr] using h4
 have q5:ts[5]?.getD undef= .int .i64 er:=by simpa using h5
 simp [results,Tryz.results25,go_sem,q4,q5,x0,x1,x2,x3,x4,x5,x6,x7,x8,x9,x10,x11,x12,x13,XV.cells]
theorem Zi(h:NodeX D w w' X)(hb:Below (zld w' w.heap.size X).heap.size (zld w' w.heap.size X) w2)(hr:MRes (nD D w) w' m r er)(hk:X.k=k)(hn:X.n=n)(hdp:X.dp=0)
  (h4:a.tmps.getD 4 undef=ptr w.heap.size) (h5:a.tmps.getD 5 undef= .int .i64 er) (hd:a.defers=[]):bodyPost Tryz.prog Tryz.f25 (Jm D w m k n r) .ret a w2:=by
 obtain ⟨f1,f2,f3⟩:=h.fin hb
 exact bodyPost_ret (zne _ f2 h4 h5) hd ⟨f1,X,er,hk,hn,hdp,rfl,f3 m r er hr⟩
end
section
variable{D:Nat->Prop}{lab:Nat->Nat×Nat}{w:World}{m:DM}{d:DR}{u v x y s f:ByteArray}{bw cap:Nat}
theorem zxr(h:DMach D lab w m d)(hk:DOk d)(hD: ∀k,w.heap.size<=k->D k)(w0:w.cell? ⟨bw,0,none⟩=some (.string Vp))(w1:w.cell? ⟨bw,1,none⟩=some (.string u)):
  Cl 25 #[ptr m.br, .slice (some ⟨bw,0,none⟩) 2 cap] w (Jm D w m 111 0 (okP (atV d.locals u).2.2 (.ok d))):=by
 have hlw:bw<w.heap.size:=blt w0
 have eSet:(Vp.toList==[115,101,116])=false:=yak
 have eGet:(Vp.toList==[103,101,116])=false:=yak
 have ePut:(Vp.toList==[112,117,116])=false:=yak
 have eOut:(Vp.toList==[111,117,116])=true:=yak
 have eIf:(Vp.toList==[105,102])=false:=yak
 have hl:d.locals.length<1000000:=ya7
 have K0:=hid ((NodeS.init h hD 111 0).mach.atom hl u)
 have H0:=hid (NodeS.init h hD 111 0)
 clear h hD hk hl
 generalize atV d.locals u=av at K0⊢
 obtain ⟨al,av,ok⟩:=av
 dsimp only at K0⊢
 go_enter Tryz.func25,Tryz.ntmps25
 go_wp2_with fail
 refine K0.out.mono ?_
 rintro e W ⟨rfl,hb⟩
 have H1:=hid (H0.out.below hb)
 have H2:=hid ((H1.out.set (X':={xz 111 0 with al:=al}) (u:= .bool al) (j:=3) yai rfl).set (X':={xz 111 0 with al:=al,av:=av}) (u:= .int .i64 av) (j:=4) yai rfl)
 clear hb H0 K0
 obtain ⟨x0,x1,x2,x3,x4,x5,x6,x7,x8,x9,x10,x11,x12,x13⟩:=H1.out.s.x.all
 obtain ⟨y0,y1,y2,y3,y4,y5,y6,y7,y8,y9,y10,y11,y12,y13⟩:=H1.out.s.r.all
 have fx:=H1.out.s.x.f
 have fy:=H1.out.s.r.f
 have lx:=H1.out.s.x.lt
 have ly:=H1.out.s.r.lt
 dsimp only [xz] at x0 x1 x2 x3 x4 x5 x6 x7 x8 x9 x10 x11 x12 x13 y0 y1 y2 y3 y4 y5 y6 y7 y8 y9 y10 y11 y12 y13
 cases ok with
 |false=>exact z82
 |true=>exact z9h
theorem z1i(h:DMach D lab w m d)(hk:DOk d)(hD: ∀k,w.heap.size<=k->D k)(w0:w.cell? ⟨bw,0,none⟩=some (.string Fe))(w1:w.cell? ⟨bw,1,none⟩=some (.string u)):
  Cl 25 #[ptr m.br, .slice (some ⟨bw,0,none⟩) 2 cap] w (Jm D w m 122 0 (okP (atV d.locals u).2.2 (.ok d))):=by
 have hlw:bw<w.heap.size:=blt w0
 have eSet:(Fe.toList==[115,101,116])=false:=yak
 have eGet:(Fe.toList==[103,101,116])=false:=yak
 have ePut:(Fe.toList==[112,117,116])=false:=yak
 have eOut:(Fe.toList==[111,117,116])=false:=yak
 have eIf:(Fe.toList==[105,102])=true:=yak
 have hl:d.locals.length<1000000:=ya7
 have K0:=hid ((NodeS.init h hD 122 0).mach.atom hl u)
 have H0:=hid (NodeS.init h hD 122 0)
 clear h hD hk hl
 generalize atV d.locals u=av at K0⊢
 obtain ⟨al,av,ok⟩:=av
 dsimp only at K0⊢
 go_enter Tryz.func25,Tryz.ntmps25
 go_wp2_with fail
 refine K0.out.mono ?_
 rintro e W ⟨rfl,hb⟩
 have H1:=hid (H0.out.below hb)
 have H2:=hid ((H1.out.set (X':={xz 122 0 with al:=al}) (u:= .bool al) (j:=3) yai rfl).set (X':={xz 122 0 with al:=al,av:=av}) (u:= .int .i64 av) (j:=4) yai rfl)
 clear hb H0 K0
 obtain ⟨x0,x1,x2,x3,x4,x5,x6,x7,x8,x9,x10,x11,x12,x13⟩:=H1.out.s.x.all
 obtain ⟨y0,y1,y2,y3,y4,y5,y6,y7,y8,y9,y10,y11,y12,y13⟩:=H1.out.s.r.all
 have fx:=H1.out.s.x.f
 have fy:=H1.out.s.r.f
 have lx:=H1.out.s.x.lt
 have ly:=H1.out.s.r.lt
 dsimp only [xz] at x0 x1 x2 x3 x4 x5 x6 x7 x8 x9 x10 x11 x12 x13 y0 y1 y2 y3 y4 y5 y6 y7 y8 y9 y10 y11 y12 y13
 cases ok with
 |false=>exact z82
 |true=>exact z9h
theorem ziw(h:DMach D lab w m d)(h4:a.tmps.getD 4 undef=ptr w.heap.size)(h5:a.tmps.getD 5 undef= .int .i64 0)(hd:a.defers=[]):bodyPost Tryz.prog Tryz.f25 (Jm D w m k n (.ok d)) .ret a (z30 w k n):=by
 have h1:(w.alloc (.cells (xz k n).cells.toArray 77)).heap.size=w.heap.size+1:=yaj
 have b:Below w.heap.size w (z30 w k n):=((Below.refl _ w).alloc (Nat.le_refl _) _).alloc yai _
 exact bodyPost_ret (zne _ ((Sy w (xz k n)).below ((Below.refl _ _).alloc (Nat.le_refl _) _)) h4 h5) hd ⟨Chg.of_below b,xz k n,0,rfl,rfl,rfl,rfl,rfl,lab,m,rfl,rfl,h.below b⟩
theorem ztl(h:DMach D lab w m d)(_hk:DOk d)(_hD: ∀k,w.heap.size<=k->D k)(w0:w.cell? ⟨bw,0,none⟩=some (.string Jh))(w1:w.cell? ⟨bw,1,none⟩=some (.string u))(hn:Qk u=some n):
  Cl 25 #[ptr m.br, .slice (some ⟨bw,0,none⟩) 2 cap] w (Jm D w m 108 n (.ok d)):=by
 have hlw:bw<w.heap.size:=blt w0
 have eSet:(Jh.toList==[115,101,116])=false:=yak
 have eGet:(Jh.toList==[103,101,116])=false:=yak
 have ePut:(Jh.toList==[112,117,116])=false:=yak
 have eOut:(Jh.toList==[111,117,116])=false:=yak
 have eIf:(Jh.toList==[105,102])=false:=yak
 have eLoop:(Jh.toList==[108,111,111,112])=true:=yak
 have KN:Hid (∀w,Cl 41 #[.string u] w λe w'=>e= .returned (.tuple #[.int .i64 n, .bool true])/\w'=w):=hid λw=>by
  have:=Ym w u
  rw [Yj hn] at this
  exact this
 have H:=hid h
 clear h hn
 go_enter Tryz.func25,Tryz.ntmps25
 go_wp2_with fail
 refine (KN.out _).mono ?_
 rintro e W ⟨rfl,hw⟩
 subst W
 go_wp2
 exact ziw H.out rfl rfl rfl
theorem zle(h:DMach D lab w m d)(_hk:DOk d)(_hD: ∀k,w.heap.size<=k->D k)(w0:w.cell? ⟨bw,0,none⟩=some (.string Qs)):
  Cl 25 #[ptr m.br, .slice (some ⟨bw,0,none⟩) 1 cap] w (Jm D w m 40 0 (.ok d)):=by
 have hlw:bw<w.heap.size:=blt w0
 have eSet:(Qs.toList==[115,101,116])=false:=yak
 have eGet:(Qs.toList==[103,101,116])=false:=yak
 have ePut:(Qs.toList==[112,117,116])=false:=yak
 have eOut:(Qs.toList==[111,117,116])=false:=yak
 have eIf:(Qs.toList==[105,102])=false:=yak
 have eLoop:(Qs.toList==[108,111,111,112])=false:=yak
 have eAtomic:(Qs.toList==[97,116,111,109,105,99])=true:=yak
 have H:=hid h
 clear h
 go_enter Tryz.func25,Tryz.ntmps25
 go_wp2
 exact ziw H.out rfl rfl rfl
theorem ztm(h:DMach D lab w m d)(hk:DOk d)(hD: ∀k,w.heap.size<=k->D k)(w0:w.cell? ⟨bw,0,none⟩=some (.string Jz))(w1:w.cell? ⟨bw,1,none⟩=some (.string v))(w2:w.cell? ⟨bw,2,none⟩=some (.string x)):
  Cl 25 #[ptr m.br, .slice (some ⟨bw,0,none⟩) 3 cap] w (Jm D w m 115 0 (okP (atV d.locals x).2.2 (zcc d v))):=by
 have hlw:bw<w.heap.size:=blt w0
 have eSet:(Jz.toList==[115,101,116])=true:=yak
 have hl:d.locals.length<1000000:=ya7
 have K0:=hid ((NodeS.init h hD 115 0).mach.atom hl x)
 have H0:=hid (NodeS.init h hD 115 0)
 have HK:=hid hk
 clear h hD hk hl
 generalize atV d.locals x=av at K0⊢
 obtain ⟨al,av,ok⟩:=av
 dsimp only at K0⊢
 go_enter Tryz.func25,Tryz.ntmps25
 go_wp2_with fail
 refine K0.out.mono ?_
 rintro e W ⟨rfl,hb⟩
 have H1:=hid (H0.out.below hb)
 have q1:=(hb.cell (p:=⟨bw,1,none⟩) yan).trans ((((Below.refl _ w).alloc (Nat.le_refl _) _).alloc yaj _).cell (p:=⟨bw,1,none⟩) hlw|>.trans w1)
 have H2:=hid ((H1.out.set (X':={xz 115 0 with al:=al}) (u:= .bool al) (j:=3) yai rfl).set (X':={xz 115 0 with al:=al,av:=av}) (u:= .int .i64 av) (j:=4) yai rfl)
 have lbw:bw<W.heap.size:=blt q1
 have nb1:bw≠w.heap.size+1:=yai
 have nb2:w.heap.size+1≠bw:=yai
 clear hb H0 K0
 obtain ⟨x0,x1,x2,x3,x4,x5,x6,x7,x8,x9,x10,x11,x12,x13⟩:=H1.out.s.x.all
 obtain ⟨y0,y1,y2,y3,y4,y5,y6,y7,y8,y9,y10,y11,y12,y13⟩:=H1.out.s.r.all
 have fx:=H1.out.s.x.f
 have fy:=H1.out.s.r.f
 have lx:=H1.out.s.x.lt
 have ly:=H1.out.s.r.lt
 dsimp only [xz] at x0 x1 x2 x3 x4 x5 x6 x7 x8 x9 x10 x11 x12 x13 y0 y1 y2 y3 y4 y5 y6 y7 y8 y9 y10 y11 y12 y13
 cases ok with
 |false=>exact z82
 |true=>
  have H3:=hid (H2.out.below ((Below.refl _ _).alloc (Nat.le_refl _) (.cells #[.bool al, .int .i64 av] 75)))
  have KM:=hid (H3.out.mach.made_is (u:=v) HK.out H3.out.s.x (λe=>e.2.2 rfl) (λk hk=>⟨H3.out.s.hD k (by have:=H3.out.s.chg.size;omega),by have:=H3.out.s.r.lt;omega,by have:=H3.out.s.x.lt;omega⟩))
  go_wp2_with fail
  refine KM.out.mono ?_
  rintro e W3 ⟨hc,⟨X',hx,s1,s2,s3⟩,er,rfl,hr⟩
  have H4:=hid (H3.out.s.to hc hx)
  have HR:=hid hr
  have HS:=hid (And.intro s1 (And.intro s2 s3))
  clear hc hx hr KM H3 H2 H1 x0 x1 x2 x3 x4 x5 x6 x7 x8 x9 x10 x11 x12 x13 y0 y1 y2 y3 y4 y5 y6 y7 y8 y9 y10 y11 y12 y13 fx fy lx ly s1 s2 s3
  obtain ⟨x0,x1,x2,x3,x4,x5,x6,x7,x8,x9,x10,x11,x12,x13⟩:=H4.out.x.all
  obtain ⟨y0,y1,y2,y3,y4,y5,y6,y7,y8,y9,y10,y11,y12,y13⟩:=H4.out.r.all
  have fx:=H4.out.x.f
  have fy:=H4.out.r.f
  have lx:=H4.out.x.lt
  have ly:=H4.out.r.lt
  dsimp only [xz] at x0 x1 x2 x3 x4 x5 x6 x7 x8 x9 x10 x11 x12 x13 y0 y1 y2 y3 y4 y5 y6 y7 y8 y9 y10 y11 y12 y13
  go_wp2
  exact Zi H4.out (Below.refl _ _) HR.out HS.out.1 HS.out.2.1 HS.out.2.2 rfl rfl rfl
end
end Go.Proofs.YtphcopbffecceaaGreatDoor
