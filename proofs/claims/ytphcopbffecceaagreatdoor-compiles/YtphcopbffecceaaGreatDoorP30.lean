import Derived.Test.YtphcopbffecceaaGreatDoorP29
set_option maxRecDepth 100000
set_option maxHeartbeats 10000000
namespace Go.Proofs.YtphcopbffecceaaGreatDoor
open Go.RowKit
variable{u:ByteArray}{N:List NK}{T:Nat}
theorem z31(h:Vo u=true):Qk u=none:=by
 unfold Vo at h
 simp only [Bool.and_eq_true,decide_eq_true_eq] at h
 obtain ⟨h1,_,h3⟩:=h
 obtain ⟨⟨l⟩⟩:=u
 have h3': ∀b∈l,97<=b.toNat:=λb hb=>by
  have:=List.all_eq_true.1 h3 b hb
  unfold small at this
  simp only [Bool.and_eq_true,decide_eq_true_eq] at this
  exact this.1
 cases l with
 |nil=>simp [ByteArray.size] at h1
 |cons b r=>
  have hb:=h3' b yaj
  refine Vc ?_ λhd _ _=>?_
  ·simp
   intro e
   rw [e] at hb
   simp at hb
  ·have:=hd b yaj
   omega
theorem zbf(l:List ByteArray)(hu:isAt u=true):((Ff u).name.toList.isEmpty||Uh l (Ff u).name)=(atV l u).2.2:=by
 unfold Ff atV
 by_cases h:Vo u=true
 ·rw [if_pos h,z31 h]
  simp [zla h]
 ·rw [if_neg h]
  unfold isAt at hu
  cases hn:Qk u with
  |none=>simp [hn] at hu;exact absurd hu h
  |some n=>
   show (ByteArray.empty.toList.isEmpty||_)=true
   rw [show ByteArray.empty.toList.isEmpty=true by kernel_rfl]
   rfl
def zlf(d:DR)(s:St):Bool:=match Xg s with
 |some f=>Gc d.shared f
 |none=>true
def Vu(d:DR)(s:St):Except Int DR:=okP ((Qj s).all (λv=>v.name.toList.isEmpty||Uh d.locals v.name)&&zlf d s) (if (Vg s).toList.isEmpty=true then .ok d else zcc d (Vg s))
def zcd(s:St):NK:=match zb3 s with
 |k::_=>k
 |[]=>(kL s,0)
def z1j(d:DR)(N:List NK)(s:St)(r:Except Int DR):Except Int DR:=match r with
 | .error e=> .error e
 | .ok d1=>if d.stmts=14 then .error 5 else if Qf s=true then (if d.opn.length=3 then .error 5 else .ok {d1 with thr:=d.thr.dropLast++[N++[zcd s]],opn:=d.opn++[N.length],stmts:=d.stmts+1}) else .ok {d1 with thr:=d.thr.dropLast++[N++[zcd s]],stmts:=d.stmts+1}
theorem zcw:ByteArray.empty.toList.isEmpty=true:=yak
theorem znh(s:St):(Qf s=true->(Vg s).toList.isEmpty=true/\zb3 s=[zcd s])/\(Qf s=false->zcd s=(kL s,0)):=by
 rcases s with ⟨to,a⟩|⟨to,k,a,c⟩|⟨to,f,a⟩|⟨f,a,c⟩|a|⟨⟩|a|n
 all_goals exact ⟨λh=>(by first|exact ⟨zcw,rfl⟩|cases h),λh=>(by first|rfl|cases h)⟩
theorem z1k(d:DR)(N:List NK)(s:St)(hN:d.thr.getLast?=some N)(ho:d.opn.length<=3):dSt d s=if Gd (zhf d N) s=false then .error 3 else z1j d N s (Vu d s):=by
 unfold dSt
 rw [hN]
 dsimp only
 by_cases h1:Gd (zhf d N) s=false
 ·rw [if_pos h1,if_pos h1]
 rw [if_neg h1,if_neg h1]
 obtain ⟨f1,f2⟩:=znh s
 have hn:zfv d s=((Qj s).all (λv=>v.name.toList.isEmpty||Uh d.locals v.name)&&(((Vg s).toList.isEmpty||!Gc d.shared (Vg s))&&zlf d s)):=rfl
 rw [hn]
 unfold zip Vu z1j zcc z4u
 have ho':decide (d.opn.length<=2)=!decide (d.opn.length=3):=by
  by_cases h:d.opn.length=3
  ·simp [h]
  ·simp [h];omega
 rw [ho']
 generalize (Qj s).all (λv=>v.name.toList.isEmpty||Uh d.locals v.name)=A
 generalize zlf d s=B
 generalize Gc d.shared (Vg s)=S
 generalize Uh d.locals (Vg s)=L
 generalize (Vg s).toList.isEmpty=C at f1⊢
 generalize zcd s=K at f1 f2⊢
 generalize zb3 s=O at f1⊢
 have e1:A=false\/B=false\/(A=true/\B=true):=by cases A<;>cases B<;>simp
 rcases e1 with rfl|rfl|⟨rfl,rfl⟩
 ·rfl
 ·rw [Bool.and_false,Bool.and_false];rfl
 cases hH:Qf s with
 |true=>
  obtain ⟨rfl,rfl⟩:=f1 hH
  by_cases h14:d.stmts=14
  ·simp [okP,h14]
  ·by_cases h3:d.opn.length=3<;>simp [okP,h14,h3]
 |false=>
  have:=f2 hH
  subst this
  cases C with
  |true=>by_cases h14:d.stmts=14<;>simp [okP,h14]
  |false=>
   cases S with
   |true=>simp [okP]
   |false=>
    cases L with
    |true=>by_cases h14:d.stmts=14<;>simp [okP,h14]
    |false=>
     by_cases h4:d.locals.length=4
     ·simp [okP,h4]
     ·by_cases h14:d.stmts=14<;>simp [okP,h14,h4]
theorem zto(us:List ByteArray):stW (Jz::us)=(match us with|[v,x]=>St.set v (Ff x)|[v,x,y,z]=>St.op v ((Uj y).getD 0) (Ff x) (Ff z)|_=>St.atomic):=by
 unfold stW
 dsimp only
 rw [if_pos rfl]
 rfl
theorem ztp(us:List ByteArray):stW (Vd::us)=(match us with|[v,x]=>St.get v x zPV|[v,x,_,z]=>St.get v x (Ff z)|_=>St.atomic):=by
 unfold stW
 dsimp only
 rw [if_neg yal,if_pos rfl]
 rfl
theorem ztq(us:List ByteArray):stW (Va::us)=(match us with|[v,x]=>St.put v zPV (Ff x)|[v,x,_,z]=>St.put v (Ff z) (Ff x)|_=>St.atomic):=by
 unfold stW
 dsimp only
 rw [if_neg yal,if_neg yal,if_pos rfl]
 rfl
theorem ztr(v:ByteArray):stW [Vp,v]=St.out (Ff v):=by
 unfold stW
 dsimp only
 rw [if_neg yal,if_neg yal,if_neg yal,if_pos rfl]
theorem zy9(v:ByteArray):stW [Fe,v]=St.iff (Ff v):=by
 unfold stW
 dsimp only
 rw [if_neg yal,if_neg yal,if_neg yal,if_neg yal,if_pos rfl]
theorem zni(v:ByteArray):stW [Jh,v]=St.loop ((Qk v).getD 0):=by
 unfold stW
 dsimp only
 rw [if_neg yal,if_neg yal,if_neg yal,if_neg yal,if_neg yal,if_pos rfl]
theorem zfz:stW [Qs]=St.atomic:=by
 unfold stW
 dsimp only
 rw [if_neg yal,if_neg yal,if_neg yal,if_neg yal,if_neg yal,if_neg yal]
theorem zza(l:List ByteArray):(zPV.name.toList.isEmpty||Uh l zPV.name)=true:=by
 show (ByteArray.empty.toList.isEmpty||_)=true
 rw [zcw]
 rfl
section
variable{D:Nat->Prop}{lab:Nat->Nat×Nat}{w:World}{m:DM}{d:DR}{bw cap:Nat}
theorem DMach.node_is(h:DMach D lab w m d)(hk:DOk d)(hD: ∀k,w.heap.size<=k->D k)(nw: ¬D bw)(ht:d.thr≠[])(u:ByteArray)(us:List ByteArray)(hw:StrsAt w bw (u::us))(hb:Jr (u::us)=true)(n1:u≠Qy)(n2:u≠Qt)(n3:u≠Zd):
  Cl 25 #[ptr m.br, .slice (some ⟨bw,0,none⟩) (us.length+1) cap] w (Jm D w m (zcd (stW (u::us))).1 (zcd (stW (u::us))).2 (Vu d (stW (u::us)))):=by
 rcases Yk u with rfl|rfl|rfl|rfl|rfl|rfl|rfl|rfl|rfl|rfl|⟨nshared,nthread,nend,natomic,nset,nget,nput,nout,nif,nloop⟩
 ·exact absurd rfl n1
 ·exact absurd rfl n2
 ·exact absurd rfl n3
 ·rw [Zg] at hb
  have:us=[]:=ybu
  subst this
  have e:Vu d St.atomic= .ok d:=by
   unfold Vu zlf
   simp only [Qj,Xg,Vg,List.all_nil,zcw]
   rfl
  rw [zfz,e]
  exact zle h hk hD (hw 0 yaj)
 ·rw [Gu] at hb
  rw [zto]
  match us,hb,hw with
  |[],hb,_=>simp at hb
  |[v],hb,_=>simp at hb
  |[v,x],hb,hw=>
   simp at hb
   have e:Vu d (St.set v (Ff x))=okP (atV d.locals x).2.2 (zcc d v):=by
    unfold Vu zlf
    simp only [Qj,Xg,Vg,List.all_cons,List.all_nil,zbf d.locals hb.2,Bool.and_true,zla hb.1]
    simp
   show Calls _ _ _ _ (Jm D w m _ _ (Vu d (St.set v (Ff x))))
   rw [e]
   exact ztm h hk hD (hw 0 yaj) (hw 1 yaj) (hw 2 yaj)
  |[v,x,y],hb,_=>simp at hb
  |[v,x,y,z],hb,hw=>
   simp at hb
   obtain ⟨h1,h2,h3,h4⟩:=hb
   obtain ⟨k,hy⟩:=Option.isSome_iff_exists.1 h3
   have e:Vu d (St.op v ((Uj y).getD 0) (Ff x) (Ff z))=okP ((atV d.locals x).2.2&&(atV d.locals z).2.2) (zcc d v):=by
    unfold Vu zlf
    simp only [Qj,Xg,Vg,List.all_cons,List.all_nil,zbf d.locals h2,zbf d.locals h4,Bool.and_true,zla h1]
    simp
   show Calls _ _ _ _ (Jm D w m _ _ (Vu d (St.op v ((Uj y).getD 0) (Ff x) (Ff z))))
   rw [e]
   exact ztn h hk hD (hw 0 yaj) (hw 1 yaj) (hw 2 yaj) (hw 3 yaj) (hw 4 yaj) nw hy
  |v::x::y::z::t::r,hb,_=>simp at hb
 ·rw [Es] at hb
  rw [ztp]
  match us,hb,hw with
  |[],hb,_=>simp at hb
  |[v],hb,_=>simp at hb
  |[v,x],hb,hw=>
   simp at hb
   have e:Vu d (St.get v x zPV)=okP (Gc d.shared x&&(decide (3=3)||(atV d.locals v).2.2)) (zcc d v):=by
    unfold Vu zlf
    simp only [Qj,Xg,Vg,List.all_cons,List.all_nil,zza,Bool.and_true,zla hb.1]
    simp
   show Calls _ _ _ _ (Jm D w m _ _ (Vu d (St.get v x zPV)))
   rw [e]
   exact znf h hk hD (hw 0 yaj) (hw 1 yaj) (hw 2 yaj) nw ht (.inl rfl)
  |[v,x,y],hb,_=>simp at hb
  |[v,x,y,z],hb,hw=>
   simp at hb
   obtain ⟨h1,h2,h3,h4⟩:=hb
   have e:Vu d (St.get v x (Ff z))=okP (Gc d.shared x&&(decide (5=3)||(atV d.locals z).2.2)) (zcc d v):=by
    unfold Vu zlf
    simp only [Qj,Xg,Vg,List.all_cons,List.all_nil,zbf d.locals h4,Bool.and_true,zla h1]
    simp [Bool.and_comm]
   show Calls _ _ _ _ (Jm D w m _ _ (Vu d (St.get v x (Ff z))))
   rw [e]
   exact znf h hk hD (hw 0 yaj) (hw 1 yaj) (hw 2 yaj) nw ht (.inr ⟨rfl,hw 4 yaj⟩)
  |v::x::y::z::t::r,hb,_=>simp at hb
 ·rw [Et] at hb
  rw [ztq]
  match us,hb,hw with
  |[],hb,_=>simp at hb
  |[v],hb,_=>simp at hb
  |[v,x],hb,hw=>
   simp at hb
   have e:Vu d (St.put v zPV (Ff x))=okP ((Gc d.shared v&&(decide (3=3)||(atV d.locals v).2.2))&&(atV d.locals x).2.2) (.ok d):=by
    unfold Vu zlf
    simp only [Qj,Xg,Vg,List.all_cons,List.all_nil,zza,zbf d.locals hb.2,Bool.and_true,zcw]
    simp [Bool.and_comm]
   show Calls _ _ _ _ (Jm D w m _ _ (Vu d (St.put v zPV (Ff x))))
   rw [e]
   exact zng h hk hD (hw 0 yaj) (hw 1 yaj) (hw 2 yaj) nw ht (.inl rfl)
  |[v,x,y],hb,_=>simp at hb
  |[v,x,y,z],hb,hw=>
   simp at hb
   obtain ⟨h1,h2,h3,h4⟩:=hb
   have e:Vu d (St.put v (Ff z) (Ff x))=okP ((Gc d.shared v&&(decide (5=3)||(atV d.locals z).2.2))&&(atV d.locals x).2.2) (.ok d):=by
    unfold Vu zlf
    simp only [Qj,Xg,Vg,List.all_cons,List.all_nil,zbf d.locals h4,zbf d.locals h2,Bool.and_true,zcw]
    generalize (atV d.locals z).2.2=a
    generalize (atV d.locals x).2.2=b
    generalize Gc d.shared v=c
    cases a<;>cases b<;>cases c<;>rfl
   show Calls _ _ _ _ (Jm D w m _ _ (Vu d (St.put v (Ff z) (Ff x))))
   rw [e]
   exact zng h hk hD (hw 0 yaj) (hw 1 yaj) (hw 2 yaj) nw ht (.inr ⟨rfl,hw 4 yaj⟩)
  |v::x::y::z::t::r,hb,_=>simp at hb
 ·rw [Eu] at hb
  obtain ⟨v,rfl,_⟩:=zb8 us hb
  have e:Vu d (St.out (Ff v))=okP (atV d.locals v).2.2 (.ok d):=z9x
  rw [ztr,e]
  exact zxr h hk hD (hw 0 yaj) (hw 1 yaj)
 ·rw [zcy] at hb
  obtain ⟨v,rfl,_⟩:=zb8 us hb
  have e:Vu d (St.iff (Ff v))=okP (atV d.locals v).2.2 (.ok d):=z9x
  rw [zy9,e]
  exact z1i h hk hD (hw 0 yaj) (hw 1 yaj)
 ·rw [Uf] at hb
  match us,hb,hw with
  |[],hb,_=>simp at hb
  |[v],hb,hw=>
   have hn: ∃n,Qk v=some n:=by
    unfold Sx at hb
    cases e:Qk v with
    |none=>simp [e] at hb
    |some n=>exact ⟨n,rfl⟩
   obtain ⟨n,hn⟩:=hn
   have e:Vu d (St.loop n)= .ok d:=by
    unfold Vu zlf
    simp only [Qj,Xg,Vg,List.all_nil,zcw]
    rfl
   rw [zni,hn]
   show Calls _ _ _ _ (Jm D w m _ _ (Vu d (St.loop n)))
   rw [e]
   exact ztl h hk hD (hw 0 yaj) (hw 1 yaj) hn
  |v::x::r,hb,_=>simp at hb
 ·exact z99
end
section
variable{w:World}{m:DM}{d:DR}
theorem zix(a b:Nat):((a:Int)==(b:Int))=decide (a=b):=by
 by_cases h:a=b
 ·simp [h]
 ·simp [h];omega
def Xx(d:DR)(N:List NK)(i:Nat):Bool:=(d.opn.take i).any λo=>decide ((N[o]?).map (·.1)=some 40)
theorem Fv(d:DR)(N:List NK)(i a:Nat)(k:NK)(hi:d.opn[i]?=some a)(ha:N[a]?=some k):Xx d N (i+1)=(Xx d N i||decide (k.1=40)):=by
 unfold Xx
 have hl:i<d.opn.length:=(List.getElem?_eq_some_iff.1 hi).1
 rw [List.take_succ_eq_append_getElem hl,List.any_append]
 have e:d.opn[i]=a:=by rw [List.getElem?_eq_getElem hl] at hi;simpa using hi
 simp [e,ha]
structure InAt(w:World)(m:DM)(d:DR)(N:List NK)(op:Option Addr)(tnv:Value)(co gt ct T:Nat):Prop where
 c0:w.cell? ⟨m.br,0,none⟩=some (ptr m.bp)
 c5:w.cell? ⟨m.br,5,none⟩=some (.slice op d.opn.length co)
 p0:w.cell? ⟨m.bp,0,none⟩=some (.slice (some ⟨gt,0,none⟩) (T+1) ct)
 tc:w.cell? ⟨gt,T,none⟩=some tnv
 oc: ∀(i a:Nat),d.opn[i]?=some a->∃go gn cn,∃k:NK,op=some ⟨go,0,none⟩/\tnv= .slice (some ⟨gn,0,none⟩) N.length cn/\N[a]?=some k/\w.cell? ⟨go,i,none⟩=some (.int .i64 (a:Int))/\w.cell? ⟨gn,a*14,none⟩=some (.int .u8 (k.1:Int))
theorem InAt.below{w':World}{op:Option Addr}{tnv:Value}{co gt ct:Nat}(h:InAt w m d N op tnv co gt ct T)(hb:Below w.heap.size w w'):InAt w' m d N op tnv co gt ct T where
 c0:=(hb.cell (p:=⟨m.br,0,none⟩) (blt h.c0)).trans h.c0
 c5:=(hb.cell (p:=⟨m.br,5,none⟩) (blt h.c5)).trans h.c5
 p0:=(hb.cell (p:=⟨m.bp,0,none⟩) (blt h.p0)).trans h.p0
 tc:=(hb.cell (p:=⟨gt,T,none⟩) (blt h.tc)).trans h.tc
 oc:=λi a hi=>by
  obtain ⟨go,gn,cn,k,h1,h2,h3,h4,h5⟩:=h.oc i a hi
  exact ⟨go,gn,cn,k,h1,h2,h3,(hb.cell (p:=⟨go,i,none⟩) (blt h4)).trans h4,(hb.cell (p:=⟨gn,a*14,none⟩) (blt h5)).trans h5⟩
end
structure LayAt(w:World)(m:DM)(d:DR)(N:List NK)(X:XV)(tl:List DT)(t:DT)(gt ct bx:Nat):Prop where
 ts:m.ts=tl++[t]
 tN:t.N=N
 len:d.thr.length=tl.length+1
 tv:m.tv= .slice (some ⟨gt,0,none⟩) (tl.length+1) ct
 row:w.ownsRow 0 77 14 t.nv N.length t.xs
 c0:w.cell? ⟨m.br,0,none⟩=some (ptr m.bp)
 p0:w.cell? ⟨m.bp,0,none⟩=some (.slice (some ⟨gt,0,none⟩) (tl.length+1) ct)
 tc:w.cell? ⟨gt,tl.length,none⟩=some t.nv
 tf:w.frozen? ⟨gt,tl.length,none⟩=false
 x:XAt w bx X
 nt:gt≠m.br/\gt≠m.bp/\gt≠bx
 nr: ∀g,t.nv.ownBlock=some g->g≠m.br/\g≠m.bp/\g≠bx/\g≠gt
section
variable{D:Nat->Prop}{lab:Nat->Nat×Nat}{w w3 W:World}{m:DM}{d:DR}{N:List NK}{X:XV}{tl:List DT}{t:DT}{gt ct bx:Nat}
theorem DMach.layAt(h:DMach D lab w m d)(hN:d.thr.getLast?=some N)(hx:XAt w bx X)(nx: ¬D bx): ∃tl t gt ct,LayAt w m d N X tl t gt ct bx:=by
 have hlen:=Sl h
 have hne:d.thr≠[]:=ycg
 obtain ⟨tl,t,hts⟩: ∃tl t,m.ts=tl++[t]:=z84
 have htl:d.thr.length=tl.length+1:=yb3
 obtain ⟨gt,ct,et,_⟩:=Za h.trow yai
 rw [htl] at et
 have hti:m.ts[tl.length]?=some t:=ybo
 have tN:t.N=N:=z9s
 have hth:=h.th tl.length t hti
 have rt:=h.trow
 rw [et,htl] at rt
 have q:=Qm rt tl.length yai
 have p0:=h.p0
 rw [et] at p0
 have lt:=h.lt gt (by rw [et];rfl)
 have ln:=h.ln tl.length t hti
 have nL: ∀k k' l l',lab k=l->lab k'=l'->l≠l'->k≠k':=λk k' l l' a b c e=>c (by rw [<-a,<-b,e])
 have row:=hth.row
 rw [tN] at row
 refine ⟨tl,t,gt,ct,hts,tN,htl,et,row,h.c0,p0,?_,q.2.1,hx,⟨nL _ _ _ _ lt.1 h.lb.1 yaj,nL _ _ _ _ lt.1 h.lp.1 yaj,λe=>nx (e▸lt.2)⟩,λg hg=>⟨nL _ _ _ _ (ln g hg).1 h.lb.1 yaj,nL _ _ _ _ (ln g hg).1 h.lp.1 yaj,λe=>nx (e▸(ln g hg).2),nL _ _ _ _ (ln g hg).1 lt.1 yaj⟩⟩
 rw [q.1,List.getElem?_map,hti]
 rfl
theorem DMach.lay(h:DMach D lab w m d)(hD: ∀k,w.heap.size<=k->D k)(hl:LayAt w m d N X tl t gt ct bx){g cp:Nat}(hW:Below w.heap.size w W)(ho:w3.ownsRow 0 77 14 (.slice (some ⟨g,0,none⟩) (N.length+1) cp) (N.length+1) (t.xs++X.cells))
  (hc:Chg (λb _=>t.nv.ownBlock=some b) W w3) (hg:t.nv.ownBlock=some g\/g=W.heap.size):
  ∃lab' m',m'.br=m.br/\m'.bp=m.bp/\DMach D lab' (w3.setCell ⟨gt,tl.length,none⟩ (.slice (some ⟨g,0,none⟩) (N.length+1) cp)) m' {d with thr:=d.thr.dropLast++[N++[(X.k,X.n)]]}:=by
 have hti:m.ts[tl.length]?=some t:=by rw [hl.ts];simp
 have nd:=(h.th tl.length t hti).nodes
 rw [hl.tN] at nd
 have e:(N++[(X.k,X.n)]).length=N.length+1:=yaj
 obtain ⟨lab',h'⟩:=h.setThr hD hl.ts hl.tv (N:=N++[(X.k,X.n)]) (xs:=t.xs++X.cells) (by rw [e];exact ho) (nd.app (k:=(X.k,X.n)) (dp:=X.dp) rfl rfl rfl rfl) ((Chg.of_below (M:=λb _=>t.nv.ownBlock=some b) hW).trans hc) (hg.imp id λe=>by have:=hW.size;omega)
 rw [e] at h'
 exact ⟨lab',{m with ts:=tl++[⟨.slice (some ⟨g,0,none⟩) (N.length+1) cp,t.kb,t.xs++X.cells,N++[(X.k,X.n)]⟩]},rfl,rfl,h'⟩
theorem LayAt.mid(hl:LayAt w m d N X tl t gt ct bx)(hW:Below w.heap.size w W)(hc:Chg (λb _=>t.nv.ownBlock=some b) W w3):
  w3.cell? ⟨m.br,0,none⟩=some (ptr m.bp)/\w3.cell? ⟨m.bp,0,none⟩=some (.slice (some ⟨gt,0,none⟩) (tl.length+1) ct)/\w3.cell? ⟨gt,tl.length,none⟩=some t.nv/\w3.frozen? ⟨gt,tl.length,none⟩=false/\XAt w3 bx X:=by
 have hc':Chg (λb _=>t.nv.ownBlock=some b) w w3:=(Chg.of_below (M:=λb _=>t.nv.ownBlock=some b) hW).trans hc
 exact ⟨(hc'.cell _ _ (blt hl.c0) λe=>(hl.nr _ e).1 rfl).trans hl.c0,(hc'.cell _ _ (blt hl.p0) λe=>(hl.nr _ e).2.1 rfl).trans hl.p0,(hc'.cell _ _ (blt hl.tc) λe=>(hl.nr _ e).2.2.2 rfl).trans hl.tc,(hc'.frozen _ _ (blt hl.tc)).trans hl.tf,hl.x.keep hc' λj e=>(hl.nr _ e).2.2.1 rfl⟩
theorem LayAt.below(hl:LayAt w m d N X tl t gt ct bx)(hW:Below w.heap.size w W):LayAt W m d N X tl t gt ct bx:=
 {hl with
  row:=Qc hl.row (Chg.of_below (M:=λ_ _=>False) hW) λ_ _ _ e=>e
  c0:=(hW.cell (p:=⟨m.br,0,none⟩) (blt hl.c0)).trans hl.c0
  p0:=(hW.cell (p:=⟨m.bp,0,none⟩) (blt hl.p0)).trans hl.p0
  tc:=(hW.cell (p:=⟨gt,tl.length,none⟩) (blt hl.tc)).trans hl.tc
  tf:=(hW.frozen (p:=⟨gt,tl.length,none⟩) (blt hl.tc)).trans hl.tf
  x:=hl.x.below hW}
end
section
variable{D:Nat->Prop}{lab:Nat->Nat×Nat}{w:World}{m:DM}{d:DR}{u:ByteArray}{bw cap L:Nat}{N:List NK}{op:Option Addr}{tnv:Value}{co gt ct T K1:Nat}{K2:Int}{r:Except Int DR}{gB pB aB:Bool}
def zts(d:DR)(N:List NK)(k:NK)(r:Except Int DR):Except Int DR:=match r with
 | .error e=> .error e
 | .ok d1=>if d.stmts=14 then .error 5 else .ok {d1 with thr:=d.thr.dropLast++[N++[k]],stmts:=d.stmts+1}
theorem zxs(hk:DOk d)(hD: ∀k,w.heap.size<=k->D k)(hN:d.thr.getLast?=some N)(hNl:N.length<=1000)(hI:InAt w m d N op tnv co gt ct T)(hT:T<=2000)(hTT:d.thr.length=T+1)(w0:w.cell? ⟨bw,0,none⟩=some (.string u))(hL0:(0:Int)<(L:Int))
  (e1:(u.toList==[115,104,97,114,101,100])=false) (e2:(u.toList==[116,104,114,101,97,100])=false) (e3:(u.toList==[101,110,100])=false) (g1:(u.toList==[103,101,116])=gB) (g2:(u.toList==[112,117,116])=pB) (g3:(u.toList==[97,116,111,109,105,99])=aB)
  (hr0: ∀e,r= .error e->e≠0) (hr1: ∀d1,r= .ok d1->d1.thr=d.thr/\d1.opn=d.opn/\d1.stmts=d.stmts)
  (KN:Hid (∀wr,Below w.heap.size w wr->Cl 25 #[ptr m.br, .slice (some ⟨bw,0,none⟩) L cap] wr (Jm D wr m K1 K2 r)))
  (hcls:(Xx d N d.opn.length=true/\gB=true/\aB=false)\/(Xx d N d.opn.length=true/\gB=false/\pB=true/\aB=false)\/(gB=false/\pB=false/\aB=false)) (hK:K1≠122/\K1≠108/\K1≠40):
  Cl 12 #[ptr m.br, .slice (some ⟨bw,0,none⟩) L cap] w (DPost D w m (zts d N (K1,K2) r)):=by
 have c0:=hI.c0
 have c5:=hI.c5
 have p0:=hI.p0
 have hlw:bw<w.heap.size:=blt w0
 have hlt:m.br<w.heap.size:=blt c0
 have hlp:m.bp<w.heap.size:=blt p0
 have hT0:(0:Int)<=(T:Int):=yai
 have hT1:(T:Int)<(T:Int)+1:=yai
 have eT:wrap64 (((T+1:Nat):Int)- 1)=(T:Int):=yao
 have HI:=hid hI
 have HD:=hid hD
 have HN:=hid hN
 have HTL:=hid hTT
 have HNL:=hid hNl
 have HR0:=hid hr0
 have HR1:=hid hr1
 have HCL:=hid hcls
 have HKK:=hid hK
 have HS14:=hid hk.n
 have ho3:=hk.o
 have hneg: ¬(T:Int)<0:=yai
 clear hI hD hN hNl hr0 hr1 hcls hK hk hTT
 go_enter Tryz.func12,Tryz.ntmps12
 go_wp2
 go_loopw [6,7] (λv6 v7 wr=>∃i:Nat,i<=d.opn.length/\v7= .int .i64 i/\v6= .bool (Xx d N i)/\Hid (Below w.heap.size w wr)) (λ_ v7 _=>d.opn.length- (intOf v7).toNat)
 case atStart=>exact ⟨0,Nat.zero_le _,rfl,rfl,hid (Below.refl _ _)⟩
 case round=>
  obtain ⟨i,hi,rfl,rfl,HB⟩:=hrel
  have hJ:=HI.out.below HB.out
  have d0:=hJ.c0
  have d5:=hJ.c5
  have dp:=hJ.p0
  have dt:=hJ.tc
  have lr:m.br<wr.heap.size:=blt d0
  have lp:m.bp<wr.heap.size:=blt dp
  by_cases hlti:i<d.opn.length
  ·exact z7e
  ·have hii:i=d.opn.length:=by omega
   subst hii
   clear hJ hlti hi
   have lbw:bw<wr.heap.size:=yb4
   have w0':wr.cell? ⟨bw,0,none⟩=some (.string u):=(HB.out.cell (p:=⟨bw,0,none⟩) hlw).trans w0
   have hcl:=HCL.out
   generalize Xx d N d.opn.length=inn at hcl⊢
   rcases hcl with ⟨rfl,rfl,rfl⟩|⟨rfl,rfl,rfl,rfl⟩|⟨rfl,rfl,rfl⟩
   all_goals
    go_wp2_with fail
   all_goals
    refine (KN.out _ HB.out).mono ?_
    rintro e w2 ⟨hc,X,er,k1,k2,k3,rfl,hr⟩
    have HC:=hid ((Chg.of_below (M:=λk _=>D k) HB.out).trans hc)
    have hsz:w.heap.size<=w2.heap.size:=Nat.le_trans HB.out.size hc.size
    subst k1 k2
    have HK3:=hid k3
    clear hc d0 d5 dp dt lr lp w0' lbw HB k3
    cases r with
    |error e'=>exact z7y
    |ok d1=>
     obtain ⟨rfl,lab',m',hb1,hb2,hm⟩:=hr
     obtain ⟨t1,t2,t3⟩:=HR1.out d1 rfl
     have hc6:=hm.c6
     have hf6:=hm.free 6
     rw [hb1] at hc6 hf6
     rw [t3] at hc6
     have hs14:=HS14.out
     generalize hsi:(d.stmts:Int)=si at hc6
     have hsb:0<=si/\si<=14:=yai
     have eS:wrap64 (si+1)=si+1:=yao
     have l2:m.br<w2.heap.size:=blt hc6
     have HM:=hid hm
     have HT1:=hid t1
     have HT2:=hid t2
     have HT3:=hid t3
     clear hm t1 t2 t3 hs14
     by_cases h14:si=14
     ·subst h14
      dsimp only [XV.cells]
      go_wp2
      go_ret
      have hst:d.stmts=14:=yai
      unfold zts
      dsimp only
      rw [if_pos hst]
      exact ⟨(HC.out.setCell (λ_=>HM.out.lb.2|>(hb1▸·)) _).alloc _,rfl⟩
     ·have h14': ¬14<si+1:=by omega
      obtain ⟨i0,hi0,hz0,hz1,hz2⟩:=info_parts Ox
      have hl1:N.length+1<=maxLen:=ycm
      have hl2:(N.length+1)*120<=140737488355328:=ycn
      have nD2: ∀k,k<w2.heap.size->D k->(D k/\k≠w2.heap.size):=λk hk hd=>⟨hd,by omega⟩
      have hset:Chg (λk j=>k=m.br/\j=6) w2 (w2.setCell ⟨m.br,6,none⟩ (.int .i64 (si+1))):=(Chg.refl _ w2).setCell (λ_=>⟨rfl,rfl⟩) _
      have hm3:=((HM.out.restrict (D':=λk=>D k/\k≠w2.heap.size) nD2).stmtF (s:=d.stmts+1) (w':=w2.setCell ⟨m.br,6,none⟩ (.int .i64 (si+1))) ych (hset.mono λk j _ e _=> .inr (.inl ⟨by rw [hb1];exact e.1,by rw [e.2];simp⟩)))
      have hsz2:(w2.setCell ⟨m.br,6,none⟩ (.int .i64 (si+1))).heap.size=w2.heap.size:=Jq _ _ _
      have hx3:XAt ((w2.setCell ⟨m.br,6,none⟩ (.int .i64 (si+1))).alloc (.cells #[(.int .u8 X.k),(.int .i64 X.v),(.string X.op),(.bool X.al),(.int .i64 X.av),(.bool X.bl),(.int .i64 X.bv),(.bool X.tl),(.int .i64 X.tv),(.int .i64 X.fi),(.int .i64 X.si),(.int .i64 X.to),(.int .i64 X.n),(.int .i64 X.dp)] 77)) w2.heap.size X:=by
       have:=Sy (w2.setCell ⟨m.br,6,none⟩ (.int .i64 (si+1))) X
       rw [hsz2] at this
       exact this
      have hm4:=hm3.below (w':=((w2.setCell ⟨m.br,6,none⟩ (.int .i64 (si+1))).alloc (.cells #[(.int .u8 X.k),(.int .i64 X.v),(.string X.op),(.bool X.al),(.int .i64 X.av),(.bool X.bl),(.int .i64 X.bv),(.bool X.tl),(.int .i64 X.tv),(.int .i64 X.fi),(.int .i64 X.si),(.int .i64 X.to),(.int .i64 X.n),(.int .i64 X.dp)] 77))) ((Below.refl _ _).alloc (Nat.le_refl _) _)
      obtain ⟨tl,t,gt',ct',hly⟩:=hm4.layAt (N:=N) yci hx3 (λe=>e.2 rfl)
      have hTl:T=tl.length:=z8i
      have HDW:Hid (∀k,((w2.setCell ⟨m.br,6,none⟩ (.int .i64 (si+1))).alloc (.cells #[(.int .u8 X.k),(.int .i64 X.v),(.string X.op),(.bool X.al),(.int .i64 X.av),(.bool X.bl),(.int .i64 X.bv),(.bool X.tl),(.int .i64 X.tv),(.int .i64 X.fi),(.int .i64 X.si),(.int .i64 X.to),(.int .i64 X.n),(.int .i64 X.dp)] 77)).heap.size<=k->(D k/\k≠w2.heap.size)):=hid λk hk=>ycj
      have HCW:Hid (Chg (λk _=>D k) w ((w2.setCell ⟨m.br,6,none⟩ (.int .i64 (si+1))).alloc (.cells #[(.int .u8 X.k),(.int .i64 X.v),(.string X.op),(.bool X.al),(.int .i64 X.av),(.bool X.bl),(.int .i64 X.bv),(.bool X.tl),(.int .i64 X.tv),(.int .i64 X.fi),(.int .i64 X.si),(.int .i64 X.to),(.int .i64 X.n),(.int .i64 X.dp)] 77))):=hid ((HC.out.setCell (λ_=>hb1▸HM.out.lb.2) _).alloc _)
      have HLM:=hid hm4
      have HLY:=hid hly
      have HNT:Hid (gt'≠m.br/\gt'≠m.bp/\gt'≠w2.heap.size):=hid (by have:=hly.nt;rw [hb1,hb2] at this;exact this)
      have HOW:Hid (∀k,t.nv.ownBlock=some k->D k):=hid λk e=>(hm4.ln tl.length t yck k e).2.1
      have HGD:Hid (D gt'):=hid (hm4.lt gt' yba).2.1
      have z1:((X.k:Int)==122)=false:=by have:=HKK.out.1;simp;omega
      have z2:((X.k:Int)==108)=false:=by have:=HKK.out.2.1;simp;omega
      have z3:((X.k:Int)==40)=false:=by have:=HKK.out.2.2;simp;omega
      have z4: ¬(X.k:Int)=122:=by simpa using z1
      have z5: ¬(X.k:Int)=108:=by simpa using z2
      have z6: ¬(X.k:Int)=40:=by simpa using z3
      subst hTl
      clear hm3 hm4 hly hx3 hset nD2
      dsimp only [XV.cells]
      go_wp2_with fail
      all_goals
       generalize hW:((w2.setCell ⟨m.br,6,none⟩ (.int .i64 (si+1))).alloc (.cells #[(.int .u8 X.k),(.int .i64 X.v),(.string X.op),(.bool X.al),(.int .i64 X.av),(.bool X.bl),(.int .i64 X.bv),(.bool X.tl),(.int .i64 X.tv),(.int .i64 X.fi),(.int .i64 X.si),(.int .i64 X.to),(.int .i64 X.n),(.int .i64 X.dp)] 77))=W at HDW HCW HLM HLY⊢
       clear hW z1 z2 z3 z4 z5 z6 eS hc6 hf6 hsz2 h14'
       have r0:=HLY.out.c0
       have r1:=HLY.out.p0
       rw [hb1,hb2] at r0
       rw [hb2] at r1
       have r2:=HLY.out.tc
       obtain ⟨x0,x1,x2,x3,x4,x5,x6,x7,x8,x9,x10,x11,x12,x13⟩:=HLY.out.x.all
       have lW0:m.br<W.heap.size:=blt r0
       have lW1:m.bp<W.heap.size:=blt r1
       have lW2:gt'<W.heap.size:=blt r2
       have lW3:w2.heap.size<W.heap.size:=blt x0
       have HWB:Hid (∀c:Array Value,Below W.heap.size W (W.drew.alloc (.cells c 77))):=hid λc=>(Qi _ W).alloc (Nat.le_refl _) _
       refine wp_region_held_drew (S:=(λw'=>w'.cell? ⟨m.br,0,none⟩=some (ptr m.bp)/\w'.cell? ⟨m.bp,0,none⟩=some (.slice (some ⟨gt',0,none⟩) (tl.length+1) ct')/\w'.cell? ⟨w2.heap.size,0,none⟩=some (.int .u8 X.k)/\w'.cell? ⟨w2.heap.size,1,none⟩=some (.int .i64 X.v)/\w'.cell? ⟨w2.heap.size,2,none⟩=some (.string X.op)/\w'.cell? ⟨w2.heap.size,3,none⟩=some (.bool X.al)/\w'.cell? ⟨w2.heap.size,4,none⟩=some (.int .i64 X.av)/\w'.cell? ⟨w2.heap.size,5,none⟩=some (.bool X.bl)/\w'.cell? ⟨w2.heap.size,6,none⟩=some (.int .i64 X.bv)/\w'.cell? ⟨w2.heap.size,7,none⟩=some (.bool X.tl)/\w'.cell? ⟨w2.heap.size,8,none⟩=some (.int .i64 X.tv)/\w'.cell? ⟨w2.heap.size,9,none⟩=some (.int .i64 X.fi)/\w'.cell? ⟨w2.heap.size,10,none⟩=some (.int .i64 X.si)/\w'.cell? ⟨w2.heap.size,11,none⟩=some (.int .i64 X.to)/\w'.cell? ⟨w2.heap.size,12,none⟩=some (.int .i64 X.n)/\w'.cell? ⟨w2.heap.size,13,none⟩=some (.int .i64 X.dp))) yak ?_ (λhHeld=>?_)
       ·exact z8j
       refine Qa 0 (h:=Qa 1 (h:=Qa 2 (h:=Qa 3 (h:=Qa 4 (h:=Qa 5 (h:=Qa 6 (h:=Qa 7 (h:=Qa 8 (h:=Qa 9 (h:=Qa 10 (h:=Qa 11 (h:=Qa 12 (h:=Qa 13 (h:=Qa 14 (h:=Qa 15 (h:=Qa 16 (h:=Qa 18 (h:=?_))))))))))))))))))
       refine tr [17,19] (.cons rfl (λKQ hKQ=>?_) (.cons rfl (λKQ hKQ=>?_) .nil))
       go_simp
       refine hKQ.out _ _ ?_ (λhHeld=>?_)
       ·(try dsimp only);exact hHeld
       clear hKQ KQ
       refine tr [19] (.cons rfl (λKQ hKQ=>?_) .nil)
       go_simp
       rotate_left
       go_simp
       refine hKQ.out _ _ ?_ (λhHeld=>?_)
       ·(try dsimp only);go_keep
       clear hKQ KQ
       refine tr [17] (.cons rfl (λKQ hKQ=>?_) .nil)
       go_simp
       rotate_left
       all_goals
        refine hKQ.out _ _ ?_ (λhHeld=>?_)
        ·(try dsimp only);go_keep
        clear hKQ KQ
        refine tr [20] (.cons rfl (λKQ hKQ=>?_) .nil)
        (refine Je rfl (.tmp 241) (.tmp 243) 59 rfl 77 i0 _ 14 120 yal Tryz.underlying59 hi0 hz0 hz1 hz2 rfl t.nv N.length t.xs rfl (HLY.out.below (HWB.out _)).row ⟨W.heap.size,0,none⟩ X.cells rfl rfl (Fu _ _ _) ycl hl1 hl2 ?_;intro g cp w3 ho hch hg;have H9:=hid (HLM.out.lay HDW.out HLY.out (HWB.out _) ho hch hg);have mm:=HLY.out.mid (HWB.out _) hch;rw [hb1,hb2] at mm;have f1:=mm.2.2.1;have f2:=mm.2.2.2.1;have HS9:=hid (And.intro mm.1 (And.intro mm.2.1 mm.2.2.2.2.all));have HC9:=hid ((HCW.out.then (Chg.of_below (M:=λ_ _=>False) (HWB.out _)) (λ_ _ _ e=>e.elim)).then hch (λk j hk e=>HOW.out k e));clear ho hch hg mm)
        refine hKQ.out _ _ ?_ (λhHeld=>?_)
        ·(try dsimp only);exact HS9.out
        clear hKQ KQ
        refine Qa 21 (h:=?_)
        refine tr [22] (.cons rfl (λKQ hKQ=>?_) .nil)
        go_simp
        refine hKQ.out _ _ ?_ (λhHeld=>?_)
        ·exact z7f
        clear hKQ KQ
        refine wpAnyH_done yak ?_ _
        go_wp2
        go_ret
        have hst: ¬d.stmts=14:=yai
        unfold zts
        dsimp only
        rw [if_neg hst]
        refine ⟨HC9.out.setCell (λ_=>HGD.out) _,rfl,?_⟩
        obtain ⟨lab9,m9,a1,a2,h9⟩:=H9.out
        refine ⟨lab9,m9,a1.trans hb1,a2.trans hb2,?_⟩
        have h10:=h9.restrict (D':=D) (λk _ hk=>hk.1)
        rw [show ({d1 with stmts:=d.stmts+1}:DR).thr=d.thr from HT1.out] at h10
        exact h10
end
section
variable{D:Nat->Prop}{lab:Nat->Nat×Nat}{w:World}{m:DM}{d:DR}{u:ByteArray}{bw cap L:Nat}{N:List NK}{op:Option Addr}{tnv:Value}{co gt ct T K1:Nat}{K2:Int}{r:Except Int DR}{gB pB aB:Bool}
def zbg(d:DR)(N:List NK)(k:NK)(r:Except Int DR):Except Int DR:=match r with
 | .error e=> .error e
 | .ok d1=>if d.stmts=14 then .error 5 else if d.opn.length=3 then .error 5 else .ok {d1 with thr:=d.thr.dropLast++[N++[k]],opn:=d.opn++[N.length],stmts:=d.stmts+1}
theorem zeo{D:Nat->Prop}{lab':Nat->Nat×Nat}{w W:World}{m m':DM}{d d1:DR}{po:Option Addr}{co' gt0 ct0 cn bx:Nat}{pn:Option Addr}{X:XV}{st:Nat}
  (hm:DMach (λk=>D k/\k≠bx) lab' W m' {d1 with stmts:=st}) (hD: ∀k,W.heap.size<=k->(D k/\k≠bx)) (hc:Chg (λk _=>D k) w W) (hx:XAt W bx X) (t2:d1.opn=d.opn) (hb1:m'.br=m.br) (hov:m'.ov= .slice po d.opn.length co')
  (hg: ∀g,(Value.slice po d.opn.length co').ownBlock=some g->lab' g=(0,6)/\(D g/\g≠bx)) (hn:lab' gt0≠(0,6)/\lab' m.br≠(0,6)/\lab' m.bp≠(0,6))
  (s0:W.cell? ⟨m.br,0,none⟩=some (ptr m.bp)) (s1:W.cell? ⟨m.bp,0,none⟩=some (.slice (some ⟨gt0,0,none⟩) (T+1) ct0)) (s2:W.cell? ⟨gt0,T,none⟩=some (.slice pn N.length cn)) (s5:W.cell? ⟨m.br,5,none⟩=some (.slice po d.opn.length co')) (s6:W.frozen? ⟨m.br,5,none⟩=false):
  ∀V,Below W.heap.size W V->∀g5 c5 w5,w5.ownsRow 0 3 1 (.slice (some ⟨g5,0,none⟩) (d.opn.length+1) c5) (d.opn.length+1) ((d.opn.map λ(k:Nat)=> .int .i64 (k:Int))++[.int .i64 (N.length:Int)])->Chg (λb _=>(Value.slice po d.opn.length co').ownBlock=some b) V w5->((Value.slice po d.opn.length co').ownBlock=some g5\/g5=V.heap.size) ->
   (w5.cell? ⟨m.br,0,none⟩=some (ptr m.bp)/\w5.cell? ⟨m.bp,0,none⟩=some (.slice (some ⟨gt0,0,none⟩) (T+1) ct0)/\w5.cell? ⟨gt0,T,none⟩=some (.slice pn N.length cn)/\w5.cell? ⟨m.br,5,none⟩=some (.slice po d.opn.length co')/\w5.frozen? ⟨m.br,5,none⟩=false)/\
   Chg (λk _=>D k) w (w5.setCell ⟨m.br,5,none⟩ (.slice (some ⟨g5,0,none⟩) (d.opn.length+1) c5))/\XAt (w5.setCell ⟨m.br,5,none⟩ (.slice (some ⟨g5,0,none⟩) (d.opn.length+1) c5)) bx X/\
   (∀k,(w5.setCell ⟨m.br,5,none⟩ (.slice (some ⟨g5,0,none⟩) (d.opn.length+1) c5)).heap.size<=k->(D k/\k≠bx))/\ ∃lab5 m5,m5.br=m'.br/\m5.bp=m'.bp/\DMach (λk=>D k/\k≠bx) lab5 (w5.setCell ⟨m.br,5,none⟩ (.slice (some ⟨g5,0,none⟩) (d.opn.length+1) c5)) m5 {d1 with stmts:=st,opn:=d.opn++[N.length]}:=by
 intro V hV g5 c5 w5 ho hch hg5
 have hc5:Chg (λb _=>(Value.slice po d.opn.length co').ownBlock=some b) W w5:=(Chg.of_below (M:=λb _=>(Value.slice po d.opn.length co').ownBlock=some b) hV).trans hch
 have hset:Chg (λk j=>k=m.br/\j=5) w5 (w5.setCell ⟨m.br,5,none⟩ (.slice (some ⟨g5,0,none⟩) (d.opn.length+1) c5)):=(Chg.refl _ w5).setCell (λ_=>⟨rfl,rfl⟩) _
 have nb: ∀k,lab' k≠(0,6)->¬(Value.slice po d.opn.length co').ownBlock=some k:=λk h e=>h (hg k e).1
 have hDb:D m.br/\m.br≠bx:=hb1▸hm.lb.2
 have q5:=(hc5.cell _ _ (blt s5) (nb _ hn.2.1)).trans s5
 have hgb:g5≠m.br:=by
  rcases hg5 with e|e
  ·exact λq=>nb _ hn.2.1 (q▸e)
  ·have lb:m.br<W.heap.size:=blt s5
   have:=hV.size
   omega
 have hgx:g5≠bx:=by
  rcases hg5 with e|e
  ·exact (hg g5 e).2.2
  ·have:=hx.lt
   have:=hV.size
   omega
 refine ⟨⟨(hc5.cell _ _ (blt s0) (nb _ hn.2.1)).trans s0,(hc5.cell _ _ (blt s1) (nb _ hn.2.2)).trans s1,(hc5.cell _ _ (blt s2) (nb _ hn.1)).trans s2,q5,(hc5.frozen _ _ (blt s5)).trans s6⟩,?_,?_,λk hk=>hD k (Nat.le_trans (Nat.le_trans hc5.size hset.size) hk),?_⟩
 ·exact (hc.then hc5 λk j hk e=>(hg k e).2.1).setCell (λ_=>hDb.1) _
 ·exact (hx.keep hc5 λj e=>(hg _ e).2.2 rfl).keep hset λj e=>hDb.2 e.1.symm
 ·have hr2:=Qc ho hset (λb hb j e=>hgb ((show g5=b by simpa [Value.ownBlock] using hb).trans e.1))
  have hl:({d1 with stmts:=st}:DR).opn=d.opn:=t2
  obtain ⟨lab5,h5⟩:=hm.openF (w':=w5.setCell ⟨m.br,5,none⟩ (.slice (some ⟨g5,0,none⟩) (d.opn.length+1) c5)) hD (g1:=g5) (c1:=c5) (a:=N.length) (by rw [hl];exact hr2) (by rw [hb1,hl];exact Qg q5 rfl) (by rw [hov];exact hg5.imp id (λe=>by have:=hV.size;omega)) ((hc5.mono (M':=FM (λk=>D k/\k≠bx) lab' m' [(0,6)] [5] []) λk j _ e _=> .inl (by rw [(hg k e).1];simp)).trans (hset.mono λk j _ e _=> .inr (.inl ⟨by rw [hb1];exact e.1,by rw [e.2];simp⟩)))
  rw [hl] at h5
  exact ⟨lab5,{m' with ov:= .slice (some ⟨g5,0,none⟩) (d.opn.length+1) c5},rfl,rfl,h5⟩
end
end Go.Proofs.YtphcopbffecceaaGreatDoor
