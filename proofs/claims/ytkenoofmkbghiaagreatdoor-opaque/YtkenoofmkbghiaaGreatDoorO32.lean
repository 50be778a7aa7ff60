import Derived.Test.YtkenoofmkbghiaaGreatDoorO31
namespace Go.Proofs.YtkenoofmkbghiaaGreatDoor
open Go.RowKit
variable{k:Bk}{m m' r:Nat->Int}{st st':RS}{N d j l t tp:Nat}{v y:Vl}{C C' n n':Int}{a:PV}{s s':Ck}{b f to u:ByteArray}{kb:Option Bk}{w0 ws:List ByteArray}{c:List Ic}{i:Ic}{body:Ck->Ck}
abbrev Rg(n:Nat):Vl:=⟨true,n⟩
abbrev Nm(n:Int):Vl:=⟨false,n⟩
def z7q(d:Nat)(v:Vl)(n:Int):Ic:={k:=2,op:=0,d:=d,a:=v,b:=⟨false,0⟩,c:=⟨false,0⟩,n:=n}
def z7p(v:Vl)(n:Int)(b:Vl):Ic:={k:=3,op:=0,d:=0,a:=v,b:=b,c:=⟨false,0⟩,n:=n}
def z87(o d:Nat)(a b:Vl):Ic:={k:=1,op:=o,d:=d,a:=a,b:=b,c:=⟨false,0⟩,n:=0}
def ybb(d:Nat)(a:Vl):Ic:={k:=0,op:=0,d:=d,a:=a,b:=⟨false,0⟩,c:=⟨false,0⟩,n:=0}
def z8v(a:Vl)(n:Int):Ic:={k:=9,op:=0,d:=0,a:=a,b:=⟨false,0⟩,c:=⟨false,0⟩,n:=n}
def z92(n:Int):Ic:={k:=8,op:=0,d:=0,a:=⟨false,0⟩,b:=⟨false,0⟩,c:=⟨false,0⟩,n:=n}
def ydi(d:Nat)(v:Vl)(n:Int)(b c:Vl):Ic:={k:=4,op:=0,d:=d,a:=v,b:=b,c:=c,n:=n}
def ybc(d:Nat)(v:Vl)(n:Int)(b:Vl):Ic:={k:=5,op:=0,d:=d,a:=v,b:=b,c:=⟨false,0⟩,n:=n}
def yb2:Ic:={k:=6,op:=0,d:=0,a:=⟨false,0⟩,b:=⟨false,0⟩,c:=⟨false,0⟩,n:=0}
def ydj(a:Vl):Ic:={k:=7,op:=0,d:=0,a:=a,b:=⟨false,0⟩,c:=⟨false,0⟩,n:=0}
def z88(n:Int):Ic:={k:=10,op:=0,d:=0,a:=⟨false,0⟩,b:=⟨false,0⟩,c:=⟨false,0⟩,n:=n}
def VdA(u:ByteArray)(v:Vl):Prop:=(∀ws,zbp (u::ws)=some (v,ws))/\NoS u
def Rd(u:ByteArray)(r:Nat):Prop:=(∀ws,zhi (u::ws)=some (r,ws))/\NoS u
def Nd(u:ByteArray)(n:Int):Prop:=(∀ws,zco (u::ws)=some (n,ws))/\NoS u
def Td(u:ByteArray)(n:Int):Prop:=(∀ws,gIn 0 4000 (u::ws)=some (n,ws))/\NoS u
theorem ydk(n:Int):Jt (dec n)=none:=by
 unfold Jt
 have h: ∀b l,(dec n).data.toList=b::l->b≠114:=by
  intro b l e
  have hd: ∀u b,b∈Lib.decDigits u->b≠114:=λu b hb e=>by
   have:=(zlq u).1 b hb
   rw [e] at this
   exact absurd this yup
  have e:Lib.itoa n=b::l:=by simpa [dec] using e
  unfold Lib.itoa at e
  split at e
  ·have:b=45:=by simpa using (List.cons.inj e).1.symm
   rw [this];decide
  ·exact hd _ b yvo
 split
 ·rename_i a b e
  rw [if_neg (λq=>h a _ e q.1)]
 ·rfl
theorem yae(n:Int)(h0:-9223372036854775808<=n)(h1:n<=9223372036854775807):Nd (dec n) n:=⟨λws=>by rw [znp,zlr n h0 h1];rfl,zex n⟩
theorem z93(n:Int)(h0:-9223372036854775808<=n)(h1:n<=9223372036854775807):VdA (dec n) (Nm n):=⟨λws=>by rw [zui,ydk,zlr n h0 h1];rfl,zex n⟩
theorem ybd(n:Nat)(h:n<=4000):Td (dec (n:Int)) n:=by
 refine ⟨λws=>?_,zex _⟩
 unfold gIn
 rw [znp,zlr n yum yum]
 show (if (0:Int)<=n/\(n:Int)<=4000 then some ((n:Int),ws) else none)=_
 rw [if_pos yum]
theorem z94(n:Nat)(h:n<8):Rd (Zy (n:Int)) n:=by
 refine ⟨λws=>?_,(zez n h).2.1⟩
 have q:=zg5 (48+n) yum
 rw [zey n yum,zzd]
 unfold Jt
 dsimp only
 rw [if_pos ⟨rfl,by rw [q];omega,by rw [q];omega⟩,q]
 simp
theorem Rd.val{r:Nat}(h:Rd u r):VdA u (Rg r):=by
 refine ⟨λws=>?_,h.2⟩
 have:=h.1 ws
 rw [zzd] at this
 obtain ⟨q,q1,q2⟩:=Option.map_eq_some_iff.1 this
 rw [zui,q1]
 simp at q2
 rw [q2]
theorem rd4:Rd yR4 4:=(show Zy ((4:Nat):Int)=yR4 from zey 4 yum)▸z94 4 yum
theorem rd5:Rd yR5 5:=(show Zy ((5:Nat):Int)=yR5 from zey 5 yum)▸z94 5 yum
theorem rd6:Rd yR6 6:=(show Zy ((6:Nat):Int)=yR6 from zey 6 yum)▸z94 6 yum
theorem rd7:Rd yR7 7:=(show Zy ((7:Nat):Int)=yR7 from zey 7 yum)▸z94 7 yum
theorem vd0:VdA y0 (Nm 0):=(show dec ((0:Nat):Int)=y0 from zls 0 yum)▸z93 0 yum yum
theorem vd1:VdA y1 (Nm 1):=(show dec ((1:Nat):Int)=y1 from zls 1 yum)▸z93 1 yum yum
theorem yjk:VdA yM1 (Nm (-1)):=(show dec (-1)=yM1 by decide+kernel)▸z93 (-1) yum yum
def z9q(ws:List ByteArray)(i:Ic):Prop:=∃u us,ws=u::us/\zbm u us=some (i,[])/\ ∀v∈ws,NoS v
section
variable{r a b c n t:ByteArray}{d:Nat}{v x y:Vl}{k:Int}
theorem z8e(hr:Rd r d)(ha:VdA a v)(hn:Nd n k):z9q [Qw,r,a,n] (z7q d v k):=by
 refine ⟨Qw,[r,a,n],rfl,?_,?_⟩
 ·rw [show zbm Qw [r,a,n]=Ia [r,a,n] by kernel_rfl]
  simp only [Ia,Ez,hr.1,ha.1,hn.1,Option.bind_some,Option.map_some,z7q]
 ·simp only [List.mem_cons,List.not_mem_nil,or_false,forall_eq_or_imp,forall_eq]
  exact ⟨(zcj Qw yun).2,hr.2,ha.2,hn.2⟩
theorem z74(ha:VdA a v)(hn:Nd n k)(hb:VdA b x):z9q [Qh,a,n,b] (z7p v k x):=by
 refine ⟨Qh,[a,n,b],rfl,?_,?_⟩
 ·rw [show zbm Qh [a,n,b]=Xq [a,n,b] by kernel_rfl]
  simp only [Xq,Ez,ha.1,hn.1,hb.1,Option.bind_some,Option.map_some,z7p]
 ·simp only [List.mem_cons,List.not_mem_nil,or_false,forall_eq_or_imp,forall_eq]
  exact ⟨(zcj Qh yun).2,ha.2,hn.2,hb.2⟩
theorem yiv(o:Nat)(ho:o<12)(hr:Rd r d)(ha:VdA a v)(hb:VdA b x):z9q [Jc o,r,a,b] (z87 o d v x):=by
 refine ⟨Jc o,[r,a,b],rfl,?_,?_⟩
 ·have e:zqi (Jc o)=some o:=by
   have: ∀o,o<12->zqi (Jc o)=some o:=by decide+kernel
   exact this o ho
  unfold zbm
  rw [e]
  dsimp only
  simp only [gop,hr.1,ha.1,hb.1,Option.bind_some,Option.map_some,z87]
 ·simp only [List.mem_cons,List.not_mem_nil,or_false,forall_eq_or_imp,forall_eq]
  exact ⟨(z4f o ho).2.1,hr.2,ha.2,hb.2⟩
theorem yf0(hr:Rd r d)(ha:VdA a v):z9q [zdp,r,a] (ybb d v):=by
 refine ⟨zdp,[r,a],rfl,?_,?_⟩
 ·rw [show zbm zdp [r,a]=zly [r,a] by kernel_rfl]
  simp only [zly,hr.1,ha.1,Option.bind_some,Option.map_some,ybb]
 ·simp only [List.mem_cons,List.not_mem_nil,or_false,forall_eq_or_imp,forall_eq]
  exact ⟨(zcj zdp yun).2,hr.2,ha.2⟩
theorem yh8(ha:VdA a v):z9q [zp6,a] (ydj v):=by
 refine ⟨zp6,[a],rfl,?_,?_⟩
 ·rw [show zbm zp6 [a]=zqg [a] by kernel_rfl]
  simp only [zqg,ha.1,Option.map_some,ydj]
 ·simp only [List.mem_cons,List.not_mem_nil,or_false,forall_eq_or_imp,forall_eq]
  exact ⟨(zcj zp6 yun).2,ha.2⟩
theorem yiw(ha:VdA a v)(ht:Td t k):z9q [yJz,a,t] (z8v v k):=by
 refine ⟨yJz,[a,t],rfl,?_,?_⟩
 ·rw [show zbm yJz [a,t]=gjz [a,t] by kernel_rfl]
  simp only [gjz,ha.1,ht.1,Option.bind_some,Option.map_some,z8v]
 ·simp only [List.mem_cons,List.not_mem_nil,or_false,forall_eq_or_imp,forall_eq]
  exact ⟨(zcj yJz yun).2,ha.2,ht.2⟩
theorem yi6(ht:Td t k):z9q [zaa,t] (z92 k):=by
 refine ⟨zaa,[t],rfl,?_,?_⟩
 ·rw [show zbm zaa [t]=zqh [t] by kernel_rfl]
  simp only [zqh,ht.1,Option.map_some,z92]
 ·simp only [List.mem_cons,List.not_mem_nil,or_false,forall_eq_or_imp,forall_eq]
  exact ⟨(zcj zaa yun).2,ht.2⟩
theorem yi7(hr:Rd r d)(ha:VdA a v)(hn:Nd n k)(hb:VdA b x)(hc:VdA c y):z9q [zvf,r,a,n,b,c] (ydi d v k x y):=by
 refine ⟨zvf,[r,a,n,b,c],rfl,?_,?_⟩
 ·rw [show zbm zvf [r,a,n,b,c]=zdj [r,a,n,b,c] by kernel_rfl]
  simp only [zdj,Ez,hr.1,ha.1,hn.1,hb.1,hc.1,Option.bind_some,Option.map_some,ydi]
 ·simp only [List.mem_cons,List.not_mem_nil,or_false,forall_eq_or_imp,forall_eq]
  exact ⟨(zcj zvf yun).2,hr.2,ha.2,hn.2,hb.2,hc.2⟩
theorem yh9(hr:Rd r d)(ha:VdA a v)(hn:Nd n k)(hb:VdA b x):z9q [Xf,r,a,n,b] (ybc d v k x):=by
 refine ⟨Xf,[r,a,n,b],rfl,?_,?_⟩
 ·rw [show zbm Xf [r,a,n,b]=Fh [r,a,n,b] by kernel_rfl]
  simp only [Fh,Ez,hr.1,ha.1,hn.1,hb.1,Option.bind_some,Option.map_some,ybc]
 ·simp only [List.mem_cons,List.not_mem_nil,or_false,forall_eq_or_imp,forall_eq]
  exact ⟨(zcj Xf yun).2,hr.2,ha.2,hn.2,hb.2⟩
theorem yg7:z9q [Yn] yb2:=by
 refine ⟨Yn,[],rfl,by kernel_rfl,?_⟩
 simp only [List.mem_cons,List.not_mem_nil,or_false,forall_eq]
 exact (zcj Yn yun).2
theorem yia:z9q [Ex] (z88 10):=by
 refine ⟨Ex,[],rfl,by kernel_rfl,?_⟩
 simp only [List.mem_cons,List.not_mem_nil,or_false,forall_eq]
 exact (zcj Ex yun).2
theorem yib:z9q [zj1,dec 2] (z88 2):=by
 refine ⟨zj1,[dec 2],rfl,?_,?_⟩
 ·rw [show zbm zj1 [dec 2]=zgb [dec 2] by kernel_rfl]
  unfold zgb gIn
  rw [(yae 2 yum yum).1]
  rfl
 ·simp only [List.mem_cons,List.not_mem_nil,or_false,forall_eq_or_imp,forall_eq]
  exact ⟨(zcj zj1 yun).2,zex 2⟩
end
abbrev Kd:=Nat×List ByteArray×(Ic->Prop)
def yix(l:ByteArray)(p:Ic->Prop):Prop:=∃u us i,Ql l.data.toList=u::us/\zbm u us=some (i,[])/\p i
def SpL(l:ByteArray)(q:Kd):Prop:=(q.1=0->yix l q.2.2)/\(q.1=1\/q.1=2->l=Zt 32 [yJz,yR4])/\(q.1=3->l=Zt 32 q.2.1)
def Sps:List ByteArray->List Kd->Prop
 |[],[]=>True
 |l::ls,q::qs=>SpL l q/\Sps ls qs
 |_,_=>False
def z8i(k:Nat):List Kd->Nat->List Nat
 |[],_=>[]
 |q::r,a=>if q.1=k then a::z8i k r (a+1) else z8i k r (a+1)
theorem Sps.len: ∀{ls:List ByteArray} {qs:List Kd},Sps ls qs->ls.length=qs.length
 |[],[],_=>rfl
 |_::_,_::_,h=>by simp [Sps.len h.2]
 |[],_::_,h=>h.elim
 |_::_,[],h=>h.elim
theorem Sps.app: ∀{l1 l2:List ByteArray} {q1 q2:List Kd},Sps l1 q1->Sps l2 q2->Sps (l1++l2) (q1++q2)
 |[],_,[],_,_,h2=>h2
 |_::_,_,_::_,_,h1,h2=>⟨h1.1,Sps.app h1.2 h2⟩
 |[],_,_::_,_,h,_=>h.elim
 |_::_,_,[],_,h,_=>h.elim
theorem Sps.split: ∀{ls:List ByteArray} {q1 q2:List Kd},Sps ls (q1++q2)->∃l1 l2,ls=l1++l2/\Sps l1 q1/\Sps l2 q2
 |ls,[],_,h=>⟨[],ls,rfl,trivial,h⟩
 |[],_::_,_,h=>h.elim
 |l::ls,q::q1,q2,h=>by
  obtain ⟨l1,l2,e,h1,h2⟩:=Sps.split (ls:=ls) (q1:=q1) (q2:=q2) h.2
  exact ⟨l::l1,l2,by rw [e];rfl,⟨h.1,h1⟩,h2⟩
theorem z75(k:Nat): ∀(q1 q2:List Kd) (a:Nat),z8i k (q1++q2) a=z8i k q1 a++z8i k q2 (a+q1.length)
 |[],_,_=>rfl
 |q::r,q2,a=>by
  simp only [List.cons_append,z8i,z75 k r q2 (a+1),List.length_cons]
  rw [show a+1+r.length=a+(r.length+1) by omega]
  split<;>simp
theorem yet(k:Nat): ∀(qs:List Kd) (a n:Nat),n∈z8i k qs a->a<=n/\n<a+qs.length/\ ∃q,qs[n- a]?=some q/\q.1=k
 |[],_,_,h=>by simp [z8i] at h
 |q::r,a,n,h=>by
  simp only [z8i] at h
  have go:n∈z8i k r (a+1)->a<=n/\n<a+(q::r).length/\ ∃q',(q::r)[n- a]?=some q'/\q'.1=k:=λh=>by
   obtain ⟨h1,h2,q',h3,h4⟩:=yet k r (a+1) n h
   refine ⟨by omega,by rw [List.length_cons];omega,q',?_,h4⟩
   rw [show n- a=(n- (a+1))+1 by omega]
   simpa using h3
  split at h
  ·rename_i hk
   rcases List.mem_cons.1 h with rfl|h
   ·exact ⟨Nat.le_refl _,by simp,q,by simp,hk⟩
   ·exact go h
  ·exact go h
structure Wr(s s':Ck)(qs:List Kd):Prop where
 ex: ∃ls,s'.L=s.L++ls/\Sps ls qs
 T:s'.T=s.T++z8i 1 qs s.L.length
 lo:s'.loops=s.loops
structure WrU(s s':Ck)(qs:List Kd):Prop extends Wr s s' qs where
 b: ∃k,s.blk=some k/\s'.blk=some {k with undo:=k.undo++z8i 2 qs s.L.length}
abbrev fin(i:Ic):Kd:=(0,[],λj=>j=i)
abbrev uJz(n:Nat):Kd:=fin (z8v (Rg 4) (n:Int))
abbrev trp:Kd:=(1,[],λ_=>True)
abbrev und:Kd:=(2,[],λ_=>True)
abbrev opn(ws:List ByteArray):Kd:=(3,ws,λ_=>True)
abbrev nul:Kd:=(6,[],λ_=>True)
section
variable{s s1 s2 s':Ck}{q1 q2 qs:List Kd}{ws:List ByteArray}{i:Ic}{p p0:Ic->Prop}
theorem Wr.len(h:Wr s s' qs):s'.L.length=s.L.length+qs.length:=by
 obtain ⟨ls,e,hs⟩:=h.ex
 rw [e,List.length_append,hs.len]
theorem Wr.nil(s:Ck):Wr s s []:=⟨⟨[],by simp,trivial⟩,by simp [z8i],rfl⟩
theorem Wr.comp(h1:Wr s s1 q1)(h2:Wr s1 s2 q2):Wr s s2 (q1++q2):=by
 obtain ⟨l1,e1,p1⟩:=h1.ex
 obtain ⟨l2,e2,p2⟩:=h2.ex
 refine ⟨⟨l1++l2,by rw [e2,e1,List.append_assoc],p1.app p2⟩,?_,h2.lo.trans h1.lo⟩
 rw [h2.T,h1.T,z75,List.append_assoc,h1.len]
theorem WrU.comp(h1:WrU s s1 q1)(h2:WrU s1 s2 q2):WrU s s2 (q1++q2):=by
 obtain ⟨k,e1,e2⟩:=h1.b
 obtain ⟨k',e3,e4⟩:=h2.b
 rw [e2] at e3
 obtain rfl:=Option.some.inj e3
 refine ⟨h1.toWr.comp h2.toWr,k,e1,?_⟩
 rw [e4,z75,h1.len]
 simp only [List.append_assoc]
theorem yiy(h:z9q ws i)(hp:p i):yix (Zt 32 ws) p:=by
 obtain ⟨u,us,rfl,h1,h2⟩:=h
 exact ⟨u,us,i,zf4 u us h2,h1,hp⟩
theorem sp0{l:ByteArray}(h:yix l p):SpL l (0,w0,p):=⟨λ_=>h,λe=>absurd e yun,λe=>absurd e yun⟩
theorem sp3:SpL (Zt 32 ws) (opn ws):=⟨λe=>absurd e yun,λe=>absurd e yun,λ_=>rfl⟩
theorem sp6{l:ByteArray}:SpL l (6,w0,p):=⟨λe=>absurd e yun,λe=>absurd e yun,λe=>absurd e yun⟩
theorem sp1:SpL (Zt 32 [yJz,yR4]) trp:=⟨λe=>absurd e yun,λ_=>rfl,λe=>absurd e yun⟩
theorem sp2:SpL (Zt 32 [yJz,yR4]) und:=⟨λe=>absurd e yun,λ_=>rfl,λe=>absurd e yun⟩
theorem Wr.one{q:Kd}(s:Ck)(ws:List ByteArray)(h1:q.1≠1)(h:SpL (Zt 32 ws) q):Wr s (s.add ws) [q]:=
 ⟨⟨[Zt 32 ws],rfl,h,trivial⟩,by simp [z8i,h1,Ck.add],rfl⟩
theorem Wr.addP(s:Ck)(h:z9q ws i)(hp:p i):Wr s (s.add ws) [(0,[],p)]:= .one s ws (show (0:Nat)≠1 by decide) (sp0 (yiy h hp))
theorem Wr.add(s:Ck)(h:z9q ws i):Wr s (s.add ws) [fin i]:= .addP s h rfl
theorem Wr.open(s:Ck)(ws:List ByteArray):Wr s (s.add ws) [opn ws]:= .one s ws (show (3:Nat)≠1 by decide) sp3
theorem Wr.any(s:Ck)(ws:List ByteArray):Wr s (s.add ws) [nul]:= .one s ws (show (6:Nat)≠1 by decide) sp6
theorem Wr.trap(s:Ck):Wr s s.trapIf [trp]:=
 ⟨⟨[Zt 32 [yJz,yR4]],rfl,sp1,trivial⟩,by simp [z8i,Ck.trapIf],rfl⟩
theorem WrU.of(h:Wr s s' qs)(hb:s'.blk=s.blk)(h2:z8i 2 qs s.L.length=[])(hk:s.blk=some k):WrU s s' qs:=⟨h,k,hk,by rw [hb,hk,h2,List.append_nil]⟩
theorem WrU.undo(hk:s.blk=some k):WrU s s.undoIf [und]:=by
 refine ⟨⟨⟨[Zt 32 [yJz,yR4]],rfl,sp2,trivial⟩,by simp [z8i,Ck.undoIf,Ck.add],rfl⟩,k,hk,?_⟩
 unfold Ck.undoIf
 have:s.bk=k:=by unfold Ck.bk;rw [hk];rfl
 simp [z8i,this]
theorem Wr.land(h:Wr s s' (q1++opn ws::q2))(hw:ws≠[]){n:Nat}(hn:n=s.L.length+q1.length){q:Kd}(hq:SpL (Zt 32 (ws++[dec (s'.L.length:Int)])) (q.1,w0,q.2.2))(hq1:q.1≠1):Wr s (s'.land n) (q1++(q.1,w0,q.2.2)::q2):=by
 obtain ⟨ls,e,hs⟩:=h.ex
 obtain ⟨l1,l2,rfl,p1,p2⟩:=hs.split
 cases l2 with
 |nil=>exact p2.elim
 |cons l l2=>
  obtain ⟨pl,p2⟩:=p2
  have el:l=Zt 32 ws:=pl.2.2 rfl
  have hl1:=p1.len
  subst hn
  refine ⟨⟨l1++Zt 32 (ws++[dec (s'.L.length:Int)])::l2,?_,p1.app ⟨hq,p2⟩⟩,?_,h.lo⟩
  ·show s'.L.set (s.L.length+q1.length) _=_
   have hg:s'.L[s.L.length+q1.length]?=some l:=by
    rw [e,List.getElem?_append_right yum,show s.L.length+q1.length- s.L.length=l1.length by omega,List.getElem?_append_right (Nat.le_refl _)]
    simp
   rw [hg,Option.getD_some,el,zuk ws _ hw]
   generalize Zt 32 (ws++[dec (s'.L.length:Int)])=z
   rw [e,List.set_append_right (s.L.length+q1.length) z yum,show s.L.length+q1.length- s.L.length=l1.length by omega,List.set_append_right l1.length z (Nat.le_refl _)]
   simp
  ·show s'.T=_
   rw [h.T,z75,z75]
   simp [z8i,hq1]
theorem Wr.landP(h:Wr s s' (q1++opn ws::q2))(hw:ws≠[]){n:Nat}(hn:n=s.L.length+q1.length)(hi:z9q (ws++[dec (s'.L.length:Int)]) i)(hp:p i):Wr s (s'.land n) (q1++(0,[],p)::q2):=
 h.land (q:=(0,[],p)) hw hn (sp0 (yiy hi hp)) (show (0:Nat)≠1 by decide)
theorem yf1(k:Nat)(hk:k≠3)(a:Nat){q:Kd}(hq:q.1≠k):z8i k (q1++q::q2) a=z8i k (q1++opn ws::q2) a:=by
 rw [z75,z75]
 simp [z8i,hq,Ne.symm hk]
theorem WrU.landP(h:WrU s s' (q1++opn ws::q2))(hw:ws≠[]){n:Nat}(hn:n=s.L.length+q1.length)(hi:z9q (ws++[dec (s'.L.length:Int)]) i)(hp:p i):WrU s (s'.land n) (q1++(0,[],p)::q2):=by
 obtain ⟨k,e1,e2⟩:=h.b
 exact ⟨h.toWr.landP hw hn hi hp,k,e1,by rw [yf1 2 yup _ (by decide:(0:Nat)≠2)];exact e2⟩
end
def Cx.o(x:Cx):Int:=13+(x.th:Int)*39
def Cx.vl(x:Cx)(a:PV):Vl:=if a.name=⟨#[]⟩ then Nm a.num else Rg (x.locI a.name)
section
variable{x:Cx}{s:Ck}
theorem ym3(hx:x.Fit)(u:ByteArray):x.locI u<4:=by
 have:=hx.l
 unfold Cx.locI
 cases h:x.loc.findIdx? λy=>decide (y=u) with
 |none=>simp
 |some i=>
  have:=(List.findIdx?_eq_some_iff_getElem.1 h).1
  simp
  omega
theorem z8r(hx:x.Fit)(u:ByteArray):Rd (x.local u) (x.locI u):=z94 _ (by have:=ym3 hx u;omega)
theorem z78(hx:x.Fit)(ha:a.ok):VdA (x.val a) (x.vl a):=by
 unfold Cx.val Cx.vl
 split
 ·exact z93 _ ha.2.1 ha.2.2
 ·exact (z8r hx _).val
theorem z71(hx:x.Fit)(k:Int)(h0:0<=k)(h1:k<=38):Nd (x.own k) (x.o+k):=by
 have:=hx.t
 exact yae (13+(x.th:Int)*39+k) yum yum
theorem ybe(k:Nat)(h1:k<=5):Nd (ze5 (k:Int)) (6+k):=yae _ yum yum
theorem yeu(k:Nat)(h1:k<=5):Nd (dec (k:Int)) k:=yae _ yum yum
theorem yg8(hx:x.Fit):VdA x.lock (Nm (9223372036854775807- (x.th:Int))):=by
 have:=hx.t
 exact z93 _ yum yum
theorem yhn{r a:ByteArray}(hr:Rd r d)(ha:VdA a v)(hb:VdA b y):z9q [yLt,r,a,b] (z87 10 d v y):=yiv 10 yum hr ha hb
theorem yf2{r a:ByteArray}(hr:Rd r d)(ha:VdA a v)(hb:VdA b y):z9q [yjq,r,a,b] (z87 0 d v y):=yiv 0 yum hr ha hb
theorem yi8{r a:ByteArray}(hr:Rd r d)(ha:VdA a v)(hb:VdA b y):z9q [zyo,r,a,b] (z87 1 d v y):=yiv 1 yum hr ha hb
theorem ycj(n:Nat)(h:n<=4000):z9q [zaa,dec (n:Int)] (z92 n):=yi6 (ybd n h)
theorem v4:VdA yR4 (Rg 4):=rd4.val
theorem v5:VdA yR5 (Rg 5):=rd5.val
theorem v6:VdA yR6 (Rg 6):=rd6.val
theorem v7:VdA yR7 (Rg 7):=rd7.val
theorem ydl(n:Nat)(h:n<=4000):z9q ([yJz,yR4]++[dec (n:Int)]) (z8v (Rg 4) n):=yiw v4 (ybd n h)
def Cx.qRead(x:Cx)(to:Nat)(v:Vl)(f:Int)(ag:Nat):List Kd:=
 [fin (z7q 4 v (6+f)),fin (z87 10 4 (Rg 4) (Rg 6)),uJz ag,fin (z7q 5 v f),fin (z7q 4 v (6+f)),fin (z87 10 4 (Rg 4) (Rg 6)),uJz ag,fin (z7p v (x.o+(12+f)) (Nm 1)),fin (ybb to (Rg 5))]
theorem ygh(hx:x.Fit){a:ByteArray}(ht:Rd to t)(ha:VdA a v)(f:Nat)(hf:f<=5)(hg:s.bk.again<=4000):Wr s (x.readC to a (f:Int) s) (x.qRead t v f s.bk.again):=by
 have e1:=z8e rd4 ha (ybe f hf)
 have e2:=yhn rd4 v4 v6
 have e3:z9q [yJz,yR4,dec (s.bk.again:Int)] (z8v (Rg 4) s.bk.again):=yiw v4 (ybd _ hg)
 have e4:=z8e rd5 ha (yeu f hf)
 have e5:=z74 ha (z71 hx (12+(f:Int)) yum yum) vd1
 have e6:=yf0 ht v5
 exact ((((((((Wr.add _ e1).comp (.add _ e2)).comp (.add _ e3)).comp (.add _ e4)).comp (.add _ e1)).comp (.add _ e2)).comp (.add _ e3)).comp (.add _ e5)).comp (.add _ e6)
def Cx.qCheck(x:Cx)(of:ByteArray)(a:PV):List Kd:=
 if a.name=⟨#[]⟩/\0<=a.num/\a.num<(x.var of).2 then [] else [fin (z87 10 4 (Nm (-1)) (x.vl a)),trp,fin (z87 10 4 (x.vl a) (Nm (x.var of).2)),trp]
theorem yev(hx:x.Fit)(ha:a.ok)(hf:x.varOk f):Wr s (x.check f a s) (x.qCheck f a)/\(x.check f a s).blk=s.blk:=by
 obtain ⟨_,f',n,hv,h1,h2⟩:=hf
 unfold Cx.check Cx.qCheck
 dsimp only
 split
 ·exact ⟨Wr.nil s,rfl⟩
 ·rw [hv]
  have e1:=yhn rd4 yjk (z78 hx ha)
  have e2:=yhn rd4 (z78 hx ha) (z93 (n:Int) yum yum)
  exact ⟨(((Wr.add _ e1).comp (Wr.trap _)).comp (.add _ e2)).comp (Wr.trap _),rfl⟩
def Cx.qGet(x:Cx)(to of:ByteArray)(a:PV)(pu:Bool)(ag p:Nat):List Kd:=
 x.qCheck of a++(if pu=false then x.qRead (x.locI to) (x.vl a) (x.var of).1 ag else
  [fin (z7q 4 (x.vl a) (x.o+(6+(x.var of).1))),fin (z8v (Rg 4) ((p+(x.qCheck of a).length+4:Nat):Int)),fin (z7q (x.locI to) (x.vl a) (x.o+(x.var of).1)),fin (z92 ((p+(x.qCheck of a).length+13:Nat):Int))]++x.qRead (x.locI to) (x.vl a) (x.var of).1 ag)
theorem yi9(hx:x.Fit)(ha:a.ok)(hf:x.varOk f)(hg:s.bk.again<=4000){pu:Bool}(hp:(s.bk.puts[(x.var f).1.toNat]?).getD false=pu)(hl:s.L.length+(x.qGet to f a pu s.bk.again s.L.length).length<=4000):
  Wr s (x.get to f a s) (x.qGet to f a pu s.bk.again s.L.length)/\(x.get to f a s).blk=s.blk:=by
 obtain ⟨w0,b0⟩:=yev (s:=s) hx ha hf
 have hb:(x.check f a s).bk=s.bk:=zuq b0
 have hf':=hf
 obtain ⟨_,f',n,hv,h1,h2⟩:=hf'
 have hv1:(x.var f).1=(f':Int):=by rw [hv]
 have hL:=w0.len
 unfold Cx.get
 dsimp only
 rw [hp]
 unfold Cx.qGet at hl⊢
 cases pu with
 |false=>
  rw [if_pos rfl] at hl⊢
  rw [if_pos rfl,hv1]
  have w1:=ygh (s:=x.check f a s) hx (z8r hx to) (z78 hx ha) f' yum (by rw [hb];exact hg)
  rw [hb] at w1
  exact ⟨w0.comp w1,b0⟩
 |true=>
  rw [if_neg yup] at hl⊢
  rw [if_neg yup,hv1]
  have e1:=z8e rd4 (z78 hx ha) (z71 hx (6+(f':Int)) yum yum)
  have e2:=z8e (z8r hx to) (z78 hx ha) (z71 hx (f':Int) yum yum)
  rw [hv1] at hl
  simp only [List.length_append,List.length_cons,List.length_nil,Cx.qRead] at hl
  generalize hs1:x.check f a s=s1 at*
  have w1:=(((Wr.add s1 e1).comp (.open _ [yJz,yR4])).comp (.add _ e2)).comp (.open _ [zaa])
  have l1:=w1.len
  have w2:=Wr.landP (q1:=[fin (z7q 4 (x.vl a) (x.o+(6+(f':Int))))]) (q2:=[fin (z7q (x.locI to) (x.vl a) (x.o+(f':Int))),opn [zaa]]) w1 yun (n:=(s1.add [Qw,yR4,x.val a,x.own (6+(f':Int))]).L.length) yu0 (ydl _ (by rw [l1];simp;omega)) (p:=λj=>j=z8v (Rg 4) ((s.L.length+(x.qCheck f a).length+4:Nat):Int)) (by rw [l1,hL];simp)
  have wr:=ygh (s:=((((s1.add [Qw,yR4,x.val a,x.own (6+(f':Int))]).add [yJz,yR4]).add [Qw,x.local to,x.val a,x.own (f':Int)]).add [zaa]).land (s1.add [Qw,yR4,x.val a,x.own (6+(f':Int))]).L.length) hx (z8r hx to) (z78 hx ha) f' yum (show _<=4000 by show s1.bk.again<=4000;rw [hb];exact hg)
  rw [show (((((s1.add [Qw,yR4,x.val a,x.own (6+(f':Int))]).add [yJz,yR4]).add [Qw,x.local to,x.val a,x.own (f':Int)]).add [zaa]).land (s1.add [Qw,yR4,x.val a,x.own (6+(f':Int))]).L.length).bk=s.bk from hb] at wr
  have w3:=w2.comp wr
  have l3:=w3.len
  have w4:=Wr.landP (q1:=[fin (z7q 4 (x.vl a) (x.o+(6+(f':Int)))),fin (z8v (Rg 4) ((s.L.length+(x.qCheck f a).length+4:Nat):Int)),fin (z7q (x.locI to) (x.vl a) (x.o+(f':Int)))]) (q2:=x.qRead (x.locI to) (x.vl a) (f':Int) s.bk.again) w3 yun (n:=(((s1.add [Qw,yR4,x.val a,x.own (6+(f':Int))]).add [yJz,yR4]).add [Qw,x.local to,x.val a,x.own (f':Int)]).L.length) yu0 (ycj _ (by rw [l3];simp [Cx.qRead];omega)) (p:=λj=>j=z92 ((s.L.length+(x.qCheck f a).length+13:Nat):Int)) (by rw [l3,hL];simp [Cx.qRead])
  exact ⟨w0.comp w4,b0⟩
def Cx.qPut(x:Cx)(of:ByteArray)(a v:PV):List Kd:=
 x.qCheck of a++[fin (z7p (x.vl a) (x.o+(x.var of).1) (x.vl v)),fin (z7p (x.vl a) (x.o+(6+(x.var of).1)) (Nm 1)),fin (z7p (x.vl a) (x.o+(12+(x.var of).1)) (Nm 0))]
theorem yja(hx:x.Fit){v:PV}(ha:a.ok)(hv:v.ok)(hf:x.varOk f):Wr s (x.put f a v s) (x.qPut f a v)/\(x.put f a v s).blk=s.blk:=by
 obtain ⟨w0,b0⟩:=yev (s:=s) hx ha hf
 obtain ⟨_,f',n,hv',h1,h2⟩:=hf
 have hv1:(x.var f).1=(f':Int):=by rw [hv']
 have e1:=z74 (z78 hx ha) (z71 hx (f':Int) yum yum) (z78 hx hv)
 have e2:=z74 (z78 hx ha) (z71 hx (6+(f':Int)) yum yum) vd1
 have e3:=z74 (z78 hx ha) (z71 hx (12+(f':Int)) yum yum) vd0
 unfold Cx.put Cx.qPut
 dsimp only
 rw [hv1]
 exact ⟨w0.comp (((Wr.add _ e1).comp (.add _ e2)).comp (.add _ e3)),b0⟩
def Cx.qOut(x:Cx)(a:PV)(b:Bool):List Kd:=if b=false then [fin (ydj (x.vl a))] else [fin (z7p (Rg 7) (x.o+24) (x.vl a)),fin (z87 0 7 (Rg 7) (Nm 1))]
theorem yjb(hx:x.Fit)(ha:a.ok){b:Bool}(hb:s.blk.isSome=b):Wr s (x.outC a s) (x.qOut a b)/\(x.outC a s).blk=s.blk:=by
 unfold Cx.outC Cx.qOut
 cases h:s.blk with
 |none=>
  rw [h] at hb
  rw [<-hb]
  exact ⟨Wr.add _ (yh8 (z78 hx ha)),h⟩
 |some k=>
  rw [h] at hb
  rw [<-hb]
  exact ⟨(Wr.add _ (z74 v7 (z71 hx 24 yum yum) (z78 hx ha))).comp (.add _ (yf2 rd7 v7 vd1)),h⟩
def Cx.qLeaf(x:Cx)(kb:Option Bk)(p:Nat):St->List Kd
 | .inl (to,a)=>[fin (ybb (x.locI to) (x.vl a))]
 | .inr (.inl (to,o,a,b))=>[fin (z87 o (x.locI to) (x.vl a) (x.vl b))]
 | .inr (.inr (.inl (to,of,a)))=>x.qGet to of a (((kb.getD bk0).puts[(x.var of).1.toNat]?).getD false) (kb.getD bk0).again p
 | .inr (.inr (.inr (.inl (of,a,v))))=>x.qPut of a v
 | .inr (.inr (.inr (.inr (.inl a))))=>x.qOut a kb.isSome
 |_=>[]
theorem yic(hx:x.Fit){st:St}(h:x.leafOk s.blk.isSome st)(hg:s.bk.again<=4000)(hl:s.L.length+(x.qLeaf s.blk s.L.length st).length<=4000):Wr s (x.leaf st s) (x.qLeaf s.blk s.L.length st)/\(x.leaf st s).blk=s.blk:=by
 rcases st with ⟨to,a⟩|⟨to,o,a,b⟩|⟨to,f,a⟩|⟨f,a,v⟩|a|⟨⟩|a|n
 ·exact ⟨Wr.add _ (yf0 (z8r hx to) (z78 hx h.2)),rfl⟩
 ·exact ⟨Wr.add _ (yiv o h.2.1 (z8r hx to) (z78 hx h.2.2.1) (z78 hx h.2.2.2)),rfl⟩
 ·obtain ⟨hb,_,hf,ha⟩:=h
  obtain ⟨k,hk⟩:=Option.isSome_iff_exists.1 hb
  have hbk:s.bk=s.blk.getD bk0:=by rw [Sq hk,hk];rfl
  have:=yi9 (s:=s) (to:=to) hx ha hf hg rfl (by rw [hbk];exact hl)
  rw [hbk] at this
  exact this
 ·exact yja hx h.2.2.1 h.2.2.2 h.2.1
 ·exact yjb hx h rfl
 ·exact h.elim
 ·exact h.elim
 ·exact h.elim
end
def z7l(q:Nat->Nat->List Kd):List Bool->Nat->Nat->List Kd
 |[],_,_=>[]
 |b::r,i,p=>(if b=true then q i p else [])++z7l q r (i+1) (p+(if b=true then q i p else []).length)
theorem Wr.blk{qs:List Kd}(h:Wr s s' qs)(b:Option Bk):Wr s {s' with blk:=b} qs:=⟨h.ex,h.T,h.lo⟩
theorem Wr.blk0{qs:List Kd}{b:Option Bk}(h:Wr {s with blk:=b} s' qs):Wr s s' qs:=⟨h.ex,h.T,h.lo⟩
theorem z9d{f:Nat->Ck->Ck}{q:Nat->Nat->List Kd}(hf: ∀i s,i<N->Wr s (f i s) (q i s.L.length)): ∀(l:List Bool) (i:Nat) (s:Ck),i+l.length<=N->Wr s (Qn f l i s) (z7l q l i s.L.length)
 |[],_,s,_=>Wr.nil s
 |b::r,i,s,h=>by
  simp only [List.length_cons] at h
  simp only [Qn,z7l]
  have w1:Wr s (if b=true then f i s else s) (if b=true then q i s.L.length else []):=by
   split
   ·exact hf i s yum
   ·exact Wr.nil s
  have:=w1.comp (z9d hf r (i+1) _ yum)
  rw [w1.len] at this
  exact this
theorem z9r{f:Nat->Ck->Ck}{q:Nat->Nat->List Kd}(hf: ∀i s,i<N->(∃k,s.blk=some k)->s.L.length+(q i s.L.length).length<=4000->WrU s (f i s) (q i s.L.length)): ∀(l:List Bool) (i:Nat) (s:Ck),i+l.length<=N->(∃k,s.blk=some k)->s.L.length+(z7l q l i s.L.length).length<=4000->WrU s (Qn f l i s) (z7l q l i s.L.length)
 |[],_,s,_,⟨k,hk⟩,_=>⟨Wr.nil s,k,hk,by simp [z8i,Qn,z7l,hk]⟩
 |b::r,i,s,h,⟨k,hk⟩,hl=>by
  simp only [List.length_cons] at h
  simp only [Qn,z7l,List.length_append] at hl⊢
  have w1:WrU s (if b=true then f i s else s) (if b=true then q i s.L.length else []):=by
   split
   ·rename_i hb
    rw [if_pos hb] at hl
    exact hf i s yum ⟨k,hk⟩ yum
   ·exact ⟨Wr.nil s,k,hk,by simp [z8i,hk]⟩
  obtain ⟨k',_,hk'⟩:=w1.b
  have:=w1.comp (z9r hf r (i+1) _ yum ⟨_,hk'⟩ (by rw [w1.len];omega))
  rw [w1.len] at this
  exact this
def kTo(k:Nat)(q' q:Kd):Kd:=if q.1=k then q' else q
theorem yau(k:Nat)(hk:k=1\/k=2)(p:Ic->Prop): ∀(qs:List Kd) (ls pre:List ByteArray) (s:Ck),s.L=pre++ls->Sps ls qs->s.L.length<=4000->p (z8v (Rg 4) s.L.length) ->
  ∃ls',(s.lands (z8i k qs pre.length)).L=pre++ls'/\Sps ls' (qs.map (kTo k (0,[],p)))
 |[],[],pre,s,e,_,_,_=>⟨[],e,trivial⟩
 |[],_::_,_,_,_,h,_,_=>h.elim
 |_::_,[],_,_,_,h,_,_=>h.elim
 |q::qs,l::ls,pre,s,e,h,hl,hp=>by
  by_cases hq:q.1=k
  ·have el:l=Zt 32 [yJz,yR4]:=h.1.2.1 (by rw [hq];exact hk)
   have hg:s.L[pre.length]?=some l:=by rw [e,List.getElem?_append_right (Nat.le_refl _)];simp
   have e2:(s.land pre.length).L=(pre++[Zt 32 ([yJz,yR4]++[dec (s.L.length:Int)])])++ls:=by
    show s.L.set pre.length _=_
    rw [hg,Option.getD_some,el,zuk _ _ yun]
    generalize Zt 32 ([yJz,yR4]++[dec (s.L.length:Int)])=z
    rw [e,List.set_append_right pre.length z (Nat.le_refl _)]
    simp
   have e3:(s.land pre.length).L.length=s.L.length:=Vv _ _
   obtain ⟨ls',h1,h2⟩:=yau k hk p qs ls (pre++[Zt 32 ([yJz,yR4]++[dec (s.L.length:Int)])]) (s.land pre.length) e2 h.2 (by rw [e3];exact hl) (by rw [e3];exact hp)
   refine ⟨Zt 32 ([yJz,yR4]++[dec (s.L.length:Int)])::ls',?_,?_⟩
   ·simp only [z8i,if_pos hq]
    show ((s.land pre.length).lands (z8i k qs (pre.length+1))).L=_
    rw [show pre.length+1=(pre++[Zt 32 ([yJz,yR4]++[dec (s.L.length:Int)])]).length by simp,h1]
    simp
   ·simp only [List.map_cons,kTo,if_pos hq]
    exact ⟨sp0 (yiy (ydl _ hl) hp),h2⟩
  ·obtain ⟨ls',h1,h2⟩:=yau k hk p qs ls (pre++[l]) s yvo h.2 hl hp
   refine ⟨l::ls',?_,?_⟩
   ·simp only [z8i,if_neg hq]
    rw [show pre.length+1=(pre++[l]).length by simp,h1]
    simp
   ·simp only [List.map_cons,kTo,if_neg hq]
    exact ⟨h.1,h2⟩
theorem z8s(g:Kd->Kd){q q':Nat->Nat->List Kd}(h: ∀i p,(q i p).map g=q' i p): ∀(l:List Bool) (i p:Nat),(z7l q l i p).map g=z7l q' l i p
 |[],_,_=>rfl
 |b::r,i,p=>by
  simp only [z7l,List.map_append]
  have e:(if b=true then q i p else []).map g=(if b=true then q' i p else []):=by split<;>simp [h]
  have e2:(if b=true then q i p else []).length=(if b=true then q' i p else []).length:=by rw [<-e,List.length_map]
  rw [e,e2,z8s g h]
section
variable{x:Cx}{s:Ck}
def Cx.qLock(x:Cx)(u:Kd)(i p:Nat):List Kd:=
 [fin (z7q 4 (Nm 0) (x.o+(6+i))),fin (z8v (Rg 4) ((p+8:Nat):Int)),fin (z7q 5 (Nm 0) (6+i)),fin (z87 10 4 (Rg 5) (Rg 6)),u,fin (z7p (Nm 0) (x.o+(18+i)) (Rg 5)),fin (ydi 4 (Nm 0) (6+i) (Rg 5) (Nm (9223372036854775807- (x.th:Int)))),u]
def Cx.qLook(x:Cx)(u:Kd)(i p:Nat):List Kd:=
 [fin (z7q 4 (Nm 0) (x.o+(12+i))),fin (z8v (Rg 4) ((p+5:Nat):Int)),fin (z7q 4 (Nm 0) (6+i)),fin (z87 10 4 (Rg 4) (Rg 6)),u]
def Cx.qStore(x:Cx)(i p:Nat):List Kd:=
 [fin (z7q 4 (Nm 0) (x.o+(6+i))),fin (z8v (Rg 4) ((p+5:Nat):Int)),fin (z7q 4 (Nm 0) (x.o+i)),fin (z7p (Nm 0) i (Rg 4)),fin (z7p (Nm 0) (6+i) (Rg 5))]
theorem wu{qs:List Kd}(h:Wr s s' qs)(hb:s'.blk=s.blk)(h2: ∀q∈qs,q.1≠2)(hk:s.blk=some k):WrU s s' qs:=by
 refine WrU.of h hb ?_ hk
 cases e:z8i 2 qs s.L.length with
 |nil=>rfl
 |cons n r=>
  obtain ⟨_,_,q,h3,h4⟩:=yet 2 qs s.L.length n yvo
  exact absurd h4 (h2 q (List.mem_of_getElem? h3))
theorem WrU.add(h:z9q ws i)(hk:s.blk=some k):WrU s (s.add ws) [fin i]:=wu (.add s h) rfl yun hk
theorem WrU.open(ws:List ByteArray)(hk:s.blk=some k):WrU s (s.add ws) [opn ws]:=wu (.open s ws) rfl yun hk
theorem yid(hx:x.Fit)(i:Nat)(hi:i<6)(hb: ∃k,s.blk=some k)(hl:s.L.length+8<=4000):WrU s (x.lockC (i:Int) s) (x.qLock und i s.L.length):=by
 obtain ⟨k,hk⟩:=hb
 have e1:=z8e rd4 vd0 (z71 hx (6+(i:Int)) yum yum)
 have e2:=z8e rd5 vd0 (ybe i yum)
 have e3:=yhn rd4 v5 v6
 have e4:=z74 vd0 (z71 hx (18+(i:Int)) yum yum) v5
 have e5:=yi7 rd4 vd0 (ybe i yum) v5 (yg8 hx)
 have w1:=(((WrU.add e1 hk).comp (.open [yJz,yR4] hk)).comp (.add e2 hk)).comp (.add e3 hk)
 have w2:=w1.comp (.undo hk)
 obtain ⟨k2,_,hk2⟩:=w2.b
 have w3:=(w2.comp (.add e4 hk2)).comp (.add e5 hk2)
 have w4:=w3.comp (.undo hk2)
 have l4:=w4.len
 exact WrU.landP (q1:=[fin (z7q 4 (Nm 0) (x.o+(6+(i:Int))))]) (q2:=[fin (z7q 5 (Nm 0) (6+i)),fin (z87 10 4 (Rg 5) (Rg 6)),und,fin (z7p (Nm 0) (x.o+(18+i)) (Rg 5)),fin (ydi 4 (Nm 0) (6+i) (Rg 5) (Nm (9223372036854775807- (x.th:Int)))),und]) w4 yun (n:=(s.add [Qw,yR4,y0,x.own (6+(i:Int))]).L.length) yu0 (ydl _ yvv) (p:=λj=>j=z8v (Rg 4) ((s.L.length+8:Nat):Int)) (by rw [l4];simp)
theorem yie(hx:x.Fit)(i:Nat)(hi:i<6)(hb: ∃k,s.blk=some k)(hl:s.L.length+5<=4000):WrU s (x.lookC (i:Int) s) (x.qLook und i s.L.length):=by
 obtain ⟨k,hk⟩:=hb
 have e1:=z8e rd4 vd0 (z71 hx (12+(i:Int)) yum yum)
 have e2:=z8e rd4 vd0 (ybe i yum)
 have e3:=yhn rd4 v4 v6
 have w4:=((((WrU.add e1 hk).comp (.open [yJz,yR4] hk)).comp (.add e2 hk)).comp (.add e3 hk)).comp (.undo hk)
 have l4:=w4.len
 exact WrU.landP (q1:=[fin (z7q 4 (Nm 0) (x.o+(12+(i:Int))))]) (q2:=[fin (z7q 4 (Nm 0) (6+i)),fin (z87 10 4 (Rg 4) (Rg 6)),und]) w4 yun (n:=(s.add [Qw,yR4,y0,x.own (12+(i:Int))]).L.length) yu0 (ydl _ yvv) (p:=λj=>j=z8v (Rg 4) ((s.L.length+5:Nat):Int)) (by rw [l4];simp)
theorem yg9(hx:x.Fit)(i:Nat)(hi:i<6)(hb: ∃k,s.blk=some k)(hl:s.L.length+5<=4000):WrU s (x.storeC (i:Int) s) (x.qStore i s.L.length):=by
 obtain ⟨k,hk⟩:=hb
 have e1:=z8e rd4 vd0 (z71 hx (6+(i:Int)) yum yum)
 have e2:=z8e rd4 vd0 (z71 hx (i:Int) yum yum)
 have e3:=z74 vd0 (yeu i yum) v4
 have e4:=z74 vd0 (ybe i yum) v5
 have w4:=((((WrU.add e1 hk).comp (.open [yJz,yR4] hk)).comp (.add e2 hk)).comp (.add e3 hk)).comp (.add e4 hk)
 have l4:=w4.len
 exact WrU.landP (q1:=[fin (z7q 4 (Nm 0) (x.o+(6+(i:Int))))]) (q2:=[fin (z7q 4 (Nm 0) (x.o+i)),fin (z7p (Nm 0) i (Rg 4)),fin (z7p (Nm 0) (6+i) (Rg 5))]) w4 yun (n:=(s.add [Qw,yR4,y0,x.own (6+(i:Int))]).L.length) yu0 (ydl _ yvv) (p:=λj=>j=z8v (Rg 4) ((s.L.length+5:Nat):Int)) (by rw [l4];simp)
theorem ylt{f:Nat->Ck->Ck}{q:Nat->Nat->List Kd}(hf: ∀i s,i<N->s.L.length+(q i s.L.length).length<=4000->Wr s (f i s) (q i s.L.length)): ∀(l:List Bool) (i:Nat) (s:Ck),i+l.length<=N->s.L.length+(z7l q l i s.L.length).length<=4000->Wr s (Qn f l i s) (z7l q l i s.L.length)
 |[],_,s,_,_=>Wr.nil s
 |b::r,i,s,h,hl=>by
  simp only [List.length_cons] at h
  simp only [Qn,z7l,List.length_append] at hl⊢
  have w1:Wr s (if b=true then f i s else s) (if b=true then q i s.L.length else []):=by
   split
   ·rename_i hb
    rw [if_pos hb] at hl
    exact hf i s yum yum
   ·exact Wr.nil s
  have:=w1.comp (ylt hf r (i+1) _ yum (by rw [w1.len];omega))
  rw [w1.len] at this
  exact this
def Cx.qUnlock(x:Cx)(i p:Nat):List Kd:=
 [fin (z7q 4 (Nm 0) (6+i)),fin (z87 11 4 (Rg 4) (Nm (9223372036854775807- (x.th:Int)))),fin (z8v (Rg 4) ((p+5:Nat):Int)),fin (z7q 4 (Nm 0) (x.o+(18+i))),fin (z7p (Nm 0) (6+i) (Rg 4))]
theorem yox{r a:ByteArray}(hr:Rd r d)(ha:VdA a v)(hb:VdA b y):z9q [yEq,r,a,b] (z87 11 d v y):=yiv 11 yum hr ha hb
theorem yf3(hx:x.Fit)(i:Nat)(hi:i<6)(hl:s.L.length+5<=4000):Wr s (x.unlockC (i:Int) s) (x.qUnlock i s.L.length):=by
 have w4:=((((Wr.add s (z8e rd4 vd0 (ybe i yum))).comp (.add _ (yox rd4 v4 (yg8 hx)))).comp (.open _ [yJz,yR4])).comp (.add _ (z8e rd4 vd0 (z71 hx (18+(i:Int)) yum yum)))).comp (.add _ (z74 vd0 (ybe i yum) v4))
 have l4:=w4.len
 exact Wr.landP (q1:=[fin (z7q 4 (Nm 0) (6+i)),fin (z87 11 4 (Rg 4) (Nm (9223372036854775807- (x.th:Int))))]) (q2:=[fin (z7q 4 (Nm 0) (x.o+(18+i))),fin (z7p (Nm 0) (6+i) (Rg 4))]) w4 yun (n:=((s.add [Qw,yR4,y0,ze5 (i:Int)]).add [yEq,yR4,yR4,x.lock]).L.length) yu0 (ydl _ yvv) (p:=λj=>j=z8v (Rg 4) ((s.L.length+5:Nat):Int)) (by rw [l4];simp)
def Cx.qUn(x:Cx)(k:Bk)(p:Nat):List Kd:=z7l x.qUnlock k.puts 0 p++[fin (z92 (k.again:Int))]
theorem z8a(q:Nat->List Kd): ∀(l:List Bool) (i p p':Nat),z7l (λi _=>q i) l i p=z7l (λi _=>q i) l i p'
 |[],_,_,_=>rfl
 |b::r,i,p,p'=>by
  simp only [z7l]
  rw [z8a q r (i+1) _ (p'+(if b=true then q i else []).length)]
def Cx.qCom(x:Cx)(u:Kd)(k:Bk)(p:Nat):List Kd:=
 z7l (x.qLock u) k.puts 0 p++([fin (ybc 5 (Nm 0) 12 (Nm 1)),fin (z87 0 5 (Rg 5) (Nm 1))]++(z7l (x.qLook u) k.gets 0 (p+(z7l (x.qLock u) k.puts 0 p).length+2)++(z7l x.qStore k.puts 0 (p+(z7l (x.qLock u) k.puts 0 p).length+2+(z7l (x.qLook u) k.gets 0 (p+(z7l (x.qLock u) k.puts 0 p).length+2)).length)++[fin yb2])))
def Cx.qUp(x:Cx)(k:Bk)(p:Nat):Nat:=p+(x.qCom und k p).length+1
def Cx.qCommit(x:Cx)(k:Bk)(p:Nat):List Kd:=
 x.qCom (uJz (x.qUp k p)) k p++fin (z92 ((p+(x.qCom und k p).length+1+(x.qUn k (x.qUp k p)).length:Nat):Int))::x.qUn k (x.qUp k p)
theorem yha(x:Cx)(k:Bk)(p n:Nat):(x.qCom und k p).map (kTo 2 (uJz n))=x.qCom (uJz n) k p:=by
 have e1: ∀i p,(x.qLock und i p).map (kTo 2 (uJz n))=x.qLock (uJz n) i p:=λi p=>by simp [Cx.qLock,kTo]
 have e2: ∀i p,(x.qLook und i p).map (kTo 2 (uJz n))=x.qLook (uJz n) i p:=λi p=>by simp [Cx.qLook,kTo]
 have e3: ∀i p,(x.qStore i p).map (kTo 2 (uJz n))=x.qStore i p:=λi p=>by simp [Cx.qStore,kTo]
 have l1:(z7l (x.qLock und) k.puts 0 p).length=(z7l (x.qLock (uJz n)) k.puts 0 p).length:=by rw [<-z8s _ e1,List.length_map]
 unfold Cx.qCom
 rw [l1]
 have l2: ∀z,(z7l (x.qLook und) k.gets 0 z).length=(z7l (x.qLook (uJz n)) k.gets 0 z).length:=λz=>by rw [<-z8s _ e2,List.length_map]
 rw [l2]
 simp only [List.map_append,z8s _ e1,z8s _ e2,z8s _ e3]
 simp [kTo]
def Cx.com1(x:Cx)(s:Ck):Ck:=(Qn (λi=>x.storeC i) s.bk.puts 0 (Qn (λi=>x.lookC i) s.bk.gets 0 (((Qn (λi=>x.lockC i) s.bk.puts 0 s).add [Xf,yR5,y0,dec 12,y1]).add [yjq,yR5,yR5,y1]))).add [Yn]
theorem yew(x:Cx)(s:Ck):x.commit s=(x.undoC ((x.com1 s).add [zaa])).land (x.com1 s).L.length:=rfl
theorem yjc(hx:x.Fit)(hk:s.blk=some k)(hp:k.puts.length=6)(hg:k.gets.length=6)(hl:s.L.length+(x.qCom und k s.L.length).length<=4000):WrU s (x.com1 s) (x.qCom und k s.L.length):=by
 unfold Cx.com1
 rw [Sq hk]
 unfold Cx.qCom at hl⊢
 simp only [List.length_append,List.length_cons,List.length_nil] at hl
 have w1:WrU s (Qn (λi=>x.lockC i) k.puts 0 s) (z7l (x.qLock und) k.puts 0 s.L.length):=
  z9r (N:=6) (λi s hi hb hl=>yid hx i hi hb hl) k.puts 0 s yum ⟨k,hk⟩ yum
 obtain ⟨k1,ek1,hk1⟩:=w1.b
 have l1:=w1.len
 generalize Qn (λi=>x.lockC i) k.puts 0 s=S1 at*
 generalize z7l (x.qLock und) k.puts 0 s.L.length=A1 at*
 have w2:=(WrU.add (s:=S1) (yh9 rd5 vd0 (yae 12 yum yum) vd1) hk1).comp (.add (yf2 rd5 v5 vd1) hk1)
 have l2:=w2.len
 generalize hS2:(S1.add [Xf,yR5,y0,dec 12,y1]).add [yjq,yR5,yR5,y1]=S2 at*
 have e2:S2.L.length=s.L.length+A1.length+2:=by rw [l2,l1];simp
 obtain ⟨k2,ek2,hk2⟩:=w2.b
 have w3:WrU S2 (Qn (λi=>x.lookC i) k.gets 0 S2) (z7l (x.qLook und) k.gets 0 S2.L.length):=
  z9r (N:=6) (λi s hi hb hl=>yie hx i hi hb hl) k.gets 0 S2 yum ⟨_,hk2⟩ (by rw [e2];omega)
 rw [e2] at w3
 have l3:=w3.len
 obtain ⟨k3,ek3,hk3⟩:=w3.b
 generalize Qn (λi=>x.lookC i) k.gets 0 S2=S3 at*
 generalize z7l (x.qLook und) k.gets 0 (s.L.length+A1.length+2)=A2 at*
 have e3:S3.L.length=s.L.length+A1.length+2+A2.length:=by rw [l3,e2]
 have w4:WrU S3 (Qn (λi=>x.storeC i) k.puts 0 S3) (z7l x.qStore k.puts 0 S3.L.length):=
  z9r (N:=6) (λi s hi hb hl=>yg9 hx i hi hb hl) k.puts 0 S3 yum ⟨_,hk3⟩ (by rw [e3];omega)
 rw [e3] at w4
 obtain ⟨k4,ek4,hk4⟩:=w4.b
 exact w1.comp (w2.comp (w3.comp (w4.comp (.add yg7 hk4))))
theorem yf4(hx:x.Fit)(hk:s.blk=some k)(hu:k.undo=[])(hp:k.puts.length=6)(hg:k.gets.length=6)(hag:k.again<=4000)(hl:s.L.length+(x.qCommit k s.L.length).length<=4000):Wr s (x.commit s) (x.qCommit k s.L.length):=by
 have hmap:=yha x k s.L.length (x.qUp k s.L.length)
 have hlen:(x.qCom und k s.L.length).length=(x.qCom (uJz (x.qUp k s.L.length)) k s.L.length).length:=by rw [<-hmap,List.length_map]
 unfold Cx.qCommit at hl⊢
 simp only [List.length_append,List.length_cons] at hl
 have w1:=yjc hx hk hp hg yum
 rw [yew]
 obtain ⟨k1,ek1,hk1⟩:=w1.b
 have ek1:k1=k:=Option.some.inj (ek1.symm.trans hk)
 subst ek1
 have l1:=w1.len
 generalize x.com1 s=S1 at*
 have w2:=w1.comp (.open [zaa] hk1)
 have l2:=w2.len
 obtain ⟨k2,ek2,hk2⟩:=w2.b
 have ek2:k2=k1:=Option.some.inj (ek2.symm.trans hk)
 subst ek2
 generalize hS2:S1.add [zaa]=S2 at*
 rw [hu,List.nil_append] at hk2
 have hb2:S2.bk={k2 with undo:=z8i 2 (x.qCom und k2 s.L.length++[opn [zaa]]) s.L.length}:=Sq hk2
 simp only [List.length_append,List.length_cons,List.length_nil] at l2
 have hup:S2.L.length=x.qUp k2 s.L.length:=by unfold Cx.qUp;omega
 -- the leaps to what is Jg it
 obtain ⟨ls,e,hs⟩:=w2.ex
 obtain ⟨ls',q1,q2⟩:=yau 2 (.inr rfl) (λj=>j=z8v (Rg 4) ((x.qUp k2 s.L.length:Nat):Int)) _ ls s.L S2 e hs yum (by rw [hup])
 rw [List.map_append,show (0,([]:List ByteArray),λj=>j=z8v (Rg 4) ((x.qUp k2 s.L.length:Nat):Int))=uJz (x.qUp k2 s.L.length) from rfl,hmap,show [opn [zaa]].map (kTo 2 (uJz (x.qUp k2 s.L.length)))=[opn [zaa]] by simp [kTo]] at q2
 have w3:Wr s (S2.lands S2.bk.undo) (x.qCom (uJz (x.qUp k2 s.L.length)) k2 s.L.length++[opn [zaa]]):=by
  rw [hb2]
  refine ⟨⟨ls',q1,q2⟩,?_,(zmh _ _).trans w2.lo⟩
  rw [(zcl _ _).1,w2.T]
  congr 1
  rw [z75,z75,<-hmap]
  have: ∀(qs:List Kd) (a:Nat),z8i 1 (qs.map (kTo 2 (uJz (x.qUp k2 s.L.length)))) a=z8i 1 qs a:=by
   intro qs
   induction qs with
   |nil=>intro a;rfl
   |cons q r ih=>
    intro a
    simp only [List.map_cons,z8i,ih]
    by_cases h2:q.1=2
    ·simp [kTo,h2]
    ·simp [kTo,h2]
  rw [this,List.length_map]
 have l3:=w3.len
 simp only [List.length_append,List.length_cons,List.length_nil] at l3
 have hl3:(S2.lands S2.bk.undo).L.length=x.qUp k2 s.L.length:=by unfold Cx.qUp;omega
 unfold Cx.qUn at hl⊢
 simp only [List.length_append,List.length_cons,List.length_nil] at hl
 have wu:=ylt (f:=λi=>x.unlockC i) (q:=x.qUnlock) (N:=6) (λi s hi hl=>yf3 hx i hi hl) k2.puts 0 (S2.lands S2.bk.undo) yum (by rw [hl3];rw [hl3] at l3;omega)
 rw [hl3] at wu
 have w4:=w3.comp (wu.comp (.add _ (ycj k2.again hag)))
 have hbp:S2.bk.puts=k2.puts/\S2.bk.again=k2.again:=by rw [hb2];exact ⟨rfl,rfl⟩
 have w5:Wr s (x.undoC S2) (x.qCom (uJz (x.qUp k2 s.L.length)) k2 s.L.length++opn [zaa]::(z7l x.qUnlock k2.puts 0 (x.qUp k2 s.L.length)++[fin (z92 (k2.again:Int))])):=by
  unfold Cx.undoC Ck.back
  dsimp only
  rw [hbp.1,hbp.2]
  simpa using w4
 have l5:=w5.len
 simp only [List.length_append,List.length_cons,List.length_nil] at l5
 refine w5.landP yun (by rw [l1,hlen]) (ycj _ yum) ?_
 rw [l5]
 congr 1
 simp only [List.length_append,List.length_cons,List.length_nil]
 omega
end
section
variable{x:Cx}{s:Ck}
def Cx.qBegin(x:Cx)(k:Bk):List Kd:=
 z7l (λi _=>[fin (z7p (Nm 0) (x.o+(32+(i:Nat))) (Rg i))]) k.chgs 0 0++(z7l (λi _=>[fin (z7q i (Nm 0) (x.o+(32+(i:Nat))))]) k.chgs 0 0++([fin (z7q 6 (Nm 0) 12),fin (z87 0 6 (Rg 6) (Nm 1))]++
  (z7l (λi _=>[fin (z7p (Nm 0) (x.o+(6+(i:Nat))) (Nm 0))]) k.puts 0 0++(z7l (λi _=>[fin (z7p (Nm 0) (x.o+(12+(i:Nat))) (Nm 0))]) k.gets 0 0++[fin (ybb 7 (Nm 0))]))))
theorem yhb(hx:x.Fit)(hk:s.blk=some k)(hp:k.puts.length=6)(hg:k.gets.length=6)(hc:k.chgs.length=4):Wr s (x.begin s) (x.qBegin k):=by
 have w1:Wr s (Qn (λi s=>s.add [Qh,y0,x.own (32+(i:Nat)),Zy (i:Nat)]) k.chgs 0 s) _:=
  z9d (q:=λi _=>[fin (z7p (Nm 0) (x.o+(32+(i:Nat))) (Rg i))]) (N:=4) (λi s hi=>Wr.add s (z74 vd0 (z71 hx (32+(i:Int)) yum yum) (z94 i yum).val)) k.chgs 0 s yum
 rw [z8a (λi=>[fin (z7p (Nm 0) (x.o+(32+(i:Nat))) (Rg i))]) _ _ _ 0] at w1
 unfold Cx.begin
 dsimp only
 rw [Sq hk]
 refine w1.comp ?_
 generalize Qn (λi s=>s.add [Qh,y0,x.own (32+(i:Nat)),Zy (i:Nat)]) k.chgs 0 s=S1
 refine Wr.blk0 (b:=some {k with again:=S1.L.length}) ?_
 have w2:Wr ({S1 with blk:=some {k with again:=S1.L.length}}:Ck) (Qn (λi s=>s.add [Qw,Zy (i:Nat),y0,x.own (32+(i:Nat))]) k.chgs 0 {S1 with blk:=some {k with again:=S1.L.length}}) _:=
  z9d (q:=λi _=>[fin (z7q i (Nm 0) (x.o+(32+(i:Nat))))]) (N:=4) (λi s hi=>Wr.add s (z8e (z94 i yum) vd0 (z71 hx (32+(i:Int)) yum yum))) k.chgs 0 _ yum
 rw [z8a (λi=>[fin (z7q i (Nm 0) (x.o+(32+(i:Nat))))]) _ _ _ 0] at w2
 refine w2.comp ?_
 generalize Qn (λi s=>s.add [Qw,Zy (i:Nat),y0,x.own (32+(i:Nat))]) k.chgs 0 {S1 with blk:=some {k with again:=S1.L.length}}=S2
 refine ((Wr.add S2 (z8e rd6 vd0 (yae 12 yum yum))).comp (.add _ (yf2 rd6 v6 vd1))).comp ?_
 generalize (S2.add [Qw,yR6,y0,dec 12]).add [yjq,yR6,yR6,y1]=S3
 have w3:Wr S3 (Qn (λi s=>s.add [Qh,y0,x.own (6+(i:Nat)),y0]) k.puts 0 S3) _:=
  z9d (q:=λi _=>[fin (z7p (Nm 0) (x.o+(6+(i:Nat))) (Nm 0))]) (N:=6) (λi s hi=>Wr.add s (z74 vd0 (z71 hx (6+(i:Int)) yum yum) vd0)) k.puts 0 _ yum
 rw [z8a (λi=>[fin (z7p (Nm 0) (x.o+(6+(i:Nat))) (Nm 0))]) _ _ _ 0] at w3
 refine w3.comp ?_
 generalize Qn (λi s=>s.add [Qh,y0,x.own (6+(i:Nat)),y0]) k.puts 0 S3=S4
 have w4:Wr S4 (Qn (λi s=>s.add [Qh,y0,x.own (12+(i:Nat)),y0]) k.gets 0 S4) _:=
  z9d (q:=λi _=>[fin (z7p (Nm 0) (x.o+(12+(i:Nat))) (Nm 0))]) (N:=6) (λi s hi=>Wr.add s (z74 vd0 (z71 hx (12+(i:Int)) yum yum) vd0)) k.gets 0 _ yum
 rw [z8a (λi=>[fin (z7p (Nm 0) (x.o+(12+(i:Nat))) (Nm 0))]) _ _ _ 0] at w4
 exact w4.comp (Wr.add _ (yf0 rd7 vd0))
def Cx.qGive(x:Cx)(p:Nat):List Kd:=
 [fin (ybb 4 (Nm 0)),fin (z87 10 5 (Rg 4) (Rg 7)),fin (z8v (Rg 5) ((p+7:Nat):Int)),fin (z7q 5 (Rg 4) (x.o+24)),fin (ydj (Rg 5)),fin (z87 0 4 (Rg 4) (Nm 1)),fin (z92 ((p+1:Nat):Int))]
theorem yif(hx:x.Fit)(hl:s.L.length+7<=4000):Wr s (x.give s) (x.qGive s.L.length):=by
 have w1:=((((((Wr.add s (yf0 rd4 vd0)).comp (.add _ (yhn rd5 v4 v7))).comp (.open _ [yJz,yR5])).comp (.add _ (z8e rd5 v4 (z71 hx 24 yum yum)))).comp (.add _ (yh8 v5))).comp (.add _ (yf2 rd4 v4 vd1))).comp (.add _ (ycj (s.add [zdp,yR4,y0]).L.length (by simp [Ck.add];omega)))
 have l1:=w1.len
 have:=Wr.landP (q1:=[fin (ybb 4 (Nm 0)),fin (z87 10 5 (Rg 4) (Rg 7))]) (q2:=[fin (z7q 5 (Rg 4) (x.o+24)),fin (ydj (Rg 5)),fin (z87 0 4 (Rg 4) (Nm 1)),fin (z92 ((s.add [zdp,yR4,y0]).L.length:Int))]) w1 yun (n:=((s.add [zdp,yR4,y0]).add [yLt,yR5,yR4,yR7]).L.length) yu0 (yiw v5 (ybd _ (by rw [l1];simp;omega))) (p:=λj=>j=z8v (Rg 5) ((s.L.length+7:Nat):Int)) (by rw [l1];simp)
 simpa [Ck.add,Cx.qGive,Cx.give,Ck.back] using this
def qIf(v:Vl)(qb:List Kd)(p:Nat):List Kd:=fin (z8v v ((p+1+qb.length:Nat):Int))::qb
theorem yjl(hu:VdA u v){qb:List Kd}{s2:Ck}(hb:Wr (s.add [yJz,u]) s2 qb)(hl:s.L.length+(qIf v qb s.L.length).length<=4000):Wr s (s2.land s.L.length) (qIf v qb s.L.length):=by
 have w1:=(Wr.open s [yJz,u]).comp hb
 have l1:=w1.len
 simp only [List.length_append,List.length_cons,List.length_nil,qIf] at l1 hl
 exact Wr.landP (q1:=[]) (q2:=qb) w1 yun yun (yiw hu (ybd _ yum)) (by rw [l1];congr 1;omega)
theorem Wr.loops{qs:List Kd}(h:Wr ({s with loops:=l+1}:Ck) s' qs)(hs:s.loops=l):Wr s ({s' with loops:=s'.loops- 1}:Ck) qs:=⟨h.ex,h.T,by show s'.loops- 1=_;rw [h.lo,hs];rfl⟩
def Cx.qLoop(x:Cx)(l:Nat)(n:Int)(qb:List Kd)(p:Nat):List Kd:=
 fin (z7p (Nm 0) (x.o+(36+(l:Int))) (Nm n))::(qb++[fin (z7q 4 (Nm 0) (x.o+(36+(l:Int)))),fin (z87 1 4 (Rg 4) (Nm 1)),fin (z7p (Nm 0) (x.o+(36+(l:Int))) (Rg 4)),fin (z8v (Rg 4) ((p+1+qb.length+5:Nat):Int)),fin (z92 ((p+1:Nat):Int))])
theorem yig(hx:x.Fit)(n:Int)(hn:1<=n/\n<=4)(hlo:s.loops<=2){qb:List Kd}
  (hb:Wr (({s with loops:=s.loops+1}:Ck).add [Qh,y0,x.own (36+(s.loops:Int)),dec n]) (body (({s with loops:=s.loops+1}:Ck).add [Qh,y0,x.own (36+(s.loops:Int)),dec n])) qb)
  (hl:s.L.length+(x.qLoop s.loops n qb s.L.length).length<=4000):Wr s (x.loopC n body s) (x.qLoop s.loops n qb s.L.length):=by
 have ho:=z71 hx (36+(s.loops:Int)) yum yum
 have w1:=(Wr.add ({s with loops:=s.loops+1}:Ck) (z74 vd0 ho (z93 n yum yum))).comp hb
 have l0:(({s with loops:=s.loops+1}:Ck).add [Qh,y0,x.own (36+(s.loops:Int)),dec n]).L.length=s.L.length+1:=yu0
 unfold Cx.loopC
 dsimp only
 simp only [Cx.qLoop,List.length_cons,List.length_append,List.length_nil] at hl
 generalize hS1:({s with loops:=s.loops+1}:Ck).add [Qh,y0,x.own (36+(s.loops:Int)),dec n]=S1 at*
 generalize body S1=S2 at*
 have w2:=(((w1.comp (.add _ (z8e rd4 vd0 ho))).comp (.add _ (yi8 rd4 v4 vd1))).comp (.add _ (z74 vd0 ho v4)))
 have l2:=w2.len
 have w3:=(w2.comp (.open _ [yJz,yR4])).comp (.add _ (ycj S1.L.length yum))
 have l3:=w3.len
 refine Wr.loops (l:=s.loops) ?_ rfl
 simp only [List.length_append,List.length_cons,List.length_nil] at l2 l3
 have w4:=Wr.landP (q1:=fin (z7p (Nm 0) (x.o+(36+(s.loops:Int))) (Nm n))::(qb++[fin (z7q 4 (Nm 0) (x.o+(36+(s.loops:Int)))),fin (z87 1 4 (Rg 4) (Nm 1)),fin (z7p (Nm 0) (x.o+(36+(s.loops:Int))) (Rg 4))])) (q2:=[fin (z92 (S1.L.length:Int))]) (ws:=[yJz,yR4]) (by simpa using w3) yun
  (n:=(((S2.add [Qw,yR4,y0,x.own (36+(s.loops:Int))]).add [zyo,yR4,yR4,y1]).add [Qh,y0,x.own (36+(s.loops:Int)),yR4]).L.length) (by rw [l2];simp;omega) (ydl _ (by rw [l3];omega)) (p:=λj=>j=z8v (Rg 4) ((s.L.length+1+qb.length+5:Nat):Int)) (by rw [l3];congr 1;omega)
 unfold Ck.back
 rw [l0] at w4⊢
 simpa [Cx.qLoop] using w4
end
def Cx.qAt(x:Cx)(k:Bk)(qb:List Kd)(p:Nat):List Kd:=
 x.qBegin k++(qb++((if k.puts=[false,false,false,false,false,false] then [] else x.qCommit k (p+(x.qBegin k).length+qb.length))++
  (if k.gives=true then x.qGive (p+(x.qBegin k).length+qb.length+(if k.puts=[false,false,false,false,false,false] then [] else x.qCommit k (p+(x.qBegin k).length+qb.length)).length) else [])))
def Cx.qSv(x:Cx)(k:Bk):Nat:=(z7l (λi _=>[fin (z7p (Nm 0) (x.o+(32+(i:Nat))) (Rg i))]) k.chgs 0 0).length
def Cx.kAg(x:Cx)(k:Bk)(p:Nat):Bk:={k with again:=p+x.qSv k}
def z8m(q:En->Nat->List Kd):List En->Nat->List Kd
 |[],_=>[]
 |e::r,p=>q e p++z8m q r (p+(q e p).length)
def gE(hs:List Hd)(x:Cx):Nat->Option Bk->Nat->En->Nat->List Kd
 |_,kb,_, .inl st,p=>x.qLeaf kb p st
 |0,_,_, .inr _,_=>[]
 |f+1,kb,l, .inr j,p=>match hs[j]? with
  |some ⟨.inr st,es⟩=>match st with
   | .inr (.inr (.inr (.inr (.inr (.inl ())))))=>x.qAt (x.kAg ((Jf hs 3 es).foldl x.seen bk0) p) (z8m (gE hs x f (some (x.kAg ((Jf hs 3 es).foldl x.seen bk0) p)) l) es (p+(x.qBegin ((Jf hs 3 es).foldl x.seen bk0)).length)) p
   | .inr (.inr (.inr (.inr (.inr (.inr (.inl a))))))=>qIf (x.vl a) (z8m (gE hs x f kb l) es (p+1)) p
   | .inr (.inr (.inr (.inr (.inr (.inr (.inr n))))))=>x.qLoop l n (z8m (gE hs x f kb (l+1)) es (p+1)) p
   |_=>[]
  |_=>[]
def BlkIs(kb:Option Bk)(s:Ck):Prop:=s.blk=kb/\s.bk.again<=4000
section
variable{x:Cx}{s:Ck}{kb:Option Bk}
theorem BlkIs.of(h:BlkIs kb s)(e:s'.blk=s.blk):BlkIs kb s':=⟨e.trans h.1,by rw [zuq e];exact h.2⟩
theorem ybf{q:En->Nat->List Kd}{f:Ck->En->Ck}: ∀(es:List En) (s:Ck),(∀e∈es,∀s,BlkIs kb s->s.loops=l->s.L.length+(q e s.L.length).length<=4000->Wr s (f s e) (q e s.L.length)/\(f s e).blk=s.blk)->BlkIs kb s->s.loops=l->s.L.length+(z8m q es s.L.length).length<=4000 ->
  Wr s (es.foldl f s) (z8m q es s.L.length)/\(es.foldl f s).blk=s.blk
 |[],s,_,_,_,_=>⟨Wr.nil s,rfl⟩
 |e::r,s,h,hb,hlo,hl=>by
  simp only [z8m,List.length_append] at hl⊢
  obtain ⟨w1,b1⟩:=h e yun s hb hlo yum
  have l1:=w1.len
  obtain ⟨w2,b2⟩:=ybf r (f s e) (λe' he'=>h e' (List.mem_cons_of_mem _ he')) (hb.of b1) (w1.lo.trans hlo) (by rw [l1];omega)
  rw [l1] at w2
  exact ⟨w1.comp w2,b2.trans b1⟩
theorem z9s(x:Cx): ∀(es:List En) (k:Bk),k.New->(es.foldl x.seen k).New
 |[],_,h=>h
 |e::r,k,h=>z9s x r (x.seen k e) (zwj x h e)
theorem yl5(hx:x.Fit)(hk:s.blk=some k)(hc:k.chgs.length=4):(x.begin s).blk=some {k with again:=s.L.length+x.qSv k}:=by
 have w1:Wr s (Qn (λi s=>s.add [Qh,y0,x.own (32+(i:Nat)),Zy (i:Nat)]) k.chgs 0 s) _:=
  z9d (q:=λi _=>[fin (z7p (Nm 0) (x.o+(32+(i:Nat))) (Rg i))]) (N:=4) (λi s hi=>Wr.add s (z74 vd0 (z71 hx (32+(i:Int)) yum yum) (z94 i yum).val)) k.chgs 0 s yum
 rw [z8a (λi=>[fin (z7p (Nm 0) (x.o+(32+(i:Nat))) (Rg i))]) _ _ _ 0] at w1
 have l1:=w1.len
 show (Qn (λi s=>s.add [Qh,y0,x.own (12+(i:Nat)),y0]) s.bk.gets 0 _).blk=_
 refine (Zl (λi=>[Qh,y0,x.own (12+(i:Nat)),y0]) _ _ _).trans ?_
 refine (Zl (λi=>[Qh,y0,x.own (6+(i:Nat)),y0]) _ _ _).trans ?_
 refine (Zl (λi=>[Qw,Zy (i:Nat),y0,x.own (32+(i:Nat))]) s.bk.chgs 0 _).trans ?_
 show some _=some _
 rw [Sq hk,l1]
 rfl
theorem yf5(hx:x.Fit)(hk:k.New){qb:List Kd}
  (hb: ∀s',BlkIs (some (x.kAg k s.L.length)) s'->s'.loops=s.loops->s'.L.length=s.L.length+(x.qBegin k).length->Wr s' (body s') qb/\(body s').blk=s'.blk)
  (hn:s.blk=none) (hl:s.L.length+(x.qAt (x.kAg k s.L.length) qb s.L.length).length<=4000):Wr s (x.atomicC k body s) (x.qAt (x.kAg k s.L.length) qb s.L.length)/\(x.atomicC k body s).blk=s.blk:=by
 refine ⟨?_,hn.symm⟩
 unfold Cx.qAt at hl⊢
 have eb:x.qBegin (x.kAg k s.L.length)=x.qBegin k:=rfl
 have ep:(x.kAg k s.L.length).puts=k.puts:=rfl
 have eg:(x.kAg k s.L.length).gives=k.gives:=rfl
 rw [eb,ep,eg] at hl⊢
 simp only [List.length_append] at hl
 have w1:=yhb (s:=({s with blk:=some k}:Ck)) hx rfl hk.p hk.g hk.c
 have b1:(x.begin ({s with blk:=some k}:Ck)).blk=some (x.kAg k s.L.length):=yl5 (s:=({s with blk:=some k}:Ck)) hx rfl hk.c
 have l1:(x.begin ({s with blk:=some k}:Ck)).L.length=s.L.length+(x.qBegin k).length:=w1.len
 have hsv:x.qSv k<=(x.qBegin k).length:=by unfold Cx.qSv Cx.qBegin;simp only [List.length_append];omega
 have hag:(x.kAg k s.L.length).again<=4000:=by show s.L.length+x.qSv k<=4000;omega
 unfold Cx.atomicC
 dsimp only
 refine Wr.blk ?_ none
 have w1':=w1.blk0
 obtain ⟨w2,b2⟩:=hb (x.begin ({s with blk:=some k}:Ck)) ⟨b1,by rw [Sq b1];exact hag⟩ w1'.lo l1
 generalize x.begin ({s with blk:=some k}:Ck)=S1 at*
 have l2:=w2.len
 rw [l1] at l2
 have b2':=b2.trans b1
 generalize body S1=S2 at*
 refine w1'.comp (w2.comp ?_)
 have w3:Wr S2 (if k.puts=[false,false,false,false,false,false] then S2 else x.commit S2) (if k.puts=[false,false,false,false,false,false] then [] else x.qCommit (x.kAg k s.L.length) (s.L.length+(x.qBegin k).length+qb.length)):=by
  split
  ·exact Wr.nil S2
  ·rename_i hp
   rw [if_neg hp] at hl
   have:=yf4 (s:=S2) hx (k:=x.kAg k s.L.length) b2' hk.u hk.p hk.g hag (by rw [l2];omega)
   rw [l2] at this
   exact this
 have l3:=w3.len
 rw [l2] at l3
 refine w3.comp ?_
 generalize (if k.puts=[false,false,false,false,false,false] then S2 else x.commit S2)=S3 at*
 split
 ·rename_i hg
  rw [if_pos hg] at hl
  have hq: ∀p,(x.qGive p).length=7:=λ_=>rfl
  rw [hq] at hl
  have:=yif (s:=S3) hx (by rw [l3];omega)
  rw [l3] at this
  exact this
 ·exact Wr.nil S3
theorem yjm(hx:x.Fit)(hs:List Hd): ∀(f:Nat) (kb:Option Bk) (l:Nat) (e:En),enW hs x f kb.isSome e->l+f<=3->∀s:Ck,BlkIs kb s->s.loops=l->s.L.length+(gE hs x f kb l e s.L.length).length<=4000 ->
  Wr s (cEn hs x f e s) (gE hs x f kb l e s.L.length)/\(cEn hs x f e s).blk=s.blk:=by
 intro f
 have leafC: ∀(f:Nat) (kb:Option Bk) (st:St) (s:Ck),x.leafOk kb.isSome st->BlkIs kb s->s.L.length+(x.qLeaf kb s.L.length st).length<=4000->Wr s (x.leaf st s) (x.qLeaf kb s.L.length st)/\(x.leaf st s).blk=s.blk:=by
  intro f kb st s h hb hl
  rw [<-hb.1] at hl h⊢
  exact yic hx h hb.2 hl
 induction f with
 |zero=>
  intro kb l e h _ s hb hlo hl
  rcases e with st|j
  ·exact leafC 0 kb st s h hb hl
  ·exact h.elim
 |succ f ih=>
  intro kb l e h hf s hb hlo hl
  rcases e with st|j
  ·exact leafC 0 kb st s h hb hl
  ·obtain ⟨es,hes,h⟩:=h
   rcases h with ⟨hj,hkb,he⟩|⟨a,hj,ha,he⟩|⟨n,hj,hn,he⟩
   ·have hkn:kb=none:=by cases kb with|none=>rfl|some k=>cases hkb
    subst hkn
    simp only [cEn,gE,hj] at hl⊢
    have hnew:=z9s x (Jf hs 3 es) bk0 zkd
    generalize (Jf hs 3 es).foldl x.seen bk0=k at*
    refine yf5 hx hnew (body:=λs=>es.foldl (λs e=>cEn hs x f e s) s) (λs' hb' hlo' hl'=>?_) hb.1 hl
    rw [<-hl']
    refine ybf (l:=l) es s' (λe' he' s'' hb'' hlo'' hl''=>ih (some (x.kAg k s.L.length)) l e' (he e' he') yum s'' hb'' hlo'' hl'') hb' (hlo'.trans hlo) ?_
    rw [hl']
    unfold Cx.qAt at hl
    rw [show x.qBegin (x.kAg k s.L.length)=x.qBegin k from rfl] at hl
    simp only [List.length_append] at hl
    omega
   ·simp only [cEn,gE,hj,Cx.held] at hl⊢
    have e1:(s.add [yJz,x.val a]).L.length=s.L.length+1:=yu0
    obtain ⟨w1,b1⟩:=ybf (kb:=kb) (q:=gE hs x f kb l) (f:=λs e=>cEn hs x f e s) (l:=l) es (s.add [yJz,x.val a]) (λe' he' s'' hb'' hlo'' hl''=>ih kb l e' (he e' he') yum s'' hb'' hlo'' hl'') (hb.of rfl) hlo (by
     rw [e1]
     simp only [qIf,List.length_cons] at hl
     omega)
    rw [e1] at w1
    exact ⟨yjl (z78 hx ha) w1 hl,b1⟩
   ·simp only [cEn,gE,hj,Cx.held] at hl⊢
    subst hlo
    have e1:(({s with loops:=s.loops+1}:Ck).add [Qh,y0,x.own (36+(s.loops:Int)),dec n]).L.length=s.L.length+1:=yu0
    obtain ⟨w1,b1⟩:=ybf (kb:=kb) (q:=gE hs x f kb (s.loops+1)) (f:=λs e=>cEn hs x f e s) (l:=s.loops+1) es (({s with loops:=s.loops+1}:Ck).add [Qh,y0,x.own (36+(s.loops:Int)),dec n]) (λe' he' s'' hb'' hlo'' hl''=>ih kb (s.loops+1) e' (he e' he') yum s'' hb'' hlo'' hl'') (hb.of rfl) rfl (by
     rw [e1]
     simp only [Cx.qLoop,List.length_cons,List.length_append] at hl
     omega)
    rw [e1] at w1
    refine ⟨yig hx n hn yum w1 hl,?_⟩
    show (es.foldl (λs e=>cEn hs x f e s) (({s with loops:=s.loops+1}:Ck).add [Qh,y0,x.own (36+(s.loops:Int)),dec n])).blk=s.blk
    exact b1
end
def dL(l:ByteArray):Ic:=(Option.map (λ(q:Ic×List ByteArray)=>q.1) (match Ql l.data.toList with|u::us=>zbm u us|[]=>none)).getD (z88 10)
theorem yhc{l:ByteArray}{p:Ic->Prop}(h:yix l p):p (dL l):=by
 obtain ⟨u,us,i,h1,h2,h3⟩:=h
 unfold dL
 rw [h1]
 dsimp only
 rw [h2]
 exact h3
def Cod(c:List Ic)(tp:Nat):Nat->List Kd->Prop
 |_,[]=>True
 |p,q::r=>((q.1=0->∃i,c[p]?=some i/\q.2.2 i)/\(q.1=1->c[p]?=some (z8v (Rg 4) tp)/\c[tp]?=some (z88 2)))/\Cod c tp (p+1) r
theorem Cod.app: ∀{q1 q2:List Kd} {p:Nat},Cod c tp p (q1++q2)->Cod c tp p q1/\Cod c tp (p+q1.length) q2
 |[],_,_,h=>⟨trivial,h⟩
 |q::r,q2,p,h=>by
  obtain ⟨h1,h2⟩:=Cod.app (q1:=r) h.2
  refine ⟨⟨h.1,h1⟩,?_⟩
  rw [List.length_cons,show p+(r.length+1)=p+1+r.length by omega]
  exact h2
theorem yex(htp: ∀q:Kd,q.1=1->True): ∀(qs:List Kd) (ls:List ByteArray) (p:Nat),Sps ls (qs.map (kTo 1 (fin (z8v (Rg 4) tp))))->(∀j l,ls[j]?=some l->c[p+j]?=some (dL l))->((∃q∈qs,q.1=1)->c[tp]?=some (z88 2))->Cod c tp p qs
 |[],_,_,_,_,_=>trivial
 |q::qs,[],_,h,_,_=>h.elim
 |q::qs,l::ls,p,h,hc,ht=>by
  have h0:=hc 0 l rfl
  refine ⟨⟨λe=>?_,λe=>?_⟩,yex htp qs ls (p+1) h.2 (λj l' hj=>by rw [show p+1+j=p+(j+1) by omega];exact hc (j+1) l' yuz) (λ⟨q',hq,e⟩=>ht ⟨q',List.mem_cons_of_mem _ hq,e⟩)⟩
  ·have h1:=h.1
   rw [kTo,if_neg yum] at h1
   exact ⟨_,h0,yhc (h1.1 e)⟩
  ·have h1:=h.1
   rw [kTo,if_pos e] at h1
   refine ⟨?_,ht ⟨q,by simp,e⟩⟩
   have:dL l=z8v (Rg 4) tp:=yhc (h1.1 rfl)
   rw [<-this]
   exact h0
theorem yck{k:Nat}: ∀{qs:List Kd} {a:Nat},z8i k qs a=[]->∀q∈qs,q.1≠k
 |[],_,_,_,h=>by simp at h
 |q::r,a,h,q',hq=>by
  simp only [z8i] at h
  split at h
  ·cases h
  ·rcases List.mem_cons.1 hq with rfl|hq
   ·assumption
   ·exact yck h q' hq
theorem yey{k:Nat}{q':Kd}: ∀{qs:List Kd},(∀q∈qs,q.1≠k)->qs.map (kTo k q')=qs
 |[],_=>rfl
 |q::r,h=>by rw [List.map_cons,kTo,if_neg (h q yun),yey λq hq=>h q (List.mem_cons_of_mem _ hq)]
theorem z8t{q:Nat->Nat->List Kd}{c:Nat}(h: ∀i p,(q i p).length<=c): ∀(l:List Bool) (i p:Nat),(z7l q l i p).length<=c*l.length
 |[],_,_=>Nat.zero_le _
 |b::r,i,p=>by
  simp only [z7l,List.length_append,List.length_cons]
  have:=z8t h r (i+1) (p+(if b=true then q i p else []).length)
  have h2:(if b=true then q i p else []).length<=c:=by split<;>simp [h]
  rw [Nat.mul_succ]
  omega
theorem ycl(x:Cx)(f:ByteArray)(a:PV):(x.qCheck f a).length<=4:=by unfold Cx.qCheck;split<;>simp
theorem yez(x:Cx)(kb:Option Bk)(p:Nat)(st:St):(x.qLeaf kb p st).length<=17:=by
 rcases st with ⟨to,a⟩|⟨to,o,a,b⟩|⟨to,f,a⟩|⟨f,a,v⟩|a|⟨⟩|a|n
 ·simp [Cx.qLeaf]
 ·simp [Cx.qLeaf]
 ·have:=ycl x f a
  simp only [Cx.qLeaf,Cx.qGet,List.length_append]
  split<;>simp [Cx.qRead]<;>omega
 ·have:=ycl x f a
  simp [Cx.qLeaf,Cx.qPut]
  omega
 ·simp only [Cx.qLeaf,Cx.qOut]
  split<;>simp
 ·simp [Cx.qLeaf]
 ·simp [Cx.qLeaf]
 ·simp [Cx.qLeaf]
theorem yf6(x:Cx)(hk:k.New):(x.qBegin k).length<=23:=by
 have h:=λ(q:Nat->Nat->List Kd) (hq: ∀i p,(q i p).length<=1) (l:List Bool)=>z8t hq l 0 0
 have h1:=h (λi _=>[fin (z7p (Nm 0) (x.o+(32+(i:Nat))) (Rg i))]) (λ_ _=>Nat.le_refl _) k.chgs
 have h2:=h (λi _=>[fin (z7q i (Nm 0) (x.o+(32+(i:Nat))))]) (λ_ _=>Nat.le_refl _) k.chgs
 have h3:=h (λi _=>[fin (z7p (Nm 0) (x.o+(6+(i:Nat))) (Nm 0))]) (λ_ _=>Nat.le_refl _) k.puts
 have h4:=h (λi _=>[fin (z7p (Nm 0) (x.o+(12+(i:Nat))) (Nm 0))]) (λ_ _=>Nat.le_refl _) k.gets
 rw [hk.c] at h1 h2
 rw [hk.p] at h3
 rw [hk.g] at h4
 unfold Cx.qBegin
 simp only [List.length_append,List.length_cons,List.length_nil]
 omega
theorem ye0(x:Cx)(hk:k.New)(p:Nat):(x.qCommit k p).length<=143:=by
 have h1:=z8t (q:=x.qLock (uJz (x.qUp k p))) (c:=8) (λ_ _=>Nat.le_refl _) k.puts 0 p
 have h2:=z8t (q:=x.qLook (uJz (x.qUp k p))) (c:=5) (λ_ _=>Nat.le_refl _) k.gets 0 (p+(z7l (x.qLock (uJz (x.qUp k p))) k.puts 0 p).length+2)
 have h3:=z8t (q:=x.qStore) (c:=5) (λ_ _=>Nat.le_refl _) k.puts 0 (p+(z7l (x.qLock (uJz (x.qUp k p))) k.puts 0 p).length+2+(z7l (x.qLook (uJz (x.qUp k p))) k.gets 0 (p+(z7l (x.qLock (uJz (x.qUp k p))) k.puts 0 p).length+2)).length)
 have h4:=z8t (q:=x.qUnlock) (c:=5) (λ_ _=>Nat.le_refl _) k.puts 0 (x.qUp k p)
 rw [hk.p] at h1 h3 h4
 rw [hk.g] at h2
 unfold Cx.qCommit Cx.qUn
 rw [List.length_append]
 unfold Cx.qCom
 simp only [List.length_append,List.length_cons,List.length_nil]
 omega
theorem yb3{q:En->Nat->List Kd}{c:En->Nat}: ∀(es:List En) (p:Nat),(∀e∈es,∀p,(q e p).length<=173*c e)->(z8m q es p).length<=173*(es.map c).sum
 |[],_,_=>Nat.zero_le _
 |e::r,p,h=>by
  simp only [z8m,List.length_append,List.map_cons,List.sum_cons]
  have h1:=h e yun p
  have h2:=yb3 r (p+(q e p).length) λe' he'=>h e' (List.mem_cons_of_mem _ he')
  omega
theorem yih(hs:List Hd)(x:Cx): ∀(f:Nat) (kb:Option Bk) (l:Nat) (e:En) (p:Nat),(gE hs x f kb l e p).length<=173*wE hs f e
 |0,kb,l, .inl st,p=>by
  have:=yez x kb p st
  simp only [gE,wE]
  omega
 |0,_,_, .inr _,_=>by simp [gE]
 |f+1,kb,l, .inl st,p=>by
  have:=yez x kb p st
  simp only [gE,wE]
  omega
 |f+1,kb,l, .inr j,p=>by
  simp only [gE,wE,Jb]
  cases hj:hs[j]? with
  |none=>simp
  |some y=>
   obtain ⟨k,es⟩:=y
   rcases k with t|st
   ·simp
   ·have hF:=λkb' l' p=>yb3 (q:=gE hs x f kb' l') (c:=wE hs f) es p λe _ p=>yih hs x f kb' l' e p
    dsimp only
    rcases st with ⟨to,a⟩|⟨to,o,a,b⟩|⟨to,f',a⟩|⟨f',a,v⟩|a|⟨⟩|a|n
    ·simp
    ·simp
    ·simp
    ·simp
    ·simp
    ·have hnew:=z9s x (Jf hs 3 es) bk0 zkd
     dsimp only
     generalize (Jf hs 3 es).foldl x.seen bk0=k at*
     have hnew:(x.kAg k p).New:=⟨hnew.g,hnew.p,hnew.c,hnew.u⟩
     rw [show x.qBegin k=x.qBegin (x.kAg k p) from rfl]
     generalize x.kAg k p=k at*
     have h1:=yf6 x hnew
     have h2:=hF (some k) l (p+(x.qBegin k).length)
     generalize z8m (gE hs x f (some k) l) es (p+(x.qBegin k).length)=qb at*
     have h3:=ye0 x hnew (p+(x.qBegin k).length+qb.length)
     have h4: ∀p,(x.qGive p).length=7:=λ_=>rfl
     unfold Cx.qAt
     simp only [List.length_append]
     have h5:(if k.puts=[false,false,false,false,false,false] then [] else x.qCommit k (p+(x.qBegin k).length+qb.length)).length<=143:=by split<;>simp [h3]
     have h6: ∀p,(if k.gives=true then x.qGive p else []).length<=7:=λp=>by split<;>simp [h4]
     have h7:=h6 (p+(x.qBegin k).length+qb.length+(if k.puts=[false,false,false,false,false,false] then [] else x.qCommit k (p+(x.qBegin k).length+qb.length)).length)
     rw [Nat.mul_add]
     omega
    ·have:=hF kb l (p+1)
     dsimp only
     simp only [qIf,List.length_cons]
     rw [Nat.mul_add]
     omega
    ·have:=hF kb (l+1) (p+1)
     dsimp only
     simp only [Cx.qLoop,List.length_cons,List.length_append,List.length_nil]
     rw [Nat.mul_add]
     omega
theorem ydm{x:Cx}(hx:x.Fit)(hs:List Hd)(es:List En)(he: ∀e∈es,enW hs x 3 false e)(hw:(es.map (wE hs 3)).sum<=14):
  ∃tp,Cod ((It hs x es).L.map dL) tp 0 (z8m (gE hs x 3 none 0) es 0++[fin (z88 10)]):=by
 have hq:=yb3 (q:=gE hs x 3 none 0) (c:=wE hs 3) es 0 λe _ p=>yih hs x 3 none 0 e p
 have hq2:Ck.none'.L.length+(z8m (gE hs x 3 none 0) es Ck.none'.L.length).length<=4000:=by
  show 0+(z8m (gE hs x 3 none 0) es 0).length<=4000
  omega
 obtain ⟨w1,_⟩:=ybf (kb:=none) (q:=gE hs x 3 none 0) (f:=λs e=>cEn hs x 3 e s) (l:=0) es Ck.none' (λe hm s hb hlo hl=>yjm hx hs 3 none 0 e (he e hm) yum s hb hlo hl) ⟨rfl,Nat.zero_le _⟩ rfl hq2
 have w1:Wr Ck.none' (es.foldl (λs e=>cEn hs x 3 e s) Ck.none') (z8m (gE hs x 3 none 0) es 0):=w1
 generalize z8m (gE hs x 3 none 0) es 0=qs at*
 unfold It
 generalize es.foldl (λs e=>cEn hs x 3 e s) Ck.none'=S at*
 have w2:=w1.comp (.add S yia)
 obtain ⟨ls,e,hsp⟩:=w2.ex
 have hT:S.T=z8i 1 qs 0:=by rw [w1.T];exact List.nil_append _
 have e:(S.add [Ex]).L=ls:=by rw [e];exact List.nil_append _
 unfold Ck.endC
 by_cases h0:S.T=[]
 ·rw [if_pos h0,e]
  rw [hT] at h0
  have hn: ∀q∈qs++[fin (z88 10)],q.1≠1:=λq hq=>by
   rcases List.mem_append.1 hq with hq|hq
   ·exact yck h0 q hq
   ·rw [List.mem_singleton.1 hq];decide
  refine ⟨0,yex (λ_ _=>trivial) _ ls 0 (by rw [yey hn];exact hsp) (λj l hj=>by rw [Nat.zero_add,List.getElem?_map,hj];rfl) (λ⟨q,hq,h1⟩=>absurd h1 (hn q hq))⟩
 ·rw [if_neg h0]
  have hlen:(S.add [Ex]).L.length=qs.length+1:=by
   have:=w2.len
   rw [this]
   show 0+(qs++[fin (z88 10)]).length=_
   simp
  obtain ⟨ls',q1,q2⟩:=yau 1 (.inl rfl) (λj=>j=z8v (Rg 4) ((qs.length+1:Nat):Int)) (qs++[fin (z88 10)]) ls [] (S.add [Ex]) e hsp yum (by rw [hlen])
  have hk:z8i 1 (qs++[fin (z88 10)]) 0=S.T:=by rw [z75,hT];simp [z8i]
  rw [show ([]:List ByteArray).length=0 from rfl,hk,List.nil_append] at q1
  have hlen':ls'.length=qs.length+1:=by have:=q2.len;simpa using this
  have hfin:(((S.add [Ex]).lands S.T).add [zj1,dec 2]).L=ls'++[Zt 32 [zj1,dec 2]]:=by
   show ((S.add [Ex]).lands S.T).L++_=_
   rw [q1]
  rw [hfin]
  refine ⟨qs.length+1,yex (λ_ _=>trivial) _ ls' 0 q2 (λj l hj=>?_) (λ_=>?_)⟩
  ·have hj2:=(List.getElem?_eq_some_iff.1 hj).1
   rw [Nat.zero_add,List.getElem?_map,List.getElem?_append_left hj2,hj]
   rfl
  ·rw [List.getElem?_map,List.getElem?_append_right yum,hlen',Nat.sub_self]
   show some (dL (Zt 32 [zj1,dec 2]))=_
   congr 1
   exact yhc (p:=λj=>j=z88 2) (yiy yib rfl)
def setr(r:Nat->Int)(d:Nat)(v:Int):Nat->Int:=λj=>if j=d then v else r j
def vof(v:Vl)(r:Nat->Int):Int:=if v.reg=true then r v.v.toNat else v.v
def sf1(c:List Ic)(T:Th)(m:Nat->Int):Th×(Nat->Int):=z6y (z6w T m c).1 (z6w T m c).2
def z7z(c:List Ic)(D:(Nat->Int)->Prop):Nat->Nat->(Nat->Int)->(Nat->Int)->Prop
 |0,_,_,_=>False
 |n+1,p,r,m=>∀out,((sf1 c ⟨r,p,[],out,0⟩ m).1.st≠0/\(sf1 c ⟨r,p,[],out,0⟩ m).1.q=[]/\D (sf1 c ⟨r,p,[],out,0⟩ m).2)\/
   ∃(p':Nat) (r':Nat->Int) (out':List Int),(sf1 c ⟨r,p,[],out,0⟩ m).1=⟨r',p',[],out',0⟩/\z7z c D n p' r' (sf1 c ⟨r,p,[],out,0⟩ m).2
theorem w64(z:Int)(h0:-9223372036854775808<=z)(h1:z<=9223372036854775807):wrap64 z=z:=yut
theorem z70(n:Int)(r:Nat->Int):vof (Nm n) r=n:=rfl
theorem z7u(n:Nat)(r:Nat->Int):vof (Rg n) r=r n:=by simp [vof]
theorem z7m(r:Nat->Int)(d:Nat)(v:Int):setr r d v d=v:=by simp [setr]
theorem z7g{v:Int}(h:j≠d):setr r d v j=r j:=by simp [setr,h]
theorem z9e(m:Nat->Int)(a:Nat)(v:Int):z60 m a v a=v:=by simp [z60]
theorem z7j{a:Nat}{v:Int}(h:j≠a):z60 m a v j=m j:=by simp [z60,h]
section
variable{c:List Ic}{D:(Nat->Int)->Prop}{n p:Nat}{r m:Nat->Int}{i:Ic}
theorem ye1(h:c[p]?=some i)(out:List Int):sf1 c ⟨r,p,[],out,0⟩ m=z6y (doI i ⟨r,((p+1:Nat):Int),[],out,0⟩ m).1 (doI i ⟨r,((p+1:Nat):Int),[],out,0⟩ m).2:=by
 unfold sf1 z6w
 simp only [Int.toNat_natCast,h,if_true]
 rfl
end
theorem Cod.at{p:Nat}{r:List Kd}(h:Cod c tp p (fin i::r)):c[p]?=some i/\Cod c tp (p+1) r:=by
 obtain ⟨j,h1,h2⟩:=h.1.1 rfl
 have h2:j=i:=h2
 rw [h2] at h1
 exact ⟨h1,h.2⟩
def MI(C:Int)(m:Nat->Int):Prop:=0<=m 12/\m 12<=C/\ ∀i,i<6->m (6+i)<=m 12
theorem MI.mono(h:MI C m)(hc:C<=C'):MI C' m:=⟨h.1,Int.le_trans h.2.1 hc,h.2.2⟩
theorem MI.of(h:MI C m)(e: ∀j,j<13->m' j=m j):MI C m':=⟨by rw [e 12 yum];exact h.1,by rw [e 12 yum];exact h.2.1,λi hi=>by rw [e 12 yum,e (6+i) yum];exact h.2.2 i hi⟩
def Cx.ob(x:Cx):Nat:=13+x.th*39
theorem yaw(x:Cx):x.o=(x.ob:Int):=by unfold Cx.o Cx.ob;omega
def bAt(l:List Bool)(i:Nat):Bool:=(l[i]?).getD false
structure BI(x:Cx)(k:Bk)(n:Int)(r m:Nat->Int):Prop where
 late:r 6=m 12+1
 o0:0<=r 7
 o1:r 7<=n
 ex: ∀i,i<6->bAt k.gets i=true->bAt k.puts i=true->m (x.ob+12+i)=0\/m (x.ob+6+i)=0
def PreA(x:Cx)(kb:Option Bk)(n C:Int)(r m:Nat->Int):Prop:=MI C m/\ ∀k,kb=some k->BI x k n r m
def Rnd(x:Cx)(l:Nat)(m m':Nat->Int):Prop:=∀j,j<l->m' (x.ob+36+j)=m (x.ob+36+j)
theorem Rnd.refl(x:Cx)(l:Nat)(m:Nat->Int):Rnd x l m m:=λ_ _=>rfl
theorem Rnd.trans{x:Cx}{m1 m2 m3:Nat->Int}(h1:Rnd x l m1 m2)(h2:Rnd x l m2 m3):Rnd x l m1 m3:=λj hj=>(h2 j hj).trans (h1 j hj)
theorem BI.mono{x:Cx}(h:BI x k n r m)(hn:n<=n'):BI x k n' r m:=⟨h.late,h.o0,Int.le_trans h.o1 hn,h.ex⟩
theorem PreA.mono{x:Cx}(h:PreA x kb n C r m)(hn:n<=n')(hc:C<=C'):PreA x kb n' C' r m:=⟨h.1.mono hc,λk e=>(h.2 k e).mono hn⟩
theorem PreA.reg{x:Cx}{r':Nat->Int}(h:PreA x kb n C r m)(h6:r' 6=r 6)(h7:r' 7=r 7):PreA x kb n C r' m:=
 ⟨h.1,λk e=>⟨by rw [h6];exact (h.2 k e).late,by rw [h7];exact (h.2 k e).o0,by rw [h7];exact (h.2 k e).o1,(h.2 k e).ex⟩⟩
theorem PreA.setr{x:Cx}(h:PreA x kb n C r m)(hd:d≠6/\d≠7)(v:Int):PreA x kb n C (setr r d v) m:=
 h.reg (z7g (Ne.symm hd.1)) (z7g (Ne.symm hd.2))
theorem PreA.cell{x:Cx}(h:PreA x kb n C r m){A:Nat}(hA:13<=A)(h2:A<x.ob+6\/x.ob+18<=A)(v:Int):PreA x kb n C r (z60 m A v):=
 ⟨h.1.of λj hj=>z7j yum,λk e=>⟨by rw [z7j yum];exact (h.2 k e).late,(h.2 k e).o0,(h.2 k e).o1,λi hi g1 g2=>by rw [z7j yum,z7j yum];exact (h.2 k e).ex i hi g1 g2⟩⟩
theorem adr{z:Int}(A:Nat)(h:z=(A:Int))(h2:A<256):wrap64 z=(A:Int):=by rw [h];exact w64 _ yum yum
section
variable{x:Cx}{c:List Ic}{D:(Nat->Int)->Prop}{N p tp:Nat}{r m:Nat->Int}
theorem z9l(hx:x.Fit):x.ob<=91:=by have:=hx.t;unfold Cx.ob;omega
end
section
variable{x:Cx}{c:List Ic}{D:(Nat->Int)->Prop}{N tp:Nat}
theorem ygk{l:List Bool}(h:bAt l t=true):t<l.length:=by
 rcases Nat.lt_or_ge t l.length with h'|h'
 ·exact h'
 ·unfold bAt at h
  rw [List.getElem?_eq_none h'] at h
  cases h
end
section
variable{x:Cx}{c:List Ic}{D:(Nat->Int)->Prop}{N tp:Nat}
def Sem(c:List Ic)(tp:Nat)(D:(Nat->Int)->Prop)(CF:Int)(x:Cx)(kb:Option Bk)(l:Nat)(p:Nat)(qs:List Kd)(cost:Nat)(cnt:Int):Prop:=
 Cod c tp p qs->∀(N:Nat) (r m:Nat->Int) (n C:Int),C+cost<=CF->(kb.isSome=true->n+cnt<=8)->PreA x kb n C r m ->
  (∀r' m',PreA x kb (n+cnt) (C+cost) r' m'->Rnd x l m m'->z7z c D N (p+qs.length) r' m')->z7z c D (N+cost) p r m
theorem Rnd.less{l':Nat}(h:Rnd x l m m')(hl:l'<=l):Rnd x l' m m':=λj hj=>h j yum
section
variable{CF:Int}{kb:Option Bk}{l:Nat}
end
end
def ShD(st:RS):Prop:=0<=st.cells/\(∀p∈st.shared,0<=p.2.1/\0<=p.2.2/\p.2.1+p.2.2<=st.cells)/\st.shared.Pairwise λp q=>p.2.1+p.2.2<=q.2.1
theorem ShD.add(h:ShD st)(u:ByteArray)(c:Int)(hc:0<=c):ShD {st with shared:=st.shared++[(u,st.cells,c)],cells:=st.cells+c}:=by
 obtain ⟨h0,h1,h2⟩:=h
 refine ⟨by show 0<=st.cells+c;omega,λp hp=>?_,?_⟩
 ·rcases List.mem_append.1 hp with hp|hp
  ·obtain ⟨q1,q2,q3⟩:=h1 p hp
   exact ⟨q1,q2,by show _<=st.cells+c;omega⟩
  ·rw [List.mem_singleton.1 hp]
   exact ⟨h0,hc,Int.le_refl _⟩
 ·refine List.pairwise_append.2 ⟨h2,List.pairwise_singleton _ _,λp hp q hq=>?_⟩
  rw [List.mem_singleton.1 hq]
  exact (h1 p hp).2.2
theorem ShD.of(h:ShD st)(e1:st'.shared=st.shared)(e2:st'.cells=st.cells):ShD st':=by unfold ShD;rw [e1,e2];exact h
theorem z8n(st:RS)(t:Nat)(k:HK):(st.setK t k).shared=st.shared/\(st.setK t k).cells=st.cells:=by unfold RS.setK;split<;>exact ⟨rfl,rfl⟩
theorem z9f(st:RS)(t:Nat)(e:En):(st.addE t e).shared=st.shared/\(st.addE t e).cells=st.cells:=by unfold RS.addE;split<;>exact ⟨rfl,rfl⟩
theorem ygl(st:RS)(t o:Nat)(l:List ByteArray)(c:Nat)(s:St):(st.lay t o l c s).shared=st.shared/\(st.lay t o l c s).cells=st.cells:=by
 unfold RS.lay
 split
 ·show (((st.newH s).setK t (.thr l (c+1))).addE o (.sub st.hs.length)).shared=_/\(((st.newH s).setK t (.thr l (c+1))).addE o (.sub st.hs.length)).cells=_
  rw [(z9f _ _ _).1,(z9f _ _ _).2,(z8n _ _ _).1,(z8n _ _ _).2]
  exact ⟨rfl,rfl⟩
 ·split
  ·rw [(z9f _ _ _).1,(z9f _ _ _).2,(z8n _ _ _).1,(z8n _ _ _).2,(z8n _ _ _).1,(z8n _ _ _).2]
   exact ⟨rfl,rfl⟩
  ·rw [(z9f _ _ _).1,(z9f _ _ _).2,(z8n _ _ _).1,(z8n _ _ _).2]
   exact ⟨rfl,rfl⟩
theorem ydp(h:ShD st)(hg:Vq st ws= .ok st'):ShD st':=by
 unfold Vq at hg
 split at hg
 ·cases hg
 ·rename_i u us
  split at hg
  ·unfold Iq at hg
   split at hg
   ·cases hg
   ·split at hg
    ·cases hg
    ·split at hg
     ·cases hg
     ·obtain rfl:=Except.ok.inj hg
      exact h.add _ 1 yum
   ·rename_i y u' us' _
    split at hg
    ·rename_i c hc
     split at hg
     ·cases hg
     ·split at hg
      ·cases hg
      ·obtain rfl:=Except.ok.inj hg
       refine h.add _ c ?_
       unfold gIn at hc
       obtain ⟨q,_,hq⟩:=Option.bind_eq_some_iff.1 hc
       split at hq
       ·rename_i hle
        have:q=(c,[]):=Option.some.inj hq
        rw [this] at hle
        have:=hle.1
        omega
       ·cases hq
    ·cases hg
  ·split at hg
   ·unfold Ef at hg
    split at hg
    ·split at hg
     ·cases hg
     ·obtain rfl:=Except.ok.inj hg
      exact h.of rfl rfl
    ·cases hg
   ·split at hg
    ·unfold zwb at hg
     split at hg
     ·split at hg
      ·cases hg
      ·obtain rfl:=Except.ok.inj hg
       exact h.of rfl rfl
     ·cases hg
    ·split at hg
     ·unfold gSt at hg
      split at hg
      ·cases hg
      ·split at hg
       ·split at hg
        ·cases hg
        ·split at hg
         ·cases hg
         ·obtain rfl:=Except.ok.inj hg
          exact h.of (ygl _ _ _ _ _ _).1 (ygl _ _ _ _ _ _).2
       ·cases hg
     ·cases hg
theorem yaf: ∀(f:Nat) (r:List UInt8) (j:Nat) (st st':RS),ShD st->Yc f r j st= .ok st'->ShD st'
 |0,_,_,st,st',hd,h=>by simp only [Yc,Except.ok.injEq] at h;exact h▸hd
 |f+1,r,j,st,st',hd,h=>by
  simp only [Yc] at h
  split at h
  ·simp only [Except.ok.injEq] at h;exact h▸hd
  ·generalize Lib.cut r [10]=q at h
   obtain ⟨l,r',b⟩:=q
   cases b with
   |false=>simp at h
   |true=>
    simp only at h
    cases hg:Vq st (Ql l) with
    |error er=>simp [hg] at h
    |ok st2=>
     rw [hg] at h
     exact yaf f r' (j+1) st2 st' (ydp hd hg) h
theorem ydq{s:ByteArray}(h:Jl s= .ok st):ShD st:=by
 unfold Jl at h
 split at h
 ·simp at h
 ·exact yaf _ _ 0 RS.none st ⟨Int.le_refl _,λp hp=>by simp [RS.none] at hp,by simp [RS.none]⟩ h
theorem ycn{α:Type}{R:α->α->Prop}: ∀{l:List α},l.Pairwise R->∀p∈l,∀q∈l,p=q\/R p q\/R q p
 |[],_,_,hp,_,_=>by simp at hp
 |a::r,h,p,hp,q,hq=>by
  obtain ⟨h1,h2⟩:=List.pairwise_cons.1 h
  rcases List.mem_cons.1 hp with e|hp'
  ·rcases List.mem_cons.1 hq with e'|hq'
   ·exact .inl (e.trans e'.symm)
   ·exact .inr (.inl (by rw [e];exact h1 q hq'))
  ·rcases List.mem_cons.1 hq with e'|hq'
   ·exact .inr (.inr (by rw [e'];exact h1 p hp'))
   ·exact ycn h2 p hp' q hq'
structure yag(x:Cx):Prop where
 nat: ∀u,∃f n:Nat,x.var u=((f:Int),(n:Int))/\f+n<=6
 apart: ∀(u u':ByteArray) (f n f' n':Nat),x.var u=((f:Int),(n:Int))->x.var u'=((f':Int),(n':Int))->0<n->0<n'->(f=f'/\n=n')\/f+n<=f'\/f'+n'<=f
theorem yhg(h:ShD st)(hc:st.cells<=6){x:Cx}(hx:x.sh=st.shared):yag x:=by
 obtain ⟨h0,h1,h2⟩:=h
 have hv: ∀u,x.var u=(0,0)\/ ∃p∈st.shared,x.var u=p.2:=by
  intro u
  unfold Cx.var
  rw [hx]
  cases e:st.shared.find? λp=>decide (p.1=u) with
  |none=>exact .inl rfl
  |some p=>exact .inr ⟨p,List.mem_of_find?_eq_some e,rfl⟩
 refine ⟨λu=>?_,λu u' f n f' n' e e' hn hn'=>?_⟩
 ·rcases hv u with e|⟨p,hp,e⟩
  ·exact ⟨0,0,e,by omega⟩
  ·obtain ⟨q1,q2,q3⟩:=h1 p hp
   refine ⟨p.2.1.toNat,p.2.2.toNat,?_,by omega⟩
   rw [e]
   exact Prod.ext (by show p.2.1=_;omega) (by show p.2.2=_;omega)
 ·rcases hv u with q|⟨p,hp,q⟩
  ·rw [q] at e
   have:=congrArg Prod.snd e
   simp at this
   omega
  ·rcases hv u' with q'|⟨p',hp',q'⟩
   ·rw [q'] at e'
    have:=congrArg Prod.snd e'
    simp at this
    omega
   ·rw [q] at e
    rw [q'] at e'
    have a1:p.2.1=f:=congrArg Prod.fst e
    have a2:p.2.2=n:=congrArg Prod.snd e
    have b1:p'.2.1=f':=congrArg Prod.fst e'
    have b2:p'.2.2=n':=congrArg Prod.snd e'
    rcases ycn h2 p hp p' hp' with rfl|r|r
    ·exact .inl ⟨by omega,by omega⟩
    ·exact .inr (.inl yum)
    ·exact .inr (.inr yum)
section
variable{x:Cx}{hs:List Hd}
def cE(hs:List Hd):Nat->En->Nat
 |0,_=>220
 |f+1,e=>220+4*((Jb hs e).map (cE hs f)).sum
def OkO(hs:List Hd):Nat->En->Prop
 |0,e=>kdA hs e=true->((Jb hs e).map (Zn hs kdO 3)).sum<=8
 |f+1,e=>(kdA hs e=true->((Jb hs e).map (Zn hs kdO 3)).sum<=8)/\ ∀e'∈Jb hs e,OkO hs f e'
theorem OkO.one{f:Nat}{e:En}(h:OkO hs f e):kdA hs e=true->((Jb hs e).map (Zn hs kdO 3)).sum<=8:=by
 cases f with
 |zero=>exact h
 |succ f=>exact h.1
theorem yio: ∀(f:Nat) (es:List En),(∀e∈Jf hs (f+1) es,Zo hs e=false)->∀e∈es,OkO hs f e:=by
 have one: ∀e,Zo hs e=false->kdA hs e=true->((Jb hs e).map (Zn hs kdO 3)).sum<=8:=λe h hk=>by
  unfold Zo at h
  rw [hk,Bool.true_and,decide_eq_false_iff_not] at h
  omega
 intro f
 induction f with
 |zero=>
  intro es h e he
  exact one e (h e (by simp only [Jf,List.mem_flatMap];exact ⟨e,he,by simp⟩))
 |succ f ih=>
  intro es h e he
  refine ⟨one e (h e ?_),ih (Jb hs e) λe' he'=>h e' ?_⟩
  ·rw [Jf,List.mem_flatMap]
   exact ⟨e,he,by simp⟩
  ·rw [Jf,List.mem_flatMap]
   exact ⟨e,he,List.mem_cons_of_mem _ he'⟩
variable{c:List Ic}{D:(Nat->Int)->Prop}{tp:Nat}{CF:Int}
end
section
variable{A:List (Th×List Ic)}{m:Nat->Int}{t:Nat}{c:List Ic}{T:Th}
end
theorem ye4(acc:List (List Ic)): ∀(L:List ByteArray) (c:List Ic),(∀l∈L,ze0 l)->c.length+L.length<=4000->rdL (L.map λl=>l.data.toList) (acc++[c])=some (acc++[c++L.map dL])
 |[],c,_,_=>by simp [rdL]
 |l::r,c,h,hl=>by
  obtain ⟨_,u,us,hw,hne,hg⟩:=h l yun
  obtain ⟨⟨ic,q⟩,hi,hq⟩:=Option.map_eq_some_iff.1 hg
  have hq:q=[]:=hq
  subst hq
  rw [List.length_cons] at hl
  have ed:dL l=ic:=by unfold dL;rw [hw];dsimp only;rw [hi];rfl
  have e:Gj (Ql l.data.toList) (acc++[c])= .ok (acc++[c++[ic]]):=by
   rw [hw]
   unfold Gj
   dsimp only
   rw [if_neg hne,hi]
   dsimp only
   rw [List.getLast?_append,List.getLast?_singleton]
   show (if c.length=4000 then _ else _)=_
   rw [if_neg yum,List.dropLast_append_of_ne_nil yun]
   simp
  simp only [List.map_cons,rdL]
  rw [e]
  dsimp only
  rw [ye4 acc r (c++[ic]) (λl' hl'=>h l' (List.mem_cons_of_mem _ hl')) (by rw [List.length_append,List.length_singleton];omega),ed]
  simp
theorem ydr(acc:List (List Ic))(ha:acc.length<3)(L:List ByteArray)(h: ∀l∈L,ze0 l)(hl:L.length<=4000):rdL (Vj.data.toList::L.map λl=>l.data.toList) acc=some (acc++[L.map dL]):=by
 have hw:Ql Vj.data.toList=[Vj]:=by
  have:=zf4 Vj [] (λv hv=>by rw [List.mem_singleton.1 hv];unfold NoS;decide)
  rw [Zx] at this
  simpa using this
 simp only [rdL]
 rw [hw]
 have e:Gj [Vj] acc= .ok (acc++[[]]):=by
  unfold Gj
  dsimp only
  rw [if_pos rfl,if_neg yum]
 rw [e]
 have:=ye4 acc L [] h (by simpa using hl)
 rw [List.nil_append] at this
 exact this
def thC(st:RS)(i:Nat):List Ic:=(It st.hs (zmu st i 0 0) (st.ents (st.thr i))).L.map dL
structure ye5(st:RS):Prop where
 n3:st.threads.length<=3
 ne:st.threads≠[]
 fit: ∀n,n<st.threads.length->(zmu st n 0 0).Fit
 en: ∀n,n<st.threads.length->∀e∈st.ents (st.thr n),enW st.hs (zmu st n 0 0) 3 false e
 w: ∀n,n<st.threads.length->((st.ents (st.thr n)).map (wE st.hs 3)).sum<=14
 o: ∀n,n<st.threads.length->∀e∈st.ents (st.thr n),OkO st.hs 2 e
 v: ∀n,yag (zmu st n 0 0)
theorem yhi{s:ByteArray}(hg:zaz s= .ok st):ye5 st:=by
 obtain ⟨hl,hm,hok,hne⟩:=zu1 hg
 have hm':=hm
 unfold zay at hm
 simp only [Bool.or_eq_false_iff,decide_eq_false_iff_not] at hm
 obtain ⟨hc,hn3,hany⟩:=hm
 have hmem: ∀n,n<st.threads.length->st.thr n∈st.threads:=λn hn=>by
  unfold RS.thr
  rw [List.getElem?_eq_getElem hn]
  exact List.getElem_mem _
 refine ⟨by omega,hne,λn hn=>⟨by show n<=2;omega,?_⟩,λn hn=>?_,λn hn=>?_,λn hn=>?_,λn=>yhg (ydq hl) yum rfl⟩
 ·show (st.locs (st.thr n)).length<=4
  obtain ⟨l,c,e1,_,e2⟩:=hok.thr _ (hmem n hn)
  unfold RS.locs
  rw [e1]
  exact e2
 ·exact (zms hl hok hm' (zmu st n 0 0) rfl (st.thr n) (hmem n hn)).2.1
 ·exact (zms hl hok hm' (zmu st n 0 0) rfl (st.thr n) (hmem n hn)).2.2
 ·have h1:=List.any_eq_false.1 hany (st.thr n) (hmem n hn)
  have h1:st.thrMuch (st.thr n)=false:=by simpa using h1
  unfold RS.thrMuch at h1
  simp only [Bool.or_eq_false_iff] at h1
  exact yio 2 _ λe he=>by simpa using List.any_eq_false.1 h1.2 e he
theorem yds(h:ye5 st):zu9 (Yi st)= .ok ((List.range st.threads.length).map (thC st)):=by
 have H: ∀n,n<=st.threads.length->rdL (Gi st n) []=some ((List.range n).map (thC st))/\(∀l∈Gi st n,(10:UInt8)∉l)/\(lnT (Gi st n)).length<=n*34633/\(0<n->Gi st n≠[]):=by
  intro n
  induction n with
  |zero=>intro _;exact ⟨rfl,λl hl=>by simp [Gi] at hl,Nat.le_refl _,λh=>absurd h yum⟩
  |succ n ih=>
   intro hn
   obtain ⟨h1,h3,h4,_⟩:=ih yum
   have hn3:=h.n3
   obtain ⟨g1,g2,g3⟩:=zjg (h.fit n yum) st.hs (st.ents (st.thr n)) (h.en n yum) (h.w n yum)
   have hc:=ydr ((List.range n).map (thC st)) yur _ g2 g1
   refine ⟨?_,λl hl=>?_,?_,λ_=>by simp [Gi,zjh]⟩
   ·show rdL (Gi st n++zjh st n) []=_
    rw [zux _ _ _ _ h1,List.range_succ,List.map_append]
    exact hc
   ·rcases List.mem_append.1 (show l∈Gi st n++zjh st n from hl) with hl|hl
    ·exact h3 l hl
    ·rcases List.mem_cons.1 hl with rfl|hl
     ·decide
     ·obtain ⟨v,hv,rfl⟩:=List.mem_map.1 hl
      exact (g2 v hv).1
   ·show (lnT (Gi st n++zjh st n)).length<=_
    have e:lnT (zjh st n)=(Vj.data.toList++[10])++lnT ((It st.hs (zmu st n 0 0) (st.ents (st.thr n))).L.map λl=>l.data.toList):=rfl
    rw [zuz,List.length_append,e,List.length_append,zu0]
    have:(Vj.data.toList++[10]).length=7:=rfl
    omega
 obtain ⟨h1,h3,h4,h5⟩:=H _ (Nat.le_refl _)
 have hn3:=h.n3
 have hz:(Yi st).data.toList=lnT (Gi st st.threads.length):=by
  unfold Yi
  rw [<-ze2]
 have hs:(Yi st).size=(lnT (Gi st st.threads.length)).length:=by rw [<-hz,Array.length_toList];rfl
 have hle:=zzg (Gi st st.threads.length)
 unfold zu9
 rw [if_neg yum,hz]
 exact znu _ _ 0 [] _ yum (.inr (h5 (List.length_pos_iff.2 h.ne))) h3 h1
end Go.Proofs.YtkenoofmkbghiaaGreatDoor
