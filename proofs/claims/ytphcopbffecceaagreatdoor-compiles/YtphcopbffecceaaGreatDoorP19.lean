import Derived.Test.YtphcopbffecceaaGreatDoorP14
import Derived.Test.YtphcopbffecceaaGreatDoorP18
set_option maxRecDepth 100000
set_option maxHeartbeats 4000000
namespace Go.Proofs.YtphcopbffecceaaGreatDoor
open Go.RowKit
variable{w wr:World}{b:Bool}{cap d d' g ic ig m n oc og:Nat}{r:Int}{e:TypeId}{xs:List Value}{ys:List Int}
abbrev NK:=Nat×Int
def kL:St->Nat
 | .inl _=>115
 | .inr (.inl _)=>115
 | .inr (.inr (.inl _))=>103
 | .inr (.inr (.inr (.inl _)))=>112
 |_=>111
def zb3:St->List NK
 | .inr (.inr (.inr (.inr (.inr (.inl _)))))=>[(40,0)]
 | .inr (.inr (.inr (.inr (.inr (.inr (.inl _))))))=>[(122,0)]
 | .inr (.inr (.inr (.inr (.inr (.inr (.inr n))))))=>[(108,n)]
 |_=>[]
def z0z:St->List NK
 | .inr (.inr (.inr (.inr (.inr (.inl _)))))=>[(41,0)]
 | .inr (.inr (.inr (.inr (.inr (.inr (.inr _))))))=>[(98,0)]
 |_=>[]
def lin(hs:List Hd):Nat->En->List NK
 |_, .inl s=>[(kL s,0)]
 |0, .inr _=>[]
 |f+1, .inr j=>match hs[j]? with
  |some ⟨.inr s,es⟩=>zb3 s++(es.flatMap (lin hs f)++z0z s)
  |_=>[]
structure CS where
 blocks:Int
 outs:Int
 most:Int
 often:List Int
 inn:List Int
 inner:Bool
def Js(s:CS)(k:NK):CS:=
 if k.1=108 then {s with often:=s.often++[(s.often.getLast?).getD 0*k.2],inn:=s.inn++[if s.inner=true then (s.inn.getLast?).getD 0*k.2 else 1]}
 else if k.1=98 then {s with often:=s.often.dropLast,inn:=s.inn.dropLast}
 else if k.1=40 then {s with blocks:=s.blocks+(s.often.getLast?).getD 0,outs:=0,inner:=true,inn:=s.inn.dropLast++[1]}
 else if k.1=41 then {s with inner:=false}
 else if k.1=111 then (if s.inner=true then {s with outs:=s.outs+(s.inn.getLast?).getD 0,most:=if s.most<s.outs+(s.inn.getLast?).getD 0 then s.outs+(s.inn.getLast?).getD 0 else s.most} else s)
 else s
theorem z00(a b:Int):(if a<b then b else a)=max a b:=by
 by_cases h:a<b
 ·rw [if_pos h];omega
 ·rw [if_neg h];omega
section
variable{hs:List Hd}{x:Cx}
theorem zy5(kd:En->Bool): ∀(f:Nat) (b:Bool) (e:En),enW hs x f b e->0<=Zn hs kd f e
 |0,_,e,_=>by
  unfold Zn
  split<;>omega
 |f+1,b, .inl s,_=>by
  simp only [Zn,Vb,Jb,List.map_nil,List.sum_nil]
  split<;>omega
 |f+1,b, .inr j,h=>by
  obtain ⟨es,_,h⟩:=h
  have key: ∀(b':Bool) (n:Int),(∀e∈es,enW hs x f b' e)->0<=n->0<=n*(es.map (Zn hs kd f)).sum:=by
   intro b' n he hn
   apply Int.mul_nonneg hn
   have: ∀l:List En,(∀e∈l,enW hs x f b' e)->0<=(l.map (Zn hs kd f)).sum:=by
    intro l
    induction l with
    |nil=>intro _;simp
    |cons e r ih=>
     intro hl
     have h1:=zy5 kd f b' e (hl e yaj)
     have h2:=ih λe' he'=>hl e' (List.mem_cons_of_mem _ he')
     simp only [List.map_cons,List.sum_cons]
     omega
   exact this es he
  have k0:(0:Int)<=if kd (.inr j)=true then 1 else 0:=by split<;>omega
  rcases h with ⟨hj,_,he⟩|⟨a,hj,_,he⟩|⟨n,hj,hn,he⟩
  ·have:=key true 1 he yai
   simp only [Zn,Vb,Jb,hj,Jk]
   omega
  ·have:=key b 1 he yai
   simp only [Zn,Vb,Jb,hj,Jk]
   omega
  ·have:=key b n he yai
   simp only [Zn,Vb,Jb,hj,Jk]
   omega
def inS(s:CS)(r c:Int):CS:={s with outs:=s.outs+r*c,most:=max s.most (s.outs+r*c)}
theorem zm0{s:CS}(r:Int)(h:s.outs<=s.most):inS s r 0=s:=by
 unfold inS
 have:max s.most (s.outs+r*0)=s.most:=by rw [Int.mul_zero];omega
 rw [this]
 simp
theorem z01{s:CS}{c d:Int}(hr:0<=r)(hc:0<=c)(hd:0<=d):inS (inS s r c) r d=inS s r (c+d):=by
 unfold inS
 have h1:=Int.mul_nonneg hr hc
 have h2:=Int.mul_nonneg hr hd
 have e:r*(c+d)=r*c+r*d:=Int.mul_add r c d
 simp only [e,CS.mk.injEq]
 refine ⟨trivial,by omega,by omega,trivial,trivial,trivial⟩
end
section
variable{hs:List Hd}{x:Cx}
theorem zic(st:St)(hl:x.leafOk b st){s:CS}{I:List Int}(hi:s.inn=I++[r])(hn:s.inner=true)(hm:s.outs<=s.most):Js s (kL st,0)=inS s r (if kdO (.inl st)=true then 1 else 0):=by
 have hz:=zm0 (s:=s) r hm
 rcases st with ⟨to,a⟩|⟨to,o,a,d⟩|⟨to,f,a⟩|⟨f,a,v⟩|a|⟨⟩|a|n
 ·rw [if_neg yb1,hz];rfl
 ·rw [if_neg yb1,hz];rfl
 ·rw [if_neg yb1,hz];rfl
 ·rw [if_neg yb1,hz];rfl
 ·rw [if_pos yb1]
  simp [Js,kL,hn,hi,inS,z00]
 ·exact hl.elim
 ·exact hl.elim
 ·exact hl.elim
theorem zy6(j:Nat):kdO (.inr j)=false:=rfl
theorem zgt(f:Nat)(ih: ∀e,enW hs x f true e->∀(s:CS) (I:List Int) (r:Int),s.often≠[]->s.inn=I++[r]->s.inner=true->0<=r->s.outs<=s.most->(lin hs f e).foldl Js s=inS s r (Zn hs kdO f e)):
  ∀(es:List En),(∀e∈es,enW hs x f true e)->∀(s:CS) (I:List Int) (r:Int),s.often≠[]->s.inn=I++[r]->s.inner=true->0<=r->s.outs<=s.most->(es.flatMap (lin hs f)).foldl Js s=inS s r ((es.map (Zn hs kdO f)).sum)/\0<=(es.map (Zn hs kdO f)).sum
 |[],_,s,I,r,_,_,_,_,hm=>⟨(zm0 r hm).symm,by simp⟩
 |e::l,he,s,I,r,ho,hi,hn,hr,hm=>by
  have h1:=ih e (he e yaj) s I r ho hi hn hr hm
  have c1:=zy5 (hs:=hs) (x:=x) kdO f true e (he e yaj)
  obtain ⟨h2,c2⟩:=zgt f ih l (λe' h'=>he e' (List.mem_cons_of_mem _ h')) (inS s r (Zn hs kdO f e)) I r ho hi hn hr (by show s.outs+_<=max _ _;omega)
  rw [List.flatMap_cons,List.foldl_append,h1,h2,z01 hr c1 c2]
  simp only [List.map_cons,List.sum_cons]
  exact ⟨trivial,by omega⟩
theorem zsv: ∀(f:Nat) (e:En),enW hs x f true e->∀(s:CS) (I:List Int) (r:Int),s.often≠[]->s.inn=I++[r]->s.inner=true->0<=r->s.outs<=s.most->(lin hs f e).foldl Js s=inS s r (Zn hs kdO f e)
 |0, .inl st,h,s,I,r,_,hi,hn,_,hm=>zic st h hi hn hm
 |0, .inr _,h,_,_,_,_,_,_,_,_=>h.elim
 |f+1, .inl st,h,s,I,r,_,hi,hn,_,hm=>by
  have:=zic st h hi hn hm
  simp only [Zn,Vb,Jb,List.map_nil,List.sum_nil]
  rw [show (if kdO (.inl st)=true then (1:Int) else 0)+1*0=if kdO (.inl st)=true then 1 else 0 by omega]
  exact this
 |f+1, .inr j,h,s,I,r,ho,hi,hn,hr,hm=>by
  obtain ⟨es,_,h⟩:=h
  rcases h with ⟨_,hb,_⟩|⟨a,hj,_,he⟩|⟨n,hj,hnn,he⟩
  ·cases hb
  ·obtain ⟨h1,_⟩:=zgt f (zsv f) es he s I r ho hi hn hr hm
   simp only [lin,hj,Zn,Vb,Jb,zy6,Jk]
   show ((122,0)::(es.flatMap (lin hs f)++[])).foldl Js s=_
   rw [List.foldl_cons,List.append_nil,show Js s (122,0)=s from rfl,h1]
   simp
  ·have e1:Js s (108,n)={s with often:=s.often++[(s.often.getLast?).getD 0*n],inn:=s.inn++[r*n]}:=by simp [Js,hn,hi]
   obtain ⟨h1,_⟩:=zgt f (zsv f) es he {s with often:=s.often++[(s.often.getLast?).getD 0*n],inn:=s.inn++[r*n]} s.inn (r*n) yaj rfl hn (Int.mul_nonneg hr yai) hm
   simp only [lin,hj,Zn,Vb,Jb,zy6,Jk]
   show ((108,n)::(es.flatMap (lin hs f)++[(98,0)])).foldl Js s=_
   rw [List.foldl_cons,e1,List.foldl_append,h1]
   simp [Js,inS,Int.mul_assoc]
theorem zy7: ∀(f:Nat) (e:En),enW hs x f true e->Zn hs (kdA hs) f e=0
 |0, .inl _,_=>rfl
 |0, .inr _,h=>h.elim
 |f+1, .inl _,_=>rfl
 |f+1, .inr j,h=>by
  obtain ⟨es,_,h⟩:=h
  have key: ∀l:List En,(∀e∈l,enW hs x f true e)->(l.map (Zn hs (kdA hs) f)).sum=0:=z8x
  rcases h with ⟨_,hb,_⟩|⟨a,hj,_,he⟩|⟨n,hj,_,he⟩
  ·cases hb
  ·simp [Zn,Vb,Jb,kdA,hj,HK.isAtomic,key es he]
  ·simp [Zn,Vb,Jb,kdA,hj,HK.isAtomic,key es he]
end
section
variable{hs:List Hd}{x:Cx}
def mx(hs:List Hd):Nat->En->Int
 |0,_=>0
 |_+1, .inl _=>0
 |f+1, .inr j=>match hs[j]? with
  |some ⟨.inr s,es⟩=>if HK.isAtomic (.st s)=true then (es.map (Zn hs kdO f)).sum else (es.map (mx hs f)).foldl max 0
  |_=>0
theorem zid: ∀(l:List Int) (a b:Int),l.foldl max (max a b)=max a (l.foldl max b)
 |[],_,_=>rfl
 |c::r,a,b=>by
  simp only [List.foldl_cons]
  rw [show max (max a b) c=max a (max b c) by omega]
  exact zid r a _
def zp7(s:CS)(o b m:Int):CS:={s with blocks:=s.blocks+b,outs:=o,most:=max s.most m}
theorem zc6(f:Nat)(ih: ∀e,enW hs x f false e->∀(s:CS) (O I:List Int) (q:Int),s.often=O++[q]->s.inn=I++[1]->s.inner=false->0<=s.most->∃o,(lin hs f e).foldl Js s=zp7 s o (q*Zn hs (kdA hs) f e) (mx hs f e)):
  ∀(es:List En),(∀e∈es,enW hs x f false e)->∀(s:CS) (O I:List Int) (q:Int),s.often=O++[q]->s.inn=I++[1]->s.inner=false->0<=s.most->∃o,(es.flatMap (lin hs f)).foldl Js s=zp7 s o (q*(es.map (Zn hs (kdA hs) f)).sum) ((es.map (mx hs f)).foldl max 0)
 |[],_,s,O,I,q,_,_,_,hm=>⟨s.outs,by
  show s=zp7 s s.outs (q*0) 0
  unfold zp7
  rw [Int.mul_zero,Int.add_zero,show max s.most 0=s.most by omega]⟩
 |e::l,he,s,O,I,q,ho,hi,hn,hm=>by
  obtain ⟨o1,h1⟩:=ih e (he e yaj) s O I q ho hi hn hm
  obtain ⟨o2,h2⟩:=zc6 f ih l (λe' h'=>he e' (List.mem_cons_of_mem _ h')) (zp7 s o1 (q*Zn hs (kdA hs) f e) (mx hs f e)) O I q ho hi hn (by show 0<=max s.most _;omega)
  refine ⟨o2,?_⟩
  rw [List.flatMap_cons,List.foldl_append,h1,h2]
  unfold zp7
  simp only [List.map_cons,List.sum_cons,List.foldl_cons,Int.mul_add,CS.mk.injEq]
  refine ⟨by omega,trivial,?_,trivial,trivial,trivial⟩
  rw [show max 0 (mx hs f e)=max (mx hs f e) 0 by omega,zid]
  omega
theorem za3(st:St){s:CS}(hn:s.inner=false):Js s (kL st,0)=s:=by
 rcases st with ⟨to,a⟩|⟨to,o,a,d⟩|⟨to,f,a⟩|⟨f,a,v⟩|a|⟨⟩|a|n
 ·rfl
 ·rfl
 ·rfl
 ·rfl
 all_goals simp [Js,kL,hn]
theorem zie(s:CS)(q:Int)(hm:0<=s.most):s=zp7 s s.outs (q*0) 0:=by
 unfold zp7
 rw [Int.mul_zero,Int.add_zero,show max s.most 0=s.most by omega]
theorem zkv: ∀(f:Nat) (e:En),enW hs x f false e->∀(s:CS) (O I:List Int) (q:Int),s.often=O++[q]->s.inn=I++[1]->s.inner=false->0<=s.most->∃o,(lin hs f e).foldl Js s=zp7 s o (q*Zn hs (kdA hs) f e) (mx hs f e)
 |0, .inl st,_,s,_,_,q,_,_,hn,hm=>⟨s.outs,(za3 st hn).trans (zie s q hm)⟩
 |0, .inr _,h,_,_,_,_,_,_,_,_=>h.elim
 |f+1, .inl st,_,s,_,_,q,_,_,hn,hm=>⟨s.outs,(za3 st hn).trans (zie s q hm)⟩
 |f+1, .inr j,h,s,O,I,q,ho,hi,hn,hm=>by
  obtain ⟨es,_,h⟩:=h
  rcases h with ⟨hj,_,he⟩|⟨a,hj,_,he⟩|⟨n,hj,hnn,he⟩
  ·have e1:Js s (40,0)={s with blocks:=s.blocks+q,outs:=0,inner:=true,inn:=I++[1]}:=by simp [Js,ho,hi]
   obtain ⟨h1,_⟩:=zgt f (zsv f) es he {s with blocks:=s.blocks+q,outs:=0,inner:=true,inn:=I++[1]} I 1 yas rfl rfl yai hm
   have h0:(es.map (Zn hs (kdA hs) f)).sum=0:=by
    have key: ∀l:List En,(∀e∈l,enW hs x f true e)->(l.map (Zn hs (kdA hs) f)).sum=0:=z8x
    exact key es he
   refine ⟨(es.map (Zn hs kdO f)).sum,?_⟩
   simp only [lin,hj,mx,Zn,Vb,Jb,kdA,HK.isAtomic,h0,Jk]
   show ((40,0)::(es.flatMap (lin hs f)++[(41,0)])).foldl Js s=_
   rw [List.foldl_cons,e1,List.foldl_append,h1]
   simp [Js,inS,zp7,hn,hi]
  ·obtain ⟨o,h1⟩:=zc6 f (zkv f) es he s O I q ho hi hn hm
   refine ⟨o,?_⟩
   simp only [lin,hj,mx,Zn,Vb,Jb,kdA,HK.isAtomic,Jk]
   show ((122,0)::(es.flatMap (lin hs f)++[])).foldl Js s=_
   rw [List.foldl_cons,List.append_nil,show Js s (122,0)=s from rfl,h1]
   simp
  ·have e1:Js s (108,n)={s with often:=s.often++[q*n],inn:=s.inn++[1]}:=by simp [Js,hn,ho]
   obtain ⟨o,h1⟩:=zc6 f (zkv f) es he {s with often:=s.often++[q*n],inn:=s.inn++[1]} s.often s.inn (q*n) rfl rfl hn hm
   refine ⟨o,?_⟩
   simp only [lin,hj,mx,Zn,Vb,Jb,kdA,HK.isAtomic,Jk]
   show ((108,n)::(es.flatMap (lin hs f)++[(98,0)])).foldl Js s=_
   rw [List.foldl_cons,e1,List.foldl_append,h1]
   simp [Js,zp7,Int.mul_assoc]
end
section
variable{hs:List Hd}{x:Cx}
theorem zm1(kd:En->Bool): ∀(f:Nat) (b:Bool) (e:En) (d:Nat),enW hs x f b e->Zn hs kd (f+d) e=Zn hs kd f e
 |0,_, .inl s,0,_=>rfl
 |0,_, .inl s,d+1,_=>by
  show Zn hs kd (0+d+1) (.inl s)=_
  simp [Zn,Jb]
 |0,_, .inr _,_,h=>h.elim
 |f+1,_, .inl s,d,_=>by
  rw [show f+1+d=(f+d)+1 by omega]
  simp [Zn,Jb]
 |f+1,b, .inr j,d,h=>by
  rw [show f+1+d=(f+d)+1 by omega]
  obtain ⟨es,_,h⟩:=h
  have key: ∀b',(∀e∈es,enW hs x f b' e)->es.map (Zn hs kd (f+d))=es.map (Zn hs kd f):=λb' he=>List.map_congr_left λe he'=>zm1 kd f b' e d (he e he')
  rcases h with ⟨hj,_,he⟩|⟨a,hj,_,he⟩|⟨n,hj,_,he⟩
  ·simp only [Zn,Jb,hj,key true he]
  ·simp only [Zn,Jb,hj,key b he]
  ·simp only [Zn,Jb,hj,key b he]
theorem zsw(f:Nat)(es:List En):Jf hs f es=es.flatMap λe=>Jf hs f [e]:=by
 cases f with
 |zero=>
  show es=es.flatMap λe=>[e]
  induction es with
  |nil=>rfl
  |cons e r ih=>simp only [List.flatMap_cons];rw [<-ih];rfl
 |succ f=>
  show (es.flatMap λe=>e::Jf hs f (Jb hs e))=es.flatMap λe=>[e].flatMap λe=>e::Jf hs f (Jb hs e)
  simp
theorem zc7(f:Nat)(es:List En)(p:En->Bool):(Jf hs f es).any p=es.any λe=>(Jf hs f [e]).any p:=by
 rw [zsw,List.any_flatMap]
theorem za4(f:Nat)(e:En):Jf hs (f+1) [e]=e::Jf hs f (Jb hs e):=by
 show [e].flatMap (λe=>e::Jf hs f (Jb hs e))=_
 simp
theorem zsx: ∀(f g:Nat) (e:En),enW hs x g true e->(Jf hs f [e]).any (Zo hs)=false
 |0,_, .inl _,_=>rfl
 |f+1,_, .inl s,_=>by
  rw [za4]
  show ((.inl s:En)::Jf hs f []).any (Zo hs)=false
  rw [zax]
  rfl
 |f,0, .inr _,h=>h.elim
 |f,g+1, .inr j,h=>by
  obtain ⟨es,_,h⟩:=h
  have hk:(∀e∈es,enW hs x g true e)->∀s,hs[j]?=some ⟨.st s,es⟩->HK.isAtomic (.st s)=false->(Jf hs f [.inr j]).any (Zo hs)=false:=by
   intro he s hj ha
   have h0:Zo hs (.inr j)=false:=by simp only [Zo,kdA,hj,ha,Bool.false_and]
   cases f with
   |zero=>
    show [(.inr j:En)].any (Zo hs)=false
    simp [h0]
   |succ f=>
    rw [za4,List.any_cons,h0]
    simp only [Jb,hj,Bool.false_or]
    rw [zc7,List.any_eq_false]
    intro e he'
    simp [zsx f g e (he e he')]
  rcases h with ⟨_,hb,_⟩|⟨a,hj,_,he⟩|⟨n,hj,_,he⟩
  ·cases hb
  ·exact hk he _ hj rfl
  ·exact hk he _ hj rfl
theorem zsy: ∀(l:List Int) (a:Int),decide (8<l.foldl max a)=(decide (8<a)||l.any λc=>decide (8<c))
 |[],a=>by rw [List.foldl_nil,List.any_nil,Bool.or_false]
 |c::r,a=>by
  rw [List.foldl_cons,zsy r]
  simp only [List.any_cons]
  rw [show decide (8<max a c)=(decide (8<a)||decide (8<c)) by
   by_cases h1:8<a
   ·simp [h1];omega
   ·by_cases h2:8<c
    ·simp [h1,h2];omega
    ·simp [h1,h2];omega]
  rw [Bool.or_assoc]
theorem zm2: ∀(f:Nat),f<=3->∀(e:En),enW hs x f false e->(Jf hs f [e]).any (Zo hs)=decide (8<mx hs f e)
 |0,_, .inl _,_=>rfl
 |0,_, .inr _,h=>h.elim
 |f+1,_, .inl s,_=>by
  rw [za4]
  show ((.inl s:En)::Jf hs f []).any (Zo hs)=_
  rw [zax]
  rfl
 |f+1,hf, .inr j,h=>by
  obtain ⟨es,_,h⟩:=h
  have hk:(∀e∈es,enW hs x f false e)->∀s,hs[j]?=some ⟨.st s,es⟩->HK.isAtomic (.st s)=false->(Jf hs (f+1) [.inr j]).any (Zo hs)=decide (8<mx hs (f+1) (.inr j)):=by
   intro he s hj ha
   have h0:Zo hs (.inr j)=false:=by simp only [Zo,kdA,hj,ha,Bool.false_and]
   have h1:mx hs (f+1) (.inr j)=(es.map (mx hs f)).foldl max 0:=by
    simp only [mx,hj]
    rw [if_neg (by rw [show HK.isAtomic (.inr s)=false from ha];simp)]
   rw [za4,List.any_cons,h0,h1,zsy]
   simp only [Jb,hj,Bool.false_or]
   rw [zc7,List.any_map]
   simp only [show decide ((8:Int)<0)=false from rfl,Bool.false_or]
   exact zh6 es λe he'=>zm2 f yai e (he e he')
  rcases h with ⟨hj,_,he⟩|⟨a,hj,_,he⟩|⟨n,hj,_,he⟩
  ·have h1:mx hs (f+1) (.inr j)=(es.map (Zn hs kdO f)).sum:=by
    simp only [mx,hj,HK.isAtomic]
    rfl
   have h2:es.map (Zn hs kdO 3)=es.map (Zn hs kdO f):=List.map_congr_left λe he'=>by
    have:=zm1 (hs:=hs) (x:=x) kdO f true e (3- f) (he e he')
    rwa [show f+(3- f)=3 by omega] at this
   rw [za4,List.any_cons,h1]
   simp only [Jb,hj]
   rw [zc7,show (es.any λe=>(Jf hs f [e]).any (Zo hs))=false by
    rw [List.any_eq_false]
    intro e he'
    simp [zsx f f e (he e he')]]
   simp only [Zo,kdA,hj,HK.isAtomic,Jb,h2,Bool.true_and,Bool.or_false]
  ·exact hk he _ hj rfl
  ·exact hk he _ hj rfl
theorem zo2(es:List En)(he: ∀e∈es,enW hs x 3 false e): ∃o,(es.flatMap (lin hs 3)).foldl Js ⟨0,0,0,[1],[1],false⟩=⟨(es.map (Zn hs (kdA hs) 3)).sum,o,(es.map (mx hs 3)).foldl max 0,[1],[1],false⟩:=by
 obtain ⟨o,h⟩:=zc6 (hs:=hs) (x:=x) 3 (zkv 3) es he ⟨0,0,0,[1],[1],false⟩ [] [] 1 rfl rfl rfl yal
 refine ⟨o,?_⟩
 rw [h]
 have h0: ∀(l:List Int) (a:Int),a<=l.foldl max a:=by
  intro l
  induction l with
  |nil=>exact λa=>Int.le_refl a
  |cons c r ih=>
   intro a
   have:=ih (max a c)
   simp only [List.foldl_cons]
   omega
 have:=h0 (es.map (mx hs 3)) 0
 unfold zp7
 simp only [Int.one_mul,Int.zero_add,CS.mk.injEq]
 refine ⟨trivial,trivial,by omega,trivial,trivial,trivial⟩
theorem zo3(st:RS)(t:Nat)(he: ∀e∈st.ents t,enW st.hs x 3 false e):st.thrMuch t=(decide (3<((st.ents t).map (Zn st.hs (kdA st.hs) 3)).sum)||decide (8<((st.ents t).map (mx st.hs 3)).foldl max 0)):=by
 unfold RS.thrMuch
 rw [zsy,zc7,List.any_map]
 congr 1
 simp only [show decide ((8:Int)<0)=false from rfl,Bool.false_or]
 exact zh6 _ λe he'=>zm2 3 (Nat.le_refl _) e (he e he')
end
structure zec(s:CS):Prop where
 ne:s.often≠[]
 len:s.inn.length=s.often.length
 l5:s.often.length<=5
 o: ∀v∈s.often,0<=v/\v<=1000000
 i: ∀v∈s.inn,0<=v/\v<=1000000
 b:0<=s.blocks/\s.blocks<=1000000
 u:0<=s.outs/\s.outs<=1000000
 m:0<=s.most/\s.most<=1000000
abbrev zkw(v:Int):Value:= .int .i64 v
structure CRow(w wr:World)(og oc ig ic:Nat)(s:CS):Prop where
 ro:wr.ownsRow 0 3 1 (.slice (some ⟨og,0,none⟩) s.often.length oc) s.often.length (s.often.map zkw)
 ri:wr.ownsRow 0 3 1 (.slice (some ⟨ig,0,none⟩) s.often.length ic) s.inn.length (s.inn.map zkw)
 ne:og≠ig
 lo:w.heap.size<=og
 li:w.heap.size<=ig
 low:Below w.heap.size w wr
theorem zkx(h:w.ownsRow 0 e 1 (.slice (some ⟨g,0,none⟩) n cap) n xs)(hm:m<=n):w.ownsRow 0 e 1 (.slice (some ⟨g,0,none⟩) m cap) m (xs.take m):=by
 obtain ⟨h1,h2⟩:=h
 rcases h2 with ⟨q,_⟩|⟨g',cap',cur,hv,hb,hg,hn,hmx,hs,ht⟩
 ·cases q
 ·cases hv
  refine ⟨by simp;omega, .inr ⟨g,cap,cur,rfl,hb,hg,by omega,hmx,hs,?_⟩⟩
  rw [<-ht,List.take_take]
  congr 1
  omega
theorem zs1(w:World)(v:Value)(t:TypeId):(w.alloc (.cells #[v] t)).ownsRow 0 t 1 (.slice (some ⟨w.heap.size,0,none⟩) 1 1) 1 [v]:=
 ⟨rfl, .inr ⟨w.heap.size,1,#[v],rfl,Nat.zero_le _,World.alloc_heap_new w _,Nat.le_refl _,by unfold maxLen;omega,rfl,rfl⟩⟩
theorem zs2(h:w.ownsRow 0 e 1 (.slice (some ⟨g,0,none⟩) n cap) n xs):n<=cap:=by
 rcases h.2 with ⟨q,_⟩|⟨g',cap',cur,hv,_,_,hn,_⟩
 ·cases q
 ·cases hv;exact hn
theorem za7:(Tryz.prog.info? 3).map (λi=>(i.zero,i.size,i.bytes))=some (some (.int .i64 0),1,8):=yak
structure TwoR(w wr:World)(og oc:Nat)(xs:List Int)(ig ic:Nat)(ys:List Int):Prop where
 ro:wr.ownsRow 0 3 1 (.slice (some ⟨og,0,none⟩) xs.length oc) xs.length (xs.map zkw)
 ri:wr.ownsRow 0 3 1 (.slice (some ⟨ig,0,none⟩) ys.length ic) ys.length (ys.map zkw)
 ne:og≠ig
 lo:w.heap.size<=og
 li:w.heap.size<=ig
 low:Below w.heap.size w wr
theorem TwoR.swap{xs:List Int}(h:TwoR w wr og oc xs ig ic ys):TwoR w wr ig ic ys og oc xs:=⟨h.ri,h.ro,λe=>h.ne e.symm,h.li,h.lo,h.low⟩
theorem TwoR.push{X w3:World}{g3 c3:Nat}{xs:List Int}{v:Int}(h:TwoR w wr og oc xs ig ic ys)(hX:Below wr.heap.size wr X)
  (ho:w3.ownsRow 0 3 1 (.slice (some ⟨g3,0,none⟩) (xs.length+1) c3) (xs.length+1) (xs.map zkw++[zkw v])) (hch:Chg (λk _=>(Value.slice (some ⟨og,0,none⟩) xs.length oc).ownBlock=some k) X w3) (hg:(Value.slice (some ⟨og,0,none⟩) xs.length oc).ownBlock=some g3\/g3=X.heap.size):TwoR w w3 g3 c3 (xs++[v]) ig ic ys:=by
 have hlt:=(h.ri.lt ig rfl).2
 have hs:=hX.size
 have hw:=h.low.size
 have hog:g3=og\/g3=X.heap.size:=by
  rcases hg with e|e
  ·left
   have:og=g3:=yc0
   omega
  ·exact .inr e
 have hno: ∀g',(Value.slice (some ⟨ig,0,none⟩) ys.length ic).ownBlock=some g'->∀_:Nat,¬(Value.slice (some ⟨og,0,none⟩) xs.length oc).ownBlock=some g':=by
  intro g' e1 _ e2
  have h1:ig=g':=by simpa [Value.ownBlock] using e1
  have h2:og=g':=by simpa [Value.ownBlock] using e2
  exact h.ne yai
 refine ⟨by simpa using ho,Qc (Qc h.ri (Chg.of_below (M:=λ_ _=>False) hX) (λ_ _ _ e=>e)) hch hno,?_,?_,h.li,?_⟩
 ·have:=h.ne
  omega
 ·have:=h.lo
  omega
 ·refine (h.low.trans (hX.mono hw)).trans (hch.below (Nat.le_trans hw hs) (λk i e=>?_))
  have h2:og=k:=yc0
  have:=h.lo
  omega
theorem CRow.of{s:CS}(h:TwoR w wr og oc s.often ig ic s.inn)(hl:s.inn.length=s.often.length):CRow w wr og oc ig ic s:=
 ⟨h.ro,by rw [<-hl];exact h.ri,h.ne,h.lo,h.li,h.low⟩
section
variable{w:World}{g cap:Nat}{nks:List NK}
def cAt(nks:List NK)(i:Nat):CS:=(nks.take i).foldl Js ⟨0,0,0,[1],[1],false⟩
theorem zm3{i:Nat}(hi:i<nks.length):cAt nks (i+1)=Js (cAt nks i) nks[i]:=by
 unfold cAt
 rw [List.take_succ_eq_append_getElem hi,List.foldl_append]
 rfl
theorem zfu(hl:nks.length<1000000)(hk:Hid (∀i (h:i<nks.length),w.cell? ⟨g,i*14,none⟩=some (.int .u8 (nks[i].1:Int))/\w.cell? ⟨g,i*14+12,none⟩=some (.int .i64 nks[i].2)))(hg:g<w.heap.size)(hS:Hid (∀i,i<=nks.length->zec (cAt nks i))):
  Cl 13 #[.slice (some ⟨g,0,none⟩) nks.length cap] w λe w'=>e= .returned (.tuple #[.int .i64 (cAt nks nks.length).blocks, .int .i64 (cAt nks nks.length).most])/\Below w.heap.size w w':=by
 go_enter Tryz.func13,Tryz.ntmps13
 have hinit:CRow w ((w.alloc (.cells #[.int .i64 1] 3)).alloc (.cells #[.int .i64 1] 3)) w.heap.size 1 (w.heap.size+1) 1 ⟨0,0,0,[1],[1],false⟩:=by
  have e1:(w.alloc (.cells #[.int .i64 1] 3)).heap.size=w.heap.size+1:=yaj
  have r2:=zs1 (w.alloc (.cells #[.int .i64 1] 3)) (.int .i64 1) 3
  rw [e1] at r2
  exact ⟨Qc (zs1 w (.int .i64 1) 3) ((Chg.refl (λ_ _=>False) _).alloc _) (λ_ _ _ e=>e),r2,by omega,Nat.le_refl _,by omega,((Below.refl _ w).alloc (Nat.le_refl _) _).alloc yaj _⟩
 have HI:=hid hinit
 clear hinit
 go_wp2
 go_loopw [4,5,6,7,8,9,10] (λv4 v5 v6 v7 v8 v9 v10 wr=>∃(i:Nat) (s:CS) (og oc ig ic:Nat),i<=nks.length/\cAt nks i=s/\v4= .int .i64 s.blocks/\v5= .int .i64 s.outs/\v6= .int .i64 s.most/\v7= .slice (some ⟨og,0,none⟩) s.often.length oc/\v8= .slice (some ⟨ig,0,none⟩) s.often.length ic/\v9= .bool s.inner/\v10= .int .i64 i/\Hid (CRow w wr og oc ig ic s)) (λ_ _ _ _ _ _ v10 _=>nks.length- (intOf v10).toNat)
 case atStart=>exact ⟨0,⟨0,0,0,[1],[1],false⟩,w.heap.size,1,w.heap.size+1,1,Nat.zero_le _,rfl,rfl,rfl,rfl,rfl,rfl,rfl,rfl,HI⟩
 case round=>
  obtain ⟨i,s,og,oc,ig,ic,hi,hs,rfl,rfl,rfl,rfl,rfl,rfl,rfl,hR⟩:=hrel
  by_cases hlt:i<nks.length
  ·have hlt':(i:Int)<(nks.length:Int):=by omega
   have hi0:(0:Int)<=(i:Int):=yai
   have sm:=hS.out i hi
   have sm2:=hS.out (i+1) hlt
   rw [zm3 hlt] at sm2
   rw [hs] at sm sm2
   have HN:Hid (cAt nks (i+1)=Js s nks[i]):=hid (by rw [zm3 hlt,hs])
   obtain ⟨k1,k2⟩:=hk.out i hlt
   have d1:=(hR.out.low.cell (p:=⟨g,i*14,none⟩) hg).trans k1
   have d2:=(hR.out.low.cell (p:=⟨g,i*14+12,none⟩) hg).trans k2
   generalize nks[i]=kn at*
   obtain ⟨kd,nn⟩:=kn
   obtain ⟨O,q,hO⟩: ∃O q,s.often=O++[q]:=⟨_,_,(List.dropLast_concat_getLast sm.ne).symm⟩
   have hne:s.inn≠[]:=λe=>sm.ne (List.length_eq_zero_iff.1 (by rw [<-sm.len,e];rfl))
   obtain ⟨I,r,hII⟩: ∃I r,s.inn=I++[r]:=⟨_,_,(List.dropLast_concat_getLast hne).symm⟩
   have hlO:s.often.length=O.length+1:=by rw [hO];simp
   have hlI:I.length=O.length:=by have:=sm.len;rw [hII,hlO] at this;simpa using this
   have cq:wr.cell? ⟨og,O.length,none⟩=some (.int .i64 q):=by
    have:=(Qm hR.out.ro O.length yai).1
    rw [this,List.getElem?_map,hO]
    simp
   have cr:wr.cell? ⟨ig,O.length,none⟩=some (.int .i64 r):=by
    have hri:=hR.out.ri
    rw [sm.len] at hri
    have:=(Qm hri O.length yai).1
    rw [this,List.getElem?_map,hII,<-hlI]
    simp
   have cf:wr.frozen? ⟨ig,O.length,none⟩=false:=by
    have hri:=hR.out.ri
    rw [sm.len] at hri
    exact (Qm hri O.length yai).2.1
   rw [hlO]
   have hk0:(0:Int)<=(O.length:Int):=yai
   have hOl:O.length<=5:=by have:=sm.l5;omega
   have hwO:wrap64 (O.length:Int)=(O.length:Int):=by
    generalize O.length=m at hOl
    unfold wrap64
    omega
   have HSM:=hid sm
   have HSM2:=hid sm2
   by_cases e108:kd=108
   ·subst e108
    have hcs:Js s (108,nn)={s with often:=s.often++[q*nn],inn:=s.inn++[if s.inner=true then r*nn else 1]}:=by simp [Js,hO,hII]
    have hu:=HSM2.out.o
    rw [hcs] at hu
    have hq:=hu (q*nn) yaj
    have hw1:IntKind.i64.wrap (q*nn)=q*nn:=by
     rw [IntKind.wrap_i64]
     omega
    have HN2:Hid (cAt nks (i+1)={s with often:=s.often++[q*nn],inn:=s.inn++[if s.inner=true then r*nn else 1]}):=hid (by rw [HN.out,hcs])
    obtain ⟨i0,hinf,hz0,hz1,hz2⟩:=info_parts za7
    have hl1:O.length+1+1<=maxLen:=yap
    have hl2:(O.length+1+1)*8<=140737488355328:=yai
    have T0:TwoR w wr og oc s.often ig ic s.inn:=⟨hR.out.ro,by have:=hR.out.ri;rw [<-HSM.out.len] at this;exact this,hR.out.ne,hR.out.lo,hR.out.li,hR.out.low⟩
    have bX:Below wr.heap.size wr (wr.drew.alloc (.cells #[.int .i64 (q*nn)] 3)):=(⟨rfl,rfl,rfl,Nat.le_refl _,λ_ _=>rfl⟩:Below wr.heap.size wr wr.drew).alloc (Nat.le_refl _) _
    have RO:Hid ((wr.drew.alloc (.cells #[.int .i64 (q*nn)] 3)).ownsRow 0 3 1 (.slice (some ⟨og,0,none⟩) (O.length+1) oc) (O.length+1) (s.often.map zkw)):=hid (by
     have:=Qc T0.ro (Chg.of_below (M:=λ_ _=>False) bX) (λ_ _ _ e=>e)
     rw [hlO] at this
     exact this)
    have hgo:og≠g:=by have:=hR.out.lo;omega
    have NG:Hid (∀w3,Chg (λk _=>(Value.slice (some ⟨og,0,none⟩) (O.length+1) oc).ownBlock=some k) (wr.drew.alloc (.cells #[.int .i64 (q*nn)] 3)) w3->w3.cell? ⟨g,i*14+12,none⟩=some (.int .i64 nn)):=hid λw3 hch=>(hch.cell _ _ (Nat.lt_of_lt_of_le (blt d2) bX.size) (λe=>hgo yc0)).trans ((bX.cell (p:=⟨g,i*14+12,none⟩) (blt d2)).trans d2)
    have TW:Hid (∀g3 c3 w3,w3.ownsRow 0 3 1 (.slice (some ⟨g3,0,none⟩) (O.length+1+1) c3) (O.length+1+1) (s.often.map zkw++[.int .i64 (q*nn)])->Chg (λk _=>(Value.slice (some ⟨og,0,none⟩) (O.length+1) oc).ownBlock=some k) (wr.drew.alloc (.cells #[.int .i64 (q*nn)] 3)) w3->((Value.slice (some ⟨og,0,none⟩) (O.length+1) oc).ownBlock=some g3\/g3=(wr.drew.alloc (.cells #[.int .i64 (q*nn)] 3)).heap.size)->TwoR w w3 g3 c3 (s.often++[q*nn]) ig ic s.inn):=hid λg3 c3 w3 ho hch hg3=>by
     rw [<-hlO] at ho hch hg3
     exact T0.push bX ho hch hg3
    have hlI1:s.inn.length=O.length+1:=by rw [HSM.out.len];exact hlO
    have RI:Hid (∀w3 g3 c3,TwoR w w3 g3 c3 (s.often++[q*nn]) ig ic s.inn->∀X,Below w3.heap.size w3 X->X.ownsRow 0 3 1 (.slice (some ⟨ig,0,none⟩) (O.length+1) ic) (O.length+1) (s.inn.map zkw)):=hid λw3 g3 c3 h X hX=>by
     have:=Qc h.ri (Chg.of_below (M:=λ_ _=>False) hX) (λ_ _ _ e=>e)
     rw [hlI1] at this
     exact this
    have RC:Hid (∀w3 g3 c3,TwoR w w3 g3 c3 (s.often++[q*nn]) ig ic s.inn->w3.cell? ⟨ig,O.length,none⟩=some (.int .i64 r)):=hid λw3 g3 c3 h=>by
     have hri:=h.ri
     have:=(Qm hri O.length yai).1
     rw [this,List.getElem?_map,hII,<-hlI]
     simp
    have T2:Hid (∀w3 g3 c3,TwoR w w3 g3 c3 (s.often++[q*nn]) ig ic s.inn->∀X,Below w3.heap.size w3 X->∀(u:Int) g4 c4 w4,w4.ownsRow 0 3 1 (.slice (some ⟨g4,0,none⟩) (O.length+1+1) c4) (O.length+1+1) (s.inn.map zkw++[.int .i64 u])->Chg (λk _=>(Value.slice (some ⟨ig,0,none⟩) (O.length+1) ic).ownBlock=some k) X w4->((Value.slice (some ⟨ig,0,none⟩) (O.length+1) ic).ownBlock=some g4\/g4=X.heap.size)->TwoR w w4 g3 c3 (s.often++[q*nn]) g4 c4 (s.inn++[u])):=hid λw3 g3 c3 h X hX u g4 c4 w4 ho hch hg4=>by
     rw [<-hlI1] at ho hch hg4
     exact (h.swap.push hX ho hch hg4).swap
    have hr2:s.inner=true->IntKind.i64.wrap (r*nn)=r*nn:=λe=>by
     have hu:=HSM2.out.i
     rw [show Js s (108,nn)={s with often:=s.often++[q*nn],inn:=s.inn++[if s.inner=true then r*nn else 1]} by simp [Js,hO,hII],if_pos e] at hu
     have:=hu (r*nn) yaj
     rw [IntKind.wrap_i64]
     omega
    have HR2:=hid hr2
    have hlen2:(s.often++[q*nn]).length=O.length+1+1:=by simp [hlO]
    have hlenI: ∀u:Int,(s.inn++[u]).length=(s.often++[q*nn]).length:=λu=>by simp [hlI1,hlO]
    have HLI:=hid hlenI
    clear hr2 hlenI
    have hOlt:(O.length:Int)<(O.length:Int)+1:=yai
    clear T0 bX hu hcs hgo
    go_wp2_with fail
    refine wp_region_held_drew (S:=(λw'=>w'.cell? ⟨g,i*14+12,none⟩=some (.int .i64 nn))) yak ?_ (λhHeld=>?_)
    ·(try dsimp only);go_keep
    refine Qa 0 (h:=Qa 1 (h:=Qa 2 (h:=Qa 3 (h:=Qa 5 (h:=Qa 6 (h:=Qa 7 (h:=Qa 8 (h:=Qa 9 (h:=?_)))))))))
    refine wpAnyH_ready (rs:=[4]) yak yaj ?_
    refine .cons rfl (λKQ hKQ=>?_) ?_
    ·go_simp
     refine hKQ.out _ _ ?_ (λhHeld=>?_)
     ·(try dsimp only);(first|exact hd3|go_keep)
     clear hKQ KQ
     refine Qa 10 (h:=?_)
     refine wpAnyH_ready (rs:=[11]) yak yaj ?_
     refine .cons rfl (λKQ hKQ=>?_) ?_
     ·go_simp
      refine hKQ.out _ _ ?_ (λhHeld=>?_)
      ·(try dsimp only);(first|exact hd3|go_keep)
      clear hKQ KQ
      refine wpAnyH_ready (rs:=[12]) yak yaj ?_
      refine .cons rfl (λKQ hKQ=>?_) ?_
      ·(refine Je rfl (.tmp 31) (.tmp 42) 52 rfl 3 i0 (.int .i64 0) 1 8 yal Tryz.underlying52 hinf hz0 hz1 hz2 rfl (.slice (some ⟨og,0,none⟩) (O.length+1) oc) (O.length+1) (s.often.map zkw) rfl RO.out ⟨wr.heap.size,0,none⟩ [.int .i64 (q*nn)] rfl rfl (cell_one_new _ _ _) yax hl1 hl2 ?_;intro g3 c3 w3 ho hch hg3;have hd3:=NG.out w3 hch;have HT3:=hid (TW.out g3 c3 w3 ho hch hg3);clear ho hch hg3)
       refine hKQ.out _ _ ?_ (λhHeld=>?_)
       ·(try dsimp only);(first|exact hd3|go_keep)
       clear hKQ KQ
       refine Qa 13 (h:=?_)
       refine wpAnyH_done yak ?_ _
       cases hin:s.inner with
       |false=>
        have RI3:=RI.out _ _ _ HT3.out (w3.alloc (.cells #[.int .i64 1] 3)) ((Below.refl _ w3).alloc (Nat.le_refl _) _)
        have HN3:Hid (cAt nks (i+1)={s with often:=s.often++[q*nn],inn:=s.inn++[1]}):=hid (by rw [HN2.out,if_neg (by simp [hin])])
        go_wp2_with (at_builtin;refine Zk rfl _ _ 52 rfl 3 i0 (.int .i64 0) 8 Tryz.underlying52 hinf hz0 hz1 hz2 rfl (.slice (some ⟨ig,0,none⟩) (O.length+1) ic) (O.length+1) (s.inn.map zkw) rfl RI3 ⟨w3.heap.size,0,none⟩ (.int .i64 1) rfl (cell_one_new _ _ _) rfl hl1 hl2 ?_;go_must (intro g4 c4 w4 ho hch hg4;have HT4:=hid (T2.out _ _ _ HT3.out _ ((Below.refl _ w3).alloc (Nat.le_refl _) _) (1) g4 c4 w4 ho hch hg4);clear ho hch hg4))
        go_roundw
        case rel=>exact ⟨i+1,{s with often:=s.often++[q*nn],inn:=s.inn++[1]},g3,c3,g4,c4,by omega,HN3.out,rfl,rfl,rfl,by rw [hlen2],by rw [hlen2],by rw [hin],by go_num,hid (CRow.of HT4.out (HLI.out 1))⟩
        case measure=>simp [intOf];omega
       |true=>
        have RI3:=RI.out _ _ _ HT3.out (w3.drew.alloc (.cells #[.int .i64 (r*nn)] 3)) ((⟨rfl,rfl,rfl,Nat.le_refl _,λ_ _=>rfl⟩:Below w3.heap.size w3 w3.drew).alloc (Nat.le_refl _) _)
        have HN3:Hid (cAt nks (i+1)={s with often:=s.often++[q*nn],inn:=s.inn++[r*nn]}):=hid (by rw [HN2.out,if_pos hin])
        have hr3:=HR2.out hin
        have cr3:=RC.out _ _ _ HT3.out
        go_wp2_with fail
        go_region_law fail
        all_goals
         go_wp2_with (at_builtin;refine Zk rfl _ _ 52 rfl 3 i0 (.int .i64 0) 8 Tryz.underlying52 hinf hz0 hz1 hz2 rfl (.slice (some ⟨ig,0,none⟩) (O.length+1) ic) (O.length+1) (s.inn.map zkw) rfl RI3 ⟨w3.heap.size,0,none⟩ (.int .i64 (r*nn)) rfl (cell_one_new _ _ _) rfl hl1 hl2 ?_;go_must (intro g4 c4 w4 ho hch hg4;have HT4:=hid (T2.out _ _ _ HT3.out _ ((⟨rfl,rfl,rfl,Nat.le_refl _,λ_ _=>rfl⟩:Below w3.heap.size w3 w3.drew).alloc (Nat.le_refl _) _) ((r*nn)) g4 c4 w4 ho hch hg4);clear ho hch hg4))
         go_roundw
         case rel=>exact ⟨i+1,{s with often:=s.often++[q*nn],inn:=s.inn++[r*nn]},g3,c3,g4,c4,by omega,HN3.out,rfl,rfl,rfl,by rw [hlen2],by rw [hlen2],by rw [hin],by go_num,hid (CRow.of HT4.out (HLI.out (r*nn)))⟩
         case measure=>simp [intOf];omega
      exact .nil
     exact .nil
    exact .nil
   ·have m108:((kd:Int)==108)=false:=by simp;omega
    by_cases e98:kd=98
    ·subst e98
     have hcs:Js s (98,nn)={s with often:=O,inn:=I}:=by simp [Js,hO,hII]
     have HN2:Hid (cAt nks (i+1)={s with often:=O,inn:=I}):=hid (by rw [HN.out,hcs])
     have hco:=zs2 hR.out.ro
     have hci:s.often.length<=ic:=by
      have hri:=hR.out.ri
      rw [HSM.out.len] at hri
      exact zs2 hri
     have b1:(O.length:Int)<=(oc:Int):=yai
     have b2:(O.length:Int)<=(ic:Int):=yai
     have HR2:Hid (CRow w wr og oc ig ic {s with often:=O,inn:=I}):=hid {
      ro:=by
       have:=zkx hR.out.ro (m:=O.length) yai
       rw [hO] at this
       simpa using this
      ri:=by
       have hri:=hR.out.ri
       rw [HSM.out.len] at hri
       have:=zkx hri (m:=O.length) yai
       rw [hII,<-hlI] at this
       show wr.ownsRow 0 _ 1 (.slice (some ⟨ig,0,none⟩) O.length ic) I.length (I.map zkw)
       rw [<-hlI]
       simpa using this
      ne:=hR.out.ne,lo:=hR.out.lo,li:=hR.out.li,low:=hR.out.low}
     clear hcs hco hci
     go_wp2
     go_roundw
     case rel=>exact ⟨i+1,{s with often:=O,inn:=I},og,oc,ig,ic,by omega,HN2.out,rfl,rfl,rfl,rfl,rfl,rfl,by go_num,HR2⟩
     case measure=>simp [intOf];omega
    ·have m98:((kd:Int)==98)=false:=by simp;omega
     by_cases e40:kd=40
     ·subst e40
      have hcs:Js s (40,nn)={s with blocks:=s.blocks+q,outs:=0,inner:=true,inn:=I++[1]}:=by simp [Js,hO,hII]
      have hu:=HSM2.out.b
      rw [hcs] at hu
      have hw1:wrap64 (s.blocks+q)=s.blocks+q:=by
       have h1:s.blocks+q<=1000000:=hu.2
       have h0:0<=s.blocks+q:=hu.1
       unfold wrap64
       omega
      have HN2:Hid (cAt nks (i+1)={s with blocks:=s.blocks+q,outs:=0,inner:=true,inn:=I++[1]}):=hid (by rw [HN.out,hcs])
      have hno: ∀g',(Value.slice (some ⟨og,0,none⟩) s.often.length oc).ownBlock=some g'->∀_:Nat,¬g'=ig:=λg' hg' _ e=>hR.out.ne (by
       have:og=g':=by simpa [Value.ownBlock] using hg'
       omega)
      have HR2:Hid (CRow w (wr.setCell ⟨ig,O.length,none⟩ (.int .i64 1)) og oc ig ic {s with blocks:=s.blocks+q,outs:=0,inner:=true,inn:=I++[1]}):=hid {
       ro:=Qc hR.out.ro ((Chg.refl (λk _=>k=ig) wr).setCell (b:=ig) (o:=O.length) (λ_=>rfl) _) hno
       ri:=by
        have hri:=hR.out.ri
        rw [HSM.out.len] at hri
        have:=Ut hri O.length (.int .i64 1)
        have e1:(I++[1]).length=s.often.length:=yan
        show World.ownsRow _ 0 _ 1 _ (I++[1]).length ((I++[1]).map zkw)
        rw [e1]
        rw [hII] at this
        rw [List.map_append] at this
        simpa [<-hlI] using this
       ne:=hR.out.ne,lo:=hR.out.lo,li:=hR.out.li
       low:=hR.out.low.setCell (p:=⟨ig,O.length,none⟩) hR.out.li _}
      clear hu hcs hno
      go_wp2
      go_roundw
      case rel=>exact ⟨i+1,{s with blocks:=s.blocks+q,outs:=0,inner:=true,inn:=I++[1]},og,oc,ig,ic,by omega,HN2.out,by rw [hw1],rfl,rfl,by rw [<-hlO],by rw [<-hlO],rfl,by go_num,HR2⟩
      case measure=>simp [intOf];omega
     ·have m40:((kd:Int)==40)=false:=by simp;omega
      by_cases e41:kd=41
      ·subst e41
       have HN2:Hid (cAt nks (i+1)={s with inner:=false}):=hid HN.out
       go_wp2
       go_roundw
       case rel=>exact ⟨i+1,{s with inner:=false},og,oc,ig,ic,by omega,HN2.out,rfl,rfl,rfl,by rw [<-hlO],by rw [<-hlO],rfl,by go_num,hid ⟨hR.out.ro,hR.out.ri,hR.out.ne,hR.out.lo,hR.out.li,hR.out.low⟩⟩
       case measure=>simp [intOf];omega
      ·have m41:((kd:Int)==41)=false:=by simp;omega
       by_cases e111:kd=111
       ·subst e111
        cases hin:s.inner with
        |false=>
         have HN2:Hid (cAt nks (i+1)=s):=hid (by rw [HN.out];simp [Js,hin])
         go_wp2
         go_roundw
         case rel=>exact ⟨i+1,s,og,oc,ig,ic,by omega,HN2.out,rfl,rfl,rfl,by rw [<-hlO],by rw [<-hlO],by rw [hin],by go_num,hR⟩
         case measure=>simp [intOf];omega
        |true=>
         have hcs:Js s (111,nn)={s with outs:=s.outs+r,most:=if s.most<s.outs+r then s.outs+r else s.most}:=by simp [Js,hin,hII]
         have hu:=HSM2.out.u
         rw [hcs] at hu
         have hw1:wrap64 (s.outs+r)=s.outs+r:=by
          have h1:s.outs+r<=1000000:=hu.2
          have h0:0<=s.outs+r:=hu.1
          unfold wrap64
          omega
         by_cases hgt:s.most<s.outs+r
         ·have HN2:Hid (cAt nks (i+1)={s with outs:=s.outs+r,most:=s.outs+r}):=hid (by rw [HN.out,hcs,if_pos hgt])
          clear hu hcs
          go_wp2
          go_roundw
          case rel=>exact ⟨i+1,{s with outs:=s.outs+r,most:=s.outs+r},og,oc,ig,ic,by omega,HN2.out,rfl,by rw [hw1],by rw [hw1],by rw [<-hlO],by rw [<-hlO],by rw [hin],by go_num,hid ⟨hR.out.ro,hR.out.ri,hR.out.ne,hR.out.lo,hR.out.li,hR.out.low⟩⟩
          case measure=>simp [intOf];omega
         ·have HN2:Hid (cAt nks (i+1)={s with outs:=s.outs+r}):=hid (by rw [HN.out,hcs,if_neg hgt])
          clear hu hcs
          go_wp2
          go_roundw
          case rel=>exact ⟨i+1,{s with outs:=s.outs+r},og,oc,ig,ic,by omega,HN2.out,rfl,by rw [hw1],rfl,by rw [<-hlO],by rw [<-hlO],by rw [hin],by go_num,hid ⟨hR.out.ro,hR.out.ri,hR.out.ne,hR.out.lo,hR.out.li,hR.out.low⟩⟩
          case measure=>simp [intOf];omega
       ·have m111:((kd:Int)==111)=false:=by simp;omega
        have HN2:Hid (cAt nks (i+1)=s):=hid (by rw [HN.out];simp [Js,e108,e98,e40,e41,e111])
        go_wp2
        go_roundw
        case rel=>exact ⟨i+1,s,og,oc,ig,ic,by omega,HN2.out,rfl,rfl,rfl,by rw [<-hlO],by rw [<-hlO],rfl,by go_num,hR⟩
        case measure=>simp [intOf];omega
  ·have hlt': ¬(i:Int)<(nks.length:Int):=by omega
   have hie:i=nks.length:=yai
   subst hie
   subst hs
   go_wp2
   go_ret2
   exact ⟨rfl,hR.out.low⟩
end
structure CB(m d:Nat)(s:CS):Prop where
 lo:s.often.length=d
 li:s.inn.length=d
 d1:1<=d
 d4:d<=4
 o: ∀(j:Nat) v,s.often[j]?=some v->0<=v/\v<=4^j
 i: ∀(j:Nat) v,s.inn[j]?=some v->0<=v/\v<=4^j
 b:0<=s.blocks/\s.blocks<=64*m
 u:0<=s.outs/\s.outs<=64*m
 t:0<=s.most/\s.most<=64*m
section
variable{m d:Nat}{s:CS}{hs:List Hd}{x:Cx}
theorem zm4{j:Nat}(h:j<4):(4:Int)^j<=64:=by
 match j,h with
 |0,_=>decide
 |1,_=>decide
 |2,_=>decide
 |3,_=>decide
theorem zgv{l:List Int}(hl:l.length=d)(h1:1<=d)(h4:d<=4)(h: ∀(j:Nat) v,l[j]?=some v->0<=v/\v<=4^j):0<=(l.getLast?).getD 0/\(l.getLast?).getD 0<=4^(d- 1):=by
 have hlt:d- 1<l.length:=yai
 have e:l.getLast?=some (l[d- 1]'hlt):=by rw [List.getLast?_eq_getElem?,hl,List.getElem?_eq_getElem hlt]
 rw [e]
 exact h (d- 1) _ (List.getElem?_eq_getElem hlt)
theorem CB.small(h:CB m d s)(hm:m<=15000):zec s:=by
 have big: ∀(l:List Int),l.length=d->(∀(j:Nat) v,l[j]?=some v->0<=v/\v<=4^j)->∀v∈l,0<=v/\v<=1000000:=by
  intro l hl hb v hv
  obtain ⟨j,hj⟩:=List.mem_iff_getElem?.1 hv
  have hlt:=(List.getElem?_eq_some_iff.1 hj).1
  have h4:=h.d4
  have:=zm4 (j:=j) yai
  have:=hb j v hj
  omega
 have h1:=h.d1
 have h4:=h.d4
 have hb:=h.b
 have hu:=h.u
 have ht:=h.t
 exact ⟨λe=>by have:=h.lo;rw [e] at this;simp at this;omega,h.li.trans h.lo.symm,by have:=h.lo;omega,big _ h.lo h.o,big _ h.li h.i,⟨hb.1,by omega⟩,⟨hu.1,by omega⟩,⟨ht.1,by omega⟩⟩
theorem CB.more(h:CB m d s):CB (m+1) d s:=by
 have hb:=h.b
 have hu:=h.u
 have ht:=h.t
 exact ⟨h.lo,h.li,h.d1,h.d4,h.o,h.i,⟨hb.1,by omega⟩,⟨hu.1,by omega⟩,⟨ht.1,by omega⟩⟩
theorem CB.push(h:CB m d s)(h3:d<=3){n:Int}(hn:1<=n/\n<=4):CB (m+1) (d+1) (Js s (108,n)):=by
 have e1:=zgv h.lo h.d1 h.d4 h.o
 have e2:=zgv h.li h.d1 h.d4 h.i
 have h1:=h.d1
 have h4:=h.d4
 have hp:(4:Int)^d=4^(d- 1)*4:=by
  have:d=d- 1+1:=yai
  rw [this,Int.pow_succ]
  simp
 have hpos:(0:Int)<=4^(d- 1):=Int.le_trans e1.1 e1.2
 have hmul: ∀v:Int,0<=v->v<=4^(d- 1)->0<=v*n/\v*n<=4^d:=by
  intro v h0 hle
  refine ⟨Int.mul_nonneg h0 yai,?_⟩
  rw [hp]
  exact Int.mul_le_mul hle hn.2 yai hpos
 have hm:=h.more
 have grow: ∀(l:List Int) (v:Int),l.length=d->(∀(j:Nat) u,l[j]?=some u->0<=u/\u<=4^j)->0<=v/\v<=4^d->∀(j:Nat) u,(l++[v])[j]?=some u->0<=u/\u<=4^j:=by
  intro l v hl hb hv j u hu
  by_cases e:j<l.length
  ·rw [List.getElem?_append_left e] at hu
   exact hb j u hu
  ·have hlt:=(List.getElem?_eq_some_iff.1 hu).1
   simp at hlt
   have ej:j=l.length:=yai
   subst ej
   simp at hu
   subst hu
   rw [hl]
   exact hv
 have hin:0<=(if s.inner=true then (s.inn.getLast?).getD 0*n else 1)/\(if s.inner=true then (s.inn.getLast?).getD 0*n else 1)<=4^d:=by
  split
  ·exact hmul _ e2.1 e2.2
  ·refine ⟨by omega,?_⟩
   have:d=d- 1+1:=yai
   match d,h1,h3 with
   |1,_,_=>decide
   |2,_,_=>decide
   |3,_,_=>decide
 have hst:Js s (108,n)={s with often:=s.often++[(s.often.getLast?).getD 0*n],inn:=s.inn++[if s.inner=true then (s.inn.getLast?).getD 0*n else 1]}:=rfl
 rw [hst]
 exact ⟨by simp [h.lo],by simp [h.li],by omega,by omega,grow _ _ h.lo h.o (hmul _ e1.1 e1.2),grow _ _ h.li h.i hin,hm.b,hm.u,hm.t⟩
theorem CB.pop(h:CB m (d+1) s)(hd:1<=d)(n:Int):CB (m+1) d (Js s (98,n)):=by
 have hm:=h.more
 have h4:=h.d4
 have hst:Js s (98,n)={s with often:=s.often.dropLast,inn:=s.inn.dropLast}:=rfl
 have cut: ∀(l:List Int),(∀(j:Nat) u,l[j]?=some u->0<=u/\u<=4^j)->∀(j:Nat) u,l.dropLast[j]?=some u->0<=u/\u<=4^j:=by
  intro l hb j u hu
  rw [List.dropLast_eq_take,List.getElem?_take] at hu
  split at hu
  ·exact hb j u hu
  ·simp at hu
 rw [hst]
 exact ⟨by simp [h.lo],by simp [h.li],hd,by omega,cut _ h.o,cut _ h.i,hm.b,hm.u,hm.t⟩
theorem CB.stay(h:CB m d s){k:Nat}(n:Int)(h1:k≠108)(h2:k≠98):CB (m+1) d (Js s (k,n)):=by
 have hm:=h.more
 have e1:=zgv h.lo h.d1 h.d4 h.o
 have e2:=zgv h.li h.d1 h.d4 h.i
 have hd1:=h.d1
 have hd4:=h.d4
 have hp:=zm4 (j:=d- 1) yai
 have hb:=h.b
 have hu:=h.u
 have ht:=h.t
 unfold Js
 simp only [h1,h2,if_false]
 by_cases e40:k=40
 ·simp only [e40,if_true]
  refine ⟨h.lo,?_,h.d1,h.d4,h.o,?_,?_,?_,hm.t⟩
  ·show (s.inn.dropLast++[1]).length=d
   simp [h.li]
   omega
  ·intro j u hj
   have hj':(s.inn.dropLast++[(1:Int)])[j]?=some u:=hj
   by_cases e:j<s.inn.dropLast.length
   ·rw [List.getElem?_append_left e,List.dropLast_eq_take,List.getElem?_take] at hj'
    split at hj'
    ·exact h.i j u hj'
    ·simp at hj'
   ·have hlt:=(List.getElem?_eq_some_iff.1 hj').1
    simp at hlt e
    have ej:j=s.inn.dropLast.length:=yan
    subst ej
    simp at hj'
    subst hj'
    refine ⟨by omega,?_⟩
    have hl:s.inn.dropLast.length=d- 1:=by simp [h.li]
    rw [hl]
    match d,hd1,hd4 with
    |1,_,_=>decide
    |2,_,_=>decide
    |3,_,_=>decide
    |4,_,_=>decide
  ·show 0<=s.blocks+(s.often.getLast?).getD 0/\s.blocks+(s.often.getLast?).getD 0<=64*((m+1:Nat):Int)
   omega
  ·show (0:Int)<=0/\(0:Int)<=64*((m+1:Nat):Int)
   omega
 ·simp only [e40,if_false]
  by_cases e41:k=41
  ·simp only [e41,if_true]
   exact ⟨h.lo,h.li,h.d1,h.d4,h.o,h.i,hm.b,hm.u,hm.t⟩
  ·simp only [e41,if_false]
   by_cases e111:k=111
   ·simp only [e111,if_true]
    split
    ·refine ⟨h.lo,h.li,h.d1,h.d4,h.o,h.i,hm.b,?_,?_⟩
     ·show 0<=s.outs+(s.inn.getLast?).getD 0/\s.outs+(s.inn.getLast?).getD 0<=64*((m+1:Nat):Int)
      omega
     ·show 0<=(if s.most<s.outs+(s.inn.getLast?).getD 0 then s.outs+(s.inn.getLast?).getD 0 else s.most)/\(if s.most<s.outs+(s.inn.getLast?).getD 0 then s.outs+(s.inn.getLast?).getD 0 else s.most)<=64*((m+1:Nat):Int)
      split<;>omega
    ·exact hm
   ·simp only [e111,if_false]
    exact hm
end
def Pre(m d:Nat)(s:CS)(L:List NK):Prop:=(∀i,i<=L.length->∃k,CB (m+i) k ((L.take i).foldl Js s))/\CB (m+L.length) d (L.foldl Js s)
theorem Pre.nil{s:CS}(h:CB m d s):Pre m d s []:=⟨λi hi=>by
 have:i=0:=ybk
 subst this
 exact ⟨d,h⟩,h⟩
theorem Pre.one{s:CS}{k:NK}(h:CB m d s)(h':CB (m+1) d' (Js s k)):Pre m d' s [k]:=⟨λi hi=>by
 have:i=0\/i=1:=ybj
 rcases this with rfl|rfl
 ·exact ⟨d,h⟩
 ·exact ⟨d',h'⟩,h'⟩
theorem Pre.app{s:CS}{A B:List NK}(hA:Pre m d s A)(hB:Pre (m+A.length) d' (A.foldl Js s) B):Pre m d' s (A++B):=by
 refine ⟨λi hi=>?_,?_⟩
 ·by_cases h:i<=A.length
  ·rw [List.take_append_of_le_length h]
   exact hA.1 i h
  ·obtain ⟨k,hk⟩:=hB.1 (i- A.length) ybj
   refine ⟨k,?_⟩
   have e:(A++B).take i=A++B.take (i- A.length):=by
    rw [List.take_append,List.take_of_length_le yai]
   rw [e,List.foldl_append]
   rwa [show m+A.length+(i- A.length)=m+i by omega] at hk
 ·rw [List.foldl_append]
  have:=hB.2
  rwa [show m+A.length+B.length=m+(A++B).length by simp;omega] at this
section
variable{hs:List Hd}{x:Cx}
theorem zw9(st:St):kL st≠108/\kL st≠98:=by
 rcases st with ⟨to,a⟩|⟨to,o,a,d⟩|⟨to,f,a⟩|⟨f,a,v⟩|a|⟨⟩|a|n<;>exact ⟨by simp [kL],by simp [kL]⟩
theorem za8(f:Nat)(b:Bool)(ih: ∀e,enW hs x f b e->∀m d s,CB m d s->d+f<=4->Pre m d s (lin hs f e)): ∀(es:List En),(∀e∈es,enW hs x f b e)->∀m d s,CB m d s->d+f<=4->Pre m d s (es.flatMap (lin hs f))
 |[],_,_,_,_,h,_=>Pre.nil h
 |e::l,he,m,d,s,h,hd=>by
  have h1:=ih e (he e yaj) m d s h hd
  have h2:=za8 f b ih l (λe' h'=>he e' (List.mem_cons_of_mem _ h')) _ d _ h1.2 hd
  rw [List.flatMap_cons]
  exact h1.app h2
theorem zgw: ∀(f:Nat) (b:Bool) (e:En),enW hs x f b e->∀m d s,CB m d s->d+f<=4->Pre m d s (lin hs f e)
 |0,_, .inl st,_,m,d,s,h,_=>Pre.one h (h.stay 0 (zw9 st).1 (zw9 st).2)
 |0,_, .inr _,he,_,_,_,_,_=>he.elim
 |f+1,_, .inl st,_,m,d,s,h,_=>Pre.one h (h.stay 0 (zw9 st).1 (zw9 st).2)
 |f+1,b, .inr j,he,m,d,s,h,hd=>by
  obtain ⟨es,_,he⟩:=he
  have hd1:=h.d1
  rcases he with ⟨hj,_,he⟩|⟨a,hj,_,he⟩|⟨n,hj,hn,he⟩
  ·have e0:lin hs (f+1) (.inr j)=[(40,0)]++(es.flatMap (lin hs f)++[(41,0)]):=by simp only [lin,hj];rfl
   rw [e0]
   have h1:=h.stay (k:=40) 0 yal yal
   have h2:=za8 f true (zgw f true) es he _ d _ h1 yai
   exact (Pre.one h h1).app (h2.app (Pre.one h2.2 (h2.2.stay 0 yal yal)))
  ·have e0:lin hs (f+1) (.inr j)=[(122,0)]++(es.flatMap (lin hs f)++[]):=by simp only [lin,hj];rfl
   rw [e0]
   have h1:=h.stay (k:=122) 0 yal yal
   have h2:=za8 f b (zgw f b) es he _ d _ h1 yai
   exact (Pre.one h h1).app (h2.app (Pre.nil h2.2))
  ·have e0:lin hs (f+1) (.inr j)=[(108,n)]++(es.flatMap (lin hs f)++[(98,0)]):=by simp only [lin,hj];rfl
   rw [e0]
   have h1:=h.push yai hn
   have h2:=za8 f b (zgw f b) es he _ (d+1) _ h1 yai
   exact (Pre.one h h1).app (h2.app (Pre.one h2.2 (h2.2.pop hd1 0)))
theorem zs3: ∀(f:Nat) (e:En),(lin hs f e).length<=2*wE hs f e
 |0, .inl _=>by show 1<=2*1;omega
 |0, .inr _=>Nat.zero_le _
 |f+1, .inl _=>by
  show 1<=2*(1+_)
  omega
 |f+1, .inr j=>by
  have key: ∀l:List En,(l.flatMap (lin hs f)).length<=2*(l.map (wE hs f)).sum:=by
   intro l
   induction l with
   |nil=>simp
   |cons e r ih=>
    have:=zs3 f e
    simp only [List.flatMap_cons,List.length_append,List.map_cons,List.sum_cons]
    omega
  have hk: ∀s:St,(zb3 s).length+(z0z s).length<=2:=by
   intro s
   rcases s with ⟨to,a⟩|⟨to,o,a,d⟩|⟨to,f,a⟩|⟨f,a,v⟩|a|⟨⟩|a|n<;>simp [zb3,z0z]
  simp only [lin,wE]
  cases hj:hs[j]? with
  |none=>simp
  |some y=>
   obtain ⟨k,es⟩:=y
   cases k with
   |inl p=>simp
   |inr s=>
    have h1:=key es
    have h2:=hk s
    simp only [Jb,hj,List.length_append]
    omega
theorem zif{es:List En}(he: ∀e∈es,enW hs x 3 false e)(hw:(es.map (wE hs 3)).sum<=14):(es.flatMap (lin hs 3)).length<=28/\ ∀i,i<=(es.flatMap (lin hs 3)).length->zec (cAt (es.flatMap (lin hs 3)) i):=by
 have hlen:(es.flatMap (lin hs 3)).length<=2*(es.map (wE hs 3)).sum:=by
  clear he hw
  induction es with
  |nil=>simp
  |cons e r ih=>
   have:=zs3 (hs:=hs) 3 e
   simp only [List.flatMap_cons,List.length_append,List.map_cons,List.sum_cons]
   omega
 have h0:CB 0 1 ⟨0,0,0,[1],[1],false⟩:=by
  have h1: ∀(j:Nat) (v:Int),[(1:Int)][j]?=some v->0<=v/\v<=4^j:=by
   intro j v hv
   have hlt:=(List.getElem?_eq_some_iff.1 hv).1
   have:j=0:=by simpa using hlt
   subst this
   simp at hv
   subst hv
   decide
  exact ⟨rfl,rfl,by omega,by omega,h1,h1,⟨by decide,by decide⟩,⟨by decide,by decide⟩,⟨by decide,by decide⟩⟩
 have hp:=za8 (hs:=hs) (x:=x) 3 false (zgw 3 false) es he 0 1 _ h0 yai
 refine ⟨by omega,λi hi=>?_⟩
 obtain ⟨k,hk⟩:=hp.1 i hi
 exact hk.small yai
end
theorem Qo{u:ByteArray}{l:List UInt8}(h:u≠⟨l.toArray⟩):(u.toList==l)=false:=by
 have:=Oz h
 rwa [ByteArray.toList_eq ⟨l.toArray⟩] at this
section
variable(w:World)(u:ByteArray)
theorem zo6(hm:u.size<1000000)(hd:Hid (∀j (h:j<u.size),97<=u[j].toNat/\u[j].toNat<=122))(hb:(decide (0<u.size)&&decide (u.size<=6))=b):
  Cl 18 #[.string u] w λe w'=>e= .returned (.bool b)/\w'=w:=by
 have HB:=hid hb
 clear hb
 go_enter Tryz.func18,Tryz.ntmps18
 go_wp2
 go_loopw [3] (λv wr=>∃k:Nat,k<=u.size/\v= .int .i64 k/\wr=w) (λv _=>u.size- (intOf v).toNat)
 case atStart=>exact ⟨0,by omega,rfl,rfl⟩
 case round=>
  obtain ⟨k,hk,rfl,rfl⟩:=hrel
  by_cases hlt:k<u.size
  ·exact z79
  ·have hlt': ¬(k:Int)<(u.size:Int):=by omega
   by_cases h0:0<u.size
   ·have h0':(0:Int)<(u.size:Int):=by omega
    by_cases h6:u.size<=6
    ·have h6':(u.size:Int)<=6:=by omega
     have HB2:Hid (b=true):=hid (by rw [<-HB.out];simp [h0,h6])
     go_wp2
     go_ret
     exact ⟨by simp [HB2.out],rfl⟩
    ·have h6': ¬(u.size:Int)<=6:=by omega
     have HB2:Hid (b=false):=hid (by rw [<-HB.out];simp [h6])
     go_wp2
     go_ret
     exact ⟨by simp [HB2.out],rfl⟩
   ·have h0': ¬(0:Int)<(u.size:Int):=by omega
    have HB2:Hid (b=false):=hid (by rw [<-HB.out];simp [h0])
    go_wp2
    go_ret
    exact ⟨by simp [HB2.out],rfl⟩
theorem zs6(hm:u.size<1000000)(k0:Nat)(hk0:k0<u.size)(hb:u[k0].toNat<97\/122<u[k0].toNat)(hd:Hid (∀j (h:j<u.size),j<k0->97<=u[j].toNat/\u[j].toNat<=122)):
  Cl 18 #[.string u] w λe w'=>e= .returned (.bool false)/\w'=w:=by
 go_enter Tryz.func18,Tryz.ntmps18
 go_wp2
 go_loopw [3] (λv wr=>∃k:Nat,k<=k0/\v= .int .i64 k/\wr=w) (λv _=>u.size- (intOf v).toNat)
 case atStart=>exact ⟨0,by omega,rfl,rfl⟩
 case round=>exact z7s
theorem Vs(hm:u.size<1000000):Cl 18 #[.string u] w λe w'=>e= .returned (.bool (Vo u))/\w'=w:=by
 cases ha:u.data.toList.all small with
 |true=>
  refine zo6 w u hm (hid (zl0 ha)) ?_
  unfold Vo
  rw [ha]
  simp
 |false=>
  obtain ⟨k,hk,hb,hd⟩:=zl1 ha
  have e:Vo u=false:=by unfold Vo;rw [ha];simp
  rw [e]
  exact zs6 w u hm k hk hb (hid hd)
def isAt(u:ByteArray):Bool:=Vo u||(Qk u).isSome
theorem zs7(x y b:Bool)(n:Int)(hb:(x||y)=b)(K1:Hid (Cl 18 #[.string u] w λe w'=>e= .returned (.bool x)/\w'=w))(K2:Hid (Cl 41 #[.string u] w λe w'=>e= .returned (.tuple #[.int .i64 n, .bool y])/\w'=w)):
  Cl 19 #[.string u] w λe w'=>e= .returned (.bool b)/\w'=w:=by
 subst hb
 cases x
 ·exact z8v
 ·exact z8v
theorem Xb(hm:u.size<1000000):Cl 19 #[.string u] w λe w'=>e= .returned (.bool (isAt u))/\w'=w:=by
 have K2:=Ym w u
 cases hn:Qk u with
 |none=>
  rw [Vy hn] at K2
  exact zs7 w u (Vo u) false _ 0 (by simp [isAt,hn]) (hid (Vs w u hm)) (hid K2)
 |some n=>
  rw [Yj hn] at K2
  exact zs7 w u (Vo u) true _ n (by simp [isAt,hn]) (hid (Vs w u hm)) (hid K2)
def Sx(m:Int)(u:ByteArray):Bool:=match Qk u with
 |some n=>decide (1<=n)&&decide (n<=m)
 |none=>false
theorem zo7(m:Int)(K2:Hid (Cl 41 #[.string u] w λe w'=>e= .returned (.tuple #[.int .i64 0, .bool false])/\w'=w)):
  Cl 20 #[.string u, .int .i64 m] w λe w'=>e= .returned (.bool false)/\w'=w:=by
 go_enter Tryz.func20,Tryz.ntmps20
 go_wp2_with fail
 refine K2.out.mono ?_
 rintro e w1 ⟨rfl,rfl⟩
 go_wp2
 go_ret
 exact ⟨rfl,rfl⟩
theorem zk7(m n:Int)(h1: ¬1<=n)(K2:Hid (Cl 41 #[.string u] w λe w'=>e= .returned (.tuple #[.int .i64 n, .bool true])/\w'=w)):
  Cl 20 #[.string u, .int .i64 m] w λe w'=>e= .returned (.bool false)/\w'=w:=by
 go_enter Tryz.func20,Tryz.ntmps20
 go_wp2_with fail
 refine K2.out.mono ?_
 rintro e w1 ⟨rfl,rfl⟩
 go_wp2
 go_ret
 exact ⟨by simp,rfl⟩
theorem zo8(m n:Int)(h1:1<=n)(h2:decide (n<=m)=b)(K2:Hid (Cl 41 #[.string u] w λe w'=>e= .returned (.tuple #[.int .i64 n, .bool true])/\w'=w)):
  Cl 20 #[.string u, .int .i64 m] w λe w'=>e= .returned (.bool b)/\w'=w:=by
 have H2:=hid h2
 clear h2
 go_enter Tryz.func20,Tryz.ntmps20
 go_wp2_with fail
 refine K2.out.mono ?_
 rintro e w1 ⟨rfl,rfl⟩
 go_wp2
 go_ret
 exact ⟨by rw [<-H2.out];rfl,rfl⟩
theorem Zq(m:Int):Cl 20 #[.string u, .int .i64 m] w λe w'=>e= .returned (.bool (Sx m u))/\w'=w:=by
 have K2:=Ym w u
 unfold Sx
 cases hn:Qk u with
 |none=>
  rw [Vy hn] at K2
  exact zo7 w u m (hid K2)
 |some n=>
  rw [Yj hn] at K2
  dsimp only
  by_cases h1:1<=n
  ·exact zo8 w u m n h1 (by simp [h1]) (hid K2)
  ·rw [show (decide (1<=n)&&decide (n<=m))=false by simp [h1]]
   exact zk7 w u m n h1 (hid K2)
def zbc:List ByteArray:=[⟨#[43]⟩,⟨#[45]⟩,⟨#[42]⟩,⟨#[47]⟩,⟨#[37]⟩,⟨#[38]⟩,⟨#[124]⟩,⟨#[94]⟩,⟨#[60,60]⟩,⟨#[62,62]⟩,⟨#[60]⟩,⟨#[61,61]⟩]
theorem zij:Cl 21 #[] w λe w'=>e= .returned (.slice (some ⟨w.heap.size,0,none⟩) 12 12)/\StrsAt w' w.heap.size zbc/\Below w.heap.size w w':=by
 go_enter Tryz.func21,Tryz.ntmps21
 go_wp2
 go_ret
 refine ⟨rfl,λj hj=>?_,(Below.refl _ w).alloc (Nat.le_refl _) _⟩
 rw [World.cell?_alloc_new]
 have:j<12:=hj
 match j,this with
 |0,_=>rfl
 |1,_=>rfl
 |2,_=>rfl
 |3,_=>rfl
 |4,_=>rfl
 |5,_=>rfl
 |6,_=>rfl
 |7,_=>rfl
 |8,_=>rfl
 |9,_=>rfl
 |10,_=>rfl
 |11,_=>rfl
end
section
variable{w:World}{bw cap:Nat}{v x y z:ByteArray}
theorem zeh{w1:World}(hs:StrsAt w1 g zbc)(y:ByteArray):
  Cl 22 #[.slice (some ⟨g,0,none⟩) 12 12, .string y] w1 λe w'=>e= .returned (.int .i64 (match Uj y with|some k=>(k:Int)|none=>-1))/\w'=w1:=by
 have e0:Uj y=zbc.findIdx? (·==y):=rfl
 cases hk:Uj y with
 |none=>
  rw [e0] at hk
  have hno:=List.findIdx?_eq_none_iff.1 hk
  exact Ga w1 g 12 zbc y yal (hid hs) (hid λj hj=>by
   have:=hno zbc[j] (List.getElem_mem hj)
   simpa [zmq] using this)
 |some k=>
  rw [e0] at hk
  obtain ⟨hlt,hp,hbef⟩:=List.findIdx?_eq_some_iff_getElem.1 hk
  exact Ou w1 g 12 zbc y yal (hid hs) k hlt (hid λj hj=>by
   have:=hbef j hj
   simpa [zmq] using this) (hid (by simpa [zmq] using hp))
theorem zs8{a t e:Bool}{kk:Int}(hbw:bw<w.heap.size)(c0:w.cell? ⟨bw,0,none⟩=some (.string ⟨#[115,101,116]⟩))(c1:w.cell? ⟨bw,1,none⟩=some (.string v))(z1:v.size<1000000)(c2:w.cell? ⟨bw,2,none⟩=some (.string x))(z2:x.size<1000000)(c3:w.cell? ⟨bw,3,none⟩=some (.string y))(c4:w.cell? ⟨bw,4,none⟩=some (.string z))(z4:z.size<1000000)
  (ha:Vo v=a) (hb:isAt x=b) (he:isAt z=e) (ht:(y.toList==[97,116])=t) (hkk:(match Uj y with|some k=>(k:Int)|none=>-1)=kk):
  Cl 11 #[.slice (some ⟨bw,0,none⟩) 5 cap] w λr w'=>r= .returned (.bool (a&&(b&&(decide (0<=kk)&&e))))/\Below w.heap.size w w':=by
 have KN:=hid Vs
 have KA:=hid Xb
 have KP:=hid (λ(w1:World) (g:Nat) (hs:StrsAt w1 g zbc)=>zeh hs y)
 have KQ:Hid (∀w1,Below w.heap.size w w1->w1.cell? ⟨bw,3,none⟩=some (.string y)/\w1.cell? ⟨bw,4,none⟩=some (.string z)):=hid λw1 h=>⟨(h.cell (p:=⟨bw,3,none⟩) hbw).trans c3,(h.cell (p:=⟨bw,4,none⟩) hbw).trans c4⟩
 rw [hkk] at KP
 have KS:=hid zij
 clear hkk
 by_cases h0:0<=kk
 ·rw [show decide (0<=kk)=true by simp [h0]]
  have h0': ¬kk<0:=yai
  cases a<;>cases b<;>cases t<;>cases e
  all_goals
   go_enter Tryz.func11,Tryz.ntmps11
   go_wp2_with (first
    |(go_at_call 18;refine (KN.out _ _ yaq).mono ?_;rintro e w' ⟨rfl,rfl⟩)
    |(go_at_call 19;refine (KA.out _ _ yaq).mono ?_;rintro e w' ⟨rfl,rfl⟩)
    |(go_at_call 21;refine (KS.out _).mono ?_;rintro e w5 ⟨rfl,hs5,hb5⟩;have HS5:=hid hs5;have HB5:=hid hb5;obtain ⟨d3,d4⟩:=KQ.out _ hb5;clear hs5 hb5)
    |(go_at_call 22;refine (KP.out _ _ HS5.out).mono ?_;rintro e w' ⟨rfl,rfl⟩))
   go_ret
   exact ⟨rfl,HB5.out⟩
 ·rw [show decide (0<=kk)=false by simp [h0]]
  cases a<;>cases b<;>cases t
  all_goals
   go_enter Tryz.func11,Tryz.ntmps11
   go_wp2_with (first
    |(go_at_call 18;refine (KN.out _ _ yaq).mono ?_;rintro e w' ⟨rfl,rfl⟩)
    |(go_at_call 19;refine (KA.out _ _ yaq).mono ?_;rintro e w' ⟨rfl,rfl⟩)
    |(go_at_call 21;refine (KS.out _).mono ?_;rintro e w5 ⟨rfl,hs5,hb5⟩;have HS5:=hid hs5;have HB5:=hid hb5;obtain ⟨d3,d4⟩:=KQ.out _ hb5;clear hs5 hb5)
    |(go_at_call 22;refine (KP.out _ _ HS5.out).mono ?_;rintro e w' ⟨rfl,rfl⟩))
   go_ret
   exact ⟨rfl,HB5.out⟩
end
end Go.Proofs.YtphcopbffecceaaGreatDoor
