import Derived.Test.YtkenoofmkbghiaaGreatDoorO28
import Derived.Test.YtkenoofmkbghiaaGreatDoorO29
namespace Go.Proofs.YtkenoofmkbghiaaGreatDoor
open Go.RowKit
variable{hs hs':List Hd}{P:Nat->Prop}{d d' ic ig k m oc og:Nat}{s s0:St}{w wr:World}{ps:List Nat}
abbrev NK:=Nat×Int
def kL:St->Nat
 | .inl _=>115
 | .inr (.inl _)=>115
 | .inr (.inr (.inl _))=>103
 | .inr (.inr (.inr (.inl _)))=>112
 |_=>111
def zb3:St->List NK
 | .inr (.inr (.inr (.inr (.inr (.inl _)))))=>[(40,0)]
 | .inr (.inr (.inr (.inr (.inr (.inr (.inl _))))))=>[(122,0)]
 | .inr (.inr (.inr (.inr (.inr (.inr (.inr n))))))=>[(108,n)]
 |_=>[]
def z0z:St->List NK
 | .inr (.inr (.inr (.inr (.inr (.inl _)))))=>[(41,0)]
 | .inr (.inr (.inr (.inr (.inr (.inr (.inr _))))))=>[(98,0)]
 |_=>[]
def lin(hs:List Hd):Nat->En->List NK
 |_, .inl s=>[(kL s,0)]
 |0, .inr _=>[]
 |f+1, .inr j=>match hs[j]? with
  |some ⟨.inr s,es⟩=>zb3 s++(es.flatMap (lin hs f)++z0z s)
  |_=>[]
structure CS where
 blocks:Int
 outs:Int
 most:Int
 often:List Int
 inn:List Int
 inner:Bool
def Js(s:CS)(k:NK):CS:=
 if k.1=108 then {s with often:=s.often++[(s.often.getLast?).getD 0*k.2],inn:=s.inn++[if s.inner=true then (s.inn.getLast?).getD 0*k.2 else 1]}
 else if k.1=98 then {s with often:=s.often.dropLast,inn:=s.inn.dropLast}
 else if k.1=40 then {s with blocks:=s.blocks+(s.often.getLast?).getD 0,outs:=0,inner:=true,inn:=s.inn.dropLast++[1]}
 else if k.1=41 then {s with inner:=false}
 else if k.1=111 then (if s.inner=true then {s with outs:=s.outs+(s.inn.getLast?).getD 0,most:=if s.most<s.outs+(s.inn.getLast?).getD 0 then s.outs+(s.inn.getLast?).getD 0 else s.most} else s)
 else s
section
variable{hs:List Hd}{x:Cx}
end
section
variable{hs:List Hd}{x:Cx}
def mx(hs:List Hd):Nat->En->Int
 |0,_=>0
 |_+1, .inl _=>0
 |f+1, .inr j=>match hs[j]? with
  |some ⟨.inr s,es⟩=>if HK.isAtomic (.st s)=true then (es.map (Zn hs kdO f)).sum else (es.map (mx hs f)).foldl max 0
  |_=>0
end
structure zec(s:CS):Prop where
 ne:s.often≠[]
 len:s.inn.length=s.often.length
 l5:s.often.length<=5
 o: ∀v∈s.often,0<=v/\v<=1000000
 i: ∀v∈s.inn,0<=v/\v<=1000000
 b:0<=s.blocks/\s.blocks<=1000000
 u:0<=s.outs/\s.outs<=1000000
 m:0<=s.most/\s.most<=1000000
abbrev zkw(v:Int):Value:= .int .i64 v
structure CRow(w wr:World)(og oc ig ic:Nat)(s:CS):Prop where
 ro:wr.ownsRow 0 3 1 (.slice (some ⟨og,0,none⟩) s.often.length oc) s.often.length (s.often.map zkw)
 ri:wr.ownsRow 0 3 1 (.slice (some ⟨ig,0,none⟩) s.often.length ic) s.inn.length (s.inn.map zkw)
 ne:og≠ig
 lo:w.heap.size<=og
 li:w.heap.size<=ig
 low:Below w.heap.size w wr
structure TwoR(w wr:World)(og oc:Nat)(xs:List Int)(ig ic:Nat)(ys:List Int):Prop where
 ro:wr.ownsRow 0 3 1 (.slice (some ⟨og,0,none⟩) xs.length oc) xs.length (xs.map zkw)
 ri:wr.ownsRow 0 3 1 (.slice (some ⟨ig,0,none⟩) ys.length ic) ys.length (ys.map zkw)
 ne:og≠ig
 lo:w.heap.size<=og
 li:w.heap.size<=ig
 low:Below w.heap.size w wr
theorem TwoR.push{X w3:World}{g3 c3:Nat}{xs ys:List Int}{v:Int}(h:TwoR w wr og oc xs ig ic ys)(hX:Below wr.heap.size wr X)
  (ho:w3.ownsRow 0 3 1 (.slice (some ⟨g3,0,none⟩) (xs.length+1) c3) (xs.length+1) (xs.map zkw++[zkw v])) (hch:Chg (λk _=>(Value.slice (some ⟨og,0,none⟩) xs.length oc).ownBlock=some k) X w3) (hg:(Value.slice (some ⟨og,0,none⟩) xs.length oc).ownBlock=some g3\/g3=X.heap.size):TwoR w w3 g3 c3 (xs++[v]) ig ic ys:=by
 have hlt:=(h.ri.lt ig rfl).2
 have hs:=hX.size
 have hw:=h.low.size
 have hog:g3=og\/g3=X.heap.size:=by
  rcases hg with e|e
  ·left
   have:og=g3:=by simpa [Value.ownBlock] using e
   omega
  ·exact .inr e
 have hno: ∀g',(Value.slice (some ⟨ig,0,none⟩) ys.length ic).ownBlock=some g'->∀_:Nat,¬(Value.slice (some ⟨og,0,none⟩) xs.length oc).ownBlock=some g':=by
  intro g' e1 _ e2
  have h1:ig=g':=by simpa [Value.ownBlock] using e1
  have h2:og=g':=by simpa [Value.ownBlock] using e2
  exact h.ne yum
 refine ⟨by simpa using ho,Qc (Qc h.ri (Chg.of_below (M:=λ_ _=>False) hX) (λ_ _ _ e=>e)) hch hno,?_,?_,h.li,?_⟩
 ·have:=h.ne
  omega
 ·have:=h.lo
  omega
 ·refine (h.low.trans (hX.mono hw)).trans (hch.below (Nat.le_trans hw hs) (λk i e=>?_))
  have h2:og=k:=by simpa [Value.ownBlock] using e
  have:=h.lo
  omega
theorem CRow.of{s:CS}(h:TwoR w wr og oc s.often ig ic s.inn)(hl:s.inn.length=s.often.length):CRow w wr og oc ig ic s:=
 ⟨h.ro,by rw [<-hl];exact h.ri,h.ne,h.lo,h.li,h.low⟩
section
variable{w:World}{g cap:Nat}{nks:List NK}
end
structure CB(m d:Nat)(s:CS):Prop where
 lo:s.often.length=d
 li:s.inn.length=d
 d1:1<=d
 d4:d<=4
 o: ∀(j:Nat) v,s.often[j]?=some v->0<=v/\v<=4^j
 i: ∀(j:Nat) v,s.inn[j]?=some v->0<=v/\v<=4^j
 b:0<=s.blocks/\s.blocks<=64*m
 u:0<=s.outs/\s.outs<=64*m
 t:0<=s.most/\s.most<=64*m
section
variable{m d:Nat}{s:CS}{hs:List Hd}{x:Cx}
theorem zm4{j:Nat}(h:j<4):(4:Int)^j<=64:=by
 match j,h with
 |0,_=>decide
 |1,_=>decide
 |2,_=>decide
 |3,_=>decide
theorem zgv{l:List Int}(hl:l.length=d)(h1:1<=d)(h4:d<=4)(h: ∀(j:Nat) v,l[j]?=some v->0<=v/\v<=4^j):0<=(l.getLast?).getD 0/\(l.getLast?).getD 0<=4^(d- 1):=by
 have hlt:d- 1<l.length:=yum
 have e:l.getLast?=some (l[d- 1]'hlt):=by rw [List.getLast?_eq_getElem?,hl,List.getElem?_eq_getElem hlt]
 rw [e]
 exact h (d- 1) _ (List.getElem?_eq_getElem hlt)
theorem CB.small(h:CB m d s)(hm:m<=15000):zec s:=by
 have big: ∀(l:List Int),l.length=d->(∀(j:Nat) v,l[j]?=some v->0<=v/\v<=4^j)->∀v∈l,0<=v/\v<=1000000:=by
  intro l hl hb v hv
  obtain ⟨j,hj⟩:=List.mem_iff_getElem?.1 hv
  have hlt:=(List.getElem?_eq_some_iff.1 hj).1
  have h4:=h.d4
  have:=zm4 (j:=j) yum
  have:=hb j v hj
  omega
 have h1:=h.d1
 have h4:=h.d4
 have hb:=h.b
 have hu:=h.u
 have ht:=h.t
 exact ⟨λe=>by have:=h.lo;rw [e] at this;simp at this;omega,h.li.trans h.lo.symm,by have:=h.lo;omega,big _ h.lo h.o,big _ h.li h.i,⟨hb.1,by omega⟩,⟨hu.1,by omega⟩,⟨ht.1,by omega⟩⟩
theorem CB.more(h:CB m d s):CB (m+1) d s:=by
 have hb:=h.b
 have hu:=h.u
 have ht:=h.t
 exact ⟨h.lo,h.li,h.d1,h.d4,h.o,h.i,⟨hb.1,by omega⟩,⟨hu.1,by omega⟩,⟨ht.1,by omega⟩⟩
theorem CB.push(h:CB m d s)(h3:d<=3){n:Int}(hn:1<=n/\n<=4):CB (m+1) (d+1) (Js s (108,n)):=by
 have e1:=zgv h.lo h.d1 h.d4 h.o
 have e2:=zgv h.li h.d1 h.d4 h.i
 have h1:=h.d1
 have h4:=h.d4
 have hp:(4:Int)^d=4^(d- 1)*4:=by
  have:d=d- 1+1:=yum
  rw [this,Int.pow_succ]
  simp
 have hpos:(0:Int)<=4^(d- 1):=Int.le_trans e1.1 e1.2
 have hmul: ∀v:Int,0<=v->v<=4^(d- 1)->0<=v*n/\v*n<=4^d:=by
  intro v h0 hle
  refine ⟨Int.mul_nonneg h0 yum,?_⟩
  rw [hp]
  exact Int.mul_le_mul hle hn.2 yum hpos
 have hm:=h.more
 have grow: ∀(l:List Int) (v:Int),l.length=d->(∀(j:Nat) u,l[j]?=some u->0<=u/\u<=4^j)->0<=v/\v<=4^d->∀(j:Nat) u,(l++[v])[j]?=some u->0<=u/\u<=4^j:=by
  intro l v hl hb hv j u hu
  by_cases e:j<l.length
  ·rw [List.getElem?_append_left e] at hu
   exact hb j u hu
  ·have hlt:=(List.getElem?_eq_some_iff.1 hu).1
   simp at hlt
   have ej:j=l.length:=yum
   subst ej
   simp at hu
   subst hu
   rw [hl]
   exact hv
 have hin:0<=(if s.inner=true then (s.inn.getLast?).getD 0*n else 1)/\(if s.inner=true then (s.inn.getLast?).getD 0*n else 1)<=4^d:=by
  split
  ·exact hmul _ e2.1 e2.2
  ·refine ⟨by omega,?_⟩
   have:d=d- 1+1:=yum
   match d,h1,h3 with
   |1,_,_=>decide
   |2,_,_=>decide
   |3,_,_=>decide
 have hst:Js s (108,n)={s with often:=s.often++[(s.often.getLast?).getD 0*n],inn:=s.inn++[if s.inner=true then (s.inn.getLast?).getD 0*n else 1]}:=rfl
 rw [hst]
 exact ⟨by simp [h.lo],by simp [h.li],by omega,by omega,grow _ _ h.lo h.o (hmul _ e1.1 e1.2),grow _ _ h.li h.i hin,hm.b,hm.u,hm.t⟩
theorem CB.pop(h:CB m (d+1) s)(hd:1<=d)(n:Int):CB (m+1) d (Js s (98,n)):=by
 have hm:=h.more
 have h4:=h.d4
 have hst:Js s (98,n)={s with often:=s.often.dropLast,inn:=s.inn.dropLast}:=rfl
 have cut: ∀(l:List Int),(∀(j:Nat) u,l[j]?=some u->0<=u/\u<=4^j)->∀(j:Nat) u,l.dropLast[j]?=some u->0<=u/\u<=4^j:=by
  intro l hb j u hu
  rw [List.dropLast_eq_take,List.getElem?_take] at hu
  split at hu
  ·exact hb j u hu
  ·simp at hu
 rw [hst]
 exact ⟨by simp [h.lo],by simp [h.li],hd,by omega,cut _ h.o,cut _ h.i,hm.b,hm.u,hm.t⟩
theorem CB.stay(h:CB m d s)(n:Int)(h1:k≠108)(h2:k≠98):CB (m+1) d (Js s (k,n)):=by
 have hm:=h.more
 have e1:=zgv h.lo h.d1 h.d4 h.o
 have e2:=zgv h.li h.d1 h.d4 h.i
 have hd1:=h.d1
 have hd4:=h.d4
 have hp:=zm4 (j:=d- 1) yum
 have hb:=h.b
 have hu:=h.u
 have ht:=h.t
 unfold Js
 simp only [h1,h2,if_false]
 by_cases e40:k=40
 ·simp only [e40,if_true]
  refine ⟨h.lo,?_,h.d1,h.d4,h.o,?_,?_,?_,hm.t⟩
  ·show (s.inn.dropLast++[1]).length=d
   simp [h.li]
   omega
  ·intro j u hj
   have hj':(s.inn.dropLast++[(1:Int)])[j]?=some u:=hj
   by_cases e:j<s.inn.dropLast.length
   ·rw [List.getElem?_append_left e,List.dropLast_eq_take,List.getElem?_take] at hj'
    split at hj'
    ·exact h.i j u hj'
    ·simp at hj'
   ·have hlt:=(List.getElem?_eq_some_iff.1 hj').1
    simp at hlt e
    have ej:j=s.inn.dropLast.length:=yur
    subst ej
    simp at hj'
    subst hj'
    refine ⟨by omega,?_⟩
    have hl:s.inn.dropLast.length=d- 1:=by simp [h.li]
    rw [hl]
    match d,hd1,hd4 with
    |1,_,_=>decide
    |2,_,_=>decide
    |3,_,_=>decide
    |4,_,_=>decide
  ·show 0<=s.blocks+(s.often.getLast?).getD 0/\s.blocks+(s.often.getLast?).getD 0<=64*((m+1:Nat):Int)
   omega
  ·show (0:Int)<=0/\(0:Int)<=64*((m+1:Nat):Int)
   omega
 ·simp only [e40,if_false]
  by_cases e41:k=41
  ·simp only [e41,if_true]
   exact ⟨h.lo,h.li,h.d1,h.d4,h.o,h.i,hm.b,hm.u,hm.t⟩
  ·simp only [e41,if_false]
   by_cases e111:k=111
   ·simp only [e111,if_true]
    split
    ·refine ⟨h.lo,h.li,h.d1,h.d4,h.o,h.i,hm.b,?_,?_⟩
     ·show 0<=s.outs+(s.inn.getLast?).getD 0/\s.outs+(s.inn.getLast?).getD 0<=64*((m+1:Nat):Int)
      omega
     ·show 0<=(if s.most<s.outs+(s.inn.getLast?).getD 0 then s.outs+(s.inn.getLast?).getD 0 else s.most)/\(if s.most<s.outs+(s.inn.getLast?).getD 0 then s.outs+(s.inn.getLast?).getD 0 else s.most)<=64*((m+1:Nat):Int)
      split<;>omega
    ·exact hm
   ·simp only [e111,if_false]
    exact hm
end
def Pre(m d:Nat)(s:CS)(L:List NK):Prop:=(∀i,i<=L.length->∃k,CB (m+i) k ((L.take i).foldl Js s))/\CB (m+L.length) d (L.foldl Js s)
theorem Pre.nil{s:CS}(h:CB m d s):Pre m d s []:=⟨λi hi=>by
 have:i=0:=yu9
 subst this
 exact ⟨d,h⟩,h⟩
theorem Pre.one{s:CS}{k:NK}(h:CB m d s)(h':CB (m+1) d' (Js s k)):Pre m d' s [k]:=⟨λi hi=>by
 have:i=0\/i=1:=yvh
 rcases this with rfl|rfl
 ·exact ⟨d,h⟩
 ·exact ⟨d',h'⟩,h'⟩
theorem Pre.app{s:CS}{A B:List NK}(hA:Pre m d s A)(hB:Pre (m+A.length) d' (A.foldl Js s) B):Pre m d' s (A++B):=by
 refine ⟨λi hi=>?_,?_⟩
 ·by_cases h:i<=A.length
  ·rw [List.take_append_of_le_length h]
   exact hA.1 i h
  ·obtain ⟨k,hk⟩:=hB.1 (i- A.length) yvh
   refine ⟨k,?_⟩
   have e:(A++B).take i=A++B.take (i- A.length):=by
    rw [List.take_append,List.take_of_length_le yum]
   rw [e,List.foldl_append]
   rwa [show m+A.length+(i- A.length)=m+i by omega] at hk
 ·rw [List.foldl_append]
  have:=hB.2
  rwa [show m+A.length+B.length=m+(A++B).length by simp;omega] at this
section
variable{hs:List Hd}{x:Cx}
end
section
variable(w:World)(u:ByteArray)
def isAt(u:ByteArray):Bool:=Vo u||(Qk u).isSome
end
structure DR where
 shared:List (ByteArray×Int×Int)
 cells:Int
 thr:List (List NK)
 locals:List ByteArray
 opn:List Nat
 stmts:Nat
theorem zio(hP: ∀j,P j->hs'[j]?=hs[j]?)(hc: ∀j h,P j->hs[j]?=some h->∀k,Sum.inr k∈h.ents->P k):
  ∀(f:Nat) (e:En),(∀k,e= .inr k->P k)->lin hs' f e=lin hs f e
 |f, .inl s,_=>by cases f<;>rfl
 |0, .inr j,_=>rfl
 |f+1, .inr j,hj=>by
  have hpj:=hj j rfl
  simp only [lin]
  rw [hP j hpj]
  match hh:hs[j]? with
  |none=>rfl
  |some ⟨.inl q,es⟩=>rfl
  |some ⟨.inr s,es⟩=>
   have hes:es.flatMap (lin hs' f)=es.flatMap (lin hs f):=by
    have: ∀l:List En,(∀k,Sum.inr k∈l->P k)->l.flatMap (lin hs' f)=l.flatMap (lin hs f):=by
     intro l
     induction l with
     |nil=>intro _;rfl
     |cons e r ih=>
      intro hl
      rw [List.flatMap_cons,List.flatMap_cons,ih λk hk=>hl k (List.mem_cons_of_mem _ hk),zio hP hc f e λk hk=>hl k (by rw [<-hk];simp)]
    exact this es (hc j _ hpj hh)
   simp only [hes]
theorem Xn(hP: ∀j,P j->hs'[j]?=hs[j]?)(hc: ∀j h,P j->hs[j]?=some h->∀k,Sum.inr k∈h.ents->P k)(f:Nat):
  ∀l:List En,(∀k,Sum.inr k∈l->P k)->l.flatMap (lin hs' f)=l.flatMap (lin hs f)
 |[],_=>rfl
 |e::r,hl=>by
  rw [List.flatMap_cons,List.flatMap_cons,Xn hP hc f r λk hk=>hl k (List.mem_cons_of_mem _ hk),zio hP hc f e λk hk=>hl k (by rw [<-hk];simp)]
def Path(hs:List Hd)(P:Nat->Prop):Nat->Nat->Nat->List Nat->List NK->List Nat->Prop
 |f,_,o,[],N,os=>∃h,hs[o]?=some h/\N=h.ents.flatMap (lin hs f)/\os=[]/\ ∀k,Sum.inr k∈h.ents->P k
 |f,base,o,p::ps,N,os=>∃f' h es q s k N' os',f=f'+1/\hs[o]?=some h/\h.ents=es++[.inr p]/\hs[p]?=some q/\q.k= .st s/\zb3 s=[k]/\
   N=es.flatMap (lin hs f)++k::N'/\os=(base+(es.flatMap (lin hs f)).length)::os'/\(∀k,Sum.inr k∈es->P k)/\Path hs P f' (base+(es.flatMap (lin hs f)).length+1) p ps N' os'
section
variable{hs hs':List Hd}{P P':Nat->Prop}
theorem Path.len: ∀{ps:List Nat} {f base o:Nat} {N:List NK} {os:List Nat},Path hs P f base o ps N os->os.length=ps.length
 |[],_,_,_,_,_,⟨_,_,_,e,_⟩=>by rw [e]
 |_::_,_,_,_,_,_,⟨_,_,_,_,_,_,_,_,_,_,_,_,_,_,_,e,_,h⟩=>by rw [e,List.length_cons,List.length_cons,Path.len h]
theorem Path.deep: ∀{ps:List Nat} {f base o:Nat} {N:List NK} {os:List Nat},Path hs P f base o ps N os->ps.length<=f
 |[],_,_,_,_,_,_=>Nat.zero_le _
 |_::_,_,_,_,_,_,⟨_,_,_,_,_,_,_,_,e,_,_,_,_,_,_,_,_,h⟩=>by
  have:=Path.deep h
  rw [e,List.length_cons];omega
def zbd(o:Nat)(ps:List Nat):Nat:=ps.getLast?.getD o
theorem Ft(o p:Nat)(ps:List Nat):zbd o (p::ps)=zbd p ps:=by
 unfold zbd
 cases ps with
 |nil=>rfl
 |cons q r=>rw [List.getLast?_cons_cons,List.getLast?_eq_some_getLast (List.cons_ne_nil q r)];rfl
theorem Path.more(hP: ∀j,P j->hs'[j]?=hs[j]?)(hc: ∀j h,P j->hs[j]?=some h->∀k,Sum.inr k∈h.ents->P k)(e:En)(he: ∀k,e= .inr k->P k): ∀{ps:List Nat} {f base o:Nat} {N:List NK} {os:List Nat},
  (∀j∈o::ps,∀h,hs[j]?=some h->∃h',hs'[j]?=some h'/\h'.ents=(if j=zbd o ps then h.ents++[e] else h.ents)/\ ∀s,h.k= .st s->h'.k= .st s)->(o::ps).Nodup ->
  Path hs P f base o ps N os->Path hs' P f base o ps (N++lin hs' (f- ps.length) e) os
 |[],f,base,o,N,os,hn,_,⟨h,h1,h2,h3,h4⟩=>by
  obtain ⟨h',g1,g2,_⟩:=hn o yun h h1
  rw [if_pos (by rfl)] at g2
  refine ⟨h',g1,?_,h3,?_⟩
  ·rw [g2,List.flatMap_append,Xn hP hc f h.ents h4,h2]
   simp
  ·intro k hk
   rw [g2] at hk
   rcases List.mem_append.1 hk with hk|hk
   ·exact h4 k hk
   ·exact he k (List.mem_singleton.1 hk).symm
 |p::ps,f,base,o,N,os,hn,nd,⟨f',h,es,q,s,k,N',os',e0,h1,h2,h3,h4,h5,h6,h7,h8,h9⟩=>by
  subst e0
  have nd':=(List.nodup_cons.1 nd).2
  have hno:o≠zbd o (p::ps):=yss
  obtain ⟨h',g1,g2,_⟩:=hn o yun h h1
  rw [if_neg hno] at g2
  obtain ⟨q',q1,_,q3⟩:=hn p yun q h3
  have hes:=Xn hP hc (f'+1) es h8
  have ih:=Path.more hP hc e he (λj hj x hx=>by
   have:=hn j (List.mem_cons_of_mem _ hj) x hx
   rwa [Ft] at this) nd' h9
  refine ⟨f',h',es,q',s,k,N'++lin hs' (f'- ps.length) e,os',rfl,g1,g2.trans h2,q1,q3 s h4,h5,?_,?_,h8,?_⟩
  ·rw [h6,hes,List.length_cons,Nat.add_sub_add_right]
   simp
  ·rw [h7,hes]
  ·rw [hes];exact ih
theorem Path.opening(hP: ∀j,P j->hs'[j]?=hs[j]?)(hc: ∀j h,P j->hs[j]?=some h->∀k,Sum.inr k∈h.ents->P k){p0:Nat}{k0:NK}(h0:hs'[p0]?=some ⟨.st s0,[]⟩)(hk0:zb3 s0=[k0]): ∀{ps:List Nat} {f base o:Nat} {N:List NK} {os:List Nat},
  (∀j∈o::ps,∀h,hs[j]?=some h->∃h',hs'[j]?=some h'/\h'.ents=(if j=zbd o ps then h.ents++[.inr p0] else h.ents)/\ ∀s,h.k= .st s->h'.k= .st s)->(o::ps).Nodup->ps.length<f ->
  Path hs P f base o ps N os->Path hs' P f base o (ps++[p0]) (N++[k0]) (os++[base+N.length])
 |[],f,base,o,N,os,hn,_,hf,⟨h,h1,h2,h3,h4⟩=>by
  obtain ⟨h',g1,g2,_⟩:=hn o yun h h1
  rw [if_pos (by rfl)] at g2
  obtain ⟨f',rfl⟩: ∃f',f=f'+1:=⟨f- 1,by simp at hf;omega⟩
  have hes:=Xn hP hc (f'+1) h.ents h4
  refine ⟨f',h',h.ents,_,s0,k0,[],[],rfl,g1,g2,h0,rfl,hk0,?_,?_,h4,⟨_,h0,rfl,rfl,by simp⟩⟩
  ·rw [hes,<-h2]
  ·rw [hes,<-h2,h3];rfl
 |p::ps,f,base,o,N,os,hn,nd,hf,⟨f',h,es,q,s,k,N',os',e0,h1,h2,h3,h4,h5,h6,h7,h8,h9⟩=>by
  subst e0
  have nd':=(List.nodup_cons.1 nd).2
  have hno:o≠zbd o (p::ps):=yss
  obtain ⟨h',g1,g2,_⟩:=hn o yun h h1
  rw [if_neg hno] at g2
  obtain ⟨q',q1,_,q3⟩:=hn p yun q h3
  have hes:=Xn hP hc (f'+1) es h8
  have ih:=Path.opening hP hc h0 hk0 (λj hj x hx=>by
   have:=hn j (List.mem_cons_of_mem _ hj) x hx
   rwa [Ft] at this) nd' (by simp only [List.length_cons] at hf;omega) h9
  refine ⟨f',h',es,q',s,k,N'++[k0],os'++[base+N.length],rfl,g1,g2.trans h2,q1,q3 s h4,h5,?_,?_,h8,?_⟩
  ·rw [h6,hes]
   simp
  ·rw [h7,hes];rfl
  ·rw [hes]
   have e:base+(es.flatMap (lin hs (f'+1))).length+1+N'.length=base+N.length:=by
    rw [h6,List.length_append,List.length_cons];omega
   rw [e] at ih
   exact ih
theorem Path.shut{p:Nat}(hPP: ∀j,P j->P' j)(hp:P' p)(hk:(hs[p]?).map Hd.k=some (HK.st s0)): ∀{ps:List Nat} {f base o:Nat} {N:List NK} {os:List Nat},
  Path hs P f base o (ps++[p]) N os->Path hs P' f base o ps (N++z0z s0) os.dropLast
 |[],f,base,o,N,os,⟨f',h,es,q,s,k,N',os',e0,h1,h2,h3,h4,h5,h6,h7,h8,⟨h',g1,g2,g3,g4⟩⟩=>by
  subst e0
  have hq:q=h':=by rw [h3] at g1;exact Option.some.inj g1
  subst hq
  have hs0:s=s0:=by
   rw [h3] at hk
   have hk':q.k= .st s0:=Option.some.inj hk
   rw [h4] at hk'
   exact Sum.inr.inj hk'
  subst hs0
  refine ⟨h,h1,?_,?_,?_⟩
  ·rw [h2,List.flatMap_append,h6,g2]
   have:lin hs (f'+1) (.inr p)=zb3 s++(q.ents.flatMap (lin hs f')++z0z s):=by
    simp only [lin]
    obtain ⟨qk,qe⟩:=q
    dsimp only at h4
    subst h4
    rw [h3]
   simp [this,h5]
  ·rw [h7,g3];rfl
  ·intro k hk
   rw [h2] at hk
   rcases List.mem_append.1 hk with hk|hk
   ·exact hPP k (h8 k hk)
   ·have:=List.mem_singleton.1 hk
    cases this
    exact hp
 |p1::ps,f,base,o,N,os,⟨f',h,es,q,s,k,N',os',e0,h1,h2,h3,h4,h5,h6,h7,h8,h9⟩=>by
  subst e0
  have ih:=Path.shut hPP hp hk h9
  have hne:os'≠[]:=by
   intro e
   have:=h9.len
   rw [e] at this
   simp at this
  refine ⟨f',h,es,q,s,k,N'++z0z s0,os'.dropLast,rfl,h1,h2,h3,h4,h5,?_,?_,λk hk=>hPP k (h8 k hk),ih⟩
  ·rw [h6];simp
  ·rw [h7,List.dropLast_cons_of_ne_nil hne]
theorem Path.stands: ∀{ps:List Nat} {f base o:Nat} {N:List NK} {os:List Nat},Path hs P f base o ps N os->∀(i a:Nat),os[i]?=some a->base<=a/\ ∃(p:Nat) (s:St) (k:NK),ps[i]?=some p/\(hs[p]?).map Hd.k=some (HK.st s)/\zb3 s=[k]/\N[a- base]?=some k
 |[],_,_,_,_,_,⟨_,_,_,e,_⟩,i,a,hi=>by rw [e] at hi;simp at hi
 |p::ps,f,base,o,N,os,⟨f',h,es,q,s,k,N',os',e0,h1,h2,h3,h4,h5,h6,h7,h8,h9⟩,i,a,hi=>by
  subst e0
  rw [h7] at hi
  cases i with
  |zero=>
   simp only [List.getElem?_cons_zero,Option.some.injEq] at hi
   subst hi
   refine ⟨Nat.le_add_right _ _,p,s,k,rfl,by rw [h3];simp [h4],h5,?_⟩
   rw [h6,Nat.add_sub_cancel_left,List.getElem?_append_right (Nat.le_refl _),Nat.sub_self]
   rfl
  |succ i=>
   rw [List.getElem?_cons_succ] at hi
   obtain ⟨hb,p',s',k',g1,g2,g3,g4⟩:=Path.stands h9 i a hi
   refine ⟨by omega,p',s',k',by rw [List.getElem?_cons_succ];exact g1,g2,g3,?_⟩
   rw [h6,List.getElem?_append_right yum]
   have:a- base- (es.flatMap (lin hs (f'+1))).length=(a- (base+(es.flatMap (lin hs (f'+1))).length+1))+1:=yum
   rw [this,List.getElem?_cons_succ]
   exact g4
end
def zhf(d:DR)(N:List NK):Bool:=d.opn.any λo=>decide ((N[o]?).map (·.1)=some 40)
def zo9:Option NK->List NK
 |some k=>if k.1=40 then [(41,0)] else if k.1=108 then [(98,0)] else []
 |none=>[]
def zb9(d:DR):Except Int DR:=match d.opn.getLast?,d.thr.getLast? with
 |some a,some N=> .ok {d with opn:=d.opn.dropLast,thr:=d.thr.dropLast++[N++zo9 N[a]?]}
 |_,_=> .error 3
def zbn(st:RS)(j:Nat):Prop:=j<st.hs.length/\j∉st.opn
structure Sim(st:RS)(d:DR):Prop where
 sh:d.shared=st.shared
 ce:d.cells=st.cells
 len:d.thr.length=st.threads.length
 nm: ∀p∈st.shared,p.1.toList.isEmpty=false
 no:st.threads=[]->st.opn=[]/\d.opn=[]
 last: ∀tl t,st.threads=tl++[t]->∃ps N,st.opn=t::ps/\(t::ps).Nodup/\st.hk t=some (.thr d.locals d.stmts)/\d.thr.getLast?=some N/\Path st.hs (zbn st) 3 0 t ps N d.opn
 old: ∀i t,i+1<st.threads.length->st.threads[i]?=some t->∃h,st.hs[t]?=some h/\zbn st t/\d.thr[i]?=some (h.ents.flatMap (lin st.hs 3))
 clo: ∀j h,zbn st j->st.hs[j]?=some h->∀k,Sum.inr k∈h.ents->zbn st k
section
variable{st st':RS}{d:DR}
theorem Sim.share(h:Sim st d)(x:ByteArray)(n:Int)(hx:x.toList.isEmpty=false):Sim {st with shared:=st.shared++[(x,st.cells,n)],cells:=st.cells+n} {d with shared:=d.shared++[(x,d.cells,n)],cells:=d.cells+n} where
 sh:=by show d.shared++_=st.shared++_;rw [h.sh,h.ce]
 ce:=by show d.cells+n=st.cells+n;rw [h.ce]
 len:=h.len
 nm:=λp hp=>by
  rcases List.mem_append.1 hp with hp|hp
  ·exact h.nm p hp
  ·rw [List.mem_singleton.1 hp];exact hx
 no:=h.no
 last:=h.last
 old:=h.old
 clo:=h.clo
theorem Path.mono{P':Nat->Prop}(hPP: ∀j,P j->P' j): ∀{ps:List Nat} {f base o:Nat} {N:List NK} {os:List Nat},Path hs P f base o ps N os->Path hs P' f base o ps N os
 |[],_,_,_,_,_,⟨h,h1,h2,h3,h4⟩=>⟨h,h1,h2,h3,λk hk=>hPP k (h4 k hk)⟩
 |_::_,_,_,_,_,_,⟨f',h,es,q,s,k,N',os',e0,h1,h2,h3,h4,h5,h6,h7,h8,h9⟩=>⟨f',h,es,q,s,k,N',os',e0,h1,h2,h3,h4,h5,h6,h7,λk hk=>hPP k (h8 k hk),Path.mono hPP h9⟩
theorem Sim.newT(h:Sim st d)(hok:st.Ok k)(ho: ¬1<st.opn.length):Sim st.newT {d with thr:=d.thr++[[]],locals:=[],stmts:=0}/\d.opn=[]:=by
 have hs': ∀j,j<st.hs.length->st.newT.hs[j]?=st.hs[j]?:=λj hj=>by
  show (st.hs++_)[j]?=_
  rw [List.getElem?_append_left hj]
 have hsh: ∀j,zbn st.newT j↔j<st.hs.length:=λj=>by
  unfold zbn RS.newT
  simp
  omega
 have hd:d.opn=[]/\ ∀tl t,st.threads=tl++[t]->st.opn=[t]:=by
  rcases List.eq_nil_or_concat st.threads with e|⟨tl,t,e⟩
  ·exact ⟨(h.no e).2,λtl t e'=>by rw [e] at e';simp at e'⟩
  ·rw [List.concat_eq_append] at e
   obtain ⟨ps,N,h1,_,_,_,h5⟩:=h.last tl t e
   have:ps=[]:=by
    cases ps with
    |nil=>rfl
    |cons p r=>rw [h1] at ho;simp at ho
   subst this
   refine ⟨List.length_eq_zero_iff.1 h5.len,λtl' t' e'=>?_⟩
   rw [e] at e'
   have:=List.append_inj_right' e' rfl
   rw [h1]
   exact this
 have hent: ∀(j:Nat) (x:Hd),st.hs[j]?=some x->∀k,Sum.inr k∈x.ents->k<st.hs.length:=λj x hx k hk=>hok.ent.1 x (List.mem_of_getElem? hx) k hk
 have hfr: ∀(x:Hd) (j:Nat),st.hs[j]?=some x->x.ents.flatMap (lin st.newT.hs 3)=x.ents.flatMap (lin st.hs 3):=λx j hx=>
  Xn (P:=λj=>j<st.hs.length) hs' (λj x _ hx k hk=>hent j x hx k hk) 3 x.ents (hent j x hx)
 refine ⟨{sh:=h.sh,ce:=h.ce,len:=by show (d.thr++[[]]).length=(st.threads++[st.hs.length]).length;simp [h.len],nm:=h.nm,no:=λe=>by simp [RS.newT] at e,last:=?_,old:=?_,clo:=?_},hd.1⟩
 ·intro tl t e
  have et:t=st.hs.length:=by
   have e':st.threads++[st.hs.length]=tl++[t]:=e
   have:=List.append_inj_right' e' rfl
   simpa using this.symm
  subst et
  refine ⟨[],[],rfl,by simp,?_,by simp,⟨⟨.thr [] 0,[]⟩,?_,rfl,hd.1,by simp⟩⟩
  ·show ((st.hs++[_])[st.hs.length]?).map _=_
   simp
  ·show (st.hs++[_])[st.hs.length]?=_
   simp
 ·intro i t hi ht
  have hi':i<st.threads.length:=by
   have:i+1<(st.threads++[st.hs.length]).length:=hi
   simpa using this
  have ht':st.threads[i]?=some t:=by
   have:(st.threads++[st.hs.length])[i]?=some t:=ht
   rwa [List.getElem?_append_left hi'] at this
  have hthr:(d.thr++[[]])[i]?=d.thr[i]?:=List.getElem?_append_left (by rw [h.len];exact hi')
  by_cases hl:i+1<st.threads.length
  ·obtain ⟨x,x1,x2,x3⟩:=h.old i t hl ht'
   refine ⟨x,by rw [hs' t x2.1];exact x1,(hsh t).2 x2.1,?_⟩
   show (d.thr++[[]])[i]?=_
   rw [hthr,x3,hfr x t x1]
  ·rcases List.eq_nil_or_concat st.threads with e|⟨tl,t2,e⟩
   ·rw [e] at hi';simp at hi'
   ·rw [List.concat_eq_append] at e
    have hil:i=tl.length:=by rw [e] at hi' hl;simp at hi' hl;omega
    have htt:t2=t:=by
     rw [e,hil] at ht'
     simpa using ht'
    subst htt
    obtain ⟨ps,N,h1,_,h3,h4,h5⟩:=h.last tl t2 e
    have:ps=[]:=by
     have:=hd.2 tl t2 e
     rw [h1] at this
     simpa using this
    subst this
    obtain ⟨x,x1,x2,_,_⟩:=h5
    have hlt:t2<st.hs.length:=(List.getElem?_eq_some_iff.1 x1).1
    refine ⟨x,by rw [hs' t2 hlt];exact x1,(hsh t2).2 hlt,?_⟩
    show (d.thr++[[]])[i]?=_
    rw [hthr,hfr x t2 x1,<-x2,<-h4,List.getLast?_eq_getElem?,h.len,hil,e]
    simp
 ·intro j x hj hx k hk
  have hj':=(hsh j).1 hj
  rw [hs' j hj'] at hx
  exact (hsh k).2 (hent j x hx k hk)
end
section
variable{st st':RS}{d:DR}{k t o:Nat}{tl ol:List Nat}
theorem Sim.olds(h:Sim st d)(hP: ∀j,zbn st j->st'.hs[j]?=st.hs[j]?)(hsh: ∀j,zbn st j->zbn st' j)(hth:st'.threads=st.threads)(X:List NK):
  ∀i t,i+1<st'.threads.length->st'.threads[i]?=some t->∃h,st'.hs[t]?=some h/\zbn st' t/\(d.thr.dropLast++[X])[i]?=some (h.ents.flatMap (lin st'.hs 3)):=by
 intro i t hi ht
 rw [hth] at hi ht
 obtain ⟨x,x1,x2,x3⟩:=h.old i t hi ht
 refine ⟨x,(hP t x2).trans x1,hsh t x2,?_⟩
 have hl:=h.len
 rw [List.getElem?_append_left (by rw [List.length_dropLast];omega),List.getElem?_dropLast,if_pos yum,x3]
 rw [Xn hP h.clo 3 x.ents (h.clo t x x2 x1)]
theorem Sim.clos(h:Sim st d)(hP: ∀j,zbn st j->st'.hs[j]?=st.hs[j]?)(hsh: ∀j,zbn st' j↔zbn st j): ∀j h,zbn st' j->st'.hs[j]?=some h->∀k,Sum.inr k∈h.ents->zbn st' k:=by
 intro j x hj hx k hk
 have hj':=(hsh j).1 hj
 rw [hP j hj'] at hx
 exact (hsh k).2 (h.clo j x hj' hx k hk)
theorem zna(h:t::ps=ol++[o]):zbd t ps=o:=by
 have:(t::ps).getLast?=some o:=by rw [h];simp
 unfold zbd
 cases ps with
 |nil=>simpa using this
 |cons p r=>
  rw [List.getLast?_cons_cons] at this
  rw [this];rfl
theorem zk9(h:Sim st d)(hth:st.threads=tl++[t])(X:List NK):(d.thr.dropLast++[X]).length=st.threads.length:=by
 have:=h.len
 rw [List.length_append,List.length_dropLast,this,hth]
 simp
theorem Sim.leaf(h:Sim st d)(hth:st.threads=tl++[t])(ho:st.opn=ol++[o])(s:St)(l':List ByteArray)(c':Nat)
  (hsame:st'.shared=st.shared/\st'.cells=st.cells/\st'.threads=st.threads/\st'.opn=st.opn) (hget: ∀j,st'.hs[j]?=(st.hs[j]?).map (Zv t o (.thr l' c') (.leaf s) j))
  {N:List NK} (hN:d.thr.getLast?=some N):Sim st' {d with thr:=d.thr.dropLast++[N++[(kL s,0)]],locals:=l',stmts:=c'}:=by
 obtain ⟨s1,s2,s3,s4⟩:=hsame
 obtain ⟨ps,N',h1,h2,h3,h4,h5⟩:=h.last tl t hth
 have:N'=N:=Option.some.inj (h4.symm.trans hN)
 subst this
 have hlen:=Yp hget
 have hto:t∈st.opn:=by rw [h1];simp
 have hoo:o∈st.opn:=yuw
 have hP: ∀j,zbn st j->st'.hs[j]?=st.hs[j]?:=λj hj=>by
  rw [hget j]
  have e1:j≠t:=λe=>hj.2 (e▸hto)
  have e2:j≠o:=λe=>hj.2 (e▸hoo)
  cases hx:st.hs[j]? with
  |none=>rfl
  |some x=>simp [Zv,e1,e2]
 have hsh: ∀j,zbn st' j↔zbn st j:=λj=>by unfold zbn;rw [hlen,s4]
 refine {sh:=h.sh.trans s1.symm,ce:=h.ce.trans s2.symm,len:=?_,nm:=by rw [s1];exact h.nm,no:=λe=>?_,last:=?_,old:=h.olds hP (λj hj=>(hsh j).2 hj) s3 _,clo:=h.clos hP hsh}
 ·show (d.thr.dropLast++[_]).length=_
  rw [s3]
  exact zk9 h hth _
 ·rw [s3,hth] at e;simp at e
 ·intro tl' t' e
  have:t'=t:=by
   rw [s3,hth] at e
   have:=List.append_inj_right' e rfl
   simpa using this.symm
  subst this
  obtain ⟨x,x1,x2⟩:=Yy h3
  refine ⟨ps,N'++[(kL s,0)],by rw [s4];exact h1,h2,?_,by simp,?_⟩
  ·unfold RS.hk
   rw [hget t',x1]
   simp [Zv]
  ·have hp:=Path.more hP h.clo (.inl s) (λk e=>by cases e) (λj hj y hy=>⟨Zv t' o (.thr l' c') (.leaf s) j y,by rw [hget j,hy];rfl,by
    rw [zna (h1.symm.trans ho)]
    rfl,λs0 hs0=>by
    have:j≠t':=yul
    simp [Zv,this,hs0]⟩) h2 h5
   have e0: ∀f,lin st'.hs f (.inl s)=[(kL s,0)]:=λf=>by cases f<;>rfl
   rw [e0] at hp
   exact hp.mono λj hj=>(hsh j).2 hj
theorem zpa(h:Qf s=true): ∃k,zb3 s=[k]:=by
 rcases s with ⟨to,a⟩|⟨to,k,a,c⟩|⟨to,f,a⟩|⟨f,a,c⟩|a|⟨⟩|a|n
 ·simp [Qf] at h
 ·simp [Qf] at h
 ·simp [Qf] at h
 ·simp [Qf] at h
 ·simp [Qf] at h
 ·exact ⟨_,rfl⟩
 ·exact ⟨_,rfl⟩
 ·exact ⟨_,rfl⟩
theorem Sim.hold(h:Sim st d)(hok:st.Ok k)(hth:st.threads=tl++[t])(ho:st.opn=ol++[o])(hd:st.opn.length<=3)(s:St)(hh:Qf s=true)(l':List ByteArray)(c':Nat)
  (hsame:st'.shared=st.shared/\st'.cells=st.cells/\st'.threads=st.threads/\st'.opn=st.opn++[st.hs.length]) (hget: ∀j,st'.hs[j]?=((st.newH s).hs[j]?).map (Zv t o (.thr l' c') (.sub st.hs.length) j))
  {N:List NK} (hN:d.thr.getLast?=some N):Sim st' {d with thr:=d.thr.dropLast++[N++zb3 s],opn:=d.opn++[N.length],locals:=l',stmts:=c'}:=by
 obtain ⟨s1,s2,s3,s4⟩:=hsame
 obtain ⟨ps,N',h1,h2,h3,h4,h5⟩:=h.last tl t hth
 have:N'=N:=Option.some.inj (h4.symm.trans hN)
 subst this
 obtain ⟨k0,hk0⟩:=zpa hh
 have hlen:st'.hs.length=st.hs.length+1:=by rw [Yp hget];simp [RS.newH]
 have hto:t∈st.opn:=by rw [h1];simp
 have hoo:o∈st.opn:=yuw
 have hlt: ∀j∈st.opn,j<st.hs.length:=hok.ent.2.2
 have hnew: ∀j,j<st.hs.length->(st.newH s).hs[j]?=st.hs[j]?:=λj hj=>by
  show (st.hs++_)[j]?=_
  rw [List.getElem?_append_left hj]
 have hP: ∀j,zbn st j->st'.hs[j]?=st.hs[j]?:=λj hj=>by
  rw [hget j,hnew j hj.1]
  have e1:j≠t:=λe=>hj.2 (e▸hto)
  have e2:j≠o:=λe=>hj.2 (e▸hoo)
  cases hx:st.hs[j]? with
  |none=>rfl
  |some x=>simp [Zv,e1,e2]
 have hsh: ∀j,zbn st' j↔zbn st j:=λj=>by
  unfold zbn
  rw [hlen,s4]
  simp only [List.mem_append,List.mem_singleton,not_or]
  constructor
  ·rintro ⟨a,b,c⟩;exact ⟨by omega,b⟩
  ·rintro ⟨a,b⟩;exact ⟨by omega,b,by omega⟩
 have h0:st'.hs[st.hs.length]?=some ⟨.st s,[]⟩:=by
  rw [hget]
  have:(st.newH s).hs[st.hs.length]?=some ⟨.st s,[]⟩:=yvi
  rw [this]
  have e1:st.hs.length≠t:=λe=>by have:=hlt t hto;omega
  have e2:st.hs.length≠o:=λe=>by have:=hlt o hoo;omega
  simp [Zv,e1,e2]
 refine {sh:=h.sh.trans s1.symm,ce:=h.ce.trans s2.symm,len:=?_,nm:=by rw [s1];exact h.nm,no:=λe=>?_,last:=?_,old:=h.olds hP (λj hj=>(hsh j).2 hj) s3 _,clo:=h.clos hP hsh}
 ·show (d.thr.dropLast++[_]).length=_
  rw [s3]
  exact zk9 h hth _
 ·rw [s3,hth] at e;simp at e
 ·intro tl' t' e
  have:t'=t:=by
   rw [s3,hth] at e
   have:=List.append_inj_right' e rfl
   simpa using this.symm
  subst this
  obtain ⟨x,x1,x2⟩:=Yy h3
  refine ⟨ps++[st.hs.length],N'++zb3 s,by rw [s4,h1];rfl,?_,?_,by simp,?_⟩
  ·have:(t'::(ps++[st.hs.length]))=(t'::ps)++[st.hs.length]:=rfl
   rw [this,List.nodup_append]
   refine ⟨h2,by simp,λa ha b hb=>?_⟩
   have:=List.mem_singleton.1 hb
   subst this
   have:=hlt a (by rw [h1];exact ha)
   omega
  ·unfold RS.hk
   rw [hget t',hnew t' (hlt t' hto),x1]
   simp [Zv]
  ·have hp:=Path.opening hP h.clo h0 hk0 (λj hj y hy=>⟨Zv t' o (.thr l' c') (.sub st.hs.length) j y,by rw [hget j,hnew j (hlt j (by rw [h1];exact hj)),hy];rfl,by
    rw [zna (h1.symm.trans ho)]
    rfl,λs0 hs0=>by
    have:j≠t':=yul
    simp [Zv,this,hs0]⟩) h2 (by rw [h1] at hd;simp at hd;omega) h5
   rw [hk0]
   have:0+N'.length=N'.length:=Nat.zero_add _
   rw [this] at hp
   exact hp.mono λj hj=>(hsh j).2 hj
end
theorem Path.inner: ∀{ps:List Nat} {f base o:Nat} {N:List NK} {os:List Nat},Path hs P f base o ps N os->∃h,hs[zbd o ps]?=some h/\ ∀k,Sum.inr k∈h.ents->P k
 |[],_,_,_,_,_,⟨h,h1,_,_,h4⟩=>⟨h,h1,h4⟩
 |_::_,_,_,_,_,_,⟨_,_,_,_,_,_,_,_,_,_,_,_,_,_,_,_,_,h9⟩=>by rw [Ft];exact Path.inner h9
theorem z1c{k:NK}(h:zb3 s=[k]):zo9 (some k)=z0z s:=ysh
theorem ztf{k:NK}(h:zb3 s=[k]):decide (k.1=40)=HK.isAtomic (.st s):=ysh
section
variable{st st':RS}{d:DR}{k t o:Nat}{tl ol:List Nat}
theorem Path.inn{f o:Nat}{N:List NK}{os:List Nat}(h:Path hs P f 0 o ps N os):(os.any λa=>decide ((N[a]?).map (·.1)=some 40))=ps.any λp=>(((hs[p]?).map Hd.k).map HK.isAtomic).getD false:=by
 have key: ∀(i a:Nat),os[i]?=some a->∃p,ps[i]?=some p/\decide ((N[a]?).map (·.1)=some 40)=(((hs[p]?).map Hd.k).map HK.isAtomic).getD false:=by
  intro i a hi
  obtain ⟨_,p,s,k,h1,h2,h3,h4⟩:=h.stands i a hi
  refine ⟨p,h1,?_⟩
  rw [Nat.sub_zero] at h4
  rw [h4,h2]
  have:=ztf h3
  simp only [Option.map_some,Option.getD_some,Option.some.injEq]
  exact this
 have hl:=h.len
 rw [Bool.eq_iff_iff,List.any_eq_true,List.any_eq_true]
 constructor
 ·rintro ⟨a,ha,hq⟩
  obtain ⟨i,hi⟩:=List.getElem?_of_mem ha
  obtain ⟨p,h1,h2⟩:=key i a hi
  exact ⟨p,List.mem_of_getElem? h1,h2▸hq⟩
 ·rintro ⟨p,hp,hq⟩
  obtain ⟨i,hi⟩:=List.getElem?_of_mem hp
  have hlt:i<os.length:=by rw [hl];exact (List.getElem?_eq_some_iff.1 hi).1
  obtain ⟨p',h1,h2⟩:=key i os[i] (List.getElem?_eq_getElem hlt)
  rw [hi] at h1
  obtain rfl:=Option.some.inj h1
  exact ⟨os[i],List.getElem_mem hlt,h2.trans hq⟩
theorem Sim.pop(h:Sim st d)(hok:st.Ok k)(ho: ¬st.opn.length<2): ∃d',zb9 d= .ok d'/\Sim {st with opn:=st.opn.dropLast} d':=by
 rcases List.eq_nil_or_concat st.threads with e|⟨tl,t,e⟩
 ·have:=(h.no e).1
  rw [this] at ho
  simp at ho
 ·rw [List.concat_eq_append] at e
  obtain ⟨ps,N,h1,h2,h3,h4,h5⟩:=h.last tl t e
  rcases List.eq_nil_or_concat ps with hp|⟨ps',p,hp⟩
  ·rw [h1,hp] at ho;simp at ho
  rw [List.concat_eq_append] at hp
  subst hp
  have hol:=h5.len
  rcases List.eq_nil_or_concat d.opn with hq|⟨os',a,hq⟩
  ·rw [hq] at hol;simp at hol
  rw [List.concat_eq_append] at hq
  have hla:d.opn.getLast?=some a:=by rw [hq];simp
  have hal:d.opn[ps'.length]?=some a:=by
   have:os'.length=ps'.length:=by rw [hq] at hol;simpa using hol
   rw [hq,<-this];simp
  obtain ⟨_,p1,s,k1,g1,g2,g3,g4⟩:=h5.stands _ a hal
  have:p1=p:=by simpa using g1.symm
  subst this
  rw [Nat.sub_zero] at g4
  have hdl:st.opn.dropLast=t::ps':=by
   rw [h1,<-List.cons_append,List.dropLast_concat]
  have hnp:p1∉t::ps':=by
   rw [<-List.cons_append,List.nodup_append] at h2
   intro hm
   exact h2.2.2 p1 hm p1 yun rfl
  have hsub: ∀j,zbn st j->zbn {st with opn:=st.opn.dropLast} j:=λj hj=>⟨hj.1,λhm=>hj.2 (List.dropLast_subset _ hm)⟩
  have hpl:p1<st.hs.length:=hok.ent.2.2 p1 (by rw [h1];simp)
  have hp1:zbn {st with opn:=st.opn.dropLast} p1:=⟨hpl,by show p1∉st.opn.dropLast;rw [hdl];exact hnp⟩
  have hinv: ∀j,zbn {st with opn:=st.opn.dropLast} j->j=p1\/zbn st j:=λj hj=>by
   by_cases e:j=p1
   ·exact .inl e
   ·refine .inr ⟨hj.1,λhm=>?_⟩
    have:j∉st.opn.dropLast:=hj.2
    rw [hdl] at this
    rw [h1,<-List.cons_append] at hm
    rcases List.mem_append.1 hm with hm|hm
    ·exact this hm
    ·exact e (List.mem_singleton.1 hm)
  have hpath:=Path.shut hsub hp1 g2 h5
  refine ⟨{d with opn:=d.opn.dropLast,thr:=d.thr.dropLast++[N++zo9 N[a]?]},?_,?_⟩
  ·unfold zb9
   rw [hla,h4]
  ·rw [g4,z1c g3]
   refine {sh:=h.sh,ce:=h.ce,len:=zk9 h e _,nm:=h.nm,no:=λq=>?_,last:=?_,old:=h.olds (st':={st with opn:=st.opn.dropLast}) (λj _=>rfl) hsub rfl _,clo:=?_}
   ·have q':st.threads=[]:=q
    rw [e] at q';simp at q'
   ·intro tl' t' q
    have q':st.threads=tl'++[t']:=q
    have:t'=t:=by
     rw [e] at q'
     have:=List.append_inj_right' q' rfl
     simpa using this.symm
    subst this
    refine ⟨ps',_,hdl,?_,h3,by simp,hpath⟩
    rw [<-List.cons_append,List.nodup_append] at h2
    exact h2.1
   ·intro j x hj hx k hk
    have hx':st.hs[j]?=some x:=hx
    rcases hinv j hj with rfl|hj'
    ·obtain ⟨y,y1,y2⟩:=h5.inner
     have hlo:zbd t (ps'++[j])=j:=by simp [zbd]
     rw [hlo,hx'] at y1
     obtain rfl:=Option.some.inj y1
     exact hsub k (y2 k hk)
    ·exact hsub k (h.clo j x hj' hx' k hk)
end
section
variable{st st':RS}{d:DR}{k t o:Nat}{tl ol:List Nat}
theorem Sim.inB_is(h:Sim st d)(hth:st.threads=tl++[t]){N:List NK}(hN:d.thr.getLast?=some N):st.inB=zhf d N:=by
 obtain ⟨ps,N',h1,h2,h3,h4,h5⟩:=h.last tl t hth
 have:N'=N:=Option.some.inj (h4.symm.trans hN)
 subst this
 unfold zhf RS.inB
 rw [h5.inn,h1,List.any_cons,h3]
 rfl
end
section
variable{st:RS}{lv:Nat->Nat}{ib:Nat->Bool}{wt:Nat->Nat}
end
theorem Sim.whole{st:RS}{d:DR}(h:Sim st d)(ho:st.opn.length=1)(i t:Nat)(ht:st.threads[i]?=some t):d.thr[i]?=some ((st.ents t).flatMap (lin st.hs 3)):=by
 have hi:i<st.threads.length:=(List.getElem?_eq_some_iff.1 ht).1
 by_cases hl:i+1<st.threads.length
 ·obtain ⟨x,x1,_,x3⟩:=h.old i t hl ht
  rw [x3]
  unfold RS.ents
  rw [x1]
 ·rcases List.eq_nil_or_concat st.threads with e|⟨tl,t2,e⟩
  ·rw [e] at hi;simp at hi
  ·rw [List.concat_eq_append] at e
   have hil:i=tl.length:=by rw [e] at hi hl;simp at hi hl;omega
   have htt:t2=t:=by
    rw [e,hil] at ht
    simpa using ht
   subst htt
   obtain ⟨ps,N,h1,_,h3,h4,h5⟩:=h.last tl t2 e
   have:ps=[]:=by
    rw [h1] at ho
    simpa using ho
   subst this
   obtain ⟨x,x1,x2,_,_⟩:=h5
   unfold RS.ents
   rw [x1]
   dsimp only
   rw [<-x2,<-h4,List.getLast?_eq_getElem?,h.len,hil,e]
   simp
theorem zek(l r:List UInt8)(h:(10:UInt8)∉l):Lib.cut (l++10::r) [10]=(l,r,true):=by
 unfold Lib.cut
 rw [zc8 10 l r h,if_pos yum]
 simp
theorem zfw(l:List UInt8)(h:(10:UInt8)∉l):(Lib.cut l [10]).2.2=false:=by
 unfold Lib.cut
 rw [Fs 10 l h,if_neg yum]
theorem zbe: ∀(f:Nat) (r:List UInt8) (j:Nat) (st st':RS),st.Ok j->j+r.length<=2000->Yc f r j st= .ok st'->st'.Ok 2000
 |0,r,j,st,st',hok,hl,hg=>by
  rw [Yc] at hg
  obtain rfl:=Except.ok.inj hg
  exact Ok.mono hok yum
 |f+1,r,j,st,st',hok,hl,hg=>by
  rw [Yc] at hg
  by_cases c:r=[]/\j≠0
  ·rw [if_pos c] at hg
   obtain rfl:=Except.ok.inj hg
   exact Ok.mono hok yum
  ·rw [if_neg c] at hg
   rcases zda 10 r with hno|⟨a,r',rfl,hno⟩
   ·have:=zfw r hno
    split at hg
    ·cases hg
    ·rename_i q;rw [q] at this;cases this
   ·rw [zek a r' hno] at hg
    dsimp only at hg
    cases h1:Vq st (Ql a) with
    |error er=>rw [h1] at hg;cases hg
    |ok st1=>
     rw [h1] at hg
     exact zbe f r' (j+1) st1 st' (Ir hok h1) (by simp at hl;omega) hg
def d0:DR:=⟨[],0,[],[],[],0⟩
end Go.Proofs.YtkenoofmkbghiaaGreatDoor
