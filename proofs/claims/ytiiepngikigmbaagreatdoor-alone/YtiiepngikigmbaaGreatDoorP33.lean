import Derived.Test.YtiiepngikigmbaaGreatDoorP32
set_option maxRecDepth 100000
set_option maxHeartbeats 2000000
namespace Go.Proofs.YtiiepngikigmbaaGreatDoor
open Go.RowKit
variable{f j tk:Nat}{rv:Value}{es:List En}{x:Hd}{e:En}
structure DeepL(st:RS)(lv:Nat->Nat):Prop where
 nest: ∀(i:Nat) (h:Hd),st.hs[i]?=some h->∀j, .inr j∈h.ents->lv j=lv i+1/\ ∃s,st.hk j=some (.st s)/\Qf s=true
 le: ∀i,i<st.hs.length->lv i<=3
 op: ∀(m j:Nat),st.opn[m]?=some j->lv j=m
 leaf: ∀(i:Nat) (h:Hd),st.hs[i]?=some h->∀s, .inl s∈h.ents->Qf s=false
 loop: ∀i n,st.hk i=some (.st (St.loop n))->1<=n/\n<=4
 thr: ∀t∈st.threads,lv t=0
def RS.Deep(st:RS):Prop:=∃lv,DeepL st lv
theorem zrp:(⟨[],0,[],[],[]⟩:RS).Deep:=⟨λ_=>0,⟨λi h hh=>by simp at hh,λi hi=>by simp at hi,λm j hj=>by simp at hj,λi h hh=>by simp at hh,λi n hh=>by simp [RS.hk] at hh,λt ht=>by simp at ht⟩⟩
section
variable{st st':RS}{lv:Nat->Nat}{k t o:Nat}{l l':List ByteArray}{c c':Nat}{s:St}
def z4g(st:RS)(lv:Nat->Nat)(o:Nat):En->Prop
 | .inl s=>Qf s=false
 | .inr j=>lv j=lv o+1/\ ∃s,st.hk j=some (.st s)/\Qf s=true
theorem DeepL.upd(h:DeepL st lv)(hkt:st.hk t=some (.thr l c))(e:En)(he:z4g st lv o e)
  (hsame:st'.shared=st.shared/\st'.cells=st.cells/\st'.threads=st.threads/\st'.opn=st.opn) (hlen:st'.hs.length=st.hs.length) (hget: ∀j,st'.hs[j]?=(st.hs[j]?).map (Zv t o (.thr l' c') e j)):DeepL st' lv:=by
 obtain ⟨s1,s2,s3,s4⟩:=hsame
 have hkj: ∀j,st'.hk j=(st.hk j).map λq=>if j=t then .thr l' c' else q:=ylz
 have hinv: ∀(j:Nat) (x:Hd),st'.hs[j]?=some x->∃y,st.hs[j]?=some y/\x=Zv t o (.thr l' c') e j y:=ykb
 have hst: ∀j s,st.hk j=some (.st s)->st'.hk j=some (.st s):=by
  intro j s hj
  have:j≠t:=λe=>by rw [e,hkt] at hj;simp at hj
  rw [hkj,hj]
  simp [this]
 refine {nest:=?_,le:=by rw [hlen];exact h.le,op:=by rw [s4];exact h.op,leaf:=?_,loop:=?_,thr:=by rw [s3];exact h.thr}
 ·intro i x hx j hj
  obtain ⟨y,hy,rfl⟩:=hinv i x hx
  simp only [Zv] at hj
  by_cases e1:i=o
  ·rw [if_pos e1,List.mem_append] at hj
   rcases hj with hj|hj
   ·obtain ⟨q1,s,q2,q3⟩:=h.nest i y hy j hj
    exact ⟨q1,s,hst j s q2,q3⟩
   ·have:e= .inr j:=by simp at hj;exact hj.symm
    subst this
    obtain ⟨q1,s,q2,q3⟩:=he
    exact ⟨e1▸q1,s,hst j s q2,q3⟩
  ·exact ylw
 ·intro i x hx s hs
  obtain ⟨y,hy,rfl⟩:=hinv i x hx
  simp only [Zv] at hs
  by_cases e1:i=o
  ·rw [if_pos e1,List.mem_append] at hs
   rcases hs with hs|hs
   ·exact h.leaf i y hy s hs
   ·have:e= .inl s:=by simp at hs;exact hs.symm
    subst this
    exact he
  ·rw [if_neg e1] at hs
   exact h.leaf i y hy s hs
 ·intro i n hi
  rw [hkj] at hi
  by_cases e1:i=t
  ·subst e1
   rw [hkt] at hi
   simp at hi
  ·apply h.loop i n
   cases hq:st.hk i with
   |none=>simp [hq] at hi
   |some q=>simpa [hq,e1] using hi
theorem DeepL.newH(h:DeepL st lv)(hok:st.Ok k)(hloop: ∀n,s=St.loop n->1<=n/\n<=4)(x:Nat)(hx:x<=3):DeepL (st.newH s) (λi=>if i=st.hs.length then x else lv i):=by
 have old: ∀j,j<st.hs.length->(st.newH s).hs[j]?=st.hs[j]?:=λj hj=>List.getElem?_append_left hj
 have new:(st.newH s).hs[st.hs.length]?=some ⟨.st s,[]⟩:=ym0
 have hlen:(st.newH s).hs.length=st.hs.length+1:=ym0
 have hko: ∀j,j<st.hs.length->(st.newH s).hk j=st.hk j:=λj hj=>by unfold RS.hk;rw [old j hj]
 have hinv: ∀(j:Nat) (y:Hd),(st.newH s).hs[j]?=some y->(j<st.hs.length/\st.hs[j]?=some y)\/(j=st.hs.length/\y=⟨.st s,[]⟩):=ykd
 refine {nest:=?_,le:=?_,op:=?_,leaf:=?_,loop:=?_,thr:=?_}
 ·exact yj8
 ·intro i hi
  split
  ·exact hx
  ·exact h.le i yl5
 ·intro m j hj
  have:j<st.hs.length:=hok.ent.2.2 j (List.mem_iff_getElem?.2 ⟨m,hj⟩)
  rw [if_neg yl5]
  exact h.op m j hj
 ·exact yle
 ·intro i n hi
  by_cases e:i<st.hs.length
  ·rw [hko i e] at hi
   exact h.loop i n hi
  ·obtain ⟨y,hy,hyk⟩:=Yy hi
   rcases hinv i y hy with ⟨hi',_⟩|⟨_,rfl⟩
   ·exact absurd hi' e
   ·exact hloop n (by simpa using hyk)
 ·intro t ht
  have:t<st.hs.length:=hok.ent.2.1 t ht
  rw [if_neg yl5]
  exact h.thr t ht
theorem Ze(st:RS)(t o:Nat)(q:HK)(e:En):((st.setK t q).addE o e).shared=st.shared/\((st.setK t q).addE o e).cells=st.cells/\((st.setK t q).addE o e).threads=st.threads/\((st.setK t q).addE o e).opn=st.opn:=by
 obtain ⟨a1,a2,a3,a4⟩:=zas (st:=st.setK t q) o e
 obtain ⟨d1,d2,d3,d4⟩:=Xu (st:=st) t q
 exact ⟨a1.trans d1,a2.trans d2,a3.trans d3,a4.trans d4⟩
theorem Yp{xs ys:List Hd}{g:Nat->Hd->Hd}(h: ∀j:Nat,xs[j]?=(ys[j]?).map (g j)):xs.length=ys.length:=by
 apply Nat.le_antisymm
 ·apply Nat.le_of_not_lt
  intro hlt
  have:=h ys.length
  rw [List.getElem?_eq_none (Nat.le_refl _),List.getElem?_eq_getElem hlt] at this
  simp at this
 ·apply Nat.le_of_not_lt
  intro hlt
  have:=h xs.length
  rw [List.getElem?_eq_none (Nat.le_refl _),List.getElem?_eq_getElem hlt] at this
  simp at this
theorem DeepL.lay(h:DeepL st lv)(hok:st.Ok k)(hl:st.lastT=some (t,l,c)){ol:List Nat}(ho:st.opn=ol++[o])(hr:st.hasRoom l c s=true)(hloop: ∀n,s=St.loop n->1<=n/\n<=4):(st.lay t o l c s).Deep:=by
 obtain ⟨r1,r2,r3⟩:=Om hr
 obtain ⟨tl,htl,hkt⟩:=Us hl
 have hom:o∈st.opn:=ymf
 have htlt:t<st.hs.length:=hok.ent.2.1 t ym1
 have holt:o<st.hs.length:=hok.ent.2.2 o hom
 have hlo:lv o=ol.length:=h.op ol.length o ymf
 unfold RS.lay
 split
 ·rename_i hh
  have h3:=r3 hh
  have hlen3:ol.length+1=st.opn.length:=ymf
  have hn:=h.newH hok hloop st.opn.length h3
  have hkn:(st.newH s).hk t=some (.thr l c):=by
   have:(st.newH s).hs[t]?=st.hs[t]?:=List.getElem?_append_left htlt
   unfold RS.hk
   rw [this]
   exact hkt
  have hknew:(st.newH s).hk st.hs.length=some (.st s):=by unfold RS.hk;simp [RS.newH]
  have hu:=hn.upd (l':=l) (c':=c+1) (o:=o) hkn (.sub st.hs.length) (show z4g _ _ _ (.inr st.hs.length) from ⟨by
   simp only
   rw [if_pos trivial,if_neg yl5,hlo]
   omega,s,hknew,hh⟩) (Ze _ _ _ _ _) (Yp (Vx _ _ _ _ _)) (Vx _ _ _ _ _)
  have hop:(((st.newH s).setK t (.thr l (c+1))).addE o (.sub st.hs.length)).opn=st.opn:=(Ze _ _ _ _ _).2.2.2
  refine ⟨_,{nest:=hu.nest,le:=hu.le,op:=?_,leaf:=hu.leaf,loop:=hu.loop,thr:=hu.thr}⟩
  intro m j hj
  rcases Nat.lt_or_ge m st.opn.length with hm|hm
  ·apply hu.op m j
   rw [hop]
   have hj':(st.opn++[st.hs.length])[m]?=some j:=hj
   rw [List.getElem?_append_left hm] at hj'
   exact hj'
  ·have hj':(st.opn++[st.hs.length])[m]?=some j:=hj
   have hml:=(List.getElem?_eq_some_iff.1 hj').1
   simp at hml
   obtain rfl:m=st.opn.length:=yl5
   simp at hj'
   subst hj'
   simp
 ·rename_i hh
  have hh':Qf s=false:=by simpa using hh
  split
  ·refine ⟨lv,h.upd (o:=o) hkt (.leaf s) (show z4g _ _ _ (.inl s) from hh') ?_ (Yp (Ol _ _ _ _ _ _)) (Ol _ _ _ _ _ _)⟩
   obtain ⟨a1,a2,a3,a4⟩:=Ze (st.setK t (.thr l (c+1))) t o (.thr (l++[Vg s]) (c+1)) (.leaf s)
   obtain ⟨d1,d2,d3,d4⟩:=Xu (st:=st) t (.thr l (c+1))
   exact ⟨a1.trans d1,a2.trans d2,a3.trans d3,a4.trans d4⟩
  ·exact ⟨lv,h.upd (o:=o) hkt (.leaf s) (show z4g _ _ _ (.inl s) from hh') (Ze _ _ _ _ _) (Yp (Vx _ _ _ _ _)) (Vx _ _ _ _ _)⟩
theorem DeepL.newT(h:DeepL st lv)(hok:st.Ok k):st.newT.Deep:=by
 have old: ∀j,j<st.hs.length->st.newT.hs[j]?=st.hs[j]?:=λj hj=>List.getElem?_append_left hj
 have new:st.newT.hs[st.hs.length]?=some ⟨.thr [] 0,[]⟩:=by simp [RS.newT]
 have hlen:st.newT.hs.length=st.hs.length+1:=by simp [RS.newT]
 have hko: ∀j,j<st.hs.length->st.newT.hk j=st.hk j:=λj hj=>by unfold RS.hk;rw [old j hj]
 have hinv: ∀(j:Nat) (y:Hd),st.newT.hs[j]?=some y->(j<st.hs.length/\st.hs[j]?=some y)\/(j=st.hs.length/\y=⟨.thr [] 0,[]⟩):=ykd
 refine ⟨λi=>if i=st.hs.length then 0 else lv i,{nest:=?_,le:=?_,op:=?_,leaf:=?_,loop:=?_,thr:=?_}⟩
 ·exact yj8
 ·intro i hi
  split
  ·omega
  ·exact h.le i yl5
 ·intro m j hj
  have hj':[st.hs.length][m]?=some j:=hj
  have hm:=(List.getElem?_eq_some_iff.1 hj').1
  simp at hm
  subst hm
  simp at hj'
  subst hj'
  simp
 ·exact yle
 ·intro i n hi
  by_cases e:i<st.hs.length
  ·rw [hko i e] at hi
   exact h.loop i n hi
  ·obtain ⟨y,hy,hyk⟩:=Yy hi
   rcases hinv i y hy with ⟨hi',_⟩|⟨_,rfl⟩
   ·exact absurd hi' e
   ·simp at hyk
 ·intro t ht
  rcases List.mem_append.1 (show t∈st.threads++[st.hs.length] from ht) with ht|ht
  ·have:t<st.hs.length:=hok.ent.2.1 t ht
   rw [if_neg yl5]
   exact h.thr t ht
  ·simp at ht
   simp [ht]
theorem DeepL.pop(h:DeepL st lv):RS.Deep {st with opn:=st.opn.dropLast}:=by
 refine ⟨lv,{nest:=h.nest,le:=h.le,op:=λm j hj=>h.op m j ?_,leaf:=h.leaf,loop:=h.loop,thr:=h.thr}⟩
 have hj':st.opn.dropLast[m]?=some j:=hj
 rw [List.dropLast_eq_take,List.getElem?_take] at hj'
 split at hj'
 ·exact hj'
 ·simp at hj'
theorem zfq{u:ByteArray}{ws ws1:List ByteArray}{n:Int}(h:Zs u ws=some (St.loop n,ws1)):1<=n/\n<=4:=by
 unfold Zs at h
 split at h
 ·unfold zn4 at h
  cases h1:gNm ws with
  |none=>simp [h1] at h
  |some p=>
   rw [h1] at h
   simp only [Option.bind_some] at h
   cases h2:gPV p.2 with
   |none=>simp [h2] at h
   |some q=>
    obtain ⟨y,ws3⟩:=q
    rw [h2] at h
    simp only [Option.bind_some] at h
    rcases ws3 with _|⟨u3,ws3⟩
    ·simp at h
    ·simp only at h
     cases h3:gOp (u3::ws3) with
     |none=>simp [h3] at h
     |some o=>
      rw [h3] at h
      simp only [Option.bind_some] at h
      cases h4:gPV o.2 with
      |none=>simp [h4] at h
      |some r=>simp [h4] at h
 ·split at h
  ·unfold zvd at h
   cases h1:gNm ws with
   |none=>simp [h1] at h
   |some p=>
    rw [h1] at h
    simp only [Option.bind_some] at h
    cases h2:gNm p.2 with
    |none=>simp [h2] at h
    |some q=>exact yld
  ·split at h
   ·unfold zve at h
    cases h1:gNm ws with
    |none=>simp [h1] at h
    |some p=>
     rw [h1] at h
     simp only [Option.bind_some] at h
     cases h2:gPV p.2 with
     |none=>simp [h2] at h
     |some q=>exact yld
   ·split at h
    ·cases h1:gPV ws with
     |none=>simp [h1] at h
     |some p=>simp [h1] at h
    ·split at h
     ·simp at h
     ·split at h
      ·cases h1:gPV ws with
       |none=>simp [h1] at h
       |some p=>simp [h1] at h
      ·split at h
       ·cases h1:gIn 1 4 ws with
        |none=>simp [h1] at h
        |some p=>
         rw [h1] at h
         simp at h
         rw [<-h.1]
         exact zme (v:=p.1) (ws1:=p.2) h1
       ·simp at h
end
attribute [local go_sem] Yr Gk Vw Yf Ys Gn Yt Gr Yu Yo Vh Zm Yb Ux Zc Yx
def Ue:St->Bool
 | .inr (.inr (.inr (.inr (.inl _))))=>true
 |_=>false
section
variable{w:World}{b:Nat}
theorem zwe(s:St)(hh:Qf s=false):Cl 87 #[stV s] w λe w'=>e= .returned (.bool false)/\w'=w:=by
 rcases s with ⟨to,a⟩|⟨to,k,a,c⟩|⟨to,f,a⟩|⟨f,a,c⟩|a|⟨⟩|a|n
 ·exact yj6
 ·exact yj6
 ·exact yj6
 ·exact yj6
 ·exact yj6
 ·simp [Qf] at hh
 ·simp [Qf] at hh
 ·simp [Qf] at hh
theorem z0g(s:St)(hh:Qf s=true):Cl 87 #[.iface (hkT (.st s)) (ptr b)] w λe w'=>e= .returned (.bool (HK.isAtomic (.st s)))/\w'=w:=by
 rcases s with ⟨to,a⟩|⟨to,k,a,c⟩|⟨to,f,a⟩|⟨f,a,c⟩|a|⟨⟩|a|n
 ·simp [Qf] at hh
 ·simp [Qf] at hh
 ·simp [Qf] at hh
 ·simp [Qf] at hh
 ·simp [Qf] at hh
 ·exact ykt
 ·exact ykt
 ·exact ykt
theorem zwf(s:St)(hh:Qf s=false):Cl 90 #[stV s] w λe w'=>e= .returned (.bool (Ue s))/\Below w.heap.size w w':=by
 rcases s with ⟨to,a⟩|⟨to,k,a,c⟩|⟨to,f,a⟩|⟨f,a,c⟩|a|⟨⟩|a|n
 ·exact yjt
 ·exact yjt
 ·exact yjt
 ·exact yjt
 ·exact yjt
 ·simp [Qf] at hh
 ·simp [Qf] at hh
 ·simp [Qf] at hh
theorem z0h(s:St)(hh:Qf s=true):Cl 90 #[.iface (hkT (.st s)) (ptr b)] w λe w'=>e= .returned (.bool false)/\Below w.heap.size w w':=by
 rcases s with ⟨to,a⟩|⟨to,k,a,c⟩|⟨to,f,a⟩|⟨f,a,c⟩|a|⟨⟩|a|n
 ·simp [Qf] at hh
 ·simp [Qf] at hh
 ·simp [Qf] at hh
 ·simp [Qf] at hh
 ·simp [Qf] at hh
 ·exact yjy
 ·exact yjy
 ·exact yjy
end
structure Ar(hs:List Hd)(ms:List HM)(w:World):Prop where
 hd: ∀i (h:i<ms.length),HdAt w (Qu ms) ms[i]
 hs:ms.map (·.h)=hs
def enG(hs:List Hd):Nat->En->Prop
 |0,e=>∃s,e= .inl s/\Qf s=false
 |f+1,e=>(∃s,e= .inl s/\Qf s=false)\/ ∃j h s,e= .inr j/\hs[j]?=some h/\h.k= .st s/\Qf s=true/\(1<=Jk s/\Jk s<=4)/\h.ents.length<=14/\ ∀e∈h.ents,enG hs f e
def Jb(hs:List Hd):En->List En
 | .inl _=>[]
 | .inr j=>match hs[j]? with
  |some h=>h.ents
  |none=>[]
def Vb(hs:List Hd):En->Int
 | .inl _=>1
 | .inr j=>match hs[j]? with
  |some ⟨.inr s,_⟩=>Jk s
  |_=>1
def Zn(hs:List Hd)(kd:En->Bool):Nat->En->Int
 |0,e=>if kd e=true then 1 else 0
 |f+1,e=>(if kd e=true then 1 else 0)+Vb hs e*((Jb hs e).map (Zn hs kd f)).sum
def kdA(hs:List Hd):En->Bool
 | .inl _=>false
 | .inr j=>match hs[j]? with
  |some h=>h.k.isAtomic
  |none=>false
def kdO:En->Bool
 | .inl s=>Ue s
 | .inr _=>false
section
variable{hs:List Hd}{ms:List HM}{w w':World}
theorem Ar.below(h:Ar hs ms w)(hb:Below w.heap.size w w'):Ar hs ms w':=
 ⟨λi hi=>(h.hd i hi).keep (M:=λ_ _=>False) (Chg.of_below hb) (λ_ e=>e) (λ_ _ _ e=>e) (λ_ _ e=>e),h.hs⟩
theorem Ar.at(h:Ar hs ms w)(hj:hs[j]?=some x): ∃hl:j<ms.length,ms[j].h=x:=by
 rw [<-h.hs,List.getElem?_map] at hj
 cases hm:ms[j]? with
 |none=>simp [hm] at hj
 |some m=>
  obtain ⟨hl,hm'⟩:=List.getElem?_eq_some_iff.1 hm
  refine ⟨hl,?_⟩
  rw [hm']
  simpa [hm] using hj
theorem Eg(h:Ar hs ms w)(hj:hs[j]?=some x): ∃hl:j<ms.length,ms[j].h=x/\enV (Qu ms) (.inr j)= .iface (hkT x.k) (ptr ms[j].b):=by
 obtain ⟨hl,e⟩:=h.at hj
 refine ⟨hl,e,?_⟩
 show idV (Qu ms) j=_
 simp [idV,Qu,List.getElem?_eq_getElem hl,e]
theorem zbx(kd:En->Bool): ∀f e,enG hs f e->0<=Zn hs kd f e/\Zn hs kd f e<=(60:Int)^f
 |0,e,_=>by unfold Zn;split<;>simp
 |f+1,e,h=>by
  have hp:(0:Int)<60^f:=Int.pow_pos yl5
  have hpe:(60:Int)^(f+1)=60*60^f:=by rw [Int.pow_succ,Int.mul_comm]
  unfold Zn
  rcases h with ⟨s,rfl,_⟩|⟨j,x,s,rfl,hj,hk,hh,ht,hl,he⟩
  ·simp only [Vb,Jb,List.map_nil,List.sum_nil]
   rw [hpe]
   split<;>omega
  ·have e1:Vb hs (.inr j)=Jk s:=by
    simp only [Vb,hj]
    obtain ⟨k,es⟩:=x
    simp only at hk
    subst hk
    rfl
   have e2:Jb hs (.inr j)=x.ents:=ym2
   rw [e1,e2,hpe]
   obtain ⟨b1,b2⟩:=zap (Zn hs kd f) (60^f) yl5 x.ents (λe he'=>zbx kd f e (he e he'))
   generalize (x.ents.map (Zn hs kd f)).sum=S at*
   generalize Jk s=t at*
   have hl':(x.ents.length:Int)<=14:=yl5
   have b3:S<=14*60^f:=Int.le_trans b2 (Int.mul_le_mul_of_nonneg_right hl' yl5)
   generalize (60:Int)^f=P at*
   have b4:0<=t*S:=Int.mul_nonneg yl5 b1
   have b5:t*S<=4*S:=Int.mul_le_mul_of_nonneg_right ht.2 b1
   split<;>omega
def zrq(hs:List Hd)(ms:List HM)(tk:Nat)(kd:En->Bool):Prop:=∀w1,Ar hs ms w1->∀f e,enG hs f e->Cl tk #[enV (Qu ms) e] w1 λr w'=>r= .returned (.bool (kd e))/\Below w1.heap.size w1 w'
theorem zka(w:World):w.ownsRow 0 138 1 (.slice none 0 0) 0 []:=⟨rfl, .inl ⟨rfl,rfl⟩⟩
theorem zhz(hent: ∀args w,(callFunc tk args).run Tryz.prog w= .ok (.enter tk args) w)(w:World):Cl 86 #[.slice none 0 0, .func (.func tk) #[] #[]] w λr w'=>r= .returned (.int .i64 0)/\Below w.heap.size w w':=
 zd2 (es:=[]) (ids:=[]) (zka w) yl6 (λ_=>True) trivial (hid λ_ _ _ _=>trivial) (λ_=>false) (λ_=>0) (λ_=>0) (λ_=>0) (λ_=> .nilIface) hent (hid λ_ _ e he=>by simp at he) (hid λ_ _ e he=>by simp at he) (hid λ_ _ e he=>by simp at he) (hid λ_ _ e he=>by simp at he) (hid λe he=>by simp at he) (hid λe he=>by simp at he)
theorem Gt: ∀f e,enG hs f e->enG hs (f+1) e
 |0,_,h=> .inl h
 |f+1,_,h=>by
  rcases h with h|⟨j,x,s,h1,h2,h3,h4,h5,h6,h7⟩
  ·exact .inl h
  ·exact .inr ⟨j,x,s,h1,h2,h3,h4,h5,h6,λe he=>Gt f e (h7 e he)⟩
def wiV(ms:List HM):En->Value
 | .inl _=> .slice none 0 0
 | .inr j=>match ms[j]? with
  |some m=>m.rv
  |none=> .slice none 0 0
theorem zrr(h:Ar hs ms w)(he:enG hs f e):Cl 119 #[enV (Qu ms) e] w λr w'=>r= .returned (.int .i64 (Vb hs e))/\w'=w:=by
 have he':enG hs (f+1) e:=Gt f e he
 rcases he' with ⟨s,rfl,hh⟩|⟨j,x,s,rfl,hj,hk,hh,_⟩
 ·exact zfp s hh
 ·obtain ⟨hl,e1,e2⟩:=Eg h hj
  rw [e2,hk]
  have ht:Vb hs (.inr j)=Jk s:=by
   simp only [Vb,hj]
   obtain ⟨k,es⟩:=x
   simp only at hk
   subst hk
   rfl
  rw [ht]
  have hkk:=(h.hd j hl).kind
  rw [e1,hk] at hkk
  exact zrh s hh hkk
theorem On(h:Ar hs ms w)(he:enG hs f e):Cl 120 #[enV (Qu ms) e] w λr w'=>r= .returned (wiV ms e)/\w'=w:=by
 have he':enG hs (f+1) e:=Gt f e he
 rcases he' with ⟨s,rfl,hh⟩|⟨j,x,s,rfl,hj,hk,hh,_⟩
 ·exact zj6 s hh
 ·obtain ⟨hl,e1,e2⟩:=Eg h hj
  rw [e2,hk]
  have hw:wiV ms (.inr j)=ms[j].rv:=by simp [wiV,List.getElem?_eq_getElem hl]
  rw [hw]
  exact zoc s hh (h.hd j hl).rc
theorem zgn{kd:En->Bool}(hent: ∀args w,(callFunc tk args).run Tryz.prog w= .ok (.enter tk args) w)(hK:zrq hs ms tk kd): ∀f,f<=4->∀(w:World) (rv:Value) (es:List En),Ar hs ms w->w.ownsRow 0 138 1 rv es.length (es.map (enV (Qu ms)))->es.length<=14->(∀e∈es,enG hs f e) ->
  Cl 86 #[rv, .func (.func tk) #[] #[]] w λr w'=>r= .returned (.int .i64 (es.map (Zn hs kd f)).sum)/\Below w.heap.size w w'
 |0,_,w,rv,es,hA,hrow,h14,hes=>by
  refine zd2 hrow h14 (Ar hs ms) hA (hid λ_ _ h1 hb=>h1.below hb) kd (λ_=>1) (λ_=>0) (Zn hs kd 0) (wiV ms) hent (hid λw1 h1 e he=>hK w1 h1 0 e (hes e he)) (hid λw1 h1 e he=>?_) (hid λw1 h1 e he=>On h1 (hes e he)) (hid λw1 h1 e he=>?_) (hid λe he=>by simp [Zn]) (hid λe he=>by simp)
  ·obtain ⟨s,rfl,hh⟩:=hes e he
   exact zfp s hh
  ·obtain ⟨s,rfl,hh⟩:=hes e he
   exact zhz hent w1
 |f+1,hf,w,rv,es,hA,hrow,h14,hes=>by
  refine zd2 hrow h14 (Ar hs ms) hA (hid λ_ _ h1 hb=>h1.below hb) kd (Vb hs) (λe=>((Jb hs e).map (Zn hs kd f)).sum) (Zn hs kd (f+1)) (wiV ms) hent (hid λw1 h1 e he=>hK w1 h1 (f+1) e (hes e he)) (hid λw1 h1 e he=>zrr h1 (hes e he)) (hid λw1 h1 e he=>On h1 (hes e he)) (hid λw1 h1 e he=>?_) (hid λe he=>rfl) (hid λe he=>?_)
  ·rcases hes e he with ⟨s,rfl,hh⟩|⟨j,x,s,rfl,hj,hk,hh,ht,hl,hsub⟩
   ·exact zhz hent w1
   ·obtain ⟨hl2,e1⟩:=h1.at hj
    have hw:wiV ms (.inr j)=ms[j].rv:=by simp [wiV,List.getElem?_eq_getElem hl2]
    have e2:Jb hs (.inr j)=x.ents:=ym2
    rw [hw,e2]
    have hr:=(h1.hd j hl2).row
    rw [e1] at hr
    exact zgn hent hK f yl5 w1 _ _ h1 hr hl hsub
  ·have hb:=zbx kd (f+1) e (hes e he)
   have h4:(60:Int)^(f+1)<=12960000:=by
    have:f+1=1\/f+1=2\/f+1=3\/f+1=4:=yl5
    rcases this with e|e|e|e<;>rw [e]<;>decide
   rcases hes e he with ⟨s,rfl,hh⟩|⟨j,x,s,rfl,hj,hk,hh,ht,hl,hsub⟩
   ·simp [Vb,Jb]
   ·have e1:Vb hs (.inr j)=Jk s:=by
     simp only [Vb,hj]
     obtain ⟨k,es⟩:=x
     simp only at hk
     subst hk
     rfl
    have e2:Jb hs (.inr j)=x.ents:=ym2
    obtain ⟨b1,_⟩:=zap (Zn hs kd f) (60^f) (Int.le_of_lt (Int.pow_pos yl5)) x.ents (λe he'=>zbx kd f e (hsub e he'))
    simp only [Zn,e1,e2] at hb⊢
    generalize (x.ents.map (Zn hs kd f)).sum=S at*
    have b4:0<=Jk s*S:=Int.mul_nonneg yl5 b1
    refine ⟨b4,?_⟩
    have:=hb.2
    split at this<;>omega
theorem z5l:zrq hs ms 87 (kdA hs):=by
 intro w1 h1 f e he
 have he':enG hs (f+1) e:=Gt f e he
 rcases he' with ⟨s,rfl,hh⟩|⟨j,x,s,rfl,hj,hk,hh,_⟩
 ·refine (zwe s hh).mono ?_
  rintro r w' ⟨rfl,rfl⟩
  exact ⟨rfl,Below.refl _ _⟩
 ·obtain ⟨hl,e1,e2⟩:=Eg h1 hj
  rw [e2,hk]
  refine (z0g s hh).mono ?_
  rintro r w' ⟨rfl,rfl⟩
  exact ⟨by simp only [kdA,hj,hk],Below.refl _ _⟩
theorem z5m:zrq hs ms 90 kdO:=by
 intro w1 h1 f e he
 have he':enG hs (f+1) e:=Gt f e he
 rcases he' with ⟨s,rfl,hh⟩|⟨j,x,s,rfl,hj,hk,hh,_⟩
 ·exact zwf s hh
 ·obtain ⟨hl,e1,e2⟩:=Eg h1 hj
  rw [e2,hk]
  exact z0h s hh
theorem zok: ∀args w,(callFunc 87 args).run Tryz.prog w= .ok (.enter 87 args) w:=λ_ _=>by kernel_rfl
theorem zwg: ∀args w,(callFunc 90 args).run Tryz.prog w= .ok (.enter 90 args) w:=λ_ _=>by kernel_rfl
theorem zrs(hf:f<=4)(hA:Ar hs ms w)(hrow:w.ownsRow 0 138 1 rv es.length (es.map (enV (Qu ms))))(h14:es.length<=14)(hes: ∀e∈es,enG hs f e):
  Cl 56 #[rv] w λr w'=>r= .returned (.int .i64 (es.map (Zn hs (kdA hs) f)).sum)/\Below w.heap.size w w':=by
 have K:=hid (zgn zok z5l f hf w rv es hA hrow h14 hes)
 clear hA hrow hes
 generalize (es.map (Zn hs (kdA hs) f)).sum=S at*
 go_enter Tryz.func56,Tryz.ntmps56
 go_wp2_with fail
 refine K.out.mono ?_
 rintro e w1 ⟨rfl,b1⟩
 have B1:=hid b1
 clear b1 K
 go_wp2
 go_ret
 exact ⟨rfl,B1.out⟩
theorem z0i(hf:f<=4)(hA:Ar hs ms w)(hrow:w.ownsRow 0 138 1 rv es.length (es.map (enV (Qu ms))))(h14:es.length<=14)(hes: ∀e∈es,enG hs f e):
  Cl 58 #[rv] w λr w'=>r= .returned (.int .i64 (es.map (Zn hs kdO f)).sum)/\Below w.heap.size w w':=by
 have K:=hid (zgn zwg z5m f hf w rv es hA hrow h14 hes)
 clear hA hrow hes
 generalize (es.map (Zn hs kdO f)).sum=S at*
 go_enter Tryz.func58,Tryz.ntmps58
 go_wp2_with fail
 refine K.out.mono ?_
 rintro e w1 ⟨rfl,b1⟩
 have B1:=hid b1
 clear b1 K
 go_wp2
 go_ret
 exact ⟨rfl,B1.out⟩
end
open Go.RowKit Go.Shelf
attribute [local go_sem] Oper.semAt_some
theorem zrt(k:Nat):Fence.wide.room k:=λd h=>by cases h
theorem zh0{m:Nat}(m':Nat){P:Program}{l:Nat}{args:Array Value}{W:World}{R:Ending->World->Prop}(h:YieldAt Fence.wide m P l args W R):YieldAt Fence.wide m' P l args W R:=by
 obtain ⟨fn,tmps,assign,body,hy,hR⟩:=h
 exact ⟨fn,tmps,assign,body,hy,hR.1,λc cs _=>hR.2 c cs (zrt _)⟩
def Jf(hs:List Hd):Nat->List En->List En
 |0,es=>es
 |f+1,es=>es.flatMap λe=>e::Jf hs f (Jb hs e)
abbrev zcs(hs:List Hd):={e:En // enG hs 3 e}
section
variable{hs:List Hd}{ms:List HM}{W0:World}
theorem zgo(n l n₀ N:Nat)(hA0:Ar hs ms W0)(hn₀:W0.heap.size<=n₀)(hrow:W0.ownsRow 0 138 1 rv es.length (es.map (enV (Qu ms))))(h14:es.length<=14)(hes:Hid (∀e∈es,enG hs 3 e))(J Jx:List (zcs hs)->World->Prop)
  (hY:Hid (∀m pre (x:zcs hs) W,J pre W->Below W0.heap.size W0 W->pre.length<N->YieldAt Fence.wide m Tryz.prog l #[enV (Qu ms) x.1] W λe W'=>(e= .returned (.bool true)/\J (pre++[x]) W'/\Below n₀ W W')\/(e= .returned (.bool false)/\Jx (pre++[x]) W')))
  (sub:En->List En)
  (RK:Hid (∀m pre W,J pre W->Below W0.heap.size W0 W->∀e∈es,pre.length+(sub e).length<=N->CallsIn Fence.wide m Tryz.prog 89 #[wiV ms e, .func (.yield l) #[] #[]] W λe' W'=>(e'= .returned (.bool true)/\(∃ys:List (zcs hs),ys.map (·.1)=sub e/\J (pre++ys) W')/\Below n₀ W W')\/(e'= .returned (.bool false)/\ ∃q:List (zcs hs),q.map (·.1)<+:sub e/\Jx (pre++q) W')))
  (pre:List (zcs hs)) (W:World) (hJ:J pre W) (hW:Below W0.heap.size W0 W) (hN:pre.length+(es.flatMap λe=>e::sub e).length<=N):
  CallsIn Fence.wide n Tryz.prog 89 #[rv, .func (.yield l) #[] #[]] W λe W'=>(e= .returned (.bool true)/\(∃ys:List (zcs hs),ys.map (·.1)=(es.flatMap λe=>e::sub e)/\J (pre++ys) W')/\Below n₀ W W')\/(e= .returned (.bool false)/\ ∃q:List (zcs hs),q.map (·.1)<+:(es.flatMap λe=>e::sub e)/\Jx (pre++q) W'):=by
 obtain ⟨ra,rk,hrv⟩: ∃a k,rv= .slice a es.length k:=ykh
 subst hrv
 have HC:Hid (∀k (hk:k<es.length),∃g,ra=some ⟨g,0,none⟩/\es.length<=rk/\g<W0.heap.size/\W0.cell? ⟨g,k,none⟩=some (enV (Qu ms) es[k])):=yjx
 have HSN:Hid (∀k (hk:k<es.length),((es.take (k+1)).flatMap λe=>e::sub e)=((es.take k).flatMap λe=>e::sub e)++(es[k]::sub es[k])):=ykl
 have HPF:Hid (∀k,∃r,(es.flatMap λe=>e::sub e)=((es.take k).flatMap λe=>e::sub e)++r):=ylj
 have HA:=hid hA0
 clear hrow hA0
 refine callsIn_of_wp Tryz.func89 rfl trivial ?_ rfl
 simp only [Tryz.ntmps89,List.size_toArray,List.length_cons,List.length_nil,Nat.reduceAdd,Nat.reduceSub,Array.replicate_succ,Array.replicate_zero,List.push_toArray,List.append_toArray,List.nil_append,List.cons_append]
 have hw: ∀f,Fence.wide.fn f:=λ_=>trivial
 have hdd: ∀k:Nat,(Fence.wide.depth.isSome=true->1<=k):=λk h=>by cases h
 have HJ0:=hid hJ
 have HW0:=hid hW
 have HN:=hid hN
 clear hJ hW hN
 gi_wp2
 gi_loopw [9] (λi wr=>∃k:Nat,k<=es.length/\i= .int .i64 k/\Hid (∃ys:List (zcs hs),ys.map (·.1)=((es.take k).flatMap λe=>e::sub e)/\J (pre++ys) wr)/\Hid (Below n₀ W wr))
  (λi _=>es.length- (intOf i).toNat)
 case atStart=>exact ⟨0,Nat.zero_le _,rfl,⟨[],by simp,by simpa using HJ0.out⟩,Below.refl _ _⟩
 case round=>
  obtain ⟨k,hk,rfl,hys,hB⟩:=hrel
  by_cases hlt:k<es.length
  ·have hlt':(k:Int)<(es.length:Int):=by omega
   obtain ⟨g,hra,hrk,hg,hcell⟩:=HC.out k hlt
   subst hra
   obtain ⟨ys,hy1,hJ1⟩:=hys.out
   have hWr:Below W0.heap.size W0 wr:=HW0.out.trans (hB.out.mono hn₀)
   have hcell':wr.cell? ⟨g,k,none⟩=some (enV (Qu ms) es[k]):=(hWr.cell (p:=⟨g,k,none⟩) hg).trans hcell
   have hmem:es[k]∈es:=List.getElem_mem hlt
   have hlen:ys.length=((es.take k).flatMap λe=>e::sub e).length:=by rw [<-hy1];simp
   obtain ⟨rest,hrest⟩:=HPF.out (k+1)
   have hsn:=HSN.out k hlt
   have hN1:pre.length+ys.length+1+(sub es[k]).length<=N:=ylv
   obtain ⟨X,hX⟩: ∃X:zcs hs,X.1=es[k]:=⟨⟨es[k],hes.out _ hmem⟩,rfl⟩
   obtain ⟨fn,tmps,assign,body,hy,hR⟩:=hY.out (n- 1) (pre++ys) X wr hJ1 hWr yma
   rw [hX] at hy
   have hR':=hR.mono (R':=λe W'=>(e= .returned (.bool true)/\Hid (J (pre++ys++[X]) W'/\Below n₀ wr W'))\/(e= .returned (.bool false)/\Hid (Jx (pre++ys++[X]) W'))) (λe W' h=>h.elim (λh=> .inl ⟨h.1,hid h.2⟩) (λh=> .inr ⟨h.1,hid h.2⟩))
   have KW:=hid (λw1 (h1:Below W0.heap.size W0 w1)=>(callsIn_wide (n:=n- 1)).2 (On (HA.out.below h1) (hes.out _ hmem)))
   have KR:=hid (λW3 (h1:J (pre++ys++[X]) W3) (h2:Below W0.heap.size W0 W3)=>RK.out (n- 1) (pre++ys++[X]) W3 h1 h2 es[k] hmem yma)
   have HWr:=hid hWr
   have HS:Hid (∀zs:List (zcs hs),zs.map (·.1)=sub es[k]->(ys++[X]++zs).map (·.1)=((es.take (k+1)).flatMap λe=>e::sub e)):=by
    intro zs hz
    rw [hsn,List.map_append,List.map_append,hy1,hz]
    simp [hX]
   have HP:Hid (∀q:List (zcs hs),q.map (·.1)<+:sub es[k]->(ys++[X]++q).map (·.1)<+:(es.flatMap λe=>e::sub e)):=yla
   clear hcell hR hWr hJ1 hsn hrest hN1 hlen hy1 hys HJ0 HN
   generalize enV (Qu ms) es[k]=v at*
   generalize wiV ms es[k]=wv at*
   generalize sub es[k]=sk at*
   gi_wp2_with (first
    |((try refine ⟨hdd _,?_⟩);refine hR'.mono ?_;clear hR';rintro e W3 (⟨rfl,hJ3⟩|⟨rfl,hJx3⟩))
    |((try refine ⟨hdd _,?_⟩);gi_at_call 120;refine (KW.out _ (HWr.out.trans (hJ3.out.2.mono hn₀))).mono ?_;clear KW;rintro e w' ⟨rfl,rfl⟩)
    |((try refine ⟨hdd _,?_⟩);gi_at_call 89;refine (KR.out _ hJ3.out.1 (HWr.out.trans (hJ3.out.2.mono hn₀))).mono ?_;clear KR;rintro e W4 (⟨rfl,hq⟩|⟨rfl,hq⟩)))
   ·exact ykk
   ·exact ylc
   ·exact ylm
  ·have hlt': ¬(k:Int)<(es.length:Int):=by omega
   have hke:k=es.length:=yl5
   subst hke
   obtain ⟨ys,hy1,hJ1⟩:=hys.out
   rw [List.take_length] at hy1
   have HY:=hid hy1
   have HJ1:=hid hJ1
   clear hy1 hJ1 hys HJ0 HN
   gi_wp2
   go_ret
   exact .inl ⟨rfl,⟨ys,HY.out,HJ1.out⟩,hB.out⟩
end
end Go.Proofs.YtiiepngikigmbaaGreatDoor
