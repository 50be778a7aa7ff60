import Derived.Test.YtphcopbffecceaaGreatDoorP16
set_option maxRecDepth 100000
set_option maxHeartbeats 2000000
namespace Go.Proofs.YtphcopbffecceaaGreatDoor
open Go.RowKit
variable{W w w':World}{st:RS}{br c j n p:Nat}{x:Hd}{ol:List Nat}{f s:ByteArray}{a:Option Addr}{es:List En}
section
variable{st st':RS}{lv:Nat->Nat}{ib:Nat->Bool}{wt:Nat->Nat}{k t o:Nat}{l l':List ByteArray}{c:Nat}{s:St}
theorem zwu(hj:j<st.hs.length)(x:Hd):RS.isAt {st with hs:=st.hs++[x]} j=st.isAt j:=by
 unfold RS.isAt RS.hk
 have:(st.hs++[x])[j]?=st.hs[j]?:=List.getElem?_append_left hj
 show ((((st.hs++[x])[j]?).map _).map _).getD false=_
 rw [this]
theorem zaw{y:Hd}(hy:(st.hs++[x])[j]?=some y):(j<st.hs.length/\st.hs[j]?=some y)\/(j=st.hs.length/\y=x):=by
 by_cases e:j<st.hs.length
 ·left;exact ⟨e,by rw [<-hy,List.getElem?_append_left e]⟩
 ·right
  have hj:=(List.getElem?_eq_some_iff.1 hy).1
  simp at hj
  obtain rfl:j=st.hs.length:=yai
  simp at hy
  exact ⟨rfl,hy.symm⟩
theorem zyy(hj:j<st.hs.length)(x:Hd):RS.hk {st with hs:=st.hs++[x]} j=st.hk j:=by
 unfold RS.hk
 show ((st.hs++[x])[j]?).map _=_
 rw [List.getElem?_append_left hj]
theorem Fit.newH(h:Fit st lv ib wt)(hok:st.Ok k)(s:St)(x:Nat)(hx:x<=3)(b:Bool):
  Fit (st.newH s) (λi=>if i=st.hs.length then x else lv i) (λi=>if i=st.hs.length then b else ib i) (λi=>if i=st.hs.length then 0 else wt i):=by
 have hopn: ∀j∈st.opn,j<st.hs.length:=hok.ent.2.2
 have hent: ∀(i:Nat) (y:Hd),st.hs[i]?=some y->∀j, .inr j∈y.ents->j<st.hs.length:=λi y hy j hj=>hok.ent.1 y (List.mem_iff_getElem?.2 ⟨i,hy⟩) j hj
 refine {nest:=?_,le:=?_,op:=?_,hd:=h.hd,leaf:=?_,thr:=?_,occ:=?_,w:=?_,c:=?_,sh:=h.sh}
 ·intro i y hy j hj
  rcases zaw hy with ⟨hi,hy'⟩|⟨_,rfl⟩
  ·have hjl:=hent i y hy' j hj
   obtain ⟨q1,s2,q2,q3⟩:=h.nest i y hy' j hj
   try simp only
   rw [if_neg yai,if_neg yai,if_neg yai,if_neg yai]
   exact ⟨q1,s2,(zyy hjl _).trans q2,q3⟩
  ·simp at hj
 ·intro i hi
  have:i<st.hs.length+1:=by simpa [RS.newH] using hi
  try simp only
  split
  ·exact hx
  ·exact h.le i yai
 ·intro m j hj
  have hjo:j∈st.opn:=List.mem_iff_getElem?.2 ⟨m,hj⟩
  have hjl:=hopn j hjo
  obtain ⟨q1,q2⟩:=h.op m j hj
  try simp only
  rw [if_neg yai,if_neg yai]
  exact ⟨q1,q2.trans (zh6 _ λy hy=>(zwu (hopn y (List.mem_of_mem_take hy)) _).symm)⟩
 ·intro i y hy s2 hs2
  rcases zaw hy with ⟨hi,hy'⟩|⟨_,rfl⟩
  ·exact z90
  ·simp at hs2
 ·intro t ht
  have:t<st.hs.length:=hok.ent.2.1 t ht
  try simp only
  rw [if_neg yai,if_neg yai]
  exact h.thr t ht
 ·intro j hj i y hy
  rcases zaw hy with ⟨hi,hy'⟩|⟨_,rfl⟩
  ·exact h.occ j hj i y hy'
  ·simp
 ·intro i y hy
  rcases zaw hy with ⟨hi,hy'⟩|⟨_,rfl⟩
  ·exact z9e
  ·simp
 ·intro t ht l c hk
  have:t<st.hs.length:=hok.ent.2.1 t ht
  try simp only
  rw [if_neg yai]
  exact h.c t ht l c ((zyy this _).symm.trans hk)
theorem inB_is(h:Fit st lv ib wt)(ho:st.opn=ol++[o]):ib o=st.inB:=by
 rw [(h.op ol.length o yas).2]
 have:st.opn.take (ol.length+1)=st.opn:=List.take_of_length_le yas
 rw [this]
 rfl
theorem zsb(hh:Qf s=true):HK.isAtomic (.st s)=true↔s=St.atomic:=by
 rcases s with ⟨to,a⟩|⟨to,k,a,c⟩|⟨to,f,a⟩|⟨f,a,c⟩|a|⟨⟩|a|n<;>simp_all [Qf,HK.isAtomic]
theorem zkm(hm:st.mayStand St.atomic=true):st.inB=false:=by
 simp [RS.mayStand] at hm
 exact hm.2
theorem zkn(hm:st.mayStand s=true)(hf:Xg s=some f):st.inB=true:=by
 rcases s with ⟨to,a⟩|⟨to,k,a,c⟩|⟨to,f,a⟩|⟨f,a,c⟩|a|⟨⟩|a|n<;>simp_all [Xg,RS.mayStand]
theorem zos(hm:st.mayName l s=true)(hf:Xg s=some f):st.isSh f=true:=by
 unfold RS.mayName at hm
 rw [hf] at hm
 simp only [Bool.and_eq_true] at hm
 exact hm.2.2
theorem Fit.lay(h:Fit st lv ib wt)(hok:st.Ok k)(hl:st.lastT=some (t,l,c))(ho:st.opn=ol++[o])(hr:st.hasRoom l c s=true)(hm:st.mayStand s=true)(hnm:st.mayName l s=true)
  (hz:zl9 s) (hn:zop s) (hloop: ∀n,s=St.loop n->1<=n/\n<=4):(st.lay t o l c s).Fits:=by
 obtain ⟨r1,r2,r3⟩:=Om hr
 obtain ⟨tl,htl,hkt⟩:=Us hl
 have hom:o∈st.opn:=yas
 have htlt:t<st.hs.length:=hok.ent.2.1 t ybn
 have holt:o<st.hs.length:=hok.ent.2.2 o hom
 have hlo:lv o=ol.length:=(h.op ol.length o yas).1
 have hib:=inB_is h ho
 have hent: ∀(i:Nat) (y:Hd),st.hs[i]?=some y->∀j, .inr j∈y.ents->j<st.hs.length:=λi y hy j hj=>hok.ent.1 y (List.mem_iff_getElem?.2 ⟨i,hy⟩) j hj
 unfold RS.lay
 split
 ·rename_i hh
  have h3:=r3 hh
  have hlen3:ol.length+1=st.opn.length:=yas
  have hnew:=h.newH hok s st.opn.length h3 (st.inB||HK.isAtomic (.st s))
  have hln:(st.newH s).lastT=some (t,l,c):=(Ok.newH hok s).2.trans hl
  have hknew:(st.newH s).hk st.hs.length=some (.st s):=by unfold RS.hk;simp [RS.newH]
  have hu:=hnew.upd (l':=l) hln (show (st.newH s).opn=ol++[o] from ho) (.sub st.hs.length) (show zwt _ _ _ _ _ (.inr st.hs.length) from ⟨by
    show (if st.hs.length=st.hs.length then st.opn.length else lv st.hs.length)=(if o=st.hs.length then st.opn.length else lv o)+1
    rw [if_pos rfl,if_neg yai,hlo]
    omega,⟨s,hknew,hh,hz,hn,hloop,λha=>by
    show (if o=st.hs.length then _ else ib o)=false/\(if st.hs.length=st.hs.length then _ else _)=true
    rw [if_neg yai,if_pos rfl,ha]
    have:=(zsb hh).1 ha
    subst this
    exact ⟨hib.trans (zkm hm),by simp⟩,λha=>by
    show (if st.hs.length=st.hs.length then _ else _)=(if o=st.hs.length then _ else ib o)
    rw [if_pos rfl,if_neg yai,ha,hib]
    simp⟩,λq=>by have:=hok.ent.2.2 _ q;omega,by simp⟩) (Ze _ _ _ _ _) (Yp (Vx _ _ _ _ _)) (Vx _ _ _ _ _)
  have hop:(((st.newH s).setK t (.thr l (c+1))).addE o (.sub st.hs.length)).opn=st.opn:=(Ze _ _ _ _ _).2.2.2
  have hth:(((st.newH s).setK t (.thr l (c+1))).addE o (.sub st.hs.length)).threads=st.threads:=(Ze _ _ _ _ _).2.2.1
  have hget: ∀j,(((st.newH s).setK t (.thr l (c+1))).addE o (.sub st.hs.length)).hs[j]?=_:=Vx (st.newH s) t o (.thr l (c+1)) (.sub st.hs.length)
  generalize ((st.newH s).setK t (.thr l (c+1))).addE o (.sub st.hs.length)=st2 at*
  have hat:st2.isAt st.hs.length=HK.isAtomic (.st s):=by
   unfold RS.isAt RS.hk
   rw [hget]
   have:(st.newH s).hs[st.hs.length]?=some ⟨.st s,[]⟩:=ybm
   rw [this]
   have e1:st.hs.length≠t:=yai
   simp [Zv,e1]
  refine ⟨_,_,_,{nest:=hu.nest,le:=hu.le,op:=?_,hd:=?_,leaf:=?_,thr:=hu.thr,occ:=?_,w:=hu.w,c:=hu.c,sh:=hu.sh}⟩
  ·intro m j hj
   have hj':(st.opn++[st.hs.length])[m]?=some j:=hj
   rcases Nat.lt_or_ge m st.opn.length with hm'|hm'
   ·rw [List.getElem?_append_left hm'] at hj'
    obtain ⟨q1,q2⟩:=hu.op m j (by rw [hop];exact hj')
    refine ⟨q1,q2.trans ?_⟩
    show (st2.opn.take (m+1)).any st2.isAt=((st.opn++[st.hs.length]).take (m+1)).any st2.isAt
    rw [hop,List.take_append_of_le_length yai]
   ·have hml:=(List.getElem?_eq_some_iff.1 hj').1
    simp at hml
    obtain rfl:m=st.opn.length:=yai
    simp at hj'
    subst hj'
    refine ⟨by simp,?_⟩
    show _=((st.opn++[st.hs.length]).take (st.opn.length+1)).any st2.isAt
    rw [List.take_of_length_le yaj,List.any_append]
    have hpre:st.opn.any st2.isAt=st.inB:=by
     have q:=hu.op ol.length o (by rw [hop,ho];simp)
     have e2:st2.opn.take (ol.length+1)=st.opn:=by rw [hop];exact List.take_of_length_le yai
     rw [e2] at q
     rw [<-q.2]
     try simp only
     rw [if_neg yai]
     exact hib
    rw [hpre]
    simp [hat]
  ·intro j hj
   have hj':(st.opn++[st.hs.length])[0]?=some j:=hj
   rw [List.getElem?_append_left yai] at hj'
   exact hu.hd j (by rw [hop];exact hj')
  ·intro i y hy s2 hs2
   have q:=hu.leaf i y hy s2 hs2
   exact ⟨q.nh,q.sz,q.nm,q.of⟩
  ·intro j hj i y hy
   have hj':j∈st.opn++[st.hs.length]:=hj
   have hy':st2.hs[i]?=some y:=hy
   show _/\(_->i∈st.opn++[st.hs.length])
   rcases List.mem_append.1 hj' with hj2|hj2
   ·obtain ⟨q1,q2⟩:=hu.occ j (by rw [hop];exact hj2) i y hy
    rw [hop] at q2
    exact ⟨q1,λq=>List.mem_append.2 (.inl (q2 q))⟩
   ·simp at hj2
    subst hj2
    rw [hget] at hy'
    cases hz2:(st.newH s).hs[i]? with
    |none=>simp [hz2] at hy'
    |some z=>
     rw [hz2] at hy'
     simp at hy'
     subst hy'
     have hz0: ∀q, .inr q∈z.ents->q<st.hs.length:=by
      intro q hq
      rcases zaw (show (st.hs++[_])[i]?=some z from hz2) with ⟨_,hz'⟩|⟨_,rfl⟩
      ·exact hent i z hz' q hq
      ·simp at hq
     have hc0:z.ents.countP (zb0 st.hs.length)=0:=z9q
     simp only [Zv]
     by_cases e1:i=o
     ·rw [if_pos e1,List.countP_append,hc0]
      exact ⟨by simp [zb0],λ_=>by simp [e1,hom]⟩
     ·rw [if_neg e1,hc0]
      exact ⟨by omega,λq=>by have:=hz0 _ q;omega⟩
 ·rename_i hh
  have hh':Qf s=false:=by simpa using hh
  have hlf:z0s st (ib o) s:=⟨hh',hz,hn,λf hf=>⟨hib.trans (zkn hm hf),zos hnm hf⟩⟩
  split
  ·refine ⟨lv,ib,_,h.upd (l':=l++[Vg s]) hl ho (.leaf s) (show zwt _ _ _ _ _ (.inl s) from hlf) ?_ (Yp (Ol _ _ _ _ _ _)) (Ol _ _ _ _ _ _)⟩
   obtain ⟨a1,a2,a3,a4⟩:=Ze (st.setK t (.thr l (c+1))) t o (.thr (l++[Vg s]) (c+1)) (.leaf s)
   obtain ⟨d1,d2,d3,d4⟩:=Xu (st:=st) t (.thr l (c+1))
   exact ⟨a1.trans d1,a2.trans d2,a3.trans d3,a4.trans d4⟩
  ·exact ⟨lv,ib,_,h.upd (l':=l) hl ho (.leaf s) (show zwt _ _ _ _ _ (.inl s) from hlf) (Ze _ _ _ _ _) (Yp (Vx _ _ _ _ _)) (Vx _ _ _ _ _)⟩
theorem Fit.newT(h:Fit st lv ib wt)(hok:st.Ok k):st.newT.Fits:=by
 have hopn: ∀j∈st.opn,j<st.hs.length:=hok.ent.2.2
 have hent: ∀(i:Nat) (y:Hd),st.hs[i]?=some y->∀j, .inr j∈y.ents->j<st.hs.length:=λi y hy j hj=>hok.ent.1 y (List.mem_iff_getElem?.2 ⟨i,hy⟩) j hj
 have hkn:st.newT.hk st.hs.length=some (.thr [] 0):=by unfold RS.hk;simp [RS.newT]
 have hko: ∀j,j<st.hs.length->st.newT.hk j=st.hk j:=λj hj=>by
  unfold RS.hk
  show ((st.hs++[_])[j]?).map _=_
  rw [List.getElem?_append_left hj]
 have hat:st.newT.isAt st.hs.length=false:=by unfold RS.isAt;rw [hkn];rfl
 refine ⟨λi=>if i=st.hs.length then 0 else lv i,λi=>if i=st.hs.length then false else ib i,λi=>if i=st.hs.length then 0 else wt i,{nest:=?_,le:=?_,op:=?_,hd:=?_,leaf:=?_,thr:=?_,occ:=?_,w:=?_,c:=?_,sh:=h.sh}⟩
 ·intro i y hy j hj
  rcases zaw (show (st.hs++[_])[i]?=some y from hy) with ⟨hi,hy'⟩|⟨_,rfl⟩
  ·have hjl:=hent i y hy' j hj
   obtain ⟨q1,s2,q2,q3⟩:=h.nest i y hy' j hj
   try simp only
   rw [if_neg yai,if_neg yai,if_neg yai,if_neg yai]
   exact ⟨q1,s2,(hko j hjl).trans q2,q3⟩
  ·simp at hj
 ·intro i hi
  have:i<st.hs.length+1:=by simpa [RS.newT] using hi
  try simp only
  split
  ·omega
  ·exact h.le i yai
 ·intro m j hj
  have hj':[st.hs.length][m]?=some j:=hj
  have hm:=(List.getElem?_eq_some_iff.1 hj').1
  simp at hm
  subst hm
  simp at hj'
  subst hj'
  refine ⟨by simp,?_⟩
  show _=([st.hs.length].take 1).any st.newT.isAt
  simp [hat]
 ·intro j hj
  have hj':[st.hs.length][0]?=some j:=hj
  simp at hj'
  subst hj'
  show (st.threads++[st.hs.length]).getLast?=_
  simp
 ·intro i y hy s2 hs2
  rcases zaw (show (st.hs++[_])[i]?=some y from hy) with ⟨hi,hy'⟩|⟨_,rfl⟩
  ·exact z90
  ·simp at hs2
 ·intro t ht
  rcases List.mem_append.1 (show t∈st.threads++[st.hs.length] from ht) with ht|ht
  ·have:t<st.hs.length:=hok.ent.2.1 t ht
   try simp only
   rw [if_neg yai,if_neg yai]
   exact h.thr t ht
  ·simp at ht
   simp [ht]
 ·intro j hj i y hy
  have hj':j=st.hs.length:=ycw
  subst hj'
  have hz0: ∀q, .inr q∈y.ents->q<st.hs.length:=by
   intro q hq
   rcases zaw (show (st.hs++[_])[i]?=some y from hy) with ⟨_,hz'⟩|⟨_,rfl⟩
   ·exact hent i y hz' q hq
   ·simp at hq
  have hc0:y.ents.countP (zb0 st.hs.length)=0:=z9q
  rw [hc0]
  exact ⟨by omega,λq=>by have:=hz0 _ q;omega⟩
 ·intro i y hy
  rcases zaw (show (st.hs++[_])[i]?=some y from hy) with ⟨hi,hy'⟩|⟨_,rfl⟩
  ·exact z9e
  ·simp
 ·intro t ht l c hk
  rcases List.mem_append.1 (show t∈st.threads++[st.hs.length] from ht) with ht|ht
  ·have:t<st.hs.length:=hok.ent.2.1 t ht
   try simp only
   rw [if_neg yai]
   exact h.c t ht l c ((hko t this).symm.trans hk)
  ·simp at ht
   simp [ht]
theorem Fit.pop(h:Fit st lv ib wt):RS.Fits {st with opn:=st.opn.dropLast}:=by
 have sub: ∀m j,st.opn.dropLast[m]?=some j->m+1<st.opn.length/\st.opn[m]?=some j:=by
  intro m j hj
  rw [List.dropLast_eq_take,List.getElem?_take] at hj
  split at hj
  ·exact ⟨by omega,hj⟩
  ·simp at hj
 have memd: ∀m j,m+1<st.opn.length->st.opn[m]?=some j->j∈st.opn.dropLast:=by
  intro m j hm hj
  rw [List.dropLast_eq_take]
  exact List.mem_iff_getElem?.2 ⟨m,by rw [List.getElem?_take,if_pos yai];exact hj⟩
 refine ⟨lv,ib,wt,{nest:=h.nest,le:=h.le,op:=?_,hd:=?_,leaf:=λi y hy s hs=>let q:=h.leaf i y hy s hs;⟨q.nh,q.sz,q.nm,q.of⟩,thr:=h.thr,occ:=?_,w:=h.w,c:=h.c,sh:=h.sh}⟩
 ·intro m j hj
  obtain ⟨hm,hj'⟩:=sub m j hj
  obtain ⟨q1,q2⟩:=h.op m j hj'
  refine ⟨q1,q2.trans ?_⟩
  show (st.opn.take (m+1)).any st.isAt=(st.opn.dropLast.take (m+1)).any st.isAt
  rw [List.dropLast_eq_take,List.take_take,Nat.min_eq_left yai]
 ·intro j hj
  exact h.hd j (sub 0 j hj).2
 ·intro j hj i y hy
  obtain ⟨m,hm⟩:=List.mem_iff_getElem?.1 (show j∈st.opn.dropLast from hj)
  obtain ⟨hlt,hj'⟩:=sub m j hm
  have hjo:j∈st.opn:=List.mem_iff_getElem?.2 ⟨m,hj'⟩
  obtain ⟨q1,q2⟩:=h.occ j hjo i y hy
  refine ⟨q1,λq=>?_⟩
  have e1:=(h.nest i y hy j q).1
  have e2:=(h.op m j hj').1
  exact memd (lv i) i yai (h.mem (q2 q))
theorem Fit.share(h:Fit st lv ib wt)(hok:st.Ok k)(x:ByteArray)(c:Int)(hc:1<=c):RS.Fits {st with shared:=st.shared++[(x,st.cells,c)],cells:=st.cells+c}:=by
 refine ⟨lv,ib,wt,{nest:=h.nest,le:=h.le,op:=h.op,hd:=h.hd,leaf:=λi y hy s hs=>let q:=h.leaf i y hy s hs;⟨q.nh,q.sz,q.nm,λf hf=>⟨(q.of f hf).1,?_⟩⟩,thr:=h.thr,occ:=h.occ,w:=h.w,c:=h.c,sh:=?_}⟩
 ·have:=(q.of f hf).2
  unfold RS.isSh at this⊢
  show (st.shared++[_]).any _=true
  rw [List.any_append,this]
  rfl
 ·intro p hp
  rcases List.mem_append.1 (show p∈st.shared++[(x,st.cells,c)] from hp) with hp|hp
  ·obtain ⟨q1,q2,q3⟩:=h.sh p hp
   exact ⟨q1,q2,by show _<=st.cells+c;omega⟩
  ·simp at hp
   subst hp
   exact ⟨hok.cn.1,hc,Int.le_refl _⟩
end
section
variable{st st':RS}{k:Nat}{s:St}
theorem zwv(hok:st.Ok k)(h:st.Fits)(hz:zl9 s)(hnn:zop s)(hloop: ∀n,s=St.loop n->1<=n/\n<=4)(hg:gSt st s= .ok st'):st'.Fits:=by
 obtain ⟨lv,ib,wt,h⟩:=h
 unfold gSt at hg
 split at hg
 ·simp at hg
 ·rename_i hms
  cases hl:st.lastT with
  |none=>simp [hl] at hg
  |some p=>
   obtain ⟨t,l,c⟩:=p
   cases ho:st.opn.getLast? with
   |none=>simp [hl,ho] at hg
   |some o=>
    rw [hl,ho] at hg
    simp only at hg
    split at hg
    ·simp at hg
    ·rename_i hmn
     split at hg
     ·simp at hg
     ·rename_i hr
      obtain ⟨ol,hol⟩:=List.getLast?_eq_some_iff.1 ho
      have:st.lay t o l c s=st':=by simpa using hg
      rw [<-this]
      exact h.lay hok hl hol (by simpa using hr) (by simpa using hms) (by simpa using hmn) hz hnn hloop
theorem zko{ws:List ByteArray}(hok:st.Ok k)(h:st.Fits)(hg:Vq st ws= .ok st'):st'.Fits:=by
 have hD:=h
 obtain ⟨lv,ib,wt,h⟩:=h
 unfold Vq at hg
 rcases ws with _|⟨u,us⟩
 ·simp at hg
 ·simp only at hg
  split at hg
  ·unfold Iq at hg
   cases hn:gNm us with
   |none=>simp [hn] at hg
   |some p=>
    obtain ⟨x,us1⟩:=p
    rw [hn] at hg
    rcases us1 with _|⟨u1,us1⟩
    ·simp only at hg
     split at hg
     ·simp at hg
     ·split at hg
      ·simp at hg
      ·simp only [Except.ok.injEq] at hg
       rw [<-hg];exact h.share hok x 1 yai
    ·simp only at hg
     cases hi:gIn 1 6 (u1::us1) with
     |none=>simp [hi] at hg
     |some q=>
      obtain ⟨v,us2⟩:=q
      rw [hi] at hg
      rcases us2 with _|⟨u2,us2⟩
      ·simp only at hg
       split at hg
       ·simp at hg
       ·split at hg
        ·simp at hg
        ·simp only [Except.ok.injEq] at hg
         rw [<-hg];exact h.share hok x v (zme hi).1
      ·simp at hg
  ·split at hg
   ·exact z86
   ·split at hg
    ·exact z88
    ·cases hs:Zs u us with
     |none=>simp [hs] at hg
     |some p=>
      obtain ⟨s,us1⟩:=p
      rw [hs] at hg
      rcases us1 with _|⟨u1,us1⟩
      ·exact zwv hok hD (zd5 hs) (zoq hs) (λn e=>zfq (e▸hs)) hg
      ·simp at hg
end
theorem zd7: ∀(f:Nat) (r:List UInt8) (j:Nat) (st st':RS),st.Ok j->st.Fits->Yc f r j st= .ok st'->st'.Fits
 |0,_,_,st,st',_,hd,h=>by simp only [Yc,Except.ok.injEq] at h;exact h▸hd
 |f+1,r,j,st,st',ho,hd,h=>by
  simp only [Yc] at h
  split at h
  ·simp only [Except.ok.injEq] at h;exact h▸hd
  ·generalize Lib.cut r [10]=q at h
   obtain ⟨l,r',b⟩:=q
   cases b with
   |false=>simp at h
   |true=>
    simp only at h
    cases hg:Vq st (Ql l) with
    |error er=>simp [hg] at h
    |ok st2=>
     rw [hg] at h
     exact zd7 f r' (j+1) st2 st' (Ir ho hg) (zko ho hd hg) h
theorem zd8(h:Jl s= .ok st):st.Fits:=by
 unfold Jl at h
 split at h
 ·simp at h
 ·exact zd7 _ _ 0 RS.none st none_ok zr8 h
open Go.RowKit Go.Shelf
attribute [local go_sem] Oper.semAt_some
section
variable{hs:List Hd}{ms:List HM}{W0:World}
theorem zax(f:Nat):Jf hs f []=[]:=by cases f<;>rfl
theorem zyz: ∀(d f:Nat) (e:En),enG hs f e->enG hs (f+d) e
 |0,_,_,h=>h
 |d+1,f,e,h=>Gt (f+d) e (zyz d f e h)
theorem z0t{f:Nat}(hf:f<=3){e:En}(h:enG hs f e):enG hs 3 e:=by
 have:=zyz (3- f) f e h
 rwa [show f+(3- f)=3 from by omega] at this
def zsc(hs:List Hd)(ms:List HM)(W0:World)(n₀ N l:Nat)(J Jx:List (zcs hs)->World->Prop):Prop:=
 ∀m pre (x:zcs hs) W,J pre W->Below W0.heap.size W0 W->pre.length<N->YieldAt Fence.wide m Tryz.prog l #[enV (Qu ms) x.1] W λe W'=>(e= .returned (.bool true)/\J (pre++[x]) W'/\Below n₀ W W')\/(e= .returned (.bool false)/\Jx (pre++[x]) W')
theorem zmp(n l n₀ N:Nat)(hA0:Ar hs ms W0)(hn₀:W0.heap.size<=n₀)(J Jx:List (zcs hs)->World->Prop)(hY:Hid (zsc hs ms W0 n₀ N l J Jx))(pre:List (zcs hs))(W:World)(hJ:J pre W)(hW:Below W0.heap.size W0 W)(hN:pre.length<=N):
  CallsIn Fence.wide n Tryz.prog 93 #[.slice none 0 0, .func (.yield l) #[] #[]] W λe W'=>(e= .returned (.bool true)/\(∃ys:List (zcs hs),ys.map (·.1)=[]/\J (pre++ys) W')/\Below n₀ W W')\/(e= .returned (.bool false)/\ ∃q:List (zcs hs),q.map (·.1)<+:[]/\Jx (pre++q) W'):=
 zgo n l n₀ N (es:=[]) hA0 hn₀ (zka W0) yaj (hid λe he=>by simp at he) J Jx hY (λ_=>[]) (hid λ_ _ _ _ _ e he=>by simp at he) pre W hJ hW (by simpa using hN)
theorem zsd(l n₀ N:Nat)(hA0:Ar hs ms W0)(hn₀:W0.heap.size<=n₀)(J Jx:List (zcs hs)->World->Prop)(hY:Hid (zsc hs ms W0 n₀ N l J Jx)): ∀f,f<=3->∀(n:Nat) (rv:Value) (es:List En),W0.ownsRow 0 162 1 rv es.length (es.map (enV (Qu ms)))->es.length<=14->(∀e∈es,enG hs f e)->∀(pre:List (zcs hs)) (W:World),J pre W->Below W0.heap.size W0 W->pre.length+(Jf hs f es).length<=N ->
  CallsIn Fence.wide n Tryz.prog 93 #[rv, .func (.yield l) #[] #[]] W λe W'=>(e= .returned (.bool true)/\(∃ys:List (zcs hs),ys.map (·.1)=Jf hs f es/\J (pre++ys) W')/\Below n₀ W W')\/(e= .returned (.bool false)/\ ∃q:List (zcs hs),q.map (·.1)<+:Jf hs f es/\Jx (pre++q) W')
 |0,_,n,rv,es,hrow,h14,hes,pre,W,hJ,hW,hN=>by
  have e0:(es.flatMap λe=>e::(λ_:En=>([]:List En)) e)=Jf hs 0 es:=by simp [Jf]
  rw [<-e0] at hN⊢
  refine zgo n l n₀ N hA0 hn₀ hrow h14 (hid λe he=>z0t (f:=0) yai (hes e he)) J Jx hY (λ_=>[]) (hid λm pre W hJ hW e he hl=>?_) pre W hJ hW hN
  obtain ⟨s,rfl,hh⟩:=hes e he
  exact zmp m l n₀ N hA0 hn₀ J Jx hY pre W hJ hW (by simpa using hl)
 |f+1,hf,n,rv,es,hrow,h14,hes,pre,W,hJ,hW,hN=>by
  have e0:(es.flatMap λe=>e::(λe:En=>Jf hs f (Jb hs e)) e)=Jf hs (f+1) es:=rfl
  rw [<-e0] at hN⊢
  refine zgo n l n₀ N hA0 hn₀ hrow h14 (hid λe he=>z0t hf (hes e he)) J Jx hY (λe=>Jf hs f (Jb hs e)) (hid λm pre W hJ hW e he hl=>?_) pre W hJ hW hN
  rcases hes e he with ⟨s,rfl,hh⟩|⟨j,x,s,rfl,hj,hk,hh,ht,hl2,hsub⟩
  ·have e1:Jf hs f (Jb hs (.inl s))=[]:=zax f
   simp only [e1]
   exact zmp m l n₀ N hA0 hn₀ J Jx hY pre W hJ hW yai
  ·obtain ⟨hl3,e1⟩:=hA0.at hj
   have hw:wiV ms (.inr j)=ms[j].rv:=by simp [wiV,List.getElem?_eq_getElem hl3]
   have e2:Jb hs (.inr j)=x.ents:=yby
   simp only [e2] at hl⊢
   rw [hw]
   have hr:=(hA0.hd j hl3).row
   rw [e1] at hr
   exact zsd l n₀ N hA0 hn₀ J Jx hY f yai m _ _ hr hl2 hsub pre W hJ hW hl
theorem z0u(n l n₀ Bt:Nat)(hA0:Ar hs ms W0)(hn₀:W0.heap.size<=n₀)(hrow:W0.ownsRow 0 162 1 (.slice a p c) es.length (es.map (enV (Qu ms))))(h14:es.length<=14)(hes: ∀e∈es,enG hs 3 e)(J Jx:List (zcs hs)->World->Prop)
  (hY:Hid (zsc hs ms W0 n₀ (Jf hs 3 es).length l J Jx)) (W:World) (hW:Below W0.heap.size W0 W) (hBt:W.cell? ⟨Bt,0,none⟩=some (.slice a p c)) (h0:J [] W):
  CallsIn Fence.wide n Tryz.prog 92 #[.func (.yield l) #[] #[], .pointer (some ⟨Bt,0,none⟩)] W λe W'=>(∃v,e= .returned v)/\((∃ys:List (zcs hs),ys.map (·.1)=Jf hs 3 es/\J ys W')\/(∃pre:List (zcs hs),pre.map (·.1)<+:Jf hs 3 es/\Jx pre W')):=by
 have hdd: ∀k:Nat,(Fence.wide.depth.isSome=true->1<=k):=λk h=>by cases h
 have hw: ∀f,Fence.wide.fn f:=λ_=>trivial
 have hp:=hid (zsd l n₀ (Jf hs 3 es).length hA0 hn₀ J Jx hY 3 yai (n- 1) (.slice a p c) es hrow h14 hes [] W h0 hW yaj)
 clear hrow hes hA0 h0
 refine callsIn_of_wp Tryz.func92 rfl trivial ?_ rfl
 simp only [Tryz.ntmps92,List.size_toArray,List.length_cons,List.length_nil,Nat.reduceAdd,Nat.reduceSub,Array.replicate_succ,Array.replicate_zero,List.push_toArray,List.append_toArray,List.nil_append,List.cons_append]
 gi_wp2_with ((try refine ⟨hdd _,?_⟩);gi_at_call 93;refine hp.out.mono ?_;clear hp;rintro e W1 (⟨rfl,hJ1⟩|⟨rfl,hx⟩))
 ·exact z9u
 ·exact yab
theorem zse(a:Option Addr)(p c:Nat)(w:World):Cl 64 #[.slice a p c] w λe w'=>e= .returned (.func (.func 92) #[] #[.pointer (some ⟨w.heap.size,0,none⟩)])/\w'=w.alloc (.cells #[.slice a p c] 111):=by
 have hmf: ∀(fn:Fn) (first cap:Array Value) (w:World),(Instr.makeFunc fn first cap).run Tryz.prog w= .ok (.func fn first cap) w:=λ_ _ _ _=>rfl
 go_enter Tryz.func64,Tryz.ntmps64
 go_wp2
 go_ret
 exact ⟨rfl,rfl⟩
end
open Go.RowKit Go.Shelf
def z0v(Ds:List Nat):List Deferred:=Ds.map λD=>{target:= .collected D,args:=#[]}
theorem zh7(W:World)(D:Nat)(o:Obj)(b:Nat)(h:b≠D):(W.putObj D o).heap[b]?=W.heap[b]?:=by
 have h':D≠b:=λe=>h e.symm
 simp [World.putObj,h']
theorem Iu{F:Fence}{P:Program}{fn:Func}{tmps:Array Value}{R:Ending->World->Prop}(w:World): ∀(Ds:List Nat) (W:World),Ds.Nodup->(∀D∈Ds,w.heap.size<=D/\W.heap[D]?=some (.deferred (some []))) ->
  (∀W',Below w.heap.size W W'->(∀b:Nat,b∉Ds->W'.heap[b]?=W.heap[b]?)->LeavesIn F n P fn tmps R [] .returning W')->LeavesInM F n P fn tmps R (z0v Ds) .returning W
 |[],W,_,_,hfin=>hfin W (Below.refl _ _) (λ_ _=>rfl)
 |D::Ds,W,hnd,hD,hfin=>by
  obtain ⟨h1,h2⟩:=List.nodup_cons.1 hnd
  obtain ⟨hb,hK⟩:=hD D yaj
  refine ⟨by simp, .inl ⟨D,_,rfl,run_takeDeferred hK,Iu w Ds _ h2 (λD' hD'=>?_) (λW' hW' hk=>?_)⟩⟩
  ·obtain ⟨q1,q2⟩:=hD D' (by simp [hD'])
   refine ⟨q1,?_⟩
   rw [zh7 _ _ _ _ (show D'≠D from λe=>h1 (e▸hD'))]
   exact q2
  ·refine hfin W' ((belowK_b (w:=w) (Nat.le_refl _) W D _ _ hb hK rfl rfl).trans hW') (λb hb'=>?_)
   have n1:b≠D:=λe=>hb' (by simp [e])
   have n2:b∉Ds:=λe=>hb' (by simp [e])
   rw [hk b n2,zh7 _ _ _ _ n1]
theorem zsf{hs:List Hd}{ms:List HM}(n Bt:Nat)(w:World)(hA:Ar hs ms w)(hrow:w.ownsRow 0 162 1 (.slice a p c) es.length (es.map (enV (Qu ms))))(h14:es.length<=14)(hes: ∀e∈es,enG hs 3 e)(hBt:w.cell? ⟨Bt,0,none⟩=some (.slice a p c)):
  SeqStopsK Fence.wide n Tryz.prog 92 #[.pointer (some ⟨Bt,0,none⟩)] (λx:zcs hs=>#[enV (Qu ms) x.1]) (Below w.heap.size) (λys=>ys.map (·.1)=Jf hs 3 es) (λpre=>pre.map (·.1)<+:Jf hs 3 es) (Jf hs 3 es).length w:=λl J Jx W hW _ _ hY h0=>
 z0u n l w.heap.size Bt hA (Nat.le_refl _) hrow h14 hes J Jx (hid λm pre x W' hJ _ hl=>zh0 m (hY pre x W' hJ hl)) W hW ((hW.cell (p:=⟨Bt,0,none⟩) (blt hBt)).trans hBt) h0
theorem zmq(x u:ByteArray):(x==u)=decide (x=u):=by
 have e:(x==u)=(x.data==u.data):=rfl
 rw [e,Bool.eq_iff_iff]
 simp [ByteArray.ext_iff]
def z4j:ByteArray->Option Value:=λ_=>none
def z4k:ByteArray->Option Value:=zgd z4j ⟨#[43]⟩ (.int .i64 0)
def z4l:ByteArray->Option Value:=zgd z4k ⟨#[45]⟩ (.int .i64 1)
def z4m:ByteArray->Option Value:=zgd z4l ⟨#[42]⟩ (.int .i64 2)
def z4n:ByteArray->Option Value:=zgd z4m ⟨#[47]⟩ (.int .i64 3)
def z4o:ByteArray->Option Value:=zgd z4n ⟨#[37]⟩ (.int .i64 4)
def z4p:ByteArray->Option Value:=zgd z4o ⟨#[38]⟩ (.int .i64 5)
def z4q:ByteArray->Option Value:=zgd z4p ⟨#[124]⟩ (.int .i64 6)
def z4r:ByteArray->Option Value:=zgd z4q ⟨#[94]⟩ (.int .i64 7)
def z4s:ByteArray->Option Value:=zgd z4r ⟨#[60,60]⟩ (.int .i64 8)
def zww:ByteArray->Option Value:=zgd z4s ⟨#[62,62]⟩ (.int .i64 9)
def zwx:ByteArray->Option Value:=zgd zww ⟨#[60]⟩ (.int .i64 10)
def zwy:ByteArray->Option Value:=zgd zwx ⟨#[61,61]⟩ (.int .i64 11)
theorem z5p(u:ByteArray):zwy u=Sa u:=by
 by_cases h0:u=⟨#[43]⟩
 ·subst h0;rfl
 by_cases h1:u=⟨#[45]⟩
 ·subst h1;rfl
 by_cases h2:u=⟨#[42]⟩
 ·subst h2;rfl
 by_cases h3:u=⟨#[47]⟩
 ·subst h3;rfl
 by_cases h4:u=⟨#[37]⟩
 ·subst h4;rfl
 by_cases h5:u=⟨#[38]⟩
 ·subst h5;rfl
 by_cases h6:u=⟨#[124]⟩
 ·subst h6;rfl
 by_cases h7:u=⟨#[94]⟩
 ·subst h7;rfl
 by_cases h8:u=⟨#[60,60]⟩
 ·subst h8;rfl
 by_cases h9:u=⟨#[62,62]⟩
 ·subst h9;rfl
 by_cases h10:u=⟨#[60]⟩
 ·subst h10;rfl
 by_cases h11:u=⟨#[61,61]⟩
 ·subst h11;rfl
 have g0: ¬(⟨#[43]⟩:ByteArray)=u:=λe=>h0 e.symm
 have g1: ¬(⟨#[45]⟩:ByteArray)=u:=λe=>h1 e.symm
 have g2: ¬(⟨#[42]⟩:ByteArray)=u:=λe=>h2 e.symm
 have g3: ¬(⟨#[47]⟩:ByteArray)=u:=λe=>h3 e.symm
 have g4: ¬(⟨#[37]⟩:ByteArray)=u:=λe=>h4 e.symm
 have g5: ¬(⟨#[38]⟩:ByteArray)=u:=λe=>h5 e.symm
 have g6: ¬(⟨#[124]⟩:ByteArray)=u:=λe=>h6 e.symm
 have g7: ¬(⟨#[94]⟩:ByteArray)=u:=λe=>h7 e.symm
 have g8: ¬(⟨#[60,60]⟩:ByteArray)=u:=λe=>h8 e.symm
 have g9: ¬(⟨#[62,62]⟩:ByteArray)=u:=λe=>h9 e.symm
 have g10: ¬(⟨#[60]⟩:ByteArray)=u:=λe=>h10 e.symm
 have g11: ¬(⟨#[61,61]⟩:ByteArray)=u:=λe=>h11 e.symm
 have e1:zwy u=none:=by simp only [z4j,z4k,z4l,z4m,z4n,z4o,z4p,z4q,z4r,z4s,zww,zwx,zwy,zgd,h0,h1,h2,h3,h4,h5,h6,h7,h8,h9,h10,h11,if_false]
 have e2:Uj u=none:=by simp [Uj,List.findIdx?_cons,zmq,g0,g1,g2,g3,g4,g5,g6,g7,g8,g9,g10,g11]
 rw [e1,Sa,e2]
 rfl
theorem zc5(w:World):Cl 27 #[] w λe w'=>e= .returned (.map (some w.heap.size))/\MapIs w' w.heap.size Sa 12/\Below w.heap.size w w':=by
 have hmm:(Instr.makeMap 96 none).run Tryz.prog w= .ok (.map (some w.heap.size)) (w.alloc (.map #[] 0)):=rfl
 have m0:MapIs (w.alloc (.map #[] 0)) w.heap.size z4j 0:=zbr w
 have b0:Below w.heap.size w (w.alloc (.map #[] 0)):=(Below.refl _ w).alloc (Nat.le_refl _) _
 obtain ⟨W1,hr0,m1',c1⟩:=m0.put Tryz.underlying96 yap (u:=⟨#[43]⟩) yaw (.int .i64 0)
 have m1:MapIs W1 w.heap.size z4k 1:=by
  have e:(z4j ⟨#[43]⟩).isSome=false:=rfl
  rw [e] at m1'
  exact m1'
 have b1:Below w.heap.size w W1:=b0.trans (c1.below b0.size (λk _ e=>Nat.le_of_eq e.symm))
 clear m1' c1 m0 b0
 obtain ⟨W2,hr1,m2',c2⟩:=m1.put Tryz.underlying96 yap (u:=⟨#[45]⟩) yaw (.int .i64 1)
 have m2:MapIs W2 w.heap.size z4l 2:=by
  have e:(z4k ⟨#[45]⟩).isSome=false:=rfl
  rw [e] at m2'
  exact m2'
 have b2:Below w.heap.size w W2:=b1.trans (c2.below b1.size (λk _ e=>Nat.le_of_eq e.symm))
 clear m2' c2 m1 b1
 obtain ⟨W3,hr2,m3',c3⟩:=m2.put Tryz.underlying96 yap (u:=⟨#[42]⟩) yaw (.int .i64 2)
 have m3:MapIs W3 w.heap.size z4m 3:=by
  have e:(z4l ⟨#[42]⟩).isSome=false:=rfl
  rw [e] at m3'
  exact m3'
 have b3:Below w.heap.size w W3:=b2.trans (c3.below b2.size (λk _ e=>Nat.le_of_eq e.symm))
 clear m3' c3 m2 b2
 obtain ⟨W4,hr3,m4',c4⟩:=m3.put Tryz.underlying96 yap (u:=⟨#[47]⟩) yaw (.int .i64 3)
 have m4:MapIs W4 w.heap.size z4n 4:=by
  have e:(z4m ⟨#[47]⟩).isSome=false:=rfl
  rw [e] at m4'
  exact m4'
 have b4:Below w.heap.size w W4:=b3.trans (c4.below b3.size (λk _ e=>Nat.le_of_eq e.symm))
 clear m4' c4 m3 b3
 obtain ⟨W5,hr4,m5',c5⟩:=m4.put Tryz.underlying96 yap (u:=⟨#[37]⟩) yaw (.int .i64 4)
 have m5:MapIs W5 w.heap.size z4o 5:=by
  have e:(z4n ⟨#[37]⟩).isSome=false:=rfl
  rw [e] at m5'
  exact m5'
 have b5:Below w.heap.size w W5:=b4.trans (c5.below b4.size (λk _ e=>Nat.le_of_eq e.symm))
 clear m5' c5 m4 b4
 obtain ⟨W6,hr5,m6',c6⟩:=m5.put Tryz.underlying96 yap (u:=⟨#[38]⟩) yaw (.int .i64 5)
 have m6:MapIs W6 w.heap.size z4p 6:=by
  have e:(z4o ⟨#[38]⟩).isSome=false:=rfl
  rw [e] at m6'
  exact m6'
 have b6:Below w.heap.size w W6:=b5.trans (c6.below b5.size (λk _ e=>Nat.le_of_eq e.symm))
 clear m6' c6 m5 b5
 obtain ⟨W7,hr6,m7',c7⟩:=m6.put Tryz.underlying96 yap (u:=⟨#[124]⟩) yaw (.int .i64 6)
 have m7:MapIs W7 w.heap.size z4q 7:=by
  have e:(z4p ⟨#[124]⟩).isSome=false:=rfl
  rw [e] at m7'
  exact m7'
 have b7:Below w.heap.size w W7:=b6.trans (c7.below b6.size (λk _ e=>Nat.le_of_eq e.symm))
 clear m7' c7 m6 b6
 obtain ⟨W8,hr7,m8',c8⟩:=m7.put Tryz.underlying96 yap (u:=⟨#[94]⟩) yaw (.int .i64 7)
 have m8:MapIs W8 w.heap.size z4r 8:=by
  have e:(z4q ⟨#[94]⟩).isSome=false:=rfl
  rw [e] at m8'
  exact m8'
 have b8:Below w.heap.size w W8:=b7.trans (c8.below b7.size (λk _ e=>Nat.le_of_eq e.symm))
 clear m8' c8 m7 b7
 obtain ⟨W9,hr8,m9',c9⟩:=m8.put Tryz.underlying96 yap (u:=⟨#[60,60]⟩) yaw (.int .i64 8)
 have m9:MapIs W9 w.heap.size z4s 9:=by
  have e:(z4r ⟨#[60,60]⟩).isSome=false:=rfl
  rw [e] at m9'
  exact m9'
 have b9:Below w.heap.size w W9:=b8.trans (c9.below b8.size (λk _ e=>Nat.le_of_eq e.symm))
 clear m9' c9 m8 b8
 obtain ⟨W10,hr9,m10',c10⟩:=m9.put Tryz.underlying96 yap (u:=⟨#[62,62]⟩) yaw (.int .i64 9)
 have m10:MapIs W10 w.heap.size zww 10:=by
  have e:(z4s ⟨#[62,62]⟩).isSome=false:=rfl
  rw [e] at m10'
  exact m10'
 have b10:Below w.heap.size w W10:=b9.trans (c10.below b9.size (λk _ e=>Nat.le_of_eq e.symm))
 clear m10' c10 m9 b9
 obtain ⟨W11,hr10,m11',c11⟩:=m10.put Tryz.underlying96 yap (u:=⟨#[60]⟩) yaw (.int .i64 10)
 have m11:MapIs W11 w.heap.size zwx 11:=by
  have e:(zww ⟨#[60]⟩).isSome=false:=rfl
  rw [e] at m11'
  exact m11'
 have b11:Below w.heap.size w W11:=b10.trans (c11.below b10.size (λk _ e=>Nat.le_of_eq e.symm))
 clear m11' c11 m10 b10
 obtain ⟨W12,hr11,m12',c12⟩:=m11.put Tryz.underlying96 yap (u:=⟨#[61,61]⟩) yaw (.int .i64 11)
 have m12:MapIs W12 w.heap.size zwy 12:=by
  have e:(zwx ⟨#[61,61]⟩).isSome=false:=rfl
  rw [e] at m12'
  exact m12'
 have b12:Below w.heap.size w W12:=b11.trans (c12.below b11.size (λk _ e=>Nat.le_of_eq e.symm))
 clear m12' c12 m11 b11
 have M:=hid (m12.congr z5p)
 have BB:=hid b12
 clear m12 b12
 go_enter Tryz.func27,Tryz.ntmps27
 go_wp2
 go_ret
 exact ⟨rfl,M.out,BB.out⟩
theorem zot{s:St}(h: ∀n,s=St.loop n->1<=n/\n<=4):1<=Jk s/\Jk s<=4:=by
 rcases s with ⟨to,a⟩|⟨to,k,a,c⟩|⟨to,f,a⟩|⟨f,a,c⟩|a|⟨⟩|a|n
 ·simp [Jk]
 ·simp [Jk]
 ·simp [Jk]
 ·simp [Jk]
 ·simp [Jk]
 ·simp [Jk]
 ·simp [Jk]
 ·exact h n rfl
section
variable{st:RS}{lv:Nat->Nat}{k:Nat}
theorem zmr(h:DeepL st lv)(hok:st.Ok k): ∀(f i:Nat) (x:Hd),st.hs[i]?=some x->3<=lv i+f->∀e∈x.ents,enG st.hs f e
 |0,i,x,hx,hf,e,he=>by
  rcases e with s|j
  ·exact ⟨s,rfl,h.leaf i x hx s he⟩
  ·obtain ⟨q1,s,q2,q3⟩:=h.nest i x hx j he
   obtain ⟨y,hy,_⟩:=Yy q2
   have:=h.le j (List.getElem?_eq_some_iff.1 hy).1
   omega
 |f+1,i,x,hx,hf,e,he=>by
  rcases e with s|j
  ·exact .inl ⟨s,rfl,h.leaf i x hx s he⟩
  ·obtain ⟨q1,s,q2,q3⟩:=h.nest i x hx j he
   obtain ⟨y,hy,hyk⟩:=Yy q2
   refine .inr ⟨j,y,s,rfl,hy,hyk,q3,zot (λn e=>h.loop j n (e▸q2)),hok.e14 j y hy,λe' he'=>zmr h hok f j y hy yai e' he'⟩
theorem zou(h:DeepL st lv)(hok:st.Ok k){t:Nat}(hx:st.hs[t]?=some x): ∀e∈x.ents,enG st.hs 3 e:=zmr h hok 3 t x hx yai
end
abbrev zb1(w:World)(sb bs:Nat):World:=w.alloc (.cells #[.map (some sb), .slice none 0 0, .int .i64 0, .slice none 0 0, .map (some bs)] 100)
theorem zsg(w:World)(T:TypeId):w.ownsRow 0 T 1 (.slice none 0 0) 0 []:=⟨rfl, .inl ⟨rfl,rfl⟩⟩
theorem zov(w:World)(sb bs B:Nat)(hs:MapIs w sb (λ_=>none) 0)(hb:MapIs w bs Sa 12)(hne:sb≠bs)(h1:B<=sb)(h2:B<=bs):
  ∃lab,RMach (λk=>B<=k/\k<(zb1 w sb bs).heap.size) lab (zb1 w sb bs) w.heap.size sb bs (.slice none 0 0) (.slice none 0 0) RS.none []:=by
 have ls:=hs.lt
 have lb:=hb.lt
 have hsz:(zb1 w sb bs).heap.size=w.heap.size+1:=yaj
 have hc:Chg (λ_ _=>False) w (zb1 w sb bs):=(Chg.refl _ w).alloc _
 refine ⟨λk=>if k=w.heap.size then (0,0) else if k=sb then (0,1) else (0,4),{
  sh:=zl2 _ _ _,c0:=World.cell?_alloc_new _ _ _ 0,c1:=World.cell?_alloc_new _ _ _ 1,c2:=World.cell?_alloc_new _ _ _ 2,c3:=World.cell?_alloc_new _ _ _ 3,c4:=World.cell?_alloc_new _ _ _ 4,free:=zgf _ _ _
  mS:=hs.keep hc (λ_ e=>e),mG:=hb.keep hc (λ_ e=>e),trow:=zsg _ _,orow:=zsg _ _
  hd:=λi hi=>by simp at hi
  hs:=rfl
  lbr:=⟨if_pos rfl,by omega,by omega⟩
  lsb:=⟨?_,by omega,by omega⟩
  ltv:=λg hg=>by simp [Value.ownBlock] at hg
  lov:=λg hg=>by simp [Value.ownBlock] at hg
  lbs:=⟨?_,by omega,by omega⟩
  lhd:=λi hi=>by simp at hi}⟩
 ·show (if sb=w.heap.size then _ else if sb=sb then _ else _)=_
  rw [if_neg yai,if_pos rfl]
 ·show (if bs=w.heap.size then _ else if bs=sb then _ else _)=_
  rw [if_neg yai,if_neg yai]
structure z3m(W WR:World)(br sb bs:Nat):Prop where
 low:Below W.heap.size W WR
 env:Env WR
 m: ∃lab,RMach (λk=>W.heap.size<=k/\k<WR.heap.size) lab WR br sb bs (.slice none 0 0) (.slice none 0 0) RS.none []
theorem zwz{w2:World}(hE:Env W)(hm:MapIs w2 (W.heap.size+1) Sa 12)(hb:Below (W.heap.size+1) (W.alloc (.map #[] 0)) w2):z3m W (zb1 w2 W.heap.size (W.heap.size+1)) w2.heap.size W.heap.size (W.heap.size+1):=by
 have hsz:(W.alloc (.map #[] 0)).heap.size=W.heap.size+1:=yaj
 have hb':Below (W.alloc (.map #[] 0)).heap.size (W.alloc (.map #[] 0)) w2:=by rw [hsz];exact hb
 have hs:MapIs w2 W.heap.size (λ_=>none) 0:=(zbr W).keep (M:=λ_ _=>False) (Chg.of_below hb') (λ_ e=>e)
 have low:Below W.heap.size W (zb1 w2 W.heap.size (W.heap.size+1)):=(((Below.refl _ W).alloc (Nat.le_refl _) _).trans (hb.mono yai)).trans ((Below.refl _ w2).alloc (by have:=hb.size;simp at this;omega) _)
 exact ⟨low,hE.keep (M:=λ_ _=>False) (Chg.of_below low) (λ_ _ _ e=>e),zov w2 W.heap.size (W.heap.size+1) W.heap.size hs hm yai yai yai⟩
theorem zow(hE:Env W)(s:ByteArray){er ln:Int}(hg:Jl s= .error (er,ln)):
  Cl 15 #[.string s] W λe w'=>∃bf,e= .returned (.tuple #[.pointer none, .iface 64 (ptr bf)])/\W.heap.size<=bf/\FaultAt w' bf er ln/\Below W.heap.size W w':=by
 have hmm: ∀w:World,(Instr.makeMap 92 none).run Tryz.prog w= .ok (.map (some w.heap.size)) (w.alloc (.map #[] 0)):=λ_=>rfl
 have hmf: ∀(fn:Fn) (first cap:Array Value) (w:World),(Instr.makeFunc fn first cap).run Tryz.prog w= .ok (.func fn first cap) w:=λ_ _ _ _=>rfl
 have hlo:=hE.lo
 have HE:=hid hE
 clear hE
 go_enter Tryz.func15,Tryz.ntmps15
 go_wp2_with fail
 refine (zc5 (W.alloc (.map #[] 0))).mono ?_
 rw [show (W.alloc (.map #[] 0)).heap.size=W.heap.size+1 from by simp]
 rintro e w2 ⟨rfl,hm,hb⟩
 have HG:=hid (zwz HE.out hm hb)
 clear hm hb
 go_wp2_with fail
 obtain ⟨lab,hm⟩:=HG.out.m
 have K:=zav (B:=W.heap.size) hlo HG.out.low.size HG.out.env hm s
 rw [hg] at K
 refine K.mono ?_
 clear K hm
 rintro e w3 ⟨bf,rfl,h1,h2,h3⟩
 have H2:=hid h2
 have H3:=hid (HG.out.low.trans h3)
 have h1':W.heap.size<=bf:=by have:=HG.out.low.size;omega
 clear h1 h2 h3 HG
 go_wp2
 go_ret2
 exact ⟨bf,rfl,h1',H2.out,H3.out⟩
structure Has(W w:World)(br:Nat)(st:RS):Prop where
 ok:st.Ok 2000
 deep:st.Deep
 m: ∃E lab sb bs tv ov ms,W.heap.size<E/\RMach (dom W.heap.size E w) lab w br sb bs tv ov st ms
 env:Env w
 low:Below W.heap.size W w
theorem Has.below(h:Has W w br st)(hb:Below w.heap.size w w'):Has W w' br st:=by
 obtain ⟨E,lab,sb,bs,tv,ov,ms,hE,hm⟩:=h.m
 refine ⟨h.ok,h.deep,⟨E,lab,sb,bs,tv,ov,ms,hE,(hm.below hb).newD (λk hk hl=>⟨hk.1,hk.2.1,hl⟩)⟩,h.env.keep (M:=λ_ _=>False) (Chg.of_below hb) (λ_ _ _ e=>e),h.low.trans (hb.mono h.low.size)⟩
def zsh(s:ByteArray)(n:Nat):Prop:=∀w,Env w->Cl 30 #[.string s, .string ⟨#[10]⟩] w λe w'=>e= .returned (.int .i64 n)/\Below w.heap.size w w'
def zsi(W:World)(st:RS)(b:Bool):Prop:=∀w br,Has W w br st->Cl 31 #[ptr br] w λe w'=>e= .returned (.bool b)/\Below w.heap.size w w'
theorem zsj{WR:World}{sb bs:Nat}(hB:z3m W WR br sb bs)(hg:Jl s= .ok st)(h1:st.Ok 2000)(h2: ∃lab tv ov ms,RMach (dom W.heap.size WR.heap.size w') lab w' br sb bs tv ov st ms)(h3:Env w')(h4:Below W.heap.size WR w'):Has W w' br st:=by
 obtain ⟨lab,tv,ov,ms,hm⟩:=h2
 obtain ⟨lab0,hm0⟩:=hB.m
 have:=Qd hm0.sh
 have:=hm0.lbr.2
 exact ⟨h1,zkl hg,⟨WR.heap.size,lab,sb,bs,tv,ov,ms,by omega,hm⟩,h3,hB.low.trans h4⟩
theorem Has.open(h:Has W w br st): ∃a k,w.cell? ⟨br,3,none⟩=some (.slice a st.opn.length k):=by
 obtain ⟨E,lab,sb,bs,tv,ov,ms,hE,hm⟩:=h.m
 obtain ⟨a,k,e⟩:=hm.openS
 exact ⟨a,k,by rw [hm.c3,e]⟩
theorem zsk(hE:Env W)(s:ByteArray)(hg:Jl s= .ok st)(ho:st.opn.length≠1)(hn:n<1000000)(KC:Hid (zsh s n)):
  Cl 15 #[.string s] W λe w'=>∃bf,e= .returned (.tuple #[.pointer none, .iface 64 (ptr bf)])/\W.heap.size<=bf/\FaultAt w' bf 3 (n+1)/\Below W.heap.size W w':=by
 have hmm: ∀w:World,(Instr.makeMap 92 none).run Tryz.prog w= .ok (.map (some w.heap.size)) (w.alloc (.map #[] 0)):=λ_=>rfl
 have hmf: ∀(fn:Fn) (first cap:Array Value) (w:World),(Instr.makeFunc fn first cap).run Tryz.prog w= .ok (.func fn first cap) w:=λ_ _ _ _=>rfl
 have hlo:=hE.lo
 have HE:=hid hE
 clear hE
 go_enter Tryz.func15,Tryz.ntmps15
 go_wp2_with fail
 refine (zc5 (W.alloc (.map #[] 0))).mono ?_
 rw [show (W.alloc (.map #[] 0)).heap.size=W.heap.size+1 from by simp]
 rintro e w2 ⟨rfl,hm,hb⟩
 have HG:=hid (zwz HE.out hm hb)
 clear hm hb
 go_wp2_with fail
 obtain ⟨lab,hm⟩:=HG.out.m
 have K:=zav (B:=W.heap.size) hlo HG.out.low.size HG.out.env hm s
 rw [hg] at K
 refine K.mono ?_
 clear K hm
 rintro e w3 ⟨rfl,h1,h2,h3,h4⟩
 have H:=hid (zsj HG.out hg h1 h2 h3 h4)
 clear h1 h2 h3 h4 HG
 obtain ⟨oa,ok,c3⟩:=H.out.open
 have ho': ¬(st.opn.length:Int)=1:=yai
 have hob:((st.opn.length:Int)==1)=false:=by simpa using ho'
 have hw:wrap64 ((n:Int)+1)=(n:Int)+1:=yao
 go_wp2_with fail
 refine (KC.out w3 H.out.env).mono ?_
 rintro e w4 ⟨rfl,b4⟩
 have H4:=hid (H.out.low.trans (b4.mono H.out.low.size))
 clear b4 H c3
 go_wp2
 go_ret2
 exact ⟨w4.heap.size,rfl,H4.out.size,⟨World.cell?_alloc_new _ _ _ 0,World.cell?_alloc_new _ _ _ 1⟩,H4.out.trans ((Below.refl _ w4).alloc H4.out.size _)⟩
theorem zsl(hE:Env W)(s:ByteArray)(hg:Jl s= .ok st)(ho:st.opn.length=1)(KM:Hid (zsi W st true)):
  Cl 15 #[.string s] W λe w'=>∃bf,e= .returned (.tuple #[.pointer none, .iface 64 (ptr bf)])/\W.heap.size<=bf/\FaultAt w' bf 5 0/\Below W.heap.size W w':=by
 have hmm: ∀w:World,(Instr.makeMap 92 none).run Tryz.prog w= .ok (.map (some w.heap.size)) (w.alloc (.map #[] 0)):=λ_=>rfl
 have hmf: ∀(fn:Fn) (first cap:Array Value) (w:World),(Instr.makeFunc fn first cap).run Tryz.prog w= .ok (.func fn first cap) w:=λ_ _ _ _=>rfl
 have hlo:=hE.lo
 have HE:=hid hE
 clear hE
 go_enter Tryz.func15,Tryz.ntmps15
 go_wp2_with fail
 refine (zc5 (W.alloc (.map #[] 0))).mono ?_
 rw [show (W.alloc (.map #[] 0)).heap.size=W.heap.size+1 from by simp]
 rintro e w2 ⟨rfl,hm,hb⟩
 have HG:=hid (zwz HE.out hm hb)
 clear hm hb
 go_wp2_with fail
 obtain ⟨lab,hm⟩:=HG.out.m
 have K:=zav (B:=W.heap.size) hlo HG.out.low.size HG.out.env hm s
 rw [hg] at K
 refine K.mono ?_
 clear K hm
 rintro e w3 ⟨rfl,h1,h2,h3,h4⟩
 have H:=hid (zsj HG.out hg h1 h2 h3 h4)
 clear h1 h2 h3 h4 HG
 obtain ⟨oa,ok,c3⟩:=H.out.open
 rw [ho] at c3
 go_wp2_with fail
 refine (KM.out w3 _ H.out).mono ?_
 rintro e w4 ⟨rfl,b4⟩
 have H4:=hid (H.out.low.trans (b4.mono H.out.low.size))
 clear b4 H c3
 go_wp2
 go_ret2
 exact ⟨w4.heap.size,rfl,H4.out.size,⟨World.cell?_alloc_new _ _ _ 0,World.cell?_alloc_new _ _ _ 1⟩,H4.out.trans ((Below.refl _ w4).alloc H4.out.size _)⟩
theorem zsm(hE:Env W)(s:ByteArray)(hg:Jl s= .ok st)(ho:st.opn.length=1)(KM:Hid (zsi W st false)):
  Cl 15 #[.string s] W λe w'=>∃br,e= .returned (.tuple #[ptr br, .nilIface])/\Has W w' br st:=by
 have hmm: ∀w:World,(Instr.makeMap 92 none).run Tryz.prog w= .ok (.map (some w.heap.size)) (w.alloc (.map #[] 0)):=λ_=>rfl
 have hmf: ∀(fn:Fn) (first cap:Array Value) (w:World),(Instr.makeFunc fn first cap).run Tryz.prog w= .ok (.func fn first cap) w:=λ_ _ _ _=>rfl
 have hlo:=hE.lo
 have HE:=hid hE
 clear hE
 go_enter Tryz.func15,Tryz.ntmps15
 go_wp2_with fail
 refine (zc5 (W.alloc (.map #[] 0))).mono ?_
 rw [show (W.alloc (.map #[] 0)).heap.size=W.heap.size+1 from by simp]
 rintro e w2 ⟨rfl,hm,hb⟩
 have HG:=hid (zwz HE.out hm hb)
 clear hm hb
 go_wp2_with fail
 obtain ⟨lab,hm⟩:=HG.out.m
 have K:=zav (B:=W.heap.size) hlo HG.out.low.size HG.out.env hm s
 rw [hg] at K
 refine K.mono ?_
 clear K hm
 rintro e w3 ⟨rfl,h1,h2,h3,h4⟩
 have H:=hid (zsj HG.out hg h1 h2 h3 h4)
 clear h1 h2 h3 h4 HG
 obtain ⟨oa,ok,c3⟩:=H.out.open
 rw [ho] at c3
 go_wp2_with fail
 refine (KM.out w3 _ H.out).mono ?_
 rintro e w4 ⟨rfl,b4⟩
 have H4:=hid (H.out.below b4)
 clear b4 H c3
 go_wp2
 go_ret2
 exact ⟨_,rfl,H4.out⟩
end Go.Proofs.YtphcopbffecceaaGreatDoor
