import Derived.Test.YtphcopbffecceaaGreatDoorP25
set_option maxRecDepth 100000
set_option maxHeartbeats 1000000
namespace Go.Proofs.YtphcopbffecceaaGreatDoor
open Go.RowKit
variable{br c:Nat}{d:DR}{w w':World}{sv x1:Value}{j k:Int}{s:St}{st:RS}{D P:Nat->Prop}{lab:Nat->Nat×Nat}{m:DM}{hs:List Hd}{N:List NK}{u:ByteArray}{b:Bool}{M:Nat->Nat->Prop}{p:Option Addr}
theorem Path.inner: ∀{ps:List Nat} {f base o:Nat} {N:List NK} {os:List Nat},Path hs P f base o ps N os->∃h,hs[zbd o ps]?=some h/\ ∀k,Sum.inr k∈h.ents->P k
 |[],_,_,_,_,_,⟨h,h1,_,_,h4⟩=>⟨h,h1,h4⟩
 |_::_,_,_,_,_,_,⟨_,_,_,_,_,_,_,_,_,_,_,_,_,_,_,_,_,h9⟩=>by rw [Ft];exact Path.inner h9
theorem z1c{k:NK}(h:zb3 s=[k]):zo9 (some k)=z0z s:=z76
theorem ztf{k:NK}(h:zb3 s=[k]):decide (k.1=40)=HK.isAtomic (.st s):=z76
section
variable{st st':RS}{d:DR}{k t o:Nat}{tl ol:List Nat}
theorem Path.inn{ps:List Nat}{f o:Nat}{os:List Nat}(h:Path hs P f 0 o ps N os):(os.any λa=>decide ((N[a]?).map (·.1)=some 40))=ps.any λp=>(((hs[p]?).map Hd.k).map HK.isAtomic).getD false:=by
 have key: ∀(i a:Nat),os[i]?=some a->∃p,ps[i]?=some p/\decide ((N[a]?).map (·.1)=some 40)=(((hs[p]?).map Hd.k).map HK.isAtomic).getD false:=by
  intro i a hi
  obtain ⟨_,p,s,k,h1,h2,h3,h4⟩:=h.stands i a hi
  refine ⟨p,h1,?_⟩
  rw [Nat.sub_zero] at h4
  rw [h4,h2]
  have:=ztf h3
  simp only [Option.map_some,Option.getD_some,Option.some.injEq]
  exact this
 have hl:=h.len
 rw [Bool.eq_iff_iff,List.any_eq_true,List.any_eq_true]
 constructor
 ·rintro ⟨a,ha,hq⟩
  obtain ⟨i,hi⟩:=List.getElem?_of_mem ha
  obtain ⟨p,h1,h2⟩:=key i a hi
  exact ⟨p,List.mem_of_getElem? h1,h2▸hq⟩
 ·rintro ⟨p,hp,hq⟩
  obtain ⟨i,hi⟩:=List.getElem?_of_mem hp
  have hlt:i<os.length:=by rw [hl];exact (List.getElem?_eq_some_iff.1 hi).1
  obtain ⟨p',h1,h2⟩:=key i os[i] (List.getElem?_eq_getElem hlt)
  rw [hi] at h1
  obtain rfl:=Option.some.inj h1
  exact ⟨os[i],List.getElem_mem hlt,h2.trans hq⟩
theorem Sim.pop(h:Sim st d)(hok:st.Ok k)(ho: ¬st.opn.length<2): ∃d',zb9 d= .ok d'/\Sim {st with opn:=st.opn.dropLast} d':=by
 rcases List.eq_nil_or_concat st.threads with e|⟨tl,t,e⟩
 ·have:=(h.no e).1
  rw [this] at ho
  simp at ho
 ·rw [List.concat_eq_append] at e
  obtain ⟨ps,N,h1,h2,h3,h4,h5⟩:=h.last tl t e
  rcases List.eq_nil_or_concat ps with hp|⟨ps',p,hp⟩
  ·rw [h1,hp] at ho;simp at ho
  rw [List.concat_eq_append] at hp
  subst hp
  have hol:=h5.len
  rcases List.eq_nil_or_concat d.opn with hq|⟨os',a,hq⟩
  ·rw [hq] at hol;simp at hol
  rw [List.concat_eq_append] at hq
  have hla:d.opn.getLast?=some a:=by rw [hq];simp
  have hal:d.opn[ps'.length]?=some a:=by
   have:os'.length=ps'.length:=by rw [hq] at hol;simpa using hol
   rw [hq,<-this];simp
  obtain ⟨_,p1,s,k1,g1,g2,g3,g4⟩:=h5.stands _ a hal
  have:p1=p:=by simpa using g1.symm
  subst this
  rw [Nat.sub_zero] at g4
  have hdl:st.opn.dropLast=t::ps':=by
   rw [h1,<-List.cons_append,List.dropLast_concat]
  have hnp:p1∉t::ps':=by
   rw [<-List.cons_append,List.nodup_append] at h2
   intro hm
   exact h2.2.2 p1 hm p1 yaj rfl
  have hsub: ∀j,zbn st j->zbn {st with opn:=st.opn.dropLast} j:=λj hj=>⟨hj.1,λhm=>hj.2 (List.dropLast_subset _ hm)⟩
  have hpl:p1<st.hs.length:=hok.ent.2.2 p1 (by rw [h1];simp)
  have hp1:zbn {st with opn:=st.opn.dropLast} p1:=⟨hpl,by show p1∉st.opn.dropLast;rw [hdl];exact hnp⟩
  have hinv: ∀j,zbn {st with opn:=st.opn.dropLast} j->j=p1\/zbn st j:=λj hj=>by
   by_cases e:j=p1
   ·exact .inl e
   ·refine .inr ⟨hj.1,λhm=>?_⟩
    have:j∉st.opn.dropLast:=hj.2
    rw [hdl] at this
    rw [h1,<-List.cons_append] at hm
    rcases List.mem_append.1 hm with hm|hm
    ·exact this hm
    ·exact e (List.mem_singleton.1 hm)
  have hpath:=Path.shut hsub hp1 g2 h5
  refine ⟨{d with opn:=d.opn.dropLast,thr:=d.thr.dropLast++[N++zo9 N[a]?]},?_,?_⟩
  ·unfold zb9
   rw [hla,h4]
  ·rw [g4,z1c g3]
   refine {sh:=h.sh,ce:=h.ce,len:=zk9 h e _,nm:=h.nm,no:=λq=>?_,last:=?_,old:=h.olds (st':={st with opn:=st.opn.dropLast}) (λj _=>rfl) hsub rfl _,clo:=?_}
   ·have q':st.threads=[]:=q
    rw [e] at q';simp at q'
   ·intro tl' t' q
    have q':st.threads=tl'++[t']:=q
    have:t'=t:=by
     rw [e] at q'
     have:=List.append_inj_right' q' rfl
     simpa using this.symm
    subst this
    refine ⟨ps',_,hdl,?_,h3,by simp,hpath⟩
    rw [<-List.cons_append,List.nodup_append] at h2
    exact h2.1
   ·intro j x hj hx k hk
    have hx':st.hs[j]?=some x:=hx
    rcases hinv j hj with rfl|hj'
    ·obtain ⟨y,y1,y2⟩:=h5.inner
     have hlo:zbd t (ps'++[j])=j:=by simp [zbd]
     rw [hlo,hx'] at y1
     obtain rfl:=Option.some.inj y1
     exact hsub k (y2 k hk)
    ·exact hsub k (h.clo j x hj' hx' k hk)
end
def z3w(r:Except Int RS)(q:Except Int DR):Prop:=match r,q with
 | .error e, .error e'=>e=e'
 | .ok st, .ok d=>Sim st d
 |_,_=>False
section
variable{st st':RS}{d:DR}{k t o:Nat}{tl ol:List Nat}
theorem Sim.inB_is(h:Sim st d)(hth:st.threads=tl++[t])(hN:d.thr.getLast?=some N):st.inB=zhf d N:=by
 obtain ⟨ps,N',h1,h2,h3,h4,h5⟩:=h.last tl t hth
 have:N'=N:=Option.some.inj (h4.symm.trans hN)
 subst this
 unfold zhf RS.inB
 rw [h5.inn,h1,List.any_cons,h3]
 rfl
theorem Sim.noEmpty(h:Sim st d)(u:ByteArray)(hu:u.toList.isEmpty=true):st.isSh u=false:=by
 unfold RS.isSh
 rw [List.any_eq_false]
 intro p hp
 have:=h.nm p hp
 intro e
 have e':p.1=u:=by simpa using e
 rw [e',hu] at this
 cases this
theorem Sim.names_is(h:Sim st d)(s:St):st.mayName d.locals s=zfv d s:=by
 unfold RS.mayName zfv
 have e1:(!st.isSh (Vg s))=((Vg s).toList.isEmpty||!Gc d.shared (Vg s)):=by
  rw [zk8 h]
  cases hu:(Vg s).toList.isEmpty with
  |true=>rw [h.noEmpty _ hu];rfl
  |false=>rfl
 rw [e1]
 cases Xg s with
 |none=>rfl
 |some f=>simp only [zk8 h]
theorem Sim.room_is(h:Sim st d)(hth:st.threads=tl++[t])(s:St):st.hasRoom d.locals d.stmts s=zip d s:=by
 obtain ⟨ps,N',h1,h2,h3,h4,h5⟩:=h.last tl t hth
 unfold RS.hasRoom zip
 have:decide (st.opn.length<=3)=decide (d.opn.length<=2):=by
  rw [h5.len,h1,List.length_cons]
  simp
 rw [this]
theorem z3x(h:Sim st d)(hok:st.Ok k)(s:St):z3w (gSt st s) (dSt d s):=by
 rcases List.eq_nil_or_concat st.threads with e|⟨tl,t,e⟩
 ·have h1:=(h.no e).1
  have hm:st.mayStand s=false:=by
   rcases s with ⟨to,a⟩|⟨to,k,a,c⟩|⟨to,f,a⟩|⟨f,a,c⟩|a|⟨⟩|a|n<;>simp [RS.mayStand,h1]
  have hd:d.thr=[]:=List.length_eq_zero_iff.1 (by rw [h.len,e];rfl)
  unfold gSt dSt
  rw [if_pos hm,hd]
  exact rfl
 ·rw [List.concat_eq_append] at e
  obtain ⟨ps,N,h1,h2,h3,h4,h5⟩:=h.last tl t e
  have hl:st.lastT=some (t,d.locals,d.stmts):=zc4 e h3
  obtain ⟨ol,o,ho⟩: ∃ol o,st.opn=ol++[o]:=by
   rcases List.eq_nil_or_concat st.opn with q|⟨ol,o,q⟩
   ·rw [h1] at q;cases q
   ·exact ⟨ol,o,by rw [q,List.concat_eq_append]⟩
  have hog:st.opn.getLast?=some o:=yas
  have hm:st.mayStand s=Gd (zhf d N) s:=by
   rw [<-h.inB_is e h4]
   have:0<st.opn.length:=by rw [h1];simp
   rcases s with ⟨to,a⟩|⟨to,k,a,c⟩|⟨to,f,a⟩|⟨f,a,c⟩|a|⟨⟩|a|n<;>simp [RS.mayStand,Gd,this]
  unfold gSt dSt
  rw [hl,hog,h4,hm]
  dsimp only
  rw [h.names_is s,h.room_is e s]
  by_cases c1:Gd (zhf d N) s=false
  ·rw [if_pos c1,if_pos c1];exact rfl
  rw [if_neg c1,if_neg c1]
  by_cases c2:zfv d s=false
  ·rw [if_pos c2,if_pos c2];exact rfl
  rw [if_neg c2,if_neg c2]
  by_cases c3:zip d s=false
  ·rw [if_pos c3,if_pos c3];exact rfl
  rw [if_neg c3,if_neg c3]
  show Sim _ _
  have hr:st.hasRoom d.locals d.stmts s=true:=by rw [h.room_is e s];simpa using c3
  obtain ⟨_,_,r3⟩:=Om hr
  unfold RS.lay z4u
  by_cases hh:Qf s=true
  ·rw [if_pos hh,if_pos hh]
   obtain ⟨a1,a2,a3,a4⟩:=Ze (st.newH s) t o (.thr d.locals (d.stmts+1)) (.sub st.hs.length)
   exact h.hold (st':={(((st.newH s).setK t (.thr d.locals (d.stmts+1))).addE o (.sub st.hs.length)) with opn:=st.opn++[st.hs.length]}) hok e ho (r3 hh) s hh d.locals (d.stmts+1) ⟨a1,a2,a3,rfl⟩ (Vx _ _ _ _ _) h4
  ·rw [if_neg hh,if_neg hh]
   by_cases hn:(Vg s).toList.isEmpty=false/\Uh d.locals (Vg s)=false
   ·rw [if_pos hn,if_pos hn]
    obtain ⟨a1,a2,a3,a4⟩:=Ze (st.setK t (.thr d.locals (d.stmts+1))) t o (.thr (d.locals++[Vg s]) (d.stmts+1)) (.leaf s)
    obtain ⟨b1,b2,b3,b4⟩:=Xu (st:=st) t (.thr d.locals (d.stmts+1))
    exact h.leaf e ho s (d.locals++[Vg s]) (d.stmts+1) ⟨a1.trans b1,a2.trans b2,a3.trans b3,a4.trans b4⟩ (Ol _ _ _ _ _ _) h4
   ·rw [if_neg hn,if_neg hn]
    obtain ⟨a1,a2,a3,a4⟩:=Ze st t o (.thr d.locals (d.stmts+1)) (.leaf s)
    exact h.leaf e ho s d.locals (d.stmts+1) ⟨a1,a2,a3,a4⟩ (Vx _ _ _ _ _) h4
theorem z1d(h:Sim st d)(hok:st.Ok k):z3w (zwb st []) (zb9 d):=by
 unfold zwb
 dsimp only
 by_cases c:st.opn.length<2
 ·rw [if_pos c]
  have hd:d.opn=[]:=by
   rcases List.eq_nil_or_concat st.threads with e|⟨tl,t,e⟩
   ·exact (h.no e).2
   ·rw [List.concat_eq_append] at e
    obtain ⟨ps,N,h1,h2,h3,h4,h5⟩:=h.last tl t e
    apply List.length_eq_zero_iff.1
    rw [h5.len]
    rw [h1,List.length_cons] at c
    omega
  unfold zb9
  rw [hd]
  exact rfl
 ·rw [if_neg c]
  obtain ⟨d',e,hs⟩:=h.pop hok c
  rw [e]
  exact hs
theorem zpb(h:Sim st d)(hok:st.Ok k):z3w (Ef st []) (Gx d):=by
 unfold Ef Gx
 dsimp only
 have hd:(1<st.opn.length)↔0<d.opn.length:=by
  rcases List.eq_nil_or_concat st.threads with e|⟨tl,t,e⟩
  ·rw [(h.no e).1,(h.no e).2];simp
  ·rw [List.concat_eq_append] at e
   obtain ⟨ps,N,h1,h2,h3,h4,h5⟩:=h.last tl t e
   rw [h5.len,h1,List.length_cons]
   omega
 by_cases c:1<st.opn.length
 ·rw [if_pos c,if_pos (hd.1 c)];exact rfl
 ·rw [if_neg c,if_neg λq=>c (hd.2 q)]
  exact (h.newT hok c).1
theorem ziq(h:Sim st d)(x:ByteArray)(n:Int)(hx:x.toList.isEmpty=false):z3w (if 0<st.threads.length then .error 3 else if st.isSh x=true then .error 4 else .ok {st with shared:=st.shared++[(x,st.cells,n)],cells:=st.cells+n}) (Ge d x n):=by
 unfold Ge
 rw [h.len,zk8 h]
 by_cases c:0<st.threads.length
 ·rw [if_pos c,if_pos c];exact rfl
 rw [if_neg c,if_neg c]
 by_cases c2:st.isSh x=true
 ·rw [if_pos c2,if_pos c2];exact rfl
 rw [if_neg c2,if_neg c2]
 exact h.share x n hx
theorem zla(h:Vo u=true):u.toList.isEmpty=false:=by
 unfold Vo at h
 simp only [Bool.and_eq_true,decide_eq_true_eq] at h
 have h1:=h.1
 rw [ByteArray.toList_eq]
 cases hd:u.data.toList with
 |nil=>
  have:u.size=u.data.toList.length:=ybz
  rw [hd,List.length_nil] at this
  omega
 |cons a b=>rfl
theorem zxk(h:Sim st d)(hok:st.Ok k)(ws:List ByteArray)(hb:Jr ws=true):z3w (Vq st ws) (Xw d ws):=by
 match ws,hb with
 |[],hb=>cases hb
 |u::us,hb=>
  by_cases n1:u=Qy
  ·subst n1
   rw [Zf] at hb
   unfold Vq Xw
   dsimp only
   rw [if_pos rfl,if_pos rfl]
   unfold Iq
   match us,hb with
   |[],hb=>cases hb
   |[v],hb=>
    have hb:Vo v=true:=hb
    rw [Ju,if_pos hb]
    exact ziq h v 1 (zla hb)
   |[v,x],hb=>
    have hb:(Vo v&&Sx 6 x)=true:=hb
    obtain ⟨b1,b2⟩:=Bool.and_eq_true_iff.1 hb
    rw [Ju,if_pos b1]
    dsimp only
    rw [zb7 1 6 x [] rfl,if_pos b2]
    exact ziq h v _ (zla b1)
   |_::_::_::_,hb=>cases hb
  by_cases n2:u=Qt
  ·subst n2
   rw [Yd] at hb
   have:us=[]:=ybu
   subst this
   unfold Vq Xw
   dsimp only
   rw [if_neg n1,if_neg n1,if_pos rfl,if_pos rfl]
   exact zpb h hok
  by_cases n3:u=Zd
  ·subst n3
   rw [Sk] at hb
   have:us=[]:=ybu
   subst this
   unfold Vq Xw
   dsimp only
   rw [if_neg n1,if_neg n1,if_neg n2,if_neg n2,if_pos rfl,if_pos rfl]
   exact z1d h hok
  rw [zte st u us hb n1 n2 n3]
  unfold Xw
  dsimp only
  rw [if_neg n1,if_neg n2,if_neg n3]
  exact z3x h hok _
end
def x0:Cx:=⟨[],[],0,0,0⟩
theorem ztg(hu:u.size<=maxLen):x0.varOk u:=⟨hu,0,0,rfl,by omega,by omega⟩
section
variable{st:RS}{lv:Nat->Nat}{ib:Nat->Bool}{wt:Nat->Nat}
theorem znb(hl:z0s st b s):x0.leafOk b s:=by
 have hr:=λv (hv:v∈Qj s)=>zw0 hl.sz hl.nm hv
 have hto:=hl.sz.to
 have hof:=hl.of
 have hofz:=hl.sz.of
 have hop:=hl.nm.op
 have hnh:=hl.nh
 clear hl
 rcases s with ⟨to,a⟩|⟨to,o,a,c⟩|⟨to,f,a⟩|⟨f,a,c⟩|a|⟨⟩|a|n
 ·exact ⟨hto,hr a yau⟩
 ·exact ⟨hto,hop,hr a yau,hr c yau⟩
 ·exact ⟨(hof f rfl).1,hto,ztg (hofz f rfl),hr a yau⟩
 ·exact ⟨(hof f rfl).1,ztg (hofz f rfl),hr a yau,hr c yau⟩
 ·exact hr a yau
 ·simp [Qf] at hnh
 ·simp [Qf] at hnh
 ·simp [Qf] at hnh
theorem zy8(h:Fit st lv ib wt)(he: ∀(j:Nat) (y:Hd),st.hs[j]?=some y->y.ents.length<=14): ∀(f i:Nat) (y:Hd),st.hs[i]?=some y->lv i+f=3->∀e∈y.ents,enW st.hs x0 f (ib i) e
 |0,i,y,hy,_, .inl s,hm=>znb (h.leaf i y hy s hm)
 |f+1,i,y,hy,_, .inl s,hm=>znb (h.leaf i y hy s hm)
 |0,i,y,hy,hf, .inr j,hm=>by
  obtain ⟨q1,s,q2,q3⟩:=h.nest i y hy j hm
  obtain ⟨z,hz,_⟩:=Yy q2
  have:=h.le j (List.getElem?_eq_some_iff.1 hz).1
  omega
 |f+1,i,y,hy,hf, .inr j,hm=>by
  obtain ⟨q1,s,q2,q3⟩:=h.nest i y hy j hm
  obtain ⟨z,hz,hzk⟩:=Yy q2
  have ih:=zy8 h he f j z hz yai
  have hzz:st.hs[j]?=some ⟨.st s,z.ents⟩:=by rw [hz,<-hzk]
  refine ⟨z.ents,he j z hz,?_⟩
  have hh:=q3.hh
  have hr:=λv (hv:v∈Qj s)=>zw0 q3.sz q3.nm hv
  have h1:=q3.at1
  have h0:=q3.at0
  have hlp:=q3.lp
  clear q3 q2
  rcases s with ⟨to,a⟩|⟨to,o,a,c⟩|⟨to,f,a⟩|⟨f,a,c⟩|a|⟨⟩|a|n
  ·simp [Qf] at hh
  ·simp [Qf] at hh
  ·simp [Qf] at hh
  ·simp [Qf] at hh
  ·simp [Qf] at hh
  ·obtain ⟨e1,e2⟩:=h1 rfl
   rw [e2] at ih
   exact .inl ⟨hzz,e1,ih⟩
  ·rw [h0 rfl] at ih
   exact .inr (.inl ⟨a,hzz,hr a yau,ih⟩)
  ·rw [h0 rfl] at ih
   exact .inr (.inr ⟨n,hzz,hlp n rfl,ih⟩)
end
theorem zir{s:ByteArray}(hg:Jl s= .ok st)(hok:st.Ok 2000)(t:Nat)(ht:t∈st.threads):
  (st.ents t).length<=14/\(∀e∈st.ents t,enW st.hs x0 3 false e)/\((st.ents t).map (wE st.hs 3)).sum<=14:=by
 obtain ⟨lv,ib,wt,h⟩:=zd8 hg
 obtain ⟨l,c,q1,q2,q3⟩:=hok.thr t ht
 obtain ⟨y,hy,_⟩:=Yy q1
 have he:st.ents t=y.ents:=by unfold RS.ents;rw [hy]
 obtain ⟨l0,i0⟩:=h.thr t ht
 have hw:=h.w t y hy
 have hcc:=h.c t ht l c q1
 rw [he]
 refine ⟨hok.e14 t y hy,?_,?_⟩
 ·have:=zy8 h hok.e14 3 t y hy yai
  rw [i0] at this
  exact this
 ·exact z8h
def zxl(L:List NK):CS:=L.foldl Js ⟨0,0,0,[1],[1],false⟩
def Gy(L:List NK):Bool:=decide (3<(zxl L).blocks)||decide (8<(zxl L).most)
def zfa(d:DR):Bool:=decide (6<d.cells)||(decide (3<d.thr.length)||d.thr.any Gy)
theorem Sim.whole(h:Sim st d)(ho:st.opn.length=1)(i t:Nat)(ht:st.threads[i]?=some t):d.thr[i]?=some ((st.ents t).flatMap (lin st.hs 3)):=by
 have hi:i<st.threads.length:=(List.getElem?_eq_some_iff.1 ht).1
 by_cases hl:i+1<st.threads.length
 ·obtain ⟨x,x1,_,x3⟩:=h.old i t hl ht
  rw [x3]
  unfold RS.ents
  rw [x1]
 ·rcases List.eq_nil_or_concat st.threads with e|⟨tl,t2,e⟩
  ·rw [e] at hi;simp at hi
  ·rw [List.concat_eq_append] at e
   have hil:i=tl.length:=by rw [e] at hi hl;simp at hi hl;omega
   have htt:t2=t:=by
    rw [e,hil] at ht
    simpa using ht
   subst htt
   obtain ⟨ps,N,h1,_,h3,h4,h5⟩:=h.last tl t2 e
   have:ps=[]:=by
    rw [h1] at ho
    simpa using ho
   subst this
   obtain ⟨x,x1,x2,_,_⟩:=h5
   unfold RS.ents
   rw [x1]
   dsimp only
   rw [<-x2,<-h4,List.getLast?_eq_getElem?,h.len,hil,e]
   simp
theorem z1e{α β:Type}(l:List α)(m:List β)(p:α->Bool)(q:β->Bool)(hl:m.length=l.length)(h: ∀(i:Nat) (a:α),l[i]?=some a->∃b,m[i]?=some b/\p a=q b):l.any p=m.any q:=by
 rw [Bool.eq_iff_iff,List.any_eq_true,List.any_eq_true]
 constructor
 ·rintro ⟨a,ha,hq⟩
  obtain ⟨i,hi⟩:=List.getElem?_of_mem ha
  obtain ⟨b,h1,h2⟩:=h i a hi
  exact ⟨b,List.mem_of_getElem? h1,h2▸hq⟩
 ·rintro ⟨b,hb,hq⟩
  obtain ⟨i,hi⟩:=List.getElem?_of_mem hb
  have hlt:i<l.length:=by rw [<-hl];exact (List.getElem?_eq_some_iff.1 hi).1
  obtain ⟨b',h1,h2⟩:=h i l[i] (List.getElem?_eq_getElem hlt)
  rw [hi] at h1
  obtain rfl:=Option.some.inj h1
  exact ⟨l[i],List.getElem_mem hlt,h2.trans hq⟩
theorem znc{s:ByteArray}(h:Sim st d)(hg:Jl s= .ok st)(hok:st.Ok 2000)(ho:st.opn.length=1):
  zay st=zfa d/\ ∀L∈d.thr,L.length<=28/\ ∀i,i<=L.length->zec (cAt L i):=by
 constructor
 ·unfold zay zfa
  rw [h.ce,h.len]
  congr 2
  refine z1e _ _ _ _ h.len λi t ht=>⟨_,h.whole ho i t ht,?_⟩
  obtain ⟨_,he,_⟩:=zir hg hok t (List.mem_of_getElem? ht)
  obtain ⟨o,hc⟩:=zo2 (st.ents t) he
  rw [zo3 st t he]
  unfold Gy zxl
  rw [hc]
 ·intro L hL
  obtain ⟨i,hi⟩:=List.getElem?_of_mem hL
  have hlt:i<st.threads.length:=by rw [<-h.len];exact (List.getElem?_eq_some_iff.1 hi).1
  have:=h.whole ho i st.threads[i] (List.getElem?_eq_getElem hlt)
  rw [hi] at this
  obtain rfl:=Option.some.inj this
  obtain ⟨_,he,hw⟩:=zir hg hok _ (List.getElem_mem hlt)
  exact zif he hw
theorem zek(l r:List UInt8)(h:(10:UInt8)∉l):Lib.cut (l++10::r) [10]=(l,r,true):=by
 unfold Lib.cut
 rw [zc8 10 l r h,if_pos yai]
 simp
theorem zfw(l:List UInt8)(h:(10:UInt8)∉l):(Lib.cut l [10]).2.2=false:=by
 unfold Lib.cut
 rw [Fs 10 l h,if_neg yai]
theorem zbe: ∀(f:Nat) (r:List UInt8) (j:Nat) (st st':RS),st.Ok j->j+r.length<=2000->Yc f r j st= .ok st'->st'.Ok 2000
 |0,r,j,st,st',hok,hl,hg=>by
  rw [Yc] at hg
  obtain rfl:=Except.ok.inj hg
  exact Ok.mono hok yai
 |f+1,r,j,st,st',hok,hl,hg=>by
  rw [Yc] at hg
  by_cases c:r=[]/\j≠0
  ·rw [if_pos c] at hg
   obtain rfl:=Except.ok.inj hg
   exact Ok.mono hok yai
  ·rw [if_neg c] at hg
   rcases zda 10 r with hno|⟨a,r',rfl,hno⟩
   ·have:=zfw r hno
    split at hg
    ·cases hg
    ·rename_i q;rw [q] at this;cases this
   ·rw [zek a r' hno] at hg
    dsimp only at hg
    cases h1:Vq st (Ql a) with
    |error er=>rw [h1] at hg;cases hg
    |ok st1=>
     rw [h1] at hg
     exact zbe f r' (j+1) st1 st' (Ir hok h1) (by simp at hl;omega) hg
def Vz:List (List UInt8)->Nat->DR->Except (Int×Int) DR
 |[],_,d=> .ok d
 |[l],j,d=>if l=[]/\j≠0 then .ok d else .error (2,j+1)
 |l::l2::r,j,d=>if Jr (Ql l)=false then .error (2,j+1) else match Xw d (Ql l) with
  | .ok d'=>Vz (l2::r) (j+1) d'
  | .error er=> .error (er,j+1)
def z56(r:Except (Int×Int) RS)(q:Except (Int×Int) DR):Prop:=match r,q with
 | .error e, .error e'=>e=e'
 | .ok st, .ok d=>Sim st d
 |_,_=>False
theorem zel: ∀(f:Nat) (r:List UInt8) (j:Nat) (st:RS) (d:DR),r.length+1<=f->st.Ok j->Sim st d->z56 (Yc f r j st) (Vz (Xe 10 r) j d)
 |0,r,j,st,d,hf,_,_=>by omega
 |f+1,r,j,st,d,hf,hok,h=>by
  rw [Yc]
  rcases zda 10 r with hno|⟨a,r',rfl,hno⟩
  ·rw [Iw 10 r hno,Vz]
   by_cases c:r=[]/\j≠0
   ·rw [if_pos c,if_pos c];exact h
   ·rw [if_neg c,if_neg c]
    have:=zfw r hno
    split
    ·exact rfl
    ·rename_i q;rw [q] at this;cases this
  ·rw [if_neg (λq=>by have:=q.1;simp at this),zek a r' hno,zc9 10 a r' hno]
   obtain ⟨l2,rr,e2⟩: ∃l2 rr,Xe 10 r'=l2::rr:=by
    cases q:Xe 10 r' with
    |nil=>exact absurd q (zb4 _ _)
    |cons l2 rr=>exact ⟨l2,rr,rfl⟩
   rw [e2,Vz,<-e2]
   dsimp only
   by_cases c:Jr (Ql a)=false
   ·rw [if_pos c,ztd st _ c]
    exact rfl
   ·rw [if_neg c]
    have hs:=zxk h hok (Ql a) (by simpa using c)
    cases hg:Vq st (Ql a) with
    |error er=>
     rw [hg] at hs
     cases hd:Xw d (Ql a) with
     |error er'=>
      rw [hd] at hs
      have:er=er':=hs
      rw [this]
      exact rfl
     |ok d'=>rw [hd] at hs;exact hs.elim
    |ok st'=>
     rw [hg] at hs
     cases hd:Xw d (Ql a) with
     |error er'=>rw [hd] at hs;exact hs.elim
     |ok d'=>
      rw [hd] at hs
      exact zel f r' (j+1) st' d' (by simp at hf;omega) (Ir hok hg) hs
theorem zfx(c:UInt8): ∀(n:Nat) (l:List UInt8),l.length<=n->(Xe c l).length=l.count c+1
 |n,l,hn=>by
  rcases zda c l with hno|⟨a,r,rfl,hno⟩
  ·rw [Iw c l hno,List.count_eq_zero_of_not_mem hno];rfl
  ·rw [zc9 c a r hno,List.length_cons,List.count_append,List.count_eq_zero_of_not_mem hno,List.count_cons_self]
   cases n with
   |zero=>simp at hn
   |succ n=>
    rw [zfx c n r (by simp at hn;omega)]
    omega
def d0:DR:=⟨[],0,[],[],[],0⟩
def zis(s:ByteArray):Except (Int×Int) DR:=if 2000<s.size then .error (1,0) else match Vz (Xe 10 s.data.toList) 0 d0 with
 | .error e=> .error e
 | .ok d=>if 0<d.opn.length\/d.thr.length=0 then .error (3,((Xe 10 s.data.toList).length:Int)) else if zfa d=true then .error (5,0) else .ok d
theorem zxm(s:ByteArray):z56 (zaz s) (zis s):=by
 have hok: ∀st,Jl s= .ok st->st.Ok 2000:=λst hg=>by
  have hz:=Iv hg
  unfold Jl at hg
  rw [if_neg yai] at hg
  exact zbe _ _ 0 _ _ none_ok yc1 hg
 unfold zaz zis
 by_cases hz:2000<s.size
 ·have:Jl s= .error (1,0):=by unfold Jl;rw [if_pos hz]
  rw [this,if_pos hz]
  exact rfl
 ·have he:Jl s=Yc (s.size+2) s.data.toList 0 RS.none:=by unfold Jl;rw [if_neg hz]
  have hs:=zel (s.size+2) s.data.toList 0 RS.none d0 ydr none_ok zm9
  rw [<-he] at hs
  rw [if_neg hz]
  cases hg:Jl s with
  |error e=>
   rw [hg] at hs
   cases hd:Vz (Xe 10 s.data.toList) 0 d0 with
   |error e'=>
    rw [hd] at hs
    have:e=e':=hs
    rw [this]
    exact rfl
   |ok d=>rw [hd] at hs;exact hs.elim
  |ok st=>
   rw [hg] at hs
   cases hd:Vz (Xe 10 s.data.toList) 0 d0 with
   |error e'=>rw [hd] at hs;exact hs.elim
   |ok d=>
    rw [hd] at hs
    have h:Sim st d:=hs
    dsimp only
    have hop:st.opn.length≠1↔(0<d.opn.length\/d.thr.length=0):=by
     rw [h.len]
     rcases List.eq_nil_or_concat st.threads with e|⟨tl,t,e⟩
     ·rw [(h.no e).1,e];simp
     ·rw [List.concat_eq_append] at e
      obtain ⟨ps,N,h1,h2,h3,h4,h5⟩:=h.last tl t e
      rw [h5.len,h1,e,List.length_cons,List.length_append,List.length_singleton]
      omega
    by_cases c:st.opn.length≠1
    ·rw [if_pos c,if_pos (hop.1 c),zfx 10 _ _ (Nat.le_refl _)]
     exact rfl
    ·rw [if_neg c,if_neg λq=>c (hop.2 q)]
     obtain ⟨hm,_⟩:=znc h hg (hok st hg) yai
     rw [hm]
     by_cases c2:zfa d=true
     ·rw [if_pos c2,if_pos c2];exact rfl
     ·rw [if_neg c2,if_neg c2];exact h
def plc(ws:List ByteArray)(u:ByteArray):Int:=match ws.findIdx? λx=>decide (x=u) with
 |some k=>(k:Int)
 |none=>-1
def zth(w:World)(sv:Value)(ws:List ByteArray):Prop:=(sv= .slice none 0 0/\ws=[])\/ ∃g c,sv= .slice (some ⟨g,0,none⟩) ws.length c/\g<w.heap.size/\StrsAt w g ws
theorem zem{ws:List ByteArray}(h:w.ownsRow 0 9 1 sv ws.length (ws.map .string)):zth w sv ws:=by
 rcases h.2 with ⟨e1,e2⟩|⟨g,cap,cur,e1,_⟩
 ·left
  refine ⟨e1,?_⟩
  simpa using e2
 ·right
  refine ⟨g,cap,e1,?_,λj hj=>?_⟩
  ·exact (h.lt g (by rw [e1];rfl)).2
  ·subst e1
   obtain ⟨q1,_,_⟩:=Qm h j hj
   rw [q1,List.getElem?_map,List.getElem?_eq_getElem hj]
   rfl
section
variable{w:World}{sv:Value}{ws:List ByteArray}{u:ByteArray}
theorem zpc:Cl 22 #[.slice none 0 0, .string u] w λe w'=>e= .returned (.int .i64 (-1))/\w'=w:=by
 go_enter Tryz.func22,Tryz.ntmps22
 go_wp2
 go_loopw [5] (λv wr=>v= .int .i64 0/\wr=w) (λ_ _=>0)
 case atStart=>exact ⟨rfl,rfl⟩
 case round=>
  obtain ⟨rfl,rfl⟩:=hrel
  go_wp2
  go_ret
  exact ⟨rfl,rfl⟩
theorem zca(h:zth w sv ws)(hl:ws.length<1000000):Cl 22 #[sv, .string u] w λe w'=>e= .returned (.int .i64 (plc ws u))/\w'=w:=by
 rcases h with ⟨rfl,rfl⟩|⟨g,c,rfl,_,hs⟩
 ·exact zpc
 ·unfold plc
  cases hk:ws.findIdx? λx=>decide (x=u) with
  |none=>
   have hno:=List.findIdx?_eq_none_iff.1 hk
   exact Ga w g c ws u hl (hid hs) (hid λj hj=>by
    have:=hno ws[j] (List.getElem_mem hj)
    simpa using this)
  |some k=>
   obtain ⟨hlt,hp,hbef⟩:=List.findIdx?_eq_some_iff_getElem.1 hk
   exact Ou w g c ws u hl (hid hs) k hlt (hid λj hj=>by
    have:=hbef j hj
    simpa using this) (hid (by simpa using hp))
theorem zlb(ws:List ByteArray)(u:ByteArray):decide (0<=plc ws u)=Uh ws u:=by
 unfold plc Uh
 cases hk:ws.findIdx? λx=>decide (x=u) with
 |none=>
  have hno:=List.findIdx?_eq_none_iff.1 hk
  symm
  simp only [show decide ((0:Int)<=-1)=false from rfl]
  rw [List.any_eq_false]
  intro x hx
  simpa using hno x hx
 |some k=>
  obtain ⟨hlt,hp,_⟩:=List.findIdx?_eq_some_iff_getElem.1 hk
  symm
  simp only [show decide ((0:Int)<=(k:Int))=true by simp]
  exact List.any_eq_true.2 ⟨ws[k],List.getElem_mem hlt,hp⟩
def atV(l:List ByteArray)(u:ByteArray):Bool×Int×Bool:=match Qk u with
 |some n=>(false,n,true)
 |none=>(true,plc l u,Uh l u)
theorem zpd{n:Int}(K:Hid (∀w,Cl 41 #[.string u] w λe w'=>e= .returned (.tuple #[.int .i64 n, .bool true])/\w'=w)):
  Cl 42 #[ptr br, .string u] w λe w'=>e= .returned (.tuple #[.agg #[.bool false, .int .i64 n], .bool true])/\Below w.heap.size w w':=by
 go_enter Tryz.func42,Tryz.ntmps42
 go_wp2_with fail
 refine (K.out _).mono ?_
 rintro e w1 ⟨rfl,rfl⟩
 go_wp2
 refine ⟨rfl, .tuple #[.agg #[.bool false, .int .i64 n], .bool true],?_,rfl,(Below.refl _ w).alloc (Nat.le_refl _) _⟩
 simp [results,Tryz.results42,go_sem]
theorem zpe(hbk:decide (0<=k)=b)(c4:w.cell? ⟨br,4,none⟩=some sv)(K:Hid (∀w,Cl 41 #[.string u] w λe w'=>e= .returned (.tuple #[.int .i64 0, .bool false])/\w'=w))
  (KP:Hid (∀w',Below w.heap.size w w'->Cl 22 #[sv, .string u] w' λe w2=>e= .returned (.int .i64 k)/\w2=w')):
  Cl 42 #[ptr br, .string u] w λe w'=>e= .returned (.tuple #[.agg #[.bool true, .int .i64 k], .bool b])/\Below w.heap.size w w':=by
 have hlt:br<w.heap.size:=blt c4
 have c4':(w.alloc (.cells #[.bool false, .int .i64 0] 75)).cell? ⟨br,4,none⟩=some sv:=(World.cell?_alloc_past _ _ _ hlt).trans c4
 have HK:=hid hbk
 clear hbk
 go_enter Tryz.func42,Tryz.ntmps42
 go_wp2_with fail
 refine (K.out _).mono ?_
 rintro e w1 ⟨rfl,rfl⟩
 go_wp2_with fail
 refine (KP.out _ ((Below.refl _ w).alloc (Nat.le_refl _) _)).mono ?_
 rintro e w1 ⟨rfl,rfl⟩
 go_wp2
 refine ⟨rfl, .tuple #[.agg #[.bool true, .int .i64 k], .bool b],?_,rfl,(Below.refl _ w).alloc (Nat.le_refl _) _⟩
 rw [<-HK.out]
 simp [results,Tryz.results42,go_sem]
theorem zpf{l:List ByteArray}(c4:w.cell? ⟨br,4,none⟩=some sv)(hr:zth w sv l)(hl:l.length<1000000):
  Cl 42 #[ptr br, .string u] w λe w'=>e= .returned (.tuple #[.agg #[.bool (atV l u).1, .int .i64 (atV l u).2.1], .bool (atV l u).2.2])/\Below w.heap.size w w':=by
 have K: ∀w,Cl 41 #[.string u] w λe w'=>e=Oc u/\w'=w:=λw=>Ym w u
 unfold atV
 cases hn:Qk u with
 |some n=>
  rw [Yj hn] at K
  exact zpd (hid K)
 |none=>
  rw [Vy hn] at K
  refine zpe (zlb l u) c4 (hid K) (hid λw' hb=>zca ?_ hl)
  rcases hr with h|⟨g,c,h1,h2,h3⟩
  ·exact .inl h
  ·exact .inr ⟨g,c,h1,Nat.lt_of_lt_of_le h2 hb.size,h3.keep h2 hb⟩
end
structure DT where
 nv:Value
 kb:Nat
 xs:List Value
 N:List NK
structure NodesAt(xs:List Value)(N:List NK):Prop where
 len:xs.length=N.length*14
 kind: ∀(i:Nat) (k:NK),N[i]?=some k->xs[i*14]?=some (.int .u8 (k.1:Int))
 n: ∀(i:Nat) (k:NK),N[i]?=some k->xs[i*14+12]?=some (.int .i64 k.2)
 deep: ∀(i:Nat),i<N.length->∃v,xs[i*14+13]?=some (.int .i64 v)
structure DThAt(w:World)(c:Nat)(t:DT):Prop where
 row:w.ownsRow 0 77 14 t.nv t.N.length t.xs
 nodes:NodesAt t.xs t.N
 ksh:w.shape? t.kb=some (4,c)
 kfree: ∀j,w.frozen? ⟨t.kb,j,none⟩=false
structure DM where
 br:Nat
 bp:Nat
 sv:Value
 fv:Value
 zv:Value
 lv:Value
 ov:Value
 tv:Value
 cv:Value
 pv:Value
 ps:List Bool
 ts:List DT
structure DMach(D:Nat->Prop)(lab:Nat->Nat×Nat)(w:World)(m:DM)(d:DR):Prop where
 sh:w.shape? m.br=some (54,9)
 psh:w.shape? m.bp=some (42,4)
 free: ∀j,w.frozen? ⟨m.br,j,none⟩=false
 pfree: ∀j,w.frozen? ⟨m.bp,j,none⟩=false
 c0:w.cell? ⟨m.br,0,none⟩=some (ptr m.bp)
 c1:w.cell? ⟨m.br,1,none⟩=some m.sv
 c2:w.cell? ⟨m.br,2,none⟩=some m.fv
 c3:w.cell? ⟨m.br,3,none⟩=some m.zv
 c4:w.cell? ⟨m.br,4,none⟩=some m.lv
 c5:w.cell? ⟨m.br,5,none⟩=some m.ov
 c6:w.cell? ⟨m.br,6,none⟩=some (.int .i64 d.stmts)
 c7:w.cell? ⟨m.br,7,none⟩=some (.bool false)
 p0:w.cell? ⟨m.bp,0,none⟩=some m.tv
 p1:w.cell? ⟨m.bp,1,none⟩=some (.int .i64 d.cells)
 p2:w.cell? ⟨m.bp,2,none⟩=some m.cv
 p3:w.cell? ⟨m.bp,3,none⟩=some m.pv
 srow:w.ownsRow 0 9 1 m.sv d.shared.length (d.shared.map λp=> .string p.1)
 frow:w.ownsRow 0 3 1 m.fv d.shared.length (d.shared.map λp=> .int .i64 p.2.1)
 zrow:w.ownsRow 0 3 1 m.zv d.shared.length (d.shared.map λp=> .int .i64 p.2.2)
 lrow:w.ownsRow 0 9 1 m.lv d.locals.length (d.locals.map .string)
 orow:w.ownsRow 0 3 1 m.ov d.opn.length (d.opn.map λ(k:Nat)=> .int .i64 (k:Int))
 trow:w.ownsRow 0 59 1 m.tv d.thr.length (m.ts.map DT.nv)
 crow:w.ownsRow 0 40 1 m.cv d.thr.length (m.ts.map λt=> .slice (some ⟨t.kb,0,none⟩) d.cells.toNat d.cells.toNat)
 prow:w.ownsRow 0 4 1 m.pv d.thr.length (m.ps.map .bool)
 thr:m.ts.map DT.N=d.thr
 th: ∀(i:Nat) (t:DT),m.ts[i]?=some t->DThAt w d.cells.toNat t
 lb:lab m.br=(0,0)/\D m.br
 lp:lab m.bp=(0,1)/\D m.bp
 ls: ∀g,m.sv.ownBlock=some g->lab g=(0,2)/\D g
 lf: ∀g,m.fv.ownBlock=some g->lab g=(0,3)/\D g
 lz: ∀g,m.zv.ownBlock=some g->lab g=(0,4)/\D g
 ll: ∀g,m.lv.ownBlock=some g->lab g=(0,5)/\D g
 lo: ∀g,m.ov.ownBlock=some g->lab g=(0,6)/\D g
 lt: ∀g,m.tv.ownBlock=some g->lab g=(0,7)/\D g
 lc: ∀g,m.cv.ownBlock=some g->lab g=(0,8)/\D g
 lq: ∀g,m.pv.ownBlock=some g->lab g=(0,9)/\D g
 ln: ∀(i:Nat) (t:DT),m.ts[i]?=some t->∀g,t.nv.ownBlock=some g->lab g=(i+1,0)/\D g
 lk: ∀(i:Nat) (t:DT),m.ts[i]?=some t->lab t.kb=(i+1,1)/\D t.kb
theorem DThAt.keep{t:DT}(h:DThAt w c t)(hc:Chg M w w')(hn: ∀g,t.nv.ownBlock=some g->∀i,¬M g i):DThAt w' c t where
 row:=Qc h.row hc hn
 nodes:=h.nodes
 ksh:=(hc.shape _ (Qd h.ksh)).trans h.ksh
 kfree:=λj=>(hc.frozen _ _ (Qd h.ksh)).trans (h.kfree j)
theorem DMach.keep(h:DMach D lab w m d)(hc:Chg M w w')(hM: ∀k i,D k->¬M k i):DMach D lab w' m d:=by
 have lb:=Qd h.sh
 have lp:=Qd h.psh
 have B:=λi=>hM m.br i h.lb.2
 have P:=λi=>hM m.bp i h.lp.2
 exact {h with
  sh:=(hc.shape _ lb).trans h.sh
  psh:=(hc.shape _ lp).trans h.psh
  free:=λj=>(hc.frozen _ _ lb).trans (h.free j)
  pfree:=λj=>(hc.frozen _ _ lp).trans (h.pfree j)
  c0:=(hc.cell _ _ lb (B _)).trans h.c0
  c1:=(hc.cell _ _ lb (B _)).trans h.c1
  c2:=(hc.cell _ _ lb (B _)).trans h.c2
  c3:=(hc.cell _ _ lb (B _)).trans h.c3
  c4:=(hc.cell _ _ lb (B _)).trans h.c4
  c5:=(hc.cell _ _ lb (B _)).trans h.c5
  c6:=(hc.cell _ _ lb (B _)).trans h.c6
  c7:=(hc.cell _ _ lb (B _)).trans h.c7
  p0:=(hc.cell _ _ lp (P _)).trans h.p0
  p1:=(hc.cell _ _ lp (P _)).trans h.p1
  p2:=(hc.cell _ _ lp (P _)).trans h.p2
  p3:=(hc.cell _ _ lp (P _)).trans h.p3
  srow:=Qc h.srow hc λg hg i=>hM g i (h.ls g hg).2
  frow:=Qc h.frow hc λg hg i=>hM g i (h.lf g hg).2
  zrow:=Qc h.zrow hc λg hg i=>hM g i (h.lz g hg).2
  lrow:=Qc h.lrow hc λg hg i=>hM g i (h.ll g hg).2
  orow:=Qc h.orow hc λg hg i=>hM g i (h.lo g hg).2
  trow:=Qc h.trow hc λg hg i=>hM g i (h.lt g hg).2
  crow:=Qc h.crow hc λg hg i=>hM g i (h.lc g hg).2
  prow:=Qc h.prow hc λg hg i=>hM g i (h.lq g hg).2
  th:=λi t ht=>(h.th i t ht).keep hc λg hg j=>hM g j (h.ln i t ht g hg).2}
theorem DMach.below(h:DMach D lab w m d)(hb:Below w.heap.size w w'):DMach D lab w' m d:=
 h.keep (M:=λ_ _=>False) (Chg.of_below hb) (λ_ _ _ e=>e)
theorem DMach.atom(h:DMach D lab w m d)(hl:d.locals.length<1000000)(u:ByteArray):
  Cl 42 #[ptr m.br, .string u] w λe w'=>e= .returned (.tuple #[.agg #[.bool (atV d.locals u).1, .int .i64 (atV d.locals u).2.1], .bool (atV d.locals u).2.2])/\Below w.heap.size w w':=
 zpf h.c4 (zem h.lrow) hl
section
variable{D:Nat->Prop}{lab:Nat->Nat×Nat}{w:World}{m:DM}{d:DR}{u:ByteArray}{bx:Nat}
theorem DMach.inSh(h:DMach D lab w m d)(hl:d.shared.length<1000000)(u:ByteArray): ∀w',Below w.heap.size w w'->Cl 22 #[m.sv, .string u] w' λe w2=>e= .returned (.int .i64 (plc (d.shared.map (·.1)) u))/\w2=w':=λw' hb=>by
 have hr:=(h.below hb).srow
 have:w'.ownsRow 0 9 1 m.sv (d.shared.map (·.1)).length ((d.shared.map (·.1)).map .string):=by
  rw [List.length_map,List.map_map];exact hr
 exact zca (zem this) (by rw [List.length_map];exact hl)
theorem DMach.inLoc(h:DMach D lab w m d)(hl:d.locals.length<1000000)(u:ByteArray): ∀w',Below w.heap.size w w'->Cl 22 #[m.lv, .string u] w' λe w2=>e= .returned (.int .i64 (plc d.locals u))/\w2=w':=λ_ hb=>
 zca (zem (h.below hb).lrow) hl
theorem zit(d:DR)(u:ByteArray):Gc d.shared u=Uh (d.shared.map (·.1)) u:=by
 unfold Gc Uh
 rw [List.any_map]
 rfl
theorem z1f(c1:w.cell? ⟨br,1,none⟩=some sv)(hk:0<=k)(KS:Hid (Cl 22 #[sv, .string u] w λe w2=>e= .returned (.int .i64 k)/\w2=w)):
  Cl 45 #[ptr br,ptr bx, .string u] w λe w'=>e= .returned (.int .i64 4)/\w'=w:=by
 have hlt:br<w.heap.size:=blt c1
 go_enter Tryz.func45,Tryz.ntmps45
 go_wp2_with fail
 refine KS.out.mono ?_
 rintro e w1 ⟨rfl,rfl⟩
 go_wp2
 go_ret
 exact ⟨rfl,rfl⟩
theorem zxn{lv:Value}(c1:w.cell? ⟨br,1,none⟩=some sv)(c4:w.cell? ⟨br,4,none⟩=some lv)(cx:w.cell? ⟨bx,1,none⟩=some x1)(fx:w.frozen? ⟨bx,1,none⟩=false)(hk: ¬0<=k)(hj: ¬j<0)
  (KS:Hid (Cl 22 #[sv, .string u] w λe w2=>e= .returned (.int .i64 k)/\w2=w)) (KL:Hid (Cl 22 #[lv, .string u] w λe w2=>e= .returned (.int .i64 j)/\w2=w)):
  Cl 45 #[ptr br,ptr bx, .string u] w λe w'=>e= .returned (.int .i64 0)/\w'=w.setCell ⟨bx,1,none⟩ (.int .i64 j):=by
 have hlt:br<w.heap.size:=blt c1
 have hlx:bx<w.heap.size:=blt cx
 go_enter Tryz.func45,Tryz.ntmps45
 go_wp2_with fail
 refine KS.out.mono ?_
 rintro e w1 ⟨rfl,rfl⟩
 go_wp2_with fail
 refine KL.out.mono ?_
 rintro e w1 ⟨rfl,rfl⟩
 go_wp2
 go_ret
 exact ⟨rfl,rfl⟩
theorem zti(c1:w.cell? ⟨br,1,none⟩=some sv)(c4:w.cell? ⟨br,4,none⟩=some (.slice p 4 c))(hk: ¬0<=k)(hj:j<0)
  (KS:Hid (Cl 22 #[sv, .string u] w λe w2=>e= .returned (.int .i64 k)/\w2=w)) (KL:Hid (Cl 22 #[.slice p 4 c, .string u] w λe w2=>e= .returned (.int .i64 j)/\w2=w)):
  Cl 45 #[ptr br,ptr bx, .string u] w λe w'=>e= .returned (.int .i64 5)/\w'=w:=by
 have hlt:br<w.heap.size:=blt c1
 go_enter Tryz.func45,Tryz.ntmps45
 go_wp2_with fail
 refine KS.out.mono ?_
 rintro e w1 ⟨rfl,rfl⟩
 go_wp2_with fail
 refine KL.out.mono ?_
 rintro e w1 ⟨rfl,rfl⟩
 go_wp2
 go_ret
 exact ⟨rfl,rfl⟩
theorem znd:(Tryz.prog.info? 9).map (λi=>(i.zero,i.size,i.bytes))=some (some (.string ByteArray.empty),1,16):=yak
theorem zxo{n:Nat}{xs:List Value}(c1:w.cell? ⟨br,1,none⟩=some sv)(c4:w.cell? ⟨br,4,none⟩=some (.slice p n c))(f4:w.frozen? ⟨br,4,none⟩=false)(hn:n<4)(hr:w.ownsRow 0 9 1 (.slice p n c) n xs)(no: ∀b,(Value.slice p n c).ownBlock=some b->b≠br/\b≠bx)(_hbb:br≠bx)(cx:w.cell? ⟨bx,1,none⟩=some x1)(fx:w.frozen? ⟨bx,1,none⟩=false)(hk: ¬0<=k)(hj:j<0)
  (KS:Hid (Cl 22 #[sv, .string u] w λe w2=>e= .returned (.int .i64 k)/\w2=w)) (KL:Hid (Cl 22 #[.slice p n c, .string u] w λe w2=>e= .returned (.int .i64 j)/\w2=w)):
  Cl 45 #[ptr br,ptr bx, .string u] w λe w'=>e= .returned (.int .i64 0)/\ ∃w3 g cp,w3.ownsRow 0 9 1 (.slice (some ⟨g,0,none⟩) (n+1) cp) (n+1) (xs++[.string u])/\Chg (λb _=>(Value.slice p n c).ownBlock=some b) (w.alloc (.cells #[.string u] 9)) w3/\((Value.slice p n c).ownBlock=some g\/g=w.heap.size+1)/\w'=(w3.setCell ⟨br,4,none⟩ (.slice (some ⟨g,0,none⟩) (n+1) cp)).setCell ⟨bx,1,none⟩ (.int .i64 n):=by
 have hlt:br<w.heap.size:=blt c1
 have hlx:bx<w.heap.size:=blt cx
 obtain ⟨i0,hi0,hz0,hz1,hz2⟩:=info_parts znd
 have hn4: ¬(n:Int)=4:=yai
 have hl1:n+1<=maxLen:=yap
 have hl2:(n+1)*16<=140737488355328:=yai
 have HO:=hid hr
 have HCB:Hid (∀w3 o,Chg (λb _=>(Value.slice p n c).ownBlock=some b) (w.alloc o) w3->w3.cell? ⟨br,4,none⟩=some (.slice p n c)/\w3.frozen? ⟨br,4,none⟩=false/\w3.cell? ⟨bx,1,none⟩=some x1/\w3.frozen? ⟨bx,1,none⟩=false):=hid (λw3 o hch=>
  ⟨(hch.cell _ _ yan (λe=>(no _ e).1 rfl)).trans ((World.cell?_alloc_past _ _ _ hlt).trans c4),(hch.frozen _ _ yan).trans ((World.frozen?_alloc_past _ _ _ hlt).trans f4),
   (hch.cell _ _ yan (λe=>(no _ e).2 rfl)).trans ((World.cell?_alloc_past _ _ _ hlx).trans cx),(hch.frozen _ _ yan).trans ((World.frozen?_alloc_past _ _ _ hlx).trans fx)⟩)
 clear hr no
 go_enter Tryz.func45,Tryz.ntmps45
 go_wp2_with fail
 refine KS.out.mono ?_
 rintro e w1 ⟨rfl,hw⟩
 subst w1
 go_wp2_with fail
 refine KL.out.mono ?_
 rintro e w1 ⟨rfl,hw⟩
 subst w1
 go_wp2_with (at_builtin;refine Zk rfl _ _ 49 rfl 9 i0 (.string ByteArray.empty) 16 Tryz.underlying49 hi0 hz0 hz1 hz2 rfl (.slice p n c) n xs rfl (HO.out.alloc _) ⟨w.heap.size,0,none⟩ (.string u) rfl (cell_one_new _ _ _) rfl hl1 hl2 ?_;go_must (intro g cp w3 hown1 hch hg;have hcb:=(HCB.out w3 _ hch).1;have hfb:=(HCB.out w3 _ hch).2.1;have hcx:=(HCB.out w3 _ hch).2.2.1;have hfx:=(HCB.out w3 _ hch).2.2.2;have HO1:=hid hown1;have HC1:=hid hch;have HG1:=hid hg;clear hown1 hch hg))
 go_ret
 exact ⟨rfl,w3,g,cp,HO1.out,HC1.out,by simpa using HG1.out,rfl⟩
end
end Go.Proofs.YtphcopbffecceaaGreatDoor
