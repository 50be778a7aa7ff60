import Derived.Test.YtkenoofmkbghiaaGreatDoorB21
set_option maxRecDepth 100000
set_option maxHeartbeats 4000000
namespace Go.Proofs.YtkenoofmkbghiaaGreatDoor
open Go.RowKit
variable{c cp g k k' o t:Nat}{ol tl:List Nat}{w3:World}{u:ByteArray}{l us ws ws1:List ByteArray}
theorem zv1(cE:En->Int)(es:List En)(k:Nat)(hk:k<es.length):((es.take (k+1)).map cE).sum=((es.take k).map cE).sum+cE es[k]:=by
 have e:es.take (k+1)=es.take k++[es[k]]:=by rw [List.take_add_one,List.getElem?_eq_getElem hk];rfl
 rw [e,List.map_append,List.sum_append]
 simp only [List.map_cons,List.map_nil,List.sum_cons,List.sum_nil,Int.add_zero]
theorem zap(cE:En->Int)(M:Int)(hM:0<=M): ∀es:List En,(∀e∈es,0<=cE e/\cE e<=M)->0<=(es.map cE).sum/\(es.map cE).sum<=es.length*M
 |[],_=>by simp
 |e::es,h=>by
  have h1:=h e yuf
  have h2:=zap cE M hM es (λx hx=>h x (by simp [hx]))
  simp only [List.map_cons,List.sum_cons,List.length_cons]
  refine ⟨by omega,?_⟩
  have:((es.length+1:Nat):Int)*M=es.length*M+M:=by rw [Int.natCast_add,Int.add_mul];simp
  omega
section
variable{w:World}{rv:Value}{es:List En}{ids:Ids}{tk:Nat}
theorem zd2(hrow:w.ownsRow 0 153 1 rv es.length (es.map (enV ids)))(h14:es.length<=14)(A:World->Prop)(hA:A w)(hAb:Hid (∀w1 w2,A w1->Below w1.heap.size w1 w2->A w2))(kd:En->Bool)(tm ci cE:En->Int)(wi:En->Value)
  (hent: ∀args w,(callFunc tk args).run Tryz.prog w= .ok (.enter tk args) w)
  (KK:Hid (∀w1,A w1->∀e∈es,Cl tk #[enV ids e] w1 λr w'=>r= .returned (.bool (kd e))/\Below w1.heap.size w1 w'))
  (TK:Hid (∀w1,A w1->∀e∈es,Cl 128 #[enV ids e] w1 λr w'=>r= .returned (.int .i64 (tm e))/\w'=w1))
  (WK:Hid (∀w1,A w1->∀e∈es,Cl 129 #[enV ids e] w1 λr w'=>r= .returned (wi e)/\w'=w1))
  (RK:Hid (∀w1,A w1->∀e∈es,Cl 96 #[wi e, .func (.func tk) #[] #[]] w1 λr w'=>r= .returned (.int .i64 (ci e))/\Below w1.heap.size w1 w'))
  (hc:Hid (∀e∈es,cE e=(if kd e=true then 1 else 0)+tm e*ci e)) (hb:Hid (∀e∈es,0<=tm e*ci e/\tm e*ci e<=100000000)):
  Cl 96 #[rv, .func (.func tk) #[] #[]] w λr w'=>r= .returned (.int .i64 (es.map cE).sum)/\Below w.heap.size w w':=by
 obtain ⟨ra,rk,hrv⟩: ∃a k,rv= .slice a es.length k:=ysp
 subst hrv
 have HC:Hid (∀k (hk:k<es.length),∃g,ra=some ⟨g,0,none⟩/\es.length<=rk/\g<w.heap.size/\w.cell? ⟨g,k,none⟩=some (enV ids es[k])):=yr5
 have HS:Hid (∀k,0<=((es.take k).map cE).sum/\((es.take k).map cE).sum<=1500000000):=by
  intro k
  have:=zap cE 100000001 yue (es.take k) (λe he=>by
   have he':e∈es:=List.mem_of_mem_take he
   have:=hb.out e he'
   rw [hc.out e he']
   split<;>omega)
  have hl:(es.take k).length<=14:=by rw [List.length_take];omega
  refine ⟨this.1,Int.le_trans this.2 ?_⟩
  have hl':((es.take k).length:Int)<=14:=yue
  have:=Int.mul_le_mul_of_nonneg_right hl' (show (0:Int)<=100000001 by omega)
  omega
 have HA:=hid hA
 clear hrow hA
 go_enter Tryz.func96,Tryz.ntmps96
 go_wp2
 go_loopw [5,10] (λv5 v10 wr=>∃k:Nat,k<=es.length/\v10= .int .i64 k/\v5= .int .i64 ((es.take k).map cE).sum/\Hid (Below w.heap.size w wr)) (λ_ v10 _=>es.length- (intOf v10).toNat)
 case atStart=>exact ⟨0,Nat.zero_le _,rfl,by simp,Below.refl _ w⟩
 case round=>
  obtain ⟨k,hk,rfl,rfl,hB⟩:=hrel
  have hS:=HS.out k
  by_cases hlt:k<es.length
  ·have hlt':(k:Int)<(es.length:Int):=by omega
   obtain ⟨g,hra,hrk,hg,hcell⟩:=HC.out k hlt
   subst hra
   have hcell':wr.cell? ⟨g,k,none⟩=some (enV ids es[k]):=(hB.out.cell (p:=⟨g,k,none⟩) hg).trans hcell
   have hA1:=hAb.out w wr HA.out hB.out
   have hmem:es[k]∈es:=List.getElem_mem hlt
   have K1:=hid (KK.out wr hA1 es[k] hmem)
   have hS2:=HS.out (k+1)
   have hsn:=zv1 cE es k hlt
   have hcE:=hc.out es[k] hmem
   have hb1:=hb.out es[k] hmem
   have HT:=hid (λw1 h1=>TK.out w1 h1 es[k] hmem)
   have HW:=hid (λw1 h1=>WK.out w1 h1 es[k] hmem)
   have HR:=hid (λw1 h1=>RK.out w1 h1 es[k] hmem)
   have HA1:=hid hA1
   clear hcell hA1
   generalize enV ids es[k]=v at*
   generalize hS0:((es.take k).map cE).sum=S at*
   generalize tm es[k]=t at*
   generalize ci es[k]=c at*
   generalize wi es[k]=wv at*
   have hwm:wrap64 (t*c)=t*c:=yul
   cases hkd:kd es[k] with
   |true=>
    rw [hkd] at K1 hcE
    simp only [if_true] at hcE
    have hw1:wrap64 (S+1)=S+1:=yul
    have hw2:wrap64 (S+1+t*c)=S+1+t*c:=yul
    have hfin:((es.take (k+1)).map cE).sum=S+1+t*c:=yue
    have HF:=hid hfin
    clear hfin hsn hcE hS hS2 hb1
    go_wp2_with fail
    refine K1.out.mono ?_
    rintro e w1 ⟨rfl,b1⟩
    have B1:=hid b1
    clear b1 K1
    go_wp2_with fail
    refine (HT.out w1 (hAb.out _ _ HA1.out B1.out)).mono ?_
    rintro e w2 ⟨rfl,rfl⟩
    go_wp2_with fail
    refine (HW.out _ (hAb.out _ _ HA1.out B1.out)).mono ?_
    rintro e w3 ⟨rfl,rfl⟩
    go_wp2_with fail
    refine (HR.out _ (hAb.out _ _ HA1.out B1.out)).mono ?_
    rintro e w4 ⟨rfl,b4⟩
    have B4:=hid (hB.out.trans ((B1.out.trans (b4.mono B1.out.size)).mono hB.out.size))
    clear b4 B1 HT HW HR
    go_wp2
    go_roundw
    case rel=>exact ⟨k+1,by omega,by go_num,by rw [HF.out,hw2],B4⟩
    case measure=>simp [intOf];omega
   |false=>
    rw [hkd] at K1 hcE
    simp only [Bool.false_eq_true,if_false] at hcE
    have hw2:wrap64 (S+t*c)=S+t*c:=yul
    have hfin:((es.take (k+1)).map cE).sum=S+t*c:=yue
    have HF:=hid hfin
    clear hfin hsn hcE hS hS2 hb1
    go_wp2_with fail
    refine K1.out.mono ?_
    rintro e w1 ⟨rfl,b1⟩
    have B1:=hid b1
    clear b1 K1
    go_wp2_with fail
    refine (HT.out w1 (hAb.out _ _ HA1.out B1.out)).mono ?_
    rintro e w2 ⟨rfl,rfl⟩
    go_wp2_with fail
    refine (HW.out _ (hAb.out _ _ HA1.out B1.out)).mono ?_
    rintro e w3 ⟨rfl,rfl⟩
    go_wp2_with fail
    refine (HR.out _ (hAb.out _ _ HA1.out B1.out)).mono ?_
    rintro e w4 ⟨rfl,b4⟩
    have B4:=hid (hB.out.trans ((B1.out.trans (b4.mono B1.out.size)).mono hB.out.size))
    clear b4 B1 HT HW HR
    go_wp2
    go_roundw
    case rel=>exact ⟨k+1,by omega,by go_num,by rw [HF.out,hw2],B4⟩
    case measure=>simp [intOf];omega
  ·have hlt': ¬(k:Int)<(es.length:Int):=by omega
   have HE:Hid (((es.take k).map cE).sum=(es.map cE).sum):=by
    have:k=es.length:=yue
    rw [this,List.take_length]
    exact rfl
   clear hS
   generalize ((es.take k).map cE).sum=S at*
   go_wp2
   go_ret
   refine ⟨?_,hB.out⟩
   rw [<-HE.out]
   rfl
end
section
variable{M:Nat->Nat->Prop}{D D0:Nat->Prop}{lab lab':Nat->Nat×Nat}{w W:World}{br sb bs:Nat}{tv ov:Value}{st:RS}{ms:List HM}
theorem zaq(ms:List HM)(i:Nat)(hi:i<ms.length)(m':HM)(hb:m'.b=ms[i].b)(hT:hkT m'.h.k=hkT ms[i].h.k):Qu (ms.set i m')=Qu ms:=by
 unfold Qu
 rw [List.map_set,hb,hT]
 apply List.ext_getElem?
 intro j
 by_cases e:i=j
 ·subst e
  rw [List.getElem?_set_self yu0]
  simp [hi]
 ·rw [List.getElem?_set_ne e]
theorem RMach.updH(h:RMach D lab w br sb bs tv ov st ms)(i:Nat)(hi:i<ms.length)(m':HM)(hb:m'.b=ms[i].b)(hT:hkT m'.h.k=hkT ms[i].h.k)(hc:Chg M w W)(hM: ∀k j,k<w.heap.size->M k j->∃x,lab k=(i+1,x))(hlab: ∀k,k<w.heap.size->lab' k=lab k)(hd:HdAt W (Qu ms) m')(hl:LabH D lab' i m'):
  RMach D lab' W br sb bs tv ov {st with hs:=st.hs.set i m'.h} (ms.set i m'):=by
 have lbr:=Qd h.sh
 have no: ∀k l,k<w.heap.size->lab k=l->(∀x,l≠(i+1,x))->∀j,¬M k j:=λk l hk e hl j hm=>by
  obtain ⟨x,hx⟩:=hM k j hk hm
  exact hl x (e.symm.trans hx)
 have kb:=no br _ lbr h.lbr.1 (λx=>by simp)
 have ids:=zaq ms i hi m' hb hT
 exact {
  sh:=(hc.shape _ lbr).trans h.sh,c0:=(hc.cell _ _ lbr (kb _)).trans h.c0,c1:=(hc.cell _ _ lbr (kb _)).trans h.c1,c2:=(hc.cell _ _ lbr (kb _)).trans h.c2,c3:=(hc.cell _ _ lbr (kb _)).trans h.c3,c4:=(hc.cell _ _ lbr (kb _)).trans h.c4
  free:=λj=>(hc.frozen _ _ lbr).trans (h.free j)
  mS:=h.mS.keep hc (no _ _ h.mS.lt h.lsb.1 (λx=>by simp))
  mG:=h.mG.keep hc (no _ _ h.mG.lt h.lbs.1 (λx=>by simp))
  trow:=by rw [ids];exact Qc h.trow hc (λg hg=>no g _ (h.trow.lt g hg).2 (h.ltv g hg).1 (λx=>by simp))
  orow:=by rw [ids];exact Qc h.orow hc (λg hg=>no g _ (h.orow.lt g hg).2 (h.lov g hg).1 (λx=>by simp))
  hd:=λj hj=>by
   rw [ids]
   by_cases e:i=j
   ·subst e;rw [List.getElem_set_self];exact hd
   ·rw [List.getElem_set_ne e]
    have hj':j<ms.length:=yup
    have hdj:=h.hd j hj'
    have l:=h.lhd j hj'
    have ne: ∀y x,((j+1,y):Nat×Nat)≠(i+1,x):=λy x e'=>e (by simp at e';omega)
    exact hdj.keep hc (no _ _ (Qd hdj.sh) l.b.1 (ne 0)) (λg hg=>no g _ (hdj.row.lt g hg).2 (l.rv g hg).1 (ne 1)) (λht=>no _ _ (hdj.mblt ht) (l.mb ht).1 (ne 2))
  hs:=by simp only;rw [List.map_set,h.hs]
  lbr:=⟨(hlab _ lbr).trans h.lbr.1,h.lbr.2⟩
  lsb:=⟨(hlab _ h.mS.lt).trans h.lsb.1,h.lsb.2⟩
  ltv:=λg hg=>⟨(hlab _ (h.trow.lt g hg).2).trans (h.ltv g hg).1,(h.ltv g hg).2⟩
  lov:=λg hg=>⟨(hlab _ (h.orow.lt g hg).2).trans (h.lov g hg).1,(h.lov g hg).2⟩
  lbs:=⟨(hlab _ h.mG.lt).trans h.lbs.1,h.lbs.2⟩
  lhd:=λj hj=>by
   by_cases e:i=j
   ·subst e;rw [List.getElem_set_self];exact hl
   ·rw [List.getElem_set_ne e]
    have hj':j<ms.length:=yup
    have hdj:=h.hd j hj'
    have l:=h.lhd j hj'
    exact ⟨⟨(hlab _ (Qd hdj.sh)).trans l.b.1,l.b.2⟩,λg hg=>⟨(hlab _ (hdj.row.lt g hg).2).trans (l.rv g hg).1,(l.rv g hg).2⟩,λht=>⟨(hlab _ (hdj.mblt ht)).trans (l.mb ht).1,(l.mb ht).2⟩⟩}
theorem RMach.hsAt(h:RMach D lab w br sb bs tv ov st ms)(i:Nat)(hi:i<ms.length):st.hs[i]?=some ms[i].h:=by rw [<-h.hs];simp [hi]
theorem RMach.count(h:RMach D lab w br sb bs tv ov st ms)(t:Nat)(ht:t<ms.length)(l:List ByteArray)(c:Nat)(hk:ms[t].h.k= .thr l c):
  RMach D lab (w.setCell ⟨ms[t].b,2,none⟩ (.int .i64 ((c:Int)+1))) br sb bs tv ov {st with hs:=st.hs.set t ⟨.thr l (c+1),ms[t].h.ents⟩} (ms.set t {ms[t] with h:=⟨.thr l (c+1),ms[t].h.ents⟩})/\Chg (λk _=>D k) w (w.setCell ⟨ms[t].b,2,none⟩ (.int .i64 ((c:Int)+1))):=by
 have hd:=h.hd t ht
 have l':=h.lhd t ht
 have lb:=Qd hd.sh
 have hc:Chg (λk i=>k=ms[t].b/\i=2) w (w.setCell ⟨ms[t].b,2,none⟩ (.int .i64 ((c:Int)+1))):=(Chg.refl _ w).setCell (λ_=>⟨rfl,rfl⟩) _
 have hkk:=hd.kind
 rw [hk] at hkk
 have hthr:ms[t].h.k.isThr:=by rw [hk];trivial
 have nr: ∀g,ms[t].rv.ownBlock=some g->g≠ms[t].b:=λg hg e=>by
  have:=(l'.rv g hg).1
  rw [e,l'.b.1] at this
  simp at this
 have nm:ms[t].mb≠ms[t].b:=λe=>by
  have:=(l'.mb hthr).1
  rw [e,l'.b.1] at this
  simp at this
 refine ⟨h.updH t ht {ms[t] with h:=⟨.thr l (c+1),ms[t].h.ents⟩} rfl (by rw [hk];rfl) hc (λk j _ e=>⟨0,e.1▸l'.b.1⟩) (λ_ _=>rfl) ⟨?_,?_,?_,?_,?_⟩ ⟨l'.b,l'.rv,λ_=>l'.mb hthr⟩,hc.mono (λk i _ e=>e.1▸l'.b.2)⟩
 ·exact (hc.shape _ lb).trans (by rw [hd.sh,hk];rfl)
 ·exact (hc.cell _ _ lb (λe=>by omega)).trans hd.rc
 ·exact Qc hd.row hc (λg hg i e=>nr g hg e.1)
 ·exact ⟨(hc.cell _ _ lb (λe=>by omega)).trans hkk.1,by rw [Qg hkk.2.1 rfl];simp,hkk.2.2.keep hc (λi e=>nm e.1)⟩
 ·exact λj=>(hc.frozen _ _ lb).trans (hd.free j)
theorem zri(l:List ByteArray)(u:ByteArray)(hu:Uh l u=false): ∀x,zgd (zjx l) u (.int .i64 l.length) x=zjx (l++[u]) x:=by
 intro x
 unfold zgd zjx
 rw [List.findIdx?_append]
 by_cases e:x=u
 ·subst e
  rw [if_pos rfl]
  have:l.findIdx? (λy=>decide (y=x))=none:=by
   rw [List.findIdx?_eq_none_iff]
   intro y hy
   have:=List.any_eq_false.1 hu y hy
   simpa using this
  rw [this]
  simp
 ·rw [if_neg e]
  have:[u].findIdx? (λy=>decide (y=x))=none:=by
   simp
   exact λe'=>e e'.symm
  rw [this]
  simp
theorem RMach.local(h:RMach D lab w br sb bs tv ov st ms)(t:Nat)(ht:t<ms.length)(l:List ByteArray)(c:Nat)(hk:ms[t].h.k= .thr l c)(u:ByteArray)(hu:u.size<=maxLen)(hnew:Uh l u=false)(hl:l.length<1000):
  ∃W,(Instr.mapUpdate 109 (.map (some ms[t].mb)) (.string u) (.int .i64 l.length)).run Tryz.prog w= .ok () W/\
  RMach D lab W br sb bs tv ov {st with hs:=st.hs.set t ⟨.thr (l++[u]) c,ms[t].h.ents⟩} (ms.set t {ms[t] with h:=⟨.thr (l++[u]) c,ms[t].h.ents⟩})/\Chg (λk _=>D k) w W:=by
 have hd:=h.hd t ht
 have l':=h.lhd t ht
 have lb:=Qd hd.sh
 have hkk:=hd.kind
 rw [hk] at hkk
 have hthr:ms[t].h.k.isThr:=by rw [hk];trivial
 obtain ⟨W,hrun,hm,hc⟩:=hkk.2.2.put Tryz.underlying109 yuk hu (.int .i64 l.length)
 have hsome:(zjx l u).isSome=false:=by rw [zho];exact hnew
 rw [hsome] at hm
 simp only [Bool.false_eq_true,if_false] at hm
 have nb:ms[t].b≠ms[t].mb:=λe=>by
  have:=(l'.mb hthr).1
  rw [<-e,l'.b.1] at this
  simp at this
 have nr: ∀g,ms[t].rv.ownBlock=some g->g≠ms[t].mb:=λg hg e=>by
  have:=(l'.rv g hg).1
  rw [e,(l'.mb hthr).1] at this
  simp at this
 refine ⟨W,hrun,h.updH t ht {ms[t] with h:=⟨.thr (l++[u]) c,ms[t].h.ents⟩} rfl (by rw [hk];rfl) hc (λk j _ e=>⟨2,e▸(l'.mb hthr).1⟩) (λ_ _=>rfl) ⟨?_,?_,?_,?_,?_⟩ ⟨l'.b,l'.rv,λ_=>l'.mb hthr⟩,hc.mono (λk i _ e=>e▸(l'.mb hthr).2)⟩
 ·exact (hc.shape _ lb).trans (by rw [hd.sh,hk];rfl)
 ·exact (hc.cell _ _ lb nb).trans hd.rc
 ·exact Qc hd.row hc (λg hg i e=>nr g hg e)
 ·refine ⟨(hc.cell _ _ lb nb).trans hkk.1,(hc.cell _ _ lb nb).trans hkk.2.1,?_⟩
  simp only [List.length_append,List.length_cons,List.length_nil]
  exact hm.congr (zri l u hnew)
 ·exact λj=>(hc.frozen _ _ lb).trans (hd.free j)
end
section
variable{M:Nat->Nat->Prop}{D D0:Nat->Prop}{lab lab':Nat->Nat×Nat}{w W:World}{br sb bs:Nat}{tv ov:Value}{st:RS}{ms:List HM}
theorem zrj(w:World):w.ownsRow 0 153 1 (.slice none 0 0) 0 []:=⟨rfl, .inl ⟨rfl,rfl⟩⟩
def zar(w:World)(s:St)(b:Nat):Prop:=w.shape? b=some (z53 (.st s))/\w.cell? ⟨b,0,none⟩=some (.slice none 0 0)/\HkAt w b 0 (.st s)/\ ∀j,w.frozen? ⟨b,j,none⟩=false
theorem zrk(ids x:Ids)(e:En)(h: ∀j,e= .inr j->j<ids.length):enV (ids++x) e=enV ids e:=by
 cases e with
 |inl s=>rfl
 |inr j=>exact zjy ids x j (h j rfl)
def RS.entOk(st:RS):Prop:=(∀h∈st.hs,∀j, .inr j∈h.ents->j<st.hs.length)/\(∀j∈st.threads,j<st.hs.length)/\ ∀j∈st.opn,j<st.hs.length
theorem RMach.newH(h:RMach D0 lab w br sb bs tv ov st ms)(he:st.entOk)(h0: ∀k,D0 k->D k)(s:St)(b:Nat)(hb:zar w s b)(hD:D b)(hn: ¬D0 b):
  ∃lab',RMach D lab' w br sb bs tv ov {st with hs:=st.hs++[⟨.st s,[]⟩]} (ms++[⟨b, .slice none 0 0,0,⟨.st s,[]⟩⟩]):=by
 let lab':Nat->Nat×Nat:=λk=>if k=b then (ms.length+1,0) else lab k
 have hold: ∀k,D0 k->lab' k=lab k:=λk hk=>if_neg (show ¬k=b from λe=>hn (e▸hk))
 have il:(Qu ms).length=st.hs.length:=h.idl
 have ids:Qu (ms++[⟨b, .slice none 0 0,0,⟨.st s,[]⟩⟩])=Qu ms++[(hkT (.st s),b)]:=by simp [Qu]
 refine ⟨lab',{
  sh:=h.sh,c0:=h.c0,c1:=h.c1,c2:=h.c2,c3:=h.c3,c4:=h.c4,free:=h.free,mS:=h.mS,mG:=h.mG
  trow:=?_,orow:=?_,hd:=?_,hs:=?_
  lbr:=⟨(hold _ h.lbr.2).trans h.lbr.1,h0 _ h.lbr.2⟩
  lsb:=⟨(hold _ h.lsb.2).trans h.lsb.1,h0 _ h.lsb.2⟩
  ltv:=λg hg=>⟨(hold _ (h.ltv g hg).2).trans (h.ltv g hg).1,h0 _ (h.ltv g hg).2⟩
  lov:=λg hg=>⟨(hold _ (h.lov g hg).2).trans (h.lov g hg).1,h0 _ (h.lov g hg).2⟩
  lbs:=⟨(hold _ h.lbs.2).trans h.lbs.1,h0 _ h.lbs.2⟩
  lhd:=?_}⟩
 ·rw [ids]
  have e:st.threads.map (idP (Qu ms++[(hkT (.st s),b)]))=st.threads.map (idP (Qu ms)):=List.map_congr_left λj hj=>zqv _ _ j (by rw [il];exact he.2.1 j hj)
  rw [e]
  exact h.trow
 ·rw [ids]
  have e:st.opn.map (idV (Qu ms++[(hkT (.st s),b)]))=st.opn.map (idV (Qu ms)):=List.map_congr_left λj hj=>zjy _ _ j (by rw [il];exact he.2.2 j hj)
  rw [e]
  exact h.orow
 ·intro i hi
  rw [ids]
  by_cases hi':i<ms.length
  ·rw [List.getElem_append_left hi']
   have hd:=h.hd i hi'
   have e:ms[i].h.ents.map (enV (Qu ms++[(hkT (.st s),b)]))=ms[i].h.ents.map (enV (Qu ms)):=List.map_congr_left λx hx=>zrk _ _ x (λj hj=>by
    rw [il]
    exact he.1 ms[i].h yv6 j (hj▸hx))
   exact ⟨hd.sh,hd.rc,by rw [e];exact hd.row,hd.kind,hd.free⟩
  ·exact ysy
 ·simp [h.hs]
 ·intro i hi
  by_cases hi':i<ms.length
  ·exact ysi
  ·obtain rfl:i=ms.length:=by simp at hi;omega
   rw [List.getElem_append_right (Nat.le_refl _)]
   simp only [Nat.sub_self,List.getElem_cons_zero]
   exact ⟨⟨if_pos rfl,hD⟩,λg hg=>by simp [Value.ownBlock] at hg,λht=>ht.elim⟩
theorem zv2:(Tryz.prog.info? 153).map (λi=>(i.zero,i.size,i.bytes))=some (some .nilIface,1,16):=yug
theorem zod:(Tryz.prog.info? 216).map (λi=>(i.zero,i.size,i.bytes))=some (some .nilIface,1,16):=yug
theorem zv3:(Tryz.prog.info? 104).map (λi=>(i.zero,i.size,i.bytes))=some (some (.pointer none),1,8):=yug
theorem RMach.ent(h:RMach D lab w br sb bs tv ov st ms)(hD: ∀k,w.heap.size<=k->D k)(i:Nat)(hi:i<ms.length)(e:En)(o:Obj)
  (ho:w3.ownsRow 0 153 1 (.slice (some ⟨g,0,none⟩) (ms[i].h.ents.length+1) cp) (ms[i].h.ents.length+1) (ms[i].h.ents.map (enV (Qu ms))++[enV (Qu ms) e]))
  (hc:Chg (λk _=>ms[i].rv.ownBlock=some k) (w.alloc o) w3) (hg:ms[i].rv.ownBlock=some g\/g=(w.alloc o).heap.size):
  ∃lab',RMach D lab' (w3.setCell ⟨ms[i].b,0,none⟩ (.slice (some ⟨g,0,none⟩) (ms[i].h.ents.length+1) cp)) br sb bs tv ov {st with hs:=st.hs.set i ⟨ms[i].h.k,ms[i].h.ents++[e]⟩} (ms.set i {ms[i] with rv:= .slice (some ⟨g,0,none⟩) (ms[i].h.ents.length+1) cp,h:=⟨ms[i].h.k,ms[i].h.ents++[e]⟩})/\Chg (λk _=>D k) w (w3.setCell ⟨ms[i].b,0,none⟩ (.slice (some ⟨g,0,none⟩) (ms[i].h.ents.length+1) cp)):=by
 have hd:=h.hd i hi
 have l':=h.lhd i hi
 have lb:=Qd hd.sh
 have hsz:(w.alloc o).heap.size=w.heap.size+1:=yuf
 have hc0:Chg (λk _=>ms[i].rv.ownBlock=some k) w w3:=((Chg.refl _ w).alloc o).trans hc
 have hset:Chg (λk j=>k=ms[i].b/\j=0) w3 (w3.setCell ⟨ms[i].b,0,none⟩ (.slice (some ⟨g,0,none⟩) (ms[i].h.ents.length+1) cp)):=(Chg.refl _ w3).setCell (λ_=>⟨rfl,rfl⟩) _
 have hall:Chg (λk j=>ms[i].rv.ownBlock=some k\/(k=ms[i].b/\j=0)) w (w3.setCell ⟨ms[i].b,0,none⟩ (.slice (some ⟨g,0,none⟩) (ms[i].h.ents.length+1) cp)):=(hc0.mono (λ_ _ _ e=> .inl e)).trans (hset.mono (λ_ _ _ e=> .inr e))
 have nr: ¬ms[i].rv.ownBlock=some ms[i].b:=λe=>by
  have:=(l'.rv _ e).1
  rw [l'.b.1] at this
  simp at this
 have hgb:g≠ms[i].b:=yt5
 let lab':Nat->Nat×Nat:=λk=>if k=g then (i+1,1) else lab k
 have hold: ∀k,k<w.heap.size->lab' k=lab k:=by
  intro k hk
  show (if k=g then _ else _)=_
  by_cases e:k=g
  ·rw [if_pos e]
   rcases hg with hg|hg
   ·rw [e];exact ((l'.rv g hg).1).symm
   ·omega
  ·rw [if_neg e]
 have nm:ms[i].h.k.isThr->∀j,¬(ms[i].rv.ownBlock=some ms[i].mb\/(ms[i].mb=ms[i].b/\j=0)):=λht j e=>by
  rcases e with e|e
  ·have:=(l'.rv _ e).1
   rw [(l'.mb ht).1] at this
   simp at this
  ·have:=(l'.mb ht).1
   rw [e.1,l'.b.1] at this
   simp at this
 refine ⟨lab',h.updH i hi {ms[i] with rv:= .slice (some ⟨g,0,none⟩) (ms[i].h.ents.length+1) cp,h:=⟨ms[i].h.k,ms[i].h.ents++[e]⟩} rfl rfl hall ?_ hold ⟨(hall.shape _ lb).trans hd.sh,?_,?_,?_,λj=>(hall.frozen _ _ lb).trans (hd.free j)⟩ ⟨⟨(hold _ lb).trans l'.b.1,l'.b.2⟩,?_,λht=>⟨(hold _ (hd.mblt ht)).trans (l'.mb ht).1,(l'.mb ht).2⟩⟩,hall.mono ?_⟩
 ·rintro k j _ (e|⟨rfl,_⟩)
  ·exact ⟨1,(l'.rv k e).1⟩
  ·exact ⟨0,l'.b.1⟩
 ·exact Qg ((hc0.cell _ _ lb nr).trans hd.rc) rfl
 ·exact ysv
 ·refine hd.kind.keep lb hall (λj hj e=>?_) nm
  rcases e with e|e
  ·exact nr e
  ·omega
 ·intro g' hg'
  simp [Value.ownBlock] at hg'
  subst hg'
  refine ⟨if_pos rfl,?_⟩
  rcases hg with e|e
  ·exact (l'.rv _ e).2
  ·exact hD _ yue
 ·rintro k j _ (e|⟨rfl,_⟩)
  ·exact (l'.rv k e).2
  ·exact l'.b.2
theorem zma(h:RMach D lab w br sb bs tv ov st ms)(hD: ∀k,w.heap.size<=k->D k)(i:Nat)(hi:i<ms.length)(e:En)(T:TypeId)(u:Value)(hv:enV (Qu ms) e= .iface T u)(hlen:ms[i].h.ents.length<1000):
  Cl 219 #[ptr ms[i].b, .iface T u] w λe' w'=>e'= .returned (.tuple #[])/\(∃lab' rv,RMach D lab' w' br sb bs tv ov {st with hs:=st.hs.set i ⟨ms[i].h.k,ms[i].h.ents++[e]⟩} (ms.set i {ms[i] with rv:=rv,h:=⟨ms[i].h.k,ms[i].h.ents++[e]⟩}))/\Chg (λk _=>D k) w w':=by
 obtain ⟨i0,hi0,hz0,hz1,hz2⟩:=info_parts zv2
 have hd:=h.hd i hi
 have lb:=Qd hd.sh
 have hc:=hd.rc
 have nr: ¬ms[i].rv.ownBlock=some ms[i].b:=λe=>by
  have:=((h.lhd i hi).rv _ e).1
  rw [(h.lhd i hi).b.1] at this
  simp at this
 have HO:=hid hd.row
 have H:=hid h
 have hl1:ms[i].h.ents.length+1<=maxLen:=yuk
 have hl2:(ms[i].h.ents.length+1)*16<=140737488355328:=yue
 have HCB:Hid (∀w3 o,Chg (λk _=>ms[i].rv.ownBlock=some k) (w.alloc o) w3->w3.cell? ⟨ms[i].b,0,none⟩=some ms[i].rv/\w3.frozen? ⟨ms[i].b,0,none⟩=false):=hid (λw3 o hch=>⟨(hch.cell _ _ yuj nr).trans ((World.cell?_alloc_past _ _ _ lb).trans hc),(hch.frozen _ _ yuj).trans ((World.frozen?_alloc_past _ _ _ lb).trans (hd.free 0))⟩)
 have HRES:=hid (λo w3 g cp=>h.ent hD i hi e o (w3:=w3) (g:=g) (cp:=cp))
 rw [hv] at HRES
 clear h hd nr hlen hD
 generalize hb:ms[i].b=b at*
 generalize hr:ms[i].rv=rv at*
 generalize hm:ms[i].h.ents.map (enV (Qu ms))=xs at*
 generalize hn:ms[i].h.ents.length=n at*
 clear hv
 go_enter Tryz.func219,Tryz.ntmps219
 go_wp2_with (at_builtin;refine Zk rfl _ _ 106 rfl 153 i0 .nilIface 16 Tryz.underlying106 hi0 hz0 hz1 hz2 rfl rv n xs rfl (HO.out.alloc _) ⟨w.heap.size,0,none⟩ (.iface T u) rfl (cell_one_new _ _ _) rfl hl1 hl2 ?_;go_must (intro g cp w3 hown1 hch hg;have hcb:=(HCB.out w3 _ hch).1;have hfb:=(HCB.out w3 _ hch).2;have HO1:=hid hown1;have HC1:=hid hch;have HG1:=hid hg;clear hown1 hch hg))
 go_end0
 obtain ⟨lab',r1,r2⟩:=HRES.out _ w3 g cp HO1.out HC1.out HG1.out
 rw [hb] at r1
 exact ⟨rfl,⟨lab',_,r1⟩,r2⟩
end
section
variable{M:Nat->Nat->Prop}{D D0:Nat->Prop}{lab lab':Nat->Nat×Nat}{w W:World}{br sb bs:Nat}{tv ov tv' ov':Value}{st st':RS}{ms:List HM}
theorem RMach.updB(h:RMach D lab w br sb bs tv ov st ms)(hs':st'.hs=st.hs)(hc:Chg M w W)(hM: ∀k j,k<w.heap.size->M k j->lab k=(0,1)\/lab k=(0,2)\/lab k=(0,3)\/(k=br/\(j=1\/j=2\/j=3)))(hlab: ∀k,k<w.heap.size->lab' k=lab k)
  (c1:W.cell? ⟨br,1,none⟩=some tv') (c2:W.cell? ⟨br,2,none⟩=some (.int .i64 st'.cells)) (c3:W.cell? ⟨br,3,none⟩=some ov') (mS:MapIs W sb (shF st'.shared) st'.shared.length)
  (trow:W.ownsRow 0 104 1 tv' st'.threads.length (st'.threads.map (idP (Qu ms)))) (orow:W.ownsRow 0 216 1 ov' st'.opn.length (st'.opn.map (idV (Qu ms))))
  (ltv: ∀g,tv'.ownBlock=some g->lab' g=(0,2)/\D g) (lov: ∀g,ov'.ownBlock=some g->lab' g=(0,3)/\D g):RMach D lab' W br sb bs tv' ov' st' ms:=by
 have lbr:=Qd h.sh
 have no: ∀k i x,k<w.heap.size->lab k=(i+1,x)->∀j,¬M k j:=λk i x hk e j hm=>by
  rcases hM k j hk hm with q|q|q|⟨rfl,_⟩
  ·rw [e] at q;simp at q
  ·rw [e] at q;simp at q
  ·rw [e] at q;simp at q
  ·rw [h.lbr.1] at e;simp at e
 have kb: ∀j,j=0\/j=4->¬M br j:=λj hj hm=>by
  rcases hM br j lbr hm with q|q|q|⟨_,q⟩
  ·rw [h.lbr.1] at q;simp at q
  ·rw [h.lbr.1] at q;simp at q
  ·rw [h.lbr.1] at q;simp at q
  ·omega
 have nbs: ∀j,¬M bs j:=λj hm=>by
  rcases hM bs j h.mG.lt hm with q|q|q|⟨q,_⟩
  ·rw [h.lbs.1] at q;simp at q
  ·rw [h.lbs.1] at q;simp at q
  ·rw [h.lbs.1] at q;simp at q
  ·have:=h.lbs.1;rw [q,h.lbr.1] at this;simp at this
 exact {
  sh:=(hc.shape _ lbr).trans h.sh,c0:=(hc.cell _ _ lbr (kb 0 (.inl rfl))).trans h.c0,c1:=c1,c2:=c2,c3:=c3,c4:=(hc.cell _ _ lbr (kb 4 (.inr rfl))).trans h.c4
  free:=λj=>(hc.frozen _ _ lbr).trans (h.free j)
  mS:=mS
  mG:=h.mG.keep hc nbs
  trow:=trow,orow:=orow
  hd:=λi hi=>by
   have hd:=h.hd i hi
   have l:=h.lhd i hi
   exact hd.keep hc (no _ _ _ (Qd hd.sh) l.b.1) (λg hg=>no g _ _ (hd.row.lt g hg).2 (l.rv g hg).1) (λht=>no _ _ _ (hd.mblt ht) (l.mb ht).1)
  hs:=h.hs.trans hs'.symm
  lbr:=⟨(hlab _ lbr).trans h.lbr.1,h.lbr.2⟩
  lsb:=⟨(hlab _ h.mS.lt).trans h.lsb.1,h.lsb.2⟩
  ltv:=ltv,lov:=lov
  lbs:=⟨(hlab _ h.mG.lt).trans h.lbs.1,h.lbs.2⟩
  lhd:=λi hi=>by
   have hd:=h.hd i hi
   have l:=h.lhd i hi
   exact ⟨⟨(hlab _ (Qd hd.sh)).trans l.b.1,l.b.2⟩,λg hg=>⟨(hlab _ (hd.row.lt g hg).2).trans (l.rv g hg).1,(l.rv g hg).2⟩,λht=>⟨(hlab _ (hd.mblt ht)).trans (l.mb ht).1,(l.mb ht).2⟩⟩}
theorem zd3{l l':Nat×Nat}(h:lab k=l)(h':lab k'=l')(hl:l≠l'):k≠k':=λe=>hl (by rw [<-h,<-h',e])
theorem RMach.push(h:RMach D lab w br sb bs tv ov st ms)(hD: ∀k,w.heap.size<=k->D k)(x:Nat)(o:Obj)
  (ho:w3.ownsRow 0 216 1 (.slice (some ⟨g,0,none⟩) (st.opn.length+1) cp) (st.opn.length+1) (st.opn.map (idV (Qu ms))++[idV (Qu ms) x]))
  (hc:Chg (λk _=>ov.ownBlock=some k) (w.alloc o) w3) (hg:ov.ownBlock=some g\/g=(w.alloc o).heap.size):
  ∃lab',RMach D lab' (w3.setCell ⟨br,3,none⟩ (.slice (some ⟨g,0,none⟩) (st.opn.length+1) cp)) br sb bs tv (.slice (some ⟨g,0,none⟩) (st.opn.length+1) cp) {st with opn:=st.opn++[x]} ms/\Chg (λk _=>D k) w (w3.setCell ⟨br,3,none⟩ (.slice (some ⟨g,0,none⟩) (st.opn.length+1) cp)):=by
 have lb:=Qd h.sh
 have hsz:(w.alloc o).heap.size=w.heap.size+1:=yuf
 have hc0:Chg (λk _=>ov.ownBlock=some k) w w3:=((Chg.refl _ w).alloc o).trans hc
 have hset:Chg (λk j=>k=br/\j=3) w3 (w3.setCell ⟨br,3,none⟩ (.slice (some ⟨g,0,none⟩) (st.opn.length+1) cp)):=(Chg.refl _ w3).setCell (λ_=>⟨rfl,rfl⟩) _
 have hall:Chg (λk j=>ov.ownBlock=some k\/(k=br/\j=3)) w (w3.setCell ⟨br,3,none⟩ (.slice (some ⟨g,0,none⟩) (st.opn.length+1) cp)):=(hc0.mono (λ_ _ _ e=> .inl e)).trans (hset.mono (λ_ _ _ e=> .inr e))
 have nr: ¬ov.ownBlock=some br:=λe=>zd3 (h.lov _ e).1 h.lbr.1 yuf rfl
 have hgb:g≠br:=yt5
 let lab':Nat->Nat×Nat:=λk=>if k=g then (0,3) else lab k
 have hold: ∀k,k<w.heap.size->lab' k=lab k:=by
  intro k hk
  show (if k=g then _ else _)=_
  by_cases e:k=g
  ·rw [if_pos e]
   rcases hg with hg|hg
   ·rw [e];exact ((h.lov g hg).1).symm
   ·omega
  ·rw [if_neg e]
 have nb: ∀j,j≠3->¬(ov.ownBlock=some br\/(br=br/\j=3)):=λj hj e=>e.elim nr (λe=>hj e.2)
 have nk: ∀k l,lab k=l->l≠(0,3)->l≠(0,0)->∀j,¬(ov.ownBlock=some k\/(k=br/\j=3)):=λk l hk h1 h2 j e=>by
  rcases e with e|e
  ·exact h1 (hk.symm.trans (h.lov k e).1)
  ·exact h2 (hk.symm.trans (e.1▸h.lbr.1))
 refine ⟨lab',h.updB (st':={st with opn:=st.opn++[x]}) rfl hall ?_ hold ((hall.cell _ _ lb (nb 1 yue)).trans h.c1) ((hall.cell _ _ lb (nb 2 yue)).trans h.c2) (Qg ((hc0.cell _ _ lb nr).trans h.c3) rfl) (h.mS.keep hall (nk _ _ h.lsb.1 yuf yuf)) (Qc h.trow hall (λq hq=>nk _ _ (h.ltv q hq).1 yuf yuf)) ?_ (λq hq=>⟨(hold _ (h.trow.lt q hq).2).trans (h.ltv q hq).1,(h.ltv q hq).2⟩) ?_,hall.mono ?_⟩
 ·rintro k j _ (e|⟨rfl,rfl⟩)
  ·exact .inr (.inr (.inl (h.lov k e).1))
  ·exact .inr (.inr (.inr ⟨rfl, .inr (.inr rfl)⟩))
 ·exact ysv
 ·intro q hq
  simp [Value.ownBlock] at hq
  subst hq
  refine ⟨if_pos rfl,?_⟩
  rcases hg with e|e
  ·exact (h.lov _ e).2
  ·exact hD _ yue
 ·rintro k j _ (e|⟨rfl,_⟩)
  ·exact (h.lov k e).2
  ·exact h.lbr.2
end
section
variable{M:Nat->Nat->Prop}{D D0:Nat->Prop}{lab lab':Nat->Nat×Nat}{w W:World}{br sb bs bl bw:Nat}{n:Int}{ws:List ByteArray}{tv ov:Value}{st:RS}{ms:List HM}
theorem zhw{e:TypeId}{xs:List Value}(h:w.ownsRow 0 e 1 (.slice (some ⟨g,0,none⟩) (k+1) cp) (k+1) xs):w.ownsRow 0 e 1 (.slice (some ⟨g,0,none⟩) k cp) k (xs.take k):=by
 obtain ⟨hl,h2⟩:=h
 rcases h2 with ⟨h2,_⟩|⟨g',cap',cur,hv,hb,hg,hn,hm,hs,ht⟩
 ·cases h2
 ·obtain ⟨rfl,rfl⟩:g=g'/\cp=cap':=by simpa using hv
  refine ⟨by rw [List.length_take];omega, .inr ⟨g,cp,cur,rfl,hb,hg,by omega,hm,hs,?_⟩⟩
  rw [<-ht,List.take_take]
  congr 1
  omega
theorem RMach.pop(h:RMach D lab w br sb bs tv ov st ms)(ol:List Nat)(o:Nat)(hop:st.opn=ol++[o])(hov:ov= .slice (some ⟨g,0,none⟩) (ol.length+1) cp):
  RMach D lab (w.setCell ⟨br,3,none⟩ (.slice (some ⟨g,0,none⟩) ol.length cp)) br sb bs tv (.slice (some ⟨g,0,none⟩) ol.length cp) {st with opn:=ol} ms/\Chg (λk _=>D k) w (w.setCell ⟨br,3,none⟩ (.slice (some ⟨g,0,none⟩) ol.length cp)):=by
 subst hov
 have lb:=Qd h.sh
 have hset:Chg (λk j=>k=br/\j=3) w (w.setCell ⟨br,3,none⟩ (.slice (some ⟨g,0,none⟩) ol.length cp)):=(Chg.refl _ w).setCell (λ_=>⟨rfl,rfl⟩) _
 have nk: ∀k l,lab k=l->l≠(0,0)->∀j,¬(k=br/\j=3):=λk l hk h2 j e=>h2 (hk.symm.trans (e.1▸h.lbr.1))
 have hor:=h.orow
 rw [hop] at hor
 simp only [List.length_append,List.length_cons,List.length_nil] at hor
 have hor2:=zhw hor
 have ex:((ol++[o]).map (idV (Qu ms))).take ol.length=ol.map (idV (Qu ms)):=yuf
 rw [ex] at hor2
 refine ⟨h.updB (st':={st with opn:=ol}) rfl hset ?_ (λ_ _=>rfl) ((hset.cell _ _ lb yue).trans h.c1) ((hset.cell _ _ lb yue).trans h.c2) (Qg h.c3 rfl) (h.mS.keep hset (nk _ _ h.lsb.1 yuf)) (Qc h.trow hset (λq hq=>nk _ _ (h.ltv q hq).1 yuf)) (Qc hor2 hset (λq hq=>nk _ _ (h.lov q hq).1 yuf)) h.ltv h.lov,hset.mono (λk j _ e=>e.1▸h.lbr.2)⟩
 rintro k j _ ⟨rfl,rfl⟩
 exact .inr (.inr (.inr ⟨rfl, .inr (.inr rfl)⟩))
theorem zrl(hL:LineAt w bl n bw (u::us)):Cl 60 #[ptr br,ptr bl] w λe w'=>Fails 2 n bl w e w':=by
 have H:=hid hL
 clear hL
 go_enter Tryz.func60,Tryz.ntmps60
 go_wp2_with fail
 refine (zc0 H.out).mono ?_
 rintro e w1 ⟨bf,rfl,h1⟩
 exact ⟨rfl,bf,rfl,h1⟩
theorem zoe(h:RMach D lab w br sb bs tv ov st ms)(hL:LineAt w bl n bw [])(hlt:st.opn.length<2):Cl 60 #[ptr br,ptr bl] w λe w'=>Fails 3 n bl w e w':=by
 have c3:=h.c3
 obtain ⟨oa,ok,hov⟩: ∃a k,ov= .slice a st.opn.length k:=yr8
 rw [hov] at c3
 have hlt':(st.opn.length:Int)<2:=yue
 have H:=hid hL
 clear hL h hov
 go_enter Tryz.func60,Tryz.ntmps60
 go_wp2_with fail
 refine (Eo H.out).mono ?_
 rintro e w1 ⟨rfl,rfl⟩
 go_wp2_with fail
 refine (Jv H.out 3).mono ?_
 rintro e w1 ⟨bf,rfl,h1⟩
 exact ⟨rfl,bf,rfl,h1⟩
theorem z0e(h:RMach D lab w br sb bs tv ov st ms)(hL:LineAt w bl n bw [])(ol:List Nat)(o:Nat)(hop:st.opn=ol++[o])(h1:0<ol.length)(h4:ol.length<1000):
  Cl 60 #[ptr br,ptr bl] w λe w'=>e= .returned (.tuple #[])/\(∃lab' ov' ms',RMach D lab' w' br sb bs tv ov' {st with opn:=ol} ms')/\Chg (λk _=>D k) w w':=by
 have hr:=h.orow
 rw [hop] at hr
 simp only [List.length_append,List.length_cons,List.length_nil] at hr
 obtain ⟨g,cp,hov,hcp⟩: ∃g cp,ov= .slice (some ⟨g,0,none⟩) (ol.length+1) cp/\ol.length+1<=cp:=yt8
 have r1:=h.below (w':=w.drew) (Qi _ w)
 have R:=hid (r1.pop ol o hop hov)
 have c3:=h.c3
 have f3:=h.free 3
 rw [hov] at c3
 have H:=hid hL
 have hlt': ¬(ol.length:Int)+1<2:=yue
 have hw1:wrap64 ((ol.length:Int)+1- 1)=(ol.length:Int):=yul
 have hw2:IntKind.i64.wrap (ol.length:Int)=(ol.length:Int):=yum
 have hw3:(ol.length:Int)<=(cp:Int):=yue
 clear h hL hr hov r1
 go_enter Tryz.func60,Tryz.ntmps60
 go_wp2_with fail
 refine (Eo H.out).mono ?_
 rintro e w1 ⟨rfl,rfl⟩
 go_wp2_with fail
 go_region
 all_goals
  go_wp2
  go_end0
  exact ⟨rfl,⟨lab,_,_,R.out.1⟩,((Chg.refl (λk _=>D k) _).drew).trans R.out.2⟩
end
section
variable{M:Nat->Nat->Prop}{D D0:Nat->Prop}{lab lab':Nat->Nat×Nat}{w W:World}{br sb bs bl bw:Nat}{n:Int}{ws:List ByteArray}{tv ov:Value}{st:RS}{ms:List HM}
def zmb(w:World)(b mb:Nat):Prop:=w.shape? b=some (111,3)/\w.cell? ⟨b,0,none⟩=some (.slice none 0 0)/\HkAt w b mb (.thr [] 0)/\ ∀j,w.frozen? ⟨b,j,none⟩=false
theorem RMach.newT(h:RMach D0 lab w br sb bs tv ov st ms)(he:st.entOk)(h0: ∀k,D0 k->D k)(b mb:Nat)(hb:zmb w b mb)(hD:D b)(hDm:D mb)(hn: ¬D0 b)(hnm: ¬D0 mb)(hbm:b≠mb):
  ∃lab',RMach D lab' w br sb bs tv ov {st with hs:=st.hs++[⟨.thr [] 0,[]⟩]} (ms++[⟨b, .slice none 0 0,mb,⟨.thr [] 0,[]⟩⟩]):=by
 let lab':Nat->Nat×Nat:=λk=>if k=b then (ms.length+1,0) else if k=mb then (ms.length+1,2) else lab k
 have hold: ∀k,D0 k->lab' k=lab k:=λk hk=>by
  show (if k=b then _ else if k=mb then _ else _)=_
  rw [if_neg (show ¬k=b from λe=>hn (e▸hk)),if_neg (show ¬k=mb from λe=>hnm (e▸hk))]
 have il:(Qu ms).length=st.hs.length:=h.idl
 have ids:Qu (ms++[⟨b, .slice none 0 0,mb,⟨.thr [] 0,[]⟩⟩])=Qu ms++[(hkT (.thr [] 0),b)]:=by simp [Qu]
 refine ⟨lab',{
  sh:=h.sh,c0:=h.c0,c1:=h.c1,c2:=h.c2,c3:=h.c3,c4:=h.c4,free:=h.free,mS:=h.mS,mG:=h.mG
  trow:=?_,orow:=?_,hd:=?_,hs:=?_
  lbr:=⟨(hold _ h.lbr.2).trans h.lbr.1,h0 _ h.lbr.2⟩
  lsb:=⟨(hold _ h.lsb.2).trans h.lsb.1,h0 _ h.lsb.2⟩
  ltv:=λg hg=>⟨(hold _ (h.ltv g hg).2).trans (h.ltv g hg).1,h0 _ (h.ltv g hg).2⟩
  lov:=λg hg=>⟨(hold _ (h.lov g hg).2).trans (h.lov g hg).1,h0 _ (h.lov g hg).2⟩
  lbs:=⟨(hold _ h.lbs.2).trans h.lbs.1,h0 _ h.lbs.2⟩
  lhd:=?_}⟩
 ·rw [ids]
  have e:st.threads.map (idP (Qu ms++[(hkT (.thr [] 0),b)]))=st.threads.map (idP (Qu ms)):=List.map_congr_left λj hj=>zqv _ _ j (by rw [il];exact he.2.1 j hj)
  rw [e]
  exact h.trow
 ·rw [ids]
  have e:st.opn.map (idV (Qu ms++[(hkT (.thr [] 0),b)]))=st.opn.map (idV (Qu ms)):=List.map_congr_left λj hj=>zjy _ _ j (by rw [il];exact he.2.2 j hj)
  rw [e]
  exact h.orow
 ·intro i hi
  rw [ids]
  by_cases hi':i<ms.length
  ·rw [List.getElem_append_left hi']
   have hd:=h.hd i hi'
   have e:ms[i].h.ents.map (enV (Qu ms++[(hkT (.thr [] 0),b)]))=ms[i].h.ents.map (enV (Qu ms)):=List.map_congr_left λx hx=>zrk _ _ x (λj hj=>by
    rw [il]
    exact he.1 ms[i].h yv6 j (hj▸hx))
   exact ⟨hd.sh,hd.rc,by rw [e];exact hd.row,hd.kind,hd.free⟩
  ·exact ysy
 ·simp [h.hs]
 ·intro i hi
  by_cases hi':i<ms.length
  ·exact ysi
  ·obtain rfl:i=ms.length:=by simp at hi;omega
   rw [List.getElem_append_right (Nat.le_refl _)]
   simp only [Nat.sub_self,List.getElem_cons_zero]
   refine ⟨⟨if_pos rfl,hD⟩,λg hg=>by simp [Value.ownBlock] at hg,λ_=>⟨?_,hDm⟩⟩
   show (if mb=b then _ else if mb=mb then _ else _)=_
   rw [if_neg (λe=>hbm e.symm),if_pos rfl]
theorem RMach.pushT(h:RMach D lab w br sb bs tv ov st ms)(hD: ∀k,w.heap.size<=k->D k)(x:Nat)(o:Obj)
  (ho:w3.ownsRow 0 104 1 (.slice (some ⟨g,0,none⟩) (st.threads.length+1) cp) (st.threads.length+1) (st.threads.map (idP (Qu ms))++[idP (Qu ms) x]))
  (hc:Chg (λk _=>tv.ownBlock=some k) (w.alloc o) w3) (hg:tv.ownBlock=some g\/g=(w.alloc o).heap.size):
  ∃lab',RMach D lab' (w3.setCell ⟨br,1,none⟩ (.slice (some ⟨g,0,none⟩) (st.threads.length+1) cp)) br sb bs (.slice (some ⟨g,0,none⟩) (st.threads.length+1) cp) ov {st with threads:=st.threads++[x]} ms/\Chg (λk _=>D k) w (w3.setCell ⟨br,1,none⟩ (.slice (some ⟨g,0,none⟩) (st.threads.length+1) cp)):=by
 have lb:=Qd h.sh
 have hsz:(w.alloc o).heap.size=w.heap.size+1:=yuf
 have hc0:Chg (λk _=>tv.ownBlock=some k) w w3:=((Chg.refl _ w).alloc o).trans hc
 have hset:Chg (λk j=>k=br/\j=1) w3 (w3.setCell ⟨br,1,none⟩ (.slice (some ⟨g,0,none⟩) (st.threads.length+1) cp)):=(Chg.refl _ w3).setCell (λ_=>⟨rfl,rfl⟩) _
 have hall:Chg (λk j=>tv.ownBlock=some k\/(k=br/\j=1)) w (w3.setCell ⟨br,1,none⟩ (.slice (some ⟨g,0,none⟩) (st.threads.length+1) cp)):=(hc0.mono (λ_ _ _ e=> .inl e)).trans (hset.mono (λ_ _ _ e=> .inr e))
 have nr: ¬tv.ownBlock=some br:=λe=>zd3 (h.ltv _ e).1 h.lbr.1 yuf rfl
 have hgb:g≠br:=yt5
 let lab':Nat->Nat×Nat:=λk=>if k=g then (0,2) else lab k
 have hold: ∀k,k<w.heap.size->lab' k=lab k:=by
  intro k hk
  show (if k=g then _ else _)=_
  by_cases e:k=g
  ·rw [if_pos e]
   rcases hg with hg|hg
   ·rw [e];exact ((h.ltv g hg).1).symm
   ·omega
  ·rw [if_neg e]
 have nb: ∀j,j≠1->¬(tv.ownBlock=some br\/(br=br/\j=1)):=λj hj e=>e.elim nr (λe=>hj e.2)
 have nk: ∀k l,lab k=l->l≠(0,2)->l≠(0,0)->∀j,¬(tv.ownBlock=some k\/(k=br/\j=1)):=λk l hk h1 h2 j e=>by
  rcases e with e|e
  ·exact h1 (hk.symm.trans (h.ltv k e).1)
  ·exact h2 (hk.symm.trans (e.1▸h.lbr.1))
 refine ⟨lab',h.updB (st':={st with threads:=st.threads++[x]}) rfl hall ?_ hold (Qg ((hc0.cell _ _ lb nr).trans h.c1) rfl) ((hall.cell _ _ lb (nb 2 yue)).trans h.c2) ((hall.cell _ _ lb (nb 3 yue)).trans h.c3) (h.mS.keep hall (nk _ _ h.lsb.1 yuf yuf)) ?_ (Qc h.orow hall (λq hq=>nk _ _ (h.lov q hq).1 yuf yuf)) ?_ (λq hq=>⟨(hold _ (h.orow.lt q hq).2).trans (h.lov q hq).1,(h.lov q hq).2⟩),hall.mono ?_⟩
 ·rintro k j _ (e|⟨rfl,rfl⟩)
  ·exact .inr (.inl (h.ltv k e).1)
  ·exact .inr (.inr (.inr ⟨rfl, .inl rfl⟩))
 ·exact ysv
 ·intro q hq
  simp [Value.ownBlock] at hq
  subst hq
  refine ⟨if_pos rfl,?_⟩
  rcases hg with e|e
  ·exact (h.ltv _ e).2
  ·exact hD _ yue
 ·rintro k j _ (e|⟨rfl,_⟩)
  ·exact (h.ltv k e).2
  ·exact h.lbr.2
theorem z0f(w:World)(v:Value)(T:TypeId):(w.alloc (.cells #[v] T)).ownsRow 0 T 1 (.slice (some ⟨w.heap.size,0,none⟩) 1 1) 1 [v]:=
 ⟨rfl, .inr ⟨_,1,#[v],rfl,Nat.zero_le _,(show (w.heap.push _)[w.heap.size]?=_ from Array.getElem?_push_size),Nat.le_refl _,by unfold maxLen;omega,rfl,rfl⟩⟩
theorem RMach.setO(h:RMach D lab w br sb bs tv ov st ms)(hD: ∀k,w.heap.size<=k->D k)(x:Nat)(v:Value)(hv:idV (Qu ms) x=v):
  ∃lab',RMach D lab' ((w.alloc (.cells #[v] 216)).setCell ⟨br,3,none⟩ (.slice (some ⟨w.heap.size,0,none⟩) 1 1)) br sb bs tv (.slice (some ⟨w.heap.size,0,none⟩) 1 1) {st with opn:=[x]} ms/\Chg (λk _=>D k) w ((w.alloc (.cells #[v] 216)).setCell ⟨br,3,none⟩ (.slice (some ⟨w.heap.size,0,none⟩) 1 1)):=by
 have lb:=Qd h.sh
 have hall:Chg (λk j=>k=br/\j=3) w ((w.alloc (.cells #[v] 216)).setCell ⟨br,3,none⟩ (.slice (some ⟨w.heap.size,0,none⟩) 1 1)):=((Chg.refl (λk j=>k=br/\j=3) w).alloc _).setCell (λ_=>⟨rfl,rfl⟩) _
 have hset:Chg (λk j=>k=br/\j=3) (w.alloc (.cells #[v] 216)) ((w.alloc (.cells #[v] 216)).setCell ⟨br,3,none⟩ (.slice (some ⟨w.heap.size,0,none⟩) 1 1)):=(Chg.refl _ _).setCell (λ_=>⟨rfl,rfl⟩) _
 let lab':Nat->Nat×Nat:=λk=>if k=w.heap.size then (0,3) else lab k
 have hold: ∀k,k<w.heap.size->lab' k=lab k:=λk hk=>if_neg yue
 have nk: ∀k l,lab k=l->l≠(0,0)->∀j,¬(k=br/\j=3):=λk l hk h2 j e=>h2 (hk.symm.trans (e.1▸h.lbr.1))
 refine ⟨lab',h.updB (st':={st with opn:=[x]}) rfl hall ?_ hold ((hall.cell _ _ lb yue).trans h.c1) ((hall.cell _ _ lb yue).trans h.c2) (Qg ((World.cell?_alloc_past _ _ _ lb).trans h.c3) rfl) (h.mS.keep hall (nk _ _ h.lsb.1 yuf)) (Qc h.trow hall (λq hq=>nk _ _ (h.ltv q hq).1 yuf)) ?_ (λq hq=>⟨(hold _ (h.trow.lt q hq).2).trans (h.ltv q hq).1,(h.ltv q hq).2⟩) ?_,hall.mono (λk j _ e=>e.1▸h.lbr.2)⟩
 ·rintro k j _ ⟨rfl,rfl⟩
  exact .inr (.inr (.inr ⟨rfl, .inr (.inr rfl)⟩))
 ·have:=Qc (z0f w v 216) hset (λk hk j e=>by simp [Value.ownBlock] at hk;omega)
  simpa [hv] using this
 ·intro q hq
  simp [Value.ownBlock] at hq
  subst hq
  exact ⟨if_pos rfl,hD _ (Nat.le_refl _)⟩
end
section
variable{D D0:Nat->Prop}{lab:Nat->Nat×Nat}{w W:World}{br sb bs bl bw:Nat}{n:Int}{ws:List ByteArray}{tv ov:Value}{st:RS}{ms:List HM}
def RS.newT(st:RS):RS:={st with hs:=st.hs++[⟨.thr [] 0,[]⟩],threads:=st.threads++[st.hs.length],opn:=[st.hs.length]}
abbrev Uz(w:World):World:=(w.alloc (.map #[] 0)).alloc (.cells #[.slice none 0 0, .map (some w.heap.size), .int .i64 0] 111)
theorem zj7(w:World):zmb (Uz w) (w.heap.size+1) w.heap.size:=by
 have hb:(Uz w).heap[w.heap.size+1]?=some (.cells #[.slice none 0 0, .map (some w.heap.size), .int .i64 0] 111):=by
  have:(Uz w).heap[(w.alloc (.map #[] 0)).heap.size]?=some (.cells #[.slice none 0 0, .map (some w.heap.size), .int .i64 0] 111):=Array.getElem?_push_size
  rw [show (w.alloc (.map #[] 0)).heap.size=w.heap.size+1 from by simp] at this
  exact this
 refine ⟨?_,?_,⟨?_,?_,?_⟩,?_⟩
 ·unfold World.shape?;rw [hb];rfl
 ·unfold World.cell?;rw [hb];rfl
 ·unfold World.cell?;rw [hb];rfl
 ·unfold World.cell?;rw [hb];rfl
 ·exact (zbr w).keep (M:=λ_ _=>False) ((Chg.refl _ _).alloc _) (λ_ e=>e)
 ·intro j
  unfold World.frozen?
  rw [hb]
  simp
theorem zhx(h:RMach D0 lab w br sb bs tv ov st ms)(he:st.entOk)(h0: ∀k,D0 k->D k)(hD: ∀k,w.heap.size<=k->D k)(hlt: ∀k,D0 k->k<w.heap.size):
  ∃lab1 ms1,RMach D lab1 (Uz w) br sb bs tv ov {st with hs:=st.hs++[⟨.thr [] 0,[]⟩]} ms1/\idP (Qu ms1) st.hs.length=ptr (w.heap.size+1)/\idV (Qu ms1) st.hs.length= .iface 104 (ptr (w.heap.size+1))/\Chg (λk _=>D k) w (Uz w):=by
 have hc:Chg (λ_ _=>False) w (Uz w):=((Chg.refl _ w).alloc _).alloc _
 have r0:=h.keep hc (λ_ _ _ e=>e)
 obtain ⟨lab1,r1⟩:=r0.newT (D:=D) he h0 (w.heap.size+1) w.heap.size (zj7 w) (hD _ yue) (hD _ yue) (λe=>by have:=hlt _ e;omega) (λe=>by have:=hlt _ e;omega) yue
 refine ⟨lab1,_,r1,?_,?_,hc.mono (λ_ _ _ e=>e.elim)⟩
 ·rw [<-h.len]
  simp [idP,Qu]
 ·rw [<-h.len]
  simp [idV,Qu,hkT]
theorem zhy(hL:LineAt w bl n bw (u::us)):Cl 59 #[ptr br,ptr bl] w λe w'=>Fails 2 n bl w e w':=by
 have H:=hid hL
 clear hL
 go_enter Tryz.func59,Tryz.ntmps59
 go_wp2_with fail
 refine (zc0 H.out).mono ?_
 rintro e w1 ⟨bf,rfl,h1⟩
 exact ⟨rfl,bf,rfl,h1⟩
theorem RMach.openS(h:RMach D lab w br sb bs tv ov st ms): ∃a k,ov= .slice a st.opn.length k:=yr8
theorem RMach.threadS(h:RMach D lab w br sb bs tv ov st ms): ∃a k,tv= .slice a st.threads.length k:=by
 rcases h.trow.2 with ⟨e1,e2⟩|⟨g',cap',cur,e1,_⟩
 ·exact ⟨none,0,by rw [e1,e2]⟩
 ·exact ⟨_,_,e1⟩
theorem zgm(h:RMach D lab w br sb bs tv ov st ms)(hL:LineAt w bl n bw [])(hlt:1<st.opn.length):Cl 59 #[ptr br,ptr bl] w λe w'=>Fails 3 n bl w e w':=by
 have c3:=h.c3
 obtain ⟨oa,ok,hov⟩:=h.openS
 rw [hov] at c3
 have hlt':1<(st.opn.length:Int):=yue
 have H:=hid hL
 clear hL h hov
 go_enter Tryz.func59,Tryz.ntmps59
 go_wp2_with fail
 refine (Eo H.out).mono ?_
 rintro e w1 ⟨rfl,rfl⟩
 go_wp2_with fail
 refine (Jv H.out 3).mono ?_
 rintro e w1 ⟨bf,rfl,h1⟩
 exact ⟨rfl,bf,rfl,h1⟩
theorem zof(h:RMach D0 lab w br sb bs tv ov st ms)(he:st.entOk)(h0: ∀k,D0 k->D k)(hD: ∀k,w.heap.size<=k->D k)(hD0: ∀k,D0 k->k<w.heap.size)(hL:LineAt w bl n bw [])(hle:st.opn.length<=1)(ht:st.threads.length<1000000):
  Cl 59 #[ptr br,ptr bl] w λe w'=>e= .returned (.tuple #[])/\(∃lab' tv' ov' ms',RMach D lab' w' br sb bs tv' ov' st.newT ms')/\Chg (λk _=>D k) w w':=by
 obtain ⟨lab1,ms1,r1,hp,hv,c1⟩:=zhx h he h0 hD hD0
 have cc3:=h.c3
 obtain ⟨oa,ok,hov⟩:=h.openS
 obtain ⟨ta,tk,htv⟩:=h.threadS
 subst htv
 have hle': ¬1<(st.opn.length:Int):=yue
 have H:=hid hL
 have cT:=r1.c1
 have fT:=r1.free 1
 have hl1:st.threads.length+1<=maxLen:=yuk
 have hl2:(st.threads.length+1)*8<=140737488355328:=yue
 obtain ⟨oi0,ohi,ohz0,ohz1,ohz2⟩:=info_parts zv3
 have hrow:=r1.trow
 have hpush:=λoo w9 g9 cp9=>r1.pushT (λk hk=>hD k (by have:=c1.size;omega)) st.hs.length oo (w3:=w9) (g:=g9) (cp:=cp9)
 simp only at hrow hpush
 rw [hp] at hpush
 have nr: ¬(Value.slice ta st.threads.length tk).ownBlock=some br:=λe=>zd3 (r1.ltv _ e).1 r1.lbr.1 yuf rfl
 have lb:=Qd r1.sh
 have cO:=r1.c3
 have HO:=hid hrow
 have HP:=hid hpush
 have HCB:Hid (∀w9 oo,Chg (λk _=>(Value.slice ta st.threads.length tk).ownBlock=some k) ((Uz w).alloc oo) w9->w9.cell? ⟨br,1,none⟩=some (.slice ta st.threads.length tk)/\w9.frozen? ⟨br,1,none⟩=false/\(∀V o,((w9.setCell ⟨br,1,none⟩ V).alloc o).cell? ⟨br,3,none⟩=some ov)/\ ∀V o,((w9.setCell ⟨br,1,none⟩ V).alloc o).frozen? ⟨br,3,none⟩=false):=by
  refine hid (λw9 oo hch=>?_)
  have lb':br<((Uz w).alloc oo).heap.size:=by simp at lb⊢;omega
  have lb9:br<w9.heap.size:=Nat.lt_of_lt_of_le lb' hch.size
  refine ⟨(hch.cell _ _ lb' nr).trans ((World.cell?_alloc_past _ _ _ lb).trans cT),(hch.frozen _ _ lb').trans ((World.frozen?_alloc_past _ _ _ lb).trans fT),λV o=>?_,λV o=>?_⟩
  ·have hs:Chg (λk j=>k=br/\j=1) w9 ((w9.setCell ⟨br,1,none⟩ V).alloc o):=((Chg.refl _ w9).setCell (λ_=>⟨rfl,rfl⟩) V).alloc o
   exact (hs.cell _ _ lb9 yue).trans ((hch.cell _ _ lb' nr).trans ((World.cell?_alloc_past _ _ _ lb).trans cO))
  ·have hs:Chg (λk j=>k=br/\j=1) w9 ((w9.setCell ⟨br,1,none⟩ V).alloc o):=((Chg.refl _ w9).setCell (λ_=>⟨rfl,rfl⟩) V).alloc o
   exact (hs.frozen _ _ lb9).trans ((hch.frozen _ _ lb').trans ((World.frozen?_alloc_past _ _ _ lb).trans (r1.free 3)))
 have C1:=hid c1
 have HD:=hid hD
 have HV:=hid hv
 have HC3:=hid cc3
 have HCT:=hid cT
 clear h hL he h0 hD hD0 r1 c1 hrow hpush nr lb cO hp hv cc3 cT fT
 have cc3:=HC3.out
 rw [hov] at cc3
 clear hov
 go_enter Tryz.func59,Tryz.ntmps59
 go_wp2_with fail
 refine (Eo H.out).mono ?_
 rintro e w1 ⟨rfl,rfl⟩
 have cT:=HCT.out
 have hone:=cell_one_new (Uz w1) (ptr (w1.heap.size+1)) 104
 rw [show (Uz w1).heap.size=w1.heap.size+1+1 from by simp [Uz]] at hone
 have hmm: ∀w:World,(Instr.makeMap 109 none).run Tryz.prog w= .ok (.map (some w.heap.size)) (w.alloc (.map #[] 0)):=λ_=>rfl
 go_wp2_with (at_builtin;refine Zk rfl _ _ 89 rfl 104 oi0 (.pointer none) 8 Tryz.underlying89 ohi ohz0 ohz1 ohz2 rfl (.slice ta st.threads.length tk) st.threads.length _ rfl (HO.out.alloc _) ⟨w1.heap.size+1+1,0,none⟩ (ptr (w1.heap.size+1)) rfl hone rfl hl1 hl2 ?_;go_must (intro g9 cp9 w9 hown1 hch hg;have hcb:=(HCB.out w9 _ hch).1;have hfb:=(HCB.out w9 _ hch).2.1;have hcb3:=(HCB.out w9 _ hch).2.2.1;have hfb3:=(HCB.out w9 _ hch).2.2.2;have HO1:=hid hown1;have HC1:=hid hch;have HG1:=hid hg;clear hown1 hch hg))
 all_goals
  go_end0
  obtain ⟨lab9,r9,c9⟩:=HP.out _ w9 g9 cp9 HO1.out HC1.out HG1.out
  have hsz:=C1.out.size
  have hsz9:=c9.size
  obtain ⟨lab10,r10,c10⟩:=r9.setO (λk hk=>HD.out k yue) st.hs.length _ HV.out
  rw [show (w9.setCell ⟨br,1,none⟩ (.slice (some ⟨g9,0,none⟩) (st.threads.length+1) cp9)).heap.size=w9.heap.size from by simp] at r10 c10
  exact ⟨rfl,⟨lab10,_,_,_,r10⟩,(C1.out.trans c9).trans c10⟩
end
section
variable{D D0:Nat->Prop}{lab:Nat->Nat×Nat}{w W:World}{br sb bs bl bw:Nat}{n c:Int}{ws ws1 us us2:List ByteArray}{x u:ByteArray}{tv ov:Value}{st:RS}{ms:List HM}
theorem zv4(l:List (ByteArray×Int×Int))(u:ByteArray)(a c:Int)(hu:(l.any λp=>decide (p.1=u))=false): ∀x,zgd (shF l) u (.agg #[.int .i64 a, .int .i64 c]) x=shF (l++[(u,a,c)]) x:=by
 intro x
 unfold zgd shF
 rw [List.find?_append]
 by_cases e:x=u
 ·subst e
  rw [if_pos rfl]
  have:(l.find? λp=>decide (p.1=x))=none:=by
   rw [List.find?_eq_none]
   intro p hp
   rw [List.any_eq_false] at hu
   exact hu p hp
  simp [this]
 ·rw [if_neg e]
  have e':u≠x:=λh=>e h.symm
  cases h:(l.find? λp=>decide (p.1=x)) with
  |some p=>simp
  |none=>simp [e']
theorem RMach.share(h:RMach D lab w br sb bs tv ov st ms)(u:ByteArray)(hu:u.size<=maxLen)(hnew:st.isSh u=false)(c:Int)(hl:st.shared.length<1000000):
  ∃W,(Instr.mapUpdate 88 (.map (some sb)) (.string u) (.agg #[.int .i64 st.cells, .int .i64 c])).run Tryz.prog w= .ok () W/\
  RMach D lab W br sb bs tv ov {st with shared:=st.shared++[(u,st.cells,c)]} ms/\Chg (λk _=>D k) w W:=by
 have lb:=Qd h.sh
 obtain ⟨W,hrun,hm,hc⟩:=h.mS.put Tryz.underlying88 yuk hu (.agg #[.int .i64 st.cells, .int .i64 c])
 have hsome:(shF st.shared u).isSome=false:=by rw [zl5];exact hnew
 rw [hsome] at hm
 simp only [Bool.false_eq_true,if_false] at hm
 have nb:br≠sb:=zd3 h.lbr.1 h.lsb.1 yuf
 refine ⟨W,hrun,h.updB (st':={st with shared:=st.shared++[(u,st.cells,c)]}) rfl hc (λk j _ e=> .inl (e▸h.lsb.1)) (λ_ _=>rfl) ((hc.cell _ _ lb nb).trans h.c1) ((hc.cell _ _ lb nb).trans h.c2) ((hc.cell _ _ lb nb).trans h.c3) ?_ (Qc h.trow hc (λg hg j=>zd3 (h.ltv g hg).1 h.lsb.1 yuf)) (Qc h.orow hc (λg hg j=>zd3 (h.lov g hg).1 h.lsb.1 yuf)) h.ltv h.lov,hc.mono (λk i _ e=>e▸h.lsb.2)⟩
 simp only [List.length_append,List.length_cons,List.length_nil]
 exact hm.congr (zv4 st.shared u st.cells c hnew)
theorem RMach.cellsTo(h:RMach D lab w br sb bs tv ov st ms)(v:Int):RMach D lab (w.setCell ⟨br,2,none⟩ (.int .i64 v)) br sb bs tv ov {st with cells:=v} ms/\Chg (λk _=>D k) w (w.setCell ⟨br,2,none⟩ (.int .i64 v)):=by
 have lb:=Qd h.sh
 have hset:Chg (λk j=>k=br/\j=2) w (w.setCell ⟨br,2,none⟩ (.int .i64 v)):=(Chg.refl _ w).setCell (λ_=>⟨rfl,rfl⟩) _
 have nk: ∀k l,lab k=l->l≠(0,0)->∀j,¬(k=br/\j=2):=λk l hk h2 j e=>h2 (hk.symm.trans (e.1▸h.lbr.1))
 refine ⟨h.updB (st':={st with cells:=v}) rfl hset ?_ (λ_ _=>rfl) ((hset.cell _ _ lb yue).trans h.c1) (Qg h.c2 rfl) ((hset.cell _ _ lb yue).trans h.c3) (h.mS.keep hset (nk _ _ h.lsb.1 yuf)) (Qc h.trow hset (λq hq=>nk _ _ (h.ltv q hq).1 yuf)) (Qc h.orow hset (λq hq=>nk _ _ (h.lov q hq).1 yuf)) h.ltv h.lov,hset.mono (λk j _ e=>e.1▸h.lbr.2)⟩
 rintro k j _ ⟨rfl,rfl⟩
 exact .inr (.inr (.inr ⟨rfl, .inr (.inl rfl)⟩))
theorem z3b(hL:LineAt w bl n bw ws)(hz:SzOk ws)(hv:gNm ws=none):Cl 58 #[ptr br,ptr bl] w λe w'=>Fails 2 n bl w e w':=by
 have K:=hid (zqs hL hz hv)
 clear hL
 go_enter Tryz.func58,Tryz.ntmps58
 go_wp2_with fail
 refine K.out.mono ?_
 rintro e w1 ⟨bf,rfl,h1⟩
 exact ⟨rfl,bf,rfl,h1⟩
theorem z3c(hL:LineAt w bl n bw ws)(hz:SzOk ws)(hE:Hid (Env w))(hbl:10<=bl)(hv:gNm ws=some (x,u::us))(hv2:gIn 1 6 (u::us)=none):Cl 58 #[ptr br,ptr bl] w λe w'=>Fails 2 n bl w e w':=by
 have K:=hid (Fa hL hz hv)
 have hz1:=Ya hv hz
 clear hL
 go_enter Tryz.func58,Tryz.ntmps58
 go_wp2_with fail
 refine K.out.mono ?_
 rintro e w1 ⟨rfl,h1,c1⟩
 have K2:=hid (z15 h1 (hE.out.line c1 hbl) hbl hz1 hv2)
 have C1:=hid c1
 obtain ⟨o,cap,hs⟩:=h1.more
 simp only [List.length_cons] at hs
 clear h1 c1 K
 go_wp2_with (first|(go_at_call 82;go_in)|fail)
 refine K2.out.mono ?_
 intro e w3 h3
 obtain ⟨bf,rfl,h4⟩:=Fails.after h3 C1.out
 exact ⟨rfl,bf,rfl,h4⟩
theorem zj8(h:RMach D0 lab w br sb bs tv ov st ms)(hn: ¬D0 bl)(hL:LineAt w bl n bw ws)(hz:SzOk ws)(hv:gNm ws=some (x,[]))(ht:0<st.threads.length):Cl 58 #[ptr br,ptr bl] w λe w'=>Fails 3 n bl w e w':=by
 obtain ⟨ta,tk,htv⟩:=h.threadS
 have R0:=hid (λW (hc:Chg (Jo bl) w W)=>h.keep hc (λk i hk e=>hn (e.1▸hk)))
 clear h
 have K:=hid (Fa hL hz hv)
 have hz1:=Ya hv hz
 clear hL
 go_enter Tryz.func58,Tryz.ntmps58
 go_wp2_with fail
 refine K.out.mono ?_
 rintro e w1 ⟨rfl,h1,c1⟩
 have H2:=hid h1
 have C2:=hid c1
 obtain ⟨o,cap,hs1⟩:=h1.more
 simp only [List.length_nil] at hs1
 clear h1 c1 K
 go_wp2_with (first|(go_at_call 82;go_in)|fail)
 refine (Eo H2.out).mono ?_
 rintro e w3 ⟨rfl,rfl⟩
 have r3:=R0.out _ C2.out
 have ct:=r3.c1
 rw [htv] at ct
 have ht':0<(st.threads.length:Int):=yue
 clear r3 R0 htv
 go_wp2_with fail
 refine (Jv H2.out 3).mono ?_
 intro e w4 h3
 obtain ⟨bf,rfl,h4⟩:=Fails.after h3 C2.out
 exact ⟨rfl,bf,rfl,h4⟩
theorem zog(h:RMach D0 lab w br sb bs tv ov st ms)(hn: ¬D0 bl)(hL:LineAt w bl n bw ws)(hz:SzOk ws)(hv:gNm ws=some (x,[]))(ht:st.threads.length=0)(hx:x.size<=maxLen)(hs:st.isSh x=true):Cl 58 #[ptr br,ptr bl] w λe w'=>Fails 4 n bl w e w':=by
 obtain ⟨ta,tk,htv⟩:=h.threadS
 have R0:=hid (λW (hc:Chg (Jo bl) w W)=>h.keep hc (λk i hk e=>hn (e.1▸hk)))
 clear h
 have K:=hid (Fa hL hz hv)
 have hz1:=Ya hv hz
 clear hL
 go_enter Tryz.func58,Tryz.ntmps58
 go_wp2_with fail
 refine K.out.mono ?_
 rintro e w1 ⟨rfl,h1,c1⟩
 have H2:=hid h1
 have C2:=hid c1
 obtain ⟨o,cap,hs1⟩:=h1.more
 simp only [List.length_nil] at hs1
 clear h1 c1 K
 go_wp2_with (first|(go_at_call 82;go_in)|fail)
 refine (Eo H2.out).mono ?_
 rintro e w3 ⟨rfl,rfl⟩
 have r3:=R0.out _ C2.out
 have ct:=r3.c1
 rw [htv] at ct
 have K4:=hid (Uu r3 x hx)
 rw [hs] at K4
 rw [ht] at ct
 have R3:=hid r3
 clear r3 R0 htv
 go_wp2_with fail
 refine K4.out.mono ?_
 rintro e w4 ⟨rfl,b4⟩
 have H4:=hid (H2.out.below b4)
 have C4:=hid (C2.out.trans (Chg.of_below b4))
 clear b4 R3 K4 C2
 go_wp2_with fail
 refine (Jv H4.out 4).mono ?_
 intro e w5 h3
 obtain ⟨bf,rfl,h4⟩:=Fails.after h3 C4.out
 exact ⟨rfl,bf,rfl,h4⟩
theorem zv5(h:RMach D0 lab w br sb bs tv ov st ms)(hn: ¬D0 bl)(hL:LineAt w bl n bw ws)(hz:SzOk ws)(hv:gNm ws=some (x,[]))(ht:st.threads.length=0)(hx:x.size<=maxLen)(hs:st.isSh x=false)(h0: ∀k,D0 k->D k)(hDl:D bl)(hl:st.shared.length<1000000)(hc:0<=st.cells/\st.cells<10000000):Cl 58 #[ptr br,ptr bl] w λe w'=>e= .returned (.tuple #[])/\RMach D lab w' br sb bs tv ov {st with shared:=st.shared++[(x,st.cells,1)],cells:=st.cells+1} ms/\Chg (λk _=>D k) w w':=by
 obtain ⟨ta,tk,htv⟩:=h.threadS
 have R0:=hid (λW (hc:Chg (Jo bl) w W)=>h.keep hc (λk i hk e=>hn (e.1▸hk)))
 clear h
 have K:=hid (Fa hL hz hv)
 have hz1:=Ya hv hz
 clear hL
 go_enter Tryz.func58,Tryz.ntmps58
 go_wp2_with fail
 refine K.out.mono ?_
 rintro e w1 ⟨rfl,h1,c1⟩
 have H2:=hid h1
 have C2:=hid c1
 obtain ⟨o,cap,hs1⟩:=h1.more
 simp only [List.length_nil] at hs1
 clear h1 c1 K
 go_wp2_with (first|(go_at_call 82;go_in)|fail)
 refine (Eo H2.out).mono ?_
 rintro e w3 ⟨rfl,rfl⟩
 have r3:=R0.out _ C2.out
 have ct:=r3.c1
 rw [htv] at ct
 have K4:=hid (Uu r3 x hx)
 rw [hs] at K4
 rw [ht] at ct
 have R3:=hid r3
 clear r3 R0 htv
 go_wp2_with fail
 refine K4.out.mono ?_
 rintro e w4 ⟨rfl,b4⟩
 have r4:=(R3.out.below b4).newD (D':=D) (λk hk _=>h0 k hk)
 have r5:=r4.below (w':=w4.drew) (Qi _ _)
 obtain ⟨W,hmu,r6,c6⟩:=r5.share x hx hs 1 hl
 have lb6:=Qd r6.sh
 have cs0:=r5.c0
 have cs2:=r5.c2
 have cs2':=r6.c2
 have cf2:=r6.free 2
 obtain ⟨r7,c7⟩:=r6.cellsTo (st.cells+1)
 have hwr:wrap64 (st.cells+1)=st.cells+1:=yul
 have R7:=hid r7
 have C7:=hid ((((C2.out.trans (Chg.of_below b4)).drew.mono (M':=λk _=>D k) (λk i _ e=>e.1▸hDl)).trans c6).trans c7)
 clear r4 r5 r6 r7 c6 c7 b4 R3 K4 C2
 go_wp2_with fail
 go_region
 all_goals
  go_wp2
  go_end0
  exact ⟨rfl,R7.out,C7.out⟩
theorem zrm{u2:ByteArray}(hL:LineAt w bl n bw ws)(hz:SzOk ws)(hE:Hid (Env w))(hbl:10<=bl)(hv:gNm ws=some (x,u::us))(hv2:gIn 1 6 (u::us)=some (c,(u2::us2))):Cl 58 #[ptr br,ptr bl] w λe w'=>Fails 2 n bl w e w':=by
 have K:=hid (Fa hL hz hv)
 have hz1:=Ya hv hz
 clear hL
 go_enter Tryz.func58,Tryz.ntmps58
 go_wp2_with fail
 refine K.out.mono ?_
 rintro e w1 ⟨rfl,h1,c1⟩
 have K2:=hid (zqf h1 (hE.out.line c1 hbl) hbl hz1 hv2)
 have C1:=hid c1
 obtain ⟨o,cap,hs1⟩:=h1.more
 simp only [List.length_cons] at hs1
 clear h1 c1 K
 go_wp2_with (first|(go_at_call 82;go_in)|fail)
 refine K2.out.mono ?_
 rintro e w2 ⟨rfl,h2,c2⟩
 have H2:=hid h2
 have C2:=hid (C1.out.trans c2)
 clear h2 c2 C1 K2 hs1
 go_wp2_with (fail)
 refine (zc0 H2.out).mono ?_
 intro e w3 h3
 obtain ⟨bf,rfl,h4⟩:=Fails.after h3 C2.out
 exact ⟨rfl,bf,rfl,h4⟩
theorem zj9(h:RMach D0 lab w br sb bs tv ov st ms)(hn: ¬D0 bl)(hL:LineAt w bl n bw ws)(hz:SzOk ws)(hE:Hid (Env w))(hbl:10<=bl)(hv:gNm ws=some (x,u::us))(hv2:gIn 1 6 (u::us)=some (c,[]))(ht:0<st.threads.length):Cl 58 #[ptr br,ptr bl] w λe w'=>Fails 3 n bl w e w':=by
 obtain ⟨ta,tk,htv⟩:=h.threadS
 have R0:=hid (λW (hc:Chg (Jo bl) w W)=>h.keep hc (λk i hk e=>hn (e.1▸hk)))
 clear h
 have K:=hid (Fa hL hz hv)
 have hz1:=Ya hv hz
 clear hL
 go_enter Tryz.func58,Tryz.ntmps58
 go_wp2_with fail
 refine K.out.mono ?_
 rintro e w1 ⟨rfl,h1,c1⟩
 have K2:=hid (zqf h1 (hE.out.line c1 hbl) hbl hz1 hv2)
 have C1:=hid c1
 obtain ⟨o,cap,hs1⟩:=h1.more
 simp only [List.length_cons] at hs1
 clear h1 c1 K
 go_wp2_with (first|(go_at_call 82;go_in)|fail)
 refine K2.out.mono ?_
 rintro e w2 ⟨rfl,h2,c2⟩
 have H2:=hid h2
 have C2:=hid (C1.out.trans c2)
 clear h2 c2 C1 K2 hs1
 go_wp2_with (fail)
 refine (Eo H2.out).mono ?_
 rintro e w3 ⟨rfl,rfl⟩
 have r3:=R0.out _ C2.out
 have ct:=r3.c1
 rw [htv] at ct
 have ht':0<(st.threads.length:Int):=yue
 clear r3 R0 htv
 go_wp2_with fail
 refine (Jv H2.out 3).mono ?_
 intro e w4 h3
 obtain ⟨bf,rfl,h4⟩:=Fails.after h3 C2.out
 exact ⟨rfl,bf,rfl,h4⟩
theorem zoh(h:RMach D0 lab w br sb bs tv ov st ms)(hn: ¬D0 bl)(hL:LineAt w bl n bw ws)(hz:SzOk ws)(hE:Hid (Env w))(hbl:10<=bl)(hv:gNm ws=some (x,u::us))(hv2:gIn 1 6 (u::us)=some (c,[]))(ht:st.threads.length=0)(hx:x.size<=maxLen)(hs:st.isSh x=true):Cl 58 #[ptr br,ptr bl] w λe w'=>Fails 4 n bl w e w':=by
 obtain ⟨ta,tk,htv⟩:=h.threadS
 have R0:=hid (λW (hc:Chg (Jo bl) w W)=>h.keep hc (λk i hk e=>hn (e.1▸hk)))
 clear h
 have K:=hid (Fa hL hz hv)
 have hz1:=Ya hv hz
 clear hL
 go_enter Tryz.func58,Tryz.ntmps58
 go_wp2_with fail
 refine K.out.mono ?_
 rintro e w1 ⟨rfl,h1,c1⟩
 have K2:=hid (zqf h1 (hE.out.line c1 hbl) hbl hz1 hv2)
 have C1:=hid c1
 obtain ⟨o,cap,hs1⟩:=h1.more
 simp only [List.length_cons] at hs1
 clear h1 c1 K
 go_wp2_with (first|(go_at_call 82;go_in)|fail)
 refine K2.out.mono ?_
 rintro e w2 ⟨rfl,h2,c2⟩
 have H2:=hid h2
 have C2:=hid (C1.out.trans c2)
 clear h2 c2 C1 K2 hs1
 go_wp2_with (fail)
 refine (Eo H2.out).mono ?_
 rintro e w3 ⟨rfl,rfl⟩
 have r3:=R0.out _ C2.out
 have ct:=r3.c1
 rw [htv] at ct
 have K4:=hid (Uu r3 x hx)
 rw [hs] at K4
 rw [ht] at ct
 have R3:=hid r3
 clear r3 R0 htv
 go_wp2_with fail
 refine K4.out.mono ?_
 rintro e w4 ⟨rfl,b4⟩
 have H4:=hid (H2.out.below b4)
 have C4:=hid (C2.out.trans (Chg.of_below b4))
 clear b4 R3 K4 C2
 go_wp2_with fail
 refine (Jv H4.out 4).mono ?_
 intro e w5 h3
 obtain ⟨bf,rfl,h4⟩:=Fails.after h3 C4.out
 exact ⟨rfl,bf,rfl,h4⟩
theorem zv6(h:RMach D0 lab w br sb bs tv ov st ms)(hn: ¬D0 bl)(hL:LineAt w bl n bw ws)(hz:SzOk ws)(hE:Hid (Env w))(hbl:10<=bl)(hv:gNm ws=some (x,u::us))(hv2:gIn 1 6 (u::us)=some (c,[]))(ht:st.threads.length=0)(hx:x.size<=maxLen)(hs:st.isSh x=false)(h0: ∀k,D0 k->D k)(hDl:D bl)(hl:st.shared.length<1000000)(hc:0<=st.cells/\st.cells<10000000)(hc6:1<=c/\c<=6):Cl 58 #[ptr br,ptr bl] w λe w'=>e= .returned (.tuple #[])/\RMach D lab w' br sb bs tv ov {st with shared:=st.shared++[(x,st.cells,c)],cells:=st.cells+c} ms/\Chg (λk _=>D k) w w':=by
 obtain ⟨ta,tk,htv⟩:=h.threadS
 have R0:=hid (λW (hc:Chg (Jo bl) w W)=>h.keep hc (λk i hk e=>hn (e.1▸hk)))
 clear h
 have K:=hid (Fa hL hz hv)
 have hz1:=Ya hv hz
 clear hL
 go_enter Tryz.func58,Tryz.ntmps58
 go_wp2_with fail
 refine K.out.mono ?_
 rintro e w1 ⟨rfl,h1,c1⟩
 have K2:=hid (zqf h1 (hE.out.line c1 hbl) hbl hz1 hv2)
 have C1:=hid c1
 obtain ⟨o,cap,hs1⟩:=h1.more
 simp only [List.length_cons] at hs1
 clear h1 c1 K
 go_wp2_with (first|(go_at_call 82;go_in)|fail)
 refine K2.out.mono ?_
 rintro e w2 ⟨rfl,h2,c2⟩
 have H2:=hid h2
 have C2:=hid (C1.out.trans c2)
 clear h2 c2 C1 K2 hs1
 go_wp2_with (fail)
 refine (Eo H2.out).mono ?_
 rintro e w3 ⟨rfl,rfl⟩
 have r3:=R0.out _ C2.out
 have ct:=r3.c1
 rw [htv] at ct
 have K4:=hid (Uu r3 x hx)
 rw [hs] at K4
 rw [ht] at ct
 have R3:=hid r3
 clear r3 R0 htv
 go_wp2_with fail
 refine K4.out.mono ?_
 rintro e w4 ⟨rfl,b4⟩
 have r4:=(R3.out.below b4).newD (D':=D) (λk hk _=>h0 k hk)
 have r5:=r4.below (w':=w4.drew) (Qi _ _)
 obtain ⟨W,hmu,r6,c6⟩:=r5.share x hx hs c hl
 have lb6:=Qd r6.sh
 have cs0:=r5.c0
 have cs2:=r5.c2
 have cs2':=r6.c2
 have cf2:=r6.free 2
 obtain ⟨r7,c7⟩:=r6.cellsTo (st.cells+c)
 have hwr:wrap64 (st.cells+c)=st.cells+c:=yul
 have R7:=hid r7
 have C7:=hid ((((C2.out.trans (Chg.of_below b4)).drew.mono (M':=λk _=>D k) (λk i _ e=>e.1▸hDl)).trans c6).trans c7)
 clear r4 r5 r6 r7 c6 c7 b4 R3 K4 C2
 go_wp2_with fail
 go_region
 all_goals
  go_wp2
  go_end0
  exact ⟨rfl,R7.out,C7.out⟩
end
def RS.setK(st:RS)(t:Nat)(k:HK):RS:=match st.hs[t]? with
 |some h=>{st with hs:=st.hs.set t ⟨k,h.ents⟩}
 |none=>st
def RS.addE(st:RS)(o:Nat)(e:En):RS:=match st.hs[o]? with
 |some h=>{st with hs:=st.hs.set o ⟨h.k,h.ents++[e]⟩}
 |none=>st
def RS.newH(st:RS)(s:St):RS:={st with hs:=st.hs++[⟨.st s,[]⟩]}
theorem zv7(b:Nat)(w:World):(method 481 104 (ptr b) "commits/program.add").run Tryz.prog w= .ok (219,ptr b) w:=yug
theorem zv8(b:Nat)(w:World):(method 481 162 (ptr b) "commits/program.add").run Tryz.prog w= .ok (219,ptr b) w:=yug
theorem z6k(b:Nat)(w:World):(method 481 206 (ptr b) "commits/program.add").run Tryz.prog w= .ok (219,ptr b) w:=yug
theorem z3d(b:Nat)(w:World):(method 481 209 (ptr b) "commits/program.add").run Tryz.prog w= .ok (219,ptr b) w:=yug
theorem zv9(b:Nat)(w:World):(nilAhead 481 104 (ptr b) "commits/program.add").run Tryz.prog w= .ok (some false) w:=yug
theorem zwa(b:Nat)(w:World):(nilAhead 481 162 (ptr b) "commits/program.add").run Tryz.prog w= .ok (some false) w:=yug
theorem z6l(b:Nat)(w:World):(nilAhead 481 206 (ptr b) "commits/program.add").run Tryz.prog w= .ok (some false) w:=yug
theorem z3e(b:Nat)(w:World):(nilAhead 481 209 (ptr b) "commits/program.add").run Tryz.prog w= .ok (some false) w:=yug
theorem zmc{k:HK}(h:zhr k)(b:Nat):(∀w,(method 481 (hkT k) (ptr b) "commits/program.add").run Tryz.prog w= .ok (219,ptr b) w)/\ ∀w,(nilAhead 481 (hkT k) (ptr b) "commits/program.add").run Tryz.prog w= .ok (some false) w:=by
 rcases k with ⟨l,c⟩|⟨to,a⟩|⟨to,k,a,c⟩|⟨to,f,a⟩|⟨f,a,c⟩|a|⟨⟩|a|n
 ·exact ⟨zv7 b,zv9 b⟩
 ·exact h.elim
 ·exact h.elim
 ·exact h.elim
 ·exact h.elim
 ·exact h.elim
 ·exact ⟨zv8 b,zwa b⟩
 ·exact ⟨z6k b,z6l b⟩
 ·exact ⟨z3d b,z3e b⟩
section
variable{D D0:Nat->Prop}{lab:Nat->Nat×Nat}{w:World}{br sb bs bl bw:Nat}{n:Int}{ws:List ByteArray}{tv ov:Value}{st:RS}{ms:List HM}
theorem RMach.setK_eq(h:RMach D lab w br sb bs tv ov st ms)(t:Nat)(ht:t<ms.length)(k:HK):st.setK t k={st with hs:=st.hs.set t ⟨k,ms[t].h.ents⟩}:=by
 unfold RS.setK
 rw [h.hsAt t ht]
theorem RMach.addE_eq(h:RMach D lab w br sb bs tv ov st ms)(t:Nat)(ht:t<ms.length)(e:En):st.addE t e={st with hs:=st.hs.set t ⟨ms[t].h.k,ms[t].h.ents++[e]⟩}:=by
 unfold RS.addE
 rw [h.hsAt t ht]
structure Lays(st:RS)(ms:List HM)(tl ol:List Nat)(t o:Nat)(l:List ByteArray)(c:Nat):Prop where
 opn:st.opnOk
 ent:st.entOk
 ht:st.threads=tl++[t]
 htl:t<ms.length
 hn:tl.length<1000000
 hk:(ms[t]'htl).h.k= .thr l c
 ho:st.opn=ol++[o]
 hol:o<ms.length
 hc:c<=14
 hl:l.length<=4
 hents: ∀h∈st.hs,h.ents.length<900
theorem zoi(h:RMach D0 lab w br sb bs tv ov st ms)(hL:LineAt w bl n bw ws)(ho:st.opnOk)(s:St)(b:Nat)(hmay:st.mayStand s=false):
  Cl 63 #[ptr br,ptr bl,Vk s b] w λe w'=>Fails 3 n bl w e w':=by
 have K:=hid (Xm h ho s b)
 rw [hmay] at K
 have H:=hid hL
 clear h hL
 generalize Vk s b=v at*
 go_enter Tryz.func63,Tryz.ntmps63
 go_wp2_with fail
 refine K.out.mono ?_
 rintro e w1 ⟨rfl,rfl⟩
 go_wp2_with fail
 refine (Jv H.out 3).mono ?_
 rintro e w1 ⟨bf,rfl,h1⟩
 exact ⟨rfl,bf,rfl,h1⟩
theorem zrn(h:RMach D0 lab w br sb bs tv ov st ms)(hL:LineAt w bl n bw ws)(hy:Lays st ms tl ol t o l c)(s:St)(b:Nat)(hS:StB w s b)(hz:zl9 s)(h2:(Qj s).length<=2)(hmay:st.mayStand s=true)(hnm:st.mayName l s=false):
  Cl 63 #[ptr br,ptr bl,Vk s b] w λe w'=>Fails 4 n bl w e w':=by
 have K:=hid (Xm h hy.opn s b)
 rw [hmay] at K
 have K2:=hid (Fp h tl t hy.ht hy.htl hy.hn l c hy.hk s b hS hz h2)
 rw [hnm] at K2
 have H:=hid hL
 clear h hL
 generalize Vk s b=v at*
 go_enter Tryz.func63,Tryz.ntmps63
 go_wp2_with fail
 refine K.out.mono ?_
 rintro e w1 ⟨rfl,rfl⟩
 go_wp2_with fail
 refine K2.out.mono ?_
 rintro e w2 ⟨rfl,b2⟩
 have B2:=hid b2
 clear b2
 go_wp2_with fail
 refine (Jv (H.out.below B2.out) 4).mono ?_
 intro e w3 h3
 obtain ⟨bf,rfl,h4⟩:=h3.after (Chg.of_below B2.out)
 exact ⟨rfl,bf,rfl,h4⟩
theorem zro(h:RMach D0 lab w br sb bs tv ov st ms)(hL:LineAt w bl n bw ws)(hy:Lays st ms tl ol t o l c)(s:St)(b:Nat)(hS:StB w s b)(hz:zl9 s)(h2:(Qj s).length<=2)(hmay:st.mayStand s=true)(hnm:st.mayName l s=true)(hrm:st.hasRoom l c s=false):
  Cl 63 #[ptr br,ptr bl,Vk s b] w λe w'=>Fails 5 n bl w e w':=by
 have K:=hid (Xm h hy.opn s b)
 rw [hmay] at K
 have K2:=hid (Fp h tl t hy.ht hy.htl hy.hn l c hy.hk s b hS hz h2)
 rw [hnm] at K2
 have K3:=hid (λW (hW:Below w.heap.size w W)=>Oj (h.below hW) hy.opn tl t hy.ht hy.htl hy.hn l c hy.hk s b hz)
 rw [hrm] at K3
 have H:=hid hL
 clear h hL
 generalize Vk s b=v at*
 go_enter Tryz.func63,Tryz.ntmps63
 go_wp2_with fail
 refine K.out.mono ?_
 rintro e w1 ⟨rfl,rfl⟩
 go_wp2_with fail
 refine K2.out.mono ?_
 rintro e w2 ⟨rfl,b2⟩
 have B2:=hid b2
 clear b2
 go_wp2_with fail
 refine (K3.out w2 B2.out).mono ?_
 rintro e w3 ⟨rfl,b3⟩
 have B3:=hid (B2.out.trans (b3.mono B2.out.size))
 clear b3
 go_wp2_with fail
 refine (Jv (H.out.below B3.out) 5).mono ?_
 intro e w4 h4
 obtain ⟨bf,rfl,h5⟩:=h4.after (Chg.of_below B3.out)
 exact ⟨rfl,bf,rfl,h5⟩
end
def RS.lastT(st:RS):Option (Nat×List ByteArray×Nat):=match st.threads.getLast? with
 |none=>none
 |some t=>match st.hk t with
  |some (.inl (l,c))=>some (t,l,c)
  |_=>none
def RS.lay(st:RS)(t o:Nat)(l:List ByteArray)(c:Nat)(s:St):RS:=
 if Qf s=true then {(((st.newH s).setK t (.thr l (c+1))).addE o (.sub st.hs.length)) with opn:=st.opn++[st.hs.length]}
 else if (Vg s).toList.isEmpty=false/\Uh l (Vg s)=false then ((st.setK t (.thr l (c+1))).setK t (.thr (l++[Vg s]) (c+1))).addE o (.leaf s)
 else (st.setK t (.thr l (c+1))).addE o (.leaf s)
def gSt(st:RS)(s:St):Except Int RS:=
 if st.mayStand s=false then .error 3 else match st.lastT,st.opn.getLast? with
 |some (t,l,c),some o=>if st.mayName l s=false then .error 4 else if st.hasRoom l c s=false then .error 5 else .ok (st.lay t o l c s)
 |_,_=> .error 3
def Qy:ByteArray:=⟨#[115,104,97,114,101,100]⟩
def Qt:ByteArray:=⟨#[116,104,114,101,97,100]⟩
def Zd:ByteArray:=⟨#[101,110,100]⟩
def Iq(st:RS)(ws:List ByteArray):Except Int RS:=match gNm ws with
 |none=> .error 2
 |some (x,[])=>if 0<st.threads.length then .error 3 else if st.isSh x=true then .error 4 else .ok {st with shared:=st.shared++[(x,st.cells,1)],cells:=st.cells+1}
 |some (x,u::us)=>match gIn 1 6 (u::us) with
  |some (c,[])=>if 0<st.threads.length then .error 3 else if st.isSh x=true then .error 4 else .ok {st with shared:=st.shared++[(x,st.cells,c)],cells:=st.cells+c}
  |_=> .error 2
def Ef(st:RS)(ws:List ByteArray):Except Int RS:=match ws with
 |[]=>if 1<st.opn.length then .error 3 else .ok st.newT
 |_=> .error 2
def zwb(st:RS)(ws:List ByteArray):Except Int RS:=match ws with
 |[]=>if st.opn.length<2 then .error 3 else .ok {st with opn:=st.opn.dropLast}
 |_=> .error 2
def Vq(st:RS)(ws:List ByteArray):Except Int RS:=match ws with
 |[]=> .error 2
 |u::us=>if u=Qy then Iq st us else if u=Qt then Ef st us else if u=Zd then zwb st us else match Zs u us with
  |some (s,[])=>gSt st s
  |_=> .error 2
structure RS.Ok(st:RS)(k:Nat):Prop where
 opn:st.opnOk
 ent:st.entOk
 thr: ∀t∈st.threads,∃l c,st.hk t=some (.thr l c)/\c<=14/\l.length<=4
 ne:st.opn≠[]->st.threads≠[]
 tn:st.threads.length<=k
 sn:st.shared.length<=k
 cn:0<=st.cells/\st.cells<=6*k
 e14: ∀(j:Nat) (h:Hd),st.hs[j]?=some h->h.ents.length<=14
 eo: ∀o∈st.opn,∀h:Hd,st.hs[o]?=some h->∀t l c,st.lastT=some (t,l,c)->h.ents.length<=c
def Zv(t o:Nat)(k:HK)(e:En)(j:Nat)(h:Hd):Hd:=⟨if j=t then k else h.k,if j=o then h.ents++[e] else h.ents⟩
section
variable{st st':RS}{k t o:Nat}{l l':List ByteArray}{c:Nat}{s:St}
theorem zmd(t:Nat)(q:HK)(j:Nat):(st.setK t q).hs[j]?=(st.hs[j]?).map λh=>⟨if j=t then q else h.k,h.ents⟩:=by
 unfold RS.setK
 cases h:st.hs[t]? with
 |none=>
  by_cases e:j=t
  ·subst e;simp [h]
  ·simp [e]
 |some x=>
  by_cases e:j=t
  ·subst e
   obtain ⟨this,rfl⟩:=List.getElem?_eq_some_iff.1 h
   simp [this]
  ·have e':t≠j:=λq=>e q.symm
   simp [e,List.getElem?_set_ne e']
theorem zwc(o:Nat)(e:En)(j:Nat):(st.addE o e).hs[j]?=(st.hs[j]?).map λh=>⟨h.k,if j=o then h.ents++[e] else h.ents⟩:=by
 unfold RS.addE
 cases h:st.hs[o]? with
 |none=>
  by_cases e:j=o
  ·subst e;simp [h]
  ·simp [e]
 |some x=>
  by_cases e:j=o
  ·subst e
   obtain ⟨this,rfl⟩:=List.getElem?_eq_some_iff.1 h
   simp [this]
  ·have e':o≠j:=λq=>e q.symm
   simp [e,List.getElem?_set_ne e']
theorem Xu(t:Nat)(q:HK):(st.setK t q).shared=st.shared/\(st.setK t q).cells=st.cells/\(st.setK t q).threads=st.threads/\(st.setK t q).opn=st.opn:=by
 unfold RS.setK
 split<;>exact ⟨rfl,rfl,rfl,rfl⟩
theorem zas(o:Nat)(e:En):(st.addE o e).shared=st.shared/\(st.addE o e).cells=st.cells/\(st.addE o e).threads=st.threads/\(st.addE o e).opn=st.opn:=by
 unfold RS.addE
 split<;>exact ⟨rfl,rfl,rfl,rfl⟩
theorem Us(h:st.lastT=some (t,l,c)): ∃tl,st.threads=tl++[t]/\st.hk t=some (.thr l c):=by
 unfold RS.lastT at h
 cases hg:st.threads.getLast? with
 |none=>simp [hg] at h
 |some t'=>
  rw [hg] at h
  simp only at h
  cases hk:st.hk t' with
  |none=>simp [hk] at h
  |some q=>
   rw [hk] at h
   rcases q with ⟨l',c'⟩|q
   ·simp only [Option.some.injEq,Prod.mk.injEq] at h
    obtain ⟨rfl,rfl,rfl⟩:=h
    obtain ⟨tl,htl⟩:=List.getLast?_eq_some_iff.1 hg
    exact ⟨tl,htl,hk⟩
   ·simp at h
theorem zc4(h:st.threads=tl++[t])(hk:st.hk t=some (.thr l c)):st.lastT=some (t,l,c):=by
 unfold RS.lastT
 rw [h]
 simp [hk]
theorem zwd(h:st.Ok k)(hne:st.threads≠[]): ∃t l c tl,st.lastT=some (t,l,c)/\st.threads=tl++[t]/\st.hk t=some (.thr l c)/\c<=14/\l.length<=4:=by
 obtain ⟨tl,t,e⟩: ∃tl t,st.threads=tl++[t]:=⟨_,_,(List.dropLast_concat_getLast hne).symm⟩
 obtain ⟨l,c,h1,h2,h3⟩:=h.thr t yvf
 exact ⟨t,l,c,tl,zc4 e h1,e,h1,h2,h3⟩
theorem Yy{j:Nat}{q:HK}(h:st.hk j=some q): ∃x,st.hs[j]?=some x/\x.k=q:=by
 unfold RS.hk at h
 cases hx:st.hs[j]? with
 |none=>simp [hx] at h
 |some x=>exact ⟨x,rfl,by simpa [hx] using h⟩
theorem Ok.upd(h:st.Ok k)(hl:st.lastT=some (t,l,c))(ho:o∈st.opn)(hc:c<14)(hl':l'.length<=4)(e:En)(he: ∀j,e= .inr j->j<st.hs.length)
  (hsame:st'.shared=st.shared/\st'.cells=st.cells/\st'.threads=st.threads/\st'.opn=st.opn) (hget: ∀j,st'.hs[j]?=(st.hs[j]?).map (Zv t o (.thr l' (c+1)) e j)):st'.Ok k/\st'.lastT=some (t,l',c+1)/\st'.hs.length=st.hs.length:=by
 obtain ⟨s1,s2,s3,s4⟩:=hsame
 obtain ⟨tl,ht,hkt⟩:=Us hl
 have hlen:st'.hs.length=st.hs.length:=by
  apply Nat.le_antisymm
  ·apply Nat.le_of_not_lt
   intro hlt
   have:=hget st.hs.length
   rw [List.getElem?_eq_none (Nat.le_refl _)] at this
   rw [List.getElem?_eq_getElem hlt] at this
   simp at this
  ·apply Nat.le_of_not_lt
   intro hlt
   have:=hget st'.hs.length
   rw [List.getElem?_eq_none (Nat.le_refl _),List.getElem?_eq_getElem hlt] at this
   simp at this
 have hkj: ∀j,st'.hk j=(st.hk j).map λq=>if j=t then .thr l' (c+1) else q:=yt7
 have hkt':st'.hk t=some (.thr l' (c+1)):=by rw [hkj,hkt];simp
 have hlt':st'.lastT=some (t,l',c+1):=zc4 (s3.trans ht) hkt'
 have hinv: ∀(j:Nat) (x:Hd),st'.hs[j]?=some x->∃y,st.hs[j]?=some y/\x=Zv t o (.thr l' (c+1)) e j y:=ysj
 refine ⟨{opn:=⟨by rw [s4];exact h.opn.1,?_⟩,ent:=⟨?_,?_,?_⟩,thr:=?_,ne:=by rw [s3,s4];exact h.ne,tn:=by rw [s3];exact h.tn,sn:=by rw [s1];exact h.sn,cn:=by rw [s2];exact h.cn,e14:=?_,eo:=?_},hlt',hlen⟩
 ·intro j hj
  rw [s4] at hj
  obtain ⟨y,hy,hok⟩:=h.opn.2 j hj
  refine ⟨Zv t o (.thr l' (c+1)) e j y,by rw [hget,hy];rfl,?_⟩
  unfold Zv
  by_cases e1:j=t
  ·simp only [e1,if_true];trivial
  ·simp only [e1,if_false];exact hok
 ·intro x hx i hi
  rw [hlen]
  obtain ⟨j,hj⟩:=List.mem_iff_getElem?.1 hx
  obtain ⟨y,hy,rfl⟩:=hinv j x hj
  have hy':y∈st.hs:=List.mem_iff_getElem?.2 ⟨j,hy⟩
  unfold Zv at hi
  simp only at hi
  by_cases e1:j=o
  ·rw [if_pos e1,List.mem_append] at hi
   rcases hi with hi|hi
   ·exact h.ent.1 y hy' i hi
   ·simp at hi
    exact he i hi.symm
  ·rw [if_neg e1] at hi
   exact h.ent.1 y hy' i hi
 ·rw [s3,hlen];exact h.ent.2.1
 ·rw [s4,hlen];exact h.ent.2.2
 ·intro j hj
  rw [s3] at hj
  obtain ⟨l0,c0,h1,h2,h3⟩:=h.thr j hj
  by_cases e1:j=t
  ·subst e1
   exact ⟨l',c+1,hkt',by omega,hl'⟩
  ·refine ⟨l0,c0,?_,h2,h3⟩
   rw [hkj,h1]
   simp [e1]
 ·intro j x hx
  obtain ⟨y,hy,rfl⟩:=hinv j x hx
  unfold Zv
  simp only
  by_cases e1:j=o
  ·subst e1
   have:=h.eo j ho y hy t l c hl
   rw [if_pos rfl]
   simp
   omega
  ·rw [if_neg e1];exact h.e14 j y hy
 ·intro j hj x hx t2 l2 c2 h2
  rw [hlt'] at h2
  simp only [Option.some.injEq,Prod.mk.injEq] at h2
  obtain ⟨_,_,rfl⟩:=h2
  rw [s4] at hj
  obtain ⟨y,hy,rfl⟩:=hinv j x hx
  have:=h.eo j hj y hy t l c hl
  unfold Zv
  simp only
  by_cases e1:j=o
  ·rw [if_pos e1];simp;omega
  ·rw [if_neg e1];omega
theorem Ok.newH(h:st.Ok k)(s:St):(st.newH s).Ok k/\(st.newH s).lastT=st.lastT:=by
 have old: ∀j,j<st.hs.length->(st.newH s).hs[j]?=st.hs[j]?:=λj hj=>List.getElem?_append_left hj
 have hko: ∀j,j<st.hs.length->(st.newH s).hk j=st.hk j:=λj hj=>by unfold RS.hk;rw [old j hj]
 have hlt:(st.newH s).lastT=st.lastT:=by
  unfold RS.lastT
  show (match st.threads.getLast? with|none=>none|some t=>_)=_
  cases hg:st.threads.getLast? with
  |none=>rfl
  |some t=>
   have ht:t∈st.threads:=List.mem_of_getLast? hg
   simp only
   rw [hko t (h.ent.2.1 t ht)]
 have hinv: ∀(j:Nat) (x:Hd),(st.newH s).hs[j]?=some x->st.hs[j]?=some x\/x=⟨.st s,[]⟩:=by
  intro j x hx
  by_cases e:j<st.hs.length
  ·left;rw [<-old j e];exact hx
  ·right
   have:(st.hs++[⟨.st s,[]⟩])[j]?=some x:=hx
   rw [List.getElem?_append_right yue] at this
   have hj:j- st.hs.length=0:=by
    apply Nat.eq_zero_of_not_pos
    intro hp
    rw [List.getElem?_eq_none yuj] at this
    simp at this
   rw [hj] at this
   simpa using this.symm
 have hlen:(st.newH s).hs.length=st.hs.length+1:=yva
 refine ⟨{opn:=⟨h.opn.1,λj hj=>?_⟩,ent:=⟨?_,?_,?_⟩,thr:=?_,ne:=h.ne,tn:=h.tn,sn:=h.sn,cn:=h.cn,e14:=?_,eo:=?_},hlt⟩
 ·obtain ⟨y,hy,hok⟩:=h.opn.2 j hj
  exact ⟨y,by rw [old j (h.ent.2.2 j hj)];exact hy,hok⟩
 ·exact ys3
 ·intro j hj;rw [hlen];have:=h.ent.2.1 j hj;omega
 ·intro j hj;rw [hlen];have:=h.ent.2.2 j hj;omega
 ·intro t ht
  obtain ⟨l,c,h1,h2⟩:=h.thr t ht
  exact ⟨l,c,by rw [hko t (h.ent.2.1 t ht)];exact h1,h2⟩
 ·intro j x hx
  rcases hinv j x hx with q|rfl
  ·exact h.e14 j x q
  ·simp
 ·intro j hj x hx t l c h2
  rw [hlt] at h2
  rw [old j (h.ent.2.2 j hj)] at hx
  exact h.eo j hj x hx t l c h2
theorem Ok.pushO(h:st.Ok k)(x:Nat)(y:Hd)(hy:st.hs[x]?=some y)(hok:zhr y.k)(he:y.ents=[])(h3:st.opn.length<=3)(hne:st.threads≠[]):RS.Ok {st with opn:=st.opn++[x]} k:=by
 have hx:x<st.hs.length:=(List.getElem?_eq_some_iff.1 hy).1
 refine {opn:=⟨by simp;omega,λj hj=>?_⟩,ent:=⟨h.ent.1,h.ent.2.1,λj hj=>?_⟩,thr:=h.thr,ne:=λ_=>hne,tn:=h.tn,sn:=h.sn,cn:=h.cn,e14:=h.e14,eo:=λj hj z hz t l c hl=>?_}
 ·rcases List.mem_append.1 hj with hj|hj
  ·exact h.opn.2 j hj
  ·simp at hj;subst hj;exact ⟨y,hy,hok⟩
 ·rcases List.mem_append.1 hj with hj|hj
  ·exact h.ent.2.2 j hj
  ·simp at hj;subst hj;exact hx
 ·rcases List.mem_append.1 hj with hj|hj
  ·exact h.eo j hj z hz t l c hl
  ·simp at hj;subst hj
   have:z=y:=by simpa using (show some z=some y from hz.symm.trans hy)
   rw [this,he]
   simp
end
section
variable{st st':RS}{k t o:Nat}{l l':List ByteArray}{c:Nat}{s:St}
theorem Ok.mono(h:st.Ok k)(hk:k<=k'):st.Ok k':={opn:=h.opn,ent:=h.ent,thr:=h.thr,ne:=h.ne,tn:=Nat.le_trans h.tn hk,sn:=Nat.le_trans h.sn hk,cn:=⟨h.cn.1,by have:=h.cn.2;omega⟩,e14:=h.e14,eo:=h.eo}
theorem Vx(st:RS)(t o:Nat)(q:HK)(e:En)(j:Nat):((st.setK t q).addE o e).hs[j]?=(st.hs[j]?).map (Zv t o q e j):=by
 rw [zwc,zmd,Option.map_map]
 rfl
theorem Ol(st:RS)(t o:Nat)(q1 q:HK)(e:En)(j:Nat):(((st.setK t q1).setK t q).addE o e).hs[j]?=(st.hs[j]?).map (Zv t o q e j):=by
 rw [Vx,zmd,Option.map_map]
 congr 1
 funext h
 unfold Zv
 simp only [Function.comp_apply]
 by_cases e1:j=t
 ·simp [e1]
 ·simp [e1]
theorem Om(h:st.hasRoom l c s=true):c≠14/\((Vg s).toList.isEmpty=false->Uh l (Vg s)=false->l.length≠4)/\(Qf s=true->st.opn.length<=3):=by
 unfold RS.hasRoom at h
 simp only [Bool.and_eq_true,Bool.not_eq_true',decide_eq_false_iff_not,Bool.or_eq_true,decide_eq_true_eq] at h
 refine ⟨h.1,λh1 h2 h3=>?_,λh1=>?_⟩
 ·have:=h.2.1
  simp [h1,h2,h3] at this
 ·rcases h.2.2 with q|q
  ·rw [h1] at q;simp at q
  ·exact q
theorem zoj(h:Qf s=true):zhr (.st s):=by
 rcases s with ⟨to,a⟩|⟨to,k,a,c⟩|⟨to,f,a⟩|⟨f,a,c⟩|a|⟨⟩|a|n
 ·simp [Qf] at h
 ·simp [Qf] at h
 ·simp [Qf] at h
 ·simp [Qf] at h
 ·simp [Qf] at h
 ·trivial
 ·trivial
 ·trivial
theorem Ok.lay(h:st.Ok k)(hl:st.lastT=some (t,l,c))(ho:st.opn=ol++[o])(hr:st.hasRoom l c s=true):(st.lay t o l c s).Ok k:=by
 obtain ⟨r1,r2,r3⟩:=Om hr
 obtain ⟨tl,htl,hkt⟩:=Us hl
 obtain ⟨l0,c0,q1,q2,q3⟩:=h.thr t yvb
 obtain ⟨rfl,rfl⟩:l=l0/\c=c0:=by
  have:=hkt.symm.trans q1
  simpa using this
 have hom:o∈st.opn:=yuo
 have hc:c<14:=yue
 have htlt:t<st.hs.length:=h.ent.2.1 t yvb
 have holt:o<st.hs.length:=h.ent.2.2 o hom
 unfold RS.lay
 split
 ·rename_i hh
  obtain ⟨n1,n2⟩:=Ok.newH h s
  have hsm:(((st.newH s).setK t (.thr l (c+1))).addE o (.sub st.hs.length)).shared=st.shared/\(((st.newH s).setK t (.thr l (c+1))).addE o (.sub st.hs.length)).cells=st.cells/\(((st.newH s).setK t (.thr l (c+1))).addE o (.sub st.hs.length)).threads=st.threads/\(((st.newH s).setK t (.thr l (c+1))).addE o (.sub st.hs.length)).opn=st.opn:=by
   obtain ⟨a1,a2,a3,a4⟩:=zas (st:=(st.newH s).setK t (.thr l (c+1))) o (.sub st.hs.length)
   obtain ⟨b1,b2,b3,b4⟩:=Xu (st:=st.newH s) t (.thr l (c+1))
   exact ⟨a1.trans b1,a2.trans b2,a3.trans b3,a4.trans b4⟩
  obtain ⟨u1,u2,u3⟩:=Ok.upd n1 (n2.trans hl) (show o∈(st.newH s).opn from hom) hc q3 (.sub st.hs.length) (λj e=>by
   have:st.hs.length=j:=by simpa using e
   simp [RS.newH];omega) hsm (Vx _ _ _ _ _)
  have hx:(((st.newH s).setK t (.thr l (c+1))).addE o (.sub st.hs.length)).hs[st.hs.length]?=some ⟨.st s,[]⟩:=by
   rw [Vx]
   have:(st.newH s).hs[st.hs.length]?=some ⟨.st s,[]⟩:=yva
   rw [this]
   have e1:st.hs.length≠t:=yue
   have e2:st.hs.length≠o:=yue
   simp [Zv,e1,e2]
  have:=Ok.pushO u1 st.hs.length _ hx (zoj hh) rfl (by rw [hsm.2.2.2];exact r3 hh) (by rw [hsm.2.2.1,htl];simp)
  rw [hsm.2.2.2] at this
  exact this
 ·split
  ·rename_i hn
   have hsm:(((st.setK t (.thr l (c+1))).setK t (.thr (l++[Vg s]) (c+1))).addE o (.leaf s)).shared=st.shared/\(((st.setK t (.thr l (c+1))).setK t (.thr (l++[Vg s]) (c+1))).addE o (.leaf s)).cells=st.cells/\(((st.setK t (.thr l (c+1))).setK t (.thr (l++[Vg s]) (c+1))).addE o (.leaf s)).threads=st.threads/\(((st.setK t (.thr l (c+1))).setK t (.thr (l++[Vg s]) (c+1))).addE o (.leaf s)).opn=st.opn:=by
    obtain ⟨a1,a2,a3,a4⟩:=zas (st:=(st.setK t (.thr l (c+1))).setK t (.thr (l++[Vg s]) (c+1))) o (.leaf s)
    obtain ⟨b1,b2,b3,b4⟩:=Xu (st:=st.setK t (.thr l (c+1))) t (.thr (l++[Vg s]) (c+1))
    obtain ⟨d1,d2,d3,d4⟩:=Xu (st:=st) t (.thr l (c+1))
    exact ⟨(a1.trans b1).trans d1,(a2.trans b2).trans d2,(a3.trans b3).trans d3,(a4.trans b4).trans d4⟩
   have:=r2 hn.1 hn.2
   exact (Ok.upd h hl hom hc (l':=l++[Vg s]) yuj (.leaf s) (λj e=>by simp at e) hsm (Ol _ _ _ _ _ _)).1
  ·have hsm:((st.setK t (.thr l (c+1))).addE o (.leaf s)).shared=st.shared/\((st.setK t (.thr l (c+1))).addE o (.leaf s)).cells=st.cells/\((st.setK t (.thr l (c+1))).addE o (.leaf s)).threads=st.threads/\((st.setK t (.thr l (c+1))).addE o (.leaf s)).opn=st.opn:=by
    obtain ⟨a1,a2,a3,a4⟩:=zas (st:=st.setK t (.thr l (c+1))) o (.leaf s)
    obtain ⟨d1,d2,d3,d4⟩:=Xu (st:=st) t (.thr l (c+1))
    exact ⟨a1.trans d1,a2.trans d2,a3.trans d3,a4.trans d4⟩
   exact (Ok.upd h hl hom hc q3 (.leaf s) (λj e=>by simp at e) hsm (Vx _ _ _ _ _)).1
theorem Ok.newT(h:st.Ok k):st.newT.Ok (k+1):=by
 obtain ⟨n1,_⟩:=Ok.newH h St.atomic
 have old: ∀j,j<st.hs.length->st.newT.hs[j]?=st.hs[j]?:=λj hj=>List.getElem?_append_left hj
 have new:st.newT.hs[st.hs.length]?=some ⟨.thr [] 0,[]⟩:=by simp [RS.newT]
 have hlen:st.newT.hs.length=st.hs.length+1:=by simp [RS.newT]
 have hkn:st.newT.hk st.hs.length=some (.thr [] 0):=by unfold RS.hk;rw [new];rfl
 have hlt:st.newT.lastT=some (st.hs.length,[],0):=zc4 (tl:=st.threads) rfl hkn
 have hinv: ∀(j:Nat) (x:Hd),st.newT.hs[j]?=some x->st.hs[j]?=some x\/x=⟨.thr [] 0,[]⟩:=by
  intro j x hx
  by_cases e:j<st.hs.length
  ·left;rw [<-old j e];exact hx
  ·right
   have hj:=(List.getElem?_eq_some_iff.1 hx).1
   obtain rfl:j=st.hs.length:=yue
   rw [new] at hx
   simpa using hx.symm
 refine {opn:=⟨by simp [RS.newT],λj hj=>?_⟩,ent:=⟨?_,?_,?_⟩,thr:=?_,ne:=λ_=>by simp [RS.newT],tn:=by have:=h.tn;simp [RS.newT];omega,sn:=by have:=h.sn;simp [RS.newT];omega,cn:=⟨h.cn.1,by have:=h.cn.2;show st.cells<=_;omega⟩,e14:=?_,eo:=?_}
 ·have:j=st.hs.length:=by simpa [RS.newT] using hj
  subst this
  exact ⟨_,new,trivial⟩
 ·exact ys3
 ·intro j hj
  rw [hlen]
  rcases List.mem_append.1 (show j∈st.threads++[st.hs.length] from hj) with hj|hj
  ·have:=h.ent.2.1 j hj;omega
  ·simp at hj;omega
 ·intro j hj
  rw [hlen]
  have:j=st.hs.length:=yvy
  omega
 ·intro j hj
  rcases List.mem_append.1 (show j∈st.threads++[st.hs.length] from hj) with hj|hj
  ·obtain ⟨l,c,h1,h2⟩:=h.thr j hj
   exact ⟨l,c,by unfold RS.hk;rw [old j (h.ent.2.1 j hj)];exact h1,h2⟩
  ·simp at hj
   subst hj
   exact ⟨[],0,hkn,by omega,by simp⟩
 ·intro j x hx
  rcases hinv j x hx with q|rfl
  ·exact h.e14 j x q
  ·simp
 ·intro j hj x hx t l c _
  have:j=st.hs.length:=yvy
  subst this
  rw [new] at hx
  have:x=⟨.thr [] 0,[]⟩:=by simpa using hx.symm
  rw [this]
  simp
theorem Ok.pop(h:st.Ok k):RS.Ok {st with opn:=st.opn.dropLast} k:=by
 have sub: ∀j,j∈st.opn.dropLast->j∈st.opn:=λj hj=>List.mem_of_mem_take (by rw [List.dropLast_eq_take] at hj;exact hj)
 refine {opn:=⟨by have:=h.opn.1;simp;omega,λj hj=>h.opn.2 j (sub j hj)⟩,ent:=⟨h.ent.1,h.ent.2.1,λj hj=>h.ent.2.2 j (sub j hj)⟩,thr:=h.thr,ne:=λhne=>h.ne (λe=>hne (by show st.opn.dropLast=[];rw [e];rfl)),tn:=h.tn,sn:=h.sn,cn:=h.cn,e14:=h.e14,eo:=λj hj=>h.eo j (sub j hj)}
theorem Ok.share(h:st.Ok k)(x:ByteArray)(c:Int)(hc:1<=c/\c<=6):RS.Ok {st with shared:=st.shared++[(x,st.cells,c)],cells:=st.cells+c} (k+1):=by
 have:=h.cn
 exact {opn:=h.opn,ent:=h.ent,thr:=h.thr,ne:=h.ne,tn:=Nat.le_succ_of_le h.tn,sn:=by have:=h.sn;simp;omega,cn:=⟨by show 0<=st.cells+c;omega,by show st.cells+c<=_;omega⟩,e14:=h.e14,eo:=h.eo}
theorem z3f(h:st.Ok k)(hg:gSt st s= .ok st'):st'.Ok k:=by
 unfold gSt at hg
 split at hg
 ·simp at hg
 ·cases hl:st.lastT with
  |none=>simp [hl] at hg
  |some p=>
   obtain ⟨t,l,c⟩:=p
   cases ho:st.opn.getLast? with
   |none=>simp [hl,ho] at hg
   |some o=>
    rw [hl,ho] at hg
    simp only at hg
    split at hg
    ·simp at hg
    ·split at hg
     ·simp at hg
     ·rename_i hr
      obtain ⟨ol,hol⟩:=List.getLast?_eq_some_iff.1 ho
      have:st.lay t o l c s=st':=by simpa using hg
      rw [<-this]
      exact Ok.lay h hl hol (by simpa using hr)
theorem zme{lo hi v:Int}(h:gIn lo hi ws=some (v,ws1)):lo<=v/\v<=hi:=by
 unfold gIn at h
 cases hn:zco ws with
 |none=>simp [hn] at h
 |some q=>
  simp [hn] at h
  obtain ⟨h1,rfl⟩:=h
  exact h1
theorem Ir(h:st.Ok k)(hg:Vq st ws= .ok st'):st'.Ok (k+1):=by
 unfold Vq at hg
 rcases ws with _|⟨u,us⟩
 ·simp at hg
 ·simp only at hg
  split at hg
  ·unfold Iq at hg
   cases hn:gNm us with
   |none=>simp [hn] at hg
   |some p=>
    obtain ⟨x,us1⟩:=p
    rw [hn] at hg
    rcases us1 with _|⟨u1,us1⟩
    ·simp only at hg
     split at hg
     ·simp at hg
     ·split at hg
      ·simp at hg
      ·have:=Ok.share h x 1 yue
       simp only [Except.ok.injEq] at hg
       rw [<-hg];exact this
    ·simp only at hg
     cases hi:gIn 1 6 (u1::us1) with
     |none=>simp [hi] at hg
     |some q=>
      obtain ⟨v,us2⟩:=q
      rw [hi] at hg
      rcases us2 with _|⟨u2,us2⟩
      ·simp only at hg
       split at hg
       ·simp at hg
       ·split at hg
        ·simp at hg
        ·have:=Ok.share h x v (zme hi)
         simp only [Except.ok.injEq] at hg
         rw [<-hg];exact this
      ·simp at hg
  ·split at hg
   ·unfold Ef at hg
    rcases us with _|⟨u1,us1⟩
    ·simp only at hg
     split at hg
     ·simp at hg
     ·simp only [Except.ok.injEq] at hg
      rw [<-hg];exact Ok.newT h
    ·simp at hg
   ·split at hg
    ·unfold zwb at hg
     rcases us with _|⟨u1,us1⟩
     ·simp only at hg
      split at hg
      ·simp at hg
      ·simp only [Except.ok.injEq] at hg
       rw [<-hg];exact Ok.mono (Ok.pop h) (Nat.le_succ k)
     ·simp at hg
    ·cases hs:Zs u us with
     |none=>simp [hs] at hg
     |some p=>
      obtain ⟨s,us1⟩:=p
      rw [hs] at hg
      rcases us1 with _|⟨u1,us1⟩
      ·exact Ok.mono (z3f h hg) (Nat.le_succ k)
      ·simp at hg
end
structure DeepL(st:RS)(lv:Nat->Nat):Prop where
 nest: ∀(i:Nat) (h:Hd),st.hs[i]?=some h->∀j, .inr j∈h.ents->lv j=lv i+1/\ ∃s,st.hk j=some (.st s)/\Qf s=true
 le: ∀i,i<st.hs.length->lv i<=3
 op: ∀(m j:Nat),st.opn[m]?=some j->lv j=m
 leaf: ∀(i:Nat) (h:Hd),st.hs[i]?=some h->∀s, .inl s∈h.ents->Qf s=false
 loop: ∀i n,st.hk i=some (.st (St.loop n))->1<=n/\n<=4
 thr: ∀t∈st.threads,lv t=0
def RS.Deep(st:RS):Prop:=∃lv,DeepL st lv
theorem zrp:(⟨[],0,[],[],[]⟩:RS).Deep:=⟨λ_=>0,⟨λi h hh=>by simp at hh,λi hi=>by simp at hi,λm j hj=>by simp at hj,λi h hh=>by simp at hh,λi n hh=>by simp [RS.hk] at hh,λt ht=>by simp at ht⟩⟩
section
variable{st st':RS}{lv:Nat->Nat}{k t o:Nat}{l l':List ByteArray}{c c':Nat}{s:St}
def z4g(st:RS)(lv:Nat->Nat)(o:Nat):En->Prop
 | .inl s=>Qf s=false
 | .inr j=>lv j=lv o+1/\ ∃s,st.hk j=some (.st s)/\Qf s=true
theorem DeepL.upd(h:DeepL st lv)(hkt:st.hk t=some (.thr l c))(e:En)(he:z4g st lv o e)
  (hsame:st'.shared=st.shared/\st'.cells=st.cells/\st'.threads=st.threads/\st'.opn=st.opn) (hlen:st'.hs.length=st.hs.length) (hget: ∀j,st'.hs[j]?=(st.hs[j]?).map (Zv t o (.thr l' c') e j)):DeepL st' lv:=by
 obtain ⟨s1,s2,s3,s4⟩:=hsame
 have hkj: ∀j,st'.hk j=(st.hk j).map λq=>if j=t then .thr l' c' else q:=yt7
 have hinv: ∀(j:Nat) (x:Hd),st'.hs[j]?=some x->∃y,st.hs[j]?=some y/\x=Zv t o (.thr l' c') e j y:=ysj
 have hst: ∀j s,st.hk j=some (.st s)->st'.hk j=some (.st s):=by
  intro j s hj
  have:j≠t:=λe=>by rw [e,hkt] at hj;simp at hj
  rw [hkj,hj]
  simp [this]
 refine {nest:=?_,le:=by rw [hlen];exact h.le,op:=by rw [s4];exact h.op,leaf:=?_,loop:=?_,thr:=by rw [s3];exact h.thr}
 ·intro i x hx j hj
  obtain ⟨y,hy,rfl⟩:=hinv i x hx
  simp only [Zv] at hj
  by_cases e1:i=o
  ·rw [if_pos e1,List.mem_append] at hj
   rcases hj with hj|hj
   ·obtain ⟨q1,s,q2,q3⟩:=h.nest i y hy j hj
    exact ⟨q1,s,hst j s q2,q3⟩
   ·have:e= .inr j:=by simp at hj;exact hj.symm
    subst this
    obtain ⟨q1,s,q2,q3⟩:=he
    exact ⟨e1▸q1,s,hst j s q2,q3⟩
  ·exact yt4
 ·intro i x hx s hs
  obtain ⟨y,hy,rfl⟩:=hinv i x hx
  simp only [Zv] at hs
  by_cases e1:i=o
  ·rw [if_pos e1,List.mem_append] at hs
   rcases hs with hs|hs
   ·exact h.leaf i y hy s hs
   ·have:e= .inl s:=by simp at hs;exact hs.symm
    subst this
    exact he
  ·rw [if_neg e1] at hs
   exact h.leaf i y hy s hs
 ·intro i n hi
  rw [hkj] at hi
  by_cases e1:i=t
  ·subst e1
   rw [hkt] at hi
   simp at hi
  ·apply h.loop i n
   cases hq:st.hk i with
   |none=>simp [hq] at hi
   |some q=>simpa [hq,e1] using hi
theorem DeepL.newH(h:DeepL st lv)(hok:st.Ok k)(hloop: ∀n,s=St.loop n->1<=n/\n<=4)(x:Nat)(hx:x<=3):DeepL (st.newH s) (λi=>if i=st.hs.length then x else lv i):=by
 have old: ∀j,j<st.hs.length->(st.newH s).hs[j]?=st.hs[j]?:=λj hj=>List.getElem?_append_left hj
 have new:(st.newH s).hs[st.hs.length]?=some ⟨.st s,[]⟩:=yva
 have hlen:(st.newH s).hs.length=st.hs.length+1:=yva
 have hko: ∀j,j<st.hs.length->(st.newH s).hk j=st.hk j:=λj hj=>by unfold RS.hk;rw [old j hj]
 have hinv: ∀(j:Nat) (y:Hd),(st.newH s).hs[j]?=some y->(j<st.hs.length/\st.hs[j]?=some y)\/(j=st.hs.length/\y=⟨.st s,[]⟩):=ysl
 refine {nest:=?_,le:=?_,op:=?_,leaf:=?_,loop:=?_,thr:=?_}
 ·exact ysg
 ·intro i hi
  split
  ·exact hx
  ·exact h.le i yue
 ·intro m j hj
  have:j<st.hs.length:=hok.ent.2.2 j (List.mem_iff_getElem?.2 ⟨m,hj⟩)
  rw [if_neg yue]
  exact h.op m j hj
 ·exact ytn
 ·intro i n hi
  by_cases e:i<st.hs.length
  ·rw [hko i e] at hi
   exact h.loop i n hi
  ·obtain ⟨y,hy,hyk⟩:=Yy hi
   rcases hinv i y hy with ⟨hi',_⟩|⟨_,rfl⟩
   ·exact absurd hi' e
   ·exact hloop n (by simpa using hyk)
 ·intro t ht
  have:t<st.hs.length:=hok.ent.2.1 t ht
  rw [if_neg yue]
  exact h.thr t ht
theorem Ze(st:RS)(t o:Nat)(q:HK)(e:En):((st.setK t q).addE o e).shared=st.shared/\((st.setK t q).addE o e).cells=st.cells/\((st.setK t q).addE o e).threads=st.threads/\((st.setK t q).addE o e).opn=st.opn:=by
 obtain ⟨a1,a2,a3,a4⟩:=zas (st:=st.setK t q) o e
 obtain ⟨d1,d2,d3,d4⟩:=Xu (st:=st) t q
 exact ⟨a1.trans d1,a2.trans d2,a3.trans d3,a4.trans d4⟩
theorem Yp{xs ys:List Hd}{g:Nat->Hd->Hd}(h: ∀j:Nat,xs[j]?=(ys[j]?).map (g j)):xs.length=ys.length:=by
 apply Nat.le_antisymm
 ·apply Nat.le_of_not_lt
  intro hlt
  have:=h ys.length
  rw [List.getElem?_eq_none (Nat.le_refl _),List.getElem?_eq_getElem hlt] at this
  simp at this
 ·apply Nat.le_of_not_lt
  intro hlt
  have:=h xs.length
  rw [List.getElem?_eq_none (Nat.le_refl _),List.getElem?_eq_getElem hlt] at this
  simp at this
theorem DeepL.lay(h:DeepL st lv)(hok:st.Ok k)(hl:st.lastT=some (t,l,c))(ho:st.opn=ol++[o])(hr:st.hasRoom l c s=true)(hloop: ∀n,s=St.loop n->1<=n/\n<=4):(st.lay t o l c s).Deep:=by
 obtain ⟨r1,r2,r3⟩:=Om hr
 obtain ⟨tl,htl,hkt⟩:=Us hl
 have hom:o∈st.opn:=yuo
 have htlt:t<st.hs.length:=hok.ent.2.1 t yvb
 have holt:o<st.hs.length:=hok.ent.2.2 o hom
 have hlo:lv o=ol.length:=h.op ol.length o yuo
 unfold RS.lay
 split
 ·rename_i hh
  have h3:=r3 hh
  have hlen3:ol.length+1=st.opn.length:=yuo
  have hn:=h.newH hok hloop st.opn.length h3
  have hkn:(st.newH s).hk t=some (.thr l c):=by
   have:(st.newH s).hs[t]?=st.hs[t]?:=List.getElem?_append_left htlt
   unfold RS.hk
   rw [this]
   exact hkt
  have hknew:(st.newH s).hk st.hs.length=some (.st s):=by unfold RS.hk;simp [RS.newH]
  have hu:=hn.upd (l':=l) (c':=c+1) (o:=o) hkn (.sub st.hs.length) (show z4g _ _ _ (.inr st.hs.length) from ⟨by
   simp only
   rw [if_pos trivial,if_neg yue,hlo]
   omega,s,hknew,hh⟩) (Ze _ _ _ _ _) (Yp (Vx _ _ _ _ _)) (Vx _ _ _ _ _)
  have hop:(((st.newH s).setK t (.thr l (c+1))).addE o (.sub st.hs.length)).opn=st.opn:=(Ze _ _ _ _ _).2.2.2
  refine ⟨_,{nest:=hu.nest,le:=hu.le,op:=?_,leaf:=hu.leaf,loop:=hu.loop,thr:=hu.thr}⟩
  intro m j hj
  rcases Nat.lt_or_ge m st.opn.length with hm|hm
  ·apply hu.op m j
   rw [hop]
   have hj':(st.opn++[st.hs.length])[m]?=some j:=hj
   rw [List.getElem?_append_left hm] at hj'
   exact hj'
  ·have hj':(st.opn++[st.hs.length])[m]?=some j:=hj
   have hml:=(List.getElem?_eq_some_iff.1 hj').1
   simp at hml
   obtain rfl:m=st.opn.length:=yue
   simp at hj'
   subst hj'
   simp
 ·rename_i hh
  have hh':Qf s=false:=by simpa using hh
  split
  ·refine ⟨lv,h.upd (o:=o) hkt (.leaf s) (show z4g _ _ _ (.inl s) from hh') ?_ (Yp (Ol _ _ _ _ _ _)) (Ol _ _ _ _ _ _)⟩
   obtain ⟨a1,a2,a3,a4⟩:=Ze (st.setK t (.thr l (c+1))) t o (.thr (l++[Vg s]) (c+1)) (.leaf s)
   obtain ⟨d1,d2,d3,d4⟩:=Xu (st:=st) t (.thr l (c+1))
   exact ⟨a1.trans d1,a2.trans d2,a3.trans d3,a4.trans d4⟩
  ·exact ⟨lv,h.upd (o:=o) hkt (.leaf s) (show z4g _ _ _ (.inl s) from hh') (Ze _ _ _ _ _) (Yp (Vx _ _ _ _ _)) (Vx _ _ _ _ _)⟩
theorem DeepL.newT(h:DeepL st lv)(hok:st.Ok k):st.newT.Deep:=by
 have old: ∀j,j<st.hs.length->st.newT.hs[j]?=st.hs[j]?:=λj hj=>List.getElem?_append_left hj
 have new:st.newT.hs[st.hs.length]?=some ⟨.thr [] 0,[]⟩:=by simp [RS.newT]
 have hlen:st.newT.hs.length=st.hs.length+1:=by simp [RS.newT]
 have hko: ∀j,j<st.hs.length->st.newT.hk j=st.hk j:=λj hj=>by unfold RS.hk;rw [old j hj]
 have hinv: ∀(j:Nat) (y:Hd),st.newT.hs[j]?=some y->(j<st.hs.length/\st.hs[j]?=some y)\/(j=st.hs.length/\y=⟨.thr [] 0,[]⟩):=ysl
 refine ⟨λi=>if i=st.hs.length then 0 else lv i,{nest:=?_,le:=?_,op:=?_,leaf:=?_,loop:=?_,thr:=?_}⟩
 ·exact ysg
 ·intro i hi
  split
  ·omega
  ·exact h.le i yue
 ·intro m j hj
  have hj':[st.hs.length][m]?=some j:=hj
  have hm:=(List.getElem?_eq_some_iff.1 hj').1
  simp at hm
  subst hm
  simp at hj'
  subst hj'
  simp
 ·exact ytn
 ·intro i n hi
  by_cases e:i<st.hs.length
  ·rw [hko i e] at hi
   exact h.loop i n hi
  ·obtain ⟨y,hy,hyk⟩:=Yy hi
   rcases hinv i y hy with ⟨hi',_⟩|⟨_,rfl⟩
   ·exact absurd hi' e
   ·simp at hyk
 ·intro t ht
  rcases List.mem_append.1 (show t∈st.threads++[st.hs.length] from ht) with ht|ht
  ·have:t<st.hs.length:=hok.ent.2.1 t ht
   rw [if_neg yue]
   exact h.thr t ht
  ·simp at ht
   simp [ht]
theorem DeepL.pop(h:DeepL st lv):RS.Deep {st with opn:=st.opn.dropLast}:=by
 refine ⟨lv,{nest:=h.nest,le:=h.le,op:=λm j hj=>h.op m j ?_,leaf:=h.leaf,loop:=h.loop,thr:=h.thr}⟩
 have hj':st.opn.dropLast[m]?=some j:=hj
 rw [List.dropLast_eq_take,List.getElem?_take] at hj'
 split at hj'
 ·exact hj'
 ·simp at hj'
theorem zfq{n:Int}(h:Zs u ws=some (St.loop n,ws1)):1<=n/\n<=4:=by
 unfold Zs at h
 split at h
 ·unfold zn4 at h
  cases h1:gNm ws with
  |none=>simp [h1] at h
  |some p=>
   rw [h1] at h
   simp only [Option.bind_some] at h
   cases h2:gPV p.2 with
   |none=>simp [h2] at h
   |some q=>
    obtain ⟨y,ws3⟩:=q
    rw [h2] at h
    simp only [Option.bind_some] at h
    rcases ws3 with _|⟨u3,ws3⟩
    ·simp at h
    ·simp only at h
     cases h3:gOp (u3::ws3) with
     |none=>simp [h3] at h
     |some o=>
      rw [h3] at h
      simp only [Option.bind_some] at h
      cases h4:gPV o.2 with
      |none=>simp [h4] at h
      |some r=>simp [h4] at h
 ·split at h
  ·unfold zvd at h
   cases h1:gNm ws with
   |none=>simp [h1] at h
   |some p=>
    rw [h1] at h
    simp only [Option.bind_some] at h
    cases h2:gNm p.2 with
    |none=>simp [h2] at h
    |some q=>exact ytm
  ·split at h
   ·unfold zve at h
    cases h1:gNm ws with
    |none=>simp [h1] at h
    |some p=>
     rw [h1] at h
     simp only [Option.bind_some] at h
     cases h2:gPV p.2 with
     |none=>simp [h2] at h
     |some q=>exact ytm
   ·split at h
    ·cases h1:gPV ws with
     |none=>simp [h1] at h
     |some p=>simp [h1] at h
    ·split at h
     ·simp at h
     ·split at h
      ·cases h1:gPV ws with
       |none=>simp [h1] at h
       |some p=>simp [h1] at h
      ·split at h
       ·cases h1:gIn 1 4 ws with
        |none=>simp [h1] at h
        |some p=>
         rw [h1] at h
         simp at h
         rw [<-h.1]
         exact zme (v:=p.1) (ws1:=p.2) h1
       ·simp at h
end
end Go.Proofs.YtkenoofmkbghiaaGreatDoor
