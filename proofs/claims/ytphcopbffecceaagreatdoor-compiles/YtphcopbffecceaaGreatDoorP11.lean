import Derived.Test.YtphcopbffecceaaGreatDoorP10
set_option maxRecDepth 100000
set_option maxHeartbeats 4000000
namespace Go.Proofs.YtphcopbffecceaaGreatDoor
open Go.RowKit
variable{cp g k:Nat}{w3:World}
def Qf:St->Bool
 | .inr (.inr (.inr (.inr (.inr (.inl ())))))=>true
 | .inr (.inr (.inr (.inr (.inr (.inr (.inl _))))))=>true
 | .inr (.inr (.inr (.inr (.inr (.inr (.inr _))))))=>true
 |_=>false
def RS.hasRoom(st:RS)(l:List ByteArray)(c:Nat)(s:St):Bool:=!decide (c=14)&&(!(!(Vg s).toList.isEmpty&&(!Uh l (Vg s)&&decide (l.length=4)))&&(!Qf s||decide (st.opn.length<=3)))
theorem zgl(s:St)(b:Nat): ∃T u x,Vk s b= .iface T u/\ ∀w,(Instr.typeAssert (.iface T u) 162 222 true).run Tryz.prog w= .ok (.tuple #[x, .bool (Qf s)]) w:=by
 rcases s with ⟨to,a⟩|⟨to,k,a,c⟩|⟨to,f,a⟩|⟨f,a,c⟩|a|⟨⟩|a|n
 ·exact ⟨_,_,_,rfl,Sf _⟩
 ·exact ⟨_,_,_,rfl,Gl _⟩
 ·exact ⟨_,_,_,rfl,Sg _⟩
 ·exact ⟨_,_,_,rfl,Sh _⟩
 ·exact ⟨_,_,_,rfl,Si _⟩
 ·exact ⟨_,_,_,rfl,Xk _⟩
 ·exact ⟨_,_,_,rfl,Ed _⟩
 ·exact ⟨_,_,_,rfl,Uy _⟩
section
variable{D:Nat->Prop}{lab:Nat->Nat×Nat}{w:World}{br sb bs:Nat}{tv ov:Value}{st:RS}{ms:List HM}
theorem Oj(h:RMach D lab w br sb bs tv ov st ms)(ho:st.opnOk)(tl:List Nat)(t:Nat)(ht:st.threads=tl++[t])(htl:t<ms.length)(hn:tl.length<1000000)(l:List ByteArray)(c:Nat)(hk:ms[t].h.k= .thr l c)(s:St)(b:Nat)(hz:zl9 s):
  Cl 85 #[ptr br,Vk s b] w λe w'=>e= .returned (.bool (st.hasRoom l c s))/\Below w.heap.size w w':=by
 obtain ⟨T,u,x,he,hta⟩:=zgl s b
 have KL:=hid (zdq h tl t ht htl hn)
 have hth:=(h.hd t htl).kind
 rw [hk] at hth
 have hb:=Qd (h.hd t htl).sh
 have bd:Below w.heap.size w w.drew:=Qi _ w
 have KT:Hid (Cl 87 #[.iface T u] w.drew λe w'=>e= .returned (.string (Vg s))/\Below w.heap.size w w'):=hid (by rw [<-he];exact (Io s b _).mono λe w' ⟨h1,h2⟩=>⟨h1,bd.trans h2⟩)
 have KH:Hid (∀W,Below w.heap.size w W->Cl 88 #[ptr ms[t].b, .string (Vg s)] W λe w'=>e= .returned (.bool (Uh l (Vg s)))/\w'=W):=hid (λW hW=>
  zhp ((hW.cell (p:=⟨ms[t].b,1,none⟩) hb).trans hth.1) (hth.2.2.keep (Chg.of_below (M:=λ_ _=>False) hW) (λ_ e=>e)) _ hz.to)
 have HL:Hid (∀W,Below w.heap.size w W->∀ty,(Builtin.len_ #[114] ty #[.map (some ms[t].mb)]).run Tryz.prog W= .ok (.int .i64 l.length) W):=hid (λW hW ty=>(hth.2.2.keep (Chg.of_below (M:=λ_ _=>False) hW) (λ_ e=>e)).len Tryz.underlying114 ty)
 have HC:Hid (∀W,Below w.heap.size w W->W.cell? ⟨ms[t].b,1,none⟩=some (.map (some ms[t].mb))/\W.cell? ⟨br,3,none⟩=some ov):=hid (λW hW=>⟨(hW.cell (p:=⟨ms[t].b,1,none⟩) hb).trans hth.1,(hW.cell (p:=⟨br,3,none⟩) (Qd h.sh)).trans h.c3⟩)
 have hc2:=hth.2.1
 obtain ⟨oa,ok,hov⟩: ∃a k,ov= .slice a st.opn.length k:=z7v
 subst hov
 have ho4:=ho.1
 rw [he]
 clear h hth hz ht hk hn ho he hb bd
 generalize ms[t].b=tb at*
 generalize ms[t].mb=tm at*
 clear htl
 unfold RS.hasRoom
 generalize Vg s=nm at*
 generalize hhs:Qf s=hs at*
 clear hhs
 by_cases hc:c=14
 ·subst hc
  go_enter Tryz.func85,Tryz.ntmps85
  go_wp2_with fail
  refine KL.out.mono ?_
  rintro e w1 ⟨rfl,rfl⟩
  go_wp2
  go_ret
  exact ⟨by simp,Qi _ w⟩
 ·have hc':((c:Int)==14)=false:=by simpa using (show ¬(c:Int)=14 by omega)
  have hcd:decide (c=14)=false:=by simpa using hc
  rw [hcd]
  go_enter Tryz.func85,Tryz.ntmps85
  go_wp2_with fail
  refine KL.out.mono ?_
  rintro e w1 ⟨rfl,rfl⟩
  go_wp2_with fail
  refine KT.out.mono ?_
  rintro e w2 ⟨rfl,b2⟩
  have B2:=hid b2
  obtain ⟨d1,d3⟩:=HC.out w2 b2
  have hlen:=HL.out w2 b2
  have KH2:=hid (KH.out w2 b2)
  clear b2 KT KL HC HL KH
  cases hem:nm.toList.isEmpty with
  |true=>
   cases hs with
   |true=>
    by_cases h3:st.opn.length<=3
    ·have h3':(st.opn.length:Int)<=3:=by omega
     go_wp2
     go_ret
     exact ⟨by first|(simp [hem,h3];done)|(simp [hem,h3];omega),B2.out⟩
    ·exact z9g
   |false=>
    go_wp2
    go_ret
    exact ⟨by first|(simp [hem];done)|(simp [hem];omega),B2.out⟩
  |false=>
   cases hha:Uh l nm with
   |true=>
    rw [hha] at KH2
    go_wp2_with fail
    refine KH2.out.mono ?_
    rintro e w3 ⟨rfl,rfl⟩
    cases hs with
    |true=>
     by_cases h3:st.opn.length<=3
     ·have h3':(st.opn.length:Int)<=3:=by omega
      go_wp2
      go_ret
      exact ⟨by first|(simp [hha,h3];done)|(simp [hem,hha,h3];done),B2.out⟩
     ·exact z9g
    |false=>
     go_wp2
     go_ret
     exact ⟨by first|(simp [hha];done)|(simp [hem,hha];done),B2.out⟩
   |false=>
    rw [hha] at KH2
    go_wp2_with fail
    refine KH2.out.mono ?_
    rintro e w3 ⟨rfl,rfl⟩
    by_cases hl4:l.length=4
    ·rw [hl4] at hlen
     go_wp2
     go_ret
     exact ⟨by first|(simp [hem,hha,hl4];done),B2.out⟩
    ·have hl4':((l.length:Int)==4)=false:=by simpa using (show ¬(l.length:Int)=4 by omega)
     cases hs with
     |true=>
      by_cases h3:st.opn.length<=3
      ·have h3':(st.opn.length:Int)<=3:=by omega
       go_wp2
       go_ret
       exact ⟨by first|(simp [hem,hl4,h3];done)|(simp [hem,hl4,h3];omega),B2.out⟩
      ·have h3': ¬(st.opn.length:Int)<=3:=by omega
       go_wp2
       go_ret
       exact ⟨by first|(simp [hem,hl4,h3];done)|(simp [hem,hl4,h3];omega),B2.out⟩
     |false=>
      go_wp2
      go_ret
      exact ⟨by first|(simp [hem,hl4];done)|(simp [hem,hl4];omega),B2.out⟩
end
attribute [local go_sem] Yr zdx zal Gk Vw Ik Fo Yf Ys zdy zam Gn Yt zdz zan Gr Yu zd0 zao Yo Vh Sj Er Zm Yb zbv zcr Ux Zc In Fb Yx
section
variable{w:World}{b:Nat}{rv:Value}
theorem zj6(s:St)(hh:Qf s=false):Cl 118 #[stV s] w λe w'=>e= .returned (.slice none 0 0)/\w'=w:=by
 rcases s with ⟨to,a⟩|⟨to,k,a,c⟩|⟨to,f,a⟩|⟨f,a,c⟩|a|⟨⟩|a|n
 ·exact z71
 ·exact z71
 ·exact z71
 ·exact z71
 ·exact z71
 ·simp [Qf] at hh
 ·simp [Qf] at hh
 ·simp [Qf] at hh
theorem zoc(s:St)(hh:Qf s=true)(hc:w.cell? ⟨b,0,none⟩=some rv):Cl 118 #[.iface (hkT (.st s)) (ptr b)] w λe w'=>e= .returned rv/\w'=w:=by
 rcases s with ⟨to,a⟩|⟨to,k,a,c⟩|⟨to,f,a⟩|⟨f,a,c⟩|a|⟨⟩|a|n
 ·simp [Qf] at hh
 ·simp [Qf] at hh
 ·simp [Qf] at hh
 ·simp [Qf] at hh
 ·simp [Qf] at hh
 ·exact z89
 ·exact z89
 ·exact z89
def Jk:St->Int
 | .inr (.inr (.inr (.inr (.inr (.inr (.inr n))))))=>n
 |_=>1
theorem zfp(s:St)(hh:Qf s=false):Cl 117 #[stV s] w λe w'=>e= .returned (.int .i64 1)/\w'=w:=by
 rcases s with ⟨to,a⟩|⟨to,k,a,c⟩|⟨to,f,a⟩|⟨f,a,c⟩|a|⟨⟩|a|n
 ·exact z72
 ·exact z72
 ·exact z72
 ·exact z72
 ·exact z72
 ·simp [Qf] at hh
 ·simp [Qf] at hh
 ·simp [Qf] at hh
theorem zrh{mb:Nat}(s:St)(hh:Qf s=true)(hc:HkAt w b mb (.st s)):Cl 117 #[.iface (hkT (.st s)) (ptr b)] w λe w'=>e= .returned (.int .i64 (Jk s))/\w'=w:=by
 rcases s with ⟨to,a⟩|⟨to,k,a,c⟩|⟨to,f,a⟩|⟨f,a,c⟩|a|⟨⟩|a|n
 ·simp [Qf] at hh
 ·simp [Qf] at hh
 ·simp [Qf] at hh
 ·simp [Qf] at hh
 ·simp [Qf] at hh
 ·exact yae
 ·exact yae
 ·simp only [hkT,Jk]
  have hc1:w.cell? ⟨b,1,none⟩=some (.int .i64 n):=hc
  go_enter Tryz.func117,Tryz.ntmps117
  go_wp2
  go_ret
  exact ⟨rfl,rfl⟩
end
theorem zv1(cE:En->Int)(es:List En)(k:Nat)(hk:k<es.length):((es.take (k+1)).map cE).sum=((es.take k).map cE).sum+cE es[k]:=by
 have e:es.take (k+1)=es.take k++[es[k]]:=by rw [List.take_add_one,List.getElem?_eq_getElem hk];rfl
 rw [e,List.map_append,List.sum_append]
 simp only [List.map_cons,List.map_nil,List.sum_cons,List.sum_nil,Int.add_zero]
theorem zap(cE:En->Int)(M:Int)(hM:0<=M): ∀es:List En,(∀e∈es,0<=cE e/\cE e<=M)->0<=(es.map cE).sum/\(es.map cE).sum<=es.length*M
 |[],_=>by simp
 |e::es,h=>by
  have h1:=h e yaj
  have h2:=zap cE M hM es (λx hx=>h x (by simp [hx]))
  simp only [List.map_cons,List.sum_cons,List.length_cons]
  refine ⟨by omega,?_⟩
  have:((es.length+1:Nat):Int)*M=es.length*M+M:=by rw [Int.natCast_add,Int.add_mul];simp
  omega
section
variable{w:World}{rv:Value}{es:List En}{ids:Ids}{tk:Nat}
theorem zd2(hrow:w.ownsRow 0 162 1 rv es.length (es.map (enV ids)))(h14:es.length<=14)(A:World->Prop)(hA:A w)(hAb:Hid (∀w1 w2,A w1->Below w1.heap.size w1 w2->A w2))(kd:En->Bool)(tm ci cE:En->Int)(wi:En->Value)
  (hent: ∀args w,(callFunc tk args).run Tryz.prog w= .ok (.enter tk args) w)
  (KK:Hid (∀w1,A w1->∀e∈es,Cl tk #[enV ids e] w1 λr w'=>r= .returned (.bool (kd e))/\Below w1.heap.size w1 w'))
  (TK:Hid (∀w1,A w1->∀e∈es,Cl 117 #[enV ids e] w1 λr w'=>r= .returned (.int .i64 (tm e))/\w'=w1))
  (WK:Hid (∀w1,A w1->∀e∈es,Cl 118 #[enV ids e] w1 λr w'=>r= .returned (wi e)/\w'=w1))
  (RK:Hid (∀w1,A w1->∀e∈es,Cl 90 #[wi e, .func (.func tk) #[] #[]] w1 λr w'=>r= .returned (.int .i64 (ci e))/\Below w1.heap.size w1 w'))
  (hc:Hid (∀e∈es,cE e=(if kd e=true then 1 else 0)+tm e*ci e)) (hb:Hid (∀e∈es,0<=tm e*ci e/\tm e*ci e<=100000000)):
  Cl 90 #[rv, .func (.func tk) #[] #[]] w λr w'=>r= .returned (.int .i64 (es.map cE).sum)/\Below w.heap.size w w':=by
 obtain ⟨ra,rk,hrv⟩: ∃a k,rv= .slice a es.length k:=z8o
 subst hrv
 have HC:Hid (∀k (hk:k<es.length),∃g,ra=some ⟨g,0,none⟩/\es.length<=rk/\g<w.heap.size/\w.cell? ⟨g,k,none⟩=some (enV ids es[k])):=z7r
 have HS:Hid (∀k,0<=((es.take k).map cE).sum/\((es.take k).map cE).sum<=1500000000):=by
  intro k
  have:=zap cE 100000001 yai (es.take k) (λe he=>by
   have he':e∈es:=List.mem_of_mem_take he
   have:=hb.out e he'
   rw [hc.out e he']
   split<;>omega)
  have hl:(es.take k).length<=14:=by rw [List.length_take];omega
  refine ⟨this.1,Int.le_trans this.2 ?_⟩
  have hl':((es.take k).length:Int)<=14:=yai
  have:=Int.mul_le_mul_of_nonneg_right hl' (show (0:Int)<=100000001 by omega)
  omega
 have HA:=hid hA
 clear hrow hA
 go_enter Tryz.func90,Tryz.ntmps90
 go_wp2
 go_loopw [5,10] (λv5 v10 wr=>∃k:Nat,k<=es.length/\v10= .int .i64 k/\v5= .int .i64 ((es.take k).map cE).sum/\Hid (Below w.heap.size w wr)) (λ_ v10 _=>es.length- (intOf v10).toNat)
 case atStart=>exact ⟨0,Nat.zero_le _,rfl,by simp,Below.refl _ w⟩
 case round=>
  obtain ⟨k,hk,rfl,rfl,hB⟩:=hrel
  have hS:=HS.out k
  by_cases hlt:k<es.length
  ·have hlt':(k:Int)<(es.length:Int):=by omega
   obtain ⟨g,hra,hrk,hg,hcell⟩:=HC.out k hlt
   subst hra
   have hcell':wr.cell? ⟨g,k,none⟩=some (enV ids es[k]):=(hB.out.cell (p:=⟨g,k,none⟩) hg).trans hcell
   have hA1:=hAb.out w wr HA.out hB.out
   have hmem:es[k]∈es:=List.getElem_mem hlt
   have K1:=hid (KK.out wr hA1 es[k] hmem)
   have hS2:=HS.out (k+1)
   have hsn:=zv1 cE es k hlt
   have hcE:=hc.out es[k] hmem
   have hb1:=hb.out es[k] hmem
   have HT:=hid (λw1 h1=>TK.out w1 h1 es[k] hmem)
   have HW:=hid (λw1 h1=>WK.out w1 h1 es[k] hmem)
   have HR:=hid (λw1 h1=>RK.out w1 h1 es[k] hmem)
   have HA1:=hid hA1
   clear hcell hA1
   generalize enV ids es[k]=v at*
   generalize hS0:((es.take k).map cE).sum=S at*
   generalize tm es[k]=t at*
   generalize ci es[k]=c at*
   generalize wi es[k]=wv at*
   have hwm:wrap64 (t*c)=t*c:=yao
   cases hkd:kd es[k] with
   |true=>
    rw [hkd] at K1 hcE
    simp only [if_true] at hcE
    have hw1:wrap64 (S+1)=S+1:=yao
    have hw2:wrap64 (S+1+t*c)=S+1+t*c:=yao
    have hfin:((es.take (k+1)).map cE).sum=S+1+t*c:=yai
    have HF:=hid hfin
    clear hfin hsn hcE hS hS2 hb1
    go_wp2_with fail
    refine K1.out.mono ?_
    rintro e w1 ⟨rfl,b1⟩
    have B1:=hid b1
    clear b1 K1
    go_wp2_with fail
    refine (HT.out w1 (hAb.out _ _ HA1.out B1.out)).mono ?_
    rintro e w2 ⟨rfl,rfl⟩
    go_wp2_with fail
    refine (HW.out _ (hAb.out _ _ HA1.out B1.out)).mono ?_
    rintro e w3 ⟨rfl,rfl⟩
    go_wp2_with fail
    refine (HR.out _ (hAb.out _ _ HA1.out B1.out)).mono ?_
    rintro e w4 ⟨rfl,b4⟩
    have B4:=hid (hB.out.trans ((B1.out.trans (b4.mono B1.out.size)).mono hB.out.size))
    clear b4 B1 HT HW HR
    go_wp2
    go_roundw
    case rel=>exact ⟨k+1,by omega,by go_num,by rw [HF.out,hw2],B4⟩
    case measure=>simp [intOf];omega
   |false=>
    rw [hkd] at K1 hcE
    simp only [Bool.false_eq_true,if_false] at hcE
    have hw2:wrap64 (S+t*c)=S+t*c:=yao
    have hfin:((es.take (k+1)).map cE).sum=S+t*c:=yai
    have HF:=hid hfin
    clear hfin hsn hcE hS hS2 hb1
    go_wp2_with fail
    refine K1.out.mono ?_
    rintro e w1 ⟨rfl,b1⟩
    have B1:=hid b1
    clear b1 K1
    go_wp2_with fail
    refine (HT.out w1 (hAb.out _ _ HA1.out B1.out)).mono ?_
    rintro e w2 ⟨rfl,rfl⟩
    go_wp2_with fail
    refine (HW.out _ (hAb.out _ _ HA1.out B1.out)).mono ?_
    rintro e w3 ⟨rfl,rfl⟩
    go_wp2_with fail
    refine (HR.out _ (hAb.out _ _ HA1.out B1.out)).mono ?_
    rintro e w4 ⟨rfl,b4⟩
    have B4:=hid (hB.out.trans ((B1.out.trans (b4.mono B1.out.size)).mono hB.out.size))
    clear b4 B1 HT HW HR
    go_wp2
    go_roundw
    case rel=>exact ⟨k+1,by omega,by go_num,by rw [HF.out,hw2],B4⟩
    case measure=>simp [intOf];omega
  ·have hlt': ¬(k:Int)<(es.length:Int):=by omega
   have HE:Hid (((es.take k).map cE).sum=(es.map cE).sum):=by
    have:k=es.length:=yai
    rw [this,List.take_length]
    exact rfl
   clear hS
   generalize ((es.take k).map cE).sum=S at*
   go_wp2
   go_ret
   refine ⟨?_,hB.out⟩
   rw [<-HE.out]
   rfl
end
section
variable{M:Nat->Nat->Prop}{D D0:Nat->Prop}{lab lab':Nat->Nat×Nat}{w W:World}{br sb bs:Nat}{tv ov:Value}{st:RS}{ms:List HM}
theorem zaq(ms:List HM)(i:Nat)(hi:i<ms.length)(m':HM)(hb:m'.b=ms[i].b)(hT:hkT m'.h.k=hkT ms[i].h.k):Qu (ms.set i m')=Qu ms:=by
 unfold Qu
 rw [List.map_set,hb,hT]
 apply List.ext_getElem?
 intro j
 by_cases e:i=j
 ·subst e
  rw [List.getElem?_set_self ybk]
  simp [hi]
 ·rw [List.getElem?_set_ne e]
theorem RMach.updH(h:RMach D lab w br sb bs tv ov st ms)(i:Nat)(hi:i<ms.length)(m':HM)(hb:m'.b=ms[i].b)(hT:hkT m'.h.k=hkT ms[i].h.k)(hc:Chg M w W)(hM: ∀k j,k<w.heap.size->M k j->∃x,lab k=(i+1,x))(hlab: ∀k,k<w.heap.size->lab' k=lab k)(hd:HdAt W (Qu ms) m')(hl:LabH D lab' i m'):
  RMach D lab' W br sb bs tv ov {st with hs:=st.hs.set i m'.h} (ms.set i m'):=by
 have lbr:=Qd h.sh
 have no: ∀k l,k<w.heap.size->lab k=l->(∀x,l≠(i+1,x))->∀j,¬M k j:=λk l hk e hl j hm=>by
  obtain ⟨x,hx⟩:=hM k j hk hm
  exact hl x (e.symm.trans hx)
 have kb:=no br _ lbr h.lbr.1 (λx=>by simp)
 have ids:=zaq ms i hi m' hb hT
 exact {
  sh:=(hc.shape _ lbr).trans h.sh,c0:=(hc.cell _ _ lbr (kb _)).trans h.c0,c1:=(hc.cell _ _ lbr (kb _)).trans h.c1,c2:=(hc.cell _ _ lbr (kb _)).trans h.c2,c3:=(hc.cell _ _ lbr (kb _)).trans h.c3,c4:=(hc.cell _ _ lbr (kb _)).trans h.c4
  free:=λj=>(hc.frozen _ _ lbr).trans (h.free j)
  mS:=h.mS.keep hc (no _ _ h.mS.lt h.lsb.1 (λx=>by simp))
  mG:=h.mG.keep hc (no _ _ h.mG.lt h.lbs.1 (λx=>by simp))
  trow:=by rw [ids];exact Qc h.trow hc (λg hg=>no g _ (h.trow.lt g hg).2 (h.ltv g hg).1 (λx=>by simp))
  orow:=by rw [ids];exact Qc h.orow hc (λg hg=>no g _ (h.orow.lt g hg).2 (h.lov g hg).1 (λx=>by simp))
  hd:=λj hj=>by
   rw [ids]
   by_cases e:i=j
   ·subst e;rw [List.getElem_set_self];exact hd
   ·rw [List.getElem_set_ne e]
    have hj':j<ms.length:=ya4
    have hdj:=h.hd j hj'
    have l:=h.lhd j hj'
    have ne: ∀y x,((j+1,y):Nat×Nat)≠(i+1,x):=λy x e'=>e (by simp at e';omega)
    exact hdj.keep hc (no _ _ (Qd hdj.sh) l.b.1 (ne 0)) (λg hg=>no g _ (hdj.row.lt g hg).2 (l.rv g hg).1 (ne 1)) (λht=>no _ _ (hdj.mblt ht) (l.mb ht).1 (ne 2))
  hs:=by simp only;rw [List.map_set,h.hs]
  lbr:=⟨(hlab _ lbr).trans h.lbr.1,h.lbr.2⟩
  lsb:=⟨(hlab _ h.mS.lt).trans h.lsb.1,h.lsb.2⟩
  ltv:=λg hg=>⟨(hlab _ (h.trow.lt g hg).2).trans (h.ltv g hg).1,(h.ltv g hg).2⟩
  lov:=λg hg=>⟨(hlab _ (h.orow.lt g hg).2).trans (h.lov g hg).1,(h.lov g hg).2⟩
  lbs:=⟨(hlab _ h.mG.lt).trans h.lbs.1,h.lbs.2⟩
  lhd:=λj hj=>by
   by_cases e:i=j
   ·subst e;rw [List.getElem_set_self];exact hl
   ·rw [List.getElem_set_ne e]
    have hj':j<ms.length:=ya4
    have hdj:=h.hd j hj'
    have l:=h.lhd j hj'
    exact ⟨⟨(hlab _ (Qd hdj.sh)).trans l.b.1,l.b.2⟩,λg hg=>⟨(hlab _ (hdj.row.lt g hg).2).trans (l.rv g hg).1,(l.rv g hg).2⟩,λht=>⟨(hlab _ (hdj.mblt ht)).trans (l.mb ht).1,(l.mb ht).2⟩⟩}
theorem RMach.hsAt(h:RMach D lab w br sb bs tv ov st ms)(i:Nat)(hi:i<ms.length):st.hs[i]?=some ms[i].h:=by rw [<-h.hs];simp [hi]
theorem RMach.count(h:RMach D lab w br sb bs tv ov st ms)(t:Nat)(ht:t<ms.length)(l:List ByteArray)(c:Nat)(hk:ms[t].h.k= .thr l c):
  RMach D lab (w.setCell ⟨ms[t].b,2,none⟩ (.int .i64 ((c:Int)+1))) br sb bs tv ov {st with hs:=st.hs.set t ⟨.thr l (c+1),ms[t].h.ents⟩} (ms.set t {ms[t] with h:=⟨.thr l (c+1),ms[t].h.ents⟩})/\Chg (λk _=>D k) w (w.setCell ⟨ms[t].b,2,none⟩ (.int .i64 ((c:Int)+1))):=by
 have hd:=h.hd t ht
 have l':=h.lhd t ht
 have lb:=Qd hd.sh
 have hc:Chg (λk i=>k=ms[t].b/\i=2) w (w.setCell ⟨ms[t].b,2,none⟩ (.int .i64 ((c:Int)+1))):=(Chg.refl _ w).setCell (λ_=>⟨rfl,rfl⟩) _
 have hkk:=hd.kind
 rw [hk] at hkk
 have hthr:ms[t].h.k.isThr:=by rw [hk];trivial
 have nr: ∀g,ms[t].rv.ownBlock=some g->g≠ms[t].b:=λg hg e=>by
  have:=(l'.rv g hg).1
  rw [e,l'.b.1] at this
  simp at this
 have nm:ms[t].mb≠ms[t].b:=λe=>by
  have:=(l'.mb hthr).1
  rw [e,l'.b.1] at this
  simp at this
 refine ⟨h.updH t ht {ms[t] with h:=⟨.thr l (c+1),ms[t].h.ents⟩} rfl (by rw [hk];rfl) hc (λk j _ e=>⟨0,e.1▸l'.b.1⟩) (λ_ _=>rfl) ⟨?_,?_,?_,?_,?_⟩ ⟨l'.b,l'.rv,λ_=>l'.mb hthr⟩,hc.mono (λk i _ e=>e.1▸l'.b.2)⟩
 ·exact (hc.shape _ lb).trans (by rw [hd.sh,hk];rfl)
 ·exact (hc.cell _ _ lb (λe=>by omega)).trans hd.rc
 ·exact Qc hd.row hc (λg hg i e=>nr g hg e.1)
 ·exact ⟨(hc.cell _ _ lb (λe=>by omega)).trans hkk.1,by rw [Qg hkk.2.1 rfl];simp,hkk.2.2.keep hc (λi e=>nm e.1)⟩
 ·exact λj=>(hc.frozen _ _ lb).trans (hd.free j)
theorem zri(l:List ByteArray)(u:ByteArray)(hu:Uh l u=false): ∀x,zgd (zjx l) u (.int .i64 l.length) x=zjx (l++[u]) x:=by
 intro x
 unfold zgd zjx
 rw [List.findIdx?_append]
 by_cases e:x=u
 ·subst e
  rw [if_pos rfl]
  have:l.findIdx? (λy=>decide (y=x))=none:=by
   rw [List.findIdx?_eq_none_iff]
   intro y hy
   have:=List.any_eq_false.1 hu y hy
   simpa using this
  rw [this]
  simp
 ·rw [if_neg e]
  have:[u].findIdx? (λy=>decide (y=x))=none:=by
   simp
   exact λe'=>e e'.symm
  rw [this]
  simp
theorem RMach.local(h:RMach D lab w br sb bs tv ov st ms)(t:Nat)(ht:t<ms.length)(l:List ByteArray)(c:Nat)(hk:ms[t].h.k= .thr l c)(u:ByteArray)(hu:u.size<=maxLen)(hnew:Uh l u=false)(hl:l.length<1000):
  ∃W,(Instr.mapUpdate 114 (.map (some ms[t].mb)) (.string u) (.int .i64 l.length)).run Tryz.prog w= .ok () W/\
  RMach D lab W br sb bs tv ov {st with hs:=st.hs.set t ⟨.thr (l++[u]) c,ms[t].h.ents⟩} (ms.set t {ms[t] with h:=⟨.thr (l++[u]) c,ms[t].h.ents⟩})/\Chg (λk _=>D k) w W:=by
 have hd:=h.hd t ht
 have l':=h.lhd t ht
 have lb:=Qd hd.sh
 have hkk:=hd.kind
 rw [hk] at hkk
 have hthr:ms[t].h.k.isThr:=by rw [hk];trivial
 obtain ⟨W,hrun,hm,hc⟩:=hkk.2.2.put Tryz.underlying114 yap hu (.int .i64 l.length)
 have hsome:(zjx l u).isSome=false:=by rw [zho];exact hnew
 rw [hsome] at hm
 simp only [Bool.false_eq_true,if_false] at hm
 have nb:ms[t].b≠ms[t].mb:=λe=>by
  have:=(l'.mb hthr).1
  rw [<-e,l'.b.1] at this
  simp at this
 have nr: ∀g,ms[t].rv.ownBlock=some g->g≠ms[t].mb:=λg hg e=>by
  have:=(l'.rv g hg).1
  rw [e,(l'.mb hthr).1] at this
  simp at this
 refine ⟨W,hrun,h.updH t ht {ms[t] with h:=⟨.thr (l++[u]) c,ms[t].h.ents⟩} rfl (by rw [hk];rfl) hc (λk j _ e=>⟨2,e▸(l'.mb hthr).1⟩) (λ_ _=>rfl) ⟨?_,?_,?_,?_,?_⟩ ⟨l'.b,l'.rv,λ_=>l'.mb hthr⟩,hc.mono (λk i _ e=>e▸(l'.mb hthr).2)⟩
 ·exact (hc.shape _ lb).trans (by rw [hd.sh,hk];rfl)
 ·exact (hc.cell _ _ lb nb).trans hd.rc
 ·exact Qc hd.row hc (λg hg i e=>nr g hg e)
 ·refine ⟨(hc.cell _ _ lb nb).trans hkk.1,(hc.cell _ _ lb nb).trans hkk.2.1,?_⟩
  simp only [List.length_append,List.length_cons,List.length_nil]
  exact hm.congr (zri l u hnew)
 ·exact λj=>(hc.frozen _ _ lb).trans (hd.free j)
end
section
variable{M:Nat->Nat->Prop}{D D0:Nat->Prop}{lab lab':Nat->Nat×Nat}{w W:World}{br sb bs:Nat}{tv ov:Value}{st:RS}{ms:List HM}
theorem zrj(w:World):w.ownsRow 0 162 1 (.slice none 0 0) 0 []:=⟨rfl, .inl ⟨rfl,rfl⟩⟩
def zar(w:World)(s:St)(b:Nat):Prop:=w.shape? b=some (z53 (.st s))/\w.cell? ⟨b,0,none⟩=some (.slice none 0 0)/\HkAt w b 0 (.st s)/\ ∀j,w.frozen? ⟨b,j,none⟩=false
theorem zrk(ids x:Ids)(e:En)(h: ∀j,e= .inr j->j<ids.length):enV (ids++x) e=enV ids e:=by
 cases e with
 |inl s=>rfl
 |inr j=>exact zjy ids x j (h j rfl)
def RS.entOk(st:RS):Prop:=(∀h∈st.hs,∀j, .inr j∈h.ents->j<st.hs.length)/\(∀j∈st.threads,j<st.hs.length)/\ ∀j∈st.opn,j<st.hs.length
theorem RMach.newH(h:RMach D0 lab w br sb bs tv ov st ms)(he:st.entOk)(h0: ∀k,D0 k->D k)(s:St)(b:Nat)(hb:zar w s b)(hD:D b)(hn: ¬D0 b):
  ∃lab',RMach D lab' w br sb bs tv ov {st with hs:=st.hs++[⟨.st s,[]⟩]} (ms++[⟨b, .slice none 0 0,0,⟨.st s,[]⟩⟩]):=by
 let lab':Nat->Nat×Nat:=λk=>if k=b then (ms.length+1,0) else lab k
 have hold: ∀k,D0 k->lab' k=lab k:=λk hk=>if_neg (show ¬k=b from λe=>hn (e▸hk))
 have il:(Qu ms).length=st.hs.length:=h.idl
 have ids:Qu (ms++[⟨b, .slice none 0 0,0,⟨.st s,[]⟩⟩])=Qu ms++[(hkT (.st s),b)]:=by simp [Qu]
 refine ⟨lab',{
  sh:=h.sh,c0:=h.c0,c1:=h.c1,c2:=h.c2,c3:=h.c3,c4:=h.c4,free:=h.free,mS:=h.mS,mG:=h.mG
  trow:=?_,orow:=?_,hd:=?_,hs:=?_
  lbr:=⟨(hold _ h.lbr.2).trans h.lbr.1,h0 _ h.lbr.2⟩
  lsb:=⟨(hold _ h.lsb.2).trans h.lsb.1,h0 _ h.lsb.2⟩
  ltv:=λg hg=>⟨(hold _ (h.ltv g hg).2).trans (h.ltv g hg).1,h0 _ (h.ltv g hg).2⟩
  lov:=λg hg=>⟨(hold _ (h.lov g hg).2).trans (h.lov g hg).1,h0 _ (h.lov g hg).2⟩
  lbs:=⟨(hold _ h.lbs.2).trans h.lbs.1,h0 _ h.lbs.2⟩
  lhd:=?_}⟩
 ·rw [ids]
  have e:st.threads.map (idP (Qu ms++[(hkT (.st s),b)]))=st.threads.map (idP (Qu ms)):=List.map_congr_left λj hj=>zqv _ _ j (by rw [il];exact he.2.1 j hj)
  rw [e]
  exact h.trow
 ·rw [ids]
  have e:st.opn.map (idV (Qu ms++[(hkT (.st s),b)]))=st.opn.map (idV (Qu ms)):=List.map_congr_left λj hj=>zjy _ _ j (by rw [il];exact he.2.2 j hj)
  rw [e]
  exact h.orow
 ·intro i hi
  rw [ids]
  by_cases hi':i<ms.length
  ·rw [List.getElem_append_left hi']
   have hd:=h.hd i hi'
   have e:ms[i].h.ents.map (enV (Qu ms++[(hkT (.st s),b)]))=ms[i].h.ents.map (enV (Qu ms)):=List.map_congr_left λx hx=>zrk _ _ x (λj hj=>by
    rw [il]
    exact he.1 ms[i].h ydk j (hj▸hx))
   exact ⟨hd.sh,hd.rc,by rw [e];exact hd.row,hd.kind,hd.free⟩
  ·exact z8y
 ·simp [h.hs]
 ·intro i hi
  by_cases hi':i<ms.length
  ·exact z8b
  ·obtain rfl:i=ms.length:=by simp at hi;omega
   rw [List.getElem_append_right (Nat.le_refl _)]
   simp only [Nat.sub_self,List.getElem_cons_zero]
   exact ⟨⟨if_pos rfl,hD⟩,λg hg=>by simp [Value.ownBlock] at hg,λht=>ht.elim⟩
theorem zv2:(Tryz.prog.info? 162).map (λi=>(i.zero,i.size,i.bytes))=some (some .nilIface,1,16):=yak
theorem zod:(Tryz.prog.info? 222).map (λi=>(i.zero,i.size,i.bytes))=some (some .nilIface,1,16):=yak
theorem zv3:(Tryz.prog.info? 109).map (λi=>(i.zero,i.size,i.bytes))=some (some (.pointer none),1,8):=yak
theorem RMach.ent(h:RMach D lab w br sb bs tv ov st ms)(hD: ∀k,w.heap.size<=k->D k)(i:Nat)(hi:i<ms.length)(e:En)(o:Obj)
  (ho:w3.ownsRow 0 162 1 (.slice (some ⟨g,0,none⟩) (ms[i].h.ents.length+1) cp) (ms[i].h.ents.length+1) (ms[i].h.ents.map (enV (Qu ms))++[enV (Qu ms) e]))
  (hc:Chg (λk _=>ms[i].rv.ownBlock=some k) (w.alloc o) w3) (hg:ms[i].rv.ownBlock=some g\/g=(w.alloc o).heap.size):
  ∃lab',RMach D lab' (w3.setCell ⟨ms[i].b,0,none⟩ (.slice (some ⟨g,0,none⟩) (ms[i].h.ents.length+1) cp)) br sb bs tv ov {st with hs:=st.hs.set i ⟨ms[i].h.k,ms[i].h.ents++[e]⟩} (ms.set i {ms[i] with rv:= .slice (some ⟨g,0,none⟩) (ms[i].h.ents.length+1) cp,h:=⟨ms[i].h.k,ms[i].h.ents++[e]⟩})/\Chg (λk _=>D k) w (w3.setCell ⟨ms[i].b,0,none⟩ (.slice (some ⟨g,0,none⟩) (ms[i].h.ents.length+1) cp)):=by
 have hd:=h.hd i hi
 have l':=h.lhd i hi
 have lb:=Qd hd.sh
 have hsz:(w.alloc o).heap.size=w.heap.size+1:=yaj
 have hc0:Chg (λk _=>ms[i].rv.ownBlock=some k) w w3:=((Chg.refl _ w).alloc o).trans hc
 have hset:Chg (λk j=>k=ms[i].b/\j=0) w3 (w3.setCell ⟨ms[i].b,0,none⟩ (.slice (some ⟨g,0,none⟩) (ms[i].h.ents.length+1) cp)):=(Chg.refl _ w3).setCell (λ_=>⟨rfl,rfl⟩) _
 have hall:Chg (λk j=>ms[i].rv.ownBlock=some k\/(k=ms[i].b/\j=0)) w (w3.setCell ⟨ms[i].b,0,none⟩ (.slice (some ⟨g,0,none⟩) (ms[i].h.ents.length+1) cp)):=(hc0.mono (λ_ _ _ e=> .inl e)).trans (hset.mono (λ_ _ _ e=> .inr e))
 have nr: ¬ms[i].rv.ownBlock=some ms[i].b:=λe=>by
  have:=(l'.rv _ e).1
  rw [l'.b.1] at this
  simp at this
 have hgb:g≠ms[i].b:=z95
 let lab':Nat->Nat×Nat:=λk=>if k=g then (i+1,1) else lab k
 have hold: ∀k,k<w.heap.size->lab' k=lab k:=by
  intro k hk
  show (if k=g then _ else _)=_
  by_cases e:k=g
  ·rw [if_pos e]
   rcases hg with hg|hg
   ·rw [e];exact ((l'.rv g hg).1).symm
   ·omega
  ·rw [if_neg e]
 have nm:ms[i].h.k.isThr->∀j,¬(ms[i].rv.ownBlock=some ms[i].mb\/(ms[i].mb=ms[i].b/\j=0)):=λht j e=>by
  rcases e with e|e
  ·have:=(l'.rv _ e).1
   rw [(l'.mb ht).1] at this
   simp at this
  ·have:=(l'.mb ht).1
   rw [e.1,l'.b.1] at this
   simp at this
 refine ⟨lab',h.updH i hi {ms[i] with rv:= .slice (some ⟨g,0,none⟩) (ms[i].h.ents.length+1) cp,h:=⟨ms[i].h.k,ms[i].h.ents++[e]⟩} rfl rfl hall ?_ hold ⟨(hall.shape _ lb).trans hd.sh,?_,?_,?_,λj=>(hall.frozen _ _ lb).trans (hd.free j)⟩ ⟨⟨(hold _ lb).trans l'.b.1,l'.b.2⟩,?_,λht=>⟨(hold _ (hd.mblt ht)).trans (l'.mb ht).1,(l'.mb ht).2⟩⟩,hall.mono ?_⟩
 ·rintro k j _ (e|⟨rfl,_⟩)
  ·exact ⟨1,(l'.rv k e).1⟩
  ·exact ⟨0,l'.b.1⟩
 ·exact Qg ((hc0.cell _ _ lb nr).trans hd.rc) rfl
 ·exact z77
 ·refine hd.kind.keep lb hall (λj hj e=>?_) nm
  rcases e with e|e
  ·exact nr e
  ·omega
 ·intro g' hg'
  simp [Value.ownBlock] at hg'
  subst hg'
  refine ⟨if_pos rfl,?_⟩
  rcases hg with e|e
  ·exact (l'.rv _ e).2
  ·exact hD _ yai
 ·rintro k j _ (e|⟨rfl,_⟩)
  ·exact (l'.rv k e).2
  ·exact l'.b.2
theorem zma(h:RMach D lab w br sb bs tv ov st ms)(hD: ∀k,w.heap.size<=k->D k)(i:Nat)(hi:i<ms.length)(e:En)(T:TypeId)(u:Value)(hv:enV (Qu ms) e= .iface T u)(hlen:ms[i].h.ents.length<1000):
  Cl 208 #[ptr ms[i].b, .iface T u] w λe' w'=>e'= .returned (.tuple #[])/\(∃lab' rv,RMach D lab' w' br sb bs tv ov {st with hs:=st.hs.set i ⟨ms[i].h.k,ms[i].h.ents++[e]⟩} (ms.set i {ms[i] with rv:=rv,h:=⟨ms[i].h.k,ms[i].h.ents++[e]⟩}))/\Chg (λk _=>D k) w w':=by
 obtain ⟨i0,hi0,hz0,hz1,hz2⟩:=info_parts zv2
 have hd:=h.hd i hi
 have lb:=Qd hd.sh
 have hc:=hd.rc
 have nr: ¬ms[i].rv.ownBlock=some ms[i].b:=λe=>by
  have:=((h.lhd i hi).rv _ e).1
  rw [(h.lhd i hi).b.1] at this
  simp at this
 have HO:=hid hd.row
 have H:=hid h
 have hl1:ms[i].h.ents.length+1<=maxLen:=yap
 have hl2:(ms[i].h.ents.length+1)*16<=140737488355328:=yai
 have HCB:Hid (∀w3 o,Chg (λk _=>ms[i].rv.ownBlock=some k) (w.alloc o) w3->w3.cell? ⟨ms[i].b,0,none⟩=some ms[i].rv/\w3.frozen? ⟨ms[i].b,0,none⟩=false):=hid (λw3 o hch=>⟨(hch.cell _ _ yan nr).trans ((World.cell?_alloc_past _ _ _ lb).trans hc),(hch.frozen _ _ yan).trans ((World.frozen?_alloc_past _ _ _ lb).trans (hd.free 0))⟩)
 have HRES:=hid (λo w3 g cp=>h.ent hD i hi e o (w3:=w3) (g:=g) (cp:=cp))
 rw [hv] at HRES
 clear h hd nr hlen hD
 generalize hb:ms[i].b=b at*
 generalize hr:ms[i].rv=rv at*
 generalize hm:ms[i].h.ents.map (enV (Qu ms))=xs at*
 generalize hn:ms[i].h.ents.length=n at*
 clear hv
 go_enter Tryz.func208,Tryz.ntmps208
 go_wp2_with (at_builtin;refine Zk rfl _ _ 111 rfl 162 i0 .nilIface 16 Tryz.underlying111 hi0 hz0 hz1 hz2 rfl rv n xs rfl (HO.out.alloc _) ⟨w.heap.size,0,none⟩ (.iface T u) rfl (cell_one_new _ _ _) rfl hl1 hl2 ?_;go_must (intro g cp w3 hown1 hch hg;have hcb:=(HCB.out w3 _ hch).1;have hfb:=(HCB.out w3 _ hch).2;have HO1:=hid hown1;have HC1:=hid hch;have HG1:=hid hg;clear hown1 hch hg))
 go_end0
 obtain ⟨lab',r1,r2⟩:=HRES.out _ w3 g cp HO1.out HC1.out HG1.out
 rw [hb] at r1
 exact ⟨rfl,⟨lab',_,r1⟩,r2⟩
end
section
variable{M:Nat->Nat->Prop}{D D0:Nat->Prop}{lab lab':Nat->Nat×Nat}{w W:World}{br sb bs:Nat}{tv ov tv' ov':Value}{st st':RS}{ms:List HM}
theorem RMach.updB(h:RMach D lab w br sb bs tv ov st ms)(hs':st'.hs=st.hs)(hc:Chg M w W)(hM: ∀k j,k<w.heap.size->M k j->lab k=(0,1)\/lab k=(0,2)\/lab k=(0,3)\/(k=br/\(j=1\/j=2\/j=3)))(hlab: ∀k,k<w.heap.size->lab' k=lab k)
  (c1:W.cell? ⟨br,1,none⟩=some tv') (c2:W.cell? ⟨br,2,none⟩=some (.int .i64 st'.cells)) (c3:W.cell? ⟨br,3,none⟩=some ov') (mS:MapIs W sb (shF st'.shared) st'.shared.length)
  (trow:W.ownsRow 0 109 1 tv' st'.threads.length (st'.threads.map (idP (Qu ms)))) (orow:W.ownsRow 0 222 1 ov' st'.opn.length (st'.opn.map (idV (Qu ms))))
  (ltv: ∀g,tv'.ownBlock=some g->lab' g=(0,2)/\D g) (lov: ∀g,ov'.ownBlock=some g->lab' g=(0,3)/\D g):RMach D lab' W br sb bs tv' ov' st' ms:=by
 have lbr:=Qd h.sh
 have no: ∀k i x,k<w.heap.size->lab k=(i+1,x)->∀j,¬M k j:=λk i x hk e j hm=>by
  rcases hM k j hk hm with q|q|q|⟨rfl,_⟩
  ·rw [e] at q;simp at q
  ·rw [e] at q;simp at q
  ·rw [e] at q;simp at q
  ·rw [h.lbr.1] at e;simp at e
 have kb: ∀j,j=0\/j=4->¬M br j:=λj hj hm=>by
  rcases hM br j lbr hm with q|q|q|⟨_,q⟩
  ·rw [h.lbr.1] at q;simp at q
  ·rw [h.lbr.1] at q;simp at q
  ·rw [h.lbr.1] at q;simp at q
  ·omega
 have nbs: ∀j,¬M bs j:=λj hm=>by
  rcases hM bs j h.mG.lt hm with q|q|q|⟨q,_⟩
  ·rw [h.lbs.1] at q;simp at q
  ·rw [h.lbs.1] at q;simp at q
  ·rw [h.lbs.1] at q;simp at q
  ·have:=h.lbs.1;rw [q,h.lbr.1] at this;simp at this
 exact {
  sh:=(hc.shape _ lbr).trans h.sh,c0:=(hc.cell _ _ lbr (kb 0 (.inl rfl))).trans h.c0,c1:=c1,c2:=c2,c3:=c3,c4:=(hc.cell _ _ lbr (kb 4 (.inr rfl))).trans h.c4
  free:=λj=>(hc.frozen _ _ lbr).trans (h.free j)
  mS:=mS
  mG:=h.mG.keep hc nbs
  trow:=trow,orow:=orow
  hd:=λi hi=>by
   have hd:=h.hd i hi
   have l:=h.lhd i hi
   exact hd.keep hc (no _ _ _ (Qd hd.sh) l.b.1) (λg hg=>no g _ _ (hd.row.lt g hg).2 (l.rv g hg).1) (λht=>no _ _ _ (hd.mblt ht) (l.mb ht).1)
  hs:=h.hs.trans hs'.symm
  lbr:=⟨(hlab _ lbr).trans h.lbr.1,h.lbr.2⟩
  lsb:=⟨(hlab _ h.mS.lt).trans h.lsb.1,h.lsb.2⟩
  ltv:=ltv,lov:=lov
  lbs:=⟨(hlab _ h.mG.lt).trans h.lbs.1,h.lbs.2⟩
  lhd:=λi hi=>by
   have hd:=h.hd i hi
   have l:=h.lhd i hi
   exact ⟨⟨(hlab _ (Qd hd.sh)).trans l.b.1,l.b.2⟩,λg hg=>⟨(hlab _ (hd.row.lt g hg).2).trans (l.rv g hg).1,(l.rv g hg).2⟩,λht=>⟨(hlab _ (hd.mblt ht)).trans (l.mb ht).1,(l.mb ht).2⟩⟩}
theorem zd3{k':Nat}{l l':Nat×Nat}(h:lab k=l)(h':lab k'=l')(hl:l≠l'):k≠k':=λe=>hl (by rw [<-h,<-h',e])
theorem RMach.push(h:RMach D lab w br sb bs tv ov st ms)(hD: ∀k,w.heap.size<=k->D k)(x:Nat)(o:Obj)
  (ho:w3.ownsRow 0 222 1 (.slice (some ⟨g,0,none⟩) (st.opn.length+1) cp) (st.opn.length+1) (st.opn.map (idV (Qu ms))++[idV (Qu ms) x]))
  (hc:Chg (λk _=>ov.ownBlock=some k) (w.alloc o) w3) (hg:ov.ownBlock=some g\/g=(w.alloc o).heap.size):
  ∃lab',RMach D lab' (w3.setCell ⟨br,3,none⟩ (.slice (some ⟨g,0,none⟩) (st.opn.length+1) cp)) br sb bs tv (.slice (some ⟨g,0,none⟩) (st.opn.length+1) cp) {st with opn:=st.opn++[x]} ms/\Chg (λk _=>D k) w (w3.setCell ⟨br,3,none⟩ (.slice (some ⟨g,0,none⟩) (st.opn.length+1) cp)):=by
 have lb:=Qd h.sh
 have hsz:(w.alloc o).heap.size=w.heap.size+1:=yaj
 have hc0:Chg (λk _=>ov.ownBlock=some k) w w3:=((Chg.refl _ w).alloc o).trans hc
 have hset:Chg (λk j=>k=br/\j=3) w3 (w3.setCell ⟨br,3,none⟩ (.slice (some ⟨g,0,none⟩) (st.opn.length+1) cp)):=(Chg.refl _ w3).setCell (λ_=>⟨rfl,rfl⟩) _
 have hall:Chg (λk j=>ov.ownBlock=some k\/(k=br/\j=3)) w (w3.setCell ⟨br,3,none⟩ (.slice (some ⟨g,0,none⟩) (st.opn.length+1) cp)):=(hc0.mono (λ_ _ _ e=> .inl e)).trans (hset.mono (λ_ _ _ e=> .inr e))
 have nr: ¬ov.ownBlock=some br:=λe=>zd3 (h.lov _ e).1 h.lbr.1 yaj rfl
 have hgb:g≠br:=z95
 let lab':Nat->Nat×Nat:=λk=>if k=g then (0,3) else lab k
 have hold: ∀k,k<w.heap.size->lab' k=lab k:=by
  intro k hk
  show (if k=g then _ else _)=_
  by_cases e:k=g
  ·rw [if_pos e]
   rcases hg with hg|hg
   ·rw [e];exact ((h.lov g hg).1).symm
   ·omega
  ·rw [if_neg e]
 have nb: ∀j,j≠3->¬(ov.ownBlock=some br\/(br=br/\j=3)):=λj hj e=>e.elim nr (λe=>hj e.2)
 have nk: ∀k l,lab k=l->l≠(0,3)->l≠(0,0)->∀j,¬(ov.ownBlock=some k\/(k=br/\j=3)):=λk l hk h1 h2 j e=>by
  rcases e with e|e
  ·exact h1 (hk.symm.trans (h.lov k e).1)
  ·exact h2 (hk.symm.trans (e.1▸h.lbr.1))
 refine ⟨lab',h.updB (st':={st with opn:=st.opn++[x]}) rfl hall ?_ hold ((hall.cell _ _ lb (nb 1 yai)).trans h.c1) ((hall.cell _ _ lb (nb 2 yai)).trans h.c2) (Qg ((hc0.cell _ _ lb nr).trans h.c3) rfl) (h.mS.keep hall (nk _ _ h.lsb.1 yaj yaj)) (Qc h.trow hall (λq hq=>nk _ _ (h.ltv q hq).1 yaj yaj)) ?_ (λq hq=>⟨(hold _ (h.trow.lt q hq).2).trans (h.ltv q hq).1,(h.ltv q hq).2⟩) ?_,hall.mono ?_⟩
 ·rintro k j _ (e|⟨rfl,rfl⟩)
  ·exact .inr (.inr (.inl (h.lov k e).1))
  ·exact .inr (.inr (.inr ⟨rfl, .inr (.inr rfl)⟩))
 ·exact z77
 ·intro q hq
  simp [Value.ownBlock] at hq
  subst hq
  refine ⟨if_pos rfl,?_⟩
  rcases hg with e|e
  ·exact (h.lov _ e).2
  ·exact hD _ yai
 ·rintro k j _ (e|⟨rfl,_⟩)
  ·exact (h.lov k e).2
  ·exact h.lbr.2
end
section
variable{M:Nat->Nat->Prop}{D D0:Nat->Prop}{lab lab':Nat->Nat×Nat}{w W:World}{br sb bs bl bw:Nat}{n:Int}{ws:List ByteArray}{tv ov:Value}{st:RS}{ms:List HM}
theorem zhw{e:TypeId}{xs:List Value}(h:w.ownsRow 0 e 1 (.slice (some ⟨g,0,none⟩) (k+1) cp) (k+1) xs):w.ownsRow 0 e 1 (.slice (some ⟨g,0,none⟩) k cp) k (xs.take k):=by
 obtain ⟨hl,h2⟩:=h
 rcases h2 with ⟨h2,_⟩|⟨g',cap',cur,hv,hb,hg,hn,hm,hs,ht⟩
 ·cases h2
 ·obtain ⟨rfl,rfl⟩:g=g'/\cp=cap':=by simpa using hv
  refine ⟨by rw [List.length_take];omega, .inr ⟨g,cp,cur,rfl,hb,hg,by omega,hm,hs,?_⟩⟩
  rw [<-ht,List.take_take]
  congr 1
  omega
theorem RMach.pop(h:RMach D lab w br sb bs tv ov st ms)(ol:List Nat)(o:Nat)(hop:st.opn=ol++[o])(hov:ov= .slice (some ⟨g,0,none⟩) (ol.length+1) cp):
  RMach D lab (w.setCell ⟨br,3,none⟩ (.slice (some ⟨g,0,none⟩) ol.length cp)) br sb bs tv (.slice (some ⟨g,0,none⟩) ol.length cp) {st with opn:=ol} ms/\Chg (λk _=>D k) w (w.setCell ⟨br,3,none⟩ (.slice (some ⟨g,0,none⟩) ol.length cp)):=by
 subst hov
 have lb:=Qd h.sh
 have hset:Chg (λk j=>k=br/\j=3) w (w.setCell ⟨br,3,none⟩ (.slice (some ⟨g,0,none⟩) ol.length cp)):=(Chg.refl _ w).setCell (λ_=>⟨rfl,rfl⟩) _
 have nk: ∀k l,lab k=l->l≠(0,0)->∀j,¬(k=br/\j=3):=λk l hk h2 j e=>h2 (hk.symm.trans (e.1▸h.lbr.1))
 have hor:=h.orow
 rw [hop] at hor
 simp only [List.length_append,List.length_cons,List.length_nil] at hor
 have hor2:=zhw hor
 have ex:((ol++[o]).map (idV (Qu ms))).take ol.length=ol.map (idV (Qu ms)):=yaj
 rw [ex] at hor2
 refine ⟨h.updB (st':={st with opn:=ol}) rfl hset ?_ (λ_ _=>rfl) ((hset.cell _ _ lb yai).trans h.c1) ((hset.cell _ _ lb yai).trans h.c2) (Qg h.c3 rfl) (h.mS.keep hset (nk _ _ h.lsb.1 yaj)) (Qc h.trow hset (λq hq=>nk _ _ (h.ltv q hq).1 yaj)) (Qc hor2 hset (λq hq=>nk _ _ (h.lov q hq).1 yaj)) h.ltv h.lov,hset.mono (λk j _ e=>e.1▸h.lbr.2)⟩
 rintro k j _ ⟨rfl,rfl⟩
 exact .inr (.inr (.inr ⟨rfl, .inr (.inr rfl)⟩))
theorem zrl{u:ByteArray}{us:List ByteArray}(hL:LineAt w bl n bw (u::us)):Cl 56 #[ptr br,ptr bl] w λe w'=>Fails 2 n bl w e w':=by
 have H:=hid hL
 clear hL
 go_enter Tryz.func56,Tryz.ntmps56
 go_wp2_with fail
 refine (zc0 H.out).mono ?_
 rintro e w1 ⟨bf,rfl,h1⟩
 exact ⟨rfl,bf,rfl,h1⟩
theorem zoe(h:RMach D lab w br sb bs tv ov st ms)(hL:LineAt w bl n bw [])(hlt:st.opn.length<2):Cl 56 #[ptr br,ptr bl] w λe w'=>Fails 3 n bl w e w':=by
 have c3:=h.c3
 obtain ⟨oa,ok,hov⟩: ∃a k,ov= .slice a st.opn.length k:=z7v
 rw [hov] at c3
 have hlt':(st.opn.length:Int)<2:=yai
 have H:=hid hL
 clear hL h hov
 go_enter Tryz.func56,Tryz.ntmps56
 go_wp2_with fail
 refine (Eo H.out).mono ?_
 rintro e w1 ⟨rfl,rfl⟩
 go_wp2_with fail
 refine (Jv H.out 3).mono ?_
 rintro e w1 ⟨bf,rfl,h1⟩
 exact ⟨rfl,bf,rfl,h1⟩
theorem z0e(h:RMach D lab w br sb bs tv ov st ms)(hL:LineAt w bl n bw [])(ol:List Nat)(o:Nat)(hop:st.opn=ol++[o])(h1:0<ol.length)(h4:ol.length<1000):
  Cl 56 #[ptr br,ptr bl] w λe w'=>e= .returned (.tuple #[])/\(∃lab' ov' ms',RMach D lab' w' br sb bs tv ov' {st with opn:=ol} ms')/\Chg (λk _=>D k) w w':=by
 have hr:=h.orow
 rw [hop] at hr
 simp only [List.length_append,List.length_cons,List.length_nil] at hr
 obtain ⟨g,cp,hov,hcp⟩: ∃g cp,ov= .slice (some ⟨g,0,none⟩) (ol.length+1) cp/\ol.length+1<=cp:=yaa
 have r1:=h.below (w':=w.drew) (Qi _ w)
 have R:=hid (r1.pop ol o hop hov)
 have c3:=h.c3
 have f3:=h.free 3
 rw [hov] at c3
 have H:=hid hL
 have hlt': ¬(ol.length:Int)+1<2:=yai
 have hw1:wrap64 ((ol.length:Int)+1- 1)=(ol.length:Int):=yao
 have hw2:IntKind.i64.wrap (ol.length:Int)=(ol.length:Int):=yar
 have hw3:(ol.length:Int)<=(cp:Int):=yai
 clear h hL hr hov r1
 go_enter Tryz.func56,Tryz.ntmps56
 go_wp2_with fail
 refine (Eo H.out).mono ?_
 rintro e w1 ⟨rfl,rfl⟩
 go_wp2_with fail
 go_region
 all_goals
  go_wp2
  go_end0
  exact ⟨rfl,⟨lab,_,_,R.out.1⟩,((Chg.refl (λk _=>D k) _).drew).trans R.out.2⟩
end
end Go.Proofs.YtphcopbffecceaaGreatDoor
