import Derived.Test.YtiiepngikigmbaaGreatDoorP30
set_option maxRecDepth 100000
set_option maxHeartbeats 4000000
namespace Go.Proofs.YtiiepngikigmbaaGreatDoor
open Go.RowKit
variable{cp g k:Nat}{w3:World}{u:ByteArray}{us:List ByteArray}
def Qf:St->Bool
 | .inr (.inr (.inr (.inr (.inr (.inl ())))))=>true
 | .inr (.inr (.inr (.inr (.inr (.inr (.inl _))))))=>true
 | .inr (.inr (.inr (.inr (.inr (.inr (.inr _))))))=>true
 |_=>false
def RS.hasRoom(st:RS)(l:List ByteArray)(c:Nat)(s:St):Bool:=!decide (c=14)&&(!(!(Vg s).toList.isEmpty&&(!Uh l (Vg s)&&decide (l.length=4)))&&(!Qf s||decide (st.opn.length<=3)))
theorem zgl(s:St)(b:Nat): ∃T u x,Vk s b= .iface T u/\ ∀w,(Instr.typeAssert (.iface T u) 138 207 true).run Tryz.prog w= .ok (.tuple #[x, .bool (Qf s)]) w:=by
 rcases s with ⟨to,a⟩|⟨to,k,a,c⟩|⟨to,f,a⟩|⟨f,a,c⟩|a|⟨⟩|a|n
 ·exact ⟨_,_,_,rfl,Sf _⟩
 ·exact ⟨_,_,_,rfl,Gl _⟩
 ·exact ⟨_,_,_,rfl,Sg _⟩
 ·exact ⟨_,_,_,rfl,Sh _⟩
 ·exact ⟨_,_,_,rfl,Si _⟩
 ·exact ⟨_,_,_,rfl,Xk _⟩
 ·exact ⟨_,_,_,rfl,Ed _⟩
 ·exact ⟨_,_,_,rfl,Uy _⟩
section
variable{D:Nat->Prop}{lab:Nat->Nat×Nat}{w:World}{br sb bs:Nat}{tv ov:Value}{st:RS}{ms:List HM}
theorem Oj(h:RMach D lab w br sb bs tv ov st ms)(ho:st.opnOk)(tl:List Nat)(t:Nat)(ht:st.threads=tl++[t])(htl:t<ms.length)(hn:tl.length<1000000)(l:List ByteArray)(c:Nat)(hk:ms[t].h.k= .thr l c)(s:St)(b:Nat)(hz:zl9 s):
  Cl 81 #[ptr br,Vk s b] w λe w'=>e= .returned (.bool (st.hasRoom l c s))/\Below w.heap.size w w':=by
 obtain ⟨T,u,x,he,hta⟩:=zgl s b
 have KL:=hid (zdq h tl t ht htl hn)
 have hth:=(h.hd t htl).kind
 rw [hk] at hth
 have hb:=Qd (h.hd t htl).sh
 have bd:Below w.heap.size w w.drew:=Qi _ w
 have KT:Hid (Cl 83 #[.iface T u] w.drew λe w'=>e= .returned (.string (Vg s))/\Below w.heap.size w w'):=hid (by rw [<-he];exact (Io s b _).mono λe w' ⟨h1,h2⟩=>⟨h1,bd.trans h2⟩)
 have KH:Hid (∀W,Below w.heap.size w W->Cl 84 #[ptr ms[t].b, .string (Vg s)] W λe w'=>e= .returned (.bool (Uh l (Vg s)))/\w'=W):=hid (λW hW=>
  zhp ((hW.cell (p:=⟨ms[t].b,1,none⟩) hb).trans hth.1) (hth.2.2.keep (Chg.of_below (M:=λ_ _=>False) hW) (λ_ e=>e)) _ hz.to)
 have HL:Hid (∀W,Below w.heap.size w W->∀ty,(Builtin.len_ #[90] ty #[.map (some ms[t].mb)]).run Tryz.prog W= .ok (.int .i64 l.length) W):=hid (λW hW ty=>(hth.2.2.keep (Chg.of_below (M:=λ_ _=>False) hW) (λ_ e=>e)).len Tryz.underlying90 ty)
 have HC:Hid (∀W,Below w.heap.size w W->W.cell? ⟨ms[t].b,1,none⟩=some (.map (some ms[t].mb))/\W.cell? ⟨br,3,none⟩=some ov):=hid (λW hW=>⟨(hW.cell (p:=⟨ms[t].b,1,none⟩) hb).trans hth.1,(hW.cell (p:=⟨br,3,none⟩) (Qd h.sh)).trans h.c3⟩)
 have hc2:=hth.2.1
 obtain ⟨oa,ok,hov⟩: ∃a k,ov= .slice a st.opn.length k:=yjz
 subst hov
 have ho4:=ho.1
 rw [he]
 clear h hth hz ht hk hn ho he hb bd
 generalize ms[t].b=tb at*
 generalize ms[t].mb=tm at*
 clear htl
 unfold RS.hasRoom
 generalize Vg s=nm at*
 generalize hhs:Qf s=hs at*
 clear hhs
 by_cases hc:c=14
 ·subst hc
  go_enter Tryz.func81,Tryz.ntmps81
  go_wp2_with fail
  refine KL.out.mono ?_
  rintro e w1 ⟨rfl,rfl⟩
  go_wp2
  go_ret
  exact ⟨by simp,Qi _ w⟩
 ·have hc':((c:Int)==14)=false:=by simpa using (show ¬(c:Int)=14 by omega)
  have hcd:decide (c=14)=false:=by simpa using hc
  rw [hcd]
  go_enter Tryz.func81,Tryz.ntmps81
  go_wp2_with fail
  refine KL.out.mono ?_
  rintro e w1 ⟨rfl,rfl⟩
  go_wp2_with fail
  refine KT.out.mono ?_
  rintro e w2 ⟨rfl,b2⟩
  have B2:=hid b2
  obtain ⟨d1,d3⟩:=HC.out w2 b2
  have hlen:=HL.out w2 b2
  have KH2:=hid (KH.out w2 b2)
  clear b2 KT KL HC HL KH
  cases hem:nm.toList.isEmpty with
  |true=>
   cases hs with
   |true=>
    by_cases h3:st.opn.length<=3
    ·have h3':(st.opn.length:Int)<=3:=by omega
     go_wp2
     go_ret
     exact ⟨by first|(simp [hem,h3];done)|(simp [hem,h3];omega),B2.out⟩
    ·exact yk8
   |false=>
    go_wp2
    go_ret
    exact ⟨by first|(simp [hem];done)|(simp [hem];omega),B2.out⟩
  |false=>
   cases hha:Uh l nm with
   |true=>
    rw [hha] at KH2
    go_wp2_with fail
    refine KH2.out.mono ?_
    rintro e w3 ⟨rfl,rfl⟩
    cases hs with
    |true=>
     by_cases h3:st.opn.length<=3
     ·have h3':(st.opn.length:Int)<=3:=by omega
      go_wp2
      go_ret
      exact ⟨by first|(simp [hha,h3];done)|(simp [hem,hha,h3];done),B2.out⟩
     ·exact yk8
    |false=>
     go_wp2
     go_ret
     exact ⟨by first|(simp [hha];done)|(simp [hem,hha];done),B2.out⟩
   |false=>
    rw [hha] at KH2
    go_wp2_with fail
    refine KH2.out.mono ?_
    rintro e w3 ⟨rfl,rfl⟩
    by_cases hl4:l.length=4
    ·rw [hl4] at hlen
     go_wp2
     go_ret
     exact ⟨by first|(simp [hem,hha,hl4];done),B2.out⟩
    ·have hl4':((l.length:Int)==4)=false:=by simpa using (show ¬(l.length:Int)=4 by omega)
     cases hs with
     |true=>
      by_cases h3:st.opn.length<=3
      ·have h3':(st.opn.length:Int)<=3:=by omega
       go_wp2
       go_ret
       exact ⟨by first|(simp [hem,hl4,h3];done)|(simp [hem,hl4,h3];omega),B2.out⟩
      ·have h3': ¬(st.opn.length:Int)<=3:=by omega
       go_wp2
       go_ret
       exact ⟨by first|(simp [hem,hl4,h3];done)|(simp [hem,hl4,h3];omega),B2.out⟩
     |false=>
      go_wp2
      go_ret
      exact ⟨by first|(simp [hem,hl4];done)|(simp [hem,hl4];omega),B2.out⟩
end
attribute [local go_sem] Yr zdx zal Gk Vw Ik Fo Yf Ys zdy zam Gn Yt zdz zan Gr Yu zd0 zao Yo Vh Sj Er Zm Yb zbv zcr Ux Zc In Fb Yx
section
variable{w:World}{b:Nat}{rv:Value}
theorem zj6(s:St)(hh:Qf s=false):Cl 120 #[stV s] w λe w'=>e= .returned (.slice none 0 0)/\w'=w:=by
 rcases s with ⟨to,a⟩|⟨to,k,a,c⟩|⟨to,f,a⟩|⟨f,a,c⟩|a|⟨⟩|a|n
 ·exact yj3
 ·exact yj3
 ·exact yj3
 ·exact yj3
 ·exact yj3
 ·simp [Qf] at hh
 ·simp [Qf] at hh
 ·simp [Qf] at hh
theorem zoc(s:St)(hh:Qf s=true)(hc:w.cell? ⟨b,0,none⟩=some rv):Cl 120 #[.iface (hkT (.st s)) (ptr b)] w λe w'=>e= .returned rv/\w'=w:=by
 rcases s with ⟨to,a⟩|⟨to,k,a,c⟩|⟨to,f,a⟩|⟨f,a,c⟩|a|⟨⟩|a|n
 ·simp [Qf] at hh
 ·simp [Qf] at hh
 ·simp [Qf] at hh
 ·simp [Qf] at hh
 ·simp [Qf] at hh
 ·exact yk2
 ·exact yk2
 ·exact yk2
def Jk:St->Int
 | .inr (.inr (.inr (.inr (.inr (.inr (.inr n))))))=>n
 |_=>1
theorem zfp(s:St)(hh:Qf s=false):Cl 119 #[stV s] w λe w'=>e= .returned (.int .i64 1)/\w'=w:=by
 rcases s with ⟨to,a⟩|⟨to,k,a,c⟩|⟨to,f,a⟩|⟨f,a,c⟩|a|⟨⟩|a|n
 ·exact yj4
 ·exact yj4
 ·exact yj4
 ·exact yj4
 ·exact yj4
 ·simp [Qf] at hh
 ·simp [Qf] at hh
 ·simp [Qf] at hh
theorem zrh{mb:Nat}(s:St)(hh:Qf s=true)(hc:HkAt w b mb (.st s)):Cl 119 #[.iface (hkT (.st s)) (ptr b)] w λe w'=>e= .returned (.int .i64 (Jk s))/\w'=w:=by
 rcases s with ⟨to,a⟩|⟨to,k,a,c⟩|⟨to,f,a⟩|⟨f,a,c⟩|a|⟨⟩|a|n
 ·simp [Qf] at hh
 ·simp [Qf] at hh
 ·simp [Qf] at hh
 ·simp [Qf] at hh
 ·simp [Qf] at hh
 ·exact yl3
 ·exact yl3
 ·simp only [hkT,Jk]
  have hc1:w.cell? ⟨b,1,none⟩=some (.int .i64 n):=hc
  go_enter Tryz.func119,Tryz.ntmps119
  go_wp2
  go_ret
  exact ⟨rfl,rfl⟩
end
theorem zv1(cE:En->Int)(es:List En)(k:Nat)(hk:k<es.length):((es.take (k+1)).map cE).sum=((es.take k).map cE).sum+cE es[k]:=by
 have e:es.take (k+1)=es.take k++[es[k]]:=by rw [List.take_add_one,List.getElem?_eq_getElem hk];rfl
 rw [e,List.map_append,List.sum_append]
 simp only [List.map_cons,List.map_nil,List.sum_cons,List.sum_nil,Int.add_zero]
theorem zap(cE:En->Int)(M:Int)(hM:0<=M): ∀es:List En,(∀e∈es,0<=cE e/\cE e<=M)->0<=(es.map cE).sum/\(es.map cE).sum<=es.length*M
 |[],_=>by simp
 |e::es,h=>by
  have h1:=h e yl6
  have h2:=zap cE M hM es (λx hx=>h x (by simp [hx]))
  simp only [List.map_cons,List.sum_cons,List.length_cons]
  refine ⟨by omega,?_⟩
  have:((es.length+1:Nat):Int)*M=es.length*M+M:=by rw [Int.natCast_add,Int.add_mul];simp
  omega
section
variable{w:World}{rv:Value}{es:List En}{ids:Ids}{tk:Nat}
theorem zd2(hrow:w.ownsRow 0 138 1 rv es.length (es.map (enV ids)))(h14:es.length<=14)(A:World->Prop)(hA:A w)(hAb:Hid (∀w1 w2,A w1->Below w1.heap.size w1 w2->A w2))(kd:En->Bool)(tm ci cE:En->Int)(wi:En->Value)
  (hent: ∀args w,(callFunc tk args).run Tryz.prog w= .ok (.enter tk args) w)
  (KK:Hid (∀w1,A w1->∀e∈es,Cl tk #[enV ids e] w1 λr w'=>r= .returned (.bool (kd e))/\Below w1.heap.size w1 w'))
  (TK:Hid (∀w1,A w1->∀e∈es,Cl 119 #[enV ids e] w1 λr w'=>r= .returned (.int .i64 (tm e))/\w'=w1))
  (WK:Hid (∀w1,A w1->∀e∈es,Cl 120 #[enV ids e] w1 λr w'=>r= .returned (wi e)/\w'=w1))
  (RK:Hid (∀w1,A w1->∀e∈es,Cl 86 #[wi e, .func (.func tk) #[] #[]] w1 λr w'=>r= .returned (.int .i64 (ci e))/\Below w1.heap.size w1 w'))
  (hc:Hid (∀e∈es,cE e=(if kd e=true then 1 else 0)+tm e*ci e)) (hb:Hid (∀e∈es,0<=tm e*ci e/\tm e*ci e<=100000000)):
  Cl 86 #[rv, .func (.func tk) #[] #[]] w λr w'=>r= .returned (.int .i64 (es.map cE).sum)/\Below w.heap.size w w':=by
 obtain ⟨ra,rk,hrv⟩: ∃a k,rv= .slice a es.length k:=ykh
 subst hrv
 have HC:Hid (∀k (hk:k<es.length),∃g,ra=some ⟨g,0,none⟩/\es.length<=rk/\g<w.heap.size/\w.cell? ⟨g,k,none⟩=some (enV ids es[k])):=yjx
 have HS:Hid (∀k,0<=((es.take k).map cE).sum/\((es.take k).map cE).sum<=1500000000):=by
  intro k
  have:=zap cE 100000001 yl5 (es.take k) (λe he=>by
   have he':e∈es:=List.mem_of_mem_take he
   have:=hb.out e he'
   rw [hc.out e he']
   split<;>omega)
  have hl:(es.take k).length<=14:=by rw [List.length_take];omega
  refine ⟨this.1,Int.le_trans this.2 ?_⟩
  have hl':((es.take k).length:Int)<=14:=yl5
  have:=Int.mul_le_mul_of_nonneg_right hl' (show (0:Int)<=100000001 by omega)
  omega
 have HA:=hid hA
 clear hrow hA
 go_enter Tryz.func86,Tryz.ntmps86
 go_wp2
 go_loopw [5,10] (λv5 v10 wr=>∃k:Nat,k<=es.length/\v10= .int .i64 k/\v5= .int .i64 ((es.take k).map cE).sum/\Hid (Below w.heap.size w wr)) (λ_ v10 _=>es.length- (intOf v10).toNat)
 case atStart=>exact ⟨0,Nat.zero_le _,rfl,by simp,Below.refl _ w⟩
 case round=>
  obtain ⟨k,hk,rfl,rfl,hB⟩:=hrel
  have hS:=HS.out k
  by_cases hlt:k<es.length
  ·have hlt':(k:Int)<(es.length:Int):=by omega
   obtain ⟨g,hra,hrk,hg,hcell⟩:=HC.out k hlt
   subst hra
   have hcell':wr.cell? ⟨g,k,none⟩=some (enV ids es[k]):=(hB.out.cell (p:=⟨g,k,none⟩) hg).trans hcell
   have hA1:=hAb.out w wr HA.out hB.out
   have hmem:es[k]∈es:=List.getElem_mem hlt
   have K1:=hid (KK.out wr hA1 es[k] hmem)
   have hS2:=HS.out (k+1)
   have hsn:=zv1 cE es k hlt
   have hcE:=hc.out es[k] hmem
   have hb1:=hb.out es[k] hmem
   have HT:=hid (λw1 h1=>TK.out w1 h1 es[k] hmem)
   have HW:=hid (λw1 h1=>WK.out w1 h1 es[k] hmem)
   have HR:=hid (λw1 h1=>RK.out w1 h1 es[k] hmem)
   have HA1:=hid hA1
   clear hcell hA1
   generalize enV ids es[k]=v at*
   generalize hS0:((es.take k).map cE).sum=S at*
   generalize tm es[k]=t at*
   generalize ci es[k]=c at*
   generalize wi es[k]=wv at*
   have hwm:wrap64 (t*c)=t*c:=ymc
   cases hkd:kd es[k] with
   |true=>
    rw [hkd] at K1 hcE
    simp only [if_true] at hcE
    have hw1:wrap64 (S+1)=S+1:=ymc
    have hw2:wrap64 (S+1+t*c)=S+1+t*c:=ymc
    have hfin:((es.take (k+1)).map cE).sum=S+1+t*c:=yl5
    have HF:=hid hfin
    clear hfin hsn hcE hS hS2 hb1
    go_wp2_with fail
    refine K1.out.mono ?_
    rintro e w1 ⟨rfl,b1⟩
    have B1:=hid b1
    clear b1 K1
    go_wp2_with fail
    refine (HT.out w1 (hAb.out _ _ HA1.out B1.out)).mono ?_
    rintro e w2 ⟨rfl,rfl⟩
    go_wp2_with fail
    refine (HW.out _ (hAb.out _ _ HA1.out B1.out)).mono ?_
    rintro e w3 ⟨rfl,rfl⟩
    go_wp2_with fail
    refine (HR.out _ (hAb.out _ _ HA1.out B1.out)).mono ?_
    rintro e w4 ⟨rfl,b4⟩
    have B4:=hid (hB.out.trans ((B1.out.trans (b4.mono B1.out.size)).mono hB.out.size))
    clear b4 B1 HT HW HR
    go_wp2
    go_roundw
    case rel=>exact ⟨k+1,by omega,by go_num,by rw [HF.out,hw2],B4⟩
    case measure=>simp [intOf];omega
   |false=>
    rw [hkd] at K1 hcE
    simp only [Bool.false_eq_true,if_false] at hcE
    have hw2:wrap64 (S+t*c)=S+t*c:=ymc
    have hfin:((es.take (k+1)).map cE).sum=S+t*c:=yl5
    have HF:=hid hfin
    clear hfin hsn hcE hS hS2 hb1
    go_wp2_with fail
    refine K1.out.mono ?_
    rintro e w1 ⟨rfl,b1⟩
    have B1:=hid b1
    clear b1 K1
    go_wp2_with fail
    refine (HT.out w1 (hAb.out _ _ HA1.out B1.out)).mono ?_
    rintro e w2 ⟨rfl,rfl⟩
    go_wp2_with fail
    refine (HW.out _ (hAb.out _ _ HA1.out B1.out)).mono ?_
    rintro e w3 ⟨rfl,rfl⟩
    go_wp2_with fail
    refine (HR.out _ (hAb.out _ _ HA1.out B1.out)).mono ?_
    rintro e w4 ⟨rfl,b4⟩
    have B4:=hid (hB.out.trans ((B1.out.trans (b4.mono B1.out.size)).mono hB.out.size))
    clear b4 B1 HT HW HR
    go_wp2
    go_roundw
    case rel=>exact ⟨k+1,by omega,by go_num,by rw [HF.out,hw2],B4⟩
    case measure=>simp [intOf];omega
  ·have hlt': ¬(k:Int)<(es.length:Int):=by omega
   have HE:Hid (((es.take k).map cE).sum=(es.map cE).sum):=by
    have:k=es.length:=yl5
    rw [this,List.take_length]
    exact rfl
   clear hS
   generalize ((es.take k).map cE).sum=S at*
   go_wp2
   go_ret
   refine ⟨?_,hB.out⟩
   rw [<-HE.out]
   rfl
end
section
variable{M:Nat->Nat->Prop}{D D0:Nat->Prop}{lab lab':Nat->Nat×Nat}{w W:World}{br sb bs:Nat}{tv ov:Value}{st:RS}{ms:List HM}
theorem zaq(ms:List HM)(i:Nat)(hi:i<ms.length)(m':HM)(hb:m'.b=ms[i].b)(hT:hkT m'.h.k=hkT ms[i].h.k):Qu (ms.set i m')=Qu ms:=by
 unfold Qu
 rw [List.map_set,hb,hT]
 apply List.ext_getElem?
 intro j
 by_cases e:i=j
 ·subst e
  rw [List.getElem?_set_self yms]
  simp [hi]
 ·rw [List.getElem?_set_ne e]
theorem RMach.updH(h:RMach D lab w br sb bs tv ov st ms)(i:Nat)(hi:i<ms.length)(m':HM)(hb:m'.b=ms[i].b)(hT:hkT m'.h.k=hkT ms[i].h.k)(hc:Chg M w W)(hM: ∀k j,k<w.heap.size->M k j->∃x,lab k=(i+1,x))(hlab: ∀k,k<w.heap.size->lab' k=lab k)(hd:HdAt W (Qu ms) m')(hl:LabH D lab' i m'):
  RMach D lab' W br sb bs tv ov {st with hs:=st.hs.set i m'.h} (ms.set i m'):=by
 have lbr:=Qd h.sh
 have no: ∀k l,k<w.heap.size->lab k=l->(∀x,l≠(i+1,x))->∀j,¬M k j:=λk l hk e hl j hm=>by
  obtain ⟨x,hx⟩:=hM k j hk hm
  exact hl x (e.symm.trans hx)
 have kb:=no br _ lbr h.lbr.1 (λx=>by simp)
 have ids:=zaq ms i hi m' hb hT
 exact {
  sh:=(hc.shape _ lbr).trans h.sh,c0:=(hc.cell _ _ lbr (kb _)).trans h.c0,c1:=(hc.cell _ _ lbr (kb _)).trans h.c1,c2:=(hc.cell _ _ lbr (kb _)).trans h.c2,c3:=(hc.cell _ _ lbr (kb _)).trans h.c3,c4:=(hc.cell _ _ lbr (kb _)).trans h.c4
  free:=λj=>(hc.frozen _ _ lbr).trans (h.free j)
  mS:=h.mS.keep hc (no _ _ h.mS.lt h.lsb.1 (λx=>by simp))
  mG:=h.mG.keep hc (no _ _ h.mG.lt h.lbs.1 (λx=>by simp))
  trow:=by rw [ids];exact Qc h.trow hc (λg hg=>no g _ (h.trow.lt g hg).2 (h.ltv g hg).1 (λx=>by simp))
  orow:=by rw [ids];exact Qc h.orow hc (λg hg=>no g _ (h.orow.lt g hg).2 (h.lov g hg).1 (λx=>by simp))
  hd:=λj hj=>by
   rw [ids]
   by_cases e:i=j
   ·subst e;rw [List.getElem_set_self];exact hd
   ·rw [List.getElem_set_ne e]
    have hj':j<ms.length:=yml
    have hdj:=h.hd j hj'
    have l:=h.lhd j hj'
    have ne: ∀y x,((j+1,y):Nat×Nat)≠(i+1,x):=λy x e'=>e (by simp at e';omega)
    exact hdj.keep hc (no _ _ (Qd hdj.sh) l.b.1 (ne 0)) (λg hg=>no g _ (hdj.row.lt g hg).2 (l.rv g hg).1 (ne 1)) (λht=>no _ _ (hdj.mblt ht) (l.mb ht).1 (ne 2))
  hs:=by simp only;rw [List.map_set,h.hs]
  lbr:=⟨(hlab _ lbr).trans h.lbr.1,h.lbr.2⟩
  lsb:=⟨(hlab _ h.mS.lt).trans h.lsb.1,h.lsb.2⟩
  ltv:=λg hg=>⟨(hlab _ (h.trow.lt g hg).2).trans (h.ltv g hg).1,(h.ltv g hg).2⟩
  lov:=λg hg=>⟨(hlab _ (h.orow.lt g hg).2).trans (h.lov g hg).1,(h.lov g hg).2⟩
  lbs:=⟨(hlab _ h.mG.lt).trans h.lbs.1,h.lbs.2⟩
  lhd:=λj hj=>by
   by_cases e:i=j
   ·subst e;rw [List.getElem_set_self];exact hl
   ·rw [List.getElem_set_ne e]
    have hj':j<ms.length:=yml
    have hdj:=h.hd j hj'
    have l:=h.lhd j hj'
    exact ⟨⟨(hlab _ (Qd hdj.sh)).trans l.b.1,l.b.2⟩,λg hg=>⟨(hlab _ (hdj.row.lt g hg).2).trans (l.rv g hg).1,(l.rv g hg).2⟩,λht=>⟨(hlab _ (hdj.mblt ht)).trans (l.mb ht).1,(l.mb ht).2⟩⟩}
theorem RMach.hsAt(h:RMach D lab w br sb bs tv ov st ms)(i:Nat)(hi:i<ms.length):st.hs[i]?=some ms[i].h:=by rw [<-h.hs];simp [hi]
theorem RMach.count(h:RMach D lab w br sb bs tv ov st ms)(t:Nat)(ht:t<ms.length)(l:List ByteArray)(c:Nat)(hk:ms[t].h.k= .thr l c):
  RMach D lab (w.setCell ⟨ms[t].b,2,none⟩ (.int .i64 ((c:Int)+1))) br sb bs tv ov {st with hs:=st.hs.set t ⟨.thr l (c+1),ms[t].h.ents⟩} (ms.set t {ms[t] with h:=⟨.thr l (c+1),ms[t].h.ents⟩})/\Chg (λk _=>D k) w (w.setCell ⟨ms[t].b,2,none⟩ (.int .i64 ((c:Int)+1))):=by
 have hd:=h.hd t ht
 have l':=h.lhd t ht
 have lb:=Qd hd.sh
 have hc:Chg (λk i=>k=ms[t].b/\i=2) w (w.setCell ⟨ms[t].b,2,none⟩ (.int .i64 ((c:Int)+1))):=(Chg.refl _ w).setCell (λ_=>⟨rfl,rfl⟩) _
 have hkk:=hd.kind
 rw [hk] at hkk
 have hthr:ms[t].h.k.isThr:=by rw [hk];trivial
 have nr: ∀g,ms[t].rv.ownBlock=some g->g≠ms[t].b:=λg hg e=>by
  have:=(l'.rv g hg).1
  rw [e,l'.b.1] at this
  simp at this
 have nm:ms[t].mb≠ms[t].b:=λe=>by
  have:=(l'.mb hthr).1
  rw [e,l'.b.1] at this
  simp at this
 refine ⟨h.updH t ht {ms[t] with h:=⟨.thr l (c+1),ms[t].h.ents⟩} rfl (by rw [hk];rfl) hc (λk j _ e=>⟨0,e.1▸l'.b.1⟩) (λ_ _=>rfl) ⟨?_,?_,?_,?_,?_⟩ ⟨l'.b,l'.rv,λ_=>l'.mb hthr⟩,hc.mono (λk i _ e=>e.1▸l'.b.2)⟩
 ·exact (hc.shape _ lb).trans (by rw [hd.sh,hk];rfl)
 ·exact (hc.cell _ _ lb (λe=>by omega)).trans hd.rc
 ·exact Qc hd.row hc (λg hg i e=>nr g hg e.1)
 ·exact ⟨(hc.cell _ _ lb (λe=>by omega)).trans hkk.1,by rw [Qg hkk.2.1 rfl];simp,hkk.2.2.keep hc (λi e=>nm e.1)⟩
 ·exact λj=>(hc.frozen _ _ lb).trans (hd.free j)
theorem zri(l:List ByteArray)(u:ByteArray)(hu:Uh l u=false): ∀x,zgd (zjx l) u (.int .i64 l.length) x=zjx (l++[u]) x:=by
 intro x
 unfold zgd zjx
 rw [List.findIdx?_append]
 by_cases e:x=u
 ·subst e
  rw [if_pos rfl]
  have:l.findIdx? (λy=>decide (y=x))=none:=by
   rw [List.findIdx?_eq_none_iff]
   intro y hy
   have:=List.any_eq_false.1 hu y hy
   simpa using this
  rw [this]
  simp
 ·rw [if_neg e]
  have:[u].findIdx? (λy=>decide (y=x))=none:=by
   simp
   exact λe'=>e e'.symm
  rw [this]
  simp
theorem RMach.local(h:RMach D lab w br sb bs tv ov st ms)(t:Nat)(ht:t<ms.length)(l:List ByteArray)(c:Nat)(hk:ms[t].h.k= .thr l c)(u:ByteArray)(hu:u.size<=maxLen)(hnew:Uh l u=false)(hl:l.length<1000):
  ∃W,(Instr.mapUpdate 90 (.map (some ms[t].mb)) (.string u) (.int .i64 l.length)).run Tryz.prog w= .ok () W/\
  RMach D lab W br sb bs tv ov {st with hs:=st.hs.set t ⟨.thr (l++[u]) c,ms[t].h.ents⟩} (ms.set t {ms[t] with h:=⟨.thr (l++[u]) c,ms[t].h.ents⟩})/\Chg (λk _=>D k) w W:=by
 have hd:=h.hd t ht
 have l':=h.lhd t ht
 have lb:=Qd hd.sh
 have hkk:=hd.kind
 rw [hk] at hkk
 have hthr:ms[t].h.k.isThr:=by rw [hk];trivial
 obtain ⟨W,hrun,hm,hc⟩:=hkk.2.2.put Tryz.underlying90 ymb hu (.int .i64 l.length)
 have hsome:(zjx l u).isSome=false:=by rw [zho];exact hnew
 rw [hsome] at hm
 simp only [Bool.false_eq_true,if_false] at hm
 have nb:ms[t].b≠ms[t].mb:=λe=>by
  have:=(l'.mb hthr).1
  rw [<-e,l'.b.1] at this
  simp at this
 have nr: ∀g,ms[t].rv.ownBlock=some g->g≠ms[t].mb:=λg hg e=>by
  have:=(l'.rv g hg).1
  rw [e,(l'.mb hthr).1] at this
  simp at this
 refine ⟨W,hrun,h.updH t ht {ms[t] with h:=⟨.thr (l++[u]) c,ms[t].h.ents⟩} rfl (by rw [hk];rfl) hc (λk j _ e=>⟨2,e▸(l'.mb hthr).1⟩) (λ_ _=>rfl) ⟨?_,?_,?_,?_,?_⟩ ⟨l'.b,l'.rv,λ_=>l'.mb hthr⟩,hc.mono (λk i _ e=>e▸(l'.mb hthr).2)⟩
 ·exact (hc.shape _ lb).trans (by rw [hd.sh,hk];rfl)
 ·exact (hc.cell _ _ lb nb).trans hd.rc
 ·exact Qc hd.row hc (λg hg i e=>nr g hg e)
 ·refine ⟨(hc.cell _ _ lb nb).trans hkk.1,(hc.cell _ _ lb nb).trans hkk.2.1,?_⟩
  simp only [List.length_append,List.length_cons,List.length_nil]
  exact hm.congr (zri l u hnew)
 ·exact λj=>(hc.frozen _ _ lb).trans (hd.free j)
end
section
variable{M:Nat->Nat->Prop}{D D0:Nat->Prop}{lab lab':Nat->Nat×Nat}{w W:World}{br sb bs:Nat}{tv ov:Value}{st:RS}{ms:List HM}
theorem zrj(w:World):w.ownsRow 0 138 1 (.slice none 0 0) 0 []:=⟨rfl, .inl ⟨rfl,rfl⟩⟩
def zar(w:World)(s:St)(b:Nat):Prop:=w.shape? b=some (z53 (.st s))/\w.cell? ⟨b,0,none⟩=some (.slice none 0 0)/\HkAt w b 0 (.st s)/\ ∀j,w.frozen? ⟨b,j,none⟩=false
theorem zrk(ids x:Ids)(e:En)(h: ∀j,e= .inr j->j<ids.length):enV (ids++x) e=enV ids e:=by
 cases e with
 |inl s=>rfl
 |inr j=>exact zjy ids x j (h j rfl)
def RS.entOk(st:RS):Prop:=(∀h∈st.hs,∀j, .inr j∈h.ents->j<st.hs.length)/\(∀j∈st.threads,j<st.hs.length)/\ ∀j∈st.opn,j<st.hs.length
theorem RMach.newH(h:RMach D0 lab w br sb bs tv ov st ms)(he:st.entOk)(h0: ∀k,D0 k->D k)(s:St)(b:Nat)(hb:zar w s b)(hD:D b)(hn: ¬D0 b):
  ∃lab',RMach D lab' w br sb bs tv ov {st with hs:=st.hs++[⟨.st s,[]⟩]} (ms++[⟨b, .slice none 0 0,0,⟨.st s,[]⟩⟩]):=by
 let lab':Nat->Nat×Nat:=λk=>if k=b then (ms.length+1,0) else lab k
 have hold: ∀k,D0 k->lab' k=lab k:=λk hk=>if_neg (show ¬k=b from λe=>hn (e▸hk))
 have il:(Qu ms).length=st.hs.length:=h.idl
 have ids:Qu (ms++[⟨b, .slice none 0 0,0,⟨.st s,[]⟩⟩])=Qu ms++[(hkT (.st s),b)]:=by simp [Qu]
 refine ⟨lab',{
  sh:=h.sh,c0:=h.c0,c1:=h.c1,c2:=h.c2,c3:=h.c3,c4:=h.c4,free:=h.free,mS:=h.mS,mG:=h.mG
  trow:=?_,orow:=?_,hd:=?_,hs:=?_
  lbr:=⟨(hold _ h.lbr.2).trans h.lbr.1,h0 _ h.lbr.2⟩
  lsb:=⟨(hold _ h.lsb.2).trans h.lsb.1,h0 _ h.lsb.2⟩
  ltv:=λg hg=>⟨(hold _ (h.ltv g hg).2).trans (h.ltv g hg).1,h0 _ (h.ltv g hg).2⟩
  lov:=λg hg=>⟨(hold _ (h.lov g hg).2).trans (h.lov g hg).1,h0 _ (h.lov g hg).2⟩
  lbs:=⟨(hold _ h.lbs.2).trans h.lbs.1,h0 _ h.lbs.2⟩
  lhd:=?_}⟩
 ·rw [ids]
  have e:st.threads.map (idP (Qu ms++[(hkT (.st s),b)]))=st.threads.map (idP (Qu ms)):=List.map_congr_left λj hj=>zqv _ _ j (by rw [il];exact he.2.1 j hj)
  rw [e]
  exact h.trow
 ·rw [ids]
  have e:st.opn.map (idV (Qu ms++[(hkT (.st s),b)]))=st.opn.map (idV (Qu ms)):=List.map_congr_left λj hj=>zjy _ _ j (by rw [il];exact he.2.2 j hj)
  rw [e]
  exact h.orow
 ·intro i hi
  rw [ids]
  by_cases hi':i<ms.length
  ·rw [List.getElem_append_left hi']
   have hd:=h.hd i hi'
   have e:ms[i].h.ents.map (enV (Qu ms++[(hkT (.st s),b)]))=ms[i].h.ents.map (enV (Qu ms)):=List.map_congr_left λx hx=>zrk _ _ x (λj hj=>by
    rw [il]
    exact he.1 ms[i].h yns j (hj▸hx))
   exact ⟨hd.sh,hd.rc,by rw [e];exact hd.row,hd.kind,hd.free⟩
  ·exact ykq
 ·simp [h.hs]
 ·intro i hi
  by_cases hi':i<ms.length
  ·exact yka
  ·obtain rfl:i=ms.length:=by simp at hi;omega
   rw [List.getElem_append_right (Nat.le_refl _)]
   simp only [Nat.sub_self,List.getElem_cons_zero]
   exact ⟨⟨if_pos rfl,hD⟩,λg hg=>by simp [Value.ownBlock] at hg,λht=>ht.elim⟩
theorem zv2:(Tryz.prog.info? 138).map (λi=>(i.zero,i.size,i.bytes))=some (some .nilIface,1,16):=yl7
theorem zod:(Tryz.prog.info? 207).map (λi=>(i.zero,i.size,i.bytes))=some (some .nilIface,1,16):=yl7
theorem zv3:(Tryz.prog.info? 85).map (λi=>(i.zero,i.size,i.bytes))=some (some (.pointer none),1,8):=yl7
theorem RMach.ent(h:RMach D lab w br sb bs tv ov st ms)(hD: ∀k,w.heap.size<=k->D k)(i:Nat)(hi:i<ms.length)(e:En)(o:Obj)
  (ho:w3.ownsRow 0 138 1 (.slice (some ⟨g,0,none⟩) (ms[i].h.ents.length+1) cp) (ms[i].h.ents.length+1) (ms[i].h.ents.map (enV (Qu ms))++[enV (Qu ms) e]))
  (hc:Chg (λk _=>ms[i].rv.ownBlock=some k) (w.alloc o) w3) (hg:ms[i].rv.ownBlock=some g\/g=(w.alloc o).heap.size):
  ∃lab',RMach D lab' (w3.setCell ⟨ms[i].b,0,none⟩ (.slice (some ⟨g,0,none⟩) (ms[i].h.ents.length+1) cp)) br sb bs tv ov {st with hs:=st.hs.set i ⟨ms[i].h.k,ms[i].h.ents++[e]⟩} (ms.set i {ms[i] with rv:= .slice (some ⟨g,0,none⟩) (ms[i].h.ents.length+1) cp,h:=⟨ms[i].h.k,ms[i].h.ents++[e]⟩})/\Chg (λk _=>D k) w (w3.setCell ⟨ms[i].b,0,none⟩ (.slice (some ⟨g,0,none⟩) (ms[i].h.ents.length+1) cp)):=by
 have hd:=h.hd i hi
 have l':=h.lhd i hi
 have lb:=Qd hd.sh
 have hsz:(w.alloc o).heap.size=w.heap.size+1:=yl6
 have hc0:Chg (λk _=>ms[i].rv.ownBlock=some k) w w3:=((Chg.refl _ w).alloc o).trans hc
 have hset:Chg (λk j=>k=ms[i].b/\j=0) w3 (w3.setCell ⟨ms[i].b,0,none⟩ (.slice (some ⟨g,0,none⟩) (ms[i].h.ents.length+1) cp)):=(Chg.refl _ w3).setCell (λ_=>⟨rfl,rfl⟩) _
 have hall:Chg (λk j=>ms[i].rv.ownBlock=some k\/(k=ms[i].b/\j=0)) w (w3.setCell ⟨ms[i].b,0,none⟩ (.slice (some ⟨g,0,none⟩) (ms[i].h.ents.length+1) cp)):=(hc0.mono (λ_ _ _ e=> .inl e)).trans (hset.mono (λ_ _ _ e=> .inr e))
 have nr: ¬ms[i].rv.ownBlock=some ms[i].b:=λe=>by
  have:=(l'.rv _ e).1
  rw [l'.b.1] at this
  simp at this
 have hgb:g≠ms[i].b:=ylx
 let lab':Nat->Nat×Nat:=λk=>if k=g then (i+1,1) else lab k
 have hold: ∀k,k<w.heap.size->lab' k=lab k:=by
  intro k hk
  show (if k=g then _ else _)=_
  by_cases e:k=g
  ·rw [if_pos e]
   rcases hg with hg|hg
   ·rw [e];exact ((l'.rv g hg).1).symm
   ·omega
  ·rw [if_neg e]
 have nm:ms[i].h.k.isThr->∀j,¬(ms[i].rv.ownBlock=some ms[i].mb\/(ms[i].mb=ms[i].b/\j=0)):=λht j e=>by
  rcases e with e|e
  ·have:=(l'.rv _ e).1
   rw [(l'.mb ht).1] at this
   simp at this
  ·have:=(l'.mb ht).1
   rw [e.1,l'.b.1] at this
   simp at this
 refine ⟨lab',h.updH i hi {ms[i] with rv:= .slice (some ⟨g,0,none⟩) (ms[i].h.ents.length+1) cp,h:=⟨ms[i].h.k,ms[i].h.ents++[e]⟩} rfl rfl hall ?_ hold ⟨(hall.shape _ lb).trans hd.sh,?_,?_,?_,λj=>(hall.frozen _ _ lb).trans (hd.free j)⟩ ⟨⟨(hold _ lb).trans l'.b.1,l'.b.2⟩,?_,λht=>⟨(hold _ (hd.mblt ht)).trans (l'.mb ht).1,(l'.mb ht).2⟩⟩,hall.mono ?_⟩
 ·rintro k j _ (e|⟨rfl,_⟩)
  ·exact ⟨1,(l'.rv k e).1⟩
  ·exact ⟨0,l'.b.1⟩
 ·exact Qg ((hc0.cell _ _ lb nr).trans hd.rc) rfl
 ·exact ykn
 ·refine hd.kind.keep lb hall (λj hj e=>?_) nm
  rcases e with e|e
  ·exact nr e
  ·omega
 ·intro g' hg'
  simp [Value.ownBlock] at hg'
  subst hg'
  refine ⟨if_pos rfl,?_⟩
  rcases hg with e|e
  ·exact (l'.rv _ e).2
  ·exact hD _ yl5
 ·rintro k j _ (e|⟨rfl,_⟩)
  ·exact (l'.rv k e).2
  ·exact l'.b.2
theorem zma(h:RMach D lab w br sb bs tv ov st ms)(hD: ∀k,w.heap.size<=k->D k)(i:Nat)(hi:i<ms.length)(e:En)(T:TypeId)(u:Value)(hv:enV (Qu ms) e= .iface T u)(hlen:ms[i].h.ents.length<1000):
  Cl 210 #[ptr ms[i].b, .iface T u] w λe' w'=>e'= .returned (.tuple #[])/\(∃lab' rv,RMach D lab' w' br sb bs tv ov {st with hs:=st.hs.set i ⟨ms[i].h.k,ms[i].h.ents++[e]⟩} (ms.set i {ms[i] with rv:=rv,h:=⟨ms[i].h.k,ms[i].h.ents++[e]⟩}))/\Chg (λk _=>D k) w w':=by
 obtain ⟨i0,hi0,hz0,hz1,hz2⟩:=info_parts zv2
 have hd:=h.hd i hi
 have lb:=Qd hd.sh
 have hc:=hd.rc
 have nr: ¬ms[i].rv.ownBlock=some ms[i].b:=λe=>by
  have:=((h.lhd i hi).rv _ e).1
  rw [(h.lhd i hi).b.1] at this
  simp at this
 have HO:=hid hd.row
 have H:=hid h
 have hl1:ms[i].h.ents.length+1<=maxLen:=ymb
 have hl2:(ms[i].h.ents.length+1)*16<=140737488355328:=yl5
 have HCB:Hid (∀w3 o,Chg (λk _=>ms[i].rv.ownBlock=some k) (w.alloc o) w3->w3.cell? ⟨ms[i].b,0,none⟩=some ms[i].rv/\w3.frozen? ⟨ms[i].b,0,none⟩=false):=hid (λw3 o hch=>⟨(hch.cell _ _ yma nr).trans ((World.cell?_alloc_past _ _ _ lb).trans hc),(hch.frozen _ _ yma).trans ((World.frozen?_alloc_past _ _ _ lb).trans (hd.free 0))⟩)
 have HRES:=hid (λo w3 g cp=>h.ent hD i hi e o (w3:=w3) (g:=g) (cp:=cp))
 rw [hv] at HRES
 clear h hd nr hlen hD
 generalize hb:ms[i].b=b at*
 generalize hr:ms[i].rv=rv at*
 generalize hm:ms[i].h.ents.map (enV (Qu ms))=xs at*
 generalize hn:ms[i].h.ents.length=n at*
 clear hv
 go_enter Tryz.func210,Tryz.ntmps210
 go_wp2_with (at_builtin;refine Zk rfl _ _ 87 rfl 138 i0 .nilIface 16 Tryz.underlying87 hi0 hz0 hz1 hz2 rfl rv n xs rfl (HO.out.alloc _) ⟨w.heap.size,0,none⟩ (.iface T u) rfl (cell_one_new _ _ _) rfl hl1 hl2 ?_;go_must (intro g cp w3 hown1 hch hg;have hcb:=(HCB.out w3 _ hch).1;have hfb:=(HCB.out w3 _ hch).2;have HO1:=hid hown1;have HC1:=hid hch;have HG1:=hid hg;clear hown1 hch hg))
 go_end0
 obtain ⟨lab',r1,r2⟩:=HRES.out _ w3 g cp HO1.out HC1.out HG1.out
 rw [hb] at r1
 exact ⟨rfl,⟨lab',_,r1⟩,r2⟩
end
section
variable{M:Nat->Nat->Prop}{D D0:Nat->Prop}{lab lab':Nat->Nat×Nat}{w W:World}{br sb bs:Nat}{tv ov tv' ov':Value}{st st':RS}{ms:List HM}
theorem RMach.updB(h:RMach D lab w br sb bs tv ov st ms)(hs':st'.hs=st.hs)(hc:Chg M w W)(hM: ∀k j,k<w.heap.size->M k j->lab k=(0,1)\/lab k=(0,2)\/lab k=(0,3)\/(k=br/\(j=1\/j=2\/j=3)))(hlab: ∀k,k<w.heap.size->lab' k=lab k)
  (c1:W.cell? ⟨br,1,none⟩=some tv') (c2:W.cell? ⟨br,2,none⟩=some (.int .i64 st'.cells)) (c3:W.cell? ⟨br,3,none⟩=some ov') (mS:MapIs W sb (shF st'.shared) st'.shared.length)
  (trow:W.ownsRow 0 85 1 tv' st'.threads.length (st'.threads.map (idP (Qu ms)))) (orow:W.ownsRow 0 207 1 ov' st'.opn.length (st'.opn.map (idV (Qu ms))))
  (ltv: ∀g,tv'.ownBlock=some g->lab' g=(0,2)/\D g) (lov: ∀g,ov'.ownBlock=some g->lab' g=(0,3)/\D g):RMach D lab' W br sb bs tv' ov' st' ms:=by
 have lbr:=Qd h.sh
 have no: ∀k i x,k<w.heap.size->lab k=(i+1,x)->∀j,¬M k j:=λk i x hk e j hm=>by
  rcases hM k j hk hm with q|q|q|⟨rfl,_⟩
  ·rw [e] at q;simp at q
  ·rw [e] at q;simp at q
  ·rw [e] at q;simp at q
  ·rw [h.lbr.1] at e;simp at e
 have kb: ∀j,j=0\/j=4->¬M br j:=λj hj hm=>by
  rcases hM br j lbr hm with q|q|q|⟨_,q⟩
  ·rw [h.lbr.1] at q;simp at q
  ·rw [h.lbr.1] at q;simp at q
  ·rw [h.lbr.1] at q;simp at q
  ·omega
 have nbs: ∀j,¬M bs j:=λj hm=>by
  rcases hM bs j h.mG.lt hm with q|q|q|⟨q,_⟩
  ·rw [h.lbs.1] at q;simp at q
  ·rw [h.lbs.1] at q;simp at q
  ·rw [h.lbs.1] at q;simp at q
  ·have:=h.lbs.1;rw [q,h.lbr.1] at this;simp at this
 exact {
  sh:=(hc.shape _ lbr).trans h.sh,c0:=(hc.cell _ _ lbr (kb 0 (.inl rfl))).trans h.c0,c1:=c1,c2:=c2,c3:=c3,c4:=(hc.cell _ _ lbr (kb 4 (.inr rfl))).trans h.c4
  free:=λj=>(hc.frozen _ _ lbr).trans (h.free j)
  mS:=mS
  mG:=h.mG.keep hc nbs
  trow:=trow,orow:=orow
  hd:=λi hi=>by
   have hd:=h.hd i hi
   have l:=h.lhd i hi
   exact hd.keep hc (no _ _ _ (Qd hd.sh) l.b.1) (λg hg=>no g _ _ (hd.row.lt g hg).2 (l.rv g hg).1) (λht=>no _ _ _ (hd.mblt ht) (l.mb ht).1)
  hs:=h.hs.trans hs'.symm
  lbr:=⟨(hlab _ lbr).trans h.lbr.1,h.lbr.2⟩
  lsb:=⟨(hlab _ h.mS.lt).trans h.lsb.1,h.lsb.2⟩
  ltv:=ltv,lov:=lov
  lbs:=⟨(hlab _ h.mG.lt).trans h.lbs.1,h.lbs.2⟩
  lhd:=λi hi=>by
   have hd:=h.hd i hi
   have l:=h.lhd i hi
   exact ⟨⟨(hlab _ (Qd hd.sh)).trans l.b.1,l.b.2⟩,λg hg=>⟨(hlab _ (hd.row.lt g hg).2).trans (l.rv g hg).1,(l.rv g hg).2⟩,λht=>⟨(hlab _ (hd.mblt ht)).trans (l.mb ht).1,(l.mb ht).2⟩⟩}
theorem zd3{k':Nat}{l l':Nat×Nat}(h:lab k=l)(h':lab k'=l')(hl:l≠l'):k≠k':=λe=>hl (by rw [<-h,<-h',e])
theorem RMach.push(h:RMach D lab w br sb bs tv ov st ms)(hD: ∀k,w.heap.size<=k->D k)(x:Nat)(o:Obj)
  (ho:w3.ownsRow 0 207 1 (.slice (some ⟨g,0,none⟩) (st.opn.length+1) cp) (st.opn.length+1) (st.opn.map (idV (Qu ms))++[idV (Qu ms) x]))
  (hc:Chg (λk _=>ov.ownBlock=some k) (w.alloc o) w3) (hg:ov.ownBlock=some g\/g=(w.alloc o).heap.size):
  ∃lab',RMach D lab' (w3.setCell ⟨br,3,none⟩ (.slice (some ⟨g,0,none⟩) (st.opn.length+1) cp)) br sb bs tv (.slice (some ⟨g,0,none⟩) (st.opn.length+1) cp) {st with opn:=st.opn++[x]} ms/\Chg (λk _=>D k) w (w3.setCell ⟨br,3,none⟩ (.slice (some ⟨g,0,none⟩) (st.opn.length+1) cp)):=by
 have lb:=Qd h.sh
 have hsz:(w.alloc o).heap.size=w.heap.size+1:=yl6
 have hc0:Chg (λk _=>ov.ownBlock=some k) w w3:=((Chg.refl _ w).alloc o).trans hc
 have hset:Chg (λk j=>k=br/\j=3) w3 (w3.setCell ⟨br,3,none⟩ (.slice (some ⟨g,0,none⟩) (st.opn.length+1) cp)):=(Chg.refl _ w3).setCell (λ_=>⟨rfl,rfl⟩) _
 have hall:Chg (λk j=>ov.ownBlock=some k\/(k=br/\j=3)) w (w3.setCell ⟨br,3,none⟩ (.slice (some ⟨g,0,none⟩) (st.opn.length+1) cp)):=(hc0.mono (λ_ _ _ e=> .inl e)).trans (hset.mono (λ_ _ _ e=> .inr e))
 have nr: ¬ov.ownBlock=some br:=λe=>zd3 (h.lov _ e).1 h.lbr.1 yl6 rfl
 have hgb:g≠br:=ylx
 let lab':Nat->Nat×Nat:=λk=>if k=g then (0,3) else lab k
 have hold: ∀k,k<w.heap.size->lab' k=lab k:=by
  intro k hk
  show (if k=g then _ else _)=_
  by_cases e:k=g
  ·rw [if_pos e]
   rcases hg with hg|hg
   ·rw [e];exact ((h.lov g hg).1).symm
   ·omega
  ·rw [if_neg e]
 have nb: ∀j,j≠3->¬(ov.ownBlock=some br\/(br=br/\j=3)):=λj hj e=>e.elim nr (λe=>hj e.2)
 have nk: ∀k l,lab k=l->l≠(0,3)->l≠(0,0)->∀j,¬(ov.ownBlock=some k\/(k=br/\j=3)):=λk l hk h1 h2 j e=>by
  rcases e with e|e
  ·exact h1 (hk.symm.trans (h.lov k e).1)
  ·exact h2 (hk.symm.trans (e.1▸h.lbr.1))
 refine ⟨lab',h.updB (st':={st with opn:=st.opn++[x]}) rfl hall ?_ hold ((hall.cell _ _ lb (nb 1 yl5)).trans h.c1) ((hall.cell _ _ lb (nb 2 yl5)).trans h.c2) (Qg ((hc0.cell _ _ lb nr).trans h.c3) rfl) (h.mS.keep hall (nk _ _ h.lsb.1 yl6 yl6)) (Qc h.trow hall (λq hq=>nk _ _ (h.ltv q hq).1 yl6 yl6)) ?_ (λq hq=>⟨(hold _ (h.trow.lt q hq).2).trans (h.ltv q hq).1,(h.ltv q hq).2⟩) ?_,hall.mono ?_⟩
 ·rintro k j _ (e|⟨rfl,rfl⟩)
  ·exact .inr (.inr (.inl (h.lov k e).1))
  ·exact .inr (.inr (.inr ⟨rfl, .inr (.inr rfl)⟩))
 ·exact ykn
 ·intro q hq
  simp [Value.ownBlock] at hq
  subst hq
  refine ⟨if_pos rfl,?_⟩
  rcases hg with e|e
  ·exact (h.lov _ e).2
  ·exact hD _ yl5
 ·rintro k j _ (e|⟨rfl,_⟩)
  ·exact (h.lov k e).2
  ·exact h.lbr.2
end
section
variable{M:Nat->Nat->Prop}{D D0:Nat->Prop}{lab lab':Nat->Nat×Nat}{w W:World}{br sb bs bl bw:Nat}{n:Int}{ws:List ByteArray}{tv ov:Value}{st:RS}{ms:List HM}
theorem zhw{e:TypeId}{xs:List Value}(h:w.ownsRow 0 e 1 (.slice (some ⟨g,0,none⟩) (k+1) cp) (k+1) xs):w.ownsRow 0 e 1 (.slice (some ⟨g,0,none⟩) k cp) k (xs.take k):=by
 obtain ⟨hl,h2⟩:=h
 rcases h2 with ⟨h2,_⟩|⟨g',cap',cur,hv,hb,hg,hn,hm,hs,ht⟩
 ·cases h2
 ·obtain ⟨rfl,rfl⟩:g=g'/\cp=cap':=by simpa using hv
  refine ⟨by rw [List.length_take];omega, .inr ⟨g,cp,cur,rfl,hb,hg,by omega,hm,hs,?_⟩⟩
  rw [<-ht,List.take_take]
  congr 1
  omega
theorem RMach.pop(h:RMach D lab w br sb bs tv ov st ms)(ol:List Nat)(o:Nat)(hop:st.opn=ol++[o])(hov:ov= .slice (some ⟨g,0,none⟩) (ol.length+1) cp):
  RMach D lab (w.setCell ⟨br,3,none⟩ (.slice (some ⟨g,0,none⟩) ol.length cp)) br sb bs tv (.slice (some ⟨g,0,none⟩) ol.length cp) {st with opn:=ol} ms/\Chg (λk _=>D k) w (w.setCell ⟨br,3,none⟩ (.slice (some ⟨g,0,none⟩) ol.length cp)):=by
 subst hov
 have lb:=Qd h.sh
 have hset:Chg (λk j=>k=br/\j=3) w (w.setCell ⟨br,3,none⟩ (.slice (some ⟨g,0,none⟩) ol.length cp)):=(Chg.refl _ w).setCell (λ_=>⟨rfl,rfl⟩) _
 have nk: ∀k l,lab k=l->l≠(0,0)->∀j,¬(k=br/\j=3):=λk l hk h2 j e=>h2 (hk.symm.trans (e.1▸h.lbr.1))
 have hor:=h.orow
 rw [hop] at hor
 simp only [List.length_append,List.length_cons,List.length_nil] at hor
 have hor2:=zhw hor
 have ex:((ol++[o]).map (idV (Qu ms))).take ol.length=ol.map (idV (Qu ms)):=yl6
 rw [ex] at hor2
 refine ⟨h.updB (st':={st with opn:=ol}) rfl hset ?_ (λ_ _=>rfl) ((hset.cell _ _ lb yl5).trans h.c1) ((hset.cell _ _ lb yl5).trans h.c2) (Qg h.c3 rfl) (h.mS.keep hset (nk _ _ h.lsb.1 yl6)) (Qc h.trow hset (λq hq=>nk _ _ (h.ltv q hq).1 yl6)) (Qc hor2 hset (λq hq=>nk _ _ (h.lov q hq).1 yl6)) h.ltv h.lov,hset.mono (λk j _ e=>e.1▸h.lbr.2)⟩
 rintro k j _ ⟨rfl,rfl⟩
 exact .inr (.inr (.inr ⟨rfl, .inr (.inr rfl)⟩))
theorem zrl(hL:LineAt w bl n bw (u::us)):Cl 49 #[ptr br,ptr bl] w λe w'=>Fails 2 n bl w e w':=by
 have H:=hid hL
 clear hL
 go_enter Tryz.func49,Tryz.ntmps49
 go_wp2_with fail
 refine (zc0 H.out).mono ?_
 rintro e w1 ⟨bf,rfl,h1⟩
 exact ⟨rfl,bf,rfl,h1⟩
theorem zoe(h:RMach D lab w br sb bs tv ov st ms)(hL:LineAt w bl n bw [])(hlt:st.opn.length<2):Cl 49 #[ptr br,ptr bl] w λe w'=>Fails 3 n bl w e w':=by
 have c3:=h.c3
 obtain ⟨oa,ok,hov⟩: ∃a k,ov= .slice a st.opn.length k:=yjz
 rw [hov] at c3
 have hlt':(st.opn.length:Int)<2:=yl5
 have H:=hid hL
 clear hL h hov
 go_enter Tryz.func49,Tryz.ntmps49
 go_wp2_with fail
 refine (Eo H.out).mono ?_
 rintro e w1 ⟨rfl,rfl⟩
 go_wp2_with fail
 refine (Jv H.out 3).mono ?_
 rintro e w1 ⟨bf,rfl,h1⟩
 exact ⟨rfl,bf,rfl,h1⟩
theorem z0e(h:RMach D lab w br sb bs tv ov st ms)(hL:LineAt w bl n bw [])(ol:List Nat)(o:Nat)(hop:st.opn=ol++[o])(h1:0<ol.length)(h4:ol.length<1000):
  Cl 49 #[ptr br,ptr bl] w λe w'=>e= .returned (.tuple #[])/\(∃lab' ov' ms',RMach D lab' w' br sb bs tv ov' {st with opn:=ol} ms')/\Chg (λk _=>D k) w w':=by
 have hr:=h.orow
 rw [hop] at hr
 simp only [List.length_append,List.length_cons,List.length_nil] at hr
 obtain ⟨g,cp,hov,hcp⟩: ∃g cp,ov= .slice (some ⟨g,0,none⟩) (ol.length+1) cp/\ol.length+1<=cp:=yl0
 have r1:=h.below (w':=w.drew) (Qi _ w)
 have R:=hid (r1.pop ol o hop hov)
 have c3:=h.c3
 have f3:=h.free 3
 rw [hov] at c3
 have H:=hid hL
 have hlt': ¬(ol.length:Int)+1<2:=yl5
 have hw1:wrap64 ((ol.length:Int)+1- 1)=(ol.length:Int):=ymc
 have hw2:IntKind.i64.wrap (ol.length:Int)=(ol.length:Int):=ymd
 have hw3:(ol.length:Int)<=(cp:Int):=yl5
 clear h hL hr hov r1
 go_enter Tryz.func49,Tryz.ntmps49
 go_wp2_with fail
 refine (Eo H.out).mono ?_
 rintro e w1 ⟨rfl,rfl⟩
 go_wp2_with fail
 go_region
 all_goals
  go_wp2
  go_end0
  exact ⟨rfl,⟨lab,_,_,R.out.1⟩,((Chg.refl (λk _=>D k) _).drew).trans R.out.2⟩
end
section
variable{M:Nat->Nat->Prop}{D D0:Nat->Prop}{lab lab':Nat->Nat×Nat}{w W:World}{br sb bs bl bw:Nat}{n:Int}{ws:List ByteArray}{tv ov:Value}{st:RS}{ms:List HM}
def zmb(w:World)(b mb:Nat):Prop:=w.shape? b=some (92,3)/\w.cell? ⟨b,0,none⟩=some (.slice none 0 0)/\HkAt w b mb (.thr [] 0)/\ ∀j,w.frozen? ⟨b,j,none⟩=false
theorem RMach.newT(h:RMach D0 lab w br sb bs tv ov st ms)(he:st.entOk)(h0: ∀k,D0 k->D k)(b mb:Nat)(hb:zmb w b mb)(hD:D b)(hDm:D mb)(hn: ¬D0 b)(hnm: ¬D0 mb)(hbm:b≠mb):
  ∃lab',RMach D lab' w br sb bs tv ov {st with hs:=st.hs++[⟨.thr [] 0,[]⟩]} (ms++[⟨b, .slice none 0 0,mb,⟨.thr [] 0,[]⟩⟩]):=by
 let lab':Nat->Nat×Nat:=λk=>if k=b then (ms.length+1,0) else if k=mb then (ms.length+1,2) else lab k
 have hold: ∀k,D0 k->lab' k=lab k:=λk hk=>by
  show (if k=b then _ else if k=mb then _ else _)=_
  rw [if_neg (show ¬k=b from λe=>hn (e▸hk)),if_neg (show ¬k=mb from λe=>hnm (e▸hk))]
 have il:(Qu ms).length=st.hs.length:=h.idl
 have ids:Qu (ms++[⟨b, .slice none 0 0,mb,⟨.thr [] 0,[]⟩⟩])=Qu ms++[(hkT (.thr [] 0),b)]:=by simp [Qu]
 refine ⟨lab',{
  sh:=h.sh,c0:=h.c0,c1:=h.c1,c2:=h.c2,c3:=h.c3,c4:=h.c4,free:=h.free,mS:=h.mS,mG:=h.mG
  trow:=?_,orow:=?_,hd:=?_,hs:=?_
  lbr:=⟨(hold _ h.lbr.2).trans h.lbr.1,h0 _ h.lbr.2⟩
  lsb:=⟨(hold _ h.lsb.2).trans h.lsb.1,h0 _ h.lsb.2⟩
  ltv:=λg hg=>⟨(hold _ (h.ltv g hg).2).trans (h.ltv g hg).1,h0 _ (h.ltv g hg).2⟩
  lov:=λg hg=>⟨(hold _ (h.lov g hg).2).trans (h.lov g hg).1,h0 _ (h.lov g hg).2⟩
  lbs:=⟨(hold _ h.lbs.2).trans h.lbs.1,h0 _ h.lbs.2⟩
  lhd:=?_}⟩
 ·rw [ids]
  have e:st.threads.map (idP (Qu ms++[(hkT (.thr [] 0),b)]))=st.threads.map (idP (Qu ms)):=List.map_congr_left λj hj=>zqv _ _ j (by rw [il];exact he.2.1 j hj)
  rw [e]
  exact h.trow
 ·rw [ids]
  have e:st.opn.map (idV (Qu ms++[(hkT (.thr [] 0),b)]))=st.opn.map (idV (Qu ms)):=List.map_congr_left λj hj=>zjy _ _ j (by rw [il];exact he.2.2 j hj)
  rw [e]
  exact h.orow
 ·intro i hi
  rw [ids]
  by_cases hi':i<ms.length
  ·rw [List.getElem_append_left hi']
   have hd:=h.hd i hi'
   have e:ms[i].h.ents.map (enV (Qu ms++[(hkT (.thr [] 0),b)]))=ms[i].h.ents.map (enV (Qu ms)):=List.map_congr_left λx hx=>zrk _ _ x (λj hj=>by
    rw [il]
    exact he.1 ms[i].h yns j (hj▸hx))
   exact ⟨hd.sh,hd.rc,by rw [e];exact hd.row,hd.kind,hd.free⟩
  ·exact ykq
 ·simp [h.hs]
 ·intro i hi
  by_cases hi':i<ms.length
  ·exact yka
  ·obtain rfl:i=ms.length:=by simp at hi;omega
   rw [List.getElem_append_right (Nat.le_refl _)]
   simp only [Nat.sub_self,List.getElem_cons_zero]
   refine ⟨⟨if_pos rfl,hD⟩,λg hg=>by simp [Value.ownBlock] at hg,λ_=>⟨?_,hDm⟩⟩
   show (if mb=b then _ else if mb=mb then _ else _)=_
   rw [if_neg (λe=>hbm e.symm),if_pos rfl]
theorem RMach.pushT(h:RMach D lab w br sb bs tv ov st ms)(hD: ∀k,w.heap.size<=k->D k)(x:Nat)(o:Obj)
  (ho:w3.ownsRow 0 85 1 (.slice (some ⟨g,0,none⟩) (st.threads.length+1) cp) (st.threads.length+1) (st.threads.map (idP (Qu ms))++[idP (Qu ms) x]))
  (hc:Chg (λk _=>tv.ownBlock=some k) (w.alloc o) w3) (hg:tv.ownBlock=some g\/g=(w.alloc o).heap.size):
  ∃lab',RMach D lab' (w3.setCell ⟨br,1,none⟩ (.slice (some ⟨g,0,none⟩) (st.threads.length+1) cp)) br sb bs (.slice (some ⟨g,0,none⟩) (st.threads.length+1) cp) ov {st with threads:=st.threads++[x]} ms/\Chg (λk _=>D k) w (w3.setCell ⟨br,1,none⟩ (.slice (some ⟨g,0,none⟩) (st.threads.length+1) cp)):=by
 have lb:=Qd h.sh
 have hsz:(w.alloc o).heap.size=w.heap.size+1:=yl6
 have hc0:Chg (λk _=>tv.ownBlock=some k) w w3:=((Chg.refl _ w).alloc o).trans hc
 have hset:Chg (λk j=>k=br/\j=1) w3 (w3.setCell ⟨br,1,none⟩ (.slice (some ⟨g,0,none⟩) (st.threads.length+1) cp)):=(Chg.refl _ w3).setCell (λ_=>⟨rfl,rfl⟩) _
 have hall:Chg (λk j=>tv.ownBlock=some k\/(k=br/\j=1)) w (w3.setCell ⟨br,1,none⟩ (.slice (some ⟨g,0,none⟩) (st.threads.length+1) cp)):=(hc0.mono (λ_ _ _ e=> .inl e)).trans (hset.mono (λ_ _ _ e=> .inr e))
 have nr: ¬tv.ownBlock=some br:=λe=>zd3 (h.ltv _ e).1 h.lbr.1 yl6 rfl
 have hgb:g≠br:=ylx
 let lab':Nat->Nat×Nat:=λk=>if k=g then (0,2) else lab k
 have hold: ∀k,k<w.heap.size->lab' k=lab k:=by
  intro k hk
  show (if k=g then _ else _)=_
  by_cases e:k=g
  ·rw [if_pos e]
   rcases hg with hg|hg
   ·rw [e];exact ((h.ltv g hg).1).symm
   ·omega
  ·rw [if_neg e]
 have nb: ∀j,j≠1->¬(tv.ownBlock=some br\/(br=br/\j=1)):=λj hj e=>e.elim nr (λe=>hj e.2)
 have nk: ∀k l,lab k=l->l≠(0,2)->l≠(0,0)->∀j,¬(tv.ownBlock=some k\/(k=br/\j=1)):=λk l hk h1 h2 j e=>by
  rcases e with e|e
  ·exact h1 (hk.symm.trans (h.ltv k e).1)
  ·exact h2 (hk.symm.trans (e.1▸h.lbr.1))
 refine ⟨lab',h.updB (st':={st with threads:=st.threads++[x]}) rfl hall ?_ hold (Qg ((hc0.cell _ _ lb nr).trans h.c1) rfl) ((hall.cell _ _ lb (nb 2 yl5)).trans h.c2) ((hall.cell _ _ lb (nb 3 yl5)).trans h.c3) (h.mS.keep hall (nk _ _ h.lsb.1 yl6 yl6)) ?_ (Qc h.orow hall (λq hq=>nk _ _ (h.lov q hq).1 yl6 yl6)) ?_ (λq hq=>⟨(hold _ (h.orow.lt q hq).2).trans (h.lov q hq).1,(h.lov q hq).2⟩),hall.mono ?_⟩
 ·rintro k j _ (e|⟨rfl,rfl⟩)
  ·exact .inr (.inl (h.ltv k e).1)
  ·exact .inr (.inr (.inr ⟨rfl, .inl rfl⟩))
 ·exact ykn
 ·intro q hq
  simp [Value.ownBlock] at hq
  subst hq
  refine ⟨if_pos rfl,?_⟩
  rcases hg with e|e
  ·exact (h.ltv _ e).2
  ·exact hD _ yl5
 ·rintro k j _ (e|⟨rfl,_⟩)
  ·exact (h.ltv k e).2
  ·exact h.lbr.2
theorem z0f(w:World)(v:Value)(T:TypeId):(w.alloc (.cells #[v] T)).ownsRow 0 T 1 (.slice (some ⟨w.heap.size,0,none⟩) 1 1) 1 [v]:=
 ⟨rfl, .inr ⟨_,1,#[v],rfl,Nat.zero_le _,(show (w.heap.push _)[w.heap.size]?=_ from Array.getElem?_push_size),Nat.le_refl _,by unfold maxLen;omega,rfl,rfl⟩⟩
theorem RMach.setO(h:RMach D lab w br sb bs tv ov st ms)(hD: ∀k,w.heap.size<=k->D k)(x:Nat)(v:Value)(hv:idV (Qu ms) x=v):
  ∃lab',RMach D lab' ((w.alloc (.cells #[v] 207)).setCell ⟨br,3,none⟩ (.slice (some ⟨w.heap.size,0,none⟩) 1 1)) br sb bs tv (.slice (some ⟨w.heap.size,0,none⟩) 1 1) {st with opn:=[x]} ms/\Chg (λk _=>D k) w ((w.alloc (.cells #[v] 207)).setCell ⟨br,3,none⟩ (.slice (some ⟨w.heap.size,0,none⟩) 1 1)):=by
 have lb:=Qd h.sh
 have hall:Chg (λk j=>k=br/\j=3) w ((w.alloc (.cells #[v] 207)).setCell ⟨br,3,none⟩ (.slice (some ⟨w.heap.size,0,none⟩) 1 1)):=((Chg.refl (λk j=>k=br/\j=3) w).alloc _).setCell (λ_=>⟨rfl,rfl⟩) _
 have hset:Chg (λk j=>k=br/\j=3) (w.alloc (.cells #[v] 207)) ((w.alloc (.cells #[v] 207)).setCell ⟨br,3,none⟩ (.slice (some ⟨w.heap.size,0,none⟩) 1 1)):=(Chg.refl _ _).setCell (λ_=>⟨rfl,rfl⟩) _
 let lab':Nat->Nat×Nat:=λk=>if k=w.heap.size then (0,3) else lab k
 have hold: ∀k,k<w.heap.size->lab' k=lab k:=λk hk=>if_neg yl5
 have nk: ∀k l,lab k=l->l≠(0,0)->∀j,¬(k=br/\j=3):=λk l hk h2 j e=>h2 (hk.symm.trans (e.1▸h.lbr.1))
 refine ⟨lab',h.updB (st':={st with opn:=[x]}) rfl hall ?_ hold ((hall.cell _ _ lb yl5).trans h.c1) ((hall.cell _ _ lb yl5).trans h.c2) (Qg ((World.cell?_alloc_past _ _ _ lb).trans h.c3) rfl) (h.mS.keep hall (nk _ _ h.lsb.1 yl6)) (Qc h.trow hall (λq hq=>nk _ _ (h.ltv q hq).1 yl6)) ?_ (λq hq=>⟨(hold _ (h.trow.lt q hq).2).trans (h.ltv q hq).1,(h.ltv q hq).2⟩) ?_,hall.mono (λk j _ e=>e.1▸h.lbr.2)⟩
 ·rintro k j _ ⟨rfl,rfl⟩
  exact .inr (.inr (.inr ⟨rfl, .inr (.inr rfl)⟩))
 ·have:=Qc (z0f w v 207) hset (λk hk j e=>by simp [Value.ownBlock] at hk;omega)
  simpa [hv] using this
 ·intro q hq
  simp [Value.ownBlock] at hq
  subst hq
  exact ⟨if_pos rfl,hD _ (Nat.le_refl _)⟩
end
section
variable{D D0:Nat->Prop}{lab:Nat->Nat×Nat}{w W:World}{br sb bs bl bw:Nat}{n:Int}{ws:List ByteArray}{tv ov:Value}{st:RS}{ms:List HM}
def RS.newT(st:RS):RS:={st with hs:=st.hs++[⟨.thr [] 0,[]⟩],threads:=st.threads++[st.hs.length],opn:=[st.hs.length]}
abbrev Uz(w:World):World:=(w.alloc (.map #[] 0)).alloc (.cells #[.slice none 0 0, .map (some w.heap.size), .int .i64 0] 92)
theorem zj7(w:World):zmb (Uz w) (w.heap.size+1) w.heap.size:=by
 have hb:(Uz w).heap[w.heap.size+1]?=some (.cells #[.slice none 0 0, .map (some w.heap.size), .int .i64 0] 92):=by
  have:(Uz w).heap[(w.alloc (.map #[] 0)).heap.size]?=some (.cells #[.slice none 0 0, .map (some w.heap.size), .int .i64 0] 92):=Array.getElem?_push_size
  rw [show (w.alloc (.map #[] 0)).heap.size=w.heap.size+1 from by simp] at this
  exact this
 refine ⟨?_,?_,⟨?_,?_,?_⟩,?_⟩
 ·unfold World.shape?;rw [hb];rfl
 ·unfold World.cell?;rw [hb];rfl
 ·unfold World.cell?;rw [hb];rfl
 ·unfold World.cell?;rw [hb];rfl
 ·exact (zbr w).keep (M:=λ_ _=>False) ((Chg.refl _ _).alloc _) (λ_ e=>e)
 ·intro j
  unfold World.frozen?
  rw [hb]
  simp
theorem zhx(h:RMach D0 lab w br sb bs tv ov st ms)(he:st.entOk)(h0: ∀k,D0 k->D k)(hD: ∀k,w.heap.size<=k->D k)(hlt: ∀k,D0 k->k<w.heap.size):
  ∃lab1 ms1,RMach D lab1 (Uz w) br sb bs tv ov {st with hs:=st.hs++[⟨.thr [] 0,[]⟩]} ms1/\idP (Qu ms1) st.hs.length=ptr (w.heap.size+1)/\idV (Qu ms1) st.hs.length= .iface 85 (ptr (w.heap.size+1))/\Chg (λk _=>D k) w (Uz w):=by
 have hc:Chg (λ_ _=>False) w (Uz w):=((Chg.refl _ w).alloc _).alloc _
 have r0:=h.keep hc (λ_ _ _ e=>e)
 obtain ⟨lab1,r1⟩:=r0.newT (D:=D) he h0 (w.heap.size+1) w.heap.size (zj7 w) (hD _ yl5) (hD _ yl5) (λe=>by have:=hlt _ e;omega) (λe=>by have:=hlt _ e;omega) yl5
 refine ⟨lab1,_,r1,?_,?_,hc.mono (λ_ _ _ e=>e.elim)⟩
 ·rw [<-h.len]
  simp [idP,Qu]
 ·rw [<-h.len]
  simp [idV,Qu,hkT]
theorem zhy(hL:LineAt w bl n bw (u::us)):Cl 48 #[ptr br,ptr bl] w λe w'=>Fails 2 n bl w e w':=by
 have H:=hid hL
 clear hL
 go_enter Tryz.func48,Tryz.ntmps48
 go_wp2_with fail
 refine (zc0 H.out).mono ?_
 rintro e w1 ⟨bf,rfl,h1⟩
 exact ⟨rfl,bf,rfl,h1⟩
theorem RMach.openS(h:RMach D lab w br sb bs tv ov st ms): ∃a k,ov= .slice a st.opn.length k:=yjz
theorem RMach.threadS(h:RMach D lab w br sb bs tv ov st ms): ∃a k,tv= .slice a st.threads.length k:=by
 rcases h.trow.2 with ⟨e1,e2⟩|⟨g',cap',cur,e1,_⟩
 ·exact ⟨none,0,by rw [e1,e2]⟩
 ·exact ⟨_,_,e1⟩
theorem zgm(h:RMach D lab w br sb bs tv ov st ms)(hL:LineAt w bl n bw [])(hlt:1<st.opn.length):Cl 48 #[ptr br,ptr bl] w λe w'=>Fails 3 n bl w e w':=by
 have c3:=h.c3
 obtain ⟨oa,ok,hov⟩:=h.openS
 rw [hov] at c3
 have hlt':1<(st.opn.length:Int):=yl5
 have H:=hid hL
 clear hL h hov
 go_enter Tryz.func48,Tryz.ntmps48
 go_wp2_with fail
 refine (Eo H.out).mono ?_
 rintro e w1 ⟨rfl,rfl⟩
 go_wp2_with fail
 refine (Jv H.out 3).mono ?_
 rintro e w1 ⟨bf,rfl,h1⟩
 exact ⟨rfl,bf,rfl,h1⟩
theorem zof(h:RMach D0 lab w br sb bs tv ov st ms)(he:st.entOk)(h0: ∀k,D0 k->D k)(hD: ∀k,w.heap.size<=k->D k)(hD0: ∀k,D0 k->k<w.heap.size)(hL:LineAt w bl n bw [])(hle:st.opn.length<=1)(ht:st.threads.length<1000000):
  Cl 48 #[ptr br,ptr bl] w λe w'=>e= .returned (.tuple #[])/\(∃lab' tv' ov' ms',RMach D lab' w' br sb bs tv' ov' st.newT ms')/\Chg (λk _=>D k) w w':=by
 obtain ⟨lab1,ms1,r1,hp,hv,c1⟩:=zhx h he h0 hD hD0
 have cc3:=h.c3
 obtain ⟨oa,ok,hov⟩:=h.openS
 obtain ⟨ta,tk,htv⟩:=h.threadS
 subst htv
 have hle': ¬1<(st.opn.length:Int):=yl5
 have H:=hid hL
 have cT:=r1.c1
 have fT:=r1.free 1
 have hl1:st.threads.length+1<=maxLen:=ymb
 have hl2:(st.threads.length+1)*8<=140737488355328:=yl5
 obtain ⟨oi0,ohi,ohz0,ohz1,ohz2⟩:=info_parts zv3
 have hrow:=r1.trow
 have hpush:=λoo w9 g9 cp9=>r1.pushT (λk hk=>hD k (by have:=c1.size;omega)) st.hs.length oo (w3:=w9) (g:=g9) (cp:=cp9)
 simp only at hrow hpush
 rw [hp] at hpush
 have nr: ¬(Value.slice ta st.threads.length tk).ownBlock=some br:=λe=>zd3 (r1.ltv _ e).1 r1.lbr.1 yl6 rfl
 have lb:=Qd r1.sh
 have cO:=r1.c3
 have HO:=hid hrow
 have HP:=hid hpush
 have HCB:Hid (∀w9 oo,Chg (λk _=>(Value.slice ta st.threads.length tk).ownBlock=some k) ((Uz w).alloc oo) w9->w9.cell? ⟨br,1,none⟩=some (.slice ta st.threads.length tk)/\w9.frozen? ⟨br,1,none⟩=false/\(∀V o,((w9.setCell ⟨br,1,none⟩ V).alloc o).cell? ⟨br,3,none⟩=some ov)/\ ∀V o,((w9.setCell ⟨br,1,none⟩ V).alloc o).frozen? ⟨br,3,none⟩=false):=by
  refine hid (λw9 oo hch=>?_)
  have lb':br<((Uz w).alloc oo).heap.size:=by simp at lb⊢;omega
  have lb9:br<w9.heap.size:=Nat.lt_of_lt_of_le lb' hch.size
  refine ⟨(hch.cell _ _ lb' nr).trans ((World.cell?_alloc_past _ _ _ lb).trans cT),(hch.frozen _ _ lb').trans ((World.frozen?_alloc_past _ _ _ lb).trans fT),λV o=>?_,λV o=>?_⟩
  ·have hs:Chg (λk j=>k=br/\j=1) w9 ((w9.setCell ⟨br,1,none⟩ V).alloc o):=((Chg.refl _ w9).setCell (λ_=>⟨rfl,rfl⟩) V).alloc o
   exact (hs.cell _ _ lb9 yl5).trans ((hch.cell _ _ lb' nr).trans ((World.cell?_alloc_past _ _ _ lb).trans cO))
  ·have hs:Chg (λk j=>k=br/\j=1) w9 ((w9.setCell ⟨br,1,none⟩ V).alloc o):=((Chg.refl _ w9).setCell (λ_=>⟨rfl,rfl⟩) V).alloc o
   exact (hs.frozen _ _ lb9).trans ((hch.frozen _ _ lb').trans ((World.frozen?_alloc_past _ _ _ lb).trans (r1.free 3)))
 have C1:=hid c1
 have HD:=hid hD
 have HV:=hid hv
 have HC3:=hid cc3
 have HCT:=hid cT
 clear h hL he h0 hD hD0 r1 c1 hrow hpush nr lb cO hp hv cc3 cT fT
 have cc3:=HC3.out
 rw [hov] at cc3
 clear hov
 go_enter Tryz.func48,Tryz.ntmps48
 go_wp2_with fail
 refine (Eo H.out).mono ?_
 rintro e w1 ⟨rfl,rfl⟩
 have cT:=HCT.out
 have hone:=cell_one_new (Uz w1) (ptr (w1.heap.size+1)) 85
 rw [show (Uz w1).heap.size=w1.heap.size+1+1 from by simp [Uz]] at hone
 have hmm: ∀w:World,(Instr.makeMap 90 none).run Tryz.prog w= .ok (.map (some w.heap.size)) (w.alloc (.map #[] 0)):=λ_=>rfl
 go_wp2_with (at_builtin;refine Zk rfl _ _ 69 rfl 85 oi0 (.pointer none) 8 Tryz.underlying69 ohi ohz0 ohz1 ohz2 rfl (.slice ta st.threads.length tk) st.threads.length _ rfl (HO.out.alloc _) ⟨w1.heap.size+1+1,0,none⟩ (ptr (w1.heap.size+1)) rfl hone rfl hl1 hl2 ?_;go_must (intro g9 cp9 w9 hown1 hch hg;have hcb:=(HCB.out w9 _ hch).1;have hfb:=(HCB.out w9 _ hch).2.1;have hcb3:=(HCB.out w9 _ hch).2.2.1;have hfb3:=(HCB.out w9 _ hch).2.2.2;have HO1:=hid hown1;have HC1:=hid hch;have HG1:=hid hg;clear hown1 hch hg))
 all_goals
  go_end0
  obtain ⟨lab9,r9,c9⟩:=HP.out _ w9 g9 cp9 HO1.out HC1.out HG1.out
  have hsz:=C1.out.size
  have hsz9:=c9.size
  obtain ⟨lab10,r10,c10⟩:=r9.setO (λk hk=>HD.out k yl5) st.hs.length _ HV.out
  rw [show (w9.setCell ⟨br,1,none⟩ (.slice (some ⟨g9,0,none⟩) (st.threads.length+1) cp9)).heap.size=w9.heap.size from by simp] at r10 c10
  exact ⟨rfl,⟨lab10,_,_,_,r10⟩,(C1.out.trans c9).trans c10⟩
end
end Go.Proofs.YtiiepngikigmbaaGreatDoor
