import Derived.Test.YtiiepngikigmbaaGreatDoorP43
namespace Go.Proofs.YtiiepngikigmbaaGreatDoor
open Go.RowKit
variable{st st':RS}{cb f l p t:Nat}{m r:Nat->Int}{k:Bk}{C n1 nb:Int}{qb qs:List Kd}{α:Type}{x:Cx}{F:Nat->Bool}{s:ByteArray}
section
variable{x:Cx}{c:List Ic}{D:(Nat->Int)->Prop}{N tp:Nat}
theorem ygk{l:List Bool}(h:bAt l t=true):t<l.length:=by
 rcases Nat.lt_or_ge t l.length with h'|h'
 ·exact h'
 ·unfold bAt at h
  rw [List.getElem?_eq_none h'] at h
  cases h
theorem z9a(hx:x.Fit)(a:Int)(b:Nat)(hab:a=(b:Int))(v:Nat->Vl): ∀(l:List Bool) (i p p0:Nat) (m:Nat->Int),b+i+l.length<=39->Cod c tp p (z7l (λi _=>[fin (z7p (Nm 0) (x.o+(a+(i:Nat))) (v i))]) l i p0) ->
  (∀m',(∀j,j<x.ob+b+i\/x.ob+b+i+l.length<=j->m' j=m j)->(∀t,bAt l t=true->m' (x.ob+b+i+t)=vof (v (i+t)) r)->z7z c D N (p+(z7l (λi _=>[fin (z7p (Nm 0) (x.o+(a+(i:Nat))) (v i))]) l i p0).length) r m')->z7z c D (N+l.length) p r m
 |[],_,_,_,m,_,_,hn=>hn m (λ_ _=>rfl) (λt ht=>by have:=ygk ht;simp at this)
 |e::l,i,p,p0,m,hb,h,hn=>by
  have hob:=z9l hx
  simp only [List.length_cons] at hb hn
  simp only [z7l] at h hn
  cases e with
  |false=>
   rw [if_neg yl8] at h hn
   simp only [List.nil_append,List.length_nil,Nat.add_zero] at h hn
   refine z7i (n:=N+l.length) yl6 (z9a hx a b hab v l (i+1) p p0 m yl5 h λm' h1 h2=>hn m' (λj hj=>h1 j yl5) λt ht=>?_)
   cases t with
   |zero=>cases ht
   |succ t=>
    have:=h2 t ht
    rw [show x.ob+b+i+(t+1)=x.ob+b+(i+1)+t by omega,show i+(t+1)=i+1+t by omega]
    exact this
  |true=>
   rw [if_pos rfl] at h hn
   obtain ⟨h0,h⟩:=h.app
   rw [List.length_append] at hn
   refine z8d (n:=N+l.length) (x.ob+b+i) h0.at.1 (adr _ (by rw [z70,yaw,hab];omega) yl5) yl5 ?_
   refine z9a hx a b hab v l (i+1) (p+1) _ _ yl5 h λm' h1 h2=>?_
   have:=hn m' (λj hj=>by rw [h1 j yl5,z7j yl5]) λt ht=>?_
   ·rw [show p+1+_=p+(1+_) from Nat.add_assoc _ _ _]
    exact this
   ·cases t with
    |zero=>
     rw [Nat.add_zero,h1 _ (.inl yl5),z9e]
     rfl
    |succ t=>
     rw [show x.ob+b+i+(t+1)=x.ob+b+(i+1)+t by omega,show i+(t+1)=i+1+t by omega]
     exact h2 t ht
theorem yb4(hx:x.Fit): ∀(l:List Bool) (i p p0:Nat) (r:Nat->Int),i+l.length<=4->Cod c tp p (z7l (λi _=>[fin (z7q i (Nm 0) (x.o+(32+(i:Nat))))]) l i p0) ->
  (∀r',(∀j,4<=j->r' j=r j)->z7z c D N (p+(z7l (λi _=>[fin (z7q i (Nm 0) (x.o+(32+(i:Nat))))]) l i p0).length) r' m)->z7z c D (N+l.length) p r m
 |[],_,_,_,r,_,_,hn=>hn r λ_ _=>rfl
 |e::l,i,p,p0,r,hb,h,hn=>by
  have hob:=z9l hx
  simp only [List.length_cons] at hb
  simp only [z7l] at h hn
  cases e with
  |false=>
   rw [if_neg yl8] at h hn
   simp only [List.nil_append,List.length_nil,Nat.add_zero] at h hn
   exact z7i (n:=N+l.length) yl6 (yb4 hx l (i+1) p p0 r yl5 h hn)
  |true=>
   rw [if_pos rfl] at h hn
   obtain ⟨h0,h⟩:=h.app
   rw [List.length_append] at hn
   refine z8c (n:=N+l.length) (x.ob+32+i) h0.at.1 (adr _ ymn yl5) yl5 ?_
   refine yb4 hx l (i+1) (p+1) _ _ yl5 h λr' h1=>?_
   rw [show p+1+_=p+(1+_) from Nat.add_assoc _ _ _]
   exact hn r' λj hj=>by rw [h1 j hj,z7g yl5]
theorem yhf(hx:x.Fit)(hk:k.New)(hC:C<=1000000000)(hM:MI C m)(h:Cod c tp p (x.qBegin k))
  (hn: ∀r' m',PreA x (some k) 0 C r' m'->Rnd x 3 m m'->z7z c D N (p+(x.qBegin k).length) r' m'):z7z c D (N+23) p r m:=by
 unfold Cx.qBegin at h hn
 obtain ⟨a1,h⟩:=h.app
 obtain ⟨a2,h⟩:=h.app
 obtain ⟨a3,h⟩:=h.app
 obtain ⟨a4,h⟩:=h.app
 obtain ⟨a5,a6⟩:=h.app
 simp only [List.length_append] at hn
 have ho:13<=x.ob:=ymh
 refine z7i (n:=N+1+k.gets.length+k.puts.length+2+k.chgs.length+k.chgs.length) (by rw [hk.g,hk.p,hk.c];omega) ?_
 refine z9a hx 32 32 rfl (λi=>Rg i) k.chgs 0 p 0 m (by rw [hk.c];omega) a1 λm1 e1 _=>?_
 refine yb4 hx k.chgs 0 _ 0 r (by rw [hk.c];omega) a2 λr1 f1=>?_
 obtain ⟨c0,a3⟩:=a3.at
 obtain ⟨c1,_⟩:=a3.at
 refine z8c 12 c0 (adr _ (by rw [z70];rfl) yl5) yl5 (yf9 c1 ?_)
 rw [z7u,z70,z7m]
 have e12:m1 12=m 12:=e1 12 (.inl yl5)
 have h0:=hM.1
 have hc:=hM.2.1
 rw [w64 _ (by rw [e12];omega) (by rw [e12];omega)]
 have f2:setr (setr r1 6 (m1 12)) 6 (m1 12+1) 6=m 12+1:=by rw [z7m,e12]
 generalize setr (setr r1 6 (m1 12)) 6 (m1 12+1)=r2 at*
 refine z9a hx 6 6 rfl (λ_=>Nm 0) k.puts 0 _ 0 m1 (by rw [hk.p];omega) a4 λm2 e2 _=>?_
 refine z9a hx 12 12 rfl (λ_=>Nm 0) k.gets 0 _ 0 m2 (by rw [hk.g];omega) a5 λm3 e3 z3=>?_
 rw [hk.c] at e1
 rw [hk.p] at e2
 rw [hk.g] at e3
 refine yf7 a6.at.1 ?_
 have hlow: ∀j,j<13->m3 j=m j:=λj hj=>by rw [e3 j yl5,e2 j yl5,e1 j yl5]
 have:=hn (setr r2 7 (vof (Nm 0) r2)) m3 ⟨hM.of hlow,λk' ek=>?_⟩ λj hj=>by rw [e3 _ yl5,e2 _ yl5,e1 _ yl5]
 ·simpa [Nat.add_assoc] using this
 ·obtain rfl:=Option.some.inj ek
  refine ⟨by rw [z7g yl8,f2,hlow 12 yl5],by rw [z7m];exact Int.le_refl _,by rw [z7m];exact Int.le_refl _,λi hi g1 _=> .inl ?_⟩
  have:=z3 i g1
  simpa [z70] using this
structure LK(x:Cx)(F:Nat->Bool)(i:Nat)(r m:Nat->Int):Prop where
 late:r 6=m 12+1
 ver: ∀j,j<6->m (6+j)<=m 12\/(j<i/\F j=true/\m (x.ob+6+j)≠0)
def yjj(x:Cx)(m m':Nat->Int):Prop:=m' 12=m 12/\ ∀j,13<=j->j<x.ob+18\/x.ob+24<=j->m' j=m j
theorem yb5(hx:x.Fit): ∀(l:List Bool) (i p:Nat) (r m:Nat->Int),i+l.length<=6->(∀t,t<l.length->F (i+t)=bAt l t)->Cod c tp p (z7l (x.qLock z7t) l i p)->LK x F i r m ->
  (∀r' m',LK x F (i+l.length) r' m'->yjj x m m'->r' 7=r 7->z7z c D N (p+(z7l (x.qLock z7t) l i p).length) r' m')->z7z c D (N+8*l.length) p r m
 |[],_,_,r,m,_,_,_,hL,hn=>hn r m hL ⟨rfl,λ_ _ _=>rfl⟩ rfl
 |e::l,i,p,r,m,hb,hF,h,hL,hn=>by
  have hob:=z9l hx
  have ho:13<=x.ob:=ymh
  simp only [List.length_cons] at hb hn
  simp only [z7l] at h hn
  have hF': ∀t,t<l.length->F (i+1+t)=bAt l t:=λt ht=>by
   have:=hF (t+1) (by simpa using ht)
   rw [show i+1+t=i+(t+1) by omega]
   exact this
  have hF0:F i=e:=hF 0 yl6
  rw [show i+(l.length+1)=i+1+l.length by omega] at hn
  have up: ∀{r m},LK x F i r m->LK x F (i+1) r m:=λh=>⟨h.late,λj hj=>(h.ver j hj).imp id λq=>⟨by omega,q.2⟩⟩
  cases e with
  |false=>
   rw [if_neg yl8] at h hn
   simp only [List.nil_append,List.length_nil,Nat.add_zero] at h hn
   exact z7i (n:=N+8*l.length) yma (yb5 hx l (i+1) p r m yl5 hF' h (up hL) hn)
  |true=>
   rw [if_pos rfl] at h hn
   obtain ⟨h0,h⟩:=h.app
   rw [List.length_append] at hn
   have hlen:(x.qLock z7t i p).length=8:=rfl
   rw [hlen] at h hn
   have goOn: ∀r1 m1,LK x F (i+1) r1 m1->yjj x m m1->r1 7=r 7->z7z c D (N+8*l.length) (p+8) r1 m1:=λr1 m1 hL1 hS1 h7=>by
    refine yb5 hx l (i+1) (p+8) r1 m1 yl5 hF' h hL1 λr' m' q1 q2 q3=>?_
    rw [Nat.add_assoc]
    exact hn r' m' q1 ⟨q2.1.trans hS1.1,λj hj hj2=>(q2.2 j hj hj2).trans (hS1.2 j hj hj2)⟩ (q3.trans h7)
   refine z7i (n:=(N+8*l.length)+8) yma ?_
   unfold Cx.qLock at h0
   obtain ⟨c0,h0⟩:=h0.at
   obtain ⟨c1,h0⟩:=h0.at
   obtain ⟨c2,h0⟩:=h0.at
   obtain ⟨c3,h0⟩:=h0.at
   obtain ⟨⟨_,c4⟩,h0⟩:=h0.jz
   obtain ⟨c5,h0⟩:=h0.at
   obtain ⟨c6,h0⟩:=h0.at
   obtain ⟨⟨_,c7⟩,_⟩:=h0.jz
   refine z8c (x.ob+6+i) c0 (adr _ ymn yl5) yl5 ?_
   by_cases hz:m (x.ob+6+i)=0
   ·refine yav c1 ym3 (z7i (n:=N+8*l.length) yl5 ?_)
    refine goOn _ m (up ⟨by rw [z7g yl8];exact hL.late,hL.ver⟩) ⟨rfl,λ_ _ _=>rfl⟩ (z7g yl8)
   ·refine z89 c1 ym3 ?_
    refine z8c (6+i) c2 (adr _ ym6 yl5) yl5 (ygi c3 ?_)
    have hv:m (6+i)<r 6:=by
     rw [hL.late]
     rcases hL.ver i yl5 with q|q
     ·omega
     ·omega
    rw [z7u,z7u,z7m,z7g (show 6≠5 by decide),z7g (show 6≠4 by decide),if_pos hv]
    refine z89 c4 ymr ?_
    have g5:setr (setr (setr r 4 (m (x.ob+6+i))) 5 (m (6+i))) 4 1 5=m (6+i):=by rw [z7g yl8,z7m]
    have g6:setr (setr (setr r 4 (m (x.ob+6+i))) 5 (m (6+i))) 4 1 6=r 6:=ynx
    have g7:setr (setr (setr r 4 (m (x.ob+6+i))) 5 (m (6+i))) 4 1 7=r 7:=ynx
    generalize setr (setr (setr r 4 (m (x.ob+6+i))) 5 (m (6+i))) 4 1=r1 at*
    refine z8d (x.ob+18+i) c5 (adr _ ymn yl5) yl5 ?_
    refine yjd (6+i) c6 (adr _ ym6 yl5) yl5 (by rw [z7j yl5,z7u,g5]) ?_
    refine z89 c7 ymr ?_
    rw [z70]
    have e12:z60 (z60 m (x.ob+18+i) (vof (Rg 5) r1)) (6+i) (9223372036854775807- (x.th:Int)) 12=m 12:=by rw [z7j yl5,z7j yl5]
    refine goOn _ _ ⟨by rw [z7g yl8,g6,e12];exact hL.late,λj hj=>?_⟩ ⟨e12,λj hj hj2=>by rw [z7j yl5,z7j yl5]⟩ (by rw [z7g yl8,g7])
    rw [e12]
    by_cases ej:j=i
    ·subst ej
     exact .inr ⟨by omega,hF0,by rw [z7j yl5,z7j yl5];exact hz⟩
    ·rw [z7j yl5,z7j yl5,z7j yl5,z7j yl5]
     exact (hL.ver j hj).imp id λq=>⟨by omega,q.2⟩
theorem yb6(hx:x.Fit): ∀(l:List Bool) (i p:Nat) (r:Nat->Int),i+l.length<=6->(∀t,bAt l t=true->m (x.ob+12+(i+t))≠0->m (6+(i+t))<r 6)->Cod c tp p (z7l (x.qLook z7t) l i p) ->
  (∀r',(∀j,j≠4->r' j=r j)->z7z c D N (p+(z7l (x.qLook z7t) l i p).length) r' m)->z7z c D (N+5*l.length) p r m
 |[],_,_,r,_,_,_,hn=>hn r λ_ _=>rfl
 |e::l,i,p,r,hb,hG,h,hn=>by
  have hob:=z9l hx
  simp only [List.length_cons] at hb
  simp only [z7l] at h hn
  have hG': ∀{r':Nat->Int},r' 6=r 6->∀t,bAt l t=true->m (x.ob+12+(i+1+t))≠0->m (6+(i+1+t))<r' 6:=λ{r'} h6 t ht hm=>by
   rw [h6]
   have:=hG (t+1) ht
   rw [show i+(t+1)=i+1+t by omega] at this
   exact this hm
  cases e with
  |false=>
   rw [if_neg yl8] at h hn
   simp only [List.nil_append,List.length_nil,Nat.add_zero] at h hn
   exact z7i (n:=N+5*l.length) yma (yb6 hx l (i+1) p r yl5 (hG' rfl) h hn)
  |true=>
   rw [if_pos rfl] at h hn
   obtain ⟨h0,h⟩:=h.app
   rw [List.length_append] at hn
   have hlen:(x.qLook z7t i p).length=5:=rfl
   rw [hlen] at h hn
   have goOn: ∀r1,(∀j,j≠4->r1 j=r j)->z7z c D (N+5*l.length) (p+5) r1 m:=λr1 h1=>by
    refine yb6 hx l (i+1) (p+5) r1 yl5 (hG' (h1 6 yl8)) h λr' q1=>?_
    rw [Nat.add_assoc]
    exact hn r' λj hj=>(q1 j hj).trans (h1 j hj)
   refine z7i (n:=(N+5*l.length)+5) yma ?_
   unfold Cx.qLook at h0
   obtain ⟨c0,h0⟩:=h0.at
   obtain ⟨c1,h0⟩:=h0.at
   obtain ⟨c2,h0⟩:=h0.at
   obtain ⟨c3,h0⟩:=h0.at
   obtain ⟨⟨_,c4⟩,_⟩:=h0.jz
   refine z8c (x.ob+12+i) c0 (adr _ ymn yl5) yl5 ?_
   by_cases hz:m (x.ob+12+i)=0
   ·exact yav c1 ym3 (z7i (n:=N+5*l.length) yl5 (goOn _ λj hj=>z7g hj))
   ·refine z89 c1 ym3 ?_
    refine z8c (6+i) c2 (adr _ ym6 yl5) yl5 (ygi c3 ?_)
    have hv:m (6+i)<r 6:=hG 0 rfl hz
    rw [z7u,z7u,z7m,z7g (show 6≠4 by decide),z7g (show 6≠4 by decide),if_pos hv]
    refine z89 c4 ymr (goOn _ λj hj=>by rw [z7g hj,z7g hj,z7g hj])
structure SK(x:Cx)(F:Nat->Bool)(i:Nat)(r m:Nat->Int):Prop where
 new:r 5=m 12
 ver: ∀j,j<6->m (6+j)<=m 12\/(i<=j/\F j=true/\m (x.ob+6+j)≠0)
theorem ye3(hx:x.Fit): ∀(l:List Bool) (i p:Nat) (r m:Nat->Int),i+l.length<=6->(∀t,t<l.length->F (i+t)=bAt l t)->Cod c tp p (z7l x.qStore l i p)->SK x F i r m ->
  (∀r' m',SK x F (i+l.length) r' m'->(∀j,12<=j->m' j=m j)->r' 7=r 7->z7z c D N (p+(z7l x.qStore l i p).length) r' m')->z7z c D (N+5*l.length) p r m
 |[],_,_,r,m,_,_,_,hL,hn=>hn r m hL (λ_ _=>rfl) rfl
 |e::l,i,p,r,m,hb,hF,h,hL,hn=>by
  have hob:=z9l hx
  have ho:13<=x.ob:=ymh
  simp only [List.length_cons] at hb hn
  simp only [z7l] at h hn
  have hF': ∀t,t<l.length->F (i+1+t)=bAt l t:=λt ht=>by
   have:=hF (t+1) (by simpa using ht)
   rw [show i+1+t=i+(t+1) by omega]
   exact this
  have hF0:F i=e:=hF 0 yl6
  rw [show i+(l.length+1)=i+1+l.length by omega] at hn
  have skip: ∀{r m},SK x F i r m->(F i=false\/m (x.ob+6+i)=0)->SK x F (i+1) r m:=λh hz=>⟨h.new,λj hj=>by
   rcases h.ver j hj with q|⟨q1,q2,q3⟩
   ·exact .inl q
   ·refine .inr ⟨?_,q2,q3⟩
    rcases Nat.lt_or_ge i j with q|q
    ·exact q
    ·obtain rfl:i=j:=by omega
     rcases hz with hz|hz
     ·rw [hz] at q2;cases q2
     ·exact absurd hz q3⟩
  cases e with
  |false=>
   rw [if_neg yl8] at h hn
   simp only [List.nil_append,List.length_nil,Nat.add_zero] at h hn
   exact z7i (n:=N+5*l.length) yma (ye3 hx l (i+1) p r m yl5 hF' h (skip hL (.inl hF0)) hn)
  |true=>
   rw [if_pos rfl] at h hn
   obtain ⟨h0,h⟩:=h.app
   rw [List.length_append] at hn
   have hlen:(x.qStore i p).length=5:=rfl
   rw [hlen] at h hn
   have goOn: ∀r1 m1,SK x F (i+1) r1 m1->(∀j,12<=j->m1 j=m j)->r1 7=r 7->z7z c D (N+5*l.length) (p+5) r1 m1:=λr1 m1 hL1 hS1 h7=>by
    refine ye3 hx l (i+1) (p+5) r1 m1 yl5 hF' h hL1 λr' m' q1 q2 q3=>?_
    rw [Nat.add_assoc]
    exact hn r' m' q1 (λj hj=>(q2 j hj).trans (hS1 j hj)) (q3.trans h7)
   refine z7i (n:=(N+5*l.length)+5) yma ?_
   unfold Cx.qStore at h0
   obtain ⟨c0,h0⟩:=h0.at
   obtain ⟨c1,h0⟩:=h0.at
   obtain ⟨c2,h0⟩:=h0.at
   obtain ⟨c3,h0⟩:=h0.at
   obtain ⟨c4,_⟩:=h0.at
   refine z8c (x.ob+6+i) c0 (adr _ ymn yl5) yl5 ?_
   by_cases hz:m (x.ob+6+i)=0
   ·refine yav c1 ym3 (z7i (n:=N+5*l.length) yl5 ?_)
    exact goOn _ m (skip ⟨by rw [z7g yl8];exact hL.new,hL.ver⟩ (.inr hz)) (λ_ _=>rfl) (z7g yl8)
   ·refine z89 c1 ym3 ?_
    refine z8c (x.ob+i) c2 (adr _ ymn yl5) yl5 ?_
    refine z8d i c3 (adr _ ym6 yl5) yl5 ?_
    refine z8d (6+i) c4 (adr _ ym6 yl5) yl5 ?_
    rw [z7u,z7u,z7g (show 5≠4 by decide),z7g (show 5≠4 by decide),hL.new]
    generalize setr (setr r 4 (m (x.ob+6+i))) 4 (m (x.ob+i)) 4=z
    have e12:z60 (z60 m i z) (6+i) (m 12) 12=m 12:=by rw [z7j yl5,z7j yl5]
    refine goOn _ _ ⟨by rw [z7g yl8,z7g yl8,e12];exact hL.new,λj hj=>?_⟩ (λj hj=>by rw [z7j yl5,z7j yl5]) (by rw [z7g yl8,z7g yl8])
    rw [e12]
    by_cases ej:j=i
    ·subst ej
     exact .inl (by rw [z9e];exact Int.le_refl _)
    ·rw [z7j yl5,z7j yl5,z7j yl5,z7j yl5]
     refine (hL.ver j hj).imp id λq=>⟨by omega,q.2⟩
end
section
variable{x:Cx}{c:List Ic}{D:(Nat->Int)->Prop}{N tp:Nat}
theorem yga(hx:x.Fit)(hk:k.New){n:Int}(hC:C<=1000000000)(hP:PreA x (some k) n C r m)(h:Cod c tp p (x.qCommit k p))
  (hn: ∀r' m',MI (C+1) m'->Rnd x 3 m m'->r' 7=r 7->z7z c D N (p+(x.qCommit k p).length) r' m'):z7z c D (N+112) p r m:=by
 have hob:=z9l hx
 have ho:13<=x.ob:=ymh
 have hB:=hP.2 k rfl
 obtain ⟨m0,m1,mv⟩:=hP.1
 unfold Cx.qCommit at h hn
 obtain ⟨h,hj⟩:=h.app
 unfold Cx.qCom at h
 obtain ⟨a1,h⟩:=h.app
 obtain ⟨a2,h⟩:=h.app
 obtain ⟨a3,h⟩:=h.app
 obtain ⟨a4,a5⟩:=h.app
 have hlen:(x.qCom z7t k p).length=(z7l (x.qLock z7t) k.puts 0 p).length+2+(z7l (x.qLook z7t) k.gets 0 (p+(z7l (x.qLock z7t) k.puts 0 p).length+2)).length+(z7l x.qStore k.puts 0 (p+(z7l (x.qLock z7t) k.puts 0 p).length+2+(z7l (x.qLook z7t) k.gets 0 (p+(z7l (x.qLock z7t) k.puts 0 p).length+2)).length)).length+1:=by
  unfold Cx.qCom
  simp only [List.length_append,List.length_cons,List.length_nil]
  omega
 rw [List.length_append,List.length_cons] at hn
 refine z7i (n:=N+2+5*k.puts.length+5*k.gets.length+2+8*k.puts.length) (by rw [hk.p,hk.g];omega) ?_
 refine yb5 hx (F:=bAt k.puts) k.puts 0 p r m (by rw [hk.p];omega) (λt _=>by rw [Nat.zero_add]) a1 ⟨hB.late,λj hj=> .inl (mv j hj)⟩ λr1 v1 hL hS h7=>?_
 rw [hk.p,Nat.zero_add] at hL
 obtain ⟨c0,a2⟩:=a2.at
 obtain ⟨c1,_⟩:=a2.at
 refine yij 12 c0 (adr _ (by rw [z70];rfl) yl5) yl5 (yf9 c1 ?_)
 rw [z7u,z70,z70,z7m,hS.1,w64 (m 12+1) yl5 yl5]
 have g5:setr (setr r1 5 (m 12)) 5 (m 12+1) 5=m 12+1:=z7m _ _ _
 have g6:setr (setr r1 5 (m 12)) 5 (m 12+1) 6=m 12+1:=by rw [z7g yl8,z7g yl8,hL.late,hS.1]
 have g7:setr (setr r1 5 (m 12)) 5 (m 12+1) 7=r 7:=by rw [z7g yl8,z7g yl8,h7]
 generalize setr (setr r1 5 (m 12)) 5 (m 12+1)=r2 at*
 have e2: ∀j,j≠12->z60 v1 12 (m 12+1) j=v1 j:=λj hj=>z7j hj
 have e12:z60 v1 12 (m 12+1) 12=m 12+1:=z9e _ _ _
 generalize z60 v1 12 (m 12+1)=v2 at*
 have own: ∀j,x.ob<=j->j<x.ob+18->v2 j=m j:=λj h1 h2=>by rw [e2 j yl5,hS.2 j yl5 (.inl h2)]
 have vv: ∀j,j<6->v2 (6+j)<=m 12\/(bAt k.puts j=true/\m (x.ob+6+j)≠0):=λj hj=>by
  rw [e2 (6+j) yl5]
  rcases hL.ver j hj with q|q
  ·rw [hS.1] at q;exact .inl q
  ·exact .inr ⟨q.2.1,by rw [<-own _ yl5 yl5,e2 _ yl5];exact q.2.2⟩
 rw [show p+(z7l (x.qLock z7t) k.puts 0 p).length+1+1=p+(z7l (x.qLock z7t) k.puts 0 p).length+2 from rfl]
 refine yb6 hx k.gets 0 _ r2 (by rw [hk.g];omega) (λt ht hm=>?_) a3 λr3 f3=>?_
 ·have ht6:t<6:=by have:=ygk ht;rw [hk.g] at this;exact this
  rw [Nat.zero_add] at hm⊢
  rw [own _ yl5 yl5] at hm
  rw [g6]
  rcases vv t ht6 with q|⟨q1,q2⟩
  ·omega
  ·rcases hB.ex t ht6 ht q1 with q|q
   ·exact absurd q hm
   ·exact absurd q q2
 refine ye3 hx (F:=bAt k.puts) k.puts 0 _ r3 v2 (by rw [hk.p];omega) (λt _=>by rw [Nat.zero_add]) a4 ⟨by rw [f3 5 yl8,g5,e12],λj hj=>?_⟩ λr4 v4 hT hU h74=>?_
 ·rw [e12]
  rcases vv j hj with q|⟨q1,q2⟩
  ·exact .inl yl5
  ·exact .inr ⟨by omega,q1,by rw [own _ yl5 yl5];exact q2⟩
 refine yhd a5.at.1 ?_
 rw [hlen] at hj hn
 have hj1:=hj.at.1
 rw [show p+((z7l (x.qLock z7t) k.puts 0 p).length+2+(z7l (x.qLook z7t) k.gets 0 (p+(z7l (x.qLock z7t) k.puts 0 p).length+2)).length+(z7l x.qStore k.puts 0 (p+(z7l (x.qLock z7t) k.puts 0 p).length+2+(z7l (x.qLook z7t) k.gets 0 (p+(z7l (x.qLock z7t) k.puts 0 p).length+2)).length)).length+1)=p+(z7l (x.qLock z7t) k.puts 0 p).length+2+(z7l (x.qLook z7t) k.gets 0 (p+(z7l (x.qLock z7t) k.puts 0 p).length+2)).length+(z7l x.qStore k.puts 0 (p+(z7l (x.qLock z7t) k.puts 0 p).length+2+(z7l (x.qLook z7t) k.gets 0 (p+(z7l (x.qLock z7t) k.puts 0 p).length+2)).length)).length+1 by omega] at hj1
 refine yf8 hj1 ?_
 have hm12:v4 12=m 12+1:=by rw [hU 12 yl5,e12]
 have:=hn r4 v4 ⟨by rw [hm12];omega,by rw [hm12];omega,λj hj=>?_⟩ (λj hj=>by rw [hU _ yl5,e2 _ yl5,hS.2 _ yl5 (.inr yl5)]) (by rw [h74,f3 7 yl8,g7])
 ·refine Eq.mp ?_ this
  congr 1
  omega
 ·rcases hT.ver j hj with q|q
  ·exact q
  ·rw [hk.p] at q;omega
theorem yil(hx:x.Fit)(h:Cod c tp p (x.qGive p)): ∀(d:Nat) (r:Nat->Int),0<=r 4->r 4+d=r 7->r 7<=8->(∀r',z7z c D N (p+7) r' m)->z7z c D (N+2+6*d) (p+1) r m:=by
 have hob:=z9l hx
 unfold Cx.qGive at h
 obtain ⟨_,h⟩:=h.at
 obtain ⟨c1,h⟩:=h.at
 obtain ⟨c2,h⟩:=h.at
 obtain ⟨c3,h⟩:=h.at
 obtain ⟨c4,h⟩:=h.at
 obtain ⟨c5,h⟩:=h.at
 obtain ⟨c6,_⟩:=h.at
 intro d
 induction d with
 |zero=>
  intro r h0 hd h8 hn
  refine ygi c1 ?_
  rw [z7u,z7u,if_neg yl5]
  exact yav c2 (by rw [z7u,z7m]) (hn _)
 |succ d ih=>
  intro r h0 hd h8 hn
  rw [show N+2+6*(d+1)=(N+2+6*d)+6 by omega]
  refine ygi c1 ?_
  rw [z7u,z7u,if_pos yl5]
  refine z89 c2 ymr ?_
  refine z8c (x.ob+24+(r 4).toNat) c3 (adr _ (by rw [z7u,z7g yl8,yaw];omega) yl5) yl5 ?_
  refine yii c4 (yf9 c5 (yf8 c6 ?_))
  rw [z7u,z70,z7g (show 4≠5 by decide),z7g (show 4≠5 by decide),w64 _ yl5 yl5]
  exact ih _ (by rw [z7m];omega) (by rw [z7m,z7g yl8,z7g yl8,z7g yl8];omega) (by rw [z7g yl8,z7g yl8,z7g yl8];exact h8) hn
def Sem(c:List Ic)(tp:Nat)(D:(Nat->Int)->Prop)(CF:Int)(x:Cx)(kb:Option Bk)(l:Nat)(p:Nat)(qs:List Kd)(cost:Nat)(cnt:Int):Prop:=
 Cod c tp p qs->∀(N:Nat) (r m:Nat->Int) (n C:Int),C+cost<=CF->(kb.isSome=true->n+cnt<=8)->PreA x kb n C r m ->
  (∀r' m',PreA x kb (n+cnt) (C+cost) r' m'->Rnd x l m m'->z7z c D N (p+qs.length) r' m')->z7z c D (N+cost) p r m
theorem Rnd.less{l':Nat}{m':Nat->Int}(h:Rnd x l m m')(hl:l'<=l):Rnd x l' m m':=λj hj=>h j yl5
section
variable{CF:Int}{kb:Option Bk}{l:Nat}
theorem z9t{c1 c2:Nat}(h:Sem c tp D CF x kb l p qs c1 n1)(hc:c1<=c2):Sem c tp D CF x kb l p qs c2 n1:=λhq N r m n C hC hn8 hP hn=>
 z7i (n:=N+c1) yl5 (h hq N r m n C yl5 hn8 hP λr' m' q1 q2=>hn r' m' (q1.mono (Int.le_refl _) yl5) q2)
theorem ygb(hx:x.Fit)(hD: ∀m,MI CF m->D m)(hu: ∀k,kb=some k->Uni x k){st:St}(hk:x.leafOk kb.isSome st)(p:Nat)(hl:l<=3):Sem c tp D CF x kb l p (x.qLeaf kb p st) 20 (isO st):=λhq N r m n C hC hn8 hP hn=>
 yik hx hu hk hn8 hP (λm hm=>hD m (hm.mono yl5)) hq λr' m' q1 q2=>hn r' m' (q1.mono (Int.le_refl _) yl5) (q2.less hl)
theorem z9b{q:En->Nat->List Kd}{cost:En->Nat}{cnt:En->Int}: ∀(es:List En) (p:Nat),(∀e∈es,0<=cnt e/\ ∀p,Sem c tp D CF x kb l p (q e p) (cost e) (cnt e))->Sem c tp D CF x kb l p (z8m q es p) (es.map cost).sum (es.map cnt).sum
 |[],p,_=>λ_ N r m n C hC _ hP hn=>hn r m (by simpa using hP) (Rnd.refl _ _ _)
 |e::es,p,h=>λhq N r m n C hC hn8 hP hn=>by
  simp only [z8m] at hq hn
  simp only [List.map_cons,List.sum_cons] at hC hn8 hn⊢
  obtain ⟨h1,h2⟩:=hq.app
  rw [List.length_append] at hn
  have hpos:0<=(es.map cnt).sum:=by
   have: ∀(l:List En),(∀e∈l,0<=cnt e)->0<=(l.map cnt).sum:=by
    intro l
    induction l with
    |nil=>intro _;exact Int.le_refl _
    |cons a r ih=>intro h;rw [List.map_cons,List.sum_cons];have:=h a yl6;have:=ih λe he=>h e (List.mem_cons_of_mem _ he);omega
   exact this es λe' he'=>(h e' (List.mem_cons_of_mem _ he')).1
  rw [show N+(cost e+(es.map cost).sum)=(N+(es.map cost).sum)+cost e by omega]
  refine (h e yl6).2 p h1 _ r m n C yl5 (λhb=>by have:=hn8 hb;omega) hP λr1 m1 q1 q2=>?_
  refine z9b es (p+(q e p).length) (λe' he'=>h e' (List.mem_cons_of_mem _ he')) h2 N r1 m1 (n+cnt e) (C+cost e) yl5 (λhb=>by have:=hn8 hb;omega) q1 λr2 m2 q3 q4=>?_
  rw [Nat.add_assoc]
  exact hn r2 m2 (q3.mono yl5 yl5) (q2.trans q4)
theorem yim{v:Vl}(hnb:0<=nb)(h:Sem c tp D CF x kb l (p+1) qb cb nb):Sem c tp D CF x kb l p (qIf v qb p) (cb+1) nb:=λhq N r m n C hC hn8 hP hn=>by
 unfold qIf at hq hn
 obtain ⟨c0,hq⟩:=hq.at
 simp only [List.length_cons] at hn
 rw [<-Nat.add_assoc]
 by_cases h0:vof v r=0
 ·refine yav c0 h0 (z7i (n:=N) yl5 ?_)
  have:=hn r m (hP.mono yl5 yl5) (Rnd.refl _ _ _)
  rw [show p+1+qb.length=p+(qb.length+1) by omega]
  exact this
 ·refine z89 c0 h0 (h hq N r m n C yl5 hn8 hP λr' m' q1 q2=>?_)
  rw [show p+1+qb.length=p+(qb.length+1) by omega]
  exact hn r' m' (q1.mono (Int.le_refl _) yl5) q2
theorem ygc(hx:x.Fit){k:Int}(hk:1<=k/\k<=4)(hl:l<=2)(hnb:0<=nb)(h:Sem c tp D CF x kb (l+1) (p+1) qb cb nb):Sem c tp D CF x kb l p (x.qLoop l k qb p) (4*cb+21) (k*nb):=λhq N r m n C hC hn8 hP hn=>by
 have hob:=z9l hx
 have ho:13<=x.ob:=ymh
 unfold Cx.qLoop at hq hn
 obtain ⟨c0,hq⟩:=hq.at
 obtain ⟨hb,hq⟩:=hq.app
 obtain ⟨c1,hq⟩:=hq.at
 obtain ⟨c2,hq⟩:=hq.at
 obtain ⟨c3,hq⟩:=hq.at
 obtain ⟨c4,hq⟩:=hq.at
 obtain ⟨c5,_⟩:=hq.at
 simp only [List.length_cons,List.length_append,List.length_nil] at hn
 -- j rounds are left
 have go: ∀(j:Nat) (r1 m1:Nat->Int) (n1 C1:Int),1<=j->j<=4->m1 (x.ob+36+l)=(j:Int)->C1+(j*(cb+5):Nat)<=C+(4*cb+20:Nat)->n1+(j:Int)*nb<=n+k*nb->PreA x kb n1 C1 r1 m1->Rnd x l m m1->z7z c D (N+j*(cb+5)) (p+1) r1 m1:=by
  intro j
  induction j with
  |zero=>intro _ _ _ _ h;omega
  |succ j ih=>
   intro r1 m1 n1 C1 _ hj4 hm hC1 hn1 hP1 hR1
   have ej:(j+1)*(cb+5)=j*(cb+5)+(cb+5):=Nat.succ_mul _ _
   have en:((j+1:Nat):Int)*nb=(j:Int)*nb+nb:=by rw [Int.natCast_add,Int.add_mul,Int.natCast_one,Int.one_mul]
   have hjn:0<=(j:Int)*nb:=Int.mul_nonneg yl5 hnb
   rw [ej] at hC1⊢
   rw [en] at hn1
   rw [show N+(j*(cb+5)+(cb+5))=(N+j*(cb+5)+5)+cb by omega]
   refine h hb _ r1 m1 n1 C1 yl5 (λhb=>by have:=hn8 hb;omega) hP1 λr2 m2 q1 q2=>?_
   have hm2:m2 (x.ob+36+l)=((j+1:Nat):Int):=(q2 l yl5).trans hm
   refine z8c (x.ob+36+l) c1 (adr _ ymn yl5) yl5 (yje c2 ?_)
   rw [z7u,z70,z7m,hm2,w64 _ yl5 yl5]
   refine z8d (x.ob+36+l) c3 (adr _ ymn yl5) yl5 ?_
   rw [z7u,z7m]
   have hP3:PreA x kb (n1+nb) (C1+cb) (setr (setr r2 4 ((j+1:Nat):Int)) 4 (((j+1:Nat):Int)- 1)) (z60 m2 (x.ob+36+l) (((j+1:Nat):Int)- 1)):=((q1.setr yl8 _).setr yl8 _).cell yl5 yl5 _
   have hR3:Rnd x l m (z60 m2 (x.ob+36+l) (((j+1:Nat):Int)- 1)):=λi hi=>by rw [z7j yl5,q2 i yl5,hR1 i hi]
   have g4:setr (setr r2 4 ((j+1:Nat):Int)) 4 (((j+1:Nat):Int)- 1) 4=((j+1:Nat):Int)- 1:=z7m _ _ _
   generalize setr (setr r2 4 ((j+1:Nat):Int)) 4 (((j+1:Nat):Int)- 1)=r3 at*
   have hm3:z60 m2 (x.ob+36+l) (((j+1:Nat):Int)- 1) (x.ob+36+l)=(j:Int):=by rw [z9e];omega
   generalize z60 m2 (x.ob+36+l) (((j+1:Nat):Int)- 1)=m3 at*
   cases j with
   |zero=>
    refine yav c4 (by rw [z7u,g4];rfl) (z7i (n:=N) yl5 ?_)
    have:=hn r3 m3 (hP3.mono yl5 yl5) hR3
    rw [show p+1+qb.length+5=p+(qb.length+(0+1+1+1+1+1)+1) by omega]
    exact this
   |succ j=>
    refine z89 c4 (by rw [z7u,g4];omega) (yf8 c5 ?_)
    exact z7i (n:=N+(j+1)*(cb+5)) yl5 (ih r3 m3 (n1+nb) (C1+cb) yl5 yl5 hm3 yl5 yl5 hP3 hR3)
 obtain ⟨j,rfl⟩:=Int.eq_ofNat_of_zero_le (show 0<=k by omega)
 refine z7i (n:=N+j*(cb+5)+1) ?_ ?_
 ·have:j*(cb+5)<=4*(cb+5):=Nat.mul_le_mul_right _ yl5
  omega
 ·refine z8d (x.ob+36+l) c0 (adr _ ymn yl5) yl5 ?_
  rw [z70]
  refine go j r _ n C yl5 yl5 (z9e _ _ _) ?_ (Int.le_refl _) (hP.cell yl5 yl5 _) λi hi=>z7j yl5
  have:j*(cb+5)<=4*(cb+5):=Nat.mul_le_mul_right _ yl5
  omega
theorem ydo(hx:x.Fit)(hCF:CF<=1000000000)(hl:l<=3)(hk:k.New)(hnb:0<=nb/\nb<=8)(h:Sem c tp D CF x (some k) l (p+(x.qBegin k).length) qb cb nb):Sem c tp D CF x none l p (x.qAt k qb p) (cb+200) 0:=λhq N r m n C hC _ hP hn=>by
 unfold Cx.qAt at hq hn
 obtain ⟨a1,hq⟩:=hq.app
 obtain ⟨a2,hq⟩:=hq.app
 obtain ⟨a3,a4⟩:=hq.app
 simp only [List.length_append] at hn
 refine z7i (n:=N+51+112+cb+23) yl5 ?_
 refine yhf hx hk yl5 hP.1 a1 λr1 m1 p1 q1=>?_
 refine h a2 _ r1 m1 0 C yl5 (λ_=>by omega) p1 λr2 m2 p2 q2=>?_
 rw [Int.zero_add] at p2
 have hB:=p2.2 k rfl
 have h0:=hB.o0
 have h8:r2 7<=8:=Int.le_trans hB.o1 hnb.2
 -- Jg the end of the block
 have fin2: ∀r3 m3,MI (C+cb+1) m3->Rnd x l m2 m3->r3 7=r2 7->z7z c D (N+51) (p+(x.qBegin k).length+qb.length+(if k.puts=[false,false,false,false,false,false] then [] else x.qCommit k (p+(x.qBegin k).length+qb.length)).length) r3 m3:=by
  intro r3 m3 hM hR h7
  have hend: ∀r4,z7z c D N (p+((x.qBegin k).length+(qb.length+((if k.puts=[false,false,false,false,false,false] then [] else x.qCommit k (p+(x.qBegin k).length+qb.length)).length+(if k.gives=true then x.qGive (p+(x.qBegin k).length+qb.length+(if k.puts=[false,false,false,false,false,false] then [] else x.qCommit k (p+(x.qBegin k).length+qb.length)).length) else []).length)))) r4 m3:=
   λr4=>hn r4 m3 ⟨hM.mono yl5,λ_ e=>by cases e⟩ (((q1.less hl).trans q2).trans hR)
  generalize (if k.puts=[false,false,false,false,false,false] then [] else x.qCommit k (p+(x.qBegin k).length+qb.length)).length=z at*
  by_cases hg:k.gives=true
  ·rw [if_pos hg] at a4 hend
   refine z7i (n:=(N+2+6*(r2 7).toNat)+1) yl5 ?_
   refine yf7 (a4.at.1) ?_
   refine yil hx a4 (r2 7).toNat _ ?_ ?_ ?_ λr4=>?_
   ·rw [z7m];exact Int.le_refl _
   ·rw [z7m,z7g yl8,h7,z70];omega
   ·rw [z7g yl8,h7];exact h8
   ·have:=hend r4
    have e7: ∀p,(x.qGive p).length=7:=λ_=>rfl
    rw [e7] at this
    refine Eq.mp ?_ this
    congr 1
    omega
  ·rw [if_neg hg] at hend
   refine z7i (n:=N) yl5 ?_
   have:=hend r3
   rw [List.length_nil] at this
   refine Eq.mp ?_ this
   congr 1
   omega
 by_cases hp:k.puts=[false,false,false,false,false,false]
 ·rw [if_pos hp] at fin2
  exact z7i (n:=N+51) yl5 (fin2 r2 m2 (p2.1.mono yl5) (Rnd.refl _ _ _) rfl)
 ·rw [if_neg hp] at fin2 a3
  exact yga hx hk yl5 p2 a3 λr3 m3 g1 g2 g3=>fin2 r3 m3 g1 (g2.less hl) g3
end
end
def ShD(st:RS):Prop:=0<=st.cells/\(∀p∈st.shared,0<=p.2.1/\0<=p.2.2/\p.2.1+p.2.2<=st.cells)/\st.shared.Pairwise λp q=>p.2.1+p.2.2<=q.2.1
theorem ShD.add(h:ShD st)(u:ByteArray)(c:Int)(hc:0<=c):ShD {st with shared:=st.shared++[(u,st.cells,c)],cells:=st.cells+c}:=by
 obtain ⟨h0,h1,h2⟩:=h
 refine ⟨by show 0<=st.cells+c;omega,λp hp=>?_,?_⟩
 ·rcases List.mem_append.1 hp with hp|hp
  ·obtain ⟨q1,q2,q3⟩:=h1 p hp
   exact ⟨q1,q2,by show _<=st.cells+c;omega⟩
  ·rw [List.mem_singleton.1 hp]
   exact ⟨h0,hc,Int.le_refl _⟩
 ·refine List.pairwise_append.2 ⟨h2,List.pairwise_singleton _ _,λp hp q hq=>?_⟩
  rw [List.mem_singleton.1 hq]
  exact (h1 p hp).2.2
theorem ShD.of(h:ShD st)(e1:st'.shared=st.shared)(e2:st'.cells=st.cells):ShD st':=by unfold ShD;rw [e1,e2];exact h
theorem z8n(st:RS)(t:Nat)(k:HK):(st.setK t k).shared=st.shared/\(st.setK t k).cells=st.cells:=by unfold RS.setK;split<;>exact ⟨rfl,rfl⟩
theorem z9f(st:RS)(t:Nat)(e:En):(st.addE t e).shared=st.shared/\(st.addE t e).cells=st.cells:=by unfold RS.addE;split<;>exact ⟨rfl,rfl⟩
theorem ygl(st:RS)(t o:Nat)(l:List ByteArray)(c:Nat)(s:St):(st.lay t o l c s).shared=st.shared/\(st.lay t o l c s).cells=st.cells:=by
 unfold RS.lay
 split
 ·show (((st.newH s).setK t (.thr l (c+1))).addE o (.sub st.hs.length)).shared=_/\(((st.newH s).setK t (.thr l (c+1))).addE o (.sub st.hs.length)).cells=_
  rw [(z9f _ _ _).1,(z9f _ _ _).2,(z8n _ _ _).1,(z8n _ _ _).2]
  exact ⟨rfl,rfl⟩
 ·split
  ·rw [(z9f _ _ _).1,(z9f _ _ _).2,(z8n _ _ _).1,(z8n _ _ _).2,(z8n _ _ _).1,(z8n _ _ _).2]
   exact ⟨rfl,rfl⟩
  ·rw [(z9f _ _ _).1,(z9f _ _ _).2,(z8n _ _ _).1,(z8n _ _ _).2]
   exact ⟨rfl,rfl⟩
theorem ydp{ws:List ByteArray}(h:ShD st)(hg:Vq st ws= .ok st'):ShD st':=by
 unfold Vq at hg
 split at hg
 ·cases hg
 ·rename_i u us
  split at hg
  ·unfold Iq at hg
   split at hg
   ·cases hg
   ·split at hg
    ·cases hg
    ·split at hg
     ·cases hg
     ·obtain rfl:=Except.ok.inj hg
      exact h.add _ 1 yl5
   ·rename_i y u' us' _
    split at hg
    ·rename_i c hc
     split at hg
     ·cases hg
     ·split at hg
      ·cases hg
      ·obtain rfl:=Except.ok.inj hg
       refine h.add _ c ?_
       unfold gIn at hc
       obtain ⟨q,_,hq⟩:=Option.bind_eq_some_iff.1 hc
       split at hq
       ·rename_i hle
        have:q=(c,[]):=Option.some.inj hq
        rw [this] at hle
        have:=hle.1
        omega
       ·cases hq
    ·cases hg
  ·split at hg
   ·unfold Ef at hg
    split at hg
    ·split at hg
     ·cases hg
     ·obtain rfl:=Except.ok.inj hg
      exact h.of rfl rfl
    ·cases hg
   ·split at hg
    ·unfold zwb at hg
     split at hg
     ·split at hg
      ·cases hg
      ·obtain rfl:=Except.ok.inj hg
       exact h.of rfl rfl
     ·cases hg
    ·split at hg
     ·unfold gSt at hg
      split at hg
      ·cases hg
      ·split at hg
       ·split at hg
        ·cases hg
        ·split at hg
         ·cases hg
         ·obtain rfl:=Except.ok.inj hg
          exact h.of (ygl _ _ _ _ _ _).1 (ygl _ _ _ _ _ _).2
       ·cases hg
     ·cases hg
theorem yaf: ∀(f:Nat) (r:List UInt8) (j:Nat) (st st':RS),ShD st->Yc f r j st= .ok st'->ShD st'
 |0,_,_,st,st',hd,h=>by simp only [Yc,Except.ok.injEq] at h;exact h▸hd
 |f+1,r,j,st,st',hd,h=>by
  simp only [Yc] at h
  split at h
  ·simp only [Except.ok.injEq] at h;exact h▸hd
  ·generalize Lib.cut r [10]=q at h
   obtain ⟨l,r',b⟩:=q
   cases b with
   |false=>simp at h
   |true=>
    simp only at h
    cases hg:Vq st (Ql l) with
    |error er=>simp [hg] at h
    |ok st2=>
     rw [hg] at h
     exact yaf f r' (j+1) st2 st' (ydp hd hg) h
theorem ydq(h:Jl s= .ok st):ShD st:=by
 unfold Jl at h
 split at h
 ·simp at h
 ·exact yaf _ _ 0 RS.none st ⟨Int.le_refl _,λp hp=>by simp [RS.none] at hp,by simp [RS.none]⟩ h
theorem ycn{R:α->α->Prop}: ∀{l:List α},l.Pairwise R->∀p∈l,∀q∈l,p=q\/R p q\/R q p
 |[],_,_,hp,_,_=>by simp at hp
 |a::r,h,p,hp,q,hq=>by
  obtain ⟨h1,h2⟩:=List.pairwise_cons.1 h
  rcases List.mem_cons.1 hp with e|hp'
  ·rcases List.mem_cons.1 hq with e'|hq'
   ·exact .inl (e.trans e'.symm)
   ·exact .inr (.inl (by rw [e];exact h1 q hq'))
  ·rcases List.mem_cons.1 hq with e'|hq'
   ·exact .inr (.inr (by rw [e'];exact h1 p hp'))
   ·exact ycn h2 p hp' q hq'
structure yag(x:Cx):Prop where
 nat: ∀u,∃f n:Nat,x.var u=((f:Int),(n:Int))/\f+n<=6
 apart: ∀(u u':ByteArray) (f n f' n':Nat),x.var u=((f:Int),(n:Int))->x.var u'=((f':Int),(n':Int))->0<n->0<n'->(f=f'/\n=n')\/f+n<=f'\/f'+n'<=f
theorem yhg(h:ShD st)(hc:st.cells<=6)(hx:x.sh=st.shared):yag x:=by
 obtain ⟨h0,h1,h2⟩:=h
 have hv: ∀u,x.var u=(0,0)\/ ∃p∈st.shared,x.var u=p.2:=by
  intro u
  unfold Cx.var
  rw [hx]
  cases e:st.shared.find? λp=>decide (p.1=u) with
  |none=>exact .inl rfl
  |some p=>exact .inr ⟨p,List.mem_of_find?_eq_some e,rfl⟩
 refine ⟨λu=>?_,λu u' f n f' n' e e' hn hn'=>?_⟩
 ·rcases hv u with e|⟨p,hp,e⟩
  ·exact ⟨0,0,e,by omega⟩
  ·obtain ⟨q1,q2,q3⟩:=h1 p hp
   refine ⟨p.2.1.toNat,p.2.2.toNat,?_,by omega⟩
   rw [e]
   exact Prod.ext (by show p.2.1=_;omega) (by show p.2.2=_;omega)
 ·rcases hv u with q|⟨p,hp,q⟩
  ·rw [q] at e
   have:=congrArg Prod.snd e
   simp at this
   omega
  ·rcases hv u' with q'|⟨p',hp',q'⟩
   ·rw [q'] at e'
    have:=congrArg Prod.snd e'
    simp at this
    omega
   ·rw [q] at e
    rw [q'] at e'
    have a1:p.2.1=f:=congrArg Prod.fst e
    have a2:p.2.2=n:=congrArg Prod.snd e
    have b1:p'.2.1=f':=congrArg Prod.fst e'
    have b2:p'.2.2=n':=congrArg Prod.snd e'
    rcases ycn h2 p hp p' hp' with rfl|r|r
    ·exact .inl ⟨by omega,by omega⟩
    ·exact .inr (.inl yl5)
    ·exact .inr (.inr yl5)
theorem yhh(l:List Bool)(a i:Nat):bAt (l.set a true) i=if i=a/\i<l.length then true else bAt l i:=by
 unfold bAt
 by_cases e:i=a
 ·subst e
  by_cases hl:i<l.length
  ·rw [List.getElem?_set_self hl,if_pos ⟨rfl,hl⟩];rfl
  ·rw [if_neg (λq=>hl q.2),List.set_eq_of_length_le yl5]
 ·rw [List.getElem?_set_ne (λq=>e q.symm),if_neg (λq=>e q.1)]
theorem yco(f:Nat): ∀(n:Nat) (l:List Bool) (i:Nat),bAt (zvh l ((f:Int),(n:Int))) i=if f<=i/\i<f+n/\i<l.length then true else bAt l i:=by
 intro n l i
 have hm:zvh l ((f:Int),(n:Int))=(List.range n).foldl (λl i=>l.set (f+i) true) l:=by
  unfold zvh
  simp
 rw [hm]
 clear hm
 induction n with
 |zero=>rw [if_neg yl5];rfl
 |succ n ih=>
  rw [List.range_succ,List.foldl_append,List.foldl_cons,List.foldl_nil,yhh,ih,show ((List.range n).foldl (λl i=>l.set (f+i) true) l).length=l.length by
   have:=zct (f:Int) (List.range n) l
   simpa using this]
  by_cases hi:i<l.length
  ·by_cases h1:i=f+n
   ·rw [if_pos ⟨h1,hi⟩,if_pos yl5]
   ·rw [if_neg (λq=>h1 q.1)]
    by_cases h2:f<=i/\i<f+n
    ·rw [if_pos yl5,if_pos yl5]
    ·exact yln
  ·rw [if_neg yl5,if_neg yl5,if_neg yl5]
theorem ygd(hv:yag x)(h:Uni x k)(hk:k.New)(of:ByteArray):Uni x {k with puts:=zvh k.puts (x.var of)}:=by
 intro u f n e j hj
 obtain ⟨f',n',e',h6⟩:=hv.nat of
 obtain ⟨f2,n2,e2,h62⟩:=hv.nat u
 obtain ⟨rfl,rfl⟩:f=f2/\n=n2:=by
  rw [e] at e2
  have:=congrArg Prod.fst e2
  have:=congrArg Prod.snd e2
  simp at*
  omega
 show bAt (zvh k.puts (x.var of)) (f+j)=bAt (zvh k.puts (x.var of)) f
 rw [e',yco,yco,hk.p,h u f n e j hj]
 by_cases hn':n'=0
 ·exact yln
 ·rcases hv.apart u of f n f' n' e e' yl5 yl5 with ⟨rfl,rfl⟩|q|q
  ·rw [if_pos yl5,if_pos yl5]
  ·exact yln
  ·exact yln
theorem ycp(hv:yag x): ∀(es:List En) (k:Bk),k.New->Uni x k->Uni x (es.foldl x.seen k)
 |[],_,_,h=>h
 |e::r,k,hk,h=>by
  refine ycp hv r (x.seen k e) (zwj x hk e) ?_
  rcases e with st|j
  ·rcases st with ⟨to,a⟩|⟨to,o,a,b⟩|⟨to,f,a⟩|⟨f,a,v⟩|a|⟨⟩|a|z
   ·exact h
   ·exact h
   ·exact h
   ·exact ygd hv h hk f
   ·exact h
   ·exact h
   ·exact h
   ·exact h
  ·exact h
theorem yjo(x:Cx):Uni x bk0:=λ_ f n _ j _=>by
 have: ∀i,bAt bk0.puts i=false:=λi=>by
  unfold bAt bk0
  dsimp only
  rw [List.getElem?_replicate]
  split<;>rfl
 rw [this,this]
section
variable{x:Cx}{hs:List Hd}
theorem ybg{f:α->Int}: ∀{l:List α},(∀e∈l,0<=f e)->0<=(l.map f).sum
 |[],_=>Int.le_refl _
 |a::r,h=>by
  rw [List.map_cons,List.sum_cons]
  have:=h a yl6
  have:=ybg λe he=>h e (List.mem_cons_of_mem _ he)
  omega
theorem yb7{f g:α->Int}: ∀{l:List α},(∀e∈l,f e=g e)->(l.map f).sum=(l.map g).sum
 |[],_=>rfl
 |a::r,h=>by rw [List.map_cons,List.map_cons,List.sum_cons,List.sum_cons,h a yl6,yb7 λe he=>h e (List.mem_cons_of_mem _ he)]
theorem ycq{b:Bool}{j:Nat}(h:enW hs x (f+1) b (.inr j)):(∃b',∀e∈Jb hs (.inr j),enW hs x f b' e)/\1<=Vb hs (.inr j):=by
 obtain ⟨es,_,h⟩:=h
 rcases h with ⟨hj,_,he⟩|⟨a,hj,_,he⟩|⟨n,hj,hn,he⟩
 ·exact ⟨⟨true,by simp only [Jb,hj];exact he⟩,by simp only [Vb,hj];exact Int.le_refl 1⟩
 ·exact ⟨⟨b,by simp only [Jb,hj];exact he⟩,by simp only [Vb,hj];exact Int.le_refl 1⟩
 ·exact ⟨⟨b,by simp only [Jb,hj];exact he⟩,by simp only [Vb,hj];exact hn.1⟩
theorem cnt_nnA(kd:En->Bool): ∀(f:Nat) (b:Bool) (e:En),enW hs x f b e->0<=Zn hs kd f e
 |0,_,e,_=>by simp only [Zn];split<;>omega
 |f+1,_, .inl st,_=>by
  simp only [Zn,Jb,List.map_nil,List.sum_nil,Int.mul_zero]
  split<;>omega
 |f+1,b, .inr j,h=>by
  obtain ⟨⟨b',he⟩,ht⟩:=ycq h
  simp only [Zn]
  have:=Int.mul_nonneg (show 0<=Vb hs (.inr j) by omega) (ybg λe hm=>cnt_nnA kd f b' e (he e hm))
  split<;>omega
theorem cnt_fuelA(kd:En->Bool): ∀(f:Nat) (b:Bool) (e:En),enW hs x f b e->∀g,f<=g->Zn hs kd g e=Zn hs kd f e
 |f,b, .inl st,_,g,_=>by
  have: ∀f,Zn hs kd f (.inl st)=if kd (.inl st)=true then 1 else 0:=λf=>by
   cases f with
   |zero=>rfl
   |succ f=>simp [Zn,Jb]
  rw [this,this]
 |0,_, .inr _,h,_,_=>h.elim
 |f+1,b, .inr j,h,0,hg=>by omega
 |f+1,b, .inr j,h,g+1,hg=>by
  obtain ⟨⟨b',he⟩,_⟩:=ycq h
  simp only [Zn]
  rw [yb7 λe hm=>cnt_fuelA kd f b' e (he e hm) g yl5]
def cE(hs:List Hd):Nat->En->Nat
 |0,_=>220
 |f+1,e=>220+4*((Jb hs e).map (cE hs f)).sum
theorem yin(hs:List Hd): ∀(f:Nat) (e:En),cE hs f e<=220*4^f*wE hs f e
 |0,e=>by simp [cE,wE]
 |f+1,e=>by
  have: ∀l:List En,(l.map (cE hs f)).sum<=220*4^f*(l.map (wE hs f)).sum:=by
   intro l
   induction l with
   |nil=>simp
   |cons a r ih=>
    rw [List.map_cons,List.map_cons,List.sum_cons,List.sum_cons,Nat.mul_add]
    have:=yin hs f a
    omega
  have h:=this (Jb hs e)
  simp only [cE,wE]
  generalize ((Jb hs e).map (cE hs f)).sum=A at*
  generalize ((Jb hs e).map (wE hs f)).sum=B at*
  have e4:220*4^(f+1)*(1+B)=220*4^(f+1)+4*(220*4^f*B):=by
   rw [Nat.mul_add,Nat.mul_one,Nat.pow_succ]
   congr 1
   rw [<-Nat.mul_assoc,Nat.mul_comm (220*4^f) 4,Nat.mul_assoc]
  have hp:1<=4^(f+1):=Nat.one_le_pow _ _ yl5
  rw [e4]
  omega
def OkO(hs:List Hd):Nat->En->Prop
 |0,e=>kdA hs e=true->((Jb hs e).map (Zn hs kdO 3)).sum<=8
 |f+1,e=>(kdA hs e=true->((Jb hs e).map (Zn hs kdO 3)).sum<=8)/\ ∀e'∈Jb hs e,OkO hs f e'
theorem OkO.one{e:En}(h:OkO hs f e):kdA hs e=true->((Jb hs e).map (Zn hs kdO 3)).sum<=8:=by
 cases f with
 |zero=>exact h
 |succ f=>exact h.1
theorem yio: ∀(f:Nat) (es:List En),(∀e∈Jf hs (f+1) es,Zo hs e=false)->∀e∈es,OkO hs f e:=by
 have one: ∀e,Zo hs e=false->kdA hs e=true->((Jb hs e).map (Zn hs kdO 3)).sum<=8:=λe h hk=>by
  unfold Zo at h
  rw [hk,Bool.true_and,decide_eq_false_iff_not] at h
  omega
 intro f
 induction f with
 |zero=>
  intro es h e he
  exact one e (h e (by simp only [Jf,List.mem_flatMap];exact ⟨e,he,by simp⟩))
 |succ f ih=>
  intro es h e he
  refine ⟨one e (h e ?_),ih (Jb hs e) λe' he'=>h e' ?_⟩
  ·rw [Jf,List.mem_flatMap]
   exact ⟨e,he,by simp⟩
  ·rw [Jf,List.mem_flatMap]
   exact ⟨e,he,List.mem_cons_of_mem _ he'⟩
variable{c:List Ic}{D:(Nat->Int)->Prop}{tp:Nat}{CF:Int}
theorem yge{cost:Nat}{n2:Int}(h:Sem c tp D CF x none l p qs cost n1):Sem c tp D CF x none l p qs cost n2:=λhq N r m n C hC _ hP hn=>
 h hq N r m n C hC (λe=>by cases e) hP λr' m' q1 q2=>hn r' m' ⟨q1.1,λ_ e=>by cases e⟩ q2
theorem yip(hx:x.Fit)(hv:yag x)(hCF:CF<=1000000000)(hD: ∀m,MI CF m->D m): ∀(f:Nat) (kb:Option Bk) (l:Nat) (e:En) (p:Nat),enW hs x f kb.isSome e->l+f<=3->(∀k,kb=some k->Uni x k)->(∀f',f=f'+1->OkO hs f' e) ->
  Sem c tp D CF x kb l p (gE hs x f kb l e p) (cE hs f e) (Zn hs kdO f e):=by
 have leafC: ∀(f:Nat) (kb:Option Bk) (l:Nat) (st:St) (p:Nat),x.leafOk kb.isSome st->l<=3->(∀k,kb=some k->Uni x k)->Sem c tp D CF x kb l p (x.qLeaf kb p st) (cE hs f (.inl st)) (Zn hs kdO f (.inl st)):=by
  intro f kb l st p h hl hu
  have e1:Zn hs kdO f (.inl st)=isO st:=by
   cases f with
   |zero=>rfl
   |succ f=>simp [Zn,Jb,isO]
  have e2:20<=cE hs f (.inl st):=by
   cases f with
   |zero=>simp [cE]
   |succ f=>simp [cE,Jb]
  rw [e1]
  exact z9t (ygb hx hD hu h p hl) e2
 intro f
 induction f with
 |zero=>
  intro kb l e p h hl hu _
  rcases e with st|j
  ·exact leafC 0 kb l st p h yl5 hu
  ·exact h.elim
 |succ f ih=>
  intro kb l e p h hl hu hO
  rcases e with st|j
  ·exact leafC (f+1) kb l st p h yl5 hu
  ·have hO1:=hO f rfl
   have hO2: ∀e'∈Jb hs (.inr j),∀f',f=f'+1->OkO hs f' e':=λe' he' f' ef=>by
    subst ef
    exact hO1.2 e' he'
   obtain ⟨es,hes,h⟩:=h
   rcases h with ⟨hj,hkb,he⟩|⟨a,hj,ha,he⟩|⟨n,hj,hn,he⟩
   ·have hkn:kb=none:=by cases kb with|none=>rfl|some k=>cases hkb
    subst hkn
    have hE:Jb hs (.inr j)=es:=ym2
    rw [hE] at hO2
    have h8:=hO1.one (by simp only [kdA,hj];rfl)
    rw [hE,yb7 λe hm=>cnt_fuelA kdO f true e (he e hm) 3 yl5] at h8
    simp only [gE,hj]
    have hnew:=z9s x (Jf hs 3 es) bk0 zkd
    have huni:=ycp hv (Jf hs 3 es) bk0 zkd (yjo x)
    generalize (Jf hs 3 es).foldl x.seen bk0=k at*
    refine yge (n1:=0) (z9t (ydo hx hCF yl5 hnew (cb:=(es.map (cE hs f)).sum) ⟨ybg λe hm=>cnt_nnA kdO f true e (he e hm),h8⟩ (z9b es _ λe hm=>⟨cnt_nnA kdO f true e (he e hm),λp=>ih (some k) l e p (he e hm) yl5 (λk' e=>by rw [<-Option.some.inj e];exact huni) (hO2 e hm)⟩)) ?_)
    simp only [cE,hE]
    omega
   ·have hE:Jb hs (.inr j)=es:=by simp only [Jb,hj]
    have hT:Vb hs (.inr j)=1:=by simp only [Vb,hj];rfl
    rw [hE] at hO2
    simp only [gE,hj]
    have e1:Zn hs kdO (f+1) (.inr j)=(es.map (Zn hs kdO f)).sum:=by
     simp only [Zn,hE,hT,kdO,Int.one_mul]
     exact Int.zero_add _
    rw [e1]
    have hnn:=ybg λe hm=>cnt_nnA kdO f kb.isSome e (he e hm)
    refine z9t (yim hnn (z9b es (p+1) λe hm=>⟨cnt_nnA kdO f kb.isSome e (he e hm),λp=>ih kb l e p (he e hm) yl5 hu (hO2 e hm)⟩)) ?_
    simp only [cE,hE]
    omega
   ·have hE:Jb hs (.inr j)=es:=by simp only [Jb,hj]
    have hT:Vb hs (.inr j)=n:=by simp only [Vb,hj];rfl
    rw [hE] at hO2
    simp only [gE,hj]
    have e1:Zn hs kdO (f+1) (.inr j)=n*(es.map (Zn hs kdO f)).sum:=by
     simp only [Zn,hE,hT,kdO]
     exact Int.zero_add _
    rw [e1]
    have hnn:=ybg λe hm=>cnt_nnA kdO f kb.isSome e (he e hm)
    refine z9t (ygc hx hn yl5 hnn (z9b es (p+1) λe hm=>⟨cnt_nnA kdO f kb.isSome e (he e hm),λp=>ih kb (l+1) e p (he e hm) yl5 hu (hO2 e hm)⟩)) ?_
    simp only [cE,hE]
    omega
theorem yb8(hx:x.Fit)(hv:yag x){es:List En}(he: ∀e∈es,enW hs x 3 false e)(hw:(es.map (wE hs 3)).sum<=14)(hO: ∀e∈es,OkO hs 2 e)(hc:Cod c tp 0 (z8m (gE hs x 3 none 0) es 0++[fin (z88 10)]))(hC:C+200000<=1000000000)(hM:MI C m)(r:Nat->Int):
  z7z c (MI (C+200000)) 197130 0 r m:=by
 have hcost:(es.map (cE hs 3)).sum<=197120:=by
  have: ∀l:List En,(l.map (cE hs 3)).sum<=220*4^3*(l.map (wE hs 3)).sum:=by
   intro l
   induction l with
   |nil=>simp
   |cons a r ih=>
    rw [List.map_cons,List.map_cons,List.sum_cons,List.sum_cons,Nat.mul_add]
    have:=yin hs 3 a
    omega
  have:=this es
  omega
 obtain ⟨h1,h2⟩:=hc.app
 have hs':=z9b (c:=c) (tp:=tp) (D:=MI (C+200000)) (CF:=C+200000) (x:=x) (kb:=none) (l:=0) (q:=gE hs x 3 none 0) (cost:=cE hs 3) (cnt:=Zn hs kdO 3) es 0 λe hm=>⟨cnt_nnA kdO 3 false e (he e hm),λp=>yip hx hv hC (λm h=>h) 3 none 0 e p (he e hm) yl5 (λk e=>by cases e) λf' ef=>by
  obtain rfl:f'=2:=yl5
  exact hO e hm⟩
 refine z7i (n:=1+(es.map (cE hs 3)).sum) yl5 ?_
 refine hs' h1 1 r m 0 C yl5 (λe=>by cases e) ⟨hM,λk e=>by cases e⟩ λr' m' q1 _=>?_
 exact yhe h2.at.1 yl8 (q1.1.mono yl5)
end
section
variable{A:List (Th×List Ic)}{m:Nat->Int}{t:Nat}{c:List Ic}{T:Th}
theorem yiq(h:A[t]?=some (T,c)):sfA t (A,m)=(A.set t ((sf1 c T m).1,c),(sf1 c T m).2):=by
 have hl:=(List.getElem?_eq_some_iff.1 h).1
 unfold sfA
 have e1:z7b (A,m).1 (A,m).2 t=(A.set t ((z6w T m c).1,c),(z6w T m c).2):=by
  unfold z7b
  rw [show (A,m).1=A from rfl,h]
 rw [e1]
 unfold z69
 rw [show (A.set t ((z6w T m c).1,c),(z6w T m c).2).1=A.set t ((z6w T m c).1,c) from rfl,List.getElem?_set_self hl]
 dsimp only
 rw [List.set_set]
 rfl
theorem ycr{D:(Nat->Int)->Prop}: ∀(n:Nat) (p:Nat) (r m:Nat->Int) (out:List Int) (A:List (Th×List Ic)),A[t]?=some (⟨r,(p:Int),[],out,0⟩,c)->z7z c D n p r m ->
  ∃N,N<=n/\(∀k,k<N->z7c (sfN t k (A,m)).1 t=0)/\z7c (sfN t N (A,m)).1 t≠0/\D (sfN t N (A,m)).2/\(∀u,u≠t->(sfN t N (A,m)).1[u]?=A[u]?)/\(sfN t N (A,m)).1.length=A.length
 |0,_,_,_,_,_,_,h=>h.elim
 |n+1,p,r,m,out,A,hA,h=>by
  have hl:=(List.getElem?_eq_some_iff.1 hA).1
  have h0:z7c A t=0:=by unfold z7c;rw [hA];rfl
  have e:=yiq (m:=m) hA
  rcases h out with ⟨h1,h2,h3⟩|⟨p',r',out',h1,h2⟩
  ·refine ⟨1,by omega,λk hk=>?_,?_,?_,?_,?_⟩
   ·obtain rfl:k=0:=by omega
    exact h0
   ·show z7c (sfA t (A,m)).1 t≠0
    rw [e]
    unfold z7c
    rw [List.getElem?_set_self hl]
    exact h1
   ·show D (sfA t (A,m)).2
    rw [e]
    exact h3
   ·intro u hu
    show (sfA t (A,m)).1[u]?=_
    rw [e,List.getElem?_set_ne (λq=>hu q.symm)]
   ·show (sfA t (A,m)).1.length=_
    rw [e,List.length_set]
  ·obtain ⟨N,g1,g2,g3,g4,g5,g6⟩:=ycr n p' r' _ out' (A.set t ((sf1 c ⟨r,(p:Int),[],out,0⟩ m).1,c)) (by rw [List.getElem?_set_self hl,h1]) h2
   refine ⟨N+1,by omega,λk hk=>?_,?_,?_,?_,?_⟩
   ·cases k with
    |zero=>exact h0
    |succ k=>rw [yad,e];exact g2 k yl5
   ·rw [yad,e];exact g3
   ·rw [yad,e];exact g4
   ·intro u hu
    rw [yad,e,g5 u hu,List.getElem?_set_ne (λq=>hu q.symm)]
   ·rw [yad,e,g6,List.length_set]
end
theorem ye4(acc:List (List Ic)): ∀(L:List ByteArray) (c:List Ic),(∀l∈L,ze0 l)->c.length+L.length<=4000->rdL (L.map λl=>l.data.toList) (acc++[c])=some (acc++[c++L.map dL])
 |[],c,_,_=>by simp [rdL]
 |l::r,c,h,hl=>by
  obtain ⟨_,u,us,hw,hne,hg⟩:=h l yl6
  obtain ⟨⟨ic,q⟩,hi,hq⟩:=Option.map_eq_some_iff.1 hg
  have hq:q=[]:=hq
  subst hq
  rw [List.length_cons] at hl
  have ed:dL l=ic:=by unfold dL;rw [hw];dsimp only;rw [hi];rfl
  have e:Gj (Ql l.data.toList) (acc++[c])= .ok (acc++[c++[ic]]):=by
   rw [hw]
   unfold Gj
   dsimp only
   rw [if_neg hne,hi]
   dsimp only
   rw [List.getLast?_append,List.getLast?_singleton]
   show (if c.length=4000 then _ else _)=_
   rw [if_neg yl5,List.dropLast_append_of_ne_nil yl6]
   simp
  simp only [List.map_cons,rdL]
  rw [e]
  dsimp only
  rw [ye4 acc r (c++[ic]) (λl' hl'=>h l' (List.mem_cons_of_mem _ hl')) (by rw [List.length_append,List.length_singleton];omega),ed]
  simp
theorem ydr(acc:List (List Ic))(ha:acc.length<3)(L:List ByteArray)(h: ∀l∈L,ze0 l)(hl:L.length<=4000):rdL (Vj.data.toList::L.map λl=>l.data.toList) acc=some (acc++[L.map dL]):=by
 have hw:Ql Vj.data.toList=[Vj]:=by
  have:=zf4 Vj [] (λv hv=>by rw [List.mem_singleton.1 hv];unfold NoS;decide)
  rw [Zx] at this
  simpa using this
 simp only [rdL]
 rw [hw]
 have e:Gj [Vj] acc= .ok (acc++[[]]):=by
  unfold Gj
  dsimp only
  rw [if_pos rfl,if_neg yl5]
 rw [e]
 have:=ye4 acc L [] h (by simpa using hl)
 rw [List.nil_append] at this
 exact this
def thC(st:RS)(i:Nat):List Ic:=(It st.hs (zmu st i 0 0) (st.ents (st.thr i))).L.map dL
structure ye5(st:RS):Prop where
 n3:st.threads.length<=3
 ne:st.threads≠[]
 fit: ∀n,n<st.threads.length->(zmu st n 0 0).Fit
 en: ∀n,n<st.threads.length->∀e∈st.ents (st.thr n),enW st.hs (zmu st n 0 0) 3 false e
 w: ∀n,n<st.threads.length->((st.ents (st.thr n)).map (wE st.hs 3)).sum<=14
 o: ∀n,n<st.threads.length->∀e∈st.ents (st.thr n),OkO st.hs 2 e
 v: ∀n,yag (zmu st n 0 0)
theorem yhi(hg:zaz s= .ok st):ye5 st:=by
 obtain ⟨hl,hm,hok,hne⟩:=zu1 hg
 have hm':=hm
 unfold zay at hm
 simp only [Bool.or_eq_false_iff,decide_eq_false_iff_not] at hm
 obtain ⟨hc,hn3,hany⟩:=hm
 have hmem: ∀n,n<st.threads.length->st.thr n∈st.threads:=λn hn=>by
  unfold RS.thr
  rw [List.getElem?_eq_getElem hn]
  exact List.getElem_mem _
 refine ⟨by omega,hne,λn hn=>⟨by show n<=2;omega,?_⟩,λn hn=>?_,λn hn=>?_,λn hn=>?_,λn=>yhg (ydq hl) yl5 rfl⟩
 ·show (st.locs (st.thr n)).length<=4
  obtain ⟨l,c,e1,_,e2⟩:=hok.thr _ (hmem n hn)
  unfold RS.locs
  rw [e1]
  exact e2
 ·exact (zms hl hok hm' (zmu st n 0 0) rfl (st.thr n) (hmem n hn)).2.1
 ·exact (zms hl hok hm' (zmu st n 0 0) rfl (st.thr n) (hmem n hn)).2.2
 ·have h1:=List.any_eq_false.1 hany (st.thr n) (hmem n hn)
  have h1:st.thrMuch (st.thr n)=false:=by simpa using h1
  unfold RS.thrMuch at h1
  simp only [Bool.or_eq_false_iff] at h1
  exact yio 2 _ λe he=>by simpa using List.any_eq_false.1 h1.2 e he
theorem yds(h:ye5 st):zu9 (Yi st)= .ok ((List.range st.threads.length).map (thC st)):=by
 have H: ∀n,n<=st.threads.length->rdL (Gi st n) []=some ((List.range n).map (thC st))/\(∀l∈Gi st n,(10:UInt8)∉l)/\(lnT (Gi st n)).length<=n*34633/\(0<n->Gi st n≠[]):=by
  intro n
  induction n with
  |zero=>intro _;exact ⟨rfl,λl hl=>by simp [Gi] at hl,Nat.le_refl _,λh=>absurd h yl5⟩
  |succ n ih=>
   intro hn
   obtain ⟨h1,h3,h4,_⟩:=ih yl5
   have hn3:=h.n3
   obtain ⟨g1,g2,g3⟩:=zjg (h.fit n yl5) st.hs (st.ents (st.thr n)) (h.en n yl5) (h.w n yl5)
   have hc:=ydr ((List.range n).map (thC st)) yma _ g2 g1
   refine ⟨?_,λl hl=>?_,?_,λ_=>by simp [Gi,zjh]⟩
   ·show rdL (Gi st n++zjh st n) []=_
    rw [zux _ _ _ _ h1,List.range_succ,List.map_append]
    exact hc
   ·rcases List.mem_append.1 (show l∈Gi st n++zjh st n from hl) with hl|hl
    ·exact h3 l hl
    ·rcases List.mem_cons.1 hl with rfl|hl
     ·decide
     ·obtain ⟨v,hv,rfl⟩:=List.mem_map.1 hl
      exact (g2 v hv).1
   ·show (lnT (Gi st n++zjh st n)).length<=_
    have e:lnT (zjh st n)=(Vj.data.toList++[10])++lnT ((It st.hs (zmu st n 0 0) (st.ents (st.thr n))).L.map λl=>l.data.toList):=rfl
    rw [zuz,List.length_append,e,List.length_append,zu0]
    have:(Vj.data.toList++[10]).length=7:=rfl
    omega
 obtain ⟨h1,h3,h4,h5⟩:=H _ (Nat.le_refl _)
 have hn3:=h.n3
 have hz:(Yi st).data.toList=lnT (Gi st st.threads.length):=by
  unfold Yi
  rw [<-ze2]
 have hs:(Yi st).size=(lnT (Gi st st.threads.length)).length:=by rw [<-hz,Array.length_toList];rfl
 have hle:=zzg (Gi st st.threads.length)
 unfold zu9
 rw [if_neg yl5,hz]
 exact znu _ _ 0 [] _ yl5 (.inr (h5 (List.length_pos_iff.2 h.ne))) h3 h1
structure AS(st:RS)(C:Int)(p:Mx)(S:List Nat):Prop where
 mi:MI C p.2
 len:p.1.length=st.threads.length
 rest: ∀t,t∉S->t<st.threads.length->p.1[t]?=some (Th.init,thC st t)
theorem yhj:AS st 0 (((List.range st.threads.length).map (thC st)).map λc=>(Th.init,c),λ_=>0) []:=
 ⟨⟨Int.le_refl _,Int.le_refl _,λ_ _=>Int.le_refl _⟩,by simp,λt _ ht=>by simp [ht]⟩
theorem yhk(hp:ye5 st)(hC:C+200000<=1000000000){p:Mx}{S:List Nat}(h:AS st C p S)(ht:t∉S):
  ∃N,N<200000/\(∀k,k<N->z7c (sfN t k p).1 t=0)/\z7c (sfN t N p).1 t≠0/\AS st (C+200000) (sfN t N p) (t::S):=by
 by_cases hl:t<st.threads.length
 ·obtain ⟨tp,hc⟩:=ydm (hp.fit t hl) st.hs (st.ents (st.thr t)) (hp.en t hl) (hp.w t hl)
  have hd:=yb8 (hp.fit t hl) (hp.v t) (hp.en t hl) (hp.w t hl) (hp.o t hl) hc hC h.mi (λ_=>0)
  obtain ⟨N,g1,g2,g3,g4,g5,g6⟩:=ycr (t:=t) _ 0 (λ_=>0) p.2 [] p.1 (h.rest t ht hl) hd
  refine ⟨N,by omega,g2,g3,g4,g6.trans h.len,λu hu hul=>?_⟩
  have hu':=λe:u=t=>hu ymz
  rw [show sfN t N p=sfN t N (p.1,p.2) from rfl,g5 u hu']
  exact h.rest u (λq=>hu (List.mem_cons_of_mem _ q)) hul
 ·refine ⟨0,by omega,λk hk=>by omega,?_,h.mi.mono yl5,h.len,λu hu hul=>h.rest u (λq=>hu (List.mem_cons_of_mem _ q)) hul⟩
  show z7c p.1 t≠0
  unfold z7c
  rw [List.getElem?_eq_none (by rw [h.len];omega)]
  decide
end Go.Proofs.YtiiepngikigmbaaGreatDoor
