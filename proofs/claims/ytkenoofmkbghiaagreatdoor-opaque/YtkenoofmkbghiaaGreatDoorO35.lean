import Derived.Test.YtkenoofmkbghiaaGreatDoorO34
import Derived.ShutString
import Derived.ChangeOld
import Derived.ChangeMaps5
import Derived.Below
import Derived.SizedLaws
import Derived.JoinedOf
import Derived.Test.YtkenoofmkbghiaaGreatDoorCards
import Derived.Test.YtkenoofmkbghiaaGreatDoorTie
import Derived.SevenTiedAt
set_option maxRecDepth 100000
set_option maxHeartbeats 20000000
namespace Go.Proofs.YtkenoofmkbghiaaGreatDoor
open Go.RowKit
variable{at' cap f i j lb len n nt p0 t up:Nat}{a w:PV}{of to:ByteArray}{E:List Ent}{b k:Bk}{v:Nat->Int}{pu:Bool}{d:Int}{l:List Bool}{G:Nat->Option Int}{e:Ent}{pa:Option Addr}{zs:List Int}
section
variable{Gd:Ent->Prop}{Obs:List Ent->List Int->Int->Prop}{x:Cx}{c:List Ic}{tp N p rv:Nat}{o:List Ent}{r v0 vb:Nat->Int}{out:List Int}{vh:Nat->Bool}{qc:Bool}{E0:List Ent}{W:Nat->Option Int}
theorem yoz(hx:x.Fit)(hO:yj4 Obs x.th)(hA:ynx Obs x.th)(hk:k.puts.length=6)(h:Cod c tp p (x.qUn k p))(ho:Obs E0 out 0)(hL:LkI x rv o W vb vh E0 v0)(hP:NoP x.th E0\/ ∃k e,Op x.th k e E0)(hvh: ∀a,vh a=true->bAt k.puts a=true)(hne: ∃i,i<6/\bAt k.puts i=true)
  (again: ∀n,n<=N->∀E v r' qc',LkI x rv o W vb nov E v->NoP x.th E->Obs E out 0->(∀j,j≠4->r' j=r j)->Saf Gd Obs x.th c n r' k.again out v nov qc' E):
  Saf Gd Obs x.th c N r p out v0 vh qc E0:=by
 unfold Cx.qUn at h
 obtain ⟨h0,h⟩:=h.app
 obtain ⟨c1,_⟩:=h.at
 refine yko (I:=λi r' E v vh' _=>LkI x rv o W vb vh' E v/\Obs E out 0/\(∀j,j≠4->r' j=r j)/\(∀a,vh' a=true->bAt k.puts a=true/\i<=a)/\(NoP x.th E\/((∃k e,Op x.th k e E)/\ ∀j,j<i->bAt k.puts j=false))) (F:=bAt k.puts) (N0:=N) ?_ ?_ k.puts 0 p N r E0 v0 vh qc yum (λj _=>by rw [Nat.zero_add]) (Nat.le_refl _) h0 ⟨hL,ho,λ_ _=>rfl,λa ha=>⟨hvh a ha,Nat.zero_le _⟩,hP.imp id λq=>⟨q,λj hj=>absurd hj (Nat.not_lt_zero j)⟩⟩ ?_
 ·intro i r1 E v vh1 _ hF hI
  obtain ⟨q1,q2,q3,q4,q5⟩:=hI
  refine ⟨q1,q2,q3,λa ha=>?_,q5.imp id λq=>⟨q.1,λj hj=>?_⟩⟩
  ·obtain ⟨w1,w2⟩:=q4 a ha
   refine ⟨w1,?_⟩
   have:a≠i:=λe=>by rw [e,hF] at w1;cases w1
   omega
  ·by_cases e:j=i
   ·rw [e];exact hF
   ·exact q.2 j yum
 ·intro i p1 N1 r1 E v vh1 qc1 hi hF hN h1 hI hn
  obtain ⟨q1,q2,q3,q4,q5⟩:=hI
  refine ym6 hx hO hi h1 q2 hA q1 (q5.imp id λq=>q.1) λn g E' v' r' vh' qc' w1 w2 w3 w4 w5=>?_
  refine hn n g r' E' v' vh' qc' ⟨w1,w3,λj hj=>(w4 j hj).trans (q3 j hj),λa ha=>?_, .inl w2⟩
  obtain ⟨z1,z2⟩:=w5 a ha
  obtain ⟨z3,z4⟩:=q4 a z1
  exact ⟨z3,by omega⟩
 ·intro n g r1 E v vh1 qc1 hI
  obtain ⟨q1,q2,q3,q4,q5⟩:=hI
  rw [hk] at q4 q5
  have e:vh1=nov:=funext λa=>by
   cases ha:vh1 a with
   |false=>rfl
   |true=>
    have:=(q1.lk a ha).1
    have:=(q4 a ha).2
    omega
  subst e
  have hP:NoP x.th E:=by
   rcases q5 with q5|⟨_,q5⟩
   ·exact q5
   ·obtain ⟨i,hi,hb⟩:=hne
    rw [q5 i yum] at hb
    cases hb
  refine ymr hO q2 c1 λn2 g2 E2 w2 N2=>?_
  exact again n2 yum E2 w2 r1 qc1 (q1.env N2.env) (hP.hist N2.env.hist) N2.obs q3
theorem ynm(hx:x.Fit)(hO:yj4 Obs x.th)(hk:k.puts.length=6)(h:Cod c tp p (z7l (x.qLock (uJz up)) k.puts 0 p))(ho:Obs E0 out 0)(h6:r 6=(rv:Int)+1)(hL:LkI x rv o W vb nov E0 v0)(hW1: ∀a,a<6->bAt k.puts a=true->(vb (x.ob+(6+a))=0↔W a=none))(hW0: ∀a,bAt k.puts a=false->W a=none)
  (undo: ∀n,n<N->∀E v r' vh' qc',LkI x rv o W vb vh' E v->Hist x.th E0 E->Obs E out 0->(∀j,j≠4->j≠5->r' j=r j)->Saf Gd Obs x.th c n r' up out v vh' qc' E)
  (ok: ∀n,n<=N->∀E v r' vh' qc',LkI x rv o W vb vh' E v->Hist x.th E0 E->Obs E out 0->(∀j,j≠4->j≠5->r' j=r j)->(∀a,vh' a=true↔W a≠none)->Saf Gd Obs x.th c n r' (p+(z7l (x.qLock (uJz up)) k.puts 0 p).length) out v vh' qc' E):
  Saf Gd Obs x.th c N r p out v0 nov qc E0:=by
 refine yko (I:=λi r' E v vh' _=>LkI x rv o W vb vh' E v/\Hist x.th E0 E/\Obs E out 0/\(∀j,j≠4->j≠5->r' j=r j)/\(∀a,a<i->(vh' a=true↔W a≠none))/\(∀a,i<=a->vh' a=false)) (F:=bAt k.puts) (N0:=N) ?_ ?_ k.puts 0 p N r E0 v0 nov qc yum (λj _=>by rw [Nat.zero_add]) (Nat.le_refl _) h ⟨hL,Hist.refl _ _,ho,λ_ _ _=>rfl,λa ha=>absurd ha (Nat.not_lt_zero a),λ_ _=>rfl⟩ ?_
 ·intro i r1 E v vh1 _ hF hI
  obtain ⟨q1,q2,q3,q4,q5,q6⟩:=hI
  refine ⟨q1,q2,q3,q4,λa ha=>?_,λa ha=>q6 a yum⟩
  by_cases e:a=i
  ·subst e
   rw [q6 a (Nat.le_refl _),hW0 a hF]
   simp
  ·exact q5 a yum
 ·intro i p1 N1 r1 E v vh1 qc1 hi hF hN h1 hI hn
  obtain ⟨q1,q2,q3,q4,q5,q6⟩:=hI
  refine yn8 hx hO hi h1 q3 (by rw [q4 6 yup yup];exact h6) q1 (q6 i (Nat.le_refl _)) (hW1 i hi hF) (λn g E' v' r' qc' w1 w2 w3 w4=>?_) λn g E' v' r' vh' qc' w1 w2 w3 w4 w5 w6=>?_
  ·exact undo n yum E' v' r' vh1 qc' w1 (q2.trans w2) w3 λj h4 h5=>(w4 j h4 h5).trans (q4 j h4 h5)
  ·refine hn n g r' E' v' vh' qc' ⟨w1,q2.trans w2,w3,λj h4 h5=>(w4 j h4 h5).trans (q4 j h4 h5),λa ha=>?_,λa ha=>by rw [w5 a yum];exact q6 a yum⟩
   by_cases e:a=i
   ·subst e;exact w6
   ·rw [w5 a e];exact q5 a yum
 ·intro n g r1 E v vh1 qc1 hI
  obtain ⟨q1,q2,q3,q4,q5,q6⟩:=hI
  rw [hk] at q5 q6
  refine ok n g E v r1 vh1 qc1 q1 q2 q3 q4 λa=>?_
  by_cases ha:a<6
  ·exact q5 a yum
  ·rw [q6 a yum,hW0 a ?_]
   ·simp
   ·unfold bAt
    rw [List.getElem?_eq_none yum]
    rfl
end
def yn9(Obs:List Ent->List Int->Int->Prop)(t:Nat):Prop:=∀E e out,e.t=t->e.s=0->Obs E out 0->Obs (E++[e]) out 0
structure TkI(x:Cx)(rv:Nat)(o:List Ent)(G W:Nat->Option Int)(vb:Nat->Int)(vh:Nat->Bool)(k:Nat)(E:List Ent)(v:Nat->Int):Prop where
 lk:LkI x rv o W vb vh E v
 op:Op x.th k ⟨x.th,G,W,0⟩ E
 le:rv<=k
 rd: ∀a d,G a=some d->RdOk E rv a d
section
variable{Gd:Ent->Prop}{Obs:List Ent->List Int->Int->Prop}{x:Cx}{c:List Ic}{tp N p rv k:Nat}{o:List Ent}{r v0 vb:Nat->Int}{out:List Int}{vh:Nat->Bool}{qc:Bool}{E0:List Ent}{G W:Nat->Option Int}
theorem TkI.env(h:TkI x rv o G W vb vh k E0 v0)(hN:EnvR x.th vh E0 v0 E v):TkI x rv o G W vb vh k E v:=⟨h.lk.env hN,h.op.hist hN.hist,h.le,λa d hd=>(h.rd a d hd).goes hN.hist.goes h.lk.rvl⟩
theorem TkI.lt(h:TkI x rv o G W vb vh k E0 v0):k<E0.length:=(List.getElem?_eq_some_iff.1 h.op.1).1
theorem yoa(hO:yj4 Obs x.th)(hT:yn9 Obs x.th)(h:Cod c tp p [fin (ybc 5 (Nm 0) 12 (Nm 1)),fin (z87 0 5 (Rg 5) (Nm 1))])(ho:Obs E0 out 0)(hL:LkI x rv o W vb vh E0 v0)(hP:NoP x.th E0)(hvh: ∀a,vh a=true↔W a≠none)(hR: ∀a d,G a=some d->RdOk E0 rv a d)(hg:Gd ⟨x.th,G,W,0⟩)
  (ok: ∀n,n<N->∀E v r' k,TkI x rv o G W vb vh k E v->Obs E out 0->(∀j,j≠5->r' j=r j)->r' 5=(k:Int)+1->Saf Gd Obs x.th c n r' (p+2) out v vh true E):
  Saf Gd Obs x.th c N r p out v0 vh qc E0:=by
 obtain ⟨c0,h⟩:=h.at
 obtain ⟨c1,h⟩:=h.at
 have hge:=ymb x
 refine yn6 hO ho c0 (adr 12 rfl yum) rfl ⟨x.th,G,W,0⟩ rfl rfl hg (λa ha=>⟨(hL.lk a ((hvh a).2 ha)).1,(hvh a).2 ha⟩) λn1 g1 E1 w1 N1=>?_
 have L1:=hL.env N1.env
 have P1:=hP.hist N1.env.hist
 have l1:=N1.len
 have o1:Obs (E1++[⟨x.th,G,W,0⟩]) out 0:=hT _ _ _ rfl rfl N1.obs
 have tp:=λa=>ymp (E:=E1) (e:=⟨x.th,G,W,0⟩) rfl a
 have T1:TkI x rv o G W vb vh E1.length (E1++[⟨x.th,G,W,0⟩]) (z60 w1 12 ((E1.length:Int)+1)):=by
  refine ⟨⟨by simp;have:=L1.rvl;omega,(yl2 rfl).trans L1.ow,λA hA hn=>by rw [z7j (λe=>by have:=hA.1;omega)];exact L1.own A hA hn,λa ha=>?_⟩,⟨by simp,rfl,rfl,λj e hj he het=>?_⟩,L1.rvl,λa d hd=>((hR a d hd).goes N1.env.hist.goes hL.rvl).goes (ylx _ _) L1.rvl⟩
  ·obtain ⟨q1,q2,q3,q4,q5⟩:=L1.lk a ha
   rw [(tp a).1,(tp a).2]
   exact ⟨q1,q2,q3,by rw [z7j yum];exact q4,by rw [z7j yum];exact q5⟩
  ·by_cases hl:j<E1.length
   ·rw [List.getElem?_append_left hl] at he
    exact ⟨P1 j e he het,hl⟩
   ·rw [List.getElem?_eq_none yur] at he
    cases he
 refine ⟨o1,?_⟩
 refine ymq hO o1 c1 λn2 g2 E2 w2 N2=>?_
 refine ok n2 yum E2 w2 _ E1.length (T1.env N2.env) N2.obs (λj hj=>by rw [z7g hj,z7g hj]) ?_
 rw [z7m,z7u,z70,z7m]
 exact w64 _ yum yum
theorem yob(hx:x.Fit)(hO:yj4 Obs x.th)(hi:i<6)(h:Cod c tp p (x.qLook (uJz up) i p))(ho:Obs E0 out 0)(h6:r 6=(rv:Int)+1)(hL:TkI x rv o G W vb vh k E0 v0)
  (undo: ∀n,n<N->∀E v r',TkI x rv o G W vb vh k E v->Obs E out 0->(∀j,j≠4->r' j=r j)->Saf Gd Obs x.th c n r' up out v vh qc E)
  (ok: ∀n,n<N->∀E v r',TkI x rv o G W vb vh k E v->Hist x.th E0 E->Obs E out 0->(∀j,j≠4->r' j=r j)->(vb (x.ob+(12+i))≠0->∀d,G i=some d->RdOk E k i d)->Saf Gd Obs x.th c n r' (p+5) out v vh qc E):
  Saf Gd Obs x.th c N r p out v0 vh qc E0:=by
 have hob:=z9l hx
 have hge:=ymb x
 have hth:=hx.t
 unfold Cx.qLook at h
 obtain ⟨c0,h⟩:=h.at
 obtain ⟨c1,h⟩:=h.at
 obtain ⟨c2,h⟩:=h.at
 obtain ⟨c3,h⟩:=h.at
 obtain ⟨c4,h⟩:=h.at
 refine yj3 hO ho (x.ob+(12+i)) c0 (adr _ yu2 yum) yum λn1 g1 E1 w1 N1=>?_
 have L1:=hL.env N1.env
 have b1:w1 (x.ob+(12+i))=vb (x.ob+(12+i)):=L1.lk.own _ (yjs _ yum) λa ha=>by omega
 by_cases z0:vb (x.ob+(12+i))=0
 ·refine ykq hO N1.obs c1 yvk λn2 g2 E2 w2 N2=>?_
  exact ok n2 yum E2 w2 _ (L1.env N2.env) (N1.env.hist.trans N2.env.hist) N2.obs (λj h4=>z7g h4) λq=>absurd z0 q
 ·refine ykr hO N1.obs c1 yvk λn2 g2 E2 w2 N2=>?_
  have H2:=N1.env.hist.trans N2.env.hist
  have L2:=L1.env N2.env
  have e1: ∀j,j≠4->setr r 4 (w1 (x.ob+(12+i))) j=r j:=λj hj=>z7g hj
  generalize setr r 4 (w1 (x.ob+(12+i)))=r1 at*
  refine yj3 hO N2.obs (6+i) c2 (adr _ yvb yum) yum λn3 g3 E3 w3 N3=>?_
  have H3:=H2.trans N3.env.hist
  have L3:=L2.env N3.env
  refine ynw hO N3.obs c3 λn4 g4 E4 w4 N4=>?_
  have H4:=H3.trans N4.env.hist
  have L4:=L3.env N4.env
  rw [z7u,z7u,z7m,z7g (show 6≠4 by decide),e1 6 yup,h6]
  have rl:=L3.lk.rvl
  have l3:=N3.len
  by_cases z1:w3 (6+i)<(rv:Int)+1
  ·rw [if_pos z1]
   have hv:vh i=false:=by
    cases hv:vh i with
    |false=>rfl
    |true=>
     have:=(N3.vi.held i hi hv).1
     unfold yj7 at this
     omega
   obtain ⟨_,q2,_,q4⟩:=ynk N3.vi hv hi rl l3 z1
   have R3: ∀d,G i=some d->RdOk E3 k i d:=λd hd=>by
    have hk:=L3.lt
    have hle:=L3.le
    obtain ⟨s1,_⟩:=yj5 (E:=E3) i E3.length rv rl q2
    obtain ⟨s2,_⟩:=yj5 (E:=E3) i E3.length k yum (Nat.le_trans q2 hle)
    exact ⟨s2.symm.trans (s1.trans (L3.rd i d hd).1),λj e hj he hs=>q4 j e yum he hs⟩
   refine ykr hO N4.obs c4 yu7 λn5 g5 E5 w5 N5=>?_
   refine ok n5 yum E5 w5 _ (L4.env N5.env) (H4.trans N5.env.hist) N5.obs (λj h4=>by rw [z7g h4,z7g h4,e1 j h4]) λ_ d hd=>?_
   have k3:=L3.lt
   have k4:=L4.lt
   exact ((R3 d hd).goes N4.env.hist.goes yum).goes N5.env.hist.goes yum
  ·rw [if_neg z1]
   refine ykq hO N4.obs c4 yu8 λn5 g5 E5 w5 N5=>?_
   exact undo n5 yum E5 w5 _ (L4.env N5.env) N5.obs λj h4=>by rw [z7g h4,z7g h4,e1 j h4]
theorem ynn(hx:x.Fit)(hO:yj4 Obs x.th)(hk:b.gets.length=6)(h:Cod c tp p (z7l (x.qLook (uJz up)) b.gets 0 p))(ho:Obs E0 out 0)(h6:r 6=(rv:Int)+1)(hL:TkI x rv o G W vb vh k E0 v0)
  (undo: ∀n,n<N->∀E v r',TkI x rv o G W vb vh k E v->Obs E out 0->(∀j,j≠4->r' j=r j)->Saf Gd Obs x.th c n r' up out v vh qc E)
  (ok: ∀n,n<=N->∀E v r',TkI x rv o G W vb vh k E v->Obs E out 0->(∀j,j≠4->r' j=r j)->(∀a,bAt b.gets a=true->vb (x.ob+(12+a))≠0->∀d,G a=some d->RdOk E k a d)->Saf Gd Obs x.th c n r' (p+(z7l (x.qLook (uJz up)) b.gets 0 p).length) out v vh qc E):
  Saf Gd Obs x.th c N r p out v0 vh qc E0:=by
 refine yko (I:=λi r' E v vh' qc'=>vh'=vh/\qc'=qc/\TkI x rv o G W vb vh k E v/\Obs E out 0/\(∀j,j≠4->r' j=r j)/\(∀a,a<i->bAt b.gets a=true->vb (x.ob+(12+a))≠0->∀d,G a=some d->RdOk E k a d)) (F:=bAt b.gets) (N0:=N) ?_ ?_ b.gets 0 p N r E0 v0 vh qc yum (λj _=>by rw [Nat.zero_add]) (Nat.le_refl _) h ⟨rfl,rfl,hL,ho,λ_ _=>rfl,λa ha=>absurd ha (Nat.not_lt_zero a)⟩ ?_
 ·intro i r1 E v vh1 _ hF hI
  obtain ⟨z1,z2,q1,q3,q4,q5⟩:=hI
  refine ⟨z1,z2,q1,q3,q4,λa ha hb=>?_⟩
  by_cases e:a=i
  ·rw [e,hF] at hb;cases hb
  ·exact q5 a yum hb
 ·intro i p1 N1 r1 E v vh1 qc1 hi hF hN h1 hI hn
  obtain ⟨rfl,rfl,q1,q3,q4,q5⟩:=hI
  refine yob hx hO hi h1 q3 (by rw [q4 6 yup];exact h6) q1 (λn g E' v' r' w1 w3 w4=>?_) λn g E' v' r' w1 w2 w3 w4 w5=>?_
  ·exact undo n yum E' v' r' w1 w3 λj h4=>(w4 j h4).trans (q4 j h4)
  ·refine hn n g r' E' v' _ _ ⟨rfl,rfl,w1,w3,λj h4=>(w4 j h4).trans (q4 j h4),λa ha hb hz d hd=>?_⟩
   by_cases e:a=i
   ·subst e;exact w5 hz d hd
   ·have:=q1.lt
    exact (q5 a yum hb hz d hd).goes w2.goes yum
 ·intro n g r1 E v vh1 qc1 hI
  obtain ⟨rfl,rfl,q1,q3,q4,q5⟩:=hI
  rw [hk] at q5
  refine ok n g E v r1 q1 q3 q4 λa hb=>?_
  by_cases ha:a<6
  ·exact q5 a yum hb
  ·unfold bAt at hb
   rw [List.getElem?_eq_none yum] at hb
   cases hb
end
structure CmI(x:Cx)(o:List Ent)(W:Nat->Option Int)(vb:Nat->Int)(k:Nat)(vh:Nat->Bool)(E:List Ent)(v:Nat->Int):Prop where
 own: ∀A,yjx x.th A->(∀a,a<6->A≠x.ob+(18+a))->v A=vb A
 ow:yjy x.th E=o
 np:NoP x.th E
 st: ∀a,vh a=true->a<6/\ ∃z,W a=some z/\top E a=z/\lw E a=k+1
section
variable{Gd:Ent->Prop}{Obs:List Ent->List Int->Int->Prop}{x:Cx}{c:List Ic}{tp N p rv k:Nat}{o:List Ent}{r v0 vb:Nat->Int}{out:List Int}{vh:Nat->Bool}{qc:Bool}{E0:List Ent}{G W:Nat->Option Int}
theorem CmI.env(h:CmI x o W vb k vh E0 v0)(hN:EnvR x.th vh E0 v0 E v):CmI x o W vb k vh E v:=by
 refine ⟨λA hA hn=>(hN.own A hA).trans (h.own A hA hn),(yjt hN.hist).trans h.ow,h.np.hist hN.hist,λa ha=>?_⟩
 obtain ⟨h1,z,h2,h3,h4⟩:=h.st a ha
 obtain ⟨_,_,q3,q4⟩:=hN.held a h1 ha
 exact ⟨h1,z,h2,q3.trans h3,q4.trans h4⟩
theorem TkI.lockRd{a:Nat}(h:TkI x rv o G W vb vh k E0 v0)(hvi:VI Gd x.th E0 vh v0)(ha:vh a=true)(hd:G a=some d):RdOk E0 k a d:=by
 obtain ⟨h1,_,h3,_,_⟩:=h.lk.lk a ha
 have hlt:=h.lt
 obtain ⟨s1,_⟩:=yj5 (E:=E0) a E0.length rv h.lk.rvl h3
 obtain ⟨s2,_⟩:=yj5 (E:=E0) a E0.length k yum (Nat.le_trans h3 h.le)
 refine ⟨s2.symm.trans (s1.trans (h.rd a d hd).1),λj e hj he hs=>?_⟩
 by_cases ht:e.t=x.th
 ·exact absurd hs (h.op.2.2.2 j e yum he ht).1
 ·exact (hvi.held a h1 ha).2 j e he hs ht
theorem TkI.put(h:TkI x rv o G W vb vh k E0 v0)(hvi:VI Gd x.th E0 vh v0)(hR: ∀a d,G a=some d->RdOk E0 k a d\/vh a=true)(hvh: ∀a,vh a=true↔W a≠none):
  Gh x.th true E0 (E0.set k ⟨x.th,G,W,3⟩)/\CmI x (o++[⟨x.th,G,W,3⟩]) W vb k vh (E0.set k ⟨x.th,G,W,3⟩) v0:=by
 obtain ⟨h1,h2,h3,h4⟩:=id h.op
 have hlt:=h.lt
 have hw: ∀a,W a≠none->lw E0 a<=k:=λa ha=>Nat.le_trans (h.lk.lk a ((hvh a).2 ha)).2.2.1 h.le
 refine ⟨.inr ⟨k,_,h1,rfl,rfl, .inr ⟨rfl,rfl,λa d hd=>(hR a d hd).elim id λq=>h.lockRd hvi q hd,hw⟩⟩,h.lk.own,?_,?_,λa ha=>?_⟩
 ·rw [<-h.lk.ow]
  exact ynl h1 rfl rfl λj e hj he ht=>by have:=(h4 j e yum he ht).2;omega
 ·exact h.op.done (s:=3) yup
 ·obtain ⟨z,hz⟩:=Option.ne_none_iff_exists'.1 ((hvh a).1 ha)
  obtain ⟨q1,q2⟩:=ymj h1 rfl a E0.length hlt (Nat.le_refl _) (λq=>hw a q)
  refine ⟨(h.lk.lk a ha).1,z,hz,?_,?_⟩
  ·unfold top
   rw [ykm]
   refine q1.trans ?_
   show (W a).getD _=z
   rw [hz]
   rfl
  ·unfold lw
   rw [ykm]
   refine q2.trans ?_
   show (if (W a).isSome=true then k+1 else _)=k+1
   rw [hz]
   rfl
theorem yno(hx:x.Fit)(hO:yj4 Obs x.th)(hi:i<6)(h:Cod c tp p (x.qStore i p))(ho:Obs E0 out 0)(h5:r 5=(k:Int)+1)(hW:vb (x.ob+(6+i))=0↔W i=none)(hz: ∀z,W i=some z->vb (x.ob+i)=z)(hput: ∀E,yjy x.th E=o->Obs E out 0)
  (hS: ∀E v,Nx Gd Obs x.th out vh E0 v0 E v->∃F,Gh x.th qc E F/\CmI x o W vb k vh F v) (hv:vh i=true↔W i≠none)
  (ok: ∀n,n<N->∀E v r' vh' qc',CmI x o W vb k vh' E v->Obs E out 0->(∀j,j≠4->r' j=r j)->(∀a,vh' a=true↔vh a=true/\a≠i)->Saf Gd Obs x.th c n r' (p+5) out v vh' qc' E):
  Saf Gd Obs x.th c N r p out v0 vh qc E0:=by
 have hob:=z9l hx
 have hge:=ymb x
 unfold Cx.qStore at h
 obtain ⟨c0,h⟩:=h.at
 obtain ⟨c1,h⟩:=h.at
 obtain ⟨c2,h⟩:=h.at
 obtain ⟨c3,h⟩:=h.at
 obtain ⟨c4,h⟩:=h.at
 refine yms hO ho (x.ob+(6+i)) c0 (adr _ yu2 yum) yum λn1 g1 E1 w1 N1=>?_
 obtain ⟨F1,hG,L1⟩:=hS E1 w1 N1
 have o1:=hput F1 L1.ow
 refine ⟨F1,hG,o1,?_⟩
 have b1:w1 (x.ob+(6+i))=vb (x.ob+(6+i)):=L1.own _ (yjs _ yum) λa ha=>by omega
 by_cases z0:vb (x.ob+(6+i))=0
 ·refine ykq hO o1 c1 yvk λn2 g2 E2 w2 N2=>?_
  refine ok n2 yum E2 w2 _ vh qc (L1.env N2.env) N2.obs (λj h4=>z7g h4) λa=>⟨λq=>⟨q,λe=>?_⟩,λq=>q.1⟩
  rw [e] at q
  exact hv.1 q (hW.1 z0)
 ·have hvi:vh i=true:=hv.2 λq=>z0 (hW.2 q)
  refine ykr hO o1 c1 yvk λn2 g2 E2 w2 N2=>?_
  have L2:=L1.env N2.env
  have e1: ∀j,j≠4->setr r 4 (w1 (x.ob+(6+i))) j=r j:=λj hj=>z7g hj
  generalize setr r 4 (w1 (x.ob+(6+i)))=r1 at*
  refine yj3 hO N2.obs (x.ob+i) c2 (adr _ yu2 yum) yum λn3 g3 E3 w3 N3=>?_
  have L3:=L2.env N3.env
  have b3:w3 (x.ob+i)=vb (x.ob+i):=L3.own _ (yjs _ yum) λa ha=>by omega
  obtain ⟨_,z,t1,t2,_⟩:=L3.st i hvi
  have d4:setr r1 4 (w3 (x.ob+i)) 4=z:=by rw [z7m,b3];exact hz z t1
  have e2: ∀j,j≠4->setr r1 4 (w3 (x.ob+i)) j=r j:=λj hj=>by rw [z7g hj,e1 j hj]
  generalize setr r1 4 (w3 (x.ob+i))=r2 at*
  refine yon hO N3.obs i hi c3 (adr _ yvb yum) hvi (by rw [z7u,d4,t2]) λn4 g4 E4 w4 N4=>?_
  have L4':=L3.env N4.env
  rw [z7u,d4]
  have L4:CmI x o W vb k vh E4 (z60 w4 i z):=⟨λA hA hn=>by rw [z7j (λe=>by have:=hA.1;omega)];exact L4'.own A hA hn,L4'.ow,L4'.np,L4'.st⟩
  have s4:z60 w4 i z i=z:=z9e _ _ _
  generalize z60 w4 i z=u4 at*
  obtain ⟨_,z',t3,t4,t5⟩:=L4.st i hvi
  have ez:z=z':=Option.some.inj (t1.symm.trans t3)
  refine yn4 hO N4.obs i hi c4 (adr _ yvb yum) hvi (by rw [z7u,e2 5 yup,h5,t5];simp) (by rw [s4,t4,ez]) (λj e he hs het=>absurd hs (L4.np j e he het)) λn5 g5 E5 w5 N5=>?_
  have L5:=L4.env N5.env
  refine ok n5 yum E5 _ r2 (yj2 vh i) false ⟨λA hA hn=>by rw [z7j (λe=>by have:=hA.1;omega)];exact L5.own A hA hn,L5.ow,L5.np,λa ha=>L5.st a (yj1 ha).1⟩ N5.obs e2 λa=>⟨λq=>yj1 q,λq=>by rw [yj8 q.2];exact q.1⟩
theorem ym7(hx:x.Fit)(hO:yj4 Obs x.th)(hk:b.puts.length=6)(h:Cod c tp p (z7l x.qStore b.puts 0 p))(ho:Obs E0 out 0)(h5:r 5=(k:Int)+1)(hW1: ∀a,a<6->bAt b.puts a=true->(vb (x.ob+(6+a))=0↔W a=none))(hW0: ∀a,bAt b.puts a=false->W a=none)(hz: ∀a z,W a=some z->vb (x.ob+a)=z)(hne: ∃i,i<6/\bAt b.puts i=true)
  (hput: ∀E,yjy x.th E=o++[⟨x.th,G,W,3⟩]->Obs E out 0) (hvh: ∀a,vh a=true↔W a≠none) (hL:TkI x rv o G W vb vh k E0 v0) (hR: ∀a d,G a=some d->RdOk E0 k a d\/vh a=true)
  (ok: ∀n,n<=N->∀E v r' qc',CmI x (o++[⟨x.th,G,W,3⟩]) W vb k nov E v->Obs E out 0->(∀j,j≠4->r' j=r j)->Saf Gd Obs x.th c n r' (p+(z7l x.qStore b.puts 0 p).length) out v nov qc' E):
  Saf Gd Obs x.th c N r p out v0 vh true E0:=by
 refine yko (I:=λi r' E v vh' qc'=>Obs E out 0/\(∀j,j≠4->r' j=r j)/\((vh'=vh/\qc'=true/\TkI x rv o G W vb vh k E v/\(∀a d,G a=some d->RdOk E k a d\/vh a=true)/\ ∀j,j<i->bAt b.puts j=false)\/(CmI x (o++[⟨x.th,G,W,3⟩]) W vb k vh' E v/\ ∀a,vh' a=true↔(W a≠none/\i<=a)))) (F:=bAt b.puts) (N0:=N) ?_ ?_ b.puts 0 p N r E0 v0 vh true yum (λj _=>by rw [Nat.zero_add]) (Nat.le_refl _) h ⟨ho,λ_ _=>rfl, .inl ⟨rfl,rfl,hL,hR,λj hj=>absurd hj (Nat.not_lt_zero j)⟩⟩ ?_
 ·intro i r1 E v vh1 _ hF hI
  obtain ⟨q1,q2,q3⟩:=hI
  refine ⟨q1,q2,q3.imp (λq=>⟨q.1,q.2.1,q.2.2.1,q.2.2.2.1,λj hj=>?_⟩) λq=>⟨q.1,λa=>(q.2 a).trans ⟨λw=>⟨w.1,?_⟩,λw=>⟨w.1,by omega⟩⟩⟩⟩
  ·by_cases e:j=i
   ·rw [e];exact hF
   ·exact q.2.2.2.2 j yum
  ·have:a≠i:=λe=>w.1 (by rw [e];exact hW0 i hF)
   have:=w.2
   omega
 ·intro i p1 N1 r1 E v vh1 qc1 hi hF hN h1 hI hn
  obtain ⟨q1,q2,q3⟩:=hI
  refine yno (k:=k) (o:=o++[⟨x.th,G,W,3⟩]) (W:=W) (vb:=vb) hx hO hi h1 q1 (by rw [q2 5 yup];exact h5) (hW1 i hi hF) (hz i) hput ?_ ?_ λn g E' v' r' vh' qc' w1 w2 w3 w4=>?_
  ·intro E' v' N'
   rcases q3 with ⟨rfl,rfl,q4,q5,_⟩|⟨q4,_⟩
   ·have hlt:=q4.lt
    exact ⟨_,(q4.env N'.env).put N'.vi (λa d hd=>(q5 a d hd).imp (λw=>w.goes N'.env.hist.goes yum) id) hvh⟩
   ·exact ⟨E', .inl rfl,q4.env N'.env⟩
  ·rcases q3 with ⟨rfl,_⟩|⟨_,q4⟩
   ·exact hvh i
   ·exact (q4 i).trans ⟨λw=>w.1,λw=>⟨w,Nat.le_refl _⟩⟩
  ·refine hn n g r' E' v' vh' qc' ⟨w2,λj h4=>(w3 j h4).trans (q2 j h4), .inr ⟨w1,λa=>(w4 a).trans ?_⟩⟩
   rcases q3 with ⟨rfl,_,_,_,q5⟩|⟨_,q4⟩
   ·refine ⟨λw=>⟨(hvh a).1 w.1,?_⟩,λw=>⟨(hvh a).2 w.1,by omega⟩⟩
    by_cases e:a<i
    ·exact absurd (hW0 a (q5 a e)) ((hvh a).1 w.1)
    ·have:=w.2
     omega
   ·rw [q4 a]
    exact ⟨λw=>⟨w.1.1,by have:=w.2;have:=w.1.2;omega⟩,λw=>⟨⟨w.1,by omega⟩,by omega⟩⟩
 ·intro n g r1 E v vh1 qc1 hI
  obtain ⟨q1,q2,q3⟩:=hI
  rw [hk] at q3
  rcases q3 with ⟨_,_,_,_,q5⟩|⟨q4,q5⟩
  ·obtain ⟨i,hi,hb⟩:=hne
   rw [q5 i yum] at hb
   cases hb
  ·have e:vh1=nov:=funext λa=>by
    cases ha:vh1 a with
    |false=>rfl
    |true=>
     have:=(q4.st a ha).1
     have:=((q5 a).1 ha).2
     omega
   subst e
   exact ok n g E v r1 qc1 q4 q1 q2
end
section
variable{Gd:Ent->Prop}{Obs:List Ent->List Int->Int->Prop}{x:Cx}{c:List Ic}{tp N p rv:Nat}{o:List Ent}{r v0:Nat->Int}{out:List Int}{qc:Bool}{E0:List Ent}{G W:Nat->Option Int}
def yor(x:Cx)(v0 v:Nat->Int):Prop:=∀A,yjx x.th A->(∀a,a<6->A≠x.ob+(18+a))->v A=v0 A
theorem ym8(hx:x.Fit)(hO:yj4 Obs x.th)(hA:ynx Obs x.th)(hT:yn9 Obs x.th)(hp:b.puts.length=6)(hq:b.gets.length=6)(h:Cod c tp p (x.qCommit b p))(ho:Obs E0 out 0)(h6:r 6=(rv:Int)+1)(hrv:rv<=E0.length)(how:yjy x.th E0=o)(hP:NoP x.th E0)
  (hW1: ∀a,a<6->bAt b.puts a=true->(v0 (x.ob+(6+a))=0↔W a=none)) (hW0: ∀a,bAt b.puts a=false->W a=none) (hz: ∀a z,W a=some z->v0 (x.ob+a)=z) (hne: ∃i,i<6/\bAt b.puts i=true) (hR: ∀a d,G a=some d->RdOk E0 rv a d) (hG: ∀a d,G a=some d->(bAt b.gets a=true/\v0 (x.ob+(12+a))≠0)\/W a≠none) (hgd:Gd ⟨x.th,G,W,0⟩)
  (hput: ∀E,yjy x.th E=o++[⟨x.th,G,W,3⟩]->Obs E out 0)
  (again: ∀n,n<N->∀E v r' qc',yor x v0 v->yjy x.th E=o->NoP x.th E->Obs E out 0->(∀j,j≠4->j≠5->r' j=r j)->Saf Gd Obs x.th c n r' b.again out v nov qc' E)
  (ok: ∀n,n<N->∀E v r',yor x v0 v->yjy x.th E=o++[⟨x.th,G,W,3⟩]->NoP x.th E->Obs E out 0->(∀j,j≠4->j≠5->r' j=r j)->Saf Gd Obs x.th c n r' (p+(x.qCommit b p).length) out v nov true E):
  Saf Gd Obs x.th c N r p out v0 nov qc E0:=by
 unfold Cx.qCommit at h ok
 have hlu:(x.qCom und b p).length=(x.qCom (uJz (x.qUp b p)) b p).length:=by rw [<-yha,List.length_map]
 have hup:x.qUp b p=p+(x.qCom (uJz (x.qUp b p)) b p).length+1:=by rw [<-hlu];rfl
 obtain ⟨h,hj⟩:=h.app
 obtain ⟨cj,hu⟩:=hj.at
 rw [<-hup] at hu
 clear hj
 rw [hlu] at cj
 rw [List.length_append,List.length_cons] at ok
 rw [show p+((x.qCom (uJz (x.qUp b p)) b p).length+((x.qUn b (x.qUp b p)).length+1))=p+(x.qCom (uJz (x.qUp b p)) b p).length+1+(x.qUn b (x.qUp b p)).length by omega] at ok
 generalize hend:p+(x.qCom (uJz (x.qUp b p)) b p).length+1+(x.qUn b (x.qUp b p)).length=en at*
 generalize hpl:p+(x.qCom (uJz (x.qUp b p)) b p).length=pj at*
 clear hend hlu hup
 generalize x.qUp b p=up at*
 unfold Cx.qCom at h hpl
 obtain ⟨a1,h⟩:=h.app
 obtain ⟨a2,h⟩:=h.app
 obtain ⟨a3,h⟩:=h.app
 obtain ⟨a4,a5⟩:=h.app
 have pW: ∀a,W a≠none->bAt b.puts a=true:=λa ha=>by
  cases e:bAt b.puts a with
  |true=>rfl
  |false=>exact absurd (hW0 a e) ha
 have L0:LkI x rv o W v0 nov E0 v0:=⟨hrv,how,λ_ _ _=>rfl,λa ha=>by cases ha⟩
 have un: ∀n,n<N->∀E v r' vh' qc',LkI x rv o W v0 vh' E v->(NoP x.th E\/ ∃k e,Op x.th k e E)->Obs E out 0->(∀j,j≠4->j≠5->r' j=r j)->Saf Gd Obs x.th c n r' up out v vh' qc' E:=λn g E v r' vh' qc' hL hP hob hr=>by
  refine yoz hx hO hA hp hu hob hL hP (λa ha=>pW a (hL.lk a ha).2.1) hne λn1 g1 E1 v1 r1 qc1 q1 q2 q3 q4=>?_
  exact again n1 yum E1 v1 r1 qc1 q1.own q1.ow q2 q3 λj h4 h5=>(q4 j h4).trans (hr j h4 h5)
 refine ynm hx hO hp a1 ho h6 L0 hW1 hW0 (λn g E v r' vh' qc' q1 q2 q3 q4=>un n g E v r' vh' qc' q1 (.inl (hP.hist q2)) q3 q4) λn1 g1 E1 v1 r1 vh qc1 q1 q2 q3 q4 q5=>?_
 refine yoa (G:=G) hO hT a2 q3 q1 (hP.hist q2) q5 (λa d hd=>(hR a d hd).goes q2.goes hrv) hgd λn2 g2 E2 v2 r2 k w1 w2 w3 w4=>?_
 have r2e: ∀j,j≠4->j≠5->r2 j=r j:=λj h4 h5=>(w3 j h5).trans (q4 j h4 h5)
 refine ynn hx hO hq a3 w2 (by rw [r2e 6 yup yup];exact h6) w1 (λn g E v r' z1 z2 z3=>un n yum E v r' vh true z1.lk (.inr ⟨k,_,z1.op⟩) z2 λj h4 h5=>(z3 j h4).trans (r2e j h4 h5)) λn3 g3 E3 v3 r3 z1 z2 z3 z4=>?_
 refine ym7 hx hO hp a4 z2 (by rw [z3 5 yup];exact w4) hW1 hW0 hz hne hput q5 z1 (λa d hd=>?_) λn4 g4 E4 v4 r4 qc4 y1 y2 y3=>?_
 ·rcases hG a d hd with ⟨u1,u2⟩|u
  ·exact .inl (z4 a u1 u2 d hd)
  ·exact .inr ((q5 a).2 u)
 ·refine ynj hO y2 a5.at.1 λn5 g5 E5 v5 N5=>?_
  have y5:=y1.env N5.env
  rw [show p+(z7l (x.qLock (uJz up)) b.puts 0 p).length+2+(z7l (x.qLook (uJz up)) b.gets 0 (p+(z7l (x.qLock (uJz up)) b.puts 0 p).length+2)).length+(z7l x.qStore b.puts 0 (p+(z7l (x.qLock (uJz up)) b.puts 0 p).length+2+(z7l (x.qLook (uJz up)) b.gets 0 (p+(z7l (x.qLock (uJz up)) b.puts 0 p).length+2)).length)).length+1=pj by
   rw [<-hpl]
   simp only [List.length_append,List.length_cons,List.length_nil]
   omega]
  refine ymr hO N5.obs cj λn6 g6 E6 v6 N6=>?_
  have y6:=y5.env N6.env
  exact ok n6 yum E6 v6 r4 y6.own y6.ow y6.np N6.obs λj h4 h5=>(y3 j h4).trans ((z3 j h4).trans (r2e j h4 h5))
end
section
variable{Gd:Ent->Prop}{Obs:List Ent->List Int->Int->Prop}{x:Cx}{c:List Ic}{tp N p:Nat}{r v0:Nat->Int}{out:List Int}{qc:Bool}{E0:List Ent}
theorem ynp(hx:x.Fit)(hO:yj4 Obs x.th)(ho:Obs E0 out 0)(hl:l.length=4)(h:Cod c tp p (z7l (λi _=>[fin (z7q i (Nm 0) (x.o+(32+(i:Nat))))]) l 0 p0))
  (ok: ∀n,n<=N->∀E v r',On x Obs out (λ_=>False) E0 v0 E v->(∀j,j<4->bAt l j=true->r' j=v0 (x.ob+(32+j)))->(∀j,bAt l j=false->r' j=r j)->Saf Gd Obs x.th c n r' (p+(z7l (λi _=>[fin (z7q i (Nm 0) (x.o+(32+(i:Nat))))]) l 0 p0).length) out v nov qc E):
  Saf Gd Obs x.th c N r p out v0 nov qc E0:=by
 have hob:=z9l hx
 rw [z8a (λi=>[fin (z7q i (Nm 0) (x.o+(32+(i:Nat))))]) _ _ p0 p] at h ok
 refine yko (I:=λi r' E v vh' qc'=>vh'=nov/\qc'=qc/\On x Obs out (λ_=>False) E0 v0 E v/\(∀j,j<i->bAt l j=true->r' j=v0 (x.ob+(32+j)))/\ ∀j,(i<=j\/bAt l j=false)->r' j=r j) (F:=bAt l) (N0:=N) ?_ ?_ l 0 p N r E0 v0 nov qc yum (λj _=>by rw [Nat.zero_add]) (Nat.le_refl _) h ⟨rfl,rfl,On.refl ho _ v0,λj hj=>absurd hj (Nat.not_lt_zero j),λ_ _=>rfl⟩ ?_
 ·intro i r1 E v vh1 _ hF hI
  obtain ⟨z1,z2,q1,q2,q3⟩:=hI
  refine ⟨z1,z2,q1,λj hj hb=>q2 j ?_ hb,λj hj=>q3 j ?_⟩
  ·have:j≠i:=λe=>by rw [e,hF] at hb;cases hb
   omega
  ·exact hj.imp (λq=>by omega) id
 ·intro i p1 N1 r1 E v vh1 qc1 hi hF hN h1 hI hn
  obtain ⟨rfl,rfl,q1,q2,q3⟩:=hI
  have h4:i<4:=by have:=ygk hF;omega
  refine yj3 hO q1.obs (x.ob+(32+i)) h1.at.1 (adr _ yu2 yum) yum λn g E' v' N'=>?_
  have q1':=q1.nx N'
  refine hn n g _ E' v' _ _ ⟨rfl,rfl,q1',λj hj hb=>?_,λj hj=>?_⟩
  ·by_cases e:j=i
   ·subst e
    rw [z7m]
    exact q1'.own _ (yjs _ yum) λq=>q
   ·rw [z7g e]
    exact q2 j yum hb
  ·have:j≠i:=λe=>by
    rcases hj with hj|hj
    ·omega
    ·rw [e,hF] at hj;cases hj
   rw [z7g this]
   exact q3 j (hj.imp (λq=>by omega) id)
 ·intro n g r1 E v vh1 qc1 hI
  obtain ⟨rfl,rfl,q1,q2,q3⟩:=hI
  exact ok n g E v r1 q1 (λj hj hb=>q2 j yum hb) λj hb=>q3 j (.inr hb)
theorem ylq(hx:x.Fit)(hO:yj4 Obs x.th)(ho:Obs E0 out 0)(w:Nat->Vl)(ai:Int)(a:Nat)(ha:ai=(a:Int))(hl:l.length<=6)(hal:a+l.length<=39)(h:Cod c tp p (z7l (λi _=>[fin (z7p (Nm 0) (x.o+(ai+(i:Nat))) (w i))]) l 0 p0))
  (ok: ∀n,n<=N->∀E v,On x Obs out (λA=>∃j,j<l.length/\A=x.ob+(a+j)) E0 v0 E v->(∀j,bAt l j=true->v (x.ob+(a+j))=vof (w j) r)->Saf Gd Obs x.th c n r (p+(z7l (λi _=>[fin (z7p (Nm 0) (x.o+(ai+(i:Nat))) (w i))]) l 0 p0).length) out v nov qc E):
  Saf Gd Obs x.th c N r p out v0 nov qc E0:=by
 have hob:=z9l hx
 rw [z8a (λi=>[fin (z7p (Nm 0) (x.o+(ai+(i:Nat))) (w i))]) _ _ p0 p] at h ok
 refine yko (I:=λi r' E v vh' qc'=>r'=r/\vh'=nov/\qc'=qc/\On x Obs out (λA=>∃j,j<l.length/\A=x.ob+(a+j)) E0 v0 E v/\(∀j,j<i->bAt l j=true->v (x.ob+(a+j))=vof (w j) r)) (F:=bAt l) (N0:=N) ?_ ?_ l 0 p N r E0 v0 nov qc yum (λj _=>by rw [Nat.zero_add]) (Nat.le_refl _) h ⟨rfl,rfl,rfl,On.refl ho _ v0,λj hj=>absurd hj (Nat.not_lt_zero j)⟩ ?_
 ·intro i r1 E v vh1 _ hF hI
  obtain ⟨z0,z1,z2,q1,q2⟩:=hI
  refine ⟨z0,z1,z2,q1,λj hj hb=>q2 j ?_ hb⟩
  have:j≠i:=λe=>by rw [e,hF] at hb;cases hb
  omega
 ·intro i p1 N1 r1 E v vh1 qc1 hi hF hN h1 hI hn
  obtain ⟨rfl,rfl,rfl,q1,q2⟩:=hI
  have h4:i<l.length:=ygk hF
  refine ykw hO q1.obs (x.ob+(a+i)) h1.at.1 (adr _ (by rw [z70,yaw,ha];omega) yum) yum (yjs _ yum) λn g E' v' N'=>?_
  have q1':=q1.nx N'
  refine hn n g _ E' _ _ _ ⟨rfl,rfl,rfl,q1'.put ⟨i,h4,rfl⟩ _,λj hj hb=>?_⟩
  by_cases e:j=i
  ·subst e
   rw [z9e]
  ·have:=ygk hb
   rw [z7j yum,N'.env.own _ (yjs _ yum)]
   exact q2 j yum hb
 ·intro n g r1 E v vh1 qc1 hI
  obtain ⟨rfl,rfl,rfl,q1,q2⟩:=hI
  exact ok n g E v q1 λj hb=>q2 j (by have:=ygk hb;omega) hb
end
structure LB(x:Cx)(b:Bk)(rv:Nat)(o:List Ent)(G W:Nat->Option Int)(ps:List Int)(vb:Nat->Int)(r:Nat->Int)(E:List Ent)(v:Nat->Int):Prop where
 rvl:rv<=E.length
 r6:r 6=(rv:Int)+1
 r7:r 7=(ps.length:Int)
 ow:yjy x.th E=o
 np:NoP x.th E
 sav: ∀j,32<=j->j<39->v (x.ob+j)=vb (x.ob+j)
 pW1: ∀a,a<6->bAt b.puts a=true->(v (x.ob+(6+a))=0↔W a=none)
 pW0: ∀a,bAt b.puts a=false->W a=none
 pz: ∀a z,W a=some z->v (x.ob+a)=z
 rd: ∀a d,G a=some d->RdOk E rv a d
 pG: ∀a d,G a=some d->(bAt b.gets a=true/\v (x.ob+(12+a))≠0)\/W a≠none
 og: ∀j z,ps[j]?=some z->v (x.ob+(24+j))=z
section
variable{Gd:Ent->Prop}{Obs:List Ent->List Int->Int->Prop}{x:Cx}{c:List Ic}{tp N p rv:Nat}{r v0 vb:Nat->Int}{out:List Int}{qc:Bool}{E0:List Ent}{o:List Ent}{G W:Nat->Option Int}{ps:List Int}{b:Bk}
theorem LB.lt6(hp:b.puts.length=6)(h:LB x b rv o G W ps vb r E0 v0){a:Nat}(ha:W a≠none):a<6/\bAt b.puts a=true:=by
 cases e:bAt b.puts a with
 |true=>have:=ygk e;exact ⟨by omega,rfl⟩
 |false=>exact absurd (h.pW0 a e) ha
theorem LB.env(hp:b.puts.length=6)(hq:b.gets.length=6)(hs:ps.length<=8)(h:LB x b rv o G W ps vb r E0 v0)(hN:EnvR x.th nov E0 v0 E v):LB x b rv o G W ps vb r E v:=by
 have ow: ∀j,j<39->v (x.ob+j)=v0 (x.ob+j):=λj hj=>hN.own _ (yjs j hj)
 refine ⟨Nat.le_trans h.rvl hN.hist.len,h.r6,h.r7,(yjt hN.hist).trans h.ow,h.np.hist hN.hist,λj h1 h2=>by rw [ow j h2];exact h.sav j h1 h2,λa ha hb=>by rw [ow _ yum];exact h.pW1 a ha hb,h.pW0,λa z hz=>?_,λa d hd=>(h.rd a d hd).goes hN.hist.goes h.rvl,λa d hd=>?_,λj z hj=>?_⟩
 ·have:=(h.lt6 hp (a:=a) (by rw [hz];simp)).1
  rw [ow _ yum]
  exact h.pz a z hz
 ·refine (h.pG a d hd).imp (λq=>⟨q.1,?_⟩) id
  have:=ygk q.1
  rw [ow _ yum]
  exact q.2
 ·have:=(List.getElem?_eq_some_iff.1 hj).1
  rw [ow _ yum]
  exact h.og j z hj
theorem LB.reg{r':Nat->Int}(h:LB x b rv o G W ps vb r E0 v0)(e6:r' 6=r 6)(e7:r' 7=r 7):LB x b rv o G W ps vb r' E0 v0:=⟨h.rvl,e6.trans h.r6,e7.trans h.r7,h.ow,h.np,h.sav,h.pW1,h.pW0,h.pz,h.rd,h.pG,h.og⟩
def Cx.qBeg(x:Cx)(k:Bk):List Kd:=z7l (λi _=>[fin (z7q i (Nm 0) (x.o+(32+(i:Nat))))]) k.chgs 0 0++([fin (z7q 6 (Nm 0) 12),fin (z87 0 6 (Rg 6) (Nm 1))]++
  (z7l (λi _=>[fin (z7p (Nm 0) (x.o+(6+(i:Nat))) (Nm 0))]) k.puts 0 0++(z7l (λi _=>[fin (z7p (Nm 0) (x.o+(12+(i:Nat))) (Nm 0))]) k.gets 0 0++[fin (ybb 7 (Nm 0))])))
theorem ynq(hx:x.Fit)(hO:yj4 Obs x.th)(hp:b.puts.length=6)(hq:b.gets.length=6)(hc:b.chgs.length=4)(h:Cod c tp p (x.qBeg b))(ho:Obs E0 out 0)(how:yjy x.th E0=o)(hP:NoP x.th E0)
  (ok: ∀n,n<N->∀E v r' rv,LB x b rv o (λ_=>none) (λ_=>none) [] v0 r' E v->Obs E out 0->(∀j,j<4->bAt b.chgs j=true->r' j=v0 (x.ob+(32+j)))->(∀j,j<4->bAt b.chgs j=false->r' j=r j)->Saf Gd Obs x.th c n r' (p+(x.qBeg b).length) out v nov qc E):
  Saf Gd Obs x.th c N r p out v0 nov qc E0:=by
 have hob:=z9l hx
 have hge:=ymb x
 unfold Cx.qBeg at h ok
 obtain ⟨a1,h⟩:=h.app
 obtain ⟨a2,h⟩:=h.app
 obtain ⟨a3,h⟩:=h.app
 obtain ⟨a4,a5⟩:=h.app
 refine ynp hx hO ho hc a1 λn1 g1 E1 v1 r1 O1 q1 q2=>?_
 obtain ⟨c0,a2⟩:=a2.at
 obtain ⟨c1,_⟩:=a2.at
 refine yj3 hO O1.obs 12 c0 (adr 12 (by rw [z70];rfl) yum) yum λn2 g2 E2 v2 N2=>?_
 have O2:=O1.nx N2
 have l2:=N2.len
 rw [N2.vi.clk]
 refine ymq hO N2.obs c1 λn3 g3 E3 v3 N3=>?_
 have O3:=O2.nx N3
 rw [z7u,z70,z7m,w64 ((E2.length:Int)+1) yum yum]
 have r6:setr (setr r1 6 (E2.length:Int)) 6 ((E2.length:Int)+1) 6=(E2.length:Int)+1:=z7m _ _ _
 have re: ∀j,j≠6->setr (setr r1 6 (E2.length:Int)) 6 ((E2.length:Int)+1) j=r1 j:=λj hj=>by rw [z7g hj,z7g hj]
 generalize setr (setr r1 6 (E2.length:Int)) 6 ((E2.length:Int)+1)=r2 at*
 refine ylq hx hO N3.obs (λ_=>Nm 0) 6 6 rfl yum yum a3 λn4 g4 E4 v4 O4 z4=>?_
 refine ylq hx hO O4.obs (λ_=>Nm 0) 12 12 rfl yum yum a4 λn5 g5 E5 v5 O5 z5=>?_
 refine yni hO O5.obs a5.at.1 λn6 g6 E6 v6 N6=>?_
 have O6:=O5.nx N6
 have H:Hist x.th E0 E6:=(O3.hist.trans O4.hist).trans O6.hist
 refine Eq.mp ?_ (ok n6 yum E6 v6 (setr r2 7 (vof (Nm 0) r2)) E2.length ⟨(N3.env.hist.trans (O4.hist.trans O6.hist)).len,by rw [z7g yup];exact r6,by rw [z7m];rfl,(yjt H).trans how,hP.hist H,λj h1 h2=>?_,λa ha hb=>⟨λ_=>rfl,λ_=>?_⟩,λ_ _=>rfl,λa z hz=>(by cases hz),λa d hd=>(by cases hd),λa d hd=>(by cases hd),λj z hz=>(by cases hz)⟩ N6.obs (λj hj hb=>by rw [z7g yum,re j yum];exact q1 j hj hb) λj hj hb=>by rw [z7g yum,re j yum];exact q2 j hb)
 ·congr 1
  simp only [List.length_append,List.length_cons,List.length_nil]
  omega
 ·rw [O6.own _ (yjs _ h2) (λ⟨i,hi,e⟩=>by omega),O4.own _ (yjs _ h2) (λ⟨i,hi,e⟩=>by omega),O3.own _ (yjs _ h2) (λq=>q)]
 ·rw [O6.own _ (yjs _ yum) (λ⟨i,hi,e⟩=>by omega)]
  exact z4 a hb
end
def opu(G:Nat->Option Int)(a:Nat)(d:Int):Nat->Option Int:=λj=>if j=a then some d else G j
theorem yk0(G:Nat->Option Int)(a:Nat)(d:Int):opu G a d a=some d:=by simp [opu]
theorem yk1{a:Nat}(h:j≠a):opu G a d j=G j:=by simp [opu,h]
structure Ag(x:Cx)(Obs:List Ent->List Int->Int->Prop)(out:List Int)(o:List Ent)(vb:Nat->Int)(E:List Ent)(v:Nat->Int):Prop where
 ow:yjy x.th E=o
 np:NoP x.th E
 ob:Obs E out 0
 sav: ∀j,32<=j->j<39->v (x.ob+j)=vb (x.ob+j)
section
variable{Gd:Ent->Prop}{Obs:List Ent->List Int->Int->Prop}{x:Cx}{c:List Ic}{tp N p rv:Nat}{r v0 vb:Nat->Int}{out:List Int}{qc:Bool}{E0:List Ent}{o:List Ent}{G W:Nat->Option Int}{ps:List Int}{b:Bk}
theorem LB.ag(h:LB x b rv o G W ps vb r E0 v0)(ho:Obs E0 out 0):Ag x Obs out o vb E0 v0:=⟨h.ow,h.np,ho,h.sav⟩
theorem ymt(hx:x.Fit)(hO:yj4 Obs x.th)(hp:b.puts.length=6)(hq:b.gets.length=6)(hs:ps.length<=8){to ag:Nat}{va:Vl}(hto:to<4)(hv: ∀r',(∀j,j<4->r' j=r j)->vof va r'=(at':Int))(ha:f+at'<6)(hg:bAt b.gets (f+at')=true)(h:Cod c tp p (x.qRead to va f ag))(ho:Obs E0 out 0)(hL:LB x b rv o G W ps vb r E0 v0)
  (again: ∀n,n<N->∀E v r',Ag x Obs out o vb E v->(∀j,j≠4->j≠5->r' j=r j)->Saf Gd Obs x.th c n r' ag out v nov qc E)
  (ok: ∀n,n<N->∀E v r' d,RdOk E rv (f+at') d->LB x b rv o (opu G (f+at') d) W ps vb r' E v->Obs E out 0->r' to=d->(∀j,j≠4->j≠5->j≠to->r' j=r j)->Saf Gd Obs x.th c n r' (p+9) out v nov qc E):
  Saf Gd Obs x.th c N r p out v0 nov qc E0:=by
 refine yn7 hx hO hv ha h ho hL.rvl hL.r6 (λn g E v r' O1 hr=>?_) λn g E v r' d O1 z1 z2 z3 z4=>?_
 ·exact again n g E v r' ⟨(yjt O1.hist).trans hL.ow,hL.np.hist O1.hist,O1.obs,λj h1 h2=>by rw [O1.own _ (yjs _ h2) (λq=>q)];exact hL.sav j h1 h2⟩ hr
 ·have ow: ∀j,j<39->j≠12+(f+at')->v (x.ob+j)=v0 (x.ob+j):=λj hj hne=>O1.own _ (yjs j hj) λe=>by omega
  refine ok n g E v r' d z2 ⟨Nat.le_trans hL.rvl O1.hist.len,(z4 6 yup yup yum).trans hL.r6,(z4 7 yup yup yum).trans hL.r7,(yjt O1.hist).trans hL.ow,hL.np.hist O1.hist,λj h1 h2=>by rw [ow j h2 yum];exact hL.sav j h1 h2,λa h6 hb=>by rw [ow _ yum yum];exact hL.pW1 a h6 hb,hL.pW0,λa z hz=>?_,λa d' hd=>?_,λa d' hd=>?_,λj z hj=>?_⟩ O1.obs z3 z4
  ·have:=(hL.lt6 hp (a:=a) (by rw [hz];simp)).1
   rw [ow _ yum yum]
   exact hL.pz a z hz
  ·by_cases e:a=f+at'
   ·subst e
    rw [yk0] at hd
    rw [<-Option.some.inj hd]
    exact z2
   ·rw [yk1 e] at hd
    exact (hL.rd a d' hd).goes O1.hist.goes hL.rvl
  ·by_cases e:a=f+at'
   ·subst e
    exact .inl ⟨hg,by rw [z1];decide⟩
   ·rw [yk1 e] at hd
    refine (hL.pG a d' hd).imp (λq=>⟨q.1,?_⟩) id
    have:=ygk q.1
    rw [ow _ yum yum]
    exact q.2
  ·have:=(List.getElem?_eq_some_iff.1 hj).1
   rw [ow _ yum yum]
   exact hL.og j z hj
end
section
variable{Gd:Ent->Prop}{Obs:List Ent->List Int->Int->Prop}{x:Cx}{c:List Ic}{tp N p rv:Nat}{r v0 vb:Nat->Int}{out:List Int}{qc:Bool}{E0:List Ent}{o:List Ent}{G W:Nat->Option Int}{ps:List Int}{b:Bk}
def Cx.qGetR(x:Cx)(to of:ByteArray)(a:PV)(pu:Bool)(ag p:Nat):List Kd:=if pu=false then x.qRead (x.locI to) (x.vl a) (x.var of).1 ag else
  [fin (z7q 4 (x.vl a) (x.o+(6+(x.var of).1))),fin (z8v (Rg 4) ((p+4:Nat):Int)),fin (z7q (x.locI to) (x.vl a) (x.o+(x.var of).1)),fin (z92 ((p+13:Nat):Int))]++x.qRead (x.locI to) (x.vl a) (x.var of).1 ag
theorem yrj(x:Cx)(to of:ByteArray)(a:PV)(pu:Bool)(ag p:Nat):x.qGet to of a pu ag p=x.qCheck of a++x.qGetR to of a pu ag (p+(x.qCheck of a).length):=rfl
theorem yrb(hx:x.Fit)(hO:yj4 Obs x.th)(hp:b.puts.length=6)(hq:b.gets.length=6)(hs:ps.length<=8){ag:Nat}(hto:x.locI to<4)(hf:(x.var of).1=(f:Int))(hv: ∀r',(∀j,j<4->r' j=r j)->vof (x.vl a) r'=(at':Int))(ha:f+at'<6)(hg:bAt b.gets (f+at')=true)(hpu:bAt b.puts (f+at')=pu)(h:Cod c tp p (x.qGetR to of a pu ag p))(ho:Obs E0 out 0)(hL:LB x b rv o G W ps vb r E0 v0)
  (again: ∀n,n<N->∀E v r',Ag x Obs out o vb E v->(∀j,j≠4->j≠5->r' j=r j)->Saf Gd Obs x.th c n r' ag out v nov qc E)
  (own: ∀n,n<N->∀E v r' z,W (f+at')=some z->LB x b rv o G W ps vb r' E v->Obs E out 0->r' (x.locI to)=z->(∀j,j≠4->j≠5->j≠x.locI to->r' j=r j)->Saf Gd Obs x.th c n r' (p+(x.qGetR to of a pu ag p).length) out v nov qc E)
  (ok: ∀n,n<N->∀E v r' d,W (f+at')=none->RdOk E rv (f+at') d->LB x b rv o (opu G (f+at') d) W ps vb r' E v->Obs E out 0->r' (x.locI to)=d->(∀j,j≠4->j≠5->j≠x.locI to->r' j=r j)->Saf Gd Obs x.th c n r' (p+(x.qGetR to of a pu ag p).length) out v nov qc E):
  Saf Gd Obs x.th c N r p out v0 nov qc E0:=by
 have hob:=z9l hx
 unfold Cx.qGetR at h own ok
 rw [hf] at h own ok
 cases pu with
 |false=>
  rw [if_pos rfl] at h own ok
  exact ymt hx hO hp hq hs hto hv ha hg h ho hL again λn g E v r' d=>ok n g E v r' d (hL.pW0 _ hpu)
 |true=>
  rw [if_neg yup] at h own ok
  obtain ⟨h1,h2⟩:=h.app
  obtain ⟨c0,h1⟩:=h1.at
  obtain ⟨c1,h1⟩:=h1.at
  obtain ⟨c2,h1⟩:=h1.at
  obtain ⟨c3,_⟩:=h1.at
  have e13:p+([fin (z7q 4 (x.vl a) (x.o+(6+(f:Int)))),fin (z8v (Rg 4) ((p+4:Nat):Int)),fin (z7q (x.locI to) (x.vl a) (x.o+(f:Int))),fin (z92 ((p+13:Nat):Int))]++x.qRead (x.locI to) (x.vl a) (f:Int) ag).length=p+13:=rfl
  rw [e13] at own ok
  refine yj3 hO ho (x.ob+(6+(f+at'))) c0 (adr _ (by rw [hv r λ_ _=>rfl,yaw];omega) yum) yum λn1 g1 E1 w1 N1=>?_
  have L1:=(hL.env hp hq hs N1.env)
  have mk:=L1.pW1 _ ha hpu
  by_cases z0:w1 (x.ob+(6+(f+at')))=0
  ·refine ykq hO N1.obs c1 (by rw [z7u,z7m];exact z0) λn2 g2 E2 w2 N2=>?_
   have e1: ∀j,j≠4->setr r 4 (w1 (x.ob+(6+(f+at')))) j=r j:=λj hj=>z7g hj
   have L2:=(L1.env hp hq hs N2.env).reg (e1 6 yup) (e1 7 yup)
   generalize setr r 4 (w1 (x.ob+(6+(f+at'))))=r1 at*
   refine ymt hx hO hp hq hs hto (λr' hr=>hv r' λj hj=>(hr j hj).trans (e1 j yum)) ha hg h2 N2.obs L2 (λn g E v r' q1 q2=>again n yum E v r' q1 λj h4 h5=>(q2 j h4 h5).trans (e1 j h4)) λn g E v r' d q1 q2 q3 q4 q5=>?_
   exact ok n yum E v r' d (mk.1 z0) q1 q2 q3 q4 λj h4 h5 ht=>(q5 j h4 h5 ht).trans (e1 j h4)
  ·obtain ⟨z,hz⟩:=Option.ne_none_iff_exists'.1 (λq=>z0 (mk.2 q))
   refine ykr hO N1.obs c1 (by rw [z7u,z7m];exact z0) λn2 g2 E2 w2 N2=>?_
   have e1: ∀j,j≠4->setr r 4 (w1 (x.ob+(6+(f+at')))) j=r j:=λj hj=>z7g hj
   have L2:=(L1.env hp hq hs N2.env).reg (e1 6 yup) (e1 7 yup)
   generalize setr r 4 (w1 (x.ob+(6+(f+at'))))=r1 at*
   refine yj3 hO N2.obs (x.ob+(f+at')) c2 (adr _ (by rw [hv r1 λj hj=>e1 j yum,yaw];omega) yum) yum λn3 g3 E3 w3 N3=>?_
   have L3:=L2.env hp hq hs N3.env
   refine ymr hO N3.obs c3 λn4 g4 E4 w4 N4=>?_
   have L4:=(L3.env hp hq hs N4.env).reg (r':=setr r1 (x.locI to) (w3 (x.ob+(f+at')))) (z7g yum) (z7g yum)
   exact own n4 yum E4 w4 _ z hz L4 N4.obs (by rw [z7m];exact L3.pz _ z hz) λj h4 h5 ht=>by rw [z7g ht,e1 j h4]
theorem yoc(hx:x.Fit)(hO:yj4 Obs x.th)(hp:b.puts.length=6)(hq:b.gets.length=6)(hs:ps.length<=8){ag:Nat}(hto:x.locI to<4)(hc:x.qCheck of a=[])(hf:(x.var of).1=(f:Int))(hv: ∀r',(∀j,j<4->r' j=r j)->vof (x.vl a) r'=(at':Int))(ha:f+at'<6)(hg:bAt b.gets (f+at')=true)(hpu:bAt b.puts (f+at')=pu)(h:Cod c tp p (x.qGet to of a pu ag p))(ho:Obs E0 out 0)(hL:LB x b rv o G W ps vb r E0 v0)
  (again: ∀n,n<N->∀E v r',Ag x Obs out o vb E v->(∀j,j≠4->j≠5->r' j=r j)->Saf Gd Obs x.th c n r' ag out v nov qc E)
  (own: ∀n,n<N->∀E v r' z,W (f+at')=some z->LB x b rv o G W ps vb r' E v->Obs E out 0->r' (x.locI to)=z->(∀j,j≠4->j≠5->j≠x.locI to->r' j=r j)->Saf Gd Obs x.th c n r' (p+(x.qGet to of a pu ag p).length) out v nov qc E)
  (ok: ∀n,n<N->∀E v r' d,W (f+at')=none->RdOk E rv (f+at') d->LB x b rv o (opu G (f+at') d) W ps vb r' E v->Obs E out 0->r' (x.locI to)=d->(∀j,j≠4->j≠5->j≠x.locI to->r' j=r j)->Saf Gd Obs x.th c n r' (p+(x.qGet to of a pu ag p).length) out v nov qc E):
  Saf Gd Obs x.th c N r p out v0 nov qc E0:=by
 rw [yrj,hc] at h own ok
 exact yrb hx hO hp hq hs hto hf hv ha hg hpu h ho hL again own ok
def Cx.qPutR(x:Cx)(of:ByteArray)(a v:PV):List Kd:=[fin (z7p (x.vl a) (x.o+(x.var of).1) (x.vl v)),fin (z7p (x.vl a) (x.o+(6+(x.var of).1)) (Nm 1)),fin (z7p (x.vl a) (x.o+(12+(x.var of).1)) (Nm 0))]
theorem yrk(x:Cx)(of:ByteArray)(a v:PV):x.qPut of a v=x.qCheck of a++x.qPutR of a v:=rfl
theorem yrc(hx:x.Fit)(hO:yj4 Obs x.th)(hp:b.puts.length=6)(hq:b.gets.length=6)(hs:ps.length<=8)(hf:(x.var of).1=(f:Int))(hv:vof (x.vl a) r=(at':Int))(ha:f+at'<6)(hb:bAt b.puts (f+at')=true)(h:Cod c tp p (x.qPutR of a w))(ho:Obs E0 out 0)(hL:LB x b rv o G W ps vb r E0 v0)
  (ok: ∀n,n<N->∀E v,LB x b rv o G (opu W (f+at') (vof (x.vl w) r)) ps vb r E v->Obs E out 0->Saf Gd Obs x.th c n r (p+3) out v nov qc E):
  Saf Gd Obs x.th c N r p out v0 nov qc E0:=by
 have hob:=z9l hx
 unfold Cx.qPutR at h
 rw [hf] at h
 obtain ⟨c0,h⟩:=h.at
 obtain ⟨c1,h⟩:=h.at
 obtain ⟨c2,h⟩:=h.at
 have O0:On x Obs out (λA=>A=x.ob+(f+at')\/A=x.ob+(6+(f+at'))\/A=x.ob+(12+(f+at'))) E0 v0 E0 v0:=On.refl ho _ v0
 refine ykw hO ho (x.ob+(f+at')) c0 (adr _ (by rw [hv,yaw];omega) yum) yum (yjs _ yum) λn1 g1 E1 w1 N1=>?_
 have O1:=(O0.nx N1).put (A:=x.ob+(f+at')) (.inl rfl) (vof (x.vl w) r)
 have k1:z60 w1 (x.ob+(f+at')) (vof (x.vl w) r) (x.ob+(f+at'))=vof (x.vl w) r:=z9e _ _ _
 generalize z60 w1 (x.ob+(f+at')) (vof (x.vl w) r)=u1 at*
 refine ykw hO O1.obs (x.ob+(6+(f+at'))) c1 (adr _ (by rw [hv,yaw];omega) yum) yum (yjs _ yum) λn2 g2 E2 w2 N2=>?_
 have O2:=(O1.nx N2).put (A:=x.ob+(6+(f+at'))) (.inr (.inl rfl)) (vof (Nm 1) r)
 have k2:z60 w2 (x.ob+(6+(f+at'))) (vof (Nm 1) r) (x.ob+(f+at'))=vof (x.vl w) r:=by rw [z7j yum,N2.env.own _ (yjs _ yum)];exact k1
 have m2:z60 w2 (x.ob+(6+(f+at'))) (vof (Nm 1) r) (x.ob+(6+(f+at')))=1:=by rw [z9e];rfl
 generalize z60 w2 (x.ob+(6+(f+at'))) (vof (Nm 1) r)=u2 at*
 refine ykw hO O2.obs (x.ob+(12+(f+at'))) c2 (adr _ (by rw [hv,yaw];omega) yum) yum (yjs _ yum) λn3 g3 E3 w3 N3=>?_
 have O3:=(O2.nx N3).put (A:=x.ob+(12+(f+at'))) (.inr (.inr rfl)) (vof (Nm 0) r)
 have k3:z60 w3 (x.ob+(12+(f+at'))) (vof (Nm 0) r) (x.ob+(f+at'))=vof (x.vl w) r:=by rw [z7j yum,N3.env.own _ (yjs _ yum)];exact k2
 have m3:z60 w3 (x.ob+(12+(f+at'))) (vof (Nm 0) r) (x.ob+(6+(f+at')))=1:=by rw [z7j yum,N3.env.own _ (yjs _ yum)];exact m2
 generalize z60 w3 (x.ob+(12+(f+at'))) (vof (Nm 0) r)=u3 at*
 have ow: ∀j,j<39->j≠f+at'->j≠6+(f+at')->j≠12+(f+at')->u3 (x.ob+j)=v0 (x.ob+j):=λj hj h1 h2 h3=>O3.own _ (yjs j hj) λe=>by omega
 refine ok n3 yum E3 u3 ⟨Nat.le_trans hL.rvl O3.hist.len,hL.r6,hL.r7,(yjt O3.hist).trans hL.ow,hL.np.hist O3.hist,λj h1 h2=>by rw [ow j h2 yum yum yum];exact hL.sav j h1 h2,λa' h6 hb'=>?_,λa' hb'=>?_,λa' z hz=>?_,λa' d hd=>(hL.rd a' d hd).goes O3.hist.goes hL.rvl,λa' d hd=>?_,λj z hj=>?_⟩ O3.obs
 ·by_cases e:a'=f+at'
  ·subst e
   rw [m3,yk0]
   simp
  ·rw [ow _ yum yum yum yum,yk1 e]
   exact hL.pW1 a' h6 hb'
 ·rw [yk1 (λe=>by rw [e,hb] at hb';cases hb')]
  exact hL.pW0 a' hb'
 ·by_cases e:a'=f+at'
  ·subst e
   rw [yk0] at hz
   rw [k3]
   exact Option.some.inj hz
  ·rw [yk1 e] at hz
   have:=(hL.lt6 hp (a:=a') (by rw [hz];simp)).1
   rw [ow _ yum yum yum yum]
   exact hL.pz a' z hz
 ·by_cases e:a'=f+at'
  ·subst e
   exact .inr (by rw [yk0];simp)
  ·rw [yk1 e]
   refine (hL.pG a' d hd).imp (λq=>⟨q.1,?_⟩) id
   have:=ygk q.1
   rw [ow _ yum yum yum yum]
   exact q.2
 ·have:=(List.getElem?_eq_some_iff.1 hj).1
  rw [ow _ yum yum yum yum]
  exact hL.og j z hj
theorem yod(hx:x.Fit)(hO:yj4 Obs x.th)(hp:b.puts.length=6)(hq:b.gets.length=6)(hs:ps.length<=8)(hc:x.qCheck of a=[])(hf:(x.var of).1=(f:Int))(hv:vof (x.vl a) r=(at':Int))(ha:f+at'<6)(hb:bAt b.puts (f+at')=true)(h:Cod c tp p (x.qPut of a w))(ho:Obs E0 out 0)(hL:LB x b rv o G W ps vb r E0 v0)
  (ok: ∀n,n<N->∀E v,LB x b rv o G (opu W (f+at') (vof (x.vl w) r)) ps vb r E v->Obs E out 0->Saf Gd Obs x.th c n r (p+(x.qPut of a w).length) out v nov qc E):
  Saf Gd Obs x.th c N r p out v0 nov qc E0:=by
 rw [yrk,hc] at h ok
 exact yrc hx hO hp hq hs hf hv ha hb h ho hL ok
end
section
variable{Gd:Ent->Prop}{Obs:List Ent->List Int->Int->Prop}{x:Cx}{c:List Ic}{tp N p rv:Nat}{r v0 vb:Nat->Int}{out:List Int}{qc:Bool}{E0:List Ent}{o:List Ent}{G W:Nat->Option Int}{ps:List Int}{b:Bk}
theorem yoe(hx:x.Fit)(hO:yj4 Obs x.th)(hp:b.puts.length=6)(hq:b.gets.length=6)(hs:ps.length<8)(h:Cod c tp p (x.qOut a true))(ho:Obs E0 out 0)(hL:LB x b rv o G W ps vb r E0 v0)
  (ok: ∀n,n<N->∀E v r',LB x b rv o G W (ps++[vof (x.vl a) r]) vb r' E v->Obs E out 0->(∀j,j≠7->r' j=r j)->Saf Gd Obs x.th c n r' (p+(x.qOut a true).length) out v nov qc E):
  Saf Gd Obs x.th c N r p out v0 nov qc E0:=by
 have hob:=z9l hx
 unfold Cx.qOut at h ok
 rw [if_neg yup] at h ok
 obtain ⟨c0,h⟩:=h.at
 obtain ⟨c1,h⟩:=h.at
 have O0:On x Obs out (λA=>A=x.ob+(24+ps.length)) E0 v0 E0 v0:=On.refl ho _ v0
 refine ykw hO ho (x.ob+(24+ps.length)) c0 (adr _ (by rw [z7u,hL.r7,yaw];omega) yum) yum (yjs _ yum) λn1 g1 E1 w1 N1=>?_
 have O1:=(O0.nx N1).put (A:=x.ob+(24+ps.length)) rfl (vof (x.vl a) r)
 have k1:z60 w1 (x.ob+(24+ps.length)) (vof (x.vl a) r) (x.ob+(24+ps.length))=vof (x.vl a) r:=z9e _ _ _
 generalize z60 w1 (x.ob+(24+ps.length)) (vof (x.vl a) r)=u1 at*
 refine ymq hO O1.obs c1 λn2 g2 E2 w2 N2=>?_
 have O2:=O1.nx N2
 have k2:w2 (x.ob+(24+ps.length))=vof (x.vl a) r:=(N2.env.own _ (yjs _ yum)).trans k1
 have ow: ∀j,j<39->j≠24+ps.length->w2 (x.ob+j)=v0 (x.ob+j):=λj hj h1=>O2.own _ (yjs j hj) λe=>by omega
 rw [z7u,z70,hL.r7,w64 ((ps.length:Int)+1) yum yum]
 refine ok n2 yum E2 w2 _ ⟨Nat.le_trans hL.rvl O2.hist.len,(z7g yup).trans hL.r6,by rw [z7m];simp,(yjt O2.hist).trans hL.ow,hL.np.hist O2.hist,λj h1 h2=>by rw [ow j h2 yum];exact hL.sav j h1 h2,λa' h6 hb'=>by rw [ow _ yum yum];exact hL.pW1 a' h6 hb',hL.pW0,λa' z hz=>?_,λa' d hd=>(hL.rd a' d hd).goes O2.hist.goes hL.rvl,λa' d hd=>?_,λj z hj=>?_⟩ O2.obs λj hj=>z7g hj
 ·have:=(hL.lt6 hp (a:=a') (by rw [hz];simp)).1
  rw [ow _ yum yum]
  exact hL.pz a' z hz
 ·refine (hL.pG a' d hd).imp (λq=>⟨q.1,?_⟩) id
  have:=ygk q.1
  rw [ow _ yum yum]
  exact q.2
 ·have hl:=(List.getElem?_eq_some_iff.1 hj).1
  rw [List.length_append,List.length_singleton] at hl
  by_cases e:j=ps.length
  ·subst e
   rw [List.getElem?_append_right (Nat.le_refl _),Nat.sub_self] at hj
   rw [k2]
   exact Option.some.inj hj
  ·rw [List.getElem?_append_left yum] at hj
   rw [ow _ yum yum]
   exact hL.og j z hj
theorem yof(hx:x.Fit)(hO:yj4 Obs x.th)(hs:ps.length<=8)(h:Cod c tp p (x.qGive p))(how:yjy x.th E0=o)(hP:NoP x.th E0)(h7:r 7=(ps.length:Int))(hog: ∀j z,ps[j]?=some z->v0 (x.ob+(24+j))=z)(hob: ∀E j,yjy x.th E=o->j<=ps.length->Obs E (out++ps.take j) 0)
  (ok: ∀n,n<N->∀E v r',(∀A,yjx x.th A->v A=v0 A)->yjy x.th E=o->NoP x.th E->(∀j,j≠4->j≠5->r' j=r j)->Saf Gd Obs x.th c n r' (p+(x.qGive p).length) (out++ps) v nov qc E):
  Saf Gd Obs x.th c N r p out v0 nov qc E0:=by
 have hb:=z9l hx
 unfold Cx.qGive at h ok
 obtain ⟨c0,h⟩:=h.at
 obtain ⟨c1,h⟩:=h.at
 obtain ⟨c2,h⟩:=h.at
 obtain ⟨c3,h⟩:=h.at
 obtain ⟨c4,h⟩:=h.at
 obtain ⟨c5,h⟩:=h.at
 obtain ⟨c6,h⟩:=h.at
 have aux: ∀(m j n:Nat) (r1:Nat->Int) (E:List Ent) (v:Nat->Int),j+m=ps.length->n<N->yjy x.th E=o->NoP x.th E->(∀A,yjx x.th A->v A=v0 A)->r1 4=(j:Int)->(∀i,i≠4->i≠5->r1 i=r i)->Saf Gd Obs x.th c n r1 (p+1) (out++ps.take j) v nov qc E:=by
  intro m
  induction m with
  |zero=>
   intro j n r1 E v hj hn q1 q2 q3 q4 q5
   have ho:=hob E j q1 yum
   refine ynw hO ho c1 λn1 g1 E1 w1 N1=>?_
   rw [z7u,z7u,q4,q5 7 yup yup,h7,if_neg yum]
   refine ykq hO N1.obs c2 yu8 λn2 g2 E2 w2 N2=>?_
   have:=ok n2 yum E2 w2 (setr r1 5 0) (λA hA=>(N2.env.own A hA).trans ((N1.env.own A hA).trans (q3 A hA))) ((yjt N2.env.hist).trans ((yjt N1.env.hist).trans q1)) ((q2.hist N1.env.hist).hist N2.env.hist) λi h4 h5=>by rw [z7g h5];exact q5 i h4 h5
   rw [List.take_of_length_le yum]
   exact this
  |succ m ih=>
   intro j n r1 E v hj hn q1 q2 q3 q4 q5
   have ho:=hob E j q1 yum
   refine ynw hO ho c1 λn1 g1 E1 w1 N1=>?_
   rw [z7u,z7u,q4,q5 7 yup yup,h7,if_pos yum]
   refine ykr hO N1.obs c2 yu7 λn2 g2 E2 w2 N2=>?_
   refine yj3 hO N2.obs (x.ob+(24+j)) c3 (adr _ (by rw [z7u,z7g yup,q4,yaw];omega) yum) yum λn3 g3 E3 w3 N3=>?_
   have o3:yjy x.th E3=o:=(yjt N3.env.hist).trans ((yjt N2.env.hist).trans ((yjt N1.env.hist).trans q1))
   have v3: ∀A,yjx x.th A->w3 A=v0 A:=λA hA=>(N3.env.own A hA).trans ((N2.env.own A hA).trans ((N1.env.own A hA).trans (q3 A hA)))
   have p3:=((q2.hist N1.env.hist).hist N2.env.hist).hist N3.env.hist
   obtain ⟨z,hz⟩: ∃z,ps[j]?=some z:=⟨ps[j]'(by omega),List.getElem?_eq_getElem yum⟩
   have w5:w3 (x.ob+(24+j))=z:=(v3 _ (yjs _ yum)).trans (hog j z hz)
   rw [w5]
   have et:out++ps.take j++[z]=out++ps.take (j+1):=by rw [List.take_add_one,hz,List.append_assoc];rfl
   refine yoo hO N3.obs c4 λn4 g4 E4 w4 N4=>?_
   rw [z7u,z7m,et]
   have o4:yjy x.th E4=o:=(yjt N4.env.hist).trans o3
   refine ⟨hob E4 (j+1) o4 yum,?_⟩
   refine ymq hO (hob E4 (j+1) o4 yum) c5 λn5 g5 E5 w5 N5=>?_
   rw [z7u,z70,z7g (show 4≠5 by decide),z7g (show 4≠5 by decide),q4,w64 ((j:Int)+1) yum yum]
   refine ymr hO N5.obs c6 λn6 g6 E6 w6 N6=>?_
   refine ih (j+1) n6 _ E6 w6 yum yum ((yjt N6.env.hist).trans ((yjt N5.env.hist).trans o4)) (((p3.hist N4.env.hist).hist N5.env.hist).hist N6.env.hist) (λA hA=>(N6.env.own A hA).trans ((N5.env.own A hA).trans ((N4.env.own A hA).trans (v3 A hA)))) (by rw [z7m];simp) λi h4 h5=>by rw [z7g h4,z7g h5,z7g h5];exact q5 i h4 h5
 have ho0:Obs E0 out 0:=by have:=hob E0 0 how (Nat.zero_le _);simpa using this
 refine yni hO ho0 c0 λn1 g1 E1 w1 N1=>?_
 have:=aux ps.length 0 n1 (setr r 4 (vof (Nm 0) r)) E1 w1 yum g1 ((yjt N1.env.hist).trans how) (hP.hist N1.env.hist) N1.env.own (by rw [z7m];rfl) λi h4 _=>z7g h4
 simpa using this
end
section
variable{Gd:Ent->Prop}{Obs:List Ent->List Int->Int->Prop}{x:Cx}{c:List Ic}{tp N p pb:Nat}{r v0 vb L:Nat->Int}{out:List Int}{qc:Bool}{E0:List Ent}{o:List Ent}{b:Bk}{Q:Nat->(Nat->Option Int)->(Nat->Option Int)->List Int->(Nat->Int)->Prop}
theorem LB.base{rv:Nat}{W:Nat->Option Int}{ps:List Int}{vb':Nat->Int}(h:LB x b rv o G W ps vb r E0 v0)(e: ∀j,32<=j->j<39->vb (x.ob+j)=vb' (x.ob+j)):LB x b rv o G W ps vb' r E0 v0:=⟨h.rvl,h.r6,h.r7,h.ow,h.np,λj h1 h2=>(h.sav j h1 h2).trans (e j h1 h2),h.pW1,h.pW0,h.pz,h.rd,h.pG,h.og⟩
theorem ynr(hx:x.Fit)(hO:yj4 Obs x.th)(hA:ynx Obs x.th)(hT:yn9 Obs x.th)(hp:b.puts.length=6)(hq:b.gets.length=6)(hc:b.chgs.length=4)(hne: ∃i,i<6/\bAt b.puts i=true)(h0:Cod c tp b.again (x.qBeg b))(hpb:b.again+(x.qBeg b).length=pb)(h1:Cod c tp (pb+lb) (x.qCommit b (pb+lb)))
  (hsv: ∀j,j<4->bAt b.chgs j=true->vb (x.ob+(32+j))=L j)
  (body: ∀n E v r' qc rv,LB x b rv o (λ_=>none) (λ_=>none) [] vb r' E v->Obs E out 0->(∀j,j<4->r' j=L j) ->
   (∀m,m<n->∀E v r',Ag x Obs out o vb E v->(∀j,j<4->bAt b.chgs j=false->r' j=L j)->Saf Gd Obs x.th c m r' b.again out v nov qc E) ->
   (∀m,m<=n->∀E v r' G W ps,LB x b rv o G W ps vb r' E v->Obs E out 0->Q rv G W ps r'->(∀j,j<4->bAt b.chgs j=false->r' j=L j)->Saf Gd Obs x.th c m r' (pb+lb) out v nov qc E)->Saf Gd Obs x.th c n r' pb out v nov qc E)
  (hgd: ∀rv G W ps r',Q rv G W ps r'->Gd ⟨x.th,G,W,0⟩) (hput: ∀rv G W ps r',Q rv G W ps r'->∀E,yjy x.th E=o++[⟨x.th,G,W,3⟩]->Obs E out 0)
  (hps: ∀rv G W ps r',Q rv G W ps r'->ps.length<=8)
  (ok: ∀n,n<N->∀E v r' rv G W ps r1,Q rv G W ps r1->(∀j,j≠4->j≠5->r' j=r1 j)->r' 7=(ps.length:Int)->(∀j z,ps[j]?=some z->v (x.ob+(24+j))=z)->(∀j,32<=j->j<39->v (x.ob+j)=vb (x.ob+j))->yjy x.th E=o++[⟨x.th,G,W,3⟩]->NoP x.th E->Obs E out 0->(∀j,j<4->bAt b.chgs j=false->r' j=L j)->Saf Gd Obs x.th c n r' (pb+lb+(x.qCommit b (pb+lb)).length) out v nov true E):
  ∀n,n<=N->∀E v r' qc,Ag x Obs out o vb E v->(∀j,j<4->bAt b.chgs j=false->r' j=L j)->Saf Gd Obs x.th c n r' b.again out v nov qc E:=by
 intro n
 induction n using Nat.strongRecOn with
 |ind n ih=>
  intro hn E v r1 qc hag hr
  refine ynq hx hO hp hq hc h0 hag.ob hag.ow hag.np λn1 g1 E1 v1 r2 rv hL ho h2 h3=>?_
  rw [hpb]
  have hl: ∀j,j<4->r2 j=L j:=λj hj=>by
   cases e:bAt b.chgs j with
   |true=>rw [h2 j hj e,hag.sav _ yum yum];exact hsv j hj e
   |false=>rw [h3 j hj e];exact hr j hj e
  refine body n1 E1 v1 r2 qc rv (hL.base hag.sav) ho hl (λm g E v r' q1 q2=>ih m yum yum E v r' qc q1 q2) λm g E2 v2 r3 G W ps hB ho2 hQ hr3=>?_
  have kept: ∀v',yor x v2 v'->∀j,j<39->(j<18\/24<=j)->v' (x.ob+j)=v2 (x.ob+j):=λv' hk j hj h=>hk _ (yjs j hj) λa ha=>by omega
  refine ym8 hx hO hA hT hp hq h1 ho2 hB.r6 hB.rvl hB.ow hB.np hB.pW1 hB.pW0 hB.pz hne hB.rd hB.pG (hgd _ _ _ _ _ hQ) (hput _ _ _ _ _ hQ) (λm2 g2 E3 v3 r4 qc3 q1 q2 q3 q4 q5=>?_) λm2 g2 E3 v3 r4 q1 q2 q3 q4 q5=>?_
  ·exact ih m2 yum yum E3 v3 r4 qc3 ⟨q2,q3,q4,λj h1 h2=>by rw [kept v3 q1 j h2 yum];exact hB.sav j h1 h2⟩ λj hj hb=>by rw [q5 j yum yum];exact hr3 j hj hb
  ·have:=hps _ _ _ _ _ hQ
   exact ok m2 yum E3 v3 r4 rv G W ps r3 hQ q5 (by rw [q5 7 yup yup];exact hB.r7) (λj z hz=>by
    have hl:=(List.getElem?_eq_some_iff.1 hz).1
    rw [kept v3 q1 _ yum yum]
    exact hB.og j z hz) (λj h1 h2=>by rw [kept v3 q1 j h2 yum];exact hB.sav j h1 h2) q2 q3 q4 λj hj hb=>by rw [q5 j yum yum];exact hr3 j hj hb
end
def ObP(t:Nat)(P:List Ent->List Int->Int->Prop):List Ent->List Int->Int->Prop:=λE out st=>P (yjy t E) out st
theorem yos(t:Nat)(P:List Ent->List Int->Int->Prop):yj4 (ObP t P) t:=λE E' out st h hh=>by
 unfold ObP at h⊢
 rw [yjt hh]
 exact h
theorem yo0(t:Nat)(P:List Ent->List Int->Int->Prop):ynx (ObP t P) t:=λE k e out hk _ h0 h=>by
 unfold ObP at h⊢
 rw [ylh hk h0]
 exact h
theorem yo1(t:Nat)(P:List Ent->List Int->Int->Prop):yn9 (ObP t P) t:=λE e out _ h0 h=>by
 unfold ObP at h⊢
 rw [yl2 h0]
 exact h
def GdC(e:Ent):Prop:=e.t<3/\ ∃d,e.rd 0=some d/\e.wr 0=some (wrap64 (d+1))
theorem GdC.s(s:Nat)(h:GdC e):GdC {e with s:=s}:=h
section
variable{Gd:Ent->Prop}{Obs:List Ent->List Int->Int->Prop}{x:Cx}{c:List Ic}{tp N pb:Nat}{vb L:Nat->Int}{out:List Int}{o:List Ent}{b:Bk}{Q:Nat->(Nat->Option Int)->(Nat->Option Int)->List Int->(Nat->Int)->Prop}
theorem ypv(hx:x.Fit)(hO:yj4 Obs x.th)(hp:b.puts.length=6)(hq:b.gets.length=6)(hc:b.chgs.length=4)(h0:Cod c tp b.again (x.qBeg b))(hpb:b.again+(x.qBeg b).length=pb)
  (hsv: ∀j,j<4->bAt b.chgs j=true->vb (x.ob+(32+j))=L j)
  (body: ∀n E v r' qc rv,LB x b rv o (λ_=>none) (λ_=>none) [] vb r' E v->Obs E out 0->(∀j,j<4->r' j=L j) ->
   (∀m,m<n->∀E v r',Ag x Obs out o vb E v->(∀j,j<4->bAt b.chgs j=false->r' j=L j)->Saf Gd Obs x.th c m r' b.again out v nov qc E) ->
   (∀m,m<=n->∀E v r' G W ps,LB x b rv o G W ps vb r' E v->Obs E out 0->Q rv G W ps r'->(∀j,j<4->bAt b.chgs j=false->r' j=L j)->Saf Gd Obs x.th c m r' (pb+lb) out v nov qc E)->Saf Gd Obs x.th c n r' pb out v nov qc E)
  (ok: ∀n,n<N->∀E v r' qc rv G W ps,LB x b rv o G W ps vb r' E v->Obs E out 0->Q rv G W ps r'->(∀j,j<4->bAt b.chgs j=false->r' j=L j)->Saf Gd Obs x.th c n r' (pb+lb) out v nov qc E):
  ∀n,n<=N->∀E v r' qc,Ag x Obs out o vb E v->(∀j,j<4->bAt b.chgs j=false->r' j=L j)->Saf Gd Obs x.th c n r' b.again out v nov qc E:=by
 intro n
 induction n using Nat.strongRecOn with
 |ind n ih=>
  intro hn E v r1 qc hag hr
  refine ynq hx hO hp hq hc h0 hag.ob hag.ow hag.np λn1 g1 E1 v1 r2 rv hL ho h2 h3=>?_
  rw [hpb]
  have hl: ∀j,j<4->r2 j=L j:=λj hj=>by
   cases e:bAt b.chgs j with
   |true=>rw [h2 j hj e,hag.sav _ yum yum];exact hsv j hj e
   |false=>rw [h3 j hj e];exact hr j hj e
  exact body n1 E1 v1 r2 qc rv (hL.base hag.sav) ho hl (λm g E v r' q1 q2=>ih m yum yum E v r' qc q1 q2) λm g E2 v2 r3 G W ps hB ho2 hQ hr3=>ok m yum E2 v2 r3 qc rv G W ps hB ho2 hQ hr3
end
section
variable{Gd:Ent->Prop}{Obs:List Ent->List Int->Int->Prop}{x:Cx}{c:List Ic}{tp N p:Nat}{r v0:Nat->Int}{out:List Int}{qc:Bool}{E0:List Ent}{J:Nat->List Int->(Nat->Int)->List Ent->(Nat->Int)->Prop}
theorem yog(hx:x.Fit)(hO:yj4 Obs x.th){l:Nat}(hl:l<3)(hn1:1<=n)(hn4:n<=4){qb:List Kd}(h:Cod c tp p (x.qLoop l n qb p))
  (stab: ∀i out r E v r' E' v',J i out r E v->Hist x.th E E'->(∀A,yjx x.th A->A≠x.ob+(36+l)->v' A=v A)->(∀j,j≠4->r' j=r j)->J i out r' E' v')
  (hob: ∀i out r E v,J i out r E v->Obs E out 0)
  (body: ∀i N out r E v qc,1<=i->i<=n->J i out r E v->v (x.ob+(36+l))=(i:Int)->(∀m,m<=N->∀out' r' E' v' qc',J (i- 1) out' r' E' v'->v' (x.ob+(36+l))=(i:Int)->Saf Gd Obs x.th c m r' (p+1+qb.length) out' v' nov qc' E')->Saf Gd Obs x.th c N r (p+1) out v nov qc E)
  (ok: ∀m,m<N->∀out r E v qc,J 0 out r E v->Saf Gd Obs x.th c m r (p+1+qb.length+5) out v nov qc E) (hJ:J n out r E0 v0):
  Saf Gd Obs x.th c N r p out v0 nov qc E0:=by
 have hb:=z9l hx
 unfold Cx.qLoop at h
 obtain ⟨c0,h⟩:=h.at
 obtain ⟨_,h⟩:=h.app
 obtain ⟨c1,h⟩:=h.at
 obtain ⟨c2,h⟩:=h.at
 obtain ⟨c3,h⟩:=h.at
 obtain ⟨c4,h⟩:=h.at
 obtain ⟨c5,h⟩:=h.at
 have rounds: ∀(k i m:Nat) (out:List Int) (r:Nat->Int) (E:List Ent) (v:Nat->Int) (qc:Bool),i=k+1->i<=n->m<N->J i out r E v->v (x.ob+(36+l))=(i:Int)->Saf Gd Obs x.th c m r (p+1) out v nov qc E:=by
  intro k
  induction k with
  |zero=>
   intro i m out r E v qc hi hin hm q1 q2
   subst hi
   refine body 1 m out r E v qc yum hin q1 q2 λm1 g1 out1 r1 E1 v1 qc1 w1 w2=>?_
   refine yj3 hO (hob _ _ _ _ _ w1) (x.ob+(36+l)) c1 (adr _ yu2 yum) yum λn2 g2 E2 v2 N2=>?_
   have e2:v2 (x.ob+(36+l))=1:=by rw [N2.env.own _ (yjs _ yum),w2];rfl
   rw [e2]
   refine yn3 hO N2.obs c2 λn3 g3 E3 v3 N3=>?_
   rw [z7u,z70,z7m,show wrap64 (1- 1)=0 from w64 0 yum yum]
   refine ykw hO N3.obs (x.ob+(36+l)) c3 (adr _ yu2 yum) yum (yjs _ yum) λn4 g4 E4 v4 N4=>?_
   refine ykq hO N4.obs c4 yu8 λn5 g5 E5 v5 N5=>?_
   refine ok n5 yum _ _ E5 v5 _ (stab 0 out1 r1 E1 v1 _ E5 v5 w1 (((N2.env.hist.trans N3.env.hist).trans N4.env.hist).trans N5.env.hist) (λA hA hne=>?_) λj hj=>by rw [z7g hj,z7g hj])
   rw [N5.env.own A hA,z7j hne,N4.env.own A hA,N3.env.own A hA,N2.env.own A hA]
  |succ k ih=>
   intro i m out r E v qc hi hin hm q1 q2
   subst hi
   refine body (k+1+1) m out r E v qc yum hin q1 q2 λm1 g1 out1 r1 E1 v1 qc1 w1 w2=>?_
   refine yj3 hO (hob _ _ _ _ _ w1) (x.ob+(36+l)) c1 (adr _ yu2 yum) yum λn2 g2 E2 v2 N2=>?_
   have e2:v2 (x.ob+(36+l))=((k+1+1:Nat):Int):=(N2.env.own _ (yjs _ yum)).trans w2
   rw [e2]
   refine yn3 hO N2.obs c2 λn3 g3 E3 v3 N3=>?_
   have e3:wrap64 (((k+1+1:Nat):Int)- 1)=((k+1:Nat):Int):=by rw [show ((k+1+1:Nat):Int)- 1=((k+1:Nat):Int) by omega];exact w64 _ yum yum
   rw [z7u,z70,z7m,e3]
   refine ykw hO N3.obs (x.ob+(36+l)) c3 (adr _ yu2 yum) yum (yjs _ yum) λn4 g4 E4 v4 N4=>?_
   rw [z7u,z7m]
   refine ykr hO N4.obs c4 (by rw [z7u,z7m];omega) λn5 g5 E5 v5 N5=>?_
   refine ymr hO N5.obs c5 λn6 g6 E6 v6 N6=>?_
   refine ih (k+1) n6 out1 _ E6 v6 _ rfl yum yum (stab (k+1) out1 r1 E1 v1 _ E6 v6 w1 ((((N2.env.hist.trans N3.env.hist).trans N4.env.hist).trans N5.env.hist).trans N6.env.hist) (λA hA hne=>?_) λj hj=>by rw [z7g hj,z7g hj]) ?_
   ·rw [N6.env.own A hA,N5.env.own A hA,z7j hne,N4.env.own A hA,N3.env.own A hA,N2.env.own A hA]
   ·rw [N6.env.own _ (yjs _ yum),N5.env.own _ (yjs _ yum),z9e]
 refine ykw hO (hob _ _ _ _ _ hJ) (x.ob+(36+l)) c0 (adr _ yu2 yum) yum (yjs _ yum) λn1 g1 E1 v1 N1=>?_
 exact rounds (n- 1) n n1 out r E1 _ qc yum (Nat.le_refl _) g1 (stab n out r E0 v0 r E1 _ hJ N1.env.hist (λA hA hne=>by rw [z7j hne];exact N1.env.own A hA) λ_ _=>rfl) (by rw [z9e];rfl)
end
section
variable(Gd:Ent->Prop)(Obs:List Ent->List Int->Int->Prop)(x:Cx)(c:List Ic)(out:List Int)(o:List Ent)(b:Bk)(Q:Nat->(Nat->Option Int)->(Nat->Option Int)->List Int->(Nat->Int)->Prop)
def ync(L:Nat->Int)(pb pe:Nat):Prop:=∀vb n E v r' qc rv,LB x b rv o (λ_=>none) (λ_=>none) [] vb r' E v->Obs E out 0->(∀j,j<4->r' j=L j) ->
 (∀m,m<n->∀E v r',Ag x Obs out o vb E v->(∀j,j<4->bAt b.chgs j=false->r' j=L j)->Saf Gd Obs x.th c m r' b.again out v nov qc E) ->
 (∀m,m<=n->∀E v r' G W ps,LB x b rv o G W ps vb r' E v->Obs E out 0->Q rv G W ps r'->(∀j,j<4->bAt b.chgs j=false->r' j=L j)->Saf Gd Obs x.th c m r' pe out v nov qc E)->Saf Gd Obs x.th c n r' pb out v nov qc E
end
section
variable{Gd:Ent->Prop}{Obs:List Ent->List Int->Int->Prop}{x:Cx}{c:List Ic}{tp N p:Nat}{r v0:Nat->Int}{out:List Int}{qc:Bool}{E0:List Ent}{o:List Ent}{b:Bk}{Q:Nat->(Nat->Option Int)->(Nat->Option Int)->List Int->(Nat->Int)->Prop}{qb:List Kd}
theorem yo2(hx:x.Fit)(hO:yj4 Obs x.th)(hA:ynx Obs x.th)(hT:yn9 Obs x.th)(hp:b.puts.length=6)(hq:b.gets.length=6)(hc:b.chgs.length=4)(hag:b.again=p+x.qSv b)(hne: ∃i,i<6/\bAt b.puts i=true)(hpn:b.puts≠[false,false,false,false,false,false])(h:Cod c tp p (x.qAt b qb p))(ho:Obs E0 out 0)(how:yjy x.th E0=o)(hP:NoP x.th E0)
  (body:ync Gd Obs x c out o b Q r (p+(x.qBegin b).length) (p+(x.qBegin b).length+qb.length)) (hgd: ∀rv G W ps r',Q rv G W ps r'->Gd ⟨x.th,G,W,0⟩)
  (hgv: ∀rv G W ps r',Q rv G W ps r'->ps.length<=8/\(b.gives=false->ps=[])) (hob: ∀rv G W ps r',Q rv G W ps r'->∀E j,yjy x.th E=o++[⟨x.th,G,W,3⟩]->j<=ps.length->Obs E (out++ps.take j) 0)
  (ok: ∀n,n<N->∀E v r' qc rv G W ps r1,Q rv G W ps r1->(∀j,j≠4->j≠5->r' j=r1 j)->(∀j,36<=j->j<39->v (x.ob+j)=v0 (x.ob+j))->yjy x.th E=o++[⟨x.th,G,W,3⟩]->NoP x.th E->(∀j,j<4->bAt b.chgs j=false->r' j=r j)->Saf Gd Obs x.th c n r' (p+(x.qAt b qb p).length) (out++ps) v nov qc E):
  Saf Gd Obs x.th c N r p out v0 nov qc E0:=by
 have hob':=z9l hx
 have hput: ∀rv G W ps r',Q rv G W ps r'->∀E,yjy x.th E=o++[⟨x.th,G,W,3⟩]->Obs E out 0:=λrv G W ps r' q E e=>by have:=hob rv G W ps r' q E 0 e (Nat.zero_le _);simpa using this
 unfold Cx.qAt at h ok
 rw [if_neg hpn] at h ok
 obtain ⟨a1,h⟩:=h.app
 obtain ⟨_,h⟩:=h.app
 obtain ⟨a3,a4⟩:=h.app
 have hl:(x.qBegin b).length=x.qSv b+(x.qBeg b).length:=ywm
 obtain ⟨s1,s2⟩:=Cod.app (q1:=z7l (λi _=>[fin (z7p (Nm 0) (x.o+(32+(i:Nat))) (Rg i))]) b.chgs 0 0) (q2:=x.qBeg b) a1
 refine ylq hx hO ho (λi=>Rg i) 32 32 rfl yum yum s1 λn1 g1 E1 v1 O1 z1=>?_
 have es:p+(z7l (λi _=>[fin (z7p (Nm 0) (x.o+(32+(i:Nat))) (Rg i))]) b.chgs 0 0).length=b.again:=hag.symm
 rw [es] at s2⊢
 have hlen: ∀(A B C D:List Kd),p+(A++(B++(C++D))).length=p+A.length+B.length+C.length+D.length:=λA B C D=>by simp only [List.length_append];omega
 rw [hlen] at ok
 refine ynr (N:=n1) (L:=r) (vb:=v1) (lb:=qb.length) hx hO hA hT hp hq hc hne s2 (pb:=p+(x.qBegin b).length) yum a3 (λj hj hb=>(z1 j hb).trans (z7u _ _)) (body v1) hgd hput (λrv G W ps r' q=>(hgv rv G W ps r' q).1) (λn2 g2 E2 v2 r2 rv G W ps r1 hQ q1 q2 q3 q4 q5 q6 q7 q8=>?_) n1 (Nat.le_refl _) E1 v1 r qc ⟨(yjt O1.hist).trans how,hP.hist O1.hist,O1.obs,λ_ _ _=>rfl⟩ (λ_ _ _=>rfl)
 have keep: ∀j,36<=j->j<39->v2 (x.ob+j)=v0 (x.ob+j):=λj h1 h2=>(q4 j yum h2).trans (O1.own _ (yjs j h2) λ⟨i,hi,e⟩=>by omega)
 obtain ⟨w1,w2⟩:=hgv _ _ _ _ _ hQ
 cases hg:b.gives with
 |true=>
  rw [hg,if_pos rfl] at a4 ok
  refine yof hx hO w1 a4 q5 q6 q2 q3 (hob _ _ _ _ _ hQ) λn3 g3 E3 v3 r3 k1 k2 k3 k4=>?_
  exact ok n3 yum E3 v3 r3 true rv G W ps r1 hQ (λj h4 h5=>(k4 j h4 h5).trans (q1 j h4 h5)) (λj h1 h2=>(k1 _ (yjs j h2)).trans (keep j h1 h2)) k2 k3 λj hj hb=>(k4 j yum yum).trans (q8 j hj hb)
 |false=>
  rw [hg,if_neg yup] at ok
  have:=ok n2 yum E2 v2 r2 true rv G W ps r1 hQ q1 keep q5 q6 q8
  rw [w2 hg,List.append_nil] at this
  exact this
theorem yp9(hx:x.Fit)(hO:yj4 Obs x.th)(hq:b.gets.length=6)(hc:b.chgs.length=4)(hag:b.again=p+x.qSv b)(hpn:b.puts=[false,false,false,false,false,false])(h:Cod c tp p (x.qAt b qb p))(ho:Obs E0 out 0)(how:yjy x.th E0=o)(hP:NoP x.th E0)
  (body:ync Gd Obs x c out o b Q r (p+(x.qBegin b).length) (p+(x.qBegin b).length+qb.length))
  (hgv: ∀rv G W ps r',Q rv G W ps r'->ps.length<=8/\(b.gives=false->ps=[])) (hob: ∀rv G W ps r',Q rv G W ps r'->∀E j,yjy x.th E=o->j<=ps.length->Obs E (out++ps.take j) 0)
  (ok: ∀n,n<N->∀E v r' qc rv G W ps r1,Q rv G W ps r1->(∀j,j≠4->j≠5->r' j=r1 j)->(∀j,36<=j->j<39->v (x.ob+j)=v0 (x.ob+j))->yjy x.th E=o->NoP x.th E->(∀j,j<4->bAt b.chgs j=false->r' j=r j)->Saf Gd Obs x.th c n r' (p+(x.qAt b qb p).length) (out++ps) v nov qc E):
  Saf Gd Obs x.th c N r p out v0 nov qc E0:=by
 have hob':=z9l hx
 unfold Cx.qAt at h ok
 rw [if_pos hpn] at h ok
 obtain ⟨a1,h⟩:=h.app
 obtain ⟨_,h⟩:=h.app
 obtain ⟨_,a4⟩:=h.app
 have hl:(x.qBegin b).length=x.qSv b+(x.qBeg b).length:=ywm
 obtain ⟨s1,s2⟩:=Cod.app (q1:=z7l (λi _=>[fin (z7p (Nm 0) (x.o+(32+(i:Nat))) (Rg i))]) b.chgs 0 0) (q2:=x.qBeg b) a1
 refine ylq hx hO ho (λi=>Rg i) 32 32 rfl yum yum s1 λn1 g1 E1 v1 O1 z1=>?_
 have es:p+(z7l (λi _=>[fin (z7p (Nm 0) (x.o+(32+(i:Nat))) (Rg i))]) b.chgs 0 0).length=b.again:=hag.symm
 rw [es] at s2⊢
 have hlen: ∀(A B C D:List Kd),p+(A++(B++(C++D))).length=p+A.length+B.length+C.length+D.length:=λA B C D=>by simp only [List.length_append];omega
 rw [hlen] at ok
 refine ypv (N:=n1) (L:=r) (vb:=v1) (lb:=qb.length) hx hO (by rw [hpn];rfl) hq hc s2 (pb:=p+(x.qBegin b).length) yum (λj hj hb=>(z1 j hb).trans (z7u _ _)) (body v1) (λn2 g2 E2 v2 r2 qc2 rv G W ps hL q7 hQ q8=>?_) n1 (Nat.le_refl _) E1 v1 r qc ⟨(yjt O1.hist).trans how,hP.hist O1.hist,O1.obs,λ_ _ _=>rfl⟩ (λ_ _ _=>rfl)
 have keep: ∀j,36<=j->j<39->v2 (x.ob+j)=v0 (x.ob+j):=λj h1 h2=>(hL.sav j yum h2).trans (O1.own _ (yjs j h2) λ⟨i,hi,e⟩=>by omega)
 obtain ⟨w1,w2⟩:=hgv _ _ _ _ _ hQ
 cases hg:b.gives with
 |true=>
  rw [hg,if_pos rfl] at a4 ok
  refine yof hx hO w1 a4 hL.ow hL.np hL.r7 hL.og (hob _ _ _ _ _ hQ) λn3 g3 E3 v3 r3 k1 k2 k3 k4=>?_
  exact ok n3 yum E3 v3 r3 qc2 rv G W ps r2 hQ k4 (λj h1 h2=>(k1 _ (yjs j h2)).trans (keep j h1 h2)) k2 k3 λj hj hb=>(k4 j yum yum).trans (q8 j hj hb)
 |false=>
  rw [hg,if_neg yup] at ok
  have:=ok n2 yum E2 v2 r2 qc2 rv G W ps r2 hQ (λ_ _ _=>rfl) keep hL.ow hL.np q8
  rw [w2 hg,List.append_nil] at this
  exact this
end
section
variable{Gd:Ent->Prop}{Obs:List Ent->List Int->Int->Prop}{x:Cx}{c:List Ic}{tp N:Nat}{r v0:Nat->Int}{qc:Bool}{E0:List Ent}{b:Bk}{J:Nat->List Int->List Ent->Prop}{hs:List Hd}{j k:Nat}{es:List En}
theorem yot(hx:x.Fit)(hO:yj4 Obs x.th)(h1:hs[j]?=some ⟨.inr (St.loop 3),[.inr k]⟩)(h2:hs[k]?=some ⟨.inr St.atomic,es⟩)(hb:x.kAg ((Jf hs 3 es).foldl x.seen bk0) 1=b)(h:Cod c tp 0 (z8m (gE hs x 3 none 0) [.inr j] 0++[fin (z88 10)]))
  (hob: ∀i out E,J i out (yjy x.th E)->Obs E out 0) (hend: ∀out E,J 0 out (yjy x.th E)->Obs E out 10)
  (block: ∀qb,qb=z8m (gE hs x 1 (some b) 1) es (1+(x.qBegin b).length)->Cod c tp 1 (x.qAt b qb 1)->∀i N out r E v qc,1<=i->i<=3->J i out (yjy x.th E)->NoP x.th E ->
   (∀m,m<N->∀out' r' E' v' qc',J (i- 1) out' (yjy x.th E')->NoP x.th E'->(∀j,36<=j->j<39->v' (x.ob+j)=v (x.ob+j))->Saf Gd Obs x.th c m r' (1+(x.qAt b qb 1).length) out' v' nov qc' E')->Saf Gd Obs x.th c N r 1 out v nov qc E)
  (hJ:J 3 [] (yjy x.th E0)) (hP:NoP x.th E0):Saf Gd Obs x.th c N r 0 [] v0 nov qc E0:=by
 have e:z8m (gE hs x 3 none 0) [.inr j] 0=x.qLoop 0 3 (x.qAt b (z8m (gE hs x 1 (some b) 1) es (1+(x.qBegin b).length)) 1) 0:=by
  subst hb
  simp only [z8m,gE,h1,h2,List.append_nil]
  rfl
 rw [e] at h
 obtain ⟨h,hE⟩:=h.app
 generalize z8m (gE hs x 1 (some b) 1) es (1+(x.qBegin b).length)=qb at*
 have hl:(x.qLoop 0 3 (x.qAt b qb 1) 0).length=1+(x.qAt b qb 1).length+5:=by simp [Cx.qLoop];omega
 rw [Nat.zero_add,hl] at hE
 have hat:Cod c tp 1 (x.qAt b qb 1):=by
  have:=h
  unfold Cx.qLoop at this
  exact this.at.2.app.1
 refine yog (n:=3) (l:=0) (J:=λi out _ E _=>J i out (yjy x.th E)/\NoP x.th E) hx hO yum yum yum h (λi out r E v r' E' v' hJ hh _ _=>⟨by rw [yjt hh];exact hJ.1,hJ.2.hist hh⟩) (λi out r E v hJ=>hob i out E hJ.1) (λi N out r E v qc hi1 hi3 hJ hv ok=>?_) (λm g out r E v qc hJ=>?_) ⟨hJ,hP⟩
 ·refine block qb rfl hat i N out r E v qc hi1 hi3 hJ.1 hJ.2 λm g out' r' E' v' qc' q1 q2 q3=>?_
  have:=ok m yum out' r' E' v' qc' ⟨q1,q2⟩ ((q3 36 yum yum).trans hv)
  exact this
 ·rw [show 0+1+(x.qAt b qb 1).length+5=1+(x.qAt b qb 1).length+5 by omega]
  exact yop hO (hob 0 out E hJ.1) hE.at.1 yup λE' v' hN=>hend out E' (by rw [yjt hN.env.hist];exact hJ.1)
end
abbrev cV:ByteArray:=⟨#[118]⟩
abbrev pvL(u:ByteArray):PV:=⟨u,0⟩
abbrev pvN(n:Int):PV:=⟨⟨#[]⟩,n⟩
def outC(o:List Ent):List Int:=o.map λe=>(e.wr 0).getD 0
section
variable{c:List Ic}{tp N t:Nat}{r v0:Nat->Int}{qc:Bool}{E0:List Ent}{hs:List Hd}{j k:Nat}
end
section
variable{Gd:Ent->Prop}{Obs:Nat->List Ent->List Int->Int->Prop}{c:Nat->List Ic}{n K nt:Nat}{A:List (Th×List Ic)}{m:Nat->Int}
theorem MG.init{T:Nat->Th}(hq: ∀u,u<3->(T u).q=[])(hO: ∀u,u<3->Obs u [] (T u).out (T u).st)(hs: ∀u,u<3->(T u).st=0->∃p:Nat,(T u).pl=(p:Int)/\Saf Gd (Obs u) u (c u) n (T u).r p (T u).out (λ_=>0) nov true []):MG Gd Obs c n 0 T (λ_=>0):=by
 refine ⟨[],λ_=>nov,λ_=>nov,λ_=>true,⟨⟨λk e h=>(by simp at h),λk e h=>(by simp at h)⟩,rfl,λt ht=>?_,λt a _ _ h=>(by cases h),λa _ _=>⟨rfl,rfl⟩,λk e h=>(by simp at h)⟩,Nat.le_refl _,λu hu _ p hp=>(by rw [hq u hu] at hp;simp at hp),λu hu=>⟨hO u hu,λh0=>?_⟩⟩
 ·show QD t [] (T t).q nov _ nov
  rw [hq t ht]
  exact λ_=>rfl
 ·obtain ⟨p,h1,h2⟩:=hs u hu h0
  refine ⟨p,[],λ_=>0,h1,?_,h2⟩
  rw [hq u hu]
  exact EnvR.refl _ _ _ _
variable(Gd Obs c nt) in
def MI3(K:Nat)(A:List (Th×List Ic))(m:Nat->Int):Prop:=A.length=nt/\ ∃T:Nat->Th,(∀u,u<nt->A[u]?=some (T u,c u))/\MG Gd Obs c (100000000000- K) K T m
theorem MI3.step(hG: ∀e s,Gd e->Gd {e with s:=s})(hO: ∀u E E' out st,Obs u E out st->Hist u E E'->Obs u E' out st)(hn:nt<=3)(h:MI3 Gd Obs c nt K A m)(hK:K<100000000000)(ht:t<nt):MI3 Gd Obs c nt (K+1) (z7b A m t).1 (z7b A m t).2:=by
 obtain ⟨hl,T,hA,hM⟩:=h
 rw [show 100000000000- K=(100000000000- (K+1))+1 by omega] at hM
 have h1:=hM.step hG hO yum (t:=t) yum
 unfold z7b
 rw [hA t ht]
 dsimp only
 refine ⟨by rw [List.length_set];exact hl,_,λu hu=>?_,h1⟩
 by_cases e:u=t
 ·subst e
  rw [List.getElem?_set_self yum,yju]
 ·rw [List.getElem?_set_ne (λq=>e q.symm),yjv e]
  exact hA u hu
theorem MI3.flush(hn:nt<=3)(h:MI3 Gd Obs c nt K A m)(ht:t<nt):MI3 Gd Obs c nt K (z69 A m t).1 (z69 A m t).2:=by
 obtain ⟨hl,T,hA,hM⟩:=h
 have h1:=hM.flush (t:=t) yum
 unfold z69
 rw [hA t ht]
 dsimp only
 refine ⟨by rw [List.length_set];exact hl,_,λu hu=>?_,h1⟩
 by_cases e:u=t
 ·subst e
  rw [List.getElem?_set_self yum,yju]
 ·rw [List.getElem?_set_ne (λq=>e q.symm),yjv e]
  exact hA u hu
theorem MI3.obs(hn:nt<=3)(h:MI3 Gd Obs c nt K A m): ∃E,HI Gd E/\E.length<=K/\ ∀u,u<nt->Obs u E (yj6 A u) (z7c A u):=by
 obtain ⟨hl,T,hA,E,rh,vh,qc,g,hK,_,hT⟩:=h
 refine ⟨E,g.hi,hK,λu hu=>?_⟩
 unfold yj6 z7c
 rw [hA u hu]
 exact (hT u yum).1
end
def ypw(a b:Nat)(n:Int)(G W:Nat->Option Int):Prop:=∃d d',G a=some d/\G b=some d'/\W a=some (wrap64 (d- n))/\W b=some (wrap64 (d'+n))/\ ∀c,c≠a->c≠b->W c=none
def GdB(e:Ent):Prop:=(∃n,ypw 1 2 n e.rd e.wr)\/ ∃n,ypw 2 0 n e.rd e.wr
theorem GdB.s(s:Nat)(h:GdB e):GdB {e with s:=s}:=h
abbrev bX:ByteArray:=⟨#[120]⟩
abbrev bY:ByteArray:=⟨#[121]⟩
abbrev bW:ByteArray:=⟨#[119]⟩
section
variable{c:List Ic}{tp N t:Nat}{r v0:Nat->Int}{qc:Bool}{E0:List Ent}{hs:List Hd}{j k:Nat}
end
theorem Cod.trap{c:List Ic}{tp p:Nat}{r:List Kd}(h:Cod c tp p (trp::r)):c[p]?=some (z8v (Rg 4) tp)/\Cod c tp (p+1) r:=⟨(h.1.2 rfl).1,h.2⟩
section
variable{Gd:Ent->Prop}{Obs:List Ent->List Int->Int->Prop}{x:Cx}{c:List Ic}{tp N p rv:Nat}{r v0 vb:Nat->Int}{out:List Int}{qc:Bool}{E0:List Ent}{o:List Ent}{G W:Nat->Option Int}{ps:List Int}{b:Bk}
theorem yqy(hO:yj4 Obs x.th)(hp:b.puts.length=6)(hq:b.gets.length=6)(hs:ps.length<=8)(hv: ∀r',(∀j,j<4->r' j=r j)->vof (x.vl a) r'=(at':Int))(ha:(at':Int)<(x.var of).2)(h:Cod c tp p (x.qCheck of a))(ho:Obs E0 out 0)(hL:LB x b rv o G W ps vb r E0 v0)
  (ok: ∀n,n<=N->∀E v r',LB x b rv o G W ps vb r' E v->Obs E out 0->(∀j,j≠4->r' j=r j)->Saf Gd Obs x.th c n r' (p+(x.qCheck of a).length) out v nov qc E):
  Saf Gd Obs x.th c N r p out v0 nov qc E0:=by
 unfold Cx.qCheck at h ok
 by_cases hc:a.name=⟨#[]⟩/\0<=a.num/\a.num<(x.var of).2
 ·rw [if_pos hc] at ok
  exact ok N (Nat.le_refl _) E0 v0 r hL ho λ_ _=>rfl
 ·rw [if_neg hc] at h ok
  obtain ⟨c0,h⟩:=h.at
  obtain ⟨c1,h⟩:=h.trap
  obtain ⟨c2,h⟩:=h.at
  obtain ⟨c3,h⟩:=h.trap
  refine ynw hO ho c0 λn1 g1 E1 w1 N1=>?_
  rw [z70,hv r λ_ _=>rfl,if_pos yum]
  have L1:=(hL.env hp hq hs N1.env).reg (r':=setr r 4 1) (z7g yup) (z7g yup)
  have e1: ∀j,j≠4->setr r 4 1 j=r j:=λj hj=>z7g hj
  have z1:setr r 4 1 4=1:=z7m _ _ _
  generalize setr r 4 1=r1 at*
  refine ykr hO N1.obs c1 (by rw [z7u,z1];decide) λn2 g2 E2 w2 N2=>?_
  refine ynw hO N2.obs c2 λn3 g3 E3 w3 N3=>?_
  rw [z70,hv r1 λj hj=>e1 j yum,if_pos ha]
  have L3:=((L1.env hp hq hs N2.env).env hp hq hs N3.env).reg (r':=setr r1 4 1) (z7g yup) (z7g yup)
  refine ykr hO N3.obs c3 yu7 λn4 g4 E4 w4 N4=>?_
  exact ok n4 yum E4 w4 _ (L3.env hp hq hs N4.env) N4.obs λj hj=>by rw [z7g hj,e1 j hj]
theorem yrl(hx:x.Fit)(hO:yj4 Obs x.th)(hp:b.puts.length=6)(hq:b.gets.length=6)(hs:ps.length<=8){ag:Nat}(hto:x.locI to<4)(hc:(at':Int)<(x.var of).2)(hf:(x.var of).1=(f:Int))(hv: ∀r',(∀j,j<4->r' j=r j)->vof (x.vl a) r'=(at':Int))(ha:f+at'<6)(hg:bAt b.gets (f+at')=true)(hpu:bAt b.puts (f+at')=pu)(h:Cod c tp p (x.qGet to of a pu ag p))(ho:Obs E0 out 0)(hL:LB x b rv o G W ps vb r E0 v0)
  (again: ∀n,n<N->∀E v r',Ag x Obs out o vb E v->(∀j,j≠4->j≠5->r' j=r j)->Saf Gd Obs x.th c n r' ag out v nov qc E)
  (own: ∀n,n<N->∀E v r' z,W (f+at')=some z->LB x b rv o G W ps vb r' E v->Obs E out 0->r' (x.locI to)=z->(∀j,j≠4->j≠5->j≠x.locI to->r' j=r j)->Saf Gd Obs x.th c n r' (p+(x.qGet to of a pu ag p).length) out v nov qc E)
  (ok: ∀n,n<N->∀E v r' d,W (f+at')=none->RdOk E rv (f+at') d->LB x b rv o (opu G (f+at') d) W ps vb r' E v->Obs E out 0->r' (x.locI to)=d->(∀j,j≠4->j≠5->j≠x.locI to->r' j=r j)->Saf Gd Obs x.th c n r' (p+(x.qGet to of a pu ag p).length) out v nov qc E):
  Saf Gd Obs x.th c N r p out v0 nov qc E0:=by
 rw [yrj] at h own ok
 rw [List.length_append,<-Nat.add_assoc] at own ok
 obtain ⟨h1,h2⟩:=h.app
 refine yqy hO hp hq hs hv hc h1 ho hL λn g E v r' L1 o1 k1=>?_
 have kv: ∀r'',(∀j,j<4->r'' j=r' j)->vof (x.vl a) r''=(at':Int):=λr'' e=>hv r'' λj hj=>(e j hj).trans (k1 j yum)
 exact yrb hx hO hp hq hs hto hf kv ha hg hpu h2 o1 L1 (λn2 g2 E2 v2 r2 q1 q2=>again n2 yum E2 v2 r2 q1 λj h4 h5=>(q2 j h4 h5).trans (k1 j h4)) (λn2 g2 E2 v2 r2 z q1 q2 q3 q4 q5=>own n2 yum E2 v2 r2 z q1 q2 q3 q4 λj h4 h5 ht=>(q5 j h4 h5 ht).trans (k1 j h4)) λn2 g2 E2 v2 r2 d q1 q2 q3 q4 q5 q6=>ok n2 yum E2 v2 r2 d q1 q2 q3 q4 q5 λj h4 h5 ht=>(q6 j h4 h5 ht).trans (k1 j h4)
theorem yrm(hx:x.Fit)(hO:yj4 Obs x.th)(hp:b.puts.length=6)(hq:b.gets.length=6)(hs:ps.length<=8)(hc:(at':Int)<(x.var of).2)(hf:(x.var of).1=(f:Int))(hv: ∀r',(∀j,j<4->r' j=r j)->vof (x.vl a) r'=(at':Int))(ha:f+at'<6)(hb:bAt b.puts (f+at')=true)(h:Cod c tp p (x.qPut of a w))(ho:Obs E0 out 0)(hL:LB x b rv o G W ps vb r E0 v0)
  (ok: ∀n,n<N->∀E v r',LB x b rv o G (opu W (f+at') (vof (x.vl w) r')) ps vb r' E v->Obs E out 0->(∀j,j≠4->r' j=r j)->Saf Gd Obs x.th c n r' (p+(x.qPut of a w).length) out v nov qc E):
  Saf Gd Obs x.th c N r p out v0 nov qc E0:=by
 rw [yrk] at h ok
 rw [List.length_append,<-Nat.add_assoc] at ok
 obtain ⟨h1,h2⟩:=h.app
 refine yqy hO hp hq hs hv hc h1 ho hL λn g E v r' L1 o1 k1=>?_
 exact yrc hx hO hp hq hs hf (hv r' λj hj=>k1 j yum) ha hb h2 o1 L1 λn2 g2 E2 v2 L2 o2=>ok n2 yum E2 v2 r' L2 o2 k1
end
def GdO(e:Ent):Prop:=e.wr 0=e.wr 1
theorem yq1(h:HI GdO E): ∀n,sig E n 0=sig E n 1
 |0=>rfl
 |n+1=>by
  have ih:=yq1 h n
  rw [ykl,ykl]
  cases e:E[n]? with
  |none=>exact ih
  |some e'=>
   simp only
   have:e'.wr 0=e'.wr 1:=h.gd n e' e
   rw [this,ih]
abbrev oT:ByteArray:=⟨#[116]⟩
abbrev oU:ByteArray:=⟨#[117]⟩
abbrev yq2:List (ByteArray×Int×Int):=[(bX,0,1),(bY,1,1),(oT,2,2)]
def opA:Cx:=⟨yq2,[cV],0,0,0⟩
def opB:Cx:=⟨yq2,[cV,bW,oU],1,0,0⟩
def opC:Cx:=⟨yq2,[bW,cV,oU],2,0,0⟩
def yrf:List En:=[.inl (St.get cV bX (pvN 0)), .inl (St.op cV 0 (pvL cV) (pvN 1)), .inl (St.put bX (pvN 0) (pvL cV)), .inl (St.put bY (pvN 0) (pvL cV))]
def yrg:List En:=[.inl (St.get cV bX (pvN 0)), .inl (St.get bW bY (pvN 0)), .inl (St.op oU 11 (pvL cV) (pvL bW)), .inl (St.op oU 3 (pvN 7) (pvL oU)), .inl (St.op bW 1 (pvL bW) (pvL cV)), .inl (St.get oU oT (pvL bW)), .inl (St.put oT (pvL bW) (pvL cV))]
def yrh:List En:=[.inl (St.get bW bY (pvN 0)), .inl (St.get cV bX (pvN 0)), .inl (St.op oU 11 (pvL cV) (pvL bW)), .inl (St.op oU 4 (pvN 7) (pvL oU)), .inl (St.out (pvL cV))]
def yqz:Bk:=⟨[true,false,false,false,false,false],[true,true,false,false,false,false],[true,false,false,false],false,2,[]⟩
def yqj:Bk:=⟨[true,true,true,true,false,false],[false,false,true,true,false,false],[true,true,true,false],false,4,[]⟩
def yqk:Bk:=⟨[true,true,false,false,false,false],[false,false,false,false,false,false],[true,true,true,false],true,4,[]⟩
def yqi(_:List Ent)(_:List Int)(st:Int):Prop:=st=0\/st=10
section
variable{c:List Ic}{tp N:Nat}{r v0:Nat->Int}{qc:Bool}{E0:List Ent}{hs:List Hd}{j k:Nat}{out:List Int}{o:List Ent}{L:Nat->Int}{pb:Nat}{qb:List Kd}
theorem yq7(hqb:qb=z8m (gE hs opA 1 (some yqz) 1) yrf pb)(h:Cod c tp pb qb):
  ync GdO (ObP 0 yqi) opA c out o yqz (λ_ _ W ps _=>W 0=W 1/\ps=[]) L pb (pb+qb.length):=by
 have hx:opA.Fit:=⟨by show (0:Nat)<=2;omega,by show (1:Nat)<=4;omega⟩
 have hO:yj4 (ObP 0 yqi) opA.th:=yos 0 yqi
 have hi:opA.locI cV=0:=rfl
 have hv:opA.vl (pvL cV)=Rg 0:=rfl
 have e:qb=opA.qGet cV bX (pvN 0) true 2 pb++(fin (z87 0 0 (Rg 0) (Nm 1))::(opA.qPut bX (pvN 0) (pvL cV)++opA.qPut bY (pvN 0) (pvL cV))):=by rw [hqb];rfl
 rw [e] at h⊢
 obtain ⟨a1,h⟩:=h.app
 obtain ⟨a2,h⟩:=h.at
 obtain ⟨a3,a4⟩:=h.app
 intro vb n E v r' qc rv hL ho hr again done
 refine yoc (b:=yqz) hx hO rfl rfl yun (f:=0) (at':=0) (by rw [hi];omega) rfl rfl (λ_ _=>rfl) yum rfl rfl a1 ho hL (λn1 g1 E1 v1 r1 q1 q2=>?_) (λn1 g1 E1 v1 r1 z q1=>(by cases q1)) λn1 g1 E1 v1 r1 d q1 q2 q3 q4 q5 q6=>?_
 ·exact again n1 g1 E1 v1 r1 q1 λj hj _=>(q2 j yum yum).trans (hr j hj)
 rw [hi] at q5 q6
 refine ymq hO q4 a2 λn2 g2 E2 v2 N2=>?_
 have L2:=(q3.env rfl rfl yun N2.env).reg (r':=setr r1 0 (wrap64 (vof (Rg 0) r1+vof (Nm 1) r1))) (z7g yup) (z7g yup)
 rw [z7u,z70,q5] at L2⊢
 refine yod (b:=yqz) hx hO rfl rfl yun (f:=0) (at':=0) rfl rfl rfl yum rfl a3 N2.obs L2 λn3 g3 E3 v3 L3 o3=>?_
 rw [hv,z7u,z7m] at L3
 refine yod (b:=yqz) hx hO rfl rfl yun (f:=1) (at':=0) rfl rfl rfl yum rfl a4 o3 L3 λn4 g4 E4 v4 L4 o4=>?_
 rw [hv,z7u,z7m] at L4
 have pe: ∀(A B C:List Kd) (x:Kd),pb+(A++(x::(B++C))).length=pb+A.length+1+B.length+C.length:=λA B C x=>by
  simp only [List.length_append,List.length_cons]
  omega
 rw [pe] at done
 refine done n4 yum E4 v4 _ _ _ _ L4 o4 ⟨rfl,rfl⟩ λj hj hb=>?_
 have j0:j≠0:=λe=>by rw [e] at hb;cases hb
 rw [z7g j0,q6 j yum yum j0]
 exact hr j hj
theorem yq8(hqb:qb=z8m (gE hs opB 1 (some yqj) 1) yrg pb)(h:Cod c tp pb qb):
  ync GdO (ObP 1 yqi) opB c out o yqj (λ_ _ W ps _=>W 0=W 1/\ps=[]) L pb (pb+qb.length):=by
 have hx:opB.Fit:=⟨by show (1:Nat)<=2;omega,by show (3:Nat)<=4;omega⟩
 have hO:yj4 (ObP 1 yqi) opB.th:=yos 1 yqi
 have hi:opB.locI cV=0:=rfl
 have hj:opB.locI bW=1:=rfl
 have hu:opB.locI oU=2:=rfl
 obtain ⟨p2,hp2⟩: ∃p2,pb+(opB.qGet cV bX (pvN 0) false 4 pb).length=p2:=⟨_,rfl⟩
 obtain ⟨p3,hp3⟩: ∃p3,p2+(opB.qGet bW bY (pvN 0) false 4 p2).length+1+1+1=p3:=⟨_,rfl⟩
 have e:qb=opB.qGet cV bX (pvN 0) false 4 pb++(opB.qGet bW bY (pvN 0) false 4 p2++(fin (z87 11 2 (Rg 0) (Rg 1))::(fin (z87 3 2 (Nm 7) (Rg 2))::(fin (z87 1 1 (Rg 1) (Rg 0))::(opB.qGet oU oT (pvL bW) true 4 p3++opB.qPut oT (pvL bW) (pvL cV)))))):=by rw [hqb,<-hp3,<-hp2];rfl
 rw [e] at h⊢
 have pe: ∀(A B C D:List Kd) (x y z:Kd),pb+(A++(B++(x::(y::(z::(C++D)))))).length=pb+A.length+B.length+1+1+1+C.length+D.length:=λA B C D x y z=>by
  simp only [List.length_append,List.length_cons]
  omega
 rw [pe,hp2,hp3]
 obtain ⟨a1,h⟩:=h.app
 rw [hp2] at h
 obtain ⟨a2,h⟩:=h.app
 obtain ⟨a3,h⟩:=h.at
 obtain ⟨a4,h⟩:=h.at
 obtain ⟨a5,h⟩:=h.at
 rw [hp3] at h
 obtain ⟨a6,a7⟩:=h.app
 intro vb m E v r' qc rv hL ho hr again done
 have keep: ∀{j},j<4->bAt yqj.chgs j=false->j≠0/\j≠1/\j≠2:=λ{j} _ hb=>⟨λe=>yvl,λe=>yvl,λe=>yvl⟩
 refine yoc (b:=yqj) (pu:=false) hx hO rfl rfl yun (f:=0) (at':=0) (by rw [hi];omega) rfl rfl (λ_ _=>rfl) yum rfl rfl a1 ho hL (λn1 g1 E1 w1 r1 q1 q2=>?_) (λn1 g1 E1 w1 r1 z q1=>(by cases q1)) λn1 g1 E1 w1 r1 d0 _ _ q3 q4 q5 q6=>?_
 ·exact again n1 g1 E1 w1 r1 q1 λj hj _=>(q2 j yum yum).trans (hr j hj)
 rw [hi] at q5 q6
 rw [hp2]
 have H1: ∀j,j<4->bAt yqj.chgs j=false->r1 j=L j:=λj hj hb=>by
  rw [q6 j yum yum (keep hj hb).1];exact hr j hj
 refine yoc (b:=yqj) (pu:=false) hx hO rfl rfl yun (f:=1) (at':=0) (by rw [hj];omega) rfl rfl (λ_ _=>rfl) yum rfl rfl a2 q4 q3 (λn2 g2 E2 w2 r2 k1 k2=>?_) (λn1 g1 E1 w1 r1 z q1=>(by cases q1)) λn2 g2 E2 w2 r2 d1 _ _ k3 k4 k5 k6=>?_
 ·exact yub
 rw [hj] at k5 k6
 have H2: ∀j,j<4->bAt yqj.chgs j=false->r2 j=L j:=λj hj hb=>by
  rw [k6 j yum yum (keep hj hb).2.1];exact H1 j hj hb
 have e0:r2 0=d0:=(k6 0 yup yup yup).trans q5
 refine yoy hO k4 a3 λn3 g3 E3 w3 N3=>?_
 have L3:=k3.env rfl rfl yun N3.env
 have s:=yq1 N3.vi.hi rv
 rw [(L3.rd 0 d0 rfl).1,(L3.rd 1 d1 rfl).1] at s
 subst s
 rw [z7u,z7u,e0,k5,if_pos rfl]
 have L3:=L3.reg (r':=setr r2 2 1) (z7g yup) (z7g yup)
 have z3:setr r2 2 1 2=1:=z7m _ _ _
 have y3: ∀j,j≠2->setr r2 2 1 j=r2 j:=λj hj=>z7g hj
 generalize setr r2 2 1=r3 at*
 refine yrx hO N3.obs a4 (z:=7) (by rw [z70,z7u,z3];show some (wrap64 7)=some 7;rw [w64 7 yum yum]) λn4 g4 E4 w4 N4=>?_
 have L4:=(L3.env rfl rfl yun N4.env).reg (r':=setr r3 2 7) (z7g yup) (z7g yup)
 have y4: ∀j,j≠2->setr r3 2 7 j=r2 j:=λj hj=>(z7g hj).trans (y3 j hj)
 generalize setr r3 2 7=r4 at*
 refine yn3 hO N4.obs a5 λn5 g5 E5 w5 N5=>?_
 rw [z7u,z7u,y4 0 yup,y4 1 yup,e0,k5,show d0- d0=0 by omega,w64 0 yum yum]
 have L5:=(L4.env rfl rfl yun N5.env).reg (r':=setr r4 1 0) (z7g yup) (z7g yup)
 have z5:setr r4 1 0 1=0:=z7m _ _ _
 have y5: ∀j,j≠2->j≠1->setr r4 1 0 j=r2 j:=λj h2 h1=>(z7g h1).trans (y4 j h2)
 generalize setr r4 1 0=r5 at*
 rw [hp3]
 have pl: ∀r',(∀j,j<4->r' j=r5 j)->vof (opB.vl (pvL bW)) r'=((0:Nat):Int):=λr' hr=>by
  show vof (Rg 1) r'=0
  rw [z7u,hr 1 yum];exact z5
 refine yrl (b:=yqj) (pu:=true) hx hO rfl rfl yun (f:=2) (at':=0) (by rw [hu];omega) (by show ((0:Nat):Int)<2;omega) rfl pl yum rfl rfl a6 N5.obs L5 (λn6 g6 E6 w6 r6 l1 l2=>?_) (λn1 g1 E1 w1 r1 z q1=>(by cases q1)) λn6 g6 E6 w6 r6 d2 _ _ l3 l4 l5 l6=>?_
 ·exact again n6 yum E6 w6 r6 l1 λj hj hb=>by
   obtain ⟨_,j1,j2⟩:=keep hj hb
   rw [l2 j yum yum,y5 j j2 j1]
   exact H2 j hj hb
 rw [hu] at l5 l6
 refine yrm (b:=yqj) hx hO rfl rfl yun (f:=2) (at':=0) (by show ((0:Nat):Int)<2;omega) rfl (λr' hr=>?_) yum rfl a7 l4 l3 λn7 g7 E7 w7 r7 L7 o7 k7=>?_
 ·show vof (Rg 1) r'=0
  rw [z7u,hr 1 yum,l6 1 yup yup yup];exact z5
 refine done n7 yum E7 w7 r7 _ _ _ L7 o7 ⟨rfl,rfl⟩ λj hj hb=>?_
 obtain ⟨_,j1,j2⟩:=keep hj hb
 rw [k7 j yum,l6 j yum yum j2,y5 j j2 j1]
 exact H2 j hj hb
theorem yq9(hqb:qb=z8m (gE hs opC 1 (some yqk) 1) yrh pb)(h:Cod c tp pb qb):
  ync GdO (ObP 2 yqi) opC c out o yqk (λ_ _ _ ps _=>ps.length<=8) L pb (pb+qb.length):=by
 have hx:opC.Fit:=⟨by show (2:Nat)<=2;omega,by show (3:Nat)<=4;omega⟩
 have hO:yj4 (ObP 2 yqi) opC.th:=yos 2 yqi
 have hi:opC.locI bW=0:=rfl
 have hj:opC.locI cV=1:=rfl
 obtain ⟨p2,hp2⟩: ∃p2,pb+(opC.qGet bW bY (pvN 0) false 4 pb).length=p2:=⟨_,rfl⟩
 have e:qb=opC.qGet bW bY (pvN 0) false 4 pb++(opC.qGet cV bX (pvN 0) false 4 p2++(fin (z87 11 2 (Rg 1) (Rg 0))::(fin (z87 4 2 (Nm 7) (Rg 2))::opC.qOut (pvL cV) true))):=by rw [hqb,<-hp2];rfl
 rw [e] at h⊢
 have pe: ∀(A B C:List Kd) (x y:Kd),pb+(A++(B++(x::(y::C)))).length=pb+A.length+B.length+1+1+C.length:=λA B C x y=>by
  simp only [List.length_append,List.length_cons]
  omega
 rw [pe,hp2]
 obtain ⟨a1,h⟩:=h.app
 rw [hp2] at h
 obtain ⟨a2,h⟩:=h.app
 obtain ⟨a3,h⟩:=h.at
 obtain ⟨a4,a5⟩:=h.at
 intro vb m E v r' qc rv hL ho hr again done
 have keep: ∀{j},j<4->bAt yqk.chgs j=false->j≠0/\j≠1/\j≠2:=λ{j} _ hb=>⟨λe=>yvl,λe=>yvl,λe=>yvl⟩
 refine yoc (b:=yqk) (pu:=false) hx hO rfl rfl yun (f:=1) (at':=0) (by rw [hi];omega) rfl rfl (λ_ _=>rfl) yum rfl rfl a1 ho hL (λn1 g1 E1 w1 r1 q1 q2=>?_) (λn1 g1 E1 w1 r1 z q1=>(by cases q1)) λn1 g1 E1 w1 r1 d1 _ _ q3 q4 q5 q6=>?_
 ·exact again n1 g1 E1 w1 r1 q1 λj hj _=>(q2 j yum yum).trans (hr j hj)
 rw [hi] at q5 q6
 rw [hp2]
 have H1: ∀j,j<4->bAt yqk.chgs j=false->r1 j=L j:=λj hj hb=>by
  rw [q6 j yum yum (keep hj hb).1];exact hr j hj
 refine yoc (b:=yqk) (pu:=false) hx hO rfl rfl yun (f:=0) (at':=0) (by rw [hj];omega) rfl rfl (λ_ _=>rfl) yum rfl rfl a2 q4 q3 (λn2 g2 E2 w2 r2 k1 k2=>?_) (λn1 g1 E1 w1 r1 z q1=>(by cases q1)) λn2 g2 E2 w2 r2 d0 _ _ k3 k4 k5 k6=>?_
 ·exact yub
 rw [hj] at k5 k6
 have H2: ∀j,j<4->bAt yqk.chgs j=false->r2 j=L j:=λj hj hb=>by
  rw [k6 j yum yum (keep hj hb).2.1];exact H1 j hj hb
 have e0:r2 0=d1:=(k6 0 yup yup yup).trans q5
 refine yoy hO k4 a3 λn3 g3 E3 w3 N3=>?_
 have L3:=k3.env rfl rfl yun N3.env
 have s:=yq1 N3.vi.hi rv
 rw [(L3.rd 0 d0 rfl).1,(L3.rd 1 d1 rfl).1] at s
 subst s
 rw [z7u,z7u,e0,k5,if_pos rfl]
 have L3:=L3.reg (r':=setr r2 2 1) (z7g yup) (z7g yup)
 have z3:setr r2 2 1 2=1:=z7m _ _ _
 have y3: ∀j,j≠2->setr r2 2 1 j=r2 j:=λj hj=>z7g hj
 generalize setr r2 2 1=r3 at*
 refine yrx hO N3.obs a4 (z:=0) (by rw [z70,z7u,z3];rfl) λn4 g4 E4 w4 N4=>?_
 have L4:=(L3.env rfl rfl yun N4.env).reg (r':=setr r3 2 0) (z7g yup) (z7g yup)
 have y4: ∀j,j≠2->setr r3 2 0 j=r2 j:=λj hj=>(z7g hj).trans (y3 j hj)
 generalize setr r3 2 0=r4 at*
 refine yoe (b:=yqk) hx hO rfl rfl yun a5 N4.obs L4 λn6 g6 E6 w6 r6 L6 o6 q7=>?_
 refine done n6 yum E6 w6 _ _ _ _ L6 o6 yun λj hj hb=>?_
 rw [q7 j yum,y4 j (keep hj hb).2.2]
 exact H2 j hj hb
theorem yq3{x:Cx}{es:List En}(hx:x.Fit)(hp:b.puts.length=6)(hq:b.gets.length=6)(hc:b.chgs.length=4)(hag:b.again=1+x.qSv b)(hne: ∃i,i<6/\bAt b.puts i=true)(hpn:b.puts≠[false,false,false,false,false,false])(hb:x.kAg ((Jf hs 3 es).foldl x.seen bk0) 1=b)
  (body: ∀(qb:List Kd) pb out o L,qb=z8m (gE hs x 1 (some b) 1) es pb->Cod c tp pb qb->ync GdO (ObP x.th yqi) x c out o b (λ_ _ W ps _=>W 0=W 1/\ps=[]) L pb (pb+qb.length))
  (h1:hs[j]?=some ⟨.inr (St.loop 3),[.inr k]⟩) (h2:hs[k]?=some ⟨.inr St.atomic,es⟩) (h:Cod c tp 0 (z8m (gE hs x 3 none 0) [.inr j] 0++[fin (z88 10)])) (hP:NoP x.th E0):Saf GdO (ObP x.th yqi) x.th c N r 0 [] v0 nov qc E0:=by
 have hO:yj4 (ObP x.th yqi) x.th:=yos x.th yqi
 refine yot (x:=x) (b:=b) (J:=λ_ _ _=>True) hx hO h1 h2 hb h (λi out E _=> .inl rfl) (λout E _=> .inr rfl) (λqb hqb hat i N out r E v qc hi1 hi3 hJ hnp ok=>?_) trivial hP
 have hat':=hat
 unfold Cx.qAt at hat'
 exact yo2 (b:=b) (p:=1) (o:=yjy x.th E) hx hO (yo0 x.th yqi) (yo1 x.th yqi) hp hq hc hag hne hpn hat (.inl rfl) rfl hnp (body qb _ _ _ _ hqb hat'.app.2.app.1) (λrv G W ps r' g=>g.1) (λrv G W ps r' g=>⟨by rw [g.2];simp,λ_=>g.2⟩) (λrv G W ps r' _ E' j e hj=> .inl rfl) λn g E' v' r' qc' rv G W ps r1 _ q1 q2 q3 q4 q5=>ok n g _ r' E' v' qc' trivial q4 q2
theorem yra(h1:hs[j]?=some ⟨.inr (St.loop 3),[.inr k]⟩)(h2:hs[k]?=some ⟨.inr St.atomic,yrh⟩)(h:Cod c tp 0 (z8m (gE hs opC 3 none 0) [.inr j] 0++[fin (z88 10)]))(hP:NoP 2 E0):Saf GdO (ObP 2 yqi) 2 c N r 0 [] v0 nov qc E0:=by
 have hx:opC.Fit:=⟨by show (2:Nat)<=2;omega,by show (3:Nat)<=4;omega⟩
 have hO:yj4 (ObP 2 yqi) opC.th:=yos 2 yqi
 refine yot (x:=opC) (b:=yqk) (J:=λ_ _ _=>True) hx hO h1 h2 rfl h (λi out E _=> .inl rfl) (λout E _=> .inr rfl) (λqb hqb hat i N out r E v qc hi1 hi3 hJ hnp ok=>?_) trivial hP
 have hat':=hat
 unfold Cx.qAt at hat'
 exact yp9 (b:=yqk) (p:=1) (o:=yjy 2 E) hx hO rfl rfl rfl rfl hat (.inl rfl) rfl hnp (yq9 hqb hat'.app.2.app.1) (λrv G W ps r' g=>⟨g,λq=>by cases q⟩) (λrv G W ps r' _ E' j e hj=> .inl rfl) λn g E' v' r' qc' rv G W ps r1 _ q1 q2 q3 q4 q5=>ok n g _ r' E' v' qc' trivial q4 q2
end
abbrev yrn:List Hd:=[⟨.inl ([cV],6),[.inr 1]⟩,⟨.inr (St.loop 3),[.inr 2]⟩,⟨.inr St.atomic,yrf⟩,⟨.inl ([cV,bW,oU],9),[.inr 4]⟩,⟨.inr (St.loop 3),[.inr 5]⟩,⟨.inr St.atomic,yrg⟩]
def yqh:RS:=⟨yq2,4,yrn,[0,3],[3]⟩
def yql:RS:=⟨yq2,4,yrn++[⟨.inl ([bW,cV,oU],7),[.inr 7]⟩,⟨.inr (St.loop 3),[.inr 8]⟩,⟨.inr St.atomic,yrh⟩],[0,3,6],[6]⟩
theorem yrd:zaz yru= .ok yqh:=yuo
theorem yre:zaz yrv= .ok yql:=yuo
abbrev OpqI(s:RS)(nt:Nat):Nat->List (Th×List Ic)->(Nat->Int)->Prop:=MI3 GdO (λu=>ObP u yqi) (thC s) nt
section
variable{c:List Ic}{tp N:Nat}{r v0:Nat->Int}{qc:Bool}{E0:List Ent}{hs:List Hd}{j k:Nat}
theorem yqm(h1:hs[j]?=some ⟨.inr (St.loop 3),[.inr k]⟩)(h2:hs[k]?=some ⟨.inr St.atomic,yrf⟩)(h:Cod c tp 0 (z8m (gE hs opA 3 none 0) [.inr j] 0++[fin (z88 10)]))(hP:NoP 0 E0):Saf GdO (ObP 0 yqi) 0 c N r 0 [] v0 nov qc E0:=
 yq3 (x:=opA) (b:=yqz) ⟨by show (0:Nat)<=2;omega,by show (1:Nat)<=4;omega⟩ rfl rfl rfl rfl ⟨0,by omega,rfl⟩ yup rfl (λ_ _ _ _ _ e hc=>yq7 e hc) h1 h2 h hP
theorem yqn(h1:hs[j]?=some ⟨.inr (St.loop 3),[.inr k]⟩)(h2:hs[k]?=some ⟨.inr St.atomic,yrg⟩)(h:Cod c tp 0 (z8m (gE hs opB 3 none 0) [.inr j] 0++[fin (z88 10)]))(hP:NoP 1 E0):Saf GdO (ObP 1 yqi) 1 c N r 0 [] v0 nov qc E0:=
 yq3 (x:=opB) (b:=yqj) ⟨by show (1:Nat)<=2;omega,by show (3:Nat)<=4;omega⟩ rfl rfl rfl rfl ⟨2,by omega,rfl⟩ yup rfl (λ_ _ _ _ _ e hc=>yq8 e hc) h1 h2 h hP
end
theorem yro:OpqI yql 3 0 (((List.range yql.threads.length).map (thC yql)).map λc=>(Th.init,c)) (λ_=>0):=by
 have hp:=yhi yre
 have np: ∀t,NoP t []:=λt k e h=>by simp at h
 refine ⟨rfl,λ_=>Th.init,λu hu=>?_,MG.init (λ_ _=>rfl) (λu _=> .inl rfl) λu hu _=>⟨0,rfl,?_⟩⟩
 ·have:u=0\/u=1\/u=2:=by omega
  rcases this with rfl|rfl|rfl<;>rfl
 obtain ⟨tp,hc⟩:=ydm (hp.fit u hu) yql.hs (yql.ents (yql.thr u)) (hp.en u hu) (hp.w u hu)
 have:u=0\/u=1\/u=2:=yum
 rcases this with rfl|rfl|rfl
 ·exact yqm (j:=1) (k:=2) rfl rfl hc (np 0)
 ·exact yqn (j:=4) (k:=5) rfl rfl hc (np 1)
 ·exact yra (j:=7) (k:=8) rfl rfl hc (np 2)
theorem yrp:OpqI yqh 2 0 (((List.range yqh.threads.length).map (thC yqh)).map λc=>(Th.init,c)) (λ_=>0):=by
 have hp:=yhi yrd
 have np: ∀t,NoP t []:=λt k e h=>by simp at h
 refine ⟨rfl,λu=>if u<2 then Th.init else {Th.init with st:=10},λu hu=>?_,MG.init (λu _=>?_) (λu _=>?_) λu hu h0=>?_⟩
 ·have:u=0\/u=1:=by omega
  rcases this with rfl|rfl<;>rfl
 ·split<;>rfl
 ·split
  ·exact .inl rfl
  ·exact .inr rfl
 ·have:u=0\/u=1\/u=2:=by omega
  rcases this with rfl|rfl|rfl
  ·obtain ⟨tp,hc⟩:=ydm (hp.fit 0 yup) yqh.hs (yqh.ents (yqh.thr 0)) (hp.en 0 yup) (hp.w 0 yup)
   exact ⟨0,rfl,yqm (j:=1) (k:=2) rfl rfl hc (np 0)⟩
  ·obtain ⟨tp,hc⟩:=ydm (hp.fit 1 yup) yqh.hs (yqh.ents (yqh.thr 1)) (hp.en 1 yup) (hp.w 1 yup)
   exact ⟨0,rfl,yqn (j:=4) (k:=5) rfl rfl hc (np 1)⟩
  ·cases h0
theorem OpqI.ok{s:RS}{K:Nat}{A:List (Th×List Ic)}{m:Nat->Int}(hn:nt<=3)(h:OpqI s nt K A m)(ht:t<nt):z7c A t=0\/z7c A t=10:=by
 obtain ⟨E,_,_,h3⟩:=h.obs hn
 exact h3 t ht
section
variable{W w:World}{bm:Nat}{I:Nat->List (Th×List Ic)->(Nat->Int)->Prop}
theorem yq4(hr:ymh W pa len cap zs)(hlen: ¬4096<len)(R:yn0 2 bm (ymd I W bm))(h:ymd I W bm 0 0 w):
  Cl 7 #[ptr bm, .slice pa len cap, .int .i64 2] w λe w'=>e= .returned (.tuple #[])/\ymd I W bm 245760 0 w':=by
 rcases hr with ⟨rfl,rfl,rfl,rfl⟩|⟨x,rfl,h2,_,h4,h5,h6⟩
 ·refine (yq0 0).mono ?_
  rintro e w' ⟨rfl,rfl⟩
  exact ⟨rfl,R.mono h yum⟩
 ·refine (yrs R h yum x len cap zs yum yum (λn j w hI k hk=>?_) (λz hz=>yng (h6 z hz))).mono ?_
  ·exact ytf
  ·rintro e w' ⟨rfl,h⟩
   exact ⟨rfl,R.mono h yum⟩
theorem yqg{s:RS}(hn:nt<=3):yn0 nt bm (ymd (OpqI s nt) W bm):=ynf (λ_ _ _ _ ht hK h=>MI3.step (Gd:=GdO) (λ_ _ h=>h) (λu=>yos u yqi) hn h hK ht) (λ_ _ _ _ ht h=>MI3.flush hn h ht)
theorem yqp{s:RS}(hn:nt<=3)(ht:t<nt)(h:ymd (OpqI s nt) W bm n j w):Cl 13 #[ptr bm, .int .i64 t] w λe w'=>∃s',e= .returned (.int .i64 s')/\(s'=0\/s'=10)/\ymd (OpqI s nt) W bm n j w':=by
 obtain ⟨D,K,A,m,h1,h2,h3,h4,h5,h6,h7,h8⟩:=h
 refine (yci h2 t).mono ?_
 rintro e w' ⟨rfl,rfl⟩
 exact ⟨_,rfl,OpqI.ok hn h6 ht,D,K,A,m,h1,h2,h3,h4,h5,h6,h7,h8⟩
theorem yqt(hE:Env W)(hT:TabAt W)(hr:ymh W pa len cap zs)(a:Int)(ha:-9223372036854775808<=a):
  Cl 5 #[.slice pa len cap, .int .i64 a] W λe w'=>e= .returned (.bool true)/\Below W.heap.size W w':=by
 by_cases hl:4096<len
 ·refine (yqs hl).mono ?_
  rintro e w' ⟨rfl,rfl⟩
  exact ⟨rfl,Below.refl _ _⟩
 ·have i2:=yfx a 2 ha yup
  have i11:=yfx a 11 ha yup
  obtain ⟨p,hp⟩:=Int.eq_ofNat_of_zero_le i11.1
  rw [hp] at i11
  have KQ:Hid (∀w,Cl 11 #[.int .i64 a, .int .i64 11] w λe w'=>e= .returned (.int .i64 (p:Int))/\w'=w):=hid λw=>by rw [<-hp];exact yg6 a 11 w yup
  have h01:ydf a 2=0\/ydf a 2=1:=yum
  rcases h01 with h01|h01
  ·refine (yq5 (X0:=λbm=>ymd (OpqI yqh 2) W bm 0 0) (X1:=λbm=>ymd (OpqI yqh 2) W bm 245760 0) (X2:=λbm=>ymd (OpqI yqh 2) W bm 21854760 0) (p:=p) hl yum (hid λw=>?_) KQ (hid ?_) (hid λbm w h=>yq4 hr hl (yqg yum) h) (hid λbm w tu htu h=>?_) (hid λbm w t ht h=>yqp yum ht h)).mono ?_
   ·rw [<-h01];exact yg6 a 2 w yup
   ·refine (yn2 hE hT yrd).mono ?_
    rintro e w' ⟨bm,D,rfl,h1,h2,h3,h4,h5⟩
    exact ⟨bm,rfl,D,0,_,_,Nat.le_refl _,h1,h2,h3,h4,yrp,λi hi=>absurd hi (Nat.not_lt_zero i),h5⟩
   ·refine (yrt (yqg yum) h yum tu htu).mono ?_
    rintro e w' (⟨rfl,h⟩|⟨rfl,h⟩)
    ·exact .inl ⟨rfl,h⟩
    ·exact .inr ⟨rfl,(yqg yum).no h⟩
   ·rintro e w' ⟨rfl,bm,D,K,A,m,_,_,_,_,_,_,_,h8⟩
    exact ⟨rfl,h8⟩
  ·refine (yq6 (X0:=λbm=>ymd (OpqI yql 3) W bm 0 0) (X1:=λbm=>ymd (OpqI yql 3) W bm 245760 0) (X2:=λbm=>ymd (OpqI yql 3) W bm 21854760 0) (p:=p) hl yum (hid λw=>?_) KQ (hid ?_) (hid λbm w h=>ym4 hr hl (yqg yum) h) (hid λbm w tu htu h=>?_) (hid λbm w t ht h=>yqp yum ht h)).mono ?_
   ·rw [<-h01];exact yg6 a 2 w yup
   ·refine (yn2 hE hT yre).mono ?_
    rintro e w' ⟨bm,D,rfl,h1,h2,h3,h4,h5⟩
    exact ⟨bm,rfl,D,0,_,_,Nat.le_refl _,h1,h2,h3,h4,yro,λi hi=>absurd hi (Nat.not_lt_zero i),h5⟩
   ·refine (yom (yqg yum) h yum tu htu).mono ?_
    rintro e w' (⟨rfl,h⟩|⟨rfl,h⟩)
    ·exact .inl ⟨rfl,h⟩
    ·exact .inr ⟨rfl,(yqg yum).no h⟩
   ·rintro e w' ⟨rfl,bm,D,K,A,m,_,_,_,_,_,_,_,h8⟩
    exact ⟨rfl,h8⟩
end
open Go.ChangeShapes Go.WideShapes Go.ChangeAt Go.WideMaps Go.WideElems Go.RowKit
theorem yqu(os:Os)(args:Array Value):laidMetH Tryz.prog Rows.opaqueRow.laid ((((World.doorLaid Tryz.prog 200 os).layVars Tryz.prog [("unicode/utf8.first",Rows.laid_unicode_utf8_first)]).forCall (λ_ _=>0) ⟨#[],args,[]⟩).memory):=
 laidMetH_of_parts3 (fuel:=8) (laidMet_of_run' 8 yuo yuo) yuo yuo
theorem yqo(os:Os)(started:os.Started)(H:Type)(enc:TypeId×Value->H):
  ReturnsInHanded {} Tryz.checked os 5 .any (λw args=>(Rows.opaqueSpec.pre enc Tryz.prog Tryz.f5 Rows.opaqueRow.domain false w args/\laidMetH Tryz.prog Rows.opaqueRow.laid w)/\sizedMet enc Tryz.prog Tryz.f5 (OpenSpec.ofChange Rows.opaqueSpec) false w args)
   (Rows.opaqueSpec.post enc Tryz.prog Tryz.f5 false true false false):=by
 refine ze7 (C:=Tryz.checked) (X:=λw _=>laidMetH Tryz.prog Rows.opaqueRow.laid w) (λ_ _ _ hh h=>h.of_heap hh) own started yuo Tryz.func5
  (ChangeSpec.witness_shaped (enc:=enc) (C:=Tryz.checked) (os:=os) (X:=λw _=>laidMetH Tryz.prog Rows.opaqueRow.laid w) false ((World.doorLaid Tryz.prog 200 os).layVars Tryz.prog [("unicode/utf8.first",Rows.laid_unicode_utf8_first)]) #[.slice none 0 0, .int .i64 0] 8 rfl (World.shaped_of_RefB yuo yuo) yuo yuo yuo (yqu os _)) ?_
 intro W base args ds gs before hval0 hW hsz0 hL hS
 have hval: ∀(j:Nat) t v,Tryz.f5.params[j]?=some t->args[j]?=some v->Value.okWide Tryz.prog W .any base t v:=hval0
 have hW':=hW
 obtain ⟨p,q,hA0,hV,rfl,hfz,hnd⟩:=hW
 have hA:DataW.TrodAll enc Tryz.prog W 0 (λ_=>true) true Tryz.f5.params.toList args.toList ds p:=hA0
 rw [Tryz.params5] at hA hval
 obtain ⟨v0,vs0,d0,ds0,p0,q0,hargs,rfl,rfl,h0,r0⟩:=trodAll_cons hA
 obtain ⟨v1,vs1,d1,ds1,p1,q1,rfl,rfl,rfl,h1,r1⟩:=trodAll_cons r0
 obtain ⟨rfl,rfl,rfl⟩:=trodAll_nil r1
 obtain rfl:args= #[v0,v1]:=by cases args;simp_all
 obtain ⟨rfl,rfl⟩:=trodVars_none hV
 obtain ⟨a0,len0,cap0,rfl⟩:=okWide_slice Tryz.underlying22 (hval 0 22 v0 rfl rfl)
 have k0:=h0
 have lt0: ∀x∈p0,x.block<W.heap.size:=by obtain ⟨m,hm⟩:=k0;exact DataW.trod_lt m _ _ _ hm
 obtain ⟨z0,w0⟩: ∃zs,ymh W a0 len0 cap0 zs:=by
  obtain ⟨fuel,hf⟩:=h0
  rcases open_ints Tryz.underlying22 Tryz.underlying3 yuo hf with ⟨hcs,_⟩|⟨x,l,c,zs,hcs,_,hl,hm,hz,_,hcell,hwz⟩
  ·simp [Value.cells] at hcs
   obtain ⟨rfl,rfl,rfl⟩:=hcs
   exact ⟨[], .inl ⟨rfl,rfl,rfl,rfl⟩⟩
  ·simp [Value.cells] at hcs
   obtain ⟨rfl,rfl,rfl⟩:=hcs
   exact ⟨zs, .inr ⟨_,rfl,hl,hm,by simpa using hz,hcell,hwz⟩⟩
 obtain ⟨a1,rfl,rfl,rfl,w1⟩:=open_int Tryz.underlying3 (hval 1 3 v1 rfl rfl) h1
 clear hA0 hval0
 have hE:=z2a hS hL yuo yuo yuo yuo
 refine (yqt hE (z3q hE.lo hL yuo) w0 a1 (yng w1)).mono λe W' ⟨he,bel⟩=>?_
 subst he
 exact ⟨_,rfl,_,_,_,[],_,[],hW',trodAll_mk1 (shut_bool Tryz.underlying4 _),(trodAll_cons_mk (Below.trod yne yuo (of_decide_eq_true yuo) k0 bel lt0) (trodAll_cons_mk (shut_int Tryz.underlying3 w1) trodAll_mk0)),rfl,bel.frame _,λh=>by cases h⟩
theorem yri{a b:Bool}(ha:a=true)(hb:b=true):(a&&b)=true:=by rw [ha,hb];rfl
theorem yqq:joinedFacts Tryz.checked.prog 5 Tryz.f5 Rows.opaqueSpec Rows.opaqueRow=true:=by
 unfold joinedFacts
 repeat' (with_reducible refine yri ?_ ?_)
 all_goals (as_aux_lemma=>kernel_rfl)
theorem yqr:Tryz.checked.prog.funcNamed Rows.opaqueRow.func=some 5:=yuo
theorem yqv:Tryz.f5.isInstance Tryz.checked.prog Rows.opaqueRow.origin Rows.opaqueRow.targs:=of_decide_eq_true yuo
theorem yqw:Tryz.f5.isWrapper Tryz.checked.prog Rows.opaqueRow.wrapper Rows.opaqueRow.mainSum:=by unfold Func.isWrapper;first|(rw [if_pos (by decide+kernel)];kernel_rfl)|(rw [if_neg (by decide+kernel)];exact ⟨rfl,rfl⟩)
open Go.ChangeShapes Go.WideShapes Go.ChangeAt Go.WideMaps Go.WideElems Go.RowKit
theorem yqx:Rows.OpaqueSaid:=
 OpenClaim.holds_of_wide 5 Tryz.f5 rfl rfl rfl rfl rfl rfl rfl ⟨rfl,rfl,rfl,rfl,rfl⟩ rfl rfl rfl rfl rfl yqr Tryz.func5 yqq yqv yqw
  (λos started H enc _=>yqo os started H enc)
theorem opaque_holds:Rows.OpaqueCardSaid:=
 Claim7.holds_tied_plain_at .later [] [.data, .data, .data, .data, .data, .handle, .sentinel, .sentinel, .pinned] true Rows.opaqueCard.stood.harness true
  yqx (λ_ h=>by cases h) (by as_aux_lemma=>kernel_rfl) (λ_ h=>by cases h) opaque_row_tie rfl ⟨rfl,rfl⟩ (by as_aux_lemma=>kernel_rfl) rfl
  (λf fn hf hfn=>by
   obtain rfl:f=5:=Option.some.inj ((show Tryz.prog.funcNamed "commits/commitskeep.Opaque" =some 5 by as_aux_lemma=>kernel_rfl).symm.trans hf)|>.symm
   obtain rfl:fn=Tryz.f5:=(Option.some.inj (Tryz.func5.symm.trans hfn)).symm
   exact ⟨by as_aux_lemma=>kernel_rfl,λj t ht=>by
    rw [Tryz.params5] at ht
    have hm:t∈[22,3]:=by simpa using Array.mem_of_getElem? ht
    have hall:([22,3].all λu=>!Tryz.prog.wantsStandIn u)=true:=by as_aux_lemma=>kernel_rfl
    exact (show Tryz.prog.wantsStandIn t=false by simpa using List.all_eq_true.1 hall t hm)⟩)
  (by as_aux_lemma=>kernel_rfl)
#print axioms opaque_holds
end Go.Proofs.YtkenoofmkbghiaaGreatDoor
