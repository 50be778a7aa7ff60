import Derived.Test.YtkenoofmkbghiaaGreatDoorO25
import Derived.Test.YtkenoofmkbghiaaGreatDoorO14
import Derived.Test.YtkenoofmkbghiaaGreatDoorO24
set_option maxRecDepth 100000
set_option maxHeartbeats 4000000
namespace Go.Proofs.YtkenoofmkbghiaaGreatDoor
open Go.RowKit
variable{W WR w w':World}{f s u:ByteArray}{ol:List Nat}{br bs c j n p sb t:Nat}{ms:List HM}{ws:List ByteArray}{x:Hd}{a:Option Addr}{es:List En}{tmps:Array Value}
def PLR(D:Nat->Prop)(br sb bs bl:Nat)(n:Int)(w:World)(r:Except Int RS)(e:Ending)(w':World):Prop:=match r with
 | .ok st'=>e= .returned (.tuple #[])/\(∃lab' tv' ov' ms',RMach D lab' w' br sb bs tv' ov' st' ms')/\Chg (λk _=>D k) w w'
 | .error er=>Fails er n bl w e w'
theorem Fr(s:St):(Qj s).length<=2:=by
 rcases s with ⟨to,a⟩|⟨to,k,a,c⟩|⟨to,f,a⟩|⟨f,a,c⟩|a|⟨⟩|a|n<;>simp [Qj]
theorem z0p{w0:World}{s:St}{v:Value}(h:z40 w0 w s v): ∃b,v=Vk s b/\StB w s b/\(Qf s=true->zar w s b/\w0.heap.size<=b):=by
 rcases s with ⟨to,a⟩|⟨to,k,a,c⟩|⟨to,f,a⟩|⟨f,a,c⟩|a|⟨⟩|a|n
 ·exact yth
 ·exact yth
 ·exact yth
 ·exact yth
 ·exact yth
 ·obtain ⟨b,h1,h2,h3,h4,h5⟩:=h
  exact ⟨b,h2,trivial,λ_=>⟨⟨h3,h4,trivial,h5⟩,h1⟩⟩
 ·obtain ⟨b,h1,h2,h3,h4,h5,h6,h7⟩:=h
  exact ⟨b,h2,⟨h6,h7⟩,λ_=>⟨⟨h3,h4,⟨h6,h7⟩,h5⟩,h1⟩⟩
 ·obtain ⟨b,h1,h2,h3,h4,h5,h6⟩:=h
  exact ⟨b,h2,trivial,λ_=>⟨⟨h3,h4,h6,h5⟩,h1⟩⟩
theorem zr1(h:Vo u=true):u.size<=maxLen:=by
 unfold Vo at h
 simp only [Bool.and_eq_true,decide_eq_true_eq] at h
 have:=h.2.1
 unfold maxLen
 omega
theorem Ei:ByteArray.empty.size<=maxLen:=Nat.zero_le _
section
variable{ws ws1:List ByteArray}{x:ByteArray}{y:PV}{s:St}
theorem Ot(h:gNm ws=some (x,ws1)):x.size<=maxLen:=by
 cases ws with
 |nil=>simp [gNm] at h
 |cons u us=>
  simp only [gNm] at h
  split at h
  ·rename_i hu
   simp at h
   rw [<-h.1];exact zr1 hu
  ·simp at h
theorem Ej(h:gPV ws=some (y,ws1)):y.name.size<=maxLen:=by
 cases ws with
 |nil=>simp [gPV] at h
 |cons u us=>
  simp only [gPV] at h
  split at h
  ·rename_i hu
   simp at h
   rw [<-h.1];exact zr1 hu
  ·cases hn:Qk u with
   |none=>simp [hn] at h
   |some v=>
    simp [hn] at h
    rw [<-h.1];exact Ei
theorem zmo(h:gAt ws=some (y,ws1)):y.name.size<=maxLen:=by
 cases ws with
 |nil=>
  simp [gAt] at h
  rw [<-h.1];exact Ei
 |cons u us=>
  simp only [gAt] at h
  split at h
  ·exact Ej h
  ·simp at h
theorem zd5(h:Zs u ws=some (s,ws1)):zl9 s:=by
 unfold Zs at h
 split at h
 ·unfold zn4 at h
  cases h1:gNm ws with
  |none=>simp [h1] at h
  |some p=>
   obtain ⟨x,ws2⟩:=p
   rw [h1] at h
   simp only [Option.bind_some] at h
   cases h2:gPV ws2 with
   |none=>simp [h2] at h
   |some q=>
    obtain ⟨y,ws3⟩:=q
    rw [h2] at h
    simp only [Option.bind_some] at h
    rcases ws3 with _|⟨u3,ws3⟩
    ·simp at h
     obtain ⟨rfl,_⟩:=h
     exact ⟨λv hv=>by simp [Qj] at hv;subst hv;exact Ej h2,Ot h1,λf hf=>by simp [Xg] at hf⟩
    ·simp only at h
     cases h3:gOp (u3::ws3) with
     |none=>simp [h3] at h
     |some o=>
      rw [h3] at h
      simp only [Option.bind_some] at h
      cases h4:gPV o.2 with
      |none=>simp [h4] at h
      |some r=>
       rw [h4] at h
       simp at h
       obtain ⟨rfl,_⟩:=h
       exact ⟨λv hv=>by
        simp [Qj] at hv
        rcases hv with rfl|rfl
        ·exact Ej h2
        ·exact Ej (y:=r.1) (ws1:=r.2) h4,Ot h1,λf hf=>by simp [Xg] at hf⟩
 ·split at h
  ·unfold zvd at h
   cases h1:gNm ws with
   |none=>simp [h1] at h
   |some p=>
    rw [h1] at h
    simp only [Option.bind_some] at h
    cases h2:gNm p.2 with
    |none=>simp [h2] at h
    |some q=>
     rw [h2] at h
     simp only [Option.bind_some] at h
     cases h3:gAt q.2 with
     |none=>simp [h3] at h
     |some r=>
      rw [h3] at h
      simp at h
      obtain ⟨rfl,_⟩:=h
      exact ⟨λv hv=>by simp [Qj] at hv;subst hv;exact zmo (y:=r.1) (ws1:=r.2) h3,Ot (x:=p.1) (ws1:=p.2) h1,λf hf=>by simp [Xg] at hf;subst hf;exact Ot (x:=q.1) (ws1:=q.2) h2⟩
  ·split at h
   ·unfold zve at h
    cases h1:gNm ws with
    |none=>simp [h1] at h
    |some p=>
     rw [h1] at h
     simp only [Option.bind_some] at h
     cases h2:gPV p.2 with
     |none=>simp [h2] at h
     |some q=>
      rw [h2] at h
      simp only [Option.bind_some] at h
      cases h3:gAt q.2 with
      |none=>simp [h3] at h
      |some r=>
       rw [h3] at h
       simp at h
       obtain ⟨rfl,_⟩:=h
       exact ⟨λv hv=>by
        simp [Qj] at hv
        rcases hv with rfl|rfl
        ·exact zmo (y:=r.1) (ws1:=r.2) h3
        ·exact Ej (y:=q.1) (ws1:=q.2) h2,Ei,λf hf=>by simp [Xg] at hf;subst hf;exact Ot (x:=p.1) (ws1:=p.2) h1⟩
   ·split at h
    ·exact ysq
    ·split at h
     ·simp at h
      obtain ⟨rfl,_⟩:=h
      exact ⟨λv hv=>by simp [Qj] at hv,Ei,λf hf=>by simp [Xg] at hf⟩
     ·split at h
      ·exact ysq
      ·split at h
       ·cases h1:gIn 1 4 ws with
        |none=>simp [h1] at h
        |some p=>
         rw [h1] at h
         simp at h
         obtain ⟨rfl,_⟩:=h
         exact ⟨λv hv=>by simp [Qj] at hv,Ei,λf hf=>by simp [Xg] at hf⟩
       ·simp at h
end
section
variable{D D0:Nat->Prop}{lab:Nat->Nat×Nat}{w:World}{br sb bs bl bw:Nat}{n:Int}{ws:List ByteArray}{tv ov:Value}{st:RS}{ms:List HM}{k:Nat}
theorem Ok.lays(h:RMach D lab w br sb bs tv ov st ms)(hok:st.Ok k)(hk:k<900000){o:Nat}{l:List ByteArray}(hl:st.lastT=some (t,l,c))(ho:st.opn=ol++[o]): ∃tl,Lays st ms tl ol t o l c:=by
 obtain ⟨tl,htl,hkt⟩:=Us hl
 obtain ⟨l0,c0,q1,q2,q3⟩:=hok.thr t yvj
 obtain ⟨rfl,rfl⟩:l=l0/\c=c0:=by
  have:=hkt.symm.trans q1
  simpa using this
 have htlt:t<ms.length:=by rw [h.len];exact hok.ent.2.1 t yvj
 have holt:o<ms.length:=by rw [h.len];exact hok.ent.2.2 o yuw
 have hn:=hok.tn
 rw [htl] at hn
 simp at hn
 refine ⟨tl,hok.opn,hok.ent,htl,htlt,by omega,?_,ho,holt,q2,q3,λx hx=>?_⟩
 ·obtain ⟨x,hx,hxk⟩:=Yy hkt
  rw [h.hsAt t htlt] at hx
  have:ms[t].h=x:=by simpa using hx
  rw [this];exact hxk
 ·obtain ⟨j,hj⟩:=List.mem_iff_getElem?.1 hx
  have:=hok.e14 j x hj
  omega
theorem zwo(h:RMach D0 lab w br sb bs tv ov st ms)(h0: ∀k,D0 k->D k)(hD: ∀k,w.heap.size<=k->D k)(hok:st.Ok k)(hk:k<900000)(hL:LineAt w bl n bw ws)(s:St)(b:Nat)(hS:StB w s b)(hz:zl9 s)(hB:Qf s=true->zar w s b/\D b/\ ¬D0 b):
  Cl 63 #[ptr br,ptr bl,Vk s b] w λe w'=>PLR D br sb bs bl n w (gSt st s) e w':=by
 unfold gSt
 cases hm:st.mayStand s with
 |false=>exact zoi h hL hok.opn s b hm
 |true=>
  simp only [Bool.true_eq_false,if_false]
  have hop:st.opn≠[]:=by
   intro e
   have:(decide (0<st.opn.length))=false:=yvc
   rcases s with ⟨to,a⟩|⟨to,k,a,c⟩|⟨to,f,a⟩|⟨f,a,c⟩|a|⟨⟩|a|n<;>simp [RS.mayStand,e] at hm
  obtain ⟨t,l,c,tl,hl,htl,_,_,_⟩:=zwd hok (hok.ne hop)
  obtain ⟨ol,o,ho⟩: ∃ol o,st.opn=ol++[o]:=⟨_,_,(List.dropLast_concat_getLast hop).symm⟩
  obtain ⟨tl',hy⟩:=Ok.lays h hok hk hl ho
  have hgo:st.opn.getLast?=some o:=yuw
  rw [hl,hgo]
  simp only
  cases hn:st.mayName l s with
  |false=>exact zrn h hL hy s b hS hz (Fr s) hm hn
  |true=>
   simp only [Bool.true_eq_false,if_false]
   cases hr:st.hasRoom l c s with
   |false=>exact zro h hL hy s b hS hz (Fr s) hm hn hr
   |true=>
    simp only [Bool.true_eq_false,if_false]
    unfold RS.lay
    cases hh:Qf s with
    |true=>
     obtain ⟨hb1,hb2,hb3⟩:=hB hh
     rw [if_pos rfl]
     refine (zr0 h h0 hD hy s b hS hz (Fr s) hm hn hr hb1 hb2 hb3 hh).mono ?_
     rintro e w' ⟨e1,⟨lab',ov',ms',r⟩,c'⟩
     exact ⟨e1,⟨lab',tv,ov',ms',r⟩,c'⟩
    |false=>
     rw [if_neg yun]
     by_cases hq:(Vg s).toList.isEmpty=false/\Uh l (Vg s)=false
     ·rw [if_pos hq]
      refine (zwn h h0 hD hy s b hS hz (Fr s) hm hn hr hh hq.1 hq.2).mono ?_
      rintro e w' ⟨e1,⟨lab',ov',ms',r⟩,c'⟩
      exact ⟨e1,⟨lab',tv,ov',ms',r⟩,c'⟩
     ·rw [if_neg hq]
      have hno:(Vg s).toList.isEmpty=true\/((Vg s).toList.isEmpty=false/\Uh l (Vg s)=true):=by
       cases h1:(Vg s).toList.isEmpty with
       |true=>exact .inl rfl
       |false=>
        right
        refine ⟨rfl,?_⟩
        cases h2:Uh l (Vg s) with
        |true=>rfl
        |false=>exact absurd ⟨h1,h2⟩ hq
      refine (zwm h h0 hD hy s b hS hz (Fr s) hm hn hr hh hno).mono ?_
      rintro e w' ⟨e1,⟨lab',ov',ms',r⟩,c'⟩
      exact ⟨e1,⟨lab',tv,ov',ms',r⟩,c'⟩
theorem zon(h:RMach D0 lab w br sb bs tv ov st ms)(h0: ∀k,D0 k->D k)(hD: ∀k,w.heap.size<=k->D k)(hD0: ∀k,D0 k->k<w.heap.size)(hok:st.Ok k)(hk:k<900000)(hL:LineAt w bl n bw ws):
  Cl 59 #[ptr br,ptr bl] w λe w'=>PLR D br sb bs bl n w (Ef st ws) e w':=by
 unfold Ef
 rcases ws with _|⟨u,us⟩
 ·simp only
  by_cases h1:1<st.opn.length
  ·rw [if_pos h1]
   exact zgm h hL h1
  ·rw [if_neg h1]
   exact zof h hok.ent h0 hD hD0 hL yum (by have:=hok.tn;omega)
 ·exact zhy hL
theorem z0q(h:RMach D0 lab w br sb bs tv ov st ms)(h0: ∀k,D0 k->D k)(hok:st.Ok k)(hL:LineAt w bl n bw ws):
  Cl 60 #[ptr br,ptr bl] w λe w'=>PLR D br sb bs bl n w (zwb st ws) e w':=by
 unfold zwb
 rcases ws with _|⟨u,us⟩
 ·simp only
  by_cases h1:st.opn.length<2
  ·rw [if_pos h1]
   exact zoe h hL h1
  ·rw [if_neg h1]
   have hne:st.opn≠[]:=λe=>by rw [e] at h1;simp at h1
   have e:=(List.dropLast_concat_getLast hne).symm
   have hl:st.opn.dropLast.length+1=st.opn.length:=by rw [List.length_dropLast];omega
   refine (z0e (h.newD (D':=D) (λk hk _=>h0 k hk)) hL st.opn.dropLast (st.opn.getLast hne) e yum (by have:=hok.opn.1;omega)).mono ?_
   rintro e w' ⟨e1,⟨lab',ov',ms',r⟩,c'⟩
   exact ⟨e1,⟨lab',tv,ov',ms',r⟩,c'⟩
 ·exact zrl hL
theorem zoo(h:RMach D0 lab w br sb bs tv ov st ms)(h0: ∀k,D0 k->D k)(hDl:D bl)(hn: ¬D0 bl)(hok:st.Ok k)(hk:k<900000)(hE:Hid (Env w))(hbl:10<=bl)(hz:SzOk ws)(hL:LineAt w bl n bw ws):
  Cl 58 #[ptr br,ptr bl] w λe w'=>PLR D br sb bs bl n w (Iq st ws) e w':=by
 have hsn:=hok.sn
 have hcn:=hok.cn
 unfold Iq
 cases g1:gNm ws with
 |none=>exact z3b hL hz g1
 |some p=>
  obtain ⟨x,us⟩:=p
  have hx:=Ot g1
  rcases us with _|⟨u,us⟩
  ·simp only
   by_cases h1:0<st.threads.length
   ·rw [if_pos h1]
    exact zj8 h hn hL hz g1 h1
   ·rw [if_neg h1]
    cases h2:st.isSh x with
    |true=>exact zog h hn hL hz g1 yum hx h2
    |false=>
     simp only [Bool.false_eq_true,if_false]
     refine (zv5 h hn hL hz g1 yum hx h2 h0 hDl yum yum).mono ?_
     rintro e w' ⟨e1,r,c'⟩
     exact ⟨e1,⟨_,_,_,_,r⟩,c'⟩
  ·simp only
   cases g2:gIn 1 6 (u::us) with
   |none=>exact z3c hL hz hE hbl g1 g2
   |some q=>
    obtain ⟨v,us2⟩:=q
    rcases us2 with _|⟨u2,us2⟩
    ·simp only
     by_cases h1:0<st.threads.length
     ·rw [if_pos h1]
      exact zj9 h hn hL hz hE hbl g1 g2 h1
     ·rw [if_neg h1]
      cases h2:st.isSh x with
      |true=>exact zoh h hn hL hz hE hbl g1 g2 yum hx h2
      |false=>
       simp only [Bool.false_eq_true,if_false]
       refine (zv6 h hn hL hz hE hbl g1 g2 yum hx h2 h0 hDl yum yum (zme g2)).mono ?_
       rintro e w' ⟨e1,r,c'⟩
       exact ⟨e1,⟨_,_,_,_,r⟩,c'⟩
    ·exact zrm hL hz hE hbl g1 g2
end
def zkh(a:Int):Prop:=-9223372036854775808<=a/\a<=9223372036854775807
def z6m:St->Nat
 | .inr (.inl (_,o,_,_))=>o
 |_=>0
structure zop(s:St):Prop where
 rd: ∀v∈Qj s,zkh v.num
 op:z6m s<12
section
variable{ws ws1:List ByteArray}{y:PV}{s:St}{k:Nat}
theorem zr2{v:Int}(h:Qk u=some v):zkh v:=by
 unfold Qk at h
 split at h
 ·unfold Lib.parseIntB at h
  cases hl:u.data.toList with
  |nil=>simp [hl] at h
  |cons c r=>
   simp only [hl] at h
   cases hp:Lib.parseUintB 64 (if c.toNat=43\/c.toNat=45 then r else c::r) with
   |ok u=>
    simp only [hp] at h
    by_cases h1: ¬c.toNat=45/\2^(64- 1)<=u
    ·simp [h1] at h
    ·by_cases h2:c.toNat=45/\2^(64- 1)<u
     ·simp [h2] at h
     ·rw [if_neg h1,if_neg h2] at h
      simp only [Option.some.injEq] at h
      subst h
      unfold zkh
      by_cases hc:c.toNat=45
      ·rw [if_pos hc];omega
      ·rw [if_neg hc];omega
   |_=>simp [hp] at h
 ·simp at h
theorem zfs:zkh 0:=by unfold zkh;omega
theorem Sv(h:gPV ws=some (y,ws1)):zkh y.num:=by
 cases ws with
 |nil=>simp [gPV] at h
 |cons u us=>
  simp only [gPV] at h
  split at h
  ·simp at h
   rw [<-h.1];exact zfs
  ·cases hn:Qk u with
   |none=>simp [hn] at h
   |some v=>
    simp [hn] at h
    rw [<-h.1];exact zr2 hn
theorem zr3(h:gAt ws=some (y,ws1)):zkh y.num:=by
 cases ws with
 |nil=>
  simp [gAt] at h
  rw [<-h.1];exact zfs
 |cons u us=>
  simp only [gAt] at h
  split at h
  ·exact Sv h
  ·simp at h
theorem z3k(h:gOp ws=some (k,ws1)):k<12:=by
 cases ws with
 |nil=>simp [gOp] at h
 |cons u us=>
  simp only [gOp] at h
  cases hs:Uj u with
  |none=>simp [hs] at h
  |some n=>
   simp [hs] at h
   rw [<-h.1]
   unfold Uj at hs
   have:=(List.findIdx?_eq_some_iff_findIdx_eq.1 hs).1
   simpa using this
theorem zoq(h:Zs u ws=some (s,ws1)):zop s:=by
 unfold Zs at h
 split at h
 ·unfold zn4 at h
  cases h1:gNm ws with
  |none=>simp [h1] at h
  |some p=>
   obtain ⟨x,ws2⟩:=p
   rw [h1] at h
   simp only [Option.bind_some] at h
   cases h2:gPV ws2 with
   |none=>simp [h2] at h
   |some q=>
    obtain ⟨y,ws3⟩:=q
    rw [h2] at h
    simp only [Option.bind_some] at h
    rcases ws3 with _|⟨u3,ws3⟩
    ·simp at h
     obtain ⟨rfl,_⟩:=h
     exact ⟨λv hv=>by simp [Qj] at hv;subst hv;exact Sv h2,(by decide:(0:Nat)<12)⟩
    ·simp only at h
     cases h3:gOp (u3::ws3) with
     |none=>simp [h3] at h
     |some o=>
      rw [h3] at h
      simp only [Option.bind_some] at h
      cases h4:gPV o.2 with
      |none=>simp [h4] at h
      |some r=>
       rw [h4] at h
       simp at h
       obtain ⟨rfl,_⟩:=h
       exact ⟨λv hv=>by
        simp [Qj] at hv
        rcases hv with rfl|rfl
        ·exact Sv h2
        ·exact Sv (y:=r.1) (ws1:=r.2) h4,z3k (k:=o.1) (ws1:=o.2) h3⟩
 ·split at h
  ·unfold zvd at h
   cases h1:gNm ws with
   |none=>simp [h1] at h
   |some p=>
    rw [h1] at h
    simp only [Option.bind_some] at h
    cases h2:gNm p.2 with
    |none=>simp [h2] at h
    |some q=>
     rw [h2] at h
     simp only [Option.bind_some] at h
     cases h3:gAt q.2 with
     |none=>simp [h3] at h
     |some r=>
      rw [h3] at h
      simp at h
      obtain ⟨rfl,_⟩:=h
      exact ⟨λv hv=>by simp [Qj] at hv;subst hv;exact zr3 (y:=r.1) (ws1:=r.2) h3,(by decide:(0:Nat)<12)⟩
  ·split at h
   ·unfold zve at h
    cases h1:gNm ws with
    |none=>simp [h1] at h
    |some p=>
     rw [h1] at h
     simp only [Option.bind_some] at h
     cases h2:gPV p.2 with
     |none=>simp [h2] at h
     |some q=>
      rw [h2] at h
      simp only [Option.bind_some] at h
      cases h3:gAt q.2 with
      |none=>simp [h3] at h
      |some r=>
       rw [h3] at h
       simp at h
       obtain ⟨rfl,_⟩:=h
       exact ⟨λv hv=>by
        simp [Qj] at hv
        rcases hv with rfl|rfl
        ·exact zr3 (y:=r.1) (ws1:=r.2) h3
        ·exact Sv (y:=q.1) (ws1:=q.2) h2,(by decide:(0:Nat)<12)⟩
   ·split at h
    ·exact ysu
    ·split at h
     ·simp at h
      obtain ⟨rfl,_⟩:=h
      exact ⟨λv hv=>by simp [Qj] at hv,(by decide:(0:Nat)<12)⟩
     ·split at h
      ·exact ysu
      ·split at h
       ·cases h1:gIn 1 4 ws with
        |none=>simp [h1] at h
        |some p=>
         rw [h1] at h
         simp at h
         obtain ⟨rfl,_⟩:=h
         exact ⟨λv hv=>by simp [Qj] at hv,(by decide:(0:Nat)<12)⟩
       ·simp at h
end
section
variable{D D0:Nat->Prop}{lab:Nat->Nat×Nat}{w:World}{br sb bs bl bw:Nat}{n:Int}{ws us:List ByteArray}{u:ByteArray}{tv ov:Value}{st:RS}{ms:List HM}{k:Nat}{r:Except Int RS}{s:St}
theorem zki(K:Hid (∀w1,LineAt w1 bl n bw us->Chg (Jo bl) w w1->Cl 58 #[ptr br,ptr bl] w1 λe w'=>PLR D br sb bs bl n w1 r e w'))(hL:LineAt w bl n bw (⟨#[115,104,97,114,101,100]⟩::us))(hlen:us.length<1000000)(hDl:D bl):
  Cl 37 #[ptr br,ptr bl] w λe w'=>PLR D br sb bs bl n w r e w':=by
 have H:=hid hL
 clear hL
 cases r with
 |error er=>exact yr5
 |ok st'=>exact yr3
theorem zkj(K:Hid (∀w1,LineAt w1 bl n bw us->Chg (Jo bl) w w1->Cl 59 #[ptr br,ptr bl] w1 λe w'=>PLR D br sb bs bl n w1 r e w'))(hL:LineAt w bl n bw (⟨#[116,104,114,101,97,100]⟩::us))(hlen:us.length<1000000)(hDl:D bl):
  Cl 37 #[ptr br,ptr bl] w λe w'=>PLR D br sb bs bl n w r e w':=by
 have H:=hid hL
 clear hL
 cases r with
 |error er=>exact yr5
 |ok st'=>exact yr3
theorem zwp(K:Hid (∀w1,LineAt w1 bl n bw us->Chg (Jo bl) w w1->Cl 60 #[ptr br,ptr bl] w1 λe w'=>PLR D br sb bs bl n w1 r e w'))(hL:LineAt w bl n bw (⟨#[101,110,100]⟩::us))(hlen:us.length<1000000)(hDl:D bl):
  Cl 37 #[ptr br,ptr bl] w λe w'=>PLR D br sb bs bl n w r e w':=by
 have H:=hid hL
 clear hL
 cases r with
 |error er=>exact yr5
 |ok st'=>exact yr3
theorem zwq(KR:Hid (∀w1,LineAt w1 bl n bw us->Chg (Jo bl) w w1->Cl 61 #[ptr br, .string u,ptr bl] w1 λe w'=>StR bl n bw w1 none e w'))(hL:LineAt w bl n bw (u::us))(hlen:us.length<1000000)(e0:(u.toList==[115,104,97,114,101,100])=false)(e1:(u.toList==[116,104,114,101,97,100])=false)(e2:(u.toList==[101,110,100])=false):
  Cl 37 #[ptr br,ptr bl] w λe w'=>Fails 2 n bl w e w':=by
 have H:=hid hL
 clear hL
 go_enter Tryz.func37,Tryz.ntmps37
 go_wp2_with fail
 refine (Ve H.out hlen).mono ?_
 rintro e w1 ⟨rfl,h1,c1⟩
 have H1:=hid h1
 have C1:=hid c1
 clear h1 c1 H
 go_wp2_with fail
 refine (KR.out w1 H1.out C1.out).mono ?_
 intro e w2 h2
 obtain ⟨bf,rfl,h4⟩:=Fails.after h2 C1.out
 exact ⟨rfl,bf,rfl,h4⟩
theorem zr4{u2:ByteArray}{us2:List ByteArray}(KR:Hid (∀w1,LineAt w1 bl n bw us->Chg (Jo bl) w w1->Cl 61 #[ptr br, .string u,ptr bl] w1 λe w'=>StR bl n bw w1 (some (s,u2::us2)) e w'))(hL:LineAt w bl n bw (u::us))(hlen:us.length<1000000)(e0:(u.toList==[115,104,97,114,101,100])=false)(e1:(u.toList==[116,104,114,101,97,100])=false)(e2:(u.toList==[101,110,100])=false):
  Cl 37 #[ptr br,ptr bl] w λe w'=>Fails 2 n bl w e w':=by
 have H:=hid hL
 clear hL
 go_enter Tryz.func37,Tryz.ntmps37
 go_wp2_with fail
 refine (Ve H.out hlen).mono ?_
 rintro e w1 ⟨rfl,h1,c1⟩
 have H1:=hid h1
 have C1:=hid c1
 clear h1 c1 H
 go_wp2_with fail
 refine (KR.out w1 H1.out C1.out).mono ?_
 rintro e w2 ⟨v,rfl,h2,h3,c2⟩
 have H2:=hid h2
 have H3:=hid h3
 have C2:=hid c2
 clear h2 h3 c2 KR H1
 go_wp2_with fail
 refine (zc0 H3.out).mono ?_
 intro e w3 h3
 obtain ⟨bf,rfl,h4⟩:=Fails.after h3 (C1.out.trans C2.out)
 exact ⟨rfl,bf,rfl,h4⟩
theorem zr5(KR:Hid (∀w1,LineAt w1 bl n bw us->Chg (Jo bl) w w1->Cl 61 #[ptr br, .string u,ptr bl] w1 λe w'=>StR bl n bw w1 (some (s,[])) e w'))(KS:Hid (∀w1 w2 v,Chg (Jo bl) w w1->Chg (Jo bl) w1 w2->z40 w1 w2 s v->LineAt w2 bl n bw []->Cl 63 #[ptr br,ptr bl,v] w2 λe w'=>PLR D br sb bs bl n w2 r e w'))(hL:LineAt w bl n bw (u::us))(hlen:us.length<1000000)(hDl:D bl)(e0:(u.toList==[115,104,97,114,101,100])=false)(e1:(u.toList==[116,104,114,101,97,100])=false)(e2:(u.toList==[101,110,100])=false):
  Cl 37 #[ptr br,ptr bl] w λe w'=>PLR D br sb bs bl n w r e w':=by
 cases r with
 |error er=>
  have H:=hid hL
  clear hL
  go_enter Tryz.func37,Tryz.ntmps37
  go_wp2_with fail
  refine (Ve H.out hlen).mono ?_
  rintro e w1 ⟨rfl,h1,c1⟩
  have H1:=hid h1
  have C1:=hid c1
  clear h1 c1 H
  go_wp2_with fail
  refine (KR.out w1 H1.out C1.out).mono ?_
  rintro e w2 ⟨v,rfl,h2,h3,c2⟩
  have H2:=hid h2
  have H3:=hid h3
  have C2:=hid c2
  clear h2 h3 c2 KR H1
  go_wp2_with fail
  refine (Eo H3.out).mono ?_
  rintro e w3 ⟨rfl,rfl⟩
  go_wp2_with fail
  refine (KS.out w1 _ v C1.out C2.out H2.out H3.out).mono ?_
  intro e w4 h4
  obtain ⟨bf,rfl,h5⟩:=Fails.after h4 (C1.out.trans C2.out)
  exact ⟨rfl,bf,rfl,h5⟩
 |ok st'=>
  have H:=hid hL
  clear hL
  go_enter Tryz.func37,Tryz.ntmps37
  go_wp2_with fail
  refine (Ve H.out hlen).mono ?_
  rintro e w1 ⟨rfl,h1,c1⟩
  have H1:=hid h1
  have C1:=hid c1
  clear h1 c1 H
  go_wp2_with fail
  refine (KR.out w1 H1.out C1.out).mono ?_
  rintro e w2 ⟨v,rfl,h2,h3,c2⟩
  have H2:=hid h2
  have H3:=hid h3
  have C2:=hid c2
  clear h2 h3 c2 KR H1
  go_wp2_with fail
  refine (Eo H3.out).mono ?_
  rintro e w3 ⟨rfl,rfl⟩
  go_wp2_with fail
  refine (KS.out w1 _ v C1.out C2.out H2.out H3.out).mono ?_
  rintro e w4 ⟨rfl,h4,c4⟩
  have H4:=hid h4
  have C4:=hid (((C1.out.trans C2.out).mono (M':=λk _=>D k) (λk i _ e=>e.1▸hDl)).trans c4)
  clear h4 c4
  go_wp2
  go_end0
  exact ⟨rfl,H4.out,C4.out⟩
theorem zr6(hL:LineAt w bl n bw []):Cl 37 #[ptr br,ptr bl] w λe w'=>Fails 2 n bl w e w':=by
 have H:=hid hL
 clear hL
 go_enter Tryz.func37,Tryz.ntmps37
 go_wp2_with fail
 refine (Fg H.out).mono ?_
 rintro e w1 ⟨bf,rfl,h1⟩
 exact ⟨rfl,bf,rfl,h1⟩
theorem RMach.line{w1:World}(h:RMach D0 lab w br sb bs tv ov st ms)(hn: ¬D0 bl)(c:Chg (Jo bl) w w1):RMach D0 lab w1 br sb bs tv ov st ms:=h.keep c (λ_ _ hk e=>hn (e.1▸hk))
theorem zwr(h:RMach D0 lab w br sb bs tv ov st ms)(h0: ∀k,D0 k->D k)(hD: ∀k,w.heap.size<=k->D k)(hD0: ∀k,D0 k->k<w.heap.size)(hDl:D bl)(hn: ¬D0 bl)(hok:st.Ok k)(hk:k<900000)(hE:Env w)(hbl:10<=bl)(hz:SzOk ws)(hL:LineAt w bl n bw ws):
  Cl 37 #[ptr br,ptr bl] w λe w'=>PLR D br sb bs bl n w (Vq st ws) e w':=by
 rcases ws with _|⟨u,us⟩
 ·exact zr6 hL
 unfold Vq
 simp only
 have hlen:=hz.len
 have hz':=hz.tail
 by_cases h1:u=Qy
 ·rw [if_pos h1]
  subst h1
  refine zki (hid λw1 l1 c1=>?_) hL hlen hDl
  exact zoo (h.line hn c1) h0 hDl hn hok hk (hid (hE.line c1 hbl)) hbl hz' l1
 rw [if_neg h1]
 by_cases h2:u=Qt
 ·rw [if_pos h2]
  subst h2
  refine zkj (hid λw1 l1 c1=>?_) hL hlen hDl
  exact zon (h.line hn c1) h0 (λk hk=>hD k (Nat.le_trans c1.size hk)) (λk hk=>Nat.lt_of_lt_of_le (hD0 k hk) c1.size) hok hk l1
 rw [if_neg h2]
 by_cases h3:u=Zd
 ·rw [if_pos h3]
  subst h3
  refine zwp (hid λw1 l1 c1=>?_) hL hlen hDl
  exact z0q (h.line hn c1) h0 hok l1
 rw [if_neg h3]
 have e0:(u.toList==[115,104,97,114,101,100])=false:=by have:=Oz h1;rwa [show (Qy).toList=[115,104,97,114,101,100] from by rw [ByteArray.toList_eq];rfl] at this
 have e1:(u.toList==[116,104,114,101,97,100])=false:=by have:=Oz h2;rwa [show (Qt).toList=[116,104,114,101,97,100] from by rw [ByteArray.toList_eq];rfl] at this
 have e2:(u.toList==[101,110,100])=false:=by have:=Oz h3;rwa [show (Zd).toList=[101,110,100] from by rw [ByteArray.toList_eq];rfl] at this
 have hS:SignsAt w br bs bl:=⟨h.c4,λe=>hn (e▸h.lbr.2),h.mG,λe=>hn (e▸h.lbs.2)⟩
 have KR:=hid (λw1 (l1:LineAt w1 bl n bw us) (c1:Chg (Jo bl) w w1)=>zhn l1 (hid (hE.line c1 hbl)) hbl hz' (hid (hS.keep c1)) u)
 cases hg:Zs u us with
 |none=>
  rw [hg] at KR
  exact zwq KR hL hlen e0 e1 e2
 |some p=>
  obtain ⟨s,us2⟩:=p
  rw [hg] at KR
  rcases us2 with _|⟨u2,us2⟩
  ·simp only
   refine zr5 KR (hid λw1 w2 v c1 c2 hs l2=>?_) hL hlen hDl e0 e1 e2
   obtain ⟨b,rfl,hB,hH⟩:=z0p hs
   have c12:=c1.trans c2
   exact zwo (h.line hn c12) h0 (λk hk=>hD k (Nat.le_trans c12.size hk)) hok hk l2 s b hB (zd5 hg) (λhh=>⟨(hH hh).1,hD b (Nat.le_trans c1.size (hH hh).2),λhb=>by have:=hD0 b hb;have:=(hH hh).2;have:=c1.size;omega⟩)
  ·exact zr4 KR hL hlen e0 e1 e2
end
theorem zor(W:World)(s:ByteArray)(most:Int)(tk bt:Nat)(Inv:List UInt8->Nat->World->Prop)(Bad:Nat->World->Prop)
  (hs:(s.size:Int)<=most) (hs2:s.size<=1000000)
  (hent: ∀args w,(callFunc tk args).run Tryz.prog w= .ok (.enter tk args) w)
  (h0:Hid (Inv s.data.toList 0 (W.alloc (.cells #[.nilIface] 45))))
  (hcut:Hid (∀(r:List UInt8) (j:Nat) (w:World),r.length<=s.size->Inv r j w->Cl 54 #[.string ⟨r.toArray⟩, .string ⟨#[10]⟩] w λe w'=>e= .returned (.tuple #[.string ⟨(Lib.cut r [10]).1.toArray⟩, .string ⟨(Lib.cut r [10]).2.1.toArray⟩, .bool (Lib.cut r [10]).2.2])/\ ∃n,w'=w.drewN n))
  (hsplit:Hid (∀(r:List UInt8) (j:Nat) (w:World) (l:List UInt8) (n:Nat),Inv r j w->l.length<=s.size->Cl 55 #[.string ⟨l.toArray⟩, .string ⟨#[32]⟩] (w.drewN n) λe w'=>e= .returned (.slice (some ⟨w.heap.size,0,none⟩) (Ql l).length (Ql l).length)/\w'=(w.drewN n).alloc (.cells ((Ql l).map Value.string).toArray 9)))
  (hstep:Hid (∀(r:List UInt8) (j:Nat) (w:World),Inv r j w->(r≠[]\/j=0)->∃l r' b,Lib.cut r [10]=(l,r',b)/\l.length<=r.length/\
   (b=true->r'.length<r.length/\ ∀n,Cl tk #[ptr bt,ptr (w.heap.size+1)] (((w.drewN n).alloc (.cells ((Ql l).map Value.string).toArray 9)).alloc (.cells #[.int .i64 (j+1), .slice (some ⟨w.heap.size,0,none⟩) (Ql l).length (Ql l).length] 150)) λe w2=>(e= .returned (.tuple #[])/\Inv r' (j+1) w2)\/ ∃bf,e= .panicked (zga bf)/\Bad bf w2)/\
   (b=false->∀n bf w2,Fails 2 (j+1) (w.heap.size+1) (((w.drewN n).alloc (.cells ((Ql l).map Value.string).toArray 9)).alloc (.cells #[.int .i64 (j+1), .slice (some ⟨w.heap.size,0,none⟩) (Ql l).length (Ql l).length] 150)) (.panicked (zga bf)) w2->Bad bf w2)))
  (herr:Hid (∀r j w,Inv r j w->w.cell? ⟨W.heap.size,0,none⟩=some .nilIface/\w.frozen? ⟨W.heap.size,0,none⟩=false))
  (hbad:Hid (∀bf w,Bad bf w->W.heap.size<w.heap.size/\w.cell? ⟨W.heap.size,0,none⟩=some .nilIface/\w.frozen? ⟨W.heap.size,0,none⟩=false)):
  Cl 36 #[.string s, .int .i64 most, .func (.func tk) #[ptr bt] #[]] W λe w'=>(e= .returned .nilIface/\ ∃j w1,j≠0/\Inv [] j w1/\w'=w1.setCell ⟨W.heap.size,0,none⟩ .nilIface)\/
   ∃bf w2,e= .returned (.iface 66 (ptr bf))/\Bad bf w2/\w'=(w2.alloc (.cells #[ptr bf] 145)).setCell ⟨W.heap.size,0,none⟩ (.iface 66 (ptr bf)):=by
 have hs': ¬most<(s.size:Int):=yum
 have hmf: ∀(fn:Fn) (first cap:Array Value) (w:World),(Instr.makeFunc fn first cap).run Tryz.prog w= .ok (.func fn first cap) w:=λ_ _ _ _=>rfl
 have hfall: ∀(bf:Nat) (w2:World) (tm:Array Value),Hid (tm[6]?.getD undef= .pointer (some ⟨W.heap.size,0,none⟩))->Bad bf w2->bodyPostD Tryz.prog Tryz.f36 (λe w'=>(e= .returned .nilIface/\ ∃j w1,j≠0/\Inv [] j w1/\w'=w1.setCell ⟨W.heap.size,0,none⟩ .nilIface)\/
   ∃bf w2,e= .returned (.iface 66 (ptr bf))/\Bad bf w2/\w'=(w2.alloc (.cells #[ptr bf] 145)).setCell ⟨W.heap.size,0,none⟩ (.iface 66 (ptr bf))) (.panic (zga bf)) {tmps:=tm,defers:=[{target:= .fn (.func 53) #[.pointer (some ⟨W.heap.size,0,none⟩)],args:=#[]}]} w2:=by
  intro bf w2 tm htm hB
  obtain ⟨b1,b2,b3⟩:=hbad.out bf w2 hB
  have c2:(w2.alloc (.cells #[.pointer (some ⟨bf,0,none⟩)] 145)).cell? ⟨W.heap.size,0,none⟩=some .nilIface:=(World.cell?_alloc_past _ _ _ b1).trans b2
  refine leaves_cons (f:=53) (args:=#[.pointer (some ⟨W.heap.size,0,none⟩)]) yun yuy ?_
  refine (zjr ⟨W.heap.size,0,none⟩ bf .nilIface w2 c2 ((World.frozen?_alloc_past _ _ _ b1).trans b3)).mono ?_
  rintro e u' w'' ⟨rfl,rfl,rfl⟩
  refine ⟨.iface 66 (ptr bf),?_, .inr ⟨bf,w2,rfl,hB,rfl⟩⟩
  have h6:=htm.out
  simp [results,Tryz.results36,go_sem,h6,World.cell?_setCell_same _ _ _ c2]
 have HF:=hid hfall
 clear hfall
 go_enter_defers Tryz.func36,Tryz.ntmps36
 go_wp2
 go_loopw [0,7] (λv0 v7 wr=>∃(r:List UInt8) (j:Nat),v0= .string ⟨r.toArray⟩/\v7= .int .i64 (j+1)/\Inv r j wr/\j+r.length<=s.size) (λv0 _ _=>zzm v0)
 case atStart=>exact ⟨s.data.toList,0,by simp,rfl,h0.out,by simp⟩
 case round=>exact yry
def RS.none:RS:=⟨[],0,[],[],[]⟩
theorem none_ok:RS.none.Ok 0 where
 opn:=⟨Nat.zero_le _,λj hj=>by simp [RS.none] at hj⟩
 ent:=⟨λh hh=>by simp [RS.none] at hh,λj hj=>by simp [RS.none] at hj,λj hj=>by simp [RS.none] at hj⟩
 thr:=λt ht=>by simp [RS.none] at ht
 ne:=λh=>absurd rfl h
 tn:=Nat.zero_le _
 sn:=Nat.zero_le _
 cn:=⟨Int.le_refl _,by simp [RS.none]⟩
 e14:=λj h hh=>by simp [RS.none] at hh
 eo:=λj hj=>by simp [RS.none] at hj
def Yc:Nat->List UInt8->Nat->RS->Except (Int×Int) RS
 |0,_,_,st=> .ok st
 |f+1,r,j,st=>if r=[]/\j≠0 then .ok st else match Lib.cut r [10] with
  |(_,_,false)=> .error (2,j+1)
  |(l,r',true)=>match Vq st (Ql l) with
   | .ok st'=>Yc f r' (j+1) st'
   | .error er=> .error (er,j+1)
def Jl(s:ByteArray):Except (Int×Int) RS:=if 2000<s.size then .error (1,0) else Yc (s.size+2) s.data.toList 0 RS.none
abbrev dom(B E:Nat)(w:World):Nat->Prop:=λk=>B<=k/\k≠E/\k<w.heap.size
structure PI(B:Nat)(WR:World)(br sb bs:Nat)(f:Nat)(r:List UInt8)(j:Nat)(st:RS)(w:World):Prop where
 fuel:r.length+1<=f
 len:j+r.length<=2000
 ok:st.Ok j
 m: ∃lab tv ov ms,RMach (dom B WR.heap.size w) lab w br sb bs tv ov st ms
 env:Env w
 low:Below B WR w
 ce:w.cell? ⟨WR.heap.size,0,none⟩=some .nilIface
 fe:w.frozen? ⟨WR.heap.size,0,none⟩=false
 lt:WR.heap.size<w.heap.size
def z5o(B:Nat)(WR:World)(br sb bs:Nat)(R:Except (Int×Int) RS)(r:List UInt8)(j:Nat)(w:World):Prop:=
 ∃f st,Yc f r j st=R/\PI B WR br sb bs f r j st w
def z4i(B:Nat)(WR:World)(R:Except (Int×Int) RS)(bf:Nat)(w:World):Prop:=
 ∃er ln,R= .error (er,ln)/\FaultAt w bf er ln/\WR.heap.size<bf/\Below B WR w/\w.cell? ⟨WR.heap.size,0,none⟩=some .nilIface/\w.frozen? ⟨WR.heap.size,0,none⟩=false/\WR.heap.size<w.heap.size
section
variable{B:Nat}{WR:World}{br sb bs:Nat}{R:Except (Int×Int) RS}{r:List UInt8}{j:Nat}{w:World}
theorem zr7(hB:10<=B)(hBW:B<=WR.heap.size)(h:z5o B WR br sb bs R r j w)(hr:r≠[]\/j=0):
  ∃l r' b,Lib.cut r [10]=(l,r',b)/\l.length<=r.length/\
   (b=true->r'.length<r.length/\ ∀n,Cl 37 #[ptr br,ptr (w.heap.size+1)] (((w.drewN n).alloc (.cells ((Ql l).map Value.string).toArray 9)).alloc (.cells #[.int .i64 (j+1), .slice (some ⟨w.heap.size,0,none⟩) (Ql l).length (Ql l).length] 150)) λe w2=>(e= .returned (.tuple #[])/\z5o B WR br sb bs R r' (j+1) w2)\/ ∃bf,e= .panicked (zga bf)/\z4i B WR R bf w2)/\
   (b=false->∀n bf w2,Fails 2 (j+1) (w.heap.size+1) (((w.drewN n).alloc (.cells ((Ql l).map Value.string).toArray 9)).alloc (.cells #[.int .i64 (j+1), .slice (some ⟨w.heap.size,0,none⟩) (Ql l).length (Ql l).length] 150)) (.panicked (zga bf)) w2->z4i B WR R bf w2):=by
 obtain ⟨f,st,hR,h⟩:=h
 have hf:=h.fuel
 obtain ⟨f,rfl⟩: ∃f',f=f'+1:=⟨f- 1,by omega⟩
 have hcond: ¬(r=[]/\j≠0):=λ⟨e1,e2⟩=>hr.elim (λh=>h e1) (λh=>e2 h)
 have hlen:=h.len
 have hlt:=h.lt
 have hl:=zql r 10
 generalize hcu:Lib.cut r [10]=q
 obtain ⟨l,r',b⟩:=q
 rw [hcu] at hl
 simp only at hl
 have hworld: ∀n,∃w1,w1=((w.drewN n).alloc (.cells ((Ql l).map Value.string).toArray 9)).alloc (.cells #[.int .i64 (j+1), .slice (some ⟨w.heap.size,0,none⟩) (Ql l).length (Ql l).length] 150)/\Below w.heap.size w w1/\LineAt w1 (w.heap.size+1) (j+1) w.heap.size (Ql l)/\w1.heap.size=w.heap.size+2:=by
  intro n
  exact ⟨_,rfl,((zjp w.heap.size w n).alloc (Nat.le_refl _) _).alloc yun _,zbq (w:=w.drewN n),by simp⟩
 have hfall: ∀(w1:World) (er:Int) (bf:Nat) (w2:World),Below w.heap.size w w1->R= .error (er,(j:Int)+1)->Fails er (j+1) (w.heap.size+1) w1 (.panicked (zga bf)) w2->z4i B WR R bf w2:=by
  rintro w1 er bf w2 hb hR' ⟨bf',e1,e2,e3,e4,e5⟩
  have:bf'=bf:=by simpa [zga] using e1.symm
  subst this
  have hs:=hb.size
  have hc:Chg (Jo (w.heap.size+1)) w w2:=(Chg.of_below hb).trans e5
  refine ⟨er,(j:Int)+1,hR',⟨e3,e4⟩,by omega,h.low.trans (hc.below yum (λk i e=>by have:=e.1;omega)),(hc.cell _ 0 hlt (λe=>by omega)).trans h.ce,(hc.frozen _ 0 hlt).trans h.fe,Nat.lt_of_lt_of_le hlt hc.size⟩
 refine ⟨l,r',b,rfl,hl,?_,?_⟩
 ·rintro rfl
  have hr0:r≠[]:=λe=>by rw [e,zzo] at hcu;simp at hcu
  have hrl:=(z17 hcu hr0).1
  refine ⟨hrl,λn=>?_⟩
  obtain ⟨w1,hw1,hb,hL,hsz⟩:=hworld n
  rw [<-hw1]
  have hc1:Chg (λ_ _=>False) w w1:=Chg.of_below hb
  have hE1:Env w1:=h.env.keep hc1 (λ_ _ _ e=>e)
  have hR2:R=match Vq st (Ql l) with| .ok st'=>Yc f r' (j+1) st'| .error er=> .error (er,(j:Int)+1):=by rw [<-hR];simp only [Yc,if_neg hcond,hcu]
  obtain ⟨lab,tv,ov,ms,hm⟩:=h.m
  refine (zwr (D:=λk=>B<=k/\k≠WR.heap.size) (hm.keep hc1 (λ_ _ _ e=>e)) (λk hk=>⟨hk.1,hk.2.1⟩) (λk hk=>⟨by omega,by omega⟩) (λk hk=>by have:=hk.2.2;omega) ⟨by omega,by omega⟩ (λhd=>by have:=hd.2.2;omega) h.ok yum hE1 yum (zn0 yum) hL).mono ?_
  intro e w2 h2
  cases hg:Vq st (Ql l) with
  |error er=>
   rw [hg] at h2 hR2
   right
   obtain ⟨bf,he,h3⟩:=Fails.after (show Fails er (j+1) (w.heap.size+1) w1 e w2 from h2) (Chg.refl _ w1)
   exact ⟨bf,he,hfall w1 er bf w2 hb hR2 ⟨bf,rfl,h3⟩⟩
  |ok st'=>
   rw [hg] at h2 hR2
   left
   obtain ⟨rfl,⟨lab',tv',ov',ms',r2⟩,c2⟩:=h2
   have hlt1:WR.heap.size<w1.heap.size:=yum
   refine ⟨rfl,f,st',hR2.symm,{fuel:=by omega,len:=by omega,ok:=Ir h.ok hg,m:=⟨lab',tv',ov',ms',r2.newD (λk hk hkl=>⟨hk.1,hk.2,hkl⟩)⟩,env:=hE1.keep c2 (λk i hk e=>by have:=e.1;omega),low:=(h.low.trans (hb.mono yum)).trans (c2.below yum (λk i e=>e.1)),ce:=(c2.cell _ 0 hlt1 (λe=>e.2 rfl)).trans ((hc1.cell _ 0 hlt (λe=>e)).trans h.ce),fe:=(c2.frozen _ 0 hlt1).trans ((hc1.frozen _ 0 hlt).trans h.fe),lt:=Nat.lt_of_lt_of_le hlt1 c2.size}⟩
 ·rintro rfl n bf w2 hF
  obtain ⟨w1,hw1,hb,_,_⟩:=hworld n
  rw [<-hw1] at hF
  have hR2:R= .error (2,(j:Int)+1):=by rw [<-hR];simp only [Yc,if_neg hcond,hcu]
  exact hfall w1 2 bf w2 hb hR2 hF
end
theorem z0r: ∀args w,(callFunc 37 args).run Tryz.prog w= .ok (.enter 37 args) w:=λ_ _=>by kernel_rfl
theorem zav{B:Nat}(hB:10<=B)(hBW:B<=WR.heap.size)(hE:Env WR){lab:Nat->Nat×Nat}{tv ov:Value}(hm:RMach (λk=>B<=k/\k<WR.heap.size) lab WR br sb bs tv ov RS.none ms)(s:ByteArray):
  Cl 36 #[.string s, .int .i64 2000, .func (.func 37) #[ptr br] #[]] WR λe w'=>match Jl s with
   | .ok st=>e= .returned .nilIface/\st.Ok 2000/\(∃lab tv ov ms,RMach (dom B WR.heap.size w') lab w' br sb bs tv ov st ms)/\Env w'/\Below B WR w'
   | .error (er,ln)=>∃bf,e= .returned (.iface 66 (ptr bf))/\WR.heap.size<bf/\FaultAt w' bf er ln/\Below B WR w':=by
 by_cases hlong:2000<s.size
 ·rw [show Jl s= .error (1,0) from by unfold Jl;rw [if_pos hlong]]
  refine (zgc WR s 2000 _ yum).mono ?_
  rintro e w' ⟨bf,rfl,h1,h2,h3⟩
  exact ⟨bf,rfl,h1,h2,h3.mono hBW⟩
 have hs': ∀l:List UInt8,l.length<=s.size->(⟨l.toArray⟩:ByteArray).size<4294967281:=λl hl=>by
  have:(⟨l.toArray⟩:ByteArray).size=l.length:=yvt
  omega
 have hlen:s.data.toList.length=s.size:=yv3
 have hgc:Jl s=Yc (s.size+2) s.data.toList 0 RS.none:=by unfold Jl;rw [if_neg hlong]
 have hw0:Below WR.heap.size WR (WR.alloc (.cells #[.nilIface] 45)):=(Below.refl _ WR).alloc (Nat.le_refl _) _
 have k:=zor WR s 2000 37 br (z5o B WR br sb bs (Jl s)) (z4i B WR (Jl s)) yum yum z0r ?_ ?_ ?_ ?_ ?_ ?_
 ·refine k.mono ?_
  rintro e w' (⟨rfl,j,w1,hj,⟨f,st,hR,h⟩,rfl⟩|⟨bf,w2,rfl,⟨er,ln,hbad,b1,b2,b3,b4,b5,b6⟩,rfl⟩)
  ·have hf:=h.fuel
   obtain ⟨f,rfl⟩: ∃f',f=f'+1:=⟨f- 1,by omega⟩
   simp only [Yc,ne_eq,hj,not_false_eq_true,and_self,if_true] at hR
   rw [<-hR]
   have hset:Chg (λq i=>q=WR.heap.size/\i=0) w1 (w1.setCell ⟨WR.heap.size,0,none⟩ .nilIface):=(Chg.refl _ w1).setCell (λ_=>⟨rfl,rfl⟩) _
   obtain ⟨lab,tv,ov,ms,hm⟩:=h.m
   refine ⟨rfl,Ok.mono h.ok (by have:=h.len;omega),⟨lab,tv,ov,ms,(hm.keep hset (λk i hk e=>hk.2.1 e.1)).newD (λk hk hl=>⟨hk.1,hk.2.1,hl⟩)⟩,h.env.keep hset (λk i hk e=>by have:=e.1;omega),h.low.trans (hset.below (by have:=h.lt;omega) (λq i e=>by have:=e.1;omega))⟩
  ·rw [hbad]
   have hc:Chg (λq i=>q=WR.heap.size/\i=0) w2 ((w2.alloc (.cells #[ptr bf] 145)).setCell ⟨WR.heap.size,0,none⟩ (.iface 66 (ptr bf))):=((Chg.refl _ w2).alloc _).setCell (λ_=>⟨rfl,rfl⟩) _
   exact ⟨bf,rfl,b2,FaultAt.keep b1 hc (λi e=>by have:=e.1;omega),b3.trans (hc.below yum (λq i e=>by have:=e.1;omega))⟩
 ·refine hid ⟨s.size+2,RS.none,hgc.symm,{fuel:=by omega,len:=by omega,ok:=none_ok,m:=⟨lab,tv,ov,ms,?_⟩,env:=hE.keep (M:=λ_ _=>False) (Chg.of_below hw0) (λ_ _ _ e=>e),low:=hw0.mono hBW,ce:=World.cell?_alloc_new _ _ _ 0,fe:=by simp,lt:=by simp}⟩
  exact (hm.below hw0).newD (λk hk _=>⟨hk.1,by have:=hk.2;omega,by have:=hk.2;simp;omega⟩)
 ·refine hid λr j w hr hi=>?_
  obtain ⟨f,st,hR,h⟩:=hi
  obtain ⟨m,hmx⟩:=h.env.max
  exact Tryz.strings_Cut ⟨r.toArray⟩ ⟨#[10]⟩ m w (hs' r hr) hmx
 ·refine hid λr j w l n hi hl=>?_
  obtain ⟨f,st,hR,h⟩:=hi
  obtain ⟨m,hmx⟩:=h.env.max
  have hk:=Tryz.strings_Split ⟨l.toArray⟩ ⟨#[32]⟩ m (w.drewN n) (hs' l hl) hmx yup
  rw [zdm]
  exact hk
 ·exact hid λr j w hi hr=>zr7 hB hBW hi hr
 ·refine hid ?_
  rintro r j w ⟨f,st,hR,h⟩
  exact ⟨h.ce,h.fe⟩
 ·refine hid ?_
  rintro bf w ⟨er,ln,hbad,b1,b2,b3,b4,b5,b6⟩
  exact ⟨b6,b4,b5⟩
section
variable{st st':RS}{k:Nat}{s:St}
theorem zws(hok:st.Ok k)(h:st.Deep)(hloop: ∀n,s=St.loop n->1<=n/\n<=4)(hg:gSt st s= .ok st'):st'.Deep:=by
 obtain ⟨lv,h⟩:=h
 unfold gSt at hg
 split at hg
 ·simp at hg
 ·cases hl:st.lastT with
  |none=>simp [hl] at hg
  |some p=>
   obtain ⟨t,l,c⟩:=p
   cases ho:st.opn.getLast? with
   |none=>simp [hl,ho] at hg
   |some o=>
    rw [hl,ho] at hg
    simp only at hg
    split at hg
    ·simp at hg
    ·split at hg
     ·simp at hg
     ·rename_i hr
      obtain ⟨ol,hol⟩:=List.getLast?_eq_some_iff.1 ho
      have:st.lay t o l c s=st':=by simpa using hg
      rw [<-this]
      exact h.lay hok hl hol (by simpa using hr) hloop
theorem DeepL.share{lv:Nat->Nat}(h:DeepL st lv)(x:ByteArray)(c:Int):RS.Deep {st with shared:=st.shared++[(x,st.cells,c)],cells:=st.cells+c}:=
 ⟨lv,{nest:=h.nest,le:=h.le,op:=h.op,leaf:=h.leaf,loop:=h.loop,thr:=h.thr}⟩
theorem zkk(hok:st.Ok k)(h:st.Deep)(hg:Vq st ws= .ok st'):st'.Deep:=by
 have hD:=h
 obtain ⟨lv,h⟩:=h
 unfold Vq at hg
 rcases ws with _|⟨u,us⟩
 ·simp at hg
 ·simp only at hg
  split at hg
  ·unfold Iq at hg
   cases hn:gNm us with
   |none=>simp [hn] at hg
   |some p=>
    obtain ⟨x,us1⟩:=p
    rw [hn] at hg
    rcases us1 with _|⟨u1,us1⟩
    ·simp only at hg
     split at hg
     ·simp at hg
     ·split at hg
      ·simp at hg
      ·simp only [Except.ok.injEq] at hg
       rw [<-hg];exact h.share x 1
    ·simp only at hg
     cases hi:gIn 1 6 (u1::us1) with
     |none=>simp [hi] at hg
     |some q=>
      obtain ⟨v,us2⟩:=q
      rw [hi] at hg
      rcases us2 with _|⟨u2,us2⟩
      ·simp only at hg
       split at hg
       ·simp at hg
       ·split at hg
        ·simp at hg
        ·simp only [Except.ok.injEq] at hg
         rw [<-hg];exact h.share x v
      ·simp at hg
  ·split at hg
   ·exact yta
   ·split at hg
    ·exact ytc
    ·cases hs:Zs u us with
     |none=>simp [hs] at hg
     |some p=>
      obtain ⟨s,us1⟩:=p
      rw [hs] at hg
      rcases us1 with _|⟨u1,us1⟩
      ·exact zws hok hD (λn e=>zfq (e▸hs)) hg
      ·simp at hg
end
theorem zd6: ∀(f:Nat) (r:List UInt8) (j:Nat) (st st':RS),st.Ok j->st.Deep->Yc f r j st= .ok st'->st'.Deep
 |0,_,_,st,st',_,hd,h=>by simp only [Yc,Except.ok.injEq] at h;exact h▸hd
 |f+1,r,j,st,st',ho,hd,h=>by
  simp only [Yc] at h
  split at h
  ·simp only [Except.ok.injEq] at h;exact h▸hd
  ·generalize Lib.cut r [10]=q at h
   obtain ⟨l,r',b⟩:=q
   cases b with
   |false=>simp at h
   |true=>
    simp only at h
    cases hg:Vq st (Ql l) with
    |error er=>simp [hg] at h
    |ok st2=>
     rw [hg] at h
     exact zd6 f r' (j+1) st2 st' (Ir ho hg) (zkk ho hd hg) h
theorem zkl{st:RS}(h:Jl s= .ok st):st.Deep:=by
 unfold Jl at h
 split at h
 ·simp at h
 ·exact zd6 _ _ 0 RS.none st none_ok zrp h
def zb0(j:Nat):En->Bool
 | .inl _=>false
 | .inr k=>decide (k=j)
def wtE(wt:Nat->Nat):En->Nat
 | .inl _=>1
 | .inr j=>1+wt j
def RS.isAt(st:RS)(j:Nat):Bool:=((st.hk j).map HK.isAtomic).getD false
structure z0s(st:RS)(b:Bool)(s:St):Prop where
 nh:Qf s=false
 sz:zl9 s
 nm:zop s
 of: ∀f,Xg s=some f->b=true/\st.isSh f=true
structure z3l(b b':Bool)(s:St):Prop where
 hh:Qf s=true
 sz:zl9 s
 nm:zop s
 lp: ∀n,s=St.loop n->1<=n/\n<=4
 at1:HK.isAtomic (.st s)=true->b=false/\b'=true
 at0:HK.isAtomic (.st s)=false->b'=b
structure Fit(st:RS)(lv:Nat->Nat)(ib:Nat->Bool)(wt:Nat->Nat):Prop where
 nest: ∀(i:Nat) (h:Hd),st.hs[i]?=some h->∀j, .inr j∈h.ents->lv j=lv i+1/\ ∃s,st.hk j=some (.st s)/\z3l (ib i) (ib j) s
 le: ∀i,i<st.hs.length->lv i<=3
 op: ∀(m j:Nat),st.opn[m]?=some j->lv j=m/\ib j=(st.opn.take (m+1)).any st.isAt
 hd: ∀j,st.opn[0]?=some j->st.threads.getLast?=some j
 leaf: ∀(i:Nat) (h:Hd),st.hs[i]?=some h->∀s, .inl s∈h.ents->z0s st (ib i) s
 thr: ∀t∈st.threads,lv t=0/\ib t=false
 occ: ∀j∈st.opn,∀(i:Nat) (h:Hd),st.hs[i]?=some h->h.ents.countP (zb0 j)<=1/\(.inr j∈h.ents->i∈st.opn)
 w: ∀(i:Nat) (h:Hd),st.hs[i]?=some h->(h.ents.map (wtE wt)).sum<=wt i
 c: ∀t∈st.threads,∀l c,st.hk t=some (.thr l c)->wt t<=c
 sh: ∀p∈st.shared,0<=p.2.1/\1<=p.2.2/\p.2.1+p.2.2<=st.cells
def RS.Fits(st:RS):Prop:=∃lv ib wt,Fit st lv ib wt
theorem zr8:RS.none.Fits:=⟨λ_=>0,λ_=>false,λ_=>0,⟨λi h hh=>by simp [RS.none] at hh,λi hi=>by simp [RS.none] at hi,λm j hj=>by simp [RS.none] at hj,λj hj=>by simp [RS.none] at hj,λi h hh=>by simp [RS.none] at hh,λt ht=>by simp [RS.none] at ht,λj hj=>by simp [RS.none] at hj,λi h hh=>by simp [RS.none] at hh,λt ht=>by simp [RS.none] at ht,λp hp=>by simp [RS.none] at hp⟩⟩
theorem zh6{α:Type}{f g:α->Bool}: ∀(l:List α),(∀x∈l,f x=g x)->l.any f=l.any g
 |[],_=>rfl
 |a::r,h=>by
  rw [List.any_cons,List.any_cons,h a yun,zh6 r λx hx=>h x (List.mem_cons_of_mem _ hx)]
theorem zr9(wt wt':Nat->Nat)(es:List En)(h: ∀j, .inr j∈es->wt' j=wt j):(es.map (wtE wt')).sum=(es.map (wtE wt)).sum:=by
 congr 1
 apply List.map_congr_left
 intro e he
 cases e with
 |inl s=>rfl
 |inr j=>simp only [wtE];rw [h j he]
theorem zsa(wt wt':Nat->Nat)(j:Nat): ∀(es:List En),(∀i, .inr i∈es->wt' i=wt i+if i=j then 1 else 0)->(es.map (wtE wt')).sum=(es.map (wtE wt)).sum+es.countP (zb0 j)
 |[],_=>by simp
 |e::r,h=>by
  have hr:=zsa wt wt' j r λi hi=>h i (List.mem_cons_of_mem _ hi)
  cases e with
  |inl s=>
   simp only [List.map_cons,List.sum_cons,wtE,List.countP_cons,zb0]
   rw [hr]
   simp
   omega
  |inr i=>
   have hi:=h i yun
   simp only [List.map_cons,List.sum_cons,wtE,List.countP_cons,zb0]
   rw [hr,hi]
   by_cases e:i=j
   ·simp [e];omega
   ·simp [e];omega
section
variable{st st':RS}{lv:Nat->Nat}{ib:Nat->Bool}{wt:Nat->Nat}{k t o:Nat}{l l':List ByteArray}{c:Nat}{s:St}
def zwt(st:RS)(lv:Nat->Nat)(ib:Nat->Bool)(wt:Nat->Nat)(o:Nat):En->Prop
 | .inl s=>z0s st (ib o) s
 | .inr j=>lv j=lv o+1/\(∃s,st.hk j=some (.st s)/\z3l (ib o) (ib j) s)/\j∉st.opn/\wt j=0
theorem Fit.mem(h:Fit st lv ib wt)(hj:j∈st.opn):st.opn[lv j]?=some j:=by
 obtain ⟨m,hm⟩:=List.mem_iff_getElem?.1 hj
 rw [(h.op m j hm).1]
 exact hm
theorem Fit.upd(h:Fit st lv ib wt)(hl:st.lastT=some (t,l,c))(ho:st.opn=ol++[o])(e:En)(he:zwt st lv ib wt o e)
  (hsame:st'.shared=st.shared/\st'.cells=st.cells/\st'.threads=st.threads/\st'.opn=st.opn) (hlen:st'.hs.length=st.hs.length) (hget: ∀j,st'.hs[j]?=(st.hs[j]?).map (Zv t o (.thr l' (c+1)) e j)):
  Fit st' lv ib (λi=>wt i+if i∈st.opn then 1 else 0):=by
 obtain ⟨s1,s2,s3,s4⟩:=hsame
 obtain ⟨tl,htl,hkt⟩:=Us hl
 have hom:o∈st.opn:=yuw
 have hkj: ∀j,st'.hk j=(st.hk j).map λq=>if j=t then .thr l' (c+1) else q:=yuf
 have hinv: ∀(j:Nat) (x:Hd),st'.hs[j]?=some x->∃y,st.hs[j]?=some y/\x=Zv t o (.thr l' (c+1)) e j y:=ysl
 have hst: ∀j s,st.hk j=some (.st s)->st'.hk j=some (.st s):=by
  intro j s hj
  have:j≠t:=λe=>by rw [e,hkt] at hj;simp at hj
  rw [hkj,hj]
  simp [this]
 have hat: ∀j,st'.isAt j=st.isAt j:=by
  intro j
  unfold RS.isAt
  rw [hkj]
  by_cases e1:j=t
  ·subst e1;rw [hkt];simp [HK.isAtomic]
  ·simp [e1]
 have hlf: ∀{b s},z0s st b s->z0s st' b s:=λq=>⟨q.nh,q.sz,q.nm,λf hf=>⟨(q.of f hf).1,by unfold RS.isSh;rw [s1];exact (q.of f hf).2⟩⟩
 have hlo:lv o=ol.length:=(h.op ol.length o yuw).1
 have hopl:st.opn.length=ol.length+1:=yuw
 have hpar: ∀(i:Nat) (y:Hd),st.hs[i]?=some y->∀j∈st.opn, .inr j∈y.ents->i∈st.opn/\i≠o/\ ∀j'∈st.opn, .inr j'∈y.ents->j'=j:=by
  intro i y hy j hj hm
  have l1:=(h.nest i y hy j hm).1
  have m1:=h.mem hj
  have lt1:=(List.getElem?_eq_some_iff.1 m1).1
  refine ⟨(h.occ j hj i y hy).2 hm,λe1=>?_,λj' hj' hm'=>?_⟩
  ·subst e1;omega
  ·have l2:=(h.nest i y hy j' hm').1
   have m2:=h.mem hj'
   rw [l2,<-l1,m1] at m2
   simpa using m2.symm
 have hsum: ∀(i:Nat) (y:Hd),st.hs[i]?=some y->(y.ents.map (wtE λi=>wt i+if i∈st.opn then 1 else 0)).sum<=(y.ents.map (wtE wt)).sum+(if i∈st.opn/\i≠o then 1 else 0):=by
  intro i y hy
  by_cases hex: ∃j∈st.opn, .inr j∈y.ents
  ·obtain ⟨j,hj,hm⟩:=hex
   obtain ⟨p1,p2,p3⟩:=hpar i y hy j hj hm
   rw [if_pos ⟨p1,p2⟩,zsa wt _ j]
   ·have:=(h.occ j hj i y hy).1
    omega
   ·intro i' hi'
    by_cases e1:i'=j
    ·subst e1;simp [hj]
    ·have:i'∉st.opn:=λq=>e1 (p3 i' q hi')
     simp [this,e1]
  ·rw [zr9 wt _]
   ·omega
   ·intro j hj
    have:j∉st.opn:=λq=>hex ⟨j,q,hj⟩
    simp [this]
 refine {nest:=?_,le:=by rw [hlen];exact h.le,op:=?_,hd:=by rw [s4,s3];exact h.hd,leaf:=?_,thr:=by rw [s3];exact h.thr,occ:=?_,w:=?_,c:=?_,sh:=by rw [s1,s2];exact h.sh}
 ·intro i x hx j hj
  obtain ⟨y,hy,rfl⟩:=hinv i x hx
  simp only [Zv] at hj
  by_cases e1:i=o
  ·rw [if_pos e1,List.mem_append] at hj
   rcases hj with hj|hj
   ·obtain ⟨q1,s,q2,q3⟩:=h.nest i y hy j hj
    exact ⟨q1,s,hst j s q2,q3⟩
   ·have:e= .inr j:=by simp at hj;exact hj.symm
    subst this
    obtain ⟨q1,⟨s,q2,q3⟩,_⟩:=he
    exact ⟨e1▸q1,s,hst j s q2,e1▸q3⟩
  ·exact yuc
 ·intro m j hj
  rw [s4] at hj⊢
  obtain ⟨q1,q2⟩:=h.op m j hj
  exact ⟨q1,q2.trans (zh6 _ λx _=>(hat x).symm)⟩
 ·intro i x hx s hs
  obtain ⟨y,hy,rfl⟩:=hinv i x hx
  simp only [Zv] at hs
  by_cases e1:i=o
  ·rw [if_pos e1,List.mem_append] at hs
   rcases hs with hs|hs
   ·exact hlf (h.leaf i y hy s hs)
   ·have:e= .inl s:=by simp at hs;exact hs.symm
    subst this
    exact e1▸hlf he
  ·rw [if_neg e1] at hs
   exact hlf (h.leaf i y hy s hs)
 ·intro j hj i x hx
  rw [s4] at hj⊢
  obtain ⟨y,hy,rfl⟩:=hinv i x hx
  have hej:zb0 j e=false:=by
   cases e with
   |inl s=>rfl
   |inr n=>
    have:n≠j:=λq=>he.2.2.1 (q▸hj)
    simp [zb0,this]
  simp only [Zv]
  obtain ⟨o1,o2⟩:=h.occ j hj i y hy
  by_cases e1:i=o
  ·rw [if_pos e1,List.countP_append,List.countP_singleton,hej]
   refine ⟨by simpa using o1,λhm=>?_⟩
   rw [e1]
   exact hom
  ·rw [if_neg e1]
   exact ⟨o1,o2⟩
 ·intro i x hx
  obtain ⟨y,hy,rfl⟩:=hinv i x hx
  have hs:=hsum i y hy
  have hw:=h.w i y hy
  simp only [Zv]
  by_cases e1:i=o
  ·have hn: ¬(i∈st.opn/\i≠o):=λq=>q.2 e1
   rw [if_neg hn] at hs
   rw [if_pos e1,List.map_append,List.sum_append,if_pos (show i∈st.opn from e1▸hom)]
   have hee:wtE (λi=>wt i+if i∈st.opn then 1 else 0) e=1:=by
    cases e with
    |inl s=>rfl
    |inr n=>
     have:=he.2.2
     simp [wtE,this.1,this.2]
   simp only [List.map_cons,List.map_nil,List.sum_cons,List.sum_nil,hee]
   omega
  ·rw [if_neg e1]
   by_cases e2:i∈st.opn
   ·rw [if_pos ⟨e2,e1⟩] at hs
    rw [if_pos e2]
    omega
   ·rw [if_neg (λq=>e2 q.1)] at hs
    rw [if_neg e2]
    omega
 ·intro t2 ht2 l2 c2 hk2
  rw [s3] at ht2
  rw [hkj] at hk2
  by_cases e1:t2=t
  ·subst e1
   rw [hkt] at hk2
   simp at hk2
   have:=h.c t2 ht2 l c hkt
   show wt t2+_<=c2
   split<;>omega
  ·have hk3:st.hk t2=some (.thr l2 c2):=by
    cases hq:st.hk t2 with
    |none=>simp [hq] at hk2
    |some q=>simpa [hq,e1] using hk2
   have hno:t2∉st.opn:=by
    intro hm
    have m1:=h.mem hm
    rw [(h.thr t2 ht2).1] at m1
    have:=h.hd t2 m1
    rw [htl] at this
    simp at this
    exact e1 this.symm
   have:=h.c t2 ht2 l2 c2 hk3
   show wt t2+_<=c2
   rw [if_neg hno]
   omega
end
section
variable{st st':RS}{lv:Nat->Nat}{ib:Nat->Bool}{wt:Nat->Nat}{k t o:Nat}{l l':List ByteArray}{c:Nat}{s:St}
theorem zwu(hj:j<st.hs.length)(x:Hd):RS.isAt {st with hs:=st.hs++[x]} j=st.isAt j:=by
 unfold RS.isAt RS.hk
 have:(st.hs++[x])[j]?=st.hs[j]?:=List.getElem?_append_left hj
 show ((((st.hs++[x])[j]?).map _).map _).getD false=_
 rw [this]
theorem zaw{y:Hd}(hy:(st.hs++[x])[j]?=some y):(j<st.hs.length/\st.hs[j]?=some y)\/(j=st.hs.length/\y=x):=by
 by_cases e:j<st.hs.length
 ·left;exact ⟨e,by rw [<-hy,List.getElem?_append_left e]⟩
 ·right
  have hj:=(List.getElem?_eq_some_iff.1 hy).1
  simp at hj
  obtain rfl:j=st.hs.length:=yum
  simp at hy
  exact ⟨rfl,hy.symm⟩
theorem zyy(hj:j<st.hs.length)(x:Hd):RS.hk {st with hs:=st.hs++[x]} j=st.hk j:=by
 unfold RS.hk
 show ((st.hs++[x])[j]?).map _=_
 rw [List.getElem?_append_left hj]
theorem Fit.newH(h:Fit st lv ib wt)(hok:st.Ok k)(s:St)(x:Nat)(hx:x<=3)(b:Bool):
  Fit (st.newH s) (λi=>if i=st.hs.length then x else lv i) (λi=>if i=st.hs.length then b else ib i) (λi=>if i=st.hs.length then 0 else wt i):=by
 have hopn: ∀j∈st.opn,j<st.hs.length:=hok.ent.2.2
 have hent: ∀(i:Nat) (y:Hd),st.hs[i]?=some y->∀j, .inr j∈y.ents->j<st.hs.length:=λi y hy j hj=>hok.ent.1 y (List.mem_iff_getElem?.2 ⟨i,hy⟩) j hj
 refine {nest:=?_,le:=?_,op:=?_,hd:=h.hd,leaf:=?_,thr:=?_,occ:=?_,w:=?_,c:=?_,sh:=h.sh}
 ·intro i y hy j hj
  rcases zaw hy with ⟨hi,hy'⟩|⟨_,rfl⟩
  ·have hjl:=hent i y hy' j hj
   obtain ⟨q1,s2,q2,q3⟩:=h.nest i y hy' j hj
   try simp only
   rw [if_neg yum,if_neg yum,if_neg yum,if_neg yum]
   exact ⟨q1,s2,(zyy hjl _).trans q2,q3⟩
  ·simp at hj
 ·intro i hi
  have:i<st.hs.length+1:=by simpa [RS.newH] using hi
  try simp only
  split
  ·exact hx
  ·exact h.le i yum
 ·intro m j hj
  have hjo:j∈st.opn:=List.mem_iff_getElem?.2 ⟨m,hj⟩
  have hjl:=hopn j hjo
  obtain ⟨q1,q2⟩:=h.op m j hj
  try simp only
  rw [if_neg yum,if_neg yum]
  exact ⟨q1,q2.trans (zh6 _ λy hy=>(zwu (hopn y (List.mem_of_mem_take hy)) _).symm)⟩
 ·intro i y hy s2 hs2
  rcases zaw hy with ⟨hi,hy'⟩|⟨_,rfl⟩
  ·exact yt6
  ·simp at hs2
 ·intro t ht
  have:t<st.hs.length:=hok.ent.2.1 t ht
  try simp only
  rw [if_neg yum,if_neg yum]
  exact h.thr t ht
 ·intro j hj i y hy
  rcases zaw hy with ⟨hi,hy'⟩|⟨_,rfl⟩
  ·exact h.occ j hj i y hy'
  ·simp
 ·intro i y hy
  rcases zaw hy with ⟨hi,hy'⟩|⟨_,rfl⟩
  ·exact ytj
  ·simp
 ·intro t ht l c hk
  have:t<st.hs.length:=hok.ent.2.1 t ht
  try simp only
  rw [if_neg yum]
  exact h.c t ht l c ((zyy this _).symm.trans hk)
theorem inB_is(h:Fit st lv ib wt)(ho:st.opn=ol++[o]):ib o=st.inB:=by
 rw [(h.op ol.length o yuw).2]
 have:st.opn.take (ol.length+1)=st.opn:=List.take_of_length_le yuw
 rw [this]
 rfl
theorem zsb(hh:Qf s=true):HK.isAtomic (.st s)=true↔s=St.atomic:=by
 rcases s with ⟨to,a⟩|⟨to,k,a,c⟩|⟨to,f,a⟩|⟨f,a,c⟩|a|⟨⟩|a|n<;>simp_all [Qf,HK.isAtomic]
theorem zkm(hm:st.mayStand St.atomic=true):st.inB=false:=by
 simp [RS.mayStand] at hm
 exact hm.2
theorem zkn(hm:st.mayStand s=true)(hf:Xg s=some f):st.inB=true:=by
 rcases s with ⟨to,a⟩|⟨to,k,a,c⟩|⟨to,f,a⟩|⟨f,a,c⟩|a|⟨⟩|a|n<;>simp_all [Xg,RS.mayStand]
theorem zos(hm:st.mayName l s=true)(hf:Xg s=some f):st.isSh f=true:=by
 unfold RS.mayName at hm
 rw [hf] at hm
 simp only [Bool.and_eq_true] at hm
 exact hm.2.2
theorem Fit.lay(h:Fit st lv ib wt)(hok:st.Ok k)(hl:st.lastT=some (t,l,c))(ho:st.opn=ol++[o])(hr:st.hasRoom l c s=true)(hm:st.mayStand s=true)(hnm:st.mayName l s=true)
  (hz:zl9 s) (hn:zop s) (hloop: ∀n,s=St.loop n->1<=n/\n<=4):(st.lay t o l c s).Fits:=by
 obtain ⟨r1,r2,r3⟩:=Om hr
 obtain ⟨tl,htl,hkt⟩:=Us hl
 have hom:o∈st.opn:=yuw
 have htlt:t<st.hs.length:=hok.ent.2.1 t yvj
 have holt:o<st.hs.length:=hok.ent.2.2 o hom
 have hlo:lv o=ol.length:=(h.op ol.length o yuw).1
 have hib:=inB_is h ho
 have hent: ∀(i:Nat) (y:Hd),st.hs[i]?=some y->∀j, .inr j∈y.ents->j<st.hs.length:=λi y hy j hj=>hok.ent.1 y (List.mem_iff_getElem?.2 ⟨i,hy⟩) j hj
 unfold RS.lay
 split
 ·rename_i hh
  have h3:=r3 hh
  have hlen3:ol.length+1=st.opn.length:=yuw
  have hnew:=h.newH hok s st.opn.length h3 (st.inB||HK.isAtomic (.st s))
  have hln:(st.newH s).lastT=some (t,l,c):=(Ok.newH hok s).2.trans hl
  have hknew:(st.newH s).hk st.hs.length=some (.st s):=by unfold RS.hk;simp [RS.newH]
  have hu:=hnew.upd (l':=l) hln (show (st.newH s).opn=ol++[o] from ho) (.sub st.hs.length) (show zwt _ _ _ _ _ (.inr st.hs.length) from ⟨by
    show (if st.hs.length=st.hs.length then st.opn.length else lv st.hs.length)=(if o=st.hs.length then st.opn.length else lv o)+1
    rw [if_pos rfl,if_neg yum,hlo]
    omega,⟨s,hknew,hh,hz,hn,hloop,λha=>by
    show (if o=st.hs.length then _ else ib o)=false/\(if st.hs.length=st.hs.length then _ else _)=true
    rw [if_neg yum,if_pos rfl,ha]
    have:=(zsb hh).1 ha
    subst this
    exact ⟨hib.trans (zkm hm),by simp⟩,λha=>by
    show (if st.hs.length=st.hs.length then _ else _)=(if o=st.hs.length then _ else ib o)
    rw [if_pos rfl,if_neg yum,ha,hib]
    simp⟩,λq=>by have:=hok.ent.2.2 _ q;omega,by simp⟩) (Ze _ _ _ _ _) (Yp (Vx _ _ _ _ _)) (Vx _ _ _ _ _)
  have hop:(((st.newH s).setK t (.thr l (c+1))).addE o (.sub st.hs.length)).opn=st.opn:=(Ze _ _ _ _ _).2.2.2
  have hth:(((st.newH s).setK t (.thr l (c+1))).addE o (.sub st.hs.length)).threads=st.threads:=(Ze _ _ _ _ _).2.2.1
  have hget: ∀j,(((st.newH s).setK t (.thr l (c+1))).addE o (.sub st.hs.length)).hs[j]?=_:=Vx (st.newH s) t o (.thr l (c+1)) (.sub st.hs.length)
  generalize ((st.newH s).setK t (.thr l (c+1))).addE o (.sub st.hs.length)=st2 at*
  have hat:st2.isAt st.hs.length=HK.isAtomic (.st s):=by
   unfold RS.isAt RS.hk
   rw [hget]
   have:(st.newH s).hs[st.hs.length]?=some ⟨.st s,[]⟩:=yvi
   rw [this]
   have e1:st.hs.length≠t:=yum
   simp [Zv,e1]
  refine ⟨_,_,_,{nest:=hu.nest,le:=hu.le,op:=?_,hd:=?_,leaf:=?_,thr:=hu.thr,occ:=?_,w:=hu.w,c:=hu.c,sh:=hu.sh}⟩
  ·intro m j hj
   have hj':(st.opn++[st.hs.length])[m]?=some j:=hj
   rcases Nat.lt_or_ge m st.opn.length with hm'|hm'
   ·rw [List.getElem?_append_left hm'] at hj'
    obtain ⟨q1,q2⟩:=hu.op m j (by rw [hop];exact hj')
    refine ⟨q1,q2.trans ?_⟩
    show (st2.opn.take (m+1)).any st2.isAt=((st.opn++[st.hs.length]).take (m+1)).any st2.isAt
    rw [hop,List.take_append_of_le_length yum]
   ·have hml:=(List.getElem?_eq_some_iff.1 hj').1
    simp at hml
    obtain rfl:m=st.opn.length:=yum
    simp at hj'
    subst hj'
    refine ⟨by simp,?_⟩
    show _=((st.opn++[st.hs.length]).take (st.opn.length+1)).any st2.isAt
    rw [List.take_of_length_le yun,List.any_append]
    have hpre:st.opn.any st2.isAt=st.inB:=by
     have q:=hu.op ol.length o (by rw [hop,ho];simp)
     have e2:st2.opn.take (ol.length+1)=st.opn:=by rw [hop];exact List.take_of_length_le yum
     rw [e2] at q
     rw [<-q.2]
     try simp only
     rw [if_neg yum]
     exact hib
    rw [hpre]
    simp [hat]
  ·intro j hj
   have hj':(st.opn++[st.hs.length])[0]?=some j:=hj
   rw [List.getElem?_append_left yum] at hj'
   exact hu.hd j (by rw [hop];exact hj')
  ·intro i y hy s2 hs2
   have q:=hu.leaf i y hy s2 hs2
   exact ⟨q.nh,q.sz,q.nm,q.of⟩
  ·intro j hj i y hy
   have hj':j∈st.opn++[st.hs.length]:=hj
   have hy':st2.hs[i]?=some y:=hy
   show _/\(_->i∈st.opn++[st.hs.length])
   rcases List.mem_append.1 hj' with hj2|hj2
   ·obtain ⟨q1,q2⟩:=hu.occ j (by rw [hop];exact hj2) i y hy
    rw [hop] at q2
    exact ⟨q1,λq=>List.mem_append.2 (.inl (q2 q))⟩
   ·simp at hj2
    subst hj2
    rw [hget] at hy'
    cases hz2:(st.newH s).hs[i]? with
    |none=>simp [hz2] at hy'
    |some z=>
     rw [hz2] at hy'
     simp at hy'
     subst hy'
     have hz0: ∀q, .inr q∈z.ents->q<st.hs.length:=by
      intro q hq
      rcases zaw (show (st.hs++[_])[i]?=some z from hz2) with ⟨_,hz'⟩|⟨_,rfl⟩
      ·exact hent i z hz' q hq
      ·simp at hq
     have hc0:z.ents.countP (zb0 st.hs.length)=0:=ytw
     simp only [Zv]
     by_cases e1:i=o
     ·rw [if_pos e1,List.countP_append,hc0]
      exact ⟨by simp [zb0],λ_=>by simp [e1,hom]⟩
     ·rw [if_neg e1,hc0]
      exact ⟨by omega,λq=>by have:=hz0 _ q;omega⟩
 ·rename_i hh
  have hh':Qf s=false:=by simpa using hh
  have hlf:z0s st (ib o) s:=⟨hh',hz,hn,λf hf=>⟨hib.trans (zkn hm hf),zos hnm hf⟩⟩
  split
  ·refine ⟨lv,ib,_,h.upd (l':=l++[Vg s]) hl ho (.leaf s) (show zwt _ _ _ _ _ (.inl s) from hlf) ?_ (Yp (Ol _ _ _ _ _ _)) (Ol _ _ _ _ _ _)⟩
   obtain ⟨a1,a2,a3,a4⟩:=Ze (st.setK t (.thr l (c+1))) t o (.thr (l++[Vg s]) (c+1)) (.leaf s)
   obtain ⟨d1,d2,d3,d4⟩:=Xu (st:=st) t (.thr l (c+1))
   exact ⟨a1.trans d1,a2.trans d2,a3.trans d3,a4.trans d4⟩
  ·exact ⟨lv,ib,_,h.upd (l':=l) hl ho (.leaf s) (show zwt _ _ _ _ _ (.inl s) from hlf) (Ze _ _ _ _ _) (Yp (Vx _ _ _ _ _)) (Vx _ _ _ _ _)⟩
theorem Fit.newT(h:Fit st lv ib wt)(hok:st.Ok k):st.newT.Fits:=by
 have hopn: ∀j∈st.opn,j<st.hs.length:=hok.ent.2.2
 have hent: ∀(i:Nat) (y:Hd),st.hs[i]?=some y->∀j, .inr j∈y.ents->j<st.hs.length:=λi y hy j hj=>hok.ent.1 y (List.mem_iff_getElem?.2 ⟨i,hy⟩) j hj
 have hkn:st.newT.hk st.hs.length=some (.thr [] 0):=by unfold RS.hk;simp [RS.newT]
 have hko: ∀j,j<st.hs.length->st.newT.hk j=st.hk j:=λj hj=>by
  unfold RS.hk
  show ((st.hs++[_])[j]?).map _=_
  rw [List.getElem?_append_left hj]
 have hat:st.newT.isAt st.hs.length=false:=by unfold RS.isAt;rw [hkn];rfl
 refine ⟨λi=>if i=st.hs.length then 0 else lv i,λi=>if i=st.hs.length then false else ib i,λi=>if i=st.hs.length then 0 else wt i,{nest:=?_,le:=?_,op:=?_,hd:=?_,leaf:=?_,thr:=?_,occ:=?_,w:=?_,c:=?_,sh:=h.sh}⟩
 ·intro i y hy j hj
  rcases zaw (show (st.hs++[_])[i]?=some y from hy) with ⟨hi,hy'⟩|⟨_,rfl⟩
  ·have hjl:=hent i y hy' j hj
   obtain ⟨q1,s2,q2,q3⟩:=h.nest i y hy' j hj
   try simp only
   rw [if_neg yum,if_neg yum,if_neg yum,if_neg yum]
   exact ⟨q1,s2,(hko j hjl).trans q2,q3⟩
  ·simp at hj
 ·intro i hi
  have:i<st.hs.length+1:=by simpa [RS.newT] using hi
  try simp only
  split
  ·omega
  ·exact h.le i yum
 ·intro m j hj
  have hj':[st.hs.length][m]?=some j:=hj
  have hm:=(List.getElem?_eq_some_iff.1 hj').1
  simp at hm
  subst hm
  simp at hj'
  subst hj'
  refine ⟨by simp,?_⟩
  show _=([st.hs.length].take 1).any st.newT.isAt
  simp [hat]
 ·intro j hj
  have hj':[st.hs.length][0]?=some j:=hj
  simp at hj'
  subst hj'
  show (st.threads++[st.hs.length]).getLast?=_
  simp
 ·intro i y hy s2 hs2
  rcases zaw (show (st.hs++[_])[i]?=some y from hy) with ⟨hi,hy'⟩|⟨_,rfl⟩
  ·exact yt6
  ·simp at hs2
 ·intro t ht
  rcases List.mem_append.1 (show t∈st.threads++[st.hs.length] from ht) with ht|ht
  ·have:t<st.hs.length:=hok.ent.2.1 t ht
   try simp only
   rw [if_neg yum,if_neg yum]
   exact h.thr t ht
  ·simp at ht
   simp [ht]
 ·intro j hj i y hy
  have hj':j=st.hs.length:=yv7
  subst hj'
  have hz0: ∀q, .inr q∈y.ents->q<st.hs.length:=by
   intro q hq
   rcases zaw (show (st.hs++[_])[i]?=some y from hy) with ⟨_,hz'⟩|⟨_,rfl⟩
   ·exact hent i y hz' q hq
   ·simp at hq
  have hc0:y.ents.countP (zb0 st.hs.length)=0:=ytw
  rw [hc0]
  exact ⟨by omega,λq=>by have:=hz0 _ q;omega⟩
 ·intro i y hy
  rcases zaw (show (st.hs++[_])[i]?=some y from hy) with ⟨hi,hy'⟩|⟨_,rfl⟩
  ·exact ytj
  ·simp
 ·intro t ht l c hk
  rcases List.mem_append.1 (show t∈st.threads++[st.hs.length] from ht) with ht|ht
  ·have:t<st.hs.length:=hok.ent.2.1 t ht
   try simp only
   rw [if_neg yum]
   exact h.c t ht l c ((hko t this).symm.trans hk)
  ·simp at ht
   simp [ht]
theorem Fit.pop(h:Fit st lv ib wt):RS.Fits {st with opn:=st.opn.dropLast}:=by
 have sub: ∀m j,st.opn.dropLast[m]?=some j->m+1<st.opn.length/\st.opn[m]?=some j:=by
  intro m j hj
  rw [List.dropLast_eq_take,List.getElem?_take] at hj
  split at hj
  ·exact ⟨by omega,hj⟩
  ·simp at hj
 have memd: ∀m j,m+1<st.opn.length->st.opn[m]?=some j->j∈st.opn.dropLast:=by
  intro m j hm hj
  rw [List.dropLast_eq_take]
  exact List.mem_iff_getElem?.2 ⟨m,by rw [List.getElem?_take,if_pos yum];exact hj⟩
 refine ⟨lv,ib,wt,{nest:=h.nest,le:=h.le,op:=?_,hd:=?_,leaf:=λi y hy s hs=>let q:=h.leaf i y hy s hs;⟨q.nh,q.sz,q.nm,q.of⟩,thr:=h.thr,occ:=?_,w:=h.w,c:=h.c,sh:=h.sh}⟩
 ·intro m j hj
  obtain ⟨hm,hj'⟩:=sub m j hj
  obtain ⟨q1,q2⟩:=h.op m j hj'
  refine ⟨q1,q2.trans ?_⟩
  show (st.opn.take (m+1)).any st.isAt=(st.opn.dropLast.take (m+1)).any st.isAt
  rw [List.dropLast_eq_take,List.take_take,Nat.min_eq_left yum]
 ·intro j hj
  exact h.hd j (sub 0 j hj).2
 ·intro j hj i y hy
  obtain ⟨m,hm⟩:=List.mem_iff_getElem?.1 (show j∈st.opn.dropLast from hj)
  obtain ⟨hlt,hj'⟩:=sub m j hm
  have hjo:j∈st.opn:=List.mem_iff_getElem?.2 ⟨m,hj'⟩
  obtain ⟨q1,q2⟩:=h.occ j hjo i y hy
  refine ⟨q1,λq=>?_⟩
  have e1:=(h.nest i y hy j q).1
  have e2:=(h.op m j hj').1
  exact memd (lv i) i yum (h.mem (q2 q))
theorem Fit.share(h:Fit st lv ib wt)(hok:st.Ok k)(x:ByteArray)(c:Int)(hc:1<=c):RS.Fits {st with shared:=st.shared++[(x,st.cells,c)],cells:=st.cells+c}:=by
 refine ⟨lv,ib,wt,{nest:=h.nest,le:=h.le,op:=h.op,hd:=h.hd,leaf:=λi y hy s hs=>let q:=h.leaf i y hy s hs;⟨q.nh,q.sz,q.nm,λf hf=>⟨(q.of f hf).1,?_⟩⟩,thr:=h.thr,occ:=h.occ,w:=h.w,c:=h.c,sh:=?_}⟩
 ·have:=(q.of f hf).2
  unfold RS.isSh at this⊢
  show (st.shared++[_]).any _=true
  rw [List.any_append,this]
  rfl
 ·intro p hp
  rcases List.mem_append.1 (show p∈st.shared++[(x,st.cells,c)] from hp) with hp|hp
  ·obtain ⟨q1,q2,q3⟩:=h.sh p hp
   exact ⟨q1,q2,by show _<=st.cells+c;omega⟩
  ·simp at hp
   subst hp
   exact ⟨hok.cn.1,hc,Int.le_refl _⟩
end
section
variable{st st':RS}{k:Nat}{s:St}
theorem zwv(hok:st.Ok k)(h:st.Fits)(hz:zl9 s)(hnn:zop s)(hloop: ∀n,s=St.loop n->1<=n/\n<=4)(hg:gSt st s= .ok st'):st'.Fits:=by
 obtain ⟨lv,ib,wt,h⟩:=h
 unfold gSt at hg
 split at hg
 ·simp at hg
 ·rename_i hms
  cases hl:st.lastT with
  |none=>simp [hl] at hg
  |some p=>
   obtain ⟨t,l,c⟩:=p
   cases ho:st.opn.getLast? with
   |none=>simp [hl,ho] at hg
   |some o=>
    rw [hl,ho] at hg
    simp only at hg
    split at hg
    ·simp at hg
    ·rename_i hmn
     split at hg
     ·simp at hg
     ·rename_i hr
      obtain ⟨ol,hol⟩:=List.getLast?_eq_some_iff.1 ho
      have:st.lay t o l c s=st':=by simpa using hg
      rw [<-this]
      exact h.lay hok hl hol (by simpa using hr) (by simpa using hms) (by simpa using hmn) hz hnn hloop
theorem zko(hok:st.Ok k)(h:st.Fits)(hg:Vq st ws= .ok st'):st'.Fits:=by
 have hD:=h
 obtain ⟨lv,ib,wt,h⟩:=h
 unfold Vq at hg
 rcases ws with _|⟨u,us⟩
 ·simp at hg
 ·simp only at hg
  split at hg
  ·unfold Iq at hg
   cases hn:gNm us with
   |none=>simp [hn] at hg
   |some p=>
    obtain ⟨x,us1⟩:=p
    rw [hn] at hg
    rcases us1 with _|⟨u1,us1⟩
    ·simp only at hg
     split at hg
     ·simp at hg
     ·split at hg
      ·simp at hg
      ·simp only [Except.ok.injEq] at hg
       rw [<-hg];exact h.share hok x 1 yum
    ·simp only at hg
     cases hi:gIn 1 6 (u1::us1) with
     |none=>simp [hi] at hg
     |some q=>
      obtain ⟨v,us2⟩:=q
      rw [hi] at hg
      rcases us2 with _|⟨u2,us2⟩
      ·simp only at hg
       split at hg
       ·simp at hg
       ·split at hg
        ·simp at hg
        ·simp only [Except.ok.injEq] at hg
         rw [<-hg];exact h.share hok x v (zme hi).1
      ·simp at hg
  ·split at hg
   ·exact yta
   ·split at hg
    ·exact ytc
    ·cases hs:Zs u us with
     |none=>simp [hs] at hg
     |some p=>
      obtain ⟨s,us1⟩:=p
      rw [hs] at hg
      rcases us1 with _|⟨u1,us1⟩
      ·exact zwv hok hD (zd5 hs) (zoq hs) (λn e=>zfq (e▸hs)) hg
      ·simp at hg
end
theorem zd7: ∀(f:Nat) (r:List UInt8) (j:Nat) (st st':RS),st.Ok j->st.Fits->Yc f r j st= .ok st'->st'.Fits
 |0,_,_,st,st',_,hd,h=>by simp only [Yc,Except.ok.injEq] at h;exact h▸hd
 |f+1,r,j,st,st',ho,hd,h=>by
  simp only [Yc] at h
  split at h
  ·simp only [Except.ok.injEq] at h;exact h▸hd
  ·generalize Lib.cut r [10]=q at h
   obtain ⟨l,r',b⟩:=q
   cases b with
   |false=>simp at h
   |true=>
    simp only at h
    cases hg:Vq st (Ql l) with
    |error er=>simp [hg] at h
    |ok st2=>
     rw [hg] at h
     exact zd7 f r' (j+1) st2 st' (Ir ho hg) (zko ho hd hg) h
theorem zd8{st:RS}(h:Jl s= .ok st):st.Fits:=by
 unfold Jl at h
 split at h
 ·simp at h
 ·exact zd7 _ _ 0 RS.none st none_ok zr8 h
open Go.RowKit Go.Shelf
attribute [local go_sem] Oper.semAt_some
section
variable{hs:List Hd}{ms:List HM}{W0:World}
theorem zax(f:Nat):Jf hs f []=[]:=by cases f<;>rfl
theorem zyz: ∀(d f:Nat) (e:En),enG hs f e->enG hs (f+d) e
 |0,_,_,h=>h
 |d+1,f,e,h=>Gt (f+d) e (zyz d f e h)
theorem z0t{f:Nat}(hf:f<=3){e:En}(h:enG hs f e):enG hs 3 e:=by
 have:=zyz (3- f) f e h
 rwa [show f+(3- f)=3 from by omega] at this
def zsc(hs:List Hd)(ms:List HM)(W0:World)(n₀ N l:Nat)(J Jx:List (zcs hs)->World->Prop):Prop:=
 ∀m pre (x:zcs hs) W,J pre W->Below W0.heap.size W0 W->pre.length<N->YieldAt Fence.wide m Tryz.prog l #[enV (Qu ms) x.1] W λe W'=>(e= .returned (.bool true)/\J (pre++[x]) W'/\Below n₀ W W')\/(e= .returned (.bool false)/\Jx (pre++[x]) W')
theorem zmp(n l n₀ N:Nat)(hA0:Ar hs ms W0)(hn₀:W0.heap.size<=n₀)(J Jx:List (zcs hs)->World->Prop)(hY:Hid (zsc hs ms W0 n₀ N l J Jx))(pre:List (zcs hs))(W:World)(hJ:J pre W)(hW:Below W0.heap.size W0 W)(hN:pre.length<=N):
  CallsIn Fence.wide n Tryz.prog 99 #[.slice none 0 0, .func (.yield l) #[] #[]] W λe W'=>(e= .returned (.bool true)/\(∃ys:List (zcs hs),ys.map (·.1)=[]/\J (pre++ys) W')/\Below n₀ W W')\/(e= .returned (.bool false)/\ ∃q:List (zcs hs),q.map (·.1)<+:[]/\Jx (pre++q) W'):=
 zgo n l n₀ N (es:=[]) hA0 hn₀ (zka W0) yun (hid λe he=>by simp at he) J Jx hY (λ_=>[]) (hid λ_ _ _ _ _ e he=>by simp at he) pre W hJ hW (by simpa using hN)
theorem zsd(l n₀ N:Nat)(hA0:Ar hs ms W0)(hn₀:W0.heap.size<=n₀)(J Jx:List (zcs hs)->World->Prop)(hY:Hid (zsc hs ms W0 n₀ N l J Jx)): ∀f,f<=3->∀(n:Nat) (rv:Value) (es:List En),W0.ownsRow 0 153 1 rv es.length (es.map (enV (Qu ms)))->es.length<=14->(∀e∈es,enG hs f e)->∀(pre:List (zcs hs)) (W:World),J pre W->Below W0.heap.size W0 W->pre.length+(Jf hs f es).length<=N ->
  CallsIn Fence.wide n Tryz.prog 99 #[rv, .func (.yield l) #[] #[]] W λe W'=>(e= .returned (.bool true)/\(∃ys:List (zcs hs),ys.map (·.1)=Jf hs f es/\J (pre++ys) W')/\Below n₀ W W')\/(e= .returned (.bool false)/\ ∃q:List (zcs hs),q.map (·.1)<+:Jf hs f es/\Jx (pre++q) W')
 |0,_,n,rv,es,hrow,h14,hes,pre,W,hJ,hW,hN=>by
  have e0:(es.flatMap λe=>e::(λ_:En=>([]:List En)) e)=Jf hs 0 es:=by simp [Jf]
  rw [<-e0] at hN⊢
  refine zgo n l n₀ N hA0 hn₀ hrow h14 (hid λe he=>z0t (f:=0) yum (hes e he)) J Jx hY (λ_=>[]) (hid λm pre W hJ hW e he hl=>?_) pre W hJ hW hN
  obtain ⟨s,rfl,hh⟩:=hes e he
  exact zmp m l n₀ N hA0 hn₀ J Jx hY pre W hJ hW (by simpa using hl)
 |f+1,hf,n,rv,es,hrow,h14,hes,pre,W,hJ,hW,hN=>by
  have e0:(es.flatMap λe=>e::(λe:En=>Jf hs f (Jb hs e)) e)=Jf hs (f+1) es:=rfl
  rw [<-e0] at hN⊢
  refine zgo n l n₀ N hA0 hn₀ hrow h14 (hid λe he=>z0t hf (hes e he)) J Jx hY (λe=>Jf hs f (Jb hs e)) (hid λm pre W hJ hW e he hl=>?_) pre W hJ hW hN
  rcases hes e he with ⟨s,rfl,hh⟩|⟨j,x,s,rfl,hj,hk,hh,ht,hl2,hsub⟩
  ·have e1:Jf hs f (Jb hs (.inl s))=[]:=zax f
   simp only [e1]
   exact zmp m l n₀ N hA0 hn₀ J Jx hY pre W hJ hW yum
  ·obtain ⟨hl3,e1⟩:=hA0.at hj
   have hw:wiV ms (.inr j)=ms[j].rv:=by simp [wiV,List.getElem?_eq_getElem hl3]
   have e2:Jb hs (.inr j)=x.ents:=yvp
   simp only [e2] at hl⊢
   rw [hw]
   have hr:=(hA0.hd j hl3).row
   rw [e1] at hr
   exact zsd l n₀ N hA0 hn₀ J Jx hY f yum m _ _ hr hl2 hsub pre W hJ hW hl
theorem z0u(n l n₀ Bt:Nat)(hA0:Ar hs ms W0)(hn₀:W0.heap.size<=n₀)(hrow:W0.ownsRow 0 153 1 (.slice a p c) es.length (es.map (enV (Qu ms))))(h14:es.length<=14)(hes: ∀e∈es,enG hs 3 e)(J Jx:List (zcs hs)->World->Prop)
  (hY:Hid (zsc hs ms W0 n₀ (Jf hs 3 es).length l J Jx)) (W:World) (hW:Below W0.heap.size W0 W) (hBt:W.cell? ⟨Bt,0,none⟩=some (.slice a p c)) (h0:J [] W):
  CallsIn Fence.wide n Tryz.prog 98 #[.func (.yield l) #[] #[], .pointer (some ⟨Bt,0,none⟩)] W λe W'=>(∃v,e= .returned v)/\((∃ys:List (zcs hs),ys.map (·.1)=Jf hs 3 es/\J ys W')\/(∃pre:List (zcs hs),pre.map (·.1)<+:Jf hs 3 es/\Jx pre W')):=by
 have hdd: ∀k:Nat,(Fence.wide.depth.isSome=true->1<=k):=λk h=>by cases h
 have hw: ∀f,Fence.wide.fn f:=λ_=>trivial
 have hp:=hid (zsd l n₀ (Jf hs 3 es).length hA0 hn₀ J Jx hY 3 yum (n- 1) (.slice a p c) es hrow h14 hes [] W h0 hW yun)
 clear hrow hes hA0 h0
 refine callsIn_of_wp Tryz.func98 rfl trivial ?_ rfl
 simp only [Tryz.ntmps98,List.size_toArray,List.length_cons,List.length_nil,Nat.reduceAdd,Nat.reduceSub,Array.replicate_succ,Array.replicate_zero,List.push_toArray,List.append_toArray,List.nil_append,List.cons_append]
 gi_wp2_with ((try refine ⟨hdd _,?_⟩);gi_at_call 99;refine hp.out.mono ?_;clear hp;rintro e W1 (⟨rfl,hJ1⟩|⟨rfl,hx⟩))
 ·exact yt0
 ·exact yuh
theorem zse(a:Option Addr)(p c:Nat)(w:World):Cl 68 #[.slice a p c] w λe w'=>e= .returned (.func (.func 98) #[] #[.pointer (some ⟨w.heap.size,0,none⟩)])/\w'=w.alloc (.cells #[.slice a p c] 106):=by
 have hmf: ∀(fn:Fn) (first cap:Array Value) (w:World),(Instr.makeFunc fn first cap).run Tryz.prog w= .ok (.func fn first cap) w:=λ_ _ _ _=>rfl
 go_enter Tryz.func68,Tryz.ntmps68
 go_wp2
 go_ret
 exact ⟨rfl,rfl⟩
end
open Go.RowKit Go.Shelf
def z0v(Ds:List Nat):List Deferred:=Ds.map λD=>{target:= .collected D,args:=#[]}
theorem zh7(W:World)(D:Nat)(o:Obj)(b:Nat)(h:b≠D):(W.putObj D o).heap[b]?=W.heap[b]?:=by
 have h':D≠b:=λe=>h e.symm
 simp [World.putObj,h']
theorem Iu{F:Fence}{P:Program}{fn:Func}{R:Ending->World->Prop}(w:World): ∀(Ds:List Nat) (W:World),Ds.Nodup->(∀D∈Ds,w.heap.size<=D/\W.heap[D]?=some (.deferred (some []))) ->
  (∀W',Below w.heap.size W W'->(∀b:Nat,b∉Ds->W'.heap[b]?=W.heap[b]?)->LeavesIn F n P fn tmps R [] .returning W')->LeavesInM F n P fn tmps R (z0v Ds) .returning W
 |[],W,_,_,hfin=>hfin W (Below.refl _ _) (λ_ _=>rfl)
 |D::Ds,W,hnd,hD,hfin=>by
  obtain ⟨h1,h2⟩:=List.nodup_cons.1 hnd
  obtain ⟨hb,hK⟩:=hD D yun
  refine ⟨by simp, .inl ⟨D,_,rfl,run_takeDeferred hK,Iu w Ds _ h2 (λD' hD'=>?_) (λW' hW' hk=>?_)⟩⟩
  ·obtain ⟨q1,q2⟩:=hD D' (by simp [hD'])
   refine ⟨q1,?_⟩
   rw [zh7 _ _ _ _ (show D'≠D from λe=>h1 (e▸hD'))]
   exact q2
  ·refine hfin W' ((belowK_b (w:=w) (Nat.le_refl _) W D _ _ hb hK rfl rfl).trans hW') (λb hb'=>?_)
   have n1:b≠D:=λe=>hb' (by simp [e])
   have n2:b∉Ds:=λe=>hb' (by simp [e])
   rw [hk b n2,zh7 _ _ _ _ n1]
theorem zsf{hs:List Hd}(n Bt:Nat)(w:World)(hA:Ar hs ms w)(hrow:w.ownsRow 0 153 1 (.slice a p c) es.length (es.map (enV (Qu ms))))(h14:es.length<=14)(hes: ∀e∈es,enG hs 3 e)(hBt:w.cell? ⟨Bt,0,none⟩=some (.slice a p c)):
  SeqStopsK Fence.wide n Tryz.prog 98 #[.pointer (some ⟨Bt,0,none⟩)] (λx:zcs hs=>#[enV (Qu ms) x.1]) (Below w.heap.size) (λys=>ys.map (·.1)=Jf hs 3 es) (λpre=>pre.map (·.1)<+:Jf hs 3 es) (Jf hs 3 es).length w:=λl J Jx W hW _ _ hY h0=>
 z0u n l w.heap.size Bt hA (Nat.le_refl _) hrow h14 hes J Jx (hid λm pre x W' hJ _ hl=>zh0 m (hY pre x W' hJ hl)) W hW ((hW.cell (p:=⟨Bt,0,none⟩) (blt hBt)).trans hBt) h0
theorem zmq(x u:ByteArray):(x==u)=decide (x=u):=by
 have e:(x==u)=(x.data==u.data):=rfl
 rw [e,Bool.eq_iff_iff]
 simp [ByteArray.ext_iff]
def z4j:ByteArray->Option Value:=λ_=>none
def z4k:ByteArray->Option Value:=zgd z4j ⟨#[43]⟩ (.int .i64 0)
def z4l:ByteArray->Option Value:=zgd z4k ⟨#[45]⟩ (.int .i64 1)
def z4m:ByteArray->Option Value:=zgd z4l ⟨#[42]⟩ (.int .i64 2)
def z4n:ByteArray->Option Value:=zgd z4m ⟨#[47]⟩ (.int .i64 3)
def z4o:ByteArray->Option Value:=zgd z4n ⟨#[37]⟩ (.int .i64 4)
def z4p:ByteArray->Option Value:=zgd z4o ⟨#[38]⟩ (.int .i64 5)
def z4q:ByteArray->Option Value:=zgd z4p ⟨#[124]⟩ (.int .i64 6)
def z4r:ByteArray->Option Value:=zgd z4q ⟨#[94]⟩ (.int .i64 7)
def z4s:ByteArray->Option Value:=zgd z4r ⟨#[60,60]⟩ (.int .i64 8)
def zww:ByteArray->Option Value:=zgd z4s ⟨#[62,62]⟩ (.int .i64 9)
def zwx:ByteArray->Option Value:=zgd zww ⟨#[60]⟩ (.int .i64 10)
def zwy:ByteArray->Option Value:=zgd zwx ⟨#[61,61]⟩ (.int .i64 11)
theorem z5p(u:ByteArray):zwy u=Sa u:=by
 by_cases h0:u=⟨#[43]⟩
 ·subst h0;rfl
 by_cases h1:u=⟨#[45]⟩
 ·subst h1;rfl
 by_cases h2:u=⟨#[42]⟩
 ·subst h2;rfl
 by_cases h3:u=⟨#[47]⟩
 ·subst h3;rfl
 by_cases h4:u=⟨#[37]⟩
 ·subst h4;rfl
 by_cases h5:u=⟨#[38]⟩
 ·subst h5;rfl
 by_cases h6:u=⟨#[124]⟩
 ·subst h6;rfl
 by_cases h7:u=⟨#[94]⟩
 ·subst h7;rfl
 by_cases h8:u=⟨#[60,60]⟩
 ·subst h8;rfl
 by_cases h9:u=⟨#[62,62]⟩
 ·subst h9;rfl
 by_cases h10:u=⟨#[60]⟩
 ·subst h10;rfl
 by_cases h11:u=⟨#[61,61]⟩
 ·subst h11;rfl
 have g0: ¬(⟨#[43]⟩:ByteArray)=u:=λe=>h0 e.symm
 have g1: ¬(⟨#[45]⟩:ByteArray)=u:=λe=>h1 e.symm
 have g2: ¬(⟨#[42]⟩:ByteArray)=u:=λe=>h2 e.symm
 have g3: ¬(⟨#[47]⟩:ByteArray)=u:=λe=>h3 e.symm
 have g4: ¬(⟨#[37]⟩:ByteArray)=u:=λe=>h4 e.symm
 have g5: ¬(⟨#[38]⟩:ByteArray)=u:=λe=>h5 e.symm
 have g6: ¬(⟨#[124]⟩:ByteArray)=u:=λe=>h6 e.symm
 have g7: ¬(⟨#[94]⟩:ByteArray)=u:=λe=>h7 e.symm
 have g8: ¬(⟨#[60,60]⟩:ByteArray)=u:=λe=>h8 e.symm
 have g9: ¬(⟨#[62,62]⟩:ByteArray)=u:=λe=>h9 e.symm
 have g10: ¬(⟨#[60]⟩:ByteArray)=u:=λe=>h10 e.symm
 have g11: ¬(⟨#[61,61]⟩:ByteArray)=u:=λe=>h11 e.symm
 have e1:zwy u=none:=by simp only [z4j,z4k,z4l,z4m,z4n,z4o,z4p,z4q,z4r,z4s,zww,zwx,zwy,zgd,h0,h1,h2,h3,h4,h5,h6,h7,h8,h9,h10,h11,if_false]
 have e2:Uj u=none:=by simp [Uj,List.findIdx?_cons,zmq,g0,g1,g2,g3,g4,g5,g6,g7,g8,g9,g10,g11]
 rw [e1,Sa,e2]
 rfl
theorem zc5(w:World):Cl 35 #[] w λe w'=>e= .returned (.map (some w.heap.size))/\MapIs w' w.heap.size Sa 12/\Below w.heap.size w w':=by
 have hmm:(Instr.makeMap 92 none).run Tryz.prog w= .ok (.map (some w.heap.size)) (w.alloc (.map #[] 0)):=rfl
 have m0:MapIs (w.alloc (.map #[] 0)) w.heap.size z4j 0:=zbr w
 have b0:Below w.heap.size w (w.alloc (.map #[] 0)):=(Below.refl _ w).alloc (Nat.le_refl _) _
 obtain ⟨W1,hr0,m1',c1⟩:=m0.put Tryz.underlying92 yus (u:=⟨#[43]⟩) yu1 (.int .i64 0)
 have m1:MapIs W1 w.heap.size z4k 1:=by
  have e:(z4j ⟨#[43]⟩).isSome=false:=rfl
  rw [e] at m1'
  exact m1'
 have b1:Below w.heap.size w W1:=b0.trans (c1.below b0.size (λk _ e=>Nat.le_of_eq e.symm))
 clear m1' c1 m0 b0
 obtain ⟨W2,hr1,m2',c2⟩:=m1.put Tryz.underlying92 yus (u:=⟨#[45]⟩) yu1 (.int .i64 1)
 have m2:MapIs W2 w.heap.size z4l 2:=by
  have e:(z4k ⟨#[45]⟩).isSome=false:=rfl
  rw [e] at m2'
  exact m2'
 have b2:Below w.heap.size w W2:=b1.trans (c2.below b1.size (λk _ e=>Nat.le_of_eq e.symm))
 clear m2' c2 m1 b1
 obtain ⟨W3,hr2,m3',c3⟩:=m2.put Tryz.underlying92 yus (u:=⟨#[42]⟩) yu1 (.int .i64 2)
 have m3:MapIs W3 w.heap.size z4m 3:=by
  have e:(z4l ⟨#[42]⟩).isSome=false:=rfl
  rw [e] at m3'
  exact m3'
 have b3:Below w.heap.size w W3:=b2.trans (c3.below b2.size (λk _ e=>Nat.le_of_eq e.symm))
 clear m3' c3 m2 b2
 obtain ⟨W4,hr3,m4',c4⟩:=m3.put Tryz.underlying92 yus (u:=⟨#[47]⟩) yu1 (.int .i64 3)
 have m4:MapIs W4 w.heap.size z4n 4:=by
  have e:(z4m ⟨#[47]⟩).isSome=false:=rfl
  rw [e] at m4'
  exact m4'
 have b4:Below w.heap.size w W4:=b3.trans (c4.below b3.size (λk _ e=>Nat.le_of_eq e.symm))
 clear m4' c4 m3 b3
 obtain ⟨W5,hr4,m5',c5⟩:=m4.put Tryz.underlying92 yus (u:=⟨#[37]⟩) yu1 (.int .i64 4)
 have m5:MapIs W5 w.heap.size z4o 5:=by
  have e:(z4n ⟨#[37]⟩).isSome=false:=rfl
  rw [e] at m5'
  exact m5'
 have b5:Below w.heap.size w W5:=b4.trans (c5.below b4.size (λk _ e=>Nat.le_of_eq e.symm))
 clear m5' c5 m4 b4
 obtain ⟨W6,hr5,m6',c6⟩:=m5.put Tryz.underlying92 yus (u:=⟨#[38]⟩) yu1 (.int .i64 5)
 have m6:MapIs W6 w.heap.size z4p 6:=by
  have e:(z4o ⟨#[38]⟩).isSome=false:=rfl
  rw [e] at m6'
  exact m6'
 have b6:Below w.heap.size w W6:=b5.trans (c6.below b5.size (λk _ e=>Nat.le_of_eq e.symm))
 clear m6' c6 m5 b5
 obtain ⟨W7,hr6,m7',c7⟩:=m6.put Tryz.underlying92 yus (u:=⟨#[124]⟩) yu1 (.int .i64 6)
 have m7:MapIs W7 w.heap.size z4q 7:=by
  have e:(z4p ⟨#[124]⟩).isSome=false:=rfl
  rw [e] at m7'
  exact m7'
 have b7:Below w.heap.size w W7:=b6.trans (c7.below b6.size (λk _ e=>Nat.le_of_eq e.symm))
 clear m7' c7 m6 b6
 obtain ⟨W8,hr7,m8',c8⟩:=m7.put Tryz.underlying92 yus (u:=⟨#[94]⟩) yu1 (.int .i64 7)
 have m8:MapIs W8 w.heap.size z4r 8:=by
  have e:(z4q ⟨#[94]⟩).isSome=false:=rfl
  rw [e] at m8'
  exact m8'
 have b8:Below w.heap.size w W8:=b7.trans (c8.below b7.size (λk _ e=>Nat.le_of_eq e.symm))
 clear m8' c8 m7 b7
 obtain ⟨W9,hr8,m9',c9⟩:=m8.put Tryz.underlying92 yus (u:=⟨#[60,60]⟩) yu1 (.int .i64 8)
 have m9:MapIs W9 w.heap.size z4s 9:=by
  have e:(z4r ⟨#[60,60]⟩).isSome=false:=rfl
  rw [e] at m9'
  exact m9'
 have b9:Below w.heap.size w W9:=b8.trans (c9.below b8.size (λk _ e=>Nat.le_of_eq e.symm))
 clear m9' c9 m8 b8
 obtain ⟨W10,hr9,m10',c10⟩:=m9.put Tryz.underlying92 yus (u:=⟨#[62,62]⟩) yu1 (.int .i64 9)
 have m10:MapIs W10 w.heap.size zww 10:=by
  have e:(z4s ⟨#[62,62]⟩).isSome=false:=rfl
  rw [e] at m10'
  exact m10'
 have b10:Below w.heap.size w W10:=b9.trans (c10.below b9.size (λk _ e=>Nat.le_of_eq e.symm))
 clear m10' c10 m9 b9
 obtain ⟨W11,hr10,m11',c11⟩:=m10.put Tryz.underlying92 yus (u:=⟨#[60]⟩) yu1 (.int .i64 10)
 have m11:MapIs W11 w.heap.size zwx 11:=by
  have e:(zww ⟨#[60]⟩).isSome=false:=rfl
  rw [e] at m11'
  exact m11'
 have b11:Below w.heap.size w W11:=b10.trans (c11.below b10.size (λk _ e=>Nat.le_of_eq e.symm))
 clear m11' c11 m10 b10
 obtain ⟨W12,hr11,m12',c12⟩:=m11.put Tryz.underlying92 yus (u:=⟨#[61,61]⟩) yu1 (.int .i64 11)
 have m12:MapIs W12 w.heap.size zwy 12:=by
  have e:(zwx ⟨#[61,61]⟩).isSome=false:=rfl
  rw [e] at m12'
  exact m12'
 have b12:Below w.heap.size w W12:=b11.trans (c12.below b11.size (λk _ e=>Nat.le_of_eq e.symm))
 clear m12' c12 m11 b11
 have M:=hid (m12.congr z5p)
 have BB:=hid b12
 clear m12 b12
 go_enter Tryz.func35,Tryz.ntmps35
 go_wp2
 go_ret
 exact ⟨rfl,M.out,BB.out⟩
theorem zot{s:St}(h: ∀n,s=St.loop n->1<=n/\n<=4):1<=Jk s/\Jk s<=4:=by
 rcases s with ⟨to,a⟩|⟨to,k,a,c⟩|⟨to,f,a⟩|⟨f,a,c⟩|a|⟨⟩|a|n
 ·simp [Jk]
 ·simp [Jk]
 ·simp [Jk]
 ·simp [Jk]
 ·simp [Jk]
 ·simp [Jk]
 ·simp [Jk]
 ·exact h n rfl
section
variable{st:RS}{lv:Nat->Nat}{k:Nat}
theorem zmr(h:DeepL st lv)(hok:st.Ok k): ∀(f i:Nat) (x:Hd),st.hs[i]?=some x->3<=lv i+f->∀e∈x.ents,enG st.hs f e
 |0,i,x,hx,hf,e,he=>by
  rcases e with s|j
  ·exact ⟨s,rfl,h.leaf i x hx s he⟩
  ·obtain ⟨q1,s,q2,q3⟩:=h.nest i x hx j he
   obtain ⟨y,hy,_⟩:=Yy q2
   have:=h.le j (List.getElem?_eq_some_iff.1 hy).1
   omega
 |f+1,i,x,hx,hf,e,he=>by
  rcases e with s|j
  ·exact .inl ⟨s,rfl,h.leaf i x hx s he⟩
  ·obtain ⟨q1,s,q2,q3⟩:=h.nest i x hx j he
   obtain ⟨y,hy,hyk⟩:=Yy q2
   refine .inr ⟨j,y,s,rfl,hy,hyk,q3,zot (λn e=>h.loop j n (e▸q2)),hok.e14 j y hy,λe' he'=>zmr h hok f j y hy yum e' he'⟩
theorem zou(h:DeepL st lv)(hok:st.Ok k)(hx:st.hs[t]?=some x): ∀e∈x.ents,enG st.hs 3 e:=zmr h hok 3 t x hx yum
end
abbrev zb1(w:World)(sb bs:Nat):World:=w.alloc (.cells #[.map (some sb), .slice none 0 0, .int .i64 0, .slice none 0 0, .map (some bs)] 96)
theorem zsg(w:World)(T:TypeId):w.ownsRow 0 T 1 (.slice none 0 0) 0 []:=⟨rfl, .inl ⟨rfl,rfl⟩⟩
theorem zov(w:World)(sb bs B:Nat)(hs:MapIs w sb (λ_=>none) 0)(hb:MapIs w bs Sa 12)(hne:sb≠bs)(h1:B<=sb)(h2:B<=bs):
  ∃lab,RMach (λk=>B<=k/\k<(zb1 w sb bs).heap.size) lab (zb1 w sb bs) w.heap.size sb bs (.slice none 0 0) (.slice none 0 0) RS.none []:=by
 have ls:=hs.lt
 have lb:=hb.lt
 have hsz:(zb1 w sb bs).heap.size=w.heap.size+1:=yun
 have hc:Chg (λ_ _=>False) w (zb1 w sb bs):=(Chg.refl _ w).alloc _
 refine ⟨λk=>if k=w.heap.size then (0,0) else if k=sb then (0,1) else (0,4),{
  sh:=zl2 _ _ _,c0:=World.cell?_alloc_new _ _ _ 0,c1:=World.cell?_alloc_new _ _ _ 1,c2:=World.cell?_alloc_new _ _ _ 2,c3:=World.cell?_alloc_new _ _ _ 3,c4:=World.cell?_alloc_new _ _ _ 4,free:=zgf _ _ _
  mS:=hs.keep hc (λ_ e=>e),mG:=hb.keep hc (λ_ e=>e),trow:=zsg _ _,orow:=zsg _ _
  hd:=λi hi=>by simp at hi
  hs:=rfl
  lbr:=⟨if_pos rfl,by omega,by omega⟩
  lsb:=⟨?_,by omega,by omega⟩
  ltv:=λg hg=>by simp [Value.ownBlock] at hg
  lov:=λg hg=>by simp [Value.ownBlock] at hg
  lbs:=⟨?_,by omega,by omega⟩
  lhd:=λi hi=>by simp at hi}⟩
 ·show (if sb=w.heap.size then _ else if sb=sb then _ else _)=_
  rw [if_neg yum,if_pos rfl]
 ·show (if bs=w.heap.size then _ else if bs=sb then _ else _)=_
  rw [if_neg yum,if_neg yum]
structure z3m(W WR:World)(br sb bs:Nat):Prop where
 low:Below W.heap.size W WR
 env:Env WR
 m: ∃lab,RMach (λk=>W.heap.size<=k/\k<WR.heap.size) lab WR br sb bs (.slice none 0 0) (.slice none 0 0) RS.none []
theorem zwz{w2:World}(hE:Env W)(hm:MapIs w2 (W.heap.size+1) Sa 12)(hb:Below (W.heap.size+1) (W.alloc (.map #[] 0)) w2):z3m W (zb1 w2 W.heap.size (W.heap.size+1)) w2.heap.size W.heap.size (W.heap.size+1):=by
 have hsz:(W.alloc (.map #[] 0)).heap.size=W.heap.size+1:=yun
 have hb':Below (W.alloc (.map #[] 0)).heap.size (W.alloc (.map #[] 0)) w2:=by rw [hsz];exact hb
 have hs:MapIs w2 W.heap.size (λ_=>none) 0:=(zbr W).keep (M:=λ_ _=>False) (Chg.of_below hb') (λ_ e=>e)
 have low:Below W.heap.size W (zb1 w2 W.heap.size (W.heap.size+1)):=(((Below.refl _ W).alloc (Nat.le_refl _) _).trans (hb.mono yum)).trans ((Below.refl _ w2).alloc (by have:=hb.size;simp at this;omega) _)
 exact ⟨low,hE.keep (M:=λ_ _=>False) (Chg.of_below low) (λ_ _ _ e=>e),zov w2 W.heap.size (W.heap.size+1) W.heap.size hs hm yum yum yum⟩
theorem zow(hE:Env W)(s:ByteArray){er ln:Int}(hg:Jl s= .error (er,ln)):
  Cl 28 #[.string s] W λe w'=>∃bf,e= .returned (.tuple #[.pointer none, .iface 66 (ptr bf)])/\W.heap.size<=bf/\FaultAt w' bf er ln/\Below W.heap.size W w':=by
 have hmm: ∀w:World,(Instr.makeMap 88 none).run Tryz.prog w= .ok (.map (some w.heap.size)) (w.alloc (.map #[] 0)):=λ_=>rfl
 have hmf: ∀(fn:Fn) (first cap:Array Value) (w:World),(Instr.makeFunc fn first cap).run Tryz.prog w= .ok (.func fn first cap) w:=λ_ _ _ _=>rfl
 have hlo:=hE.lo
 have HE:=hid hE
 clear hE
 go_enter Tryz.func28,Tryz.ntmps28
 go_wp2_with fail
 refine (zc5 (W.alloc (.map #[] 0))).mono ?_
 rw [show (W.alloc (.map #[] 0)).heap.size=W.heap.size+1 from by simp]
 rintro e w2 ⟨rfl,hm,hb⟩
 have HG:=hid (zwz HE.out hm hb)
 clear hm hb
 go_wp2_with fail
 obtain ⟨lab,hm⟩:=HG.out.m
 have K:=zav (B:=W.heap.size) hlo HG.out.low.size HG.out.env hm s
 rw [hg] at K
 refine K.mono ?_
 clear K hm
 rintro e w3 ⟨bf,rfl,h1,h2,h3⟩
 have H2:=hid h2
 have H3:=hid (HG.out.low.trans h3)
 have h1':W.heap.size<=bf:=by have:=HG.out.low.size;omega
 clear h1 h2 h3 HG
 go_wp2
 go_ret2
 exact ⟨bf,rfl,h1',H2.out,H3.out⟩
structure Has(W w:World)(br:Nat)(st:RS):Prop where
 ok:st.Ok 2000
 deep:st.Deep
 m: ∃E lab sb bs tv ov ms,W.heap.size<E/\RMach (dom W.heap.size E w) lab w br sb bs tv ov st ms
 env:Env w
 low:Below W.heap.size W w
theorem Has.below{st:RS}(h:Has W w br st)(hb:Below w.heap.size w w'):Has W w' br st:=by
 obtain ⟨E,lab,sb,bs,tv,ov,ms,hE,hm⟩:=h.m
 refine ⟨h.ok,h.deep,⟨E,lab,sb,bs,tv,ov,ms,hE,(hm.below hb).newD (λk hk hl=>⟨hk.1,hk.2.1,hl⟩)⟩,h.env.keep (M:=λ_ _=>False) (Chg.of_below hb) (λ_ _ _ e=>e),h.low.trans (hb.mono h.low.size)⟩
def zsh(s:ByteArray)(n:Nat):Prop:=∀w,Env w->Cl 38 #[.string s, .string ⟨#[10]⟩] w λe w'=>e= .returned (.int .i64 n)/\Below w.heap.size w w'
def zsi(W:World)(st:RS)(b:Bool):Prop:=∀w br,Has W w br st->Cl 39 #[ptr br] w λe w'=>e= .returned (.bool b)/\Below w.heap.size w w'
theorem zsj{st:RS}(hB:z3m W WR br sb bs)(hg:Jl s= .ok st)(h1:st.Ok 2000)(h2: ∃lab tv ov ms,RMach (dom W.heap.size WR.heap.size w') lab w' br sb bs tv ov st ms)(h3:Env w')(h4:Below W.heap.size WR w'):Has W w' br st:=by
 obtain ⟨lab,tv,ov,ms,hm⟩:=h2
 obtain ⟨lab0,hm0⟩:=hB.m
 have:=Qd hm0.sh
 have:=hm0.lbr.2
 exact ⟨h1,zkl hg,⟨WR.heap.size,lab,sb,bs,tv,ov,ms,by omega,hm⟩,h3,hB.low.trans h4⟩
theorem Has.open{st:RS}(h:Has W w br st): ∃a k,w.cell? ⟨br,3,none⟩=some (.slice a st.opn.length k):=by
 obtain ⟨E,lab,sb,bs,tv,ov,ms,hE,hm⟩:=h.m
 obtain ⟨a,k,e⟩:=hm.openS
 exact ⟨a,k,by rw [hm.c3,e]⟩
theorem zsk(hE:Env W)(s:ByteArray){st:RS}(hg:Jl s= .ok st)(ho:st.opn.length≠1)(hn:n<1000000)(KC:Hid (zsh s n)):
  Cl 28 #[.string s] W λe w'=>∃bf,e= .returned (.tuple #[.pointer none, .iface 66 (ptr bf)])/\W.heap.size<=bf/\FaultAt w' bf 3 (n+1)/\Below W.heap.size W w':=by
 have hmm: ∀w:World,(Instr.makeMap 88 none).run Tryz.prog w= .ok (.map (some w.heap.size)) (w.alloc (.map #[] 0)):=λ_=>rfl
 have hmf: ∀(fn:Fn) (first cap:Array Value) (w:World),(Instr.makeFunc fn first cap).run Tryz.prog w= .ok (.func fn first cap) w:=λ_ _ _ _=>rfl
 have hlo:=hE.lo
 have HE:=hid hE
 clear hE
 go_enter Tryz.func28,Tryz.ntmps28
 go_wp2_with fail
 refine (zc5 (W.alloc (.map #[] 0))).mono ?_
 rw [show (W.alloc (.map #[] 0)).heap.size=W.heap.size+1 from by simp]
 rintro e w2 ⟨rfl,hm,hb⟩
 have HG:=hid (zwz HE.out hm hb)
 clear hm hb
 go_wp2_with fail
 obtain ⟨lab,hm⟩:=HG.out.m
 have K:=zav (B:=W.heap.size) hlo HG.out.low.size HG.out.env hm s
 rw [hg] at K
 refine K.mono ?_
 clear K hm
 rintro e w3 ⟨rfl,h1,h2,h3,h4⟩
 have H:=hid (zsj HG.out hg h1 h2 h3 h4)
 clear h1 h2 h3 h4 HG
 obtain ⟨oa,ok,c3⟩:=H.out.open
 have ho': ¬(st.opn.length:Int)=1:=yum
 have hob:((st.opn.length:Int)==1)=false:=by simpa using ho'
 have hw:wrap64 ((n:Int)+1)=(n:Int)+1:=yut
 go_wp2_with fail
 refine (KC.out w3 H.out.env).mono ?_
 rintro e w4 ⟨rfl,b4⟩
 have H4:=hid (H.out.low.trans (b4.mono H.out.low.size))
 clear b4 H c3
 go_wp2
 go_ret2
 exact ⟨w4.heap.size,rfl,H4.out.size,⟨World.cell?_alloc_new _ _ _ 0,World.cell?_alloc_new _ _ _ 1⟩,H4.out.trans ((Below.refl _ w4).alloc H4.out.size _)⟩
theorem zsl(hE:Env W)(s:ByteArray){st:RS}(hg:Jl s= .ok st)(ho:st.opn.length=1)(KM:Hid (zsi W st true)):
  Cl 28 #[.string s] W λe w'=>∃bf,e= .returned (.tuple #[.pointer none, .iface 66 (ptr bf)])/\W.heap.size<=bf/\FaultAt w' bf 5 0/\Below W.heap.size W w':=by
 have hmm: ∀w:World,(Instr.makeMap 88 none).run Tryz.prog w= .ok (.map (some w.heap.size)) (w.alloc (.map #[] 0)):=λ_=>rfl
 have hmf: ∀(fn:Fn) (first cap:Array Value) (w:World),(Instr.makeFunc fn first cap).run Tryz.prog w= .ok (.func fn first cap) w:=λ_ _ _ _=>rfl
 have hlo:=hE.lo
 have HE:=hid hE
 clear hE
 go_enter Tryz.func28,Tryz.ntmps28
 go_wp2_with fail
 refine (zc5 (W.alloc (.map #[] 0))).mono ?_
 rw [show (W.alloc (.map #[] 0)).heap.size=W.heap.size+1 from by simp]
 rintro e w2 ⟨rfl,hm,hb⟩
 have HG:=hid (zwz HE.out hm hb)
 clear hm hb
 go_wp2_with fail
 obtain ⟨lab,hm⟩:=HG.out.m
 have K:=zav (B:=W.heap.size) hlo HG.out.low.size HG.out.env hm s
 rw [hg] at K
 refine K.mono ?_
 clear K hm
 rintro e w3 ⟨rfl,h1,h2,h3,h4⟩
 have H:=hid (zsj HG.out hg h1 h2 h3 h4)
 clear h1 h2 h3 h4 HG
 obtain ⟨oa,ok,c3⟩:=H.out.open
 rw [ho] at c3
 go_wp2_with fail
 refine (KM.out w3 _ H.out).mono ?_
 rintro e w4 ⟨rfl,b4⟩
 have H4:=hid (H.out.low.trans (b4.mono H.out.low.size))
 clear b4 H c3
 go_wp2
 go_ret2
 exact ⟨w4.heap.size,rfl,H4.out.size,⟨World.cell?_alloc_new _ _ _ 0,World.cell?_alloc_new _ _ _ 1⟩,H4.out.trans ((Below.refl _ w4).alloc H4.out.size _)⟩
theorem zsm(hE:Env W)(s:ByteArray){st:RS}(hg:Jl s= .ok st)(ho:st.opn.length=1)(KM:Hid (zsi W st false)):
  Cl 28 #[.string s] W λe w'=>∃br,e= .returned (.tuple #[ptr br, .nilIface])/\Has W w' br st:=by
 have hmm: ∀w:World,(Instr.makeMap 88 none).run Tryz.prog w= .ok (.map (some w.heap.size)) (w.alloc (.map #[] 0)):=λ_=>rfl
 have hmf: ∀(fn:Fn) (first cap:Array Value) (w:World),(Instr.makeFunc fn first cap).run Tryz.prog w= .ok (.func fn first cap) w:=λ_ _ _ _=>rfl
 have hlo:=hE.lo
 have HE:=hid hE
 clear hE
 go_enter Tryz.func28,Tryz.ntmps28
 go_wp2_with fail
 refine (zc5 (W.alloc (.map #[] 0))).mono ?_
 rw [show (W.alloc (.map #[] 0)).heap.size=W.heap.size+1 from by simp]
 rintro e w2 ⟨rfl,hm,hb⟩
 have HG:=hid (zwz HE.out hm hb)
 clear hm hb
 go_wp2_with fail
 obtain ⟨lab,hm⟩:=HG.out.m
 have K:=zav (B:=W.heap.size) hlo HG.out.low.size HG.out.env hm s
 rw [hg] at K
 refine K.mono ?_
 clear K hm
 rintro e w3 ⟨rfl,h1,h2,h3,h4⟩
 have H:=hid (zsj HG.out hg h1 h2 h3 h4)
 clear h1 h2 h3 h4 HG
 obtain ⟨oa,ok,c3⟩:=H.out.open
 rw [ho] at c3
 go_wp2_with fail
 refine (KM.out w3 _ H.out).mono ?_
 rintro e w4 ⟨rfl,b4⟩
 have H4:=hid (H.out.below b4)
 clear b4 H c3
 go_wp2
 go_ret2
 exact ⟨_,rfl,H4.out⟩
open Go.RowKit Go.Shelf
attribute [local go_sem] Oper.semAt_some
def Zo(hs:List Hd)(e:En):Bool:=kdA hs e&&decide (8<((Jb hs e).map (Zn hs kdO 3)).sum)
def RS.ents(st:RS)(t:Nat):List En:=match st.hs[t]? with
 |some h=>h.ents
 |_=>[]
def RS.thrMuch(st:RS)(t:Nat):Bool:=decide (3<((st.ents t).map (Zn st.hs (kdA st.hs) 3)).sum)||(Jf st.hs 3 (st.ents t)).any (Zo st.hs)
def zay(st:RS):Bool:=decide (6<st.cells)||(decide (3<st.threads.length)||st.threads.any st.thrMuch)
section
variable{D:Nat->Prop}{lab:Nat->Nat×Nat}{w:World}{br sb bs:Nat}{tv ov:Value}{st:RS}{ms:List HM}
theorem zox(n:Nat)(h:RMach D lab w br sb bs tv ov st ms)(hc:6<st.cells):
  CallsIn Fence.wide n Tryz.prog 39 #[ptr br] w λe w'=>e= .returned (.bool true)/\Below w.heap.size w w':=by
 have c2:(w.alloc (.cells #[.bool false] 4)).cell? ⟨br,2,none⟩=some (.int .i64 st.cells):=(World.cell?_alloc_past _ _ _ (Qd h.sh)).trans h.c2
 have hw: ∀f,Fence.wide.fn f:=λ_=>trivial
 clear h
 refine callsIn_of_wp_marks Tryz.func39 rfl trivial ?_ rfl
 simp only [Tryz.ntmps39,List.size_toArray,List.length_cons,List.length_nil,Nat.reduceAdd,Nat.reduceSub,Array.replicate_succ,Array.replicate_zero,List.push_toArray,List.append_toArray,List.nil_append,List.cons_append]
 gi_wp2
 exact ⟨.bool true,by simp [results,Tryz.f39,go_sem],rfl,(Below.refl _ w).alloc (Nat.le_refl _) _⟩
theorem zh8(n:Nat)(h:RMach D lab w br sb bs tv ov st ms)(hc: ¬6<st.cells)(ht:3<st.threads.length):
  CallsIn Fence.wide n Tryz.prog 39 #[ptr br] w λe w'=>e= .returned (.bool true)/\Below w.heap.size w w':=by
 have lb:=Qd h.sh
 have c2:(w.alloc (.cells #[.bool false] 4)).cell? ⟨br,2,none⟩=some (.int .i64 st.cells):=(World.cell?_alloc_past _ _ _ lb).trans h.c2
 obtain ⟨ta,tk,htv⟩:=h.threadS
 have c1:(w.alloc (.cells #[.bool false] 4)).cell? ⟨br,1,none⟩=some (.slice ta st.threads.length tk):=ywg
 have ht':3<(st.threads.length:Int):=yum
 have hw: ∀f,Fence.wide.fn f:=λ_=>trivial
 clear h htv
 refine callsIn_of_wp_marks Tryz.func39 rfl trivial ?_ rfl
 simp only [Tryz.ntmps39,List.size_toArray,List.length_cons,List.length_nil,Nat.reduceAdd,Nat.reduceSub,Array.replicate_succ,Array.replicate_zero,List.push_toArray,List.append_toArray,List.nil_append,List.cons_append]
 gi_wp2
 exact ⟨.bool true,by simp [results,Tryz.f39,go_sem],rfl,(Below.refl _ w).alloc (Nat.le_refl _) _⟩
end
section
variable{D:Nat->Prop}{lab:Nat->Nat×Nat}{w w':World}{br sb bs:Nat}{tv ov:Value}{st:RS}{ms:List HM}{k:Nat}
theorem RMach.ar(h:RMach D lab w br sb bs tv ov st ms):Ar st.hs ms w:=⟨h.hd,h.hs⟩
theorem RMach.thread_at(h:RMach D lab w br sb bs tv ov st ms)(hok:st.Ok k)(i:Nat)(hi:i<st.threads.length):
  ∃g cp,tv= .slice (some ⟨g,0,none⟩) st.threads.length cp/\st.threads.length<=cp/\g<w.heap.size/\ ∃ht:st.threads[i]<ms.length,w.cell? ⟨g,i,none⟩=some (ptr ms[st.threads[i]].b)/\ms[st.threads[i]].b<w.heap.size/\
   w.cell? ⟨ms[st.threads[i]].b,0,none⟩=some ms[st.threads[i]].rv/\(∃a c,ms[st.threads[i]].rv= .slice a (st.ents st.threads[i]).length c)/\w.ownsRow 0 153 1 ms[st.threads[i]].rv (st.ents st.threads[i]).length ((st.ents st.threads[i]).map (enV (Qu ms)))/\(st.ents st.threads[i]).length<=14:=by
 have hr:=h.trow
 have ht:st.threads[i]<ms.length:=by rw [h.len];exact hok.ent.2.1 _ (List.getElem_mem hi)
 have hx:=h.hsAt _ ht
 have he:st.ents st.threads[i]=ms[st.threads[i]].h.ents:=by unfold RS.ents;rw [hx]
 have hd:=h.hd _ ht
 obtain ⟨g,cp,htv,hcp⟩: ∃g cp,tv= .slice (some ⟨g,0,none⟩) st.threads.length cp/\st.threads.length<=cp:=yug
 subst htv
 obtain ⟨q1,_,_⟩:=Qm hr i hi
 refine ⟨g,cp,rfl,hcp,(hr.lt g rfl).2,ht,?_,Qd hd.sh,hd.rc,?_,by rw [he];exact hd.row,by rw [he];exact hok.e14 _ _ hx⟩
 ·rw [q1,List.getElem?_map,List.getElem?_eq_getElem hi]
  simp [idP,Qu,List.getElem?_eq_getElem ht]
 ·rw [he]
  rcases hd.row.2 with ⟨e1,e2⟩|⟨g',cap',cur,e1,_⟩
  ·exact ⟨Option.none,0,by rw [e1,e2]⟩
  ·exact ⟨_,_,e1⟩
theorem zy1(hd:st.Deep)(hok:st.Ok k)(t:Nat): ∀e∈st.ents t,enG st.hs 3 e:=by
 obtain ⟨lv,hd⟩:=hd
 intro e he
 unfold RS.ents at he
 cases hx:st.hs[t]? with
 |none=>simp [hx] at he
 |some x=>
  rw [hx] at he
  exact zou hd hok hx e he
theorem zgs(h:RMach D lab w br sb bs tv ov st ms)(hok:st.Ok k)(hd:st.Deep)(i:Nat)(hi:i<st.threads.length)(ht:st.threads[i]<ms.length)(hb:Below w.heap.size w w'):
  Cl 67 #[ms[st.threads[i]].rv] w' λr w''=>r= .returned (.int .i64 ((st.ents st.threads[i]).map (Zn st.hs (kdA st.hs) 3)).sum)/\Below w'.heap.size w' w'':=by
 obtain ⟨g,cp,_,_,_,_,_,_,_,_,hrow,h14⟩:=(h.below hb).thread_at hok i hi
 exact zrs yum (h.below hb).ar hrow h14 (zy1 hd hok _)
end
open Go.RowKit Go.Shelf
attribute [local go_sem] Oper.semAt_some
abbrev z5q(br Br:Nat)(c:Int)(tv:Value)(N k:Nat)(u4 u29 u30 u31 u32 u33 u34 u35 u36 u37 u38 u39 u40 u41 u42 u43 u44 u61:Value)(Ds:List Nat):Act:={tmps:=#[ptr br,undef, .pointer (some ⟨Br,0,none⟩),undef,u4,undef,undef,undef,ptr br, .pointer (some ⟨br,0,none⟩), .pointer (some ⟨br,2,none⟩), .int .i64 c, .bool false, .bool false,ptr br, .pointer (some ⟨br,0,none⟩), .pointer (some ⟨br,0,none⟩), .pointer (some ⟨br,1,none⟩),tv, .int .i64 (N:Int), .bool false, .bool false,ptr br, .pointer (some ⟨br,0,none⟩), .pointer (some ⟨br,0,none⟩), .pointer (some ⟨br,1,none⟩),tv, .int .i64 (N:Int), .int .i64 (k:Int),u29,u30,u31,u32,u33,u34,u35,u36,u37,u38,u39,u40,u41,u42,u43,u44,undef,undef,undef,undef,undef,undef,undef,undef,undef,undef,undef,undef,undef,undef,undef,undef,u61],defers:=z0v Ds}
structure z5r(w:World)(st:RS)(k:Nat)(Ds:List Nat)(W:World):Prop where
 low:Below w.heap.size w W
 box:Boxed W w.heap.size 4 (.bool false)
 nd:Ds.Nodup
 ds: ∀D∈Ds,w.heap.size+1<=D/\D<W.heap.size/\W.heap[D]?=some (.deferred (some []))
 no: ∀j (h:j<st.threads.length),j<k->st.thrMuch st.threads[j]=false
theorem zb2{Ds:List Nat}{b:Bool}(h2:tmps[2]?=some (.pointer (some ⟨w.heap.size,0,none⟩)))(low:Below w.heap.size w W)(hb:W.cell? ⟨w.heap.size,0,none⟩=some (.bool b))(nd:Ds.Nodup)(ds: ∀D∈Ds,w.heap.size+1<=D/\W.heap[D]?=some (.deferred (some [])))(bb:Bool)(e:bb=b):
  LeavesInM Fence.wide n Tryz.prog Tryz.f39 tmps (λe w'=>e= .returned (.bool bb)/\Below w.heap.size w w') (z0v Ds) .returning W:=by
 refine Iu w Ds W nd (λD hD=>⟨by have:=(ds D hD).1;omega,(ds D hD).2⟩) (λW' hW' hk=>?_)
 have hc:W'.cell? ⟨w.heap.size,0,none⟩=some (.bool b):=by
  have hn:w.heap.size∉Ds:=λe=>by have:=(ds _ e).1;omega
  rw [<-hb]
  unfold World.cell?
  simp only [hk _ hn]
 refine ⟨.bool b,?_,by rw [e],low.trans hW'⟩
 simp [results,Tryz.f39,go_sem,h2,hc]
end Go.Proofs.YtkenoofmkbghiaaGreatDoor
