import Derived.Test.YtphcopbffecceaaGreatDoorP16
import Derived.Test.YtphcopbffecceaaGreatDoorP17
import Derived.Laws.MakeOwn
set_option maxRecDepth 100000
set_option maxHeartbeats 4000000
namespace Go.Proofs.YtphcopbffecceaaGreatDoor
open Go.RowKit
variable{W W' w w' w3:World}{b bm k mb n:Nat}{l:List UInt8}{D:Nat->Prop}{lab:Nat->Nat×Nat}{tv v:Value}{m:Nat->Int}{s u:ByteArray}{us:List ByteArray}{M:Nat->Nat->Prop}{e:TypeId}{xs:List Value}
theorem Iz: ∀(l:List UInt8) (acc:Nat),Dig l->acc<=18446744073709551615 ->
  (((acc:Int)*10^l.length+Xi l<=18446744073709551615/\ ∃u:Nat,Lib.parseUintM 18446744073709551615 acc l= .ok u/\(u:Int)=(acc:Int)*10^l.length+Xi l)\/
   (18446744073709551615<(acc:Int)*10^l.length+Xi l/\Lib.parseUintM 18446744073709551615 acc l= .range))
 |[],acc,_,h=> .inl ⟨by simp [Xi];omega,acc,rfl,by simp [Xi]⟩
 |c::r,acc,hd,hb=>by
  have hc:=hd c (List.mem_cons_self)
  have hd':Dig r:=λb hb=>hd b (List.mem_cons_of_mem _ hb)
  have hi:=Fc hd'
  have hp:(0:Int)<10^r.length:=Int.pow_pos yal
  obtain ⟨d,hdd⟩: ∃d:Nat,d=c.toNat- 48:=⟨_,rfl⟩
  have hval:(acc:Int)*10^(c::r).length+Xi (c::r)=((acc*10+d:Nat):Int)*10^r.length+Xi r:=by
   rw [Iy,List.length_cons,Int.pow_succ]
   have hcast:((acc*10+d:Nat):Int)=(acc:Int)*10+((c.toNat:Int)- 48):=yai
   rw [hcast]
   generalize (10:Int)^r.length=e
   rw [Int.add_mul,Int.mul_assoc,Int.mul_comm 10 e]
   omega
  rw [hval]
  unfold Lib.parseUintM
  rw [if_pos hc,<-hdd]
  have hlow:((acc*10+d:Nat):Int)<=((acc*10+d:Nat):Int)*10^r.length:=by
   have:=Int.mul_le_mul_of_nonneg_left (show (1:Int)<=10^r.length by omega) (show (0:Int)<=((acc*10+d:Nat):Int) by omega)
   omega
  by_cases h1:1844674407370955162<=acc
  ·rw [if_pos h1]
   exact .inr ⟨by omega,rfl⟩
  rw [if_neg h1]
  by_cases h2:18446744073709551615<acc*10+d
  ·rw [if_pos h2]
   exact .inr ⟨by omega,rfl⟩
  rw [if_neg h2]
  exact Iz r (acc*10+d) hd' yai
theorem zg0:l.all zjl=true↔Dig l:=by
 simp only [List.all_eq_true,zjl,Bool.and_eq_true,decide_eq_true_eq]
 exact Iff.rfl
theorem Ov(h:l.head?≠some 45):(Jg ⟨l.toArray⟩).data.toList=l:=by
 unfold Jg Lib.trimPrefix
 cases l with
 |nil=>rfl
 |cons a l=>
  have ha:((45:UInt8)==a)=false:=by simpa using λe:(45:UInt8)=a=>h (by simp [e])
  simp [Lib.hasPrefix,List.isPrefixOf,ha]
theorem Ow:(Jg ⟨(45::l).toArray⟩).data.toList=l:=by
 unfold Jg Lib.trimPrefix
 simp [Lib.hasPrefix,List.isPrefixOf]
theorem Zp(h0:l≠[])(hd:Dig l)(hn:l.head?=some 48->l=[48])(hv:Xi l<9223372036854775808):Qk ⟨l.toArray⟩=some (Xi l):=by
 have h45:l.head?≠some 45:=by
  cases l with
  |nil=>simp
  |cons a l=>
   have:=hd a List.mem_cons_self
   intro e
   simp at e
   subst e
   simp at this
 have hN:Jd ⟨l.toArray⟩=true:=by
  unfold Jd
  rw [Ov h45,if_neg h0,if_neg (by rintro ⟨e1,e2⟩;exact e2 (by rw [hn e1])),zg0]
  exact hd
 unfold Qk
 rw [if_pos hN]
 show (match Lib.parseIntB 64 l with| .ok v=>some v|_=>none)=_
 have hr:=Fc hd
 cases l with
 |nil=>exact absurd rfl h0
 |cons a r=>
  have ha:=hd a List.mem_cons_self
  have hne: ¬(a.toNat=43\/a.toNat=45):=yai
  rcases Iz (a::r) 0 hd yai with ⟨h1,u,h2,h3⟩|⟨h1,_⟩
  ·unfold Lib.parseIntB
   simp only [if_neg hne]
   have e:Lib.parseUintB 64 (a::r)= .ok u:=ydo
   rw [e]
   have hu:(u:Int)=Xi (a::r):=by rw [h3];simp
   have hnn: ¬a.toNat=45:=yai
   simp only [hnn,not_false_eq_true,true_and,false_and,if_false]
   rw [if_neg yai,hu]
  ·simp at h1;omega
theorem Xa(h0:l≠[])(hd:Dig l)(hn:l.head?≠some 48)(hv:Xi l<=9223372036854775808):Qk ⟨(45::l).toArray⟩=some (-(Xi l)):=by
 have hN:Jd ⟨(45::l).toArray⟩=true:=by
  unfold Jd
  rw [Ow,if_neg h0,if_neg (λe=>hn e.1),zg0]
  exact hd
 unfold Qk
 rw [if_pos hN]
 show (match Lib.parseIntB 64 (45::l) with| .ok v=>some v|_=>none)=_
 have hr:=Fc hd
 rcases Iz l 0 hd yai with ⟨h1,u,h2,h3⟩|⟨h1,_⟩
 ·unfold Lib.parseIntB
  have e45:(45:UInt8).toNat=45:=rfl
  simp only [e45,or_true,if_true]
  have e:Lib.parseUintB 64 l= .ok u:=ydo
  rw [e]
  have hu:(u:Int)=Xi l:=by rw [h3];simp
  simp only [not_true_eq_false,false_and,if_false,true_and]
  rw [if_neg yai,hu]
 ·simp at h1;omega
theorem Jp(h:Jd s=false):Qk s=none:=by unfold Qk;simp [h]
theorem Vc(h45:l.head?≠some 45)(h:Dig l->l≠[]->(l.head?=some 48->l=[48])->9223372036854775808<=Xi l):Qk ⟨l.toArray⟩=none:=by
 by_cases h0:l=[]
 ·exact Jp (by unfold Jd;rw [Ov h45,if_pos h0])
 by_cases hn:l.head?=some 48/\(⟨l.toArray⟩:ByteArray)≠⟨#[48]⟩
 ·exact Jp (by unfold Jd;rw [Ov h45,if_neg h0,if_pos hn])
 by_cases hd:Dig l
 ·have hv:=h hd h0 (λe=>by
   have:(⟨l.toArray⟩:ByteArray)=⟨#[48]⟩:=Classical.byContradiction λe2=>hn ⟨e,e2⟩
   have e3:l.toArray= #[48]:=congrArg ByteArray.data this
   have:=congrArg Array.toList e3
   simpa using this)
  unfold Qk
  split
  ·show (match Lib.parseIntB 64 l with| .ok v=>some v|_=>none)=_
   cases l with
   |nil=>exact absurd rfl h0
   |cons a r=>
    have ha:=hd a List.mem_cons_self
    have hne: ¬(a.toNat=43\/a.toNat=45):=yai
    unfold Lib.parseIntB
    simp only [if_neg hne]
    have hU:Lib.parseUintB 64 (a::r)=Lib.parseUintM 18446744073709551615 0 (a::r):=by unfold Lib.parseUintB;rw [if_neg h0]
    rw [hU]
    rcases Iz (a::r) 0 hd yai with ⟨h1,u,h2,h3⟩|⟨h1,h2⟩
    ·rw [h2]
     have hu:(u:Int)=Xi (a::r):=by rw [h3];simp
     have hnn: ¬a.toNat=45:=yai
     simp only [hnn,not_false_eq_true,true_and]
     rw [if_pos yai]
    ·rw [h2]
  ·rfl
 ·refine Jp ?_
  unfold Jd
  rw [Ov h45,if_neg h0,if_neg hn]
  exact Bool.eq_false_iff.2 (λe=>hd (zg0.1 e))
theorem Vr(h:Dig l->l≠[]->l.head?≠some 48->9223372036854775808<Xi l):Qk ⟨(45::l).toArray⟩=none:=by
 by_cases h0:l=[]
 ·exact Jp (by unfold Jd;rw [Ow,if_pos h0])
 by_cases hn:l.head?=some 48
 ·refine Jp ?_
  have hne:(⟨(45::l).toArray⟩:ByteArray)≠⟨#[48]⟩:=λe=>by
   have e3:(45::l).toArray= #[48]:=congrArg ByteArray.data e
   have:=congrArg Array.toList e3
   simp at this
  unfold Jd
  rw [Ow,if_neg h0,if_pos ⟨hn,hne⟩]
 by_cases hd:Dig l
 ·have hv:=h hd h0 hn
  unfold Qk
  split
  ·show (match Lib.parseIntB 64 (45::l) with| .ok v=>some v|_=>none)=_
   unfold Lib.parseIntB
   have e45:(45:UInt8).toNat=45:=rfl
   simp only [e45,or_true,if_true]
   have hU:Lib.parseUintB 64 l=Lib.parseUintM 18446744073709551615 0 l:=by unfold Lib.parseUintB;rw [if_neg h0]
   rw [hU]
   rcases Iz l 0 hd yai with ⟨h1,u,h2,h3⟩|⟨h1,h2⟩
   ·rw [h2]
    have hu:(u:Int)=Xi l:=by rw [h3];simp
    simp only [not_true_eq_false,false_and,if_false,true_and]
    rw [if_pos yai]
   ·rw [h2]
  ·rfl
 ·refine Jp ?_
  unfold Jd
  rw [Ow,if_neg h0,if_neg (λe=>hn e.1)]
  exact Bool.eq_false_iff.2 (λe=>hd (zg0.1 e))
theorem zm6{a:UInt8}(hd:Dig (a::l))(h:a≠48):10^l.length<=Xi (a::l):=by
 have ha:=hd a List.mem_cons_self
 have hi:=Fc (l:=l) (λb hb=>hd b (List.mem_cons_of_mem _ hb))
 have h49:49<=a.toNat:=by
  have:a.toNat≠48:=λe=>h (UInt8.toNat_inj.1 e)
  omega
 rw [Iy]
 have hp:(0:Int)<10^l.length:=Int.pow_pos yal
 have:=Int.mul_le_mul_of_nonneg_right (show (1:Int)<=(a.toNat:Int)- 48 by omega) (Int.le_of_lt hp)
 omega
theorem zih(t:ByteArray):(∀j (h:j<t.size),48<=t[j].toNat/\t[j].toNat<=57)\/ ∃k0,∃h:k0<t.size,(∀j (h:j<t.size),j<k0->48<=t[j].toNat/\t[j].toNat<=57)/\(t[k0].toNat<48\/57<t[k0].toNat):=by
 have: ∀n,(∀j (h:j<t.size),j<n->48<=t[j].toNat/\t[j].toNat<=57)\/ ∃k0,∃h:k0<t.size,(∀j (h:j<t.size),j<k0->48<=t[j].toNat/\t[j].toNat<=57)/\(t[k0].toNat<48\/57<t[k0].toNat):=by
  intro n
  induction n with
  |zero=>exact .inl (λj h hj=>absurd hj (Nat.not_lt_zero _))
  |succ n ih=>
   rcases ih with ih|ih
   ·by_cases hn:n<t.size
    ·by_cases hg:48<=t[n].toNat/\t[n].toNat<=57
     ·left
      intro j h hj
      by_cases e:j=n
      ·subst e;exact hg
      ·exact ih j h yai
     ·exact .inr ⟨n,hn,ih,by omega⟩
    ·exact .inl (λj h hj=>ih j h yai)
   ·exact .inr ih
 rcases this t.size with h|h
 ·exact .inl (λj hj=>h j hj hj)
 ·exact .inr h
theorem zs4:(∀j (h:j<(⟨l.toArray⟩:ByteArray).size),48<=(⟨l.toArray⟩:ByteArray)[j].toNat/\(⟨l.toArray⟩:ByteArray)[j].toNat<=57)↔Dig l:=by
 constructor
 ·intro h b hb
  obtain ⟨j,hj,rfl⟩:=List.mem_iff_getElem.1 hb
  have:=h j (by show j<l.toArray.size;simpa using hj)
  simpa [ByteArray.getElem_eq_getElem_data] using this
 ·intro h j hj
  have hj':j<l.length:=by have:j<l.toArray.size:=hj;simpa using this
  have:=h l[j] (List.getElem_mem hj')
  simpa [ByteArray.getElem_eq_getElem_data] using this
theorem Gb: ∀(x y:List UInt8),x.length=y.length->Op.bytesLess x y=false->x≠y->Op.bytesLess y x=true
 |[],[],_,_,h=>absurd rfl h
 |[],_::_,h,_,_=>by simp at h
 |_::_,[],h,_,_=>by simp at h
 |a::x,b::y,h,h1,h2=>by
  have hl:x.length=y.length:=yb2
  simp only [Op.bytesLess,Bool.or_eq_false_iff,decide_eq_false_iff_not,Bool.and_eq_false_iff,beq_eq_false_iff_ne] at h1
  simp only [Op.bytesLess,Bool.or_eq_true,decide_eq_true_eq,Bool.and_eq_true,beq_iff_eq]
  obtain ⟨h3,h4⟩:=h1
  by_cases e:a=b
  ·subst e
   right
   refine ⟨rfl,Gb x y hl ?_ (λe=>h2 (by rw [e]))⟩
   rcases h4 with h4|h4
   ·exact absurd rfl h4
   ·exact h4
  ·left
   rw [UInt8.lt_iff_toNat_lt] at*
   have:a.toNat≠b.toNat:=λe'=>e (UInt8.toNat_inj.1 e')
   omega
theorem zb5{v:Int}(h1:-9223372036854775808<=v)(h2:v<9223372036854775808):wrap64 v=v:=yao
theorem zb6(l:List UInt8):(⟨l.toArray⟩:ByteArray).size=l.length:=ybv
theorem zs5(l:List UInt8):(⟨l.toArray⟩:ByteArray).toList=l:=by rw [ByteArray.toList_eq]
theorem zg1(a:UInt8)(l:List UInt8)(h:0<(⟨(a::l).toArray⟩:ByteArray).size):(⟨(a::l).toArray⟩:ByteArray)[0]=a:=ycs
theorem zef:Dig Sb:=ydp
theorem zeg:Dig Sc:=ydp
theorem Oa:Xi Sb=9223372036854775807:=yal
theorem Ob:Xi Sc=9223372036854775808:=yal
abbrev Oc(s:ByteArray):Ending:= .returned (.tuple #[.int .i64 ((Qk s).getD 0), .bool (Qk s).isSome])
theorem Yj{v:Int}(h:Qk s=some v):Oc s= .returned (.tuple #[.int .i64 v, .bool true]):=by simp [Oc,h]
theorem Vy(h:Qk s=none):Oc s= .returned (.tuple #[.int .i64 0, .bool false]):=by simp [Oc,h]
theorem zdb{m:Nat}(h:m<=n):(10:Int)^m<=10^n:=by
 obtain ⟨k,rfl⟩:=Nat.exists_eq_add_of_le h
 rw [Int.pow_add]
 have h1:(0:Int)<10^m:=Int.pow_pos yal
 have h2:(0:Int)<10^k:=Int.pow_pos yal
 have:=Int.mul_le_mul_of_nonneg_left (show (1:Int)<=10^k by omega) (Int.le_of_lt h1)
 omega
theorem zk5(w:World)(a:UInt8)(r:List UInt8)(ha:a≠45):
  Cl 41 #[.string ⟨(a::r).toArray⟩] w λe w'=>e=Oc ⟨(a::r).toArray⟩/\w'=w:=by
 have hsz:(⟨(a::r).toArray⟩:ByteArray).size=r.length+1:=by rw [zb6];rfl
 have h0:0<(⟨(a::r).toArray⟩:ByteArray).size:=yai
 have hd0:=zg1 a r h0
 have hm: ¬((⟨(a::r).toArray⟩:ByteArray)[0].toNat:Int)=45:=by rw [hd0];intro e;exact ha (UInt8.toNat_inj.1 ycd)
 have h45:(a::r).head?≠some 45:=by simpa using ha
 have hT:=zs5 (a::r)
 have hD:=zs4 (l:=a::r)
 have hF:=zih ⟨(a::r).toArray⟩
 by_cases hlong:19<r.length+1
 ·rw [Vy (Vc h45 λhd _ hn=>?_)]
  ·exact z04 w _ yai hm
  ·have h48:a≠48:=λe=>by
    have:=hn (by simp [e])
    simp at this
    rw [this.2] at hlong
    simp at hlong
   have:=zm6 hd h48
   have:=zdb (show 19<=r.length by omega)
   have e19:(10:Int)^19=10000000000000000000:=yal
   omega
 by_cases hz:a=48
 ·subst hz
  by_cases hr:r=[]
  ·subst hr
   rw [Yj (Zp yaj (by intro b hb;simp at hb;subst hb;decide) (λ_=>rfl) yal)]
   exact z05 w
  ·have hl:0<r.length:=List.length_pos_iff.2 hr
   rw [Vy (Vc h45 λ_ _ hn=>by have:=hn rfl;simp at this;exact absurd this hr)]
   have hz':((⟨(48::r).toArray⟩:ByteArray)[0].toNat:Int)=48:=by rw [hd0];rfl
   by_cases h19:r.length+1=19
   ·exact zk0 w _ yai (by rw [hT];simp [Op.bytesLess]) hz'
   ·exact zkz w _ yai yai hz'
 have hz': ¬((⟨(a::r).toArray⟩:ByteArray)[0].toNat:Int)=48:=by rw [hd0];intro e;exact hz (UInt8.toNat_inj.1 ycd)
 have hn48:(a::r).head?=some 48->a::r=[48]:=λe=>by simp at e;exact absurd e hz
 by_cases h19:r.length+1=19
 ·by_cases hb:Op.bytesLess (a::r) Sb=true
  ·rcases hF with hF|⟨k0,hk0,hF,hbad⟩
   ·have hd:=hD.1 hF
    have hlt:=(zbb (a::r) Sb hd zef yce).1 hb
    rw [Oa] at hlt
    have hin:=Fc hd
    rw [Yj (Zp yaj hd hn48 yai)]
    have k:=zky w ⟨(a::r).toArray⟩ yai ycf hm hz' hF
    rw [show (⟨(a::r).toArray⟩:ByteArray).data.toList=a::r from rfl,zb5 yai yai] at k
    exact k
   ·have hnd: ¬Dig (a::r):=λhd=>by have:=hD.2 hd k0 hk0;omega
    rw [Vy (Vc h45 λhd _ _=>absurd hd hnd)]
    exact zxc w _ h0 yai ycf hm hz' k0 hk0 hF hbad
  ·have hb':Op.bytesLess (a::r) Sb=false:=by simpa using hb
   by_cases he:a::r=Sb
   ·have hd:Dig (a::r):=by rw [he];exact zef
    rw [Yj (Zp yaj hd hn48 (by rw [he,Oa];decide))]
    have k:=z07 w ⟨(a::r).toArray⟩ yai (by rw [hT];exact he) hm hz' (hD.2 hd)
    rw [zm5 _ _ rfl,show (⟨(a::r).toArray⟩:ByteArray).data.toList=a::r from rfl,zb5 (by rw [he,Oa];decide) (by rw [he,Oa];decide)] at k
    exact k
   ·rw [Vy (Vc h45 λhd _ _=>?_)]
    ·exact z3u w _ yai hm (by rw [hT];exact hb') (by rw [hT];simpa using he)
    ·have:=(zbb Sb (a::r) zef hd (by simpa using h19.symm)).1 (Gb _ _ yce hb' he)
     rw [Oa] at this
     omega
 ·rcases hF with hF|⟨k0,hk0,hF,hbad⟩
  ·have hd:=hD.1 hF
   have hin:=Fc hd
   have hp:=zdb (show (a::r).length<=18 by simp;omega)
   have e18:(10:Int)^18=1000000000000000000:=yal
   rw [Yj (Zp yaj hd hn48 yai)]
   have k:=zgz w ⟨(a::r).toArray⟩ h0 yai hm hz' hF
   rw [show (⟨(a::r).toArray⟩:ByteArray).data.toList=a::r from rfl,zb5 yai yai] at k
   exact k
  ·have hnd: ¬Dig (a::r):=λhd=>by have:=hD.2 hd k0 hk0;omega
   rw [Vy (Vc h45 λhd _ _=>absurd hd hnd)]
   exact zxb w _ h0 yai hm hz' k0 hk0 hF hbad
theorem zxg(r:List UInt8):(⟨(45::r).toArray⟩:ByteArray).extract 1 (⟨(45::r).toArray⟩:ByteArray).size=⟨r.toArray⟩:=by
 apply ByteArray.ext
 apply Array.ext'
 rw [zb6,ByteArray.data_extract]
 simp
theorem zii(w:World)(s:ByteArray)(a:UInt8)(r':List UInt8)(hs:(⟨(45::a::r').toArray⟩:ByteArray)=s)(hlong: ¬19<(a::r').length):
  Cl 41 #[.string s] w λe w'=>e=Oc s/\w'=w:=by
 have hsz:s.size=(a::r').length+1:=by rw [<-hs,zb6];rfl
 have hl:0<(a::r').length:=yaj
 have h0:1<s.size:=yai
 have hm:(s[0].toNat:Int)=45:=by subst hs;rw [zg1];rfl
 have hX:s.extract 1 s.size=⟨(a::r').toArray⟩:=by rw [<-hs];exact zxg _
 have hT:(s.extract 1 s.size).toList=a::r':=by rw [hX];exact zs5 _
 have hxs:(s.extract 1 s.size).size=(a::r').length:=by rw [hX];exact zb6 _
 have hD:(∀j (h:j<(s.extract 1 s.size).size),48<=(s.extract 1 s.size)[j].toNat/\(s.extract 1 s.size)[j].toNat<=57)↔Dig (a::r'):=by rw [hX];exact zs4
 have hF:=zih (s.extract 1 s.size)
 have hx:0<(s.extract 1 s.size).size:=yai
 have hx0:(s.extract 1 s.size)[0]=a:=by simp only [hX];exact zg1 a r' (by rw [zb6];simp)
 by_cases hz:a=48
 ·subst hz
  have hnone:Qk s=none:=by rw [<-hs];exact Vr λ_ _ hn=>absurd rfl hn
  rw [Vy hnone]
  have hz':((s.extract 1 s.size)[0].toNat:Int)=48:=by rw [hx0];rfl
  by_cases h19:(48::r').length=19
  ·exact zk2 w s h0 hm yai (by rw [hT];simp [Op.bytesLess]) hx hz'
  ·exact zk1 w s h0 hm yai hx hz'
 have hz': ¬((s.extract 1 s.size)[0].toNat:Int)=48:=by rw [hx0];intro e;exact hz (UInt8.toNat_inj.1 ycd)
 have hn48:(a::r').head?≠some 48:=by simpa using hz
 have hall:zgx (s.extract 1 s.size) (s.size- 1)=Xi (a::r'):=by
  rw [zm5 _ _ yai,hX]
 by_cases h19:(a::r').length=19
 ·by_cases hb:Op.bytesLess (a::r') Sc=true
  ·rcases hF with hF|⟨k0,hk0,hF,hbad⟩
   ·have hd:=hD.1 hF
    have hlt:=(zbb (a::r') Sc hd zeg yce).1 hb
    rw [Ob] at hlt
    have hin:=Fc hd
    have hv:Qk s=some (-(Xi (a::r'))):=ydq
    rw [Yj hv]
    have k:=zk4 w s h0 hm yai ycf hx hz' (hD.2 hd)
    rw [hall,zb5 yai yai] at k
    exact k
   ·have hnd: ¬Dig (a::r'):=λhd=>by have:=hD.2 hd k0 hk0;omega
    have hv:Qk s=none:=by rw [<-hs];exact Vr λhd _ _=>absurd hd hnd
    rw [Vy hv]
    exact zxf w s h0 hm yai ycf hx hz' k0 hk0 hF hbad
  ·have hb':Op.bytesLess (a::r') Sc=false:=by simpa using hb
   by_cases he:a::r'=Sc
   ·have hd:Dig (a::r'):=by rw [he];exact zeg
    have hv:Qk s=some (-(Xi (a::r'))):=by rw [<-hs];exact Xa yaj hd hn48 (by rw [he,Ob];decide)
    rw [Yj hv]
    have k:=z08 w s h0 hm yai (by rw [hT];exact he) hx hz' (hD.2 hd)
    rw [hall,zb5 (by rw [he,Ob];decide) (by rw [he,Ob];decide)] at k
    exact k
   ·have hv:Qk s=none:=by
     rw [<-hs]
     refine Vr λhd _ _=>?_
     have:=(zbb Sc (a::r') zeg hd (by simpa using h19.symm)).1 (Gb _ _ yce hb' he)
     rw [Ob] at this
     exact this
    rw [Vy hv]
    exact z3v w s h0 hm yai (by rw [hT];exact hb') (by rw [hT];exact he)
 ·rcases hF with hF|⟨k0,hk0,hF,hbad⟩
  ·have hd:=hD.1 hF
   have hin:=Fc hd
   have hp:=zdb (show (a::r').length<=18 by omega)
   have e18:(10:Int)^18=1000000000000000000:=yal
   have hv:Qk s=some (-(Xi (a::r'))):=ydq
   rw [Yj hv]
   have k:=zk3 w s h0 hm yai hx hz' (hD.2 hd)
   rw [hall,zb5 yai yai] at k
   exact k
  ·have hnd: ¬Dig (a::r'):=λhd=>by have:=hD.2 hd k0 hk0;omega
   have hv:Qk s=none:=by rw [<-hs];exact Vr λhd _ _=>absurd hd hnd
   rw [Vy hv]
   exact zxe w s h0 hm yai hx hz' k0 hk0 hF hbad
theorem zk6(w:World)(r:List UInt8):
  Cl 41 #[.string ⟨(45::r).toArray⟩] w λe w'=>e=Oc ⟨(45::r).toArray⟩/\w'=w:=by
 by_cases hr:r=[]
 ·subst hr
  rw [Vy (Vr λ_ h _=>absurd rfl h)]
  exact zxd w
 have hl:0<r.length:=List.length_pos_iff.2 hr
 have hsz:(⟨(45::r).toArray⟩:ByteArray).size=r.length+1:=by rw [zb6];rfl
 have h0:1<(⟨(45::r).toArray⟩:ByteArray).size:=yai
 have hm:((⟨(45::r).toArray⟩:ByteArray)[0].toNat:Int)=45:=by rw [zg1];rfl
 by_cases hlong:19<r.length
 ·rw [Vy (Vr λhd _ hn=>?_)]
  ·exact z06 w _ h0 hm yai
  ·cases r with
   |nil=>exact absurd rfl hr
   |cons a r=>
    have:=zm6 hd (by simpa using hn)
    have:=zdb (show 19<=r.length by simp at hlong;omega)
    have e19:(10:Int)^19=10000000000000000000:=yal
    omega
 obtain ⟨a,r',rfl⟩: ∃a r',r=a::r':=by
  cases r with
  |nil=>exact absurd rfl hr
  |cons a r'=>exact ⟨a,r',rfl⟩
 exact zii w _ a r' rfl hlong
theorem Ym(w:World)(s:ByteArray):Cl 41 #[.string s] w λe w'=>e=Oc s/\w'=w:=by
 obtain ⟨⟨l⟩⟩:=s
 cases l with
 |nil=>
  rw [Vy (Vc (l:=[]) yaj λ_ h _=>absurd rfl h)]
  exact zxa w
 |cons a r=>
  by_cases ha:a=45
  ·subst ha;exact zk6 w r
  ·exact zk5 w a r ha
abbrev Xy:List ByteArray:=[zyl,zf9,zae,zqd,ze9,zff,zzh,zzi,wJz,zjn,znx]
abbrev Xz:List ByteArray:=[⟨#[100,97]⟩,⟨#[100,97,107]⟩,⟨#[97,107,98]⟩,⟨#[100,97,107,98,99]⟩,⟨#[100,97,107,98]⟩,⟨#[]⟩,⟨#[97]⟩,⟨#[116]⟩,⟨#[97,116]⟩,⟨#[110]⟩,⟨#[]⟩]
section
variable(w:World)(u:ByteArray)
theorem zpn(n:Nat)(hn:n<12)(hs:Hid (∀j,j<n->Jc j≠u))(he:Hid (Jc n=u)):
  Cl 46 #[.string u] w λe w'=>e= .returned (.string ⟨#[100,97,98]⟩)/\Below w.heap.size w w':=by
 go_enter Tryz.func46,Tryz.ntmps46
 go_wp2_with fail
 refine (za5 w).mono ?_
 rintro e W1 ⟨rfl,h1,b1⟩
 have H1:=hid h1
 have B1:=hid b1
 clear h1 b1
 go_wp2_with fail
 refine (Ou W1 w.heap.size 12 ((List.range 12).map Jc) u yaj H1 n (by simpa using hn) (λj hj=>by simpa using hs.out j hj) (by show ((List.range 12).map Jc)[n]'(by simpa using hn)=u;rw [List.getElem_map,List.getElem_range];exact he.out)).mono ?_
 rintro e W2 ⟨rfl,rfl⟩
 have h0:(0:Int)<=(n:Int):=yai
 go_wp2
 go_ret
 exact ⟨rfl,B1.out⟩
theorem zer(W:World)(ws:List ByteArray)(t:TypeId):StrsAt (W.alloc (.cells (ws.map Value.string).toArray t)) W.heap.size ws:=by
 intro j hj
 rw [World.cell?_alloc_new]
 simp [List.getElem?_map,List.getElem?_eq_getElem hj]
theorem zpo(hv:Hid (∀j,j<12->Jc j≠u))(n:Nat)(hn:n<Xy.length)(hs:Hid (∀j (h:j<n),Xy[j]≠u))(he:Hid (Xy[n]=u)):
  Cl 46 #[.string u] w λe w'=>e= .returned (.string Xz[n])/\Below w.heap.size w w':=by
 go_enter Tryz.func46,Tryz.ntmps46
 go_wp2_with fail
 refine (za5 w).mono ?_
 rintro e W1 ⟨rfl,h1,b1⟩
 have H1:=hid h1
 have B1:=hid b1
 clear h1 b1
 go_wp2_with fail
 refine (Ga W1 w.heap.size 12 ((List.range 12).map Jc) u yaj H1 (λj hj=>by simpa using hv.out j ya4)).mono ?_
 rintro e W2 ⟨rfl,rfl⟩
 go_wp2_with fail
 generalize hA:W2.alloc _=WA
 generalize hB:WA.alloc _=WB
 have sA:WA.heap.size=W2.heap.size+1:=yb5
 have bA:Below W2.heap.size W2 WB:=yds
 have aA:StrsAt WB W2.heap.size Xy:=yaf
 have aF:StrsAt WB (W2.heap.size+1) Xz:=by
  rw [<-hB,<-sA]
  exact zer WA Xz 9
 have aN:=aF n hn
 have B2:=hid (B1.out.trans (bA.mono B1.out.size))
 clear bA hA hB aF H1
 have hc11:n<11:=hn
 refine (Ou WB W2.heap.size 11 Xy u yal aA n hn hs he).mono ?_
 rintro e W3 ⟨rfl,rfl⟩
 have h0: ¬(n:Int)<0:=yai
 have h11:(n:Int)<11:=yai
 generalize hF:Xz[n]'hn=F at aN
 have HF:=hid hF
 clear aA hF
 go_wp2
 go_ret
 exact ⟨by rw [HF.out];rfl,B2.out⟩
theorem zpp(hv:Hid (∀j,j<12->Jc j≠u))(hs:Hid (∀j (h:j<Xy.length),Xy[j]≠u)):
  Cl 46 #[.string u] w λe w'=>e= .returned (.string ⟨#[63]⟩)/\Below w.heap.size w w':=by
 go_enter Tryz.func46,Tryz.ntmps46
 go_wp2_with fail
 refine (za5 w).mono ?_
 rintro e W1 ⟨rfl,h1,b1⟩
 have H1:=hid h1
 have B1:=hid b1
 clear h1 b1
 go_wp2_with fail
 refine (Ga W1 w.heap.size 12 ((List.range 12).map Jc) u yaj H1 (λj hj=>by simpa using hv.out j ya4)).mono ?_
 rintro e W2 ⟨rfl,rfl⟩
 go_wp2_with fail
 generalize hA:W2.alloc _=WA
 generalize hB:WA.alloc _=WB
 have sA:WA.heap.size=W2.heap.size+1:=yb5
 have bA:Below W2.heap.size W2 WB:=yds
 have aA:StrsAt WB W2.heap.size Xy:=yaf
 have B2:=hid (B1.out.trans (bA.mono B1.out.size))
 clear bA hA hB H1
 refine (Ga WB W2.heap.size 11 Xy u yal aA hs).mono ?_
 rintro e W3 ⟨rfl,rfl⟩
 clear aA
 go_wp2
 go_ret
 exact ⟨rfl,B2.out⟩
end
theorem zi3(w:World)(n:Nat)(hn:n<8):
  Cl 48 #[.string ⟨#[114,UInt8.ofNat (48+n)]⟩] w λe w'=>e= .returned (.tuple #[.int .i64 n, .bool true])/\w'=w:=by
 have hc:n=0\/n=1\/n=2\/n=3\/n=4\/n=5\/n=6\/n=7:=yai
 rcases hc with rfl|rfl|rfl|rfl|rfl|rfl|rfl|rfl
 all_goals
  go_enter Tryz.func48,Tryz.ntmps48
  go_wp2
  go_ret2
  exact ⟨rfl,rfl⟩
theorem zfb(w:World)(s:ByteArray)(hs:s.size≠2):
  Cl 48 #[.string s] w λe w'=>e= .returned (.tuple #[.int .i64 0, .bool false])/\w'=w:=by
 have hs': ¬(s.size:Int)=2:=yai
 go_enter Tryz.func48,Tryz.ntmps48
 go_wp2
 go_ret2
 exact ⟨rfl,rfl⟩
theorem zes(w:World)(a b:UInt8)(ha:a≠114):
  Cl 48 #[.string ⟨#[a,b]⟩] w λe w'=>e= .returned (.tuple #[.int .i64 0, .bool false])/\w'=w:=by
 have ha': ¬(a.toNat:Int)=114:=λh=>ha (UInt8.toNat_inj.1 (by simpa using Int.ofNat.inj h))
 go_enter Tryz.func48,Tryz.ntmps48
 go_wp2
 go_ret2
 exact ⟨rfl,rfl⟩
theorem zcz(w:World)(b:UInt8)(hb:b.toNat<48\/56<=b.toNat):
  Cl 48 #[.string ⟨#[114,b]⟩] w λe w'=>e= .returned (.tuple #[.int .i64 0, .bool false])/\w'=w:=by
 rcases hb with hb|hb
 ·have hb':(((⟨#[114,b]⟩:ByteArray)[1]'(by show 1<2;omega)).toNat:Int)<48:=by show (b.toNat:Int)<48;omega
  go_enter Tryz.func48,Tryz.ntmps48
  go_wp2
  go_ret2
  exact ⟨rfl,rfl⟩
 ·have hb': ¬(((⟨#[114,b]⟩:ByteArray)[1]'(by show 1<2;omega)).toNat:Int)<48:=by show ¬(b.toNat:Int)<48;omega
  have hb2:(55:Int)<(((⟨#[114,b]⟩:ByteArray)[1]'(by show 1<2;omega)).toNat:Int):=by show (55:Int)<(b.toNat:Int);omega
  go_enter Tryz.func48,Tryz.ntmps48
  go_wp2
  go_ret2
  exact ⟨rfl,rfl⟩
theorem El(w:World)(s:ByteArray):
  Cl 48 #[.string s] w λe w'=>e= .returned (.tuple #[.int .i64 ((Jt s).getD 0), .bool (Jt s).isSome])/\w'=w:=by
 obtain ⟨⟨l⟩⟩:=s
 by_cases h:l.length=2
 ·match l,h with
  |[a,b],_=>
   by_cases ha:a=114
   ·subst ha
    by_cases hb:48<=b.toNat/\b.toNat<56
    ·have e:Jt ⟨⟨[114,b]⟩⟩=some (b.toNat- 48):=by show (if _ then _ else _)=_;rw [if_pos ⟨rfl,hb⟩]
     rw [e]
     have hbb:b=UInt8.ofNat (48+(b.toNat- 48)):=by rw [show 48+(b.toNat- 48)=b.toNat by omega];simp
     have k:=zi3 w (b.toNat- 48) yai
     rw [<-hbb] at k
     exact k
    ·have e:Jt ⟨⟨[114,b]⟩⟩=none:=by show (if _ then _ else _)=_;rw [if_neg (λh=>hb h.2)]
     rw [e]
     exact zcz w b yai
   ·have e:Jt ⟨⟨[a,b]⟩⟩=none:=by show (if _ then _ else _)=_;rw [if_neg (λh=>ha h.1)]
    rw [e]
    exact zes w a b ha
 ·have e:Jt ⟨⟨l⟩⟩=none:=by
   show (match l with|[a,b]=>_|_=>none)=none
   match l,h with
   |[],_=>rfl
   |[_],_=>rfl
   |_::_::_::_,_=>rfl
  rw [e]
  exact zfb w _ (by show l.toArray.size≠2;simpa using h)
def z58(x:Vl):Value:= .agg #[.bool x.reg, .int .i64 x.v]
def zbo(u:ByteArray):Vl×Bool:=match Jt u with
 |some r=>(⟨true,r⟩,true)
 |none=>(⟨false,(Qk u).getD 0⟩,(Qk u).isSome)
section
variable(w:World)(u:ByteArray)
theorem zxx(r:Nat)(h:Hid (Jt u=some r)):
  Cl 47 #[.string u] w λe w'=>e= .returned (.tuple #[.agg #[.bool true, .int .i64 r], .bool true])/\Below w.heap.size w w':=by
 have K:=λW=>El W u
 rw [h.out] at K
 simp only [Option.getD_some,Option.isSome_some] at K
 have K:=hid K
 have hr:r<8:=by
  have h:=h.out
  unfold Jt at h
  split at h
  ·split at h
   ·rename_i hc;simp at h;omega
   ·simp at h
  ·simp at h
 go_enter Tryz.func47,Tryz.ntmps47
 go_wp2_with fail
 refine (K.out _).mono ?_
 rintro e W1 ⟨rfl,rfl⟩
 go_wp2
 refine ⟨rfl, .tuple #[.agg #[.bool true, .int .i64 r], .bool true],?_,rfl,(Below.refl _ w).alloc (Nat.le_refl _) _⟩
 simp [results,Tryz.results47,go_sem]
theorem zxy(v:Int)(ok:Bool)(h:Hid (Jt u=none))(h1:Hid ((Qk u).getD 0=v))(h2:Hid ((Qk u).isSome=ok)):
  Cl 47 #[.string u] w λe w'=>e= .returned (.tuple #[.agg #[.bool false, .int .i64 v], .bool ok])/\Below w.heap.size w w':=by
 have K:=λW=>El W u
 rw [h.out] at K
 simp only [Option.getD_none,Option.isSome_none] at K
 have K:=hid K
 have K2:=λW=>Ym W u
 unfold Oc at K2
 rw [h1.out,h2.out] at K2
 have K2:=hid K2
 go_enter Tryz.func47,Tryz.ntmps47
 go_wp2_with fail
 refine (K.out _).mono ?_
 rintro e W1 ⟨rfl,rfl⟩
 go_wp2_with fail
 refine (K2.out _).mono ?_
 rintro e W2 ⟨rfl,rfl⟩
 go_wp2
 refine ⟨rfl, .tuple #[.agg #[.bool false, .int .i64 v], .bool ok],?_,rfl,(Below.refl _ w).alloc (Nat.le_refl _) _⟩
 simp [results,Tryz.results47,go_sem]
theorem zxz:Cl 47 #[.string u] w λe w'=>e= .returned (.tuple #[z58 (zbo u).1, .bool (zbo u).2])/\Below w.heap.size w w':=by
 unfold zbo
 cases h:Jt u with
 |some r=>exact zxx w u r h
 |none=>exact zxy w u _ _ h rfl rfl
end
structure DI where
 word:ByteArray
 d:Int
 a:Vl
 b:Vl
 c:Vl
 k:Int
def Vm(i:DI):Value:= .agg #[.string i.word, .int .i64 i.d, .bool i.a.reg, .int .i64 i.a.v, .bool i.b.reg, .int .i64 i.b.v, .bool i.c.reg, .int .i64 i.c.v, .int .i64 i.k]
def Qz(x:UInt8)(u:ByteArray)(i:DI):DI×Bool:=
 if x=100 then ({i with d:=((Jt u).getD 0:Nat)},(Jt u).isSome)
 else if x=97 then ({i with a:=(zbo u).1},(zbo u).2)
 else if x=98 then ({i with b:=(zbo u).1},(zbo u).2)
 else if x=99 then ({i with c:=(zbo u).1},(zbo u).2)
 else if x=107 then ({i with k:=(Qk u).getD 0},(Qk u).isSome)
 else if x=116 then ({i with k:=(Qk u).getD 0},(Qk u).isSome&&decide (0<=(Qk u).getD 0)&&decide ((Qk u).getD 0<=4000))
 else ({i with k:=(Qk u).getD 0},(Qk u).isSome&&decide (1<=(Qk u).getD 0)&&decide ((Qk u).getD 0<=9))
def Vn:List UInt8->List ByteArray->DI->DI×Bool
 |x::f,u::ws,i=>if (Qz x u i).2=true then Vn f ws (Qz x u i).1 else ((Qz x u i).1,false)
 |_,_,i=>(i,true)
def Qr(u:ByteArray):DI:=⟨u,0,⟨false,0⟩,⟨false,0⟩,⟨false,0⟩,0⟩
structure DIAt(w:World)(n:Nat)(i:DI):Prop where
 c0:w.cell? ⟨n,0,none⟩=some (.string i.word)
 c1:w.cell? ⟨n,1,none⟩=some (.int .i64 i.d)
 c2:w.cell? ⟨n,2,none⟩=some (.bool i.a.reg)
 c3:w.cell? ⟨n,3,none⟩=some (.int .i64 i.a.v)
 c4:w.cell? ⟨n,4,none⟩=some (.bool i.b.reg)
 c5:w.cell? ⟨n,5,none⟩=some (.int .i64 i.b.v)
 c6:w.cell? ⟨n,6,none⟩=some (.bool i.c.reg)
 c7:w.cell? ⟨n,7,none⟩=some (.int .i64 i.c.v)
 c8:w.cell? ⟨n,8,none⟩=some (.int .i64 i.k)
theorem DIAt.below{m:Nat}{i:DI}(h:DIAt w n i)(hb:Below m w w')(hn:n<m):DIAt w' n i:=
 have k: ∀o v,w.cell? ⟨n,o,none⟩=some v->w'.cell? ⟨n,o,none⟩=some v:=λo _ e=>(hb.cell (p:=⟨n,o,none⟩) hn).trans e
 ⟨k _ _ h.c0,k _ _ h.c1,k _ _ h.c2,k _ _ h.c3,k _ _ h.c4,k _ _ h.c5,k _ _ h.c6,k _ _ h.c7,k _ _ h.c8⟩
theorem DIAt.new(w:World)(i:DI)(t:TypeId):DIAt (w.alloc (.cells #[.string i.word, .int .i64 i.d, .bool i.a.reg, .int .i64 i.a.v, .bool i.b.reg, .int .i64 i.b.v, .bool i.c.reg, .int .i64 i.c.v, .int .i64 i.k] t)) w.heap.size i:=
 ⟨World.cell?_alloc_new _ _ _ 0,World.cell?_alloc_new _ _ _ 1,World.cell?_alloc_new _ _ _ 2,World.cell?_alloc_new _ _ _ 3,World.cell?_alloc_new _ _ _ 4,World.cell?_alloc_new _ _ _ 5,World.cell?_alloc_new _ _ _ 6,World.cell?_alloc_new _ _ _ 7,World.cell?_alloc_new _ _ _ 8⟩
def Vf(w:World)(n:Nat)(i:DI):World:=((((((((w.setCell ⟨n,0,none⟩ (.string i.word)).setCell ⟨n,1,none⟩ (.int .i64 i.d)).setCell ⟨n,2,none⟩ (.bool i.a.reg)).setCell ⟨n,3,none⟩ (.int .i64 i.a.v)).setCell ⟨n,4,none⟩ (.bool i.b.reg)).setCell ⟨n,5,none⟩ (.int .i64 i.b.v)).setCell ⟨n,6,none⟩ (.bool i.c.reg)).setCell ⟨n,7,none⟩ (.int .i64 i.c.v)).setCell ⟨n,8,none⟩ (.int .i64 i.k)
theorem Qe{o i:Nat}{u:Value}(h:w.cell? ⟨k,i,none⟩=some u)(e:k≠b\/i≠o):(w.setCell ⟨b,o,none⟩ v).cell? ⟨k,i,none⟩=some u:=(Qb e).trans h
theorem Zj{j:DI}(h:DIAt w n j)(i:DI):DIAt (Vf w n i) n i:=by
 obtain ⟨h0,h1,h2,h3,h4,h5,h6,h7,h8⟩:=h
 unfold Vf
 constructor
 ·exact Qe (Qe (Qe (Qe (Qe (Qe (Qe (Qe (Qg h0 rfl) yai) yai) yai) yai) yai) yai) yai) yai
 ·exact Qe (Qe (Qe (Qe (Qe (Qe (Qe (Qg (Qe h1 yai) rfl) yai) yai) yai) yai) yai) yai) yai
 ·exact Qe (Qe (Qe (Qe (Qe (Qe (Qg (Qe (Qe h2 yai) yai) rfl) yai) yai) yai) yai) yai) yai
 ·exact Qe (Qe (Qe (Qe (Qe (Qg (Qe (Qe (Qe h3 yai) yai) yai) rfl) yai) yai) yai) yai) yai
 ·exact Qe (Qe (Qe (Qe (Qg (Qe (Qe (Qe (Qe h4 yai) yai) yai) yai) rfl) yai) yai) yai) yai
 ·exact Qe (Qe (Qe (Qg (Qe (Qe (Qe (Qe (Qe h5 yai) yai) yai) yai) yai) rfl) yai) yai) yai
 ·exact Qe (Qe (Qg (Qe (Qe (Qe (Qe (Qe (Qe h6 yai) yai) yai) yai) yai) yai) rfl) yai) yai
 ·exact Qe (Qg (Qe (Qe (Qe (Qe (Qe (Qe (Qe h7 yai) yai) yai) yai) yai) yai) yai) rfl) yai
 ·exact Qg (Qe (Qe (Qe (Qe (Qe (Qe (Qe (Qe h8 yai) yai) yai) yai) yai) yai) yai) yai) rfl
theorem Jn{a:World}{m:Nat}(h:Below m a w)(hn:m<=n)(i:DI):Below m a (Vf w n i):=
 ((((((((h.setCell hn _).setCell hn _).setCell hn _).setCell hn _).setCell hn _).setCell hn _).setCell hn _).setCell hn _).setCell hn _
theorem DIAt.setA{i:DI}(h:DIAt W n i)(x:Vl):DIAt ((W.setCell ⟨n,2,none⟩ (.bool x.reg)).setCell ⟨n,3,none⟩ (.int .i64 x.v)) n {i with a:=x}:=
 ⟨Qe (Qe h.c0 yai) yai,Qe (Qe h.c1 yai) yai,Qe (Qg h.c2 rfl) yai,Qg (Qe h.c3 yai) rfl,Qe (Qe h.c4 yai) yai,Qe (Qe h.c5 yai) yai,Qe (Qe h.c6 yai) yai,Qe (Qe h.c7 yai) yai,Qe (Qe h.c8 yai) yai⟩
theorem DIAt.setB{i:DI}(h:DIAt W n i)(x:Vl):DIAt ((W.setCell ⟨n,4,none⟩ (.bool x.reg)).setCell ⟨n,5,none⟩ (.int .i64 x.v)) n {i with b:=x}:=
 ⟨Qe (Qe h.c0 yai) yai,Qe (Qe h.c1 yai) yai,Qe (Qe h.c2 yai) yai,Qe (Qe h.c3 yai) yai,Qe (Qg h.c4 rfl) yai,Qg (Qe h.c5 yai) rfl,Qe (Qe h.c6 yai) yai,Qe (Qe h.c7 yai) yai,Qe (Qe h.c8 yai) yai⟩
theorem DIAt.setC{i:DI}(h:DIAt W n i)(x:Vl):DIAt ((W.setCell ⟨n,6,none⟩ (.bool x.reg)).setCell ⟨n,7,none⟩ (.int .i64 x.v)) n {i with c:=x}:=
 ⟨Qe (Qe h.c0 yai) yai,Qe (Qe h.c1 yai) yai,Qe (Qe h.c2 yai) yai,Qe (Qe h.c3 yai) yai,Qe (Qe h.c4 yai) yai,Qe (Qe h.c5 yai) yai,Qe (Qg h.c6 rfl) yai,Qg (Qe h.c7 yai) rfl,Qe (Qe h.c8 yai) yai⟩
theorem DIAt.setK{i:DI}(h:DIAt W n i)(x:Int):DIAt (W.setCell ⟨n,8,none⟩ (.int .i64 x)) n {i with k:=x}:=
 ⟨Qe h.c0 yai,Qe h.c1 yai,Qe h.c2 yai,Qe h.c3 yai,Qe h.c4 yai,Qe h.c5 yai,Qe h.c6 yai,Qe h.c7 yai,Qg h.c8 rfl⟩
theorem DIAt.setD{i:DI}(h:DIAt W n i)(x:Int):DIAt (W.setCell ⟨n,1,none⟩ (.int .i64 x)) n {i with d:=x}:=
 ⟨Qe h.c0 yai,Qg h.c1 rfl,Qe h.c2 yai,Qe h.c3 yai,Qe h.c4 yai,Qe h.c5 yai,Qe h.c6 yai,Qe h.c7 yai,Qe h.c8 yai⟩
theorem Ug(W:World)(n o:Nat)(v:Value):Chg (λk _=>k=n) W (W.setCell ⟨n,o,none⟩ v):=(Chg.refl (λk (_:Nat)=>k=n) W).setCell (b:=n) (o:=o) (λ_=>rfl) v
theorem zce(W:World)(n o o':Nat)(v v':Value):Chg (λk _=>k=n) W ((W.setCell ⟨n,o,none⟩ v).setCell ⟨n,o',none⟩ v'):=((Chg.refl (λk (_:Nat)=>k=n) W).setCell (b:=n) (o:=o) (λ_=>rfl) v).setCell (b:=n) (o:=o') (λ_=>rfl) v'
theorem zt4(f:ByteArray)(ws:List ByteArray)(i:DI)(j:Nat)(h:j<f.size)(h2:j<ws.length):
  Vn (f.data.toList.drop j) (ws.drop j) i=if (Qz f[j] ws[j] i).2=true then Vn (f.data.toList.drop (j+1)) (ws.drop (j+1)) (Qz f[j] ws[j] i).1 else ((Qz f[j] ws[j] i).1,false):=by
 have hj:j<f.data.toList.length:=ycb
 rw [List.drop_eq_getElem_cons hj,List.drop_eq_getElem_cons h2,Vn]
 simp [ByteArray.getElem_eq_getElem_data]
structure InsInv(w:World)(b:Nat)(us:List ByteArray)(W:World)(i:DI):Prop where
 ins:DIAt W (w.heap.size+1) i
 res:DIAt W w.heap.size (Qr ⟨#[]⟩)
 fi: ∀j,W.frozen? ⟨w.heap.size+1,j,none⟩=false
 fr: ∀j,W.frozen? ⟨w.heap.size,j,none⟩=false
 bel:Below w.heap.size w W
 siz:w.heap.size+2<=W.heap.size
 strs:StrsAt W b us
theorem InsInv.below{i:DI}(h:InsInv w b us W i)(hb:b<w.heap.size)(hB:Below W.heap.size W W'):InsInv w b us W' i where
 ins:=h.ins.below hB yco
 res:=h.res.below hB yco
 fi:=λj=>(hB.frozen (p:=⟨w.heap.size+1,j,none⟩) (by show w.heap.size+1<_;have:=h.siz;omega)).trans (h.fi j)
 fr:=λj=>(hB.frozen (p:=⟨w.heap.size,j,none⟩) (by show w.heap.size<_;have:=h.siz;omega)).trans (h.fr j)
 bel:=h.bel.trans (hB.mono yco)
 siz:=Nat.le_trans h.siz hB.size
 strs:=h.strs.keep (n:=W.heap.size) yco hB
theorem InsInv.chg{i i':DI}(h:InsInv w b us W i)(hb:b<w.heap.size)(hc:Chg (λk _=>k=w.heap.size+1) W W')(hi:DIAt W' (w.heap.size+1) i'):InsInv w b us W' i':=by
 have hs:=h.siz
 have k: ∀o v,W.cell? ⟨w.heap.size,o,none⟩=some v->W'.cell? ⟨w.heap.size,o,none⟩=some v:=λo _ e=>(hc.cell _ o yai yai).trans e
 have r:=h.res
 exact ⟨hi,⟨k _ _ r.c0,k _ _ r.c1,k _ _ r.c2,k _ _ r.c3,k _ _ r.c4,k _ _ r.c5,k _ _ r.c6,k _ _ r.c7,k _ _ r.c8⟩,λj=>(hc.frozen _ j yai).trans (h.fi j),λj=>(hc.frozen _ j yai).trans (h.fr j),h.bel.trans (hc.below yai (λk i e=>by omega)),Nat.le_trans hs hc.size,λj hj=>(hc.cell b j yai yai).trans (h.strs j hj)⟩
section
variable(w:World)(b c:Nat)(u:ByteArray)(ws:List ByteArray)
theorem zt5(hb:b<w.heap.size)(hw:Hid (StrsAt w b (u::ws)))(hv:Hid (∀j,j<12->Jc j≠u))(hs:Hid (∀j (h:j<Xy.length),Xy[j]≠u)):
  Cl 26 #[.slice (some ⟨b,0,none⟩) (ws.length+1) c] w λe w'=>(∃i,e= .returned (.tuple #[Vm i, .bool false]))/\Below w.heap.size w w':=by
 have h0:w.cell? ⟨b,0,none⟩=some (.string u):=hw.out 0 yaj
 go_enter Tryz.func26,Tryz.ntmps26
 go_wp2_with fail
 generalize hA:w.alloc _=WA
 generalize hB:WA.alloc _=WB
 have sA:WA.heap.size=w.heap.size+1:=yb5
 have bA:Below w.heap.size w WB:=ydc
 have sB:WB.heap.size=w.heap.size+2:=by rw [<-hB];simp [sA]
 have dI:DIAt WB (w.heap.size+1) (Qr u):=ydd
 have dR:DIAt WB w.heap.size (Qr ⟨#[]⟩):=yde
 have fR: ∀j,WB.frozen? ⟨w.heap.size,j,none⟩=false:=ydf
 clear hA hB
 refine (zpp WB u hv hs).mono ?_
 rintro e W1 ⟨rfl,b1⟩
 obtain ⟨i0,i1,i2,i3,i4,i5,i6,i7,i8⟩:=dI.below b1 yai
 obtain ⟨r0,r1,r2,r3,r4,r5,r6,r7,r8⟩:=dR.below b1 yai
 have f: ∀j,W1.frozen? ⟨w.heap.size,j,none⟩=false:=λj=>(b1.frozen (p:=⟨w.heap.size,j,none⟩) yb6).trans (fR j)
 have f0:=f 0
 have f1:=f 1
 have f2:=f 2
 have f3:=f 3
 have f4:=f 4
 have f5:=f 5
 have f6:=f 6
 have f7:=f 7
 have f8:=f 8
 have B1:=hid b1
 have BA:=hid bA
 clear b1 bA f fR dI dR
 simp only [Qr] at i0 i1 i2 i3 i4 i5 i6 i7 i8 r0 r1 r2 r3 r4 r5 r6 r7 r8
 go_wp2
 have hR:DIAt W1 w.heap.size (Qr ⟨#[]⟩):=⟨r0,r1,r2,r3,r4,r5,r6,r7,r8⟩
 obtain ⟨q0,q1,q2,q3,q4,q5,q6,q7,q8⟩:=Zj hR (Qr u)
 have hbel:=Jn (BA.out.trans (B1.out.mono yai)) (Nat.le_refl w.heap.size) (Qr u)
 refine ⟨rfl, .tuple #[Vm (Qr u), .bool false],?_,⟨_,rfl⟩,hbel⟩
 change (results _ _).run _ (Vf W1 w.heap.size (Qr u))= .ok _ (Vf W1 w.heap.size (Qr u))
 generalize Vf W1 w.heap.size (Qr u)=W' at*
 simp [results,Tryz.results26,go_sem,q0,q1,q2,q3,q4,q5,q6,q7,q8,Vm,Qr]
theorem zt6(f:ByteArray)(hf:f.size<=5)(hq:(f.toList==[63])=false)(hb:b<w.heap.size)(hw:Hid (StrsAt w b (u::ws)))(hl:ws.length=f.size)
  (hlet:Hid (∀j (h:j<f.size),f[j]=100\/f[j]=97\/f[j]=98\/f[j]=99\/f[j]=107\/f[j]=116\/f[j]=110))
  (hform:Hid (∀W,Cl 46 #[.string u] W λe w'=>e= .returned (.string f)/\Below W.heap.size W w')):
  Cl 26 #[.slice (some ⟨b,0,none⟩) (ws.length+1) c] w λe w'=>e= .returned (.tuple #[Vm (Vn f.data.toList ws (Qr u)).1, .bool (Vn f.data.toList ws (Qr u)).2])/\Below w.heap.size w w':=by
 have h0:w.cell? ⟨b,0,none⟩=some (.string u):=hw.out 0 yaj
 generalize hRR:Vn f.data.toList ws (Qr u)=RR
 have HRR:Hid (Vn (f.data.toList.drop 0) (ws.drop 0) (Qr u)=RR):=hid (by simpa using hRR)
 clear hRR
 go_enter Tryz.func26,Tryz.ntmps26
 go_wp2_with fail
 generalize hA:w.alloc _=WA
 generalize hB:WA.alloc _=WB
 have sA:WA.heap.size=w.heap.size+1:=yb5
 have bA:Below w.heap.size w WB:=ydc
 have sB:WB.heap.size=w.heap.size+2:=by rw [<-hB];simp [sA]
 have dI:DIAt WB (w.heap.size+1) (Qr u):=ydd
 have dR:DIAt WB w.heap.size (Qr ⟨#[]⟩):=yde
 have fR: ∀j,WB.frozen? ⟨w.heap.size,j,none⟩=false:=ydf
 have fI: ∀j,WB.frozen? ⟨w.heap.size+1,j,none⟩=false:=by intro j;rw [<-hB,<-sA];simp
 have hI:InsInv w b (u::ws) WB (Qr u):=⟨dI,dR,fI,fR,bA,by omega,hw.out.keep hb bA⟩
 clear hA hB bA dI dR fR fI
 refine (hform.out WB).mono ?_
 rintro e W1 ⟨rfl,b1⟩
 have HI:=hid (hI.below hb b1)
 have hq': ¬f.toList=[63]:=by simpa using hq
 have hlen:((f.size:Int)+1 !=1+(f.size:Int))=false:=yan
 clear hform h0 b1 hI sA sB hw
 go_wp2
 go_loopw [6] (λv6 wr=>∃(j:Nat) (i:DI),j<=f.size/\v6= .int .i64 j/\Hid (InsInv w b (u::ws) wr i)/\Hid (Vn (f.data.toList.drop j) (ws.drop j) i=RR)) (λv6 _=>f.size- (intOf v6).toNat)
 case atStart=>exact ⟨0,Qr u,by omega,rfl,HI,HRR⟩
 case round=>
  clear HI HRR
  obtain ⟨j,i,hj,rfl,HI,HRR⟩:=hrel
  by_cases hlt:j<f.size
  ·have hlt':(j:Int)<(f.size:Int):=by omega
   have hjw:j<ws.length:=yai
   have hx:wr.cell? ⟨b,1+j,none⟩=some (.string ws[j]):=by
    have:=HI.out.strs (1+j) yan
    rw [this]
    simp [Nat.add_comm 1 j]
   have HST:=hid (HRR.out.symm.trans (zt4 f ws i j hlt hjw))
   have hlj:=hlet.out j hlt
   generalize hxw:ws[j]=x at hx HST
   clear hxw HRR
   go_wp2_with fail
   have hvd:=zxz wr x
   generalize hvx:zbo x=vx at hvd
   obtain ⟨xv,vok⟩:=vx
   refine hvd.mono ?_
   rintro e W2 ⟨rfl,b2⟩
   have HI2:=hid (HI.out.below hb b2)
   clear b2 hvd HI hx
   unfold z58
   go_wp2_with fail
   generalize hV:W2.alloc _=W3
   have v0:W3.cell? ⟨W2.heap.size,0,none⟩=some (.bool xv.reg):=by rw [<-hV];exact World.cell?_alloc_new _ _ _ 0
   have v1:W3.cell? ⟨W2.heap.size,1,none⟩=some (.int .i64 xv.v):=by rw [<-hV];exact World.cell?_alloc_new _ _ _ 1
   have HI3:=hid (HI2.out.below hb (W':=W3) (by rw [<-hV];exact (Below.refl _ W2).alloc (Nat.le_refl _) _))
   have hn2:w.heap.size+2<=W2.heap.size:=HI2.out.siz
   clear hV HI2
   have hnm:=Ym W3 x
   unfold Oc at hnm
   generalize hna:(Qk x).getD 0=na at hnm
   generalize hnb:(Qk x).isSome=nok at hnm
   refine hnm.mono ?_
   rintro e W4 ⟨rfl,hW⟩
   subst hW
   have HVX:=hid hvx
   have HNA:=hid hna
   have HNB:=hid hnb
   clear hnm hvx hna hnb
   obtain ⟨i0,i1,i2,i3,i4,i5,i6,i7,i8⟩:=HI3.out.ins
   obtain ⟨r0,r1,r2,r3,r4,r5,r6,r7,r8⟩:=HI3.out.res
   have g0:=HI3.out.fi 0
   have g1:=HI3.out.fi 1
   have g2:=HI3.out.fi 2
   have g3:=HI3.out.fi 3
   have g4:=HI3.out.fi 4
   have g5:=HI3.out.fi 5
   have g6:=HI3.out.fi 6
   have g7:=HI3.out.fi 7
   have g8:=HI3.out.fi 8
   have f0:=HI3.out.fr 0
   have f1:=HI3.out.fr 1
   have f2:=HI3.out.fr 2
   have f3:=HI3.out.fr 3
   have f4:=HI3.out.fr 4
   have f5:=HI3.out.fr 5
   have f6:=HI3.out.fr 6
   have f7:=HI3.out.fr 7
   have f8:=HI3.out.fr 8
   rcases hlj with hc|hc|hc|hc|hc|hc|hc
   ·rw [hc] at HST
    have hc':(f[j].toNat:Int)=100:=ybc
    clear hc
    have hrg:=El W4 x
    generalize hra:(((Jt x).getD 0:Nat):Int)=rv at hrg
    generalize hrb:(Jt x).isSome=rok at hrg
    have HRA:=hid hra
    have HRB:=hid hrb
    have HRG:=hid hrg
    clear hra hrb hrg
    cases rok with
    |true=>
     have HS:Hid (Qz 100 x i=({i with d:=rv},true)):=hid (by simp [Qz,HRA.out,HRB.out])
     go_wp2_with fail
     refine HRG.out.mono ?_
     rintro e W5 ⟨rfl,hW5⟩
     rw [hW5]
     clear hW5
     go_wp2
     have hI2:InsInv w b (u::ws) (W4.setCell ⟨w.heap.size+1,1,none⟩ (.int .i64 rv)) {i with d:=rv}:=HI3.out.chg hb (Ug _ _ _ _) (HI3.out.ins.setD _)
     refine ⟨⟨j+1,{i with d:=rv},by omega,by go_num,hid hI2,hid ?_⟩,by simp [intOf];omega⟩
     rw [HST.out,if_pos ybb,HS.out]
    |false=>
     have HS:Hid (Qz 100 x i=({i with d:=rv},false)):=hid (by simp [Qz,HRA.out,HRB.out])
     go_wp2_with fail
     refine HRG.out.mono ?_
     rintro e W5 ⟨rfl,hW5⟩
     rw [hW5]
     clear hW5
     go_wp2
     have hI2:InsInv w b (u::ws) (W4.setCell ⟨w.heap.size+1,1,none⟩ (.int .i64 rv)) {i with d:=rv}:=HI3.out.chg hb (Ug _ _ _ _) (HI3.out.ins.setD _)
     obtain ⟨z0,z1,z2,z3,z4,z5,z6,z7,z8⟩:=Zj hI2.res {i with d:=rv}
     have hbel:=Jn hI2.bel (Nat.le_refl w.heap.size) {i with d:=rv}
     have hRR:RR=({i with d:=rv},false):=yaz
     subst hRR
     refine ⟨rfl, .tuple #[Vm {i with d:=rv}, .bool false],?_,rfl,hbel⟩
     change (results _ _).run _ (Vf (W4.setCell ⟨w.heap.size+1,1,none⟩ (.int .i64 rv)) w.heap.size {i with d:=rv})= .ok _ (Vf (W4.setCell ⟨w.heap.size+1,1,none⟩ (.int .i64 rv)) w.heap.size {i with d:=rv})
     generalize Vf (W4.setCell ⟨w.heap.size+1,1,none⟩ (.int .i64 rv)) w.heap.size {i with d:=rv}=W' at*
     simp [results,Tryz.results26,go_sem,z0,z1,z2,z3,z4,z5,z6,z7,z8,Vm]
   ·rw [hc] at HST
    have hc':(f[j].toNat:Int)=97:=ybc
    clear hc
    cases vok with
    |true=>
     have HS:Hid (Qz 97 x i=({i with a:=xv},true)):=hid ybt
     go_wp2
     have hI2:InsInv w b (u::ws) ((W4.setCell ⟨w.heap.size+1,2,none⟩ (.bool xv.reg)).setCell ⟨w.heap.size+1,3,none⟩ (.int .i64 xv.v)) {i with a:=xv}:=HI3.out.chg hb (zce _ _ _ _ _ _) (HI3.out.ins.setA _)
     refine ⟨⟨j+1,{i with a:=xv},by omega,by go_num,hid hI2,hid ?_⟩,by simp [intOf];omega⟩
     rw [HST.out,if_pos ybb,HS.out]
    |false=>
     have HS:Hid (Qz 97 x i=({i with a:=xv},false)):=hid ybt
     go_wp2
     have hI2:InsInv w b (u::ws) ((W4.setCell ⟨w.heap.size+1,2,none⟩ (.bool xv.reg)).setCell ⟨w.heap.size+1,3,none⟩ (.int .i64 xv.v)) {i with a:=xv}:=HI3.out.chg hb (zce _ _ _ _ _ _) (HI3.out.ins.setA _)
     obtain ⟨z0,z1,z2,z3,z4,z5,z6,z7,z8⟩:=Zj hI2.res {i with a:=xv}
     have hbel:=Jn hI2.bel (Nat.le_refl w.heap.size) {i with a:=xv}
     have hRR:RR=({i with a:=xv},false):=yaz
     subst hRR
     refine ⟨rfl, .tuple #[Vm {i with a:=xv}, .bool false],?_,rfl,hbel⟩
     change (results _ _).run _ (Vf ((W4.setCell ⟨w.heap.size+1,2,none⟩ (.bool xv.reg)).setCell ⟨w.heap.size+1,3,none⟩ (.int .i64 xv.v)) w.heap.size {i with a:=xv})= .ok _ (Vf ((W4.setCell ⟨w.heap.size+1,2,none⟩ (.bool xv.reg)).setCell ⟨w.heap.size+1,3,none⟩ (.int .i64 xv.v)) w.heap.size {i with a:=xv})
     generalize Vf ((W4.setCell ⟨w.heap.size+1,2,none⟩ (.bool xv.reg)).setCell ⟨w.heap.size+1,3,none⟩ (.int .i64 xv.v)) w.heap.size {i with a:=xv}=W' at*
     simp [results,Tryz.results26,go_sem,z0,z1,z2,z3,z4,z5,z6,z7,z8,Vm]
   ·rw [hc] at HST
    have hc':(f[j].toNat:Int)=98:=ybc
    clear hc
    cases vok with
    |true=>
     have HS:Hid (Qz 98 x i=({i with b:=xv},true)):=hid ybt
     go_wp2
     have hI2:InsInv w b (u::ws) ((W4.setCell ⟨w.heap.size+1,4,none⟩ (.bool xv.reg)).setCell ⟨w.heap.size+1,5,none⟩ (.int .i64 xv.v)) {i with b:=xv}:=HI3.out.chg hb (zce _ _ _ _ _ _) (HI3.out.ins.setB _)
     refine ⟨⟨j+1,{i with b:=xv},by omega,by go_num,hid hI2,hid ?_⟩,by simp [intOf];omega⟩
     rw [HST.out,if_pos ybb,HS.out]
    |false=>
     have HS:Hid (Qz 98 x i=({i with b:=xv},false)):=hid ybt
     go_wp2
     have hI2:InsInv w b (u::ws) ((W4.setCell ⟨w.heap.size+1,4,none⟩ (.bool xv.reg)).setCell ⟨w.heap.size+1,5,none⟩ (.int .i64 xv.v)) {i with b:=xv}:=HI3.out.chg hb (zce _ _ _ _ _ _) (HI3.out.ins.setB _)
     obtain ⟨z0,z1,z2,z3,z4,z5,z6,z7,z8⟩:=Zj hI2.res {i with b:=xv}
     have hbel:=Jn hI2.bel (Nat.le_refl w.heap.size) {i with b:=xv}
     have hRR:RR=({i with b:=xv},false):=yaz
     subst hRR
     refine ⟨rfl, .tuple #[Vm {i with b:=xv}, .bool false],?_,rfl,hbel⟩
     change (results _ _).run _ (Vf ((W4.setCell ⟨w.heap.size+1,4,none⟩ (.bool xv.reg)).setCell ⟨w.heap.size+1,5,none⟩ (.int .i64 xv.v)) w.heap.size {i with b:=xv})= .ok _ (Vf ((W4.setCell ⟨w.heap.size+1,4,none⟩ (.bool xv.reg)).setCell ⟨w.heap.size+1,5,none⟩ (.int .i64 xv.v)) w.heap.size {i with b:=xv})
     generalize Vf ((W4.setCell ⟨w.heap.size+1,4,none⟩ (.bool xv.reg)).setCell ⟨w.heap.size+1,5,none⟩ (.int .i64 xv.v)) w.heap.size {i with b:=xv}=W' at*
     simp [results,Tryz.results26,go_sem,z0,z1,z2,z3,z4,z5,z6,z7,z8,Vm]
   ·rw [hc] at HST
    have hc':(f[j].toNat:Int)=99:=ybc
    clear hc
    cases vok with
    |true=>
     have HS:Hid (Qz 99 x i=({i with c:=xv},true)):=hid ybt
     go_wp2
     have hI2:InsInv w b (u::ws) ((W4.setCell ⟨w.heap.size+1,6,none⟩ (.bool xv.reg)).setCell ⟨w.heap.size+1,7,none⟩ (.int .i64 xv.v)) {i with c:=xv}:=HI3.out.chg hb (zce _ _ _ _ _ _) (HI3.out.ins.setC _)
     refine ⟨⟨j+1,{i with c:=xv},by omega,by go_num,hid hI2,hid ?_⟩,by simp [intOf];omega⟩
     rw [HST.out,if_pos ybb,HS.out]
    |false=>
     have HS:Hid (Qz 99 x i=({i with c:=xv},false)):=hid ybt
     go_wp2
     have hI2:InsInv w b (u::ws) ((W4.setCell ⟨w.heap.size+1,6,none⟩ (.bool xv.reg)).setCell ⟨w.heap.size+1,7,none⟩ (.int .i64 xv.v)) {i with c:=xv}:=HI3.out.chg hb (zce _ _ _ _ _ _) (HI3.out.ins.setC _)
     obtain ⟨z0,z1,z2,z3,z4,z5,z6,z7,z8⟩:=Zj hI2.res {i with c:=xv}
     have hbel:=Jn hI2.bel (Nat.le_refl w.heap.size) {i with c:=xv}
     have hRR:RR=({i with c:=xv},false):=yaz
     subst hRR
     refine ⟨rfl, .tuple #[Vm {i with c:=xv}, .bool false],?_,rfl,hbel⟩
     change (results _ _).run _ (Vf ((W4.setCell ⟨w.heap.size+1,6,none⟩ (.bool xv.reg)).setCell ⟨w.heap.size+1,7,none⟩ (.int .i64 xv.v)) w.heap.size {i with c:=xv})= .ok _ (Vf ((W4.setCell ⟨w.heap.size+1,6,none⟩ (.bool xv.reg)).setCell ⟨w.heap.size+1,7,none⟩ (.int .i64 xv.v)) w.heap.size {i with c:=xv})
     generalize Vf ((W4.setCell ⟨w.heap.size+1,6,none⟩ (.bool xv.reg)).setCell ⟨w.heap.size+1,7,none⟩ (.int .i64 xv.v)) w.heap.size {i with c:=xv}=W' at*
     simp [results,Tryz.results26,go_sem,z0,z1,z2,z3,z4,z5,z6,z7,z8,Vm]
   ·rw [hc] at HST
    have hc':(f[j].toNat:Int)=107:=ybc
    clear hc
    cases nok with
    |true=>
     have HS:Hid (Qz 107 x i=({i with k:=na},true)):=hid ycp
     go_wp2
     have hI2:InsInv w b (u::ws) (W4.setCell ⟨w.heap.size+1,8,none⟩ (.int .i64 na)) {i with k:=na}:=HI3.out.chg hb (Ug _ _ _ _) (HI3.out.ins.setK _)
     refine ⟨⟨j+1,{i with k:=na},by omega,by go_num,hid hI2,hid ?_⟩,by simp [intOf];omega⟩
     rw [HST.out,if_pos ybb,HS.out]
    |false=>
     have HS:Hid (Qz 107 x i=({i with k:=na},false)):=hid ycp
     go_wp2
     have hI2:InsInv w b (u::ws) (W4.setCell ⟨w.heap.size+1,8,none⟩ (.int .i64 na)) {i with k:=na}:=HI3.out.chg hb (Ug _ _ _ _) (HI3.out.ins.setK _)
     obtain ⟨z0,z1,z2,z3,z4,z5,z6,z7,z8⟩:=Zj hI2.res {i with k:=na}
     have hbel:=Jn hI2.bel (Nat.le_refl w.heap.size) {i with k:=na}
     have hRR:RR=({i with k:=na},false):=yaz
     subst hRR
     refine ⟨rfl, .tuple #[Vm {i with k:=na}, .bool false],?_,rfl,hbel⟩
     change (results _ _).run _ (Vf (W4.setCell ⟨w.heap.size+1,8,none⟩ (.int .i64 na)) w.heap.size {i with k:=na})= .ok _ (Vf (W4.setCell ⟨w.heap.size+1,8,none⟩ (.int .i64 na)) w.heap.size {i with k:=na})
     generalize Vf (W4.setCell ⟨w.heap.size+1,8,none⟩ (.int .i64 na)) w.heap.size {i with k:=na}=W' at*
     simp [results,Tryz.results26,go_sem,z0,z1,z2,z3,z4,z5,z6,z7,z8,Vm]
   ·rw [hc] at HST
    have hc':(f[j].toNat:Int)=116:=ybc
    clear hc
    cases nok with
    |true=>
     by_cases hlo:0<=na
     ·by_cases hhi:na<=4000
      ·have HS:Hid (Qz 116 x i=({i with k:=na},true)):=hid ycq
       go_wp2
       have hI2:InsInv w b (u::ws) (W4.setCell ⟨w.heap.size+1,8,none⟩ (.int .i64 na)) {i with k:=na}:=HI3.out.chg hb (Ug _ _ _ _) (HI3.out.ins.setK _)
       refine ⟨⟨j+1,{i with k:=na},by omega,by go_num,hid hI2,hid ?_⟩,by simp [intOf];omega⟩
       rw [HST.out,if_pos ybb,HS.out]
      ·have HS:Hid (Qz 116 x i=({i with k:=na},false)):=hid ycq
       go_wp2
       case roundEnd=>exfalso;rename_i hx;simp at hx;omega
       have hI2:InsInv w b (u::ws) (W4.setCell ⟨w.heap.size+1,8,none⟩ (.int .i64 na)) {i with k:=na}:=HI3.out.chg hb (Ug _ _ _ _) (HI3.out.ins.setK _)
       obtain ⟨z0,z1,z2,z3,z4,z5,z6,z7,z8⟩:=Zj hI2.res {i with k:=na}
       have hbel:=Jn hI2.bel (Nat.le_refl w.heap.size) {i with k:=na}
       have hRR:RR=({i with k:=na},false):=yaz
       subst hRR
       refine ⟨rfl, .tuple #[Vm {i with k:=na}, .bool false],?_,rfl,hbel⟩
       change (results _ _).run _ (Vf (W4.setCell ⟨w.heap.size+1,8,none⟩ (.int .i64 na)) w.heap.size {i with k:=na})= .ok _ (Vf (W4.setCell ⟨w.heap.size+1,8,none⟩ (.int .i64 na)) w.heap.size {i with k:=na})
       generalize Vf (W4.setCell ⟨w.heap.size+1,8,none⟩ (.int .i64 na)) w.heap.size {i with k:=na}=W' at*
       simp [results,Tryz.results26,go_sem,z0,z1,z2,z3,z4,z5,z6,z7,z8,Vm]
     ·have HS:Hid (Qz 116 x i=({i with k:=na},false)):=hid (by simp [Qz,HNA.out,HNB.out,hlo])
      go_wp2
      have hI2:InsInv w b (u::ws) (W4.setCell ⟨w.heap.size+1,8,none⟩ (.int .i64 na)) {i with k:=na}:=HI3.out.chg hb (Ug _ _ _ _) (HI3.out.ins.setK _)
      obtain ⟨z0,z1,z2,z3,z4,z5,z6,z7,z8⟩:=Zj hI2.res {i with k:=na}
      have hbel:=Jn hI2.bel (Nat.le_refl w.heap.size) {i with k:=na}
      have hRR:RR=({i with k:=na},false):=yaz
      subst hRR
      refine ⟨rfl, .tuple #[Vm {i with k:=na}, .bool false],?_,rfl,hbel⟩
      change (results _ _).run _ (Vf (W4.setCell ⟨w.heap.size+1,8,none⟩ (.int .i64 na)) w.heap.size {i with k:=na})= .ok _ (Vf (W4.setCell ⟨w.heap.size+1,8,none⟩ (.int .i64 na)) w.heap.size {i with k:=na})
      generalize Vf (W4.setCell ⟨w.heap.size+1,8,none⟩ (.int .i64 na)) w.heap.size {i with k:=na}=W' at*
      simp [results,Tryz.results26,go_sem,z0,z1,z2,z3,z4,z5,z6,z7,z8,Vm]
    |false=>
     have HS:Hid (Qz 116 x i=({i with k:=na},false)):=hid ycp
     go_wp2
     have hI2:InsInv w b (u::ws) (W4.setCell ⟨w.heap.size+1,8,none⟩ (.int .i64 na)) {i with k:=na}:=HI3.out.chg hb (Ug _ _ _ _) (HI3.out.ins.setK _)
     obtain ⟨z0,z1,z2,z3,z4,z5,z6,z7,z8⟩:=Zj hI2.res {i with k:=na}
     have hbel:=Jn hI2.bel (Nat.le_refl w.heap.size) {i with k:=na}
     have hRR:RR=({i with k:=na},false):=yaz
     subst hRR
     refine ⟨rfl, .tuple #[Vm {i with k:=na}, .bool false],?_,rfl,hbel⟩
     change (results _ _).run _ (Vf (W4.setCell ⟨w.heap.size+1,8,none⟩ (.int .i64 na)) w.heap.size {i with k:=na})= .ok _ (Vf (W4.setCell ⟨w.heap.size+1,8,none⟩ (.int .i64 na)) w.heap.size {i with k:=na})
     generalize Vf (W4.setCell ⟨w.heap.size+1,8,none⟩ (.int .i64 na)) w.heap.size {i with k:=na}=W' at*
     simp [results,Tryz.results26,go_sem,z0,z1,z2,z3,z4,z5,z6,z7,z8,Vm]
   ·rw [hc] at HST
    have hc':(f[j].toNat:Int)=110:=ybc
    clear hc
    cases nok with
    |true=>
     by_cases hlo:1<=na
     ·by_cases hhi:na<=9
      ·have HS:Hid (Qz 110 x i=({i with k:=na},true)):=hid ycq
       go_wp2
       have hI2:InsInv w b (u::ws) (W4.setCell ⟨w.heap.size+1,8,none⟩ (.int .i64 na)) {i with k:=na}:=HI3.out.chg hb (Ug _ _ _ _) (HI3.out.ins.setK _)
       refine ⟨⟨j+1,{i with k:=na},by omega,by go_num,hid hI2,hid ?_⟩,by simp [intOf];omega⟩
       rw [HST.out,if_pos ybb,HS.out]
      ·have HS:Hid (Qz 110 x i=({i with k:=na},false)):=hid ycq
       go_wp2
       case roundEnd=>exfalso;rename_i hx;simp at hx;omega
       have hI2:InsInv w b (u::ws) (W4.setCell ⟨w.heap.size+1,8,none⟩ (.int .i64 na)) {i with k:=na}:=HI3.out.chg hb (Ug _ _ _ _) (HI3.out.ins.setK _)
       obtain ⟨z0,z1,z2,z3,z4,z5,z6,z7,z8⟩:=Zj hI2.res {i with k:=na}
       have hbel:=Jn hI2.bel (Nat.le_refl w.heap.size) {i with k:=na}
       have hRR:RR=({i with k:=na},false):=yaz
       subst hRR
       refine ⟨rfl, .tuple #[Vm {i with k:=na}, .bool false],?_,rfl,hbel⟩
       change (results _ _).run _ (Vf (W4.setCell ⟨w.heap.size+1,8,none⟩ (.int .i64 na)) w.heap.size {i with k:=na})= .ok _ (Vf (W4.setCell ⟨w.heap.size+1,8,none⟩ (.int .i64 na)) w.heap.size {i with k:=na})
       generalize Vf (W4.setCell ⟨w.heap.size+1,8,none⟩ (.int .i64 na)) w.heap.size {i with k:=na}=W' at*
       simp [results,Tryz.results26,go_sem,z0,z1,z2,z3,z4,z5,z6,z7,z8,Vm]
     ·have HS:Hid (Qz 110 x i=({i with k:=na},false)):=hid (by simp [Qz,HNA.out,HNB.out,hlo])
      go_wp2
      have hI2:InsInv w b (u::ws) (W4.setCell ⟨w.heap.size+1,8,none⟩ (.int .i64 na)) {i with k:=na}:=HI3.out.chg hb (Ug _ _ _ _) (HI3.out.ins.setK _)
      obtain ⟨z0,z1,z2,z3,z4,z5,z6,z7,z8⟩:=Zj hI2.res {i with k:=na}
      have hbel:=Jn hI2.bel (Nat.le_refl w.heap.size) {i with k:=na}
      have hRR:RR=({i with k:=na},false):=yaz
      subst hRR
      refine ⟨rfl, .tuple #[Vm {i with k:=na}, .bool false],?_,rfl,hbel⟩
      change (results _ _).run _ (Vf (W4.setCell ⟨w.heap.size+1,8,none⟩ (.int .i64 na)) w.heap.size {i with k:=na})= .ok _ (Vf (W4.setCell ⟨w.heap.size+1,8,none⟩ (.int .i64 na)) w.heap.size {i with k:=na})
      generalize Vf (W4.setCell ⟨w.heap.size+1,8,none⟩ (.int .i64 na)) w.heap.size {i with k:=na}=W' at*
      simp [results,Tryz.results26,go_sem,z0,z1,z2,z3,z4,z5,z6,z7,z8,Vm]
    |false=>
     have HS:Hid (Qz 110 x i=({i with k:=na},false)):=hid ycp
     go_wp2
     have hI2:InsInv w b (u::ws) (W4.setCell ⟨w.heap.size+1,8,none⟩ (.int .i64 na)) {i with k:=na}:=HI3.out.chg hb (Ug _ _ _ _) (HI3.out.ins.setK _)
     obtain ⟨z0,z1,z2,z3,z4,z5,z6,z7,z8⟩:=Zj hI2.res {i with k:=na}
     have hbel:=Jn hI2.bel (Nat.le_refl w.heap.size) {i with k:=na}
     have hRR:RR=({i with k:=na},false):=yaz
     subst hRR
     refine ⟨rfl, .tuple #[Vm {i with k:=na}, .bool false],?_,rfl,hbel⟩
     change (results _ _).run _ (Vf (W4.setCell ⟨w.heap.size+1,8,none⟩ (.int .i64 na)) w.heap.size {i with k:=na})= .ok _ (Vf (W4.setCell ⟨w.heap.size+1,8,none⟩ (.int .i64 na)) w.heap.size {i with k:=na})
     generalize Vf (W4.setCell ⟨w.heap.size+1,8,none⟩ (.int .i64 na)) w.heap.size {i with k:=na}=W' at*
     simp [results,Tryz.results26,go_sem,z0,z1,z2,z3,z4,z5,z6,z7,z8,Vm]
  ·have hlt': ¬(j:Int)<(f.size:Int):=by omega
   obtain rfl:j=f.size:=yai
   have hRR:RR=(i,true):=by
    rw [<-HRR.out,List.drop_eq_nil_of_le ycz]
    rfl
   subst hRR
   obtain ⟨i0,i1,i2,i3,i4,i5,i6,i7,i8⟩:=HI.out.ins
   obtain ⟨r0,r1,r2,r3,r4,r5,r6,r7,r8⟩:=HI.out.res
   have f0:=HI.out.fr 0
   have f1:=HI.out.fr 1
   have f2:=HI.out.fr 2
   have f3:=HI.out.fr 3
   have f4:=HI.out.fr 4
   have f5:=HI.out.fr 5
   have f6:=HI.out.fr 6
   have f7:=HI.out.fr 7
   have f8:=HI.out.fr 8
   go_wp2
   obtain ⟨z0,z1,z2,z3,z4,z5,z6,z7,z8⟩:=Zj HI.out.res i
   have hbel:=Jn HI.out.bel (Nat.le_refl w.heap.size) i
   refine ⟨rfl, .tuple #[Vm i, .bool true],?_,rfl,hbel⟩
   change (results _ _).run _ (Vf wr w.heap.size i)= .ok _ (Vf wr w.heap.size i)
   generalize Vf wr w.heap.size i=W' at*
   simp [results,Tryz.results26,go_sem,z0,z1,z2,z3,z4,z5,z6,z7,z8,Vm]
end
abbrev zV:Vl:=⟨false,0⟩
def dOf(ic:Ic):DI:=match ic.k with
 |0=>⟨zyl,ic.d,ic.a,zV,zV,0⟩
 |1=>⟨Jc ic.op,ic.d,ic.a,ic.b,zV,0⟩
 |2=>⟨zf9,ic.d,ic.a,zV,zV,ic.n⟩
 |3=>⟨zae,0,ic.a,ic.b,zV,ic.n⟩
 |4=>⟨zqd,ic.d,ic.a,ic.b,ic.c,ic.n⟩
 |5=>⟨ze9,ic.d,ic.a,ic.b,zV,ic.n⟩
 |6=>⟨zff,0,zV,zV,zV,0⟩
 |7=>⟨zzh,0,ic.a,zV,zV,0⟩
 |8=>⟨zzi,0,zV,zV,zV,ic.n⟩
 |9=>⟨wJz,0,ic.a,zV,zV,ic.n⟩
 |_=>if ic.n=10 then ⟨znx,0,zV,zV,zV,0⟩ else ⟨zjn,0,zV,zV,zV,ic.n⟩
def zbi(f:List UInt8)(u:ByteArray)(g:List ByteArray->Option (Ic×List ByteArray)):Prop:=∀ws,
 (ws.length≠f.length->g ws=none\/ ∃ic x xs,g ws=some (ic,x::xs))/\
 (ws.length=f.length->((Vn f ws (Qr u)).2=false->g ws=none)/\((Vn f ws (Qr u)).2=true->∃ic,g ws=some (ic,[])/\(Vn f ws (Qr u)).1=dOf ic))
theorem Uo:zbp []=none:=rfl
theorem zbj:zhi []=none:=rfl
theorem zdf:zco []=none:=rfl
theorem zlk(lo hi:Int):gIn lo hi []=none:=rfl
theorem zbk:Ez []=none:=rfl
theorem Ja(x:ByteArray)(ws:List ByteArray):zbp (x::ws)=if (zbo x).2=true then some ((zbo x).1,ws) else none:=by
 show (match Jt x with|some r=>_|none=>_)=_
 unfold zbo
 cases Jt x with
 |some r=>simp
 |none=>cases h:Qk x<;>simp
theorem Qq(x:ByteArray)(ws:List ByteArray):zhi (x::ws)=if (Jt x).isSome=true then some ((Jt x).getD 0,ws) else none:=by
 show (Jt x).map _=_
 cases Jt x<;>simp
theorem Ji(x:ByteArray)(ws:List ByteArray):zco (x::ws)=if (Qk x).isSome=true then some ((Qk x).getD 0,ws) else none:=by
 show (Qk x).map _=_
 cases Qk x<;>simp
theorem Up(lo hi:Int)(x:ByteArray)(ws:List ByteArray):gIn lo hi (x::ws)=if ((Qk x).isSome&&decide (lo<=(Qk x).getD 0)&&decide ((Qk x).getD 0<=hi))=true then some ((Qk x).getD 0,ws) else none:=by
 unfold gIn
 rw [Ji]
 cases Qk x with
 |none=>simp
 |some v=>by_cases h1:lo<=v<;>by_cases h2:v<=hi<;>simp [h1,h2]
theorem Qv(x:ByteArray)(ws:List ByteArray):Ez (x::ws)=if (zbo x).2=true then (zco ws).map (λq=>(((zbo x).1,q.1),q.2)) else none:=by
 unfold Ez
 rw [Ja]
 split<;>simp
theorem zll:zbi [] zff zfh:=by
 intro ws
 rcases ws with _|⟨z,ws⟩
 ·refine ⟨λh=>absurd rfl h,λ_=>⟨λh=>?_,λ_=>?_⟩⟩
  ·simp [Vn,Qr] at h
  ·refine ⟨_,by simp [zfh];rfl,?_⟩
   simp [Vn,Qr,dOf]
 ·refine ⟨λ_=> .inr ?_,λh=>by simp at h⟩
  simp [zfh]
theorem zpq:zbi [] znx znz:=by
 intro ws
 rcases ws with _|⟨z,ws⟩
 ·refine ⟨λh=>absurd rfl h,λ_=>⟨λh=>?_,λ_=>?_⟩⟩
  ·simp [Vn,Qr] at h
  ·refine ⟨_,by simp [znz];rfl,?_⟩
   simp [Vn,Qr,dOf]
 ·refine ⟨λ_=> .inr ?_,λh=>by simp at h⟩
  simp [znz]
theorem zt7:zbi [97] zzh zqg:=by
 intro ws
 rcases ws with _|⟨x0,ws⟩
 ·exact ⟨λ_=> .inl (by simp [zqg,Uo]),λh=>by simp at h⟩
 cases h0:(zbo x0).2
 ·have hn:zqg (x0::ws)=none:=by simp [zqg,Ja,h0]
  have hr:(Vn [97] (x0::ws) (Qr zzh)).2=false:=ya2
  exact ⟨λ_=> .inl hn,λ_=>⟨λ_=>hn,λh=>by rw [hr] at h;cases h⟩⟩
 rcases ws with _|⟨z,ws⟩
 ·refine ⟨λh=>absurd rfl h,λ_=>⟨λh=>?_,λ_=>?_⟩⟩
  ·simp [Vn,Qz,Qr,h0] at h
  ·refine ⟨_,by simp [zqg,Ja,h0];rfl,?_⟩
   simp [Vn,Qz,Qr,dOf,h0]
 ·refine ⟨λ_=> .inr ?_,λh=>by simp at h⟩
  simp [zqg,Ja,h0]
theorem zt8:zbi [100,97] zyl zly:=by
 intro ws
 rcases ws with _|⟨x0,ws⟩
 ·exact ⟨λ_=> .inl (by simp [zly,zbj]),λh=>by simp at h⟩
 cases h0:(Jt x0).isSome
 ·have hn:zly (x0::ws)=none:=by simp [zly,Qq,h0]
  have hr:(Vn [100,97] (x0::ws) (Qr zyl)).2=false:=ya2
  exact ⟨λ_=> .inl hn,λ_=>⟨λ_=>hn,λh=>by rw [hr] at h;cases h⟩⟩
 rcases ws with _|⟨x1,ws⟩
 ·exact ⟨λ_=> .inl (by simp [zly,Uo,Qq,h0]),λh=>by simp at h⟩
 cases h1:(zbo x1).2
 ·have hn:zly (x0::x1::ws)=none:=by simp [zly,Qq,Ja,h0,h1]
  have hr:(Vn [100,97] (x0::x1::ws) (Qr zyl)).2=false:=ybd
  exact ⟨λ_=> .inl hn,λ_=>⟨λ_=>hn,λh=>by rw [hr] at h;cases h⟩⟩
 rcases ws with _|⟨z,ws⟩
 ·refine ⟨λh=>absurd rfl h,λ_=>⟨λh=>?_,λ_=>?_⟩⟩
  ·simp [Vn,Qz,Qr,h0,h1] at h
  ·refine ⟨_,by simp [zly,Qq,Ja,h0,h1];rfl,?_⟩
   simp [Vn,Qz,Qr,dOf,h0,h1]
 ·refine ⟨λ_=> .inr ?_,λh=>by simp at h⟩
  simp [zly,Qq,Ja,h0,h1]
theorem zt9:zbi [116] zzi zqh:=by
 intro ws
 rcases ws with _|⟨x0,ws⟩
 ·exact ⟨λ_=> .inl (by simp [zqh,zlk]),λh=>by simp at h⟩
 cases h0:((Qk x0).isSome&&decide (0<=(Qk x0).getD 0)&&decide ((Qk x0).getD 0<=4000))
 ·have hn:zqh (x0::ws)=none:=by simp [zqh,Up,h0]
  have hr:(Vn [116] (x0::ws) (Qr zzi)).2=false:=ya2
  exact ⟨λ_=> .inl hn,λ_=>⟨λ_=>hn,λh=>by rw [hr] at h;cases h⟩⟩
 rcases ws with _|⟨z,ws⟩
 ·refine ⟨λh=>absurd rfl h,λ_=>⟨λh=>?_,λ_=>?_⟩⟩
  ·simp [Vn,Qz,Qr,h0] at h
  ·refine ⟨_,by simp [zqh,Up,h0];rfl,?_⟩
   simp [Vn,Qz,Qr,dOf,h0]
 ·refine ⟨λ_=> .inr ?_,λh=>by simp at h⟩
  simp [zqh,Up,h0]
theorem zx0:zbi [97,116] wJz gjz:=by
 intro ws
 rcases ws with _|⟨x0,ws⟩
 ·exact ⟨λ_=> .inl (by simp [gjz,Uo]),λh=>by simp at h⟩
 cases h0:(zbo x0).2
 ·have hn:gjz (x0::ws)=none:=by simp [gjz,Ja,h0]
  have hr:(Vn [97,116] (x0::ws) (Qr wJz)).2=false:=ya2
  exact ⟨λ_=> .inl hn,λ_=>⟨λ_=>hn,λh=>by rw [hr] at h;cases h⟩⟩
 rcases ws with _|⟨x1,ws⟩
 ·exact ⟨λ_=> .inl (by simp [gjz,zlk,Ja,h0]),λh=>by simp at h⟩
 cases h1:((Qk x1).isSome&&decide (0<=(Qk x1).getD 0)&&decide ((Qk x1).getD 0<=4000))
 ·have hn:gjz (x0::x1::ws)=none:=by simp [gjz,Ja,Up,h0,h1]
  have hr:(Vn [97,116] (x0::x1::ws) (Qr wJz)).2=false:=ybd
  exact ⟨λ_=> .inl hn,λ_=>⟨λ_=>hn,λh=>by rw [hr] at h;cases h⟩⟩
 rcases ws with _|⟨z,ws⟩
 ·refine ⟨λh=>absurd rfl h,λ_=>⟨λh=>?_,λ_=>?_⟩⟩
  ·simp [Vn,Qz,Qr,h0,h1] at h
  ·refine ⟨_,by simp [gjz,Ja,Up,h0,h1];rfl,?_⟩
   simp [Vn,Qz,Qr,dOf,h0,h1]
 ·refine ⟨λ_=> .inr ?_,λh=>by simp at h⟩
  simp [gjz,Ja,Up,h0,h1]
theorem zlm:zbi [97,107,98] zae Xq:=by
 intro ws
 rcases ws with _|⟨x0,ws⟩
 ·exact ⟨λ_=> .inl (by simp [Xq,zbk]),λh=>by simp at h⟩
 cases h0:(zbo x0).2
 ·have hn:Xq (x0::ws)=none:=by simp [Xq,Qv,h0]
  have hr:(Vn [97,107,98] (x0::ws) (Qr zae)).2=false:=ya2
  exact ⟨λ_=> .inl hn,λ_=>⟨λ_=>hn,λh=>by rw [hr] at h;cases h⟩⟩
 rcases ws with _|⟨x1,ws⟩
 ·exact ⟨λ_=> .inl (by simp [Xq,zdf,Qv,h0]),λh=>by simp at h⟩
 cases h1:(Qk x1).isSome
 ·have hn:Xq (x0::x1::ws)=none:=by simp [Xq,Ji,Qv,h0,h1]
  have hr:(Vn [97,107,98] (x0::x1::ws) (Qr zae)).2=false:=ybd
  exact ⟨λ_=> .inl hn,λ_=>⟨λ_=>hn,λh=>by rw [hr] at h;cases h⟩⟩
 rcases ws with _|⟨x2,ws⟩
 ·exact ⟨λ_=> .inl (by simp [Xq,Uo,Ji,Qv,h0,h1]),λh=>by simp at h⟩
 cases h2:(zbo x2).2
 ·have hn:Xq (x0::x1::x2::ws)=none:=by simp [Xq,Ja,Ji,Qv,h0,h1,h2]
  have hr:(Vn [97,107,98] (x0::x1::x2::ws) (Qr zae)).2=false:=yb7
  exact ⟨λ_=> .inl hn,λ_=>⟨λ_=>hn,λh=>by rw [hr] at h;cases h⟩⟩
 rcases ws with _|⟨z,ws⟩
 ·refine ⟨λh=>absurd rfl h,λ_=>⟨λh=>?_,λ_=>?_⟩⟩
  ·simp [Vn,Qz,Qr,h0,h1,h2] at h
  ·refine ⟨_,by simp [Xq,Ja,Ji,Qv,h0,h1,h2];rfl,?_⟩
   simp [Vn,Qz,Qr,dOf,h0,h1,h2]
 ·refine ⟨λ_=> .inr ?_,λh=>by simp at h⟩
  simp [Xq,Ja,Ji,Qv,h0,h1,h2]
theorem zpr:zbi [100,97,107] zf9 Ia:=by
 intro ws
 rcases ws with _|⟨x0,ws⟩
 ·exact ⟨λ_=> .inl (by simp [Ia,zbj]),λh=>by simp at h⟩
 cases h0:(Jt x0).isSome
 ·have hn:Ia (x0::ws)=none:=by simp [Ia,Qq,h0]
  have hr:(Vn [100,97,107] (x0::ws) (Qr zf9)).2=false:=ya2
  exact ⟨λ_=> .inl hn,λ_=>⟨λ_=>hn,λh=>by rw [hr] at h;cases h⟩⟩
 rcases ws with _|⟨x1,ws⟩
 ·exact ⟨λ_=> .inl (by simp [Ia,zbk,Qq,h0]),λh=>by simp at h⟩
 cases h1:(zbo x1).2
 ·have hn:Ia (x0::x1::ws)=none:=by simp [Ia,Qq,Qv,h0,h1]
  have hr:(Vn [100,97,107] (x0::x1::ws) (Qr zf9)).2=false:=ybd
  exact ⟨λ_=> .inl hn,λ_=>⟨λ_=>hn,λh=>by rw [hr] at h;cases h⟩⟩
 rcases ws with _|⟨x2,ws⟩
 ·exact ⟨λ_=> .inl (by simp [Ia,zdf,Qq,Qv,h0,h1]),λh=>by simp at h⟩
 cases h2:(Qk x2).isSome
 ·have hn:Ia (x0::x1::x2::ws)=none:=by simp [Ia,Qq,Ji,Qv,h0,h1,h2]
  have hr:(Vn [100,97,107] (x0::x1::x2::ws) (Qr zf9)).2=false:=yb7
  exact ⟨λ_=> .inl hn,λ_=>⟨λ_=>hn,λh=>by rw [hr] at h;cases h⟩⟩
 rcases ws with _|⟨z,ws⟩
 ·refine ⟨λh=>absurd rfl h,λ_=>⟨λh=>?_,λ_=>?_⟩⟩
  ·simp [Vn,Qz,Qr,h0,h1,h2] at h
  ·refine ⟨_,by simp [Ia,Qq,Ji,Qv,h0,h1,h2];rfl,?_⟩
   simp [Vn,Qz,Qr,dOf,h0,h1,h2]
 ·refine ⟨λ_=> .inr ?_,λh=>by simp at h⟩
  simp [Ia,Qq,Ji,Qv,h0,h1,h2]
theorem zps:zbi [100,97,107,98] ze9 Fh:=by
 intro ws
 rcases ws with _|⟨x0,ws⟩
 ·exact ⟨λ_=> .inl (by simp [Fh,zbj]),λh=>by simp at h⟩
 cases h0:(Jt x0).isSome
 ·have hn:Fh (x0::ws)=none:=by simp [Fh,Qq,h0]
  have hr:(Vn [100,97,107,98] (x0::ws) (Qr ze9)).2=false:=ya2
  exact ⟨λ_=> .inl hn,λ_=>⟨λ_=>hn,λh=>by rw [hr] at h;cases h⟩⟩
 rcases ws with _|⟨x1,ws⟩
 ·exact ⟨λ_=> .inl (by simp [Fh,zbk,Qq,h0]),λh=>by simp at h⟩
 cases h1:(zbo x1).2
 ·have hn:Fh (x0::x1::ws)=none:=by simp [Fh,Qq,Qv,h0,h1]
  have hr:(Vn [100,97,107,98] (x0::x1::ws) (Qr ze9)).2=false:=ybd
  exact ⟨λ_=> .inl hn,λ_=>⟨λ_=>hn,λh=>by rw [hr] at h;cases h⟩⟩
 rcases ws with _|⟨x2,ws⟩
 ·exact ⟨λ_=> .inl (by simp [Fh,zdf,Qq,Qv,h0,h1]),λh=>by simp at h⟩
 cases h2:(Qk x2).isSome
 ·have hn:Fh (x0::x1::x2::ws)=none:=by simp [Fh,Qq,Ji,Qv,h0,h1,h2]
  have hr:(Vn [100,97,107,98] (x0::x1::x2::ws) (Qr ze9)).2=false:=yb7
  exact ⟨λ_=> .inl hn,λ_=>⟨λ_=>hn,λh=>by rw [hr] at h;cases h⟩⟩
 rcases ws with _|⟨x3,ws⟩
 ·exact ⟨λ_=> .inl (by simp [Fh,Uo,Qq,Ji,Qv,h0,h1,h2]),λh=>by simp at h⟩
 cases h3:(zbo x3).2
 ·have hn:Fh (x0::x1::x2::x3::ws)=none:=by simp [Fh,Qq,Ja,Ji,Qv,h0,h1,h2,h3]
  have hr:(Vn [100,97,107,98] (x0::x1::x2::x3::ws) (Qr ze9)).2=false:=by simp [Vn,Qz,Qr,h0,h1,h2,h3]
  exact ⟨λ_=> .inl hn,λ_=>⟨λ_=>hn,λh=>by rw [hr] at h;cases h⟩⟩
 rcases ws with _|⟨z,ws⟩
 ·refine ⟨λh=>absurd rfl h,λ_=>⟨λh=>?_,λ_=>?_⟩⟩
  ·simp [Vn,Qz,Qr,h0,h1,h2,h3] at h
  ·refine ⟨_,by simp [Fh,Qq,Ja,Ji,Qv,h0,h1,h2,h3];rfl,?_⟩
   simp [Vn,Qz,Qr,dOf,h0,h1,h2,h3]
 ·refine ⟨λ_=> .inr ?_,λh=>by simp at h⟩
  simp [Fh,Qq,Ja,Ji,Qv,h0,h1,h2,h3]
theorem zua:zbi [100,97,107,98,99] zqd zdj:=by
 intro ws
 rcases ws with _|⟨x0,ws⟩
 ·exact ⟨λ_=> .inl (by simp [zdj,zbj]),λh=>by simp at h⟩
 cases h0:(Jt x0).isSome
 ·have hn:zdj (x0::ws)=none:=by simp [zdj,Qq,h0]
  have hr:(Vn [100,97,107,98,99] (x0::ws) (Qr zqd)).2=false:=ya2
  exact ⟨λ_=> .inl hn,λ_=>⟨λ_=>hn,λh=>by rw [hr] at h;cases h⟩⟩
 rcases ws with _|⟨x1,ws⟩
 ·exact ⟨λ_=> .inl (by simp [zdj,zbk,Qq,h0]),λh=>by simp at h⟩
 cases h1:(zbo x1).2
 ·have hn:zdj (x0::x1::ws)=none:=by simp [zdj,Qq,Qv,h0,h1]
  have hr:(Vn [100,97,107,98,99] (x0::x1::ws) (Qr zqd)).2=false:=ybd
  exact ⟨λ_=> .inl hn,λ_=>⟨λ_=>hn,λh=>by rw [hr] at h;cases h⟩⟩
 rcases ws with _|⟨x2,ws⟩
 ·exact ⟨λ_=> .inl (by simp [zdj,zdf,Qq,Qv,h0,h1]),λh=>by simp at h⟩
 cases h2:(Qk x2).isSome
 ·have hn:zdj (x0::x1::x2::ws)=none:=by simp [zdj,Qq,Ji,Qv,h0,h1,h2]
  have hr:(Vn [100,97,107,98,99] (x0::x1::x2::ws) (Qr zqd)).2=false:=yb7
  exact ⟨λ_=> .inl hn,λ_=>⟨λ_=>hn,λh=>by rw [hr] at h;cases h⟩⟩
 rcases ws with _|⟨x3,ws⟩
 ·exact ⟨λ_=> .inl (by simp [zdj,Uo,Qq,Ji,Qv,h0,h1,h2]),λh=>by simp at h⟩
 cases h3:(zbo x3).2
 ·have hn:zdj (x0::x1::x2::x3::ws)=none:=by simp [zdj,Qq,Ja,Ji,Qv,h0,h1,h2,h3]
  have hr:(Vn [100,97,107,98,99] (x0::x1::x2::x3::ws) (Qr zqd)).2=false:=by simp [Vn,Qz,Qr,h0,h1,h2,h3]
  exact ⟨λ_=> .inl hn,λ_=>⟨λ_=>hn,λh=>by rw [hr] at h;cases h⟩⟩
 rcases ws with _|⟨x4,ws⟩
 ·exact ⟨λ_=> .inl (by simp [zdj,Uo,Qq,Ja,Ji,Qv,h0,h1,h2,h3]),λh=>by simp at h⟩
 cases h4:(zbo x4).2
 ·have hn:zdj (x0::x1::x2::x3::x4::ws)=none:=by simp [zdj,Qq,Ja,Ji,Qv,h0,h1,h2,h3,h4]
  have hr:(Vn [100,97,107,98,99] (x0::x1::x2::x3::x4::ws) (Qr zqd)).2=false:=by simp [Vn,Qz,Qr,h0,h1,h2,h3,h4]
  exact ⟨λ_=> .inl hn,λ_=>⟨λ_=>hn,λh=>by rw [hr] at h;cases h⟩⟩
 rcases ws with _|⟨z,ws⟩
 ·refine ⟨λh=>absurd rfl h,λ_=>⟨λh=>?_,λ_=>?_⟩⟩
  ·simp [Vn,Qz,Qr,h0,h1,h2,h3,h4] at h
  ·refine ⟨_,by simp [zdj,Qq,Ja,Ji,Qv,h0,h1,h2,h3,h4];rfl,?_⟩
   simp [Vn,Qz,Qr,dOf,h0,h1,h2,h3,h4]
 ·refine ⟨λ_=> .inr ?_,λh=>by simp at h⟩
  simp [zdj,Qq,Ja,Ji,Qv,h0,h1,h2,h3,h4]
theorem zx1(op:Nat):zbi [100,97,98] (Jc op) (gop op):=by
 intro ws
 rcases ws with _|⟨x0,ws⟩
 ·exact ⟨λ_=> .inl (by simp [gop,zbj]),λh=>by simp at h⟩
 cases h0:(Jt x0).isSome
 ·have hn:(gop op) (x0::ws)=none:=by simp [gop,Qq,h0]
  have hr:(Vn [100,97,98] (x0::ws) (Qr (Jc op))).2=false:=ya2
  exact ⟨λ_=> .inl hn,λ_=>⟨λ_=>hn,λh=>by rw [hr] at h;cases h⟩⟩
 rcases ws with _|⟨x1,ws⟩
 ·exact ⟨λ_=> .inl (by simp [gop,Uo,Qq,h0]),λh=>by simp at h⟩
 cases h1:(zbo x1).2
 ·have hn:(gop op) (x0::x1::ws)=none:=by simp [gop,Qq,Ja,h0,h1]
  have hr:(Vn [100,97,98] (x0::x1::ws) (Qr (Jc op))).2=false:=ybd
  exact ⟨λ_=> .inl hn,λ_=>⟨λ_=>hn,λh=>by rw [hr] at h;cases h⟩⟩
 rcases ws with _|⟨x2,ws⟩
 ·exact ⟨λ_=> .inl (by simp [gop,Uo,Qq,Ja,h0,h1]),λh=>by simp at h⟩
 cases h2:(zbo x2).2
 ·have hn:(gop op) (x0::x1::x2::ws)=none:=by simp [gop,Qq,Ja,h0,h1,h2]
  have hr:(Vn [100,97,98] (x0::x1::x2::ws) (Qr (Jc op))).2=false:=yb7
  exact ⟨λ_=> .inl hn,λ_=>⟨λ_=>hn,λh=>by rw [hr] at h;cases h⟩⟩
 rcases ws with _|⟨z,ws⟩
 ·refine ⟨λh=>absurd rfl h,λ_=>⟨λh=>?_,λ_=>?_⟩⟩
  ·simp [Vn,Qz,Qr,h0,h1,h2] at h
  ·refine ⟨_,by simp [gop,Qq,Ja,h0,h1,h2];rfl,?_⟩
   simp [Vn,Qz,Qr,dOf,h0,h1,h2]
 ·refine ⟨λ_=> .inr ?_,λh=>by simp at h⟩
  simp [gop,Qq,Ja,h0,h1,h2]
theorem zpt:zbi [110] zjn zgb:=by
 intro ws
 rcases ws with _|⟨x0,ws⟩
 ·exact ⟨λ_=> .inl (by simp [zgb,zlk]),λh=>by simp at h⟩
 cases h0:((Qk x0).isSome&&decide (1<=(Qk x0).getD 0)&&decide ((Qk x0).getD 0<=9))
 ·have hn:zgb (x0::ws)=none:=by simp [zgb,Up,h0]
  have hr:(Vn [110] (x0::ws) (Qr zjn)).2=false:=ya2
  exact ⟨λ_=> .inl hn,λ_=>⟨λ_=>hn,λh=>by rw [hr] at h;cases h⟩⟩
 rcases ws with _|⟨z,ws⟩
 ·refine ⟨λh=>absurd rfl h,λ_=>⟨λh=>?_,λ_=>?_⟩⟩
  ·simp [Vn,Qz,Qr,h0] at h
  ·refine ⟨_,by simp [zgb,Up,h0];rfl,?_⟩
   simp only [Bool.and_eq_true,decide_eq_true_eq] at h0
   have hne: ¬(Qk x0).getD 0=10:=yai
   simp [Vn,Qz,Qr,dOf,h0.1.1,h0.1.2,h0.2,hne]
 ·refine ⟨λ_=> .inr ?_,λh=>by simp at h⟩
  simp [zgb,Up,h0]
def z4b(u f:ByteArray)(g:List ByteArray->Option (Ic×List ByteArray)):Prop:=
 (∃k,zqi u=some k/\f=⟨#[100,97,98]⟩/\g=gop k)\/
 (∃(n:Nat) (hn:n<11),zqi u=none/\Xy[n]'hn=u/\(∀j (h:j<n),Xy[j]'(Nat.lt_trans h hn)≠u)/\f=Xz[n]'hn/\zbi (Xz[n]'hn).data.toList u g/\ ∀ws,zbm u ws=g ws)
theorem zi4(h:zqi u=none)(ws:List ByteArray):zbm u ws=(if u=zyl then zly ws else if u=zf9 then Ia ws else if u=zae then Xq ws else if u=zqd then zdj ws else if u=ze9 then Fh ws else if u=zff then zfh ws
  else if u=zzh then zqg ws else if u=zzi then zqh ws else if u=wJz then gjz ws else if u=zjn then zgb ws else if u=znx then znz ws else none):=by
 unfold zbm
 rw [h]
theorem zpu(u:ByteArray):(∃f g,z4b u f g)\/(zqi u=none/\(∀j (h:j<Xy.length),Xy[j]≠u)/\ ∀ws,zbm u ws=none):=by
 cases ho:zqi u with
 |some k=>exact .inl ⟨_,_, .inl ⟨k,ho,rfl,rfl⟩⟩
 |none=>
  have hi:=zi4 ho
  by_cases e0:u=zyl
  ·subst e0;exact .inl ⟨_,_, .inr ⟨0,by decide,ho,rfl,by decide,rfl,zt8,λws=>by rw [hi];rfl⟩⟩
  by_cases e1:u=zf9
  ·subst e1;exact .inl ⟨_,_, .inr ⟨1,by decide,ho,rfl,by decide,rfl,zpr,λws=>by rw [hi];rfl⟩⟩
  by_cases e2:u=zae
  ·subst e2;exact .inl ⟨_,_, .inr ⟨2,by decide,ho,rfl,by decide,rfl,zlm,λws=>by rw [hi];rfl⟩⟩
  by_cases e3:u=zqd
  ·subst e3;exact .inl ⟨_,_, .inr ⟨3,by decide,ho,rfl,by decide,rfl,zua,λws=>by rw [hi];rfl⟩⟩
  by_cases e4:u=ze9
  ·subst e4;exact .inl ⟨_,_, .inr ⟨4,by decide,ho,rfl,by decide,rfl,zps,λws=>by rw [hi];rfl⟩⟩
  by_cases e5:u=zff
  ·subst e5;exact .inl ⟨_,_, .inr ⟨5,by decide,ho,rfl,by decide,rfl,zll,λws=>by rw [hi];rfl⟩⟩
  by_cases e6:u=zzh
  ·subst e6;exact .inl ⟨_,_, .inr ⟨6,by decide,ho,rfl,by decide,rfl,zt7,λws=>by rw [hi];rfl⟩⟩
  by_cases e7:u=zzi
  ·subst e7;exact .inl ⟨_,_, .inr ⟨7,by decide,ho,rfl,by decide,rfl,zt9,λws=>by rw [hi];rfl⟩⟩
  by_cases e8:u=wJz
  ·subst e8;exact .inl ⟨_,_, .inr ⟨8,by decide,ho,rfl,by decide,rfl,zx0,λws=>by rw [hi];rfl⟩⟩
  by_cases e9:u=zjn
  ·subst e9;exact .inl ⟨_,_, .inr ⟨9,by decide,ho,rfl,by decide,rfl,zpt,λws=>by rw [hi];rfl⟩⟩
  by_cases e10:u=znx
  ·subst e10;exact .inl ⟨_,_, .inr ⟨10,by decide,ho,rfl,by decide,rfl,zpq,λws=>by rw [hi];rfl⟩⟩
  refine .inr ⟨rfl,?_,λws=>by rw [hi,if_neg e0,if_neg e1,if_neg e2,if_neg e3,if_neg e4,if_neg e5,if_neg e6,if_neg e7,if_neg e8,if_neg e9,if_neg e10]⟩
  intro j hj
  have hj':j<11:=hj
  have hc:j=0\/j=1\/j=2\/j=3\/j=4\/j=5\/j=6\/j=7\/j=8\/j=9\/j=10:=yai
  rcases hc with rfl|rfl|rfl|rfl|rfl|rfl|rfl|rfl|rfl|rfl|rfl
  ·exact λe=>e0 e.symm
  ·exact λe=>e1 e.symm
  ·exact λe=>e2 e.symm
  ·exact λe=>e3 e.symm
  ·exact λe=>e4 e.symm
  ·exact λe=>e5 e.symm
  ·exact λe=>e6 e.symm
  ·exact λe=>e7 e.symm
  ·exact λe=>e8 e.symm
  ·exact λe=>e9 e.symm
  ·exact λe=>e10 e.symm
theorem zpv(h:zqi u=some k): ∀j,j<k->Jc j≠u:=by
 intro j hj e
 unfold zqi at h
 obtain ⟨h1,xs,ys,h2,h3⟩:=List.find?_eq_some_iff_append.1 h
 have hk:xs.length=k:=by
  have hlen:xs.length<12:=ydt
  have:=congrArg (λl=>l[xs.length]?) h2
  simp [hlen] at this
  exact this
 have:xs[j]?=some j:=by
  have:=congrArg (λl=>l[j]?) h2
  simp [List.getElem?_append_left (show j<xs.length by omega)] at this
  rw [<-this]
  have:j<12:=ydt
  simp [this]
 have:=h3 j (List.mem_of_getElem? this)
 simp [e] at this
theorem zi5(n:Nat)(hn:n<11): ∀j (h:j<(Xz[n]'hn).size),(Xz[n]'hn)[j]=100\/(Xz[n]'hn)[j]=97\/(Xz[n]'hn)[j]=98\/(Xz[n]'hn)[j]=99\/(Xz[n]'hn)[j]=107\/(Xz[n]'hn)[j]=116\/(Xz[n]'hn)[j]=110:=by
 have key: ∀n (hn:n<11),∀b∈(Xz[n]'hn).data.toList,b=100\/b=97\/b=98\/b=99\/b=107\/b=116\/b=110:=yal
 intro j h
 refine key n hn _ ?_
 rw [ByteArray.getElem_eq_getElem_data]
 simp
theorem zub: ∀n (hn:n<11),(Xz[n]'hn).size<=5:=yal
theorem zx2: ∀n (hn:n<11),((Xz[n]'hn).data.toList==[63])=false:=yal
section
variable(w:World)(b c:Nat)(u:ByteArray)(ws:List ByteArray)
theorem zx3(f:ByteArray)(hq:(f.toList==[63])=false)(hf:f.size<=5)(hl:ws.length≠f.size)(hb:b<w.heap.size)(hw:Hid (StrsAt w b (u::ws)))
  (hform:Hid (∀W,Cl 46 #[.string u] W λe w'=>e= .returned (.string f)/\Below W.heap.size W w')):
  Cl 26 #[.slice (some ⟨b,0,none⟩) (ws.length+1) c] w λe w'=>(∃i,e= .returned (.tuple #[Vm i, .bool false]))/\Below w.heap.size w w':=by
 have h0:w.cell? ⟨b,0,none⟩=some (.string u):=hw.out 0 yaj
 go_enter Tryz.func26,Tryz.ntmps26
 go_wp2_with fail
 generalize hA:w.alloc _=WA
 generalize hB:WA.alloc _=WB
 have sA:WA.heap.size=w.heap.size+1:=yb5
 have bA:Below w.heap.size w WB:=ydc
 have sB:WB.heap.size=w.heap.size+2:=by rw [<-hB];simp [sA]
 have dI:DIAt WB (w.heap.size+1) (Qr u):=ydd
 have dR:DIAt WB w.heap.size (Qr ⟨#[]⟩):=yde
 have fR: ∀j,WB.frozen? ⟨w.heap.size,j,none⟩=false:=ydf
 clear hA hB
 refine (hform.out WB).mono ?_
 rintro e W1 ⟨rfl,b1⟩
 obtain ⟨i0,i1,i2,i3,i4,i5,i6,i7,i8⟩:=dI.below b1 yai
 obtain ⟨r0,r1,r2,r3,r4,r5,r6,r7,r8⟩:=dR.below b1 yai
 have f: ∀j,W1.frozen? ⟨w.heap.size,j,none⟩=false:=λj=>(b1.frozen (p:=⟨w.heap.size,j,none⟩) yb6).trans (fR j)
 have f0:=f 0
 have f1:=f 1
 have f2:=f 2
 have f3:=f 3
 have f4:=f 4
 have f5:=f 5
 have f6:=f 6
 have f7:=f 7
 have f8:=f 8
 have B1:=hid b1
 have BA:=hid bA
 clear b1 bA f fR dI dR
 simp only [Qr] at i0 i1 i2 i3 i4 i5 i6 i7 i8 r0 r1 r2 r3 r4 r5 r6 r7 r8
 have hq': ¬f.toList=[63]:=by simpa using hq
 have hlen:((ws.length:Int)+1 !=1+(f.size:Int))=true:=yan
 go_wp2
 have hR:DIAt W1 w.heap.size (Qr ⟨#[]⟩):=⟨r0,r1,r2,r3,r4,r5,r6,r7,r8⟩
 obtain ⟨q0,q1,q2,q3,q4,q5,q6,q7,q8⟩:=Zj hR (Qr u)
 have hbel:=Jn (BA.out.trans (B1.out.mono yai)) (Nat.le_refl w.heap.size) (Qr u)
 refine ⟨rfl, .tuple #[Vm (Qr u), .bool false],?_,⟨_,rfl⟩,hbel⟩
 change (results _ _).run _ (Vf W1 w.heap.size (Qr u))= .ok _ (Vf W1 w.heap.size (Qr u))
 generalize Vf W1 w.heap.size (Qr u)=W' at*
 simp [results,Tryz.results26,go_sem,q0,q1,q2,q3,q4,q5,q6,q7,q8,Vm,Qr]
def zzc(u:ByteArray)(us:List ByteArray)(i:DI)(ok:Bool):Prop:=
 (ok=false/\(zbm u us=none\/ ∃ic x xs,zbm u us=some (ic,x::xs)))\/(ok=true/\ ∃ic,zbm u us=some (ic,[])/\i=dOf ic)
theorem znm(f:ByteArray)(g:List ByteArray->Option (Ic×List ByteArray))(hf:f.size<=5)(hq:(f.data.toList==[63])=false)(hb:b<w.heap.size)(hw:StrsAt w b (u::ws))
  (hlet: ∀j (h:j<f.size),f[j]=100\/f[j]=97\/f[j]=98\/f[j]=99\/f[j]=107\/f[j]=116\/f[j]=110)
  (hform: ∀W,Cl 46 #[.string u] W λe w'=>e= .returned (.string f)/\Below W.heap.size W w')
  (ha:zbi f.data.toList u g) (hg: ∀us,zbm u us=g us):
  Cl 26 #[.slice (some ⟨b,0,none⟩) (ws.length+1) c] w λe w'=>(∃i ok,e= .returned (.tuple #[Vm i, .bool ok])/\zzc u ws i ok)/\Below w.heap.size w w':=by
 have hq':(f.toList==[63])=false:=by rw [ByteArray.toList_eq];exact hq
 have hfl:f.data.toList.length=f.size:=ybz
 by_cases hl:ws.length=f.size
 ·refine (zt6 w b c u ws f hf hq' hb hw hl hlet hform).mono ?_
  rintro e w' ⟨rfl,hb'⟩
  refine ⟨⟨_,_,rfl,?_⟩,hb'⟩
  obtain ⟨h1,h2⟩:=(ha ws).2 yai
  cases hr:(Vn f.data.toList ws (Qr u)).2 with
  |false=>exact .inl ⟨rfl, .inl (by rw [hg];exact h1 hr)⟩
  |true=>
   obtain ⟨ic,h3,h4⟩:=h2 hr
   exact .inr ⟨rfl,ic,by rw [hg];exact h3,h4⟩
 ·refine (zx3 w b c u ws f hq' hf hl hb hw hform).mono ?_
  rintro e w' ⟨⟨i,rfl⟩,hb'⟩
  exact ⟨⟨i,false,rfl, .inl ⟨rfl,by rw [hg];exact (ha ws).1 yai⟩⟩,hb'⟩
theorem zx4(hb:b<w.heap.size)(hw:StrsAt w b (u::ws)):
  Cl 26 #[.slice (some ⟨b,0,none⟩) (ws.length+1) c] w λe w'=>(∃i ok,e= .returned (.tuple #[Vm i, .bool ok])/\zzc u ws i ok)/\Below w.heap.size w w':=by
 rcases zpu u with ⟨f,g,hF⟩|⟨h1,h2,h3⟩
 ·rcases hF with ⟨k,h,rfl,rfl⟩|⟨n,hn,h,hw',hf,rfl,ha,hg⟩
  ·have hg: ∀us,zbm u us=gop k us:=λus=>by unfold zbm;rw [h]
   obtain ⟨hk,hu⟩:=zhj h
   have ha:=zx1 k
   rw [hu] at ha
   refine znm w b c u ws ⟨#[100,97,98]⟩ (gop k) yal yal hb hw ?_ (λW=>zpn W u k hk (zpv h) hu) ha hg
   intro j hj
   have hj':j<3:=hj
   have hc:j=0\/j=1\/j=2:=yai
   rcases hc with rfl|rfl|rfl
   ·exact .inl rfl
   ·exact .inr (.inl rfl)
   ·exact .inr (.inr (.inl rfl))
  ·exact znm w b c u ws _ g (zub n hn) (zx2 n hn) hb hw (zi5 n hn) (λW=>zpo W u (zdk h) n hn hf hw') ha hg
 ·refine (zt5 w b c u ws hb hw (zdk h1) h2).mono ?_
  rintro e w' ⟨⟨i,rfl⟩,hb'⟩
  exact ⟨⟨i,false,rfl, .inl ⟨rfl, .inl (h3 ws)⟩⟩,hb'⟩
end
def Zw(ic:Ic):List Value:=[.string (dOf ic).word, .int .i64 (dOf ic).d, .bool (dOf ic).a.reg, .int .i64 (dOf ic).a.v, .bool (dOf ic).b.reg, .int .i64 (dOf ic).b.v, .bool (dOf ic).c.reg, .int .i64 (dOf ic).c.v, .int .i64 (dOf ic).k]
def zuc(q:List (Int×Int)):List Value:=q.flatMap λp=>[.int .i64 p.1, .int .i64 p.2]
structure CT where
 b:Nat
 rb:Nat
 cv:Value
 wv:Value
 ov:Value
 T:Th
 code:List Ic
structure CThAt(w:World)(t:CT):Prop where
 sh:w.shape? t.b=some (84,6)
 codec:w.cell? ⟨t.b,0,none⟩=some t.cv
 crow:w.ownsRow 0 88 9 t.cv t.code.length (t.code.flatMap Zw)
 pc:w.cell? ⟨t.b,1,none⟩=some (.int .i64 t.T.pl)
 regs:w.cell? ⟨t.b,2,none⟩=some (.slice (some ⟨t.rb,0,none⟩) 8 8)
 rsh:w.shape? t.rb=some (2,8)
 rcell: ∀j,j<8->w.cell? ⟨t.rb,j,none⟩=some (.int .i64 (t.T.r j))
 rfree: ∀j,j<8->w.frozen? ⟨t.rb,j,none⟩=false
 waits:w.cell? ⟨t.b,3,none⟩=some t.wv
 wrow:w.ownsRow 0 324 2 t.wv t.T.q.length (zuc t.T.q)
 outc:w.cell? ⟨t.b,4,none⟩=some t.ov
 orow:w.ownsRow 0 2 1 t.ov t.T.out.length (t.T.out.map (Value.int .i64))
 state:w.cell? ⟨t.b,5,none⟩=some (.int .i64 t.T.st)
 free: ∀j,j<6->w.frozen? ⟨t.b,j,none⟩=false
structure z5z(D:Nat->Prop)(lab:Nat->Nat×Nat)(i:Nat)(t:CT):Prop where
 b:lab t.b=(i+1,0)/\D t.b
 rb:lab t.rb=(i+1,1)/\D t.rb
 cv: ∀g,t.cv.ownBlock=some g->lab g=(i+1,2)/\D g
 wv: ∀g,t.wv.ownBlock=some g->lab g=(i+1,3)/\D g
 ov: ∀g,t.ov.ownBlock=some g->lab g=(i+1,4)/\D g
structure CMach(D:Nat->Prop)(lab:Nat->Nat×Nat)(w:World)(bm mb:Nat)(tv:Value)(m:Nat->Int)(ts:List CT):Prop where
 sh:w.shape? bm=some (37,2)
 memc:w.cell? ⟨bm,0,none⟩=some (.slice (some ⟨mb,0,none⟩) 256 256)
 tc:w.cell? ⟨bm,1,none⟩=some tv
 free: ∀j,j<2->w.frozen? ⟨bm,j,none⟩=false
 msh:w.shape? mb=some (2,256)
 mcell: ∀j,j<256->w.cell? ⟨mb,j,none⟩=some (.int .i64 (m j))
 mfree: ∀j,j<256->w.frozen? ⟨mb,j,none⟩=false
 trow:w.ownsRow 0 80 1 tv ts.length (ts.map λt=>ptr t.b)
 th: ∀i (h:i<ts.length),CThAt w ts[i]
 lb:lab bm=(0,0)/\D bm
 lm:lab mb=(0,1)/\D mb
 lt: ∀g,tv.ownBlock=some g->lab g=(0,2)/\D g
 lts: ∀i (h:i<ts.length),z5z D lab i ts[i]
theorem CThAt.keep{t:CT}(h:CThAt w t)(hc:Chg M w w')(hb: ∀i,¬M t.b i)(hr: ∀i,¬M t.rb i)(hcv: ∀g,t.cv.ownBlock=some g->∀i,¬M g i)(hwv: ∀g,t.wv.ownBlock=some g->∀i,¬M g i)(hov: ∀g,t.ov.ownBlock=some g->∀i,¬M g i):CThAt w' t:=by
 have lb:=Qd h.sh
 have lr:=Qd h.rsh
 exact {
  sh:=(hc.shape _ lb).trans h.sh
  codec:=(hc.cell _ _ lb (hb 0)).trans h.codec
  crow:=Qc h.crow hc hcv
  pc:=(hc.cell _ _ lb (hb 1)).trans h.pc
  regs:=(hc.cell _ _ lb (hb 2)).trans h.regs
  rsh:=(hc.shape _ lr).trans h.rsh
  rcell:=λj hj=>(hc.cell _ _ lr (hr j)).trans (h.rcell j hj)
  rfree:=λj hj=>(hc.frozen _ _ lr).trans (h.rfree j hj)
  waits:=(hc.cell _ _ lb (hb 3)).trans h.waits
  wrow:=Qc h.wrow hc hwv
  outc:=(hc.cell _ _ lb (hb 4)).trans h.outc
  orow:=Qc h.orow hc hov
  state:=(hc.cell _ _ lb (hb 5)).trans h.state
  free:=λj hj=>(hc.frozen _ _ lb).trans (h.free j hj)}
theorem CMach.keep{ts:List CT}(h:CMach D lab w bm mb tv m ts)(hc:Chg M w w')(hM: ∀k i,D k->¬M k i):CMach D lab w' bm mb tv m ts:=by
 have lb:=Qd h.sh
 have lm:=Qd h.msh
 exact {
  sh:=(hc.shape _ lb).trans h.sh
  memc:=(hc.cell _ _ lb (hM _ _ h.lb.2)).trans h.memc
  tc:=(hc.cell _ _ lb (hM _ _ h.lb.2)).trans h.tc
  free:=λj hj=>(hc.frozen _ _ lb).trans (h.free j hj)
  msh:=(hc.shape _ lm).trans h.msh
  mcell:=λj hj=>(hc.cell _ _ lm (hM _ _ h.lm.2)).trans (h.mcell j hj)
  mfree:=λj hj=>(hc.frozen _ _ lm).trans (h.mfree j hj)
  trow:=Qc h.trow hc (λg hg i=>hM _ _ (h.lt g hg).2)
  th:=λi hi=>(h.th i hi).keep hc (λ_=>hM _ _ (h.lts i hi).b.2) (λ_=>hM _ _ (h.lts i hi).rb.2) (λg hg _=>hM _ _ ((h.lts i hi).cv g hg).2) (λg hg _=>hM _ _ ((h.lts i hi).wv g hg).2) (λg hg _=>hM _ _ ((h.lts i hi).ov g hg).2)
  lb:=h.lb
  lm:=h.lm
  lt:=h.lt
  lts:=h.lts}
theorem CMach.below{ts:List CT}(h:CMach D lab w bm mb tv m ts)(hb:Below w.heap.size w w'):CMach D lab w' bm mb tv m ts:=
 h.keep (M:=λ_ _=>False) (Chg.of_below hb) (λ_ _ _ e=>e)
def Em(n:Nat):Array Value:=madeCells #[.int .i64 0] n
theorem zf2(n:Nat):(Em n).size=n:=size_madeCells _ _
theorem zi6(n j:Nat)(h:j<n):(Em n)[j]?=some (.int .i64 0):=by
 unfold Em madeCells
 simp [h,Nat.mod_one]
theorem zf3(n:Nat)(hn:n<=1000)(w:World):(Instr.makeSlice 34 (.int .i64 n) (.int .i64 n)).run Tryz.prog w= .ok (.slice (some ⟨w.heap.size,0,none⟩) n n) (w.alloc (.cells (Em n) 2)):=by
 obtain ⟨i0,hi,hz0,hz1,hz2⟩:=info_parts zqb
 have:=run_make (P:=Tryz.prog) w 34 2 i0 (.int .i64 0) Tryz.underlying34 hi hz0 .i64 .i64 n n yai (Int.le_refl _) (by rw [hz2];omega) yai
 rw [this,hz1]
 simp [Em]
 rfl
theorem z1r(w:World)(t:TypeId):w.ownsRow 0 t 9 (.slice none 0 0) 0 []:=⟨rfl, .inl ⟨rfl,rfl⟩⟩
def z4c(b rb:Nat):CT:=⟨b,rb, .slice none 0 0, .slice none 0 0, .slice none 0 0,Th.init,[]⟩
def zhg(w:World):World:=(((w.alloc (.cells (Em 8) 2)).alloc (.cells #[.slice none 0 0, .int .i64 0, .slice (some ⟨w.heap.size,0,none⟩) 8 8, .slice none 0 0, .slice none 0 0, .int .i64 0] 84)).alloc (.cells #[ptr (w.heap.size+1)] 80)).drew
theorem zet(w:World):(zhg w).heap.size=w.heap.size+3:=by simp [zhg]
theorem zdg(w:World):Chg (λ_ _=>False) w (zhg w):=((((Chg.refl _ w).alloc _).alloc _).alloc _).drew
theorem zcf(w:World)(o:Nat)(v:Value)(h:(#[Value.slice none 0 0, .int .i64 0, .slice (some ⟨w.heap.size,0,none⟩) 8 8, .slice none 0 0, .slice none 0 0, .int .i64 0])[o]?=some v):(zhg w).cell? ⟨w.heap.size+1,o,none⟩=some v:=by
 have hs:(w.alloc (.cells (Em 8) 2)).heap.size=w.heap.size+1:=yaj
 have:=World.cell?_alloc_new (w.alloc (.cells (Em 8) 2)) #[.slice none 0 0, .int .i64 0, .slice (some ⟨w.heap.size,0,none⟩) 8 8, .slice none 0 0, .slice none 0 0, .int .i64 0] 84 o
 rw [hs] at this
 exact (World.cell?_alloc_past _ _ _ yaj).trans (this.trans h)
theorem z1s(w:World):(zhg w).shape? (w.heap.size+1)=some (84,6):=by
 have hs:(w.alloc (.cells (Em 8) 2)).heap.size=w.heap.size+1:=yaj
 have:=Fi (w.alloc (.cells (Em 8) 2)) #[.slice none 0 0, .int .i64 0, .slice (some ⟨w.heap.size,0,none⟩) 8 8, .slice none 0 0, .slice none 0 0, .int .i64 0] 84
 rw [hs] at this
 exact (Jw (Below.heap_alloc _ _ _ yaj)).trans this
theorem z1t(w:World)(o:Nat):(zhg w).frozen? ⟨w.heap.size+1,o,none⟩=false:=by
 have hs:(w.alloc (.cells (Em 8) 2)).heap.size=w.heap.size+1:=yaj
 refine (World.frozen?_alloc_past _ _ _ yaj).trans ?_
 rw [<-hs]
 simp
theorem z1u(w:World)(j:Nat)(h:j<8):(zhg w).cell? ⟨w.heap.size,j,none⟩=some (.int .i64 0):=
 (World.cell?_alloc_past _ _ _ yan).trans ((World.cell?_alloc_past _ _ _ yaj).trans ((World.cell?_alloc_new w _ _ j).trans (zi6 8 j h)))
theorem z1v(w:World):(zhg w).shape? w.heap.size=some (2,8):=
 (Jw (Below.heap_alloc _ _ _ yan)).trans ((Jw (Below.heap_alloc _ _ _ yaj)).trans ((Fi w _ _).trans (by rw [zf2])))
theorem z1w(w:World)(j:Nat):(zhg w).frozen? ⟨w.heap.size,j,none⟩=false:=
 (World.frozen?_alloc_past _ _ _ yan).trans ((World.frozen?_alloc_past _ _ _ yaj).trans yaj)
theorem zx5(h:w.ownsRow 0 e 1 v n xs):(zhg w).ownsRow 0 e 1 v n xs:=Qc h (zdg w) (λ_ _ _ e=>e)
theorem zx6(w:World): ∀j u',[ptr (w.heap.size+1)][j]?=some u'->(zhg w).cell? ((⟨w.heap.size+1+1,0,none⟩:Addr).add j)=some u':=by
 have hs:((w.alloc (.cells (Em 8) 2)).alloc (.cells #[.slice none 0 0, .int .i64 0, .slice (some ⟨w.heap.size,0,none⟩) 8 8, .slice none 0 0, .slice none 0 0, .int .i64 0] 84)).heap.size=w.heap.size+1+1:=yaj
 have:=cell_one_new ((w.alloc (.cells (Em 8) 2)).alloc (.cells #[.slice none 0 0, .int .i64 0, .slice (some ⟨w.heap.size,0,none⟩) 8 8, .slice none 0 0, .slice none 0 0, .int .i64 0] 84)) (ptr (w.heap.size+1)) 80
 rw [hs] at this
 exact this
theorem Ev{l l':Nat×Nat}(h: ∀g,v.ownBlock=some g->lab g=l/\D g)(hk:lab k=l')(hl:l'≠l): ¬v.ownBlock=some k:=λe=>hl (hk.symm.trans (h k e).1)
theorem zi7{q cp:Nat}{ts:List CT}(h:CMach D lab w bm mb tv m ts)(hD: ∀k,w.heap.size<=k->D k)
  (ho:w3.ownsRow 0 80 1 (.slice (some ⟨q,0,none⟩) (ts.length+1) cp) (ts.length+1) ((ts.map λt=>ptr t.b)++[ptr (w.heap.size+1)]))
  (hc:Chg (λk _=>tv.ownBlock=some k) (zhg w) w3) (hg:tv.ownBlock=some q\/q=(zhg w).heap.size):
  ∃lab',CMach D lab' (w3.setCell ⟨bm,1,none⟩ (.slice (some ⟨q,0,none⟩) (ts.length+1) cp)) bm mb (.slice (some ⟨q,0,none⟩) (ts.length+1) cp) m (ts++[z4c (w.heap.size+1) w.heap.size])/\Chg (λk _=>D k) w (w3.setCell ⟨bm,1,none⟩ (.slice (some ⟨q,0,none⟩) (ts.length+1) cp)):=by
 have hn3:=zet w
 have lbm:=Qd h.sh
 have lmb:=Qd h.msh
 have htl: ∀k,tv.ownBlock=some k->k<w.heap.size:=λk hk=>(h.trow.lt k hk).2
 have hset:Chg (λk i=>k=bm/\i=1) w3 (w3.setCell ⟨bm,1,none⟩ (.slice (some ⟨q,0,none⟩) (ts.length+1) cp)):=(Chg.refl (λk i=>k=bm/\i=1) w3).setCell (b:=bm) (o:=1) (λ_=>⟨rfl,rfl⟩) _
 have hw3:Chg (λk _=>tv.ownBlock=some k) w w3:=((zdg w).mono (λ_ _ _ e=>e.elim)).trans hc
 have hall:Chg (λk i=>tv.ownBlock=some k\/(k=bm/\i=1)) w (w3.setCell ⟨bm,1,none⟩ (.slice (some ⟨q,0,none⟩) (ts.length+1) cp)):=(hw3.mono (λ_ _ _ e=> .inl e)).trans (hset.mono (λ_ _ _ e=> .inr e))
 have hs3:w.heap.size+3<=w3.heap.size:=by have:=hc.size;omega
 generalize hW:w3.setCell ⟨bm,1,none⟩ (.slice (some ⟨q,0,none⟩) (ts.length+1) cp)=W at*
 -- what is new
 have new: ∀k,w.heap.size<=k->k<w.heap.size+3->∀o,W.cell? ⟨k,o,none⟩=(zhg w).cell? ⟨k,o,none⟩:=λk h1 h2 o=>(hset.cell k o yai yai).trans (hc.cell k o yai (λe=>by have:=htl k e;omega))
 have newS: ∀k,k<w.heap.size+3->W.shape? k=(zhg w).shape? k:=λk h2=>(hset.shape k yai).trans (hc.shape k yai)
 have newF: ∀k,k<w.heap.size+3->∀o,W.frozen? ⟨k,o,none⟩=(zhg w).frozen? ⟨k,o,none⟩:=λk h2 o=>(hset.frozen k o yai).trans (hc.frozen k o yai)
 let lab':Nat->Nat×Nat:=λk=>if k=w.heap.size then (ts.length+1,1) else if k=w.heap.size+1 then (ts.length+1,0) else if k=q then (0,2) else lab k
 have hold: ∀k,k<w.heap.size->lab' k=lab k:=by
  intro k hk
  show (if k=w.heap.size then _ else if k=w.heap.size+1 then _ else if k=q then _ else _)=_
  rw [if_neg yai,if_neg yai]
  by_cases e:k=q
  ·rw [if_pos e]
   rcases hg with hg|hg
   ·rw [e];exact ((h.lt q hg).1).symm
   ·omega
  ·rw [if_neg e]
 have hqn:q≠w.heap.size/\q≠w.heap.size+1:=by
  rcases hg with hg|hg
  ·have:=htl q hg;omega
  ·omega
 have hqb:q≠bm:=by
  rcases hg with hg|hg
  ·intro e;exact Ev h.lt h.lb.1 yal (e▸hg)
  ·omega
 have labs: ∀i (hi:i<ts.length),z5z D lab' i ts[i]:=λi hi=>by
  have l:=h.lts i hi
  have t:=h.th i hi
  exact ⟨⟨(hold _ (Qd t.sh)).trans l.b.1,l.b.2⟩,⟨(hold _ (Qd t.rsh)).trans l.rb.1,l.rb.2⟩,λg hg=>⟨(hold _ (t.crow.lt g hg).2).trans (l.cv g hg).1,(l.cv g hg).2⟩,λg hg=>⟨(hold _ (t.wrow.lt g hg).2).trans (l.wv g hg).1,(l.wv g hg).2⟩,λg hg=>⟨(hold _ (t.orow.lt g hg).2).trans (l.ov g hg).1,(l.ov g hg).2⟩⟩
 have notM: ∀k l,lab k=l->l≠(0,2)->l≠(0,0)->∀i,¬(tv.ownBlock=some k\/(k=bm/\i=1)):=by
  rintro k l hk h1 h2 i (e|⟨e,_⟩)
  ·exact Ev h.lt hk h1 e
  ·exact h2 (hk.symm.trans (e▸h.lb.1))
 refine ⟨lab',⟨(hall.shape _ lbm).trans h.sh,(hall.cell _ _ lbm ?_).trans h.memc,?_,λj hj=>(hall.frozen _ _ lbm).trans (h.free j hj),(hall.shape _ lmb).trans h.msh,λj hj=>(hall.cell _ _ lmb (notM _ _ h.lm.1 yal yal _)).trans (h.mcell j hj),λj hj=>(hall.frozen _ _ lmb).trans (h.mfree j hj),?_,?_,⟨(hold _ lbm).trans h.lb.1,h.lb.2⟩,⟨(hold _ lmb).trans h.lm.1,h.lm.2⟩,?_,?_⟩,hall.mono ?_⟩
 ·rintro (e|e)
  ·exact Ev h.lt h.lb.1 yal e
  ·omega
 ·rw [<-hW]
  refine Qg (u:=tv) ((hw3.cell _ _ lbm (Ev h.lt h.lb.1 yal)).trans h.tc) rfl
 ·have:=Qc ho hset (λg hg' i e=>by simp [Value.ownBlock] at hg';omega)
  simpa [z4c] using this
 ·intro i hi
  by_cases hi':i<ts.length
  ·rw [List.getElem_append_left hi']
   have l:=h.lts i hi'
   have ne: ∀k x,lab k=(i+1,x)->∀j,¬(tv.ownBlock=some k\/(k=bm/\j=1)):=λk x hk j=>notM k _ hk yaj yaj j
   exact (h.th i hi').keep hall (ne _ _ l.b.1) (ne _ _ l.rb.1) (λg hg=>ne _ _ (l.cv g hg).1) (λg hg=>ne _ _ (l.wv g hg).1) (λg hg=>ne _ _ (l.ov g hg).1)
  ·obtain rfl:i=ts.length:=by simp at hi;omega
   rw [List.getElem_append_right (Nat.le_refl _)]
   simp only [Nat.sub_self,List.getElem_cons_zero]
   exact {
    sh:=(newS _ ya8).trans (z1s w)
    codec:=(new _ ybe ya8 0).trans (zcf w 0 _ rfl)
    crow:=z1r _ _
    pc:=(new _ ybe ya8 1).trans (zcf w 1 _ rfl)
    regs:=(new _ ybe ya8 2).trans (zcf w 2 _ rfl)
    rsh:=(newS _ yb6).trans (z1v w)
    rcell:=λj hj=>(new _ (Nat.le_refl _) yb6 j).trans (z1u w j hj)
    rfree:=λj _=>(newF _ yb6 j).trans (z1w w j)
    waits:=(new _ ybe ya8 3).trans (zcf w 3 _ rfl)
    wrow:=⟨rfl, .inl ⟨rfl,rfl⟩⟩
    outc:=(new _ ybe ya8 4).trans (zcf w 4 _ rfl)
    orow:=⟨rfl, .inl ⟨rfl,rfl⟩⟩
    state:=(new _ ybe ya8 5).trans (zcf w 5 _ rfl)
    free:=λj _=>(newF _ ya8 j).trans (z1t w j)}
 ·intro g hg'
  simp [Value.ownBlock] at hg'
  subst hg'
  refine ⟨?_,?_⟩
  ·show (if q=w.heap.size then _ else if q=w.heap.size+1 then _ else if q=q then _ else _)=_
   rw [if_neg hqn.1,if_neg hqn.2,if_pos rfl]
  ·rcases hg with hg|hg
   ·exact (h.lt q hg).2
   ·exact hD q yai
 ·intro i hi
  by_cases hi':i<ts.length
  ·rw [List.getElem_append_left hi']
   exact labs i hi'
  ·obtain rfl:i=ts.length:=by simp at hi;omega
   rw [List.getElem_append_right (Nat.le_refl _)]
   simp only [Nat.sub_self,List.getElem_cons_zero]
   have none_own: ∀g,(Value.slice none 0 0).ownBlock≠some g:=λg e=>by simp [Value.ownBlock] at e
   refine ⟨⟨?_,hD _ ybe⟩,⟨?_,hD _ (Nat.le_refl _)⟩,λg e=>absurd e (none_own g),λg e=>absurd e (none_own g),λg e=>absurd e (none_own g)⟩
   ·show (if w.heap.size+1=w.heap.size then _ else if w.heap.size+1=w.heap.size+1 then _ else _)=_
    rw [if_neg yai,if_pos rfl]
   ·show (if w.heap.size=w.heap.size then _ else _)=_
    rw [if_pos rfl]
 ·rintro k i hk (e|⟨rfl,_⟩)
  ·exact (h.lt k e).2
  ·exact h.lb.2
theorem zud{ts:List CT}(h:CMach D lab w bm mb tv m ts)(hc:Chg (λk _=>tv.ownBlock=some k) (zhg w) w3):w3.cell? ⟨bm,1,none⟩=some tv:=
 (hc.cell bm 1 (by rw [zet];have:=Qd h.sh;omega) (Ev h.lt h.lb.1 yal)).trans (((zdg w).cell bm 1 (Qd h.sh) (λe=>e)).trans h.tc)
theorem zue{ts:List CT}(h:CMach D lab w bm mb tv m ts)(hc:Chg (λk _=>tv.ownBlock=some k) (zhg w) w3):w3.frozen? ⟨bm,1,none⟩=false:=
 (hc.frozen bm 1 (by rw [zet];have:=Qd h.sh;omega)).trans (((zdg w).frozen bm 1 (Qd h.sh)).trans (h.free 1 yai))
section
variable{D:Nat->Prop}{lab:Nat->Nat×Nat}{w:World}{bm mb bw c:Nat}{tv:Value}{m:Nat->Int}{ts:List CT}{us:List ByteArray}{u:ByteArray}
theorem zpw(h:CMach D lab w bm mb tv m ts)(hw:StrsAt w bw [Vj])(h3:ts.length=3):
  Cl 14 #[ptr bm, .slice (some ⟨bw,0,none⟩) 1 c] w λe w'=>e= .returned (.int .i64 5)/\w'=w:=by
 have hc:=h.tc
 have h0:w.cell? ⟨bw,0,none⟩=some (.string ⟨#[116,104,114,101,97,100]⟩):=hw 0 yaj
 obtain ⟨ta,tk,rfl⟩: ∃ta tk,tv= .slice ta ts.length tk:=z8l
 rw [h3] at hc
 have H:=hid h
 clear h hw
 go_enter Tryz.func14,Tryz.ntmps14
 go_wp2
 go_ret
 exact ⟨rfl,rfl⟩
theorem zi8:(Tryz.prog.info? 80).map (λi=>(i.zero,i.size,i.bytes))=some (some (.pointer none),1,8):=yak
theorem zln(h:CMach D lab w bm mb tv m ts)(hD: ∀k,w.heap.size<=k->D k)(hw:StrsAt w bw [Vj])(h3:ts.length<3):
  Cl 14 #[ptr bm, .slice (some ⟨bw,0,none⟩) 1 c] w λe w'=>e= .returned (.int .i64 0)/\(∃lab' tv' t,CMach D lab' w' bm mb tv' m (ts++[t])/\t.T=Th.init/\t.code=[])/\Chg (λk _=>D k) w w':=by
 obtain ⟨i0,hi,hz0,hz1,hz2⟩:=info_parts zi8
 have hc:=h.tc
 have hfc:=h.free 1 yai
 have h0:w.cell? ⟨bw,0,none⟩=some (.string ⟨#[116,104,114,101,97,100]⟩):=hw 0 yaj
 obtain ⟨ta,tk,rfl⟩: ∃ta tk,tv= .slice ta ts.length tk:=z8l
 have hlb:=Qd h.sh
 have hlb1:bm<w.heap.size+1:=yai
 have hlb2:bm<w.heap.size+1+1:=yai
 have hn3: ¬(ts.length:Int)=3:=yai
 have hmk: ∀w,(Instr.makeSlice 34 (.int .i64 8) (.int .i64 8)).run Tryz.prog w= .ok (.slice (some ⟨w.heap.size,0,none⟩) 8 8) (w.alloc (.cells (Em 8) 2)):=λw=>zf3 8 yal w
 have hl1:ts.length+1<=maxLen:=yap
 have hl2:(ts.length+1)*8<=140737488355328:=yai
 have H:=hid h
 clear h hw
 go_enter Tryz.func14,Tryz.ntmps14
 go_wp2_with fail
 go_region_law (refine zqj rfl (.tmp 33) (.tmp 37) 35 rfl 80 i0 (.pointer none) 8 Tryz.underlying35 hi hz0 hz1 hz2 rfl (.slice ta ts.length tk) ts.length (ts.map λt=>ptr t.b) rfl ?own ⟨w.heap.size+1+1,0,none⟩ (ptr (w.heap.size+1)) rfl ?cel rfl hl1 hl2 ?_;(case own=>exact zx5 H.out.trow);(case cel=>exact zx6 w);intro q cp w3 ho hch hg;have hcb:=(zud H.out hch);have hfb:=(zue H.out hch);have HO:=hid ho;have HC:=hid hch;have HG:=hid hg;clear ho hch hg)
 all_goals
  go_wp2
  go_ret
  obtain ⟨lab',h1,h2⟩:=zi7 H.out hD HO.out HC.out HG.out
  exact ⟨rfl,⟨lab',_,_,h1,rfl,rfl⟩,h2⟩
end
theorem zx7:(Tryz.prog.info? 88).map (λi=>(i.zero,i.size,i.bytes))=some (some (.agg #[.string ⟨#[]⟩, .int .i64 0, .bool false, .int .i64 0, .bool false, .int .i64 0, .bool false, .int .i64 0, .int .i64 0]),9,80):=yak
section
variable{D:Nat->Prop}{lab:Nat->Nat×Nat}{w:World}{bm mb bw c:Nat}{tv:Value}{m:Nat->Int}{ts:List CT}{us:List ByteArray}{u:ByteArray}
def zcg(u:ByteArray)(us:List ByteArray):Prop:=us≠[]\/u≠Vj
theorem Oy(hN:zcg u us):(¬((us.length:Int)+1=1))\/((us.length:Int)+1=1/\(u.toList==[116,104,114,101,97,100])=false):=by
 by_cases e:us=[]
 ·exact .inr ⟨by rw [e];rfl,zzk (hN.resolve_left (λh=>h e))⟩
 ·have:=List.length_pos_iff.2 e;exact .inl yai
theorem Gf{sz:Nat}(h:w.ownsRow 0 e sz v n xs): ∃ta tk,v= .slice ta n tk:=by
 rcases h.2 with ⟨e1,e2⟩|⟨g',cap',cur,e1,_⟩
 ·exact ⟨none,0,by rw [e1,e2]⟩
 ·exact ⟨_,_,e1⟩
theorem zeu(h:CMach D lab w bm mb tv m ts)(hN:zcg u us)(hw:StrsAt w bw (u::us))
  (hins:Hid (Cl 26 #[.slice (some ⟨bw,0,none⟩) (us.length+1) c] w λe w'=>(∃i,e= .returned (.tuple #[Vm i, .bool false]))/\Below w.heap.size w w')):
  Cl 14 #[ptr bm, .slice (some ⟨bw,0,none⟩) (us.length+1) c] w λe w'=>e= .returned (.int .i64 2)/\Below w.heap.size w w':=by
 have hc:=h.tc
 have h0:w.cell? ⟨bw,0,none⟩=some (.string u):=hw 0 yaj
 obtain ⟨ta,tk,rfl⟩:=Gf h.trow
 have H:=hid h
 clear h hw
 rcases Oy hN with h1|⟨h1,h2⟩
 all_goals
  go_enter Tryz.func14,Tryz.ntmps14
  go_wp2_with fail
  refine hins.out.mono ?_
  rintro e W1 ⟨⟨i,rfl⟩,b1⟩
  unfold Vm
  have B1:=hid b1
  clear b1 hins
  go_wp2
  go_ret
  exact ⟨rfl,B1.out.alloc B1.out.size _⟩
theorem zpx(h:CMach D lab w bm mb tv m [])(hN:zcg u us)(hw:StrsAt w bw (u::us))
  (hins:Hid (Cl 26 #[.slice (some ⟨bw,0,none⟩) (us.length+1) c] w λe w'=>(∃i,e= .returned (.tuple #[Vm i, .bool true]))/\Below w.heap.size w w')):
  Cl 14 #[ptr bm, .slice (some ⟨bw,0,none⟩) (us.length+1) c] w λe w'=>e= .returned (.int .i64 3)/\Below w.heap.size w w':=by
 have hc:=h.tc
 have h0:w.cell? ⟨bw,0,none⟩=some (.string u):=hw 0 yaj
 obtain ⟨ta,tk,rfl⟩:=Gf h.trow
 change w.cell? ⟨bm,1,none⟩=some (.slice ta 0 tk) at hc
 have H:=hid h
 clear h hw
 rcases Oy hN with h1|⟨h1,h2⟩
 all_goals
  go_enter Tryz.func14,Tryz.ntmps14
  go_wp2_with fail
  refine hins.out.mono ?_
  rintro e W1 ⟨⟨i,rfl⟩,b1⟩
  unfold Vm
  have B1:=hid b1
  clear b1 hins
  go_wp2
  go_ret
  exact ⟨rfl,B1.out.alloc B1.out.size _⟩
theorem znn{ta:Option Addr}{tk:Nat}(h:CMach D lab W bm mb (.slice ta ts.length tk) m ts)(hk:ts.length=k+1): ∃tg,ta=some ⟨tg,0,none⟩/\W.cell? ⟨tg,k,none⟩=some (ptr (ts[k]'(by omega)).b)/\tg<W.heap.size:=by
 rcases h.trow.2 with ⟨e1,e2⟩|⟨g',cap',cur,e1,_⟩
 ·omega
 ·simp only [Value.slice.injEq] at e1
  obtain ⟨rfl,_,rfl⟩:=e1
  obtain ⟨q1,_,q3⟩:=Qm h.trow k yai
  refine ⟨g',rfl,?_,q3⟩
  rw [q1]
  simp [List.getElem?_eq_getElem (show k<ts.length by omega)]
theorem zuf(h:CMach D lab w bm mb tv m ts)(k:Nat)(hk:ts.length=k+1)(hf:(ts[k]'(by omega)).code.length=4000)(hN:zcg u us)(hw:StrsAt w bw (u::us))(hk3:k<3)
  (hins:Hid (Cl 26 #[.slice (some ⟨bw,0,none⟩) (us.length+1) c] w λe w'=>(∃i,e= .returned (.tuple #[Vm i, .bool true]))/\Below w.heap.size w w')):
  Cl 14 #[ptr bm, .slice (some ⟨bw,0,none⟩) (us.length+1) c] w λe w'=>e= .returned (.int .i64 5)/\Below w.heap.size w w':=by
 have hc:=h.tc
 have h0:w.cell? ⟨bw,0,none⟩=some (.string u):=hw 0 yaj
 obtain ⟨ta,tk,rfl⟩:=Gf h.trow
 have H:=hid h
 clear h hw
 rw [hk] at hc
 have hkk:wrap64 (((k+1:Nat):Int)- 1)=(k:Int):=yao
 have hk0: ¬(k:Int)<0:=yai
 rcases Oy hN with h1|⟨h1,h2⟩
 all_goals
  go_enter Tryz.func14,Tryz.ntmps14
  go_wp2_with fail
  refine hins.out.mono ?_
  rintro e W1 ⟨⟨i,rfl⟩,b1⟩
  unfold Vm
  have H1:=H.out.below b1
  obtain ⟨tg,rfl,p1,p2⟩:=znn H1 hk
  have hth:=H1.th k yai
  have c0:=hth.codec
  obtain ⟨ca,ck,hcv⟩:=Gf hth.crow
  rw [hcv,hf] at c0
  have hc1:=H1.tc
  rw [hk] at hc1
  have hl1:=Qd H1.sh
  have hl2:=Qd hth.sh
  have B1:=hid b1
  clear b1 hins H1 hth hcv
  generalize (ts[k]'(by omega)).b=tb at*
  go_wp2
  go_ret
  exact ⟨rfl,B1.out.alloc B1.out.size _⟩
end
end Go.Proofs.YtphcopbffecceaaGreatDoor
