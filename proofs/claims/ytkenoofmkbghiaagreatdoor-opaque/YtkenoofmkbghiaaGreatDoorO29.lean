import Derived.Test.YtkenoofmkbghiaaGreatDoorO14
import Derived.Lib.CutLaws
import Derived.Lib.CountLaws
import Derived.Lib.ParseIntB
import Derived.Laws.Concat
namespace Go.Proofs.YtkenoofmkbghiaaGreatDoor
open Go.RowKit
variable{l:List UInt8}{W w:World}{cap g:Nat}{L:List (List UInt8)}
theorem zc8(c:UInt8): ∀(l r:List UInt8),c∉l->Lib.index (l++c::r) [c]=(l.length:Int)
 |[],r,_=>by rw [List.nil_append,Lib.index];simp [List.isPrefixOf]
 |b::l,r,h=>by
  have hb:(c==b)=false:=by simp at h;simpa using h.1
  have ih:=zc8 c l r (λe=>h (List.mem_cons_of_mem _ e))
  rw [List.cons_append,Lib.index,ih]
  have e1:[c].isPrefixOf (b::(l++c::r))=false:=by simp [List.isPrefixOf,hb]
  have e2:((l.length:Int)==-1)=false:=by rw [beq_eq_false_iff_ne];omega
  rw [e1,e2]
  simp
def Xe(c:UInt8):List UInt8->List (List UInt8)
 |[]=>[[]]
 |b::l=>if b=c then []::Xe c l else match Xe c l with
  |[]=>[[b]]
  |p::ps=>(b::p)::ps
theorem Iw(c:UInt8)(l:List UInt8)(h:c∉l):Xe c l=[l]:=by
 induction l with
 |nil=>rfl
 |cons b l ih=>
  have hb:b≠c:=λe=>h (by simp [e])
  unfold Xe
  rw [ih (λe=>h (List.mem_cons_of_mem _ e)),if_neg hb]
theorem zc9(c:UInt8)(a r:List UInt8)(h:c∉a):Xe c (a++c::r)=a::Xe c r:=by
 induction a with
 |nil=>simp [Xe]
 |cons b a ih=>
  have hb:b≠c:=λe=>h (by simp [e])
  rw [List.cons_append,Xe,ih (λe=>h (List.mem_cons_of_mem _ e)),if_neg hb]
theorem Fs(c:UInt8): ∀(l:List UInt8),c∉l->Lib.index l [c]=-1
 |[],_=>by rw [Lib.index];simp
 |b::l,h=>by
  have hb:(c==b)=false:=by simp at h;simpa using h.1
  rw [Lib.index,Fs c l (λe=>h (List.mem_cons_of_mem _ e))]
  have e1:[c].isPrefixOf (b::l)=false:=by simp [List.isPrefixOf,hb]
  simp [e1]
theorem zda(c:UInt8)(l:List UInt8):c∉l\/ ∃a r,l=a++c::r/\c∉a:=by
 induction l with
 |nil=>exact .inl yun
 |cons b l ih=>
  by_cases hb:b=c
  ·exact .inr ⟨[],l,by simp [hb],by simp⟩
  ·rcases ih with h|⟨a,r,h1,h2⟩
   ·exact .inl (by simp;exact ⟨λe=>hb e.symm,h⟩)
   ·exact .inr ⟨b::a,r,by simp [h1],by simp;exact ⟨λe=>hb e.symm,h2⟩⟩
theorem zo4(c:UInt8): ∀(n:Nat) (l:List UInt8),l.length<=n->Lib.splitB ⟨#[c]⟩ 0 (Lib.countB ⟨l.toArray⟩ ⟨#[c]⟩) ⟨l.toArray⟩=(Xe c l).map (λx=>⟨x.toArray⟩):=by
 intro n
 induction n with
 |zero=>
  intro l hl
  obtain rfl:l=[]:=List.length_eq_zero_iff.1 yum
  have hm:Lib.indexB ⟨([]:List UInt8).toArray⟩ ⟨#[c]⟩=-1:=Fs c [] yun
  rw [Lib.splitB_miss _ _ _ _ hm,Iw c [] yun]
  simp
 |succ n ih=>
  intro l hl
  rcases zda c l with h|⟨a,r,rfl,h⟩
  ·have hm:Lib.indexB ⟨l.toArray⟩ ⟨#[c]⟩=-1:=Fs c l h
   rw [Lib.splitB_miss _ _ _ _ hm,Iw c l h]
   simp
  ·have hi:Lib.indexB ⟨(a++c::r).toArray⟩ ⟨#[c]⟩=(a.length:Nat):=zc8 c a r h
   have e1:ByteArray.extract ⟨(a++c::r).toArray⟩ (a.length+(ByteArray.mk #[c]).size) (ByteArray.mk (a++c::r).toArray).size=⟨r.toArray⟩:=by
    apply ByteArray.ext
    apply Array.ext'
    have hs:(ByteArray.mk (a++c::r).toArray).size=a.length+(r.length+1):=by show (a++c::r).toArray.size=_;simp
    have h1:(ByteArray.mk #[c]).size=1:=rfl
    rw [hs,h1,ByteArray.data_extract,show a.length+(r.length+1)=a.length+1+r.length by omega]
    simp
   have e2:ByteArray.extract ⟨(a++c::r).toArray⟩ 0 (a.length+0)=⟨a.toArray⟩:=by
    apply ByteArray.ext
    apply Array.ext'
    rw [ByteArray.data_extract]
    simp
   rw [Lib.countB_hit _ ⟨#[c]⟩ a.length (Nat.le_refl 1) hi,e1,Nat.add_comm 1,Lib.splitB_hit _ _ _ _ a.length hi,e1,e2,zc9 c a r h,ih r (by simp at hl;omega)]
   simp
theorem Ix(l:List UInt8):Ql l=(Xe 32 l).map (λx=>⟨x.toArray⟩):=zo4 32 _ l (Nat.le_refl _)
def Xi(l:List UInt8):Int:=l.foldl (λv b=>10*v+((b.toNat:Int)- 48)) 0
theorem zig(l:List UInt8)(b:UInt8):Xi (l++[b])=10*Xi l+((b.toNat:Int)- 48):=by simp [Xi,List.foldl_append]
theorem z03(l:List UInt8): ∀v:Int,l.foldl (λv b=>10*v+((b.toNat:Int)- 48)) v=v*10^l.length+Xi l:=by
 induction l with
 |nil=>intro v;simp [Xi]
 |cons a l ih=>
  intro v
  unfold Xi
  rw [List.foldl_cons,List.foldl_cons,ih,ih,List.length_cons,Int.pow_succ]
  generalize (10:Int)^l.length=e
  generalize Xi l=d
  have h1:(10*v+((a.toNat:Int)- 48))*e=v*(e*10)+((a.toNat:Int)- 48)*e:=by
   rw [Int.add_mul,Int.mul_comm e 10,<-Int.mul_assoc,Int.mul_comm v 10]
  have h2:(10*0+((a.toNat:Int)- 48))*e=((a.toNat:Int)- 48)*e:=yun
  rw [h1,h2]
  omega
theorem Iy(a:UInt8)(l:List UInt8):Xi (a::l)=((a.toNat:Int)- 48)*10^l.length+Xi l:=by
 have:=z03 l ((a.toNat:Int)- 48)
 unfold Xi at*
 rw [List.foldl_cons]
 simpa using this
def Dig(l:List UInt8):Prop:=∀b∈l,48<=b.toNat/\b.toNat<=57
theorem Fc(h:Dig l):0<=Xi l/\Xi l<10^l.length:=by
 induction l with
 |nil=>simp [Xi]
 |cons a l ih=>
  have ha:=h a (List.mem_cons_self)
  have hi:=ih (λb hb=>h b (List.mem_cons_of_mem _ hb))
  rw [Iy,List.length_cons,Int.pow_succ]
  have hp:(0:Int)<10^l.length:=Int.pow_pos yup
  generalize (10:Int)^l.length=e at*
  obtain ⟨d,hd⟩: ∃d:Int,d=(a.toNat:Int)- 48:=⟨_,rfl⟩
  rw [<-hd]
  have h0:0<=d:=yum
  have h9:d<=9:=yum
  have m1:0<=d*e:=Int.mul_nonneg h0 (Int.le_of_lt hp)
  have m2:d*e<=9*e:=Int.mul_le_mul_of_nonneg_right h9 (Int.le_of_lt hp)
  omega
theorem Iz: ∀(l:List UInt8) (acc:Nat),Dig l->acc<=18446744073709551615 ->
  (((acc:Int)*10^l.length+Xi l<=18446744073709551615/\ ∃u:Nat,Lib.parseUintM 18446744073709551615 acc l= .ok u/\(u:Int)=(acc:Int)*10^l.length+Xi l)\/
   (18446744073709551615<(acc:Int)*10^l.length+Xi l/\Lib.parseUintM 18446744073709551615 acc l= .range))
 |[],acc,_,h=> .inl ⟨by simp [Xi];omega,acc,rfl,by simp [Xi]⟩
 |c::r,acc,hd,hb=>by
  have hc:=hd c (List.mem_cons_self)
  have hd':Dig r:=λb hb=>hd b (List.mem_cons_of_mem _ hb)
  have hi:=Fc hd'
  have hp:(0:Int)<10^r.length:=Int.pow_pos yup
  obtain ⟨d,hdd⟩: ∃d:Nat,d=c.toNat- 48:=⟨_,rfl⟩
  have hval:(acc:Int)*10^(c::r).length+Xi (c::r)=((acc*10+d:Nat):Int)*10^r.length+Xi r:=by
   rw [Iy,List.length_cons,Int.pow_succ]
   have hcast:((acc*10+d:Nat):Int)=(acc:Int)*10+((c.toNat:Int)- 48):=yum
   rw [hcast]
   generalize (10:Int)^r.length=e
   rw [Int.add_mul,Int.mul_assoc,Int.mul_comm 10 e]
   omega
  rw [hval]
  unfold Lib.parseUintM
  rw [if_pos hc,<-hdd]
  have hlow:((acc*10+d:Nat):Int)<=((acc*10+d:Nat):Int)*10^r.length:=by
   have:=Int.mul_le_mul_of_nonneg_left (show (1:Int)<=10^r.length by omega) (show (0:Int)<=((acc*10+d:Nat):Int) by omega)
   omega
  by_cases h1:1844674407370955162<=acc
  ·rw [if_pos h1]
   exact .inr ⟨by omega,rfl⟩
  rw [if_neg h1]
  by_cases h2:18446744073709551615<acc*10+d
  ·rw [if_pos h2]
   exact .inr ⟨by omega,rfl⟩
  rw [if_neg h2]
  exact Iz r (acc*10+d) hd' yum
theorem zg0:l.all zjl=true↔Dig l:=by
 simp only [List.all_eq_true,zjl,Bool.and_eq_true,decide_eq_true_eq]
 exact Iff.rfl
theorem Ov(h:l.head?≠some 45):(Jg ⟨l.toArray⟩).data.toList=l:=by
 unfold Jg Lib.trimPrefix
 cases l with
 |nil=>rfl
 |cons a l=>
  have ha:((45:UInt8)==a)=false:=by simpa using λe:(45:UInt8)=a=>h (by simp [e])
  simp [Lib.hasPrefix,List.isPrefixOf,ha]
theorem Ow:(Jg ⟨(45::l).toArray⟩).data.toList=l:=by
 unfold Jg Lib.trimPrefix
 simp [Lib.hasPrefix,List.isPrefixOf]
theorem Zp(h0:l≠[])(hd:Dig l)(hn:l.head?=some 48->l=[48])(hv:Xi l<9223372036854775808):Qk ⟨l.toArray⟩=some (Xi l):=by
 have h45:l.head?≠some 45:=by
  cases l with
  |nil=>simp
  |cons a l=>
   have:=hd a List.mem_cons_self
   intro e
   simp at e
   subst e
   simp at this
 have hN:Jd ⟨l.toArray⟩=true:=by
  unfold Jd
  rw [Ov h45,if_neg h0,if_neg (by rintro ⟨e1,e2⟩;exact e2 (by rw [hn e1])),zg0]
  exact hd
 unfold Qk
 rw [if_pos hN]
 show (match Lib.parseIntB 64 l with| .ok v=>some v|_=>none)=_
 have hr:=Fc hd
 cases l with
 |nil=>exact absurd rfl h0
 |cons a r=>
  have ha:=hd a List.mem_cons_self
  have hne: ¬(a.toNat=43\/a.toNat=45):=yum
  rcases Iz (a::r) 0 hd yum with ⟨h1,u,h2,h3⟩|⟨h1,_⟩
  ·unfold Lib.parseIntB
   simp only [if_neg hne]
   have e:Lib.parseUintB 64 (a::r)= .ok u:=ywi
   rw [e]
   have hu:(u:Int)=Xi (a::r):=by rw [h3];simp
   have hnn: ¬a.toNat=45:=yum
   simp only [hnn,not_false_eq_true,true_and,false_and,if_false]
   rw [if_neg yum,hu]
  ·simp at h1;omega
theorem Xa(h0:l≠[])(hd:Dig l)(hn:l.head?≠some 48)(hv:Xi l<=9223372036854775808):Qk ⟨(45::l).toArray⟩=some (-(Xi l)):=by
 have hN:Jd ⟨(45::l).toArray⟩=true:=by
  unfold Jd
  rw [Ow,if_neg h0,if_neg (λe=>hn e.1),zg0]
  exact hd
 unfold Qk
 rw [if_pos hN]
 show (match Lib.parseIntB 64 (45::l) with| .ok v=>some v|_=>none)=_
 have hr:=Fc hd
 rcases Iz l 0 hd yum with ⟨h1,u,h2,h3⟩|⟨h1,_⟩
 ·unfold Lib.parseIntB
  have e45:(45:UInt8).toNat=45:=rfl
  simp only [e45,or_true,if_true]
  have e:Lib.parseUintB 64 l= .ok u:=ywi
  rw [e]
  have hu:(u:Int)=Xi l:=by rw [h3];simp
  simp only [not_true_eq_false,false_and,if_false,true_and]
  rw [if_neg yum,hu]
 ·simp at h1;omega
def StrsAt(w:World)(b:Nat)(ws:List ByteArray):Prop:=∀j (h:j<ws.length),w.cell? ⟨b,j,none⟩=some (.string ws[j])
theorem StrsAt.keep{w':World}{b:Nat}{ws:List ByteArray}(h:StrsAt w b ws){n:Nat}(hn:b<n)(hw:Below n w w'):StrsAt w' b ws:=λj hj=>(hw.cell (p:=⟨b,j,none⟩) hn).trans (h j hj)
section
variable(w:World)(b c:Nat)(ws:List ByteArray)(u:ByteArray)
end
abbrev z4t(l:List UInt8):Value:= .string ⟨l.toArray⟩
structure CutInv(w:World)(W:World)(g cap:Nat)(L:List (List UInt8)):Prop where
 own:W.ownsRow 0 9 1 (.slice (some ⟨g,0,none⟩) L.length cap) L.length (L.map z4t)
 lo:w.heap.size<=g
 bel:Below w.heap.size w W
theorem CutInv.new(w:World):CutInv w (w.alloc (.cells #[.string ⟨#[]⟩] 9)) w.heap.size 1 [[]]:=by
 refine ⟨⟨rfl, .inr ⟨w.heap.size,1,#[.string ⟨#[]⟩],rfl,Nat.zero_le _,?_,Nat.le_refl _,by unfold maxLen;omega,rfl,rfl⟩⟩,Nat.le_refl _,(Below.refl _ w).alloc (Nat.le_refl _) _⟩
 show (w.heap.push _)[w.heap.size]?=_
 simp
theorem CutInv.app{W':World}{g' cap':Nat}{o:Obj}(h:CutInv w W g cap L)(ho:W'.ownsRow 0 9 1 (.slice (some ⟨g',0,none⟩) (L.length+1) cap') (L.length+1) (L.map z4t++[.string ⟨#[]⟩]))
  (hc:Chg (λk _=>(Value.slice (some ⟨g,0,none⟩) L.length cap).ownBlock=some k) (W.alloc o) W') (hg:(Value.slice (some ⟨g,0,none⟩) L.length cap).ownBlock=some g'\/g'=(W.alloc o).heap.size):CutInv w W' g' cap' (L++[[]]):=by
 have hl:=h.lo
 have hs:=h.bel.size
 have hb:Below w.heap.size (W.alloc o) W':=hc.below yur (λk i e=>by simp [Value.ownBlock] at e;omega)
 refine ⟨by simpa using ho,?_,(h.bel.alloc hs _).trans hb⟩
 rcases hg with e|e
 ·simp [Value.ownBlock] at e;omega
 ·simp at e;omega
theorem CutInv.add{q:List UInt8}(h:CutInv w W g cap (L++[q]))(q':List UInt8):CutInv w (W.setCell ⟨g,L.length,none⟩ (z4t q')) g cap (L++[q']):=by
 refine ⟨?_,h.lo,h.bel.setCell h.lo _⟩
 have:=Ut h.own L.length (z4t q')
 simpa using this
theorem CutInv.drew(h:CutInv w W g cap L):CutInv w W.drew g cap L:=
 ⟨Qc h.own ((Chg.refl (λ_ _=>False) W).drew) (λ_ _ _ e=>e),h.lo,h.bel.drew⟩
end Go.Proofs.YtkenoofmkbghiaaGreatDoor
