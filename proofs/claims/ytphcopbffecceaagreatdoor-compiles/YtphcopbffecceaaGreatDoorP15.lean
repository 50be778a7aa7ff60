import Derived.Test.YtphcopbffecceaaGreatDoorP05
import Derived.Lib.CutLaws
import Derived.Lib.CountLaws
import Derived.Laws.Concat
import Derived.Lib.ParseIntB
set_option maxRecDepth 100000
set_option maxHeartbeats 4000000
namespace Go.Proofs.YtphcopbffecceaaGreatDoor
open Go.RowKit
variable{W w:World}{cap g:Nat}{L:List (List UInt8)}
theorem zc8(c:UInt8): ∀(l r:List UInt8),c∉l->Lib.index (l++c::r) [c]=(l.length:Int)
 |[],r,_=>by rw [List.nil_append,Lib.index];simp [List.isPrefixOf]
 |b::l,r,h=>by
  have hb:(c==b)=false:=by simp at h;simpa using h.1
  have ih:=zc8 c l r (λe=>h (List.mem_cons_of_mem _ e))
  rw [List.cons_append,Lib.index,ih]
  have e1:[c].isPrefixOf (b::(l++c::r))=false:=by simp [List.isPrefixOf,hb]
  have e2:((l.length:Int)==-1)=false:=by rw [beq_eq_false_iff_ne];omega
  rw [e1,e2]
  simp
def Xe(c:UInt8):List UInt8->List (List UInt8)
 |[]=>[[]]
 |b::l=>if b=c then []::Xe c l else match Xe c l with
  |[]=>[[b]]
  |p::ps=>(b::p)::ps
theorem zb4(c:UInt8)(l:List UInt8):Xe c l≠[]:=by
 cases l with
 |nil=>simp [Xe]
 |cons b l=>
  unfold Xe
  split
  ·simp
  ·split<;>simp
theorem zw6(c:UInt8)(l:List UInt8):Xe c (l++[c])=Xe c l++[[]]:=by
 induction l with
 |nil=>simp [Xe]
 |cons b l ih=>
  rw [List.cons_append]
  unfold Xe
  rw [ih]
  split
  ·simp
  ·cases h:Xe c l with
   |nil=>exact absurd h (zb4 c l)
   |cons p ps=>simp
theorem zsz(c b:UInt8)(hb:b≠c)(l:List UInt8): ∃ps p,Xe c l=ps++[p]/\Xe c (l++[b])=ps++[p++[b]]:=by
 induction l with
 |nil=>exact ⟨[],[],by simp [Xe],by simp [Xe,hb]⟩
 |cons a l ih=>
  obtain ⟨ps,p,h1,h2⟩:=ih
  rw [List.cons_append]
  unfold Xe
  rw [h1,h2]
  by_cases ha:a=c
  ·simp only [ha,if_true]
   exact ⟨[]::ps,p,by simp,by simp⟩
  ·simp only [ha,if_false]
   cases ps with
   |nil=>exact ⟨[],a::p,by simp,by simp⟩
   |cons q qs=>exact ⟨(a::q)::qs,p,by simp,by simp⟩
theorem Iw(c:UInt8)(l:List UInt8)(h:c∉l):Xe c l=[l]:=by
 induction l with
 |nil=>rfl
 |cons b l ih=>
  have hb:b≠c:=λe=>h (by simp [e])
  unfold Xe
  rw [ih (λe=>h (List.mem_cons_of_mem _ e)),if_neg hb]
theorem zc9(c:UInt8)(a r:List UInt8)(h:c∉a):Xe c (a++c::r)=a::Xe c r:=by
 induction a with
 |nil=>simp [Xe]
 |cons b a ih=>
  have hb:b≠c:=λe=>h (by simp [e])
  rw [List.cons_append,Xe,ih (λe=>h (List.mem_cons_of_mem _ e)),if_neg hb]
theorem Fs(c:UInt8): ∀(l:List UInt8),c∉l->Lib.index l [c]=-1
 |[],_=>by rw [Lib.index];simp
 |b::l,h=>by
  have hb:(c==b)=false:=by simp at h;simpa using h.1
  rw [Lib.index,Fs c l (λe=>h (List.mem_cons_of_mem _ e))]
  have e1:[c].isPrefixOf (b::l)=false:=by simp [List.isPrefixOf,hb]
  simp [e1]
theorem zda(c:UInt8)(l:List UInt8):c∉l\/ ∃a r,l=a++c::r/\c∉a:=by
 induction l with
 |nil=>exact .inl yaj
 |cons b l ih=>
  by_cases hb:b=c
  ·exact .inr ⟨[],l,by simp [hb],by simp⟩
  ·rcases ih with h|⟨a,r,h1,h2⟩
   ·exact .inl (by simp;exact ⟨λe=>hb e.symm,h⟩)
   ·exact .inr ⟨b::a,r,by simp [h1],by simp;exact ⟨λe=>hb e.symm,h2⟩⟩
theorem zo4(c:UInt8): ∀(n:Nat) (l:List UInt8),l.length<=n->Lib.splitB ⟨#[c]⟩ 0 (Lib.countB ⟨l.toArray⟩ ⟨#[c]⟩) ⟨l.toArray⟩=(Xe c l).map (λx=>⟨x.toArray⟩):=by
 intro n
 induction n with
 |zero=>
  intro l hl
  obtain rfl:l=[]:=List.length_eq_zero_iff.1 yai
  have hm:Lib.indexB ⟨([]:List UInt8).toArray⟩ ⟨#[c]⟩=-1:=Fs c [] yaj
  rw [Lib.splitB_miss _ _ _ _ hm,Iw c [] yaj]
  simp
 |succ n ih=>
  intro l hl
  rcases zda c l with h|⟨a,r,rfl,h⟩
  ·have hm:Lib.indexB ⟨l.toArray⟩ ⟨#[c]⟩=-1:=Fs c l h
   rw [Lib.splitB_miss _ _ _ _ hm,Iw c l h]
   simp
  ·have hi:Lib.indexB ⟨(a++c::r).toArray⟩ ⟨#[c]⟩=(a.length:Nat):=zc8 c a r h
   have e1:ByteArray.extract ⟨(a++c::r).toArray⟩ (a.length+(ByteArray.mk #[c]).size) (ByteArray.mk (a++c::r).toArray).size=⟨r.toArray⟩:=by
    apply ByteArray.ext
    apply Array.ext'
    have hs:(ByteArray.mk (a++c::r).toArray).size=a.length+(r.length+1):=by show (a++c::r).toArray.size=_;simp
    have h1:(ByteArray.mk #[c]).size=1:=rfl
    rw [hs,h1,ByteArray.data_extract,show a.length+(r.length+1)=a.length+1+r.length by omega]
    simp
   have e2:ByteArray.extract ⟨(a++c::r).toArray⟩ 0 (a.length+0)=⟨a.toArray⟩:=by
    apply ByteArray.ext
    apply Array.ext'
    rw [ByteArray.data_extract]
    simp
   rw [Lib.countB_hit _ ⟨#[c]⟩ a.length (Nat.le_refl 1) hi,e1,Nat.add_comm 1,Lib.splitB_hit _ _ _ _ a.length hi,e1,e2,zc9 c a r h,ih r (by simp at hl;omega)]
   simp
theorem Ix(l:List UInt8):Ql l=(Xe 32 l).map (λx=>⟨x.toArray⟩):=zo4 32 _ l (Nat.le_refl _)
def StrsAt(w:World)(b:Nat)(ws:List ByteArray):Prop:=∀j (h:j<ws.length),w.cell? ⟨b,j,none⟩=some (.string ws[j])
theorem StrsAt.keep{w':World}{b:Nat}{ws:List ByteArray}(h:StrsAt w b ws){n:Nat}(hn:b<n)(hw:Below n w w'):StrsAt w' b ws:=λj hj=>(hw.cell (p:=⟨b,j,none⟩) hn).trans (h j hj)
section
variable(w:World)(b c:Nat)(ws:List ByteArray)(u:ByteArray)
theorem Ga(hl:ws.length<1000000)(hw:Hid (StrsAt w b ws))(hs:Hid (∀j (h:j<ws.length),ws[j]≠u)):
  Cl 22 #[.slice (some ⟨b,0,none⟩) ws.length c, .string u] w λe w'=>e= .returned (.int .i64 (-1))/\w'=w:=by
 go_enter Tryz.func22,Tryz.ntmps22
 go_wp2
 go_loopw [5] (λv wr=>∃k:Nat,k<=ws.length/\v= .int .i64 k/\wr=w) (λv _=>ws.length- (intOf v).toNat)
 case atStart=>exact ⟨0,by omega,rfl,rfl⟩
 case round=>
  obtain ⟨k,hk,rfl,rfl⟩:=hrel
  by_cases hlt:k<ws.length
  ·have hlt':(k:Int)<(ws.length:Int):=by omega
   have hc:=hw.out k hlt
   have hne:=Oz (hs.out k hlt)
   generalize ws[k]=x at hc hne
   go_wp2
   go_roundw
   case rel=>exact ⟨k+1,by omega,by go_num,trivial⟩
   case measure=>simp [intOf];omega
  ·have hlt': ¬(k:Int)<(ws.length:Int):=by omega
   go_wp2
   go_ret
   exact ⟨rfl,rfl⟩
theorem Ou(hl:ws.length<1000000)(hw:Hid (StrsAt w b ws))(n:Nat)(hn:n<ws.length)(hs:Hid (∀j (h:j<n),ws[j]≠u))(he:Hid (ws[n]=u)):
  Cl 22 #[.slice (some ⟨b,0,none⟩) ws.length c, .string u] w λe w'=>e= .returned (.int .i64 n)/\w'=w:=by
 go_enter Tryz.func22,Tryz.ntmps22
 go_wp2
 go_loopw [5] (λv wr=>∃k:Nat,k<=n/\v= .int .i64 k/\wr=w) (λv _=>ws.length- (intOf v).toNat)
 case atStart=>exact ⟨0,by omega,rfl,rfl⟩
 case round=>
  obtain ⟨k,hk,rfl,rfl⟩:=hrel
  have hlt:k<ws.length:=yai
  have hlt':(k:Int)<(ws.length:Int):=yai
  have hc:=hw.out k hlt
  by_cases hkn:k<n
  ·have hne:=Oz (hs.out k hkn)
   generalize ws[k]=x at hc hne
   go_wp2
   go_roundw
   case rel=>exact ⟨k+1,by omega,by go_num,trivial⟩
   case measure=>simp [intOf];omega
  ·obtain rfl:k=n:=by omega
   have hu:=he.out
   rw [hu] at hc
   go_wp2
   go_ret
   exact ⟨rfl,rfl⟩
theorem za5:Cl 43 #[] w λe w'=>e= .returned (.slice (some ⟨w.heap.size,0,none⟩) 12 12)/\StrsAt w' w.heap.size ((List.range 12).map Jc)/\Below w.heap.size w w':=by
 go_enter Tryz.func43,Tryz.ntmps43
 go_wp2
 go_ret
 refine ⟨rfl,?_,(Below.refl _ w).alloc (Nat.le_refl _) _⟩
 intro j hj
 rw [World.cell?_alloc_new]
 have hc:j=0\/j=1\/j=2\/j=3\/j=4\/j=5\/j=6\/j=7\/j=8\/j=9\/j=10\/j=11:=by simp at hj;omega
 rcases hc with rfl|rfl|rfl|rfl|rfl|rfl|rfl|rfl|rfl|rfl|rfl|rfl<;>rfl
end
theorem zo5:(Tryz.prog.info? 9).map (λi=>(i.zero,i.size,i.bytes))=some (some (.string ⟨#[]⟩),1,16):=yak
abbrev z4t(l:List UInt8):Value:= .string ⟨l.toArray⟩
structure CutInv(w:World)(W:World)(g cap:Nat)(L:List (List UInt8)):Prop where
 own:W.ownsRow 0 9 1 (.slice (some ⟨g,0,none⟩) L.length cap) L.length (L.map z4t)
 lo:w.heap.size<=g
 bel:Below w.heap.size w W
theorem CutInv.new(w:World):CutInv w (w.alloc (.cells #[.string ⟨#[]⟩] 9)) w.heap.size 1 [[]]:=by
 refine ⟨⟨rfl, .inr ⟨w.heap.size,1,#[.string ⟨#[]⟩],rfl,Nat.zero_le _,?_,Nat.le_refl _,by unfold maxLen;omega,rfl,rfl⟩⟩,Nat.le_refl _,(Below.refl _ w).alloc (Nat.le_refl _) _⟩
 show (w.heap.push _)[w.heap.size]?=_
 simp
theorem CutInv.app{W':World}{g' cap':Nat}{o:Obj}(h:CutInv w W g cap L)(ho:W'.ownsRow 0 9 1 (.slice (some ⟨g',0,none⟩) (L.length+1) cap') (L.length+1) (L.map z4t++[.string ⟨#[]⟩]))
  (hc:Chg (λk _=>(Value.slice (some ⟨g,0,none⟩) L.length cap).ownBlock=some k) (W.alloc o) W') (hg:(Value.slice (some ⟨g,0,none⟩) L.length cap).ownBlock=some g'\/g'=(W.alloc o).heap.size):CutInv w W' g' cap' (L++[[]]):=by
 have hl:=h.lo
 have hs:=h.bel.size
 have hb:Below w.heap.size (W.alloc o) W':=hc.below yan (λk i e=>by simp [Value.ownBlock] at e;omega)
 refine ⟨by simpa using ho,?_,(h.bel.alloc hs _).trans hb⟩
 rcases hg with e|e
 ·simp [Value.ownBlock] at e;omega
 ·simp at e;omega
theorem CutInv.add{q:List UInt8}(h:CutInv w W g cap (L++[q]))(q':List UInt8):CutInv w (W.setCell ⟨g,L.length,none⟩ (z4t q')) g cap (L++[q']):=by
 refine ⟨?_,h.lo,h.bel.setCell h.lo _⟩
 have:=Ut h.own L.length (z4t q')
 simpa using this
theorem CutInv.drew(h:CutInv w W g cap L):CutInv w W.drew g cap L:=
 ⟨Qc h.own ((Chg.refl (λ_ _=>False) W).drew) (λ_ _ _ e=>e),h.lo,h.bel.drew⟩
theorem z02(q:List UInt8)(s:ByteArray)(k:Nat)(h:k<s.size):(⟨q.toArray⟩:ByteArray)++s.extract k (k+1)=⟨(q++[s[k]]).toArray⟩:=by
 apply ByteArray.ext
 apply Array.ext'
 rw [ByteArray.data_append,ByteArray.data_extract]
 have hk:k<s.data.toList.length:=ycb
 simp [Array.toList_extract,List.drop_eq_getElem_cons hk,ByteArray.getElem_eq_getElem_data]
theorem zw7(c:UInt8)(l:List UInt8):(Xe c l).length<=l.length+1:=by
 induction l with
 |nil=>simp [Xe]
 |cons b l ih=>
  unfold Xe
  split
  ·simp;exact ih
  ·split
   ·simp
   ·rename_i h;rw [h] at ih;simp at ih⊢;omega
theorem zs0(c:UInt8)(l:List UInt8): ∀p∈Xe c l,p.length<=l.length:=by
 induction l with
 |nil=>intro p hp;simp [Xe] at hp;subst hp;exact Nat.le_refl _
 |cons b l ih=>
  intro p hp
  unfold Xe at hp
  split at hp
  ·rcases List.mem_cons.1 hp with rfl|hp
   ·simp
   ·have:=ih p hp;simp;omega
  ·split at hp
   ·simp at hp;subst hp;simp
   ·rename_i h
    rw [h] at ih
    rcases List.mem_cons.1 hp with rfl|hp
    ·have:=ih _ List.mem_cons_self;simp;exact this
    ·have:=ih p (List.mem_cons_of_mem _ hp);simp;omega
theorem zgu(l:List UInt8):(⟨l.toArray⟩:ByteArray).size=l.length:=ybv
theorem zw8(s:ByteArray)(k:Nat)(h:k<s.size):s.data.toList.take (k+1)=s.data.toList.take k++[s[k]]:=by
 have hk:k<s.data.toList.length:=ycb
 rw [List.take_succ_eq_append_getElem hk]
 simp [ByteArray.getElem_eq_getElem_data]
theorem za6(w:World)(s:ByteArray)(c:UInt8)(hs:s.size<=262144):
  Cl 10 #[.string s, .int .u8 c.toNat] w λe w'=>∃g cap,e= .returned (.slice (some ⟨g,0,none⟩) (Xe c s.data.toList).length cap)/\CutInv w w' g cap (Xe c s.data.toList):=by
 obtain ⟨i0,hi,hz0,hz1,hz2⟩:=info_parts zo5
 go_enter Tryz.func10,Tryz.ntmps10
 go_wp2
 go_loopw [5,6] (λv5 v6 wr=>∃(k g cap:Nat),k<=s.size/\v6= .int .i64 k/\v5= .slice (some ⟨g,0,none⟩) (Xe c (s.data.toList.take k)).length cap/\Hid (CutInv w wr g cap (Xe c (s.data.toList.take k)))) (λ_ v6 _=>s.size- (intOf v6).toNat)
 case atStart=>exact ⟨0,w.heap.size,1,by omega,rfl,rfl,hid (CutInv.new w)⟩
 case round=>
  obtain ⟨k,g,cap,hk,rfl,rfl,HI⟩:=hrel
  have hlen:=zw7 c (s.data.toList.take k)
  have hlt0:(s.data.toList.take k).length<=k:=yan
  by_cases hlt:k<s.size
  ·have hlt':(k:Int)<(s.size:Int):=by omega
   have ht1:=zw8 s k hlt
   by_cases hc:s[k]=c
   ·have hc':(s[k].toNat:Int)=(c.toNat:Int):=by rw [hc]
    have hq:=zw6 c (s.data.toList.take k)
    rw [hc] at ht1
    rw [<-ht1] at hq
    have HQ:=hid hq
    clear hq ht1 hc
    generalize hL:Xe c (s.data.toList.take k)=L at*
    have hl1:L.length+1<=maxLen:=yap
    have hl2:(L.length+1)*16<=140737488355328:=yai
    have HL:=hid hL
    clear hL
    go_wp2_with (at_builtin;refine Zk rfl _ _ 49 rfl 9 i0 (.string ⟨#[]⟩) 16 Tryz.underlying49 hi hz0 hz1 hz2 rfl (.slice (some ⟨g,0,none⟩) L.length cap) L.length _ rfl (HI.out.own.alloc _) ⟨wr.heap.size,0,none⟩ (.string ⟨#[]⟩) rfl (cell_one_new _ _ _) rfl hl1 hl2 ?_;go_must (intro g' cap' w1 hown1 hch hg;have HC:=hid (HI.out.app hown1 hch hg);clear hown1 hch hg))
    refine ⟨⟨k+1,g',cap',by omega,by go_num,by rw [HQ.out];simp,by rw [HQ.out];exact HC⟩,by simp [intOf];omega⟩
   ·have hc': ¬(s[k].toNat:Int)=(c.toNat:Int):=λe=>hc (UInt8.toNat_inj.1 (Int.ofNat.inj e))
    obtain ⟨ps,q,e1,e2⟩:=zsz c s[k] hc (s.data.toList.take k)
    rw [<-ht1] at e2
    have hpq:=zs0 c (s.data.toList.take k) q (by rw [e1];simp)
    have hqs:((⟨q.toArray⟩:ByteArray).size:Int)<=8388608:=by rw [zgu];omega
    have hxs:((s.extract k (k+1)).size:Int)<=8388608:=ya1
    have hsum: ¬(9223372036854775807<q.length+(min (k+1) s.size- k)):=yai
    rw [e1] at HI
    rw [e1] at hlen
    have hln:(Xe c (s.data.toList.take k)).length=ps.length+1:=by rw [e1];simp
    rw [hln]
    obtain ⟨q1,q2,q3⟩:=Qm (n:=ps.length+1) (by simpa using HI.out.own) ps.length yai
    simp at q1
    change wr.cell? ⟨g,ps.length,none⟩=some (.string ⟨q.toArray⟩) at q1
    have hps:ps.length<=262144:=by simp at hlen;omega
    have E2:=hid e2
    have HT:=hid ht1
    clear e1 e2 hln ht1 hlen
    go_wp2
    go_region
    all_goals
     go_wp2
     rw [z02 q s k hlt]
     refine ⟨⟨k+1,g,cap,by omega,by go_num,by rw [E2.out];simp,?_⟩,by simp [intOf];omega⟩
     rw [E2.out]
     exact hid (HI.out.add _).drew
  ·have hlt': ¬(k:Int)<(s.size:Int):=by omega
   obtain rfl:k=s.size:=yai
   have hall:s.data.toList.take s.size=s.data.toList:=List.take_of_length_le ycz
   rw [hall] at HI
   rw [hall]
   go_wp2
   go_ret
   exact ⟨g,cap,rfl,HI.out⟩
theorem Zh{t:ByteArray}(h0:0<t.size):t.toList.isEmpty=false:=by
 rw [ByteArray.toList_eq]
 cases h:t.data.toList with
 |nil=>
  have:t.data.toList.length=0:=by rw [h];rfl
  rw [Array.length_toList] at this
  exact absurd h0 (by show ¬0<t.data.size;omega)
 |cons a l=>rfl
def Xi(l:List UInt8):Int:=l.foldl (λv b=>10*v+((b.toNat:Int)- 48)) 0
theorem zig(l:List UInt8)(b:UInt8):Xi (l++[b])=10*Xi l+((b.toNat:Int)- 48):=by simp [Xi,List.foldl_append]
theorem zed(t:ByteArray)(k:Nat)(h:k<t.size):Xi (t.data.toList.take (k+1))=10*Xi (t.data.toList.take k)+((t[k].toNat:Int)- 48):=by
 have hk:k<t.data.toList.length:=ycb
 rw [List.take_succ_eq_append_getElem hk,zig]
 simp [ByteArray.getElem_eq_getElem_data]
def zgx(t:ByteArray)(k:Nat):Int:=Xi (t.data.toList.take k)
theorem za9(t:ByteArray):zgx t 0=0:=by simp [zgx,Xi]
theorem zba(t:ByteArray)(k:Nat)(h:k<t.size):zgx t (k+1)=10*zgx t k+((t[k].toNat:Int)- 48):=zed t k h
theorem zm5(t:ByteArray)(k:Nat)(h:k=t.size):zgx t k=Xi t.data.toList:=by
 subst h
 unfold zgx
 rw [List.take_of_length_le ycz]
theorem z03(l:List UInt8): ∀v:Int,l.foldl (λv b=>10*v+((b.toNat:Int)- 48)) v=v*10^l.length+Xi l:=by
 induction l with
 |nil=>intro v;simp [Xi]
 |cons a l ih=>
  intro v
  unfold Xi
  rw [List.foldl_cons,List.foldl_cons,ih,ih,List.length_cons,Int.pow_succ]
  generalize (10:Int)^l.length=e
  generalize Xi l=d
  have h1:(10*v+((a.toNat:Int)- 48))*e=v*(e*10)+((a.toNat:Int)- 48)*e:=by
   rw [Int.add_mul,Int.mul_comm e 10,<-Int.mul_assoc,Int.mul_comm v 10]
  have h2:(10*0+((a.toNat:Int)- 48))*e=((a.toNat:Int)- 48)*e:=yaj
  rw [h1,h2]
  omega
theorem Iy(a:UInt8)(l:List UInt8):Xi (a::l)=((a.toNat:Int)- 48)*10^l.length+Xi l:=by
 have:=z03 l ((a.toNat:Int)- 48)
 unfold Xi at*
 rw [List.foldl_cons]
 simpa using this
def Dig(l:List UInt8):Prop:=∀b∈l,48<=b.toNat/\b.toNat<=57
theorem Fc{l:List UInt8}(h:Dig l):0<=Xi l/\Xi l<10^l.length:=by
 induction l with
 |nil=>simp [Xi]
 |cons a l ih=>
  have ha:=h a (List.mem_cons_self)
  have hi:=ih (λb hb=>h b (List.mem_cons_of_mem _ hb))
  rw [Iy,List.length_cons,Int.pow_succ]
  have hp:(0:Int)<10^l.length:=Int.pow_pos yal
  generalize (10:Int)^l.length=e at*
  obtain ⟨d,hd⟩: ∃d:Int,d=(a.toNat:Int)- 48:=⟨_,rfl⟩
  rw [<-hd]
  have h0:0<=d:=yai
  have h9:d<=9:=yai
  have m1:0<=d*e:=Int.mul_nonneg h0 (Int.le_of_lt hp)
  have m2:d*e<=9*e:=Int.mul_le_mul_of_nonneg_right h9 (Int.le_of_lt hp)
  omega
theorem zbb: ∀(x y:List UInt8),Dig x->Dig y->x.length=y.length->(Op.bytesLess x y=true↔Xi x<Xi y)
 |[],[],_,_,_=>by simp [Op.bytesLess,Xi]
 |[],_::_,_,_,h=>by simp at h
 |_::_,[],_,_,h=>by simp at h
 |a::x,b::y,hx,hy,h=>by
  have hl:x.length=y.length:=yb2
  have ha:=hx a (List.mem_cons_self)
  have hb:=hy b (List.mem_cons_self)
  have hx':Dig x:=λc hc=>hx c (List.mem_cons_of_mem _ hc)
  have hy':Dig y:=λc hc=>hy c (List.mem_cons_of_mem _ hc)
  have ih:=zbb x y hx' hy' hl
  have dx:=Fc hx'
  have dy:=Fc hy'
  rw [Iy,Iy,hl]
  rw [hl] at dx
  have hp:(0:Int)<10^y.length:=Int.pow_pos yal
  generalize (10:Int)^y.length=e at*
  have hab:(a<b↔a.toNat<b.toNat):=UInt8.lt_iff_toNat_lt
  have heq:(a=b↔a.toNat=b.toNat):=⟨λh=>by rw [h],λh=>UInt8.toNat_inj.1 h⟩
  simp only [Op.bytesLess,Bool.or_eq_true,decide_eq_true_eq,Bool.and_eq_true,beq_iff_eq]
  rw [ih,hab,heq]
  obtain ⟨p,hpd⟩: ∃p:Int,p=(a.toNat:Int)- 48:=⟨_,rfl⟩
  obtain ⟨q,hqd⟩: ∃q:Int,q=(b.toNat:Int)- 48:=⟨_,rfl⟩
  rw [<-hpd,<-hqd]
  have h1:(a.toNat<b.toNat↔p<q):=yai
  have h2:(a.toNat=b.toNat↔p=q):=yai
  rw [h1,h2]
  constructor
  ·rintro (hlt|⟨rfl,hlt⟩)
   ·have:(p+1)*e<=q*e:=Int.mul_le_mul_of_nonneg_right yai (Int.le_of_lt hp)
    rw [Int.add_mul] at this
    omega
   ·omega
  ·intro hlt
   rcases Int.lt_trichotomy p q with h|h|h
   ·exact .inl h
   ·subst h;exact .inr ⟨rfl,by omega⟩
   ·have:(q+1)*e<=p*e:=Int.mul_le_mul_of_nonneg_right yai (Int.le_of_lt hp)
    rw [Int.add_mul] at this
    omega
theorem zgy(x d:Int):wrap64 (wrap64 (10*wrap64 x)+d)=wrap64 (10*x+d):=yao
theorem zee(x d:Int):wrap64 (wrap64 (10*wrap64 (-x))- d)=wrap64 (-(10*x+d)):=yao
theorem zgz(w:World)(t:ByteArray)(h0:0<t.size)(h1:t.size<19)(hm: ¬(t[0].toNat:Int)=45)(hz: ¬(t[0].toNat:Int)=48)(hd:Hid (∀j (h:j<t.size),48<=t[j].toNat/\t[j].toNat<=57)):
  Cl 41 #[.string t] w λe w'=>e= .returned (.tuple #[.int .i64 (wrap64 (Xi t.data.toList)), .bool true])/\w'=w:=by
 have h0':(0:Int)<(t.size:Int):=yai
 have h1': ¬(19:Int)<(t.size:Int):=yai
 have h2': ¬(t.size:Int)=19:=yai
 have hne:=Zh h0
 have hne': ¬t.toList=[]:=λh=>by simp [h] at hne
 go_enter Tryz.func41,Tryz.ntmps41
 go_wp2
 go_loopw [7,8] (λv7 v8 wr=>∃k:Nat,k<=t.size/\v8= .int .i64 k/\v7= .int .i64 (wrap64 (Xi (t.data.toList.take k)))/\wr=w) (λ_ v8 _=>t.size- (intOf v8).toNat)
 case atStart=>exact ⟨0,by omega,rfl,by simp [Xi,wrap64],rfl⟩
 case round=>exact z7o
abbrev Sb:List UInt8:=[57,50,50,51,51,55,50,48,51,54,56,53,52,55,55,53,56,48,55]
section
variable(w:World)(t:ByteArray)
theorem zxa:Cl 41 #[.string ⟨#[]⟩] w λe w'=>e= .returned (.tuple #[.int .i64 0, .bool false])/\w'=w:=by
 go_enter Tryz.func41,Tryz.ntmps41
 go_wp2
 go_ret2
 exact ⟨rfl,rfl⟩
theorem z04(h1:19<t.size)(hm: ¬(t[0].toNat:Int)=45):Cl 41 #[.string t] w λe w'=>e= .returned (.tuple #[.int .i64 0, .bool false])/\w'=w:=by
 have h0':(0:Int)<(t.size:Int):=yai
 have h1':(19:Int)<(t.size:Int):=yai
 have hne:=Zh (show 0<t.size by omega)
 have hne': ¬t.toList=[]:=λh=>by simp [h] at hne
 go_enter Tryz.func41,Tryz.ntmps41
 go_wp2
 go_ret2
 exact ⟨rfl,rfl⟩
theorem z3u(h1:t.size=19)(hm: ¬(t[0].toNat:Int)=45)(hb:Op.bytesLess t.toList Sb=false)(hb2:(t.toList==Sb)=false):Cl 41 #[.string t] w λe w'=>e= .returned (.tuple #[.int .i64 0, .bool false])/\w'=w:=by
 have h0':(0:Int)<(t.size:Int):=yai
 have h1': ¬(19:Int)<(t.size:Int):=yai
 have h2':(t.size:Int)=19:=yai
 have hb3: ¬t.toList=Sb:=by simpa using hb2
 have hne:=Zh (show 0<t.size by omega)
 have hne': ¬t.toList=[]:=λh=>by simp [h] at hne
 go_enter Tryz.func41,Tryz.ntmps41
 go_wp2
 go_ret2
 exact ⟨rfl,rfl⟩
theorem zky(h1:t.size=19)(hb:Op.bytesLess t.toList Sb=true)(hm: ¬(t[0].toNat:Int)=45)(hz: ¬(t[0].toNat:Int)=48)(hd:Hid (∀j (h:j<t.size),48<=t[j].toNat/\t[j].toNat<=57)):
  Cl 41 #[.string t] w λe w'=>e= .returned (.tuple #[.int .i64 (wrap64 (Xi t.data.toList)), .bool true])/\w'=w:=by
 have h0':(0:Int)<(t.size:Int):=yai
 have h1': ¬(19:Int)<(t.size:Int):=yai
 have h2':(t.size:Int)=19:=yai
 have hne:=Zh (show 0<t.size by omega)
 have hne': ¬t.toList=[]:=λh=>by simp [h] at hne
 go_enter Tryz.func41,Tryz.ntmps41
 go_wp2
 go_loopw [7,8] (λv7 v8 wr=>∃k:Nat,k<=t.size/\v8= .int .i64 k/\v7= .int .i64 (wrap64 (Xi (t.data.toList.take k)))/\wr=w) (λ_ v8 _=>t.size- (intOf v8).toNat)
 case atStart=>exact ⟨0,by omega,rfl,by simp [Xi,wrap64],rfl⟩
 case round=>exact z7o
theorem zkz(h0:1<t.size)(h1:t.size<19)(hz:(t[0].toNat:Int)=48):Cl 41 #[.string t] w λe w'=>e= .returned (.tuple #[.int .i64 0, .bool false])/\w'=w:=by
 have h0':(0:Int)<(t.size:Int):=yai
 have h01:(1:Int)<(t.size:Int):=yai
 have h1': ¬(19:Int)<(t.size:Int):=yai
 have h2': ¬(t.size:Int)=19:=yai
 have hm: ¬(t[0].toNat:Int)=45:=yai
 have hne:=Zh (show 0<t.size by omega)
 have hne': ¬t.toList=[]:=λh=>by simp [h] at hne
 go_enter Tryz.func41,Tryz.ntmps41
 go_wp2
 go_ret2
 exact ⟨rfl,rfl⟩
theorem zxb(h0:0<t.size)(h1:t.size<19)(hm: ¬(t[0].toNat:Int)=45)(hz: ¬(t[0].toNat:Int)=48)(k0:Nat)(hk0:k0<t.size)(hd:Hid (∀j (h:j<t.size),j<k0->48<=t[j].toNat/\t[j].toNat<=57))(hbad:t[k0].toNat<48\/57<t[k0].toNat):
  Cl 41 #[.string t] w λe w'=>e= .returned (.tuple #[.int .i64 0, .bool false])/\w'=w:=by
 have h0':(0:Int)<(t.size:Int):=yai
 have h1': ¬(19:Int)<(t.size:Int):=yai
 have h2': ¬(t.size:Int)=19:=yai
 have hne:=Zh h0
 have hne': ¬t.toList=[]:=λh=>by simp [h] at hne
 go_enter Tryz.func41,Tryz.ntmps41
 go_wp2
 go_loopw [7,8] (λv7 v8 wr=>∃(k:Nat) (v:Int),k<=k0/\v8= .int .i64 k/\v7= .int .i64 v/\wr=w) (λ_ v8 _=>t.size- (intOf v8).toNat)
 case atStart=>exact ⟨0,0,by omega,rfl,rfl,rfl⟩
 case round=>exact z7p
theorem zk0(h1:t.size=19)(hb:Op.bytesLess t.toList Sb=true)(hz:(t[0].toNat:Int)=48):Cl 41 #[.string t] w λe w'=>e= .returned (.tuple #[.int .i64 0, .bool false])/\w'=w:=by
 have h0':(0:Int)<(t.size:Int):=yai
 have h01:(1:Int)<(t.size:Int):=yai
 have h1': ¬(19:Int)<(t.size:Int):=yai
 have h2':(t.size:Int)=19:=yai
 have hm: ¬(t[0].toNat:Int)=45:=yai
 have hne:=Zh (show 0<t.size by omega)
 have hne': ¬t.toList=[]:=λh=>by simp [h] at hne
 go_enter Tryz.func41,Tryz.ntmps41
 go_wp2
 go_ret2
 exact ⟨rfl,rfl⟩
theorem zxc(h0:0<t.size)(h1:t.size=19)(hb:Op.bytesLess t.toList Sb=true)(hm: ¬(t[0].toNat:Int)=45)(hz: ¬(t[0].toNat:Int)=48)(k0:Nat)(hk0:k0<t.size)(hd:Hid (∀j (h:j<t.size),j<k0->48<=t[j].toNat/\t[j].toNat<=57))(hbad:t[k0].toNat<48\/57<t[k0].toNat):
  Cl 41 #[.string t] w λe w'=>e= .returned (.tuple #[.int .i64 0, .bool false])/\w'=w:=by
 have h0':(0:Int)<(t.size:Int):=yai
 have h1': ¬(19:Int)<(t.size:Int):=yai
 have h2':(t.size:Int)=19:=yai
 have hne:=Zh h0
 have hne': ¬t.toList=[]:=λh=>by simp [h] at hne
 go_enter Tryz.func41,Tryz.ntmps41
 go_wp2
 go_loopw [7,8] (λv7 v8 wr=>∃(k:Nat) (v:Int),k<=k0/\v8= .int .i64 k/\v7= .int .i64 v/\wr=w) (λ_ v8 _=>t.size- (intOf v8).toNat)
 case atStart=>exact ⟨0,0,by omega,rfl,rfl,rfl⟩
 case round=>exact z7p
end
abbrev Sc:List UInt8:=[57,50,50,51,51,55,50,48,51,54,56,53,52,55,55,53,56,48,56]
section
variable(w:World)(t s:ByteArray)
theorem z05:Cl 41 #[.string ⟨#[48]⟩] w λe w'=>e= .returned (.tuple #[.int .i64 0, .bool true])/\w'=w:=by
 go_enter Tryz.func41,Tryz.ntmps41
 go_wp2
 go_loopw [7,8] (λv7 v8 wr=>((v8= .int .i64 0/\v7= .int .i64 0)\/(v8= .int .i64 1/\v7= .int .i64 0))/\wr=w) (λ_ v8 _=>1- (intOf v8).toNat)
 case atStart=>exact ⟨.inl ⟨rfl,rfl⟩,rfl⟩
 case round=>
  obtain ⟨⟨rfl,rfl⟩|⟨rfl,rfl⟩,rfl⟩:=hrel
  ·go_wp2
   go_roundw
   case rel=>exact ⟨.inr ⟨rfl,rfl⟩,trivial⟩
   case measure=>decide
  ·go_wp2
   go_ret2
   exact ⟨rfl,rfl⟩
theorem zxd:Cl 41 #[.string ⟨#[45]⟩] w λe w'=>e= .returned (.tuple #[.int .i64 0, .bool false])/\w'=w:=by
 go_enter Tryz.func41,Tryz.ntmps41
 go_wp2
 go_ret2
 exact ⟨rfl,rfl⟩
theorem z06(h0:1<s.size)(hm:(s[0].toNat:Int)=45)(h1:20<s.size):Cl 41 #[.string s] w λe w'=>e= .returned (.tuple #[.int .i64 0, .bool false])/\w'=w:=by
 have h0':(0:Int)<(s.size:Int):=yai
 have h1':(19:Int)<((s.size- 1:Nat):Int):=yai
 have hsz:(s.extract 1 s.size).size=s.size- 1:=ya1
 have hne:=Zh (show 0<(s.extract 1 s.size).size by omega)
 have hne': ¬(s.extract 1 s.size).toList=[]:=λh=>by simp [h] at hne
 go_enter Tryz.func41,Tryz.ntmps41
 go_wp2
 all_goals
  go_ret2
  exact ⟨rfl,rfl⟩
theorem z3v(h0:1<s.size)(hm:(s[0].toNat:Int)=45)(h1:s.size=20)(hb:Op.bytesLess (s.extract 1 s.size).toList Sc=false)(hb3: ¬(s.extract 1 s.size).toList=Sc):Cl 41 #[.string s] w λe w'=>e= .returned (.tuple #[.int .i64 0, .bool false])/\w'=w:=by
 have h0':(0:Int)<(s.size:Int):=yai
 have h1': ¬(19:Int)<((s.size- 1:Nat):Int):=yai
 have h2':((s.size- 1:Nat):Int)=19:=yai
 clear h1
 have hb2:((s.extract 1 s.size).toList==Sc)=false:=by simpa using hb3
 have hsz:(s.extract 1 s.size).size=s.size- 1:=ya1
 have hne:=Zh (show 0<(s.extract 1 s.size).size by omega)
 have hne': ¬(s.extract 1 s.size).toList=[]:=λh=>by simp [h] at hne
 go_enter Tryz.func41,Tryz.ntmps41
 go_wp2
 all_goals
  go_ret2
  exact ⟨rfl,rfl⟩
theorem zk1(h0:1<s.size)(hm:(s[0].toNat:Int)=45)(h1:s.size<20)(hx:0<(s.extract 1 s.size).size)(hz:((s.extract 1 s.size)[0].toNat:Int)=48):Cl 41 #[.string s] w λe w'=>e= .returned (.tuple #[.int .i64 0, .bool false])/\w'=w:=by
 have h0':(0:Int)<(s.size:Int):=yai
 have h1': ¬(19:Int)<((s.size- 1:Nat):Int):=yai
 have h2': ¬((s.size- 1:Nat):Int)=19:=yai
 have hsz:(s.extract 1 s.size).size=s.size- 1:=ya1
 have hne:=Zh (show 0<(s.extract 1 s.size).size by omega)
 have hne': ¬(s.extract 1 s.size).toList=[]:=λh=>by simp [h] at hne
 go_enter Tryz.func41,Tryz.ntmps41
 go_wp2
 all_goals
  go_ret2
  exact ⟨rfl,rfl⟩
theorem zk2(h0:1<s.size)(hm:(s[0].toNat:Int)=45)(h1:s.size=20)(hb:Op.bytesLess (s.extract 1 s.size).toList Sc=true)(hx:0<(s.extract 1 s.size).size)(hz:((s.extract 1 s.size)[0].toNat:Int)=48):Cl 41 #[.string s] w λe w'=>e= .returned (.tuple #[.int .i64 0, .bool false])/\w'=w:=by
 have h0':(0:Int)<(s.size:Int):=yai
 have h1': ¬(19:Int)<((s.size- 1:Nat):Int):=yai
 have h2':((s.size- 1:Nat):Int)=19:=yai
 clear h1
 have hsz:(s.extract 1 s.size).size=s.size- 1:=ya1
 have hne:=Zh (show 0<(s.extract 1 s.size).size by omega)
 have hne': ¬(s.extract 1 s.size).toList=[]:=λh=>by simp [h] at hne
 go_enter Tryz.func41,Tryz.ntmps41
 go_wp2
 all_goals
  go_ret2
  exact ⟨rfl,rfl⟩
end
end Go.Proofs.YtphcopbffecceaaGreatDoor
