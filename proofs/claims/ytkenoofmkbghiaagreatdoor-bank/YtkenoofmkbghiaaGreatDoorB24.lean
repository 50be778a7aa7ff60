import Derived.Test.YtkenoofmkbghiaaGreatDoorB23
set_option maxRecDepth 100000
set_option maxHeartbeats 2000000
namespace Go.Proofs.YtkenoofmkbghiaaGreatDoor
open Go.RowKit
variable{f j tk:Nat}{rv:Value}{es:List En}{x:Hd}{e:En}
attribute [local go_sem] Yr Gk Vw Yf Ys Gn Yt Gr Yu Yo Vh Zm Yb Ux Zc Yx
def Ue:St->Bool
 | .inr (.inr (.inr (.inr (.inl _))))=>true
 |_=>false
section
variable{w:World}{b:Nat}
theorem zwe(s:St)(hh:Qf s=false):Cl 97 #[stV s] w λe w'=>e= .returned (.bool false)/\w'=w:=by
 rcases s with ⟨to,a⟩|⟨to,k,a,c⟩|⟨to,f,a⟩|⟨f,a,c⟩|a|⟨⟩|a|n
 ·exact yse
 ·exact yse
 ·exact yse
 ·exact yse
 ·exact yse
 ·simp [Qf] at hh
 ·simp [Qf] at hh
 ·simp [Qf] at hh
theorem z0g(s:St)(hh:Qf s=true):Cl 97 #[.iface (hkT (.st s)) (ptr b)] w λe w'=>e= .returned (.bool (HK.isAtomic (.st s)))/\w'=w:=by
 rcases s with ⟨to,a⟩|⟨to,k,a,c⟩|⟨to,f,a⟩|⟨f,a,c⟩|a|⟨⟩|a|n
 ·simp [Qf] at hh
 ·simp [Qf] at hh
 ·simp [Qf] at hh
 ·simp [Qf] at hh
 ·simp [Qf] at hh
 ·exact ys2
 ·exact ys2
 ·exact ys2
theorem zwf(s:St)(hh:Qf s=false):Cl 100 #[stV s] w λe w'=>e= .returned (.bool (Ue s))/\Below w.heap.size w w':=by
 rcases s with ⟨to,a⟩|⟨to,k,a,c⟩|⟨to,f,a⟩|⟨f,a,c⟩|a|⟨⟩|a|n
 ·exact yr1
 ·exact yr1
 ·exact yr1
 ·exact yr1
 ·exact yr1
 ·simp [Qf] at hh
 ·simp [Qf] at hh
 ·simp [Qf] at hh
theorem z0h(s:St)(hh:Qf s=true):Cl 100 #[.iface (hkT (.st s)) (ptr b)] w λe w'=>e= .returned (.bool false)/\Below w.heap.size w w':=by
 rcases s with ⟨to,a⟩|⟨to,k,a,c⟩|⟨to,f,a⟩|⟨f,a,c⟩|a|⟨⟩|a|n
 ·simp [Qf] at hh
 ·simp [Qf] at hh
 ·simp [Qf] at hh
 ·simp [Qf] at hh
 ·simp [Qf] at hh
 ·exact yr7
 ·exact yr7
 ·exact yr7
end
structure Ar(hs:List Hd)(ms:List HM)(w:World):Prop where
 hd: ∀i (h:i<ms.length),HdAt w (Qu ms) ms[i]
 hs:ms.map (·.h)=hs
def enG(hs:List Hd):Nat->En->Prop
 |0,e=>∃s,e= .inl s/\Qf s=false
 |f+1,e=>(∃s,e= .inl s/\Qf s=false)\/ ∃j h s,e= .inr j/\hs[j]?=some h/\h.k= .st s/\Qf s=true/\(1<=Jk s/\Jk s<=4)/\h.ents.length<=14/\ ∀e∈h.ents,enG hs f e
def Jb(hs:List Hd):En->List En
 | .inl _=>[]
 | .inr j=>match hs[j]? with
  |some h=>h.ents
  |none=>[]
def Vb(hs:List Hd):En->Int
 | .inl _=>1
 | .inr j=>match hs[j]? with
  |some ⟨.inr s,_⟩=>Jk s
  |_=>1
def Zn(hs:List Hd)(kd:En->Bool):Nat->En->Int
 |0,e=>if kd e=true then 1 else 0
 |f+1,e=>(if kd e=true then 1 else 0)+Vb hs e*((Jb hs e).map (Zn hs kd f)).sum
def kdA(hs:List Hd):En->Bool
 | .inl _=>false
 | .inr j=>match hs[j]? with
  |some h=>h.k.isAtomic
  |none=>false
def kdO:En->Bool
 | .inl s=>Ue s
 | .inr _=>false
section
variable{hs:List Hd}{ms:List HM}{w w':World}
theorem Ar.below(h:Ar hs ms w)(hb:Below w.heap.size w w'):Ar hs ms w':=
 ⟨λi hi=>(h.hd i hi).keep (M:=λ_ _=>False) (Chg.of_below hb) (λ_ e=>e) (λ_ _ _ e=>e) (λ_ _ e=>e),h.hs⟩
theorem Ar.at(h:Ar hs ms w)(hj:hs[j]?=some x): ∃hl:j<ms.length,ms[j].h=x:=by
 rw [<-h.hs,List.getElem?_map] at hj
 cases hm:ms[j]? with
 |none=>simp [hm] at hj
 |some m=>
  obtain ⟨hl,hm'⟩:=List.getElem?_eq_some_iff.1 hm
  refine ⟨hl,?_⟩
  rw [hm']
  simpa [hm] using hj
theorem Eg(h:Ar hs ms w)(hj:hs[j]?=some x): ∃hl:j<ms.length,ms[j].h=x/\enV (Qu ms) (.inr j)= .iface (hkT x.k) (ptr ms[j].b):=by
 obtain ⟨hl,e⟩:=h.at hj
 refine ⟨hl,e,?_⟩
 show idV (Qu ms) j=_
 simp [idV,Qu,List.getElem?_eq_getElem hl,e]
theorem zbx(kd:En->Bool): ∀f e,enG hs f e->0<=Zn hs kd f e/\Zn hs kd f e<=(60:Int)^f
 |0,e,_=>by unfold Zn;split<;>simp
 |f+1,e,h=>by
  have hp:(0:Int)<60^f:=Int.pow_pos yue
  have hpe:(60:Int)^(f+1)=60*60^f:=by rw [Int.pow_succ,Int.mul_comm]
  unfold Zn
  rcases h with ⟨s,rfl,_⟩|⟨j,x,s,rfl,hj,hk,hh,ht,hl,he⟩
  ·simp only [Vb,Jb,List.map_nil,List.sum_nil]
   rw [hpe]
   split<;>omega
  ·have e1:Vb hs (.inr j)=Jk s:=by
    simp only [Vb,hj]
    obtain ⟨k,es⟩:=x
    simp only at hk
    subst hk
    rfl
   have e2:Jb hs (.inr j)=x.ents:=yvg
   rw [e1,e2,hpe]
   obtain ⟨b1,b2⟩:=zap (Zn hs kd f) (60^f) yue x.ents (λe he'=>zbx kd f e (he e he'))
   generalize (x.ents.map (Zn hs kd f)).sum=S at*
   generalize Jk s=t at*
   have hl':(x.ents.length:Int)<=14:=yue
   have b3:S<=14*60^f:=Int.le_trans b2 (Int.mul_le_mul_of_nonneg_right hl' yue)
   generalize (60:Int)^f=P at*
   have b4:0<=t*S:=Int.mul_nonneg yue b1
   have b5:t*S<=4*S:=Int.mul_le_mul_of_nonneg_right ht.2 b1
   split<;>omega
def zrq(hs:List Hd)(ms:List HM)(tk:Nat)(kd:En->Bool):Prop:=∀w1,Ar hs ms w1->∀f e,enG hs f e->Cl tk #[enV (Qu ms) e] w1 λr w'=>r= .returned (.bool (kd e))/\Below w1.heap.size w1 w'
theorem zka(w:World):w.ownsRow 0 153 1 (.slice none 0 0) 0 []:=⟨rfl, .inl ⟨rfl,rfl⟩⟩
theorem zhz(hent: ∀args w,(callFunc tk args).run Tryz.prog w= .ok (.enter tk args) w)(w:World):Cl 96 #[.slice none 0 0, .func (.func tk) #[] #[]] w λr w'=>r= .returned (.int .i64 0)/\Below w.heap.size w w':=
 zd2 (es:=[]) (ids:=[]) (zka w) yuf (λ_=>True) trivial (hid λ_ _ _ _=>trivial) (λ_=>false) (λ_=>0) (λ_=>0) (λ_=>0) (λ_=> .nilIface) hent (hid λ_ _ e he=>by simp at he) (hid λ_ _ e he=>by simp at he) (hid λ_ _ e he=>by simp at he) (hid λ_ _ e he=>by simp at he) (hid λe he=>by simp at he) (hid λe he=>by simp at he)
theorem Gt: ∀f e,enG hs f e->enG hs (f+1) e
 |0,_,h=> .inl h
 |f+1,_,h=>by
  rcases h with h|⟨j,x,s,h1,h2,h3,h4,h5,h6,h7⟩
  ·exact .inl h
  ·exact .inr ⟨j,x,s,h1,h2,h3,h4,h5,h6,λe he=>Gt f e (h7 e he)⟩
def wiV(ms:List HM):En->Value
 | .inl _=> .slice none 0 0
 | .inr j=>match ms[j]? with
  |some m=>m.rv
  |none=> .slice none 0 0
theorem zrr(h:Ar hs ms w)(he:enG hs f e):Cl 128 #[enV (Qu ms) e] w λr w'=>r= .returned (.int .i64 (Vb hs e))/\w'=w:=by
 have he':enG hs (f+1) e:=Gt f e he
 rcases he' with ⟨s,rfl,hh⟩|⟨j,x,s,rfl,hj,hk,hh,_⟩
 ·exact zfp s hh
 ·obtain ⟨hl,e1,e2⟩:=Eg h hj
  rw [e2,hk]
  have ht:Vb hs (.inr j)=Jk s:=by
   simp only [Vb,hj]
   obtain ⟨k,es⟩:=x
   simp only at hk
   subst hk
   rfl
  rw [ht]
  have hkk:=(h.hd j hl).kind
  rw [e1,hk] at hkk
  exact zrh s hh hkk
theorem yka(h:Ar hs ms w)(he:enG hs f e):Cl 129 #[enV (Qu ms) e] w λr w'=>r= .returned (wiV ms e)/\w'=w:=by
 have he':enG hs (f+1) e:=Gt f e he
 rcases he' with ⟨s,rfl,hh⟩|⟨j,x,s,rfl,hj,hk,hh,_⟩
 ·exact zj6 s hh
 ·obtain ⟨hl,e1,e2⟩:=Eg h hj
  rw [e2,hk]
  have hw:wiV ms (.inr j)=ms[j].rv:=by simp [wiV,List.getElem?_eq_getElem hl]
  rw [hw]
  exact zoc s hh (h.hd j hl).rc
theorem zgn{kd:En->Bool}(hent: ∀args w,(callFunc tk args).run Tryz.prog w= .ok (.enter tk args) w)(hK:zrq hs ms tk kd): ∀f,f<=4->∀(w:World) (rv:Value) (es:List En),Ar hs ms w->w.ownsRow 0 153 1 rv es.length (es.map (enV (Qu ms)))->es.length<=14->(∀e∈es,enG hs f e) ->
  Cl 96 #[rv, .func (.func tk) #[] #[]] w λr w'=>r= .returned (.int .i64 (es.map (Zn hs kd f)).sum)/\Below w.heap.size w w'
 |0,_,w,rv,es,hA,hrow,h14,hes=>by
  refine zd2 hrow h14 (Ar hs ms) hA (hid λ_ _ h1 hb=>h1.below hb) kd (λ_=>1) (λ_=>0) (Zn hs kd 0) (wiV ms) hent (hid λw1 h1 e he=>hK w1 h1 0 e (hes e he)) (hid λw1 h1 e he=>?_) (hid λw1 h1 e he=>yka h1 (hes e he)) (hid λw1 h1 e he=>?_) (hid λe he=>by simp [Zn]) (hid λe he=>by simp)
  ·obtain ⟨s,rfl,hh⟩:=hes e he
   exact zfp s hh
  ·obtain ⟨s,rfl,hh⟩:=hes e he
   exact zhz hent w1
 |f+1,hf,w,rv,es,hA,hrow,h14,hes=>by
  refine zd2 hrow h14 (Ar hs ms) hA (hid λ_ _ h1 hb=>h1.below hb) kd (Vb hs) (λe=>((Jb hs e).map (Zn hs kd f)).sum) (Zn hs kd (f+1)) (wiV ms) hent (hid λw1 h1 e he=>hK w1 h1 (f+1) e (hes e he)) (hid λw1 h1 e he=>zrr h1 (hes e he)) (hid λw1 h1 e he=>yka h1 (hes e he)) (hid λw1 h1 e he=>?_) (hid λe he=>rfl) (hid λe he=>?_)
  ·rcases hes e he with ⟨s,rfl,hh⟩|⟨j,x,s,rfl,hj,hk,hh,ht,hl,hsub⟩
   ·exact zhz hent w1
   ·obtain ⟨hl2,e1⟩:=h1.at hj
    have hw:wiV ms (.inr j)=ms[j].rv:=by simp [wiV,List.getElem?_eq_getElem hl2]
    have e2:Jb hs (.inr j)=x.ents:=yvg
    rw [hw,e2]
    have hr:=(h1.hd j hl2).row
    rw [e1] at hr
    exact zgn hent hK f yue w1 _ _ h1 hr hl hsub
  ·have hb:=zbx kd (f+1) e (hes e he)
   have h4:(60:Int)^(f+1)<=12960000:=by
    have:f+1=1\/f+1=2\/f+1=3\/f+1=4:=yue
    rcases this with e|e|e|e<;>rw [e]<;>decide
   rcases hes e he with ⟨s,rfl,hh⟩|⟨j,x,s,rfl,hj,hk,hh,ht,hl,hsub⟩
   ·simp [Vb,Jb]
   ·have e1:Vb hs (.inr j)=Jk s:=by
     simp only [Vb,hj]
     obtain ⟨k,es⟩:=x
     simp only at hk
     subst hk
     rfl
    have e2:Jb hs (.inr j)=x.ents:=yvg
    obtain ⟨b1,_⟩:=zap (Zn hs kd f) (60^f) (Int.le_of_lt (Int.pow_pos yue)) x.ents (λe he'=>zbx kd f e (hsub e he'))
    simp only [Zn,e1,e2] at hb⊢
    generalize (x.ents.map (Zn hs kd f)).sum=S at*
    have b4:0<=Jk s*S:=Int.mul_nonneg yue b1
    refine ⟨b4,?_⟩
    have:=hb.2
    split at this<;>omega
theorem z5l:zrq hs ms 97 (kdA hs):=by
 intro w1 h1 f e he
 have he':enG hs (f+1) e:=Gt f e he
 rcases he' with ⟨s,rfl,hh⟩|⟨j,x,s,rfl,hj,hk,hh,_⟩
 ·refine (zwe s hh).mono ?_
  rintro r w' ⟨rfl,rfl⟩
  exact ⟨rfl,Below.refl _ _⟩
 ·obtain ⟨hl,e1,e2⟩:=Eg h1 hj
  rw [e2,hk]
  refine (z0g s hh).mono ?_
  rintro r w' ⟨rfl,rfl⟩
  exact ⟨by simp only [kdA,hj,hk],Below.refl _ _⟩
theorem z5m:zrq hs ms 100 kdO:=by
 intro w1 h1 f e he
 have he':enG hs (f+1) e:=Gt f e he
 rcases he' with ⟨s,rfl,hh⟩|⟨j,x,s,rfl,hj,hk,hh,_⟩
 ·exact zwf s hh
 ·obtain ⟨hl,e1,e2⟩:=Eg h1 hj
  rw [e2,hk]
  exact z0h s hh
theorem zok: ∀args w,(callFunc 97 args).run Tryz.prog w= .ok (.enter 97 args) w:=λ_ _=>by kernel_rfl
theorem zwg: ∀args w,(callFunc 100 args).run Tryz.prog w= .ok (.enter 100 args) w:=λ_ _=>by kernel_rfl
theorem zrs(hf:f<=4)(hA:Ar hs ms w)(hrow:w.ownsRow 0 153 1 rv es.length (es.map (enV (Qu ms))))(h14:es.length<=14)(hes: ∀e∈es,enG hs f e):
  Cl 67 #[rv] w λr w'=>r= .returned (.int .i64 (es.map (Zn hs (kdA hs) f)).sum)/\Below w.heap.size w w':=by
 have K:=hid (zgn zok z5l f hf w rv es hA hrow h14 hes)
 clear hA hrow hes
 generalize (es.map (Zn hs (kdA hs) f)).sum=S at*
 go_enter Tryz.func67,Tryz.ntmps67
 go_wp2_with fail
 refine K.out.mono ?_
 rintro e w1 ⟨rfl,b1⟩
 have B1:=hid b1
 clear b1 K
 go_wp2
 go_ret
 exact ⟨rfl,B1.out⟩
theorem z0i(hf:f<=4)(hA:Ar hs ms w)(hrow:w.ownsRow 0 153 1 rv es.length (es.map (enV (Qu ms))))(h14:es.length<=14)(hes: ∀e∈es,enG hs f e):
  Cl 69 #[rv] w λr w'=>r= .returned (.int .i64 (es.map (Zn hs kdO f)).sum)/\Below w.heap.size w w':=by
 have K:=hid (zgn zwg z5m f hf w rv es hA hrow h14 hes)
 clear hA hrow hes
 generalize (es.map (Zn hs kdO f)).sum=S at*
 go_enter Tryz.func69,Tryz.ntmps69
 go_wp2_with fail
 refine K.out.mono ?_
 rintro e w1 ⟨rfl,b1⟩
 have B1:=hid b1
 clear b1 K
 go_wp2
 go_ret
 exact ⟨rfl,B1.out⟩
end
open Go.RowKit Go.Shelf
attribute [local go_sem] Oper.semAt_some
theorem zrt(k:Nat):Fence.wide.room k:=λd h=>by cases h
theorem zh0{m:Nat}(m':Nat){P:Program}{l:Nat}{args:Array Value}{W:World}{R:Ending->World->Prop}(h:YieldAt Fence.wide m P l args W R):YieldAt Fence.wide m' P l args W R:=by
 obtain ⟨fn,tmps,assign,body,hy,hR⟩:=h
 exact ⟨fn,tmps,assign,body,hy,hR.1,λc cs _=>hR.2 c cs (zrt _)⟩
def Jf(hs:List Hd):Nat->List En->List En
 |0,es=>es
 |f+1,es=>es.flatMap λe=>e::Jf hs f (Jb hs e)
abbrev zcs(hs:List Hd):={e:En // enG hs 3 e}
section
variable{hs:List Hd}{ms:List HM}{W0:World}
theorem zgo(n l n₀ N:Nat)(hA0:Ar hs ms W0)(hn₀:W0.heap.size<=n₀)(hrow:W0.ownsRow 0 153 1 rv es.length (es.map (enV (Qu ms))))(h14:es.length<=14)(hes:Hid (∀e∈es,enG hs 3 e))(J Jx:List (zcs hs)->World->Prop)
  (hY:Hid (∀m pre (x:zcs hs) W,J pre W->Below W0.heap.size W0 W->pre.length<N->YieldAt Fence.wide m Tryz.prog l #[enV (Qu ms) x.1] W λe W'=>(e= .returned (.bool true)/\J (pre++[x]) W'/\Below n₀ W W')\/(e= .returned (.bool false)/\Jx (pre++[x]) W')))
  (sub:En->List En)
  (RK:Hid (∀m pre W,J pre W->Below W0.heap.size W0 W->∀e∈es,pre.length+(sub e).length<=N->CallsIn Fence.wide m Tryz.prog 99 #[wiV ms e, .func (.yield l) #[] #[]] W λe' W'=>(e'= .returned (.bool true)/\(∃ys:List (zcs hs),ys.map (·.1)=sub e/\J (pre++ys) W')/\Below n₀ W W')\/(e'= .returned (.bool false)/\ ∃q:List (zcs hs),q.map (·.1)<+:sub e/\Jx (pre++q) W')))
  (pre:List (zcs hs)) (W:World) (hJ:J pre W) (hW:Below W0.heap.size W0 W) (hN:pre.length+(es.flatMap λe=>e::sub e).length<=N):
  CallsIn Fence.wide n Tryz.prog 99 #[rv, .func (.yield l) #[] #[]] W λe W'=>(e= .returned (.bool true)/\(∃ys:List (zcs hs),ys.map (·.1)=(es.flatMap λe=>e::sub e)/\J (pre++ys) W')/\Below n₀ W W')\/(e= .returned (.bool false)/\ ∃q:List (zcs hs),q.map (·.1)<+:(es.flatMap λe=>e::sub e)/\Jx (pre++q) W'):=by
 obtain ⟨ra,rk,hrv⟩: ∃a k,rv= .slice a es.length k:=ysp
 subst hrv
 have HC:Hid (∀k (hk:k<es.length),∃g,ra=some ⟨g,0,none⟩/\es.length<=rk/\g<W0.heap.size/\W0.cell? ⟨g,k,none⟩=some (enV (Qu ms) es[k])):=yr5
 have HSN:Hid (∀k (hk:k<es.length),((es.take (k+1)).flatMap λe=>e::sub e)=((es.take k).flatMap λe=>e::sub e)++(es[k]::sub es[k])):=yst
 have HPF:Hid (∀k,∃r,(es.flatMap λe=>e::sub e)=((es.take k).flatMap λe=>e::sub e)++r):=yts
 have HA:=hid hA0
 clear hrow hA0
 refine callsIn_of_wp Tryz.func99 rfl trivial ?_ rfl
 simp only [Tryz.ntmps99,List.size_toArray,List.length_cons,List.length_nil,Nat.reduceAdd,Nat.reduceSub,Array.replicate_succ,Array.replicate_zero,List.push_toArray,List.append_toArray,List.nil_append,List.cons_append]
 have hw: ∀f,Fence.wide.fn f:=λ_=>trivial
 have hdd: ∀k:Nat,(Fence.wide.depth.isSome=true->1<=k):=λk h=>by cases h
 have HJ0:=hid hJ
 have HW0:=hid hW
 have HN:=hid hN
 clear hJ hW hN
 gi_wp2
 gi_loopw [9] (λi wr=>∃k:Nat,k<=es.length/\i= .int .i64 k/\Hid (∃ys:List (zcs hs),ys.map (·.1)=((es.take k).flatMap λe=>e::sub e)/\J (pre++ys) wr)/\Hid (Below n₀ W wr))
  (λi _=>es.length- (intOf i).toNat)
 case atStart=>exact ⟨0,Nat.zero_le _,rfl,⟨[],by simp,by simpa using HJ0.out⟩,Below.refl _ _⟩
 case round=>
  obtain ⟨k,hk,rfl,hys,hB⟩:=hrel
  by_cases hlt:k<es.length
  ·have hlt':(k:Int)<(es.length:Int):=by omega
   obtain ⟨g,hra,hrk,hg,hcell⟩:=HC.out k hlt
   subst hra
   obtain ⟨ys,hy1,hJ1⟩:=hys.out
   have hWr:Below W0.heap.size W0 wr:=HW0.out.trans (hB.out.mono hn₀)
   have hcell':wr.cell? ⟨g,k,none⟩=some (enV (Qu ms) es[k]):=(hWr.cell (p:=⟨g,k,none⟩) hg).trans hcell
   have hmem:es[k]∈es:=List.getElem_mem hlt
   have hlen:ys.length=((es.take k).flatMap λe=>e::sub e).length:=by rw [<-hy1];simp
   obtain ⟨rest,hrest⟩:=HPF.out (k+1)
   have hsn:=HSN.out k hlt
   have hN1:pre.length+ys.length+1+(sub es[k]).length<=N:=yt3
   obtain ⟨X,hX⟩: ∃X:zcs hs,X.1=es[k]:=⟨⟨es[k],hes.out _ hmem⟩,rfl⟩
   obtain ⟨fn,tmps,assign,body,hy,hR⟩:=hY.out (n- 1) (pre++ys) X wr hJ1 hWr yuj
   rw [hX] at hy
   have hR':=hR.mono (R':=λe W'=>(e= .returned (.bool true)/\Hid (J (pre++ys++[X]) W'/\Below n₀ wr W'))\/(e= .returned (.bool false)/\Hid (Jx (pre++ys++[X]) W'))) (λe W' h=>h.elim (λh=> .inl ⟨h.1,hid h.2⟩) (λh=> .inr ⟨h.1,hid h.2⟩))
   have KW:=hid (λw1 (h1:Below W0.heap.size W0 w1)=>(callsIn_wide (n:=n- 1)).2 (yka (HA.out.below h1) (hes.out _ hmem)))
   have KR:=hid (λW3 (h1:J (pre++ys++[X]) W3) (h2:Below W0.heap.size W0 W3)=>RK.out (n- 1) (pre++ys++[X]) W3 h1 h2 es[k] hmem yuj)
   have HWr:=hid hWr
   have HS:Hid (∀zs:List (zcs hs),zs.map (·.1)=sub es[k]->(ys++[X]++zs).map (·.1)=((es.take (k+1)).flatMap λe=>e::sub e)):=by
    intro zs hz
    rw [hsn,List.map_append,List.map_append,hy1,hz]
    simp [hX]
   have HP:Hid (∀q:List (zcs hs),q.map (·.1)<+:sub es[k]->(ys++[X]++q).map (·.1)<+:(es.flatMap λe=>e::sub e)):=yti
   clear hcell hR hWr hJ1 hsn hrest hN1 hlen hy1 hys HJ0 HN
   generalize enV (Qu ms) es[k]=v at*
   generalize wiV ms es[k]=wv at*
   generalize sub es[k]=sk at*
   gi_wp2_with (first
    |((try refine ⟨hdd _,?_⟩);refine hR'.mono ?_;clear hR';rintro e W3 (⟨rfl,hJ3⟩|⟨rfl,hJx3⟩))
    |((try refine ⟨hdd _,?_⟩);gi_at_call 129;refine (KW.out _ (HWr.out.trans (hJ3.out.2.mono hn₀))).mono ?_;clear KW;rintro e w' ⟨rfl,rfl⟩)
    |((try refine ⟨hdd _,?_⟩);gi_at_call 99;refine (KR.out _ hJ3.out.1 (HWr.out.trans (hJ3.out.2.mono hn₀))).mono ?_;clear KR;rintro e W4 (⟨rfl,hq⟩|⟨rfl,hq⟩)))
   ·exact yss
   ·exact ytk
   ·exact ytv
  ·have hlt': ¬(k:Int)<(es.length:Int):=by omega
   have hke:k=es.length:=yue
   subst hke
   obtain ⟨ys,hy1,hJ1⟩:=hys.out
   rw [List.take_length] at hy1
   have HY:=hid hy1
   have HJ1:=hid hJ1
   clear hy1 hJ1 hys HJ0 HN
   gi_wp2
   go_ret
   exact .inl ⟨rfl,⟨ys,HY.out,HJ1.out⟩,hB.out⟩
end
end Go.Proofs.YtkenoofmkbghiaaGreatDoor
