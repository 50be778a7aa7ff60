import Derived.Test.YtkenoofmkbghiaaGreatDoorB32
import Derived.Test.YtkenoofmkbghiaaGreatDoorB33
set_option maxRecDepth 100000
set_option maxHeartbeats 4000000
namespace Go.Proofs.YtkenoofmkbghiaaGreatDoor
open Go.RowKit
variable{A a d i j k n rv s' t u up:Nat}{x y z:Vl}{m m' v v' v1:Nat->Int}{h rh vh vh1:Nat->Bool}{α:Type}{S:Nat->Prop}{q q':List (Int×Int)}{s:ByteArray}{qc:Bool}
theorem yn2{W:World}(hE:Env W)(hT:TabAt W){st:RS}(hg:zaz s= .ok st):
  Cl 6 #[.string s] W λe w'=>∃bm D,e= .returned (ptr bm)/\MRep D w' bm (((List.range st.threads.length).map (thC st)).map λc=>(Th.init,c)) (λ_=>0)/\(∀k,w'.heap.size<=k->D k)/\(∀k,D k->W.heap.size<=k)/\Fine 0 (((List.range st.threads.length).map (thC st)).map λc=>(Th.init,c))/\Below W.heap.size W w':=by
 have hcode:=yds (yhi hg)
 have hL:=yeq hcode
 have K1:=hid (zw5 hE hT s hg)
 have K2:Hid (∀w,Env w->Cl 15 #[.string (Yi st)] w λe w'=>∃bm,e= .returned (.tuple #[ptr bm, .int .i64 0, .int .i64 0])/\MRep (λk=>w.heap.size<=k) w' bm (((List.range st.threads.length).map (thC st)).map λc=>(Th.init,c)) (λ_=>0)/\Fine 0 (((List.range st.threads.length).map (thC st)).map λc=>(Th.init,c))/\Below w.heap.size w w'):=hid λw hw=>by
  have:=yen hw (Yi st)
  rw [hcode] at this
  refine this.mono ?_
  rintro e w' ⟨bm,rfl,h1,h2,h3⟩
  exact ⟨bm,rfl,h1,yes h2 hL,h3⟩
 have HE:=hid hE
 clear hE hT hcode hL
 generalize ((List.range st.threads.length).map (thC st)).map (λc=>(Th.init,c))=A at*
 generalize Yi st=t at*
 go_enter Tryz.func6,Tryz.ntmps6
 go_wp2_with fail
 refine K1.out.mono ?_
 rintro e w1 ⟨rfl,b1⟩
 have B1:=hid b1
 clear b1 K1
 go_wp2_with fail
 refine (K2.out w1 (HE.out.below B1.out)).mono ?_
 rintro e w2 ⟨bm,rfl,h1,h2,b2⟩
 have H1:=hid h1
 have H2:=hid h2
 have B2:=hid b2
 clear h1 h2 b2 K2
 go_wp2
 go_ret
 exact ⟨bm,_,rfl,H1.out,λk hk=>Nat.le_trans B2.out.size hk,λk hk=>Nat.le_trans B1.out.size hk,H2.out,B1.out.trans (B2.out.mono B1.out.size)⟩
section
variable{I:Nat->List (Th×List Ic)->(Nat->Int)->Prop}{W w:World}{bm nt n j:Nat}
variable(I W bm) in
def ymd(n j:Nat)(w:World):Prop:=∃(D:Nat->Prop) (K:Nat) (A:List (Th×List Ic)) (m:Nat->Int),K<=n/\MRep D w bm A m/\(∀k,w.heap.size<=k->D k)/\(∀k,D k->W.heap.size<=k)/\Fine K A/\I K A m/\(∀i,i<j->z7c A i≠0)/\Below W.heap.size W w
theorem yky(A:List (Th×List Ic))(m:Nat->Int)(t:Nat)(h:z7c A i≠0): ∀k,z7c (z9i A m t k).1 i≠0
 |0=>h
 |k+1=>by
  have ih:=yky A m t h k
  show z7c (z7b (z9i A m t k).1 (z9i A m t k).2 t).1 i≠0
  by_cases e:i=t
  ·subst e;rw [yku _ _ ih];exact ih
  ·rw [yle _ _ e];exact ih
theorem ynf(hs: ∀K A m t,t<nt->K<100000000000->I K A m->I (K+1) (z7b A m t).1 (z7b A m t).2)(hf: ∀K A m t,t<nt->I K A m->I K (z69 A m t).1 (z69 A m t).2):yn0 nt bm (ymd I W bm):=by
 refine ⟨λ⟨D,K,A,m,h1,h2⟩ hn=>⟨D,K,A,m,Nat.le_trans h1 hn,h2⟩,λ⟨D,K,A,m,h1,h2,h3,h4,h5,h6,_,h8⟩=>⟨D,K,A,m,h1,h2,h3,h4,h5,h6,λi hi=>absurd hi (Nat.not_lt_zero i),h8⟩,λn j w t ht ⟨D,K,A,m,h1,h2,h3,h4,h5,h6,h7,h8⟩=>?_,λn j w t k ht hk hn ⟨D,K,A,m,h1,h2,h3,h4,h5,h6,h7,h8⟩=>?_,λn j w t ht ⟨D,K,A,m,h1,h2,h3,h4,h5,h6,h7,h8⟩=>?_⟩
 ·refine (yb1 h2 h3 t).mono ?_
  rintro e w' ⟨rfl,g1,g2⟩
  exact ⟨rfl,D,K,_,_,h1,g1,λk hk=>h3 k (Nat.le_trans g2.size hk),h4,h5.flush m t,hf K A m t ht h6,λi hi=>by rw [yl4];exact h7 i hi,h8.trans (g2.below h8.size λk _ e=>h4 k e)⟩
 ·have hI: ∀q,q<=k->I (K+q) (z9i A m t q).1 (z9i A m t q).2:=λq hq=>by
   induction q with
   |zero=>exact h6
   |succ q ih=>exact hs (K+q) _ _ t ht yue (ih yue)
  refine (yde h2 h3 t k yue λq hq=>(h5.steps m t q).ok yue).mono ?_
  rintro e w' ⟨rfl,g1,g2⟩
  exact ⟨rfl,D,K+k,_,_,by omega,g1,λk hk=>h3 k (Nat.le_trans g2.size hk),h4,h5.steps m t k,hI k (Nat.le_refl _),λi hi=>yky A m t (h7 i hi) k,h8.trans (g2.below h8.size λk _ e=>h4 k e)⟩
 ·refine (yci h2 t).mono ?_
  rintro e w' ⟨rfl,rfl⟩
  refine ⟨_,rfl,⟨D,K,A,m,h1,h2,h3,h4,h5,h6,h7,h8⟩,λe hs=>⟨D,K,A,m,h1,h2,h3,h4,h5,h6,λi hi=>?_,h8⟩⟩
  by_cases ei:i=j
  ·rw [ei,<-e];exact hs
  ·exact h7 i yue
def ymh(w:World)(a:Option Addr)(len cap:Nat)(zs:List Int):Prop:=
 (a=none/\len=0/\cap=0/\zs=[])\/
 ∃x,a=some x/\len<=cap/\cap<=maxLen/\zs.length=cap/\(∀i,i<zs.length->w.cell? (x.add i)=some (.int .i64 (zs.getD i 0)))/\ ∀n∈zs,(Lit.int .i64 n).wf=true
theorem yng{n:Int}(h:(Lit.int .i64 n).wf=true):-9223372036854775808<=n:=by
 have hmin:IntKind.i64.min=-9223372036854775808:=rfl
 simp only [Lit.wf,Bool.and_eq_true,decide_eq_true_eq] at h
 omega
theorem ym4{pa:Option Addr}{len cap:Nat}{zs:List Int}(hr:ymh W pa len cap zs)(hlen: ¬4096<len)(R:yn0 3 bm (ymd I W bm))(h:ymd I W bm 0 0 w):
  Cl 7 #[ptr bm, .slice pa len cap, .int .i64 3] w λe w'=>e= .returned (.tuple #[])/\ymd I W bm 245760 0 w':=by
 rcases hr with ⟨rfl,rfl,rfl,rfl⟩|⟨x,rfl,h2,_,h4,h5,h6⟩
 ·refine (ymg 0).mono ?_
  rintro e w' ⟨rfl,rfl⟩
  exact ⟨rfl,R.mono h yue⟩
 ·refine (yol R h yue x len cap zs yue yue (λn j w hI k hk=>?_) (λz hz=>yng (h6 z hz))).mono ?_
  ·obtain ⟨D,K,A,m,_,_,_,_,_,_,_,hb⟩:=hI
   have hc:=h5 k hk
   rw [List.getD_eq_getElem?_getD,List.getElem?_eq_getElem hk] at hc
   exact (hb.cell (blt hc)).trans hc
  ·rintro e w' ⟨rfl,h⟩
   exact ⟨rfl,R.mono h yue⟩
end
abbrev yqa:ByteArray:=⟨#[115,104,97,114,101,100,32,120,32,50,10,115,104,97,114,101,100,32,121,10,116,104,114,101,97,100,10,108,111,111,112,32,51,10,97,116,111,109,105,99,10,103,101,116,32,118,32,120,32,97,116,32,49,10,115,101,116,32,118,32,118,32,45,32]⟩
abbrev yqb:ByteArray:=⟨#[10,112,117,116,32,120,32,118,32,97,116,32,49,10,103,101,116,32,119,32,121,10,115,101,116,32,119,32,119,32,43,32]⟩
abbrev yqc:ByteArray:=⟨#[10,112,117,116,32,121,32,119,10,101,110,100,10,101,110,100,10]⟩
abbrev yqd:ByteArray:=⟨#[116,104,114,101,97,100,10,108,111,111,112,32,51,10,97,116,111,109,105,99,10,103,101,116,32,118,32,121,10,115,101,116,32,118,32,118,32,45,32,50,10,112,117,116,32,121,32,118,10,103,101,116,32,119,32,120,10,115,101,116,32,119,32,119,32,43,32,50,10,112,117,116,32,120,32,119,10,101,110,100,10,101,110,100,10]⟩
abbrev yqe:ByteArray:=⟨#[116,104,114,101,97,100,10,108,111,111,112,32,51,10,97,116,111,109,105,99,10,103,101,116,32,118,32,120,10,103,101,116,32,119,32,120,32,97,116,32,49,10,115,101,116,32,118,32,118,32,43,32,119,10,103,101,116,32,119,32,121,10,115,101,116,32,118,32,118,32,43,32,119,10,111,117,116,32,118,10,101,110,100,10,101,110,100,10]⟩
def dig(k:Nat):ByteArray:=⟨#[(48+k).toUInt8]⟩
def yps(k:Nat):ByteArray:=yqa++dig k++yqb++dig k++yqc++yqd++yqe
theorem ypk(w:World)(k:Nat)(hk:1<=k/\k<=9):Cl 10 #[.int .i64 k] w λe w'=>e= .returned (.string (dig k))/\w'=w:=by
 have:k=1\/k=2\/k=3\/k=4\/k=5\/k=6\/k=7\/k=8\/k=9:=yue
 clear hk
 rcases this with rfl|rfl|rfl|rfl|rfl|rfl|rfl|rfl|rfl
 all_goals
  go_enter Tryz.func10,Tryz.ntmps10
  go_wp2
  go_ret
  exact ⟨rfl,rfl⟩
section
variable{W:World}{pa:Option Addr}{len cap:Nat}{a:Int}
theorem ypl(hlen:4096<len):Cl 4 #[.slice pa len cap, .int .i64 a] W λe w'=>e= .returned (.bool true)/\w'=W:=by
 have hlen':(4096:Int)<(len:Int):=yue
 go_enter Tryz.func4,Tryz.ntmps4
 go_wp2
 go_ret
 exact ⟨rfl,rfl⟩
def yqf(w':World)(n:Nat)(al:Option Addr):Prop:=n=0\/ ∃g,al=some ⟨g,0,none⟩/\ ∀j,j<n->w'.cell? ⟨g,j,none⟩=some (.int .i64 0)
theorem ypg(hlen: ¬4096<len)(hs:s.size=1){p5:Nat}(hk:k<9)(h5:p5<5){X0 X1 X2 X3:Nat->World->Prop}{Z:World->Prop}
  (KP:Hid (∀w,Cl 11 #[.int .i64 a, .int .i64 9] w λe w'=>e= .returned (.int .i64 (k:Int))/\w'=w)) (KQ:Hid (∀w,Cl 11 #[.int .i64 a, .int .i64 5] w λe w'=>e= .returned (.int .i64 (p5:Int))/\w'=w))
  (KD:Hid (∀w,Cl 10 #[.int .i64 (1+(k:Int))] w λe w'=>e= .returned (.string s)/\w'=w))
  (KM:Hid (Cl 6 #[.string (yqa++s++yqb++s++yqc++yqd++yqe)] W λe w'=>∃bm,e= .returned (ptr bm)/\X0 bm w'))
  (KY:Hid (∀bm w,X0 bm w->Cl 7 #[ptr bm, .slice pa len cap, .int .i64 3] w λe w'=>e= .returned (.tuple #[])/\X1 bm w'))
  (KE:Hid (∀bm w (tu:Nat),tu<=2401->X1 bm w->Cl 9 #[ptr bm, .int .i64 3, .int .i64 tu] w λe w'=>(e= .returned (.bool false)/\X3 bm w')\/(e= .returned (.bool true)/\X2 bm w')))
  (K3:Hid (∀bm w,X3 bm w->Cl 12 #[ptr bm, .int .i64 2] w λe w'=>∃(al:Option Addr) (n:Nat),n<=3/\e= .returned (.slice al n n)/\yqf w' n al/\Z w'))
  (K2:Hid (∀bm w,X2 bm w->Cl 12 #[ptr bm, .int .i64 2] w λe w'=>∃g,e= .returned (.slice (some ⟨g,0,none⟩) 3 3)/\(∀j,j<3->w'.cell? ⟨g,j,none⟩=some (.int .i64 0))/\Z w')):
  Cl 4 #[.slice pa len cap, .int .i64 a] W λe w'=>e= .returned (.bool true)/\Z w':=by
 have hlen': ¬(4096:Int)<(len:Int):=yue
 go_enter Tryz.func4,Tryz.ntmps4
 go_wp2_with fail
 refine (KP.out _).mono ?_
 rintro e w' ⟨rfl,hw⟩
 subst hw
 go_wp2_with fail
 refine (KD.out _).mono ?_
 rintro e w1 ⟨rfl,hw⟩
 subst hw
 go_wp2_with fail
 refine KM.out.mono ?_
 rintro e w1 ⟨bm,rfl,h1⟩
 have H1:=hid h1
 clear h1 KM KP KD
 go_wp2_with fail
 refine (KY.out bm w1 H1.out).mono ?_
 rintro e w2 ⟨rfl,h2⟩
 have H2:=hid h2
 clear h2 H1 KY
 go_wp2_with fail
 refine (KQ.out _).mono ?_
 rintro e w' ⟨rfl,hw⟩
 subst hw
 go_wp2_with fail
 have K:=KE.out bm w' (1+p5*300) yue H2.out
 rw [show ((1+p5*300:Nat):Int)=1+(p5:Int)*300 by omega] at K
 refine K.mono ?_
 rintro e w4 (⟨rfl,h4⟩|⟨rfl,h4⟩)
 ·have H4:=hid h4
  clear h4 K KE K2 H2 KQ
  go_wp2_with fail
  refine (K3.out bm w4 H4.out).mono ?_
  rintro e w5 ⟨al,n,hn,rfl,h5,z5⟩
  have Z5:=hid z5
  clear z5 H4 K3
  rcases h5 with rfl|⟨g,rfl,hc⟩
  ·go_wp2_with fail
   go_loopw [10] (λv10 wr=>v10= .int .i64 0/\wr=w5) (λ_ _=>0)
   case atStart=>exact ⟨rfl,rfl⟩
   case round=>
    obtain ⟨rfl,rfl⟩:=hrel
    go_wp2
    go_ret
    exact ⟨rfl,Z5.out⟩
  ·have HC:=hid hc
   clear hc
   go_wp2_with fail
   go_loopw [10] (λv10 wr=>wr=w5/\ ∃i:Nat,i<=n/\v10= .int .i64 i) (λv10 _=>n- (intOf v10).toNat)
   case atStart=>exact ⟨rfl,0,Nat.zero_le _,rfl⟩
   case round=>
    obtain ⟨rfl,i,hi,rfl⟩:=hrel
    by_cases hil:i<n
    ·have hil':(i:Int)<(n:Int):=by omega
     have hi0:(0:Int)<=(i:Int):=yue
     have hc:=HC.out i hil
     go_wp2
     go_roundw
     case rel=>exact ⟨trivial,i+1,by omega,by go_num⟩
     case measure=>simp [intOf];omega
    ·have hil': ¬(i:Int)<(n:Int):=by omega
     go_wp2
     go_ret
     exact ⟨rfl,Z5.out⟩
 ·have H4:=hid h4
  clear h4 K KE K3 H2 KQ
  go_wp2_with fail
  refine (K2.out bm w4 H4.out).mono ?_
  rintro e w5 ⟨g,rfl,hc,z5⟩
  have Z5:=hid z5
  have HC:=hid hc
  clear z5 H4 K2 hc
  go_wp2_with fail
  go_loopw [10] (λv10 wr=>wr=w5/\ ∃i:Nat,i<=3/\v10= .int .i64 i) (λv10 _=>3- (intOf v10).toNat)
  case atStart=>exact ⟨rfl,0,Nat.zero_le _,rfl⟩
  case round=>
   obtain ⟨rfl,i,hi,rfl⟩:=hrel
   by_cases hil:i<3
   ·have hil':(i:Int)<3:=by omega
    have hi0:(0:Int)<=(i:Int):=yue
    have hc:=HC.out i hil
    go_wp2
    go_roundw
    case rel=>exact ⟨trivial,i+1,by omega,by go_num⟩
    case measure=>simp [intOf];omega
   ·obtain rfl:i=3:=by omega
    go_wp2
    go_ret
    exact ⟨rfl,Z5.out⟩
end
structure Ent where
 t:Nat
 rd:Nat->Option Int
 wr:Nat->Option Int
 s:Nat
def Ent.com(e:Ent):Prop:=e.s=1\/e.s=3
instance (e:Ent):Decidable e.com:=inferInstanceAs (Decidable (_\/_))
def sig(E:List Ent):Nat->Nat->Int
 |0,_=>0
 |n+1,a=>match E[n]? with
  |some e=>if e.com then (e.wr a).getD (sig E n a) else sig E n a
  |none=>sig E n a
def yjz(E:List Ent):Nat->Nat->Nat
 |0,_=>0
 |n+1,a=>match E[n]? with
  |some e=>if e.com/\(e.wr a).isSome=true then n+1 else yjz E n a
  |none=>yjz E n a
theorem ykl(E:List Ent)(n a:Nat):sig E (n+1) a=match E[n]? with
  |some e=>if e.com then (e.wr a).getD (sig E n a) else sig E n a
  |none=>sig E n a:=rfl
theorem yjw(E:List Ent)(n a:Nat):yjz E (n+1) a=match E[n]? with
  |some e=>if e.com/\(e.wr a).isSome=true then n+1 else yjz E n a
  |none=>yjz E n a:=rfl
section
variable{E E':List Ent}
theorem ykg(E:List Ent)(a:Nat): ∀n,yjz E n a<=n
 |0=>Nat.le_refl _
 |n+1=>by
  have:=ykg E a n
  rw [yjw]
  split
  ·split
   ·exact Nat.le_refl _
   ·exact Nat.le_succ_of_le this
  ·exact Nat.le_succ_of_le this
theorem yj5(a:Nat): ∀(k n:Nat),n<=k->yjz E k a<=n->sig E k a=sig E n a/\yjz E k a=yjz E n a
 |0,n,h,_=>by
  obtain rfl:n=0:=yue
  exact ⟨rfl,rfl⟩
 |k+1,n,h,hl=>by
  by_cases e:n=k+1
  ·subst e;exact ⟨rfl,rfl⟩
  ·have ih:=yj5 a k n yue
   rw [yjw] at hl
   rw [ykl,yjw]
   cases he:E[k]? with
   |none=>
    rw [he] at hl
    exact ih hl
   |some y=>
    rw [he] at hl
    dsimp only at hl⊢
    by_cases hc:y.com
    ·by_cases hw:(y.wr a).isSome=true
     ·rw [if_pos ⟨hc,hw⟩] at hl;omega
     ·rw [if_neg (λq=>hw q.2)] at hl
      rw [if_pos hc,if_neg (λq=>hw q.2)]
      have:y.wr a=none:=by simpa using hw
      rw [this]
      exact ih hl
    ·rw [if_neg (λq=>hc q.1)] at hl
     rw [if_neg hc,if_neg (λq=>hc q.1)]
     exact ih hl
theorem ylp(a:Nat): ∀n,(∀j,j<n->E'[j]?=E[j]?)->sig E' n a=sig E n a/\yjz E' n a=yjz E n a
 |0,_=>⟨rfl,rfl⟩
 |n+1,h=>by
  obtain ⟨h1,h2⟩:=ylp a n λj hj=>h j yue
  rw [ykl,ykl,yjw,yjw,h n yue,h1,h2]
  exact ⟨rfl,rfl⟩
end
section
variable{E E':List Ent}
def NoW(E:List Ent)(n a:Nat):Prop:=∀(j:Nat) (e:Ent),j<n->E[j]?=some e->e.s=0->e.wr a=none
def RdOk(E:List Ent)(n a:Nat)(d:Int):Prop:=sig E n a=d/\NoW E n a
structure Hist(t:Nat)(E E':List Ent):Prop where
 len:E.length<=E'.length
 old: ∀(j:Nat) (e:Ent),E[j]?=some e->∃s',E'[j]?=some {e with s:=s'}/\(s'=e.s\/(e.t≠t/\((e.s=0/\(s'=1\/s'=2\/s'=3))\/(e.s=3/\s'=1))))
 new: ∀(j:Nat) (e:Ent),E.length<=j->E'[j]?=some e->e.t≠t
theorem Hist.refl(t:Nat)(E:List Ent):Hist t E E:=⟨Nat.le_refl _,λ_ e h=>⟨e.s,h, .inl rfl⟩,λj e h1 h2=>by rw [List.getElem?_eq_none h1] at h2;cases h2⟩
structure Goes(E E':List Ent):Prop where
 len:E.length<=E'.length
 old: ∀(j:Nat) (e:Ent),E[j]?=some e->∃s',E'[j]?=some {e with s:=s'}/\(s'=e.s\/e.s=0\/(e.s=3/\s'=1))
theorem Hist.goes(h:Hist t E E'):Goes E E':=⟨h.len,λj e he=>by
 obtain ⟨s',h1,h2⟩:=h.old j e he
 refine ⟨s',h1,h2.imp id λq=>?_⟩
 rcases q.2 with q|q
 ·exact .inl q.1
 ·exact .inr q⟩
theorem Goes.refl(E:List Ent):Goes E E:=⟨Nat.le_refl _,λ_ e h=>⟨e.s,h, .inl rfl⟩⟩
theorem Goes.trans{E'':List Ent}(h1:Goes E E')(h2:Goes E' E''):Goes E E'':=⟨Nat.le_trans h1.len h2.len,λj e he=>by
 obtain ⟨s',q1,q2⟩:=h1.old j e he
 obtain ⟨s'',r1,r2⟩:=h2.old j _ q1
 refine ⟨s'',r1,?_⟩
 simp only at r2
 rcases q2 with q2|q2|⟨q2,q3⟩
 ·rw [<-q2];exact r2
 ·exact .inr (.inl q2)
 ·rcases r2 with r2|r2|r2
  ·exact .inr (.inr ⟨q2,by omega⟩)
  ·omega
  ·omega⟩
theorem Goes.keep(h:Goes E E')(hn:n<=E.length)(hw:NoW E n a):sig E' n a=sig E n a/\yjz E' n a=yjz E n a:=by
 -- status apart nothing turns;who was known stays as it was
 have: ∀m,m<=n->sig E' m a=sig E m a/\yjz E' m a=yjz E m a:=by
  intro m
  induction m with
  |zero=>intro _;exact ⟨rfl,rfl⟩
  |succ m ih=>
   intro hm
   obtain ⟨h1,h2⟩:=ih yue
   obtain ⟨e,he⟩: ∃e,E[m]?=some e:=⟨E[m],List.getElem?_eq_getElem yue⟩
   obtain ⟨s',q1,q2⟩:=h.old m e he
   rw [ykl,ykl,yjw,yjw,he,q1]
   dsimp only
   rw [h1,h2]
   rcases q2 with q2|q2|⟨q2,q3⟩
   ·rw [q2];exact ⟨rfl,rfl⟩
   ·rw [hw m e yue he q2]
    constructor
    ·split<;>split<;>rfl
    ·rw [if_neg (λq=>by cases q.2),if_neg (λq=>by cases q.2)]
   ·have c1:e.com:= .inr q2
    have c2:({e with s:=s'}:Ent).com:= .inl q3
    rw [if_pos c1,if_pos c2]
    refine ⟨rfl,?_⟩
    by_cases hs:(e.wr a).isSome=true
    ·rw [if_pos ⟨c2,hs⟩,if_pos ⟨c1,hs⟩]
    ·rw [if_neg (λq=>hs q.2),if_neg (λq=>hs q.2)]
 exact this n (Nat.le_refl _)
theorem Goes.noW(h:Goes E E')(hn:n<=E.length)(hw:NoW E n a):NoW E' n a:=λj e hj he hs=>by
 obtain ⟨e0,h0⟩: ∃e,E[j]?=some e:=⟨E[j],List.getElem?_eq_getElem yue⟩
 obtain ⟨s',q1,q2⟩:=h.old j e0 h0
 rw [he] at q1
 have q1:=Option.some.inj q1
 rw [q1] at hs
 have hs:s'=0:=hs
 rw [q1]
 show e0.wr a=none
 rcases q2 with q2|q2|q2
 ·exact hw j e0 hj h0 yue
 ·exact hw j e0 hj h0 q2
 ·omega
theorem RdOk.goes{d:Int}(h:RdOk E n a d)(hg:Goes E E')(hn:n<=E.length):RdOk E' n a d:=⟨(hg.keep hn h.2).1.trans h.1,hg.noW hn h.2⟩
theorem yl7(h:Goes E E'): ∀n,n<=E.length->yjz E n a<=yjz E' n a:=by
 intro n
 induction n with
 |zero=>intro _;exact Nat.le_refl _
 |succ n ih=>
  intro hn
  have ih:=ih yue
  obtain ⟨e,he⟩: ∃e,E[n]?=some e:=⟨E[n],List.getElem?_eq_getElem yue⟩
  obtain ⟨s',q1,q2⟩:=h.old n e he
  rw [yjw,yjw,he,q1]
  dsimp only
  have hc:e.com->({e with s:=s'}:Ent).com:=λq=>by
   rcases q with q|q
   ·rcases q2 with q2|q2|q2
    ·exact .inl (by show s'=1;omega)
    ·omega
    ·omega
   ·rcases q2 with q2|q2|q2
    ·exact .inr (by show s'=3;omega)
    ·omega
    ·exact .inl (by show s'=1;omega)
  by_cases h2:({e with s:=s'}:Ent).com/\(e.wr a).isSome=true
  ·rw [show (if ({e with s:=s'}:Ent).com/\(e.wr a).isSome=true then n+1 else yjz E' n a)=n+1 from if_pos h2]
   have:=ykg E a n
   split
   ·exact Nat.le_refl _
   ·exact Nat.le_succ_of_le this
  ·rw [show (if ({e with s:=s'}:Ent).com/\(e.wr a).isSome=true then n+1 else yjz E' n a)=yjz E' n a from if_neg h2,if_neg (λq=>h2 ⟨hc q.1,q.2⟩)]
   exact ih
theorem ylw(E:List Ent)(a:Nat): ∀{n n':Nat},n<=n'->yjz E n a<=yjz E n' a:=by
 intro n n' h
 induction n' with
 |zero=>
   obtain rfl:n=0:=yue
   exact Nat.le_refl _
 |succ k ih=>
  by_cases e:n=k+1
  ·subst e;exact Nat.le_refl _
  ·have ih:=ih yue
   have hle:=ykg E a n
   rw [yjw]
   split
   ·split
    ·exact Nat.le_trans hle h
    ·exact ih
   ·exact ih
theorem yk3(h:Goes E E'):yjz E E.length a<=yjz E' E'.length a:=Nat.le_trans (yl7 h _ (Nat.le_refl _)) (ylw E' a h.len)
end
structure HI(Gd:Ent->Prop)(E:List Ent):Prop where
 gd: ∀(k:Nat) (e:Ent),E[k]?=some e->Gd e
 rd: ∀(k:Nat) (e:Ent),E[k]?=some e->e.com->∀a d,e.rd a=some d->RdOk E k a d
section
variable{Gd:Ent->Prop}{E:List Ent}
theorem ylx(E:List Ent)(e:Ent):Goes E (E++[e]):=⟨by simp,λj e' h=>⟨e'.s,by rw [List.getElem?_append_left (List.getElem?_eq_some_iff.1 h).1];exact h, .inl rfl⟩⟩
theorem yly{e:Ent}(h:E[k]?=some e)(hs:e.s=0\/(e.s=3/\s'=1)):Goes E (E.set k {e with s:=s'}):=⟨by simp,λj e' h'=>by
 by_cases ej:j=k
 ·subst ej
  rw [h] at h'
  obtain rfl:=Option.some.inj h'
  exact ⟨s',List.getElem?_set_self (List.getElem?_eq_some_iff.1 h).1, .inr hs⟩
 ·exact ⟨e'.s,by rw [List.getElem?_set_ne (λq=>ej q.symm)];exact h', .inl rfl⟩⟩
theorem ykm(k:Nat)(e:Ent):(E.set k e).length=E.length:=yuf
theorem HI.app(h:HI Gd E){e:Ent}(hs:e.s=0)(hg:Gd e):HI Gd (E++[e]):=by
 have cut: ∀(k:Nat) (e':Ent),(E++[e])[k]?=some e'->(k<E.length/\E[k]?=some e')\/(k=E.length/\e'=e):=λk e' hk=>by
  by_cases hl:k<E.length
  ·rw [List.getElem?_append_left hl] at hk;exact .inl ⟨hl,hk⟩
  ·have:=(List.getElem?_eq_some_iff.1 hk).1
   simp at this
   obtain rfl:k=E.length:=yue
   exact .inr ⟨rfl,by simpa using hk.symm⟩
 refine ⟨λk e' hk=>?_,λk e' hk hc a d hd=>?_⟩
 ·rcases cut k e' hk with ⟨_,q⟩|⟨_,rfl⟩
  ·exact h.gd k e' q
  ·exact hg
 ·rcases cut k e' hk with ⟨hl,q⟩|⟨_,rfl⟩
  ·exact (h.rd k e' q hc a d hd).goes (ylx E e) yue
  ·rcases hc with hc|hc<;>omega
theorem HI.turn(h:HI Gd E){e:Ent}(hk:E[k]?=some e)(hs:(e.s=0/\s'=2)\/(e.s=3/\s'=1))(hG:Gd e->Gd {e with s:=s'}):HI Gd (E.set k {e with s:=s'}):=by
 have hg:Goes E (E.set k {e with s:=s'}):=yly hk (hs.imp (·.1) id)
 have hl:=(List.getElem?_eq_some_iff.1 hk).1
 refine ⟨λj e' hj=>?_,λj e' hj hc a d hd=>?_⟩
 ·exact ysz
 ·have hjl:j<E.length:=by have:=(List.getElem?_eq_some_iff.1 hj).1;simpa using this
  by_cases ej:j=k
  ·subst ej
   rw [List.getElem?_set_self hl] at hj
   obtain rfl:=Option.some.inj hj
   have hc':e.com:=by
    rcases hs with ⟨_,q⟩|⟨q,_⟩
    ·rcases hc with hc|hc
     ·have hc:s'=1:=hc;omega
     ·have hc:s'=3:=hc;omega
    ·exact .inr q
   exact (h.rd j e hk hc' a d hd).goes hg yue
  ·exact yt1
theorem HI.put(h:HI Gd E){e:Ent}(hk:E[k]?=some e)(h0:e.s=0)(hr: ∀a d,e.rd a=some d->RdOk E k a d)(hG:Gd e->Gd {e with s:=3}):HI Gd (E.set k {e with s:=3}):=by
 have hg:Goes E (E.set k {e with s:=3}):=yly hk (.inl h0)
 have hl:=(List.getElem?_eq_some_iff.1 hk).1
 refine ⟨λj e' hj=>?_,λj e' hj hc a d hd=>?_⟩
 ·exact ysz
 ·have hjl:j<E.length:=by have:=(List.getElem?_eq_some_iff.1 hj).1;simpa using this
  by_cases ej:j=k
  ·subst ej
   rw [List.getElem?_set_self hl] at hj
   obtain rfl:=Option.some.inj hj
   exact (hr a d hd).goes hg yue
  ·exact yt1
theorem ymj{e:Ent}(hk:E[k]?=some e)(h0:e.s=0)(a:Nat): ∀n,k<n->n<=E.length->(e.wr a≠none->yjz E n a<=k) ->
  sig (E.set k {e with s:=3}) n a=(e.wr a).getD (sig E n a)/\yjz (E.set k {e with s:=3}) n a=if (e.wr a).isSome=true then k+1 else yjz E n a:=by
 have hl:=(List.getElem?_eq_some_iff.1 hk).1
 have hnc: ¬e.com:=λq=>by rcases q with q|q<;>omega
 intro n
 induction n with
 |zero=>intro h;omega
 |succ n ih=>
  intro hn hle hw
  by_cases en:n=k
  ·subst en
   obtain ⟨q1,q2⟩:=ylp (E':=E.set n {e with s:=3}) (E:=E) a n λj hj=>List.getElem?_set_ne yue
   rw [ykl,ykl,yjw,yjw,List.getElem?_set_self hl,hk]
   dsimp only
   have c3:({e with s:=3}:Ent).com:= .inr rfl
   rw [if_pos c3,if_neg hnc,q1,q2]
   refine ⟨rfl,?_⟩
   by_cases hs:(e.wr a).isSome=true
   ·rw [if_pos ⟨c3,hs⟩,if_pos hs]
   ·rw [if_neg (λq=>hs q.2),if_neg hs,if_neg (λq=>hnc q.1)]
  ·have hup:=ylw E a (Nat.le_succ n)
   obtain ⟨q1,q2⟩:=ih yue yue λq=>Nat.le_trans hup (hw q)
   rw [ykl,ykl,yjw,yjw,List.getElem?_set_ne (λq=>en q.symm)]
   cases he:E[n]? with
   |none=>exact ⟨q1,q2⟩
   |some y=>
    dsimp only
    by_cases hs:(e.wr a).isSome=true
    ·have hne:e.wr a≠none:=λq=>by rw [q] at hs;cases hs
     have hw':=hw hne
     rw [yjw,he] at hw'
     dsimp only at hw'
     -- y puts nothing there
     have hy: ¬(y.com/\(y.wr a).isSome=true):=λq=>by rw [if_pos q] at hw';omega
     rw [if_neg hy,if_neg hy,q2,if_pos hs,q1]
     refine ⟨?_,rfl⟩
     obtain ⟨v,hv⟩:=Option.isSome_iff_exists.1 hs
     by_cases hc:y.com
     ·have:y.wr a=none:=by
       cases hz:y.wr a with
       |none=>rfl
       |some z=>exact absurd ⟨hc,by rw [hz];rfl⟩ hy
      rw [if_pos hc,if_pos hc,this,hv]
      rfl
     ·rw [if_neg hc,if_neg hc]
    ·have hz:e.wr a=none:=by simpa using hs
     rw [hz] at q1 q2⊢
     have q1:sig (E.set k {e with s:=3}) n a=sig E n a:=q1
     have q2:yjz (E.set k {e with s:=3}) n a=yjz E n a:=q2
     rw [q1,q2]
     exact ⟨rfl,rfl⟩
end
theorem ykh: ∀(q1 q2:List (Int×Int)) (m:Nat->Int),z6x m (q1++q2)=z6x (z6x m q1) q2
 |[],_,_=>rfl
 |_::r,q2,_=>ykh r q2 _
theorem yl8(m:Nat->Int)(A:Int)(hA:0<=A): ∀(q:List (Int×Int)),(∀p∈q,0<=p.1)->z67 q.reverse A (m A.toNat)=z6x m q A.toNat:=by
 intro q
 generalize hn:q.length=n
 induction n generalizing q m with
 |zero=>
  intro _
  obtain rfl:q=[]:=List.length_eq_zero_iff.1 hn
  rfl
 |succ n ih=>
  intro h0
  obtain ⟨q',p,rfl⟩: ∃q' p,q=q'++[p]:=by
   rcases List.eq_nil_or_concat q with rfl|⟨q',p,rfl⟩
   ·cases hn
   ·exact ⟨q',p,by simp⟩
  have hl:q'.length=n:=by simpa using hn
  rw [ykh,List.reverse_append]
  show z67 (p::q'.reverse) A (m A.toNat)=z60 (z6x m q') p.1.toNat p.2 A.toNat
  have hp:=h0 p yuf
  by_cases e:p.1=A
  ·subst e
   rw [z9e]
   simp [z67]
  ·rw [z7j yue,<-ih m q' hl λp' hp'=>h0 p' (by simp [hp'])]
   simp [z67,e]
theorem ymk(c:List Ic)(T:Th)(m:Nat->Int)(hq: ∀p∈T.q,0<=p.1)(hst:T.st=0):
  (sf1 c ⟨T.r,T.pl,[],T.out,0⟩ (z6x m T.q)).1=⟨(z6w T m c).1.r,(z6w T m c).1.pl,[],(z6w T m c).1.out,(z6w T m c).1.st⟩/\
  (sf1 c ⟨T.r,T.pl,[],T.out,0⟩ (z6x m T.q)).2=z6x (z6w T m c).2 (z6w T m c).1.q:=by
 obtain ⟨r,pl,q,out,st⟩:=T
 have hst:st=0:=hst
 subst hst
 unfold sf1 z6w
 simp only [if_true]
 cases hc:c[pl.toNat]? with
 |none=>exact ⟨rfl,rfl⟩
 |some i=>
  dsimp only
  have hat: ∀z:Int,0<=z->z67 q.reverse z (m z.toNat)=z6x m q z.toNat:=λz hz=>yl8 m z hz q hq
  unfold doI
  by_cases k2:i.k=2
  ·simp only [k2,if_true]
   have ea:z6z i.a i.n ⟨r,pl+1,[],out,0⟩=z6z i.a i.n ⟨r,pl+1,q,out,0⟩:=rfl
   rw [ea]
   by_cases hb:0<=z6z i.a i.n ⟨r,pl+1,q,out,0⟩/\z6z i.a i.n ⟨r,pl+1,q,out,0⟩<256
   ·rw [if_pos hb,if_pos hb]
    rw [hat _ hb.1]
    exact ⟨rfl,rfl⟩
   ·exact ytl
  simp only [k2,if_false]
  by_cases k3:i.k=3
  ·simp only [k3,if_true]
   have ea:z6z i.a i.n ⟨r,pl+1,[],out,0⟩=z6z i.a i.n ⟨r,pl+1,q,out,0⟩:=rfl
   have eb:i.b.of ⟨r,pl+1,[],out,0⟩=i.b.of ⟨r,pl+1,q,out,0⟩:=rfl
   rw [ea,eb]
   by_cases hb:0<=z6z i.a i.n ⟨r,pl+1,q,out,0⟩/\z6z i.a i.n ⟨r,pl+1,q,out,0⟩<256
   ·rw [if_pos hb,if_pos hb]
    generalize z6z i.a i.n ⟨r,pl+1,q,out,0⟩=A
    generalize i.b.of ⟨r,pl+1,q,out,0⟩=x
    refine ⟨rfl,?_⟩
    show z60 (z6x m q) A.toNat x=z6x (z62 q m A x).2 (z62 q m A x).1
    unfold z62
    split
    ·rw [ykh];rfl
    ·cases q with
     |nil=>rfl
     |cons p q=>
      show _=z6x (z60 m p.1.toNat p.2) (q++[(A,x)])
      rw [ykh]
      rfl
   ·exact ytl
  simp only [k3,if_false]
  by_cases k4:i.k=4
  ·simp only [k4,if_true]
   have ea:z6z i.a i.n ⟨r,pl+1,[],out,0⟩=z6z i.a i.n ⟨r,pl+1,q,out,0⟩:=rfl
   have eb:i.b.of ⟨r,pl+1,[],out,0⟩=i.b.of ⟨r,pl+1,q,out,0⟩:=rfl
   have ec:i.c.of ⟨r,pl+1,[],out,0⟩=i.c.of ⟨r,pl+1,q,out,0⟩:=rfl
   rw [ea,eb,ec]
   by_cases hb:0<=z6z i.a i.n ⟨r,pl+1,q,out,0⟩/\z6z i.a i.n ⟨r,pl+1,q,out,0⟩<256
   ·rw [if_pos hb,if_pos hb]
    have e0:z6x (z6x m q) []=z6x m q:=rfl
    by_cases he:z6x m q (z6z i.a i.n ⟨r,pl+1,q,out,0⟩).toNat=i.b.of ⟨r,pl+1,q,out,0⟩
    ·simp only [e0,if_pos he]
     exact ⟨rfl,rfl⟩
    ·simp only [e0,if_neg he]
     exact ⟨rfl,rfl⟩
   ·exact ytl
  simp only [k4,if_false]
  by_cases k5:i.k=5
  ·simp only [k5,if_true]
   have ea:z6z i.a i.n ⟨r,pl+1,[],out,0⟩=z6z i.a i.n ⟨r,pl+1,q,out,0⟩:=rfl
   rw [ea]
   by_cases hb:0<=z6z i.a i.n ⟨r,pl+1,q,out,0⟩/\z6z i.a i.n ⟨r,pl+1,q,out,0⟩<256
   ·rw [if_pos hb,if_pos hb]
    exact ⟨rfl,rfl⟩
   ·exact ytl
  simp only [k5,if_false]
  by_cases k6:i.k=6
  ·simp only [k6,if_true]
   exact ⟨rfl,rfl⟩
  simp only [k6,if_false]
  by_cases k7:i.k=7
  ·simp only [k7,if_true]
   exact ⟨rfl,rfl⟩
  simp only [k7,if_false]
  by_cases k8:i.k=8
  ·simp only [k8,if_true]
   exact ⟨rfl,rfl⟩
  simp only [k8,if_false]
  by_cases k0:i.k=0
  ·simp only [k0,if_true]
   exact ⟨rfl,rfl⟩
  simp only [k0,if_false]
  by_cases k1:i.k=1
  ·simp only [k1,if_true]
   have ea:i.a.of ⟨r,pl+1,[],out,0⟩=i.a.of ⟨r,pl+1,q,out,0⟩:=rfl
   have eb:i.b.of ⟨r,pl+1,[],out,0⟩=i.b.of ⟨r,pl+1,q,out,0⟩:=rfl
   rw [ea,eb]
   cases opV i.op (i.a.of ⟨r,pl+1,q,out,0⟩) (i.b.of ⟨r,pl+1,q,out,0⟩)<;>exact ⟨rfl,rfl⟩
  simp only [k1,if_false]
  by_cases k9:i.k=9
  ·simp only [k9,if_true]
   have ea:i.a.of ⟨r,pl+1,[],out,0⟩=i.a.of ⟨r,pl+1,q,out,0⟩:=rfl
   rw [ea]
   by_cases h0:i.a.of ⟨r,pl+1,q,out,0⟩=0
   ·rw [if_pos h0,if_pos h0];exact ⟨rfl,rfl⟩
   ·rw [if_neg h0,if_neg h0];exact ⟨rfl,rfl⟩
  simp only [k9,if_false]
  exact ⟨rfl,rfl⟩
def yl9(i:Ic)(r v:Nat->Int):Option (Nat×Int×Bool):=
 let A:=wrap64 (vof i.a r+i.n)
 if i.k=3 then (if 0<=A/\A<256 then some (A.toNat,vof i.b r,false) else none)
 else if i.k=4 then (if (0<=A/\A<256)/\v A.toNat=vof i.b r then some (A.toNat,vof i.c r,true) else none)
 else if i.k=5 then (if 0<=A/\A<256 then some (A.toNat,wrap64 (v A.toNat+vof i.b r),true) else none)
 else none
def ynh(q:List (Int×Int))(m:Nat->Int)(w:Option (Nat×Int×Bool))(q':List (Int×Int))(m':Nat->Int):Prop:=match w with
 |none=>(q'=q/\m'=m)\/(q'=[]/\m'=z6x m q)
 |some (A,x,false)=>(q'=q++[((A:Int),x)]/\m'=m)\/(∃p r,q=p::r/\q'=r++[((A:Int),x)]/\m'=z60 m p.1.toNat p.2)
 |some (A,x,true)=>q'=[]/\m'=z60 (z6x m q) A x
theorem yml(c:List Ic)(T:Th)(m:Nat->Int)(hst:T.st=0):
  (c[T.pl.toNat]?=none->(z6w T m c).1.q=T.q/\(z6w T m c).2=m)/\
  ∀i,c[T.pl.toNat]?=some i->ynh T.q m (yl9 i T.r (z6x m T.q)) (z6w T m c).1.q (z6w T m c).2:=by
 obtain ⟨r,pl,q,out,st⟩:=T
 have hst:st=0:=hst
 subst hst
 refine ⟨λh=>?_,λi h=>?_⟩
 ·unfold z6w
  simp only [if_true]
  have h:c[pl.toNat]?=none:=h
  rw [h]
  exact ⟨rfl,rfl⟩
 ·have h:c[pl.toNat]?=some i:=h
  have e:z6w ⟨r,pl,q,out,0⟩ m c=doI i ⟨r,pl+1,q,out,0⟩ m:=by
   unfold z6w
   simp only [if_true]
   rw [h]
  rw [e]
  have ea:z6z i.a i.n ⟨r,pl+1,q,out,0⟩=wrap64 (vof i.a r+i.n):=rfl
  have eb:i.b.of ⟨r,pl+1,q,out,0⟩=vof i.b r:=rfl
  have ec:i.c.of ⟨r,pl+1,q,out,0⟩=vof i.c r:=rfl
  unfold yl9 doI
  dsimp only
  rw [ea,eb,ec]
  generalize wrap64 (vof i.a r+i.n)=A
  by_cases k2:i.k=2
  ·rw [if_pos k2,if_neg yue,if_neg yue,if_neg yue]
   split<;>exact .inl ⟨rfl,rfl⟩
  rw [if_neg k2]
  by_cases k3:i.k=3
  ·rw [if_pos k3,if_pos k3]
   by_cases hb:0<=A/\A<256
   ·rw [if_pos hb,if_pos hb]
    have eA:((A.toNat:Nat):Int)=A:=yue
    unfold ynh z62
    dsimp only
    rw [eA]
    split
    ·exact .inl ⟨rfl,rfl⟩
    ·cases q with
     |nil=>exact .inl ⟨rfl,rfl⟩
     |cons p q=>exact .inr ⟨p,q,rfl,rfl,rfl⟩
   ·rw [if_neg hb,if_neg hb]
    exact .inl ⟨rfl,rfl⟩
  rw [if_neg k3,if_neg k3]
  by_cases k4:i.k=4
  ·rw [if_pos k4,if_pos k4]
   by_cases hb:0<=A/\A<256
   ·rw [if_pos hb]
    by_cases he:z6x m q A.toNat=vof i.b r
    ·rw [if_pos he,if_pos ⟨hb,he⟩]
     exact ⟨rfl,rfl⟩
    ·rw [if_neg he,if_neg (λq=>he q.2)]
     exact .inr ⟨rfl,rfl⟩
   ·rw [if_neg hb,if_neg (λq=>hb q.1)]
    exact .inr ⟨rfl,rfl⟩
  rw [if_neg k4,if_neg k4]
  by_cases k5:i.k=5
  ·rw [if_pos k5,if_pos k5]
   by_cases hb:0<=A/\A<256
   ·rw [if_pos hb,if_pos hb]
    exact ⟨rfl,rfl⟩
   ·rw [if_neg hb,if_neg hb]
    exact .inr ⟨rfl,rfl⟩
  rw [if_neg k5,if_neg k5]
  split
  ·exact .inr ⟨rfl,rfl⟩
  ·split
   ·exact .inl ⟨rfl,rfl⟩
   ·split
    ·exact .inl ⟨rfl,rfl⟩
    ·split
     ·exact .inl ⟨rfl,rfl⟩
     ·split
      ·split<;>exact .inl ⟨rfl,rfl⟩
      ·split
       ·split<;>exact .inl ⟨rfl,rfl⟩
       ·exact .inl ⟨rfl,rfl⟩
def yj7(t:Nat):Int:=9223372036854775807- (t:Int)
def yjx(t A:Nat):Prop:=13+t*39<=A/\A<13+t*39+39
abbrev top(E:List Ent)(a:Nat):Int:=sig E E.length a
abbrev lw(E:List Ent)(a:Nat):Nat:=yjz E E.length a
def yj2(h:Nat->Bool)(a:Nat):Nat->Bool:=λj=>h j&&!decide (j=a)
def ykp(h:Nat->Bool)(a:Nat):Nat->Bool:=λj=>h j||decide (j=a)
theorem yj8(e:j≠a):yj2 h a j=h j:=by simp [yj2,e]
theorem ylg(h:Nat->Bool)(a:Nat):yj2 h a a=false:=by simp [yj2]
theorem yj1(e:yj2 h a j=true):h j=true/\j≠a:=by simpa [yj2] using e
theorem ykt(e:j≠a):ykp h a j=h j:=by simp [ykp,e]
theorem ylz(h:Nat->Bool)(a:Nat):ykp h a a=true:=by simp [ykp]
def QD(t:Nat)(E:List Ent):List (Int×Int)->(Nat->Bool)->(Nat->Int)->(Nat->Bool)->Prop
 |[],rh,_,vh=>∀a,rh a=vh a
 |p::q,rh,m,vh=>0<=p.1/\((yjx t p.1.toNat/\QD t E q rh (z60 m p.1.toNat p.2) vh)\/(∃a,a<6/\p.1.toNat=a/\rh a=true/\p.2=top E a/\QD t E q rh (z60 m p.1.toNat p.2) vh)\/
   (∃a,a<6/\p.1.toNat=6+a/\rh a=true/\p.2=(lw E a:Int)/\m a=top E a/\QD t E q (yj2 rh a) (z60 m p.1.toNat p.2) vh))
section
variable{t:Nat}{E E':List Ent}
theorem QD.nn: ∀{q:List (Int×Int)} {rh vh:Nat->Bool} {m:Nat->Int},QD t E q rh m vh->∀p∈q,0<=p.1
 |[],_,_,_,_,_,h=>by simp at h
 |p::q,rh,vh,m,h,p',hp=>by
  rcases List.mem_cons.1 hp with rfl|hp
  ·exact h.1
  ·rcases h.2 with ⟨_,h⟩|⟨_,_,_,_,_,h⟩|⟨_,_,_,_,_,_,h⟩<;>exact QD.nn h p' hp
theorem QD.ext: ∀{q:List (Int×Int)} {rh vh:Nat->Bool} {m m':Nat->Int},QD t E q rh m vh->(∀a,a<6->rh a=true->top E' a=top E a/\lw E' a=lw E a/\m' a=m a)->QD t E' q rh m' vh
 |[],_,_,_,_,h,_=>h
 |p::q,rh,vh,m,m',h,he=>by
  have put: ∀A x,∀a,a<6->rh a=true->top E' a=top E a/\lw E' a=lw E a/\z60 m' A x a=z60 m A x a:=λA x a ha hr=>by
   obtain ⟨h1,h2,h3⟩:=he a ha hr
   refine ⟨h1,h2,?_⟩
   unfold z60
   split
   ·rfl
   ·exact h3
  refine ⟨h.1,?_⟩
  rcases h.2 with ⟨h1,h2⟩|⟨a,ha,h1,h2,h3,h4⟩|⟨a,ha,h1,h2,h3,h4,h5⟩
  ·exact .inl ⟨h1,h2.ext (put _ _)⟩
  ·exact .inr (.inl ⟨a,ha,h1,h2,h3.trans (he a ha h2).1.symm,h4.ext (put _ _)⟩)
  ·exact .inr (.inr ⟨a,ha,h1,h2,by rw [(he a ha h2).2.1];exact h3,by rw [(he a ha h2).2.2,(he a ha h2).1];exact h4,h5.ext λb hb hr=>put _ _ b hb (yj1 hr).1⟩)
theorem QD.sub: ∀{q:List (Int×Int)} {rh vh:Nat->Bool} {m:Nat->Int},QD t E q rh m vh->∀a,vh a=true->rh a=true
 |[],_,_,_,h,a,ha=>(h a).trans ha
 |p::q,rh,vh,m,h,a,ha=>by
  rcases h.2 with ⟨_,h⟩|⟨_,_,_,_,_,h⟩|⟨_,_,_,_,_,_,h⟩
  ·exact h.sub a ha
  ·exact h.sub a ha
  ·exact (yj1 (h.sub a ha)).1
theorem QD.far: ∀{q:List (Int×Int)} {rh vh:Nat->Bool} {m:Nat->Int},QD t E q rh m vh->∀A,¬yjx t A->(∀a,a<6->(A=a\/A=6+a)->rh a=false)->z6x m q A=m A
 |[],_,_,_,_,_,_,_=>rfl
 |p::q,rh,vh,m,h,A,ho,hA=>by
  show z6x (z60 m p.1.toNat p.2) q A=m A
  have ne:p.1.toNat≠A->z60 m p.1.toNat p.2 A=m A:=λq=>z7j q.symm
  rcases h.2 with ⟨h1,h2⟩|⟨a,ha,h1,h2,h3,h4⟩|⟨a,ha,h1,h2,h3,h4,h5⟩
  ·rw [h2.far A ho hA,ne (λq=>ho (q▸h1))]
  ·rw [h4.far A ho hA,ne (λq=>by have:=hA a ha (.inl (q▸h1));rw [h2] at this;cases this)]
  ·rw [h5.far A ho (λb hb q=>by
    have:=hA b hb q
    by_cases e:b=a
    ·subst e;exact ylg _ _
    ·rw [yj8 e];exact this),ne (λq=>by have:=hA a ha (.inr (q▸h1));rw [h2] at this;cases this)]
theorem yki(ha:a<6): ¬yjx t a/\ ¬yjx t (6+a)/\ ¬yjx t 12:=⟨λq=>by have:=q.1;omega,λq=>by have:=q.1;omega,λq=>by have:=q.1;omega⟩
theorem QD.ver: ∀{q:List (Int×Int)} {rh vh:Nat->Bool} {m:Nat->Int},QD t E q rh m vh->∀a,a<6->vh a=true->z6x m q (6+a)=m (6+a)
 |[],_,_,_,_,_,_,_=>rfl
 |p::q,rh,vh,m,h,a,ha,hv=>by
  show z6x (z60 m p.1.toNat p.2) q (6+a)=m (6+a)
  have no:=(yki (t:=t) ha).2.1
  rcases h.2 with ⟨h1,h2⟩|⟨b,hb,h1,h2,h3,h4⟩|⟨b,hb,h1,h2,h3,h4,h5⟩
  ·rw [h2.ver a ha hv,z7j (λq:6+a=p.1.toNat=>no (by rw [q];exact h1))]
  ·rw [h4.ver a ha hv,z7j yue]
  ·have:=(yj1 (h5.sub a hv)).2
   rw [h5.ver a ha hv,z7j yue]
theorem QD.gone: ∀{q:List (Int×Int)} {rh vh:Nat->Bool} {m:Nat->Int},QD t E q rh m vh->∀a,a<6->rh a=true->vh a=false->z6x m q (6+a)=(lw E a:Int)/\z6x m q a=top E a
 |[],_,_,_,h,a,_,h1,h2=>by rw [h a,h2] at h1;cases h1
 |p::q,rh,vh,m,h,a,ha,hr,hv=>by
  show z6x (z60 m p.1.toNat p.2) q (6+a)=_/\z6x (z60 m p.1.toNat p.2) q a=_
  rcases h.2 with ⟨h1,h2⟩|⟨b,hb,h1,h2,h3,h4⟩|⟨b,hb,h1,h2,h3,h4,h5⟩
  ·exact h2.gone a ha hr hv
  ·exact h4.gone a ha hr hv
  ·by_cases e:a=b
   ·subst e
    have f: ∀A,(A=a\/A=6+a)->z6x (z60 m p.1.toNat p.2) q A=z60 m p.1.toNat p.2 A:=λA hA=>h5.far A (by rcases hA with rfl|rfl;exact (yki ha).1;exact (yki ha).2.1) (λb hb q=>by
     have:b=a:=yue
     subst this
     exact ylg _ _)
    rw [f _ (.inr rfl),f _ (.inl rfl),h1,z9e,z7j yue]
    exact ⟨h3,h4⟩
   ·exact h5.gone a ha (by rw [yj8 e];exact hr) hv
theorem QD.app: ∀{q:List (Int×Int)} {rh vh:Nat->Bool} {m:Nat->Int} {p:Int×Int} {vh':Nat->Bool},QD t E q rh m vh->(∀rh',(∀a,rh' a=vh a)->QD t E [p] rh' (z6x m q) vh')->QD t E (q++[p]) rh m vh'
 |[],rh,_,_,_,_,h,hp=>hp rh h
 |p0::q,rh,vh,m,p,vh',h,hp=>by
  refine ⟨h.1,?_⟩
  rcases h.2 with ⟨h1,h2⟩|⟨a,ha,h1,h2,h3,h4⟩|⟨a,ha,h1,h2,h3,h4,h5⟩
  ·exact .inl ⟨h1,h2.app hp⟩
  ·exact .inr (.inl ⟨a,ha,h1,h2,h3,h4.app hp⟩)
  ·exact .inr (.inr ⟨a,ha,h1,h2,h3,h4,h5.app hp⟩)
theorem QD.appOwn(h:QD t E q rh m vh)(x:Int)(hA:yjx t A):QD t E (q++[((A:Int),x)]) rh m vh:=
 h.app λrh' e=>⟨by show (0:Int)<=(A:Int);omega, .inl ⟨by show yjx t ((A:Int)).toNat;rw [Int.toNat_natCast];exact hA,e⟩⟩
theorem QD.appDat(h:QD t E q rh m vh)(ha:a<6)(hv:vh a=true){x:Int}(hx:x=top E a):QD t E (q++[((a:Int),x)]) rh m vh:=
 h.app λrh' e=>⟨by show (0:Int)<=(a:Int);omega, .inr (.inl ⟨a,ha,Int.toNat_natCast a,(e a).trans hv,hx,e⟩)⟩
theorem QD.appRel(h:QD t E q rh m vh)(ha:a<6)(hv:vh a=true){x:Int}(hx:x=(lw E a:Int))(hd:z6x m q a=top E a):QD t E (q++[(((6+a:Nat):Int),x)]) rh m (yj2 vh a):=
 h.app λrh' e=>⟨by show (0:Int)<=((6+a:Nat):Int);omega, .inr (.inr ⟨a,ha,Int.toNat_natCast _,(e a).trans hv,hx,hd,λb=>by unfold yj2;rw [e b]⟩)⟩
end
structure GI(Gd:Ent->Prop)(E:List Ent)(q:Nat->List (Int×Int))(m:Nat->Int)(rh vh:Nat->Nat->Bool):Prop where
 hi:HI Gd E
 clk:m 12=(E.length:Int)
 qd: ∀t,t<3->QD t E (q t) (rh t) m (vh t)
 lock: ∀t a,t<3->a<6->rh t a=true->m (6+a)=yj7 t
 free: ∀a,a<6->(∀t,t<3->rh t a=false)->m (6+a)=(lw E a:Int)/\m a=top E a
 liv: ∀(k:Nat) (e:Ent),E[k]?=some e->e.s=0->e.t<3/\ ∀a,e.wr a≠none->a<6/\vh e.t a=true
structure VI(Gd:Ent->Prop)(t:Nat)(E:List Ent)(vh:Nat->Bool)(v:Nat->Int):Prop where
 hi:HI Gd E
 clk:v 12=(E.length:Int)
 held: ∀a,a<6->vh a=true->v (6+a)=yj7 t/\ ∀(k:Nat) (e:Ent),E[k]?=some e->e.s=0->e.t≠t->e.wr a=none
 oth: ∀a,a<6->vh a=false->(v (6+a)=(lw E a:Int)/\v a=top E a/\NoW E E.length a)\/ ∃u,u<3/\u≠t/\v (6+a)=yj7 u
structure EnvR(t:Nat)(vh:Nat->Bool)(E:List Ent)(v:Nat->Int)(E':List Ent)(v':Nat->Int):Prop where
 hist:Hist t E E'
 own: ∀A,yjx t A->v' A=v A
 held: ∀a,a<6->vh a=true->v' a=v a/\v' (6+a)=v (6+a)/\top E' a=top E a/\lw E' a=lw E a
 dat: ∀a,a<6->vh a=false->lw E' a=lw E a->v a=top E a->v' a=top E' a
theorem EnvR.refl(t:Nat)(vh:Nat->Bool)(E:List Ent)(v:Nat->Int):EnvR t vh E v E v:=⟨Hist.refl t E,λ_ _=>rfl,λ_ _ _=>⟨rfl,rfl,rfl,rfl⟩,λ_ _ _ _ h=>h⟩
theorem Hist.trans{E E' E'':List Ent}(h1:Hist t E E')(h2:Hist t E' E''):Hist t E E'':=⟨Nat.le_trans h1.len h2.len,λj e he=>by
 obtain ⟨s',q1,q2⟩:=h1.old j e he
 obtain ⟨s'',r1,r2⟩:=h2.old j _ q1
 refine ⟨s'',r1,?_⟩
 simp only at r2
 rcases q2 with q2|⟨q2,q3⟩
 ·rw [<-q2];exact r2
 ·rcases r2 with r2|⟨_,r3⟩
  ·exact .inr ⟨q2,by omega⟩
  ·exact .inr ⟨q2,by omega⟩,λj e hj he=>by
 by_cases hl:j<E'.length
 ·obtain ⟨e',he'⟩: ∃e',E'[j]?=some e':=⟨E'[j],List.getElem?_eq_getElem hl⟩
  obtain ⟨s',q1,_⟩:=h2.old j e' he'
  rw [he] at q1
  rw [Option.some.inj q1]
  exact h1.new j e' hj he'
 ·exact h2.new j e yue he⟩
theorem EnvR.trans{E E' E'':List Ent}{v'':Nat->Int}(h1:EnvR t vh E v E' v')(h2:EnvR t vh E' v' E'' v''):EnvR t vh E v E'' v'':=by
 refine ⟨h1.hist.trans h2.hist,λA hA=>(h2.own A hA).trans (h1.own A hA),λa ha hv=>?_,λa ha hv hl hd=>?_⟩
 ·obtain ⟨p1,p2,p3,p4⟩:=h1.held a ha hv
  obtain ⟨q1,q2,q3,q4⟩:=h2.held a ha hv
  exact ⟨q1.trans p1,q2.trans p2,q3.trans p3,q4.trans p4⟩
 ·have m1:lw E a<=lw E' a:=yk3 h1.hist.goes
  have m2:lw E' a<=lw E'' a:=yk3 h2.hist.goes
  exact h2.dat a ha hv yue (h1.dat a ha hv yue hd)
theorem yj0: ∀(q:List (Int×Int)) {m m':Nat->Int} {B:Nat},m' B=m B->z6x m' q B=z6x m q B
 |[],_,_,_,h=>h
 |p::q,m,m',B,h=>yj0 q (by
  unfold z60
  split
  ·rfl
  ·exact h)
section
variable{Gd:Ent->Prop}{E:List Ent}{q:Nat->List (Int×Int)}{m:Nat->Int}{rh vh:Nat->Nat->Bool}
theorem ymm(h:yj7 t=yj7 u):t=u:=by unfold yj7 at h;omega
theorem GI.excl(h:GI Gd E q m rh vh)(ht:t<3)(hu:u<3)(ha:a<6)(h1:rh t a=true)(h2:rh u a=true):t=u:=
 ymm ((h.lock t a ht ha h1).symm.trans (h.lock u a hu ha h2))
theorem GI.sole(h:GI Gd E q m rh vh)(ht:t<3)(hu:u<3)(ha:a<6)(h1:rh t a=true)(hne:u≠t):rh u a=false:=by
 cases e:rh u a with
 |false=>rfl
 |true=>exact absurd (h.excl hu ht ha e h1) hne
theorem GI.vi(h:GI Gd E q m rh vh)(ht:t<3):VI Gd t E (vh t) (z6x m (q t)):=by
 have hq:=h.qd t ht
 have noW: ∀a,a<6->(∀u,u<3->vh u a=false)->NoW E E.length a:=λa ha hv j e _ he hs=>by
  obtain ⟨h1,h2⟩:=h.liv j e he hs
  cases hw:e.wr a with
  |none=>rfl
  |some z=>
   have:=(h2 a (by rw [hw];simp)).2
   rw [hv e.t h1] at this
   cases this
 refine ⟨h.hi,?_,λa ha hv=>⟨?_,λk e he hs hne=>?_⟩,λa ha hv=>?_⟩
 ·rw [hq.far 12 (yki (show 0<6 by decide)).2.2 (λa ha q=>by omega)]
  exact h.clk
 ·rw [hq.ver a ha hv]
  exact h.lock t a ht ha (hq.sub a hv)
 ·obtain ⟨h1,h2⟩:=h.liv k e he hs
  cases hw:e.wr a with
  |none=>rfl
  |some z=>
   have hv':=(h2 a (by rw [hw];simp)).2
   exact absurd (h.excl h1 ht ha ((h.qd e.t h1).sub a hv') (hq.sub a hv)) hne
 ·by_cases hr:rh t a=true
  ·obtain ⟨g1,g2⟩:=hq.gone a ha hr hv
   refine .inl ⟨g1,g2,noW a ha λu hu=>?_⟩
   by_cases e:u=t
   ·subst e;exact hv
   ·cases e2:vh u a with
    |false=>rfl
    |true=>have:=(h.qd u hu).sub a e2;rw [h.sole ht hu ha hr e] at this;cases this
  ·have hr:rh t a=false:=by simpa using hr
   have f1:z6x m (q t) a=m a:=hq.far a (yki ha).1 λb hb q=>by
    have:b=a:=yue
    subst this;exact hr
   have f2:z6x m (q t) (6+a)=m (6+a):=hq.far (6+a) (yki ha).2.1 λb hb q=>by
    have:b=a:=yue
    subst this;exact hr
   rw [f1,f2]
   by_cases hx: ∃u,u<3/\rh u a=true
   ·obtain ⟨u,hu,h1⟩:=hx
    have hne:u≠t:=λe=>by
     subst e
     rw [hr] at h1
     cases h1
    exact .inr ⟨u,hu,hne,h.lock u a hu ha h1⟩
   ·have hf: ∀u,u<3->rh u a=false:=λu hu=>by
     cases e:rh u a with
     |false=>rfl
     |true=>exact absurd ⟨u,hu,e⟩ hx
    obtain ⟨g1,g2⟩:=h.free a ha hf
    refine .inl ⟨g1,g2,noW a ha λu hu=>?_⟩
    cases e:vh u a with
    |false=>rfl
    |true=>have:=(h.qd u hu).sub a e;rw [hf u hu] at this;cases this
def upd{α:Type}(f:Nat->α)(t:Nat)(x:α):Nat->α:=λu=>if u=t then x else f u
theorem yju(f:Nat->α)(t:Nat)(x:α):upd f t x t=x:=by simp [upd]
theorem yjv{f:Nat->α}{x:α}(h:u≠t):upd f t x u=f u:=by simp [upd,h]
theorem ymn(h1:yjx t A)(h2:yjx u A):t=u:=by
 unfold yjx at h1 h2
 omega
theorem GI.flush(h:GI Gd E q m rh vh)(ht:t<3){p:Int×Int}{r:List (Int×Int)}(hp:q t=p::r):
  ∃rh',GI Gd E (upd q t r) (z60 m p.1.toNat p.2) rh' vh/\ ∀u,u<3->u≠t->EnvR u (vh u) E (z6x m (q u)) E (z6x (z60 m p.1.toNat p.2) (q u)):=by
 have hq:=h.qd t ht
 rw [hp] at hq
 obtain ⟨h0,hq⟩:=hq
 rcases hq with ⟨h1,h2⟩|⟨a,ha,h1,h2,h3,h4⟩|⟨a,ha,h1,h2,h3,h4,h5⟩
 ·have lo: ∀A,A<13->z60 m p.1.toNat p.2 A=m A:=λA hA=>z7j yvo
  refine ⟨rh,⟨h.hi,by rw [lo 12 yue];exact h.clk,λu hu=>?_,λu a hu ha hr=>by rw [lo _ yue];exact h.lock u a hu ha hr,λa ha hf=>by rw [lo _ yue,lo _ yue];exact h.free a ha hf,h.liv⟩,λu hu hne=>?_⟩
  ·by_cases e:u=t
   ·subst e;rw [yju];exact h2
   ·rw [yjv e];exact (h.qd u hu).ext λa ha _=>⟨rfl,rfl,lo a yue⟩
  ·have cg: ∀B,B≠p.1.toNat->z6x (z60 m p.1.toNat p.2) (q u) B=z6x m (q u) B:=λB hB=>yj0 _ (z7j hB)
   refine ⟨Hist.refl _ _,λA hA=>cg A λe=>hne (ymn hA (e▸h1)),λa ha _=>⟨cg a yvo,cg (6+a) yvo,rfl,rfl⟩,λa ha _ _ hd=>by rw [cg a yvo];exact hd⟩
 ·refine ⟨rh,⟨h.hi,by rw [z7j yue];exact h.clk,λu hu=>?_,λu b hu hb hr=>by rw [z7j yue];exact h.lock u b hu hb hr,λb hb hf=>?_,h.liv⟩,λu hu hne=>?_⟩
  ·by_cases e:u=t
   ·subst e;rw [yju];exact h4
   ·rw [yjv e]
    refine (h.qd u hu).ext λb hb hr=>⟨rfl,rfl,z7j λe2=>?_⟩
    have:b=a:=yue
    subst this
    rw [h.sole ht hu ha h2 e] at hr;cases hr
  ·have:b≠a:=λe=>by subst e;rw [hf t ht] at h2;cases h2
   rw [z7j yue,z7j yue]
   exact h.free b hb hf
  ·have cg: ∀B,B≠a->z6x (z60 m p.1.toNat p.2) (q u) B=z6x m (q u) B:=λB hB=>yj0 _ (z7j yue)
   have hs:=h.sole ht hu ha h2 hne
   refine ⟨Hist.refl _ _,λA hA=>cg A yvp,λb hb hv=>?_,λb hb _ _ hd=>?_⟩
   ·have:b≠a:=λe=>by subst e;have:=(h.qd u hu).sub b hv;rw [hs] at this;cases this
    exact ⟨cg b this,cg (6+b) yue,rfl,rfl⟩
   ·by_cases e:b=a
    ·subst e
     rw [((h.qd u hu).ext (E':=E) (m':=z60 m p.1.toNat p.2) (λc hc hr=>⟨rfl,rfl,z7j (by
      intro e2
      have:c=b:=yue
      subst this
      rw [hs] at hr;cases hr)⟩)).far b (yki hb).1 (λc hc q=>by
      have:c=b:=yue
      subst this;exact hs),h1,z9e]
     exact h3
    ·rw [cg b e];exact hd
 ·refine ⟨upd rh t (yj2 (rh t) a),⟨h.hi,by rw [z7j yue];exact h.clk,λu hu=>?_,λu b hu hb hr=>?_,λb hb hf=>?_,h.liv⟩,λu hu hne=>?_⟩
  ·by_cases e:u=t
   ·subst e;rw [yju,yju];exact h5
   ·rw [yjv e,yjv e];exact (h.qd u hu).ext λb hb _=>⟨rfl,rfl,z7j yue⟩
  ·by_cases e:u=t
   ·subst e
    rw [yju] at hr
    obtain ⟨r1,r2⟩:=yj1 hr
    rw [z7j yue]
    exact h.lock u b hu hb r1
   ·rw [yjv e] at hr
    have:b≠a:=λe2=>by subst e2;rw [h.sole ht hu hb h2 e] at hr;cases hr
    rw [z7j yue]
    exact h.lock u b hu hb hr
  ·by_cases e:b=a
   ·subst e
    rw [h1,z9e,z7j yue]
    exact ⟨h3,h4⟩
   ·rw [z7j yue,z7j yue]
    refine h.free b hb λu hu=>?_
    have:=hf u hu
    by_cases eu:u=t
    ·subst eu;rw [yju,yj8 e] at this;exact this
    ·rw [yjv eu] at this;exact this
  ·have cg: ∀B,B≠6+a->z6x (z60 m p.1.toNat p.2) (q u) B=z6x m (q u) B:=λB hB=>yj0 _ (z7j yue)
   have hs:=h.sole ht hu ha h2 hne
   refine ⟨Hist.refl _ _,λA hA=>cg A yvp,λb hb hv=>?_,λb hb _ _ hd=>by rw [cg b yue];exact hd⟩
   have:b≠a:=λe=>by subst e;have:=(h.qd u hu).sub b hv;rw [hs] at this;cases this
   exact ⟨cg b yue,cg (6+b) yue,rfl,rfl⟩
theorem ymo(f:Nat->α)(t:Nat)(x y:α):upd (upd f t x) t y=upd f t y:=by
 funext u
 unfold upd
 split<;>rfl
theorem yl0{f:Nat->α}{x:α}(h:f t=x):upd f t x=f:=by
 funext u
 unfold upd
 split
 ·rename_i e;rw [e,h]
 ·rfl
theorem GI.drain: ∀(n:Nat) {q:Nat->List (Int×Int)} {m:Nat->Int} {rh:Nat->Nat->Bool},GI Gd E q m rh vh->∀{t:Nat},t<3->(q t).length=n ->
  ∃rh',GI Gd E (upd q t []) (z6x m (q t)) rh' vh/\ ∀u,u<3->u≠t->EnvR u (vh u) E (z6x m (q u)) E (z6x (z6x m (q t)) (q u))
 |0,q,m,rh,h,t,ht,hn=>by
  have e:q t=[]:=List.length_eq_zero_iff.1 hn
  refine ⟨rh,?_,λu _ _=>?_⟩
  ·rw [e,yl0 e];exact h
  ·rw [e];exact EnvR.refl _ _ _ _
 |n+1,q,m,rh,h,t,ht,hn=>by
  cases e:q t with
  |nil=>rw [e] at hn;cases hn
  |cons p r=>
   obtain ⟨rh1,g1,v1⟩:=h.flush ht e
   have e1:upd q t r t=r:=yju _ _ _
   obtain ⟨rh2,g2,v2⟩:=GI.drain n g1 ht (by rw [e1];rw [e] at hn;simpa using hn)
   rw [e1,ymo] at g2
   refine ⟨rh2,g2,λu hu hne=>?_⟩
   have:=v2 u hu hne
   rw [e1,yjv hne] at this
   exact (v1 u hu hne).trans this
end
section
variable{Gd:Ent->Prop}{E:List Ent}{q:Nat->List (Int×Int)}{m:Nat->Int}{rh vh:Nat->Nat->Bool}
theorem yk4{e:Ent}(hk:E[k]?=some e)(hc:({e with s:=s'}:Ent).com↔e.com)(a:Nat): ∀n,sig (E.set k {e with s:=s'}) n a=sig E n a/\yjz (E.set k {e with s:=s'}) n a=yjz E n a
 |0=>⟨rfl,rfl⟩
 |n+1=>by
  obtain ⟨h1,h2⟩:=yk4 hk hc a n
  rw [ykl,ykl,yjw,yjw,h1,h2]
  by_cases en:n=k
  ·subst en
   rw [List.getElem?_set_self (List.getElem?_eq_some_iff.1 hk).1,hk]
   dsimp only
   by_cases c:e.com
   ·rw [if_pos c,if_pos (hc.2 c)]
    refine ⟨rfl,?_⟩
    by_cases w:(e.wr a).isSome=true
    ·rw [if_pos ⟨hc.2 c,w⟩,if_pos ⟨c,w⟩]
    ·rw [if_neg (λq=>w q.2),if_neg (λq=>w q.2)]
   ·rw [if_neg c,if_neg (λq=>c (hc.1 q)),if_neg (λq=>c (hc.1 q.1)),if_neg (λq=>c q.1)]
    exact ⟨rfl,rfl⟩
  ·rw [List.getElem?_set_ne (λq=>en q.symm)]
   exact ⟨rfl,rfl⟩
theorem yl1{e:Ent}(hk:E[k]?=some e)(h0:e.s=0)(hs:s'=2\/s'=3)(hu:e.t≠u):Hist u E (E.set k {e with s:=s'}):=by
 have hl:=(List.getElem?_eq_some_iff.1 hk).1
 refine ⟨by simp,λj e' h'=>?_,λj e' hj h'=>?_⟩
 ·by_cases ej:j=k
  ·subst ej
   rw [hk] at h'
   obtain rfl:=Option.some.inj h'
   exact ⟨s',List.getElem?_set_self hl, .inr ⟨hu, .inl ⟨h0,by omega⟩⟩⟩
  ·exact ⟨e'.s,by rw [List.getElem?_set_ne (λq=>ej q.symm)];exact h', .inl rfl⟩
 ·have:=(List.getElem?_eq_some_iff.1 h').1
  simp at this
  omega
theorem ym5{e:Ent}(hu:e.t≠u):Hist u E (E++[e]):=by
 refine ⟨by simp,λj e' h'=>⟨e'.s,by rw [List.getElem?_append_left (List.getElem?_eq_some_iff.1 h').1];exact h', .inl rfl⟩,λj e' hj h'=>?_⟩
 rw [List.getElem?_append_right hj] at h'
 have hl:=(List.getElem?_eq_some_iff.1 h').1
 simp at hl
 rw [hl] at h'
 have:e=e':=by simpa using h'
 rw [<-this]
 exact hu
theorem GI.abort(h:GI Gd E q m rh vh)(hG: ∀e s,Gd e->Gd {e with s:=s}){e:Ent}(hk:E[k]?=some e)(h0:e.s=0):
  GI Gd (E.set k {e with s:=2}) q m rh vh/\ ∀u,u≠e.t->∀v,EnvR u (vh u) E v (E.set k {e with s:=2}) v:=by
 have hc:({e with s:=2}:Ent).com↔e.com:=by
  unfold Ent.com
  constructor
  ·intro q;rcases q with q|q<;>cases q
  ·intro q;rcases q with q|q<;>omega
 have hl:=(List.getElem?_eq_some_iff.1 hk).1
 have hlen:(E.set k {e with s:=2}).length=E.length:=yuf
 have ht: ∀a,top (E.set k {e with s:=2}) a=top E a/\lw (E.set k {e with s:=2}) a=lw E a:=λa=>by
  unfold top lw
  rw [hlen]
  exact yk4 hk hc a _
 refine ⟨⟨h.hi.turn hk (.inl ⟨h0,rfl⟩) (hG e 2),by rw [hlen];exact h.clk,λt ht'=>(h.qd t ht').ext λa _ _=>⟨(ht a).1,(ht a).2,rfl⟩,h.lock,λa ha hf=>by rw [(ht a).1,(ht a).2];exact h.free a ha hf,λj e' hj hs=>?_⟩,λu hu v=>⟨yl1 hk h0 (.inl rfl) (Ne.symm hu),λ_ _=>rfl,λa _ _=>⟨rfl,rfl,(ht a).1,(ht a).2⟩,λa _ _ _ hd=>by rw [(ht a).1];exact hd⟩⟩
 by_cases ej:j=k
 ·exact yuc
 ·rw [List.getElem?_set_ne (λq=>ej q.symm)] at hj
  exact h.liv j e' hj hs
theorem QD.own: ∀{q:List (Int×Int)} {rh vh:Nat->Bool} {m:Nat->Int},(∀p∈q,0<=p.1/\yjx t p.1.toNat)->(∀a,rh a=vh a)->QD t E q rh m vh
 |[],_,_,_,_,h=>h
 |p::q,rh,vh,m,hp,h=>⟨(hp p yuf).1, .inl ⟨(hp p yuf).2,QD.own (λp' h'=>hp p' (List.mem_cons_of_mem _ h')) h⟩⟩
theorem QD.same: ∀{q:List (Int×Int)} {rh vh:Nat->Bool} {m:Nat->Int},QD t E q rh m vh->(∀p∈q,yjx t p.1.toNat)->∀a,rh a=vh a
 |[],_,_,_,h,_=>h
 |p::q,rh,vh,m,h,hp=>by
  have no:=hp p yuf
  rcases h.2 with ⟨_,h⟩|⟨a,ha,h1,_⟩|⟨a,ha,h1,_⟩
  ·exact h.same λp' h'=>hp p' (List.mem_cons_of_mem _ h')
  ·rw [h1] at no;exact absurd no (yki ha).1
  ·rw [h1] at no;exact absurd no (yki ha).2.1
theorem GI.commit(h:GI Gd E q m rh vh)(hG: ∀e s,Gd e->Gd {e with s:=s}){e:Ent}(hk:E[k]?=some e)(h0:e.s=0)(hq: ∀p∈q e.t,yjx e.t p.1.toNat)(hr: ∀a d,e.rd a=some d->RdOk E k a d)(hw: ∀a,e.wr a≠none->lw E a<=k):
  GI Gd (E.set k {e with s:=3}) q m rh vh/\ ∀u,u<3->u≠e.t->∀v,EnvR u (vh u) E v (E.set k {e with s:=3}) v:=by
 have hl:=(List.getElem?_eq_some_iff.1 hk).1
 have hlen:(E.set k {e with s:=3}).length=E.length:=yuf
 obtain ⟨ht,hwr⟩:=h.liv k e hk h0
 have tp: ∀a,top (E.set k {e with s:=3}) a=(e.wr a).getD (top E a)/\lw (E.set k {e with s:=3}) a=if (e.wr a).isSome=true then k+1 else lw E a:=λa=>by
  unfold top lw
  rw [hlen]
  exact ymj hk h0 a _ hl (Nat.le_refl _) (hw a)
 have no: ∀a,e.wr a=none->top (E.set k {e with s:=3}) a=top E a/\lw (E.set k {e with s:=3}) a=lw E a:=λa ha=>by
  obtain ⟨h1,h2⟩:=tp a
  rw [ha] at h1 h2
  exact ⟨h1,h2⟩
 -- who has locked it besides
 have other: ∀u a,u<3->a<6->u≠e.t->rh u a=true->e.wr a=none:=λu a hu ha hne hr=>by
  cases hx:e.wr a with
  |none=>rfl
  |some z=>
   have:=(h.qd e.t ht).sub a (hwr a (by rw [hx];simp)).2
   rw [h.sole ht hu ha this hne] at hr;cases hr
 refine ⟨⟨h.hi.put hk h0 hr (hG e 3),by rw [hlen];exact h.clk,λt ht'=>?_,h.lock,λa ha hf=>?_,λj e' hj hs=>?_⟩,λu hu hne v=>⟨yl1 hk h0 (.inr rfl) (Ne.symm hne),λ_ _=>rfl,λa ha hv=>?_,λa ha hv hle hd=>?_⟩⟩
 ·by_cases et:t=e.t
  ·subst et
   exact QD.own (λp hp=>⟨(h.qd e.t ht').nn p hp,hq p hp⟩) ((h.qd e.t ht').same hq)
  ·exact (h.qd t ht').ext λa ha hr=>by
    obtain ⟨g1,g2⟩:=no a (other t a ht' ha et hr)
    exact ⟨g1,g2,rfl⟩
 ·have:e.wr a=none:=by
   cases hx:e.wr a with
   |none=>rfl
   |some z=>
    have:=(h.qd e.t ht).sub a (hwr a (by rw [hx];simp)).2
    rw [hf e.t ht] at this;cases this
  rw [(no a this).1,(no a this).2]
  exact h.free a ha hf
 ·by_cases ej:j=k
  ·exact yuc
  ·rw [List.getElem?_set_ne (λq=>ej q.symm)] at hj
   exact h.liv j e' hj hs
 ·obtain ⟨g1,g2⟩:=no a (other u a hu ha hne ((h.qd u hu).sub a hv))
  exact ⟨rfl,rfl,g1,g2⟩
 ·have:e.wr a=none:=by
   cases hx:e.wr a with
   |none=>rfl
   |some z=>
    have h2:=(tp a).2
    rw [hx,if_pos (show (some z).isSome=true from rfl)] at h2
    have:=hw a (by rw [hx];simp)
    rw [h2] at hle
    omega
  rw [(no a this).1]
  exact hd
theorem ymp{e:Ent}(h0:e.s=0)(a:Nat):top (E++[e]) a=top E a/\lw (E++[e]) a=lw E a:=by
 unfold top lw
 have hlen:(E++[e]).length=E.length+1:=yuf
 have hg:(E++[e])[E.length]?=some e:=yuf
 obtain ⟨h1,h2⟩:=ylp (E':=E++[e]) (E:=E) a E.length λj hj=>List.getElem?_append_left hj
 have hnc: ¬e.com:=λq=>by rcases q with q|q<;>omega
 rw [hlen,ykl,yjw,hg]
 dsimp only
 rw [if_neg hnc,if_neg (λq=>hnc q.1),h1,h2]
 exact ⟨rfl,rfl⟩
theorem GI.tick(h:GI Gd E q m rh vh){e:Ent}(ht:e.t<3)(h0:e.s=0)(hg:Gd e)(hw: ∀a,e.wr a≠none->a<6/\vh e.t a=true):
  GI Gd (E++[e]) q (z60 m 12 ((E.length:Int)+1)) rh vh/\ ∀u,u<3->u≠e.t->EnvR u (vh u) E (z6x m (q u)) (E++[e]) (z6x (z60 m 12 ((E.length:Int)+1)) (q u)):=by
 have tp:=λa=>ymp (E:=E) h0 a
 refine ⟨⟨h.hi.app h0 hg,by rw [z9e];simp,λt ht'=>(h.qd t ht').ext λa ha _=>⟨(tp a).1,(tp a).2,z7j yue⟩,λt a ht' ha hr=>by rw [z7j yue];exact h.lock t a ht' ha hr,λa ha hf=>by rw [z7j yue,z7j yue,(tp a).1,(tp a).2];exact h.free a ha hf,λj e' hj hs=>?_⟩,λu hu hne=>?_⟩
 ·by_cases hl:j<E.length
  ·rw [List.getElem?_append_left hl] at hj
   exact h.liv j e' hj hs
  ·have hl2:=(List.getElem?_eq_some_iff.1 hj).1
   simp at hl2
   obtain rfl:j=E.length:=yue
   have:e=e':=yup
   subst this
   exact ⟨ht,hw⟩
 ·have cg: ∀B,B≠12->z6x (z60 m 12 ((E.length:Int)+1)) (q u) B=z6x m (q u) B:=λB hB=>yj0 _ (z7j hB)
  exact ⟨ym5 (Ne.symm hne),λA hA=>cg A yvp,λa ha _=>⟨cg a yue,cg (6+a) yue,(tp a).1,(tp a).2⟩,λa ha _ _ hd=>by rw [cg a yue,(tp a).1];exact hd⟩
theorem GI.take(h:GI Gd E q m rh vh)(hB:E.length<4611686018427387904)(ht:t<3)(ha:a<6)(hq:q t=[])(hm:m (6+a)=(lw E a:Int)):
  ∃rh',GI Gd E q (z60 m (6+a) (yj7 t)) rh' (upd vh t (ykp (vh t) a))/\ ∀u,u<3->u≠t->EnvR u (vh u) E (z6x m (q u)) E (z6x (z60 m (6+a) (yj7 t)) (q u)):=by
 have hle:=ykg E a E.length
 have nb: ∀u,u<3->rh u a=false:=λu hu=>by
  cases e:rh u a with
  |false=>rfl
  |true=>
   have h2:((lw E a:Nat):Int)=9223372036854775807- (u:Int):=hm.symm.trans (h.lock u a hu ha e)
   have h3:lw E a<=E.length:=hle
   generalize lw E a=z at*
   omega
 have hs: ∀b,rh t b=vh t b:=by have:=h.qd t ht;rw [hq] at this;exact this
 refine ⟨upd rh t (ykp (rh t) a),⟨h.hi,by rw [z7j yue];exact h.clk,λu hu=>?_,λu b hu hb hr=>?_,λb hb hf=>?_,λk e he h0=>?_⟩,λu hu hne=>?_⟩
 ·by_cases e:u=t
  ·subst e
   rw [yju,yju,hq]
   intro b
   unfold ykp
   rw [hs b]
  ·rw [yjv e,yjv e]
   exact (h.qd u hu).ext λb hb _=>⟨rfl,rfl,z7j yue⟩
 ·by_cases e:u=t
  ·subst e
   rw [yju] at hr
   by_cases eb:b=a
   ·subst eb;exact z9e _ _ _
   ·rw [ykt eb] at hr
    rw [z7j yue]
    exact h.lock u b hu hb hr
  ·rw [yjv e] at hr
   have:b≠a:=λeb=>by subst eb;rw [nb u hu] at hr;cases hr
   rw [z7j yue]
   exact h.lock u b hu hb hr
 ·have eb:b≠a:=λeb=>by
   subst eb
   have:=hf t ht
   rw [yju,ylz] at this
   cases this
  rw [z7j yue,z7j yue]
  refine h.free b hb λu hu=>?_
  have:=hf u hu
  by_cases e:u=t
  ·subst e;rw [yju,ykt eb] at this;exact this
  ·rw [yjv e] at this;exact this
 ·obtain ⟨h1,h2⟩:=h.liv k e he h0
  refine ⟨h1,λb hb=>⟨(h2 b hb).1,?_⟩⟩
  have:=(h2 b hb).2
  by_cases et:e.t=t
  ·rw [et] at this⊢
   rw [yju]
   unfold ykp
   rw [this]
   rfl
  ·rw [yjv et];exact this
 ·have cg: ∀B,B≠6+a->z6x (z60 m (6+a) (yj7 t)) (q u) B=z6x m (q u) B:=λB hB=>yj0 _ (z7j hB)
  refine ⟨Hist.refl _ _,λA hA=>cg A yvp,λb hb hv=>?_,λb hb _ _ hd=>by rw [cg b yue];exact hd⟩
  have:b≠a:=λe=>by subst e;have:=(h.qd u hu).sub b hv;rw [nb u hu] at this;cases this
  exact ⟨cg b yue,cg (6+b) yue,rfl,rfl⟩
end
def Gh(t:Nat)(qc:Bool)(E E2:List Ent):Prop:=E2=E\/ ∃(k:Nat) (e:Ent),E[k]?=some e/\e.t=t/\e.s=0/\(E2=E.set k {e with s:=2}\/
 (E2=E.set k {e with s:=3}/\qc=true/\(∀a d,e.rd a=some d->RdOk E k a d)/\ ∀a,e.wr a≠none->lw E a<=k))
def AOk(Gd:Ent->Prop)(t:Nat)(i:Ic)(E2:List Ent)(v:Nat->Int)(vh:Nat->Bool)(qc:Bool)(w:Option (Nat×Int×Bool))(E1:List Ent)(vh1:Nat->Bool)(qc1:Bool):Prop:=match w with
 |none=>E1=E2/\vh1=vh/\(qc1=qc\/i.k=6)
 |some (A,x,false)=>E1=E2/\((yjx t A/\vh1=vh/\qc1=qc)\/(∃a,a<6/\A=a/\vh a=true/\x=top E2 a/\vh1=vh/\qc1=false)\/
   (∃a,a<6/\A=6+a/\vh a=true/\x=(lw E2 a:Int)/\v a=top E2 a/\(∀(k:Nat) (e:Ent),E2[k]?=some e->e.s=0->e.t=t->e.wr a=none)/\vh1=yj2 vh a/\qc1=false))
 |some (A,x,true)=>(∃a,a<6/\A=6+a/\v (6+a)=(lw E2 a:Int)/\x=yj7 t/\E1=E2/\vh1=ykp vh a/\qc1=true)\/
   (A=12/\x=(E2.length:Int)+1/\vh1=vh/\qc1=true/\ ∃e:Ent,e.t=t/\e.s=0/\Gd e/\(∀a,e.wr a≠none->a<6/\vh a=true)/\E1=E2++[e])
section
variable(Gd:Ent->Prop)(Obs:List Ent->List Int->Int->Prop)(t:Nat)(c:List Ic)
def Saf:Nat->(Nat->Int)->Nat->List Int->(Nat->Int)->(Nat->Bool)->Bool->List Ent->Prop
 |0,_,_,_,_,_,_,_=>True
 |n+1,r,p,out,v0,vh,qc,E0=>∀E v,EnvR t vh E0 v0 E v->VI Gd t E vh v->E.length<1000000000000 ->
   ∃i E2 E1 vh1 qc1,c[p]?=some i/\Gh t qc E E2/\AOk Gd t i E2 v vh qc (yl9 i r v) E1 vh1 qc1/\Obs E1 (sf1 c ⟨r,p,[],out,0⟩ v).1.out (sf1 c ⟨r,p,[],out,0⟩ v).1.st/\
    ((sf1 c ⟨r,p,[],out,0⟩ v).1.st=0->∃(r1:Nat->Int) (p1:Nat),(sf1 c ⟨r,p,[],out,0⟩ v).1.r=r1/\(sf1 c ⟨r,p,[],out,0⟩ v).1.pl=(p1:Int)/\
     Saf n r1 p1 (sf1 c ⟨r,p,[],out,0⟩ v).1.out (sf1 c ⟨r,p,[],out,0⟩ v).2 vh1 qc1 E1)
end
section
variable{Gd:Ent->Prop}{Obs:List Ent->List Int->Int->Prop}{t:Nat}{c:List Ic}
theorem yk5: ∀{n:Nat} {r:Nat->Int} {p:Nat} {out:List Int} {v:Nat->Int} {vh:Nat->Bool} {qc:Bool} {E:List Ent},Saf Gd Obs t c (n+1) r p out v vh qc E->Saf Gd Obs t c n r p out v vh qc E
 |0,_,_,_,_,_,_,_,_=>trivial
 |n+1,r,p,out,v,vh,qc,E,h=>λE' v' h1 h2 h3=>by
  obtain ⟨i,E2,E1,vh1,qc1,g1,g2,g3,g4,g5⟩:=h E' v' h1 h2 h3
  refine ⟨i,E2,E1,vh1,qc1,g1,g2,g3,g4,λh0=>?_⟩
  obtain ⟨r1,p1,q1,q2,q3⟩:=g5 h0
  exact ⟨r1,p1,q1,q2,yk5 q3⟩
end
section
variable{Gd:Ent->Prop}{E:List Ent}{q:Nat->List (Int×Int)}{m:Nat->Int}{rh vh:Nat->Nat->Bool}
theorem GI.setq(h:GI Gd E q m rh vh)(hq:QD t E q' (rh t) m vh1)(hl: ∀(k:Nat) (e:Ent),E[k]?=some e->e.s=0->e.t=t->∀a,e.wr a≠none->vh1 a=true):GI Gd E (upd q t q') m rh (upd vh t vh1):=by
 refine ⟨h.hi,h.clk,λu hu=>?_,h.lock,h.free,λk e he h0=>?_⟩
 ·by_cases e:u=t
  ·subst e;rw [yju,yju];exact hq
  ·rw [yjv e,yjv e];exact h.qd u hu
 ·obtain ⟨h1,h2⟩:=h.liv k e he h0
  refine ⟨h1,λa ha=>⟨(h2 a ha).1,?_⟩⟩
  by_cases et:e.t=t
  ·rw [et,yju];exact hl k e he h0 et a ha
  ·rw [yjv et];exact (h2 a ha).2
theorem GI.push(h:GI Gd E q m rh vh)(ht:t<3){p0:Int×Int}(hp: ∀(q0:List (Int×Int)) (rh0:Nat->Bool) (m0:Nat->Int),QD t E q0 rh0 m0 (vh t)->z6x m0 q0=z6x m (q t)->QD t E (q0++[p0]) rh0 m0 vh1)
  (hl: ∀(k:Nat) (e:Ent),E[k]?=some e->e.s=0->e.t=t->∀a,e.wr a≠none->vh1 a=true)   (hw:(q'=q t++[p0]/\m'=m)\/ ∃p r,q t=p::r/\q'=r++[p0]/\m'=z60 m p.1.toNat p.2):
  ∃rh',GI Gd E (upd q t q') m' rh' (upd vh t vh1)/\ ∀u,u<3->u≠t->EnvR u (vh u) E (z6x m (q u)) E (z6x m' (q u)):=by
 rcases hw with ⟨rfl,rfl⟩|⟨p,r,e,rfl,rfl⟩
 ·exact ⟨rh,h.setq (hp _ _ _ (h.qd t ht) rfl) hl,λu _ _=>EnvR.refl _ _ _ _⟩
 ·obtain ⟨rh1,g1,v1⟩:=h.flush ht e
  have hq:=g1.qd t ht
  rw [yju] at hq
  have:=g1.setq (hp r (rh1 t) _ hq yu4) hl
  rw [ymo] at this
  exact ⟨rh1,this,v1⟩
theorem ykb(f:Nat->α)(t:Nat):upd f t (f t)=f:=yl0 rfl
theorem GI.gh(h:GI Gd E q m rh vh)(hG: ∀e s,Gd e->Gd {e with s:=s})(hc:qc=true->∀p∈q t,yjx t p.1.toNat){E2:List Ent}(hg:Gh t qc E E2):
  GI Gd E2 q m rh vh/\ ∀u,u<3->u≠t->∀v,EnvR u (vh u) E v E2 v:=by
 rcases hg with rfl|⟨k,e,hk,rfl,h0,rfl|⟨rfl,hq,hr,hw⟩⟩
 ·exact ⟨h,λu _ _ v=>EnvR.refl _ _ _ _⟩
 ·obtain ⟨g1,g2⟩:=h.abort hG hk h0
  exact ⟨g1,λu _ hne v=>g2 u hne v⟩
 ·exact h.commit hG hk h0 (hc hq) hr hw
end
theorem yma(c:List Ic)(T:Th)(m:Nat->Int)(hst:T.st=0){i:Ic}(hi:c[T.pl.toNat]?=some i)(h6:i.k=6):(z6w T m c).1.q=[]/\(z6w T m c).2=z6x m T.q:=by
 unfold z6w
 rw [if_pos hst,hi]
 dsimp only
 unfold doI
 simp only [h6]
 exact ⟨rfl,rfl⟩
section
variable{Gd:Ent->Prop}{q:Nat->List (Int×Int)}{m:Nat->Int}{rh vh:Nat->Nat->Bool}
theorem GI.act{E2 E1:List Ent}(h:GI Gd E2 q m rh vh)(hB:E2.length<1000000000000)(ht:t<3){i:Ic}{w:Option (Nat×Int×Bool)}{qc1:Bool}(ha:AOk Gd t i E2 (z6x m (q t)) (vh t) qc w E1 vh1 qc1)
  (hw:ynh (q t) m w q' m') (h6:i.k=6->q'=[]) (hc:qc=true->∀p∈q t,yjx t p.1.toNat):
  ∃rh',GI Gd E1 (upd q t q') m' rh' (upd vh t vh1)/\(∀u,u<3->u≠t->EnvR u (vh u) E2 (z6x m (q u)) E1 (z6x m' (q u)))/\(qc1=true->∀p∈q',yjx t p.1.toNat):=by
 have liv: ∀(k:Nat) (e:Ent),E2[k]?=some e->e.s=0->e.t=t->∀a,e.wr a≠none->vh t a=true:=λk e he h0 et a hw=>by
  have:=((h.liv k e he h0).2 a hw).2
  rw [et] at this
  exact this
 match w,ha,hw with
 |none,ha,hw=>
  obtain ⟨rfl,rfl,hqc⟩:=ha
  rcases hw with ⟨rfl,rfl⟩|⟨rfl,rfl⟩
  ·refine ⟨rh,by rw [ykb,ykb];exact h,λu _ _=>EnvR.refl _ _ _ _,λe=>?_⟩
   rcases hqc with hqc|hqc
   ·exact hc (hqc▸e)
   ·rw [h6 hqc];intro p hp;simp at hp
  ·obtain ⟨rh1,g1,v1⟩:=h.drain (q t).length ht rfl
   exact ⟨rh1,by rw [ykb];exact g1,v1,λ_ p hp=>by simp at hp⟩
 |some (A,x,false),ha,hw=>
  obtain ⟨rfl,ha⟩:=ha
  have own: ∀{P:Prop},((q'=q t++[((A:Int),x)]/\m'=m)\/ ∃p r,q t=p::r/\q'=r++[((A:Int),x)]/\m'=z60 m p.1.toNat p.2)->yjx t A->(∀p∈q t,yjx t p.1.toNat)->∀p∈q',yjx t p.1.toNat:=λ{_} hw hA hq p hp=>by
   have new:yjx t ((A:Int)).toNat:=by rw [Int.toNat_natCast];exact hA
   rcases hw with ⟨rfl,_⟩|⟨p0,r,e,rfl,_⟩
   ·rcases List.mem_append.1 hp with hp|hp
    ·exact hq p hp
    ·rw [List.mem_singleton.1 hp];exact new
   ·rcases List.mem_append.1 hp with hp|hp
    ·exact hq p (by rw [e];exact List.mem_cons_of_mem _ hp)
    ·rw [List.mem_singleton.1 hp];exact new
  rcases ha with ⟨hA,rfl,rfl⟩|⟨a,ha6,rfl,hv,hx,rfl,rfl⟩|⟨a,ha6,rfl,hv,hx,hd,hno,rfl,rfl⟩
  ·obtain ⟨rh1,g1,v1⟩:=h.push ht (p0:=((A:Int),x)) (vh1:=vh t) (λq0 rh0 m0 hq _=>hq.appOwn x hA) liv hw
   exact ⟨rh1,g1,v1,λe=>own (P:=True) hw hA (hc e)⟩
  ·obtain ⟨rh1,g1,v1⟩:=h.push ht (p0:=((A:Int),x)) (vh1:=vh t) (λq0 rh0 m0 hq _=>hq.appDat ha6 hv hx) liv hw
   exact ⟨rh1,g1,v1,λe=>by cases e⟩
  ·obtain ⟨rh1,g1,v1⟩:=h.push ht (p0:=(((6+a:Nat):Int),x)) (vh1:=yj2 (vh t) a) (λq0 rh0 m0 hq hdr=>hq.appRel ha6 hv hx (by rw [hdr];exact hd)) (λk e he h0 et b hb=>by
    have hne:b≠a:=λe2=>by subst e2;exact hb (hno k e he h0 et)
    rw [yj8 hne]
    exact liv k e he h0 et b hb) hw
   exact ⟨rh1,g1,v1,λe=>by cases e⟩
 |some (A,x,true),ha,hw=>
  obtain ⟨rfl,rfl⟩:=hw
  obtain ⟨rh1,g1,v1⟩:=h.drain (q t).length ht rfl
  rcases ha with ⟨a,ha6,rfl,hv,rfl,rfl,rfl,rfl⟩|⟨rfl,rfl,rfl,rfl,e,rfl,h0,hg,hwr,rfl⟩
  ·obtain ⟨rh2,g2,v2⟩:=g1.take yue ht ha6 (yju _ _ _) hv
   refine ⟨rh2,g2,λu hu hne=>?_,λ_ p hp=>by simp at hp⟩
   have:=v2 u hu hne
   rw [yjv hne] at this
   exact (v1 u hu hne).trans this
  ·obtain ⟨g2,v2⟩:=g1.tick ht h0 hg hwr
   refine ⟨rh1,by rw [ykb];exact g2,λu hu hne=>?_,λ_ p hp=>by simp at hp⟩
   have:=v2 u hu hne
   rw [yjv hne] at this
   exact (v1 u hu hne).trans this
end
section
variable(Gd:Ent->Prop)(Obs:Nat->List Ent->List Int->Int->Prop)(c:Nat->List Ic)
def TG(n u:Nat)(T:Th)(E:List Ent)(v:Nat->Int)(vh:Nat->Bool)(qc:Bool):Prop:=
 Obs u E T.out T.st/\(T.st=0->∃(p:Nat) (E0:List Ent) (v0:Nat->Int),T.pl=(p:Int)/\EnvR u vh E0 v0 E v/\Saf Gd (Obs u) u (c u) n T.r p T.out v0 vh qc E0)
def MG(n K:Nat)(T:Nat->Th)(m:Nat->Int):Prop:=∃(E:List Ent) (rh vh:Nat->Nat->Bool) (qc:Nat->Bool),GI Gd E (λu=>(T u).q) m rh vh/\E.length<=K/\(∀u,u<3->qc u=true->∀p∈(T u).q,yjx u p.1.toNat)/\
 ∀u,u<3->TG Gd Obs c n u (T u) E (z6x m (T u).q) (vh u) (qc u)
end
section
variable{Gd:Ent->Prop}{Obs:Nat->List Ent->List Int->Int->Prop}{c:Nat->List Ic}{n K:Nat}{T:Nat->Th}{m:Nat->Int}
theorem yow(T:Nat->Th)(t:Nat)(T':Th):(λu=>(upd T t T' u).q)=upd (λu=>(T u).q) t T'.q:=by
 funext u
 unfold upd
 split<;>rfl
theorem MG.flush(h:MG Gd Obs c n K T m)(ht:t<3):MG Gd Obs c n K (upd T t (z6y (T t) m).1) (z6y (T t) m).2:=by
 obtain ⟨E,rh,vh,qc,g,hK,hq,hT⟩:=h
 cases e:(T t).q with
 |nil=>
  have:z6y (T t) m=(T t,m):=by unfold z6y;rw [e]
  rw [this,ykb]
  exact ⟨E,rh,vh,qc,g,hK,hq,hT⟩
 |cons p r=>
  have ef:z6y (T t) m=({T t with q:=r},z60 m p.1.toNat p.2):=by unfold z6y;rw [e]
  obtain ⟨rh1,g1,v1⟩:=g.flush ht e
  rw [ef]
  refine ⟨E,rh1,vh,qc,by rw [yow];exact g1,hK,λu hu hc p' hp=>?_,λu hu=>?_⟩
  ·by_cases eu:u=t
   ·subst eu
    rw [yju] at hp
    exact hq u hu hc p' (by rw [e];exact List.mem_cons_of_mem _ hp)
   ·rw [yjv eu] at hp
    exact hq u hu hc p' hp
  ·by_cases eu:u=t
   ·subst eu
    rw [yju]
    have ev:z6x (z60 m p.1.toNat p.2) r=z6x m (T u).q:=yu4
    obtain ⟨h1,h2⟩:=hT u hu
    refine ⟨h1,λh0=>?_⟩
    show ∃p_1 E0 v0,_/\EnvR u (vh u) E0 v0 E (z6x (z60 m p.1.toNat p.2) r)/\_
    rw [ev]
    exact h2 h0
   ·rw [yjv eu]
    obtain ⟨h1,h2⟩:=hT u hu
    refine ⟨h1,λh0=>?_⟩
    obtain ⟨p1,E0,v0,q1,q2,q3⟩:=h2 h0
    exact ⟨p1,E0,v0,q1,q2.trans (v1 u hu eu),q3⟩
theorem MG.step(hG: ∀e s,Gd e->Gd {e with s:=s})(hO: ∀u E E' out st,Obs u E out st->Hist u E E'->Obs u E' out st)(h:MG Gd Obs c (n+1) K T m)(hB:K<1000000000000)(ht:t<3):MG Gd Obs c n (K+1) (upd T t (z6w (T t) m (c t)).1) (z6w (T t) m (c t)).2:=by
 obtain ⟨E,rh,vh,qc,g,hK,hq,hT⟩:=h
 obtain ⟨ho,hs⟩:=hT t ht
 by_cases hst:(T t).st=0
 ·obtain ⟨p,E0,v0,hp,hr,hS⟩:=hs hst
  obtain ⟨i,E2,E1,vh1,qc1,hi,hgh,hact,hobs,hnext⟩:=hS E _ hr (g.vi ht) yue
  have hpl:(T t).pl.toNat=p:=by rw [hp];exact Int.toNat_natCast p
  have hi':(c t)[(T t).pl.toNat]?=some i:=by rw [hpl];exact hi
  obtain ⟨g2,e2⟩:=g.gh hG (hq t ht) hgh
  have hE2:E2.length=E.length:=by
   rcases hgh with rfl|⟨k,e,_,_,_,rfl|⟨rfl,_⟩⟩
   ·rfl
   ·simp
   ·simp
  obtain ⟨rh1,g3,e3,hq1⟩:=g2.act yue ht hact ((yml (c t) (T t) m hst).2 i hi') (λh6=>(yma (c t) (T t) m hst hi' h6).1) (hq t ht)
  have hE1:E1.length<=K+1:=by
   revert hact
   cases yl9 i (T t).r (z6x m (T t).q) with
   |none=>intro ha;rw [ha.1];omega
   |some w=>
    obtain ⟨A,x,b⟩:=w
    cases b with
    |false=>intro ha;rw [ha.1];omega
    |true=>
     intro ha
     rcases ha with ⟨a,_,_,_,_,rfl,_⟩|⟨_,_,_,_,e,_,_,_,_,rfl⟩
     ·omega
     ·simp;omega
  obtain ⟨w1,w2⟩:=ymk (c t) (T t) m ((g.qd t ht).nn) hst
  rw [hp] at w1 w2
  rw [w1] at hobs hnext
  rw [w2] at hnext
  refine ⟨E1,rh1,upd vh t vh1,upd qc t qc1,by rw [yow];exact g3,hE1,λu hu hc p' hp'=>?_,λu hu=>?_⟩
  ·by_cases eu:u=t
   ·subst eu
    rw [yju] at hp' hc
    exact hq1 hc p' hp'
   ·rw [yjv eu] at hp' hc
    exact hq u hu hc p' hp'
  ·by_cases eu:u=t
   ·subst eu
    rw [yju,yju,yju]
    refine ⟨hobs,λh0=>?_⟩
    obtain ⟨r1,p1,q1,q2,q3⟩:=hnext h0
    have q1:(z6w (T u) m (c u)).1.r=r1:=q1
    have q2:(z6w (T u) m (c u)).1.pl=(p1:Int):=q2
    refine ⟨p1,E1,_,q2,EnvR.refl _ _ _ _,?_⟩
    rw [q1]
    exact q3
   ·rw [yjv eu,yjv eu,yjv eu]
    obtain ⟨h1,h2⟩:=hT u hu
    have ev:=(e2 u hu eu (z6x m (T u).q)).trans (e3 u hu eu)
    refine ⟨hO u _ _ _ _ h1 ev.hist,λh0=>?_⟩
    obtain ⟨p1,E0',v0',q1,q2,q3⟩:=h2 h0
    exact ⟨p1,E0',v0',q1,q2.trans ev,yk5 q3⟩
 ·have:z6w (T t) m (c t)=(T t,m):=z61 hst
  rw [this,ykb]
  refine ⟨E,rh,vh,qc,g,by omega,hq,λu hu=>?_⟩
  obtain ⟨h1,h2⟩:=hT u hu
  refine ⟨h1,λh0=>?_⟩
  obtain ⟨p1,E0',v0',q1,q2,q3⟩:=h2 h0
  exact ⟨p1,E0',v0',q1,q2,yk5 q3⟩
end
section
variable(Gd:Ent->Prop)(Obs:List Ent->List Int->Int->Prop)(t:Nat)
structure Nx(out:List Int)(vh:Nat->Bool)(E0:List Ent)(v0:Nat->Int)(E:List Ent)(v:Nat->Int):Prop where
 env:EnvR t vh E0 v0 E v
 vi:VI Gd t E vh v
 len:E.length<1000000000000
 obs:Obs E out 0
end
section
variable{Gd:Ent->Prop}{Obs:List Ent->List Int->Int->Prop}{t:Nat}{c:List Ic}{N p:Nat}{r v0:Nat->Int}{out:List Int}{vh:Nat->Bool}{qc:Bool}{E0:List Ent}{i:Ic}
def yj4(Obs:List Ent->List Int->Int->Prop)(t:Nat):Prop:=∀E E' out st,Obs E out st->Hist t E E'->Obs E' out st
theorem yk6(hO:yj4 Obs t)(ho:Obs E0 out 0)(hi:c[p]?=some i)(hs: ∀n,n<N->∀E v,Nx Gd Obs t out vh E0 v0 E v->∃E2 E1 vh1 qc1 r1 p1 out1 v1,Gh t qc E E2/\AOk Gd t i E2 v vh qc (yl9 i r v) E1 vh1 qc1/\sf1 c ⟨r,p,[],out,0⟩ v=(⟨r1,((p1:Nat):Int),[],out1,0⟩,v1)/\Obs E1 out1 0/\Saf Gd Obs t c n r1 p1 out1 v1 vh1 qc1 E1):
  Saf Gd Obs t c N r p out v0 vh qc E0:=match N,hs with
 |0,_=>trivial
 |n+1,hs=>λE v h1 h2 h3=>by
  obtain ⟨E2,E1,vh1,qc1,r1,p1,out1,v1,g1,g2,g3,g4,g5⟩:=hs n (Nat.lt_succ_self n) E v ⟨h1,h2,h3,hO _ _ _ _ ho h1.hist⟩
  refine ⟨i,E2,E1,vh1,qc1,hi,g1,g2,by rw [g3];exact g4,λ_=>⟨r1,p1,by rw [g3],by rw [g3],?_⟩⟩
  rw [g3]
  exact g5
theorem ykj(hO:yj4 Obs t)(ho:Obs E0 out 0)(hi:c[p]?=some i)(hk:i.k≠3/\i.k≠4/\i.k≠5)(hs: ∀n,n<N->∀E v,Nx Gd Obs t out vh E0 v0 E v->∃r1 p1,sf1 c ⟨r,p,[],out,0⟩ v=(⟨r1,((p1:Nat):Int),[],out,0⟩,v)/\Saf Gd Obs t c n r1 p1 out v vh qc E):
  Saf Gd Obs t c N r p out v0 vh qc E0:=yk6 hO ho hi λn hn E v hN=>by
 obtain ⟨r1,p1,h1,h2⟩:=hs n hn E v hN
 refine ⟨E,E,vh,qc,r1,p1,out,v, .inl rfl,?_,h1,hN.obs,h2⟩
 have:yl9 i r v=none:=by
  unfold yl9
  dsimp only
  rw [if_neg hk.1,if_neg hk.2.1,if_neg hk.2.2]
 rw [this]
 exact ⟨rfl,rfl, .inl rfl⟩
theorem yni(hO:yj4 Obs t)(ho:Obs E0 out 0)(hi:c[p]?=some (ybb d x))(hs: ∀n,n<N->∀E v,Nx Gd Obs t out vh E0 v0 E v->Saf Gd Obs t c n (setr r d (vof x r)) (p+1) out v vh qc E):Saf Gd Obs t c N r p out v0 vh qc E0:=
 ykj hO ho hi (by show (0:Nat)≠3/\(0:Nat)≠4/\(0:Nat)≠5;decide) λn hn E v hN=>⟨_,p+1,ye1 hi out,hs n hn E v hN⟩
theorem ynw(hO:yj4 Obs t)(ho:Obs E0 out 0)(hi:c[p]?=some (z87 10 d x y))(hs: ∀n,n<N->∀E v,Nx Gd Obs t out vh E0 v0 E v->Saf Gd Obs t c n (setr r d (if vof x r<vof y r then 1 else 0)) (p+1) out v vh qc E):Saf Gd Obs t c N r p out v0 vh qc E0:=
 ykj hO ho hi yvq λn hn E v hN=>⟨_,p+1,ye1 hi out,hs n hn E v hN⟩
theorem yoy(hO:yj4 Obs t)(ho:Obs E0 out 0)(hi:c[p]?=some (z87 11 d x y))(hs: ∀n,n<N->∀E v,Nx Gd Obs t out vh E0 v0 E v->Saf Gd Obs t c n (setr r d (if vof x r=vof y r then 1 else 0)) (p+1) out v vh qc E):Saf Gd Obs t c N r p out v0 vh qc E0:=
 ykj hO ho hi yvq λn hn E v hN=>⟨_,p+1,ye1 hi out,hs n hn E v hN⟩
theorem ymq(hO:yj4 Obs t)(ho:Obs E0 out 0)(hi:c[p]?=some (z87 0 d x y))(hs: ∀n,n<N->∀E v,Nx Gd Obs t out vh E0 v0 E v->Saf Gd Obs t c n (setr r d (wrap64 (vof x r+vof y r))) (p+1) out v vh qc E):Saf Gd Obs t c N r p out v0 vh qc E0:=
 ykj hO ho hi yvq λn hn E v hN=>⟨_,p+1,ye1 hi out,hs n hn E v hN⟩
theorem yn3(hO:yj4 Obs t)(ho:Obs E0 out 0)(hi:c[p]?=some (z87 1 d x y))(hs: ∀n,n<N->∀E v,Nx Gd Obs t out vh E0 v0 E v->Saf Gd Obs t c n (setr r d (wrap64 (vof x r- vof y r))) (p+1) out v vh qc E):Saf Gd Obs t c N r p out v0 vh qc E0:=
 ykj hO ho hi yvq λn hn E v hN=>⟨_,p+1,ye1 hi out,hs n hn E v hN⟩
theorem yj3(hO:yj4 Obs t)(ho:Obs E0 out 0){k:Int}(A:Nat)(hi:c[p]?=some (z7q d x k))(hA:wrap64 (vof x r+k)=(A:Int))(h2:A<256)(hs: ∀n,n<N->∀E v,Nx Gd Obs t out vh E0 v0 E v->Saf Gd Obs t c n (setr r d (v A)) (p+1) out v vh qc E):Saf Gd Obs t c N r p out v0 vh qc E0:=
 ykj hO ho hi (by show (2:Nat)≠3/\(2:Nat)≠4/\(2:Nat)≠5;decide) λn hn E v hN=>⟨setr r d (v A),p+1,by
  rw [ye1 hi]
  have:doI (z7q d x k) ⟨r,((p+1:Nat):Int),[],out,0⟩ v=(if 0<=wrap64 (vof x r+k)/\wrap64 (vof x r+k)<256 then (⟨setr r d (v (wrap64 (vof x r+k)).toNat),((p+1:Nat):Int),[],out,0⟩,v) else (⟨r,((p+1:Nat):Int),[],out,9⟩,v)):=rfl
  rw [this,hA,if_pos yue,Int.toNat_natCast]
  rfl,hs n hn E v hN⟩
theorem ymr(hO:yj4 Obs t)(ho:Obs E0 out 0)(hi:c[p]?=some (z92 (k:Int)))(hs: ∀n,n<N->∀E v,Nx Gd Obs t out vh E0 v0 E v->Saf Gd Obs t c n r k out v vh qc E):Saf Gd Obs t c N r p out v0 vh qc E0:=
 ykj hO ho hi (by show (8:Nat)≠3/\(8:Nat)≠4/\(8:Nat)≠5;decide) λn hn E v hN=>⟨r,k,ye1 hi out,hs n hn E v hN⟩
theorem ykq(hO:yj4 Obs t)(ho:Obs E0 out 0)(hi:c[p]?=some (z8v x (k:Int)))(h0:vof x r=0)(hs: ∀n,n<N->∀E v,Nx Gd Obs t out vh E0 v0 E v->Saf Gd Obs t c n r k out v vh qc E):Saf Gd Obs t c N r p out v0 vh qc E0:=
 ykj hO ho hi ywc λn hn E v hN=>⟨r,k,by
  rw [ye1 hi]
  have:doI (z8v x (k:Int)) ⟨r,((p+1:Nat):Int),[],out,0⟩ v=(if vof x r=0 then (⟨r,(k:Int),[],out,0⟩,v) else (⟨r,((p+1:Nat):Int),[],out,0⟩,v)):=rfl
  rw [this,if_pos h0]
  rfl,hs n hn E v hN⟩
theorem ykr(hO:yj4 Obs t)(ho:Obs E0 out 0){k:Int}(hi:c[p]?=some (z8v x k))(h0:vof x r≠0)(hs: ∀n,n<N->∀E v,Nx Gd Obs t out vh E0 v0 E v->Saf Gd Obs t c n r (p+1) out v vh qc E):Saf Gd Obs t c N r p out v0 vh qc E0:=
 ykj hO ho hi ywc λn hn E v hN=>⟨r,p+1,by
  rw [ye1 hi]
  have:doI (z8v x k) ⟨r,((p+1:Nat):Int),[],out,0⟩ v=(if vof x r=0 then (⟨r,k,[],out,0⟩,v) else (⟨r,((p+1:Nat):Int),[],out,0⟩,v)):=rfl
  rw [this,if_neg h0]
  rfl,hs n hn E v hN⟩
theorem yk7{k:Int}(A:Nat)(hi:c[p]?=some (z7p x k y))(hA:wrap64 (vof x r+k)=(A:Int))(h2:A<256)(v:Nat->Int):sf1 c ⟨r,p,[],out,0⟩ v=(⟨r,((p+1:Nat):Int),[],out,0⟩,z60 v A (vof y r))/\yl9 (z7p x k y) r v=some (A,vof y r,false):=by
 constructor
 ·rw [ye1 hi]
  have:doI (z7p x k y) ⟨r,((p+1:Nat):Int),[],out,0⟩ v=(if 0<=wrap64 (vof x r+k)/\wrap64 (vof x r+k)<256 then (⟨r,((p+1:Nat):Int),[(wrap64 (vof x r+k),vof y r)],out,0⟩,v) else (⟨r,((p+1:Nat):Int),[],out,9⟩,v)):=rfl
  rw [this,hA,if_pos yue]
  show (_,z60 v ((A:Int)).toNat (vof y r))=_
  rw [Int.toNat_natCast]
 ·unfold yl9
  dsimp only
  rw [if_pos (show (z7p x k y).k=3 from rfl)]
  have e:wrap64 (vof (z7p x k y).a r+(z7p x k y).n)=(A:Int):=hA
  rw [e,if_pos yue,Int.toNat_natCast]
  rfl
theorem ykw(hO:yj4 Obs t)(ho:Obs E0 out 0){k:Int}(A:Nat)(hi:c[p]?=some (z7p x k y))(hA:wrap64 (vof x r+k)=(A:Int))(h2:A<256)(hw:yjx t A)(hs: ∀n,n<N->∀E v,Nx Gd Obs t out vh E0 v0 E v->Saf Gd Obs t c n r (p+1) out (z60 v A (vof y r)) vh qc E):Saf Gd Obs t c N r p out v0 vh qc E0:=
 yk6 hO ho hi λn hn E v hN=>by
  obtain ⟨g1,g2⟩:=yk7 (out:=out) A hi hA h2 v
  refine ⟨E,E,vh,qc,r,p+1,out,_, .inl rfl,?_,g1,hN.obs,hs n hn E v hN⟩
  rw [g2]
  exact ⟨rfl, .inl ⟨hw,rfl,rfl⟩⟩
theorem yon(hO:yj4 Obs t)(ho:Obs E0 out 0){k:Int}(a:Nat)(ha:a<6)(hi:c[p]?=some (z7p x k y))(hA:wrap64 (vof x r+k)=(a:Int))(hv:vh a=true)(hx:vof y r=top E0 a)(hs: ∀n,n<N->∀E v,Nx Gd Obs t out vh E0 v0 E v->Saf Gd Obs t c n r (p+1) out (z60 v a (vof y r)) vh false E):Saf Gd Obs t c N r p out v0 vh qc E0:=
 yk6 hO ho hi λn hn E v hN=>by
  obtain ⟨g1,g2⟩:=yk7 (out:=out) a hi hA yue v
  refine ⟨E,E,vh,false,r,p+1,out,_, .inl rfl,?_,g1,hN.obs,hs n hn E v hN⟩
  rw [g2]
  exact ⟨rfl, .inr (.inl ⟨a,ha,rfl,hv,by rw [(hN.env.held a ha hv).2.2.1];exact hx,rfl,rfl⟩)⟩
theorem yn4(hO:yj4 Obs t)(ho:Obs E0 out 0){k:Int}(a:Nat)(ha:a<6)(hi:c[p]?=some (z7p x k y))(hA:wrap64 (vof x r+k)=((6+a:Nat):Int))(hv:vh a=true)(hx:vof y r=(lw E0 a:Int))(hd:v0 a=top E0 a)
  (hno: ∀(k:Nat) (e:Ent),E0[k]?=some e->e.s=0->e.t=t->e.wr a=none) (hs: ∀n,n<N->∀E v,Nx Gd Obs t out vh E0 v0 E v->Saf Gd Obs t c n r (p+1) out (z60 v (6+a) (vof y r)) (yj2 vh a) false E):Saf Gd Obs t c N r p out v0 vh qc E0:=
 yk6 hO ho hi λn hn E v hN=>by
  obtain ⟨g1,g2⟩:=yk7 (out:=out) (6+a) hi hA yue v
  obtain ⟨q1,q2,q3,q4⟩:=hN.env.held a ha hv
  refine ⟨E,E,yj2 vh a,false,r,p+1,out,_, .inl rfl,?_,g1,hN.obs,hs n hn E v hN⟩
  rw [g2]
  refine ⟨rfl, .inr (.inr ⟨a,ha,rfl,hv,by rw [q4];exact hx,by rw [q1,q3];exact hd,λj e he hs et=>?_,rfl,rfl⟩)⟩
  by_cases hl:j<E0.length
  ·obtain ⟨e0,he0⟩: ∃e0,E0[j]?=some e0:=⟨E0[j],List.getElem?_eq_getElem hl⟩
   obtain ⟨s',w1,w2⟩:=hN.env.hist.old j e0 he0
   rw [he] at w1
   have w1:=Option.some.inj w1
   rw [w1] at hs et⊢
   have hs:s'=0:=hs
   have et:e0.t=t:=et
   show e0.wr a=none
   refine hno j e0 he0 ?_ et
   rcases w2 with w2|⟨w2,_⟩
   ·omega
   ·exact absurd et w2
  ·exact absurd et (hN.env.hist.new j e yue he)
theorem ynj(hO:yj4 Obs t)(ho:Obs E0 out 0)(hi:c[p]?=some yb2)(hs: ∀n,n<N->∀E v,Nx Gd Obs t out vh E0 v0 E v->Saf Gd Obs t c n r (p+1) out v vh true E):Saf Gd Obs t c N r p out v0 vh qc E0:=
 yk6 hO ho hi λn hn E v hN=>⟨E,E,vh,true,r,p+1,out,v, .inl rfl,⟨rfl,rfl, .inr rfl⟩,ye1 hi out,hN.obs,hs n hn E v hN⟩
theorem yoo(hO:yj4 Obs t)(ho:Obs E0 out 0)(hi:c[p]?=some (ydj x))(hs: ∀n,n<N->∀E v,Nx Gd Obs t out vh E0 v0 E v->Obs E (out++[vof x r]) 0/\Saf Gd Obs t c n r (p+1) (out++[vof x r]) v vh qc E):Saf Gd Obs t c N r p out v0 vh qc E0:=
 yk6 hO ho hi λn hn E v hN=>⟨E,E,vh,qc,r,p+1,out++[vof x r],v, .inl rfl,⟨rfl,rfl, .inl rfl⟩,ye1 hi out,(hs n hn E v hN).1,(hs n hn E v hN).2⟩
theorem yop(hO:yj4 Obs t)(ho:Obs E0 out 0){k:Int}(hi:c[p]?=some (z88 k))(hk:k≠0)(hs: ∀E v,Nx Gd Obs t out vh E0 v0 E v->Obs E out k):Saf Gd Obs t c N r p out v0 vh qc E0:=match N with
 |0=>trivial
 |_+1=>λE v h1 h2 h3=>by
  have hN:Nx Gd Obs t out vh E0 v0 E v:=⟨h1,h2,h3,hO _ _ _ _ ho h1.hist⟩
  have e:sf1 c ⟨r,p,[],out,0⟩ v=(⟨r,((p+1:Nat):Int),[],out,k⟩,v):=ye1 hi out
  refine ⟨_,E,E,vh,qc,hi, .inl rfl,⟨rfl,rfl, .inl rfl⟩,by rw [e];exact hs E v hN,λh0=>?_⟩
  rw [e] at h0
  exact absurd h0 hk
end
section
variable{Gd:Ent->Prop}{Obs:List Ent->List Int->Int->Prop}{t:Nat}{c:List Ic}{N p:Nat}{r v0:Nat->Int}{out:List Int}{vh:Nat->Bool}{qc:Bool}{E0:List Ent}{i:Ic}
theorem yms(hO:yj4 Obs t)(ho:Obs E0 out 0){k:Int}(A:Nat)(hi:c[p]?=some (z7q d x k))(hA:wrap64 (vof x r+k)=(A:Int))(h2:A<256)(hs: ∀n,n<N->∀E v,Nx Gd Obs t out vh E0 v0 E v->∃E2,Gh t qc E E2/\Obs E2 out 0/\Saf Gd Obs t c n (setr r d (v A)) (p+1) out v vh qc E2):Saf Gd Obs t c N r p out v0 vh qc E0:=
 yk6 hO ho hi λn hn E v hN=>by
  obtain ⟨E2,g1,g2,g3⟩:=hs n hn E v hN
  refine ⟨E2,E2,vh,qc,setr r d (v A),p+1,out,v,g1,⟨rfl,rfl, .inl rfl⟩,?_,g2,g3⟩
  rw [ye1 hi]
  have:doI (z7q d x k) ⟨r,((p+1:Nat):Int),[],out,0⟩ v=(if 0<=wrap64 (vof x r+k)/\wrap64 (vof x r+k)<256 then (⟨setr r d (v (wrap64 (vof x r+k)).toNat),((p+1:Nat):Int),[],out,0⟩,v) else (⟨r,((p+1:Nat):Int),[],out,9⟩,v)):=rfl
  rw [this,hA,if_pos yue,Int.toNat_natCast]
  rfl
theorem yn5{k:Int}(A:Nat)(hi:c[p]?=some (ydi d x k y z))(hA:wrap64 (vof x r+k)=(A:Int))(h2:A<256)(v:Nat->Int):
  (v A=vof y r->sf1 c ⟨r,p,[],out,0⟩ v=(⟨setr r d 1,((p+1:Nat):Int),[],out,0⟩,z60 v A (vof z r))/\yl9 (ydi d x k y z) r v=some (A,vof z r,true))/\
  (v A≠vof y r->sf1 c ⟨r,p,[],out,0⟩ v=(⟨setr r d 0,((p+1:Nat):Int),[],out,0⟩,v)/\yl9 (ydi d x k y z) r v=none):=by
 have e1:sf1 c ⟨r,p,[],out,0⟩ v=z6y (doI (ydi d x k y z) ⟨r,((p+1:Nat):Int),[],out,0⟩ v).1 (doI (ydi d x k y z) ⟨r,((p+1:Nat):Int),[],out,0⟩ v).2:=ye1 hi out
 have e2:doI (ydi d x k y z) ⟨r,((p+1:Nat):Int),[],out,0⟩ v=(if 0<=wrap64 (vof x r+k)/\wrap64 (vof x r+k)<256 then (if v (wrap64 (vof x r+k)).toNat=vof y r then (⟨setr r d 1,((p+1:Nat):Int),[],out,0⟩,z60 v (wrap64 (vof x r+k)).toNat (vof z r)) else (⟨setr r d 0,((p+1:Nat):Int),[],out,0⟩,v)) else (⟨r,((p+1:Nat):Int),[],out,9⟩,v)):=rfl
 have ew:yl9 (ydi d x k y z) r v=if (0<=wrap64 (vof x r+k)/\wrap64 (vof x r+k)<256)/\v (wrap64 (vof x r+k)).toNat=vof y r then some ((wrap64 (vof x r+k)).toNat,vof z r,true) else none:=rfl
 rw [e1,e2,ew,hA,Int.toNat_natCast,if_pos (show 0<=(A:Int)/\(A:Int)<256 by omega)]
 refine ⟨λh=>?_,λh=>?_⟩
 ·rw [if_pos h,if_pos ⟨by omega,h⟩]
  exact ⟨rfl,rfl⟩
 ·rw [if_neg h,if_neg (λq=>h q.2)]
  exact ⟨rfl,rfl⟩
theorem yoq(hO:yj4 Obs t)(ho:Obs E0 out 0){k:Int}(a:Nat)(ha:a<6)(hi:c[p]?=some (ydi d x k y z))(hA:wrap64 (vof x r+k)=((6+a:Nat):Int))(hv:vh a=false)(hy:vof y r<4611686018427387904)(hz:vof z r=yj7 t)
  (h1: ∀n,n<N->∀E v,Nx Gd Obs t out vh E0 v0 E v->v (6+a)=(lw E a:Int)->v (6+a)=vof y r->v a=top E a->Saf Gd Obs t c n (setr r d 1) (p+1) out (z60 v (6+a) (yj7 t)) (ykp vh a) true E)
  (h0: ∀n,n<N->∀E v,Nx Gd Obs t out vh E0 v0 E v->Saf Gd Obs t c n (setr r d 0) (p+1) out v vh qc E):Saf Gd Obs t c N r p out v0 vh qc E0:=
 yk6 hO ho hi λn hn E v hN=>by
  obtain ⟨g1,g0⟩:=yn5 (out:=out) (6+a) hi hA yue v
  by_cases he:v (6+a)=vof y r
  ·obtain ⟨q1,q2⟩:=g1 he
   obtain ⟨w1,w2,_⟩:v (6+a)=(lw E a:Int)/\v a=top E a/\NoW E E.length a:=by
    rcases hN.vi.oth a ha hv with q|⟨u,hu,_,q⟩
    ·exact q
    ·rw [he] at q
     unfold yj7 at q
     omega
   refine ⟨E,E,ykp vh a,true,_,p+1,out,_, .inl rfl,?_,by rw [q1,hz],hN.obs,h1 n hn E v hN w1 he w2⟩
   rw [q2,hz]
   exact .inl ⟨a,ha,rfl,w1,rfl,rfl,rfl,rfl⟩
  ·obtain ⟨q1,q2⟩:=g0 he
   refine ⟨E,E,vh,qc,_,p+1,out,_, .inl rfl,?_,q1,hN.obs,h0 n hn E v hN⟩
   rw [q2]
   exact ⟨rfl,rfl, .inl rfl⟩
theorem yn6(hO:yj4 Obs t)(ho:Obs E0 out 0){k:Int}(hi:c[p]?=some (ybc d x k y))(hA:wrap64 (vof x r+k)=((12:Nat):Int))(hy:vof y r=1)(e:Ent)(het:e.t=t)(he0:e.s=0)(hg:Gd e)(hw: ∀a,e.wr a≠none->a<6/\vh a=true)
  (hs: ∀n,n<N->∀E v,Nx Gd Obs t out vh E0 v0 E v->Obs (E++[e]) out 0/\Saf Gd Obs t c n (setr r d (E.length:Int)) (p+1) out (z60 v 12 ((E.length:Int)+1)) vh true (E++[e])):Saf Gd Obs t c N r p out v0 vh qc E0:=
 yk6 hO ho hi λn hn E v hN=>by
  have hc:=hN.vi.clk
  have hl:=hN.len
  have e1:sf1 c ⟨r,p,[],out,0⟩ v=z6y (doI (ybc d x k y) ⟨r,((p+1:Nat):Int),[],out,0⟩ v).1 (doI (ybc d x k y) ⟨r,((p+1:Nat):Int),[],out,0⟩ v).2:=ye1 hi out
  have e2:doI (ybc d x k y) ⟨r,((p+1:Nat):Int),[],out,0⟩ v=(if 0<=wrap64 (vof x r+k)/\wrap64 (vof x r+k)<256 then (⟨setr r d (v (wrap64 (vof x r+k)).toNat),((p+1:Nat):Int),[],out,0⟩,z60 v (wrap64 (vof x r+k)).toNat (wrap64 (v (wrap64 (vof x r+k)).toNat+vof y r))) else (⟨r,((p+1:Nat):Int),[],out,9⟩,v)):=rfl
  have ew:yl9 (ybc d x k y) r v=if 0<=wrap64 (vof x r+k)/\wrap64 (vof x r+k)<256 then some ((wrap64 (vof x r+k)).toNat,wrap64 (v (wrap64 (vof x r+k)).toNat+vof y r),true) else none:=rfl
  have ex:wrap64 (v 12+1)=(E.length:Int)+1:=by rw [hc];exact w64 _ yue yue
  rw [hA,Int.toNat_natCast,if_pos yue,hy,ex] at e2 ew
  obtain ⟨g1,g2⟩:=hs n hn E v hN
  refine ⟨E,E++[e],vh,true,setr r d (E.length:Int),p+1,out,z60 v 12 ((E.length:Int)+1), .inl rfl,?_,?_,g1,g2⟩
  ·rw [ew]
   exact .inr ⟨rfl,rfl,rfl,rfl,e,het,he0,hg,hw,rfl⟩
  ·rw [e1,e2,hc]
   rfl
end
def NoP(t:Nat)(E:List Ent):Prop:=∀(k:Nat) (e:Ent),E[k]?=some e->e.t=t->e.s≠0
theorem NoP.hist{E E':List Ent}(h:NoP t E)(hh:Hist t E E'):NoP t E':=λk e he het=>by
 by_cases hl:k<E.length
 ·obtain ⟨e0,he0⟩: ∃e0,E[k]?=some e0:=⟨E[k],List.getElem?_eq_getElem hl⟩
  obtain ⟨s',w1,w2⟩:=hh.old k e0 he0
  rw [he] at w1
  have w1:=Option.some.inj w1
  rw [w1] at het⊢
  have het:e0.t=t:=het
  show s'≠0
  rcases w2 with w2|⟨w2,_⟩
  ·rw [w2];exact h k e0 he0 het
  ·exact absurd het w2
 ·exact absurd het (hh.new k e yue he)
structure Look(rv:Nat)(E:List Ent)(v:Nat->Int)(a:Nat)(d:Int):Prop where
 no:NoW E rv a
 dat:lw E a<=rv->top E a=d/\v a=d
theorem Look.env{E E':List Ent}{d:Int}(h:Look rv E v a d)(hr:EnvR t vh E v E' v')(ha:a<6)(hv:vh a=false)(hrv:rv<=E.length):Look rv E' v' a d:=by
 have hg:=hr.hist.goes
 refine ⟨hg.noW hrv h.no,λhl=>?_⟩
 have m1:lw E a<=lw E' a:=yk3 hg
 obtain ⟨h1,h2⟩:=h.dat yue
 -- nobody put there meanwhile:both lists show the same up to rv
 obtain ⟨k1,k2⟩:=hg.keep hrv h.no
 obtain ⟨s1,l1⟩:=yj5 (E:=E) a E.length rv hrv (Nat.le_trans m1 hl)
 obtain ⟨s2,l2⟩:=yj5 (E:=E') a E'.length rv (Nat.le_trans hrv hg.len) hl
 have et:top E' a=top E a:=s2.trans (k1.trans s1.symm)
 have el:lw E' a=lw E a:=l2.trans (k2.trans l1.symm)
 exact ⟨et.trans h1,(hr.dat a ha hv el (h2.trans h1.symm)).trans (et.trans h1)⟩
theorem Look.read{E:List Ent}{d:Int}(h:Look rv E v a d)(hrv:rv<=E.length)(hl:lw E a<=rv):RdOk E rv a d:=by
 obtain ⟨s1,_⟩:=yj5 (E:=E) a E.length rv hrv hl
 exact ⟨s1.symm.trans (h.dat hl).1,h.no⟩
abbrev nov:Nat->Bool:=λ_=>false
theorem yjs{x:Cx}(j:Nat)(hj:j<39):yjx x.th (x.ob+j):=by
 unfold yjx Cx.ob
 omega
section
variable{Gd:Ent->Prop}{Obs:List Ent->List Int->Int->Prop}{x:Cx}{c:List Ic}{tp N p:Nat}{r v0:Nat->Int}{out:List Int}{qc:Bool}{E0:List Ent}
structure On(x:Cx)(Obs:List Ent->List Int->Int->Prop)(out:List Int)(S:Nat->Prop)(E0:List Ent)(v0:Nat->Int)(E:List Ent)(v:Nat->Int):Prop where
 hist:Hist x.th E0 E
 own: ∀A,yjx x.th A->¬S A->v A=v0 A
 obs:Obs E out 0
theorem On.nx{E1 E:List Ent}(h:On x Obs out S E0 v0 E1 v1)(hN:Nx Gd Obs x.th out vh E1 v1 E v):On x Obs out S E0 v0 E v:=⟨h.hist.trans hN.env.hist,λA hA hS=>(hN.env.own A hA).trans (h.own A hA hS),hN.obs⟩
theorem On.refl(ho:Obs E0 out 0)(S:Nat->Prop)(v0:Nat->Int):On x Obs out S E0 v0 E0 v0:=⟨Hist.refl _ _,λ_ _ _=>rfl,ho⟩
theorem On.put{E:List Ent}(h:On x Obs out S E0 v0 E v)(hA:S A)(z:Int):On x Obs out S E0 v0 E (z60 v A z):=⟨h.hist,λB hB hS=>by rw [z7j (λe:B=A=>hS (by rw [e];exact hA))];exact h.own B hB hS,h.obs⟩
theorem On.sub{S':Nat->Prop}{E:List Ent}(h:On x Obs out S E0 v0 E v)(hs: ∀A,S A->S' A):On x Obs out S' E0 v0 E v:=⟨h.hist,λA hA hS=>h.own A hA λq=>hS (hs A q),h.obs⟩
theorem On.trans{E1 E:List Ent}{out':List Int}{Obs':List Ent->List Int->Int->Prop}(h1:On x Obs out S E0 v0 E1 v1)(h2:On x Obs' out' S E1 v1 E v)(ho:Obs E out 0):On x Obs out S E0 v0 E v:=⟨h1.hist.trans h2.hist,λA hA hS=>(h2.own A hA hS).trans (h1.own A hA hS),ho⟩
theorem ynk{E:List Ent}(hvi:VI Gd t E vh v)(hv:vh a=false)(ha:a<6)(hrv:rv<=E.length)(hl:E.length<1000000000000)(hz:v (6+a)<(rv:Int)+1):v (6+a)=(lw E a:Int)/\lw E a<=rv/\v a=top E a/\NoW E E.length a:=by
 rcases hvi.oth a ha hv with ⟨h1,h2,h3⟩|⟨u,hu,_,h1⟩
 ·refine ⟨h1,?_,h2,h3⟩
  rw [h1] at hz
  generalize lw E a=z at*
  omega
 ·rw [h1] at hz
  unfold yj7 at hz
  omega
theorem yn7(hx:x.Fit)(hO:yj4 Obs x.th){to f at' ag:Nat}{va:Vl}(hv: ∀r',(∀j,j<4->r' j=r j)->vof va r'=(at':Int))(ha:f+at'<6)(h:Cod c tp p (x.qRead to va f ag))(ho:Obs E0 out 0)(hrv:rv<=E0.length)(h6:r 6=(rv:Int)+1)
  (again: ∀n,n<N->∀E v r',On x Obs out (λ_=>False) E0 v0 E v->(∀j,j≠4->j≠5->r' j=r j)->Saf Gd Obs x.th c n r' ag out v nov qc E)
  (ok: ∀n,n<N->∀E v r' d,On x Obs out (λA=>A=x.ob+(12+(f+at'))) E0 v0 E v->v (x.ob+(12+(f+at')))=1->RdOk E rv (f+at') d->r' to=d->(∀j,j≠4->j≠5->j≠to->r' j=r j)->Saf Gd Obs x.th c n r' (p+9) out v nov qc E):
  Saf Gd Obs x.th c N r p out v0 nov qc E0:=by
 have hob:=z9l hx
 unfold Cx.qRead at h
 obtain ⟨c0,h⟩:=h.at
 obtain ⟨c1,h⟩:=h.at
 obtain ⟨c2,h⟩:=h.at
 obtain ⟨c3,h⟩:=h.at
 obtain ⟨c4,h⟩:=h.at
 obtain ⟨c5,h⟩:=h.at
 obtain ⟨c6,h⟩:=h.at
 obtain ⟨c7,h⟩:=h.at
 obtain ⟨c8,h⟩:=h.at
 refine yj3 hO ho (6+(f+at')) c0 (adr _ (by rw [hv r λ_ _=>rfl];omega) yue) yue λn1 g1 E1 w1 N1=>?_
 have O1:On x Obs out (λ_=>False) E0 v0 E1 w1:=(On.refl ho _ v0).nx N1
 have l1:rv<=E1.length:=Nat.le_trans hrv O1.hist.len
 refine ynw hO N1.obs c1 λn2 g2 E2 w2 N2=>?_
 have O2:=O1.nx N2
 rw [z7u,z7u,z7m,z7g (show 6≠4 by decide),h6]
 by_cases z1:w1 (6+(f+at'))<(rv:Int)+1
 ·obtain ⟨_,_,q3,q4⟩:=ynk N1.vi rfl ha l1 N1.len z1
  have k1:Look rv E1 w1 (f+at') (top E1 (f+at')):=⟨λj e hj he hs=>q4 j e yue he hs,λ_=>⟨rfl,q3⟩⟩
  generalize top E1 (f+at')=d at k1
  have k2:=k1.env N2.env ha rfl l1
  rw [if_pos z1]
  refine ykr hO N2.obs c2 yu2 λn3 g3 E3 w3 N3=>?_
  have O3:=O2.nx N3
  have l2:rv<=E2.length:=Nat.le_trans hrv O2.hist.len
  have k3:=k2.env N3.env ha rfl l2
  have e1: ∀j,j≠4->setr (setr r 4 (w1 (6+(f+at')))) 4 1 j=r j:=λj hj=>by rw [z7g hj,z7g hj]
  generalize setr (setr r 4 (w1 (6+(f+at')))) 4 1=r1 at*
  refine yj3 hO N3.obs (f+at') c3 (adr _ (by rw [hv r1 λj hj=>e1 j yue];omega) yue) yue λn4 g4 E4 w4 N4=>?_
  have O4:=O3.nx N4
  have l3:rv<=E3.length:=Nat.le_trans hrv O3.hist.len
  have k4:=k3.env N4.env ha rfl l3
  have l4:rv<=E4.length:=Nat.le_trans hrv O4.hist.len
  have d5:setr r1 5 (w4 (f+at')) 5=w4 (f+at'):=z7m _ _ _
  have e2: ∀j,j≠4->j≠5->setr r1 5 (w4 (f+at')) j=r j:=λj h4 h5=>by rw [z7g h5,e1 j h4]
  generalize setr r1 5 (w4 (f+at'))=r2 at*
  refine yj3 hO N4.obs (6+(f+at')) c4 (adr _ (by rw [hv r2 λj hj=>e2 j yue yue];omega) yue) yue λn5 g5 E5 w5 N5=>?_
  have O5:=O4.nx N5
  have k5:=k4.env N5.env ha rfl l4
  have l5:rv<=E5.length:=Nat.le_trans hrv O5.hist.len
  refine ynw hO N5.obs c5 λn6 g6 E6 w6 N6=>?_
  have O6:=O5.nx N6
  rw [z7u,z7u,z7m,z7g (show 6≠4 by decide),e2 6 yuh yuh,h6]
  by_cases z2:w5 (6+(f+at'))<(rv:Int)+1
  ·obtain ⟨_,q2,_,_⟩:=ynk N5.vi rfl ha l5 N5.len z2
   have rd5:RdOk E5 rv (f+at') d:=k5.read l5 q2
   have hd:r2 5=d:=by
    rw [d5]
    exact (k4.dat (Nat.le_trans (yk3 N5.env.hist.goes) q2)).2
   rw [if_pos z2]
   refine ykr hO N6.obs c6 yu2 λn7 g7 E7 w7 N7=>?_
   have O7:=O6.nx N7
   have e3: ∀j,j≠4->setr (setr r2 4 (w5 (6+(f+at')))) 4 1 j=r2 j:=λj h4=>by rw [z7g h4,z7g h4]
   generalize setr (setr r2 4 (w5 (6+(f+at')))) 4 1=r3 at*
   refine ykw hO N7.obs (x.ob+(12+(f+at'))) c7 (adr _ (by rw [hv r3 λj hj=>by rw [e3 j yue,e2 j yue yue],yaw];omega) yue) yue (yjs _ yue) λn8 g8 E8 w8 N8=>?_
   have O8:=((O7.nx N8).sub (S':=λA=>A=x.ob+(12+(f+at'))) (λ_ q=>q.elim)).put (A:=x.ob+(12+(f+at'))) rfl (vof (Nm 1) r3)
   refine yni hO N8.obs c8 λn9 g9 E9 w9 N9=>?_
   have O9:=O8.nx N9
   refine ok n9 yue E9 w9 _ d O9 ?_ ?_ (by rw [z7m,z7u,e3 5 yuh];exact hd) λj h4 h5 ht=>by rw [z7g ht,e3 j h4,e2 j h4 h5]
   ·rw [N9.env.own _ (yjs _ yue),z9e]
    rfl
   ·have l6:rv<=E6.length:=Nat.le_trans hrv O6.hist.len
    have l7:rv<=E7.length:=Nat.le_trans hrv O7.hist.len
    have l8:rv<=E8.length:=Nat.le_trans hrv (O7.nx N8).hist.len
    exact ((((rd5.goes N6.env.hist.goes l5).goes N7.env.hist.goes l6).goes N8.env.hist.goes l7).goes N9.env.hist.goes l8)
  ·rw [if_neg z2]
   exact ykq hO N6.obs c6 yuz λn7 g7 E7 w7 N7=>again n7 yue E7 w7 _ (O6.nx N7) λj h4 h5=>by rw [z7g h4,z7g h4,e2 j h4 h5]
 ·rw [if_neg z1]
  exact ykq hO N2.obs c2 yuz λn3 g3 E3 w3 N3=>again n3 yue E3 w3 _ (O2.nx N3) λj h4 _=>by rw [z7g h4,z7g h4]
end
theorem ymb(x:Cx):13<=x.ob:=by unfold Cx.ob;omega
def ykz(t:Nat)(E:List Ent):Nat->List Ent
 |0=>[]
 |n+1=>ykz t E n++(match E[n]? with|some e=>if e.t=t/\e.com then [e] else []|none=>[])
def yjy(t:Nat)(E:List Ent):List Ent:=ykz t E E.length
theorem ykk{E E':List Ent}: ∀n,(∀j,j<n->E'[j]?=E[j]?\/ ∃e e',E[j]?=some e/\E'[j]?=some e'/\ ¬(e.t=t/\e.com)/\ ¬(e'.t=t/\e'.com))->ykz t E' n=ykz t E n
 |0,_=>rfl
 |n+1,h=>by
  simp only [ykz]
  rw [ykk n λj hj=>h j yue]
  rcases h n yue with q|⟨e,e',q1,q2,q3,q4⟩
  ·rw [q]
  ·rw [q1,q2]
   simp only
   rw [if_neg q3,if_neg q4]
theorem yj9{E:List Ent}: ∀m n,(∀j e,n<=j->E[j]?=some e->¬(e.t=t/\e.com))->ykz t E (n+m)=ykz t E n
 |0,_,_=>rfl
 |m+1,n,h=>by
  show ykz t E (n+m+1)=_
  simp only [ykz]
  rw [yj9 m n h]
  cases e:E[n+m]? with
  |none=>simp
  |some e'=>simp only;rw [if_neg (h _ e' yue e)];simp
theorem yjt{E E':List Ent}(h:Hist t E E'):yjy t E'=yjy t E:=by
 unfold yjy
 have hl:=h.len
 obtain ⟨m,hm⟩: ∃m,E'.length=E.length+m:=⟨E'.length- E.length,by omega⟩
 rw [hm,yj9 m E.length λj e hj he q=>h.new j e hj he q.1]
 refine ykk _ λj hj=>?_
 obtain ⟨e0,he0⟩: ∃e0,E[j]?=some e0:=⟨E[j],List.getElem?_eq_getElem hj⟩
 obtain ⟨s',w1,w2⟩:=h.old j e0 he0
 rcases w2 with w2|⟨w2,_⟩
 ·exact .inl (by rw [w1,he0,w2])
 ·exact .inr ⟨e0,_,he0,w1,λq=>w2 q.1,λq=>w2 q.1⟩
theorem ylh{e:Ent}{E:List Ent}(hk:E[k]?=some e)(h0:e.s=0):yjy t (E.set k {e with s:=2})=yjy t E:=by
 unfold yjy
 rw [ykm]
 refine ykk _ λj _=>?_
 by_cases hj:j=k
 ·subst hj
  exact .inr ⟨e,_,hk,List.getElem?_set_self (List.getElem?_eq_some_iff.1 hk).1,λq=>(by rcases q.2 with w|w<;>omega),λq=>(by rcases q.2 with w|w<;>simp at w)⟩
 ·exact .inl (List.getElem?_set_ne λq=>hj q.symm)
theorem yl2{e:Ent}{E:List Ent}(h0:e.s=0):yjy t (E++[e])=yjy t E:=by
 unfold yjy
 rw [List.length_append,List.length_singleton]
 rw [yj9 1 E.length λj e' hj he q=>?_]
 ·exact ykk _ λj hj=> .inl (List.getElem?_append_left hj)
 ·by_cases hl:j=E.length
  ·subst hl
   rw [List.getElem?_append_right (Nat.le_refl _)] at he
   simp at he
   have:=q.2
   rw [<-he] at this
   rcases this with w|w<;>omega
  ·rw [List.getElem?_eq_none yuj] at he
   cases he
theorem ynl{e:Ent}{E:List Ent}(hk:E[k]?=some e)(h0:e.s=0)(ht:e.t=t)(hl: ∀(j:Nat) (e':Ent),k<j->E[j]?=some e'->e'.t≠t):yjy t (E.set k {e with s:=3})=yjy t E++[{e with s:=3}]:=by
 have hlt:=(List.getElem?_eq_some_iff.1 hk).1
 have g: ∀(j:Nat),j≠k->(E.set k {e with s:=3})[j]?=E[j]?:=λj hj=>List.getElem?_set_ne λq=>hj q.symm
 unfold yjy
 rw [ykm]
 obtain ⟨m,hm⟩: ∃m,E.length=(k+1)+m:=⟨E.length- (k+1),by omega⟩
 rw [hm,yj9 m (k+1) λj e' hj he q=>hl j e' yue (by rw [<-g j yue];exact he) q.1,yj9 m (k+1) λj e' hj he q=>hl j e' yue he q.1]
 simp only [ykz]
 rw [ykk (E:=E) k λj hj=> .inl (g j yue),List.getElem?_set_self hlt,hk]
 simp only
 rw [if_pos ⟨ht, .inr rfl⟩,if_neg (λq=>by rcases q.2 with w|w<;>omega)]
 simp
structure LkI(x:Cx)(rv:Nat)(o:List Ent)(W:Nat->Option Int)(vb:Nat->Int)(vh:Nat->Bool)(E:List Ent)(v:Nat->Int):Prop where
 rvl:rv<=E.length
 ow:yjy x.th E=o
 own: ∀A,yjx x.th A->(∀a,a<6->A≠x.ob+(18+a))->v A=vb A
 lk: ∀a,vh a=true->a<6/\W a≠none/\lw E a<=rv/\v a=top E a/\v (x.ob+(18+a))=(lw E a:Int)
section
variable{Gd:Ent->Prop}{Obs:List Ent->List Int->Int->Prop}{x:Cx}{c:List Ic}{tp N p rv:Nat}{o:List Ent}{r v0 vb:Nat->Int}{out:List Int}{vh:Nat->Bool}{qc:Bool}{E0:List Ent}{W:Nat->Option Int}
theorem LkI.env{E:List Ent}(h:LkI x rv o W vb vh E0 v0)(hN:EnvR x.th vh E0 v0 E v):LkI x rv o W vb vh E v:=by
 refine ⟨Nat.le_trans h.rvl hN.hist.len,(yjt hN.hist).trans h.ow,λA hA hn=>(hN.own A hA).trans (h.own A hA hn),λa ha=>?_⟩
 obtain ⟨h1,h2,h3,h4,h5⟩:=h.lk a ha
 obtain ⟨q1,_,q3,q4⟩:=hN.held a h1 ha
 exact ⟨h1,h2,by rw [q4];exact h3,by rw [q1,q3];exact h4,by rw [hN.own _ (yjs _ yue),q4];exact h5⟩
theorem yn8(hx:x.Fit)(hO:yj4 Obs x.th)(hi:i<6)(h:Cod c tp p (x.qLock (uJz up) i p))(ho:Obs E0 out 0)(h6:r 6=(rv:Int)+1)(hL:LkI x rv o W vb vh E0 v0)(hv:vh i=false)(hW:vb (x.ob+(6+i))=0↔W i=none)
  (undo: ∀n,n<N->∀E v r' qc',LkI x rv o W vb vh E v->Hist x.th E0 E->Obs E out 0->(∀j,j≠4->j≠5->r' j=r j)->Saf Gd Obs x.th c n r' up out v vh qc' E)
  (ok: ∀n,n<N->∀E v r' vh' qc',LkI x rv o W vb vh' E v->Hist x.th E0 E->Obs E out 0->(∀j,j≠4->j≠5->r' j=r j)->(∀a,a≠i->vh' a=vh a)->(vh' i=true↔W i≠none)->Saf Gd Obs x.th c n r' (p+8) out v vh' qc' E):
  Saf Gd Obs x.th c N r p out v0 vh qc E0:=by
 have hob:=z9l hx
 have hge:=ymb x
 unfold Cx.qLock at h
 obtain ⟨c0,h⟩:=h.at
 obtain ⟨c1,h⟩:=h.at
 obtain ⟨c2,h⟩:=h.at
 obtain ⟨c3,h⟩:=h.at
 obtain ⟨c4,h⟩:=h.at
 obtain ⟨c5,h⟩:=h.at
 obtain ⟨c6,h⟩:=h.at
 obtain ⟨c7,h⟩:=h.at
 refine yj3 hO ho (x.ob+(6+i)) c0 (adr _ yuu yue) yue λn1 g1 E1 w1 N1=>?_
 have L1:=hL.env N1.env
 have b1:w1 (x.ob+(6+i))=vb (x.ob+(6+i)):=L1.own _ (yjs _ yue) λa ha=>by omega
 by_cases z0:vb (x.ob+(6+i))=0
 ·refine ykq hO N1.obs c1 yvc λn2 g2 E2 w2 N2=>?_
  exact ok n2 yue E2 w2 _ vh qc (L1.env N2.env) (N1.env.hist.trans N2.env.hist) N2.obs (λj h4 _=>z7g h4) (λ_ _=>rfl) ⟨λq=>(by rw [hv] at q;cases q),λq=>absurd (hW.1 z0) q⟩
 ·refine ykr hO N1.obs c1 yvc λn2 g2 E2 w2 N2=>?_
  have H2:=N1.env.hist.trans N2.env.hist
  have L2:=L1.env N2.env
  have e1: ∀j,j≠4->setr r 4 (w1 (x.ob+(6+i))) j=r j:=λj hj=>z7g hj
  generalize setr r 4 (w1 (x.ob+(6+i)))=r1 at*
  refine yj3 hO N2.obs (6+i) c2 (adr _ yu3 yue) yue λn3 g3 E3 w3 N3=>?_
  have H3:=H2.trans N3.env.hist
  have L3:=L2.env N3.env
  generalize w3 (6+i)=z
  refine ynw hO N3.obs c3 λn4 g4 E4 w4 N4=>?_
  have H4:=H3.trans N4.env.hist
  have L4:=L3.env N4.env
  rw [z7u,z7u,z7m,z7g (show 6≠5 by decide),e1 6 yuh,h6]
  by_cases z1:z<(rv:Int)+1
  ·rw [if_pos z1]
   refine ykr hO N4.obs c4 yu2 λn5 g5 E5 w5 N5=>?_
   have H5:=H4.trans N5.env.hist
   have L5:=L4.env N5.env
   have d5:setr (setr r1 5 z) 4 1 5=z:=by rw [z7g yuh,z7m]
   have e2: ∀j,j≠4->j≠5->setr (setr r1 5 z) 4 1 j=r j:=λj h4 h5=>by rw [z7g h4,z7g h5,e1 j h4]
   generalize setr (setr r1 5 z) 4 1=r2 at*
   refine ykw hO N5.obs (x.ob+(18+i)) c5 (adr _ yuu yue) yue (yjs _ yue) λn6 g6 E6 w6 N6=>?_
   have H6:=H5.trans N6.env.hist
   have L6':=L5.env N6.env
   have l6:=N6.len
   rw [z7u,d5]
   have L6:LkI x rv o W vb vh E6 (z60 w6 (x.ob+(18+i)) z):=by
    refine ⟨L6'.rvl,L6'.ow,λA hA hn=>by rw [z7j (hn i hi)];exact L6'.own A hA hn,λa ha=>?_⟩
    obtain ⟨q1,q2,q3,q4,q5⟩:=L6'.lk a ha
    have hne:a≠i:=λe=>by rw [e,hv] at ha;cases ha
    exact ⟨q1,q2,q3,by rw [z7j yue];exact q4,by rw [z7j yue];exact q5⟩
   have s6:z60 w6 (x.ob+(18+i)) z (x.ob+(18+i))=z:=z9e _ _ _
   generalize z60 w6 (x.ob+(18+i)) z=u6 at*
   have rl:=L6.rvl
   refine yoq hO N6.obs i hi c6 (adr _ yu3 yue) hv (by rw [z7u,d5];omega) (by rw [z70];rfl) (λn7 g7 E7 w7 N7 q1 q2 q3=>?_) λn7 g7 E7 w7 N7=>?_
   ·have H7:=H6.trans N7.env.hist
    have L7':=L6.env N7.env
    have s7:w7 (x.ob+(18+i))=z:=(N7.env.own _ (yjs _ yue)).trans s6
    rw [z7u,d5] at q2
    have zl:z=(lw E7 i:Int):=q2.symm.trans q1
    have L7:LkI x rv o W vb (ykp vh i) E7 (z60 w7 (6+i) (yj7 x.th)):=by
     refine ⟨L7'.rvl,L7'.ow,λA hA hn=>by rw [z7j (λe=>by have:=hA.1;omega)];exact L7'.own A hA hn,λa ha=>?_⟩
     by_cases e:a=i
     ·subst e
      refine ⟨hi,λe=>z0 (hW.2 e),?_,by rw [z7j yue];exact q3,by rw [z7j yue,s7];exact zl⟩
      rw [zl] at z1
      generalize lw E7 a=y at*
      omega
     ·rw [ykt e] at ha
      obtain ⟨q1,q2,q3,q4,q5⟩:=L7'.lk a ha
      exact ⟨q1,q2,q3,by rw [z7j yue];exact q4,by rw [z7j yue];exact q5⟩
    refine ykr hO N7.obs c7 yu2 λn8 g8 E8 w8 N8=>?_
    exact ok n8 yue E8 w8 _ _ true (L7.env N8.env) (H7.trans N8.env.hist) N8.obs (λj h4 h5=>by rw [z7g h4,e2 j h4 h5]) (λa ha=>ykt ha) ⟨λ_ e=>z0 (hW.2 e),λ_=>ylz _ _⟩
   ·refine ykq hO N7.obs c7 yuz λn8 g8 E8 w8 N8=>?_
    exact undo n8 yue E8 w8 _ _ ((L6.env N7.env).env N8.env) ((H6.trans N7.env.hist).trans N8.env.hist) N8.obs λj h4 h5=>by rw [z7g h4,e2 j h4 h5]
  ·rw [if_neg z1]
   refine ykq hO N4.obs c4 yuz λn5 g5 E5 w5 N5=>?_
   exact undo n5 yue E5 w5 _ _ (L4.env N5.env) (H4.trans N5.env.hist) N5.obs λj h4 h5=>by rw [z7g h4,z7g h5,e1 j h4]
end
section
variable{Gd:Ent->Prop}{Obs:List Ent->List Int->Int->Prop}{t:Nat}{c:List Ic}{tp:Nat}{out:List Int}
theorem yko{q:Nat->Nat->List Kd}{F:Nat->Bool}{I:Nat->(Nat->Int)->List Ent->(Nat->Int)->(Nat->Bool)->Bool->Prop}{N0:Nat}
  (skip: ∀i r E v vh qc,F i=false->I i r E v vh qc->I (i+1) r E v vh qc)
  (step: ∀i p N r E v vh qc,i<6->F i=true->N<=N0->Cod c tp p (q i p)->I i r E v vh qc->(∀n,n<N->∀r' E' v' vh' qc',I (i+1) r' E' v' vh' qc'->Saf Gd Obs t c n r' (p+(q i p).length) out v' vh' qc' E')->Saf Gd Obs t c N r p out v vh qc E):
  ∀(l:List Bool) (i p N:Nat) (r:Nat->Int) (E:List Ent) (v:Nat->Int) (vh:Nat->Bool) (qc:Bool),i+l.length<=6->(∀j,j<l.length->F (i+j)=bAt l j)->N<=N0->Cod c tp p (z7l q l i p)->I i r E v vh qc ->
   (∀n,n<=N->∀r' E' v' vh' qc',I (i+l.length) r' E' v' vh' qc'->Saf Gd Obs t c n r' (p+(z7l q l i p).length) out v' vh' qc' E')->Saf Gd Obs t c N r p out v vh qc E
 |[],_,_,N,r,E,v,vh,qc,_,_,_,_,hI,hn=>hn N (Nat.le_refl _) r E v vh qc hI
 |b::l,i,p,N,r,E,v,vh,qc,hb,hF,hN,h,hI,hn=>by
  simp only [List.length_cons] at hb hn
  simp only [z7l] at h hn
  have hF': ∀j,j<l.length->F (i+1+j)=bAt l j:=λj hj=>by
   have:=hF (j+1) yup
   rw [show i+1+j=i+(j+1) by omega]
   exact this
  have hF0:F i=b:=hF 0 yuf
  rw [show i+(l.length+1)=i+1+l.length by omega] at hn
  cases b with
  |false=>
   rw [if_neg yuh] at h hn
   simp only [List.nil_append,List.length_nil,Nat.add_zero] at h hn
   exact yko skip step l (i+1) p N r E v vh qc yue hF' hN h (skip _ _ _ _ _ _ hF0 hI) hn
  |true=>
   rw [if_pos rfl] at h hn
   obtain ⟨h0,h⟩:=h.app
   rw [List.length_append] at hn
   refine step i p N r E v vh qc yue hF0 hN h0 hI λn1 g1 r1 E1 v1 vh1 qc1 hI1=>?_
   refine yko skip step l (i+1) _ n1 r1 E1 v1 vh1 qc1 yue hF' yue h hI1 λn g r' E' v' vh' qc' hI'=>?_
   rw [Nat.add_assoc]
   exact hn n yue r' E' v' vh' qc' hI'
end
def Op(t k:Nat)(e:Ent)(E:List Ent):Prop:=E[k]?=some e/\e.t=t/\e.s=0/\ ∀(k':Nat) (e':Ent),k'≠k->E[k']?=some e'->e'.t=t->e'.s≠0/\k'<k
theorem Op.hist{e:Ent}{E E':List Ent}(h:Op t k e E)(hh:Hist t E E'):Op t k e E':=by
 obtain ⟨h1,h2,h3,h4⟩:=h
 have own: ∀(j:Nat) (e':Ent),E'[j]?=some e'->e'.t=t->E[j]?=some e':=λj e' he het=>by
  by_cases hl:j<E.length
  ·obtain ⟨e0,he0⟩: ∃e0,E[j]?=some e0:=⟨E[j],List.getElem?_eq_getElem hl⟩
   obtain ⟨s',w1,w2⟩:=hh.old j e0 he0
   rw [he] at w1
   have w1:=Option.some.inj w1
   rw [w1] at het⊢
   have het:e0.t=t:=het
   rcases w2 with w2|⟨w2,_⟩
   ·rw [w2,he0]
   ·exact absurd het w2
  ·exact absurd het (hh.new j e' yue he)
 refine ⟨?_,h2,h3,λk' e' hk he het=>h4 k' e' hk (own k' e' he het) het⟩
 obtain ⟨s',w1,w2⟩:=hh.old k e h1
 rcases w2 with w2|⟨w2,_⟩
 ·rw [w1,w2]
 ·exact absurd h2 w2
theorem Op.done{e:Ent}{E:List Ent}(h:Op t k e E){s:Nat}(hs:s≠0):NoP t (E.set k {e with s:=s}):=λj e' he het=>by
 obtain ⟨h1,h2,h3,h4⟩:=h
 by_cases hj:j=k
 ·subst hj
  rw [List.getElem?_set_self (List.getElem?_eq_some_iff.1 h1).1] at he
  rw [<-Option.some.inj he]
  exact hs
 ·rw [List.getElem?_set_ne (λq=>hj q.symm)] at he
  exact (h4 j e' hj he het).1
def ynx(Obs:List Ent->List Int->Int->Prop)(t:Nat):Prop:=∀E k e out,E[k]?=some e->e.t=t->e.s=0->Obs E out 0->Obs (E.set k {e with s:=2}) out 0
section
variable{Gd:Ent->Prop}{Obs:List Ent->List Int->Int->Prop}{x:Cx}{c:List Ic}{tp N p rv:Nat}{o:List Ent}{r v0 vb:Nat->Int}{out:List Int}{vh:Nat->Bool}{qc:Bool}{E0:List Ent}{W:Nat->Option Int}
theorem LkI.abort(h:LkI x rv o W vb vh E0 v0){e:Ent}(hk:E0[k]?=some e)(h0:e.s=0):LkI x rv o W vb vh (E0.set k {e with s:=2}) v0:=by
 have hc:({e with s:=2}:Ent).com↔e.com:=by unfold Ent.com;rw [h0];simp
 have g: ∀a,top (E0.set k {e with s:=2}) a=top E0 a/\lw (E0.set k {e with s:=2}) a=lw E0 a:=λa=>by
  have:=yk4 hk hc a E0.length
  unfold top lw
  rw [ykm]
  exact this
 refine ⟨by rw [ykm];exact h.rvl,(ylh hk h0).trans h.ow,h.own,λa ha=>?_⟩
 rw [(g a).1,(g a).2]
 exact h.lk a ha
theorem ym6(hx:x.Fit)(hO:yj4 Obs x.th)(hi:i<6)(h:Cod c tp p (x.qUnlock i p))(ho:Obs E0 out 0)(hA:ynx Obs x.th)(hL:LkI x rv o W vb vh E0 v0)(hP:NoP x.th E0\/ ∃k e,Op x.th k e E0)
  (ok: ∀n,n<N->∀E v r' vh' qc',LkI x rv o W vb vh' E v->NoP x.th E->Obs E out 0->(∀j,j≠4->r' j=r j)->(∀a,vh' a=true->vh a=true/\a≠i)->Saf Gd Obs x.th c n r' (p+5) out v vh' qc' E):
  Saf Gd Obs x.th c N r p out v0 vh qc E0:=by
 have hob:=z9l hx
 have hge:=ymb x
 have hth:=hx.t
 unfold Cx.qUnlock at h
 obtain ⟨c0,h⟩:=h.at
 obtain ⟨c1,h⟩:=h.at
 obtain ⟨c2,h⟩:=h.at
 obtain ⟨c3,h⟩:=h.at
 obtain ⟨c4,h⟩:=h.at
 refine yms hO ho (6+i) c0 (adr _ yu3 yue) yue λn1 g1 E1 w1 N1=>?_
 have l1:=N1.len
 obtain ⟨F1,hG,o1,L1,P1⟩: ∃F1,Gh x.th qc E1 F1/\Obs F1 out 0/\LkI x rv o W vb vh F1 w1/\NoP x.th F1:=by
  rcases hP with hP|⟨k,e,hP⟩
  ·exact ⟨E1, .inl rfl,N1.obs,hL.env N1.env,hP.hist N1.env.hist⟩
  ·have hP:=hP.hist N1.env.hist
   obtain ⟨q1,q2,q3,_⟩:=id hP
   exact ⟨E1.set k {e with s:=2}, .inr ⟨k,e,q1,q2,q3, .inl rfl⟩,hA _ _ _ _ q1 q2 q3 N1.obs,(hL.env N1.env).abort q1 q3,hP.done yuh⟩
 refine ⟨F1,hG,o1,?_⟩
 refine yoy hO o1 c1 λn2 g2 E2 w2 N2=>?_
 have L2:=L1.env N2.env
 have P2:=P1.hist N2.env.hist
 rw [z7u,z70,z7m]
 by_cases hv:vh i=true
 ·have e0:w1 (6+i)=9223372036854775807- (x.th:Int):=(N1.vi.held i hi hv).1
  rw [if_pos e0]
  refine ykr hO N2.obs c2 yu2 λn3 g3 E3 w3 N3=>?_
  have L3:=L2.env N3.env
  have P3:=P2.hist N3.env.hist
  have e1: ∀j,j≠4->setr (setr r 4 (w1 (6+i))) 4 1 j=r j:=λj hj=>by rw [z7g hj,z7g hj]
  generalize setr (setr r 4 (w1 (6+i))) 4 1=r1 at*
  refine yj3 hO N3.obs (x.ob+(18+i)) c3 (adr _ yuu yue) yue λn4 g4 E4 w4 N4=>?_
  have L4:=L3.env N4.env
  have P4:=P3.hist N4.env.hist
  obtain ⟨_,_,_,q4,q5⟩:=L4.lk i hv
  have d4:setr r1 4 (w4 (x.ob+(18+i))) 4=(lw E4 i:Int):=by rw [z7m];exact q5
  have e2: ∀j,j≠4->setr r1 4 (w4 (x.ob+(18+i))) j=r j:=λj hj=>by rw [z7g hj,e1 j hj]
  generalize setr r1 4 (w4 (x.ob+(18+i)))=r2 at*
  refine yn4 hO N4.obs i hi c4 (adr _ yu3 yue) hv (by rw [z7u];exact d4) q4 (λk e he hs het=>absurd hs (P4 k e he het)) λn5 g5 E5 w5 N5=>?_
  have L5:=L4.env N5.env
  refine ok n5 yue E5 _ r2 (yj2 vh i) false ⟨L5.rvl,L5.ow,λA hA hn=>by rw [z7j (λe=>by have:=hA.1;omega)];exact L5.own A hA hn,λa ha=>?_⟩ (P4.hist N5.env.hist) N5.obs e2 λa ha=>yj1 ha
  obtain ⟨q1,q2,q3,q4,q5⟩:=L5.lk a (yj1 ha).1
  exact ⟨q1,q2,q3,by rw [z7j yue];exact q4,by rw [z7j yue];exact q5⟩
 ·have hv0:vh i=false:=by simpa using hv
  have e0: ¬w1 (6+i)=9223372036854775807- (x.th:Int):=λe=>by
   rcases N1.vi.oth i hi hv0 with ⟨q,_⟩|⟨u,hu,hne,q⟩
   ·have:=ykg E1 i E1.length
    rw [e] at q
    unfold lw at q
    generalize yjz E1 E1.length i=y at*
    omega
   ·rw [e] at q
    unfold yj7 at q
    omega
  rw [if_neg e0]
  refine ykq hO N2.obs c2 yuz λn3 g3 E3 w3 N3=>?_
  exact ok n3 yue E3 w3 _ vh qc (L2.env N3.env) (P2.hist N3.env.hist) N3.obs (λj hj=>by rw [z7g hj,z7g hj]) λa ha=>⟨ha,λe=>by rw [e,hv0] at ha;cases ha⟩
end
section
variable{Gd:Ent->Prop}{Obs:List Ent->List Int->Int->Prop}{x:Cx}{c:List Ic}{tp N p rv:Nat}{o:List Ent}{r v0 vb:Nat->Int}{out:List Int}{vh:Nat->Bool}{qc:Bool}{E0:List Ent}{W:Nat->Option Int}
theorem yoz(hx:x.Fit)(hO:yj4 Obs x.th)(hA:ynx Obs x.th){k:Bk}(hk:k.puts.length=6)(h:Cod c tp p (x.qUn k p))(ho:Obs E0 out 0)(hL:LkI x rv o W vb vh E0 v0)(hP:NoP x.th E0\/ ∃k e,Op x.th k e E0)(hvh: ∀a,vh a=true->bAt k.puts a=true)(hne: ∃i,i<6/\bAt k.puts i=true)
  (again: ∀n,n<=N->∀E v r' qc',LkI x rv o W vb nov E v->NoP x.th E->Obs E out 0->(∀j,j≠4->r' j=r j)->Saf Gd Obs x.th c n r' k.again out v nov qc' E):
  Saf Gd Obs x.th c N r p out v0 vh qc E0:=by
 unfold Cx.qUn at h
 obtain ⟨h0,h⟩:=h.app
 obtain ⟨c1,_⟩:=h.at
 refine yko (I:=λi r' E v vh' _=>LkI x rv o W vb vh' E v/\Obs E out 0/\(∀j,j≠4->r' j=r j)/\(∀a,vh' a=true->bAt k.puts a=true/\i<=a)/\(NoP x.th E\/((∃k e,Op x.th k e E)/\ ∀j,j<i->bAt k.puts j=false))) (F:=bAt k.puts) (N0:=N) ?_ ?_ k.puts 0 p N r E0 v0 vh qc yue (λj _=>by rw [Nat.zero_add]) (Nat.le_refl _) h0 ⟨hL,ho,λ_ _=>rfl,λa ha=>⟨hvh a ha,Nat.zero_le _⟩,hP.imp id λq=>⟨q,λj hj=>absurd hj (Nat.not_lt_zero j)⟩⟩ ?_
 ·intro i r1 E v vh1 _ hF hI
  obtain ⟨q1,q2,q3,q4,q5⟩:=hI
  refine ⟨q1,q2,q3,λa ha=>?_,q5.imp id λq=>⟨q.1,λj hj=>?_⟩⟩
  ·obtain ⟨w1,w2⟩:=q4 a ha
   refine ⟨w1,?_⟩
   have:a≠i:=λe=>by rw [e,hF] at w1;cases w1
   omega
  ·by_cases e:j=i
   ·rw [e];exact hF
   ·exact q.2 j yue
 ·intro i p1 N1 r1 E v vh1 qc1 hi hF hN h1 hI hn
  obtain ⟨q1,q2,q3,q4,q5⟩:=hI
  refine ym6 hx hO hi h1 q2 hA q1 (q5.imp id λq=>q.1) λn g E' v' r' vh' qc' w1 w2 w3 w4 w5=>?_
  refine hn n g r' E' v' vh' qc' ⟨w1,w3,λj hj=>(w4 j hj).trans (q3 j hj),λa ha=>?_, .inl w2⟩
  obtain ⟨z1,z2⟩:=w5 a ha
  obtain ⟨z3,z4⟩:=q4 a z1
  exact ⟨z3,by omega⟩
 ·intro n g r1 E v vh1 qc1 hI
  obtain ⟨q1,q2,q3,q4,q5⟩:=hI
  rw [hk] at q4 q5
  have e:vh1=nov:=funext λa=>by
   cases ha:vh1 a with
   |false=>rfl
   |true=>
    have:=(q1.lk a ha).1
    have:=(q4 a ha).2
    omega
  subst e
  have hP:NoP x.th E:=by
   rcases q5 with q5|⟨_,q5⟩
   ·exact q5
   ·obtain ⟨i,hi,hb⟩:=hne
    rw [q5 i yue] at hb
    cases hb
  refine ymr hO q2 c1 λn2 g2 E2 w2 N2=>?_
  exact again n2 yue E2 w2 r1 qc1 (q1.env N2.env) (hP.hist N2.env.hist) N2.obs q3
theorem ynm(hx:x.Fit)(hO:yj4 Obs x.th){k:Bk}(hk:k.puts.length=6)(h:Cod c tp p (z7l (x.qLock (uJz up)) k.puts 0 p))(ho:Obs E0 out 0)(h6:r 6=(rv:Int)+1)(hL:LkI x rv o W vb nov E0 v0)(hW1: ∀a,a<6->bAt k.puts a=true->(vb (x.ob+(6+a))=0↔W a=none))(hW0: ∀a,bAt k.puts a=false->W a=none)
  (undo: ∀n,n<N->∀E v r' vh' qc',LkI x rv o W vb vh' E v->Hist x.th E0 E->Obs E out 0->(∀j,j≠4->j≠5->r' j=r j)->Saf Gd Obs x.th c n r' up out v vh' qc' E)
  (ok: ∀n,n<=N->∀E v r' vh' qc',LkI x rv o W vb vh' E v->Hist x.th E0 E->Obs E out 0->(∀j,j≠4->j≠5->r' j=r j)->(∀a,vh' a=true↔W a≠none)->Saf Gd Obs x.th c n r' (p+(z7l (x.qLock (uJz up)) k.puts 0 p).length) out v vh' qc' E):
  Saf Gd Obs x.th c N r p out v0 nov qc E0:=by
 refine yko (I:=λi r' E v vh' _=>LkI x rv o W vb vh' E v/\Hist x.th E0 E/\Obs E out 0/\(∀j,j≠4->j≠5->r' j=r j)/\(∀a,a<i->(vh' a=true↔W a≠none))/\(∀a,i<=a->vh' a=false)) (F:=bAt k.puts) (N0:=N) ?_ ?_ k.puts 0 p N r E0 v0 nov qc yue (λj _=>by rw [Nat.zero_add]) (Nat.le_refl _) h ⟨hL,Hist.refl _ _,ho,λ_ _ _=>rfl,λa ha=>absurd ha (Nat.not_lt_zero a),λ_ _=>rfl⟩ ?_
 ·intro i r1 E v vh1 _ hF hI
  obtain ⟨q1,q2,q3,q4,q5,q6⟩:=hI
  refine ⟨q1,q2,q3,q4,λa ha=>?_,λa ha=>q6 a yue⟩
  by_cases e:a=i
  ·subst e
   rw [q6 a (Nat.le_refl _),hW0 a hF]
   simp
  ·exact q5 a yue
 ·intro i p1 N1 r1 E v vh1 qc1 hi hF hN h1 hI hn
  obtain ⟨q1,q2,q3,q4,q5,q6⟩:=hI
  refine yn8 hx hO hi h1 q3 (by rw [q4 6 yuh yuh];exact h6) q1 (q6 i (Nat.le_refl _)) (hW1 i hi hF) (λn g E' v' r' qc' w1 w2 w3 w4=>?_) λn g E' v' r' vh' qc' w1 w2 w3 w4 w5 w6=>?_
  ·exact undo n yue E' v' r' vh1 qc' w1 (q2.trans w2) w3 λj h4 h5=>(w4 j h4 h5).trans (q4 j h4 h5)
  ·refine hn n g r' E' v' vh' qc' ⟨w1,q2.trans w2,w3,λj h4 h5=>(w4 j h4 h5).trans (q4 j h4 h5),λa ha=>?_,λa ha=>by rw [w5 a yue];exact q6 a yue⟩
   by_cases e:a=i
   ·subst e;exact w6
   ·rw [w5 a e];exact q5 a yue
 ·intro n g r1 E v vh1 qc1 hI
  obtain ⟨q1,q2,q3,q4,q5,q6⟩:=hI
  rw [hk] at q5 q6
  refine ok n g E v r1 vh1 qc1 q1 q2 q3 q4 λa=>?_
  by_cases ha:a<6
  ·exact q5 a yue
  ·rw [q6 a yue,hW0 a ?_]
   ·simp
   ·unfold bAt
    rw [List.getElem?_eq_none yue]
    rfl
end
end Go.Proofs.YtkenoofmkbghiaaGreatDoor
