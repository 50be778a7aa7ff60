import Derived.BigQuiet
import Derived.Deep.QuietTactic
import Derived.Test.YtkenoofmkbghiaaGreatDoorB05
set_option maxRecDepth 100000
set_option maxHeartbeats 1000000
namespace Go.Proofs.YtkenoofmkbghiaaGreatDoor
open Go.RowKit
variable{W w w' w1:World}{T':Th}{m m':Nat->Int}{D:Nat->Prop}{bm i:Nat}{ov' ov1:Value}{o:Obj}{v:Option Value}
attribute [local go_sem] zac zad zqc zcn zhh ze8 Jy
section
variable{w:World}{b bm:Nat}{iv ov:Value}{T:Th}{m:Nat->Int}
theorem Eff.base(hB:Below w.heap.size w W)(h:Eff W b bm iv ov T' m' w'):Eff w b bm iv ov T' m' w':=
 let ⟨_,h1,h2,h3,h4⟩:=h;Eff.then (Chg.of_below hB) (.inl rfl) h1 h2 h3 h4
theorem z7f(w:World)(o:Obj):Below w.heap.size w (w.alloc o):=(Below.refl _ w).alloc (Nat.le_refl _) o
theorem z7v(w:World)(o:Obj):Below w.heap.size w (w.alloc o).drew:=((Below.refl _ w).alloc (Nat.le_refl _) o).drew
theorem ThAt.effState(h:ThAt w b bm iv ov T)(hm:MemAt w bm m)(s:Int):Eff w b bm iv ov {T with st:=s} m (w.setCell ⟨b,22,none⟩ (.int .i64 s)):=
 ⟨ov,h.setState s,hm.keep ((Chg.refl (λk i=>k=b/\i=22) _).setCell (λ_=>⟨rfl,rfl⟩) _) (λ_ _ e=>h.ne hm e.1.symm),(Chg.refl _ _).setCell (λ_=>z9o _) _, .inl rfl⟩
theorem ThAt.effPlace(h:ThAt w b bm iv ov T)(hm:MemAt w bm m)(s:Int):Eff w b bm iv ov {T with pl:=s} m (w.setCell ⟨b,10,none⟩ (.int .i64 s)):=
 ⟨ov,h.setPlace s,hm.keep ((Chg.refl (λk i=>k=b/\i=10) _).setCell (λ_=>⟨rfl,rfl⟩) _) (λ_ _ e=>h.ne hm e.1.symm),(Chg.refl _ _).setCell (λ_=>z9o _) _, .inl rfl⟩
theorem ThAt.effReg(h:ThAt w b bm iv ov T)(hm:MemAt w bm m){d:Nat}(hd:d<8)(s:Int):Eff w b bm iv ov (T.setR d s) m (w.setCell ⟨b,2+d,none⟩ (.int .i64 s)):=
 ⟨ov,h.setReg hd s,hm.keep ((Chg.refl (λk i=>k=b/\i=2+d) _).setCell (λ_=>⟨rfl,rfl⟩) _) (λ_ _ e=>h.ne hm e.1.symm),(Chg.refl _ _).setCell (λ_=>z9o _) _, .inl rfl⟩
theorem yfh(h:ThAt w b bm iv ov T)(hm:MemAt w bm m):
  Cl 256 #[.agg #[],ifc b] w λe w'=>e= .returned (.tuple #[])/\Eff w b bm iv ov {T with q:=[]} (z6x m T.q) w':=by
 have H:=hid h
 have HM:=hid hm
 clear h hm
 go_enter Tryz.func256,Tryz.ntmps256
 go_wp2_with (go_at_call 214;refine (z8p (H.out.below (z7f _ _)) (HM.out.below (z7f _ _))).mono ?_;rintro e w1 ⟨rfl,h1⟩;have H1:=hid h1;clear h1)
 go_end0
 exact ⟨rfl,H1.out.base (z7f _ _)⟩
theorem yhq(h:ThAt w b bm iv ov T)(hm:MemAt w bm m)(s:Int):
  Cl 260 #[.agg #[.int .i64 s],ifc b] w λe w'=>e= .returned (.tuple #[])/\Eff w b bm iv ov {T with st:=s} m w':=by
 have H:=hid h
 have HM:=hid hm
 clear h hm
 go_enter Tryz.func260,Tryz.ntmps260
 go_wp2_with (go_at_call 267;refine (z9c b s _ _ (H.out.below (z7f _ _)).state ((H.out.below (z7f _ _)).free 22 yue)).mono ?_;rintro e w1 ⟨rfl,rfl⟩)
 go_end0
 exact ⟨rfl,((H.out.below (z7f _ _)).effState (HM.out.below (z7f _ _)) s).base (z7f _ _)⟩
theorem ygu(h:ThAt w b bm iv ov T)(hm:MemAt w bm m)(s:Int):
  Cl 258 #[.agg #[.int .i64 s],ifc b] w λe w'=>e= .returned (.tuple #[])/\Eff w b bm iv ov {T with pl:=s} m w':=by
 have H:=hid h
 have HM:=hid hm
 clear h hm
 go_enter Tryz.func258,Tryz.ntmps258
 go_wp2_with (go_at_call 269;refine (ycc b s _ _ (H.out.below (z7f _ _)).place ((H.out.below (z7f _ _)).free 10 yue)).mono ?_;rintro e w1 ⟨rfl,rfl⟩)
 go_end0
 exact ⟨rfl,((H.out.below (z7f _ _)).effPlace (HM.out.below (z7f _ _)) s).base (z7f _ _)⟩
end
section
variable{w:World}{b bm:Nat}{iv ov:Value}{T:Th}{m:Nat->Int}
theorem yaj(h:ThAt w b bm iv ov T)(hst:T.st≠0):
  Cl 34 #[ptr b] w λe w'=>e= .returned (.tuple #[])/\w'=w:=by
 have hs:=h.state
 have hne:(T.st !=0)=true:=by simp [hst]
 clear h
 go_enter Tryz.func34,Tryz.ntmps34
 go_wp2
 refine bodyPost_ret (results_none rfl _ _ _) rfl ?_
 exact ⟨rfl,rfl⟩
theorem z9x(h:ThAt w b bm iv ov T)(hm:MemAt w bm m)(hst:T.st=0)(ba:Option Addr)(len cap:Nat)(hiv:iv= .slice ba len cap)(hpl:(len:Int)<=T.pl):
  Cl 34 #[ptr b] w λe w'=>e= .returned (.tuple #[])/\Eff w b bm iv ov {T with st:=10} m w':=by
 have hs:w.cell? ⟨b,22,none⟩=some (.int .i64 0):=hst▸h.state
 have hi:w.cell? ⟨b,1,none⟩=some (.slice ba len cap):=hiv▸h.ins
 have hp:=h.place
 have hz:=h.free 22 yue
 have H:=hid h
 have HM:=hid hm
 clear h hm hiv hst
 go_enter Tryz.func34,Tryz.ntmps34
 go_wp2
 go_region
 all_goals go_wp2
 all_goals refine bodyPost_ret (results_none rfl _ _ _) rfl ?_
 all_goals exact ⟨rfl,((H.out.below ((Below.refl _ w).drew)).effState (HM.out.below ((Below.refl _ w).drew)) 10).base ((Below.refl _ w).drew)⟩
theorem ycx(h:ThAt w b bm iv ov T)(hm:MemAt w bm m)(hst:T.st=0)(bi len cap:Nat)(hiv:iv= .slice (some ⟨bi,0,none⟩) len cap)(p:Nat)(hpl:T.pl=p)(hlt:p<len)(t:TypeId)(v:Value)(hc:w.cell? ⟨bi,p,none⟩=some (.iface t v))(hbig:(p:Int)<=4000)
  (F:Nat) (T':Th) (m':Nat->Int) (hme: ∀W,(method 481 t v "Do").run Tryz.prog W= .ok (F,v) W) (hen: ∀args W,(callFunc F args).run Tryz.prog W= .ok (.enter F args) W)
  (hdo: ∀W,ThAt W b bm iv ov {T with pl:=(p:Int)+1}->MemAt W bm m->Cl F #[v,ifc b] W λe w'=>e= .returned (.tuple #[])/\Eff W b bm iv ov T' m' w'):
  Cl 34 #[ptr b] w λe w'=>e= .returned (.tuple #[])/\Eff w b bm iv ov T' m' w':=by
 have hs:w.cell? ⟨b,22,none⟩=some (.int .i64 0):=hst▸h.state
 have hi:w.cell? ⟨b,1,none⟩=some (.slice (some ⟨bi,0,none⟩) len cap):=hiv▸h.ins
 have hp:w.cell? ⟨b,10,none⟩=some (.int .i64 (p:Int)):=hpl▸h.place
 have hz:=h.free 10 yue
 have hlt':(p:Int)<(len:Int):=yue
 have H:=hid h
 have HM:=hid hm
 have HD:=hid hdo
 clear h hm hiv hst hdo hpl
 go_enter Tryz.func34,Tryz.ntmps34
 go_wp2
 go_region
 all_goals go_wp2
 all_goals go_region
 all_goals go_wp2_with fail
 all_goals
  have hP:=H.out.effPlace HM.out ((p:Int)+1)
  obtain ⟨ov1,ht1,hm1,hc1,ho1⟩:=hP
  have e1:ov1=ov:=by have:=ht1.outc;rw [Qb yue,H.out.outc] at this;exact (Option.some.inj this).symm
  subst e1
  have hdd:Below (w.setCell ⟨b,10,none⟩ (.int .i64 ((p:Int)+1))).heap.size (w.setCell ⟨b,10,none⟩ (.int .i64 ((p:Int)+1))) (w.setCell ⟨b,10,none⟩ (.int .i64 ((p:Int)+1))).drew.drew:=((Below.refl _ _).drew).drew
  refine (HD.out _ (ht1.below hdd) (hm1.below hdd)).mono ?_
  rintro e w2 ⟨rfl,h2⟩
  have H2:=hid h2
  have HC1:=hid hc1
  clear h2 hdd ht1 hm1 hc1 ho1
  go_wp2
  go_end0
  obtain ⟨ov2,a1,a2,a3,a4⟩:=H2.out
  exact ⟨rfl,Eff.then (HC1.out.drew.drew) (.inl rfl) a1 a2 a3 a4⟩
end
def doI(i:Ic)(T:Th)(m:Nat->Int):Th×(Nat->Int):=
 if i.k=2 then (if 0<=z6z i.a i.n T/\z6z i.a i.n T<256 then (T.setR i.d (z67 T.q.reverse (z6z i.a i.n T) (m (z6z i.a i.n T).toNat)),m) else ({T with st:=9},m))
 else if i.k=3 then (if 0<=z6z i.a i.n T/\z6z i.a i.n T<256 then ({T with q:=(z62 T.q m (z6z i.a i.n T) (i.b.of T)).1},(z62 T.q m (z6z i.a i.n T) (i.b.of T)).2) else ({T with st:=9},m))
 else if i.k=4 then (if 0<=z6z i.a i.n T/\z6z i.a i.n T<256 then (if z6x m T.q (z6z i.a i.n T).toNat=i.b.of T then ({T with q:=[]}.setR i.d 1,z60 (z6x m T.q) (z6z i.a i.n T).toNat (i.c.of T)) else ({T with q:=[]}.setR i.d 0,z6x m T.q)) else ({T with q:=[],st:=9},z6x m T.q))
 else if i.k=5 then (if 0<=z6z i.a i.n T/\z6z i.a i.n T<256 then ({T with q:=[]}.setR i.d (z6x m T.q (z6z i.a i.n T).toNat),z60 (z6x m T.q) (z6z i.a i.n T).toNat (wrap64 (z6x m T.q (z6z i.a i.n T).toNat+i.b.of T))) else ({T with q:=[],st:=9},z6x m T.q))
 else if i.k=6 then ({T with q:=[]},z6x m T.q)
 else if i.k=7 then ({T with out:=T.out++[i.a.of T]},m)
 else if i.k=8 then ({T with pl:=i.n},m)
 else if i.k=0 then (T.setR i.d (i.a.of T),m)
 else if i.k=1 then (match opV i.op (i.a.of T) (i.b.of T) with|some v=>(T.setR i.d v,m)|none=>({T with st:=1},m))
 else if i.k=9 then (if i.a.of T=0 then ({T with pl:=i.n},m) else (T,m))
 else ({T with st:=i.n},m)
def yaz(i:Ic):TypeId:=
 if i.k=2 then 249 else if i.k=3 then 251 else if i.k=4 then 253 else if i.k=5 then 255 else if i.k=6 then 257 else if i.k=7 then 259 else if i.k=8 then 262 else if i.k=0 then 244 else if i.k=1 then 242 else if i.k=9 then 264 else 266
def z8x(i:Ic):Value:=
 if i.k=2 then .agg #[.int .i64 i.d,z7o i.a, .int .i64 i.n] else if i.k=3 then .agg #[z7o i.a, .int .i64 i.n,z7o i.b] else if i.k=4 then .agg #[.int .i64 i.d,z7o i.a, .int .i64 i.n,z7o i.b,z7o i.c]
 else if i.k=5 then .agg #[.int .i64 i.d,z7o i.a, .int .i64 i.n,z7o i.b] else if i.k=6 then .agg #[] else if i.k=7 then .agg #[z7o i.a] else if i.k=8 then .agg #[.int .i64 i.n] else if i.k=0 then .agg #[.int .i64 i.d,z7o i.a] else if i.k=1 then .agg #[.int .i64 i.op, .int .i64 i.d,z7o i.a,z7o i.b] else if i.k=9 then .agg #[z7o i.a, .int .i64 i.n] else .agg #[.int .i64 i.n]
def z7k(i:Ic):Value:= .iface (yaz i) (z8x i)
def ybi(i:Ic):Nat:=
 if i.k=2 then 252 else if i.k=3 then 253 else if i.k=4 then 254 else if i.k=5 then 255 else if i.k=6 then 256 else if i.k=7 then 257 else if i.k=8 then 258 else if i.k=0 then 250 else if i.k=1 then 244 else if i.k=9 then 259 else 260
def z6w(T:Th)(m:Nat->Int)(c:List Ic):Th×(Nat->Int):=
 if T.st=0 then match c[T.pl.toNat]? with
  |some i=>doI i {T with pl:=T.pl+1} m
  |none=>({T with st:=10},m)
 else (T,m)
def z6y(T:Th)(m:Nat->Int):Th×(Nat->Int):=match T.q with
 |[]=>(T,m)
 |p::q=>({T with q:=q},z60 m p.1.toNat p.2)
structure Tr where
 b:Nat
 iv:Value
 ov:Value
 T:Th
 code:List Ic
def ycg(D:Nat->Prop)(w:World)(iv:Value)(code:List Ic):Prop:=
 (iv= .slice none 0 0/\code=[])\/ ∃bi cap n,iv= .slice (some ⟨bi,0,none⟩) code.length cap/\(w.shape? bi=some (141,n)/\D bi)/\ ∀i (h:i<code.length),w.cell? ⟨bi,i,none⟩=some (z7k code[i])
structure MAt(D:Nat->Prop)(w:World)(bm:Nat)(m:Nat->Int)(ts:List Tr):Prop where
 mem:MemAt w bm m
 thr: ∃bt cap n,w.cell? ⟨bm,256,none⟩=some (.slice (some ⟨bt,0,none⟩) ts.length cap)/\(w.shape? bt=some (54,n)/\D bt)/\ ∀i (h:i<ts.length),w.cell? ⟨bt,i,none⟩=some (ptr ts[i].b)
 th: ∀i (h:i<ts.length),ThAt w ts[i].b bm ts[i].iv ts[i].ov ts[i].T
 code: ∀i (h:i<ts.length),ycg D w ts[i].iv ts[i].code
 dis: ∀i j (hi:i<ts.length) (hj:j<ts.length),i≠j->ts[i].b≠ts[j].b/\ ∀k,ts[i].ov.ownBlock=some k->ts[j].ov.ownBlock≠some k
 dm:D bm
 db: ∀i (h:i<ts.length),D ts[i].b
 dr: ∀i (h:i<ts.length) k,ts[i].ov.ownBlock=some k->D k
theorem MAt.frame{ts:List Tr}(h:MAt D w bm m ts)(hi:i<ts.length)(hD: ∀k,w.heap.size<=k->D k)
  (he:Eff w ts[i].b bm ts[i].iv ts[i].ov T' m' w'): ∃ov',MAt D w' bm m' (ts.set i {ts[i] with ov:=ov',T:=T'})/\Chg (λk _=>D k) w w':=by
 obtain ⟨ov',ht,hm,hc,ho⟩:=he
 have hti:=h.th i hi
 -- what the step may touch is neither of another kind of block
 have hkind: ∀k t n,w.shape? k=some (t,n)->t≠86->t≠59->t≠2->∀j,¬z9n ts[i].b bm ts[i].ov k j:=by
  rintro k t n hk h1 h2 h3 j (e|e|e)
  ·rw [e,hti.sh] at hk;simp at hk;exact h1 hk.1.symm
  ·rw [e.1,h.mem.sh] at hk;simp at hk;exact h2 hk.1.symm
  ·exact hti.row_ne hk h3 e
 have hlen:(ts.set i {ts[i] with ov:=ov',T:=T'}).length=ts.length:=yuf
 have hset: ∀j (hj:j<ts.length),(ts.set i {ts[i] with ov:=ov',T:=T'})[j]'(by simpa using hj)=if j=i then {ts[i] with ov:=ov',T:=T'} else ts[j]:=by
  intro j hj
  rw [List.getElem_set]
  by_cases e:i=j
  ·subst e;simp
  ·rw [if_neg e,if_neg (λe'=>e e'.symm)]
 refine ⟨ov',⟨hm,?_,?_,?_,?_,h.dm,?_,?_⟩,hc.mono ?_⟩
 ·obtain ⟨bt,cap,n,h1,⟨h2,hDb⟩,h3⟩:=h.thr
  refine ⟨bt,cap,n,?_,⟨?_,hDb⟩,?_⟩
  ·rw [hlen]
   refine (hc.cell bm 256 h.mem.lt ?_).trans h1
   rintro (e|e|e)
   ·exact hti.ne h.mem e.symm
   ·omega
   ·exact hti.row_ne h.mem.sh yuh e
  ·exact (hc.shape bt (Qd h2)).trans h2
  ·intro j hj
   have hj':j<ts.length:=yup
   rw [hset j hj']
   refine (hc.cell bt j (Qd h2) (hkind bt _ _ h2 yuh yuh yuh j)).trans ?_
   rw [h3 j hj']
   by_cases e:j=i
   ·subst e;simp
   ·simp [e]
 ·intro j hj
  have hj':j<ts.length:=yup
  rw [hset j hj']
  by_cases e:j=i
  ·subst e;simpa using ht
  ·simp only [e,if_false]
   have hd:=h.dis i j hi hj' (λe'=>e e'.symm)
   have htj:=h.th j hj'
   refine htj.keep hc ?_ ?_
   ·rintro k (e'|e'|e')
    ·exact hd.1 e'.symm
    ·exact htj.ne h.mem e'.1
    ·exact hti.row_ne htj.sh yuh e'
   ·rintro g hg k (e'|e'|e')
    ·exact htj.row_ne hti.sh yuh (e'▸hg)
    ·exact htj.row_ne h.mem.sh yuh (e'.1▸hg)
    ·exact hd.2 g e' hg
 ·intro j hj
  have hj':j<ts.length:=yup
  rw [hset j hj']
  have hcj:ycg D w' ts[j].iv ts[j].code:=by
   rcases h.code j hj' with h0|⟨bi,cap,n,h1,⟨h2,hDi⟩,h3⟩
   ·exact .inl h0
   ·exact .inr ⟨bi,cap,n,h1,⟨(hc.shape bi (Qd h2)).trans h2,hDi⟩,λk hk=>(hc.cell bi k (Qd h2) (hkind bi _ _ h2 yuh yuh yuh k)).trans (h3 k hk)⟩
  by_cases e:j=i
  ·subst e;simpa using hcj
  ·simpa [e] using hcj
 ·intro j l hj hl hne
  have hj':j<ts.length:=yup
  have hl':l<ts.length:=by simpa using hl
  rw [hset j hj',hset l hl']
  by_cases ej:j=i
  ·have el: ¬l=i:=λe=>hne (ej.trans e.symm)
   subst ej
   simp only [if_true,el,if_false]
   refine ⟨(h.dis j l hi hl' (λe=>el e.symm)).1,λk hk hk2=>?_⟩
   rcases ho with ho|⟨k',ho,hk'⟩
   ·exact (h.dis j l hi hl' (λe=>el e.symm)).2 k (ho▸hk) hk2
   ·rw [ho] at hk;simp at hk;subst hk
    obtain ⟨c,hcc⟩:=z7e (h.th l hl').out _ hk2
    have:=Qd hcc;omega
  ·by_cases el:l=i
   ·subst el
    simp only [ej,if_false,if_true]
    refine ⟨(h.dis j l hj' hi ej).1,λk hk hk2=>?_⟩
    rcases ho with ho|⟨k',ho,hk'⟩
    ·exact (h.dis j l hj' hi ej).2 k hk (ho▸hk2)
    ·rw [ho] at hk2;simp at hk2;subst hk2
     obtain ⟨c,hcc⟩:=z7e (h.th j hj').out _ hk
     have:=Qd hcc;omega
   ·simp only [ej,el,if_false]
    exact h.dis j l hj' hl' hne
 ·intro j hj
  have hj':j<ts.length:=yup
  rw [hset j hj']
  by_cases e:j=i
  ·subst e;simpa using h.db j hj'
  ·simpa [e] using h.db j hj'
 ·intro j hj k hk
  have hj':j<ts.length:=yup
  rw [hset j hj'] at hk
  by_cases e:j=i
  ·subst e
   simp only [if_true] at hk
   rcases ho with ho|⟨k',ho,hk'⟩
   ·exact h.dr j hj' k (ho▸hk)
   ·rw [ho] at hk;simp at hk;subst hk;exact hD _ hk'
  ·simp only [e,if_false] at hk
   exact h.dr j hj' k hk
 ·rintro k j hk (e|e|e)
  ·exact e▸h.db i hi
  ·exact e.1▸h.dm
  ·exact h.dr i hi k e
theorem MAt.keep{M:Nat->Nat->Prop}{ts:List Tr}(h:MAt D w bm m ts)(hc:Chg M w w')(hM: ∀k,D k->k<w.heap.size->∀i,¬M k i):MAt D w' bm m ts:={
 mem:=h.mem.keep hc (λi _=>hM bm h.dm h.mem.lt i)
 thr:=by
  obtain ⟨bt,cap,n,h1,⟨h2,hDb⟩,h3⟩:=h.thr
  exact ⟨bt,cap,n,(hc.cell bm 256 h.mem.lt (hM bm h.dm h.mem.lt _)).trans h1,⟨(hc.shape bt (Qd h2)).trans h2,hDb⟩,λi hi=>(hc.cell bt i (Qd h2) (hM bt hDb (Qd h2) i)).trans (h3 i hi)⟩
 th:=λi hi=>(h.th i hi).keep hc (hM _ (h.db i hi) (h.th i hi).lt) (λg hg=>by obtain ⟨c,hs⟩:=z7e (h.th i hi).out g hg;exact hM g (h.dr i hi g hg) (Qd hs))
 code:=λi hi=>by
  rcases h.code i hi with h0|⟨bi,cap,n,h1,⟨h2,hDi⟩,h3⟩
  ·exact .inl h0
  ·exact .inr ⟨bi,cap,n,h1,⟨(hc.shape bi (Qd h2)).trans h2,hDi⟩,λk hk=>(hc.cell bi k (Qd h2) (hM bi hDi (Qd h2) k)).trans (h3 k hk)⟩
 dis:=h.dis
 dm:=h.dm
 db:=h.db
 dr:=h.dr}
theorem MAt.newD{D':Nat->Prop}{ts:List Tr}(h:MAt D w bm m ts)(hD: ∀k,D k->k<w.heap.size->D' k):MAt D' w bm m ts:={
 mem:=h.mem
 thr:=by
  obtain ⟨bt,cap,n,h1,⟨h2,hDb⟩,h3⟩:=h.thr
  exact ⟨bt,cap,n,h1,⟨h2,hD _ hDb (Qd h2)⟩,h3⟩
 th:=h.th
 code:=λi hi=>by
  rcases h.code i hi with h0|⟨bi,cap,n,h1,⟨h2,hDi⟩,h3⟩
  ·exact .inl h0
  ·exact .inr ⟨bi,cap,n,h1,⟨h2,hD _ hDi (Qd h2)⟩,h3⟩
 dis:=h.dis
 dm:=hD _ h.dm h.mem.lt
 db:=λi hi=>hD _ (h.db i hi) (h.th i hi).lt
 dr:=λi hi k hk=>by obtain ⟨c,hs⟩:=z7e (h.th i hi).out k hk;exact hD k (h.dr i hi k hk) (Qd hs)}
theorem zjo(b:Nat)(w:World):(nilAhead 481 54 (ptr b) "Give").run Tryz.prog w= .ok (some false) w:=yug
theorem zdl(b:Nat)(w:World):(nilAhead 481 54 (ptr b) "Store").run Tryz.prog w= .ok (some false) w:=yug
theorem Fx(b:Nat)(w:World):(nilAhead 481 54 (ptr b) "SetCell").run Tryz.prog w= .ok (some false) w:=yug
attribute [local go_sem] zac zad zqc zcn zhh ze8 Jy zdi zjk Fw zjo zdl Fx
section
variable{w:World}{b bm:Nat}{iv ov:Value}{T:Th}{m:Nat->Int}
theorem ygy(h:ThAt w b bm iv ov T)(hm:MemAt w bm m)(x:Vl)(hx:x.ok)(hl:T.out.length<1099511627776):
  Cl 257 #[.agg #[z7o x],ifc b] w λe w'=>e= .returned (.tuple #[])/\Eff w b bm iv ov {T with out:=T.out++[x.of T]} m w':=by
 have hmf: ∀(fn:Fn) (first cap:Array Value) (w:World),(Instr.makeFunc fn first cap).run Tryz.prog w= .ok (.func fn first cap) w:=λ_ _ _ _=>rfl
 obtain ⟨r,v⟩:=x
 have H:=hid h
 have HM:=hid hm
 have HL:=hid hl
 cases r
 ·simp only [z7o,Vl.of,Bool.false_eq_true,if_false]
  clear h hm hl hx
  go_enter Tryz.func257,Tryz.ntmps257
  go_wp2
  go_region_with (first
   |(go_at_call 261;refine (z8g _ _ _).mono ?_;rintro e w' ⟨rfl,rfl⟩)
   |(go_at_call 268;refine (yd5 (H.out.below (z7v _ _)) (HM.out.below (z7v _ _)) v HL.out).mono ?_;rintro e w1 ⟨rfl,h1⟩;have H1:=hid h1;clear h1))
  all_goals go_wp2
  all_goals go_end0
  all_goals exact ⟨rfl,H1.out.base (z7v _ _)⟩
 ·simp only [z7o,Vl.of,if_true]
  have hv:=hx rfl
  simp only at hv
  have hreg:=h.reg hv.1 hv.2
  generalize T.r v.toNat=u at hreg⊢
  clear h hm hl hx
  go_enter Tryz.func257,Tryz.ntmps257
  go_wp2
  go_region_with (first
   |(go_at_call 243;refine (z8f b v u _ hv.1 hv.2 (hreg _)).mono ?_;rintro e w' ⟨rfl,rfl⟩)
   |(go_at_call 268;refine (yd5 (H.out.below (z7v _ _)) (HM.out.below (z7v _ _)) u HL.out).mono ?_;rintro e w1 ⟨rfl,h1⟩;have H1:=hid h1;clear h1))
  all_goals go_wp2
  all_goals go_end0
  all_goals exact ⟨rfl,H1.out.base (z7v _ _)⟩
end
attribute [local go_sem] zac zad zqc zcn zhh ze8 Jy zdi zjk Fw zjo zdl Fx
section
variable{w:World}{b bm:Nat}{iv ov:Value}{T:Th}{m:Nat->Int}
theorem yal(h:ThAt w b bm iv ov T)(hm:MemAt w bm m)(a:Int)(h0:0<=a)(h1:a<256):
  Cl 270 #[ptr b, .int .i64 a] w λe W'=>e= .returned (.int .i64 (z67 T.q.reverse a (m a.toNat)))/\Below w.heap.size w W':=
 yiz b bm T.q a (m a.toNat) w h0 h1 hm.lt h.mem (hm.cells _ yue) h.ring
theorem yam(h:Below (w.alloc o).heap.size (w.alloc o) w1)(hv:(w.alloc o).cell? ⟨w.heap.size,i,none⟩=v):w1.cell? ⟨w.heap.size,i,none⟩=v:=
 (h.cell (p:=⟨w.heap.size,i,none⟩) yuf).trans hv
theorem yc1(h:ThAt w b bm iv ov T)(hm:MemAt w bm m)(x:Vl)(hx:x.ok)(n d:Int)(d0:0<=d)(d1:d<8)(h0:0<=z6z x n T)(h1:z6z x n T<256):
  Cl 252 #[.agg #[.int .i64 d,z7o x, .int .i64 n],ifc b] w λe w'=>e= .returned (.tuple #[])/\Eff w b bm iv ov (T.setR d.toNat (z67 T.q.reverse (z6z x n T) (m (z6z x n T).toNat))) m w':=by
 have H:=hid h
 have HM:=hid hm
 clear h hm
 have hx1: ∃t u,z7o x= .iface t u:=yvi
 have hon:=λ(W:World) (hB:Below w.heap.size w W)=>z8h (H.out.below hB) x hx n h0 h1
 obtain ⟨t,u,hxe⟩:=hx1
 rw [hxe] at hon⊢
 have HO:=hid hon
 clear hon hxe hx
 generalize z6z x n T=a at*
 go_enter Tryz.func252,Tryz.ntmps252
 go_wp2_with fail
 refine (HO.out _ (z7f _ _)).mono ?_
 rintro e w1 ⟨rfl,hb1⟩
 have hd:=yam (i:=0) (v:=some (.int .i64 d)) hb1 yur
 have hB1:Below w.heap.size w w1:=(z7f _ _).trans (hb1.mono yuf)
 have HB:=hid hB1
 have HB1:=hid hb1
 have hs1:w.heap.size<w1.heap.size:=by have:=hb1.size;simp at this;omega
 clear hb1 hB1 HO
 go_wp2
 go_region_with (first
  |(go_at_call 270;refine (yal (H.out.below HB.out.drew) (HM.out.below HB.out.drew) a h0 h1).mono ?_;rintro e w2 ⟨rfl,hb2⟩;have hd2:=(hb2.cell (p:=⟨w.heap.size,0,none⟩) hs1).trans hd;have HB2:=hid (HB.out.drew.trans (hb2.mono (Nat.le_of_lt hs1)));clear hb2)
  |(go_at_call 246;refine (z79 b d _ _ _ d0 d1 ((H.out.below HB2.out).regs _ yue) ((H.out.below HB2.out).free _ yue)).mono ?_;rintro e w3 ⟨rfl,rfl⟩))
 all_goals go_wp2
 all_goals go_end0
 all_goals exact ⟨rfl,((H.out.below HB2.out).effReg (HM.out.below HB2.out) yue _).base HB2.out⟩
theorem ybr(h:ThAt w b bm iv ov T)(hm:MemAt w bm m)(x:Vl)(hx:x.ok)(n d:Int)(h0: ¬(0<=z6z x n T/\z6z x n T<256)):
  Cl 252 #[.agg #[.int .i64 d,z7o x, .int .i64 n],ifc b] w λe w'=>e= .returned (.tuple #[])/\Eff w b bm iv ov {T with st:=9} m w':=by
 have hx1: ∃t u,z7o x= .iface t u:=yvi
 have hon:=λ(W:World) (hB:Below w.heap.size w W)=>z8q (h.below hB) (hm.below hB) x hx n h0
 obtain ⟨t,u,hxe⟩:=hx1
 rw [hxe] at hon⊢
 have HO:=hid hon
 clear hon hxe hx h hm
 go_enter Tryz.func252,Tryz.ntmps252
 go_wp2_with fail
 refine (HO.out _ (z7f _ _)).mono ?_
 rintro e w1 ⟨rfl,h1⟩
 have H1:=hid h1
 clear h1 HO
 go_wp2
 go_end0
 exact ⟨rfl,H1.out.base (z7f _ _)⟩
end
attribute [local go_sem] zac zad zqc zcn zhh ze8 Jy zdi zjk Fw zjo zdl Fx
section
variable{w:World}{b bm:Nat}{iv ov:Value}{T:Th}{m:Nat->Int}
theorem z7y(x:Vl): ∃t u,z7o x= .iface t u:=yvi
structure Eff4(w:World)(b bm:Nat)(iv ov ov':Value)(T':Th)(m':Nat->Int)(w':World):Prop where
 t:ThAt w' b bm iv ov' T'
 m:MemAt w' bm m'
 c:Chg (z9n b bm ov) w w'
 o:ov'.ownBlock=ov.ownBlock\/ ∃k,ov'.ownBlock=some k/\w.heap.size<=k
theorem Eff.mk(h1:ThAt w' b bm iv ov' T')(h2:MemAt w' bm m')(h3:Chg (z9n b bm ov) w w')(h4:ov'.ownBlock=ov.ownBlock\/ ∃k,ov'.ownBlock=some k/\w.heap.size<=k):Eff4 w b bm iv ov ov' T' m' w':=⟨h1,h2,h3,h4⟩
theorem Eff4.base4(h:Eff4 W b bm iv ov ov' T' m' w')(hB:Below w.heap.size w W):ThAt w' b bm iv ov' T'/\MemAt w' bm m'/\Chg (z9n b bm ov) w w'/\(ov'.ownBlock=ov.ownBlock\/ ∃k,ov'.ownBlock=some k/\w.heap.size<=k):=
 ⟨h.t,h.m,(Chg.of_below hB).trans h.c,h.o.imp id (λ⟨k,e,hk⟩=>⟨k,e,Nat.le_trans hB.size hk⟩)⟩
theorem Eff.two{w2:World}{T1 T2:Th}{m1 m2:Nat->Int}(h1:ThAt w1 b bm iv ov1 T1/\MemAt w1 bm m1/\Chg (z9n b bm ov) w w1/\(ov1.ownBlock=ov.ownBlock\/ ∃k,ov1.ownBlock=some k/\w.heap.size<=k))(h2:Eff w1 b bm iv ov1 T2 m2 w2):Eff w b bm iv ov T2 m2 w2:=
 let ⟨_,a,c,d,e⟩:=h2;Eff.then h1.2.2.1 h1.2.2.2 a c d e
theorem ych(h:ov1.ownBlock=ov.ownBlock\/ ∃k,ov1.ownBlock=some k/\(w.alloc o).heap.size<=k):ov1.ownBlock=ov.ownBlock\/ ∃k,ov1.ownBlock=some k/\w.heap.size<k:=
 h.imp id (λ⟨k,a,c⟩=>⟨k,a,by simp at c;omega⟩)
theorem ya4{w3 w4:World}(hne: ∀i,¬z9n b bm ov w.heap.size i)(ho:ov1.ownBlock=ov.ownBlock\/ ∃k,ov1.ownBlock=some k/\w.heap.size<k)
  (hc:Chg (z9n b bm ov1) w3 w4) (hs:w.heap.size<w3.heap.size) (hv:w3.cell? ⟨w.heap.size,i,none⟩=v):w4.cell? ⟨w.heap.size,i,none⟩=v:=by
 refine (hc.cell _ i hs λe=>?_).trans hv
 rcases e with e|e|e
 ·exact hne i (.inl e)
 ·exact hne i (.inr (.inl e))
 ·rcases ho with ho|⟨k,ho,hk⟩
  ·exact hne i (.inr (.inr (ho▸e)))
  ·rw [ho] at e;simp at e;omega
theorem ybs(h:ThAt w b bm iv ov T)(hm:MemAt w bm m)(x y:Vl)(hx:x.ok)(n d:Int)(h0: ¬(0<=z6z x n T/\z6z x n T<256)):
  Cl 255 #[.agg #[.int .i64 d,z7o x, .int .i64 n,z7o y],ifc b] w λe w'=>e= .returned (.tuple #[])/\Eff w b bm iv ov {T with q:=[],st:=9} (z6x m T.q) w':=by
 have hon:=λ(W:World) (ov':Value) (h':ThAt W b bm iv ov' {T with q:=[]}) (hm':MemAt W bm (z6x m T.q))=>z8q h' hm' x hx n h0
 obtain ⟨t,u,hxe⟩:=z7y x
 obtain ⟨t',u',hye⟩:=z7y y
 rw [hxe] at hon⊢
 rw [hye]
 have HO:=hid hon
 have H:=hid h
 have HM:=hid hm
 have hb:=h.lt
 clear hon hxe hx h hm hye
 go_enter Tryz.func255,Tryz.ntmps255
 go_wp2_with fail
 refine (z8p (H.out.below (z7f _ _)) (HM.out.below (z7f _ _))).mono ?_
 rintro e w1 ⟨rfl,ov1,ht1,hm1,hc1,ho1⟩
 have hne: ∀i,¬z9n b bm ov w.heap.size i:=λi e=>by
  rcases e with e|e|e
  ·omega
  ·have:=HM.out.lt;omega
  ·exact ysx
 have b1:=(hc1.cell w.heap.size 1 yuf (hne _)).trans (show _=some (Value.iface t u) by simp [go_sem])
 have b2:=(hc1.cell w.heap.size 2 yuf (hne _)).trans (show _=some (Value.int .i64 n) by simp [go_sem])
 have HT:=hid ht1
 have HT2:=hid hm1
 have HC:=hid hc1
 have HO1:=hid ho1
 clear ht1 hm1 hc1 ho1 hne
 go_wp2_with fail
 refine (HO.out _ _ HT.out HT2.out).mono ?_
 rintro e w2 ⟨rfl,h2⟩
 have H2:=hid h2
 clear h2 HO
 go_wp2
 refine bodyPost_ret (results_none rfl _ _ _) rfl ?_
 exact ⟨rfl,(Eff.two ⟨HT.out,HT2.out,HC.out,HO1.out⟩ H2.out).base (z7f _ _)⟩
end
end Go.Proofs.YtkenoofmkbghiaaGreatDoor
