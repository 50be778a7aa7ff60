import Derived.Test.YtphcopbffecceaaGreatDoorP19
import Derived.Lib.CutLaws
import Derived.Lib.CountLaws
import Derived.Laws.Concat
set_option maxRecDepth 100000
set_option maxHeartbeats 2000000
namespace Go.Proofs.YtphcopbffecceaaGreatDoor
open Go.RowKit
variable{W w:World}{st:RS}{s:CS}{cap g:Nat}{L:List (List UInt8)}{er ln r:Int}
theorem zmz(st:RS)(i sb lb:Nat):(st.ents (st.thr i)).foldl (λs e=>cEn st.hs (zmu st i sb lb) 3 e s) Ck.none'=za1 st i:=zkq st.hs _ _ 3 (zy2 st.hs _ _ _ _ _ _ _ 3) _ _
theorem zo1(st:RS)(i:Nat):Ek st i=⟨#[116,104,114,101,97,100,10]⟩++(za1 st i).endC.text:=rfl
theorem z3t{W0:World}{br:Nat}{s:ByteArray}(h:Has W0 W br st)(hT:TabAt W)(hg:Jl s= .ok st)(hm:zay st=false):
  Cl 16 #[ptr br] W λe w'=>∃v,e= .returned v/\(v= .string (Yi st)/\Below W.heap.size W w'):=by
 obtain ⟨E,lab,sb,bs,tv,ov,ms,hE,hM⟩:=h.m
 obtain ⟨ta,tk,htv⟩:=hM.threadS
 subst htv
 have hn3:st.threads.length<=3:=yag
 have hF:=λi hi=>z3p hM h.ok i hi
 have hAr: ∀wr,Below W.heap.size W wr->Ar st.hs ms wr:=λwr hb=>hM.ar.below hb
 have hW:=λi (hi:i<st.threads.length)=>zms hg h.ok hm (zmu st i sb (mAt ms st i).mb) rfl (st.thr i) (hF i hi).mem
 have hgb: ∀i,i<st.threads.length->(za1 st i).g<=4200:=by
  intro i hi
  obtain ⟨h1,h2,h3⟩:=hW i hi
  rw [<-zmz st i sb (mAt ms st i).mb]
  have:=(zgr (step:=λe s=>cEn st.hs (zmu st i sb (mAt ms st i).mb) 3 e s) (inv:=λs=>s.blk=none) (cost:=λe=>300*wE st.hs 3 e) (st.ents (st.thr i)) Ck.none' (λe he s hs=>⟨(Xh st.hs _ 3 false e (h2 e he) s (λ_=>hs)).trans hs,zrx st.hs _ 3 false e (h2 e he) s (λ_=>hs)⟩) rfl).2
  rw [Is] at this
  have e0:Ck.none'.g=0:=rfl
  omega
 refine z3j (W:=W) (n:=st.threads.length) (ta:=ta) (tk:=tk) (tb:=λi=>(mAt ms st i).b) (lb:=λi=>(mAt ms st i).mb) (rv:=λi=>(mAt ms st i).rv) (tx:=λi=>(za1 st i).endC.text)
  hn3 hM.c0 hM.c1 (hid λi hi=>?ht) (λi wr=>Below W.heap.size W wr/\Lib.IsBuilderF 108 5 W.heap.size W.heap.size (Lib.byteCells (za0 st i)) wr/\(za0 st i).length<=i*20000000100)
  (λi c w=>∃wr,(Below W.heap.size W wr/\Lib.IsBuilderF 108 5 W.heap.size W.heap.size (Lib.byteCells (za0 st i)) wr/\(za0 st i).length<=i*20000000100)/\Cw wr.drew (zmu st i sb (mAt ms st i).mb) [] w c (za1 st i))
  (λi c w=>∃wr,(Below W.heap.size W wr/\Lib.IsBuilderF 108 5 W.heap.size W.heap.size (Lib.byteCells (za0 st i)) wr/\(za0 st i).length<=i*20000000100)/\Cw wr.drew (zmu st i sb (mAt ms st i).mb) [] w c (za1 st i).endC/\(za1 st i).T.length<=4200)
  (λi c w=>∃wr,(Below W.heap.size W wr/\Lib.IsBuilderF 108 5 W.heap.size W.heap.size (Lib.byteCells (za0 st i)) wr/\(za0 st i).length<=i*20000000100)/\Cw wr.drew (zmu st i sb (mAt ms st i).mb) [] w c (za1 st i).endC/\(za1 st i).T.length<=4200)
  (λv w'=>v= .string (Yi st)/\Below W.heap.size W w') (hid λi c w hi hP=>?htx) (hid λi wr hJ=>hJ.1) (hid ⟨?h0a,?h0b,by simp [za0]⟩) (hid λi wr hi hJ=>?k1) (hid λi c w hi hP=>?k2) (hid λi c w hi hP=>?k3) (hid λi c w hi hP=>?k4) (hid λw hJ=>?k5)
 case ht=>
  have q:=hF i hi
  obtain ⟨g,cp,e1,e2⟩:=q.row
  exact ⟨g,by simpa using congrArg (λv=>match v with|Value.slice a _ _=>a|_=>none) e1,e2,q.c0,q.c1⟩
 case htx=>
  obtain ⟨wr,_,⟨m,hc⟩,h3⟩:=hP
  have h1:=hgb i hi
  have h2:=zsr (za1 st i)
  have:=zmv hc.ok yai
  omega
 case h0a=>exact (Below.refl _ W).alloc (Nat.le_refl _) _
 case h0b=>exact Lib.IsBuilderF.of (Lib.fresh_isBuilder _ _ W)
 case k1=>
  obtain ⟨hb,hB,hlen⟩:=hJ
  have hbd:Below W.heap.size W wr.drew:=hb.trans ⟨rfl,rfl,rfl,Nat.le_refl _,λ_ _=>rfl⟩
  have q:=hF i hi
  obtain ⟨h1,h2,h3⟩:=hW i hi
  have hbase:zj0 wr.drew (zmu st i sb (mAt ms st i).mb):={
   mS:=hM.mS.keep (M:=λ_ _=>False) (Chg.of_below hbd) (λ_ e=>e)
   mL:=q.mp.keep (M:=λ_ _=>False) (Chg.of_below hbd) (λ_ e=>e)
   tab:=hT.below hbd
   th:=by show i<=3;omega
   ln:=q.ln}
  have hrow:wr.drew.ownsRow 0 162 1 (mAt ms st i).rv (st.ents (st.thr i)).length ((st.ents (st.thr i)).map (enV (Qu ms))):=Qc q.own (Chg.of_below (M:=λ_ _=>False) hbd) (λ_ _ _ e=>e)
  have hEw:Env wr.drew:=h.env.below hbd
  have hAw:=hAr _ hbd
  refine (zmn (ids:=Qu ms) hrow h1 (λe s=>cEn st.hs (zmu st i sb (mAt ms st i).mb) 3 e s) (λs=>s.blk=none/\s.loops=0) (λe=>300*wE st.hs 3 e) (λe he K w s hcw hin hG=>z4h hEw hAw (z3s hAw) 3 (Nat.le_refl _) false e (h2 e he) K w s hcw ⟨λ_=>hin.1,λhh=>by cases hh⟩ (by rw [hin.2];omega) hG)
   (λe he s hin=>⟨⟨(Xh st.hs _ 3 false e (h2 e he) s (λ_=>hin.1)).trans hin.1,((Fq st.hs _ 3 e).lo s).trans hin.2⟩,zrx st.hs _ 3 false e (h2 e he) s (λ_=>hin.1)⟩) (z0n hbase) ⟨rfl,rfl⟩ (by
    rw [Is]
    have e0:Ck.none'.g=0:=rfl
    omega)).mono ?_
  rintro r w' ⟨hr,hw⟩
  rw [zmz] at hw
  exact ⟨hr,wr,⟨hb,hB,hlen⟩,hw⟩
 case k2=>
  obtain ⟨wr,hJ,hc⟩:=hP
  have h1:=hgb i hi
  have h3:(za1 st i).T.length<=(za1 st i).g:=let ⟨_,hc⟩:=hc;hc.ok.t
  refine (z5n hc yai).mono ?_
  rintro r w' ⟨hr,hw⟩
  exact ⟨hr,wr,hJ,hw,by omega⟩
 case k3=>
  obtain ⟨wr,hJ,hc,h3⟩:=hP
  have h1:=hgb i hi
  have h2:=zsr (za1 st i)
  refine (z3h hc (zss _) yai).mono ?_
  rintro r w' ⟨hr,hw⟩
  exact ⟨hr,wr,hJ,hw,h3⟩
 case k4=>
  obtain ⟨wr,⟨hb,hB,hlen⟩,⟨m,hcd⟩,h3⟩:=hP
  have hlow:Below wr.heap.size wr w:=(⟨rfl,rfl,rfl,Nat.le_refl _,λ_ _=>rfl⟩:Below wr.heap.size wr wr.drew).trans hcd.low
  have h1:=hgb i hi
  have h2:=zsr (za1 st i)
  have hsz:=zmv hcd.ok yai
  have hsz2:(Ek st i).size<=20000000010:=by
   rw [zo1,ByteArray.size_append]
   have:(ByteArray.mk #[116,104,114,101,97,100,10]).size=7:=rfl
   omega
  have hW1:W.heap.size<=w.heap.size:=Nat.le_trans hb.size hlow.size
  refine (z0o (u:=Ek st i) (zsq hB hlow) (by
   have:i*20000000100<=3*20000000100:=Nat.mul_le_mul_right _ yai
   omega) hW1).mono ?_
  rintro r w' ⟨hr,hw,hbw⟩
  refine ⟨⟨_,hr⟩,(hb.trans (hlow.mono hb.size)).trans hbw,hw,?_⟩
  show (za0 st i++(Ek st i).data.toList).length<=_
  have e3:(Ek st i).data.toList.length=(Ek st i).size:=Array.length_toList
  rw [List.length_append,e3]
  omega
 case k5=>
  obtain ⟨hb,hB,hlen⟩:=hJ
  refine (zwl hB hb.size).mono ?_
  rintro r w' ⟨hr,hw⟩
  exact ⟨_,hr,rfl,hb.trans hw⟩
theorem zw4(hE:Env W)(s:ByteArray)(hg:zaz s= .error (er,ln)):
  Cl 8 #[.string s] W λe w'=>∃bf,e= .returned (.tuple #[.string ⟨#[]⟩, .iface 64 (ptr bf)])/\W.heap.size<=bf/\FaultAt w' bf er ln/\Below W.heap.size W w':=by
 have K:=zmt hE s
 rw [hg] at K
 have HK:=hid K
 clear K hE
 go_enter Tryz.func8,Tryz.ntmps8
 go_wp2_with fail
 refine HK.out.mono ?_
 rintro e w1 ⟨bf,rfl,h1,h2,h3⟩
 have H2:=hid h2
 have H3:=hid h3
 clear h2 h3 HK
 go_wp2
 go_ret2
 exact ⟨bf,rfl,h1,H2.out,H3.out⟩
theorem z0y(hE:Env W)(s:ByteArray)(hg:zaz s= .ok st){R:ByteArray->World->Prop}(KC:Hid (∀w br,Has W w br st->Cl 16 #[ptr br] w λe w'=>∃t,e= .returned (.string t)/\R t w')):
  Cl 8 #[.string s] W λe w'=>∃t,e= .returned (.tuple #[.string t, .nilIface])/\R t w':=by
 have K:=zmt hE s
 rw [hg] at K
 have HK:=hid K
 clear K hE
 go_enter Tryz.func8,Tryz.ntmps8
 go_wp2_with fail
 refine HK.out.mono ?_
 rintro e w1 ⟨br,rfl,h1⟩
 have D:=hid (KC.out w1 br h1)
 clear h1 HK KC
 go_wp2_with fail
 refine D.out.mono ?_
 rintro e w2 ⟨t,rfl,q⟩
 have H2:=hid q
 clear q D
 go_wp2
 go_ret2
 exact ⟨t,rfl,H2.out⟩
theorem zsu(hE:Env W)(s:ByteArray)(hg:zaz s= .error (er,ln)):
  Cl 5 #[.string s] W λe w'=>e= .returned (.tuple #[.string ⟨#[]⟩, .int .i64 er, .int .i64 ln])/\Below W.heap.size W w':=by
 have K:=hid (zw4 hE s hg)
 have HE:=hid hE
 clear hE
 go_enter Tryz.func5,Tryz.ntmps5
 go_wp2_with fail
 refine K.out.mono ?_
 rintro e W1 ⟨bf,rfl,h0,h1,b1⟩
 have H1:=hid h1
 have B1:=hid b1
 clear h1 b1 K
 go_wp2_with fail
 refine (zn1 (HE.out.keep (Chg.of_below (M:=λ_ _=>False) (B1.out.mono (Nat.le_refl _))) (λ_ _ _ e=>e)) H1.out).mono ?_
 rintro e W2 ⟨rfl,b2⟩
 have B2:=hid b2
 clear b2
 go_wp2
 go_ret3
 exact ⟨rfl,B1.out.trans (B2.out.mono B1.out.size)⟩
theorem zku{s:ByteArray}(hg:zaz s= .ok st):Jl s= .ok st/\zay st=false:=by
 unfold zaz at hg
 cases hl:Jl s with
 |error e=>simp [hl] at hg
 |ok st2=>
  rw [hl] at hg
  simp only at hg
  split at hg
  ·simp at hg
  ·split at hg
   ·simp at hg
   ·rename_i hm
    have:st2=st:=by simpa using hg
    subst this
    exact ⟨rfl,by simpa using hm⟩
theorem zw5(hE:Env W)(hT:TabAt W)(s:ByteArray)(hg:zaz s= .ok st):
  Cl 5 #[.string s] W λe w'=>e= .returned (.tuple #[.string (Yi st), .int .i64 0, .int .i64 0])/\Below W.heap.size W w':=by
 obtain ⟨hl,hm⟩:=zku hg
 have K:=hid (z0y hE s hg (R:=λt w'=>t=Yi st/\Below W.heap.size W w') (hid λw br hb=>by
  refine (z3t hb (hT.below hb.low) hl hm).mono ?_
  rintro e w' ⟨v,he,hv,hw⟩
  exact ⟨Yi st,by rw [he,hv],rfl,hb.low.trans (hw.mono hb.low.size)⟩))
 clear hE hT
 go_enter Tryz.func5,Tryz.ntmps5
 go_wp2_with fail
 refine K.out.mono ?_
 rintro e W1 ⟨t,rfl,rfl,b1⟩
 have B1:=hid b1
 clear b1 K
 generalize hpt:Yi st=t at*
 go_wp2_with fail
 refine (zu7 W1).mono ?_
 rintro e W2 ⟨rfl,b2⟩
 have B2:=hid b2
 clear b2
 go_wp2
 go_ret3
 subst hpt
 exact ⟨rfl,B1.out.trans (B2.out.mono B1.out.size)⟩
abbrev NK:=Nat×Int
def kL:St->Nat
 | .inl _=>115
 | .inr (.inl _)=>115
 | .inr (.inr (.inl _))=>103
 | .inr (.inr (.inr (.inl _)))=>112
 |_=>111
def zb3:St->List NK
 | .inr (.inr (.inr (.inr (.inr (.inl _)))))=>[(40,0)]
 | .inr (.inr (.inr (.inr (.inr (.inr (.inl _))))))=>[(122,0)]
 | .inr (.inr (.inr (.inr (.inr (.inr (.inr n))))))=>[(108,n)]
 |_=>[]
def z0z:St->List NK
 | .inr (.inr (.inr (.inr (.inr (.inl _)))))=>[(41,0)]
 | .inr (.inr (.inr (.inr (.inr (.inr (.inr _))))))=>[(98,0)]
 |_=>[]
def lin(hs:List Hd):Nat->En->List NK
 |_, .inl s=>[(kL s,0)]
 |0, .inr _=>[]
 |f+1, .inr j=>match hs[j]? with
  |some ⟨.inr s,es⟩=>zb3 s++(es.flatMap (lin hs f)++z0z s)
  |_=>[]
structure CS where
 blocks:Int
 outs:Int
 most:Int
 often:List Int
 inn:List Int
 inner:Bool
def Js(s:CS)(k:NK):CS:=
 if k.1=108 then {s with often:=s.often++[(s.often.getLast?).getD 0*k.2],inn:=s.inn++[if s.inner=true then (s.inn.getLast?).getD 0*k.2 else 1]}
 else if k.1=98 then {s with often:=s.often.dropLast,inn:=s.inn.dropLast}
 else if k.1=40 then {s with blocks:=s.blocks+(s.often.getLast?).getD 0,outs:=0,inner:=true,inn:=s.inn.dropLast++[1]}
 else if k.1=41 then {s with inner:=false}
 else if k.1=111 then (if s.inner=true then {s with outs:=s.outs+(s.inn.getLast?).getD 0,most:=if s.most<s.outs+(s.inn.getLast?).getD 0 then s.outs+(s.inn.getLast?).getD 0 else s.most} else s)
 else s
theorem z00(a b:Int):(if a<b then b else a)=max a b:=by
 by_cases h:a<b
 ·rw [if_pos h];omega
 ·rw [if_neg h];omega
section
variable{hs:List Hd}{x:Cx}
theorem zy5(kd:En->Bool): ∀(f:Nat) (b:Bool) (e:En),enW hs x f b e->0<=Zn hs kd f e
 |0,_,e,_=>by
  unfold Zn
  split<;>omega
 |f+1,b, .inl s,_=>by
  simp only [Zn,Vb,Jb,List.map_nil,List.sum_nil]
  split<;>omega
 |f+1,b, .inr j,h=>by
  obtain ⟨es,_,h⟩:=h
  have key: ∀(b':Bool) (n:Int),(∀e∈es,enW hs x f b' e)->0<=n->0<=n*(es.map (Zn hs kd f)).sum:=by
   intro b' n he hn
   apply Int.mul_nonneg hn
   have: ∀l:List En,(∀e∈l,enW hs x f b' e)->0<=(l.map (Zn hs kd f)).sum:=by
    intro l
    induction l with
    |nil=>intro _;simp
    |cons e r ih=>
     intro hl
     have h1:=zy5 kd f b' e (hl e yaj)
     have h2:=ih λe' he'=>hl e' (List.mem_cons_of_mem _ he')
     simp only [List.map_cons,List.sum_cons]
     omega
   exact this es he
  have k0:(0:Int)<=if kd (.inr j)=true then 1 else 0:=by split<;>omega
  rcases h with ⟨hj,_,he⟩|⟨a,hj,_,he⟩|⟨n,hj,hn,he⟩
  ·have:=key true 1 he yai
   simp only [Zn,Vb,Jb,hj,Jk]
   omega
  ·have:=key b 1 he yai
   simp only [Zn,Vb,Jb,hj,Jk]
   omega
  ·have:=key b n he yai
   simp only [Zn,Vb,Jb,hj,Jk]
   omega
def inS(s:CS)(r c:Int):CS:={s with outs:=s.outs+r*c,most:=max s.most (s.outs+r*c)}
theorem zm0(r:Int)(h:s.outs<=s.most):inS s r 0=s:=by
 unfold inS
 have:max s.most (s.outs+r*0)=s.most:=by rw [Int.mul_zero];omega
 rw [this]
 simp
theorem z01{c d:Int}(hr:0<=r)(hc:0<=c)(hd:0<=d):inS (inS s r c) r d=inS s r (c+d):=by
 unfold inS
 have h1:=Int.mul_nonneg hr hc
 have h2:=Int.mul_nonneg hr hd
 have e:r*(c+d)=r*c+r*d:=Int.mul_add r c d
 simp only [e,CS.mk.injEq]
 refine ⟨trivial,by omega,by omega,trivial,trivial,trivial⟩
end
section
variable{hs:List Hd}{x:Cx}
theorem zic(st:St){b:Bool}(hl:x.leafOk b st){I:List Int}(hi:s.inn=I++[r])(hn:s.inner=true)(hm:s.outs<=s.most):Js s (kL st,0)=inS s r (if kdO (.inl st)=true then 1 else 0):=by
 have hz:=zm0 (s:=s) r hm
 rcases st with ⟨to,a⟩|⟨to,o,a,d⟩|⟨to,f,a⟩|⟨f,a,v⟩|a|⟨⟩|a|n
 ·rw [if_neg yb1,hz];rfl
 ·rw [if_neg yb1,hz];rfl
 ·rw [if_neg yb1,hz];rfl
 ·rw [if_neg yb1,hz];rfl
 ·rw [if_pos yb1]
  simp [Js,kL,hn,hi,inS,z00]
 ·exact hl.elim
 ·exact hl.elim
 ·exact hl.elim
theorem zy6(j:Nat):kdO (.inr j)=false:=rfl
theorem zgt(f:Nat)(ih: ∀e,enW hs x f true e->∀(s:CS) (I:List Int) (r:Int),s.often≠[]->s.inn=I++[r]->s.inner=true->0<=r->s.outs<=s.most->(lin hs f e).foldl Js s=inS s r (Zn hs kdO f e)):
  ∀(es:List En),(∀e∈es,enW hs x f true e)->∀(s:CS) (I:List Int) (r:Int),s.often≠[]->s.inn=I++[r]->s.inner=true->0<=r->s.outs<=s.most->(es.flatMap (lin hs f)).foldl Js s=inS s r ((es.map (Zn hs kdO f)).sum)/\0<=(es.map (Zn hs kdO f)).sum
 |[],_,s,I,r,_,_,_,_,hm=>⟨(zm0 r hm).symm,by simp⟩
 |e::l,he,s,I,r,ho,hi,hn,hr,hm=>by
  have h1:=ih e (he e yaj) s I r ho hi hn hr hm
  have c1:=zy5 (hs:=hs) (x:=x) kdO f true e (he e yaj)
  obtain ⟨h2,c2⟩:=zgt f ih l (λe' h'=>he e' (List.mem_cons_of_mem _ h')) (inS s r (Zn hs kdO f e)) I r ho hi hn hr (by show s.outs+_<=max _ _;omega)
  rw [List.flatMap_cons,List.foldl_append,h1,h2,z01 hr c1 c2]
  simp only [List.map_cons,List.sum_cons]
  exact ⟨trivial,by omega⟩
theorem zsv: ∀(f:Nat) (e:En),enW hs x f true e->∀(s:CS) (I:List Int) (r:Int),s.often≠[]->s.inn=I++[r]->s.inner=true->0<=r->s.outs<=s.most->(lin hs f e).foldl Js s=inS s r (Zn hs kdO f e)
 |0, .inl st,h,s,I,r,_,hi,hn,_,hm=>zic st h hi hn hm
 |0, .inr _,h,_,_,_,_,_,_,_,_=>h.elim
 |f+1, .inl st,h,s,I,r,_,hi,hn,_,hm=>by
  have:=zic st h hi hn hm
  simp only [Zn,Vb,Jb,List.map_nil,List.sum_nil]
  rw [show (if kdO (.inl st)=true then (1:Int) else 0)+1*0=if kdO (.inl st)=true then 1 else 0 by omega]
  exact this
 |f+1, .inr j,h,s,I,r,ho,hi,hn,hr,hm=>by
  obtain ⟨es,_,h⟩:=h
  rcases h with ⟨_,hb,_⟩|⟨a,hj,_,he⟩|⟨n,hj,hnn,he⟩
  ·cases hb
  ·obtain ⟨h1,_⟩:=zgt f (zsv f) es he s I r ho hi hn hr hm
   simp only [lin,hj,Zn,Vb,Jb,zy6,Jk]
   show ((122,0)::(es.flatMap (lin hs f)++[])).foldl Js s=_
   rw [List.foldl_cons,List.append_nil,show Js s (122,0)=s from rfl,h1]
   simp
  ·have e1:Js s (108,n)={s with often:=s.often++[(s.often.getLast?).getD 0*n],inn:=s.inn++[r*n]}:=by simp [Js,hn,hi]
   obtain ⟨h1,_⟩:=zgt f (zsv f) es he {s with often:=s.often++[(s.often.getLast?).getD 0*n],inn:=s.inn++[r*n]} s.inn (r*n) yaj rfl hn (Int.mul_nonneg hr yai) hm
   simp only [lin,hj,Zn,Vb,Jb,zy6,Jk]
   show ((108,n)::(es.flatMap (lin hs f)++[(98,0)])).foldl Js s=_
   rw [List.foldl_cons,e1,List.foldl_append,h1]
   simp [Js,inS,Int.mul_assoc]
theorem zy7: ∀(f:Nat) (e:En),enW hs x f true e->Zn hs (kdA hs) f e=0
 |0, .inl _,_=>rfl
 |0, .inr _,h=>h.elim
 |f+1, .inl _,_=>rfl
 |f+1, .inr j,h=>by
  obtain ⟨es,_,h⟩:=h
  have key: ∀l:List En,(∀e∈l,enW hs x f true e)->(l.map (Zn hs (kdA hs) f)).sum=0:=z8x
  rcases h with ⟨_,hb,_⟩|⟨a,hj,_,he⟩|⟨n,hj,_,he⟩
  ·cases hb
  ·simp [Zn,Vb,Jb,kdA,hj,HK.isAtomic,key es he]
  ·simp [Zn,Vb,Jb,kdA,hj,HK.isAtomic,key es he]
end
section
variable{hs:List Hd}{x:Cx}
def mx(hs:List Hd):Nat->En->Int
 |0,_=>0
 |_+1, .inl _=>0
 |f+1, .inr j=>match hs[j]? with
  |some ⟨.inr s,es⟩=>if HK.isAtomic (.st s)=true then (es.map (Zn hs kdO f)).sum else (es.map (mx hs f)).foldl max 0
  |_=>0
theorem zid: ∀(l:List Int) (a b:Int),l.foldl max (max a b)=max a (l.foldl max b)
 |[],_,_=>rfl
 |c::r,a,b=>by
  simp only [List.foldl_cons]
  rw [show max (max a b) c=max a (max b c) by omega]
  exact zid r a _
def zp7(s:CS)(o b m:Int):CS:={s with blocks:=s.blocks+b,outs:=o,most:=max s.most m}
theorem zc6(f:Nat)(ih: ∀e,enW hs x f false e->∀(s:CS) (O I:List Int) (q:Int),s.often=O++[q]->s.inn=I++[1]->s.inner=false->0<=s.most->∃o,(lin hs f e).foldl Js s=zp7 s o (q*Zn hs (kdA hs) f e) (mx hs f e)):
  ∀(es:List En),(∀e∈es,enW hs x f false e)->∀(s:CS) (O I:List Int) (q:Int),s.often=O++[q]->s.inn=I++[1]->s.inner=false->0<=s.most->∃o,(es.flatMap (lin hs f)).foldl Js s=zp7 s o (q*(es.map (Zn hs (kdA hs) f)).sum) ((es.map (mx hs f)).foldl max 0)
 |[],_,s,O,I,q,_,_,_,hm=>⟨s.outs,by
  show s=zp7 s s.outs (q*0) 0
  unfold zp7
  rw [Int.mul_zero,Int.add_zero,show max s.most 0=s.most by omega]⟩
 |e::l,he,s,O,I,q,ho,hi,hn,hm=>by
  obtain ⟨o1,h1⟩:=ih e (he e yaj) s O I q ho hi hn hm
  obtain ⟨o2,h2⟩:=zc6 f ih l (λe' h'=>he e' (List.mem_cons_of_mem _ h')) (zp7 s o1 (q*Zn hs (kdA hs) f e) (mx hs f e)) O I q ho hi hn (by show 0<=max s.most _;omega)
  refine ⟨o2,?_⟩
  rw [List.flatMap_cons,List.foldl_append,h1,h2]
  unfold zp7
  simp only [List.map_cons,List.sum_cons,List.foldl_cons,Int.mul_add,CS.mk.injEq]
  refine ⟨by omega,trivial,?_,trivial,trivial,trivial⟩
  rw [show max 0 (mx hs f e)=max (mx hs f e) 0 by omega,zid]
  omega
theorem za3(st:St)(hn:s.inner=false):Js s (kL st,0)=s:=by
 rcases st with ⟨to,a⟩|⟨to,o,a,d⟩|⟨to,f,a⟩|⟨f,a,v⟩|a|⟨⟩|a|n
 ·rfl
 ·rfl
 ·rfl
 ·rfl
 all_goals simp [Js,kL,hn]
theorem zie(s:CS)(q:Int)(hm:0<=s.most):s=zp7 s s.outs (q*0) 0:=by
 unfold zp7
 rw [Int.mul_zero,Int.add_zero,show max s.most 0=s.most by omega]
theorem zkv: ∀(f:Nat) (e:En),enW hs x f false e->∀(s:CS) (O I:List Int) (q:Int),s.often=O++[q]->s.inn=I++[1]->s.inner=false->0<=s.most->∃o,(lin hs f e).foldl Js s=zp7 s o (q*Zn hs (kdA hs) f e) (mx hs f e)
 |0, .inl st,_,s,_,_,q,_,_,hn,hm=>⟨s.outs,(za3 st hn).trans (zie s q hm)⟩
 |0, .inr _,h,_,_,_,_,_,_,_,_=>h.elim
 |f+1, .inl st,_,s,_,_,q,_,_,hn,hm=>⟨s.outs,(za3 st hn).trans (zie s q hm)⟩
 |f+1, .inr j,h,s,O,I,q,ho,hi,hn,hm=>by
  obtain ⟨es,_,h⟩:=h
  rcases h with ⟨hj,_,he⟩|⟨a,hj,_,he⟩|⟨n,hj,hnn,he⟩
  ·have e1:Js s (40,0)={s with blocks:=s.blocks+q,outs:=0,inner:=true,inn:=I++[1]}:=by simp [Js,ho,hi]
   obtain ⟨h1,_⟩:=zgt f (zsv f) es he {s with blocks:=s.blocks+q,outs:=0,inner:=true,inn:=I++[1]} I 1 yas rfl rfl yai hm
   have h0:(es.map (Zn hs (kdA hs) f)).sum=0:=by
    have key: ∀l:List En,(∀e∈l,enW hs x f true e)->(l.map (Zn hs (kdA hs) f)).sum=0:=z8x
    exact key es he
   refine ⟨(es.map (Zn hs kdO f)).sum,?_⟩
   simp only [lin,hj,mx,Zn,Vb,Jb,kdA,HK.isAtomic,h0,Jk]
   show ((40,0)::(es.flatMap (lin hs f)++[(41,0)])).foldl Js s=_
   rw [List.foldl_cons,e1,List.foldl_append,h1]
   simp [Js,inS,zp7,hn,hi]
  ·obtain ⟨o,h1⟩:=zc6 f (zkv f) es he s O I q ho hi hn hm
   refine ⟨o,?_⟩
   simp only [lin,hj,mx,Zn,Vb,Jb,kdA,HK.isAtomic,Jk]
   show ((122,0)::(es.flatMap (lin hs f)++[])).foldl Js s=_
   rw [List.foldl_cons,List.append_nil,show Js s (122,0)=s from rfl,h1]
   simp
  ·have e1:Js s (108,n)={s with often:=s.often++[q*n],inn:=s.inn++[1]}:=by simp [Js,hn,ho]
   obtain ⟨o,h1⟩:=zc6 f (zkv f) es he {s with often:=s.often++[q*n],inn:=s.inn++[1]} s.often s.inn (q*n) rfl rfl hn hm
   refine ⟨o,?_⟩
   simp only [lin,hj,mx,Zn,Vb,Jb,kdA,HK.isAtomic,Jk]
   show ((108,n)::(es.flatMap (lin hs f)++[(98,0)])).foldl Js s=_
   rw [List.foldl_cons,e1,List.foldl_append,h1]
   simp [Js,zp7,Int.mul_assoc]
end
section
variable{hs:List Hd}{x:Cx}
theorem zm1(kd:En->Bool): ∀(f:Nat) (b:Bool) (e:En) (d:Nat),enW hs x f b e->Zn hs kd (f+d) e=Zn hs kd f e
 |0,_, .inl s,0,_=>rfl
 |0,_, .inl s,d+1,_=>by
  show Zn hs kd (0+d+1) (.inl s)=_
  simp [Zn,Jb]
 |0,_, .inr _,_,h=>h.elim
 |f+1,_, .inl s,d,_=>by
  rw [show f+1+d=(f+d)+1 by omega]
  simp [Zn,Jb]
 |f+1,b, .inr j,d,h=>by
  rw [show f+1+d=(f+d)+1 by omega]
  obtain ⟨es,_,h⟩:=h
  have key: ∀b',(∀e∈es,enW hs x f b' e)->es.map (Zn hs kd (f+d))=es.map (Zn hs kd f):=λb' he=>List.map_congr_left λe he'=>zm1 kd f b' e d (he e he')
  rcases h with ⟨hj,_,he⟩|⟨a,hj,_,he⟩|⟨n,hj,_,he⟩
  ·simp only [Zn,Jb,hj,key true he]
  ·simp only [Zn,Jb,hj,key b he]
  ·simp only [Zn,Jb,hj,key b he]
theorem zsw(f:Nat)(es:List En):Jf hs f es=es.flatMap λe=>Jf hs f [e]:=by
 cases f with
 |zero=>
  show es=es.flatMap λe=>[e]
  induction es with
  |nil=>rfl
  |cons e r ih=>simp only [List.flatMap_cons];rw [<-ih];rfl
 |succ f=>
  show (es.flatMap λe=>e::Jf hs f (Jb hs e))=es.flatMap λe=>[e].flatMap λe=>e::Jf hs f (Jb hs e)
  simp
theorem zc7(f:Nat)(es:List En)(p:En->Bool):(Jf hs f es).any p=es.any λe=>(Jf hs f [e]).any p:=by
 rw [zsw,List.any_flatMap]
theorem za4(f:Nat)(e:En):Jf hs (f+1) [e]=e::Jf hs f (Jb hs e):=by
 show [e].flatMap (λe=>e::Jf hs f (Jb hs e))=_
 simp
theorem zsx: ∀(f g:Nat) (e:En),enW hs x g true e->(Jf hs f [e]).any (Zo hs)=false
 |0,_, .inl _,_=>rfl
 |f+1,_, .inl s,_=>by
  rw [za4]
  show ((.inl s:En)::Jf hs f []).any (Zo hs)=false
  rw [zax]
  rfl
 |f,0, .inr _,h=>h.elim
 |f,g+1, .inr j,h=>by
  obtain ⟨es,_,h⟩:=h
  have hk:(∀e∈es,enW hs x g true e)->∀s,hs[j]?=some ⟨.st s,es⟩->HK.isAtomic (.st s)=false->(Jf hs f [.inr j]).any (Zo hs)=false:=by
   intro he s hj ha
   have h0:Zo hs (.inr j)=false:=by simp only [Zo,kdA,hj,ha,Bool.false_and]
   cases f with
   |zero=>
    show [(.inr j:En)].any (Zo hs)=false
    simp [h0]
   |succ f=>
    rw [za4,List.any_cons,h0]
    simp only [Jb,hj,Bool.false_or]
    rw [zc7,List.any_eq_false]
    intro e he'
    simp [zsx f g e (he e he')]
  rcases h with ⟨_,hb,_⟩|⟨a,hj,_,he⟩|⟨n,hj,_,he⟩
  ·cases hb
  ·exact hk he _ hj rfl
  ·exact hk he _ hj rfl
theorem zsy: ∀(l:List Int) (a:Int),decide (8<l.foldl max a)=(decide (8<a)||l.any λc=>decide (8<c))
 |[],a=>by rw [List.foldl_nil,List.any_nil,Bool.or_false]
 |c::r,a=>by
  rw [List.foldl_cons,zsy r]
  simp only [List.any_cons]
  rw [show decide (8<max a c)=(decide (8<a)||decide (8<c)) by
   by_cases h1:8<a
   ·simp [h1];omega
   ·by_cases h2:8<c
    ·simp [h1,h2];omega
    ·simp [h1,h2];omega]
  rw [Bool.or_assoc]
theorem zm2: ∀(f:Nat),f<=3->∀(e:En),enW hs x f false e->(Jf hs f [e]).any (Zo hs)=decide (8<mx hs f e)
 |0,_, .inl _,_=>rfl
 |0,_, .inr _,h=>h.elim
 |f+1,_, .inl s,_=>by
  rw [za4]
  show ((.inl s:En)::Jf hs f []).any (Zo hs)=_
  rw [zax]
  rfl
 |f+1,hf, .inr j,h=>by
  obtain ⟨es,_,h⟩:=h
  have hk:(∀e∈es,enW hs x f false e)->∀s,hs[j]?=some ⟨.st s,es⟩->HK.isAtomic (.st s)=false->(Jf hs (f+1) [.inr j]).any (Zo hs)=decide (8<mx hs (f+1) (.inr j)):=by
   intro he s hj ha
   have h0:Zo hs (.inr j)=false:=by simp only [Zo,kdA,hj,ha,Bool.false_and]
   have h1:mx hs (f+1) (.inr j)=(es.map (mx hs f)).foldl max 0:=by
    simp only [mx,hj]
    rw [if_neg (by rw [show HK.isAtomic (.inr s)=false from ha];simp)]
   rw [za4,List.any_cons,h0,h1,zsy]
   simp only [Jb,hj,Bool.false_or]
   rw [zc7,List.any_map]
   simp only [show decide ((8:Int)<0)=false from rfl,Bool.false_or]
   exact zh6 es λe he'=>zm2 f yai e (he e he')
  rcases h with ⟨hj,_,he⟩|⟨a,hj,_,he⟩|⟨n,hj,_,he⟩
  ·have h1:mx hs (f+1) (.inr j)=(es.map (Zn hs kdO f)).sum:=by
    simp only [mx,hj,HK.isAtomic]
    rfl
   have h2:es.map (Zn hs kdO 3)=es.map (Zn hs kdO f):=List.map_congr_left λe he'=>by
    have:=zm1 (hs:=hs) (x:=x) kdO f true e (3- f) (he e he')
    rwa [show f+(3- f)=3 by omega] at this
   rw [za4,List.any_cons,h1]
   simp only [Jb,hj]
   rw [zc7,show (es.any λe=>(Jf hs f [e]).any (Zo hs))=false by
    rw [List.any_eq_false]
    intro e he'
    simp [zsx f f e (he e he')]]
   simp only [Zo,kdA,hj,HK.isAtomic,Jb,h2,Bool.true_and,Bool.or_false]
  ·exact hk he _ hj rfl
  ·exact hk he _ hj rfl
theorem zo2(es:List En)(he: ∀e∈es,enW hs x 3 false e): ∃o,(es.flatMap (lin hs 3)).foldl Js ⟨0,0,0,[1],[1],false⟩=⟨(es.map (Zn hs (kdA hs) 3)).sum,o,(es.map (mx hs 3)).foldl max 0,[1],[1],false⟩:=by
 obtain ⟨o,h⟩:=zc6 (hs:=hs) (x:=x) 3 (zkv 3) es he ⟨0,0,0,[1],[1],false⟩ [] [] 1 rfl rfl rfl yal
 refine ⟨o,?_⟩
 rw [h]
 have h0: ∀(l:List Int) (a:Int),a<=l.foldl max a:=by
  intro l
  induction l with
  |nil=>exact λa=>Int.le_refl a
  |cons c r ih=>
   intro a
   have:=ih (max a c)
   simp only [List.foldl_cons]
   omega
 have:=h0 (es.map (mx hs 3)) 0
 unfold zp7
 simp only [Int.one_mul,Int.zero_add,CS.mk.injEq]
 refine ⟨trivial,trivial,by omega,trivial,trivial,trivial⟩
theorem zo3(st:RS)(t:Nat)(he: ∀e∈st.ents t,enW st.hs x 3 false e):st.thrMuch t=(decide (3<((st.ents t).map (Zn st.hs (kdA st.hs) 3)).sum)||decide (8<((st.ents t).map (mx st.hs 3)).foldl max 0)):=by
 unfold RS.thrMuch
 rw [zsy,zc7,List.any_map]
 congr 1
 simp only [show decide ((8:Int)<0)=false from rfl,Bool.false_or]
 exact zh6 _ λe he'=>zm2 3 (Nat.le_refl _) e (he e he')
end
theorem zc8(c:UInt8): ∀(l r:List UInt8),c∉l->Lib.index (l++c::r) [c]=(l.length:Int)
 |[],r,_=>by rw [List.nil_append,Lib.index];simp [List.isPrefixOf]
 |b::l,r,h=>by
  have hb:(c==b)=false:=by simp at h;simpa using h.1
  have ih:=zc8 c l r (λe=>h (List.mem_cons_of_mem _ e))
  rw [List.cons_append,Lib.index,ih]
  have e1:[c].isPrefixOf (b::(l++c::r))=false:=by simp [List.isPrefixOf,hb]
  have e2:((l.length:Int)==-1)=false:=by rw [beq_eq_false_iff_ne];omega
  rw [e1,e2]
  simp
def Xe(c:UInt8):List UInt8->List (List UInt8)
 |[]=>[[]]
 |b::l=>if b=c then []::Xe c l else match Xe c l with
  |[]=>[[b]]
  |p::ps=>(b::p)::ps
theorem zb4(c:UInt8)(l:List UInt8):Xe c l≠[]:=by
 cases l with
 |nil=>simp [Xe]
 |cons b l=>
  unfold Xe
  split
  ·simp
  ·split<;>simp
theorem zw6(c:UInt8)(l:List UInt8):Xe c (l++[c])=Xe c l++[[]]:=by
 induction l with
 |nil=>simp [Xe]
 |cons b l ih=>
  rw [List.cons_append]
  unfold Xe
  rw [ih]
  split
  ·simp
  ·cases h:Xe c l with
   |nil=>exact absurd h (zb4 c l)
   |cons p ps=>simp
theorem zsz(c b:UInt8)(hb:b≠c)(l:List UInt8): ∃ps p,Xe c l=ps++[p]/\Xe c (l++[b])=ps++[p++[b]]:=by
 induction l with
 |nil=>exact ⟨[],[],by simp [Xe],by simp [Xe,hb]⟩
 |cons a l ih=>
  obtain ⟨ps,p,h1,h2⟩:=ih
  rw [List.cons_append]
  unfold Xe
  rw [h1,h2]
  by_cases ha:a=c
  ·simp only [ha,if_true]
   exact ⟨[]::ps,p,by simp,by simp⟩
  ·simp only [ha,if_false]
   cases ps with
   |nil=>exact ⟨[],a::p,by simp,by simp⟩
   |cons q qs=>exact ⟨(a::q)::qs,p,by simp,by simp⟩
theorem Iw(c:UInt8)(l:List UInt8)(h:c∉l):Xe c l=[l]:=by
 induction l with
 |nil=>rfl
 |cons b l ih=>
  have hb:b≠c:=λe=>h (by simp [e])
  unfold Xe
  rw [ih (λe=>h (List.mem_cons_of_mem _ e)),if_neg hb]
theorem zc9(c:UInt8)(a r:List UInt8)(h:c∉a):Xe c (a++c::r)=a::Xe c r:=by
 induction a with
 |nil=>simp [Xe]
 |cons b a ih=>
  have hb:b≠c:=λe=>h (by simp [e])
  rw [List.cons_append,Xe,ih (λe=>h (List.mem_cons_of_mem _ e)),if_neg hb]
theorem Fs(c:UInt8): ∀(l:List UInt8),c∉l->Lib.index l [c]=-1
 |[],_=>by rw [Lib.index];simp
 |b::l,h=>by
  have hb:(c==b)=false:=by simp at h;simpa using h.1
  rw [Lib.index,Fs c l (λe=>h (List.mem_cons_of_mem _ e))]
  have e1:[c].isPrefixOf (b::l)=false:=by simp [List.isPrefixOf,hb]
  simp [e1]
theorem zda(c:UInt8)(l:List UInt8):c∉l\/ ∃a r,l=a++c::r/\c∉a:=by
 induction l with
 |nil=>exact .inl yaj
 |cons b l ih=>
  by_cases hb:b=c
  ·exact .inr ⟨[],l,by simp [hb],by simp⟩
  ·rcases ih with h|⟨a,r,h1,h2⟩
   ·exact .inl (by simp;exact ⟨λe=>hb e.symm,h⟩)
   ·exact .inr ⟨b::a,r,by simp [h1],by simp;exact ⟨λe=>hb e.symm,h2⟩⟩
theorem zo4(c:UInt8): ∀(n:Nat) (l:List UInt8),l.length<=n->Lib.splitB ⟨#[c]⟩ 0 (Lib.countB ⟨l.toArray⟩ ⟨#[c]⟩) ⟨l.toArray⟩=(Xe c l).map (λx=>⟨x.toArray⟩):=by
 intro n
 induction n with
 |zero=>
  intro l hl
  obtain rfl:l=[]:=List.length_eq_zero_iff.1 yai
  have hm:Lib.indexB ⟨([]:List UInt8).toArray⟩ ⟨#[c]⟩=-1:=Fs c [] yaj
  rw [Lib.splitB_miss _ _ _ _ hm,Iw c [] yaj]
  simp
 |succ n ih=>
  intro l hl
  rcases zda c l with h|⟨a,r,rfl,h⟩
  ·have hm:Lib.indexB ⟨l.toArray⟩ ⟨#[c]⟩=-1:=Fs c l h
   rw [Lib.splitB_miss _ _ _ _ hm,Iw c l h]
   simp
  ·have hi:Lib.indexB ⟨(a++c::r).toArray⟩ ⟨#[c]⟩=(a.length:Nat):=zc8 c a r h
   have e1:ByteArray.extract ⟨(a++c::r).toArray⟩ (a.length+(ByteArray.mk #[c]).size) (ByteArray.mk (a++c::r).toArray).size=⟨r.toArray⟩:=by
    apply ByteArray.ext
    apply Array.ext'
    have hs:(ByteArray.mk (a++c::r).toArray).size=a.length+(r.length+1):=by show (a++c::r).toArray.size=_;simp
    have h1:(ByteArray.mk #[c]).size=1:=rfl
    rw [hs,h1,ByteArray.data_extract,show a.length+(r.length+1)=a.length+1+r.length by omega]
    simp
   have e2:ByteArray.extract ⟨(a++c::r).toArray⟩ 0 (a.length+0)=⟨a.toArray⟩:=by
    apply ByteArray.ext
    apply Array.ext'
    rw [ByteArray.data_extract]
    simp
   rw [Lib.countB_hit _ ⟨#[c]⟩ a.length (Nat.le_refl 1) hi,e1,Nat.add_comm 1,Lib.splitB_hit _ _ _ _ a.length hi,e1,e2,zc9 c a r h,ih r (by simp at hl;omega)]
   simp
theorem Ix(l:List UInt8):Ql l=(Xe 32 l).map (λx=>⟨x.toArray⟩):=zo4 32 _ l (Nat.le_refl _)
def StrsAt(w:World)(b:Nat)(ws:List ByteArray):Prop:=∀j (h:j<ws.length),w.cell? ⟨b,j,none⟩=some (.string ws[j])
theorem StrsAt.keep{w':World}{b:Nat}{ws:List ByteArray}(h:StrsAt w b ws){n:Nat}(hn:b<n)(hw:Below n w w'):StrsAt w' b ws:=λj hj=>(hw.cell (p:=⟨b,j,none⟩) hn).trans (h j hj)
section
variable(w:World)(b c:Nat)(ws:List ByteArray)(u:ByteArray)
theorem Ga(hl:ws.length<1000000)(hw:Hid (StrsAt w b ws))(hs:Hid (∀j (h:j<ws.length),ws[j]≠u)):
  Cl 22 #[.slice (some ⟨b,0,none⟩) ws.length c, .string u] w λe w'=>e= .returned (.int .i64 (-1))/\w'=w:=by
 go_enter Tryz.func22,Tryz.ntmps22
 go_wp2
 go_loopw [5] (λv wr=>∃k:Nat,k<=ws.length/\v= .int .i64 k/\wr=w) (λv _=>ws.length- (intOf v).toNat)
 case atStart=>exact ⟨0,by omega,rfl,rfl⟩
 case round=>
  obtain ⟨k,hk,rfl,rfl⟩:=hrel
  by_cases hlt:k<ws.length
  ·have hlt':(k:Int)<(ws.length:Int):=by omega
   have hc:=hw.out k hlt
   have hne:=Oz (hs.out k hlt)
   generalize ws[k]=x at hc hne
   go_wp2
   go_roundw
   case rel=>exact ⟨k+1,by omega,by go_num,trivial⟩
   case measure=>simp [intOf];omega
  ·have hlt': ¬(k:Int)<(ws.length:Int):=by omega
   go_wp2
   go_ret
   exact ⟨rfl,rfl⟩
theorem Ou(hl:ws.length<1000000)(hw:Hid (StrsAt w b ws))(n:Nat)(hn:n<ws.length)(hs:Hid (∀j (h:j<n),ws[j]≠u))(he:Hid (ws[n]=u)):
  Cl 22 #[.slice (some ⟨b,0,none⟩) ws.length c, .string u] w λe w'=>e= .returned (.int .i64 n)/\w'=w:=by
 go_enter Tryz.func22,Tryz.ntmps22
 go_wp2
 go_loopw [5] (λv wr=>∃k:Nat,k<=n/\v= .int .i64 k/\wr=w) (λv _=>ws.length- (intOf v).toNat)
 case atStart=>exact ⟨0,by omega,rfl,rfl⟩
 case round=>
  obtain ⟨k,hk,rfl,rfl⟩:=hrel
  have hlt:k<ws.length:=yai
  have hlt':(k:Int)<(ws.length:Int):=yai
  have hc:=hw.out k hlt
  by_cases hkn:k<n
  ·have hne:=Oz (hs.out k hkn)
   generalize ws[k]=x at hc hne
   go_wp2
   go_roundw
   case rel=>exact ⟨k+1,by omega,by go_num,trivial⟩
   case measure=>simp [intOf];omega
  ·obtain rfl:k=n:=by omega
   have hu:=he.out
   rw [hu] at hc
   go_wp2
   go_ret
   exact ⟨rfl,rfl⟩
theorem za5:Cl 43 #[] w λe w'=>e= .returned (.slice (some ⟨w.heap.size,0,none⟩) 12 12)/\StrsAt w' w.heap.size ((List.range 12).map Jc)/\Below w.heap.size w w':=by
 go_enter Tryz.func43,Tryz.ntmps43
 go_wp2
 go_ret
 refine ⟨rfl,?_,(Below.refl _ w).alloc (Nat.le_refl _) _⟩
 intro j hj
 rw [World.cell?_alloc_new]
 have hc:j=0\/j=1\/j=2\/j=3\/j=4\/j=5\/j=6\/j=7\/j=8\/j=9\/j=10\/j=11:=by simp at hj;omega
 rcases hc with rfl|rfl|rfl|rfl|rfl|rfl|rfl|rfl|rfl|rfl|rfl|rfl<;>rfl
end
theorem zo5:(Tryz.prog.info? 9).map (λi=>(i.zero,i.size,i.bytes))=some (some (.string ⟨#[]⟩),1,16):=yak
abbrev z4t(l:List UInt8):Value:= .string ⟨l.toArray⟩
structure CutInv(w:World)(W:World)(g cap:Nat)(L:List (List UInt8)):Prop where
 own:W.ownsRow 0 9 1 (.slice (some ⟨g,0,none⟩) L.length cap) L.length (L.map z4t)
 lo:w.heap.size<=g
 bel:Below w.heap.size w W
theorem CutInv.new(w:World):CutInv w (w.alloc (.cells #[.string ⟨#[]⟩] 9)) w.heap.size 1 [[]]:=by
 refine ⟨⟨rfl, .inr ⟨w.heap.size,1,#[.string ⟨#[]⟩],rfl,Nat.zero_le _,?_,Nat.le_refl _,by unfold maxLen;omega,rfl,rfl⟩⟩,Nat.le_refl _,(Below.refl _ w).alloc (Nat.le_refl _) _⟩
 show (w.heap.push _)[w.heap.size]?=_
 simp
theorem CutInv.app{W':World}{g' cap':Nat}{o:Obj}(h:CutInv w W g cap L)(ho:W'.ownsRow 0 9 1 (.slice (some ⟨g',0,none⟩) (L.length+1) cap') (L.length+1) (L.map z4t++[.string ⟨#[]⟩]))
  (hc:Chg (λk _=>(Value.slice (some ⟨g,0,none⟩) L.length cap).ownBlock=some k) (W.alloc o) W') (hg:(Value.slice (some ⟨g,0,none⟩) L.length cap).ownBlock=some g'\/g'=(W.alloc o).heap.size):CutInv w W' g' cap' (L++[[]]):=by
 have hl:=h.lo
 have hs:=h.bel.size
 have hb:Below w.heap.size (W.alloc o) W':=hc.below yan (λk i e=>by simp [Value.ownBlock] at e;omega)
 refine ⟨by simpa using ho,?_,(h.bel.alloc hs _).trans hb⟩
 rcases hg with e|e
 ·simp [Value.ownBlock] at e;omega
 ·simp at e;omega
theorem CutInv.add{q:List UInt8}(h:CutInv w W g cap (L++[q]))(q':List UInt8):CutInv w (W.setCell ⟨g,L.length,none⟩ (z4t q')) g cap (L++[q']):=by
 refine ⟨?_,h.lo,h.bel.setCell h.lo _⟩
 have:=Ut h.own L.length (z4t q')
 simpa using this
theorem CutInv.drew(h:CutInv w W g cap L):CutInv w W.drew g cap L:=
 ⟨Qc h.own ((Chg.refl (λ_ _=>False) W).drew) (λ_ _ _ e=>e),h.lo,h.bel.drew⟩
theorem z02(q:List UInt8)(s:ByteArray)(k:Nat)(h:k<s.size):(⟨q.toArray⟩:ByteArray)++s.extract k (k+1)=⟨(q++[s[k]]).toArray⟩:=by
 apply ByteArray.ext
 apply Array.ext'
 rw [ByteArray.data_append,ByteArray.data_extract]
 have hk:k<s.data.toList.length:=ycb
 simp [Array.toList_extract,List.drop_eq_getElem_cons hk,ByteArray.getElem_eq_getElem_data]
theorem zw7(c:UInt8)(l:List UInt8):(Xe c l).length<=l.length+1:=by
 induction l with
 |nil=>simp [Xe]
 |cons b l ih=>
  unfold Xe
  split
  ·simp;exact ih
  ·split
   ·simp
   ·rename_i h;rw [h] at ih;simp at ih⊢;omega
theorem zs0(c:UInt8)(l:List UInt8): ∀p∈Xe c l,p.length<=l.length:=by
 induction l with
 |nil=>intro p hp;simp [Xe] at hp;subst hp;exact Nat.le_refl _
 |cons b l ih=>
  intro p hp
  unfold Xe at hp
  split at hp
  ·rcases List.mem_cons.1 hp with rfl|hp
   ·simp
   ·have:=ih p hp;simp;omega
  ·split at hp
   ·simp at hp;subst hp;simp
   ·rename_i h
    rw [h] at ih
    rcases List.mem_cons.1 hp with rfl|hp
    ·have:=ih _ List.mem_cons_self;simp;exact this
    ·have:=ih p (List.mem_cons_of_mem _ hp);simp;omega
theorem zgu(l:List UInt8):(⟨l.toArray⟩:ByteArray).size=l.length:=ybv
theorem zw8(s:ByteArray)(k:Nat)(h:k<s.size):s.data.toList.take (k+1)=s.data.toList.take k++[s[k]]:=by
 have hk:k<s.data.toList.length:=ycb
 rw [List.take_succ_eq_append_getElem hk]
 simp [ByteArray.getElem_eq_getElem_data]
theorem za6(w:World)(s:ByteArray)(c:UInt8)(hs:s.size<=262144):
  Cl 10 #[.string s, .int .u8 c.toNat] w λe w'=>∃g cap,e= .returned (.slice (some ⟨g,0,none⟩) (Xe c s.data.toList).length cap)/\CutInv w w' g cap (Xe c s.data.toList):=by
 obtain ⟨i0,hi,hz0,hz1,hz2⟩:=info_parts zo5
 go_enter Tryz.func10,Tryz.ntmps10
 go_wp2
 go_loopw [5,6] (λv5 v6 wr=>∃(k g cap:Nat),k<=s.size/\v6= .int .i64 k/\v5= .slice (some ⟨g,0,none⟩) (Xe c (s.data.toList.take k)).length cap/\Hid (CutInv w wr g cap (Xe c (s.data.toList.take k)))) (λ_ v6 _=>s.size- (intOf v6).toNat)
 case atStart=>exact ⟨0,w.heap.size,1,by omega,rfl,rfl,hid (CutInv.new w)⟩
 case round=>
  obtain ⟨k,g,cap,hk,rfl,rfl,HI⟩:=hrel
  have hlen:=zw7 c (s.data.toList.take k)
  have hlt0:(s.data.toList.take k).length<=k:=yan
  by_cases hlt:k<s.size
  ·have hlt':(k:Int)<(s.size:Int):=by omega
   have ht1:=zw8 s k hlt
   by_cases hc:s[k]=c
   ·have hc':(s[k].toNat:Int)=(c.toNat:Int):=by rw [hc]
    have hq:=zw6 c (s.data.toList.take k)
    rw [hc] at ht1
    rw [<-ht1] at hq
    have HQ:=hid hq
    clear hq ht1 hc
    generalize hL:Xe c (s.data.toList.take k)=L at*
    have hl1:L.length+1<=maxLen:=yap
    have hl2:(L.length+1)*16<=140737488355328:=yai
    have HL:=hid hL
    clear hL
    go_wp2_with (at_builtin;refine Zk rfl _ _ 49 rfl 9 i0 (.string ⟨#[]⟩) 16 Tryz.underlying49 hi hz0 hz1 hz2 rfl (.slice (some ⟨g,0,none⟩) L.length cap) L.length _ rfl (HI.out.own.alloc _) ⟨wr.heap.size,0,none⟩ (.string ⟨#[]⟩) rfl (cell_one_new _ _ _) rfl hl1 hl2 ?_;go_must (intro g' cap' w1 hown1 hch hg;have HC:=hid (HI.out.app hown1 hch hg);clear hown1 hch hg))
    refine ⟨⟨k+1,g',cap',by omega,by go_num,by rw [HQ.out];simp,by rw [HQ.out];exact HC⟩,by simp [intOf];omega⟩
   ·have hc': ¬(s[k].toNat:Int)=(c.toNat:Int):=λe=>hc (UInt8.toNat_inj.1 (Int.ofNat.inj e))
    obtain ⟨ps,q,e1,e2⟩:=zsz c s[k] hc (s.data.toList.take k)
    rw [<-ht1] at e2
    have hpq:=zs0 c (s.data.toList.take k) q (by rw [e1];simp)
    have hqs:((⟨q.toArray⟩:ByteArray).size:Int)<=8388608:=by rw [zgu];omega
    have hxs:((s.extract k (k+1)).size:Int)<=8388608:=ya1
    have hsum: ¬(9223372036854775807<q.length+(min (k+1) s.size- k)):=yai
    rw [e1] at HI
    rw [e1] at hlen
    have hln:(Xe c (s.data.toList.take k)).length=ps.length+1:=by rw [e1];simp
    rw [hln]
    obtain ⟨q1,q2,q3⟩:=Qm (n:=ps.length+1) (by simpa using HI.out.own) ps.length yai
    simp at q1
    change wr.cell? ⟨g,ps.length,none⟩=some (.string ⟨q.toArray⟩) at q1
    have hps:ps.length<=262144:=by simp at hlen;omega
    have E2:=hid e2
    have HT:=hid ht1
    clear e1 e2 hln ht1 hlen
    go_wp2
    go_region
    all_goals
     go_wp2
     rw [z02 q s k hlt]
     refine ⟨⟨k+1,g,cap,by omega,by go_num,by rw [E2.out];simp,?_⟩,by simp [intOf];omega⟩
     rw [E2.out]
     exact hid (HI.out.add _).drew
  ·have hlt': ¬(k:Int)<(s.size:Int):=by omega
   obtain rfl:k=s.size:=yai
   have hall:s.data.toList.take s.size=s.data.toList:=List.take_of_length_le ycz
   rw [hall] at HI
   rw [hall]
   go_wp2
   go_ret
   exact ⟨g,cap,rfl,HI.out⟩
end Go.Proofs.YtphcopbffecceaaGreatDoor
