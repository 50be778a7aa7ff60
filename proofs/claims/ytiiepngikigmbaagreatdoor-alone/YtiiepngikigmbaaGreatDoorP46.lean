import Derived.Test.YtiiepngikigmbaaGreatDoorP45
set_option maxRecDepth 100000
set_option maxHeartbeats 2000000
namespace Go.Proofs.YtiiepngikigmbaaGreatDoor
open Go.RowKit
variable{W:World}{st:RS}{s:ByteArray}{er ln:Int}
theorem zmz(st:RS)(i sb lb:Nat):(st.ents (st.thr i)).foldl (λs e=>cEn st.hs (zmu st i sb lb) 3 e s) Ck.none'=za1 st i:=zkq st.hs _ _ 3 (zy2 st.hs _ _ _ _ _ _ _ 3) _ _
theorem zo1(st:RS)(i:Nat):Ek st i=⟨#[116,104,114,101,97,100,10]⟩++(za1 st i).endC.text:=rfl
theorem z3t{W0:World}{br:Nat}(h:Has W0 W br st)(hT:TabAt W)(hg:Jl s= .ok st)(hm:zay st=false):
  Cl 15 #[ptr br] W λe w'=>∃v,e= .returned v/\(v= .string (Yi st)/\Below W.heap.size W w'):=by
 obtain ⟨E,lab,sb,bs,tv,ov,ms,hE,hM⟩:=h.m
 obtain ⟨ta,tk,htv⟩:=hM.threadS
 subst htv
 have hn3:st.threads.length<=3:=by
  unfold zay at hm
  simp only [Bool.or_eq_false_iff,decide_eq_false_iff_not] at hm
  omega
 have hF:=λi hi=>z3p hM h.ok i hi
 have hAr: ∀wr,Below W.heap.size W wr->Ar st.hs ms wr:=λwr hb=>hM.ar.below hb
 have hW:=λi (hi:i<st.threads.length)=>zms hg h.ok hm (zmu st i sb (mAt ms st i).mb) rfl (st.thr i) (hF i hi).mem
 have hgb: ∀i,i<st.threads.length->(za1 st i).g<=4200:=by
  intro i hi
  obtain ⟨h1,h2,h3⟩:=hW i hi
  rw [<-zmz st i sb (mAt ms st i).mb]
  have:=(zgr (step:=λe s=>cEn st.hs (zmu st i sb (mAt ms st i).mb) 3 e s) (inv:=λs=>s.blk=none) (cost:=λe=>300*wE st.hs 3 e) (st.ents (st.thr i)) Ck.none' (λe he s hs=>⟨(Xh st.hs _ 3 false e (h2 e he) s (λ_=>hs)).trans hs,zrx st.hs _ 3 false e (h2 e he) s (λ_=>hs)⟩) rfl).2
  rw [Is] at this
  have e0:Ck.none'.g=0:=rfl
  omega
 refine z3j (W:=W) (n:=st.threads.length) (ta:=ta) (tk:=tk) (tb:=λi=>(mAt ms st i).b) (lb:=λi=>(mAt ms st i).mb) (rv:=λi=>(mAt ms st i).rv) (tx:=λi=>(za1 st i).endC.text)
  hn3 hM.c0 hM.c1 (hid λi hi=>?ht) (λi wr=>Below W.heap.size W wr/\Lib.IsBuilderF 84 5 W.heap.size W.heap.size (Lib.byteCells (za0 st i)) wr/\(za0 st i).length<=i*20000000100)
  (λi c w=>∃wr,(Below W.heap.size W wr/\Lib.IsBuilderF 84 5 W.heap.size W.heap.size (Lib.byteCells (za0 st i)) wr/\(za0 st i).length<=i*20000000100)/\Cw wr.drew (zmu st i sb (mAt ms st i).mb) [] w c (za1 st i))
  (λi c w=>∃wr,(Below W.heap.size W wr/\Lib.IsBuilderF 84 5 W.heap.size W.heap.size (Lib.byteCells (za0 st i)) wr/\(za0 st i).length<=i*20000000100)/\Cw wr.drew (zmu st i sb (mAt ms st i).mb) [] w c (za1 st i).endC/\(za1 st i).T.length<=4200)
  (λi c w=>∃wr,(Below W.heap.size W wr/\Lib.IsBuilderF 84 5 W.heap.size W.heap.size (Lib.byteCells (za0 st i)) wr/\(za0 st i).length<=i*20000000100)/\Cw wr.drew (zmu st i sb (mAt ms st i).mb) [] w c (za1 st i).endC/\(za1 st i).T.length<=4200)
  (λv w'=>v= .string (Yi st)/\Below W.heap.size W w') (hid λi c w hi hP=>?htx) (hid λi wr hJ=>hJ.1) (hid ⟨?h0a,?h0b,by simp [za0]⟩) (hid λi wr hi hJ=>?k1) (hid λi c w hi hP=>?k2) (hid λi c w hi hP=>?k3) (hid λi c w hi hP=>?k4) (hid λw hJ=>?k5)
 case ht=>
  have q:=hF i hi
  obtain ⟨g,cp,e1,e2⟩:=q.row
  exact ⟨g,by simpa using congrArg (λv=>match v with|Value.slice a _ _=>a|_=>none) e1,e2,q.c0,q.c1⟩
 case htx=>
  obtain ⟨wr,_,⟨m,hc⟩,h3⟩:=hP
  have h1:=hgb i hi
  have h2:=zsr (za1 st i)
  have:=zmv hc.ok yl5
  omega
 case h0a=>exact (Below.refl _ W).alloc (Nat.le_refl _) _
 case h0b=>exact Lib.IsBuilderF.of (Lib.fresh_isBuilder _ _ W)
 case k1=>
  obtain ⟨hb,hB,hlen⟩:=hJ
  have hbd:Below W.heap.size W wr.drew:=hb.trans ⟨rfl,rfl,rfl,Nat.le_refl _,λ_ _=>rfl⟩
  have q:=hF i hi
  obtain ⟨h1,h2,h3⟩:=hW i hi
  have hbase:zj0 wr.drew (zmu st i sb (mAt ms st i).mb):={
   mS:=hM.mS.keep (M:=λ_ _=>False) (Chg.of_below hbd) (λ_ e=>e)
   mL:=q.mp.keep (M:=λ_ _=>False) (Chg.of_below hbd) (λ_ e=>e)
   tab:=hT.below hbd
   th:=by show i<=3;omega
   ln:=q.ln}
  have hrow:wr.drew.ownsRow 0 138 1 (mAt ms st i).rv (st.ents (st.thr i)).length ((st.ents (st.thr i)).map (enV (Qu ms))):=Qc q.own (Chg.of_below (M:=λ_ _=>False) hbd) (λ_ _ _ e=>e)
  have hEw:Env wr.drew:=h.env.below hbd
  have hAw:=hAr _ hbd
  refine (zmn (ids:=Qu ms) hrow h1 (λe s=>cEn st.hs (zmu st i sb (mAt ms st i).mb) 3 e s) (λs=>s.blk=none/\s.loops=0) (λe=>300*wE st.hs 3 e) (λe he K w s hcw hin hG=>z4h hEw hAw (z3s hAw) 3 (Nat.le_refl _) false e (h2 e he) K w s hcw ⟨λ_=>hin.1,λhh=>by cases hh⟩ (by rw [hin.2];omega) hG)
   (λe he s hin=>⟨⟨(Xh st.hs _ 3 false e (h2 e he) s (λ_=>hin.1)).trans hin.1,((Fq st.hs _ 3 e).lo s).trans hin.2⟩,zrx st.hs _ 3 false e (h2 e he) s (λ_=>hin.1)⟩) (z0n hbase) ⟨rfl,rfl⟩ (by
    rw [Is]
    have e0:Ck.none'.g=0:=rfl
    omega)).mono ?_
  rintro r w' ⟨hr,hw⟩
  rw [zmz] at hw
  exact ⟨hr,wr,⟨hb,hB,hlen⟩,hw⟩
 case k2=>
  obtain ⟨wr,hJ,hc⟩:=hP
  have h1:=hgb i hi
  have h3:(za1 st i).T.length<=(za1 st i).g:=let ⟨_,hc⟩:=hc;hc.ok.t
  refine (z5n hc yl5).mono ?_
  rintro r w' ⟨hr,hw⟩
  exact ⟨hr,wr,hJ,hw,by omega⟩
 case k3=>
  obtain ⟨wr,hJ,hc,h3⟩:=hP
  have h1:=hgb i hi
  have h2:=zsr (za1 st i)
  refine (z3h hc (zss _) yl5).mono ?_
  rintro r w' ⟨hr,hw⟩
  exact ⟨hr,wr,hJ,hw,h3⟩
 case k4=>
  obtain ⟨wr,⟨hb,hB,hlen⟩,⟨m,hcd⟩,h3⟩:=hP
  have hlow:Below wr.heap.size wr w:=(⟨rfl,rfl,rfl,Nat.le_refl _,λ_ _=>rfl⟩:Below wr.heap.size wr wr.drew).trans hcd.low
  have h1:=hgb i hi
  have h2:=zsr (za1 st i)
  have hsz:=zmv hcd.ok yl5
  have hsz2:(Ek st i).size<=20000000010:=by
   rw [zo1,ByteArray.size_append]
   have:(ByteArray.mk #[116,104,114,101,97,100,10]).size=7:=rfl
   omega
  have hW1:W.heap.size<=w.heap.size:=Nat.le_trans hb.size hlow.size
  refine (z0o (u:=Ek st i) (zsq hB hlow) (by
   have:i*20000000100<=3*20000000100:=Nat.mul_le_mul_right _ yl5
   omega) hW1).mono ?_
  rintro r w' ⟨hr,hw,hbw⟩
  refine ⟨⟨_,hr⟩,(hb.trans (hlow.mono hb.size)).trans hbw,hw,?_⟩
  show (za0 st i++(Ek st i).data.toList).length<=_
  have e3:(Ek st i).data.toList.length=(Ek st i).size:=Array.length_toList
  rw [List.length_append,e3]
  omega
 case k5=>
  obtain ⟨hb,hB,hlen⟩:=hJ
  refine (zwl hB hb.size).mono ?_
  rintro r w' ⟨hr,hw⟩
  exact ⟨_,hr,rfl,hb.trans hw⟩
theorem zw4(hE:Env W)(s:ByteArray)(hg:zaz s= .error (er,ln)):
  Cl 8 #[.string s] W λe w'=>∃bf,e= .returned (.tuple #[.string ⟨#[]⟩, .iface 47 (ptr bf)])/\W.heap.size<=bf/\FaultAt w' bf er ln/\Below W.heap.size W w':=by
 have K:=zmt hE s
 rw [hg] at K
 have HK:=hid K
 clear K hE
 go_enter Tryz.func8,Tryz.ntmps8
 go_wp2_with fail
 refine HK.out.mono ?_
 rintro e w1 ⟨bf,rfl,h1,h2,h3⟩
 have H2:=hid h2
 have H3:=hid h3
 clear h2 h3 HK
 go_wp2
 go_ret2
 exact ⟨bf,rfl,h1,H2.out,H3.out⟩
theorem z0y(hE:Env W)(s:ByteArray)(hg:zaz s= .ok st){R:ByteArray->World->Prop}(KC:Hid (∀w br,Has W w br st->Cl 15 #[ptr br] w λe w'=>∃t,e= .returned (.string t)/\R t w')):
  Cl 8 #[.string s] W λe w'=>∃t,e= .returned (.tuple #[.string t, .nilIface])/\R t w':=by
 have K:=zmt hE s
 rw [hg] at K
 have HK:=hid K
 clear K hE
 go_enter Tryz.func8,Tryz.ntmps8
 go_wp2_with fail
 refine HK.out.mono ?_
 rintro e w1 ⟨br,rfl,h1⟩
 have D:=hid (KC.out w1 br h1)
 clear h1 HK KC
 go_wp2_with fail
 refine D.out.mono ?_
 rintro e w2 ⟨t,rfl,q⟩
 have H2:=hid q
 clear q D
 go_wp2
 go_ret2
 exact ⟨t,rfl,H2.out⟩
theorem zsu(hE:Env W)(s:ByteArray)(hg:zaz s= .error (er,ln)):
  Cl 4 #[.string s] W λe w'=>e= .returned (.tuple #[.string ⟨#[]⟩, .int .i64 er, .int .i64 ln])/\Below W.heap.size W w':=by
 have K:=hid (zw4 hE s hg)
 have HE:=hid hE
 clear hE
 go_enter Tryz.func4,Tryz.ntmps4
 go_wp2_with fail
 refine K.out.mono ?_
 rintro e W1 ⟨bf,rfl,h0,h1,b1⟩
 have H1:=hid h1
 have B1:=hid b1
 clear h1 b1 K
 go_wp2_with fail
 refine (zn1 (HE.out.keep (Chg.of_below (M:=λ_ _=>False) (B1.out.mono (Nat.le_refl _))) (λ_ _ _ e=>e)) H1.out).mono ?_
 rintro e W2 ⟨rfl,b2⟩
 have B2:=hid b2
 clear b2
 go_wp2
 go_ret3
 exact ⟨rfl,B1.out.trans (B2.out.mono B1.out.size)⟩
theorem zku(hg:zaz s= .ok st):Jl s= .ok st/\zay st=false:=by
 unfold zaz at hg
 cases hl:Jl s with
 |error e=>simp [hl] at hg
 |ok st2=>
  rw [hl] at hg
  simp only at hg
  split at hg
  ·simp at hg
  ·split at hg
   ·simp at hg
   ·rename_i hm
    have:st2=st:=by simpa using hg
    subst this
    exact ⟨rfl,by simpa using hm⟩
theorem zw5(hE:Env W)(hT:TabAt W)(s:ByteArray)(hg:zaz s= .ok st):
  Cl 4 #[.string s] W λe w'=>e= .returned (.tuple #[.string (Yi st), .int .i64 0, .int .i64 0])/\Below W.heap.size W w':=by
 obtain ⟨hl,hm⟩:=zku hg
 have K:=hid (z0y hE s hg (R:=λt w'=>t=Yi st/\Below W.heap.size W w') (hid λw br hb=>by
  refine (z3t hb (hT.below hb.low) hl hm).mono ?_
  rintro e w' ⟨v,he,hv,hw⟩
  exact ⟨Yi st,by rw [he,hv],rfl,hb.low.trans (hw.mono hb.low.size)⟩))
 clear hE hT
 go_enter Tryz.func4,Tryz.ntmps4
 go_wp2_with fail
 refine K.out.mono ?_
 rintro e W1 ⟨t,rfl,rfl,b1⟩
 have B1:=hid b1
 clear b1 K
 generalize hpt:Yi st=t at*
 go_wp2_with fail
 refine (zu7 W1).mono ?_
 rintro e W2 ⟨rfl,b2⟩
 have B2:=hid b2
 clear b2
 go_wp2
 go_ret3
 subst hpt
 exact ⟨rfl,B1.out.trans (B2.out.mono B1.out.size)⟩
end Go.Proofs.YtiiepngikigmbaaGreatDoor
