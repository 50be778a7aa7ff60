import Derived.Test.YtiiepngikigmbaaGreatDoorP31
set_option maxRecDepth 100000
set_option maxHeartbeats 4000000
namespace Go.Proofs.YtiiepngikigmbaaGreatDoor
open Go.RowKit
variable{ol tl:List Nat}{c o t:Nat}{l ws:List ByteArray}
section
variable{D D0:Nat->Prop}{lab:Nat->Nat×Nat}{w W:World}{br sb bs bl bw:Nat}{n c:Int}{ws ws1 us us2:List ByteArray}{x u:ByteArray}{tv ov:Value}{st:RS}{ms:List HM}
theorem zv4(l:List (ByteArray×Int×Int))(u:ByteArray)(a c:Int)(hu:(l.any λp=>decide (p.1=u))=false): ∀x,zgd (shF l) u (.agg #[.int .i64 a, .int .i64 c]) x=shF (l++[(u,a,c)]) x:=by
 intro x
 unfold zgd shF
 rw [List.find?_append]
 by_cases e:x=u
 ·subst e
  rw [if_pos rfl]
  have:(l.find? λp=>decide (p.1=x))=none:=by
   rw [List.find?_eq_none]
   intro p hp
   rw [List.any_eq_false] at hu
   exact hu p hp
  simp [this]
 ·rw [if_neg e]
  have e':u≠x:=λh=>e h.symm
  cases h:(l.find? λp=>decide (p.1=x)) with
  |some p=>simp
  |none=>simp [e']
theorem RMach.share(h:RMach D lab w br sb bs tv ov st ms)(u:ByteArray)(hu:u.size<=maxLen)(hnew:st.isSh u=false)(c:Int)(hl:st.shared.length<1000000):
  ∃W,(Instr.mapUpdate 68 (.map (some sb)) (.string u) (.agg #[.int .i64 st.cells, .int .i64 c])).run Tryz.prog w= .ok () W/\
  RMach D lab W br sb bs tv ov {st with shared:=st.shared++[(u,st.cells,c)]} ms/\Chg (λk _=>D k) w W:=by
 have lb:=Qd h.sh
 obtain ⟨W,hrun,hm,hc⟩:=h.mS.put Tryz.underlying68 ymb hu (.agg #[.int .i64 st.cells, .int .i64 c])
 have hsome:(shF st.shared u).isSome=false:=by rw [zl5];exact hnew
 rw [hsome] at hm
 simp only [Bool.false_eq_true,if_false] at hm
 have nb:br≠sb:=zd3 h.lbr.1 h.lsb.1 yl6
 refine ⟨W,hrun,h.updB (st':={st with shared:=st.shared++[(u,st.cells,c)]}) rfl hc (λk j _ e=> .inl (e▸h.lsb.1)) (λ_ _=>rfl) ((hc.cell _ _ lb nb).trans h.c1) ((hc.cell _ _ lb nb).trans h.c2) ((hc.cell _ _ lb nb).trans h.c3) ?_ (Qc h.trow hc (λg hg j=>zd3 (h.ltv g hg).1 h.lsb.1 yl6)) (Qc h.orow hc (λg hg j=>zd3 (h.lov g hg).1 h.lsb.1 yl6)) h.ltv h.lov,hc.mono (λk i _ e=>e▸h.lsb.2)⟩
 simp only [List.length_append,List.length_cons,List.length_nil]
 exact hm.congr (zv4 st.shared u st.cells c hnew)
theorem RMach.cellsTo(h:RMach D lab w br sb bs tv ov st ms)(v:Int):RMach D lab (w.setCell ⟨br,2,none⟩ (.int .i64 v)) br sb bs tv ov {st with cells:=v} ms/\Chg (λk _=>D k) w (w.setCell ⟨br,2,none⟩ (.int .i64 v)):=by
 have lb:=Qd h.sh
 have hset:Chg (λk j=>k=br/\j=2) w (w.setCell ⟨br,2,none⟩ (.int .i64 v)):=(Chg.refl _ w).setCell (λ_=>⟨rfl,rfl⟩) _
 have nk: ∀k l,lab k=l->l≠(0,0)->∀j,¬(k=br/\j=2):=λk l hk h2 j e=>h2 (hk.symm.trans (e.1▸h.lbr.1))
 refine ⟨h.updB (st':={st with cells:=v}) rfl hset ?_ (λ_ _=>rfl) ((hset.cell _ _ lb yl5).trans h.c1) (Qg h.c2 rfl) ((hset.cell _ _ lb yl5).trans h.c3) (h.mS.keep hset (nk _ _ h.lsb.1 yl6)) (Qc h.trow hset (λq hq=>nk _ _ (h.ltv q hq).1 yl6)) (Qc h.orow hset (λq hq=>nk _ _ (h.lov q hq).1 yl6)) h.ltv h.lov,hset.mono (λk j _ e=>e.1▸h.lbr.2)⟩
 rintro k j _ ⟨rfl,rfl⟩
 exact .inr (.inr (.inr ⟨rfl, .inr (.inl rfl)⟩))
theorem z3b(hL:LineAt w bl n bw ws)(hz:SzOk ws)(hv:gNm ws=none):Cl 47 #[ptr br,ptr bl] w λe w'=>Fails 2 n bl w e w':=by
 have K:=hid (zqs hL hz hv)
 clear hL
 go_enter Tryz.func47,Tryz.ntmps47
 go_wp2_with fail
 refine K.out.mono ?_
 rintro e w1 ⟨bf,rfl,h1⟩
 exact ⟨rfl,bf,rfl,h1⟩
theorem z3c(hL:LineAt w bl n bw ws)(hz:SzOk ws)(hE:Hid (Env w))(hbl:10<=bl)(hv:gNm ws=some (x,u::us))(hv2:gIn 1 6 (u::us)=none):Cl 47 #[ptr br,ptr bl] w λe w'=>Fails 2 n bl w e w':=by
 have K:=hid (Fa hL hz hv)
 have hz1:=Ya hv hz
 clear hL
 go_enter Tryz.func47,Tryz.ntmps47
 go_wp2_with fail
 refine K.out.mono ?_
 rintro e w1 ⟨rfl,h1,c1⟩
 have K2:=hid (z15 h1 (hE.out.line c1 hbl) hbl hz1 hv2)
 have C1:=hid c1
 obtain ⟨o,cap,hs⟩:=h1.more
 simp only [List.length_cons] at hs
 clear h1 c1 K
 go_wp2_with (first|(go_at_call 72;go_in)|fail)
 refine K2.out.mono ?_
 intro e w3 h3
 obtain ⟨bf,rfl,h4⟩:=Fails.after h3 C1.out
 exact ⟨rfl,bf,rfl,h4⟩
theorem zj8(h:RMach D0 lab w br sb bs tv ov st ms)(hn: ¬D0 bl)(hL:LineAt w bl n bw ws)(hz:SzOk ws)(hv:gNm ws=some (x,[]))(ht:0<st.threads.length):Cl 47 #[ptr br,ptr bl] w λe w'=>Fails 3 n bl w e w':=by
 obtain ⟨ta,tk,htv⟩:=h.threadS
 have R0:=hid (λW (hc:Chg (Jo bl) w W)=>h.keep hc (λk i hk e=>hn (e.1▸hk)))
 clear h
 have K:=hid (Fa hL hz hv)
 have hz1:=Ya hv hz
 clear hL
 go_enter Tryz.func47,Tryz.ntmps47
 go_wp2_with fail
 refine K.out.mono ?_
 rintro e w1 ⟨rfl,h1,c1⟩
 have H2:=hid h1
 have C2:=hid c1
 obtain ⟨o,cap,hs1⟩:=h1.more
 simp only [List.length_nil] at hs1
 clear h1 c1 K
 go_wp2_with (first|(go_at_call 72;go_in)|fail)
 refine (Eo H2.out).mono ?_
 rintro e w3 ⟨rfl,rfl⟩
 have r3:=R0.out _ C2.out
 have ct:=r3.c1
 rw [htv] at ct
 have ht':0<(st.threads.length:Int):=yl5
 clear r3 R0 htv
 go_wp2_with fail
 refine (Jv H2.out 3).mono ?_
 intro e w4 h3
 obtain ⟨bf,rfl,h4⟩:=Fails.after h3 C2.out
 exact ⟨rfl,bf,rfl,h4⟩
theorem zog(h:RMach D0 lab w br sb bs tv ov st ms)(hn: ¬D0 bl)(hL:LineAt w bl n bw ws)(hz:SzOk ws)(hv:gNm ws=some (x,[]))(ht:st.threads.length=0)(hx:x.size<=maxLen)(hs:st.isSh x=true):Cl 47 #[ptr br,ptr bl] w λe w'=>Fails 4 n bl w e w':=by
 obtain ⟨ta,tk,htv⟩:=h.threadS
 have R0:=hid (λW (hc:Chg (Jo bl) w W)=>h.keep hc (λk i hk e=>hn (e.1▸hk)))
 clear h
 have K:=hid (Fa hL hz hv)
 have hz1:=Ya hv hz
 clear hL
 go_enter Tryz.func47,Tryz.ntmps47
 go_wp2_with fail
 refine K.out.mono ?_
 rintro e w1 ⟨rfl,h1,c1⟩
 have H2:=hid h1
 have C2:=hid c1
 obtain ⟨o,cap,hs1⟩:=h1.more
 simp only [List.length_nil] at hs1
 clear h1 c1 K
 go_wp2_with (first|(go_at_call 72;go_in)|fail)
 refine (Eo H2.out).mono ?_
 rintro e w3 ⟨rfl,rfl⟩
 have r3:=R0.out _ C2.out
 have ct:=r3.c1
 rw [htv] at ct
 have K4:=hid (Uu r3 x hx)
 rw [hs] at K4
 rw [ht] at ct
 have R3:=hid r3
 clear r3 R0 htv
 go_wp2_with fail
 refine K4.out.mono ?_
 rintro e w4 ⟨rfl,b4⟩
 have H4:=hid (H2.out.below b4)
 have C4:=hid (C2.out.trans (Chg.of_below b4))
 clear b4 R3 K4 C2
 go_wp2_with fail
 refine (Jv H4.out 4).mono ?_
 intro e w5 h3
 obtain ⟨bf,rfl,h4⟩:=Fails.after h3 C4.out
 exact ⟨rfl,bf,rfl,h4⟩
theorem zv5(h:RMach D0 lab w br sb bs tv ov st ms)(hn: ¬D0 bl)(hL:LineAt w bl n bw ws)(hz:SzOk ws)(hv:gNm ws=some (x,[]))(ht:st.threads.length=0)(hx:x.size<=maxLen)(hs:st.isSh x=false)(h0: ∀k,D0 k->D k)(hDl:D bl)(hl:st.shared.length<1000000)(hc:0<=st.cells/\st.cells<10000000):Cl 47 #[ptr br,ptr bl] w λe w'=>e= .returned (.tuple #[])/\RMach D lab w' br sb bs tv ov {st with shared:=st.shared++[(x,st.cells,1)],cells:=st.cells+1} ms/\Chg (λk _=>D k) w w':=by
 obtain ⟨ta,tk,htv⟩:=h.threadS
 have R0:=hid (λW (hc:Chg (Jo bl) w W)=>h.keep hc (λk i hk e=>hn (e.1▸hk)))
 clear h
 have K:=hid (Fa hL hz hv)
 have hz1:=Ya hv hz
 clear hL
 go_enter Tryz.func47,Tryz.ntmps47
 go_wp2_with fail
 refine K.out.mono ?_
 rintro e w1 ⟨rfl,h1,c1⟩
 have H2:=hid h1
 have C2:=hid c1
 obtain ⟨o,cap,hs1⟩:=h1.more
 simp only [List.length_nil] at hs1
 clear h1 c1 K
 go_wp2_with (first|(go_at_call 72;go_in)|fail)
 refine (Eo H2.out).mono ?_
 rintro e w3 ⟨rfl,rfl⟩
 have r3:=R0.out _ C2.out
 have ct:=r3.c1
 rw [htv] at ct
 have K4:=hid (Uu r3 x hx)
 rw [hs] at K4
 rw [ht] at ct
 have R3:=hid r3
 clear r3 R0 htv
 go_wp2_with fail
 refine K4.out.mono ?_
 rintro e w4 ⟨rfl,b4⟩
 have r4:=(R3.out.below b4).newD (D':=D) (λk hk _=>h0 k hk)
 have r5:=r4.below (w':=w4.drew) (Qi _ _)
 obtain ⟨W,hmu,r6,c6⟩:=r5.share x hx hs 1 hl
 have lb6:=Qd r6.sh
 have cs0:=r5.c0
 have cs2:=r5.c2
 have cs2':=r6.c2
 have cf2:=r6.free 2
 obtain ⟨r7,c7⟩:=r6.cellsTo (st.cells+1)
 have hwr:wrap64 (st.cells+1)=st.cells+1:=ymc
 have R7:=hid r7
 have C7:=hid ((((C2.out.trans (Chg.of_below b4)).drew.mono (M':=λk _=>D k) (λk i _ e=>e.1▸hDl)).trans c6).trans c7)
 clear r4 r5 r6 r7 c6 c7 b4 R3 K4 C2
 go_wp2_with fail
 go_region
 all_goals
  go_wp2
  go_end0
  exact ⟨rfl,R7.out,C7.out⟩
theorem zrm{u2:ByteArray}(hL:LineAt w bl n bw ws)(hz:SzOk ws)(hE:Hid (Env w))(hbl:10<=bl)(hv:gNm ws=some (x,u::us))(hv2:gIn 1 6 (u::us)=some (c,(u2::us2))):Cl 47 #[ptr br,ptr bl] w λe w'=>Fails 2 n bl w e w':=by
 have K:=hid (Fa hL hz hv)
 have hz1:=Ya hv hz
 clear hL
 go_enter Tryz.func47,Tryz.ntmps47
 go_wp2_with fail
 refine K.out.mono ?_
 rintro e w1 ⟨rfl,h1,c1⟩
 have K2:=hid (zqf h1 (hE.out.line c1 hbl) hbl hz1 hv2)
 have C1:=hid c1
 obtain ⟨o,cap,hs1⟩:=h1.more
 simp only [List.length_cons] at hs1
 clear h1 c1 K
 go_wp2_with (first|(go_at_call 72;go_in)|fail)
 refine K2.out.mono ?_
 rintro e w2 ⟨rfl,h2,c2⟩
 have H2:=hid h2
 have C2:=hid (C1.out.trans c2)
 clear h2 c2 C1 K2 hs1
 go_wp2_with (fail)
 refine (zc0 H2.out).mono ?_
 intro e w3 h3
 obtain ⟨bf,rfl,h4⟩:=Fails.after h3 C2.out
 exact ⟨rfl,bf,rfl,h4⟩
theorem zj9(h:RMach D0 lab w br sb bs tv ov st ms)(hn: ¬D0 bl)(hL:LineAt w bl n bw ws)(hz:SzOk ws)(hE:Hid (Env w))(hbl:10<=bl)(hv:gNm ws=some (x,u::us))(hv2:gIn 1 6 (u::us)=some (c,[]))(ht:0<st.threads.length):Cl 47 #[ptr br,ptr bl] w λe w'=>Fails 3 n bl w e w':=by
 obtain ⟨ta,tk,htv⟩:=h.threadS
 have R0:=hid (λW (hc:Chg (Jo bl) w W)=>h.keep hc (λk i hk e=>hn (e.1▸hk)))
 clear h
 have K:=hid (Fa hL hz hv)
 have hz1:=Ya hv hz
 clear hL
 go_enter Tryz.func47,Tryz.ntmps47
 go_wp2_with fail
 refine K.out.mono ?_
 rintro e w1 ⟨rfl,h1,c1⟩
 have K2:=hid (zqf h1 (hE.out.line c1 hbl) hbl hz1 hv2)
 have C1:=hid c1
 obtain ⟨o,cap,hs1⟩:=h1.more
 simp only [List.length_cons] at hs1
 clear h1 c1 K
 go_wp2_with (first|(go_at_call 72;go_in)|fail)
 refine K2.out.mono ?_
 rintro e w2 ⟨rfl,h2,c2⟩
 have H2:=hid h2
 have C2:=hid (C1.out.trans c2)
 clear h2 c2 C1 K2 hs1
 go_wp2_with (fail)
 refine (Eo H2.out).mono ?_
 rintro e w3 ⟨rfl,rfl⟩
 have r3:=R0.out _ C2.out
 have ct:=r3.c1
 rw [htv] at ct
 have ht':0<(st.threads.length:Int):=yl5
 clear r3 R0 htv
 go_wp2_with fail
 refine (Jv H2.out 3).mono ?_
 intro e w4 h3
 obtain ⟨bf,rfl,h4⟩:=Fails.after h3 C2.out
 exact ⟨rfl,bf,rfl,h4⟩
theorem zoh(h:RMach D0 lab w br sb bs tv ov st ms)(hn: ¬D0 bl)(hL:LineAt w bl n bw ws)(hz:SzOk ws)(hE:Hid (Env w))(hbl:10<=bl)(hv:gNm ws=some (x,u::us))(hv2:gIn 1 6 (u::us)=some (c,[]))(ht:st.threads.length=0)(hx:x.size<=maxLen)(hs:st.isSh x=true):Cl 47 #[ptr br,ptr bl] w λe w'=>Fails 4 n bl w e w':=by
 obtain ⟨ta,tk,htv⟩:=h.threadS
 have R0:=hid (λW (hc:Chg (Jo bl) w W)=>h.keep hc (λk i hk e=>hn (e.1▸hk)))
 clear h
 have K:=hid (Fa hL hz hv)
 have hz1:=Ya hv hz
 clear hL
 go_enter Tryz.func47,Tryz.ntmps47
 go_wp2_with fail
 refine K.out.mono ?_
 rintro e w1 ⟨rfl,h1,c1⟩
 have K2:=hid (zqf h1 (hE.out.line c1 hbl) hbl hz1 hv2)
 have C1:=hid c1
 obtain ⟨o,cap,hs1⟩:=h1.more
 simp only [List.length_cons] at hs1
 clear h1 c1 K
 go_wp2_with (first|(go_at_call 72;go_in)|fail)
 refine K2.out.mono ?_
 rintro e w2 ⟨rfl,h2,c2⟩
 have H2:=hid h2
 have C2:=hid (C1.out.trans c2)
 clear h2 c2 C1 K2 hs1
 go_wp2_with (fail)
 refine (Eo H2.out).mono ?_
 rintro e w3 ⟨rfl,rfl⟩
 have r3:=R0.out _ C2.out
 have ct:=r3.c1
 rw [htv] at ct
 have K4:=hid (Uu r3 x hx)
 rw [hs] at K4
 rw [ht] at ct
 have R3:=hid r3
 clear r3 R0 htv
 go_wp2_with fail
 refine K4.out.mono ?_
 rintro e w4 ⟨rfl,b4⟩
 have H4:=hid (H2.out.below b4)
 have C4:=hid (C2.out.trans (Chg.of_below b4))
 clear b4 R3 K4 C2
 go_wp2_with fail
 refine (Jv H4.out 4).mono ?_
 intro e w5 h3
 obtain ⟨bf,rfl,h4⟩:=Fails.after h3 C4.out
 exact ⟨rfl,bf,rfl,h4⟩
theorem zv6(h:RMach D0 lab w br sb bs tv ov st ms)(hn: ¬D0 bl)(hL:LineAt w bl n bw ws)(hz:SzOk ws)(hE:Hid (Env w))(hbl:10<=bl)(hv:gNm ws=some (x,u::us))(hv2:gIn 1 6 (u::us)=some (c,[]))(ht:st.threads.length=0)(hx:x.size<=maxLen)(hs:st.isSh x=false)(h0: ∀k,D0 k->D k)(hDl:D bl)(hl:st.shared.length<1000000)(hc:0<=st.cells/\st.cells<10000000)(hc6:1<=c/\c<=6):Cl 47 #[ptr br,ptr bl] w λe w'=>e= .returned (.tuple #[])/\RMach D lab w' br sb bs tv ov {st with shared:=st.shared++[(x,st.cells,c)],cells:=st.cells+c} ms/\Chg (λk _=>D k) w w':=by
 obtain ⟨ta,tk,htv⟩:=h.threadS
 have R0:=hid (λW (hc:Chg (Jo bl) w W)=>h.keep hc (λk i hk e=>hn (e.1▸hk)))
 clear h
 have K:=hid (Fa hL hz hv)
 have hz1:=Ya hv hz
 clear hL
 go_enter Tryz.func47,Tryz.ntmps47
 go_wp2_with fail
 refine K.out.mono ?_
 rintro e w1 ⟨rfl,h1,c1⟩
 have K2:=hid (zqf h1 (hE.out.line c1 hbl) hbl hz1 hv2)
 have C1:=hid c1
 obtain ⟨o,cap,hs1⟩:=h1.more
 simp only [List.length_cons] at hs1
 clear h1 c1 K
 go_wp2_with (first|(go_at_call 72;go_in)|fail)
 refine K2.out.mono ?_
 rintro e w2 ⟨rfl,h2,c2⟩
 have H2:=hid h2
 have C2:=hid (C1.out.trans c2)
 clear h2 c2 C1 K2 hs1
 go_wp2_with (fail)
 refine (Eo H2.out).mono ?_
 rintro e w3 ⟨rfl,rfl⟩
 have r3:=R0.out _ C2.out
 have ct:=r3.c1
 rw [htv] at ct
 have K4:=hid (Uu r3 x hx)
 rw [hs] at K4
 rw [ht] at ct
 have R3:=hid r3
 clear r3 R0 htv
 go_wp2_with fail
 refine K4.out.mono ?_
 rintro e w4 ⟨rfl,b4⟩
 have r4:=(R3.out.below b4).newD (D':=D) (λk hk _=>h0 k hk)
 have r5:=r4.below (w':=w4.drew) (Qi _ _)
 obtain ⟨W,hmu,r6,c6⟩:=r5.share x hx hs c hl
 have lb6:=Qd r6.sh
 have cs0:=r5.c0
 have cs2:=r5.c2
 have cs2':=r6.c2
 have cf2:=r6.free 2
 obtain ⟨r7,c7⟩:=r6.cellsTo (st.cells+c)
 have hwr:wrap64 (st.cells+c)=st.cells+c:=ymc
 have R7:=hid r7
 have C7:=hid ((((C2.out.trans (Chg.of_below b4)).drew.mono (M':=λk _=>D k) (λk i _ e=>e.1▸hDl)).trans c6).trans c7)
 clear r4 r5 r6 r7 c6 c7 b4 R3 K4 C2
 go_wp2_with fail
 go_region
 all_goals
  go_wp2
  go_end0
  exact ⟨rfl,R7.out,C7.out⟩
end
def RS.setK(st:RS)(t:Nat)(k:HK):RS:=match st.hs[t]? with
 |some h=>{st with hs:=st.hs.set t ⟨k,h.ents⟩}
 |none=>st
def RS.addE(st:RS)(o:Nat)(e:En):RS:=match st.hs[o]? with
 |some h=>{st with hs:=st.hs.set o ⟨h.k,h.ents++[e]⟩}
 |none=>st
def RS.newH(st:RS)(s:St):RS:={st with hs:=st.hs++[⟨.st s,[]⟩]}
theorem zv7(b:Nat)(w:World):(method 473 85 (ptr b) "commits/program.add").run Tryz.prog w= .ok (210,ptr b) w:=yl7
theorem zv8(b:Nat)(w:World):(method 473 147 (ptr b) "commits/program.add").run Tryz.prog w= .ok (210,ptr b) w:=yl7
theorem z6k(b:Nat)(w:World):(method 473 197 (ptr b) "commits/program.add").run Tryz.prog w= .ok (210,ptr b) w:=yl7
theorem z3d(b:Nat)(w:World):(method 473 200 (ptr b) "commits/program.add").run Tryz.prog w= .ok (210,ptr b) w:=yl7
theorem zv9(b:Nat)(w:World):(nilAhead 473 85 (ptr b) "commits/program.add").run Tryz.prog w= .ok (some false) w:=yl7
theorem zwa(b:Nat)(w:World):(nilAhead 473 147 (ptr b) "commits/program.add").run Tryz.prog w= .ok (some false) w:=yl7
theorem z6l(b:Nat)(w:World):(nilAhead 473 197 (ptr b) "commits/program.add").run Tryz.prog w= .ok (some false) w:=yl7
theorem z3e(b:Nat)(w:World):(nilAhead 473 200 (ptr b) "commits/program.add").run Tryz.prog w= .ok (some false) w:=yl7
theorem zmc{k:HK}(h:zhr k)(b:Nat):(∀w,(method 473 (hkT k) (ptr b) "commits/program.add").run Tryz.prog w= .ok (210,ptr b) w)/\ ∀w,(nilAhead 473 (hkT k) (ptr b) "commits/program.add").run Tryz.prog w= .ok (some false) w:=by
 rcases k with ⟨l,c⟩|⟨to,a⟩|⟨to,k,a,c⟩|⟨to,f,a⟩|⟨f,a,c⟩|a|⟨⟩|a|n
 ·exact ⟨zv7 b,zv9 b⟩
 ·exact h.elim
 ·exact h.elim
 ·exact h.elim
 ·exact h.elim
 ·exact h.elim
 ·exact ⟨zv8 b,zwa b⟩
 ·exact ⟨z6k b,z6l b⟩
 ·exact ⟨z3d b,z3e b⟩
section
variable{D D0:Nat->Prop}{lab:Nat->Nat×Nat}{w:World}{br sb bs bl bw:Nat}{n:Int}{ws:List ByteArray}{tv ov:Value}{st:RS}{ms:List HM}
theorem RMach.setK_eq(h:RMach D lab w br sb bs tv ov st ms)(t:Nat)(ht:t<ms.length)(k:HK):st.setK t k={st with hs:=st.hs.set t ⟨k,ms[t].h.ents⟩}:=by
 unfold RS.setK
 rw [h.hsAt t ht]
theorem RMach.addE_eq(h:RMach D lab w br sb bs tv ov st ms)(t:Nat)(ht:t<ms.length)(e:En):st.addE t e={st with hs:=st.hs.set t ⟨ms[t].h.k,ms[t].h.ents++[e]⟩}:=by
 unfold RS.addE
 rw [h.hsAt t ht]
structure Lays(st:RS)(ms:List HM)(tl ol:List Nat)(t o:Nat)(l:List ByteArray)(c:Nat):Prop where
 opn:st.opnOk
 ent:st.entOk
 ht:st.threads=tl++[t]
 htl:t<ms.length
 hn:tl.length<1000000
 hk:(ms[t]'htl).h.k= .thr l c
 ho:st.opn=ol++[o]
 hol:o<ms.length
 hc:c<=14
 hl:l.length<=4
 hents: ∀h∈st.hs,h.ents.length<900
theorem zoi(h:RMach D0 lab w br sb bs tv ov st ms)(hL:LineAt w bl n bw ws)(ho:st.opnOk)(s:St)(b:Nat)(hmay:st.mayStand s=false):
  Cl 52 #[ptr br,ptr bl,Vk s b] w λe w'=>Fails 3 n bl w e w':=by
 have K:=hid (Xm h ho s b)
 rw [hmay] at K
 have H:=hid hL
 clear h hL
 generalize Vk s b=v at*
 go_enter Tryz.func52,Tryz.ntmps52
 go_wp2_with fail
 refine K.out.mono ?_
 rintro e w1 ⟨rfl,rfl⟩
 go_wp2_with fail
 refine (Jv H.out 3).mono ?_
 rintro e w1 ⟨bf,rfl,h1⟩
 exact ⟨rfl,bf,rfl,h1⟩
theorem zrn(h:RMach D0 lab w br sb bs tv ov st ms)(hL:LineAt w bl n bw ws)(hy:Lays st ms tl ol t o l c)(s:St)(b:Nat)(hS:StB w s b)(hz:zl9 s)(h2:(Qj s).length<=2)(hmay:st.mayStand s=true)(hnm:st.mayName l s=false):
  Cl 52 #[ptr br,ptr bl,Vk s b] w λe w'=>Fails 4 n bl w e w':=by
 have K:=hid (Xm h hy.opn s b)
 rw [hmay] at K
 have K2:=hid (Fp h tl t hy.ht hy.htl hy.hn l c hy.hk s b hS hz h2)
 rw [hnm] at K2
 have H:=hid hL
 clear h hL
 generalize Vk s b=v at*
 go_enter Tryz.func52,Tryz.ntmps52
 go_wp2_with fail
 refine K.out.mono ?_
 rintro e w1 ⟨rfl,rfl⟩
 go_wp2_with fail
 refine K2.out.mono ?_
 rintro e w2 ⟨rfl,b2⟩
 have B2:=hid b2
 clear b2
 go_wp2_with fail
 refine (Jv (H.out.below B2.out) 4).mono ?_
 intro e w3 h3
 obtain ⟨bf,rfl,h4⟩:=h3.after (Chg.of_below B2.out)
 exact ⟨rfl,bf,rfl,h4⟩
theorem zro(h:RMach D0 lab w br sb bs tv ov st ms)(hL:LineAt w bl n bw ws)(hy:Lays st ms tl ol t o l c)(s:St)(b:Nat)(hS:StB w s b)(hz:zl9 s)(h2:(Qj s).length<=2)(hmay:st.mayStand s=true)(hnm:st.mayName l s=true)(hrm:st.hasRoom l c s=false):
  Cl 52 #[ptr br,ptr bl,Vk s b] w λe w'=>Fails 5 n bl w e w':=by
 have K:=hid (Xm h hy.opn s b)
 rw [hmay] at K
 have K2:=hid (Fp h tl t hy.ht hy.htl hy.hn l c hy.hk s b hS hz h2)
 rw [hnm] at K2
 have K3:=hid (λW (hW:Below w.heap.size w W)=>Oj (h.below hW) hy.opn tl t hy.ht hy.htl hy.hn l c hy.hk s b hz)
 rw [hrm] at K3
 have H:=hid hL
 clear h hL
 generalize Vk s b=v at*
 go_enter Tryz.func52,Tryz.ntmps52
 go_wp2_with fail
 refine K.out.mono ?_
 rintro e w1 ⟨rfl,rfl⟩
 go_wp2_with fail
 refine K2.out.mono ?_
 rintro e w2 ⟨rfl,b2⟩
 have B2:=hid b2
 clear b2
 go_wp2_with fail
 refine (K3.out w2 B2.out).mono ?_
 rintro e w3 ⟨rfl,b3⟩
 have B3:=hid (B2.out.trans (b3.mono B2.out.size))
 clear b3
 go_wp2_with fail
 refine (Jv (H.out.below B3.out) 5).mono ?_
 intro e w4 h4
 obtain ⟨bf,rfl,h5⟩:=h4.after (Chg.of_below B3.out)
 exact ⟨rfl,bf,rfl,h5⟩
end
def RS.lastT(st:RS):Option (Nat×List ByteArray×Nat):=match st.threads.getLast? with
 |none=>none
 |some t=>match st.hk t with
  |some (.inl (l,c))=>some (t,l,c)
  |_=>none
def RS.lay(st:RS)(t o:Nat)(l:List ByteArray)(c:Nat)(s:St):RS:=
 if Qf s=true then {(((st.newH s).setK t (.thr l (c+1))).addE o (.sub st.hs.length)) with opn:=st.opn++[st.hs.length]}
 else if (Vg s).toList.isEmpty=false/\Uh l (Vg s)=false then ((st.setK t (.thr l (c+1))).setK t (.thr (l++[Vg s]) (c+1))).addE o (.leaf s)
 else (st.setK t (.thr l (c+1))).addE o (.leaf s)
def gSt(st:RS)(s:St):Except Int RS:=
 if st.mayStand s=false then .error 3 else match st.lastT,st.opn.getLast? with
 |some (t,l,c),some o=>if st.mayName l s=false then .error 4 else if st.hasRoom l c s=false then .error 5 else .ok (st.lay t o l c s)
 |_,_=> .error 3
def Qy:ByteArray:=⟨#[115,104,97,114,101,100]⟩
def Qt:ByteArray:=⟨#[116,104,114,101,97,100]⟩
def Zd:ByteArray:=⟨#[101,110,100]⟩
def Iq(st:RS)(ws:List ByteArray):Except Int RS:=match gNm ws with
 |none=> .error 2
 |some (x,[])=>if 0<st.threads.length then .error 3 else if st.isSh x=true then .error 4 else .ok {st with shared:=st.shared++[(x,st.cells,1)],cells:=st.cells+1}
 |some (x,u::us)=>match gIn 1 6 (u::us) with
  |some (c,[])=>if 0<st.threads.length then .error 3 else if st.isSh x=true then .error 4 else .ok {st with shared:=st.shared++[(x,st.cells,c)],cells:=st.cells+c}
  |_=> .error 2
def Ef(st:RS)(ws:List ByteArray):Except Int RS:=match ws with
 |[]=>if 1<st.opn.length then .error 3 else .ok st.newT
 |_=> .error 2
def zwb(st:RS)(ws:List ByteArray):Except Int RS:=match ws with
 |[]=>if st.opn.length<2 then .error 3 else .ok {st with opn:=st.opn.dropLast}
 |_=> .error 2
def Vq(st:RS)(ws:List ByteArray):Except Int RS:=match ws with
 |[]=> .error 2
 |u::us=>if u=Qy then Iq st us else if u=Qt then Ef st us else if u=Zd then zwb st us else match Zs u us with
  |some (s,[])=>gSt st s
  |_=> .error 2
structure RS.Ok(st:RS)(k:Nat):Prop where
 opn:st.opnOk
 ent:st.entOk
 thr: ∀t∈st.threads,∃l c,st.hk t=some (.thr l c)/\c<=14/\l.length<=4
 ne:st.opn≠[]->st.threads≠[]
 tn:st.threads.length<=k
 sn:st.shared.length<=k
 cn:0<=st.cells/\st.cells<=6*k
 e14: ∀(j:Nat) (h:Hd),st.hs[j]?=some h->h.ents.length<=14
 eo: ∀o∈st.opn,∀h:Hd,st.hs[o]?=some h->∀t l c,st.lastT=some (t,l,c)->h.ents.length<=c
def Zv(t o:Nat)(k:HK)(e:En)(j:Nat)(h:Hd):Hd:=⟨if j=t then k else h.k,if j=o then h.ents++[e] else h.ents⟩
section
variable{st st':RS}{k t o:Nat}{l l':List ByteArray}{c:Nat}{s:St}
theorem zmd(t:Nat)(q:HK)(j:Nat):(st.setK t q).hs[j]?=(st.hs[j]?).map λh=>⟨if j=t then q else h.k,h.ents⟩:=by
 unfold RS.setK
 cases h:st.hs[t]? with
 |none=>
  by_cases e:j=t
  ·subst e;simp [h]
  ·simp [e]
 |some x=>
  by_cases e:j=t
  ·subst e
   obtain ⟨this,rfl⟩:=List.getElem?_eq_some_iff.1 h
   simp [this]
  ·have e':t≠j:=λq=>e q.symm
   simp [e,List.getElem?_set_ne e']
theorem zwc(o:Nat)(e:En)(j:Nat):(st.addE o e).hs[j]?=(st.hs[j]?).map λh=>⟨h.k,if j=o then h.ents++[e] else h.ents⟩:=by
 unfold RS.addE
 cases h:st.hs[o]? with
 |none=>
  by_cases e:j=o
  ·subst e;simp [h]
  ·simp [e]
 |some x=>
  by_cases e:j=o
  ·subst e
   obtain ⟨this,rfl⟩:=List.getElem?_eq_some_iff.1 h
   simp [this]
  ·have e':o≠j:=λq=>e q.symm
   simp [e,List.getElem?_set_ne e']
theorem Xu(t:Nat)(q:HK):(st.setK t q).shared=st.shared/\(st.setK t q).cells=st.cells/\(st.setK t q).threads=st.threads/\(st.setK t q).opn=st.opn:=by
 unfold RS.setK
 split<;>exact ⟨rfl,rfl,rfl,rfl⟩
theorem zas(o:Nat)(e:En):(st.addE o e).shared=st.shared/\(st.addE o e).cells=st.cells/\(st.addE o e).threads=st.threads/\(st.addE o e).opn=st.opn:=by
 unfold RS.addE
 split<;>exact ⟨rfl,rfl,rfl,rfl⟩
theorem Us(h:st.lastT=some (t,l,c)): ∃tl,st.threads=tl++[t]/\st.hk t=some (.thr l c):=by
 unfold RS.lastT at h
 cases hg:st.threads.getLast? with
 |none=>simp [hg] at h
 |some t'=>
  rw [hg] at h
  simp only at h
  cases hk:st.hk t' with
  |none=>simp [hk] at h
  |some q=>
   rw [hk] at h
   rcases q with ⟨l',c'⟩|q
   ·simp only [Option.some.injEq,Prod.mk.injEq] at h
    obtain ⟨rfl,rfl,rfl⟩:=h
    obtain ⟨tl,htl⟩:=List.getLast?_eq_some_iff.1 hg
    exact ⟨tl,htl,hk⟩
   ·simp at h
theorem zc4(h:st.threads=tl++[t])(hk:st.hk t=some (.thr l c)):st.lastT=some (t,l,c):=by
 unfold RS.lastT
 rw [h]
 simp [hk]
theorem zwd(h:st.Ok k)(hne:st.threads≠[]): ∃t l c tl,st.lastT=some (t,l,c)/\st.threads=tl++[t]/\st.hk t=some (.thr l c)/\c<=14/\l.length<=4:=by
 obtain ⟨tl,t,e⟩: ∃tl t,st.threads=tl++[t]:=⟨_,_,(List.dropLast_concat_getLast hne).symm⟩
 obtain ⟨l,c,h1,h2,h3⟩:=h.thr t ymz
 exact ⟨t,l,c,tl,zc4 e h1,e,h1,h2,h3⟩
theorem Yy{j:Nat}{q:HK}(h:st.hk j=some q): ∃x,st.hs[j]?=some x/\x.k=q:=by
 unfold RS.hk at h
 cases hx:st.hs[j]? with
 |none=>simp [hx] at h
 |some x=>exact ⟨x,rfl,by simpa [hx] using h⟩
theorem Ok.upd(h:st.Ok k)(hl:st.lastT=some (t,l,c))(ho:o∈st.opn)(hc:c<14)(hl':l'.length<=4)(e:En)(he: ∀j,e= .inr j->j<st.hs.length)
  (hsame:st'.shared=st.shared/\st'.cells=st.cells/\st'.threads=st.threads/\st'.opn=st.opn) (hget: ∀j,st'.hs[j]?=(st.hs[j]?).map (Zv t o (.thr l' (c+1)) e j)):st'.Ok k/\st'.lastT=some (t,l',c+1)/\st'.hs.length=st.hs.length:=by
 obtain ⟨s1,s2,s3,s4⟩:=hsame
 obtain ⟨tl,ht,hkt⟩:=Us hl
 have hlen:st'.hs.length=st.hs.length:=by
  apply Nat.le_antisymm
  ·apply Nat.le_of_not_lt
   intro hlt
   have:=hget st.hs.length
   rw [List.getElem?_eq_none (Nat.le_refl _)] at this
   rw [List.getElem?_eq_getElem hlt] at this
   simp at this
  ·apply Nat.le_of_not_lt
   intro hlt
   have:=hget st'.hs.length
   rw [List.getElem?_eq_none (Nat.le_refl _),List.getElem?_eq_getElem hlt] at this
   simp at this
 have hkj: ∀j,st'.hk j=(st.hk j).map λq=>if j=t then .thr l' (c+1) else q:=ylz
 have hkt':st'.hk t=some (.thr l' (c+1)):=by rw [hkj,hkt];simp
 have hlt':st'.lastT=some (t,l',c+1):=zc4 (s3.trans ht) hkt'
 have hinv: ∀(j:Nat) (x:Hd),st'.hs[j]?=some x->∃y,st.hs[j]?=some y/\x=Zv t o (.thr l' (c+1)) e j y:=ykb
 refine ⟨{opn:=⟨by rw [s4];exact h.opn.1,?_⟩,ent:=⟨?_,?_,?_⟩,thr:=?_,ne:=by rw [s3,s4];exact h.ne,tn:=by rw [s3];exact h.tn,sn:=by rw [s1];exact h.sn,cn:=by rw [s2];exact h.cn,e14:=?_,eo:=?_},hlt',hlen⟩
 ·intro j hj
  rw [s4] at hj
  obtain ⟨y,hy,hok⟩:=h.opn.2 j hj
  refine ⟨Zv t o (.thr l' (c+1)) e j y,by rw [hget,hy];rfl,?_⟩
  unfold Zv
  by_cases e1:j=t
  ·simp only [e1,if_true];trivial
  ·simp only [e1,if_false];exact hok
 ·intro x hx i hi
  rw [hlen]
  obtain ⟨j,hj⟩:=List.mem_iff_getElem?.1 hx
  obtain ⟨y,hy,rfl⟩:=hinv j x hj
  have hy':y∈st.hs:=List.mem_iff_getElem?.2 ⟨j,hy⟩
  unfold Zv at hi
  simp only at hi
  by_cases e1:j=o
  ·rw [if_pos e1,List.mem_append] at hi
   rcases hi with hi|hi
   ·exact h.ent.1 y hy' i hi
   ·simp at hi
    exact he i hi.symm
  ·rw [if_neg e1] at hi
   exact h.ent.1 y hy' i hi
 ·rw [s3,hlen];exact h.ent.2.1
 ·rw [s4,hlen];exact h.ent.2.2
 ·intro j hj
  rw [s3] at hj
  obtain ⟨l0,c0,h1,h2,h3⟩:=h.thr j hj
  by_cases e1:j=t
  ·subst e1
   exact ⟨l',c+1,hkt',by omega,hl'⟩
  ·refine ⟨l0,c0,?_,h2,h3⟩
   rw [hkj,h1]
   simp [e1]
 ·intro j x hx
  obtain ⟨y,hy,rfl⟩:=hinv j x hx
  unfold Zv
  simp only
  by_cases e1:j=o
  ·subst e1
   have:=h.eo j ho y hy t l c hl
   rw [if_pos rfl]
   simp
   omega
  ·rw [if_neg e1];exact h.e14 j y hy
 ·intro j hj x hx t2 l2 c2 h2
  rw [hlt'] at h2
  simp only [Option.some.injEq,Prod.mk.injEq] at h2
  obtain ⟨_,_,rfl⟩:=h2
  rw [s4] at hj
  obtain ⟨y,hy,rfl⟩:=hinv j x hx
  have:=h.eo j hj y hy t l c hl
  unfold Zv
  simp only
  by_cases e1:j=o
  ·rw [if_pos e1];simp;omega
  ·rw [if_neg e1];omega
theorem Ok.newH(h:st.Ok k)(s:St):(st.newH s).Ok k/\(st.newH s).lastT=st.lastT:=by
 have old: ∀j,j<st.hs.length->(st.newH s).hs[j]?=st.hs[j]?:=λj hj=>List.getElem?_append_left hj
 have hko: ∀j,j<st.hs.length->(st.newH s).hk j=st.hk j:=λj hj=>by unfold RS.hk;rw [old j hj]
 have hlt:(st.newH s).lastT=st.lastT:=by
  unfold RS.lastT
  show (match st.threads.getLast? with|none=>none|some t=>_)=_
  cases hg:st.threads.getLast? with
  |none=>rfl
  |some t=>
   have ht:t∈st.threads:=List.mem_of_getLast? hg
   simp only
   rw [hko t (h.ent.2.1 t ht)]
 have hinv: ∀(j:Nat) (x:Hd),(st.newH s).hs[j]?=some x->st.hs[j]?=some x\/x=⟨.st s,[]⟩:=by
  intro j x hx
  by_cases e:j<st.hs.length
  ·left;rw [<-old j e];exact hx
  ·right
   have:(st.hs++[⟨.st s,[]⟩])[j]?=some x:=hx
   rw [List.getElem?_append_right yl5] at this
   have hj:j- st.hs.length=0:=by
    apply Nat.eq_zero_of_not_pos
    intro hp
    rw [List.getElem?_eq_none yma] at this
    simp at this
   rw [hj] at this
   simpa using this.symm
 have hlen:(st.newH s).hs.length=st.hs.length+1:=ym0
 refine ⟨{opn:=⟨h.opn.1,λj hj=>?_⟩,ent:=⟨?_,?_,?_⟩,thr:=?_,ne:=h.ne,tn:=h.tn,sn:=h.sn,cn:=h.cn,e14:=?_,eo:=?_},hlt⟩
 ·obtain ⟨y,hy,hok⟩:=h.opn.2 j hj
  exact ⟨y,by rw [old j (h.ent.2.2 j hj)];exact hy,hok⟩
 ·exact yku
 ·intro j hj;rw [hlen];have:=h.ent.2.1 j hj;omega
 ·intro j hj;rw [hlen];have:=h.ent.2.2 j hj;omega
 ·intro t ht
  obtain ⟨l,c,h1,h2⟩:=h.thr t ht
  exact ⟨l,c,by rw [hko t (h.ent.2.1 t ht)];exact h1,h2⟩
 ·intro j x hx
  rcases hinv j x hx with q|rfl
  ·exact h.e14 j x q
  ·simp
 ·intro j hj x hx t l c h2
  rw [hlt] at h2
  rw [old j (h.ent.2.2 j hj)] at hx
  exact h.eo j hj x hx t l c h2
theorem Ok.pushO(h:st.Ok k)(x:Nat)(y:Hd)(hy:st.hs[x]?=some y)(hok:zhr y.k)(he:y.ents=[])(h3:st.opn.length<=3)(hne:st.threads≠[]):RS.Ok {st with opn:=st.opn++[x]} k:=by
 have hx:x<st.hs.length:=(List.getElem?_eq_some_iff.1 hy).1
 refine {opn:=⟨by simp;omega,λj hj=>?_⟩,ent:=⟨h.ent.1,h.ent.2.1,λj hj=>?_⟩,thr:=h.thr,ne:=λ_=>hne,tn:=h.tn,sn:=h.sn,cn:=h.cn,e14:=h.e14,eo:=λj hj z hz t l c hl=>?_}
 ·rcases List.mem_append.1 hj with hj|hj
  ·exact h.opn.2 j hj
  ·simp at hj;subst hj;exact ⟨y,hy,hok⟩
 ·rcases List.mem_append.1 hj with hj|hj
  ·exact h.ent.2.2 j hj
  ·simp at hj;subst hj;exact hx
 ·rcases List.mem_append.1 hj with hj|hj
  ·exact h.eo j hj z hz t l c hl
  ·simp at hj;subst hj
   have:z=y:=by simpa using (show some z=some y from hz.symm.trans hy)
   rw [this,he]
   simp
end
section
variable{st st':RS}{k t o:Nat}{l l':List ByteArray}{c:Nat}{s:St}
theorem Ok.mono{k':Nat}(h:st.Ok k)(hk:k<=k'):st.Ok k':={opn:=h.opn,ent:=h.ent,thr:=h.thr,ne:=h.ne,tn:=Nat.le_trans h.tn hk,sn:=Nat.le_trans h.sn hk,cn:=⟨h.cn.1,by have:=h.cn.2;omega⟩,e14:=h.e14,eo:=h.eo}
theorem Vx(st:RS)(t o:Nat)(q:HK)(e:En)(j:Nat):((st.setK t q).addE o e).hs[j]?=(st.hs[j]?).map (Zv t o q e j):=by
 rw [zwc,zmd,Option.map_map]
 rfl
theorem Ol(st:RS)(t o:Nat)(q1 q:HK)(e:En)(j:Nat):(((st.setK t q1).setK t q).addE o e).hs[j]?=(st.hs[j]?).map (Zv t o q e j):=by
 rw [Vx,zmd,Option.map_map]
 congr 1
 funext h
 unfold Zv
 simp only [Function.comp_apply]
 by_cases e1:j=t
 ·simp [e1]
 ·simp [e1]
theorem Om(h:st.hasRoom l c s=true):c≠14/\((Vg s).toList.isEmpty=false->Uh l (Vg s)=false->l.length≠4)/\(Qf s=true->st.opn.length<=3):=by
 unfold RS.hasRoom at h
 simp only [Bool.and_eq_true,Bool.not_eq_true',decide_eq_false_iff_not,Bool.or_eq_true,decide_eq_true_eq] at h
 refine ⟨h.1,λh1 h2 h3=>?_,λh1=>?_⟩
 ·have:=h.2.1
  simp [h1,h2,h3] at this
 ·rcases h.2.2 with q|q
  ·rw [h1] at q;simp at q
  ·exact q
theorem zoj(h:Qf s=true):zhr (.st s):=by
 rcases s with ⟨to,a⟩|⟨to,k,a,c⟩|⟨to,f,a⟩|⟨f,a,c⟩|a|⟨⟩|a|n
 ·simp [Qf] at h
 ·simp [Qf] at h
 ·simp [Qf] at h
 ·simp [Qf] at h
 ·simp [Qf] at h
 ·trivial
 ·trivial
 ·trivial
theorem Ok.lay(h:st.Ok k)(hl:st.lastT=some (t,l,c))(ho:st.opn=ol++[o])(hr:st.hasRoom l c s=true):(st.lay t o l c s).Ok k:=by
 obtain ⟨r1,r2,r3⟩:=Om hr
 obtain ⟨tl,htl,hkt⟩:=Us hl
 obtain ⟨l0,c0,q1,q2,q3⟩:=h.thr t ym1
 obtain ⟨rfl,rfl⟩:l=l0/\c=c0:=by
  have:=hkt.symm.trans q1
  simpa using this
 have hom:o∈st.opn:=ymf
 have hc:c<14:=yl5
 have htlt:t<st.hs.length:=h.ent.2.1 t ym1
 have holt:o<st.hs.length:=h.ent.2.2 o hom
 unfold RS.lay
 split
 ·rename_i hh
  obtain ⟨n1,n2⟩:=Ok.newH h s
  have hsm:(((st.newH s).setK t (.thr l (c+1))).addE o (.sub st.hs.length)).shared=st.shared/\(((st.newH s).setK t (.thr l (c+1))).addE o (.sub st.hs.length)).cells=st.cells/\(((st.newH s).setK t (.thr l (c+1))).addE o (.sub st.hs.length)).threads=st.threads/\(((st.newH s).setK t (.thr l (c+1))).addE o (.sub st.hs.length)).opn=st.opn:=by
   obtain ⟨a1,a2,a3,a4⟩:=zas (st:=(st.newH s).setK t (.thr l (c+1))) o (.sub st.hs.length)
   obtain ⟨b1,b2,b3,b4⟩:=Xu (st:=st.newH s) t (.thr l (c+1))
   exact ⟨a1.trans b1,a2.trans b2,a3.trans b3,a4.trans b4⟩
  obtain ⟨u1,u2,u3⟩:=Ok.upd n1 (n2.trans hl) (show o∈(st.newH s).opn from hom) hc q3 (.sub st.hs.length) (λj e=>by
   have:st.hs.length=j:=by simpa using e
   simp [RS.newH];omega) hsm (Vx _ _ _ _ _)
  have hx:(((st.newH s).setK t (.thr l (c+1))).addE o (.sub st.hs.length)).hs[st.hs.length]?=some ⟨.st s,[]⟩:=by
   rw [Vx]
   have:(st.newH s).hs[st.hs.length]?=some ⟨.st s,[]⟩:=ym0
   rw [this]
   have e1:st.hs.length≠t:=yl5
   have e2:st.hs.length≠o:=yl5
   simp [Zv,e1,e2]
  have:=Ok.pushO u1 st.hs.length _ hx (zoj hh) rfl (by rw [hsm.2.2.2];exact r3 hh) (by rw [hsm.2.2.1,htl];simp)
  rw [hsm.2.2.2] at this
  exact this
 ·split
  ·rename_i hn
   have hsm:(((st.setK t (.thr l (c+1))).setK t (.thr (l++[Vg s]) (c+1))).addE o (.leaf s)).shared=st.shared/\(((st.setK t (.thr l (c+1))).setK t (.thr (l++[Vg s]) (c+1))).addE o (.leaf s)).cells=st.cells/\(((st.setK t (.thr l (c+1))).setK t (.thr (l++[Vg s]) (c+1))).addE o (.leaf s)).threads=st.threads/\(((st.setK t (.thr l (c+1))).setK t (.thr (l++[Vg s]) (c+1))).addE o (.leaf s)).opn=st.opn:=by
    obtain ⟨a1,a2,a3,a4⟩:=zas (st:=(st.setK t (.thr l (c+1))).setK t (.thr (l++[Vg s]) (c+1))) o (.leaf s)
    obtain ⟨b1,b2,b3,b4⟩:=Xu (st:=st.setK t (.thr l (c+1))) t (.thr (l++[Vg s]) (c+1))
    obtain ⟨d1,d2,d3,d4⟩:=Xu (st:=st) t (.thr l (c+1))
    exact ⟨(a1.trans b1).trans d1,(a2.trans b2).trans d2,(a3.trans b3).trans d3,(a4.trans b4).trans d4⟩
   have:=r2 hn.1 hn.2
   exact (Ok.upd h hl hom hc (l':=l++[Vg s]) yma (.leaf s) (λj e=>by simp at e) hsm (Ol _ _ _ _ _ _)).1
  ·have hsm:((st.setK t (.thr l (c+1))).addE o (.leaf s)).shared=st.shared/\((st.setK t (.thr l (c+1))).addE o (.leaf s)).cells=st.cells/\((st.setK t (.thr l (c+1))).addE o (.leaf s)).threads=st.threads/\((st.setK t (.thr l (c+1))).addE o (.leaf s)).opn=st.opn:=by
    obtain ⟨a1,a2,a3,a4⟩:=zas (st:=st.setK t (.thr l (c+1))) o (.leaf s)
    obtain ⟨d1,d2,d3,d4⟩:=Xu (st:=st) t (.thr l (c+1))
    exact ⟨a1.trans d1,a2.trans d2,a3.trans d3,a4.trans d4⟩
   exact (Ok.upd h hl hom hc q3 (.leaf s) (λj e=>by simp at e) hsm (Vx _ _ _ _ _)).1
theorem Ok.newT(h:st.Ok k):st.newT.Ok (k+1):=by
 obtain ⟨n1,_⟩:=Ok.newH h St.atomic
 have old: ∀j,j<st.hs.length->st.newT.hs[j]?=st.hs[j]?:=λj hj=>List.getElem?_append_left hj
 have new:st.newT.hs[st.hs.length]?=some ⟨.thr [] 0,[]⟩:=by simp [RS.newT]
 have hlen:st.newT.hs.length=st.hs.length+1:=by simp [RS.newT]
 have hkn:st.newT.hk st.hs.length=some (.thr [] 0):=by unfold RS.hk;rw [new];rfl
 have hlt:st.newT.lastT=some (st.hs.length,[],0):=zc4 (tl:=st.threads) rfl hkn
 have hinv: ∀(j:Nat) (x:Hd),st.newT.hs[j]?=some x->st.hs[j]?=some x\/x=⟨.thr [] 0,[]⟩:=by
  intro j x hx
  by_cases e:j<st.hs.length
  ·left;rw [<-old j e];exact hx
  ·right
   have hj:=(List.getElem?_eq_some_iff.1 hx).1
   obtain rfl:j=st.hs.length:=yl5
   rw [new] at hx
   simpa using hx.symm
 refine {opn:=⟨by simp [RS.newT],λj hj=>?_⟩,ent:=⟨?_,?_,?_⟩,thr:=?_,ne:=λ_=>by simp [RS.newT],tn:=by have:=h.tn;simp [RS.newT];omega,sn:=by have:=h.sn;simp [RS.newT];omega,cn:=⟨h.cn.1,by have:=h.cn.2;show st.cells<=_;omega⟩,e14:=?_,eo:=?_}
 ·have:j=st.hs.length:=by simpa [RS.newT] using hj
  subst this
  exact ⟨_,new,trivial⟩
 ·exact yku
 ·intro j hj
  rw [hlen]
  rcases List.mem_append.1 (show j∈st.threads++[st.hs.length] from hj) with hj|hj
  ·have:=h.ent.2.1 j hj;omega
  ·simp at hj;omega
 ·intro j hj
  rw [hlen]
  have:j=st.hs.length:=ynl
  omega
 ·intro j hj
  rcases List.mem_append.1 (show j∈st.threads++[st.hs.length] from hj) with hj|hj
  ·obtain ⟨l,c,h1,h2⟩:=h.thr j hj
   exact ⟨l,c,by unfold RS.hk;rw [old j (h.ent.2.1 j hj)];exact h1,h2⟩
  ·simp at hj
   subst hj
   exact ⟨[],0,hkn,by omega,by simp⟩
 ·intro j x hx
  rcases hinv j x hx with q|rfl
  ·exact h.e14 j x q
  ·simp
 ·intro j hj x hx t l c _
  have:j=st.hs.length:=ynl
  subst this
  rw [new] at hx
  have:x=⟨.thr [] 0,[]⟩:=by simpa using hx.symm
  rw [this]
  simp
theorem Ok.pop(h:st.Ok k):RS.Ok {st with opn:=st.opn.dropLast} k:=by
 have sub: ∀j,j∈st.opn.dropLast->j∈st.opn:=λj hj=>List.mem_of_mem_take (by rw [List.dropLast_eq_take] at hj;exact hj)
 refine {opn:=⟨by have:=h.opn.1;simp;omega,λj hj=>h.opn.2 j (sub j hj)⟩,ent:=⟨h.ent.1,h.ent.2.1,λj hj=>h.ent.2.2 j (sub j hj)⟩,thr:=h.thr,ne:=λhne=>h.ne (λe=>hne (by show st.opn.dropLast=[];rw [e];rfl)),tn:=h.tn,sn:=h.sn,cn:=h.cn,e14:=h.e14,eo:=λj hj=>h.eo j (sub j hj)}
theorem Ok.share(h:st.Ok k)(x:ByteArray)(c:Int)(hc:1<=c/\c<=6):RS.Ok {st with shared:=st.shared++[(x,st.cells,c)],cells:=st.cells+c} (k+1):=by
 have:=h.cn
 exact {opn:=h.opn,ent:=h.ent,thr:=h.thr,ne:=h.ne,tn:=Nat.le_succ_of_le h.tn,sn:=by have:=h.sn;simp;omega,cn:=⟨by show 0<=st.cells+c;omega,by show st.cells+c<=_;omega⟩,e14:=h.e14,eo:=h.eo}
theorem z3f(h:st.Ok k)(hg:gSt st s= .ok st'):st'.Ok k:=by
 unfold gSt at hg
 split at hg
 ·simp at hg
 ·cases hl:st.lastT with
  |none=>simp [hl] at hg
  |some p=>
   obtain ⟨t,l,c⟩:=p
   cases ho:st.opn.getLast? with
   |none=>simp [hl,ho] at hg
   |some o=>
    rw [hl,ho] at hg
    simp only at hg
    split at hg
    ·simp at hg
    ·split at hg
     ·simp at hg
     ·rename_i hr
      obtain ⟨ol,hol⟩:=List.getLast?_eq_some_iff.1 ho
      have:st.lay t o l c s=st':=by simpa using hg
      rw [<-this]
      exact Ok.lay h hl hol (by simpa using hr)
theorem zme{lo hi v:Int}{ws1:List ByteArray}(h:gIn lo hi ws=some (v,ws1)):lo<=v/\v<=hi:=by
 unfold gIn at h
 cases hn:zco ws with
 |none=>simp [hn] at h
 |some q=>
  simp [hn] at h
  obtain ⟨h1,rfl⟩:=h
  exact h1
theorem Ir(h:st.Ok k)(hg:Vq st ws= .ok st'):st'.Ok (k+1):=by
 unfold Vq at hg
 rcases ws with _|⟨u,us⟩
 ·simp at hg
 ·simp only at hg
  split at hg
  ·unfold Iq at hg
   cases hn:gNm us with
   |none=>simp [hn] at hg
   |some p=>
    obtain ⟨x,us1⟩:=p
    rw [hn] at hg
    rcases us1 with _|⟨u1,us1⟩
    ·simp only at hg
     split at hg
     ·simp at hg
     ·split at hg
      ·simp at hg
      ·have:=Ok.share h x 1 yl5
       simp only [Except.ok.injEq] at hg
       rw [<-hg];exact this
    ·simp only at hg
     cases hi:gIn 1 6 (u1::us1) with
     |none=>simp [hi] at hg
     |some q=>
      obtain ⟨v,us2⟩:=q
      rw [hi] at hg
      rcases us2 with _|⟨u2,us2⟩
      ·simp only at hg
       split at hg
       ·simp at hg
       ·split at hg
        ·simp at hg
        ·have:=Ok.share h x v (zme hi)
         simp only [Except.ok.injEq] at hg
         rw [<-hg];exact this
      ·simp at hg
  ·split at hg
   ·unfold Ef at hg
    rcases us with _|⟨u1,us1⟩
    ·simp only at hg
     split at hg
     ·simp at hg
     ·simp only [Except.ok.injEq] at hg
      rw [<-hg];exact Ok.newT h
    ·simp at hg
   ·split at hg
    ·unfold zwb at hg
     rcases us with _|⟨u1,us1⟩
     ·simp only at hg
      split at hg
      ·simp at hg
      ·simp only [Except.ok.injEq] at hg
       rw [<-hg];exact Ok.mono (Ok.pop h) (Nat.le_succ k)
     ·simp at hg
    ·cases hs:Zs u us with
     |none=>simp [hs] at hg
     |some p=>
      obtain ⟨s,us1⟩:=p
      rw [hs] at hg
      rcases us1 with _|⟨u1,us1⟩
      ·exact Ok.mono (z3f h hg) (Nat.le_succ k)
      ·simp at hg
end
end Go.Proofs.YtiiepngikigmbaaGreatDoor
