import Derived.Test.YtphcopbffecceaaGreatDoorP40
import Derived.Test.YtphcopbffecceaaGreatDoorP41
import Derived.Test.YtphcopbffecceaaGreatDoorP27
import Derived.ShutString
import Derived.ChangeOld
import Derived.ChangeMaps5
import Derived.Below
import Derived.SizedLaws
set_option maxRecDepth 100000
set_option maxHeartbeats 4000000
namespace Go.Proofs.YtphcopbffecceaaGreatDoor
open Go.RowKit
section
variable{W:World}{s:ByteArray}
theorem zji{er ln:Int}(her:er≠0)(P1 P2:World->Prop)(K1:Hid (Cl 5 #[.string s] W λe w'=>e= .returned (.tuple #[.string ⟨#[]⟩, .int .i64 er, .int .i64 ln])/\P1 w'))
  (K2:Hid (∀w,P1 w->Cl 6 #[.string s] w λe w'=>e= .returned (.tuple #[.pointer none, .int .i64 er, .int .i64 ln])/\P2 w')):
  Cl 4 #[.string s] W λe w'=>(∃a b,e= .returned (.tuple #[a,b, .bool true]))/\P2 w':=by
 go_enter Tryz.func4,Tryz.ntmps4
 go_wp2_with fail
 refine K1.out.mono ?_
 rintro e w1 ⟨rfl,h1⟩
 have H1:=hid h1
 clear h1
 go_wp2_with fail
 refine (K2.out _ H1.out).mono ?_
 rintro e w2 ⟨rfl,h2⟩
 have H2:=hid h2
 clear h2
 go_wp2
 go_ret3
 exact ⟨⟨_,_,rfl⟩,H2.out⟩
theorem zlw(t:ByteArray)(n:Nat)(P1:World->Prop)(P2:Nat->World->Prop)(P3:Nat->Nat->World->Prop)
  (K1:Hid (Cl 5 #[.string s] W λe w'=>e= .returned (.tuple #[.string t, .int .i64 0, .int .i64 0])/\P1 w'))
  (K2:Hid (∀w,P1 w->Cl 6 #[.string s] w λe w'=>∃bp,e= .returned (.tuple #[ptr bp, .int .i64 0, .int .i64 0])/\P2 bp w'))
  (K3:Hid (∀bp w,P2 bp w->Cl 7 #[.string t] w λe w'=>∃bm,e= .returned (.tuple #[ptr bm, .int .i64 0, .int .i64 0])/\P3 bp bm w'))
  (K4:Hid (∀bp bm w,P3 bp bm w->∃p1 c1 p2 c2,w.cell? ⟨bm,1,none⟩=some (.slice p1 n c1)/\w.cell? ⟨bp,0,none⟩=some (.slice p2 n c2))):
  Cl 4 #[.string s] W λe w'=>(∃a b,e= .returned (.tuple #[a,b, .bool true]))/\ ∃bp bm w,P3 bp bm w/\w'=w.drew:=by
 go_enter Tryz.func4,Tryz.ntmps4
 go_wp2_with fail
 refine K1.out.mono ?_
 rintro e w1 ⟨rfl,h1⟩
 have H1:=hid h1
 clear h1
 go_wp2_with fail
 refine (K2.out _ H1.out).mono ?_
 rintro e w2 ⟨bp,rfl,h2⟩
 have H2:=hid h2
 clear h2
 go_wp2_with fail
 refine (K3.out _ _ H2.out).mono ?_
 rintro e w3 ⟨bm,rfl,h3⟩
 obtain ⟨p1,c1,p2,c2,d1,d2⟩:=K4.out _ _ _ h3
 have l1:bm<w3.heap.size:=blt d1
 have l2:bp<w3.heap.size:=blt d2
 have H3:=hid h3
 clear h3 K1 K2 K3 K4 H1 H2
 go_wp2_with fail
 go_region
 go_wp2
 go_ret3
 exact ⟨⟨_,_,rfl⟩,_,_,_,H3.out,rfl⟩
theorem zhb(h:262144<s.size):Cl 3 #[.string s] W λe w'=>e= .returned (.bool true)/\w'=W:=by
 have h':(262144:Int)<(s.size:Int):=yai
 go_enter Tryz.func3,Tryz.ntmps3
 go_wp2
 go_ret
 exact ⟨rfl,rfl⟩
theorem zfc(h:s.size<=262144)(P:World->Prop)(K:Hid (Cl 4 #[.string s] W λe w'=>(∃a b,e= .returned (.tuple #[a,b, .bool true]))/\P w')):
  Cl 3 #[.string s] W λe w'=>e= .returned (.bool true)/\P w':=by
 have h': ¬(262144:Int)<(s.size:Int):=yai
 go_enter Tryz.func3,Tryz.ntmps3
 go_wp2_with fail
 refine K.out.mono ?_
 rintro e w1 ⟨⟨a,b,rfl⟩,h1⟩
 have H1:=hid h1
 clear h1
 go_wp2
 go_ret
 exact ⟨rfl,H1.out⟩
end
theorem ze3: ∀(ls:List (List UInt8)) (j:Nat) (d:DR) {e l:Int},Vz ls j d= .error (e,l)->e≠0
 |[],_,_,_,_,h=>by cases h
 |[a],j,d,e,l,h=>by
  rw [Vz] at h
  split at h
  ·cases h
  ·cases h;decide
 |a::b::r,j,d,e,l,h=>by
  rw [Vz] at h
  split at h
  ·cases h;decide
  ·cases hd:Xw d (Ql a) with
   |ok d'=>rw [hd] at h;exact ze3 (b::r) (j+1) d' h
   |error er=>rw [hd] at h;cases h;exact zf1 hd
theorem zu3{s:ByteArray}{e l:Int}(h:zis s= .error (e,l)):e≠0:=by
 unfold zis at h
 split at h
 ·cases h;decide
 ·cases hd:Vz (Xe 10 s.data.toList) 0 d0 with
  |error p=>
   rw [hd] at h
   obtain ⟨a,b⟩:=p
   cases h
   exact ze3 _ _ _ hd
  |ok d=>
   rw [hd] at h
   dsimp only at h
   split at h
   ·cases h;decide
   ·split at h
    ·cases h;decide
    ·cases h
theorem zu4{W:World}(hE:Env W)(hT:TabAt W)(s:ByteArray):Cl 3 #[.string s] W λe w'=>e= .returned (.bool true)/\Below W.heap.size W w':=by
 by_cases hl:262144<s.size
 ·refine (zhb hl).mono ?_
  rintro e w' ⟨rfl,rfl⟩
  exact ⟨rfl,Below.refl _ _⟩
 refine zfc yai (λw'=>Below W.heap.size W w') (hid ?_)
 have hs:=zxm s
 cases hg:zaz s with
 |error p=>
  obtain ⟨er,ln⟩:=p
  rw [hg] at hs
  cases hd:zis s with
  |ok d=>rw [hd] at hs;exact hs.elim
  |error p'=>
   rw [hd] at hs
   have hs:(er,ln)=p':=hs
   subst hs
   refine zji (zu3 hd) (λw=>Below W.heap.size W w) (λw=>Below W.heap.size W w) (hid (zsu hE s hg)) (hid λw hb=>?_)
   have:=zi2 w s
   rw [hd] at this
   refine this.mono ?_
   rintro e w' ⟨he,hb'⟩
   exact ⟨he,hb.trans (hb'.mono hb.size)⟩
 |ok st=>
  rw [hg] at hs
  cases hd:zis s with
  |error p'=>rw [hd] at hs;exact hs.elim
  |ok d=>
   rw [hd] at hs
   have hsim:Sim st d:=hs
   obtain ⟨acc,ha,hal⟩:=zu2 hg
   refine (zlw (Yi st) st.threads.length (λw=>Below W.heap.size W w) (λbp w=>Below W.heap.size W w/\ ∃p c,w.cell? ⟨bp,0,none⟩=some (.slice p st.threads.length c))
    (λbp bm w=>Below W.heap.size W w/\(∃p c,w.cell? ⟨bp,0,none⟩=some (.slice p st.threads.length c))/\ ∃p c,w.cell? ⟨bm,1,none⟩=some (.slice p st.threads.length c))
    (hid (zw5 hE hT s hg)) (hid λw hb=>?_) (hid λbp w h=>?_) (hid λbp bm w h=>?_)).mono ?_
   ·have:=zi2 w s
    rw [hd] at this
    refine this.mono ?_
    rintro e w' ⟨⟨bp,p,c,he,hc⟩,hb'⟩
    rw [hsim.len] at hc
    exact ⟨bp,he,hb.trans (hb'.mono hb.size),p,c,hc⟩
   ·obtain ⟨hb,p,c,hc⟩:=h
    have:=zp0 w (Yi st) (λk=>w.heap.size<=k) (λ_ h=>h) (λ_ h=>h)
    rw [ha] at this
    refine this.mono ?_
    rintro e w' ⟨⟨he,⟨lab,mb,tv,ts,hm,hts,_⟩,_⟩,hb'⟩
    have hlen:ts.length=st.threads.length:=by rw [<-hal,<-hts,List.length_map]
    obtain ⟨p2,c2,hv⟩:=Gf hm.trow
    have htc:=hm.tc
    rw [hv,hlen] at htc
    exact ⟨_,he,hb.trans (hb'.mono hb.size),⟨p,c,(hb'.cell (p:=⟨bp,0,none⟩) (blt hc)).trans hc⟩,p2,c2,htc⟩
   ·obtain ⟨_,⟨p,c,h1⟩,p2,c2,h2⟩:=h
    exact ⟨p2,c2,p,c,h2,h1⟩
   ·rintro e w' ⟨⟨a,b,rfl⟩,bp,bm,w,h,rfl⟩
    exact ⟨⟨a,b,rfl⟩,h.1.drew⟩
open Go.ChangeShapes Go.WideShapes Go.ChangeAt Go.WideMaps Go.WideElems Go.RowKit
open Go.ChangeMaps (open_string shut_string)
theorem zu5(os:Os)(args:Array Value):laidMetH Tryz.prog Rows.compilesRow.laid ((((World.doorLaid Tryz.prog 200 os).layVars Tryz.prog [("unicode/utf8.first",Rows.laid_unicode_utf8_first)]).forCall (λ_ _=>0) ⟨#[],args,[]⟩).memory):=
 laidMetH_of_parts3 (fuel:=8) (laidMet_of_run' 8 yak yak) yak yak
theorem ze4(os:Os)(started:os.Started)(H:Type)(enc:TypeId×Value->H):
  ReturnsInHanded {} Tryz.checked os 3 .any (λw args=>(Rows.compilesSpec.pre enc Tryz.prog Tryz.f3 Rows.compilesRow.domain false w args/\laidMetH Tryz.prog Rows.compilesRow.laid w)/\sizedMet enc Tryz.prog Tryz.f3 (OpenSpec.ofChange Rows.compilesSpec) false w args)
   (Rows.compilesSpec.post enc Tryz.prog Tryz.f3 false true false false):=by
 refine ze7 (C:=Tryz.checked) (X:=λw _=>laidMetH Tryz.prog Rows.compilesRow.laid w) (λ_ _ _ hh h=>h.of_heap hh) own started yak Tryz.func3
  (ChangeSpec.witness_shaped (enc:=enc) (C:=Tryz.checked) (os:=os) (X:=λw _=>laidMetH Tryz.prog Rows.compilesRow.laid w) false ((World.doorLaid Tryz.prog 200 os).layVars Tryz.prog [("unicode/utf8.first",Rows.laid_unicode_utf8_first)]) #[.string ByteArray.empty] 8 rfl (World.shaped_of_RefB yak yak) yak yak yak (zu5 os _)) ?_
 intro W base args ds gs before hval0 hW hsz0 hL hS
 have hval: ∀(j:Nat) t v,Tryz.f3.params[j]?=some t->args[j]?=some v->Value.okWide Tryz.prog W .any base t v:=hval0
 have hW':=hW
 obtain ⟨p,q,hA0,hV,rfl,hfz,hnd⟩:=hW
 have hA:DataW.TrodAll enc Tryz.prog W 0 (λ_=>true) true Tryz.f3.params.toList args.toList ds p:=hA0
 rw [Tryz.params3] at hA hval
 obtain ⟨v0,vs0,d0,ds0,p0,q0,hargs,rfl,rfl,h0,r0⟩:=trodAll_cons hA
 obtain ⟨rfl,rfl,rfl⟩:=trodAll_nil r0
 obtain rfl:args= #[v0]:=by cases args;simp_all
 obtain ⟨rfl,rfl⟩:=trodVars_none hV
 obtain ⟨s0,rfl,rfl,rfl,hs0⟩:=open_string Tryz.underlying9 (hval 0 9 v0 rfl rfl) h0
 clear hA0 hval0
 have hE:=z2a hS hL yak yak yak yak
 refine (zu4 hE (z3q hE.lo hL yak) s0).mono λe W' ⟨he,bel⟩=>?_
 subst he
 exact ⟨_,rfl,_,_,_,[],_,[],hW',trodAll_mk1 (shut_bool Tryz.underlying4 _),(trodAll_cons_mk (shut_string Tryz.underlying9 hs0) trodAll_mk0),rfl,bel.frame _,λh=>by cases h⟩
end Go.Proofs.YtphcopbffecceaaGreatDoor
