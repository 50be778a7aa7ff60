import Derived.Test.YtphcopbffecceaaGreatDoorP03
import Derived.Maps.OwnSet
import Derived.StringKeys
set_option maxRecDepth 100000
set_option maxHeartbeats 1000000
namespace Go.Proofs.YtphcopbffecceaaGreatDoor
open Go.RowKit
variable{u:ByteArray}{w':World}{e t:TypeId}{z:Value}
open Go.RowKit Go.Maps Go.ChangeMaps
def zjt(v:Value):Option (DataW Value×List MemPlace):=some (.held v,[])
def zvb(u:ByteArray):Lit:= .string u.data.toList
theorem zqq{v:ByteArray}(h:u≠v):zvb u≠zvb v:=λe=>h (Go.WideShapes.bytes_inj (by unfold zvb at e;injection e))
theorem law:Keyed Tryz.prog 9:=string_keyed Tryz.underlying9
theorem zqr(h:u.size<=maxLen):keyOf Tryz.prog 9 (.string u)=some (zvb u):=Go.WideMaps.keyOf_string_mk Tryz.underlying9 h
def MapIs(w:World)(b:Nat)(f:ByteArray->Option Value)(n:Nat):Prop:=
 ∃D:DataW Value,w.ownsMap Tryz.prog 9 zjt b n D/\Maps.size D=n/\ ∀u,u.size<=maxLen->(Maps.has D (zvb u)=(f u).isSome/\ ∀z v,f u=some v->D.atKey (zvb u) z= .held v)
section
variable{w:World}{b n:Nat}{f:ByteArray->Option Value}
theorem zbr(w:World):MapIs (w.alloc (.map #[] 0)) w.heap.size (λ_=>none) 0:=
 ⟨.map [],World.ownsMap_made w _ _ _,rfl,λu _=>⟨rfl,λz v h=>by simp at h⟩⟩
theorem MapIs.lt(h:MapIs w b f n):b<w.heap.size:=let ⟨_,h1,_⟩:=h;h1.lt
theorem MapIs.of_block(h:MapIs w b f n)(hb:w'.heap[b]?=w.heap[b]?):MapIs w' b f n:=by
 obtain ⟨D,⟨es,clock,h1,F,hs,hD⟩,h2,h3⟩:=h
 exact ⟨D,⟨es,clock,hb.trans h1,F,hs,hD⟩,h2,h3⟩
theorem MapIs.keep{M:Nat->Nat->Prop}(h:MapIs w b f n)(hc:Chg M w w')(hM: ∀i,¬M b i):MapIs w' b f n:=h.of_block (hc.block b h.lt hM)
theorem MapIs.congr{g:ByteArray->Option Value}(h:MapIs w b f n)(hg: ∀u,f u=g u):MapIs w b g n:=by
 obtain rfl:f=g:=funext hg
 exact h
theorem MapIs.look(h:MapIs w b f n)(ht:Tryz.prog.underlying t=some (.map 9 e))(hz:(zeroValue e).run Tryz.prog w= .ok z w)(hu:u.size<=maxLen):
  (Instr.lookup t (.map (some b)) (.string u) true).run Tryz.prog w= .ok (.tuple #[(f u).getD z, .bool (f u).isSome]) w:=by
 obtain ⟨D,h1,_,h3⟩:=h
 obtain ⟨v,ps,hrun,hv⟩:=h1.look_ok law ht hz (zd:= .held z) (zp:=[]) rfl (zqr hu)
 obtain ⟨g1,g2⟩:=h3 u hu
 rw [hrun,g1]
 simp only [zjt,Option.some.injEq,Prod.mk.injEq] at hv
 cases hf:f u with
 |some x=>
  have:=hv.1.trans (g2 (.held z) x hf)
  have e2:v=x:=by injection this
  subst e2
  rfl
 |none=>exact z91
theorem MapIs.look1(h:MapIs w b f n)(ht:Tryz.prog.underlying t=some (.map 9 e))(hz:(zeroValue e).run Tryz.prog w= .ok z w)(hu:u.size<=maxLen):
  (Instr.lookup t (.map (some b)) (.string u) false).run Tryz.prog w= .ok ((f u).getD z) w:=by
 obtain ⟨D,h1,_,h3⟩:=h
 obtain ⟨v,ps,hrun,hv⟩:=h1.lookup law ht hz (zd:= .held z) (zp:=[]) rfl (zqr hu)
 obtain ⟨g1,g2⟩:=h3 u hu
 rw [hrun]
 simp only [zjt,Option.some.injEq,Prod.mk.injEq] at hv
 cases hf:f u with
 |some x=>
  have:=hv.1.trans (g2 (.held z) x hf)
  have e2:v=x:=by injection this
  subst e2
  rfl
 |none=>exact z91
theorem MapIs.len(h:MapIs w b f n)(ht:Tryz.prog.underlying t=some (.map 9 e))(ty:TypeId):(Builtin.len_ #[t] ty #[.map (some b)]).run Tryz.prog w= .ok (.int .i64 n) w:=by
 obtain ⟨D,h1,h2,_⟩:=h
 rw [h1.len ht,h2]
def zgd(f:ByteArray->Option Value)(u:ByteArray)(v:Value):ByteArray->Option Value:=λx=>if x=u then some v else f x
theorem zn3(h:w.mapTurned w' b):Chg (λk _=>k=b) w w':=by
 have hg:=h.grown
 have hf:=h.frozen
 obtain ⟨es,clock,es',clock',hb,rfl⟩:=h
 have ho: ∀k,k≠b->(setBlock w b (.map es' clock')).heap[k]?=w.heap[k]?:=λk hk=>heap_setBlock_other hb _ hk
 refine ⟨rfl,rfl,rfl,hg.size,λk _ hk=>ho k (λe=>hk 0 e),λk i _ hk=>?_,λk i _=>hf _,λk _=>?_⟩
 ·unfold World.cell?
  rw [ho k hk]
 ·by_cases e:k=b
  ·subst e
   unfold World.shape?
   rw [hb,heap_setBlock_same hb]
  ·exact Jw (ho k e)
theorem MapIs.put(h:MapIs w b f n)(ht:Tryz.prog.underlying t=some (.map 9 e))(hn:n<maxLen)(hu:u.size<=maxLen)(v:Value):
  ∃w',(Instr.mapUpdate t (.map (some b)) (.string u) v).run Tryz.prog w= .ok () w'/\MapIs w' b (zgd f u v) (if (f u).isSome then n else n+1)/\Chg (λk _=>k=b) w w':=by
 obtain ⟨D,h1,h2,h3⟩:=h
 obtain ⟨w',hrun,h4,h5⟩:=h1.store law ht hn (val:=v) (d:= .held v) (ps:=[]) (zqr hu) rfl
 have hk:WideAt.IsKeyLit (zvb u):=trivial
 have hsz:Maps.size (D.put (zvb u) (.held v))=if (f u).isSome then n else n+1:=by
  rw [size_put (h1.tidy law),(h3 u hu).1,h2]
 refine ⟨w',hrun,⟨D.put (zvb u) (.held v),?_,hsz,λx hx=>?_⟩,zn3 h5⟩
 ·obtain ⟨es,clock,q1,q2,q3,q4⟩:=h4
  refine ⟨es,clock,q1,q2,?_,q4⟩
  rw [<-hsz,q4]
  simp [Maps.size,length_sorted]
 ·unfold zgd
  by_cases e:x=u
  ·subst e
   rw [if_pos rfl]
   exact ⟨by rw [has_put_same h1.isMap hk];rfl,λz y hy=>by rw [atKey_put_same h1.isMap hk];simp at hy;rw [hy]⟩
  ·rw [if_neg e,has_put_other (zqq e)]
   exact ⟨(h3 x hx).1,λz y hy=>by rw [atKey_put_other (zqq e)];exact (h3 x hx).2 z y hy⟩
end
def zPV:PV:=⟨ByteArray.empty,0⟩
def wAt:ByteArray:=⟨#[97,116]⟩
def gAt:List ByteArray->Option (PV×List ByteArray)
 |[]=>some (zPV,[])
 |u::ws=>if u=wAt then gPV ws else none
def Uj(u:ByteArray):Option Nat:=[(⟨#[43]⟩:ByteArray),⟨#[45]⟩,⟨#[42]⟩,⟨#[47]⟩,⟨#[37]⟩,⟨#[38]⟩,⟨#[124]⟩,⟨#[94]⟩,⟨#[60,60]⟩,⟨#[62,62]⟩,⟨#[60]⟩,⟨#[61,61]⟩].findIdx? (·==u)
def Sa(u:ByteArray):Option Value:=(Uj u).map λk=> .int .i64 k
def gOp:List ByteArray->Option (Nat×List ByteArray)
 |[]=>none
 |u::ws=>(Uj u).map λk=>(k,ws)
section
variable{w:World}{bl bw br bs:Nat}{n:Int}{ws ws1:List ByteArray}
theorem Qi(B:Nat)(w:World):Below B w w.drew:=⟨rfl,rfl,rfl,Nat.le_refl _,λ_ _=>rfl⟩
theorem zcq{x:PV}(hv:gPV ws=some (x,ws1))(hz:SzOk ws):SzOk ws1:=by
 cases ws with
 |nil=>simp [gPV] at hv
 |cons u ws=>
  simp only [gPV] at hv
  split at hv
  ·simp at hv;exact hv.2▸hz.tail
  ·simp at hv
   obtain ⟨_,_,_,rfl⟩:=hv
   exact hz.tail
theorem Ya{x:ByteArray}(hv:gNm ws=some (x,ws1))(hz:SzOk ws):SzOk ws1:=by
 cases ws with
 |nil=>simp [gNm] at hv
 |cons u ws=>
  simp only [gNm] at hv
  split at hv
  ·simp at hv;exact hv.2▸hz.tail
  ·simp at hv
theorem zyn{k:Nat}(hv:gOp ws=some (k,ws1))(hz:SzOk ws):SzOk ws1:=by
 cases ws with
 |nil=>simp [gOp] at hv
 |cons u ws=>
  simp [gOp] at hv
  obtain ⟨_,_,_,rfl⟩:=hv
  exact hz.tail
theorem zfi(h:LineAt w bl n bw ws)(hE:Hid (Env w))(hbl:10<=bl)(hz:SzOk ws):
  Cl 81 #[ptr bl] w λe w'=>Rds bl n bw w ((gAt ws).map λp=>(pvV p.1,p.2)) e w':=by
 have hlt:=h.lt
 have hltw:=h.ltw
 have bel:Below w.heap.size w (pvW w):=(Below.refl _ w).alloc (Nat.le_refl _) _
 have H:=hid (h.below bel)
 have E1:=hid (hE.out.below bel)
 have A0:=hid ((Chg.refl (Jo bl) w).alloc (.cells #[.string ⟨#[]⟩, .int .i64 0] 202))
 have hq:=H.out
 obtain ⟨o,cap,hl,hs,_⟩:=hq.wds
 clear h bel hq hl
 cases ws with
 |nil=>
  simp only [List.length_nil] at hs
  go_enter Tryz.func81,Tryz.ntmps81
  go_wp2_with (go_at_call 76;go_in)
  refine ⟨rfl, .agg #[.string ByteArray.empty, .int .i64 0],?_,rfl,H.out,A0.out⟩
  simp [results,Tryz.results81,go_sem]
  rfl
 |cons u ws=>
  simp only [List.length_cons] at hs
  by_cases hu:u=wAt
  ·subst hu
   have e:gAt (wAt::ws)=gPV ws:=by simp [gAt]
   rw [e]
   cases hg:gPV ws with
   |some p=>
    obtain ⟨x,ws1⟩:=p
    go_enter Tryz.func81,Tryz.ntmps81
    go_wp2_with (first|(go_at_call 76;go_in)|fail)
    refine (Ve H.out hz.len).mono ?_
    rintro e w1 ⟨rfl,h1,c1⟩
    have H1:=hid h1
    have C1:=hid c1
    clear h1 c1
    unfold wAt
    go_wp2_with fail
    have k:=Oh H1.out (E1.out.line C1.out hbl) hbl hz.tail
    rw [hg] at k
    refine k.mono ?_
    rintro e w2 ⟨rfl,h2,c2⟩
    have H2:=hid h2
    have hp:=zqp hlt (C1.out.trans c2)
    have HP:=hid hp
    obtain ⟨d0,d1,g0,g1,gl,_⟩:=hp
    clear h2 c2 k C1 H1
    unfold pvV
    go_wp2
    obtain ⟨z0,z1,z2,z3⟩:=HP.out.done (.string x.name) (.int .i64 x.num)
    refine ⟨rfl, .agg #[.string x.name, .int .i64 x.num],?_,rfl,H2.out.done hlt hltw z3,z2⟩
    clear z2 z3
    generalize (w2.setCell ⟨w.heap.size,0,none⟩ (.string x.name)).setCell ⟨w.heap.size,1,none⟩ (.int .i64 x.num)=W' at*
    simp [results,Tryz.results81,go_sem,z0,z1]
   |none=>
    go_enter Tryz.func81,Tryz.ntmps81
    go_wp2_with (first|(go_at_call 76;go_in)|fail)
    refine (Ve H.out hz.len).mono ?_
    rintro e w1 ⟨rfl,h1,c1⟩
    have H1:=hid h1
    have C1:=hid c1
    clear h1 c1
    unfold wAt
    go_wp2_with fail
    have k:=Oh H1.out (E1.out.line C1.out hbl) hbl hz.tail
    rw [hg] at k
    refine k.mono ?_
    intro e w3 h3
    obtain ⟨bf,rfl,h4⟩:=Fails.after (Fails.after h3 C1.out) A0.out
    exact ⟨rfl,bf,rfl,h4⟩
  ·have e:gAt (u::ws)=none:=by simp [gAt,hu]
   rw [e]
   have hne:=Oz hu
   rw [show wAt.toList=[97,116] from by rw [ByteArray.toList_eq];rfl] at hne
   go_enter Tryz.func81,Tryz.ntmps81
   go_wp2_with (first|(go_at_call 76;go_in)|fail)
   refine (Ve H.out hz.len).mono ?_
   rintro e w1 ⟨rfl,h1,c1⟩
   have H1:=hid h1
   have C1:=hid c1
   clear h1 c1
   go_wp2_with fail
   refine (Jv H1.out 2).mono ?_
   intro e w3 h3
   obtain ⟨bf,rfl,h4⟩:=(h3.after C1.out).after A0.out
   exact ⟨rfl,bf,rfl,h4⟩
theorem z2b(w:World):(zeroValue 151).run Tryz.prog w= .ok (.int .i64 0) w:=yak
theorem zhl{W:World}(h:MapIs W bs Sa 12)(hu:u.size<=maxLen){x:Option Value}(hx:Sa u=x):(Instr.lookup 96 (.map (some bs)) (.string u) true).run Tryz.prog W= .ok (.tuple #[x.getD (.int .i64 0), .bool x.isSome]) W:=by
 rw [<-hx]
 exact h.look Tryz.underlying96 (z2b W) hu
theorem zfj(h:LineAt w bl n bw ws)(hz:SzOk ws)(hc:w.cell? ⟨br,4,none⟩=some (.map (some bs)))(hne:br≠bl)(hm:MapIs w bs Sa 12)(hnm:bs≠bl):
  Cl 110 #[ptr br,ptr bl] w λe w'=>Rds bl n bw w ((gOp ws).map λp=>(.int .i64 p.1,p.2)) e w':=by
 have H:=hid (h.below (w':=w.drew) (Qi _ w))
 have HM:=hid hm
 have A0:=hid ((Chg.refl (Jo bl) w).drew)
 clear h hm
 cases ws with
 |nil=>
  go_enter Tryz.func110,Tryz.ntmps110
  go_wp2_with fail
  refine wp_region_any yak ?_
  change wpAny _ _ _ _ _ _ _ (World.drew _)
  refine wpAny_take (i:=0) (v:=ptr br) rfl yak yak yak (λ_ _ _ h=>h) (Or.inl ⟨by rfl,λw=>by go_simp⟩) ?_
  refine wpAny_take (i:=1) (v:=ptr br) rfl yak yak yak (λ_ _ _ h=>h) (Or.inl ⟨by rfl,λw=>by go_simp⟩) ?_
  refine wpAny_take (i:=2) (v:= .pointer (some ⟨br,4,none⟩)) rfl yak yak yak (λ_ _ _ h=>h) (Or.inl ⟨by rfl,λw=>by go_simp⟩) ?_
  refine wpAny_take (i:=4) (v:=ptr bl) rfl yak yak yak (λ_ _ _ h=>h) (Or.inl ⟨by rfl,λw=>by go_simp⟩) ?_
  refine wpAny_ready (rs:=[3,5]) yak yaj ?_
  refine AllReady.cons rfl (λK hK=>?_) ?_
  ·go_simp
   refine hK _ _ ?_
   clear hK K
   refine wpAny_ready (rs:=[5]) yak yaj ?_
   refine AllReady.cons rfl (λK hK=>?_) AllReady.nil
   go_simp
   refine (Fg H.out).mono ?_
   intro e w3 h3
   obtain ⟨bf,rfl,h4⟩:=h3.after A0.out
   exact ⟨rfl,bf,rfl,h4⟩
  ·refine AllReady.cons rfl (λK hK=>?_) AllReady.nil
   go_simp
   refine (Fg H.out).mono ?_
   intro e w3 h3
   obtain ⟨bf,rfl,h4⟩:=h3.after A0.out
   exact ⟨rfl,bf,rfl,h4⟩
 |cons u ws=>
  have hu:u.size<=maxLen:=by have:=hz.head;unfold maxLen;omega
  cases hr:Uj u with
  |some r=>
   have e:((gOp (u::ws)).map λp=>((.int .i64 p.1:Value),p.2))=some (.int .i64 r,ws):=by simp [gOp,hr]
   rw [e]
   have HLK:=hid (λW (h:MapIs W bs Sa 12)=>zhl (W:=W) h hu (x:=some (.int .i64 r)) (by simp [Sa,hr]))
   simp only [Option.getD_some,Option.isSome_some] at HLK
   go_enter Tryz.func110,Tryz.ntmps110
   go_wp2_with fail
   go_region_law (go_simp;go_at_call 53;refine (Ve H.out hz.len).mono ?_;rintro e w1 ⟨rfl,h1,c1⟩;have hlk:=HLK.out w1 (HM.out.keep (A0.out.trans c1) (λi e=>hnm e.1));have hcw:=((A0.out.trans c1).cell br 4 (blt hc) (λe=>hne e.1)).trans hc;have H1:=hid h1;have C1:=hid c1;clear h1 c1)
   all_goals
    go_wp2
    go_ret
    exact ⟨rfl,H1.out,A0.out.trans C1.out⟩
  |none=>
   have e:((gOp (u::ws)).map λp=>((.int .i64 p.1:Value),p.2))=none:=by simp [gOp,hr]
   rw [e]
   have HLK:=hid (λW (h:MapIs W bs Sa 12)=>zhl (W:=W) h hu (x:=none) (by simp [Sa,hr]))
   simp only [Option.getD_none,Option.isSome_none] at HLK
   go_enter Tryz.func110,Tryz.ntmps110
   go_wp2_with fail
   go_region_law (go_simp;go_at_call 53;refine (Ve H.out hz.len).mono ?_;rintro e w1 ⟨rfl,h1,c1⟩;have hlk:=HLK.out w1 (HM.out.keep (A0.out.trans c1) (λi e=>hnm e.1));have hcw:=((A0.out.trans c1).cell br 4 (blt hc) (λe=>hne e.1)).trans hc;have H1:=hid h1;have C1:=hid c1;clear h1 c1)
   all_goals
    go_wp2_with fail
    refine (Jv H1.out 2).mono ?_
    intro e w3 h3
    obtain ⟨bf,rfl,h4⟩:=(h3.after C1.out).after A0.out
    exact ⟨rfl,bf,rfl,h4⟩
end
abbrev St:=(ByteArray×PV)⊕(ByteArray×Nat×PV×PV)⊕(ByteArray×ByteArray×PV)⊕(ByteArray×PV×PV)⊕PV⊕Unit⊕PV⊕Int
abbrev St.set(to:ByteArray)(a:PV):St:= .inl (to,a)
abbrev St.op(to:ByteArray)(o:Nat)(a b:PV):St:= .inr (.inl (to,o,a,b))
abbrev St.get(to of:ByteArray)(a:PV):St:= .inr (.inr (.inl (to,of,a)))
abbrev St.put(of:ByteArray)(a b:PV):St:= .inr (.inr (.inr (.inl (of,a,b))))
abbrev St.out(a:PV):St:= .inr (.inr (.inr (.inr (.inl a))))
abbrev St.atomic:St:= .inr (.inr (.inr (.inr (.inr (.inl ())))))
abbrev St.iff(a:PV):St:= .inr (.inr (.inr (.inr (.inr (.inr (.inl a))))))
abbrev St.loop(n:Int):St:= .inr (.inr (.inr (.inr (.inr (.inr (.inr n))))))
def zn4(ws:List ByteArray):Option (St×List ByteArray):=(gNm ws).bind λp=>(gPV p.2).bind λq=>match q.2 with
 |[]=>some (St.set p.1 q.1,[])
 |u::us=>(gOp (u::us)).bind λo=>(gPV o.2).map λr=>(St.op p.1 o.1 q.1 r.1,r.2)
section
variable{w:World}{bl bw br bs:Nat}{n:Int}{ws ws1:List ByteArray}{x:ByteArray}{y:PV}{k:Nat}
theorem Fa(h:LineAt w bl n bw ws)(hz:SzOk ws)(hv:gNm ws=some (x,ws1)):Cl 77 #[ptr bl] w λe w'=>e= .returned (.string x)/\LineAt w' bl n bw ws1/\Chg (Jo bl) w w':=by
 have:=zcp h hz
 rw [hv] at this
 exact this
theorem zqs(h:LineAt w bl n bw ws)(hz:SzOk ws)(hv:gNm ws=none):Cl 77 #[ptr bl] w λe w'=>Fails 2 n bl w e w':=by
 have:=zcp h hz
 rw [hv] at this
 exact this
theorem zge(h:LineAt w bl n bw ws)(hE:Env w)(hbl:10<=bl)(hz:SzOk ws)(hv:gPV ws=some (y,ws1)):Cl 82 #[ptr bl] w λe w'=>e= .returned (.agg #[.string y.name, .int .i64 y.num])/\LineAt w' bl n bw ws1/\Chg (Jo bl) w w':=by
 have:=Oh h hE hbl hz
 rw [hv] at this
 exact this
theorem zqt(h:LineAt w bl n bw ws)(hE:Env w)(hbl:10<=bl)(hz:SzOk ws)(hv:gPV ws=none):Cl 82 #[ptr bl] w λe w'=>Fails 2 n bl w e w':=by
 have:=Oh h hE hbl hz
 rw [hv] at this
 exact this
theorem z2c(h:LineAt w bl n bw ws)(hE:Env w)(hbl:10<=bl)(hz:SzOk ws)(hv:gAt ws=some (y,ws1)):Cl 81 #[ptr bl] w λe w'=>e= .returned (.agg #[.string y.name, .int .i64 y.num])/\LineAt w' bl n bw ws1/\Chg (Jo bl) w w':=by
 have:=zfi h hE hbl hz
 rw [hv] at this
 exact this
theorem z2d(h:LineAt w bl n bw ws)(hE:Env w)(hbl:10<=bl)(hz:SzOk ws)(hv:gAt ws=none):Cl 81 #[ptr bl] w λe w'=>Fails 2 n bl w e w':=by
 have:=zfi h hE hbl hz
 rw [hv] at this
 exact this
theorem z2e(h:LineAt w bl n bw ws)(hz:SzOk ws)(hc:w.cell? ⟨br,4,none⟩=some (.map (some bs)))(hne:br≠bl)(hm:MapIs w bs Sa 12)(hnm:bs≠bl)(hv:gOp ws=some (k,ws1)):Cl 110 #[ptr br,ptr bl] w λe w'=>e= .returned (.int .i64 k)/\LineAt w' bl n bw ws1/\Chg (Jo bl) w w':=by
 have:=zfj h hz hc hne hm hnm
 rw [hv] at this
 exact this
theorem z4z(h:LineAt w bl n bw ws)(hz:SzOk ws)(hc:w.cell? ⟨br,4,none⟩=some (.map (some bs)))(hne:br≠bl)(hm:MapIs w bs Sa 12)(hnm:bs≠bl)(hv:gOp ws=none):Cl 110 #[ptr br,ptr bl] w λe w'=>Fails 2 n bl w e w':=by
 have:=zfj h hz hc hne hm hnm
 rw [hv] at this
 exact this
theorem z2f(hv:gAt ws=some (y,ws1))(hz:SzOk ws):SzOk ws1:=by
 cases ws with
 |nil=>simp [gAt] at hv;exact hv.2▸hz
 |cons u ws=>
  simp only [gAt] at hv
  split at hv
  ·exact zcq hv hz.tail
  ·simp at hv
theorem LineAt.more(h:LineAt w bl n bw ws): ∃o cap,w.cell? ⟨bl,1,none⟩=some (.slice (some ⟨bw,o,none⟩) ws.length cap):=let ⟨o,cap,_,hs,_⟩:=h.wds;⟨o,cap,hs⟩
abbrev pvB(W:World)(y:PV):World:=W.alloc (.cells #[.string y.name, .int .i64 y.num] 202)
theorem zn5(h:LineAt w bl n bw ws)(hz:SzOk ws)(hv:gNm ws=none):Cl 80 #[ptr br,ptr bl] w λe w'=>Fails 2 n bl w e w':=by
 have K:=hid (zqs h hz hv)
 clear h
 go_enter Tryz.func80,Tryz.ntmps80
 go_wp2_with fail
 refine K.out.mono ?_
 rintro e w1 ⟨bf,rfl,h1⟩
 exact ⟨rfl,bf,rfl,h1⟩
theorem zn6(h:LineAt w bl n bw ws)(hE:Hid (Env w))(hbl:10<=bl)(hz:SzOk ws)(hv:gNm ws=some (x,ws1))(hv2:gPV ws1=none):Cl 80 #[ptr br,ptr bl] w λe w'=>Fails 2 n bl w e w':=by
 have K:=hid (Fa h hz hv)
 have hz1:=Ya hv hz
 clear h
 go_enter Tryz.func80,Tryz.ntmps80
 go_wp2_with fail
 refine K.out.mono ?_
 rintro e w1 ⟨rfl,h1,c1⟩
 have K2:=hid (zqt h1 (hE.out.line c1 hbl) hbl hz1 hv2)
 have C1:=hid c1
 clear h1 c1 K
 go_wp2_with fail
 refine K2.out.mono ?_
 intro e w3 h3
 obtain ⟨bf,rfl,h4⟩:=Fails.after h3 C1.out
 exact ⟨rfl,bf,rfl,h4⟩
theorem zju(h:LineAt w bl n bw ws)(hE:Hid (Env w))(hbl:10<=bl)(hz:SzOk ws)(hv:gNm ws=some (x,ws1))(hv2:gPV ws1=some (y,[])):Cl 80 #[ptr br,ptr bl] w λe w'=>e= .returned (.iface 228 (.agg #[.string x, .string y.name, .int .i64 y.num]))/\LineAt w' bl n bw []/\Chg (Jo bl) w w':=by
 have K:=hid (Fa h hz hv)
 have hz1:=Ya hv hz
 clear h
 go_enter Tryz.func80,Tryz.ntmps80
 go_wp2_with fail
 refine K.out.mono ?_
 rintro e w1 ⟨rfl,h1,c1⟩
 have K2:=hid (zge h1 (hE.out.line c1 hbl) hbl hz1 hv2)
 have C1:=hid c1
 clear h1 c1 K
 go_wp2_with fail
 refine K2.out.mono ?_
 rintro e w2 ⟨rfl,h2,c2⟩
 have bel:Below w2.heap.size w2 (pvB w2 y):=(Below.refl _ w2).alloc (Nat.le_refl _) _
 have H3:=hid (h2.below bel)
 have C3:=hid ((C1.out.trans c2).alloc (.cells #[.string y.name, .int .i64 y.num] 202))
 obtain ⟨o,cap,hs⟩:=(h2.below bel).more
 have hlt:=h2.lt
 simp only [List.length_nil] at hs
 clear h2 c2 C1 K2 bel
 go_wp2_with (go_at_call 76;go_in)
 go_ret
 exact ⟨rfl,H3.out,C3.out⟩
end
section
variable{w:World}{bl bw br bs:Nat}{n:Int}{ws ws1 ws3 ws4 us:List ByteArray}{x u:ByteArray}{y z:PV}{k:Nat}
structure SignsAt(w:World)(br bs bl:Nat):Prop where
 c:w.cell? ⟨br,4,none⟩=some (.map (some bs))
 ne:br≠bl
 m:MapIs w bs Sa 12
 nm:bs≠bl
theorem SignsAt.keep(h:SignsAt w br bs bl)(hc:Chg (Jo bl) w w'):SignsAt w' br bs bl:=
 ⟨(hc.cell br 4 (blt h.c) (λe=>h.ne e.1)).trans h.c,h.ne,h.m.keep hc (λ_ e=>h.nm e.1),h.nm⟩
theorem zhm(h:LineAt w bl n bw ws)(hE:Hid (Env w))(hbl:10<=bl)(hz:SzOk ws)(hS:Hid (SignsAt w br bs bl))(hv:gNm ws=some (x,ws1))(hv2:gPV ws1=some (y,u::us))(hv3:gOp (u::us)=none):Cl 80 #[ptr br,ptr bl] w λe w'=>Fails 2 n bl w e w':=by
 have K:=hid (Fa h hz hv)
 have hz1:=Ya hv hz
 have hz2:=zcq hv2 hz1
 clear h
 go_enter Tryz.func80,Tryz.ntmps80
 go_wp2_with fail
 refine K.out.mono ?_
 rintro e w1 ⟨rfl,h1,c1⟩
 have K2:=hid (zge h1 (hE.out.line c1 hbl) hbl hz1 hv2)
 have C1:=hid c1
 clear h1 c1 K
 go_wp2_with fail
 refine K2.out.mono ?_
 rintro e w2 ⟨rfl,h2,c2⟩
 have bel:Below w2.heap.size w2 (pvB w2 y):=(Below.refl _ w2).alloc (Nat.le_refl _) _
 have C3:=hid ((C1.out.trans c2).alloc (.cells #[.string y.name, .int .i64 y.num] 202))
 have h3:=h2.below bel
 have S3:=hS.out.keep C3.out
 have K3:=hid (z4z h3 hz2 S3.c S3.ne S3.m S3.nm hv3)
 obtain ⟨o,cap,hs⟩:=h3.more
 have hlt:=h2.lt
 simp only [List.length_cons] at hs
 clear h2 c2 C1 K2 bel h3 S3
 go_wp2_with (first|(go_at_call 76;go_in)|fail)
 refine K3.out.mono ?_
 intro e w3 h3
 obtain ⟨bf,rfl,h4⟩:=Fails.after h3 C3.out
 exact ⟨rfl,bf,rfl,h4⟩
theorem zjv(h:LineAt w bl n bw ws)(hE:Hid (Env w))(hbl:10<=bl)(hz:SzOk ws)(hS:Hid (SignsAt w br bs bl))(hv:gNm ws=some (x,ws1))(hv2:gPV ws1=some (y,u::us))(hv3:gOp (u::us)=some (k,ws3))(hv4:gPV ws3=none):Cl 80 #[ptr br,ptr bl] w λe w'=>Fails 2 n bl w e w':=by
 have K:=hid (Fa h hz hv)
 have hz1:=Ya hv hz
 have hz2:=zcq hv2 hz1
 have hz3:=zyn hv3 hz2
 clear h
 go_enter Tryz.func80,Tryz.ntmps80
 go_wp2_with fail
 refine K.out.mono ?_
 rintro e w1 ⟨rfl,h1,c1⟩
 have K2:=hid (zge h1 (hE.out.line c1 hbl) hbl hz1 hv2)
 have C1:=hid c1
 clear h1 c1 K
 go_wp2_with fail
 refine K2.out.mono ?_
 rintro e w2 ⟨rfl,h2,c2⟩
 have bel:Below w2.heap.size w2 (pvB w2 y):=(Below.refl _ w2).alloc (Nat.le_refl _) _
 have C3:=hid ((C1.out.trans c2).alloc (.cells #[.string y.name, .int .i64 y.num] 202))
 have h3:=h2.below bel
 have S3:=hS.out.keep C3.out
 have K3:=hid (z2e h3 hz2 S3.c S3.ne S3.m S3.nm hv3)
 obtain ⟨o,cap,hs⟩:=h3.more
 have hlt:=h2.lt
 have d0:(pvB w2 y).cell? ⟨w2.heap.size,0,none⟩=some (.string y.name):=World.cell?_alloc_new _ _ _ 0
 have d1:(pvB w2 y).cell? ⟨w2.heap.size,1,none⟩=some (.int .i64 y.num):=World.cell?_alloc_new _ _ _ 1
 simp only [List.length_cons] at hs
 clear h2 c2 C1 K2 bel h3 S3
 go_wp2_with (first|(go_at_call 76;go_in)|fail)
 refine K3.out.mono ?_
 rintro e w4 ⟨rfl,h4,c4⟩
 have e0:=(c4.cell w2.heap.size 0 (blt d0) (λe=>by omega)).trans d0
 have e1:=(c4.cell w2.heap.size 1 (blt d0) (λe=>by omega)).trans d1
 have hE4:=hE.out.line (C3.out.trans c4) hbl
 have K4:=hid (zqt (h4.below (w':=w4.drew) (Qi _ w4)) (hE4.below (Qi _ w4)) hbl hz3 hv4)
 have C4:=hid ((C3.out.trans c4).drew)
 clear h4 c4 hE4 K3 C3
 go_wp2_with fail
 refine wp_region_any yak ?_
 change wpAny _ _ _ _ _ _ _ (World.drew _)
 refine wpAny_take (i:=0) (v:= .string x) rfl yak yak yak (λ_ _ _ h=>h) (Or.inl ⟨by rfl,λw=>by go_simp⟩) ?_
 refine wpAny_take (i:=1) (v:= .int .i64 k) rfl yak yak yak (λ_ _ _ h=>h) (Or.inl ⟨by rfl,λw=>by go_simp⟩) ?_
 refine wpAny_take (i:=3) (v:=ptr bl) rfl yak yak yak (λ_ _ _ h=>h) (Or.inl ⟨by rfl,λw=>by go_simp⟩) ?_
 refine wpAny_ready (rs:=[2,4]) yak yaj ?_
 refine AllReady.cons rfl (λK hK=>?_) ?_
 ·go_simp
  refine hK _ _ ?_
  clear hK K
  refine wpAny_ready (rs:=[4]) yak yaj ?_
  refine AllReady.cons rfl (λK hK=>?_) AllReady.nil
  go_simp
  refine K4.out.mono ?_
  intro e w5 h5
  obtain ⟨bf,rfl,h6⟩:=h5.after C4.out
  exact ⟨rfl,bf,rfl,h6⟩
 ·refine AllReady.cons rfl (λK hK=>?_) AllReady.nil
  go_simp
  refine K4.out.mono ?_
  intro e w5 h5
  obtain ⟨bf,rfl,h6⟩:=h5.after C4.out
  exact ⟨rfl,bf,rfl,h6⟩
theorem zn7(h:LineAt w bl n bw ws)(hE:Hid (Env w))(hbl:10<=bl)(hz:SzOk ws)(hS:Hid (SignsAt w br bs bl))(hv:gNm ws=some (x,ws1))(hv2:gPV ws1=some (y,u::us))(hv3:gOp (u::us)=some (k,ws3))(hv4:gPV ws3=some (z,ws4)):Cl 80 #[ptr br,ptr bl] w λe w'=>e= .returned (.iface 231 (.agg #[.string x, .int .i64 k, .string y.name, .int .i64 y.num, .string z.name, .int .i64 z.num]))/\LineAt w' bl n bw ws4/\Chg (Jo bl) w w':=by
 have K:=hid (Fa h hz hv)
 have hz1:=Ya hv hz
 have hz2:=zcq hv2 hz1
 have hz3:=zyn hv3 hz2
 clear h
 go_enter Tryz.func80,Tryz.ntmps80
 go_wp2_with fail
 refine K.out.mono ?_
 rintro e w1 ⟨rfl,h1,c1⟩
 have K2:=hid (zge h1 (hE.out.line c1 hbl) hbl hz1 hv2)
 have C1:=hid c1
 clear h1 c1 K
 go_wp2_with fail
 refine K2.out.mono ?_
 rintro e w2 ⟨rfl,h2,c2⟩
 have bel:Below w2.heap.size w2 (pvB w2 y):=(Below.refl _ w2).alloc (Nat.le_refl _) _
 have C3:=hid ((C1.out.trans c2).alloc (.cells #[.string y.name, .int .i64 y.num] 202))
 have h3:=h2.below bel
 have S3:=hS.out.keep C3.out
 have K3:=hid (z2e h3 hz2 S3.c S3.ne S3.m S3.nm hv3)
 obtain ⟨o,cap,hs⟩:=h3.more
 have hlt:=h2.lt
 have d0:(pvB w2 y).cell? ⟨w2.heap.size,0,none⟩=some (.string y.name):=World.cell?_alloc_new _ _ _ 0
 have d1:(pvB w2 y).cell? ⟨w2.heap.size,1,none⟩=some (.int .i64 y.num):=World.cell?_alloc_new _ _ _ 1
 simp only [List.length_cons] at hs
 clear h2 c2 C1 K2 bel h3 S3
 go_wp2_with (first|(go_at_call 76;go_in)|fail)
 refine K3.out.mono ?_
 rintro e w4 ⟨rfl,h4,c4⟩
 have e0:=(c4.cell w2.heap.size 0 (blt d0) (λe=>by omega)).trans d0
 have e1:=(c4.cell w2.heap.size 1 (blt d0) (λe=>by omega)).trans d1
 have hE4:=hE.out.line (C3.out.trans c4) hbl
 have K4:=hid (zge (h4.below (w':=w4.drew) (Qi _ w4)) (hE4.below (Qi _ w4)) hbl hz3 hv4)
 have C4:=hid ((C3.out.trans c4).drew)
 clear h4 c4 hE4 K3 C3
 go_wp2_with fail
 go_region_law (go_simp;go_at_call 82;refine K4.out.mono ?_;rintro e w5 ⟨rfl,h5,c5⟩;have g0:=(c5.cell w2.heap.size 0 (blt e0) (λe=>by omega)).trans e0;have g1:=(c5.cell w2.heap.size 1 (blt e0) (λe=>by omega)).trans e1;have H5:=hid h5;have C5:=hid c5;clear h5 c5)
 all_goals
  go_wp2
  go_ret
  exact ⟨rfl,H5.out,C4.out.trans C5.out⟩
end
def z40(w0 w:World)(s:St)(v:Value):Prop:=match s with
 | .inl (to,a)=>v= .iface 228 (.agg #[.string to, .string a.name, .int .i64 a.num])
 | .inr (.inl (to,o,a,b))=>v= .iface 231 (.agg #[.string to, .int .i64 o, .string a.name, .int .i64 a.num, .string b.name, .int .i64 b.num])
 | .inr (.inr (.inl (to,of,a)))=>v= .iface 207 (.agg #[.string to, .string of, .string a.name, .int .i64 a.num])
 | .inr (.inr (.inr (.inl (of,a,b))))=>v= .iface 209 (.agg #[.string of, .string a.name, .int .i64 a.num, .string b.name, .int .i64 b.num])
 | .inr (.inr (.inr (.inr (.inl a))))=>v= .iface 211 (.agg #[.string a.name, .int .i64 a.num])
 | .inr (.inr (.inr (.inr (.inr (.inl ())))))=>∃b,w0.heap.size<=b/\v= .iface 171 (ptr b)/\w.shape? b=some (174,1)/\w.cell? ⟨b,0,none⟩=some (.slice none 0 0)/\(∀j,w.frozen? ⟨b,j,none⟩=false)
 | .inr (.inr (.inr (.inr (.inr (.inr (.inl a))))))=>∃b,w0.heap.size<=b/\v= .iface 212 (ptr b)/\w.shape? b=some (214,3)/\w.cell? ⟨b,0,none⟩=some (.slice none 0 0)/\(∀j,w.frozen? ⟨b,j,none⟩=false)/\w.cell? ⟨b,1,none⟩=some (.string a.name)/\w.cell? ⟨b,2,none⟩=some (.int .i64 a.num)
 | .inr (.inr (.inr (.inr (.inr (.inr (.inr n))))))=>∃b,w0.heap.size<=b/\v= .iface 215 (ptr b)/\w.shape? b=some (217,2)/\w.cell? ⟨b,0,none⟩=some (.slice none 0 0)/\(∀j,w.frozen? ⟨b,j,none⟩=false)/\w.cell? ⟨b,1,none⟩=some (.int .i64 n)
theorem zgf(w:World)(cs:Array Value)(t:TypeId): ∀j,(w.alloc (.cells cs t)).frozen? ⟨w.heap.size,j,none⟩=false:=by
 intro j
 have e:(w.alloc (.cells cs t)).heap[w.heap.size]?=some (.cells cs t):=yct
 unfold World.frozen?
 rw [e]
 simp
theorem zl2(w:World)(cs:Array Value)(t:TypeId):(w.alloc (.cells cs t)).shape? w.heap.size=some (t,cs.size):=z87
def StR(bl:Nat)(n:Int)(bw:Nat)(w:World)(r:Option (St×List ByteArray))(e:Ending)(w':World):Prop:=match r with
 |some (s,ws)=>∃v,e= .returned v/\z40 w w' s v/\LineAt w' bl n bw ws/\Chg (Jo bl) w w'
 |none=>Fails 2 n bl w e w'
section
variable{w:World}{bl bw br bs:Nat}{n:Int}{ws ws1 ws2 ws3:List ByteArray}{x x2 u:ByteArray}{y z:PV}{v:Int}
theorem zzp(h:LineAt w bl n bw ws)(_hE:Hid (Env w))(_hbl:10<=bl)(hz:SzOk ws)(hv0:gNm ws=none):Cl 57 #[ptr br, .string ⟨#[103,101,116]⟩,ptr bl] w λe w'=>Fails 2 n bl w e w':=z8g
theorem zzq(h:LineAt w bl n bw ws)(_hE:Hid (Env w))(_hbl:10<=bl)(hz:SzOk ws)(hv0:gNm ws=some (x,ws1))(hv1:gNm ws1=none):Cl 57 #[ptr br, .string ⟨#[103,101,116]⟩,ptr bl] w λe w'=>Fails 2 n bl w e w':=by
 have H0:=hid h
 have C0:=hid (Chg.refl (Jo bl) w)
 clear h
 go_enter Tryz.func57,Tryz.ntmps57
 go_wp2_with fail
 refine (Fa H0.out hz hv0).mono ?_
 rintro e w1 ⟨rfl,h1,c1⟩
 have H1:=hid h1
 have C1:=hid (C0.out.trans c1)
 clear h1 c1 H0 C0
 have hz1:=Ya hv0 hz
 go_wp2_with fail
 refine (zqs H1.out hz1 hv1).mono ?_
 intro e w9 h9
 obtain ⟨bf,rfl,h8⟩:=Fails.after h9 C1.out
 exact ⟨rfl,bf,rfl,h8⟩
theorem zzr(h:LineAt w bl n bw ws)(hE:Hid (Env w))(hbl:10<=bl)(hz:SzOk ws)(hv0:gNm ws=some (x,ws1))(hv1:gNm ws1=some (x2,ws2))(hv2:gAt ws2=none):Cl 57 #[ptr br, .string ⟨#[103,101,116]⟩,ptr bl] w λe w'=>Fails 2 n bl w e w':=by
 have H0:=hid h
 have C0:=hid (Chg.refl (Jo bl) w)
 clear h
 go_enter Tryz.func57,Tryz.ntmps57
 go_wp2_with fail
 refine (Fa H0.out hz hv0).mono ?_
 rintro e w1 ⟨rfl,h1,c1⟩
 have H1:=hid h1
 have C1:=hid (C0.out.trans c1)
 clear h1 c1 H0 C0
 have hz1:=Ya hv0 hz
 go_wp2_with fail
 refine (Fa H1.out hz1 hv1).mono ?_
 rintro e w2 ⟨rfl,h1,c1⟩
 have H2:=hid h1
 have C2:=hid (C1.out.trans c1)
 clear h1 c1 H1 C1
 have hz2:=Ya hv1 hz1
 go_wp2_with fail
 refine (z2d H2.out (hE.out.line C2.out hbl) hbl hz2 hv2).mono ?_
 intro e w9 h9
 obtain ⟨bf,rfl,h8⟩:=Fails.after h9 C2.out
 exact ⟨rfl,bf,rfl,h8⟩
theorem z2g(h:LineAt w bl n bw ws)(hE:Hid (Env w))(hbl:10<=bl)(hz:SzOk ws)(hv0:gNm ws=some (x,ws1))(hv1:gNm ws1=some (x2,ws2))(hv2:gAt ws2=some (y,ws3)):Cl 57 #[ptr br, .string ⟨#[103,101,116]⟩,ptr bl] w λe w'=>StR bl n bw w (some (St.get x x2 y,ws3)) e w':=by
 have H0:=hid h
 have C0:=hid (Chg.refl (Jo bl) w)
 clear h
 go_enter Tryz.func57,Tryz.ntmps57
 go_wp2_with fail
 refine (Fa H0.out hz hv0).mono ?_
 rintro e w1 ⟨rfl,h1,c1⟩
 have H1:=hid h1
 have C1:=hid (C0.out.trans c1)
 clear h1 c1 H0 C0
 have hz1:=Ya hv0 hz
 go_wp2_with fail
 refine (Fa H1.out hz1 hv1).mono ?_
 rintro e w2 ⟨rfl,h1,c1⟩
 have H2:=hid h1
 have C2:=hid (C1.out.trans c1)
 clear h1 c1 H1 C1
 have hz2:=Ya hv1 hz1
 go_wp2_with fail
 refine (z2c H2.out (hE.out.line C2.out hbl) hbl hz2 hv2).mono ?_
 rintro e w3 ⟨rfl,h1,c1⟩
 have H3:=hid h1
 have C3:=hid (C2.out.trans c1)
 clear h1 c1 H2 C2
 have hz3:=z2f hv2 hz2
 go_wp2
 go_ret
 exact ⟨_,rfl,rfl,H3.out,C3.out⟩
theorem zzs(h:LineAt w bl n bw ws)(_hE:Hid (Env w))(_hbl:10<=bl)(hz:SzOk ws)(hv0:gNm ws=none):Cl 57 #[ptr br, .string ⟨#[112,117,116]⟩,ptr bl] w λe w'=>Fails 2 n bl w e w':=z8g
theorem zzt(h:LineAt w bl n bw ws)(hE:Hid (Env w))(hbl:10<=bl)(hz:SzOk ws)(hv0:gNm ws=some (x,ws1))(hv1:gPV ws1=none):Cl 57 #[ptr br, .string ⟨#[112,117,116]⟩,ptr bl] w λe w'=>Fails 2 n bl w e w':=by
 have H0:=hid h
 have C0:=hid (Chg.refl (Jo bl) w)
 clear h
 go_enter Tryz.func57,Tryz.ntmps57
 go_wp2_with fail
 refine (Fa H0.out hz hv0).mono ?_
 rintro e w1 ⟨rfl,h1,c1⟩
 have H1:=hid h1
 have C1:=hid (C0.out.trans c1)
 clear h1 c1 H0 C0
 have hz1:=Ya hv0 hz
 go_wp2_with fail
 refine (zqt H1.out (hE.out.line C1.out hbl) hbl hz1 hv1).mono ?_
 intro e w9 h9
 obtain ⟨bf,rfl,h8⟩:=Fails.after h9 C1.out
 exact ⟨rfl,bf,rfl,h8⟩
theorem zzu(h:LineAt w bl n bw ws)(hE:Hid (Env w))(hbl:10<=bl)(hz:SzOk ws)(hv0:gNm ws=some (x,ws1))(hv1:gPV ws1=some (y,ws2))(hv2:gAt ws2=none):Cl 57 #[ptr br, .string ⟨#[112,117,116]⟩,ptr bl] w λe w'=>Fails 2 n bl w e w':=by
 have H0:=hid h
 have C0:=hid (Chg.refl (Jo bl) w)
 clear h
 go_enter Tryz.func57,Tryz.ntmps57
 go_wp2_with fail
 refine (Fa H0.out hz hv0).mono ?_
 rintro e w1 ⟨rfl,h1,c1⟩
 have H1:=hid h1
 have C1:=hid (C0.out.trans c1)
 clear h1 c1 H0 C0
 have hz1:=Ya hv0 hz
 go_wp2_with fail
 refine (zge H1.out (hE.out.line C1.out hbl) hbl hz1 hv1).mono ?_
 rintro e w2 ⟨rfl,h1,c1⟩
 have H2:=hid h1
 have C2:=hid (C1.out.trans c1)
 clear h1 c1 H1 C1
 have hz2:=zcq hv1 hz1
 have bel:Below w2.heap.size w2 (pvB w2 y):=(Below.refl _ w2).alloc (Nat.le_refl _) _
 have d0:(pvB w2 y).cell? ⟨w2.heap.size,0,none⟩=some (.string y.name):=World.cell?_alloc_new _ _ _ 0
 have d1:(pvB w2 y).cell? ⟨w2.heap.size,1,none⟩=some (.int .i64 y.num):=World.cell?_alloc_new _ _ _ 1
 have CB:=hid ((C2.out.alloc (.cells #[.string y.name, .int .i64 y.num] 202)).drew)
 have HB:=hid ((H2.out.below bel).below (w':=(pvB w2 y).drew) (Qi _ _))
 have hlt:=H2.out.lt
 have KD:=hid (z2d HB.out (hE.out.line CB.out hbl) hbl hz2 hv2)
 clear bel H2 C2
 go_wp2_with fail
 refine wp_region_any yak ?_
 change wpAny _ _ _ _ _ _ _ (World.drew _)
 refine wpAny_take (i:=0) (v:= .string x) rfl yak yak yak (λ_ _ _ h=>h) (Or.inl ⟨by rfl,λw=>by go_simp⟩) ?_
 refine wpAny_take (i:=1) (v:=ptr bl) rfl yak yak yak (λ_ _ _ h=>h) (Or.inl ⟨by rfl,λw=>by go_simp⟩) ?_
 refine wpAny_ready (rs:=[2,4]) yak yaj ?_
 refine AllReady.cons rfl (λK hK=>?_) ?_
 ·go_simp
  refine KD.out.mono ?_
  intro e w5 h5
  obtain ⟨bf,rfl,h6⟩:=h5.after CB.out
  exact ⟨rfl,bf,rfl,h6⟩
 ·refine AllReady.cons rfl (λK hK=>?_) AllReady.nil
  go_simp
  refine hK _ _ ?_
  clear hK K
  refine wpAny_ready (rs:=[2]) yak yaj ?_
  refine AllReady.cons rfl (λK hK=>?_) AllReady.nil
  go_simp
  refine KD.out.mono ?_
  intro e w5 h5
  obtain ⟨bf,rfl,h6⟩:=h5.after CB.out
  exact ⟨rfl,bf,rfl,h6⟩
theorem z2h(h:LineAt w bl n bw ws)(hE:Hid (Env w))(hbl:10<=bl)(hz:SzOk ws)(hv0:gNm ws=some (x,ws1))(hv1:gPV ws1=some (y,ws2))(hv2:gAt ws2=some (z,ws3)):Cl 57 #[ptr br, .string ⟨#[112,117,116]⟩,ptr bl] w λe w'=>StR bl n bw w (some (St.put x z y,ws3)) e w':=by
 have H0:=hid h
 have C0:=hid (Chg.refl (Jo bl) w)
 clear h
 go_enter Tryz.func57,Tryz.ntmps57
 go_wp2_with fail
 refine (Fa H0.out hz hv0).mono ?_
 rintro e w1 ⟨rfl,h1,c1⟩
 have H1:=hid h1
 have C1:=hid (C0.out.trans c1)
 clear h1 c1 H0 C0
 have hz1:=Ya hv0 hz
 go_wp2_with fail
 refine (zge H1.out (hE.out.line C1.out hbl) hbl hz1 hv1).mono ?_
 rintro e w2 ⟨rfl,h1,c1⟩
 have H2:=hid h1
 have C2:=hid (C1.out.trans c1)
 clear h1 c1 H1 C1
 have hz2:=zcq hv1 hz1
 have bel:Below w2.heap.size w2 (pvB w2 y):=(Below.refl _ w2).alloc (Nat.le_refl _) _
 have d0:(pvB w2 y).cell? ⟨w2.heap.size,0,none⟩=some (.string y.name):=World.cell?_alloc_new _ _ _ 0
 have d1:(pvB w2 y).cell? ⟨w2.heap.size,1,none⟩=some (.int .i64 y.num):=World.cell?_alloc_new _ _ _ 1
 have CB:=hid ((C2.out.alloc (.cells #[.string y.name, .int .i64 y.num] 202)).drew)
 have HB:=hid ((H2.out.below bel).below (w':=(pvB w2 y).drew) (Qi _ _))
 have hlt:=H2.out.lt
 have KD:=hid (z2c HB.out (hE.out.line CB.out hbl) hbl hz2 hv2)
 clear bel H2 C2
 go_wp2_with fail
 go_region_law (go_simp;go_at_call 81;refine KD.out.mono ?_;rintro e w3 ⟨rfl,h1,c1⟩;have g0:=(c1.cell w2.heap.size 0 (blt d0) (λe=>by omega)).trans d0;have g1:=(c1.cell w2.heap.size 1 (blt d0) (λe=>by omega)).trans d1;have H3:=hid h1;have C3:=hid (CB.out.trans c1);clear h1 c1)
 all_goals
  go_wp2
  go_ret
  exact ⟨_,rfl,rfl,H3.out,C3.out⟩
theorem zzv(h:LineAt w bl n bw ws)(hE:Hid (Env w))(hbl:10<=bl)(hz:SzOk ws)(hv0:gPV ws=none):Cl 57 #[ptr br, .string ⟨#[111,117,116]⟩,ptr bl] w λe w'=>Fails 2 n bl w e w':=z8a
theorem z2i(h:LineAt w bl n bw ws)(hE:Hid (Env w))(hbl:10<=bl)(hz:SzOk ws)(hv0:gPV ws=some (y,ws1)):Cl 57 #[ptr br, .string ⟨#[111,117,116]⟩,ptr bl] w λe w'=>StR bl n bw w (some (St.out y,ws1)) e w':=by
 have H0:=hid h
 have C0:=hid (Chg.refl (Jo bl) w)
 clear h
 go_enter Tryz.func57,Tryz.ntmps57
 go_wp2_with fail
 refine (zge H0.out (hE.out.line C0.out hbl) hbl hz hv0).mono ?_
 rintro e w1 ⟨rfl,h1,c1⟩
 have H1:=hid h1
 have C1:=hid (C0.out.trans c1)
 clear h1 c1 H0 C0
 have hz1:=zcq hv0 hz
 go_wp2
 go_ret
 exact ⟨_,rfl,rfl,H1.out,C1.out⟩
theorem zqu(h:LineAt w bl n bw ws)(_hE:Hid (Env w))(_hbl:10<=bl)(_hz:SzOk ws):Cl 57 #[ptr br, .string ⟨#[97,116,111,109,105,99]⟩,ptr bl] w λe w'=>StR bl n bw w (some (St.atomic,ws)) e w':=by
 have H0:=hid h
 have C0:=hid (Chg.refl (Jo bl) w)
 clear h
 go_enter Tryz.func57,Tryz.ntmps57
 go_wp2
 go_ret
 have bel:Below w.heap.size w (w.alloc (.cells #[.slice none 0 0] 174)):=(Below.refl _ w).alloc (Nat.le_refl _) _
 exact ⟨_,rfl,⟨w.heap.size,C0.out.size,rfl,zl2 _ _ _,World.cell?_alloc_new _ _ _ 0,zgf _ _ _⟩,H0.out.below bel,C0.out.alloc _⟩
theorem z2j(h:LineAt w bl n bw ws)(hE:Hid (Env w))(hbl:10<=bl)(hz:SzOk ws)(hv0:gPV ws=none):Cl 57 #[ptr br, .string ⟨#[105,102]⟩,ptr bl] w λe w'=>Fails 2 n bl w e w':=z8a
theorem z41(h:LineAt w bl n bw ws)(hE:Hid (Env w))(hbl:10<=bl)(hz:SzOk ws)(hv0:gPV ws=some (y,ws1)):Cl 57 #[ptr br, .string ⟨#[105,102]⟩,ptr bl] w λe w'=>StR bl n bw w (some (St.iff y,ws1)) e w':=by
 have H0:=hid h
 have C0:=hid (Chg.refl (Jo bl) w)
 clear h
 go_enter Tryz.func57,Tryz.ntmps57
 go_wp2_with fail
 refine (zge H0.out (hE.out.line C0.out hbl) hbl hz hv0).mono ?_
 rintro e w1 ⟨rfl,h1,c1⟩
 have H1:=hid h1
 have C1:=hid (C0.out.trans c1)
 clear h1 c1 H0 C0
 have hz1:=zcq hv0 hz
 go_wp2
 go_ret
 have bel:Below w1.heap.size w1 (w1.alloc (.cells #[.slice none 0 0, .string y.name, .int .i64 y.num] 214)):=(Below.refl _ w1).alloc (Nat.le_refl _) _
 exact ⟨_,rfl,⟨w1.heap.size,C1.out.size,rfl,zl2 _ _ _,World.cell?_alloc_new _ _ _ 0,zgf _ _ _,World.cell?_alloc_new _ _ _ 1,World.cell?_alloc_new _ _ _ 2⟩,H1.out.below bel,C1.out.alloc _⟩
theorem zvc(h:LineAt w bl n bw ws)(hE:Hid (Env w))(hbl:10<=bl)(hz:SzOk ws)(hv0:gIn 1 4 ws=none):Cl 57 #[ptr br, .string ⟨#[108,111,111,112]⟩,ptr bl] w λe w'=>Fails 2 n bl w e w':=by
 have H0:=hid h
 have C0:=hid (Chg.refl (Jo bl) w)
 clear h
 go_enter Tryz.func57,Tryz.ntmps57
 go_wp2_with fail
 refine (z15 H0.out (hE.out.line C0.out hbl) hbl hz hv0).mono ?_
 intro e w9 h9
 obtain ⟨bf,rfl,h8⟩:=Fails.after h9 C0.out
 exact ⟨rfl,bf,rfl,h8⟩
theorem zzw(h:LineAt w bl n bw ws)(hE:Hid (Env w))(hbl:10<=bl)(hz:SzOk ws)(hv0:gIn 1 4 ws=some (v,ws1)):Cl 57 #[ptr br, .string ⟨#[108,111,111,112]⟩,ptr bl] w λe w'=>StR bl n bw w (some (St.loop v,ws1)) e w':=by
 have H0:=hid h
 have C0:=hid (Chg.refl (Jo bl) w)
 clear h
 go_enter Tryz.func57,Tryz.ntmps57
 go_wp2_with fail
 refine (zqf H0.out (hE.out.line C0.out hbl) hbl hz hv0).mono ?_
 rintro e w1 ⟨rfl,h1,c1⟩
 have H1:=hid h1
 have C1:=hid (C0.out.trans c1)
 clear h1 c1 H0 C0
 have hz1:=z13 hv0 hz
 go_wp2
 go_ret
 have bel:Below w1.heap.size w1 (w1.alloc (.cells #[.slice none 0 0, .int .i64 v] 217)):=(Below.refl _ w1).alloc (Nat.le_refl _) _
 exact ⟨_,rfl,⟨w1.heap.size,C1.out.size,rfl,zl2 _ _ _,World.cell?_alloc_new _ _ _ 0,zgf _ _ _,World.cell?_alloc_new _ _ _ 1⟩,H1.out.below bel,C1.out.alloc _⟩
end
end Go.Proofs.YtphcopbffecceaaGreatDoor
