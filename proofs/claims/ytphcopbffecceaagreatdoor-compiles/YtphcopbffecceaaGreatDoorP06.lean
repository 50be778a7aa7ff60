import Derived.Test.YtphcopbffecceaaGreatDoorP05
import Derived.Maps.OwnSet
import Derived.StringKeys
import Derived.Stop.Asserts
set_option maxRecDepth 100000
set_option maxHeartbeats 4000000
namespace Go.Proofs.YtphcopbffecceaaGreatDoor
open Go.RowKit
variable{u:ByteArray}{cp g k mb:Nat}{e t:TypeId}{W w' w1 w3:World}{z:Value}
def small(b:UInt8):Bool:=decide (97<=b.toNat)&&decide (b.toNat<=122)
def Vo(u:ByteArray):Bool:=decide (0<u.size)&&(decide (u.size<=6)&&u.data.toList.all small)
structure PV where
 name:ByteArray
 num:Int
def pvV(x:PV):Value:= .agg #[.string x.name, .int .i64 x.num]
def gNm:List ByteArray->Option (ByteArray×List ByteArray)
 |[]=>none
 |u::ws=>if Vo u=true then some (u,ws) else none
def gPV:List ByteArray->Option (PV×List ByteArray)
 |[]=>none
 |u::ws=>if Vo u=true then some (⟨u,0⟩,ws) else (Qk u).map λv=>(⟨ByteArray.empty,v⟩,ws)
section
variable{w:World}{bl bw:Nat}{n:Int}{ws ws1:List ByteArray}
theorem zl0(h:u.data.toList.all small=true)(j:Nat)(hj:j<u.size):97<=u[j].toNat/\u[j].toNat<=122:=by
 have:=List.all_eq_true.1 h u[j] (by
  have:u[j]=u.data.toList[j]'(by simpa using hj):=ycs
  rw [this]
  exact List.getElem_mem _)
 simpa [small] using this
theorem zl1(h:u.data.toList.all small=false): ∃k,∃hk:k<u.size,(u[k].toNat<97\/122<u[k].toNat)/\ ∀j (h:j<u.size),j<k->97<=u[j].toNat/\u[j].toNat<=122:=by
 have hex: ∃k,∃hk:k<u.size,u[k].toNat<97\/122<u[k].toNat:=by
  obtain ⟨x,hx,hs⟩:=List.all_eq_false.1 h
  obtain ⟨k,hk,rfl⟩:=List.getElem_of_mem hx
  have hk':k<u.size:=by simpa using hk
  refine ⟨k,hk',?_⟩
  have:u[k]=u.data.toList[k]:=ycs
  rw [this]
  simp [small] at hs
  simp
  omega
 classical
 obtain ⟨k,hk⟩: ∃k,(∃hk:k<u.size,u[k].toNat<97\/122<u[k].toNat)/\ ∀j,j<k->¬∃hk:j<u.size,u[j].toNat<97\/122<u[j].toNat:=by
  have: ∀n,(∃k,k<n/\ ∃hk:k<u.size,u[k].toNat<97\/122<u[k].toNat)->∃k,(∃hk:k<u.size,u[k].toNat<97\/122<u[k].toNat)/\ ∀j,j<k->¬∃hk:j<u.size,u[j].toNat<97\/122<u[j].toNat:=by
   intro n
   induction n with
   |zero=>rintro ⟨k,hk,_⟩;omega
   |succ n ih=>
    rintro ⟨k,hk,h⟩
    by_cases hlt: ∃k,k<n/\ ∃hk:k<u.size,u[k].toNat<97\/122<u[k].toNat
    ·exact ih hlt
    ·have:k=n:=by
      by_cases h':k<n
      ·exact absurd ⟨k,h',h⟩ hlt
      ·omega
     subst this
     exact ⟨k,h,λj hj hh=>hlt ⟨j,hj,hh⟩⟩
  obtain ⟨k,hk⟩:=hex
  exact this (k+1) ⟨k,by omega,hk⟩
 obtain ⟨⟨hlt,hb⟩,hf⟩:=hk
 refine ⟨k,hlt,hb,λj hj hjk=>?_⟩
 have:=hf j hjk
 have h2: ¬(u[j].toNat<97\/122<u[j].toNat):=λh=>this ⟨hj,h⟩
 omega
theorem zjs(w:World)(u:ByteArray)(h:u.size=0\/6<u.size):
  Cl 108 #[.string u] w λe w'=>e= .returned (.bool false)/\w'=w:=by
 by_cases h0:u.size=0
 ·have he:u.toList.isEmpty=true:=by
   rw [ByteArray.toList_eq]
   have:u.data.toList=[]:=List.length_eq_zero_iff.1 (by simpa using h0)
   rw [this];rfl
  go_enter Tryz.func108,Tryz.ntmps108
  go_wp2
  go_ret
  exact ⟨rfl,rfl⟩
 ·have he:u.toList.isEmpty=false:=Ey yai
  have h6:(6:Int)<(u.size:Int):=yai
  go_enter Tryz.func108,Tryz.ntmps108
  go_wp2
  go_ret
  exact ⟨rfl,rfl⟩
theorem zn2(w:World)(u:ByteArray)(h0:0<u.size)(h6:u.size<=6)(hd:Hid (∀j (h:j<u.size),97<=u[j].toNat/\u[j].toNat<=122)):
  Cl 108 #[.string u] w λe w'=>e= .returned (.bool true)/\w'=w:=by
 have he:u.toList.isEmpty=false:=Ey yai
 have h6': ¬(6:Int)<(u.size:Int):=yai
 go_enter Tryz.func108,Tryz.ntmps108
 go_wp2
 go_loopw [13] (λv wr=>∃k:Nat,k<=u.size/\v= .int .i64 k/\wr=w) (λv _=>u.size- (intOf v).toNat)
 case atStart=>exact ⟨0,by omega,rfl,rfl⟩
 case round=>
  obtain ⟨k,hk,rfl,rfl⟩:=hrel
  by_cases hlt:k<u.size
  ·exact z79
  ·have hlt': ¬(k:Int)<(u.size:Int):=by omega
   go_wp2
   go_ret
   exact ⟨rfl,rfl⟩
theorem zqo(w:World)(u:ByteArray)(h0:0<u.size)(h6:u.size<=6)(k0:Nat)(hk0:k0<u.size)(hb:u[k0].toNat<97\/122<u[k0].toNat)(hd:Hid (∀j (h:j<u.size),j<k0->97<=u[j].toNat/\u[j].toNat<=122)):
  Cl 108 #[.string u] w λe w'=>e= .returned (.bool false)/\w'=w:=by
 have he:u.toList.isEmpty=false:=Ey yai
 have h6': ¬(6:Int)<(u.size:Int):=yai
 go_enter Tryz.func108,Tryz.ntmps108
 go_wp2
 go_loopw [13] (λv wr=>∃k:Nat,k<=k0/\v= .int .i64 k/\wr=w) (λv _=>u.size- (intOf v).toNat)
 case atStart=>exact ⟨0,by omega,rfl,rfl⟩
 case round=>exact z7s
theorem Fj(w:World)(u:ByteArray):Cl 108 #[.string u] w λe w'=>e= .returned (.bool (Vo u))/\w'=w:=by
 by_cases h0:u.size=0\/6<u.size
 ·have e:Vo u=false:=by
   unfold Vo
   rcases h0 with h|h
   ·have: ¬0<u.size:=by omega
    simp [this]
   ·have: ¬u.size<=6:=by omega
    simp [this]
  rw [e]
  exact zjs w u h0
 ·have h1:0<u.size:=by omega
  have h6:u.size<=6:=yai
  have e:Vo u=u.data.toList.all small:=by unfold Vo;simp [h1,h6]
  rw [e]
  cases ha:u.data.toList.all small with
  |true=>exact zn2 w u h1 h6 (zl0 ha)
  |false=>
   obtain ⟨k,hk,hb,hd⟩:=zl1 ha
   exact zqo w u h1 h6 k hk hb hd
theorem zcp(h:LineAt w bl n bw ws)(hz:SzOk ws):
  Cl 77 #[ptr bl] w λe w'=>Rds bl n bw w ((gNm ws).map λp=>(.string p.1,p.2)) e w':=by
 have H:=hid h
 clear h
 cases ws with
 |nil=>
  go_enter Tryz.func77,Tryz.ntmps77
  go_wp2_with fail
  refine (Fg H.out).mono ?_
  rintro e w1 ⟨bf,rfl,h1⟩
  exact ⟨rfl,bf,rfl,h1⟩
 |cons u ws=>
  cases hr:Vo u with
  |true=>
   have e:((gNm (u::ws)).map λp=>((.string p.1:Value),p.2))=some (.string u,ws):=by simp [gNm,hr]
   rw [e]
   go_enter Tryz.func77,Tryz.ntmps77
   go_wp2_with fail
   refine (Ve H.out hz.len).mono ?_
   rintro e w1 ⟨rfl,h1,c1⟩
   have H1:=hid h1
   have C1:=hid c1
   clear h1 c1
   go_wp2_with fail
   refine (Fj w1 u).mono ?_
   rintro e w2 ⟨rfl,rfl⟩
   rw [hr]
   go_wp2
   go_ret
   exact ⟨rfl,H1.out,C1.out⟩
  |false=>
   have e:((gNm (u::ws)).map λp=>((.string p.1:Value),p.2))=none:=by simp [gNm,hr]
   rw [e]
   go_enter Tryz.func77,Tryz.ntmps77
   go_wp2_with fail
   refine (Ve H.out hz.len).mono ?_
   rintro e w1 ⟨rfl,h1,c1⟩
   have H1:=hid h1
   have C1:=hid c1
   clear h1 c1
   go_wp2_with fail
   refine (Fj w1 u).mono ?_
   rintro e w2 ⟨rfl,rfl⟩
   rw [hr]
   go_wp2_with fail
   refine (Jv H1.out 2).mono ?_
   intro e w3 h3
   obtain ⟨bf,rfl,h4⟩:=h3.after C1.out
   exact ⟨rfl,bf,rfl,h4⟩
abbrev pvW(w:World):World:=w.alloc (.cells #[.string ⟨#[]⟩, .int .i64 0] 202)
structure PvRes(bl:Nat)(w w1:World):Prop where
 c0:w1.cell? ⟨w.heap.size,0,none⟩=some (.string ⟨#[]⟩)
 c1:w1.cell? ⟨w.heap.size,1,none⟩=some (.int .i64 0)
 f0:w1.frozen? ⟨w.heap.size,0,none⟩=false
 f1:w1.frozen? ⟨w.heap.size,1,none⟩=false
 lt:w.heap.size<w1.heap.size
 chg:Chg (Jo bl) w w1
theorem zqp(hb:bl<w.heap.size)(c:Chg (Jo bl) (pvW w) w1):PvRes bl w w1:=by
 have hs:(pvW w).heap.size=w.heap.size+1:=by simp [pvW]
 have h1:=c.size
 have k: ∀o,w1.cell? ⟨w.heap.size,o,none⟩=(pvW w).cell? ⟨w.heap.size,o,none⟩:=λo=>c.cell _ _ yai (λe=>by omega)
 have kf: ∀o,w1.frozen? ⟨w.heap.size,o,none⟩=(pvW w).frozen? ⟨w.heap.size,o,none⟩:=λo=>c.frozen _ _ yai
 exact ⟨(k 0).trans (World.cell?_alloc_new _ _ _ 0),(k 1).trans (World.cell?_alloc_new _ _ _ 1),(kf 0).trans (by simp [pvW]),(kf 1).trans (by simp [pvW]),by omega,((Chg.refl _ w).alloc _).trans c⟩
theorem PvRes.done(h:PvRes bl w w1)(a b:Value):(World.setCell (w1.setCell ⟨w.heap.size,0,none⟩ a) ⟨w.heap.size,1,none⟩ b).cell? ⟨w.heap.size,0,none⟩=some a/\(World.setCell (w1.setCell ⟨w.heap.size,0,none⟩ a) ⟨w.heap.size,1,none⟩ b).cell? ⟨w.heap.size,1,none⟩=some b/\Chg (Jo bl) w ((w1.setCell ⟨w.heap.size,0,none⟩ a).setCell ⟨w.heap.size,1,none⟩ b)/\Chg (λk _=>k=w.heap.size) w1 ((w1.setCell ⟨w.heap.size,0,none⟩ a).setCell ⟨w.heap.size,1,none⟩ b):=
 ⟨(Qb yai).trans (Qg h.c0 rfl),Qg ((Qb yai).trans h.c1) rfl,(h.chg.setCell (λe=>absurd e (Nat.lt_irrefl _)) a).setCell (λe=>absurd e (Nat.lt_irrefl _)) b,((Chg.refl (λk _=>k=w.heap.size) w1).setCell (λ_=>rfl) a).setCell (λ_=>rfl) b⟩
theorem LineAt.done(h:LineAt w1 bl n bw ws)(hb:bl<w.heap.size)(hw:bw<w.heap.size)(c:Chg (λk _=>k=w.heap.size) w1 W):LineAt W bl n bw ws:=h.keep c (λ_ e=>by omega) (λ_ e=>by omega)
theorem Oh(h:LineAt w bl n bw ws)(hE:Hid (Env w))(hbl:10<=bl)(hz:SzOk ws):
  Cl 82 #[ptr bl] w λe w'=>Rds bl n bw w ((gPV ws).map λp=>(pvV p.1,p.2)) e w':=by
 have hlt:=h.lt
 have hltw:=h.ltw
 have bel:Below w.heap.size w (pvW w):=(Below.refl _ w).alloc (Nat.le_refl _) _
 have H:=hid (h.below bel)
 have E1:=hid (hE.out.below bel)
 have A0:=hid ((Chg.refl (Jo bl) w).alloc (.cells #[.string ⟨#[]⟩, .int .i64 0] 202))
 clear h bel
 cases ws with
 |nil=>
  go_enter Tryz.func82,Tryz.ntmps82
  go_wp2_with fail
  refine (Fg H.out).mono ?_
  intro e w3 h3
  obtain ⟨bf,rfl,h4⟩:=h3.after A0.out
  exact ⟨rfl,bf,rfl,h4⟩
 |cons u ws=>
  cases hr:Vo u with
  |true=>
   have e:((gPV (u::ws)).map λp=>(pvV p.1,p.2))=some (.agg #[.string u, .int .i64 0],ws):=by simp [gPV,hr,pvV]
   rw [e]
   go_enter Tryz.func82,Tryz.ntmps82
   go_wp2_with fail
   refine (Ve H.out hz.len).mono ?_
   rintro e w1 ⟨rfl,h1,c1⟩
   have H1:=hid h1
   have hp:=zqp hlt c1
   have HP:=hid hp
   obtain ⟨d0,d1,g0,g1,gl,_⟩:=hp
   clear h1 c1
   go_wp2_with fail
   refine (Fj w1 u).mono ?_
   rintro e w2 ⟨rfl,rfl⟩
   rw [hr]
   go_wp2
   obtain ⟨z0,z1,z2,z3⟩:=HP.out.done (.string u) (.int .i64 0)
   refine ⟨rfl, .agg #[.string u, .int .i64 0],?_,rfl,H1.out.done hlt hltw z3,z2⟩
   clear z2 z3
   generalize (w2.setCell ⟨w.heap.size,0,none⟩ (.string u)).setCell ⟨w.heap.size,1,none⟩ (.int .i64 0)=W' at*
   simp [results,Tryz.results82,go_sem,z0,z1]
  |false=>
   cases hv:Qk u with
   |some v=>
    have e:((gPV (u::ws)).map λp=>(pvV p.1,p.2))=some (.agg #[.string ByteArray.empty, .int .i64 v],ws):=by simp [gPV,hr,hv,pvV]
    rw [e]
    go_enter Tryz.func82,Tryz.ntmps82
    go_wp2_with fail
    refine (Ve H.out hz.len).mono ?_
    rintro e w1 ⟨rfl,h1,c1⟩
    have H1:=hid h1
    have C1:=hid c1
    clear h1 c1
    go_wp2_with fail
    refine (Fj w1 u).mono ?_
    rintro e w2 ⟨rfl,rfl⟩
    rw [hr]
    go_wp2_with fail
    refine (Og (E1.out.line C1.out hbl) u hz.head).mono ?_
    rintro e w2 ⟨rfl,b2⟩
    have H2:=hid (H1.out.below b2)
    have hp:=zqp hlt (C1.out.trans (Chg.of_below b2))
    have HP:=hid hp
    obtain ⟨d0,d1,g0,g1,gl,_⟩:=hp
    clear b2 H1 C1
    rw [hv]
    go_wp2
    obtain ⟨z0,z1,z2,z3⟩:=HP.out.done (.string ⟨#[]⟩) (.int .i64 v)
    refine ⟨rfl, .agg #[.string ByteArray.empty, .int .i64 v],?_,rfl,H2.out.done hlt hltw z3,z2⟩
    clear z2 z3
    generalize (w2.setCell ⟨w.heap.size,0,none⟩ (.string ⟨#[]⟩)).setCell ⟨w.heap.size,1,none⟩ (.int .i64 v)=W' at*
    simp [results,Tryz.results82,go_sem,z0,z1]
    rfl
   |none=>
    have e:((gPV (u::ws)).map λp=>(pvV p.1,p.2))=none:=by simp [gPV,hr,hv]
    rw [e]
    go_enter Tryz.func82,Tryz.ntmps82
    go_wp2_with fail
    refine (Ve H.out hz.len).mono ?_
    rintro e w1 ⟨rfl,h1,c1⟩
    have H1:=hid h1
    have C1:=hid c1
    clear h1 c1
    go_wp2_with fail
    refine (Fj w1 u).mono ?_
    rintro e w2 ⟨rfl,rfl⟩
    rw [hr]
    go_wp2_with fail
    refine (Og (E1.out.line C1.out hbl) u hz.head).mono ?_
    rintro e w2 ⟨rfl,b2⟩
    have H2:=hid (H1.out.below b2)
    have C2:=hid (A0.out.trans (C1.out.trans (Chg.of_below b2)))
    clear b2 H1 C1
    rw [hv]
    go_wp2_with fail
    refine (Jv H2.out 2).mono ?_
    intro e w3 h3
    obtain ⟨bf,rfl,h4⟩:=h3.after C2.out
    exact ⟨rfl,bf,rfl,h4⟩
end
open Go.RowKit Go.Maps Go.ChangeMaps
def zjt(v:Value):Option (DataW Value×List MemPlace):=some (.held v,[])
def zvb(u:ByteArray):Lit:= .string u.data.toList
theorem zqq{v:ByteArray}(h:u≠v):zvb u≠zvb v:=λe=>h (Go.WideShapes.bytes_inj (by unfold zvb at e;injection e))
theorem law:Keyed Tryz.prog 9:=string_keyed Tryz.underlying9
theorem zqr(h:u.size<=maxLen):keyOf Tryz.prog 9 (.string u)=some (zvb u):=Go.WideMaps.keyOf_string_mk Tryz.underlying9 h
def MapIs(w:World)(b:Nat)(f:ByteArray->Option Value)(n:Nat):Prop:=
 ∃D:DataW Value,w.ownsMap Tryz.prog 9 zjt b n D/\Maps.size D=n/\ ∀u,u.size<=maxLen->(Maps.has D (zvb u)=(f u).isSome/\ ∀z v,f u=some v->D.atKey (zvb u) z= .held v)
section
variable{w:World}{b n:Nat}{f:ByteArray->Option Value}
theorem zbr(w:World):MapIs (w.alloc (.map #[] 0)) w.heap.size (λ_=>none) 0:=
 ⟨.map [],World.ownsMap_made w _ _ _,rfl,λu _=>⟨rfl,λz v h=>by simp at h⟩⟩
theorem MapIs.lt(h:MapIs w b f n):b<w.heap.size:=let ⟨_,h1,_⟩:=h;h1.lt
theorem MapIs.of_block(h:MapIs w b f n)(hb:w'.heap[b]?=w.heap[b]?):MapIs w' b f n:=by
 obtain ⟨D,⟨es,clock,h1,F,hs,hD⟩,h2,h3⟩:=h
 exact ⟨D,⟨es,clock,hb.trans h1,F,hs,hD⟩,h2,h3⟩
theorem MapIs.keep{M:Nat->Nat->Prop}(h:MapIs w b f n)(hc:Chg M w w')(hM: ∀i,¬M b i):MapIs w' b f n:=h.of_block (hc.block b h.lt hM)
theorem MapIs.congr{g:ByteArray->Option Value}(h:MapIs w b f n)(hg: ∀u,f u=g u):MapIs w b g n:=by
 obtain rfl:f=g:=funext hg
 exact h
theorem MapIs.look(h:MapIs w b f n)(ht:Tryz.prog.underlying t=some (.map 9 e))(hz:(zeroValue e).run Tryz.prog w= .ok z w)(hu:u.size<=maxLen):
  (Instr.lookup t (.map (some b)) (.string u) true).run Tryz.prog w= .ok (.tuple #[(f u).getD z, .bool (f u).isSome]) w:=by
 obtain ⟨D,h1,_,h3⟩:=h
 obtain ⟨v,ps,hrun,hv⟩:=h1.look_ok law ht hz (zd:= .held z) (zp:=[]) rfl (zqr hu)
 obtain ⟨g1,g2⟩:=h3 u hu
 rw [hrun,g1]
 simp only [zjt,Option.some.injEq,Prod.mk.injEq] at hv
 cases hf:f u with
 |some x=>
  have:=hv.1.trans (g2 (.held z) x hf)
  have e2:v=x:=by injection this
  subst e2
  rfl
 |none=>exact z91
theorem MapIs.look1(h:MapIs w b f n)(ht:Tryz.prog.underlying t=some (.map 9 e))(hz:(zeroValue e).run Tryz.prog w= .ok z w)(hu:u.size<=maxLen):
  (Instr.lookup t (.map (some b)) (.string u) false).run Tryz.prog w= .ok ((f u).getD z) w:=by
 obtain ⟨D,h1,_,h3⟩:=h
 obtain ⟨v,ps,hrun,hv⟩:=h1.lookup law ht hz (zd:= .held z) (zp:=[]) rfl (zqr hu)
 obtain ⟨g1,g2⟩:=h3 u hu
 rw [hrun]
 simp only [zjt,Option.some.injEq,Prod.mk.injEq] at hv
 cases hf:f u with
 |some x=>
  have:=hv.1.trans (g2 (.held z) x hf)
  have e2:v=x:=by injection this
  subst e2
  rfl
 |none=>exact z91
theorem MapIs.len(h:MapIs w b f n)(ht:Tryz.prog.underlying t=some (.map 9 e))(ty:TypeId):(Builtin.len_ #[t] ty #[.map (some b)]).run Tryz.prog w= .ok (.int .i64 n) w:=by
 obtain ⟨D,h1,h2,_⟩:=h
 rw [h1.len ht,h2]
def zgd(f:ByteArray->Option Value)(u:ByteArray)(v:Value):ByteArray->Option Value:=λx=>if x=u then some v else f x
theorem zn3(h:w.mapTurned w' b):Chg (λk _=>k=b) w w':=by
 have hg:=h.grown
 have hf:=h.frozen
 obtain ⟨es,clock,es',clock',hb,rfl⟩:=h
 have ho: ∀k,k≠b->(setBlock w b (.map es' clock')).heap[k]?=w.heap[k]?:=λk hk=>heap_setBlock_other hb _ hk
 refine ⟨rfl,rfl,rfl,hg.size,λk _ hk=>ho k (λe=>hk 0 e),λk i _ hk=>?_,λk i _=>hf _,λk _=>?_⟩
 ·unfold World.cell?
  rw [ho k hk]
 ·by_cases e:k=b
  ·subst e
   unfold World.shape?
   rw [hb,heap_setBlock_same hb]
  ·exact Jw (ho k e)
theorem MapIs.put(h:MapIs w b f n)(ht:Tryz.prog.underlying t=some (.map 9 e))(hn:n<maxLen)(hu:u.size<=maxLen)(v:Value):
  ∃w',(Instr.mapUpdate t (.map (some b)) (.string u) v).run Tryz.prog w= .ok () w'/\MapIs w' b (zgd f u v) (if (f u).isSome then n else n+1)/\Chg (λk _=>k=b) w w':=by
 obtain ⟨D,h1,h2,h3⟩:=h
 obtain ⟨w',hrun,h4,h5⟩:=h1.store law ht hn (val:=v) (d:= .held v) (ps:=[]) (zqr hu) rfl
 have hk:WideAt.IsKeyLit (zvb u):=trivial
 have hsz:Maps.size (D.put (zvb u) (.held v))=if (f u).isSome then n else n+1:=by
  rw [size_put (h1.tidy law),(h3 u hu).1,h2]
 refine ⟨w',hrun,⟨D.put (zvb u) (.held v),?_,hsz,λx hx=>?_⟩,zn3 h5⟩
 ·obtain ⟨es,clock,q1,q2,q3,q4⟩:=h4
  refine ⟨es,clock,q1,q2,?_,q4⟩
  rw [<-hsz,q4]
  simp [Maps.size,length_sorted]
 ·unfold zgd
  by_cases e:x=u
  ·subst e
   rw [if_pos rfl]
   exact ⟨by rw [has_put_same h1.isMap hk];rfl,λz y hy=>by rw [atKey_put_same h1.isMap hk];simp at hy;rw [hy]⟩
  ·rw [if_neg e,has_put_other (zqq e)]
   exact ⟨(h3 x hx).1,λz y hy=>by rw [atKey_put_other (zqq e)];exact (h3 x hx).2 z y hy⟩
end
def zPV:PV:=⟨ByteArray.empty,0⟩
def wAt:ByteArray:=⟨#[97,116]⟩
def gAt:List ByteArray->Option (PV×List ByteArray)
 |[]=>some (zPV,[])
 |u::ws=>if u=wAt then gPV ws else none
def Uj(u:ByteArray):Option Nat:=[(⟨#[43]⟩:ByteArray),⟨#[45]⟩,⟨#[42]⟩,⟨#[47]⟩,⟨#[37]⟩,⟨#[38]⟩,⟨#[124]⟩,⟨#[94]⟩,⟨#[60,60]⟩,⟨#[62,62]⟩,⟨#[60]⟩,⟨#[61,61]⟩].findIdx? (·==u)
def Sa(u:ByteArray):Option Value:=(Uj u).map λk=> .int .i64 k
def gOp:List ByteArray->Option (Nat×List ByteArray)
 |[]=>none
 |u::ws=>(Uj u).map λk=>(k,ws)
section
variable{w:World}{bl bw br bs:Nat}{n:Int}{ws ws1:List ByteArray}
theorem Qi(B:Nat)(w:World):Below B w w.drew:=⟨rfl,rfl,rfl,Nat.le_refl _,λ_ _=>rfl⟩
theorem zcq{x:PV}(hv:gPV ws=some (x,ws1))(hz:SzOk ws):SzOk ws1:=by
 cases ws with
 |nil=>simp [gPV] at hv
 |cons u ws=>
  simp only [gPV] at hv
  split at hv
  ·simp at hv;exact hv.2▸hz.tail
  ·simp at hv
   obtain ⟨_,_,_,rfl⟩:=hv
   exact hz.tail
theorem Ya{x:ByteArray}(hv:gNm ws=some (x,ws1))(hz:SzOk ws):SzOk ws1:=by
 cases ws with
 |nil=>simp [gNm] at hv
 |cons u ws=>
  simp only [gNm] at hv
  split at hv
  ·simp at hv;exact hv.2▸hz.tail
  ·simp at hv
theorem zyn(hv:gOp ws=some (k,ws1))(hz:SzOk ws):SzOk ws1:=by
 cases ws with
 |nil=>simp [gOp] at hv
 |cons u ws=>
  simp [gOp] at hv
  obtain ⟨_,_,_,rfl⟩:=hv
  exact hz.tail
theorem zfi(h:LineAt w bl n bw ws)(hE:Hid (Env w))(hbl:10<=bl)(hz:SzOk ws):
  Cl 81 #[ptr bl] w λe w'=>Rds bl n bw w ((gAt ws).map λp=>(pvV p.1,p.2)) e w':=by
 have hlt:=h.lt
 have hltw:=h.ltw
 have bel:Below w.heap.size w (pvW w):=(Below.refl _ w).alloc (Nat.le_refl _) _
 have H:=hid (h.below bel)
 have E1:=hid (hE.out.below bel)
 have A0:=hid ((Chg.refl (Jo bl) w).alloc (.cells #[.string ⟨#[]⟩, .int .i64 0] 202))
 have hq:=H.out
 obtain ⟨o,cap,hl,hs,_⟩:=hq.wds
 clear h bel hq hl
 cases ws with
 |nil=>
  simp only [List.length_nil] at hs
  go_enter Tryz.func81,Tryz.ntmps81
  go_wp2_with (go_at_call 76;go_in)
  refine ⟨rfl, .agg #[.string ByteArray.empty, .int .i64 0],?_,rfl,H.out,A0.out⟩
  simp [results,Tryz.results81,go_sem]
  rfl
 |cons u ws=>
  simp only [List.length_cons] at hs
  by_cases hu:u=wAt
  ·subst hu
   have e:gAt (wAt::ws)=gPV ws:=by simp [gAt]
   rw [e]
   cases hg:gPV ws with
   |some p=>
    obtain ⟨x,ws1⟩:=p
    go_enter Tryz.func81,Tryz.ntmps81
    go_wp2_with (first|(go_at_call 76;go_in)|fail)
    refine (Ve H.out hz.len).mono ?_
    rintro e w1 ⟨rfl,h1,c1⟩
    have H1:=hid h1
    have C1:=hid c1
    clear h1 c1
    unfold wAt
    go_wp2_with fail
    have k:=Oh H1.out (E1.out.line C1.out hbl) hbl hz.tail
    rw [hg] at k
    refine k.mono ?_
    rintro e w2 ⟨rfl,h2,c2⟩
    have H2:=hid h2
    have hp:=zqp hlt (C1.out.trans c2)
    have HP:=hid hp
    obtain ⟨d0,d1,g0,g1,gl,_⟩:=hp
    clear h2 c2 k C1 H1
    unfold pvV
    go_wp2
    obtain ⟨z0,z1,z2,z3⟩:=HP.out.done (.string x.name) (.int .i64 x.num)
    refine ⟨rfl, .agg #[.string x.name, .int .i64 x.num],?_,rfl,H2.out.done hlt hltw z3,z2⟩
    clear z2 z3
    generalize (w2.setCell ⟨w.heap.size,0,none⟩ (.string x.name)).setCell ⟨w.heap.size,1,none⟩ (.int .i64 x.num)=W' at*
    simp [results,Tryz.results81,go_sem,z0,z1]
   |none=>
    go_enter Tryz.func81,Tryz.ntmps81
    go_wp2_with (first|(go_at_call 76;go_in)|fail)
    refine (Ve H.out hz.len).mono ?_
    rintro e w1 ⟨rfl,h1,c1⟩
    have H1:=hid h1
    have C1:=hid c1
    clear h1 c1
    unfold wAt
    go_wp2_with fail
    have k:=Oh H1.out (E1.out.line C1.out hbl) hbl hz.tail
    rw [hg] at k
    refine k.mono ?_
    intro e w3 h3
    obtain ⟨bf,rfl,h4⟩:=Fails.after (Fails.after h3 C1.out) A0.out
    exact ⟨rfl,bf,rfl,h4⟩
  ·have e:gAt (u::ws)=none:=by simp [gAt,hu]
   rw [e]
   have hne:=Oz hu
   rw [show wAt.toList=[97,116] from by rw [ByteArray.toList_eq];rfl] at hne
   go_enter Tryz.func81,Tryz.ntmps81
   go_wp2_with (first|(go_at_call 76;go_in)|fail)
   refine (Ve H.out hz.len).mono ?_
   rintro e w1 ⟨rfl,h1,c1⟩
   have H1:=hid h1
   have C1:=hid c1
   clear h1 c1
   go_wp2_with fail
   refine (Jv H1.out 2).mono ?_
   intro e w3 h3
   obtain ⟨bf,rfl,h4⟩:=(h3.after C1.out).after A0.out
   exact ⟨rfl,bf,rfl,h4⟩
theorem z2b(w:World):(zeroValue 151).run Tryz.prog w= .ok (.int .i64 0) w:=yak
theorem zhl(h:MapIs W bs Sa 12)(hu:u.size<=maxLen){x:Option Value}(hx:Sa u=x):(Instr.lookup 96 (.map (some bs)) (.string u) true).run Tryz.prog W= .ok (.tuple #[x.getD (.int .i64 0), .bool x.isSome]) W:=by
 rw [<-hx]
 exact h.look Tryz.underlying96 (z2b W) hu
theorem zfj(h:LineAt w bl n bw ws)(hz:SzOk ws)(hc:w.cell? ⟨br,4,none⟩=some (.map (some bs)))(hne:br≠bl)(hm:MapIs w bs Sa 12)(hnm:bs≠bl):
  Cl 110 #[ptr br,ptr bl] w λe w'=>Rds bl n bw w ((gOp ws).map λp=>(.int .i64 p.1,p.2)) e w':=by
 have H:=hid (h.below (w':=w.drew) (Qi _ w))
 have HM:=hid hm
 have A0:=hid ((Chg.refl (Jo bl) w).drew)
 clear h hm
 cases ws with
 |nil=>
  go_enter Tryz.func110,Tryz.ntmps110
  go_wp2_with fail
  refine wp_region_any yak ?_
  change wpAny _ _ _ _ _ _ _ (World.drew _)
  refine wpAny_take (i:=0) (v:=ptr br) rfl yak yak yak (λ_ _ _ h=>h) (Or.inl ⟨by rfl,λw=>by go_simp⟩) ?_
  refine wpAny_take (i:=1) (v:=ptr br) rfl yak yak yak (λ_ _ _ h=>h) (Or.inl ⟨by rfl,λw=>by go_simp⟩) ?_
  refine wpAny_take (i:=2) (v:= .pointer (some ⟨br,4,none⟩)) rfl yak yak yak (λ_ _ _ h=>h) (Or.inl ⟨by rfl,λw=>by go_simp⟩) ?_
  refine wpAny_take (i:=4) (v:=ptr bl) rfl yak yak yak (λ_ _ _ h=>h) (Or.inl ⟨by rfl,λw=>by go_simp⟩) ?_
  refine wpAny_ready (rs:=[3,5]) yak yaj ?_
  refine AllReady.cons rfl (λK hK=>?_) ?_
  ·go_simp
   refine hK _ _ ?_
   clear hK K
   refine wpAny_ready (rs:=[5]) yak yaj ?_
   refine AllReady.cons rfl (λK hK=>?_) AllReady.nil
   go_simp
   refine (Fg H.out).mono ?_
   intro e w3 h3
   obtain ⟨bf,rfl,h4⟩:=h3.after A0.out
   exact ⟨rfl,bf,rfl,h4⟩
  ·refine AllReady.cons rfl (λK hK=>?_) AllReady.nil
   go_simp
   refine (Fg H.out).mono ?_
   intro e w3 h3
   obtain ⟨bf,rfl,h4⟩:=h3.after A0.out
   exact ⟨rfl,bf,rfl,h4⟩
 |cons u ws=>
  have hu:u.size<=maxLen:=by have:=hz.head;unfold maxLen;omega
  cases hr:Uj u with
  |some r=>
   have e:((gOp (u::ws)).map λp=>((.int .i64 p.1:Value),p.2))=some (.int .i64 r,ws):=by simp [gOp,hr]
   rw [e]
   have HLK:=hid (λW (h:MapIs W bs Sa 12)=>zhl (W:=W) h hu (x:=some (.int .i64 r)) (by simp [Sa,hr]))
   simp only [Option.getD_some,Option.isSome_some] at HLK
   go_enter Tryz.func110,Tryz.ntmps110
   go_wp2_with fail
   go_region_law (go_simp;go_at_call 53;refine (Ve H.out hz.len).mono ?_;rintro e w1 ⟨rfl,h1,c1⟩;have hlk:=HLK.out w1 (HM.out.keep (A0.out.trans c1) (λi e=>hnm e.1));have hcw:=((A0.out.trans c1).cell br 4 (blt hc) (λe=>hne e.1)).trans hc;have H1:=hid h1;have C1:=hid c1;clear h1 c1)
   all_goals
    go_wp2
    go_ret
    exact ⟨rfl,H1.out,A0.out.trans C1.out⟩
  |none=>
   have e:((gOp (u::ws)).map λp=>((.int .i64 p.1:Value),p.2))=none:=by simp [gOp,hr]
   rw [e]
   have HLK:=hid (λW (h:MapIs W bs Sa 12)=>zhl (W:=W) h hu (x:=none) (by simp [Sa,hr]))
   simp only [Option.getD_none,Option.isSome_none] at HLK
   go_enter Tryz.func110,Tryz.ntmps110
   go_wp2_with fail
   go_region_law (go_simp;go_at_call 53;refine (Ve H.out hz.len).mono ?_;rintro e w1 ⟨rfl,h1,c1⟩;have hlk:=HLK.out w1 (HM.out.keep (A0.out.trans c1) (λi e=>hnm e.1));have hcw:=((A0.out.trans c1).cell br 4 (blt hc) (λe=>hne e.1)).trans hc;have H1:=hid h1;have C1:=hid c1;clear h1 c1)
   all_goals
    go_wp2_with fail
    refine (Jv H1.out 2).mono ?_
    intro e w3 h3
    obtain ⟨bf,rfl,h4⟩:=(h3.after C1.out).after A0.out
    exact ⟨rfl,bf,rfl,h4⟩
end
abbrev St:=(ByteArray×PV)⊕(ByteArray×Nat×PV×PV)⊕(ByteArray×ByteArray×PV)⊕(ByteArray×PV×PV)⊕PV⊕Unit⊕PV⊕Int
abbrev St.set(to:ByteArray)(a:PV):St:= .inl (to,a)
abbrev St.op(to:ByteArray)(o:Nat)(a b:PV):St:= .inr (.inl (to,o,a,b))
abbrev St.get(to of:ByteArray)(a:PV):St:= .inr (.inr (.inl (to,of,a)))
abbrev St.put(of:ByteArray)(a b:PV):St:= .inr (.inr (.inr (.inl (of,a,b))))
abbrev St.out(a:PV):St:= .inr (.inr (.inr (.inr (.inl a))))
abbrev St.atomic:St:= .inr (.inr (.inr (.inr (.inr (.inl ())))))
abbrev St.iff(a:PV):St:= .inr (.inr (.inr (.inr (.inr (.inr (.inl a))))))
abbrev St.loop(n:Int):St:= .inr (.inr (.inr (.inr (.inr (.inr (.inr n))))))
def zn4(ws:List ByteArray):Option (St×List ByteArray):=(gNm ws).bind λp=>(gPV p.2).bind λq=>match q.2 with
 |[]=>some (St.set p.1 q.1,[])
 |u::us=>(gOp (u::us)).bind λo=>(gPV o.2).map λr=>(St.op p.1 o.1 q.1 r.1,r.2)
section
variable{w:World}{bl bw br bs:Nat}{n:Int}{ws ws1:List ByteArray}{x:ByteArray}{y:PV}{k:Nat}
theorem Fa(h:LineAt w bl n bw ws)(hz:SzOk ws)(hv:gNm ws=some (x,ws1)):Cl 77 #[ptr bl] w λe w'=>e= .returned (.string x)/\LineAt w' bl n bw ws1/\Chg (Jo bl) w w':=by
 have:=zcp h hz
 rw [hv] at this
 exact this
theorem zqs(h:LineAt w bl n bw ws)(hz:SzOk ws)(hv:gNm ws=none):Cl 77 #[ptr bl] w λe w'=>Fails 2 n bl w e w':=by
 have:=zcp h hz
 rw [hv] at this
 exact this
theorem zge(h:LineAt w bl n bw ws)(hE:Env w)(hbl:10<=bl)(hz:SzOk ws)(hv:gPV ws=some (y,ws1)):Cl 82 #[ptr bl] w λe w'=>e= .returned (.agg #[.string y.name, .int .i64 y.num])/\LineAt w' bl n bw ws1/\Chg (Jo bl) w w':=by
 have:=Oh h hE hbl hz
 rw [hv] at this
 exact this
theorem zqt(h:LineAt w bl n bw ws)(hE:Env w)(hbl:10<=bl)(hz:SzOk ws)(hv:gPV ws=none):Cl 82 #[ptr bl] w λe w'=>Fails 2 n bl w e w':=by
 have:=Oh h hE hbl hz
 rw [hv] at this
 exact this
theorem z2c(h:LineAt w bl n bw ws)(hE:Env w)(hbl:10<=bl)(hz:SzOk ws)(hv:gAt ws=some (y,ws1)):Cl 81 #[ptr bl] w λe w'=>e= .returned (.agg #[.string y.name, .int .i64 y.num])/\LineAt w' bl n bw ws1/\Chg (Jo bl) w w':=by
 have:=zfi h hE hbl hz
 rw [hv] at this
 exact this
theorem z2d(h:LineAt w bl n bw ws)(hE:Env w)(hbl:10<=bl)(hz:SzOk ws)(hv:gAt ws=none):Cl 81 #[ptr bl] w λe w'=>Fails 2 n bl w e w':=by
 have:=zfi h hE hbl hz
 rw [hv] at this
 exact this
theorem z2e(h:LineAt w bl n bw ws)(hz:SzOk ws)(hc:w.cell? ⟨br,4,none⟩=some (.map (some bs)))(hne:br≠bl)(hm:MapIs w bs Sa 12)(hnm:bs≠bl)(hv:gOp ws=some (k,ws1)):Cl 110 #[ptr br,ptr bl] w λe w'=>e= .returned (.int .i64 k)/\LineAt w' bl n bw ws1/\Chg (Jo bl) w w':=by
 have:=zfj h hz hc hne hm hnm
 rw [hv] at this
 exact this
theorem z4z(h:LineAt w bl n bw ws)(hz:SzOk ws)(hc:w.cell? ⟨br,4,none⟩=some (.map (some bs)))(hne:br≠bl)(hm:MapIs w bs Sa 12)(hnm:bs≠bl)(hv:gOp ws=none):Cl 110 #[ptr br,ptr bl] w λe w'=>Fails 2 n bl w e w':=by
 have:=zfj h hz hc hne hm hnm
 rw [hv] at this
 exact this
theorem z2f(hv:gAt ws=some (y,ws1))(hz:SzOk ws):SzOk ws1:=by
 cases ws with
 |nil=>simp [gAt] at hv;exact hv.2▸hz
 |cons u ws=>
  simp only [gAt] at hv
  split at hv
  ·exact zcq hv hz.tail
  ·simp at hv
theorem LineAt.more(h:LineAt w bl n bw ws): ∃o cap,w.cell? ⟨bl,1,none⟩=some (.slice (some ⟨bw,o,none⟩) ws.length cap):=let ⟨o,cap,_,hs,_⟩:=h.wds;⟨o,cap,hs⟩
abbrev pvB(W:World)(y:PV):World:=W.alloc (.cells #[.string y.name, .int .i64 y.num] 202)
theorem zn5(h:LineAt w bl n bw ws)(hz:SzOk ws)(hv:gNm ws=none):Cl 80 #[ptr br,ptr bl] w λe w'=>Fails 2 n bl w e w':=by
 have K:=hid (zqs h hz hv)
 clear h
 go_enter Tryz.func80,Tryz.ntmps80
 go_wp2_with fail
 refine K.out.mono ?_
 rintro e w1 ⟨bf,rfl,h1⟩
 exact ⟨rfl,bf,rfl,h1⟩
theorem zn6(h:LineAt w bl n bw ws)(hE:Hid (Env w))(hbl:10<=bl)(hz:SzOk ws)(hv:gNm ws=some (x,ws1))(hv2:gPV ws1=none):Cl 80 #[ptr br,ptr bl] w λe w'=>Fails 2 n bl w e w':=by
 have K:=hid (Fa h hz hv)
 have hz1:=Ya hv hz
 clear h
 go_enter Tryz.func80,Tryz.ntmps80
 go_wp2_with fail
 refine K.out.mono ?_
 rintro e w1 ⟨rfl,h1,c1⟩
 have K2:=hid (zqt h1 (hE.out.line c1 hbl) hbl hz1 hv2)
 have C1:=hid c1
 clear h1 c1 K
 go_wp2_with fail
 refine K2.out.mono ?_
 intro e w3 h3
 obtain ⟨bf,rfl,h4⟩:=Fails.after h3 C1.out
 exact ⟨rfl,bf,rfl,h4⟩
theorem zju(h:LineAt w bl n bw ws)(hE:Hid (Env w))(hbl:10<=bl)(hz:SzOk ws)(hv:gNm ws=some (x,ws1))(hv2:gPV ws1=some (y,[])):Cl 80 #[ptr br,ptr bl] w λe w'=>e= .returned (.iface 228 (.agg #[.string x, .string y.name, .int .i64 y.num]))/\LineAt w' bl n bw []/\Chg (Jo bl) w w':=by
 have K:=hid (Fa h hz hv)
 have hz1:=Ya hv hz
 clear h
 go_enter Tryz.func80,Tryz.ntmps80
 go_wp2_with fail
 refine K.out.mono ?_
 rintro e w1 ⟨rfl,h1,c1⟩
 have K2:=hid (zge h1 (hE.out.line c1 hbl) hbl hz1 hv2)
 have C1:=hid c1
 clear h1 c1 K
 go_wp2_with fail
 refine K2.out.mono ?_
 rintro e w2 ⟨rfl,h2,c2⟩
 have bel:Below w2.heap.size w2 (pvB w2 y):=(Below.refl _ w2).alloc (Nat.le_refl _) _
 have H3:=hid (h2.below bel)
 have C3:=hid ((C1.out.trans c2).alloc (.cells #[.string y.name, .int .i64 y.num] 202))
 obtain ⟨o,cap,hs⟩:=(h2.below bel).more
 have hlt:=h2.lt
 simp only [List.length_nil] at hs
 clear h2 c2 C1 K2 bel
 go_wp2_with (go_at_call 76;go_in)
 go_ret
 exact ⟨rfl,H3.out,C3.out⟩
end
section
variable{w:World}{bl bw br bs:Nat}{n:Int}{ws ws1 ws3 ws4 us:List ByteArray}{x u:ByteArray}{y z:PV}{k:Nat}
structure SignsAt(w:World)(br bs bl:Nat):Prop where
 c:w.cell? ⟨br,4,none⟩=some (.map (some bs))
 ne:br≠bl
 m:MapIs w bs Sa 12
 nm:bs≠bl
theorem SignsAt.keep(h:SignsAt w br bs bl)(hc:Chg (Jo bl) w w'):SignsAt w' br bs bl:=
 ⟨(hc.cell br 4 (blt h.c) (λe=>h.ne e.1)).trans h.c,h.ne,h.m.keep hc (λ_ e=>h.nm e.1),h.nm⟩
theorem zhm(h:LineAt w bl n bw ws)(hE:Hid (Env w))(hbl:10<=bl)(hz:SzOk ws)(hS:Hid (SignsAt w br bs bl))(hv:gNm ws=some (x,ws1))(hv2:gPV ws1=some (y,u::us))(hv3:gOp (u::us)=none):Cl 80 #[ptr br,ptr bl] w λe w'=>Fails 2 n bl w e w':=by
 have K:=hid (Fa h hz hv)
 have hz1:=Ya hv hz
 have hz2:=zcq hv2 hz1
 clear h
 go_enter Tryz.func80,Tryz.ntmps80
 go_wp2_with fail
 refine K.out.mono ?_
 rintro e w1 ⟨rfl,h1,c1⟩
 have K2:=hid (zge h1 (hE.out.line c1 hbl) hbl hz1 hv2)
 have C1:=hid c1
 clear h1 c1 K
 go_wp2_with fail
 refine K2.out.mono ?_
 rintro e w2 ⟨rfl,h2,c2⟩
 have bel:Below w2.heap.size w2 (pvB w2 y):=(Below.refl _ w2).alloc (Nat.le_refl _) _
 have C3:=hid ((C1.out.trans c2).alloc (.cells #[.string y.name, .int .i64 y.num] 202))
 have h3:=h2.below bel
 have S3:=hS.out.keep C3.out
 have K3:=hid (z4z h3 hz2 S3.c S3.ne S3.m S3.nm hv3)
 obtain ⟨o,cap,hs⟩:=h3.more
 have hlt:=h2.lt
 simp only [List.length_cons] at hs
 clear h2 c2 C1 K2 bel h3 S3
 go_wp2_with (first|(go_at_call 76;go_in)|fail)
 refine K3.out.mono ?_
 intro e w3 h3
 obtain ⟨bf,rfl,h4⟩:=Fails.after h3 C3.out
 exact ⟨rfl,bf,rfl,h4⟩
theorem zjv(h:LineAt w bl n bw ws)(hE:Hid (Env w))(hbl:10<=bl)(hz:SzOk ws)(hS:Hid (SignsAt w br bs bl))(hv:gNm ws=some (x,ws1))(hv2:gPV ws1=some (y,u::us))(hv3:gOp (u::us)=some (k,ws3))(hv4:gPV ws3=none):Cl 80 #[ptr br,ptr bl] w λe w'=>Fails 2 n bl w e w':=by
 have K:=hid (Fa h hz hv)
 have hz1:=Ya hv hz
 have hz2:=zcq hv2 hz1
 have hz3:=zyn hv3 hz2
 clear h
 go_enter Tryz.func80,Tryz.ntmps80
 go_wp2_with fail
 refine K.out.mono ?_
 rintro e w1 ⟨rfl,h1,c1⟩
 have K2:=hid (zge h1 (hE.out.line c1 hbl) hbl hz1 hv2)
 have C1:=hid c1
 clear h1 c1 K
 go_wp2_with fail
 refine K2.out.mono ?_
 rintro e w2 ⟨rfl,h2,c2⟩
 have bel:Below w2.heap.size w2 (pvB w2 y):=(Below.refl _ w2).alloc (Nat.le_refl _) _
 have C3:=hid ((C1.out.trans c2).alloc (.cells #[.string y.name, .int .i64 y.num] 202))
 have h3:=h2.below bel
 have S3:=hS.out.keep C3.out
 have K3:=hid (z2e h3 hz2 S3.c S3.ne S3.m S3.nm hv3)
 obtain ⟨o,cap,hs⟩:=h3.more
 have hlt:=h2.lt
 have d0:(pvB w2 y).cell? ⟨w2.heap.size,0,none⟩=some (.string y.name):=World.cell?_alloc_new _ _ _ 0
 have d1:(pvB w2 y).cell? ⟨w2.heap.size,1,none⟩=some (.int .i64 y.num):=World.cell?_alloc_new _ _ _ 1
 simp only [List.length_cons] at hs
 clear h2 c2 C1 K2 bel h3 S3
 go_wp2_with (first|(go_at_call 76;go_in)|fail)
 refine K3.out.mono ?_
 rintro e w4 ⟨rfl,h4,c4⟩
 have e0:=(c4.cell w2.heap.size 0 (blt d0) (λe=>by omega)).trans d0
 have e1:=(c4.cell w2.heap.size 1 (blt d0) (λe=>by omega)).trans d1
 have hE4:=hE.out.line (C3.out.trans c4) hbl
 have K4:=hid (zqt (h4.below (w':=w4.drew) (Qi _ w4)) (hE4.below (Qi _ w4)) hbl hz3 hv4)
 have C4:=hid ((C3.out.trans c4).drew)
 clear h4 c4 hE4 K3 C3
 go_wp2_with fail
 refine wp_region_any yak ?_
 change wpAny _ _ _ _ _ _ _ (World.drew _)
 refine wpAny_take (i:=0) (v:= .string x) rfl yak yak yak (λ_ _ _ h=>h) (Or.inl ⟨by rfl,λw=>by go_simp⟩) ?_
 refine wpAny_take (i:=1) (v:= .int .i64 k) rfl yak yak yak (λ_ _ _ h=>h) (Or.inl ⟨by rfl,λw=>by go_simp⟩) ?_
 refine wpAny_take (i:=3) (v:=ptr bl) rfl yak yak yak (λ_ _ _ h=>h) (Or.inl ⟨by rfl,λw=>by go_simp⟩) ?_
 refine wpAny_ready (rs:=[2,4]) yak yaj ?_
 refine AllReady.cons rfl (λK hK=>?_) ?_
 ·go_simp
  refine hK _ _ ?_
  clear hK K
  refine wpAny_ready (rs:=[4]) yak yaj ?_
  refine AllReady.cons rfl (λK hK=>?_) AllReady.nil
  go_simp
  refine K4.out.mono ?_
  intro e w5 h5
  obtain ⟨bf,rfl,h6⟩:=h5.after C4.out
  exact ⟨rfl,bf,rfl,h6⟩
 ·refine AllReady.cons rfl (λK hK=>?_) AllReady.nil
  go_simp
  refine K4.out.mono ?_
  intro e w5 h5
  obtain ⟨bf,rfl,h6⟩:=h5.after C4.out
  exact ⟨rfl,bf,rfl,h6⟩
theorem zn7(h:LineAt w bl n bw ws)(hE:Hid (Env w))(hbl:10<=bl)(hz:SzOk ws)(hS:Hid (SignsAt w br bs bl))(hv:gNm ws=some (x,ws1))(hv2:gPV ws1=some (y,u::us))(hv3:gOp (u::us)=some (k,ws3))(hv4:gPV ws3=some (z,ws4)):Cl 80 #[ptr br,ptr bl] w λe w'=>e= .returned (.iface 231 (.agg #[.string x, .int .i64 k, .string y.name, .int .i64 y.num, .string z.name, .int .i64 z.num]))/\LineAt w' bl n bw ws4/\Chg (Jo bl) w w':=by
 have K:=hid (Fa h hz hv)
 have hz1:=Ya hv hz
 have hz2:=zcq hv2 hz1
 have hz3:=zyn hv3 hz2
 clear h
 go_enter Tryz.func80,Tryz.ntmps80
 go_wp2_with fail
 refine K.out.mono ?_
 rintro e w1 ⟨rfl,h1,c1⟩
 have K2:=hid (zge h1 (hE.out.line c1 hbl) hbl hz1 hv2)
 have C1:=hid c1
 clear h1 c1 K
 go_wp2_with fail
 refine K2.out.mono ?_
 rintro e w2 ⟨rfl,h2,c2⟩
 have bel:Below w2.heap.size w2 (pvB w2 y):=(Below.refl _ w2).alloc (Nat.le_refl _) _
 have C3:=hid ((C1.out.trans c2).alloc (.cells #[.string y.name, .int .i64 y.num] 202))
 have h3:=h2.below bel
 have S3:=hS.out.keep C3.out
 have K3:=hid (z2e h3 hz2 S3.c S3.ne S3.m S3.nm hv3)
 obtain ⟨o,cap,hs⟩:=h3.more
 have hlt:=h2.lt
 have d0:(pvB w2 y).cell? ⟨w2.heap.size,0,none⟩=some (.string y.name):=World.cell?_alloc_new _ _ _ 0
 have d1:(pvB w2 y).cell? ⟨w2.heap.size,1,none⟩=some (.int .i64 y.num):=World.cell?_alloc_new _ _ _ 1
 simp only [List.length_cons] at hs
 clear h2 c2 C1 K2 bel h3 S3
 go_wp2_with (first|(go_at_call 76;go_in)|fail)
 refine K3.out.mono ?_
 rintro e w4 ⟨rfl,h4,c4⟩
 have e0:=(c4.cell w2.heap.size 0 (blt d0) (λe=>by omega)).trans d0
 have e1:=(c4.cell w2.heap.size 1 (blt d0) (λe=>by omega)).trans d1
 have hE4:=hE.out.line (C3.out.trans c4) hbl
 have K4:=hid (zge (h4.below (w':=w4.drew) (Qi _ w4)) (hE4.below (Qi _ w4)) hbl hz3 hv4)
 have C4:=hid ((C3.out.trans c4).drew)
 clear h4 c4 hE4 K3 C3
 go_wp2_with fail
 go_region_law (go_simp;go_at_call 82;refine K4.out.mono ?_;rintro e w5 ⟨rfl,h5,c5⟩;have g0:=(c5.cell w2.heap.size 0 (blt e0) (λe=>by omega)).trans e0;have g1:=(c5.cell w2.heap.size 1 (blt e0) (λe=>by omega)).trans e1;have H5:=hid h5;have C5:=hid c5;clear h5 c5)
 all_goals
  go_wp2
  go_ret
  exact ⟨rfl,H5.out,C4.out.trans C5.out⟩
end
def z40(w0 w:World)(s:St)(v:Value):Prop:=match s with
 | .inl (to,a)=>v= .iface 228 (.agg #[.string to, .string a.name, .int .i64 a.num])
 | .inr (.inl (to,o,a,b))=>v= .iface 231 (.agg #[.string to, .int .i64 o, .string a.name, .int .i64 a.num, .string b.name, .int .i64 b.num])
 | .inr (.inr (.inl (to,of,a)))=>v= .iface 207 (.agg #[.string to, .string of, .string a.name, .int .i64 a.num])
 | .inr (.inr (.inr (.inl (of,a,b))))=>v= .iface 209 (.agg #[.string of, .string a.name, .int .i64 a.num, .string b.name, .int .i64 b.num])
 | .inr (.inr (.inr (.inr (.inl a))))=>v= .iface 211 (.agg #[.string a.name, .int .i64 a.num])
 | .inr (.inr (.inr (.inr (.inr (.inl ())))))=>∃b,w0.heap.size<=b/\v= .iface 171 (ptr b)/\w.shape? b=some (174,1)/\w.cell? ⟨b,0,none⟩=some (.slice none 0 0)/\(∀j,w.frozen? ⟨b,j,none⟩=false)
 | .inr (.inr (.inr (.inr (.inr (.inr (.inl a))))))=>∃b,w0.heap.size<=b/\v= .iface 212 (ptr b)/\w.shape? b=some (214,3)/\w.cell? ⟨b,0,none⟩=some (.slice none 0 0)/\(∀j,w.frozen? ⟨b,j,none⟩=false)/\w.cell? ⟨b,1,none⟩=some (.string a.name)/\w.cell? ⟨b,2,none⟩=some (.int .i64 a.num)
 | .inr (.inr (.inr (.inr (.inr (.inr (.inr n))))))=>∃b,w0.heap.size<=b/\v= .iface 215 (ptr b)/\w.shape? b=some (217,2)/\w.cell? ⟨b,0,none⟩=some (.slice none 0 0)/\(∀j,w.frozen? ⟨b,j,none⟩=false)/\w.cell? ⟨b,1,none⟩=some (.int .i64 n)
theorem zgf(w:World)(cs:Array Value)(t:TypeId): ∀j,(w.alloc (.cells cs t)).frozen? ⟨w.heap.size,j,none⟩=false:=by
 intro j
 have e:(w.alloc (.cells cs t)).heap[w.heap.size]?=some (.cells cs t):=yct
 unfold World.frozen?
 rw [e]
 simp
theorem zl2(w:World)(cs:Array Value)(t:TypeId):(w.alloc (.cells cs t)).shape? w.heap.size=some (t,cs.size):=z87
def StR(bl:Nat)(n:Int)(bw:Nat)(w:World)(r:Option (St×List ByteArray))(e:Ending)(w':World):Prop:=match r with
 |some (s,ws)=>∃v,e= .returned v/\z40 w w' s v/\LineAt w' bl n bw ws/\Chg (Jo bl) w w'
 |none=>Fails 2 n bl w e w'
section
variable{w:World}{bl bw br bs:Nat}{n:Int}{ws ws1 ws2 ws3:List ByteArray}{x x2 u:ByteArray}{y z:PV}{v:Int}
theorem zzp(h:LineAt w bl n bw ws)(_hE:Hid (Env w))(_hbl:10<=bl)(hz:SzOk ws)(hv0:gNm ws=none):Cl 57 #[ptr br, .string ⟨#[103,101,116]⟩,ptr bl] w λe w'=>Fails 2 n bl w e w':=z8g
theorem zzq(h:LineAt w bl n bw ws)(_hE:Hid (Env w))(_hbl:10<=bl)(hz:SzOk ws)(hv0:gNm ws=some (x,ws1))(hv1:gNm ws1=none):Cl 57 #[ptr br, .string ⟨#[103,101,116]⟩,ptr bl] w λe w'=>Fails 2 n bl w e w':=by
 have H0:=hid h
 have C0:=hid (Chg.refl (Jo bl) w)
 clear h
 go_enter Tryz.func57,Tryz.ntmps57
 go_wp2_with fail
 refine (Fa H0.out hz hv0).mono ?_
 rintro e w1 ⟨rfl,h1,c1⟩
 have H1:=hid h1
 have C1:=hid (C0.out.trans c1)
 clear h1 c1 H0 C0
 have hz1:=Ya hv0 hz
 go_wp2_with fail
 refine (zqs H1.out hz1 hv1).mono ?_
 intro e w9 h9
 obtain ⟨bf,rfl,h8⟩:=Fails.after h9 C1.out
 exact ⟨rfl,bf,rfl,h8⟩
theorem zzr(h:LineAt w bl n bw ws)(hE:Hid (Env w))(hbl:10<=bl)(hz:SzOk ws)(hv0:gNm ws=some (x,ws1))(hv1:gNm ws1=some (x2,ws2))(hv2:gAt ws2=none):Cl 57 #[ptr br, .string ⟨#[103,101,116]⟩,ptr bl] w λe w'=>Fails 2 n bl w e w':=by
 have H0:=hid h
 have C0:=hid (Chg.refl (Jo bl) w)
 clear h
 go_enter Tryz.func57,Tryz.ntmps57
 go_wp2_with fail
 refine (Fa H0.out hz hv0).mono ?_
 rintro e w1 ⟨rfl,h1,c1⟩
 have H1:=hid h1
 have C1:=hid (C0.out.trans c1)
 clear h1 c1 H0 C0
 have hz1:=Ya hv0 hz
 go_wp2_with fail
 refine (Fa H1.out hz1 hv1).mono ?_
 rintro e w2 ⟨rfl,h1,c1⟩
 have H2:=hid h1
 have C2:=hid (C1.out.trans c1)
 clear h1 c1 H1 C1
 have hz2:=Ya hv1 hz1
 go_wp2_with fail
 refine (z2d H2.out (hE.out.line C2.out hbl) hbl hz2 hv2).mono ?_
 intro e w9 h9
 obtain ⟨bf,rfl,h8⟩:=Fails.after h9 C2.out
 exact ⟨rfl,bf,rfl,h8⟩
theorem z2g(h:LineAt w bl n bw ws)(hE:Hid (Env w))(hbl:10<=bl)(hz:SzOk ws)(hv0:gNm ws=some (x,ws1))(hv1:gNm ws1=some (x2,ws2))(hv2:gAt ws2=some (y,ws3)):Cl 57 #[ptr br, .string ⟨#[103,101,116]⟩,ptr bl] w λe w'=>StR bl n bw w (some (St.get x x2 y,ws3)) e w':=by
 have H0:=hid h
 have C0:=hid (Chg.refl (Jo bl) w)
 clear h
 go_enter Tryz.func57,Tryz.ntmps57
 go_wp2_with fail
 refine (Fa H0.out hz hv0).mono ?_
 rintro e w1 ⟨rfl,h1,c1⟩
 have H1:=hid h1
 have C1:=hid (C0.out.trans c1)
 clear h1 c1 H0 C0
 have hz1:=Ya hv0 hz
 go_wp2_with fail
 refine (Fa H1.out hz1 hv1).mono ?_
 rintro e w2 ⟨rfl,h1,c1⟩
 have H2:=hid h1
 have C2:=hid (C1.out.trans c1)
 clear h1 c1 H1 C1
 have hz2:=Ya hv1 hz1
 go_wp2_with fail
 refine (z2c H2.out (hE.out.line C2.out hbl) hbl hz2 hv2).mono ?_
 rintro e w3 ⟨rfl,h1,c1⟩
 have H3:=hid h1
 have C3:=hid (C2.out.trans c1)
 clear h1 c1 H2 C2
 have hz3:=z2f hv2 hz2
 go_wp2
 go_ret
 exact ⟨_,rfl,rfl,H3.out,C3.out⟩
theorem zzs(h:LineAt w bl n bw ws)(_hE:Hid (Env w))(_hbl:10<=bl)(hz:SzOk ws)(hv0:gNm ws=none):Cl 57 #[ptr br, .string ⟨#[112,117,116]⟩,ptr bl] w λe w'=>Fails 2 n bl w e w':=z8g
theorem zzt(h:LineAt w bl n bw ws)(hE:Hid (Env w))(hbl:10<=bl)(hz:SzOk ws)(hv0:gNm ws=some (x,ws1))(hv1:gPV ws1=none):Cl 57 #[ptr br, .string ⟨#[112,117,116]⟩,ptr bl] w λe w'=>Fails 2 n bl w e w':=by
 have H0:=hid h
 have C0:=hid (Chg.refl (Jo bl) w)
 clear h
 go_enter Tryz.func57,Tryz.ntmps57
 go_wp2_with fail
 refine (Fa H0.out hz hv0).mono ?_
 rintro e w1 ⟨rfl,h1,c1⟩
 have H1:=hid h1
 have C1:=hid (C0.out.trans c1)
 clear h1 c1 H0 C0
 have hz1:=Ya hv0 hz
 go_wp2_with fail
 refine (zqt H1.out (hE.out.line C1.out hbl) hbl hz1 hv1).mono ?_
 intro e w9 h9
 obtain ⟨bf,rfl,h8⟩:=Fails.after h9 C1.out
 exact ⟨rfl,bf,rfl,h8⟩
theorem zzu(h:LineAt w bl n bw ws)(hE:Hid (Env w))(hbl:10<=bl)(hz:SzOk ws)(hv0:gNm ws=some (x,ws1))(hv1:gPV ws1=some (y,ws2))(hv2:gAt ws2=none):Cl 57 #[ptr br, .string ⟨#[112,117,116]⟩,ptr bl] w λe w'=>Fails 2 n bl w e w':=by
 have H0:=hid h
 have C0:=hid (Chg.refl (Jo bl) w)
 clear h
 go_enter Tryz.func57,Tryz.ntmps57
 go_wp2_with fail
 refine (Fa H0.out hz hv0).mono ?_
 rintro e w1 ⟨rfl,h1,c1⟩
 have H1:=hid h1
 have C1:=hid (C0.out.trans c1)
 clear h1 c1 H0 C0
 have hz1:=Ya hv0 hz
 go_wp2_with fail
 refine (zge H1.out (hE.out.line C1.out hbl) hbl hz1 hv1).mono ?_
 rintro e w2 ⟨rfl,h1,c1⟩
 have H2:=hid h1
 have C2:=hid (C1.out.trans c1)
 clear h1 c1 H1 C1
 have hz2:=zcq hv1 hz1
 have bel:Below w2.heap.size w2 (pvB w2 y):=(Below.refl _ w2).alloc (Nat.le_refl _) _
 have d0:(pvB w2 y).cell? ⟨w2.heap.size,0,none⟩=some (.string y.name):=World.cell?_alloc_new _ _ _ 0
 have d1:(pvB w2 y).cell? ⟨w2.heap.size,1,none⟩=some (.int .i64 y.num):=World.cell?_alloc_new _ _ _ 1
 have CB:=hid ((C2.out.alloc (.cells #[.string y.name, .int .i64 y.num] 202)).drew)
 have HB:=hid ((H2.out.below bel).below (w':=(pvB w2 y).drew) (Qi _ _))
 have hlt:=H2.out.lt
 have KD:=hid (z2d HB.out (hE.out.line CB.out hbl) hbl hz2 hv2)
 clear bel H2 C2
 go_wp2_with fail
 refine wp_region_any yak ?_
 change wpAny _ _ _ _ _ _ _ (World.drew _)
 refine wpAny_take (i:=0) (v:= .string x) rfl yak yak yak (λ_ _ _ h=>h) (Or.inl ⟨by rfl,λw=>by go_simp⟩) ?_
 refine wpAny_take (i:=1) (v:=ptr bl) rfl yak yak yak (λ_ _ _ h=>h) (Or.inl ⟨by rfl,λw=>by go_simp⟩) ?_
 refine wpAny_ready (rs:=[2,4]) yak yaj ?_
 refine AllReady.cons rfl (λK hK=>?_) ?_
 ·go_simp
  refine KD.out.mono ?_
  intro e w5 h5
  obtain ⟨bf,rfl,h6⟩:=h5.after CB.out
  exact ⟨rfl,bf,rfl,h6⟩
 ·refine AllReady.cons rfl (λK hK=>?_) AllReady.nil
  go_simp
  refine hK _ _ ?_
  clear hK K
  refine wpAny_ready (rs:=[2]) yak yaj ?_
  refine AllReady.cons rfl (λK hK=>?_) AllReady.nil
  go_simp
  refine KD.out.mono ?_
  intro e w5 h5
  obtain ⟨bf,rfl,h6⟩:=h5.after CB.out
  exact ⟨rfl,bf,rfl,h6⟩
theorem z2h(h:LineAt w bl n bw ws)(hE:Hid (Env w))(hbl:10<=bl)(hz:SzOk ws)(hv0:gNm ws=some (x,ws1))(hv1:gPV ws1=some (y,ws2))(hv2:gAt ws2=some (z,ws3)):Cl 57 #[ptr br, .string ⟨#[112,117,116]⟩,ptr bl] w λe w'=>StR bl n bw w (some (St.put x z y,ws3)) e w':=by
 have H0:=hid h
 have C0:=hid (Chg.refl (Jo bl) w)
 clear h
 go_enter Tryz.func57,Tryz.ntmps57
 go_wp2_with fail
 refine (Fa H0.out hz hv0).mono ?_
 rintro e w1 ⟨rfl,h1,c1⟩
 have H1:=hid h1
 have C1:=hid (C0.out.trans c1)
 clear h1 c1 H0 C0
 have hz1:=Ya hv0 hz
 go_wp2_with fail
 refine (zge H1.out (hE.out.line C1.out hbl) hbl hz1 hv1).mono ?_
 rintro e w2 ⟨rfl,h1,c1⟩
 have H2:=hid h1
 have C2:=hid (C1.out.trans c1)
 clear h1 c1 H1 C1
 have hz2:=zcq hv1 hz1
 have bel:Below w2.heap.size w2 (pvB w2 y):=(Below.refl _ w2).alloc (Nat.le_refl _) _
 have d0:(pvB w2 y).cell? ⟨w2.heap.size,0,none⟩=some (.string y.name):=World.cell?_alloc_new _ _ _ 0
 have d1:(pvB w2 y).cell? ⟨w2.heap.size,1,none⟩=some (.int .i64 y.num):=World.cell?_alloc_new _ _ _ 1
 have CB:=hid ((C2.out.alloc (.cells #[.string y.name, .int .i64 y.num] 202)).drew)
 have HB:=hid ((H2.out.below bel).below (w':=(pvB w2 y).drew) (Qi _ _))
 have hlt:=H2.out.lt
 have KD:=hid (z2c HB.out (hE.out.line CB.out hbl) hbl hz2 hv2)
 clear bel H2 C2
 go_wp2_with fail
 go_region_law (go_simp;go_at_call 81;refine KD.out.mono ?_;rintro e w3 ⟨rfl,h1,c1⟩;have g0:=(c1.cell w2.heap.size 0 (blt d0) (λe=>by omega)).trans d0;have g1:=(c1.cell w2.heap.size 1 (blt d0) (λe=>by omega)).trans d1;have H3:=hid h1;have C3:=hid (CB.out.trans c1);clear h1 c1)
 all_goals
  go_wp2
  go_ret
  exact ⟨_,rfl,rfl,H3.out,C3.out⟩
theorem zzv(h:LineAt w bl n bw ws)(hE:Hid (Env w))(hbl:10<=bl)(hz:SzOk ws)(hv0:gPV ws=none):Cl 57 #[ptr br, .string ⟨#[111,117,116]⟩,ptr bl] w λe w'=>Fails 2 n bl w e w':=z8a
theorem z2i(h:LineAt w bl n bw ws)(hE:Hid (Env w))(hbl:10<=bl)(hz:SzOk ws)(hv0:gPV ws=some (y,ws1)):Cl 57 #[ptr br, .string ⟨#[111,117,116]⟩,ptr bl] w λe w'=>StR bl n bw w (some (St.out y,ws1)) e w':=by
 have H0:=hid h
 have C0:=hid (Chg.refl (Jo bl) w)
 clear h
 go_enter Tryz.func57,Tryz.ntmps57
 go_wp2_with fail
 refine (zge H0.out (hE.out.line C0.out hbl) hbl hz hv0).mono ?_
 rintro e w1 ⟨rfl,h1,c1⟩
 have H1:=hid h1
 have C1:=hid (C0.out.trans c1)
 clear h1 c1 H0 C0
 have hz1:=zcq hv0 hz
 go_wp2
 go_ret
 exact ⟨_,rfl,rfl,H1.out,C1.out⟩
theorem zqu(h:LineAt w bl n bw ws)(_hE:Hid (Env w))(_hbl:10<=bl)(_hz:SzOk ws):Cl 57 #[ptr br, .string ⟨#[97,116,111,109,105,99]⟩,ptr bl] w λe w'=>StR bl n bw w (some (St.atomic,ws)) e w':=by
 have H0:=hid h
 have C0:=hid (Chg.refl (Jo bl) w)
 clear h
 go_enter Tryz.func57,Tryz.ntmps57
 go_wp2
 go_ret
 have bel:Below w.heap.size w (w.alloc (.cells #[.slice none 0 0] 174)):=(Below.refl _ w).alloc (Nat.le_refl _) _
 exact ⟨_,rfl,⟨w.heap.size,C0.out.size,rfl,zl2 _ _ _,World.cell?_alloc_new _ _ _ 0,zgf _ _ _⟩,H0.out.below bel,C0.out.alloc _⟩
theorem z2j(h:LineAt w bl n bw ws)(hE:Hid (Env w))(hbl:10<=bl)(hz:SzOk ws)(hv0:gPV ws=none):Cl 57 #[ptr br, .string ⟨#[105,102]⟩,ptr bl] w λe w'=>Fails 2 n bl w e w':=z8a
theorem z41(h:LineAt w bl n bw ws)(hE:Hid (Env w))(hbl:10<=bl)(hz:SzOk ws)(hv0:gPV ws=some (y,ws1)):Cl 57 #[ptr br, .string ⟨#[105,102]⟩,ptr bl] w λe w'=>StR bl n bw w (some (St.iff y,ws1)) e w':=by
 have H0:=hid h
 have C0:=hid (Chg.refl (Jo bl) w)
 clear h
 go_enter Tryz.func57,Tryz.ntmps57
 go_wp2_with fail
 refine (zge H0.out (hE.out.line C0.out hbl) hbl hz hv0).mono ?_
 rintro e w1 ⟨rfl,h1,c1⟩
 have H1:=hid h1
 have C1:=hid (C0.out.trans c1)
 clear h1 c1 H0 C0
 have hz1:=zcq hv0 hz
 go_wp2
 go_ret
 have bel:Below w1.heap.size w1 (w1.alloc (.cells #[.slice none 0 0, .string y.name, .int .i64 y.num] 214)):=(Below.refl _ w1).alloc (Nat.le_refl _) _
 exact ⟨_,rfl,⟨w1.heap.size,C1.out.size,rfl,zl2 _ _ _,World.cell?_alloc_new _ _ _ 0,zgf _ _ _,World.cell?_alloc_new _ _ _ 1,World.cell?_alloc_new _ _ _ 2⟩,H1.out.below bel,C1.out.alloc _⟩
theorem zvc(h:LineAt w bl n bw ws)(hE:Hid (Env w))(hbl:10<=bl)(hz:SzOk ws)(hv0:gIn 1 4 ws=none):Cl 57 #[ptr br, .string ⟨#[108,111,111,112]⟩,ptr bl] w λe w'=>Fails 2 n bl w e w':=by
 have H0:=hid h
 have C0:=hid (Chg.refl (Jo bl) w)
 clear h
 go_enter Tryz.func57,Tryz.ntmps57
 go_wp2_with fail
 refine (z15 H0.out (hE.out.line C0.out hbl) hbl hz hv0).mono ?_
 intro e w9 h9
 obtain ⟨bf,rfl,h8⟩:=Fails.after h9 C0.out
 exact ⟨rfl,bf,rfl,h8⟩
theorem zzw(h:LineAt w bl n bw ws)(hE:Hid (Env w))(hbl:10<=bl)(hz:SzOk ws)(hv0:gIn 1 4 ws=some (v,ws1)):Cl 57 #[ptr br, .string ⟨#[108,111,111,112]⟩,ptr bl] w λe w'=>StR bl n bw w (some (St.loop v,ws1)) e w':=by
 have H0:=hid h
 have C0:=hid (Chg.refl (Jo bl) w)
 clear h
 go_enter Tryz.func57,Tryz.ntmps57
 go_wp2_with fail
 refine (zqf H0.out (hE.out.line C0.out hbl) hbl hz hv0).mono ?_
 rintro e w1 ⟨rfl,h1,c1⟩
 have H1:=hid h1
 have C1:=hid (C0.out.trans c1)
 clear h1 c1 H0 C0
 have hz1:=z13 hv0 hz
 go_wp2
 go_ret
 have bel:Below w1.heap.size w1 (w1.alloc (.cells #[.slice none 0 0, .int .i64 v] 217)):=(Below.refl _ w1).alloc (Nat.le_refl _) _
 exact ⟨_,rfl,⟨w1.heap.size,C1.out.size,rfl,zl2 _ _ _,World.cell?_alloc_new _ _ _ 0,zgf _ _ _,World.cell?_alloc_new _ _ _ 1⟩,H1.out.below bel,C1.out.alloc _⟩
end
def Jz:ByteArray:=⟨#[115,101,116]⟩
def Vd:ByteArray:=⟨#[103,101,116]⟩
def Va:ByteArray:=⟨#[112,117,116]⟩
def Vp:ByteArray:=⟨#[111,117,116]⟩
def Qs:ByteArray:=⟨#[97,116,111,109,105,99]⟩
def Fe:ByteArray:=⟨#[105,102]⟩
def Jh:ByteArray:=⟨#[108,111,111,112]⟩
def zvd(ws:List ByteArray):Option (St×List ByteArray):=(gNm ws).bind λp=>(gNm p.2).bind λq=>(gAt q.2).map λr=>(St.get p.1 q.1 r.1,r.2)
def zve(ws:List ByteArray):Option (St×List ByteArray):=(gNm ws).bind λp=>(gPV p.2).bind λq=>(gAt q.2).map λr=>(St.put p.1 r.1 q.1,r.2)
def Zs(u:ByteArray)(ws:List ByteArray):Option (St×List ByteArray):=
 if u=Jz then zn4 ws else if u=Vd then zvd ws else if u=Va then zve ws else if u=Vp then (gPV ws).map λp=>(St.out p.1,p.2)
 else if u=Qs then some (St.atomic,ws) else if u=Fe then (gPV ws).map λp=>(St.iff p.1,p.2) else if u=Jh then (gIn 1 4 ws).map λp=>(St.loop p.1,p.2) else none
section
variable{w:World}{bl bw br bs:Nat}{n:Int}{ws:List ByteArray}{u:ByteArray}
theorem zjw(h:LineAt w bl n bw ws)(hE:Hid (Env w))(hbl:10<=bl)(hz:SzOk ws)(hS:Hid (SignsAt w br bs bl)):Cl 80 #[ptr br,ptr bl] w λe w'=>StR bl n bw w (zn4 ws) e w':=by
 unfold zn4
 cases h1:gNm ws with
 |none=>exact zn5 h hz h1
 |some p=>
  obtain ⟨x,ws1⟩:=p
  simp only [Option.bind_some]
  cases h2:gPV ws1 with
  |none=>exact zn6 h hE hbl hz h1 h2
  |some q=>
   obtain ⟨y,ws2⟩:=q
   simp only [Option.bind_some]
   cases ws2 with
   |nil=>
    refine (zju h hE hbl hz h1 h2).mono ?_
    rintro e w' ⟨rfl,g1,g2⟩
    exact ⟨_,rfl,rfl,g1,g2⟩
   |cons u us=>
    simp only
    cases h3:gOp (u::us) with
    |none=>exact zhm h hE hbl hz hS h1 h2 h3
    |some o=>
     obtain ⟨k,ws3⟩:=o
     simp only [Option.bind_some]
     cases h4:gPV ws3 with
     |none=>exact zjv h hE hbl hz hS h1 h2 h3 h4
     |some r=>
      obtain ⟨z,ws4⟩:=r
      refine (zn7 h hE hbl hz hS h1 h2 h3 h4).mono ?_
      rintro e w' ⟨rfl,g1,g2⟩
      exact ⟨_,rfl,rfl,g1,g2⟩
theorem z2k(K:Hid (Cl 80 #[ptr br,ptr bl] w λe w'=>StR bl n bw w (zn4 ws) e w')):Cl 57 #[ptr br, .string ⟨#[115,101,116]⟩,ptr bl] w λe w'=>StR bl n bw w (zn4 ws) e w':=by
 cases hg:zn4 ws with
 |none=>
  rw [hg] at K
  go_enter Tryz.func57,Tryz.ntmps57
  go_wp2_with fail
  refine K.out.mono ?_
  rintro e w1 ⟨bf,rfl,h1⟩
  exact ⟨rfl,bf,rfl,h1⟩
 |some p=>
  obtain ⟨s,ws1⟩:=p
  rw [hg] at K
  go_enter Tryz.func57,Tryz.ntmps57
  go_wp2_with fail
  refine K.out.mono ?_
  rintro e w1 ⟨v,rfl,h1⟩
  have H1:=hid h1
  clear h1 K
  go_wp2
  go_ret
  exact ⟨v,rfl,H1.out⟩
theorem zzx(h:LineAt w bl n bw ws)(h0:u≠Jz)(h1:u≠Vd)(h2:u≠Va)(h3:u≠Vp)(h4:u≠Qs)(h5:u≠Fe)(h6:u≠Jh):Cl 57 #[ptr br, .string u,ptr bl] w λe w'=>Fails 2 n bl w e w':=by
 have e0:(u.toList==[115,101,116])=false:=by have:=Oz h0;rwa [show (Jz).toList=[115,101,116] from by rw [ByteArray.toList_eq];rfl] at this
 have e1:(u.toList==[103,101,116])=false:=by have:=Oz h1;rwa [show (Vd).toList=[103,101,116] from by rw [ByteArray.toList_eq];rfl] at this
 have e2:(u.toList==[112,117,116])=false:=by have:=Oz h2;rwa [show (Va).toList=[112,117,116] from by rw [ByteArray.toList_eq];rfl] at this
 have e3:(u.toList==[111,117,116])=false:=by have:=Oz h3;rwa [show (Vp).toList=[111,117,116] from by rw [ByteArray.toList_eq];rfl] at this
 have e4:(u.toList==[97,116,111,109,105,99])=false:=by have:=Oz h4;rwa [show (Qs).toList=[97,116,111,109,105,99] from by rw [ByteArray.toList_eq];rfl] at this
 have e5:(u.toList==[105,102])=false:=by have:=Oz h5;rwa [show (Fe).toList=[105,102] from by rw [ByteArray.toList_eq];rfl] at this
 have e6:(u.toList==[108,111,111,112])=false:=by have:=Oz h6;rwa [show (Jh).toList=[108,111,111,112] from by rw [ByteArray.toList_eq];rfl] at this
 have H:=hid h
 clear h h0 h1 h2 h3 h4 h5 h6
 go_enter Tryz.func57,Tryz.ntmps57
 go_wp2_with fail
 refine (Jv H.out 2).mono ?_
 rintro e w1 ⟨bf,rfl,h1⟩
 exact ⟨rfl,bf,rfl,h1⟩
theorem zhn(h:LineAt w bl n bw ws)(hE:Hid (Env w))(hbl:10<=bl)(hz:SzOk ws)(hS:Hid (SignsAt w br bs bl))(u:ByteArray):Cl 57 #[ptr br, .string u,ptr bl] w λe w'=>StR bl n bw w (Zs u ws) e w':=by
 unfold Zs
 by_cases h0:u=Jz
 ·rw [if_pos h0,h0];exact z2k (zjw h hE hbl hz hS)
 rw [if_neg h0]
 by_cases h1:u=Vd
 ·rw [if_pos h1,h1]
  unfold zvd
  cases g1:gNm ws with
  |none=>exact zzp h hE hbl hz g1
  |some p=>
   obtain ⟨x,ws1⟩:=p
   simp only [Option.bind_some]
   cases g2:gNm ws1 with
   |none=>exact zzq h hE hbl hz g1 g2
   |some q=>
    obtain ⟨y,ws2⟩:=q
    simp only [Option.bind_some]
    cases g3:gAt ws2 with
    |none=>exact zzr h hE hbl hz g1 g2 g3
    |some r=>exact z2g h hE hbl hz g1 g2 g3
 rw [if_neg h1]
 by_cases h2:u=Va
 ·rw [if_pos h2,h2]
  unfold zve
  cases g1:gNm ws with
  |none=>exact zzs h hE hbl hz g1
  |some p=>
   obtain ⟨x,ws1⟩:=p
   simp only [Option.bind_some]
   cases g2:gPV ws1 with
   |none=>exact zzt h hE hbl hz g1 g2
   |some q=>
    obtain ⟨y,ws2⟩:=q
    simp only [Option.bind_some]
    cases g3:gAt ws2 with
    |none=>exact zzu h hE hbl hz g1 g2 g3
    |some r=>exact z2h h hE hbl hz g1 g2 g3
 rw [if_neg h2]
 by_cases h3:u=Vp
 ·rw [if_pos h3,h3]
  cases g1:gPV ws with
  |none=>exact zzv h hE hbl hz g1
  |some p=>exact z2i h hE hbl hz g1
 rw [if_neg h3]
 by_cases h4:u=Qs
 ·rw [if_pos h4,h4]
  exact zqu h hE hbl hz
 rw [if_neg h4]
 by_cases h5:u=Fe
 ·rw [if_pos h5,h5]
  cases g1:gPV ws with
  |none=>exact z2j h hE hbl hz g1
  |some p=>exact z41 h hE hbl hz g1
 rw [if_neg h5]
 by_cases h6:u=Jh
 ·rw [if_pos h6,h6]
  cases g1:gIn 1 4 ws with
  |none=>exact zvc h hE hbl hz g1
  |some p=>exact zzw h hE hbl hz g1
 rw [if_neg h6]
 exact zzx h h0 h1 h2 h3 h4 h5 h6
end
abbrev En:=St⊕Nat
abbrev En.leaf(s:St):En:= .inl s
abbrev En.sub(j:Nat):En:= .inr j
abbrev HK:=(List ByteArray×Nat)⊕St
abbrev HK.thr(l:List ByteArray)(c:Nat):HK:= .inl (l,c)
abbrev HK.st(s:St):HK:= .inr s
structure Hd where
 k:HK
 ents:List En
structure RS where
 shared:List (ByteArray×Int×Int)
 cells:Int
 hs:List Hd
 threads:List Nat
 opn:List Nat
def stV:St->Value
 | .inl (to,a)=> .iface 228 (.agg #[.string to, .string a.name, .int .i64 a.num])
 | .inr (.inl (to,o,a,b))=> .iface 231 (.agg #[.string to, .int .i64 o, .string a.name, .int .i64 a.num, .string b.name, .int .i64 b.num])
 | .inr (.inr (.inl (to,of,a)))=> .iface 207 (.agg #[.string to, .string of, .string a.name, .int .i64 a.num])
 | .inr (.inr (.inr (.inl (of,a,b))))=> .iface 209 (.agg #[.string of, .string a.name, .int .i64 a.num, .string b.name, .int .i64 b.num])
 | .inr (.inr (.inr (.inr (.inl a))))=> .iface 211 (.agg #[.string a.name, .int .i64 a.num])
 |_=> .nilIface
def hkT:HK->TypeId
 | .inl (_,_)=>109
 | .inr (.inr (.inr (.inr (.inr (.inr (.inl ()))))))=>171
 | .inr (.inr (.inr (.inr (.inr (.inr (.inr (.inl _)))))))=>212
 | .inr (.inr (.inr (.inr (.inr (.inr (.inr (.inr _)))))))=>215
 | .inr _=>0
def z53:HK->TypeId×Nat
 | .inl (_,_)=>(116,3)
 | .inr (.inr (.inr (.inr (.inr (.inr (.inl ()))))))=>(174,1)
 | .inr (.inr (.inr (.inr (.inr (.inr (.inr (.inl _)))))))=>(214,3)
 | .inr (.inr (.inr (.inr (.inr (.inr (.inr (.inr _)))))))=>(217,2)
 | .inr _=>(0,0)
def zjx(l:List ByteArray)(u:ByteArray):Option Value:=(l.findIdx? λx=>decide (x=u)).map λ(k:Nat)=>Value.int .i64 (k:Int)
def shF(l:List (ByteArray×Int×Int))(u:ByteArray):Option Value:=(l.find? λp=>decide (p.1=u)).map λp=> .agg #[.int .i64 p.2.1, .int .i64 p.2.2]
structure HM where
 b:Nat
 rv:Value
 mb:Nat
 h:Hd
abbrev Ids:=List (TypeId×Nat)
def Qu(ms:List HM):Ids:=ms.map λm=>(hkT m.h.k,m.b)
def idV(ids:Ids)(j:Nat):Value:=match ids[j]? with|some p=> .iface p.1 (ptr p.2)|none=> .nilIface
def idP(ids:Ids)(j:Nat):Value:=match ids[j]? with|some p=>ptr p.2|none=> .pointer none
def enV(ids:Ids):En->Value
 | .inl s=>stV s
 | .inr j=>idV ids j
def HkAt(w:World)(b mb:Nat):HK->Prop
 | .inl (l,c)=>w.cell? ⟨b,1,none⟩=some (.map (some mb))/\w.cell? ⟨b,2,none⟩=some (.int .i64 c)/\MapIs w mb (zjx l) l.length
 | .inr (.inr (.inr (.inr (.inr (.inr (.inr (.inl a)))))))=>w.cell? ⟨b,1,none⟩=some (.string a.name)/\w.cell? ⟨b,2,none⟩=some (.int .i64 a.num)
 | .inr (.inr (.inr (.inr (.inr (.inr (.inr (.inr n)))))))=>w.cell? ⟨b,1,none⟩=some (.int .i64 n)
 | .inr _=>True
structure HdAt(w:World)(ids:Ids)(m:HM):Prop where
 sh:w.shape? m.b=some (z53 m.h.k)
 rc:w.cell? ⟨m.b,0,none⟩=some m.rv
 row:w.ownsRow 0 162 1 m.rv m.h.ents.length (m.h.ents.map (enV ids))
 kind:HkAt w m.b m.mb m.h.k
 free: ∀j,w.frozen? ⟨m.b,j,none⟩=false
def HK.isThr:HK->Prop
 | .inl (_,_)=>True
 | .inr _=>False
structure LabH(D:Nat->Prop)(lab:Nat->Nat×Nat)(i:Nat)(m:HM):Prop where
 b:lab m.b=(i+1,0)/\D m.b
 rv: ∀g,m.rv.ownBlock=some g->lab g=(i+1,1)/\D g
 mb:m.h.k.isThr->lab m.mb=(i+1,2)/\D m.mb
section
variable{M:Nat->Nat->Prop}{D D':Nat->Prop}{lab:Nat->Nat×Nat}{w w':World}{ids:Ids}{m:HM}{b mb:Nat}{k:HK}
theorem HkAt.keep(h:HkAt w b mb k)(hb:b<w.heap.size)(hc:Chg M w w')(h1: ∀i,i=1\/i=2->¬M b i)(h2:k.isThr->∀i,¬M mb i):HkAt w' b mb k:=by
 have c1:=hc.cell b 1 hb (h1 1 (.inl rfl))
 have c2:=hc.cell b 2 hb (h1 2 (.inr rfl))
 rcases k with ⟨l,c⟩|⟨to,a⟩|⟨to,k,a,c⟩|⟨to,f,a⟩|⟨f,a,c⟩|a|⟨⟩|a|n
 ·exact ⟨c1.trans h.1,c2.trans h.2.1,h.2.2.keep hc (h2 trivial)⟩
 ·trivial
 ·trivial
 ·trivial
 ·trivial
 ·trivial
 ·trivial
 ·exact ⟨c1.trans h.1,c2.trans h.2⟩
 ·exact c1.trans h
theorem HdAt.keep(h:HdAt w ids m)(hc:Chg M w w')(h1: ∀i,¬M m.b i)(h2: ∀g,m.rv.ownBlock=some g->∀i,¬M g i)(h3:m.h.k.isThr->∀i,¬M m.mb i):HdAt w' ids m:=by
 have hb:=Qd h.sh
 exact ⟨(hc.shape _ hb).trans h.sh,(hc.cell _ _ hb (h1 _)).trans h.rc,Qc h.row hc h2,h.kind.keep hb hc (λi _=>h1 i) h3,λj=>(hc.frozen _ _ hb).trans (h.free j)⟩
theorem HdAt.mblt(h:HdAt w ids m)(ht:m.h.k.isThr):m.mb<w.heap.size:=by
 have:=h.kind
 cases hk:m.h.k with
 |inl x=>rw [hk] at this;exact this.2.2.lt
 |inr s=>rw [hk] at ht;exact ht.elim
theorem LabH.newD{i:Nat}(l:LabH D lab i m)(h:HdAt w ids m)(hD: ∀k,D k->k<w.heap.size->D' k):LabH D' lab i m:=
 ⟨⟨l.b.1,hD _ l.b.2 (Qd h.sh)⟩,λg hg=>⟨(l.rv g hg).1,hD _ (l.rv g hg).2 (h.row.lt g hg).2⟩,λht=>⟨(l.mb ht).1,hD _ (l.mb ht).2 (h.mblt ht)⟩⟩
theorem zjy(ids x:Ids)(j:Nat)(hj:j<ids.length):idV (ids++x) j=idV ids j:=by unfold idV;rw [List.getElem?_append_left hj]
theorem zqv(ids x:Ids)(j:Nat)(hj:j<ids.length):idP (ids++x) j=idP ids j:=by unfold idP;rw [List.getElem?_append_left hj]
end
structure RMach(D:Nat->Prop)(lab:Nat->Nat×Nat)(w:World)(br sb bs:Nat)(tv ov:Value)(st:RS)(ms:List HM):Prop where
 sh:w.shape? br=some (100,5)
 c0:w.cell? ⟨br,0,none⟩=some (.map (some sb))
 c1:w.cell? ⟨br,1,none⟩=some tv
 c2:w.cell? ⟨br,2,none⟩=some (.int .i64 st.cells)
 c3:w.cell? ⟨br,3,none⟩=some ov
 c4:w.cell? ⟨br,4,none⟩=some (.map (some bs))
 free: ∀j,w.frozen? ⟨br,j,none⟩=false
 mS:MapIs w sb (shF st.shared) st.shared.length
 mG:MapIs w bs Sa 12
 trow:w.ownsRow 0 109 1 tv st.threads.length (st.threads.map (idP (Qu ms)))
 orow:w.ownsRow 0 222 1 ov st.opn.length (st.opn.map (idV (Qu ms)))
 hd: ∀i (h:i<ms.length),HdAt w (Qu ms) ms[i]
 hs:ms.map (·.h)=st.hs
 lbr:lab br=(0,0)/\D br
 lsb:lab sb=(0,1)/\D sb
 ltv: ∀g,tv.ownBlock=some g->lab g=(0,2)/\D g
 lov: ∀g,ov.ownBlock=some g->lab g=(0,3)/\D g
 lbs:lab bs=(0,4)/\D bs
 lhd: ∀i (h:i<ms.length),LabH D lab i ms[i]
section
variable{M:Nat->Nat->Prop}{D D':Nat->Prop}{lab:Nat->Nat×Nat}{w w':World}{br sb bs:Nat}{tv ov:Value}{st:RS}{ms:List HM}
theorem RMach.keep(h:RMach D lab w br sb bs tv ov st ms)(hc:Chg M w w')(hM: ∀k i,D k->¬M k i):RMach D lab w' br sb bs tv ov st ms:=by
 have hb:=Qd h.sh
 have kb: ∀i,¬M br i:=λi=>hM br i h.lbr.2
 exact {
  sh:=(hc.shape _ hb).trans h.sh,c0:=(hc.cell _ _ hb (kb _)).trans h.c0,c1:=(hc.cell _ _ hb (kb _)).trans h.c1,c2:=(hc.cell _ _ hb (kb _)).trans h.c2,c3:=(hc.cell _ _ hb (kb _)).trans h.c3,c4:=(hc.cell _ _ hb (kb _)).trans h.c4
  free:=λj=>(hc.frozen _ _ hb).trans (h.free j)
  mS:=h.mS.keep hc (λi=>hM _ i h.lsb.2)
  mG:=h.mG.keep hc (λi=>hM _ i h.lbs.2)
  trow:=Qc h.trow hc (λg hg i=>hM g i (h.ltv g hg).2)
  orow:=Qc h.orow hc (λg hg i=>hM g i (h.lov g hg).2)
  hd:=λi hi=>(h.hd i hi).keep hc (λj=>hM _ j (h.lhd i hi).b.2) (λg hg j=>hM g j ((h.lhd i hi).rv g hg).2) (λht j=>hM _ j ((h.lhd i hi).mb ht).2)
  hs:=h.hs,lbr:=h.lbr,lsb:=h.lsb,ltv:=h.ltv,lov:=h.lov,lbs:=h.lbs,lhd:=h.lhd}
theorem RMach.below(h:RMach D lab w br sb bs tv ov st ms)(hb:Below w.heap.size w w'):RMach D lab w' br sb bs tv ov st ms:=h.keep (M:=λ_ _=>False) (Chg.of_below hb) (λ_ _ _ e=>e)
theorem RMach.newD(h:RMach D lab w br sb bs tv ov st ms)(hD: ∀k,D k->k<w.heap.size->D' k):RMach D' lab w br sb bs tv ov st ms:={
 sh:=h.sh,c0:=h.c0,c1:=h.c1,c2:=h.c2,c3:=h.c3,c4:=h.c4,free:=h.free,mS:=h.mS,mG:=h.mG,trow:=h.trow,orow:=h.orow,hd:=h.hd,hs:=h.hs
 lbr:=⟨h.lbr.1,hD _ h.lbr.2 (Qd h.sh)⟩
 lsb:=⟨h.lsb.1,hD _ h.lsb.2 h.mS.lt⟩
 ltv:=λg hg=>⟨(h.ltv g hg).1,hD _ (h.ltv g hg).2 (h.trow.lt g hg).2⟩
 lov:=λg hg=>⟨(h.lov g hg).1,hD _ (h.lov g hg).2 (h.orow.lt g hg).2⟩
 lbs:=⟨h.lbs.1,hD _ h.lbs.2 h.mG.lt⟩
 lhd:=λi hi=>(h.lhd i hi).newD (h.hd i hi) hD}
theorem RMach.len(h:RMach D lab w br sb bs tv ov st ms):ms.length=st.hs.length:=by rw [<-h.hs];simp
theorem RMach.idl(h:RMach D lab w br sb bs tv ov st ms):(Qu ms).length=st.hs.length:=by rw [<-h.len];simp [Qu]
end
def Vk(s:St)(b:Nat):Value:=match s with
 | .inr (.inr (.inr (.inr (.inr (.inl ())))))=> .iface 171 (ptr b)
 | .inr (.inr (.inr (.inr (.inr (.inr (.inl _))))))=> .iface 212 (ptr b)
 | .inr (.inr (.inr (.inr (.inr (.inr (.inr _))))))=> .iface 215 (ptr b)
 |s=>stV s
def Vg:St->ByteArray
 | .inl (to,_)=>to
 | .inr (.inl (to,_,_,_))=>to
 | .inr (.inr (.inl (to,_,_)))=>to
 |_=>ByteArray.empty
def HK.isAtomic:HK->Bool
 | .inr (.inr (.inr (.inr (.inr (.inr (.inl ()))))))=>true
 |_=>false
def RS.hk(st:RS)(j:Nat):Option HK:=(st.hs[j]?).map (·.k)
def RS.inB(st:RS):Bool:=st.opn.any λj=>((st.hk j).map HK.isAtomic).getD false
def RS.isSh(st:RS)(u:ByteArray):Bool:=st.shared.any λp=>decide (p.1=u)
def Uh(l:List ByteArray)(u:ByteArray):Bool:=l.any λx=>decide (x=u)
theorem zqx(w:World):(zeroValue 199).run Tryz.prog w= .ok (.agg #[.int .i64 0, .int .i64 0]) w:=yak
theorem zqy(w:World):(zeroValue 3).run Tryz.prog w= .ok (.int .i64 0) w:=yak
section
variable{D:Nat->Prop}{lab:Nat->Nat×Nat}{w:World}{br sb bs:Nat}{tv ov:Value}{st:RS}{ms:List HM}
theorem zl5(l:List (ByteArray×Int×Int))(u:ByteArray):(shF l u).isSome=l.any λp=>decide (p.1=u):=by
 unfold shF
 rw [Option.isSome_map]
 induction l with
 |nil=>rfl
 |cons p l ih=>
  simp only [List.find?_cons,List.any_cons]
  cases h:decide (p.1=u) with
  |true=>simp
  |false=>simp [ih]
theorem zzy(l:List (ByteArray×Int×Int))(u:ByteArray): ∃a b,(shF l u).getD (.agg #[.int .i64 0, .int .i64 0])= .agg #[.int .i64 a, .int .i64 b]:=by
 unfold shF
 cases (l.find? λp=>decide (p.1=u)) with
 |none=>exact ⟨0,0,rfl⟩
 |some p=>exact ⟨_,_,rfl⟩
theorem Uu(h:RMach D lab w br sb bs tv ov st ms)(u:ByteArray)(hu:u.size<=maxLen):
  Cl 79 #[ptr br, .string u] w λe w'=>e= .returned (.bool (st.isSh u))/\Below w.heap.size w w':=by
 have c0:=h.c0
 have hl:=h.mS.look Tryz.underlying92 (zqx w) hu
 rw [zl5] at hl
 obtain ⟨a,b,e⟩:=zzy st.shared u
 rw [e] at hl
 unfold RS.isSh
 generalize (st.shared.any λp=>decide (p.1=u))=r at*
 clear h e
 go_enter Tryz.func79,Tryz.ntmps79
 go_wp2
 go_ret
 exact ⟨rfl,(Below.refl _ w).alloc (Nat.le_refl _) _⟩
theorem zho(l:List ByteArray)(u:ByteArray):(zjx l u).isSome=Uh l u:=by
 unfold zjx Uh
 rw [Option.isSome_map]
 induction l with
 |nil=>rfl
 |cons p l ih=>
  rw [List.findIdx?_cons,List.any_cons,<-ih]
  cases h:decide (p=u) with
  |true=>simp
  |false=>simp
theorem zvi(l:List ByteArray)(u:ByteArray): ∃a,(zjx l u).getD (.int .i64 0)= .int .i64 a:=by
 unfold zjx
 cases (l.findIdx? λx=>decide (x=u)) with
 |none=>exact ⟨0,rfl⟩
 |some k=>exact ⟨_,rfl⟩
theorem zhp{b:Nat}{l:List ByteArray}(c1:w.cell? ⟨b,1,none⟩=some (.map (some mb)))(hm:MapIs w mb (zjx l) l.length)(u:ByteArray)(hu:u.size<=maxLen):
  Cl 88 #[ptr b, .string u] w λe w'=>e= .returned (.bool (Uh l u))/\w'=w:=by
 have hl:=hm.look Tryz.underlying114 (zqy w) hu
 rw [zho] at hl
 obtain ⟨a,e⟩:=zvi l u
 rw [e] at hl
 generalize Uh l u=r at*
 clear hm e
 go_enter Tryz.func88,Tryz.ntmps88
 go_wp2
 go_ret
 exact ⟨rfl,rfl⟩
theorem zdq(h:RMach D lab w br sb bs tv ov st ms)(tl:List Nat)(t:Nat)(ht:st.threads=tl++[t])(htl:t<ms.length)(hn:tl.length<1000000):
  Cl 86 #[ptr br] w λe w'=>e= .returned (ptr ms[t].b)/\w'=w.drew:=by
 have c1:=h.c1
 have hr:=h.trow
 rw [ht] at hr
 simp only [List.length_append,List.length_cons,List.length_nil] at hr
 obtain ⟨g,cp,rfl⟩: ∃g cp,tv= .slice (some ⟨g,0,none⟩) (tl.length+1) cp:=z9b
 obtain ⟨q1,_,_⟩:=Qm hr tl.length yai
 have q2:w.cell? ⟨g,tl.length,none⟩=some (ptr ms[t].b):=by
  rw [q1]
  simp [idP,Qu,List.getElem?_eq_getElem htl]
 generalize ms[t].b=tb at*
 have hw:wrap64 ((tl.length:Int)+1- 1)=(tl.length:Int):=yao
 have hw2:(tl.length:Int)<(tl.length:Int)+1:=yai
 clear h hr q1
 go_enter Tryz.func86,Tryz.ntmps86
 go_wp2_with fail
 go_region
 all_goals
  go_wp2
  go_ret
  exact ⟨rfl,rfl⟩
end
theorem Ih(x:Value)(w:World):(Instr.typeAssert (.iface 228 x) 162 228 true).run Tryz.prog w= .ok (.tuple #[x, .bool true]) w:=yak
theorem Ep(x:Value)(w:World):(Instr.typeAssert (.iface 228 x) 162 231 true).run Tryz.prog w= .ok (.tuple #[.agg #[.string ⟨#[]⟩, .int .i64 0, .string ⟨#[]⟩, .int .i64 0, .string ⟨#[]⟩, .int .i64 0], .bool false]) w:=yak
theorem Ii(x:Value)(w:World):(Instr.typeAssert (.iface 228 x) 162 207 true).run Tryz.prog w= .ok (.tuple #[.agg #[.string ⟨#[]⟩, .string ⟨#[]⟩, .string ⟨#[]⟩, .int .i64 0], .bool false]) w:=yak
theorem Ij(x:Value)(w:World):(Instr.typeAssert (.iface 228 x) 162 209 true).run Tryz.prog w= .ok (.tuple #[.agg #[.string ⟨#[]⟩, .string ⟨#[]⟩, .int .i64 0, .string ⟨#[]⟩, .int .i64 0], .bool false]) w:=yak
theorem Gk(x:Value)(w:World):(Instr.typeAssert (.iface 228 x) 162 211 true).run Tryz.prog w= .ok (.tuple #[.agg #[.string ⟨#[]⟩, .int .i64 0], .bool false]) w:=yak
theorem Yr(x:Value)(w:World):(Instr.typeAssert (.iface 228 x) 162 171 true).run Tryz.prog w= .ok (.tuple #[.pointer none, .bool false]) w:=yak
theorem zdx(x:Value)(w:World):(Instr.typeAssert (.iface 228 x) 162 212 true).run Tryz.prog w= .ok (.tuple #[.pointer none, .bool false]) w:=yak
theorem zal(x:Value)(w:World):(Instr.typeAssert (.iface 228 x) 162 215 true).run Tryz.prog w= .ok (.tuple #[.pointer none, .bool false]) w:=yak
theorem Sf(x:Value)(w:World):(Instr.typeAssert (.iface 228 x) 162 222 true).run Tryz.prog w= .ok (.tuple #[.nilIface, .bool false]) w:=run_typeAssert_lacksB Tryz.underlying222 yak yak x _ w
theorem Ua(x:Value)(w:World):(Instr.typeAssert (.iface 231 x) 162 228 true).run Tryz.prog w= .ok (.tuple #[.agg #[.string ⟨#[]⟩, .string ⟨#[]⟩, .int .i64 0], .bool false]) w:=yak
theorem Zz(x:Value)(w:World):(Instr.typeAssert (.iface 231 x) 162 231 true).run Tryz.prog w= .ok (.tuple #[x, .bool true]) w:=yak
theorem Ub(x:Value)(w:World):(Instr.typeAssert (.iface 231 x) 162 207 true).run Tryz.prog w= .ok (.tuple #[.agg #[.string ⟨#[]⟩, .string ⟨#[]⟩, .string ⟨#[]⟩, .int .i64 0], .bool false]) w:=yak
theorem Uc(x:Value)(w:World):(Instr.typeAssert (.iface 231 x) 162 209 true).run Tryz.prog w= .ok (.tuple #[.agg #[.string ⟨#[]⟩, .string ⟨#[]⟩, .int .i64 0, .string ⟨#[]⟩, .int .i64 0], .bool false]) w:=yak
theorem Yf(x:Value)(w:World):(Instr.typeAssert (.iface 231 x) 162 211 true).run Tryz.prog w= .ok (.tuple #[.agg #[.string ⟨#[]⟩, .int .i64 0], .bool false]) w:=yak
theorem Vw(x:Value)(w:World):(Instr.typeAssert (.iface 231 x) 162 171 true).run Tryz.prog w= .ok (.tuple #[.pointer none, .bool false]) w:=yak
theorem Ik(x:Value)(w:World):(Instr.typeAssert (.iface 231 x) 162 212 true).run Tryz.prog w= .ok (.tuple #[.pointer none, .bool false]) w:=yak
theorem Fo(x:Value)(w:World):(Instr.typeAssert (.iface 231 x) 162 215 true).run Tryz.prog w= .ok (.tuple #[.pointer none, .bool false]) w:=yak
theorem Gl(x:Value)(w:World):(Instr.typeAssert (.iface 231 x) 162 222 true).run Tryz.prog w= .ok (.tuple #[.nilIface, .bool false]) w:=run_typeAssert_lacksB Tryz.underlying222 yak yak x _ w
theorem Gm(x:Value)(w:World):(Instr.typeAssert (.iface 207 x) 162 228 true).run Tryz.prog w= .ok (.tuple #[.agg #[.string ⟨#[]⟩, .string ⟨#[]⟩, .int .i64 0], .bool false]) w:=yak
theorem Yg(x:Value)(w:World):(Instr.typeAssert (.iface 207 x) 162 231 true).run Tryz.prog w= .ok (.tuple #[.agg #[.string ⟨#[]⟩, .int .i64 0, .string ⟨#[]⟩, .int .i64 0, .string ⟨#[]⟩, .int .i64 0], .bool false]) w:=yak
theorem Xr(x:Value)(w:World):(Instr.typeAssert (.iface 207 x) 162 207 true).run Tryz.prog w= .ok (.tuple #[x, .bool true]) w:=yak
theorem Il(x:Value)(w:World):(Instr.typeAssert (.iface 207 x) 162 209 true).run Tryz.prog w= .ok (.tuple #[.agg #[.string ⟨#[]⟩, .string ⟨#[]⟩, .int .i64 0, .string ⟨#[]⟩, .int .i64 0], .bool false]) w:=yak
theorem Gn(x:Value)(w:World):(Instr.typeAssert (.iface 207 x) 162 211 true).run Tryz.prog w= .ok (.tuple #[.agg #[.string ⟨#[]⟩, .int .i64 0], .bool false]) w:=yak
theorem Ys(x:Value)(w:World):(Instr.typeAssert (.iface 207 x) 162 171 true).run Tryz.prog w= .ok (.tuple #[.pointer none, .bool false]) w:=yak
theorem zdy(x:Value)(w:World):(Instr.typeAssert (.iface 207 x) 162 212 true).run Tryz.prog w= .ok (.tuple #[.pointer none, .bool false]) w:=yak
theorem zam(x:Value)(w:World):(Instr.typeAssert (.iface 207 x) 162 215 true).run Tryz.prog w= .ok (.tuple #[.pointer none, .bool false]) w:=yak
theorem Sg(x:Value)(w:World):(Instr.typeAssert (.iface 207 x) 162 222 true).run Tryz.prog w= .ok (.tuple #[.nilIface, .bool false]) w:=run_typeAssert_lacksB Tryz.underlying222 yak yak x _ w
theorem Im(x:Value)(w:World):(Instr.typeAssert (.iface 209 x) 162 228 true).run Tryz.prog w= .ok (.tuple #[.agg #[.string ⟨#[]⟩, .string ⟨#[]⟩, .int .i64 0], .bool false]) w:=yak
theorem Ud(x:Value)(w:World):(Instr.typeAssert (.iface 209 x) 162 231 true).run Tryz.prog w= .ok (.tuple #[.agg #[.string ⟨#[]⟩, .int .i64 0, .string ⟨#[]⟩, .int .i64 0, .string ⟨#[]⟩, .int .i64 0], .bool false]) w:=yak
theorem Gp(x:Value)(w:World):(Instr.typeAssert (.iface 209 x) 162 207 true).run Tryz.prog w= .ok (.tuple #[.agg #[.string ⟨#[]⟩, .string ⟨#[]⟩, .string ⟨#[]⟩, .int .i64 0], .bool false]) w:=yak
theorem Gq(x:Value)(w:World):(Instr.typeAssert (.iface 209 x) 162 209 true).run Tryz.prog w= .ok (.tuple #[x, .bool true]) w:=yak
theorem Gr(x:Value)(w:World):(Instr.typeAssert (.iface 209 x) 162 211 true).run Tryz.prog w= .ok (.tuple #[.agg #[.string ⟨#[]⟩, .int .i64 0], .bool false]) w:=yak
theorem Yt(x:Value)(w:World):(Instr.typeAssert (.iface 209 x) 162 171 true).run Tryz.prog w= .ok (.tuple #[.pointer none, .bool false]) w:=yak
theorem zdz(x:Value)(w:World):(Instr.typeAssert (.iface 209 x) 162 212 true).run Tryz.prog w= .ok (.tuple #[.pointer none, .bool false]) w:=yak
theorem zan(x:Value)(w:World):(Instr.typeAssert (.iface 209 x) 162 215 true).run Tryz.prog w= .ok (.tuple #[.pointer none, .bool false]) w:=yak
theorem Sh(x:Value)(w:World):(Instr.typeAssert (.iface 209 x) 162 222 true).run Tryz.prog w= .ok (.tuple #[.nilIface, .bool false]) w:=run_typeAssert_lacksB Tryz.underlying222 yak yak x _ w
theorem Gs(x:Value)(w:World):(Instr.typeAssert (.iface 211 x) 162 228 true).run Tryz.prog w= .ok (.tuple #[.agg #[.string ⟨#[]⟩, .string ⟨#[]⟩, .int .i64 0], .bool false]) w:=yak
theorem Yh(x:Value)(w:World):(Instr.typeAssert (.iface 211 x) 162 231 true).run Tryz.prog w= .ok (.tuple #[.agg #[.string ⟨#[]⟩, .int .i64 0, .string ⟨#[]⟩, .int .i64 0, .string ⟨#[]⟩, .int .i64 0], .bool false]) w:=yak
theorem Xs(x:Value)(w:World):(Instr.typeAssert (.iface 211 x) 162 207 true).run Tryz.prog w= .ok (.tuple #[.agg #[.string ⟨#[]⟩, .string ⟨#[]⟩, .string ⟨#[]⟩, .int .i64 0], .bool false]) w:=yak
theorem Xt(x:Value)(w:World):(Instr.typeAssert (.iface 211 x) 162 209 true).run Tryz.prog w= .ok (.tuple #[.agg #[.string ⟨#[]⟩, .string ⟨#[]⟩, .int .i64 0, .string ⟨#[]⟩, .int .i64 0], .bool false]) w:=yak
theorem Yo(x:Value)(w:World):(Instr.typeAssert (.iface 211 x) 162 211 true).run Tryz.prog w= .ok (.tuple #[x, .bool true]) w:=yak
theorem Yu(x:Value)(w:World):(Instr.typeAssert (.iface 211 x) 162 171 true).run Tryz.prog w= .ok (.tuple #[.pointer none, .bool false]) w:=yak
theorem zd0(x:Value)(w:World):(Instr.typeAssert (.iface 211 x) 162 212 true).run Tryz.prog w= .ok (.tuple #[.pointer none, .bool false]) w:=yak
theorem zao(x:Value)(w:World):(Instr.typeAssert (.iface 211 x) 162 215 true).run Tryz.prog w= .ok (.tuple #[.pointer none, .bool false]) w:=yak
theorem Si(x:Value)(w:World):(Instr.typeAssert (.iface 211 x) 162 222 true).run Tryz.prog w= .ok (.tuple #[.nilIface, .bool false]) w:=run_typeAssert_lacksB Tryz.underlying222 yak yak x _ w
theorem Uv(x:Value)(w:World):(Instr.typeAssert (.iface 171 x) 162 228 true).run Tryz.prog w= .ok (.tuple #[.agg #[.string ⟨#[]⟩, .string ⟨#[]⟩, .int .i64 0], .bool false]) w:=yak
theorem Yl(x:Value)(w:World):(Instr.typeAssert (.iface 171 x) 162 231 true).run Tryz.prog w= .ok (.tuple #[.agg #[.string ⟨#[]⟩, .int .i64 0, .string ⟨#[]⟩, .int .i64 0, .string ⟨#[]⟩, .int .i64 0], .bool false]) w:=yak
theorem Yv(x:Value)(w:World):(Instr.typeAssert (.iface 171 x) 162 207 true).run Tryz.prog w= .ok (.tuple #[.agg #[.string ⟨#[]⟩, .string ⟨#[]⟩, .string ⟨#[]⟩, .int .i64 0], .bool false]) w:=yak
theorem Yw(x:Value)(w:World):(Instr.typeAssert (.iface 171 x) 162 209 true).run Tryz.prog w= .ok (.tuple #[.agg #[.string ⟨#[]⟩, .string ⟨#[]⟩, .int .i64 0, .string ⟨#[]⟩, .int .i64 0], .bool false]) w:=yak
theorem Zm(x:Value)(w:World):(Instr.typeAssert (.iface 171 x) 162 211 true).run Tryz.prog w= .ok (.tuple #[.agg #[.string ⟨#[]⟩, .int .i64 0], .bool false]) w:=yak
theorem Vh(x:Value)(w:World):(Instr.typeAssert (.iface 171 x) 162 171 true).run Tryz.prog w= .ok (.tuple #[x, .bool true]) w:=yak
theorem Sj(x:Value)(w:World):(Instr.typeAssert (.iface 171 x) 162 212 true).run Tryz.prog w= .ok (.tuple #[.pointer none, .bool false]) w:=yak
theorem Er(x:Value)(w:World):(Instr.typeAssert (.iface 171 x) 162 215 true).run Tryz.prog w= .ok (.tuple #[.pointer none, .bool false]) w:=yak
theorem Xk(x:Value)(w:World):(Instr.typeAssert (.iface 171 x) 162 222 true).run Tryz.prog w= .ok (.tuple #[.iface 171 x, .bool true]) w:=yak
theorem Ss(x:Value)(w:World):(Instr.typeAssert (.iface 212 x) 162 228 true).run Tryz.prog w= .ok (.tuple #[.agg #[.string ⟨#[]⟩, .string ⟨#[]⟩, .int .i64 0], .bool false]) w:=yak
theorem Uw(x:Value)(w:World):(Instr.typeAssert (.iface 212 x) 162 231 true).run Tryz.prog w= .ok (.tuple #[.agg #[.string ⟨#[]⟩, .int .i64 0, .string ⟨#[]⟩, .int .i64 0, .string ⟨#[]⟩, .int .i64 0], .bool false]) w:=yak
theorem Eb(x:Value)(w:World):(Instr.typeAssert (.iface 212 x) 162 207 true).run Tryz.prog w= .ok (.tuple #[.agg #[.string ⟨#[]⟩, .string ⟨#[]⟩, .string ⟨#[]⟩, .int .i64 0], .bool false]) w:=yak
theorem Ec(x:Value)(w:World):(Instr.typeAssert (.iface 212 x) 162 209 true).run Tryz.prog w= .ok (.tuple #[.agg #[.string ⟨#[]⟩, .string ⟨#[]⟩, .int .i64 0, .string ⟨#[]⟩, .int .i64 0], .bool false]) w:=yak
theorem Ux(x:Value)(w:World):(Instr.typeAssert (.iface 212 x) 162 211 true).run Tryz.prog w= .ok (.tuple #[.agg #[.string ⟨#[]⟩, .int .i64 0], .bool false]) w:=yak
theorem Yb(x:Value)(w:World):(Instr.typeAssert (.iface 212 x) 162 171 true).run Tryz.prog w= .ok (.tuple #[.pointer none, .bool false]) w:=yak
theorem zbv(x:Value)(w:World):(Instr.typeAssert (.iface 212 x) 162 212 true).run Tryz.prog w= .ok (.tuple #[x, .bool true]) w:=yak
theorem zcr(x:Value)(w:World):(Instr.typeAssert (.iface 212 x) 162 215 true).run Tryz.prog w= .ok (.tuple #[.pointer none, .bool false]) w:=yak
theorem Ed(x:Value)(w:World):(Instr.typeAssert (.iface 212 x) 162 222 true).run Tryz.prog w= .ok (.tuple #[.iface 212 x, .bool true]) w:=yak
theorem Ee(x:Value)(w:World):(Instr.typeAssert (.iface 215 x) 162 228 true).run Tryz.prog w= .ok (.tuple #[.agg #[.string ⟨#[]⟩, .string ⟨#[]⟩, .int .i64 0], .bool false]) w:=yak
theorem Xl(x:Value)(w:World):(Instr.typeAssert (.iface 215 x) 162 231 true).run Tryz.prog w= .ok (.tuple #[.agg #[.string ⟨#[]⟩, .int .i64 0, .string ⟨#[]⟩, .int .i64 0, .string ⟨#[]⟩, .int .i64 0], .bool false]) w:=yak
theorem Uk(x:Value)(w:World):(Instr.typeAssert (.iface 215 x) 162 207 true).run Tryz.prog w= .ok (.tuple #[.agg #[.string ⟨#[]⟩, .string ⟨#[]⟩, .string ⟨#[]⟩, .int .i64 0], .bool false]) w:=yak
theorem Ul(x:Value)(w:World):(Instr.typeAssert (.iface 215 x) 162 209 true).run Tryz.prog w= .ok (.tuple #[.agg #[.string ⟨#[]⟩, .string ⟨#[]⟩, .int .i64 0, .string ⟨#[]⟩, .int .i64 0], .bool false]) w:=yak
theorem Yx(x:Value)(w:World):(Instr.typeAssert (.iface 215 x) 162 211 true).run Tryz.prog w= .ok (.tuple #[.agg #[.string ⟨#[]⟩, .int .i64 0], .bool false]) w:=yak
theorem Zc(x:Value)(w:World):(Instr.typeAssert (.iface 215 x) 162 171 true).run Tryz.prog w= .ok (.tuple #[.pointer none, .bool false]) w:=yak
theorem In(x:Value)(w:World):(Instr.typeAssert (.iface 215 x) 162 212 true).run Tryz.prog w= .ok (.tuple #[.pointer none, .bool false]) w:=yak
theorem Fb(x:Value)(w:World):(Instr.typeAssert (.iface 215 x) 162 215 true).run Tryz.prog w= .ok (.tuple #[x, .bool true]) w:=yak
theorem Uy(x:Value)(w:World):(Instr.typeAssert (.iface 215 x) 162 222 true).run Tryz.prog w= .ok (.tuple #[.iface 215 x, .bool true]) w:=yak
theorem zj3(x:Value)(w:World):(Instr.typeAssert (.iface 109 x) 222 171 true).run Tryz.prog w= .ok (.tuple #[.pointer none, .bool false]) w:=yak
theorem zoa(x:Value)(w:World):(Instr.typeAssert (.iface 171 x) 222 171 true).run Tryz.prog w= .ok (.tuple #[x, .bool true]) w:=yak
theorem z22(x:Value)(w:World):(Instr.typeAssert (.iface 212 x) 222 171 true).run Tryz.prog w= .ok (.tuple #[.pointer none, .bool false]) w:=yak
theorem zvu(x:Value)(w:World):(Instr.typeAssert (.iface 215 x) 222 171 true).run Tryz.prog w= .ok (.tuple #[.pointer none, .bool false]) w:=yak
def zhr:HK->Prop
 | .inl _=>True
 | .inr (.inr (.inr (.inr (.inr (.inr (.inl ()))))))=>True
 | .inr (.inr (.inr (.inr (.inr (.inr (.inr (.inl _)))))))=>True
 | .inr (.inr (.inr (.inr (.inr (.inr (.inr (.inr _)))))))=>True
 | .inr _=>False
section
variable{D:Nat->Prop}{lab:Nat->Nat×Nat}{w:World}{br sb bs:Nat}{tv ov:Value}{st:RS}{ms:List HM}
attribute [local go_sem] zj3 zoa z22 zvu
theorem zvv{k:HK}(h:zhr k):(hkT k=171/\k.isAtomic=true)\/((hkT k=109\/hkT k=212\/hkT k=215)/\k.isAtomic=false):=by
 rcases k with ⟨l,c⟩|⟨to,a⟩|⟨to,k,a,c⟩|⟨to,f,a⟩|⟨f,a,c⟩|a|⟨⟩|a|n
 ·exact .inr ⟨.inl rfl,rfl⟩
 ·exact h.elim
 ·exact h.elim
 ·exact h.elim
 ·exact h.elim
 ·exact h.elim
 ·exact .inl ⟨rfl,rfl⟩
 ·exact .inr ⟨.inr (.inl rfl),rfl⟩
 ·exact .inr ⟨.inr (.inr rfl),rfl⟩
def RS.opnOk(st:RS):Prop:=st.opn.length<=4/\ ∀j∈st.opn,∃h,st.hs[j]?=some h/\zhr h.k
theorem zz8(h:RMach D lab w br sb bs tv ov st ms)(ho:st.opnOk)(k:Nat)(hk:k<st.opn.length): ∃g cp T b,ov= .slice (some ⟨g,0,none⟩) st.opn.length cp/\w.cell? ⟨g,k,none⟩=some (.iface T (ptr b))/\
  ((T=171/\((st.hk st.opn[k]).map HK.isAtomic).getD false=true)\/((T=109\/T=212\/T=215)/\((st.hk st.opn[k]).map HK.isAtomic).getD false=false)):=by
 have hr:=h.orow
 obtain ⟨g,cp,rfl⟩: ∃g cp,ov= .slice (some ⟨g,0,none⟩) st.opn.length cp:=z9b
 obtain ⟨q1,_,_⟩:=Qm hr k hk
 obtain ⟨x,hx,hok⟩:=ho.2 st.opn[k] (List.getElem_mem hk)
 rw [<-h.hs,List.getElem?_map] at hx
 cases hm:ms[st.opn[k]]? with
 |none=>rw [hm] at hx;simp at hx
 |some m=>
  rw [hm] at hx
  simp at hx
  have hc:w.cell? ⟨g,k,none⟩=some (.iface (hkT m.h.k) (ptr m.b)):=by
   rw [q1]
   simp [idV,Qu,List.getElem?_eq_getElem hk,hm]
  have e:(st.hk st.opn[k]).map HK.isAtomic=some m.h.k.isAtomic:=by
   unfold RS.hk
   rw [<-h.hs,List.getElem?_map,hm]
   rfl
  rw [e]
  rw [<-hx] at hok
  exact ⟨g,cp,_,_,rfl,hc,zvv hok⟩
theorem zob(h:RMach D lab w br sb bs tv ov st ms)(ho:st.opnOk):
  Cl 112 #[ptr br] w λe w'=>e= .returned (.bool st.inB)/\w'=w:=by
 have c3:=h.c3
 obtain ⟨oa,ok,hov⟩: ∃a k,ov= .slice a st.opn.length k:=z7v
 have HA:=hid (λk hk=>zz8 h ho k hk)
 have ho4:=ho.1
 rw [hov] at c3
 have HOV:=hid hov
 clear h ho hov
 go_enter Tryz.func112,Tryz.ntmps112
 go_wp2
 go_loopw [12] (λv wr=>∃k:Nat,k<=st.opn.length/\v= .int .i64 k/\wr=w/\Hid (∀j (h:j<st.opn.length),j<k->((st.hk st.opn[j]).map HK.isAtomic).getD false=false)) (λv _=>st.opn.length- (intOf v).toNat)
 case atStart=>exact ⟨0,Nat.zero_le _,rfl,rfl,λj _ hj=>by omega⟩
 case round=>
  obtain ⟨k,hk,rfl,rfl,hP⟩:=hrel
  by_cases hlt:k<st.opn.length
  ·have hlt':(k:Int)<(st.opn.length:Int):=by omega
   obtain ⟨g,cp,T,b,e1,q1,q2⟩:=HA.out k hlt
   rw [HOV.out] at e1
   obtain ⟨rfl,rfl⟩:oa=some ⟨g,0,none⟩/\ok=cp:=by simpa using e1
   clear e1
   have Q2:=hid q2
   rcases q2 with ⟨rfl,q3⟩|⟨q2|q2|q2,q3⟩
   ·have HT:Hid (st.inB=true):=by
     refine List.any_eq_true.2 ⟨st.opn[k],List.getElem_mem hlt,q3⟩
    clear q3 Q2
    go_wp2
    go_ret
    exact ⟨by rw [HT.out];rfl,rfl⟩
   all_goals
    subst q2
    have HP2:Hid (∀j (h:j<st.opn.length),j<k+1->((st.hk st.opn[j]).map HK.isAtomic).getD false=false):=λj hj hjk=>by
     by_cases e:j=k
     ·subst e;exact q3
     ·exact hP.out j hj yai
    clear q3 Q2 hP
    go_wp2
    go_roundw
    case rel=>exact ⟨k+1,by omega,by go_num,trivial,HP2⟩
    case measure=>simp [intOf];omega
  ·have hlt': ¬(k:Int)<(st.opn.length:Int):=by omega
   have HF:Hid (st.inB=false):=by
    refine List.any_eq_false.2 λj hj=>?_
    obtain ⟨i,hi,rfl⟩:=List.getElem_of_mem hj
    have:=hP.out i hi yai
    simp [this]
   go_wp2
   go_ret
   exact ⟨by rw [HF.out];rfl,rfl⟩
end
section
variable{D:Nat->Prop}{lab:Nat->Nat×Nat}{w:World}{br sb bs:Nat}{tv ov:Value}{st:RS}{ms:List HM}
attribute [local go_sem] Ih Ep Ii Ij Gk Yr zdx zal Sf Ua Zz Ub Uc Yf Vw Ik Fo Gl Gm Yg Xr Il Gn Ys zdy zam Sg Im Ud Gp Gq Gr Yt zdz zan Sh Gs Yh Xs Xt Yo Yu zd0 zao Si Uv Yl Yv Yw Zm Vh Sj Er Xk Ss Uw Eb Ec Ux Yb zbv zcr Ed Ee Xl Uk Ul Yx Zc In Fb Uy
theorem Io(s:St)(b:Nat)(w:World):
  Cl 87 #[Vk s b] w λe w'=>e= .returned (.string (Vg s))/\Below w.heap.size w w':=by
 rcases s with ⟨to,a⟩|⟨to,k,a,c⟩|⟨to,f,a⟩|⟨f,a,c⟩|a|⟨⟩|a|n
 ·exact z8d
 ·exact z8d
 ·exact z8d
 ·exact z9y
 ·exact z9y
 ·exact z80
 ·exact z80
 ·exact z80
def RS.mayStand(st:RS):St->Bool
 | .inr (.inr (.inl (_,_,_)))=>decide (0<st.opn.length)&&st.inB
 | .inr (.inr (.inr (.inl (_,_,_))))=>decide (0<st.opn.length)&&st.inB
 | .inr (.inr (.inr (.inr (.inr (.inl ())))))=>decide (0<st.opn.length)&&!st.inB
 |_=>decide (0<st.opn.length)
theorem Xm(h:RMach D lab w br sb bs tv ov st ms)(ho:st.opnOk)(s:St)(b:Nat):
  Cl 83 #[ptr br,Vk s b] w λe w'=>e= .returned (.bool (st.mayStand s))/\w'=w:=by
 have c3:=h.c3
 obtain ⟨oa,ok,hov⟩: ∃a k,ov= .slice a st.opn.length k:=z7v
 rw [hov] at c3
 have KB:=hid (zob h ho)
 clear h ho hov
 by_cases h0:st.opn.length=0
 ·have hf:st.mayStand s=false:=by
   rcases s with ⟨to,a⟩|⟨to,k,a,c⟩|⟨to,f,a⟩|⟨f,a,c⟩|a|⟨⟩|a|n<;>simp [RS.mayStand,h0]
  rw [hf]
  rw [h0] at c3
  rcases s with ⟨to,a⟩|⟨to,k,a,c⟩|⟨to,f,a⟩|⟨f,a,c⟩|a|⟨⟩|a|n<;>
  ·simp only [Vk,stV]
   go_enter Tryz.func83,Tryz.ntmps83
   go_wp2
   go_ret
   exact ⟨rfl,rfl⟩
 ·have h1:0<st.opn.length:=by omega
  have h2:((st.opn.length:Int)==0)=false:=by simpa using (show ¬(st.opn.length:Int)=0 by omega)
  generalize hI:st.inB=ib at KB
  rcases s with ⟨to,a⟩|⟨to,k,a,c⟩|⟨to,f,a⟩|⟨f,a,c⟩|a|⟨⟩|a|n
  ·exact z8k
  ·exact z8k
  ·rw [show st.mayStand (St.get to f a)=ib from by simp [RS.mayStand,h1,hI]]
   simp only [Vk,stV]
   go_enter Tryz.func83,Tryz.ntmps83
   go_wp2_with fail
   refine KB.out.mono ?_
   rintro e w1 ⟨rfl,rfl⟩
   go_wp2
   go_ret
   exact ⟨rfl,rfl⟩
  ·rw [show st.mayStand (St.put f a c)=ib from by simp [RS.mayStand,h1,hI]]
   simp only [Vk,stV]
   go_enter Tryz.func83,Tryz.ntmps83
   go_wp2_with fail
   refine KB.out.mono ?_
   rintro e w1 ⟨rfl,rfl⟩
   go_wp2
   go_ret
   exact ⟨rfl,rfl⟩
  ·exact z8k
  ·rw [show st.mayStand (St.atomic)=!ib from by simp [RS.mayStand,h1,hI]]
   simp only [Vk]
   go_enter Tryz.func83,Tryz.ntmps83
   go_wp2_with fail
   refine KB.out.mono ?_
   rintro e w1 ⟨rfl,rfl⟩
   go_wp2
   go_ret
   exact ⟨rfl,rfl⟩
  ·exact z9p
  ·exact z9p
end
def Qj:St->List PV
 | .inl (_,a)=>[a]
 | .inr (.inl (_,_,a,b))=>[a,b]
 | .inr (.inr (.inl (_,_,a)))=>[a]
 | .inr (.inr (.inr (.inl (_,a,b))))=>[a,b]
 | .inr (.inr (.inr (.inr (.inl a))))=>[a]
 | .inr (.inr (.inr (.inr (.inr (.inl ())))))=>[]
 | .inr (.inr (.inr (.inr (.inr (.inr (.inl a))))))=>[a]
 | .inr (.inr (.inr (.inr (.inr (.inr (.inr _))))))=>[]
def Ip(w:World)(l:List PV)(e:Ending)(w':World):Prop:=∃a c,e= .returned (.slice a l.length c)/\Below w.heap.size w w'/\ ∀i (h:i<l.length),∃g,a=some ⟨g,0,none⟩/\g<w'.heap.size/\w'.cell? ⟨g,i*2,none⟩=some (.string l[i].name)/\w'.cell? ⟨g,i*2+1,none⟩=some (.int .i64 l[i].num)
theorem zfo(w:World)(o p:Obj):Below w.heap.size w ((w.alloc o).alloc p):=((Below.refl _ w).alloc (Nat.le_refl _) o).alloc yaj p
theorem zd1(w:World)(o:Obj)(a:PV)(g:Nat)(hg:g=(w.alloc o).heap.size):Ip w [a] (.returned (.slice (some ⟨g,0,none⟩) 1 1)) ((w.alloc o).alloc (.cells #[.string a.name, .int .i64 a.num] 202)):=by
 subst hg
 refine ⟨_,1,rfl,zfo _ _ _,λi hi=>?_⟩
 obtain rfl:i=0:=ybj
 exact ⟨_,rfl,by simp,World.cell?_alloc_new _ _ _ 0,World.cell?_alloc_new _ _ _ 1⟩
theorem zre(w:World)(o:Obj)(a b:PV):Ip w [a,b] (.returned (.slice (some ⟨(w.alloc o).heap.size,0,none⟩) 2 2)) ((w.alloc o).alloc (.cells #[.string a.name, .int .i64 a.num, .string b.name, .int .i64 b.num] 202)):=by
 refine ⟨_,2,rfl,zfo _ _ _,λi hi=>?_⟩
 have:i=0\/i=1:=ybj
 rcases this with rfl|rfl
 ·exact ⟨_,rfl,by simp,World.cell?_alloc_new _ _ _ 0,World.cell?_alloc_new _ _ _ 1⟩
 ·exact ⟨_,rfl,by simp,World.cell?_alloc_new _ _ _ 2,World.cell?_alloc_new _ _ _ 3⟩
section
variable(w:World)(to of:ByteArray)(a b:PV)(k:Int)
theorem z25:Cl 229 #[.agg #[.string to, .string a.name, .int .i64 a.num]] w λe w'=>Ip w [a] e w':=by
 go_enter Tryz.func229,Tryz.ntmps229
 go_wp2
 go_ret
 exact zd1 w _ a _ yaj
theorem z5d:Cl 230 #[.agg #[.string to, .int .i64 k, .string a.name, .int .i64 a.num, .string b.name, .int .i64 b.num]] w λe w'=>Ip w [a,b] e w':=by
 go_enter Tryz.func230,Tryz.ntmps230
 go_wp2
 go_ret
 have:=zre w (.cells #[.string to, .int .i64 k, .string a.name, .int .i64 a.num, .string b.name, .int .i64 b.num] 231) a b
 simpa using this
theorem zrf:Cl 224 #[.agg #[.string of, .string a.name, .int .i64 a.num]] w λe w'=>e= .returned (.slice (some ⟨w.heap.size+1,0,none⟩) 1 1)/\w'=(w.alloc (.cells #[.string of, .string a.name, .int .i64 a.num] 205)).alloc (.cells #[.string a.name, .int .i64 a.num] 202):=by
 go_enter Tryz.func224,Tryz.ntmps224
 go_wp2
 go_ret
 exact ⟨rfl,rfl⟩
theorem z26:Cl 226 #[.agg #[.string a.name, .int .i64 a.num]] w λe w'=>Ip w [a] e w':=by
 go_enter Tryz.func226,Tryz.ntmps226
 go_wp2
 go_ret
 exact zd1 w _ a _ yaj
theorem zrg(v:Value):Cl 212 #[v] w λe w'=>Ip w [] e w':=by
 go_enter Tryz.func212,Tryz.ntmps212
 go_wp2
 go_ret
 exact ⟨none,0,rfl,Below.refl _ _,λi hi=>by simp at hi⟩
theorem z0c(v:Value):Cl 228 #[v] w λe w'=>Ip w [] e w':=by
 go_enter Tryz.func228,Tryz.ntmps228
 go_wp2
 go_ret
 exact ⟨none,0,rfl,Below.refl _ _,λi hi=>by simp at hi⟩
theorem z5e(b:Nat)(c1:w.cell? ⟨b,1,none⟩=some (.string a.name))(c2:w.cell? ⟨b,2,none⟩=some (.int .i64 a.num)):Cl 227 #[ptr b] w λe w'=>Ip w [a] e w':=by
 go_enter Tryz.func227,Tryz.ntmps227
 go_wp2
 go_ret
 refine ⟨_,1,rfl,(Below.refl _ w).alloc (Nat.le_refl _) _,λi hi=>?_⟩
 obtain rfl:i=0:=ybj
 exact ⟨_,rfl,by simp,World.cell?_alloc_new _ _ _ 0,World.cell?_alloc_new _ _ _ 1⟩
theorem z27:(Tryz.prog.info? 202).map (λi=>(i.zero,i.size,i.bytes))=some (some (.agg #[.string ⟨#[]⟩, .int .i64 0]),2,24):=yak
theorem zj5(W:World)(x y:Value)(T:TypeId):(W.alloc (.cells #[x,y] T)).ownsRow 0 T 2 (.slice (some ⟨W.heap.size,0,none⟩) 1 1) 1 [x,y]:=
 ⟨rfl, .inr ⟨_,1,#[x,y],rfl,Nat.zero_le _,(show (W.heap.push _)[W.heap.size]?=_ from Array.getElem?_push_size),Nat.le_refl _,by unfold maxLen;omega,rfl,rfl⟩⟩
theorem zht(W:World)(x y:Value)(T:TypeId): ∀j u',[x,y][j]?=some u'->(W.alloc (.cells #[x,y] T)).cell? ((⟨W.heap.size,0,none⟩:Addr).add j)=some u':=by
 intro j u' hj
 have hc:=(zj5 W x y T).cells (g:=W.heap.size) rfl j u' hj
 exact hc
theorem zhu{cap:Nat}(ho:w3.ownsRow 0 202 2 (.slice (some ⟨g,0,none⟩) 2 cap) 2 [.string a.name, .int .i64 a.num, .string b.name, .int .i64 b.num])(hb:Below w.heap.size w w3):Ip w [a,b] (.returned (.slice (some ⟨g,0,none⟩) 2 cap)) w3:=by
 have hg:g<w3.heap.size:=(ho.lt g rfl).2
 have c: ∀j u,[Value.string a.name, .int .i64 a.num, .string b.name, .int .i64 b.num][j]?=some u->w3.cell? ⟨g,j,none⟩=some u:=by
  intro j u hu
  have:=ho.cells (g:=g) rfl j u hu
  have e:(⟨g,0,none⟩:Addr).add j=⟨g,j,none⟩:=by
   unfold Addr.add
   split
   ·rename_i h0;rw [h0]
   ·simp
  rwa [e] at this
 refine ⟨_,cap,rfl,hb,λi hi=>?_⟩
 have:i=0\/i=1:=ybj
 rcases this with rfl|rfl
 ·exact ⟨g,rfl,hg,c 0 _ rfl,c 1 _ rfl⟩
 ·exact ⟨g,rfl,hg,c 2 _ rfl,c 3 _ rfl⟩
theorem z5f(w:World)(o:Obj):(w.alloc o).heap.size=w.heap.size+1:=yaj
theorem z5g(w:World)(o p:Obj):((w.alloc o).alloc p).heap.size=w.heap.size+1+1:=yaj
theorem z28(w:World)(o p q:Obj):(((w.alloc o).alloc p).alloc q).heap.size=w.heap.size+1+1+1:=yaj
theorem zhv{v:Value}{gv:Nat}(hW:Below w.heap.size w W)(hv:v.ownBlock=some gv)(hg:w.heap.size<=gv)(hc:Chg (λk _=>v.ownBlock=some k) W w3):Below w.heap.size w w3:=
 hW.trans (hc.below hW.size (λk _ e=>by rw [hv] at e;injection e with e;omega))
theorem z29:Cl 225 #[.agg #[.string of, .string a.name, .int .i64 a.num, .string b.name, .int .i64 b.num]] w λe w'=>Ip w [a,b] e w':=by
 obtain ⟨i0,hi,hz0,hz1,hz2⟩:=info_parts z27
 have hl1:1+1<=maxLen:=yap
 have hl2:(1+1)*24<=140737488355328:=yai
 have OA:Hid (((((w.alloc (.cells #[.string of, .string a.name, .int .i64 a.num, .string b.name, .int .i64 b.num] 209)).alloc (.cells #[.string of, .string a.name, .int .i64 a.num] 205)).alloc (.cells #[.string a.name, .int .i64 a.num] 202)).alloc (.cells #[.string b.name, .int .i64 b.num] 202)).drew.ownsRow 0 202 2 (.slice (some ⟨w.heap.size+1+1,0,none⟩) 1 1) 1 [.string a.name, .int .i64 a.num]):=hid (by
  have:=zj5 ((w.alloc (.cells #[.string of, .string a.name, .int .i64 a.num, .string b.name, .int .i64 b.num] 209)).alloc (.cells #[.string of, .string a.name, .int .i64 a.num] 205)) (.string a.name) (.int .i64 a.num) 202
  rw [z5g] at this
  exact this.alloc _)
 have CA:Hid (∀j u',[Value.string b.name, .int .i64 b.num][j]?=some u'->((((w.alloc (.cells #[.string of, .string a.name, .int .i64 a.num, .string b.name, .int .i64 b.num] 209)).alloc (.cells #[.string of, .string a.name, .int .i64 a.num] 205)).alloc (.cells #[.string a.name, .int .i64 a.num] 202)).alloc (.cells #[.string b.name, .int .i64 b.num] 202)).drew.cell? ((⟨w.heap.size+1+1+1,0,none⟩:Addr).add j)=some u'):=hid (by
  have:=zht (((w.alloc (.cells #[.string of, .string a.name, .int .i64 a.num, .string b.name, .int .i64 b.num] 209)).alloc (.cells #[.string of, .string a.name, .int .i64 a.num] 205)).alloc (.cells #[.string a.name, .int .i64 a.num] 202)) (.string b.name) (.int .i64 b.num) 202
  rw [z28] at this
  exact this)
 have OB:Hid (((((w.alloc (.cells #[.string of, .string a.name, .int .i64 a.num, .string b.name, .int .i64 b.num] 209)).alloc (.cells #[.string b.name, .int .i64 b.num] 202)).alloc (.cells #[.string of, .string a.name, .int .i64 a.num] 205)).alloc (.cells #[.string a.name, .int .i64 a.num] 202)).drew.ownsRow 0 202 2 (.slice (some ⟨w.heap.size+1+1+1,0,none⟩) 1 1) 1 [.string a.name, .int .i64 a.num]):=hid (by
  have:=zj5 (((w.alloc (.cells #[.string of, .string a.name, .int .i64 a.num, .string b.name, .int .i64 b.num] 209)).alloc (.cells #[.string b.name, .int .i64 b.num] 202)).alloc (.cells #[.string of, .string a.name, .int .i64 a.num] 205)) (.string a.name) (.int .i64 a.num) 202
  rw [z28] at this
  exact this)
 have CB:Hid (∀j u',[Value.string b.name, .int .i64 b.num][j]?=some u'->((((w.alloc (.cells #[.string of, .string a.name, .int .i64 a.num, .string b.name, .int .i64 b.num] 209)).alloc (.cells #[.string b.name, .int .i64 b.num] 202)).alloc (.cells #[.string of, .string a.name, .int .i64 a.num] 205)).alloc (.cells #[.string a.name, .int .i64 a.num] 202)).drew.cell? ((⟨w.heap.size+1,0,none⟩:Addr).add j)=some u'):=hid (by
  have h0:=zht (w.alloc (.cells #[.string of, .string a.name, .int .i64 a.num, .string b.name, .int .i64 b.num] 209)) (.string b.name) (.int .i64 b.num) 202
  rw [z5f] at h0
  intro j u' hj
  have h1:=h0 j u' hj
  have hlt:=blt h1
  exact ((((Below.refl _ _).alloc (Nat.le_refl _) (.cells #[.string of, .string a.name, .int .i64 a.num] 205)).alloc yaj (.cells #[.string a.name, .int .i64 a.num] 202)).cell (p:=(⟨w.heap.size+1,0,none⟩:Addr).add j) hlt).trans h1)
 have BA:Hid (Below w.heap.size w ((((w.alloc (.cells #[.string of, .string a.name, .int .i64 a.num, .string b.name, .int .i64 b.num] 209)).alloc (.cells #[.string of, .string a.name, .int .i64 a.num] 205)).alloc (.cells #[.string a.name, .int .i64 a.num] 202)).alloc (.cells #[.string b.name, .int .i64 b.num] 202)).drew):=hid (((((Below.refl _ w).alloc (Nat.le_refl _) _).alloc yaj _).alloc yan _).alloc yan _).drew
 have BB:Hid (Below w.heap.size w ((((w.alloc (.cells #[.string of, .string a.name, .int .i64 a.num, .string b.name, .int .i64 b.num] 209)).alloc (.cells #[.string b.name, .int .i64 b.num] 202)).alloc (.cells #[.string of, .string a.name, .int .i64 a.num] 205)).alloc (.cells #[.string a.name, .int .i64 a.num] 202)).drew):=hid (((((Below.refl _ w).alloc (Nat.le_refl _) _).alloc yaj _).alloc yan _).alloc yan _).drew
 go_enter Tryz.func225,Tryz.ntmps225
 go_wp2_with fail
 go_region_law (first
  |(go_simp;go_at_call 224;refine (zrf _ of a).mono ?_;rintro e w1 ⟨rfl,rfl⟩)
  |(refine Je rfl (.tmp 5) (.tmp 8) 244 rfl 202 i0 (.agg #[.string ⟨#[]⟩, .int .i64 0]) 2 24 yal Tryz.underlying244 hi hz0 hz1 hz2 rfl (.slice (some ⟨w.heap.size+1+1,0,none⟩) 1 1) 1 [.string a.name, .int .i64 a.num] rfl OA.out ⟨w.heap.size+1+1+1,0,none⟩ [.string b.name, .int .i64 b.num] rfl rfl CA.out ydj hl1 hl2 ?_;intro g cap w3 ho hc hg;have HR:=hid (zhu w a b ho (zhv w (gv:=w.heap.size+1+1) BA.out rfl yai hc));clear ho hc hg)
  |(refine Je rfl (.tmp 5) (.tmp 8) 244 rfl 202 i0 (.agg #[.string ⟨#[]⟩, .int .i64 0]) 2 24 yal Tryz.underlying244 hi hz0 hz1 hz2 rfl (.slice (some ⟨w.heap.size+1+1+1,0,none⟩) 1 1) 1 [.string a.name, .int .i64 a.num] rfl OB.out ⟨w.heap.size+1,0,none⟩ [.string b.name, .int .i64 b.num] rfl rfl CB.out ydj hl1 hl2 ?_;intro g cap w3 ho hc hg;have HR:=hid (zhu w a b ho (zhv w (gv:=w.heap.size+1+1+1) BB.out rfl yai hc));clear ho hc hg))
 all_goals
  go_wp2
  go_ret
  exact HR.out
end
def StB(W:World)(s:St)(b:Nat):Prop:=match s with
 | .inr (.inr (.inr (.inr (.inr (.inr (.inl a))))))=>W.cell? ⟨b,1,none⟩=some (.string a.name)/\W.cell? ⟨b,2,none⟩=some (.int .i64 a.num)
 |_=>True
theorem z5h(v:Value)(w:World):(method 443 228 v "commits/program.reads").run Tryz.prog w= .ok (229,v) w:=yak
theorem z6i(v:Value)(w:World):(method 443 231 v "commits/program.reads").run Tryz.prog w= .ok (230,v) w:=yak
theorem z5i(a b c d:Value)(w:World):(method 443 207 (.agg #[a,b,c,d]) "commits/program.reads").run Tryz.prog w= .ok (224, .agg #[b,c,d]) w:=yak
theorem z5j(v:Value)(w:World):(method 443 209 v "commits/program.reads").run Tryz.prog w= .ok (225,v) w:=yak
theorem z5k(v:Value)(w:World):(method 443 211 v "commits/program.reads").run Tryz.prog w= .ok (226,v) w:=yak
theorem zv0(v:Value)(w:World):(method 443 171 v "commits/program.reads").run Tryz.prog w= .ok (212,v) w:=yak
theorem z6j(v:Value)(w:World):(method 443 212 v "commits/program.reads").run Tryz.prog w= .ok (227,v) w:=yak
theorem z3a(v:Value)(w:World):(method 443 215 v "commits/program.reads").run Tryz.prog w= .ok (228,v) w:=yak
theorem z0d(s:St)(b:Nat): ∃T u F u',Vk s b= .iface T u/\(∀W,(method 443 T u "commits/program.reads").run Tryz.prog W= .ok (F,u') W)/\(∀args W,(callFunc F args).run Tryz.prog W= .ok (.enter F args) W)/\
  ∀W,StB W s b->Cl F #[u'] W λe w'=>Ip W (Qj s) e w':=by
 rcases s with ⟨to,a⟩|⟨to,k,a,c⟩|⟨to,f,a⟩|⟨f,a,c⟩|a|⟨⟩|a|n
 ·exact ⟨_,_,_,_,rfl,z5h _,enters_of Tryz.func229 yak rfl,λW _=>z25 W to a⟩
 ·exact ⟨_,_,_,_,rfl,z6i _,enters_of Tryz.func230 yak rfl,λW _=>z5d W to a c k⟩
 ·refine ⟨_,_,_,_,rfl,z5i _ _ _ _,enters_of Tryz.func224 yak rfl,λW _=>(zrf W f a).mono ?_⟩
  rintro e w' ⟨rfl,rfl⟩
  exact zd1 W _ a _ yaj
 ·exact ⟨_,_,_,_,rfl,z5j _,enters_of Tryz.func225 yak rfl,λW _=>z29 W f a c⟩
 ·exact ⟨_,_,_,_,rfl,z5k _,enters_of Tryz.func226 yak rfl,λW _=>z26 W a⟩
 ·exact ⟨_,_,_,_,rfl,zv0 _,enters_of Tryz.func212 yak rfl,λW _=>zrg W _⟩
 ·exact ⟨_,_,_,_,rfl,z6j _,enters_of Tryz.func227 yak rfl,λW h=>z5e W a b h.1 h.2⟩
 ·exact ⟨_,_,_,_,rfl,z3a _,enters_of Tryz.func228 yak rfl,λW _=>z0c W _⟩
def Xg:St->Option ByteArray
 | .inr (.inr (.inl (_,f,_)))=>some f
 | .inr (.inr (.inr (.inl (f,_,_))))=>some f
 |_=>none
def RS.mayName(st:RS)(l:List ByteArray)(s:St):Bool:=(Qj s).all (λv=>v.name.toList.isEmpty||Uh l v.name)&&(!st.isSh (Vg s)&&(match Xg s with|some f=>st.isSh f|none=>true))
structure zl9(s:St):Prop where
 rd: ∀v∈Qj s,v.name.size<=maxLen
 to:(Vg s).size<=maxLen
 of: ∀f,Xg s=some f->f.size<=maxLen
section
variable{D:Nat->Prop}{lab:Nat->Nat×Nat}{w:World}{br sb bs:Nat}{tv ov:Value}{st:RS}{ms:List HM}
attribute [local go_sem] Ii Ij Ub Uc Xr Il Gp Gq Xs Xt Yv Yw Eb Ec Uk Ul
theorem Fp(h:RMach D lab w br sb bs tv ov st ms)(tl:List Nat)(t:Nat)(ht:st.threads=tl++[t])(htl:t<ms.length)(hn:tl.length<1000000)(l:List ByteArray)(c:Nat)(hk:ms[t].h.k= .thr l c)(s:St)(b:Nat)(hS:StB w s b)(hz:zl9 s)(hlen:(Qj s).length<=2):
  Cl 84 #[ptr br,Vk s b] w λe w'=>e= .returned (.bool (st.mayName l s))/\Below w.heap.size w w':=by
 obtain ⟨T,u,F,u',he,hme,hen,hrd⟩:=z0d s b
 have KR:=hid (hrd w hS)
 have KL:Hid (∀W,Below w.heap.size w W->Cl 86 #[ptr br] W λe w'=>e= .returned (ptr ms[t].b)/\w'=W.drew):=hid (λW hW=>zdq (h.below hW) tl t ht htl hn)
 have hth:=(h.hd t htl).kind
 rw [hk] at hth
 have KH:Hid (∀W,Below w.heap.size w W->∀x:ByteArray,x.size<=maxLen->Cl 88 #[ptr ms[t].b, .string x] W λe w'=>e= .returned (.bool (Uh l x))/\w'=W):=hid (λW hW x hx=>by
  have hb:=Qd (h.hd t htl).sh
  exact zhp ((hW.cell (p:=⟨ms[t].b,1,none⟩) hb).trans hth.1) (hth.2.2.keep (Chg.of_below (M:=λ_ _=>False) hW) (λ_ e=>e)) x hx)
 have KI:Hid (∀W,Below w.heap.size w W->∀x:ByteArray,x.size<=maxLen->Cl 79 #[ptr br, .string x] W λe w'=>e= .returned (.bool (st.isSh x))/\Below w.heap.size w w'):=hid (λW hW x hx=>(Uu (h.below hW) x hx).mono λe w' ⟨h1,h2⟩=>⟨h1,hW.trans (h2.mono hW.size)⟩)
 have KT:Hid (∀W,Below w.heap.size w W->Cl 87 #[.iface T u] W λe w'=>e= .returned (.string (Vg s))/\Below w.heap.size w w'):=hid (λW hW=>by rw [<-he];exact (Io s b W).mono λe w' ⟨h1,h2⟩=>⟨h1,hW.trans (h2.mono hW.size)⟩)
 have HE:=hid he
 have HZ:=hid hz
 rw [he]
 clear h hS hrd he hth hz ht hk hn
 generalize ms[t].b=tb at*
 clear htl
 go_enter Tryz.func84,Tryz.ntmps84
 go_wp2_with fail
 refine KR.out.mono ?_
 rintro e w1 ⟨a,cp,rfl,b1,hc⟩
 have B1:=hid b1
 have HC:=hid hc
 clear b1 hc KR
 go_wp2
 go_loopw [12] (λv wr=>∃k:Nat,k<=(Qj s).length/\v= .int .i64 k/\Hid (Below w1.heap.size w1 wr)/\Hid (∀j (h:j<(Qj s).length),j<k->((Qj s)[j].name.toList.isEmpty||Uh l (Qj s)[j].name)=true)) (λv _=>(Qj s).length- (intOf v).toNat)
 case atStart=>exact ⟨0,Nat.zero_le _,rfl,Below.refl _ _,λj _ hj=>by omega⟩
 case round=>
  obtain ⟨k,hkl,rfl,HB,HP⟩:=hrel
  have HW:Hid (Below w.heap.size w wr):=B1.out.trans (HB.out.mono B1.out.size)
  by_cases hlt:k<(Qj s).length
  ·have hlt':(k:Int)<((Qj s).length:Int):=by omega
   obtain ⟨g,rfl,hg,q1,q2⟩:=HC.out k hlt
   have r1:=(HB.out.cell (p:=⟨g,k*2,none⟩) hg).trans q1
   have r2:=(HB.out.cell (p:=⟨g,k*2+1,none⟩) hg).trans q2
   have hxs:=HZ.out.rd _ (List.getElem_mem hlt)
   clear q1 q2
   generalize hx:(Qj s)[k]=x at r1 r2 hxs
   have HX:=hid hx
   clear hx
   have BA:Hid (Below w.heap.size w (wr.alloc (.cells #[.string x.name, .int .i64 x.num] 202)).drew):=hid ((HW.out.alloc HW.out.size _).drew)
   have BA2:Hid (Below w1.heap.size w1 (wr.alloc (.cells #[.string x.name, .int .i64 x.num] 202)).drew):=hid ((HB.out.alloc HB.out.size _).drew)
   cases hem:x.name.toList.isEmpty with
   |true=>
    have HP2:Hid (∀j (h:j<(Qj s).length),j<k+1->((Qj s)[j].name.toList.isEmpty||Uh l (Qj s)[j].name)=true):=λj hj hjk=>by
     by_cases e:j=k
     ·subst e;rw [HX.out,hem];rfl
     ·exact HP.out j hj yai
    go_wp2_with fail
    go_region
    all_goals
     go_wp2
     go_roundw
     case rel=>exact ⟨k+1,by omega,by go_num,BA2,HP2⟩
     case measure=>simp [intOf];omega
   |false=>
    cases hha:Uh l x.name with
    |true=>
     have HP2:Hid (∀j (h:j<(Qj s).length),j<k+1->((Qj s)[j].name.toList.isEmpty||Uh l (Qj s)[j].name)=true):=λj hj hjk=>by
      by_cases e:j=k
      ·subst e;rw [HX.out,hha];simp
      ·exact HP.out j hj yai
     go_wp2_with fail
     go_region_law (first
      |(go_simp;go_at_call 86;refine (KL.out _ BA.out).mono ?_;rintro e w2 ⟨rfl,rfl⟩)
      |(go_simp;go_at_call 88;refine (KH.out _ BA.out.drew x.name hxs).mono ?_;rintro e w2 ⟨rfl,rfl⟩;rw [hha]))
     all_goals
      go_wp2
      go_roundw
      case rel=>exact ⟨k+1,by omega,by go_num,BA2.out.drew,HP2⟩
      case measure=>simp [intOf];omega
    |false=>
     have HF:Hid (st.mayName l s=false):=by
      have:(Qj s).all (λv=>v.name.toList.isEmpty||Uh l v.name)=false:=List.all_eq_false.2 ⟨(Qj s)[k],List.getElem_mem hlt,by rw [HX.out,hem,hha];simp⟩
      show (_&&_)=false
      rw [this]
      rfl
     go_wp2_with fail
     go_region_law (first
      |(go_simp;go_at_call 86;refine (KL.out _ BA.out).mono ?_;rintro e w2 ⟨rfl,rfl⟩)
      |(go_simp;go_at_call 88;refine (KH.out _ BA.out.drew x.name hxs).mono ?_;rintro e w2 ⟨rfl,rfl⟩;rw [hha]))
     all_goals
      go_wp2
      go_ret
      exact ⟨by rw [HF.out];rfl,BA.out.drew⟩
  ·have hlt': ¬(k:Int)<((Qj s).length:Int):=by omega
   have HA:Hid ((Qj s).all (λv=>v.name.toList.isEmpty||Uh l v.name)=true):=hid (List.all_eq_true.2 λv hv=>by
    obtain ⟨i,hi,rfl⟩:=List.getElem_of_mem hv
    exact HP.out i hi yai)
   go_wp2_with fail
   refine (KT.out wr HW.out).mono ?_
   rintro e w2 ⟨rfl,b2⟩
   have B2:=hid b2
   clear b2
   go_wp2_with fail
   refine (KI.out w2 B2.out _ HZ.out.to).mono ?_
   rintro e w3 ⟨rfl,b3⟩
   have B3:=hid b3
   clear b3
   cases hsh:st.isSh (Vg s) with
   |true=>
    have HF:Hid (st.mayName l s=false):=by
     show (_&&(!st.isSh (Vg s)&&_))=false
     rw [hsh]
     simp
    go_wp2
    go_ret
    exact ⟨by rw [HF.out];rfl,B3.out⟩
   |false=>
    have HM:Hid (st.mayName l s=(match Xg s with|some f=>st.isSh f|none=>true)):=by
     show (_&&(!st.isSh (Vg s)&&_))=_
     rw [hsh,HA.out]
     simp
    have HEo:=HE.out
    rcases s with ⟨to,y⟩|⟨to,o,y,z⟩|⟨to,f,y⟩|⟨f,y,z⟩|y|⟨⟩|y|n
    ·obtain ⟨rfl,rfl⟩:228=T/\_=u:=by simpa [Vk,stV] using HEo
     go_wp2
     go_ret
     exact ⟨by rw [HM.out];rfl,B3.out⟩
    ·obtain ⟨rfl,rfl⟩:231=T/\_=u:=by simpa [Vk,stV] using HEo
     go_wp2
     go_ret
     exact ⟨by rw [HM.out];rfl,B3.out⟩
    ·obtain ⟨rfl,rfl⟩:207=T/\_=u:=by simpa [Vk,stV] using HEo
     go_wp2_with fail
     refine (KI.out _ (B3.out.alloc B3.out.size _) f (HZ.out.of f rfl)).mono ?_
     rintro e w4 ⟨rfl,b4⟩
     have B4:=hid b4
     clear b4
     go_wp2
     go_ret
     exact ⟨by rw [HM.out];rfl,B4.out⟩
    ·obtain ⟨rfl,rfl⟩:209=T/\_=u:=by simpa [Vk,stV] using HEo
     go_wp2_with fail
     refine (KI.out _ (B3.out.alloc B3.out.size _) f (HZ.out.of f rfl)).mono ?_
     rintro e w4 ⟨rfl,b4⟩
     have B4:=hid b4
     clear b4
     go_wp2
     go_ret
     exact ⟨by rw [HM.out];rfl,B4.out⟩
    ·obtain ⟨rfl,rfl⟩:211=T/\_=u:=by simpa [Vk,stV] using HEo
     go_wp2
     go_ret
     exact ⟨by rw [HM.out];rfl,B3.out⟩
    ·obtain ⟨rfl,rfl⟩:171=T/\ptr b=u:=by simpa [Vk] using HEo
     go_wp2
     go_ret
     exact ⟨by rw [HM.out];rfl,B3.out⟩
    ·obtain ⟨rfl,rfl⟩:212=T/\ptr b=u:=by simpa [Vk] using HEo
     go_wp2
     go_ret
     exact ⟨by rw [HM.out];rfl,B3.out⟩
    ·obtain ⟨rfl,rfl⟩:215=T/\ptr b=u:=by simpa [Vk] using HEo
     go_wp2
     go_ret
     exact ⟨by rw [HM.out];rfl,B3.out⟩
end
def Qf:St->Bool
 | .inr (.inr (.inr (.inr (.inr (.inl ())))))=>true
 | .inr (.inr (.inr (.inr (.inr (.inr (.inl _))))))=>true
 | .inr (.inr (.inr (.inr (.inr (.inr (.inr _))))))=>true
 |_=>false
def RS.hasRoom(st:RS)(l:List ByteArray)(c:Nat)(s:St):Bool:=!decide (c=14)&&(!(!(Vg s).toList.isEmpty&&(!Uh l (Vg s)&&decide (l.length=4)))&&(!Qf s||decide (st.opn.length<=3)))
theorem zgl(s:St)(b:Nat): ∃T u x,Vk s b= .iface T u/\ ∀w,(Instr.typeAssert (.iface T u) 162 222 true).run Tryz.prog w= .ok (.tuple #[x, .bool (Qf s)]) w:=by
 rcases s with ⟨to,a⟩|⟨to,k,a,c⟩|⟨to,f,a⟩|⟨f,a,c⟩|a|⟨⟩|a|n
 ·exact ⟨_,_,_,rfl,Sf _⟩
 ·exact ⟨_,_,_,rfl,Gl _⟩
 ·exact ⟨_,_,_,rfl,Sg _⟩
 ·exact ⟨_,_,_,rfl,Sh _⟩
 ·exact ⟨_,_,_,rfl,Si _⟩
 ·exact ⟨_,_,_,rfl,Xk _⟩
 ·exact ⟨_,_,_,rfl,Ed _⟩
 ·exact ⟨_,_,_,rfl,Uy _⟩
section
variable{D:Nat->Prop}{lab:Nat->Nat×Nat}{w:World}{br sb bs:Nat}{tv ov:Value}{st:RS}{ms:List HM}
theorem Oj(h:RMach D lab w br sb bs tv ov st ms)(ho:st.opnOk)(tl:List Nat)(t:Nat)(ht:st.threads=tl++[t])(htl:t<ms.length)(hn:tl.length<1000000)(l:List ByteArray)(c:Nat)(hk:ms[t].h.k= .thr l c)(s:St)(b:Nat)(hz:zl9 s):
  Cl 85 #[ptr br,Vk s b] w λe w'=>e= .returned (.bool (st.hasRoom l c s))/\Below w.heap.size w w':=by
 obtain ⟨T,u,x,he,hta⟩:=zgl s b
 have KL:=hid (zdq h tl t ht htl hn)
 have hth:=(h.hd t htl).kind
 rw [hk] at hth
 have hb:=Qd (h.hd t htl).sh
 have bd:Below w.heap.size w w.drew:=Qi _ w
 have KT:Hid (Cl 87 #[.iface T u] w.drew λe w'=>e= .returned (.string (Vg s))/\Below w.heap.size w w'):=hid (by rw [<-he];exact (Io s b _).mono λe w' ⟨h1,h2⟩=>⟨h1,bd.trans h2⟩)
 have KH:Hid (∀W,Below w.heap.size w W->Cl 88 #[ptr ms[t].b, .string (Vg s)] W λe w'=>e= .returned (.bool (Uh l (Vg s)))/\w'=W):=hid (λW hW=>
  zhp ((hW.cell (p:=⟨ms[t].b,1,none⟩) hb).trans hth.1) (hth.2.2.keep (Chg.of_below (M:=λ_ _=>False) hW) (λ_ e=>e)) _ hz.to)
 have HL:Hid (∀W,Below w.heap.size w W->∀ty,(Builtin.len_ #[114] ty #[.map (some ms[t].mb)]).run Tryz.prog W= .ok (.int .i64 l.length) W):=hid (λW hW ty=>(hth.2.2.keep (Chg.of_below (M:=λ_ _=>False) hW) (λ_ e=>e)).len Tryz.underlying114 ty)
 have HC:Hid (∀W,Below w.heap.size w W->W.cell? ⟨ms[t].b,1,none⟩=some (.map (some ms[t].mb))/\W.cell? ⟨br,3,none⟩=some ov):=hid (λW hW=>⟨(hW.cell (p:=⟨ms[t].b,1,none⟩) hb).trans hth.1,(hW.cell (p:=⟨br,3,none⟩) (Qd h.sh)).trans h.c3⟩)
 have hc2:=hth.2.1
 obtain ⟨oa,ok,hov⟩: ∃a k,ov= .slice a st.opn.length k:=z7v
 subst hov
 have ho4:=ho.1
 rw [he]
 clear h hth hz ht hk hn ho he hb bd
 generalize ms[t].b=tb at*
 generalize ms[t].mb=tm at*
 clear htl
 unfold RS.hasRoom
 generalize Vg s=nm at*
 generalize hhs:Qf s=hs at*
 clear hhs
 by_cases hc:c=14
 ·subst hc
  go_enter Tryz.func85,Tryz.ntmps85
  go_wp2_with fail
  refine KL.out.mono ?_
  rintro e w1 ⟨rfl,rfl⟩
  go_wp2
  go_ret
  exact ⟨by simp,Qi _ w⟩
 ·have hc':((c:Int)==14)=false:=by simpa using (show ¬(c:Int)=14 by omega)
  have hcd:decide (c=14)=false:=by simpa using hc
  rw [hcd]
  go_enter Tryz.func85,Tryz.ntmps85
  go_wp2_with fail
  refine KL.out.mono ?_
  rintro e w1 ⟨rfl,rfl⟩
  go_wp2_with fail
  refine KT.out.mono ?_
  rintro e w2 ⟨rfl,b2⟩
  have B2:=hid b2
  obtain ⟨d1,d3⟩:=HC.out w2 b2
  have hlen:=HL.out w2 b2
  have KH2:=hid (KH.out w2 b2)
  clear b2 KT KL HC HL KH
  cases hem:nm.toList.isEmpty with
  |true=>
   cases hs with
   |true=>
    by_cases h3:st.opn.length<=3
    ·have h3':(st.opn.length:Int)<=3:=by omega
     go_wp2
     go_ret
     exact ⟨by first|(simp [hem,h3];done)|(simp [hem,h3];omega),B2.out⟩
    ·exact z9g
   |false=>
    go_wp2
    go_ret
    exact ⟨by first|(simp [hem];done)|(simp [hem];omega),B2.out⟩
  |false=>
   cases hha:Uh l nm with
   |true=>
    rw [hha] at KH2
    go_wp2_with fail
    refine KH2.out.mono ?_
    rintro e w3 ⟨rfl,rfl⟩
    cases hs with
    |true=>
     by_cases h3:st.opn.length<=3
     ·have h3':(st.opn.length:Int)<=3:=by omega
      go_wp2
      go_ret
      exact ⟨by first|(simp [hha,h3];done)|(simp [hem,hha,h3];done),B2.out⟩
     ·exact z9g
    |false=>
     go_wp2
     go_ret
     exact ⟨by first|(simp [hha];done)|(simp [hem,hha];done),B2.out⟩
   |false=>
    rw [hha] at KH2
    go_wp2_with fail
    refine KH2.out.mono ?_
    rintro e w3 ⟨rfl,rfl⟩
    by_cases hl4:l.length=4
    ·rw [hl4] at hlen
     go_wp2
     go_ret
     exact ⟨by first|(simp [hem,hha,hl4];done),B2.out⟩
    ·have hl4':((l.length:Int)==4)=false:=by simpa using (show ¬(l.length:Int)=4 by omega)
     cases hs with
     |true=>
      by_cases h3:st.opn.length<=3
      ·have h3':(st.opn.length:Int)<=3:=by omega
       go_wp2
       go_ret
       exact ⟨by first|(simp [hem,hl4,h3];done)|(simp [hem,hl4,h3];omega),B2.out⟩
      ·have h3': ¬(st.opn.length:Int)<=3:=by omega
       go_wp2
       go_ret
       exact ⟨by first|(simp [hem,hl4,h3];done)|(simp [hem,hl4,h3];omega),B2.out⟩
     |false=>
      go_wp2
      go_ret
      exact ⟨by first|(simp [hem,hl4];done)|(simp [hem,hl4];omega),B2.out⟩
end
attribute [local go_sem] Yr zdx zal Gk Vw Ik Fo Yf Ys zdy zam Gn Yt zdz zan Gr Yu zd0 zao Yo Vh Sj Er Zm Yb zbv zcr Ux Zc In Fb Yx
section
variable{w:World}{b:Nat}{rv:Value}
theorem zj6(s:St)(hh:Qf s=false):Cl 118 #[stV s] w λe w'=>e= .returned (.slice none 0 0)/\w'=w:=by
 rcases s with ⟨to,a⟩|⟨to,k,a,c⟩|⟨to,f,a⟩|⟨f,a,c⟩|a|⟨⟩|a|n
 ·exact z71
 ·exact z71
 ·exact z71
 ·exact z71
 ·exact z71
 ·simp [Qf] at hh
 ·simp [Qf] at hh
 ·simp [Qf] at hh
theorem zoc(s:St)(hh:Qf s=true)(hc:w.cell? ⟨b,0,none⟩=some rv):Cl 118 #[.iface (hkT (.st s)) (ptr b)] w λe w'=>e= .returned rv/\w'=w:=by
 rcases s with ⟨to,a⟩|⟨to,k,a,c⟩|⟨to,f,a⟩|⟨f,a,c⟩|a|⟨⟩|a|n
 ·simp [Qf] at hh
 ·simp [Qf] at hh
 ·simp [Qf] at hh
 ·simp [Qf] at hh
 ·simp [Qf] at hh
 ·exact z89
 ·exact z89
 ·exact z89
def Jk:St->Int
 | .inr (.inr (.inr (.inr (.inr (.inr (.inr n))))))=>n
 |_=>1
theorem zfp(s:St)(hh:Qf s=false):Cl 117 #[stV s] w λe w'=>e= .returned (.int .i64 1)/\w'=w:=by
 rcases s with ⟨to,a⟩|⟨to,k,a,c⟩|⟨to,f,a⟩|⟨f,a,c⟩|a|⟨⟩|a|n
 ·exact z72
 ·exact z72
 ·exact z72
 ·exact z72
 ·exact z72
 ·simp [Qf] at hh
 ·simp [Qf] at hh
 ·simp [Qf] at hh
theorem zrh(s:St)(hh:Qf s=true)(hc:HkAt w b mb (.st s)):Cl 117 #[.iface (hkT (.st s)) (ptr b)] w λe w'=>e= .returned (.int .i64 (Jk s))/\w'=w:=by
 rcases s with ⟨to,a⟩|⟨to,k,a,c⟩|⟨to,f,a⟩|⟨f,a,c⟩|a|⟨⟩|a|n
 ·simp [Qf] at hh
 ·simp [Qf] at hh
 ·simp [Qf] at hh
 ·simp [Qf] at hh
 ·simp [Qf] at hh
 ·exact yae
 ·exact yae
 ·simp only [hkT,Jk]
  have hc1:w.cell? ⟨b,1,none⟩=some (.int .i64 n):=hc
  go_enter Tryz.func117,Tryz.ntmps117
  go_wp2
  go_ret
  exact ⟨rfl,rfl⟩
end
theorem zv1(cE:En->Int)(es:List En)(k:Nat)(hk:k<es.length):((es.take (k+1)).map cE).sum=((es.take k).map cE).sum+cE es[k]:=by
 have e:es.take (k+1)=es.take k++[es[k]]:=by rw [List.take_add_one,List.getElem?_eq_getElem hk];rfl
 rw [e,List.map_append,List.sum_append]
 simp only [List.map_cons,List.map_nil,List.sum_cons,List.sum_nil,Int.add_zero]
theorem zap(cE:En->Int)(M:Int)(hM:0<=M): ∀es:List En,(∀e∈es,0<=cE e/\cE e<=M)->0<=(es.map cE).sum/\(es.map cE).sum<=es.length*M
 |[],_=>by simp
 |e::es,h=>by
  have h1:=h e yaj
  have h2:=zap cE M hM es (λx hx=>h x (by simp [hx]))
  simp only [List.map_cons,List.sum_cons,List.length_cons]
  refine ⟨by omega,?_⟩
  have:((es.length+1:Nat):Int)*M=es.length*M+M:=by rw [Int.natCast_add,Int.add_mul];simp
  omega
section
variable{w:World}{rv:Value}{es:List En}{ids:Ids}{tk:Nat}
theorem zd2(hrow:w.ownsRow 0 162 1 rv es.length (es.map (enV ids)))(h14:es.length<=14)(A:World->Prop)(hA:A w)(hAb:Hid (∀w1 w2,A w1->Below w1.heap.size w1 w2->A w2))(kd:En->Bool)(tm ci cE:En->Int)(wi:En->Value)
  (hent: ∀args w,(callFunc tk args).run Tryz.prog w= .ok (.enter tk args) w)
  (KK:Hid (∀w1,A w1->∀e∈es,Cl tk #[enV ids e] w1 λr w'=>r= .returned (.bool (kd e))/\Below w1.heap.size w1 w'))
  (TK:Hid (∀w1,A w1->∀e∈es,Cl 117 #[enV ids e] w1 λr w'=>r= .returned (.int .i64 (tm e))/\w'=w1))
  (WK:Hid (∀w1,A w1->∀e∈es,Cl 118 #[enV ids e] w1 λr w'=>r= .returned (wi e)/\w'=w1))
  (RK:Hid (∀w1,A w1->∀e∈es,Cl 90 #[wi e, .func (.func tk) #[] #[]] w1 λr w'=>r= .returned (.int .i64 (ci e))/\Below w1.heap.size w1 w'))
  (hc:Hid (∀e∈es,cE e=(if kd e=true then 1 else 0)+tm e*ci e)) (hb:Hid (∀e∈es,0<=tm e*ci e/\tm e*ci e<=100000000)):
  Cl 90 #[rv, .func (.func tk) #[] #[]] w λr w'=>r= .returned (.int .i64 (es.map cE).sum)/\Below w.heap.size w w':=by
 obtain ⟨ra,rk,hrv⟩: ∃a k,rv= .slice a es.length k:=z8o
 subst hrv
 have HC:Hid (∀k (hk:k<es.length),∃g,ra=some ⟨g,0,none⟩/\es.length<=rk/\g<w.heap.size/\w.cell? ⟨g,k,none⟩=some (enV ids es[k])):=z7r
 have HS:Hid (∀k,0<=((es.take k).map cE).sum/\((es.take k).map cE).sum<=1500000000):=by
  intro k
  have:=zap cE 100000001 yai (es.take k) (λe he=>by
   have he':e∈es:=List.mem_of_mem_take he
   have:=hb.out e he'
   rw [hc.out e he']
   split<;>omega)
  have hl:(es.take k).length<=14:=by rw [List.length_take];omega
  refine ⟨this.1,Int.le_trans this.2 ?_⟩
  have hl':((es.take k).length:Int)<=14:=yai
  have:=Int.mul_le_mul_of_nonneg_right hl' (show (0:Int)<=100000001 by omega)
  omega
 have HA:=hid hA
 clear hrow hA
 go_enter Tryz.func90,Tryz.ntmps90
 go_wp2
 go_loopw [5,10] (λv5 v10 wr=>∃k:Nat,k<=es.length/\v10= .int .i64 k/\v5= .int .i64 ((es.take k).map cE).sum/\Hid (Below w.heap.size w wr)) (λ_ v10 _=>es.length- (intOf v10).toNat)
 case atStart=>exact ⟨0,Nat.zero_le _,rfl,by simp,Below.refl _ w⟩
 case round=>
  obtain ⟨k,hk,rfl,rfl,hB⟩:=hrel
  have hS:=HS.out k
  by_cases hlt:k<es.length
  ·have hlt':(k:Int)<(es.length:Int):=by omega
   obtain ⟨g,hra,hrk,hg,hcell⟩:=HC.out k hlt
   subst hra
   have hcell':wr.cell? ⟨g,k,none⟩=some (enV ids es[k]):=(hB.out.cell (p:=⟨g,k,none⟩) hg).trans hcell
   have hA1:=hAb.out w wr HA.out hB.out
   have hmem:es[k]∈es:=List.getElem_mem hlt
   have K1:=hid (KK.out wr hA1 es[k] hmem)
   have hS2:=HS.out (k+1)
   have hsn:=zv1 cE es k hlt
   have hcE:=hc.out es[k] hmem
   have hb1:=hb.out es[k] hmem
   have HT:=hid (λw1 h1=>TK.out w1 h1 es[k] hmem)
   have HW:=hid (λw1 h1=>WK.out w1 h1 es[k] hmem)
   have HR:=hid (λw1 h1=>RK.out w1 h1 es[k] hmem)
   have HA1:=hid hA1
   clear hcell hA1
   generalize enV ids es[k]=v at*
   generalize hS0:((es.take k).map cE).sum=S at*
   generalize tm es[k]=t at*
   generalize ci es[k]=c at*
   generalize wi es[k]=wv at*
   have hwm:wrap64 (t*c)=t*c:=yao
   cases hkd:kd es[k] with
   |true=>
    rw [hkd] at K1 hcE
    simp only [if_true] at hcE
    have hw1:wrap64 (S+1)=S+1:=yao
    have hw2:wrap64 (S+1+t*c)=S+1+t*c:=yao
    have hfin:((es.take (k+1)).map cE).sum=S+1+t*c:=yai
    have HF:=hid hfin
    clear hfin hsn hcE hS hS2 hb1
    go_wp2_with fail
    refine K1.out.mono ?_
    rintro e w1 ⟨rfl,b1⟩
    have B1:=hid b1
    clear b1 K1
    go_wp2_with fail
    refine (HT.out w1 (hAb.out _ _ HA1.out B1.out)).mono ?_
    rintro e w2 ⟨rfl,rfl⟩
    go_wp2_with fail
    refine (HW.out _ (hAb.out _ _ HA1.out B1.out)).mono ?_
    rintro e w3 ⟨rfl,rfl⟩
    go_wp2_with fail
    refine (HR.out _ (hAb.out _ _ HA1.out B1.out)).mono ?_
    rintro e w4 ⟨rfl,b4⟩
    have B4:=hid (hB.out.trans ((B1.out.trans (b4.mono B1.out.size)).mono hB.out.size))
    clear b4 B1 HT HW HR
    go_wp2
    go_roundw
    case rel=>exact ⟨k+1,by omega,by go_num,by rw [HF.out,hw2],B4⟩
    case measure=>simp [intOf];omega
   |false=>
    rw [hkd] at K1 hcE
    simp only [Bool.false_eq_true,if_false] at hcE
    have hw2:wrap64 (S+t*c)=S+t*c:=yao
    have hfin:((es.take (k+1)).map cE).sum=S+t*c:=yai
    have HF:=hid hfin
    clear hfin hsn hcE hS hS2 hb1
    go_wp2_with fail
    refine K1.out.mono ?_
    rintro e w1 ⟨rfl,b1⟩
    have B1:=hid b1
    clear b1 K1
    go_wp2_with fail
    refine (HT.out w1 (hAb.out _ _ HA1.out B1.out)).mono ?_
    rintro e w2 ⟨rfl,rfl⟩
    go_wp2_with fail
    refine (HW.out _ (hAb.out _ _ HA1.out B1.out)).mono ?_
    rintro e w3 ⟨rfl,rfl⟩
    go_wp2_with fail
    refine (HR.out _ (hAb.out _ _ HA1.out B1.out)).mono ?_
    rintro e w4 ⟨rfl,b4⟩
    have B4:=hid (hB.out.trans ((B1.out.trans (b4.mono B1.out.size)).mono hB.out.size))
    clear b4 B1 HT HW HR
    go_wp2
    go_roundw
    case rel=>exact ⟨k+1,by omega,by go_num,by rw [HF.out,hw2],B4⟩
    case measure=>simp [intOf];omega
  ·have hlt': ¬(k:Int)<(es.length:Int):=by omega
   have HE:Hid (((es.take k).map cE).sum=(es.map cE).sum):=by
    have:k=es.length:=yai
    rw [this,List.take_length]
    exact rfl
   clear hS
   generalize ((es.take k).map cE).sum=S at*
   go_wp2
   go_ret
   refine ⟨?_,hB.out⟩
   rw [<-HE.out]
   rfl
end
section
variable{M:Nat->Nat->Prop}{D D0:Nat->Prop}{lab lab':Nat->Nat×Nat}{w W:World}{br sb bs:Nat}{tv ov:Value}{st:RS}{ms:List HM}
theorem zaq(ms:List HM)(i:Nat)(hi:i<ms.length)(m':HM)(hb:m'.b=ms[i].b)(hT:hkT m'.h.k=hkT ms[i].h.k):Qu (ms.set i m')=Qu ms:=by
 unfold Qu
 rw [List.map_set,hb,hT]
 apply List.ext_getElem?
 intro j
 by_cases e:i=j
 ·subst e
  rw [List.getElem?_set_self ybk]
  simp [hi]
 ·rw [List.getElem?_set_ne e]
theorem RMach.updH(h:RMach D lab w br sb bs tv ov st ms)(i:Nat)(hi:i<ms.length)(m':HM)(hb:m'.b=ms[i].b)(hT:hkT m'.h.k=hkT ms[i].h.k)(hc:Chg M w W)(hM: ∀k j,k<w.heap.size->M k j->∃x,lab k=(i+1,x))(hlab: ∀k,k<w.heap.size->lab' k=lab k)(hd:HdAt W (Qu ms) m')(hl:LabH D lab' i m'):
  RMach D lab' W br sb bs tv ov {st with hs:=st.hs.set i m'.h} (ms.set i m'):=by
 have lbr:=Qd h.sh
 have no: ∀k l,k<w.heap.size->lab k=l->(∀x,l≠(i+1,x))->∀j,¬M k j:=λk l hk e hl j hm=>by
  obtain ⟨x,hx⟩:=hM k j hk hm
  exact hl x (e.symm.trans hx)
 have kb:=no br _ lbr h.lbr.1 (λx=>by simp)
 have ids:=zaq ms i hi m' hb hT
 exact {
  sh:=(hc.shape _ lbr).trans h.sh,c0:=(hc.cell _ _ lbr (kb _)).trans h.c0,c1:=(hc.cell _ _ lbr (kb _)).trans h.c1,c2:=(hc.cell _ _ lbr (kb _)).trans h.c2,c3:=(hc.cell _ _ lbr (kb _)).trans h.c3,c4:=(hc.cell _ _ lbr (kb _)).trans h.c4
  free:=λj=>(hc.frozen _ _ lbr).trans (h.free j)
  mS:=h.mS.keep hc (no _ _ h.mS.lt h.lsb.1 (λx=>by simp))
  mG:=h.mG.keep hc (no _ _ h.mG.lt h.lbs.1 (λx=>by simp))
  trow:=by rw [ids];exact Qc h.trow hc (λg hg=>no g _ (h.trow.lt g hg).2 (h.ltv g hg).1 (λx=>by simp))
  orow:=by rw [ids];exact Qc h.orow hc (λg hg=>no g _ (h.orow.lt g hg).2 (h.lov g hg).1 (λx=>by simp))
  hd:=λj hj=>by
   rw [ids]
   by_cases e:i=j
   ·subst e;rw [List.getElem_set_self];exact hd
   ·rw [List.getElem_set_ne e]
    have hj':j<ms.length:=ya4
    have hdj:=h.hd j hj'
    have l:=h.lhd j hj'
    have ne: ∀y x,((j+1,y):Nat×Nat)≠(i+1,x):=λy x e'=>e (by simp at e';omega)
    exact hdj.keep hc (no _ _ (Qd hdj.sh) l.b.1 (ne 0)) (λg hg=>no g _ (hdj.row.lt g hg).2 (l.rv g hg).1 (ne 1)) (λht=>no _ _ (hdj.mblt ht) (l.mb ht).1 (ne 2))
  hs:=by simp only;rw [List.map_set,h.hs]
  lbr:=⟨(hlab _ lbr).trans h.lbr.1,h.lbr.2⟩
  lsb:=⟨(hlab _ h.mS.lt).trans h.lsb.1,h.lsb.2⟩
  ltv:=λg hg=>⟨(hlab _ (h.trow.lt g hg).2).trans (h.ltv g hg).1,(h.ltv g hg).2⟩
  lov:=λg hg=>⟨(hlab _ (h.orow.lt g hg).2).trans (h.lov g hg).1,(h.lov g hg).2⟩
  lbs:=⟨(hlab _ h.mG.lt).trans h.lbs.1,h.lbs.2⟩
  lhd:=λj hj=>by
   by_cases e:i=j
   ·subst e;rw [List.getElem_set_self];exact hl
   ·rw [List.getElem_set_ne e]
    have hj':j<ms.length:=ya4
    have hdj:=h.hd j hj'
    have l:=h.lhd j hj'
    exact ⟨⟨(hlab _ (Qd hdj.sh)).trans l.b.1,l.b.2⟩,λg hg=>⟨(hlab _ (hdj.row.lt g hg).2).trans (l.rv g hg).1,(l.rv g hg).2⟩,λht=>⟨(hlab _ (hdj.mblt ht)).trans (l.mb ht).1,(l.mb ht).2⟩⟩}
theorem RMach.hsAt(h:RMach D lab w br sb bs tv ov st ms)(i:Nat)(hi:i<ms.length):st.hs[i]?=some ms[i].h:=by rw [<-h.hs];simp [hi]
theorem RMach.count(h:RMach D lab w br sb bs tv ov st ms)(t:Nat)(ht:t<ms.length)(l:List ByteArray)(c:Nat)(hk:ms[t].h.k= .thr l c):
  RMach D lab (w.setCell ⟨ms[t].b,2,none⟩ (.int .i64 ((c:Int)+1))) br sb bs tv ov {st with hs:=st.hs.set t ⟨.thr l (c+1),ms[t].h.ents⟩} (ms.set t {ms[t] with h:=⟨.thr l (c+1),ms[t].h.ents⟩})/\Chg (λk _=>D k) w (w.setCell ⟨ms[t].b,2,none⟩ (.int .i64 ((c:Int)+1))):=by
 have hd:=h.hd t ht
 have l':=h.lhd t ht
 have lb:=Qd hd.sh
 have hc:Chg (λk i=>k=ms[t].b/\i=2) w (w.setCell ⟨ms[t].b,2,none⟩ (.int .i64 ((c:Int)+1))):=(Chg.refl _ w).setCell (λ_=>⟨rfl,rfl⟩) _
 have hkk:=hd.kind
 rw [hk] at hkk
 have hthr:ms[t].h.k.isThr:=by rw [hk];trivial
 have nr: ∀g,ms[t].rv.ownBlock=some g->g≠ms[t].b:=λg hg e=>by
  have:=(l'.rv g hg).1
  rw [e,l'.b.1] at this
  simp at this
 have nm:ms[t].mb≠ms[t].b:=λe=>by
  have:=(l'.mb hthr).1
  rw [e,l'.b.1] at this
  simp at this
 refine ⟨h.updH t ht {ms[t] with h:=⟨.thr l (c+1),ms[t].h.ents⟩} rfl (by rw [hk];rfl) hc (λk j _ e=>⟨0,e.1▸l'.b.1⟩) (λ_ _=>rfl) ⟨?_,?_,?_,?_,?_⟩ ⟨l'.b,l'.rv,λ_=>l'.mb hthr⟩,hc.mono (λk i _ e=>e.1▸l'.b.2)⟩
 ·exact (hc.shape _ lb).trans (by rw [hd.sh,hk];rfl)
 ·exact (hc.cell _ _ lb (λe=>by omega)).trans hd.rc
 ·exact Qc hd.row hc (λg hg i e=>nr g hg e.1)
 ·exact ⟨(hc.cell _ _ lb (λe=>by omega)).trans hkk.1,by rw [Qg hkk.2.1 rfl];simp,hkk.2.2.keep hc (λi e=>nm e.1)⟩
 ·exact λj=>(hc.frozen _ _ lb).trans (hd.free j)
theorem zri(l:List ByteArray)(u:ByteArray)(hu:Uh l u=false): ∀x,zgd (zjx l) u (.int .i64 l.length) x=zjx (l++[u]) x:=by
 intro x
 unfold zgd zjx
 rw [List.findIdx?_append]
 by_cases e:x=u
 ·subst e
  rw [if_pos rfl]
  have:l.findIdx? (λy=>decide (y=x))=none:=by
   rw [List.findIdx?_eq_none_iff]
   intro y hy
   have:=List.any_eq_false.1 hu y hy
   simpa using this
  rw [this]
  simp
 ·rw [if_neg e]
  have:[u].findIdx? (λy=>decide (y=x))=none:=by
   simp
   exact λe'=>e e'.symm
  rw [this]
  simp
theorem RMach.local(h:RMach D lab w br sb bs tv ov st ms)(t:Nat)(ht:t<ms.length)(l:List ByteArray)(c:Nat)(hk:ms[t].h.k= .thr l c)(u:ByteArray)(hu:u.size<=maxLen)(hnew:Uh l u=false)(hl:l.length<1000):
  ∃W,(Instr.mapUpdate 114 (.map (some ms[t].mb)) (.string u) (.int .i64 l.length)).run Tryz.prog w= .ok () W/\
  RMach D lab W br sb bs tv ov {st with hs:=st.hs.set t ⟨.thr (l++[u]) c,ms[t].h.ents⟩} (ms.set t {ms[t] with h:=⟨.thr (l++[u]) c,ms[t].h.ents⟩})/\Chg (λk _=>D k) w W:=by
 have hd:=h.hd t ht
 have l':=h.lhd t ht
 have lb:=Qd hd.sh
 have hkk:=hd.kind
 rw [hk] at hkk
 have hthr:ms[t].h.k.isThr:=by rw [hk];trivial
 obtain ⟨W,hrun,hm,hc⟩:=hkk.2.2.put Tryz.underlying114 yap hu (.int .i64 l.length)
 have hsome:(zjx l u).isSome=false:=by rw [zho];exact hnew
 rw [hsome] at hm
 simp only [Bool.false_eq_true,if_false] at hm
 have nb:ms[t].b≠ms[t].mb:=λe=>by
  have:=(l'.mb hthr).1
  rw [<-e,l'.b.1] at this
  simp at this
 have nr: ∀g,ms[t].rv.ownBlock=some g->g≠ms[t].mb:=λg hg e=>by
  have:=(l'.rv g hg).1
  rw [e,(l'.mb hthr).1] at this
  simp at this
 refine ⟨W,hrun,h.updH t ht {ms[t] with h:=⟨.thr (l++[u]) c,ms[t].h.ents⟩} rfl (by rw [hk];rfl) hc (λk j _ e=>⟨2,e▸(l'.mb hthr).1⟩) (λ_ _=>rfl) ⟨?_,?_,?_,?_,?_⟩ ⟨l'.b,l'.rv,λ_=>l'.mb hthr⟩,hc.mono (λk i _ e=>e▸(l'.mb hthr).2)⟩
 ·exact (hc.shape _ lb).trans (by rw [hd.sh,hk];rfl)
 ·exact (hc.cell _ _ lb nb).trans hd.rc
 ·exact Qc hd.row hc (λg hg i e=>nr g hg e)
 ·refine ⟨(hc.cell _ _ lb nb).trans hkk.1,(hc.cell _ _ lb nb).trans hkk.2.1,?_⟩
  simp only [List.length_append,List.length_cons,List.length_nil]
  exact hm.congr (zri l u hnew)
 ·exact λj=>(hc.frozen _ _ lb).trans (hd.free j)
end
section
variable{M:Nat->Nat->Prop}{D D0:Nat->Prop}{lab lab':Nat->Nat×Nat}{w W:World}{br sb bs:Nat}{tv ov:Value}{st:RS}{ms:List HM}
theorem zrj(w:World):w.ownsRow 0 162 1 (.slice none 0 0) 0 []:=⟨rfl, .inl ⟨rfl,rfl⟩⟩
def zar(w:World)(s:St)(b:Nat):Prop:=w.shape? b=some (z53 (.st s))/\w.cell? ⟨b,0,none⟩=some (.slice none 0 0)/\HkAt w b 0 (.st s)/\ ∀j,w.frozen? ⟨b,j,none⟩=false
theorem zrk(ids x:Ids)(e:En)(h: ∀j,e= .inr j->j<ids.length):enV (ids++x) e=enV ids e:=by
 cases e with
 |inl s=>rfl
 |inr j=>exact zjy ids x j (h j rfl)
def RS.entOk(st:RS):Prop:=(∀h∈st.hs,∀j, .inr j∈h.ents->j<st.hs.length)/\(∀j∈st.threads,j<st.hs.length)/\ ∀j∈st.opn,j<st.hs.length
theorem RMach.newH(h:RMach D0 lab w br sb bs tv ov st ms)(he:st.entOk)(h0: ∀k,D0 k->D k)(s:St)(b:Nat)(hb:zar w s b)(hD:D b)(hn: ¬D0 b):
  ∃lab',RMach D lab' w br sb bs tv ov {st with hs:=st.hs++[⟨.st s,[]⟩]} (ms++[⟨b, .slice none 0 0,0,⟨.st s,[]⟩⟩]):=by
 let lab':Nat->Nat×Nat:=λk=>if k=b then (ms.length+1,0) else lab k
 have hold: ∀k,D0 k->lab' k=lab k:=λk hk=>if_neg (show ¬k=b from λe=>hn (e▸hk))
 have il:(Qu ms).length=st.hs.length:=h.idl
 have ids:Qu (ms++[⟨b, .slice none 0 0,0,⟨.st s,[]⟩⟩])=Qu ms++[(hkT (.st s),b)]:=by simp [Qu]
 refine ⟨lab',{
  sh:=h.sh,c0:=h.c0,c1:=h.c1,c2:=h.c2,c3:=h.c3,c4:=h.c4,free:=h.free,mS:=h.mS,mG:=h.mG
  trow:=?_,orow:=?_,hd:=?_,hs:=?_
  lbr:=⟨(hold _ h.lbr.2).trans h.lbr.1,h0 _ h.lbr.2⟩
  lsb:=⟨(hold _ h.lsb.2).trans h.lsb.1,h0 _ h.lsb.2⟩
  ltv:=λg hg=>⟨(hold _ (h.ltv g hg).2).trans (h.ltv g hg).1,h0 _ (h.ltv g hg).2⟩
  lov:=λg hg=>⟨(hold _ (h.lov g hg).2).trans (h.lov g hg).1,h0 _ (h.lov g hg).2⟩
  lbs:=⟨(hold _ h.lbs.2).trans h.lbs.1,h0 _ h.lbs.2⟩
  lhd:=?_}⟩
 ·rw [ids]
  have e:st.threads.map (idP (Qu ms++[(hkT (.st s),b)]))=st.threads.map (idP (Qu ms)):=List.map_congr_left λj hj=>zqv _ _ j (by rw [il];exact he.2.1 j hj)
  rw [e]
  exact h.trow
 ·rw [ids]
  have e:st.opn.map (idV (Qu ms++[(hkT (.st s),b)]))=st.opn.map (idV (Qu ms)):=List.map_congr_left λj hj=>zjy _ _ j (by rw [il];exact he.2.2 j hj)
  rw [e]
  exact h.orow
 ·intro i hi
  rw [ids]
  by_cases hi':i<ms.length
  ·rw [List.getElem_append_left hi']
   have hd:=h.hd i hi'
   have e:ms[i].h.ents.map (enV (Qu ms++[(hkT (.st s),b)]))=ms[i].h.ents.map (enV (Qu ms)):=List.map_congr_left λx hx=>zrk _ _ x (λj hj=>by
    rw [il]
    exact he.1 ms[i].h ydk j (hj▸hx))
   exact ⟨hd.sh,hd.rc,by rw [e];exact hd.row,hd.kind,hd.free⟩
  ·exact z8y
 ·simp [h.hs]
 ·intro i hi
  by_cases hi':i<ms.length
  ·exact z8b
  ·obtain rfl:i=ms.length:=by simp at hi;omega
   rw [List.getElem_append_right (Nat.le_refl _)]
   simp only [Nat.sub_self,List.getElem_cons_zero]
   exact ⟨⟨if_pos rfl,hD⟩,λg hg=>by simp [Value.ownBlock] at hg,λht=>ht.elim⟩
theorem zv2:(Tryz.prog.info? 162).map (λi=>(i.zero,i.size,i.bytes))=some (some .nilIface,1,16):=yak
theorem zod:(Tryz.prog.info? 222).map (λi=>(i.zero,i.size,i.bytes))=some (some .nilIface,1,16):=yak
theorem zv3:(Tryz.prog.info? 109).map (λi=>(i.zero,i.size,i.bytes))=some (some (.pointer none),1,8):=yak
theorem RMach.ent(h:RMach D lab w br sb bs tv ov st ms)(hD: ∀k,w.heap.size<=k->D k)(i:Nat)(hi:i<ms.length)(e:En)(o:Obj)
  (ho:w3.ownsRow 0 162 1 (.slice (some ⟨g,0,none⟩) (ms[i].h.ents.length+1) cp) (ms[i].h.ents.length+1) (ms[i].h.ents.map (enV (Qu ms))++[enV (Qu ms) e]))
  (hc:Chg (λk _=>ms[i].rv.ownBlock=some k) (w.alloc o) w3) (hg:ms[i].rv.ownBlock=some g\/g=(w.alloc o).heap.size):
  ∃lab',RMach D lab' (w3.setCell ⟨ms[i].b,0,none⟩ (.slice (some ⟨g,0,none⟩) (ms[i].h.ents.length+1) cp)) br sb bs tv ov {st with hs:=st.hs.set i ⟨ms[i].h.k,ms[i].h.ents++[e]⟩} (ms.set i {ms[i] with rv:= .slice (some ⟨g,0,none⟩) (ms[i].h.ents.length+1) cp,h:=⟨ms[i].h.k,ms[i].h.ents++[e]⟩})/\Chg (λk _=>D k) w (w3.setCell ⟨ms[i].b,0,none⟩ (.slice (some ⟨g,0,none⟩) (ms[i].h.ents.length+1) cp)):=by
 have hd:=h.hd i hi
 have l':=h.lhd i hi
 have lb:=Qd hd.sh
 have hsz:(w.alloc o).heap.size=w.heap.size+1:=yaj
 have hc0:Chg (λk _=>ms[i].rv.ownBlock=some k) w w3:=((Chg.refl _ w).alloc o).trans hc
 have hset:Chg (λk j=>k=ms[i].b/\j=0) w3 (w3.setCell ⟨ms[i].b,0,none⟩ (.slice (some ⟨g,0,none⟩) (ms[i].h.ents.length+1) cp)):=(Chg.refl _ w3).setCell (λ_=>⟨rfl,rfl⟩) _
 have hall:Chg (λk j=>ms[i].rv.ownBlock=some k\/(k=ms[i].b/\j=0)) w (w3.setCell ⟨ms[i].b,0,none⟩ (.slice (some ⟨g,0,none⟩) (ms[i].h.ents.length+1) cp)):=(hc0.mono (λ_ _ _ e=> .inl e)).trans (hset.mono (λ_ _ _ e=> .inr e))
 have nr: ¬ms[i].rv.ownBlock=some ms[i].b:=λe=>by
  have:=(l'.rv _ e).1
  rw [l'.b.1] at this
  simp at this
 have hgb:g≠ms[i].b:=z95
 let lab':Nat->Nat×Nat:=λk=>if k=g then (i+1,1) else lab k
 have hold: ∀k,k<w.heap.size->lab' k=lab k:=by
  intro k hk
  show (if k=g then _ else _)=_
  by_cases e:k=g
  ·rw [if_pos e]
   rcases hg with hg|hg
   ·rw [e];exact ((l'.rv g hg).1).symm
   ·omega
  ·rw [if_neg e]
 have nm:ms[i].h.k.isThr->∀j,¬(ms[i].rv.ownBlock=some ms[i].mb\/(ms[i].mb=ms[i].b/\j=0)):=λht j e=>by
  rcases e with e|e
  ·have:=(l'.rv _ e).1
   rw [(l'.mb ht).1] at this
   simp at this
  ·have:=(l'.mb ht).1
   rw [e.1,l'.b.1] at this
   simp at this
 refine ⟨lab',h.updH i hi {ms[i] with rv:= .slice (some ⟨g,0,none⟩) (ms[i].h.ents.length+1) cp,h:=⟨ms[i].h.k,ms[i].h.ents++[e]⟩} rfl rfl hall ?_ hold ⟨(hall.shape _ lb).trans hd.sh,?_,?_,?_,λj=>(hall.frozen _ _ lb).trans (hd.free j)⟩ ⟨⟨(hold _ lb).trans l'.b.1,l'.b.2⟩,?_,λht=>⟨(hold _ (hd.mblt ht)).trans (l'.mb ht).1,(l'.mb ht).2⟩⟩,hall.mono ?_⟩
 ·rintro k j _ (e|⟨rfl,_⟩)
  ·exact ⟨1,(l'.rv k e).1⟩
  ·exact ⟨0,l'.b.1⟩
 ·exact Qg ((hc0.cell _ _ lb nr).trans hd.rc) rfl
 ·exact z77
 ·refine hd.kind.keep lb hall (λj hj e=>?_) nm
  rcases e with e|e
  ·exact nr e
  ·omega
 ·intro g' hg'
  simp [Value.ownBlock] at hg'
  subst hg'
  refine ⟨if_pos rfl,?_⟩
  rcases hg with e|e
  ·exact (l'.rv _ e).2
  ·exact hD _ yai
 ·rintro k j _ (e|⟨rfl,_⟩)
  ·exact (l'.rv k e).2
  ·exact l'.b.2
theorem zma(h:RMach D lab w br sb bs tv ov st ms)(hD: ∀k,w.heap.size<=k->D k)(i:Nat)(hi:i<ms.length)(e:En)(T:TypeId)(u:Value)(hv:enV (Qu ms) e= .iface T u)(hlen:ms[i].h.ents.length<1000):
  Cl 208 #[ptr ms[i].b, .iface T u] w λe' w'=>e'= .returned (.tuple #[])/\(∃lab' rv,RMach D lab' w' br sb bs tv ov {st with hs:=st.hs.set i ⟨ms[i].h.k,ms[i].h.ents++[e]⟩} (ms.set i {ms[i] with rv:=rv,h:=⟨ms[i].h.k,ms[i].h.ents++[e]⟩}))/\Chg (λk _=>D k) w w':=by
 obtain ⟨i0,hi0,hz0,hz1,hz2⟩:=info_parts zv2
 have hd:=h.hd i hi
 have lb:=Qd hd.sh
 have hc:=hd.rc
 have nr: ¬ms[i].rv.ownBlock=some ms[i].b:=λe=>by
  have:=((h.lhd i hi).rv _ e).1
  rw [(h.lhd i hi).b.1] at this
  simp at this
 have HO:=hid hd.row
 have H:=hid h
 have hl1:ms[i].h.ents.length+1<=maxLen:=yap
 have hl2:(ms[i].h.ents.length+1)*16<=140737488355328:=yai
 have HCB:Hid (∀w3 o,Chg (λk _=>ms[i].rv.ownBlock=some k) (w.alloc o) w3->w3.cell? ⟨ms[i].b,0,none⟩=some ms[i].rv/\w3.frozen? ⟨ms[i].b,0,none⟩=false):=hid (λw3 o hch=>⟨(hch.cell _ _ yan nr).trans ((World.cell?_alloc_past _ _ _ lb).trans hc),(hch.frozen _ _ yan).trans ((World.frozen?_alloc_past _ _ _ lb).trans (hd.free 0))⟩)
 have HRES:=hid (λo w3 g cp=>h.ent hD i hi e o (w3:=w3) (g:=g) (cp:=cp))
 rw [hv] at HRES
 clear h hd nr hlen hD
 generalize hb:ms[i].b=b at*
 generalize hr:ms[i].rv=rv at*
 generalize hm:ms[i].h.ents.map (enV (Qu ms))=xs at*
 generalize hn:ms[i].h.ents.length=n at*
 clear hv
 go_enter Tryz.func208,Tryz.ntmps208
 go_wp2_with (at_builtin;refine Zk rfl _ _ 111 rfl 162 i0 .nilIface 16 Tryz.underlying111 hi0 hz0 hz1 hz2 rfl rv n xs rfl (HO.out.alloc _) ⟨w.heap.size,0,none⟩ (.iface T u) rfl (cell_one_new _ _ _) rfl hl1 hl2 ?_;go_must (intro g cp w3 hown1 hch hg;have hcb:=(HCB.out w3 _ hch).1;have hfb:=(HCB.out w3 _ hch).2;have HO1:=hid hown1;have HC1:=hid hch;have HG1:=hid hg;clear hown1 hch hg))
 go_end0
 obtain ⟨lab',r1,r2⟩:=HRES.out _ w3 g cp HO1.out HC1.out HG1.out
 rw [hb] at r1
 exact ⟨rfl,⟨lab',_,r1⟩,r2⟩
end
section
variable{M:Nat->Nat->Prop}{D D0:Nat->Prop}{lab lab':Nat->Nat×Nat}{w W:World}{br sb bs:Nat}{tv ov tv' ov':Value}{st st':RS}{ms:List HM}
theorem RMach.updB(h:RMach D lab w br sb bs tv ov st ms)(hs':st'.hs=st.hs)(hc:Chg M w W)(hM: ∀k j,k<w.heap.size->M k j->lab k=(0,1)\/lab k=(0,2)\/lab k=(0,3)\/(k=br/\(j=1\/j=2\/j=3)))(hlab: ∀k,k<w.heap.size->lab' k=lab k)
  (c1:W.cell? ⟨br,1,none⟩=some tv') (c2:W.cell? ⟨br,2,none⟩=some (.int .i64 st'.cells)) (c3:W.cell? ⟨br,3,none⟩=some ov') (mS:MapIs W sb (shF st'.shared) st'.shared.length)
  (trow:W.ownsRow 0 109 1 tv' st'.threads.length (st'.threads.map (idP (Qu ms)))) (orow:W.ownsRow 0 222 1 ov' st'.opn.length (st'.opn.map (idV (Qu ms))))
  (ltv: ∀g,tv'.ownBlock=some g->lab' g=(0,2)/\D g) (lov: ∀g,ov'.ownBlock=some g->lab' g=(0,3)/\D g):RMach D lab' W br sb bs tv' ov' st' ms:=by
 have lbr:=Qd h.sh
 have no: ∀k i x,k<w.heap.size->lab k=(i+1,x)->∀j,¬M k j:=λk i x hk e j hm=>by
  rcases hM k j hk hm with q|q|q|⟨rfl,_⟩
  ·rw [e] at q;simp at q
  ·rw [e] at q;simp at q
  ·rw [e] at q;simp at q
  ·rw [h.lbr.1] at e;simp at e
 have kb: ∀j,j=0\/j=4->¬M br j:=λj hj hm=>by
  rcases hM br j lbr hm with q|q|q|⟨_,q⟩
  ·rw [h.lbr.1] at q;simp at q
  ·rw [h.lbr.1] at q;simp at q
  ·rw [h.lbr.1] at q;simp at q
  ·omega
 have nbs: ∀j,¬M bs j:=λj hm=>by
  rcases hM bs j h.mG.lt hm with q|q|q|⟨q,_⟩
  ·rw [h.lbs.1] at q;simp at q
  ·rw [h.lbs.1] at q;simp at q
  ·rw [h.lbs.1] at q;simp at q
  ·have:=h.lbs.1;rw [q,h.lbr.1] at this;simp at this
 exact {
  sh:=(hc.shape _ lbr).trans h.sh,c0:=(hc.cell _ _ lbr (kb 0 (.inl rfl))).trans h.c0,c1:=c1,c2:=c2,c3:=c3,c4:=(hc.cell _ _ lbr (kb 4 (.inr rfl))).trans h.c4
  free:=λj=>(hc.frozen _ _ lbr).trans (h.free j)
  mS:=mS
  mG:=h.mG.keep hc nbs
  trow:=trow,orow:=orow
  hd:=λi hi=>by
   have hd:=h.hd i hi
   have l:=h.lhd i hi
   exact hd.keep hc (no _ _ _ (Qd hd.sh) l.b.1) (λg hg=>no g _ _ (hd.row.lt g hg).2 (l.rv g hg).1) (λht=>no _ _ _ (hd.mblt ht) (l.mb ht).1)
  hs:=h.hs.trans hs'.symm
  lbr:=⟨(hlab _ lbr).trans h.lbr.1,h.lbr.2⟩
  lsb:=⟨(hlab _ h.mS.lt).trans h.lsb.1,h.lsb.2⟩
  ltv:=ltv,lov:=lov
  lbs:=⟨(hlab _ h.mG.lt).trans h.lbs.1,h.lbs.2⟩
  lhd:=λi hi=>by
   have hd:=h.hd i hi
   have l:=h.lhd i hi
   exact ⟨⟨(hlab _ (Qd hd.sh)).trans l.b.1,l.b.2⟩,λg hg=>⟨(hlab _ (hd.row.lt g hg).2).trans (l.rv g hg).1,(l.rv g hg).2⟩,λht=>⟨(hlab _ (hd.mblt ht)).trans (l.mb ht).1,(l.mb ht).2⟩⟩}
theorem zd3{k':Nat}{l l':Nat×Nat}(h:lab k=l)(h':lab k'=l')(hl:l≠l'):k≠k':=λe=>hl (by rw [<-h,<-h',e])
theorem RMach.push(h:RMach D lab w br sb bs tv ov st ms)(hD: ∀k,w.heap.size<=k->D k)(x:Nat)(o:Obj)
  (ho:w3.ownsRow 0 222 1 (.slice (some ⟨g,0,none⟩) (st.opn.length+1) cp) (st.opn.length+1) (st.opn.map (idV (Qu ms))++[idV (Qu ms) x]))
  (hc:Chg (λk _=>ov.ownBlock=some k) (w.alloc o) w3) (hg:ov.ownBlock=some g\/g=(w.alloc o).heap.size):
  ∃lab',RMach D lab' (w3.setCell ⟨br,3,none⟩ (.slice (some ⟨g,0,none⟩) (st.opn.length+1) cp)) br sb bs tv (.slice (some ⟨g,0,none⟩) (st.opn.length+1) cp) {st with opn:=st.opn++[x]} ms/\Chg (λk _=>D k) w (w3.setCell ⟨br,3,none⟩ (.slice (some ⟨g,0,none⟩) (st.opn.length+1) cp)):=by
 have lb:=Qd h.sh
 have hsz:(w.alloc o).heap.size=w.heap.size+1:=yaj
 have hc0:Chg (λk _=>ov.ownBlock=some k) w w3:=((Chg.refl _ w).alloc o).trans hc
 have hset:Chg (λk j=>k=br/\j=3) w3 (w3.setCell ⟨br,3,none⟩ (.slice (some ⟨g,0,none⟩) (st.opn.length+1) cp)):=(Chg.refl _ w3).setCell (λ_=>⟨rfl,rfl⟩) _
 have hall:Chg (λk j=>ov.ownBlock=some k\/(k=br/\j=3)) w (w3.setCell ⟨br,3,none⟩ (.slice (some ⟨g,0,none⟩) (st.opn.length+1) cp)):=(hc0.mono (λ_ _ _ e=> .inl e)).trans (hset.mono (λ_ _ _ e=> .inr e))
 have nr: ¬ov.ownBlock=some br:=λe=>zd3 (h.lov _ e).1 h.lbr.1 yaj rfl
 have hgb:g≠br:=z95
 let lab':Nat->Nat×Nat:=λk=>if k=g then (0,3) else lab k
 have hold: ∀k,k<w.heap.size->lab' k=lab k:=by
  intro k hk
  show (if k=g then _ else _)=_
  by_cases e:k=g
  ·rw [if_pos e]
   rcases hg with hg|hg
   ·rw [e];exact ((h.lov g hg).1).symm
   ·omega
  ·rw [if_neg e]
 have nb: ∀j,j≠3->¬(ov.ownBlock=some br\/(br=br/\j=3)):=λj hj e=>e.elim nr (λe=>hj e.2)
 have nk: ∀k l,lab k=l->l≠(0,3)->l≠(0,0)->∀j,¬(ov.ownBlock=some k\/(k=br/\j=3)):=λk l hk h1 h2 j e=>by
  rcases e with e|e
  ·exact h1 (hk.symm.trans (h.lov k e).1)
  ·exact h2 (hk.symm.trans (e.1▸h.lbr.1))
 refine ⟨lab',h.updB (st':={st with opn:=st.opn++[x]}) rfl hall ?_ hold ((hall.cell _ _ lb (nb 1 yai)).trans h.c1) ((hall.cell _ _ lb (nb 2 yai)).trans h.c2) (Qg ((hc0.cell _ _ lb nr).trans h.c3) rfl) (h.mS.keep hall (nk _ _ h.lsb.1 yaj yaj)) (Qc h.trow hall (λq hq=>nk _ _ (h.ltv q hq).1 yaj yaj)) ?_ (λq hq=>⟨(hold _ (h.trow.lt q hq).2).trans (h.ltv q hq).1,(h.ltv q hq).2⟩) ?_,hall.mono ?_⟩
 ·rintro k j _ (e|⟨rfl,rfl⟩)
  ·exact .inr (.inr (.inl (h.lov k e).1))
  ·exact .inr (.inr (.inr ⟨rfl, .inr (.inr rfl)⟩))
 ·exact z77
 ·intro q hq
  simp [Value.ownBlock] at hq
  subst hq
  refine ⟨if_pos rfl,?_⟩
  rcases hg with e|e
  ·exact (h.lov _ e).2
  ·exact hD _ yai
 ·rintro k j _ (e|⟨rfl,_⟩)
  ·exact (h.lov k e).2
  ·exact h.lbr.2
end
section
variable{M:Nat->Nat->Prop}{D D0:Nat->Prop}{lab lab':Nat->Nat×Nat}{w W:World}{br sb bs bl bw:Nat}{n:Int}{ws:List ByteArray}{tv ov:Value}{st:RS}{ms:List HM}
theorem zhw{xs:List Value}(h:w.ownsRow 0 e 1 (.slice (some ⟨g,0,none⟩) (k+1) cp) (k+1) xs):w.ownsRow 0 e 1 (.slice (some ⟨g,0,none⟩) k cp) k (xs.take k):=by
 obtain ⟨hl,h2⟩:=h
 rcases h2 with ⟨h2,_⟩|⟨g',cap',cur,hv,hb,hg,hn,hm,hs,ht⟩
 ·cases h2
 ·obtain ⟨rfl,rfl⟩:g=g'/\cp=cap':=by simpa using hv
  refine ⟨by rw [List.length_take];omega, .inr ⟨g,cp,cur,rfl,hb,hg,by omega,hm,hs,?_⟩⟩
  rw [<-ht,List.take_take]
  congr 1
  omega
theorem RMach.pop(h:RMach D lab w br sb bs tv ov st ms)(ol:List Nat)(o:Nat)(hop:st.opn=ol++[o])(hov:ov= .slice (some ⟨g,0,none⟩) (ol.length+1) cp):
  RMach D lab (w.setCell ⟨br,3,none⟩ (.slice (some ⟨g,0,none⟩) ol.length cp)) br sb bs tv (.slice (some ⟨g,0,none⟩) ol.length cp) {st with opn:=ol} ms/\Chg (λk _=>D k) w (w.setCell ⟨br,3,none⟩ (.slice (some ⟨g,0,none⟩) ol.length cp)):=by
 subst hov
 have lb:=Qd h.sh
 have hset:Chg (λk j=>k=br/\j=3) w (w.setCell ⟨br,3,none⟩ (.slice (some ⟨g,0,none⟩) ol.length cp)):=(Chg.refl _ w).setCell (λ_=>⟨rfl,rfl⟩) _
 have nk: ∀k l,lab k=l->l≠(0,0)->∀j,¬(k=br/\j=3):=λk l hk h2 j e=>h2 (hk.symm.trans (e.1▸h.lbr.1))
 have hor:=h.orow
 rw [hop] at hor
 simp only [List.length_append,List.length_cons,List.length_nil] at hor
 have hor2:=zhw hor
 have ex:((ol++[o]).map (idV (Qu ms))).take ol.length=ol.map (idV (Qu ms)):=yaj
 rw [ex] at hor2
 refine ⟨h.updB (st':={st with opn:=ol}) rfl hset ?_ (λ_ _=>rfl) ((hset.cell _ _ lb yai).trans h.c1) ((hset.cell _ _ lb yai).trans h.c2) (Qg h.c3 rfl) (h.mS.keep hset (nk _ _ h.lsb.1 yaj)) (Qc h.trow hset (λq hq=>nk _ _ (h.ltv q hq).1 yaj)) (Qc hor2 hset (λq hq=>nk _ _ (h.lov q hq).1 yaj)) h.ltv h.lov,hset.mono (λk j _ e=>e.1▸h.lbr.2)⟩
 rintro k j _ ⟨rfl,rfl⟩
 exact .inr (.inr (.inr ⟨rfl, .inr (.inr rfl)⟩))
theorem zrl{us:List ByteArray}(hL:LineAt w bl n bw (u::us)):Cl 56 #[ptr br,ptr bl] w λe w'=>Fails 2 n bl w e w':=by
 have H:=hid hL
 clear hL
 go_enter Tryz.func56,Tryz.ntmps56
 go_wp2_with fail
 refine (zc0 H.out).mono ?_
 rintro e w1 ⟨bf,rfl,h1⟩
 exact ⟨rfl,bf,rfl,h1⟩
theorem zoe(h:RMach D lab w br sb bs tv ov st ms)(hL:LineAt w bl n bw [])(hlt:st.opn.length<2):Cl 56 #[ptr br,ptr bl] w λe w'=>Fails 3 n bl w e w':=by
 have c3:=h.c3
 obtain ⟨oa,ok,hov⟩: ∃a k,ov= .slice a st.opn.length k:=z7v
 rw [hov] at c3
 have hlt':(st.opn.length:Int)<2:=yai
 have H:=hid hL
 clear hL h hov
 go_enter Tryz.func56,Tryz.ntmps56
 go_wp2_with fail
 refine (Eo H.out).mono ?_
 rintro e w1 ⟨rfl,rfl⟩
 go_wp2_with fail
 refine (Jv H.out 3).mono ?_
 rintro e w1 ⟨bf,rfl,h1⟩
 exact ⟨rfl,bf,rfl,h1⟩
theorem z0e(h:RMach D lab w br sb bs tv ov st ms)(hL:LineAt w bl n bw [])(ol:List Nat)(o:Nat)(hop:st.opn=ol++[o])(h1:0<ol.length)(h4:ol.length<1000):
  Cl 56 #[ptr br,ptr bl] w λe w'=>e= .returned (.tuple #[])/\(∃lab' ov' ms',RMach D lab' w' br sb bs tv ov' {st with opn:=ol} ms')/\Chg (λk _=>D k) w w':=by
 have hr:=h.orow
 rw [hop] at hr
 simp only [List.length_append,List.length_cons,List.length_nil] at hr
 obtain ⟨g,cp,hov,hcp⟩: ∃g cp,ov= .slice (some ⟨g,0,none⟩) (ol.length+1) cp/\ol.length+1<=cp:=yaa
 have r1:=h.below (w':=w.drew) (Qi _ w)
 have R:=hid (r1.pop ol o hop hov)
 have c3:=h.c3
 have f3:=h.free 3
 rw [hov] at c3
 have H:=hid hL
 have hlt': ¬(ol.length:Int)+1<2:=yai
 have hw1:wrap64 ((ol.length:Int)+1- 1)=(ol.length:Int):=yao
 have hw2:IntKind.i64.wrap (ol.length:Int)=(ol.length:Int):=yar
 have hw3:(ol.length:Int)<=(cp:Int):=yai
 clear h hL hr hov r1
 go_enter Tryz.func56,Tryz.ntmps56
 go_wp2_with fail
 refine (Eo H.out).mono ?_
 rintro e w1 ⟨rfl,rfl⟩
 go_wp2_with fail
 go_region
 all_goals
  go_wp2
  go_end0
  exact ⟨rfl,⟨lab,_,_,R.out.1⟩,((Chg.refl (λk _=>D k) _).drew).trans R.out.2⟩
end
section
variable{M:Nat->Nat->Prop}{D D0:Nat->Prop}{lab lab':Nat->Nat×Nat}{w W:World}{br sb bs bl bw:Nat}{n:Int}{ws:List ByteArray}{tv ov:Value}{st:RS}{ms:List HM}
def zmb(w:World)(b mb:Nat):Prop:=w.shape? b=some (116,3)/\w.cell? ⟨b,0,none⟩=some (.slice none 0 0)/\HkAt w b mb (.thr [] 0)/\ ∀j,w.frozen? ⟨b,j,none⟩=false
theorem RMach.newT(h:RMach D0 lab w br sb bs tv ov st ms)(he:st.entOk)(h0: ∀k,D0 k->D k)(b mb:Nat)(hb:zmb w b mb)(hD:D b)(hDm:D mb)(hn: ¬D0 b)(hnm: ¬D0 mb)(hbm:b≠mb):
  ∃lab',RMach D lab' w br sb bs tv ov {st with hs:=st.hs++[⟨.thr [] 0,[]⟩]} (ms++[⟨b, .slice none 0 0,mb,⟨.thr [] 0,[]⟩⟩]):=by
 let lab':Nat->Nat×Nat:=λk=>if k=b then (ms.length+1,0) else if k=mb then (ms.length+1,2) else lab k
 have hold: ∀k,D0 k->lab' k=lab k:=λk hk=>by
  show (if k=b then _ else if k=mb then _ else _)=_
  rw [if_neg (show ¬k=b from λe=>hn (e▸hk)),if_neg (show ¬k=mb from λe=>hnm (e▸hk))]
 have il:(Qu ms).length=st.hs.length:=h.idl
 have ids:Qu (ms++[⟨b, .slice none 0 0,mb,⟨.thr [] 0,[]⟩⟩])=Qu ms++[(hkT (.thr [] 0),b)]:=by simp [Qu]
 refine ⟨lab',{
  sh:=h.sh,c0:=h.c0,c1:=h.c1,c2:=h.c2,c3:=h.c3,c4:=h.c4,free:=h.free,mS:=h.mS,mG:=h.mG
  trow:=?_,orow:=?_,hd:=?_,hs:=?_
  lbr:=⟨(hold _ h.lbr.2).trans h.lbr.1,h0 _ h.lbr.2⟩
  lsb:=⟨(hold _ h.lsb.2).trans h.lsb.1,h0 _ h.lsb.2⟩
  ltv:=λg hg=>⟨(hold _ (h.ltv g hg).2).trans (h.ltv g hg).1,h0 _ (h.ltv g hg).2⟩
  lov:=λg hg=>⟨(hold _ (h.lov g hg).2).trans (h.lov g hg).1,h0 _ (h.lov g hg).2⟩
  lbs:=⟨(hold _ h.lbs.2).trans h.lbs.1,h0 _ h.lbs.2⟩
  lhd:=?_}⟩
 ·rw [ids]
  have e:st.threads.map (idP (Qu ms++[(hkT (.thr [] 0),b)]))=st.threads.map (idP (Qu ms)):=List.map_congr_left λj hj=>zqv _ _ j (by rw [il];exact he.2.1 j hj)
  rw [e]
  exact h.trow
 ·rw [ids]
  have e:st.opn.map (idV (Qu ms++[(hkT (.thr [] 0),b)]))=st.opn.map (idV (Qu ms)):=List.map_congr_left λj hj=>zjy _ _ j (by rw [il];exact he.2.2 j hj)
  rw [e]
  exact h.orow
 ·intro i hi
  rw [ids]
  by_cases hi':i<ms.length
  ·rw [List.getElem_append_left hi']
   have hd:=h.hd i hi'
   have e:ms[i].h.ents.map (enV (Qu ms++[(hkT (.thr [] 0),b)]))=ms[i].h.ents.map (enV (Qu ms)):=List.map_congr_left λx hx=>zrk _ _ x (λj hj=>by
    rw [il]
    exact he.1 ms[i].h ydk j (hj▸hx))
   exact ⟨hd.sh,hd.rc,by rw [e];exact hd.row,hd.kind,hd.free⟩
  ·exact z8y
 ·simp [h.hs]
 ·intro i hi
  by_cases hi':i<ms.length
  ·exact z8b
  ·obtain rfl:i=ms.length:=by simp at hi;omega
   rw [List.getElem_append_right (Nat.le_refl _)]
   simp only [Nat.sub_self,List.getElem_cons_zero]
   refine ⟨⟨if_pos rfl,hD⟩,λg hg=>by simp [Value.ownBlock] at hg,λ_=>⟨?_,hDm⟩⟩
   show (if mb=b then _ else if mb=mb then _ else _)=_
   rw [if_neg (λe=>hbm e.symm),if_pos rfl]
theorem RMach.pushT(h:RMach D lab w br sb bs tv ov st ms)(hD: ∀k,w.heap.size<=k->D k)(x:Nat)(o:Obj)
  (ho:w3.ownsRow 0 109 1 (.slice (some ⟨g,0,none⟩) (st.threads.length+1) cp) (st.threads.length+1) (st.threads.map (idP (Qu ms))++[idP (Qu ms) x]))
  (hc:Chg (λk _=>tv.ownBlock=some k) (w.alloc o) w3) (hg:tv.ownBlock=some g\/g=(w.alloc o).heap.size):
  ∃lab',RMach D lab' (w3.setCell ⟨br,1,none⟩ (.slice (some ⟨g,0,none⟩) (st.threads.length+1) cp)) br sb bs (.slice (some ⟨g,0,none⟩) (st.threads.length+1) cp) ov {st with threads:=st.threads++[x]} ms/\Chg (λk _=>D k) w (w3.setCell ⟨br,1,none⟩ (.slice (some ⟨g,0,none⟩) (st.threads.length+1) cp)):=by
 have lb:=Qd h.sh
 have hsz:(w.alloc o).heap.size=w.heap.size+1:=yaj
 have hc0:Chg (λk _=>tv.ownBlock=some k) w w3:=((Chg.refl _ w).alloc o).trans hc
 have hset:Chg (λk j=>k=br/\j=1) w3 (w3.setCell ⟨br,1,none⟩ (.slice (some ⟨g,0,none⟩) (st.threads.length+1) cp)):=(Chg.refl _ w3).setCell (λ_=>⟨rfl,rfl⟩) _
 have hall:Chg (λk j=>tv.ownBlock=some k\/(k=br/\j=1)) w (w3.setCell ⟨br,1,none⟩ (.slice (some ⟨g,0,none⟩) (st.threads.length+1) cp)):=(hc0.mono (λ_ _ _ e=> .inl e)).trans (hset.mono (λ_ _ _ e=> .inr e))
 have nr: ¬tv.ownBlock=some br:=λe=>zd3 (h.ltv _ e).1 h.lbr.1 yaj rfl
 have hgb:g≠br:=z95
 let lab':Nat->Nat×Nat:=λk=>if k=g then (0,2) else lab k
 have hold: ∀k,k<w.heap.size->lab' k=lab k:=by
  intro k hk
  show (if k=g then _ else _)=_
  by_cases e:k=g
  ·rw [if_pos e]
   rcases hg with hg|hg
   ·rw [e];exact ((h.ltv g hg).1).symm
   ·omega
  ·rw [if_neg e]
 have nb: ∀j,j≠1->¬(tv.ownBlock=some br\/(br=br/\j=1)):=λj hj e=>e.elim nr (λe=>hj e.2)
 have nk: ∀k l,lab k=l->l≠(0,2)->l≠(0,0)->∀j,¬(tv.ownBlock=some k\/(k=br/\j=1)):=λk l hk h1 h2 j e=>by
  rcases e with e|e
  ·exact h1 (hk.symm.trans (h.ltv k e).1)
  ·exact h2 (hk.symm.trans (e.1▸h.lbr.1))
 refine ⟨lab',h.updB (st':={st with threads:=st.threads++[x]}) rfl hall ?_ hold (Qg ((hc0.cell _ _ lb nr).trans h.c1) rfl) ((hall.cell _ _ lb (nb 2 yai)).trans h.c2) ((hall.cell _ _ lb (nb 3 yai)).trans h.c3) (h.mS.keep hall (nk _ _ h.lsb.1 yaj yaj)) ?_ (Qc h.orow hall (λq hq=>nk _ _ (h.lov q hq).1 yaj yaj)) ?_ (λq hq=>⟨(hold _ (h.orow.lt q hq).2).trans (h.lov q hq).1,(h.lov q hq).2⟩),hall.mono ?_⟩
 ·rintro k j _ (e|⟨rfl,rfl⟩)
  ·exact .inr (.inl (h.ltv k e).1)
  ·exact .inr (.inr (.inr ⟨rfl, .inl rfl⟩))
 ·exact z77
 ·intro q hq
  simp [Value.ownBlock] at hq
  subst hq
  refine ⟨if_pos rfl,?_⟩
  rcases hg with e|e
  ·exact (h.ltv _ e).2
  ·exact hD _ yai
 ·rintro k j _ (e|⟨rfl,_⟩)
  ·exact (h.ltv k e).2
  ·exact h.lbr.2
theorem z0f(w:World)(v:Value)(T:TypeId):(w.alloc (.cells #[v] T)).ownsRow 0 T 1 (.slice (some ⟨w.heap.size,0,none⟩) 1 1) 1 [v]:=
 ⟨rfl, .inr ⟨_,1,#[v],rfl,Nat.zero_le _,(show (w.heap.push _)[w.heap.size]?=_ from Array.getElem?_push_size),Nat.le_refl _,by unfold maxLen;omega,rfl,rfl⟩⟩
theorem RMach.setO(h:RMach D lab w br sb bs tv ov st ms)(hD: ∀k,w.heap.size<=k->D k)(x:Nat)(v:Value)(hv:idV (Qu ms) x=v):
  ∃lab',RMach D lab' ((w.alloc (.cells #[v] 222)).setCell ⟨br,3,none⟩ (.slice (some ⟨w.heap.size,0,none⟩) 1 1)) br sb bs tv (.slice (some ⟨w.heap.size,0,none⟩) 1 1) {st with opn:=[x]} ms/\Chg (λk _=>D k) w ((w.alloc (.cells #[v] 222)).setCell ⟨br,3,none⟩ (.slice (some ⟨w.heap.size,0,none⟩) 1 1)):=by
 have lb:=Qd h.sh
 have hall:Chg (λk j=>k=br/\j=3) w ((w.alloc (.cells #[v] 222)).setCell ⟨br,3,none⟩ (.slice (some ⟨w.heap.size,0,none⟩) 1 1)):=((Chg.refl (λk j=>k=br/\j=3) w).alloc _).setCell (λ_=>⟨rfl,rfl⟩) _
 have hset:Chg (λk j=>k=br/\j=3) (w.alloc (.cells #[v] 222)) ((w.alloc (.cells #[v] 222)).setCell ⟨br,3,none⟩ (.slice (some ⟨w.heap.size,0,none⟩) 1 1)):=(Chg.refl _ _).setCell (λ_=>⟨rfl,rfl⟩) _
 let lab':Nat->Nat×Nat:=λk=>if k=w.heap.size then (0,3) else lab k
 have hold: ∀k,k<w.heap.size->lab' k=lab k:=λk hk=>if_neg yai
 have nk: ∀k l,lab k=l->l≠(0,0)->∀j,¬(k=br/\j=3):=λk l hk h2 j e=>h2 (hk.symm.trans (e.1▸h.lbr.1))
 refine ⟨lab',h.updB (st':={st with opn:=[x]}) rfl hall ?_ hold ((hall.cell _ _ lb yai).trans h.c1) ((hall.cell _ _ lb yai).trans h.c2) (Qg ((World.cell?_alloc_past _ _ _ lb).trans h.c3) rfl) (h.mS.keep hall (nk _ _ h.lsb.1 yaj)) (Qc h.trow hall (λq hq=>nk _ _ (h.ltv q hq).1 yaj)) ?_ (λq hq=>⟨(hold _ (h.trow.lt q hq).2).trans (h.ltv q hq).1,(h.ltv q hq).2⟩) ?_,hall.mono (λk j _ e=>e.1▸h.lbr.2)⟩
 ·rintro k j _ ⟨rfl,rfl⟩
  exact .inr (.inr (.inr ⟨rfl, .inr (.inr rfl)⟩))
 ·have:=Qc (z0f w v 222) hset (λk hk j e=>by simp [Value.ownBlock] at hk;omega)
  simpa [hv] using this
 ·intro q hq
  simp [Value.ownBlock] at hq
  subst hq
  exact ⟨if_pos rfl,hD _ (Nat.le_refl _)⟩
end
end Go.Proofs.YtphcopbffecceaaGreatDoor
