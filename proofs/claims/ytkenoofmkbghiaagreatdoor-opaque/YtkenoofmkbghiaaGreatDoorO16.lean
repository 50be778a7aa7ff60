import Derived.Test.YtkenoofmkbghiaaGreatDoorO13
import Derived.Maps.OwnSet
import Derived.StringKeys
set_option maxRecDepth 100000
set_option maxHeartbeats 1000000
namespace Go.Proofs.YtkenoofmkbghiaaGreatDoor
open Go.RowKit
variable{u:ByteArray}{W w' w1:World}{e t:TypeId}{z:Value}
def small(b:UInt8):Bool:=decide (97<=b.toNat)&&decide (b.toNat<=122)
def Vo(u:ByteArray):Bool:=decide (0<u.size)&&(decide (u.size<=6)&&u.data.toList.all small)
structure PV where
 name:ByteArray
 num:Int
def pvV(x:PV):Value:= .agg #[.string x.name, .int .i64 x.num]
def gNm:List ByteArray->Option (ByteArray×List ByteArray)
 |[]=>none
 |u::ws=>if Vo u=true then some (u,ws) else none
def gPV:List ByteArray->Option (PV×List ByteArray)
 |[]=>none
 |u::ws=>if Vo u=true then some (⟨u,0⟩,ws) else (Qk u).map λv=>(⟨ByteArray.empty,v⟩,ws)
section
variable{w:World}{bl bw:Nat}{n:Int}{ws ws1:List ByteArray}
theorem zl0(h:u.data.toList.all small=true)(j:Nat)(hj:j<u.size):97<=u[j].toNat/\u[j].toNat<=122:=by
 have:=List.all_eq_true.1 h u[j] (by
  have:u[j]=u.data.toList[j]'(by simpa using hj):=by simp [ByteArray.getElem_eq_getElem_data]
  rw [this]
  exact List.getElem_mem _)
 simpa [small] using this
theorem zl1(h:u.data.toList.all small=false): ∃k,∃hk:k<u.size,(u[k].toNat<97\/122<u[k].toNat)/\ ∀j (h:j<u.size),j<k->97<=u[j].toNat/\u[j].toNat<=122:=by
 have hex: ∃k,∃hk:k<u.size,u[k].toNat<97\/122<u[k].toNat:=by
  obtain ⟨x,hx,hs⟩:=List.all_eq_false.1 h
  obtain ⟨k,hk,rfl⟩:=List.getElem_of_mem hx
  have hk':k<u.size:=by simpa using hk
  refine ⟨k,hk',?_⟩
  have:u[k]=u.data.toList[k]:=by simp [ByteArray.getElem_eq_getElem_data]
  rw [this]
  simp [small] at hs
  simp
  omega
 classical
 obtain ⟨k,hk⟩: ∃k,(∃hk:k<u.size,u[k].toNat<97\/122<u[k].toNat)/\ ∀j,j<k->¬∃hk:j<u.size,u[j].toNat<97\/122<u[j].toNat:=by
  have: ∀n,(∃k,k<n/\ ∃hk:k<u.size,u[k].toNat<97\/122<u[k].toNat)->∃k,(∃hk:k<u.size,u[k].toNat<97\/122<u[k].toNat)/\ ∀j,j<k->¬∃hk:j<u.size,u[j].toNat<97\/122<u[j].toNat:=by
   intro n
   induction n with
   |zero=>rintro ⟨k,hk,_⟩;omega
   |succ n ih=>
    rintro ⟨k,hk,h⟩
    by_cases hlt: ∃k,k<n/\ ∃hk:k<u.size,u[k].toNat<97\/122<u[k].toNat
    ·exact ih hlt
    ·have:k=n:=by
      by_cases h':k<n
      ·exact absurd ⟨k,h',h⟩ hlt
      ·omega
     subst this
     exact ⟨k,h,λj hj hh=>hlt ⟨j,hj,hh⟩⟩
  obtain ⟨k,hk⟩:=hex
  exact this (k+1) ⟨k,by omega,hk⟩
 obtain ⟨⟨hlt,hb⟩,hf⟩:=hk
 refine ⟨k,hlt,hb,λj hj hjk=>?_⟩
 have:=hf j hjk
 have h2: ¬(u[j].toNat<97\/122<u[j].toNat):=λh=>this ⟨hj,h⟩
 omega
theorem zjs(w:World)(u:ByteArray)(h:u.size=0\/6<u.size):
  Cl 119 #[.string u] w λe w'=>e= .returned (.bool false)/\w'=w:=by
 by_cases h0:u.size=0
 ·have he:u.toList.isEmpty=true:=by
   rw [ByteArray.toList_eq]
   have:u.data.toList=[]:=List.length_eq_zero_iff.1 (by simpa using h0)
   rw [this];rfl
  go_enter Tryz.func119,Tryz.ntmps119
  go_wp2
  go_ret
  exact ⟨rfl,rfl⟩
 ·have he:u.toList.isEmpty=false:=Ey yum
  have h6:(6:Int)<(u.size:Int):=yum
  go_enter Tryz.func119,Tryz.ntmps119
  go_wp2
  go_ret
  exact ⟨rfl,rfl⟩
theorem zn2(w:World)(u:ByteArray)(h0:0<u.size)(h6:u.size<=6)(hd:Hid (∀j (h:j<u.size),97<=u[j].toNat/\u[j].toNat<=122)):
  Cl 119 #[.string u] w λe w'=>e= .returned (.bool true)/\w'=w:=by
 have he:u.toList.isEmpty=false:=Ey yum
 have h6': ¬(6:Int)<(u.size:Int):=yum
 go_enter Tryz.func119,Tryz.ntmps119
 go_wp2
 go_loopw [13] (λv wr=>∃k:Nat,k<=u.size/\v= .int .i64 k/\wr=w) (λv _=>u.size- (intOf v).toNat)
 case atStart=>exact ⟨0,by omega,rfl,rfl⟩
 case round=>
  obtain ⟨k,hk,rfl,rfl⟩:=hrel
  by_cases hlt:k<u.size
  ·have hlt':(k:Int)<(u.size:Int):=by omega
   obtain ⟨d1,d2⟩:=hd.out k hlt
   have q1: ¬(u[k].toNat:Int)<97:=yum
   have q2: ¬(122:Int)<(u[k].toNat:Int):=yum
   go_wp2
   go_roundw
   case rel=>exact ⟨k+1,by omega,by go_num,trivial⟩
   case measure=>simp [intOf];omega
  ·have hlt': ¬(k:Int)<(u.size:Int):=by omega
   go_wp2
   go_ret
   exact ⟨rfl,rfl⟩
theorem zqo(w:World)(u:ByteArray)(h0:0<u.size)(h6:u.size<=6)(k0:Nat)(hk0:k0<u.size)(hb:u[k0].toNat<97\/122<u[k0].toNat)(hd:Hid (∀j (h:j<u.size),j<k0->97<=u[j].toNat/\u[j].toNat<=122)):
  Cl 119 #[.string u] w λe w'=>e= .returned (.bool false)/\w'=w:=by
 have he:u.toList.isEmpty=false:=Ey yum
 have h6': ¬(6:Int)<(u.size:Int):=yum
 go_enter Tryz.func119,Tryz.ntmps119
 go_wp2
 go_loopw [13] (λv wr=>∃k:Nat,k<=k0/\v= .int .i64 k/\wr=w) (λv _=>u.size- (intOf v).toNat)
 case atStart=>exact ⟨0,by omega,rfl,rfl⟩
 case round=>
  obtain ⟨k,hk,rfl,rfl⟩:=hrel
  have hlt:k<u.size:=yum
  have hlt':(k:Int)<(u.size:Int):=yum
  by_cases hkn:k<k0
  ·obtain ⟨d1,d2⟩:=hd.out k hlt hkn
   have q1: ¬(u[k].toNat:Int)<97:=yum
   have q2: ¬(122:Int)<(u[k].toNat:Int):=yum
   go_wp2
   go_roundw
   case rel=>exact ⟨k+1,by omega,by go_num,trivial⟩
   case measure=>simp [intOf];omega
  ·obtain rfl:k=k0:=by omega
   by_cases q1:(u[k].toNat:Int)<97
   ·go_wp2
    go_ret
    exact ⟨rfl,rfl⟩
   ·have q2:(122:Int)<(u[k].toNat:Int):=by omega
    go_wp2
    go_ret
    exact ⟨rfl,rfl⟩
theorem Fj(w:World)(u:ByteArray):Cl 119 #[.string u] w λe w'=>e= .returned (.bool (Vo u))/\w'=w:=by
 by_cases h0:u.size=0\/6<u.size
 ·have e:Vo u=false:=by
   unfold Vo
   rcases h0 with h|h
   ·have: ¬0<u.size:=by omega
    simp [this]
   ·have: ¬u.size<=6:=by omega
    simp [this]
  rw [e]
  exact zjs w u h0
 ·have h1:0<u.size:=by omega
  have h6:u.size<=6:=yum
  have e:Vo u=u.data.toList.all small:=by unfold Vo;simp [h1,h6]
  rw [e]
  cases ha:u.data.toList.all small with
  |true=>exact zn2 w u h1 h6 (zl0 ha)
  |false=>
   obtain ⟨k,hk,hb,hd⟩:=zl1 ha
   exact zqo w u h1 h6 k hk hb hd
theorem zcp(h:LineAt w bl n bw ws)(hz:SzOk ws):
  Cl 83 #[ptr bl] w λe w'=>Rds bl n bw w ((gNm ws).map λp=>(.string p.1,p.2)) e w':=by
 have H:=hid h
 clear h
 cases ws with
 |nil=>
  go_enter Tryz.func83,Tryz.ntmps83
  go_wp2_with fail
  refine (Fg H.out).mono ?_
  rintro e w1 ⟨bf,rfl,h1⟩
  exact ⟨rfl,bf,rfl,h1⟩
 |cons u ws=>
  cases hr:Vo u with
  |true=>
   have e:((gNm (u::ws)).map λp=>((.string p.1:Value),p.2))=some (.string u,ws):=by simp [gNm,hr]
   rw [e]
   go_enter Tryz.func83,Tryz.ntmps83
   go_wp2_with fail
   refine (Ve H.out hz.len).mono ?_
   rintro e w1 ⟨rfl,h1,c1⟩
   have H1:=hid h1
   have C1:=hid c1
   clear h1 c1
   go_wp2_with fail
   refine (Fj w1 u).mono ?_
   rintro e w2 ⟨rfl,rfl⟩
   rw [hr]
   go_wp2
   go_ret
   exact ⟨rfl,H1.out,C1.out⟩
  |false=>
   have e:((gNm (u::ws)).map λp=>((.string p.1:Value),p.2))=none:=by simp [gNm,hr]
   rw [e]
   go_enter Tryz.func83,Tryz.ntmps83
   go_wp2_with fail
   refine (Ve H.out hz.len).mono ?_
   rintro e w1 ⟨rfl,h1,c1⟩
   have H1:=hid h1
   have C1:=hid c1
   clear h1 c1
   go_wp2_with fail
   refine (Fj w1 u).mono ?_
   rintro e w2 ⟨rfl,rfl⟩
   rw [hr]
   go_wp2_with fail
   refine (Jv H1.out 2).mono ?_
   intro e w3 h3
   obtain ⟨bf,rfl,h4⟩:=h3.after C1.out
   exact ⟨rfl,bf,rfl,h4⟩
abbrev pvW(w:World):World:=w.alloc (.cells #[.string ⟨#[]⟩, .int .i64 0] 196)
structure PvRes(bl:Nat)(w w1:World):Prop where
 c0:w1.cell? ⟨w.heap.size,0,none⟩=some (.string ⟨#[]⟩)
 c1:w1.cell? ⟨w.heap.size,1,none⟩=some (.int .i64 0)
 f0:w1.frozen? ⟨w.heap.size,0,none⟩=false
 f1:w1.frozen? ⟨w.heap.size,1,none⟩=false
 lt:w.heap.size<w1.heap.size
 chg:Chg (Jo bl) w w1
theorem zqp(hb:bl<w.heap.size)(c:Chg (Jo bl) (pvW w) w1):PvRes bl w w1:=by
 have hs:(pvW w).heap.size=w.heap.size+1:=by simp [pvW]
 have h1:=c.size
 have k: ∀o,w1.cell? ⟨w.heap.size,o,none⟩=(pvW w).cell? ⟨w.heap.size,o,none⟩:=λo=>c.cell _ _ yum (λe=>by omega)
 have kf: ∀o,w1.frozen? ⟨w.heap.size,o,none⟩=(pvW w).frozen? ⟨w.heap.size,o,none⟩:=λo=>c.frozen _ _ yum
 exact ⟨(k 0).trans (World.cell?_alloc_new _ _ _ 0),(k 1).trans (World.cell?_alloc_new _ _ _ 1),(kf 0).trans (by simp [pvW]),(kf 1).trans (by simp [pvW]),by omega,((Chg.refl _ w).alloc _).trans c⟩
theorem PvRes.done(h:PvRes bl w w1)(a b:Value):(World.setCell (w1.setCell ⟨w.heap.size,0,none⟩ a) ⟨w.heap.size,1,none⟩ b).cell? ⟨w.heap.size,0,none⟩=some a/\(World.setCell (w1.setCell ⟨w.heap.size,0,none⟩ a) ⟨w.heap.size,1,none⟩ b).cell? ⟨w.heap.size,1,none⟩=some b/\Chg (Jo bl) w ((w1.setCell ⟨w.heap.size,0,none⟩ a).setCell ⟨w.heap.size,1,none⟩ b)/\Chg (λk _=>k=w.heap.size) w1 ((w1.setCell ⟨w.heap.size,0,none⟩ a).setCell ⟨w.heap.size,1,none⟩ b):=
 ⟨(Qb yum).trans (Qg h.c0 rfl),Qg ((Qb yum).trans h.c1) rfl,(h.chg.setCell (λe=>absurd e (Nat.lt_irrefl _)) a).setCell (λe=>absurd e (Nat.lt_irrefl _)) b,((Chg.refl (λk _=>k=w.heap.size) w1).setCell (λ_=>rfl) a).setCell (λ_=>rfl) b⟩
theorem LineAt.done(h:LineAt w1 bl n bw ws)(hb:bl<w.heap.size)(hw:bw<w.heap.size)(c:Chg (λk _=>k=w.heap.size) w1 W):LineAt W bl n bw ws:=h.keep c (λ_ e=>by omega) (λ_ e=>by omega)
theorem Oh(h:LineAt w bl n bw ws)(hE:Hid (Env w))(hbl:10<=bl)(hz:SzOk ws):
  Cl 88 #[ptr bl] w λe w'=>Rds bl n bw w ((gPV ws).map λp=>(pvV p.1,p.2)) e w':=by
 have hlt:=h.lt
 have hltw:=h.ltw
 have bel:Below w.heap.size w (pvW w):=(Below.refl _ w).alloc (Nat.le_refl _) _
 have H:=hid (h.below bel)
 have E1:=hid (hE.out.below bel)
 have A0:=hid ((Chg.refl (Jo bl) w).alloc (.cells #[.string ⟨#[]⟩, .int .i64 0] 196))
 clear h bel
 cases ws with
 |nil=>
  go_enter Tryz.func88,Tryz.ntmps88
  go_wp2_with fail
  refine (Fg H.out).mono ?_
  intro e w3 h3
  obtain ⟨bf,rfl,h4⟩:=h3.after A0.out
  exact ⟨rfl,bf,rfl,h4⟩
 |cons u ws=>
  cases hr:Vo u with
  |true=>
   have e:((gPV (u::ws)).map λp=>(pvV p.1,p.2))=some (.agg #[.string u, .int .i64 0],ws):=by simp [gPV,hr,pvV]
   rw [e]
   go_enter Tryz.func88,Tryz.ntmps88
   go_wp2_with fail
   refine (Ve H.out hz.len).mono ?_
   rintro e w1 ⟨rfl,h1,c1⟩
   have H1:=hid h1
   have hp:=zqp hlt c1
   have HP:=hid hp
   obtain ⟨d0,d1,g0,g1,gl,_⟩:=hp
   clear h1 c1
   go_wp2_with fail
   refine (Fj w1 u).mono ?_
   rintro e w2 ⟨rfl,rfl⟩
   rw [hr]
   go_wp2
   obtain ⟨z0,z1,z2,z3⟩:=HP.out.done (.string u) (.int .i64 0)
   refine ⟨rfl, .agg #[.string u, .int .i64 0],?_,rfl,H1.out.done hlt hltw z3,z2⟩
   clear z2 z3
   generalize (w2.setCell ⟨w.heap.size,0,none⟩ (.string u)).setCell ⟨w.heap.size,1,none⟩ (.int .i64 0)=W' at*
   simp [results,Tryz.results88,go_sem,z0,z1]
  |false=>
   cases hv:Qk u with
   |some v=>
    have e:((gPV (u::ws)).map λp=>(pvV p.1,p.2))=some (.agg #[.string ByteArray.empty, .int .i64 v],ws):=by simp [gPV,hr,hv,pvV]
    rw [e]
    go_enter Tryz.func88,Tryz.ntmps88
    go_wp2_with fail
    refine (Ve H.out hz.len).mono ?_
    rintro e w1 ⟨rfl,h1,c1⟩
    have H1:=hid h1
    have C1:=hid c1
    clear h1 c1
    go_wp2_with fail
    refine (Fj w1 u).mono ?_
    rintro e w2 ⟨rfl,rfl⟩
    rw [hr]
    go_wp2_with fail
    refine (Og (E1.out.line C1.out hbl) u hz.head).mono ?_
    rintro e w2 ⟨rfl,b2⟩
    have H2:=hid (H1.out.below b2)
    have hp:=zqp hlt (C1.out.trans (Chg.of_below b2))
    have HP:=hid hp
    obtain ⟨d0,d1,g0,g1,gl,_⟩:=hp
    clear b2 H1 C1
    rw [hv]
    go_wp2
    obtain ⟨z0,z1,z2,z3⟩:=HP.out.done (.string ⟨#[]⟩) (.int .i64 v)
    refine ⟨rfl, .agg #[.string ByteArray.empty, .int .i64 v],?_,rfl,H2.out.done hlt hltw z3,z2⟩
    clear z2 z3
    generalize (w2.setCell ⟨w.heap.size,0,none⟩ (.string ⟨#[]⟩)).setCell ⟨w.heap.size,1,none⟩ (.int .i64 v)=W' at*
    simp [results,Tryz.results88,go_sem,z0,z1]
    rfl
   |none=>
    have e:((gPV (u::ws)).map λp=>(pvV p.1,p.2))=none:=by simp [gPV,hr,hv]
    rw [e]
    go_enter Tryz.func88,Tryz.ntmps88
    go_wp2_with fail
    refine (Ve H.out hz.len).mono ?_
    rintro e w1 ⟨rfl,h1,c1⟩
    have H1:=hid h1
    have C1:=hid c1
    clear h1 c1
    go_wp2_with fail
    refine (Fj w1 u).mono ?_
    rintro e w2 ⟨rfl,rfl⟩
    rw [hr]
    go_wp2_with fail
    refine (Og (E1.out.line C1.out hbl) u hz.head).mono ?_
    rintro e w2 ⟨rfl,b2⟩
    have H2:=hid (H1.out.below b2)
    have C2:=hid (A0.out.trans (C1.out.trans (Chg.of_below b2)))
    clear b2 H1 C1
    rw [hv]
    go_wp2_with fail
    refine (Jv H2.out 2).mono ?_
    intro e w3 h3
    obtain ⟨bf,rfl,h4⟩:=h3.after C2.out
    exact ⟨rfl,bf,rfl,h4⟩
end
open Go.RowKit Go.Maps Go.ChangeMaps
def zjt(v:Value):Option (DataW Value×List MemPlace):=some (.held v,[])
def zvb(u:ByteArray):Lit:= .string u.data.toList
theorem zqq{v:ByteArray}(h:u≠v):zvb u≠zvb v:=λe=>h (Go.WideShapes.bytes_inj (by unfold zvb at e;injection e))
theorem law:Keyed Tryz.prog 9:=string_keyed Tryz.underlying9
theorem zqr(h:u.size<=maxLen):keyOf Tryz.prog 9 (.string u)=some (zvb u):=Go.WideMaps.keyOf_string_mk Tryz.underlying9 h
def MapIs(w:World)(b:Nat)(f:ByteArray->Option Value)(n:Nat):Prop:=
 ∃D:DataW Value,w.ownsMap Tryz.prog 9 zjt b n D/\Maps.size D=n/\ ∀u,u.size<=maxLen->(Maps.has D (zvb u)=(f u).isSome/\ ∀z v,f u=some v->D.atKey (zvb u) z= .held v)
section
variable{w:World}{b n:Nat}{f:ByteArray->Option Value}
theorem zbr(w:World):MapIs (w.alloc (.map #[] 0)) w.heap.size (λ_=>none) 0:=
 ⟨.map [],World.ownsMap_made w _ _ _,rfl,λu _=>⟨rfl,λz v h=>by simp at h⟩⟩
theorem MapIs.lt(h:MapIs w b f n):b<w.heap.size:=let ⟨_,h1,_⟩:=h;h1.lt
theorem MapIs.of_block(h:MapIs w b f n)(hb:w'.heap[b]?=w.heap[b]?):MapIs w' b f n:=by
 obtain ⟨D,⟨es,clock,h1,F,hs,hD⟩,h2,h3⟩:=h
 exact ⟨D,⟨es,clock,hb.trans h1,F,hs,hD⟩,h2,h3⟩
theorem MapIs.keep{M:Nat->Nat->Prop}(h:MapIs w b f n)(hc:Chg M w w')(hM: ∀i,¬M b i):MapIs w' b f n:=h.of_block (hc.block b h.lt hM)
theorem MapIs.congr{g:ByteArray->Option Value}(h:MapIs w b f n)(hg: ∀u,f u=g u):MapIs w b g n:=by
 obtain rfl:f=g:=funext hg
 exact h
theorem MapIs.look(h:MapIs w b f n)(ht:Tryz.prog.underlying t=some (.map 9 e))(hz:(zeroValue e).run Tryz.prog w= .ok z w)(hu:u.size<=maxLen):
  (Instr.lookup t (.map (some b)) (.string u) true).run Tryz.prog w= .ok (.tuple #[(f u).getD z, .bool (f u).isSome]) w:=by
 obtain ⟨D,h1,_,h3⟩:=h
 obtain ⟨v,ps,hrun,hv⟩:=h1.look_ok law ht hz (zd:= .held z) (zp:=[]) rfl (zqr hu)
 obtain ⟨g1,g2⟩:=h3 u hu
 rw [hrun,g1]
 simp only [zjt,Option.some.injEq,Prod.mk.injEq] at hv
 cases hf:f u with
 |some x=>
  have:=hv.1.trans (g2 (.held z) x hf)
  have e2:v=x:=by injection this
  subst e2
  rfl
 |none=>exact yt7
theorem MapIs.look1(h:MapIs w b f n)(ht:Tryz.prog.underlying t=some (.map 9 e))(hz:(zeroValue e).run Tryz.prog w= .ok z w)(hu:u.size<=maxLen):
  (Instr.lookup t (.map (some b)) (.string u) false).run Tryz.prog w= .ok ((f u).getD z) w:=by
 obtain ⟨D,h1,_,h3⟩:=h
 obtain ⟨v,ps,hrun,hv⟩:=h1.lookup law ht hz (zd:= .held z) (zp:=[]) rfl (zqr hu)
 obtain ⟨g1,g2⟩:=h3 u hu
 rw [hrun]
 simp only [zjt,Option.some.injEq,Prod.mk.injEq] at hv
 cases hf:f u with
 |some x=>
  have:=hv.1.trans (g2 (.held z) x hf)
  have e2:v=x:=by injection this
  subst e2
  rfl
 |none=>exact yt7
theorem MapIs.len(h:MapIs w b f n)(ht:Tryz.prog.underlying t=some (.map 9 e))(ty:TypeId):(Builtin.len_ #[t] ty #[.map (some b)]).run Tryz.prog w= .ok (.int .i64 n) w:=by
 obtain ⟨D,h1,h2,_⟩:=h
 rw [h1.len ht,h2]
def zgd(f:ByteArray->Option Value)(u:ByteArray)(v:Value):ByteArray->Option Value:=λx=>if x=u then some v else f x
theorem zn3(h:w.mapTurned w' b):Chg (λk _=>k=b) w w':=by
 have hg:=h.grown
 have hf:=h.frozen
 obtain ⟨es,clock,es',clock',hb,rfl⟩:=h
 have ho: ∀k,k≠b->(setBlock w b (.map es' clock')).heap[k]?=w.heap[k]?:=λk hk=>heap_setBlock_other hb _ hk
 refine ⟨rfl,rfl,rfl,hg.size,λk _ hk=>ho k (λe=>hk 0 e),λk i _ hk=>?_,λk i _=>hf _,λk _=>?_⟩
 ·unfold World.cell?
  rw [ho k hk]
 ·by_cases e:k=b
  ·subst e
   unfold World.shape?
   rw [hb,heap_setBlock_same hb]
  ·exact Jw (ho k e)
theorem MapIs.put(h:MapIs w b f n)(ht:Tryz.prog.underlying t=some (.map 9 e))(hn:n<maxLen)(hu:u.size<=maxLen)(v:Value):
  ∃w',(Instr.mapUpdate t (.map (some b)) (.string u) v).run Tryz.prog w= .ok () w'/\MapIs w' b (zgd f u v) (if (f u).isSome then n else n+1)/\Chg (λk _=>k=b) w w':=by
 obtain ⟨D,h1,h2,h3⟩:=h
 obtain ⟨w',hrun,h4,h5⟩:=h1.store law ht hn (val:=v) (d:= .held v) (ps:=[]) (zqr hu) rfl
 have hk:WideAt.IsKeyLit (zvb u):=trivial
 have hsz:Maps.size (D.put (zvb u) (.held v))=if (f u).isSome then n else n+1:=by
  rw [size_put (h1.tidy law),(h3 u hu).1,h2]
 refine ⟨w',hrun,⟨D.put (zvb u) (.held v),?_,hsz,λx hx=>?_⟩,zn3 h5⟩
 ·obtain ⟨es,clock,q1,q2,q3,q4⟩:=h4
  refine ⟨es,clock,q1,q2,?_,q4⟩
  rw [<-hsz,q4]
  simp [Maps.size,length_sorted]
 ·unfold zgd
  by_cases e:x=u
  ·subst e
   rw [if_pos rfl]
   exact ⟨by rw [has_put_same h1.isMap hk];rfl,λz y hy=>by rw [atKey_put_same h1.isMap hk];simp at hy;rw [hy]⟩
  ·rw [if_neg e,has_put_other (zqq e)]
   exact ⟨(h3 x hx).1,λz y hy=>by rw [atKey_put_other (zqq e)];exact (h3 x hx).2 z y hy⟩
end
def zPV:PV:=⟨ByteArray.empty,0⟩
def wAt:ByteArray:=⟨#[97,116]⟩
def gAt:List ByteArray->Option (PV×List ByteArray)
 |[]=>some (zPV,[])
 |u::ws=>if u=wAt then gPV ws else none
def Uj(u:ByteArray):Option Nat:=[(⟨#[43]⟩:ByteArray),⟨#[45]⟩,⟨#[42]⟩,⟨#[47]⟩,⟨#[37]⟩,⟨#[38]⟩,⟨#[124]⟩,⟨#[94]⟩,⟨#[60,60]⟩,⟨#[62,62]⟩,⟨#[60]⟩,⟨#[61,61]⟩].findIdx? (·==u)
def Sa(u:ByteArray):Option Value:=(Uj u).map λk=> .int .i64 k
def gOp:List ByteArray->Option (Nat×List ByteArray)
 |[]=>none
 |u::ws=>(Uj u).map λk=>(k,ws)
section
variable{w:World}{bl bw br bs:Nat}{n:Int}{ws ws1:List ByteArray}
theorem Qi(B:Nat)(w:World):Below B w w.drew:=⟨rfl,rfl,rfl,Nat.le_refl _,λ_ _=>rfl⟩
theorem zcq{x:PV}(hv:gPV ws=some (x,ws1))(hz:SzOk ws):SzOk ws1:=by
 cases ws with
 |nil=>simp [gPV] at hv
 |cons u ws=>
  simp only [gPV] at hv
  split at hv
  ·simp at hv;exact hv.2▸hz.tail
  ·simp at hv
   obtain ⟨_,_,_,rfl⟩:=hv
   exact hz.tail
theorem Ya{x:ByteArray}(hv:gNm ws=some (x,ws1))(hz:SzOk ws):SzOk ws1:=by
 cases ws with
 |nil=>simp [gNm] at hv
 |cons u ws=>
  simp only [gNm] at hv
  split at hv
  ·simp at hv;exact hv.2▸hz.tail
  ·simp at hv
theorem zyn{k:Nat}(hv:gOp ws=some (k,ws1))(hz:SzOk ws):SzOk ws1:=by
 cases ws with
 |nil=>simp [gOp] at hv
 |cons u ws=>
  simp [gOp] at hv
  obtain ⟨_,_,_,rfl⟩:=hv
  exact hz.tail
theorem zfi(h:LineAt w bl n bw ws)(hE:Hid (Env w))(hbl:10<=bl)(hz:SzOk ws):
  Cl 87 #[ptr bl] w λe w'=>Rds bl n bw w ((gAt ws).map λp=>(pvV p.1,p.2)) e w':=by
 have hlt:=h.lt
 have hltw:=h.ltw
 have bel:Below w.heap.size w (pvW w):=(Below.refl _ w).alloc (Nat.le_refl _) _
 have H:=hid (h.below bel)
 have E1:=hid (hE.out.below bel)
 have A0:=hid ((Chg.refl (Jo bl) w).alloc (.cells #[.string ⟨#[]⟩, .int .i64 0] 196))
 have hq:=H.out
 obtain ⟨o,cap,hl,hs,_⟩:=hq.wds
 clear h bel hq hl
 cases ws with
 |nil=>
  simp only [List.length_nil] at hs
  go_enter Tryz.func87,Tryz.ntmps87
  go_wp2_with (go_at_call 82;go_in)
  refine ⟨rfl, .agg #[.string ByteArray.empty, .int .i64 0],?_,rfl,H.out,A0.out⟩
  simp [results,Tryz.results87,go_sem]
  rfl
 |cons u ws=>
  simp only [List.length_cons] at hs
  by_cases hu:u=wAt
  ·subst hu
   have e:gAt (wAt::ws)=gPV ws:=by simp [gAt]
   rw [e]
   cases hg:gPV ws with
   |some p=>
    obtain ⟨x,ws1⟩:=p
    go_enter Tryz.func87,Tryz.ntmps87
    go_wp2_with (first|(go_at_call 82;go_in)|fail)
    refine (Ve H.out hz.len).mono ?_
    rintro e w1 ⟨rfl,h1,c1⟩
    have H1:=hid h1
    have C1:=hid c1
    clear h1 c1
    unfold wAt
    go_wp2_with fail
    have k:=Oh H1.out (E1.out.line C1.out hbl) hbl hz.tail
    rw [hg] at k
    refine k.mono ?_
    rintro e w2 ⟨rfl,h2,c2⟩
    have H2:=hid h2
    have hp:=zqp hlt (C1.out.trans c2)
    have HP:=hid hp
    obtain ⟨d0,d1,g0,g1,gl,_⟩:=hp
    clear h2 c2 k C1 H1
    unfold pvV
    go_wp2
    obtain ⟨z0,z1,z2,z3⟩:=HP.out.done (.string x.name) (.int .i64 x.num)
    refine ⟨rfl, .agg #[.string x.name, .int .i64 x.num],?_,rfl,H2.out.done hlt hltw z3,z2⟩
    clear z2 z3
    generalize (w2.setCell ⟨w.heap.size,0,none⟩ (.string x.name)).setCell ⟨w.heap.size,1,none⟩ (.int .i64 x.num)=W' at*
    simp [results,Tryz.results87,go_sem,z0,z1]
   |none=>
    go_enter Tryz.func87,Tryz.ntmps87
    go_wp2_with (first|(go_at_call 82;go_in)|fail)
    refine (Ve H.out hz.len).mono ?_
    rintro e w1 ⟨rfl,h1,c1⟩
    have H1:=hid h1
    have C1:=hid c1
    clear h1 c1
    unfold wAt
    go_wp2_with fail
    have k:=Oh H1.out (E1.out.line C1.out hbl) hbl hz.tail
    rw [hg] at k
    refine k.mono ?_
    intro e w3 h3
    obtain ⟨bf,rfl,h4⟩:=Fails.after (Fails.after h3 C1.out) A0.out
    exact ⟨rfl,bf,rfl,h4⟩
  ·have e:gAt (u::ws)=none:=by simp [gAt,hu]
   rw [e]
   have hne:=Oz hu
   rw [show wAt.toList=[97,116] from by rw [ByteArray.toList_eq];rfl] at hne
   go_enter Tryz.func87,Tryz.ntmps87
   go_wp2_with (first|(go_at_call 82;go_in)|fail)
   refine (Ve H.out hz.len).mono ?_
   rintro e w1 ⟨rfl,h1,c1⟩
   have H1:=hid h1
   have C1:=hid c1
   clear h1 c1
   go_wp2_with fail
   refine (Jv H1.out 2).mono ?_
   intro e w3 h3
   obtain ⟨bf,rfl,h4⟩:=(h3.after C1.out).after A0.out
   exact ⟨rfl,bf,rfl,h4⟩
theorem z2b(w:World):(zeroValue 143).run Tryz.prog w= .ok (.int .i64 0) w:=yuo
theorem zhl(h:MapIs W bs Sa 12)(hu:u.size<=maxLen){x:Option Value}(hx:Sa u=x):(Instr.lookup 92 (.map (some bs)) (.string u) true).run Tryz.prog W= .ok (.tuple #[x.getD (.int .i64 0), .bool x.isSome]) W:=by
 rw [<-hx]
 exact h.look Tryz.underlying92 (z2b W) hu
theorem zfj(h:LineAt w bl n bw ws)(hz:SzOk ws)(hc:w.cell? ⟨br,4,none⟩=some (.map (some bs)))(hne:br≠bl)(hm:MapIs w bs Sa 12)(hnm:bs≠bl):
  Cl 121 #[ptr br,ptr bl] w λe w'=>Rds bl n bw w ((gOp ws).map λp=>(.int .i64 p.1,p.2)) e w':=by
 have H:=hid (h.below (w':=w.drew) (Qi _ w))
 have HM:=hid hm
 have A0:=hid ((Chg.refl (Jo bl) w).drew)
 clear h hm
 cases ws with
 |nil=>
  go_enter Tryz.func121,Tryz.ntmps121
  go_wp2_with fail
  refine wp_region_any yuo ?_
  change wpAny _ _ _ _ _ _ _ (World.drew _)
  refine wpAny_take (i:=0) (v:=ptr br) rfl yuo yuo yuo (λ_ _ _ h=>h) (Or.inl ⟨by rfl,λw=>by go_simp⟩) ?_
  refine wpAny_take (i:=1) (v:=ptr br) rfl yuo yuo yuo (λ_ _ _ h=>h) (Or.inl ⟨by rfl,λw=>by go_simp⟩) ?_
  refine wpAny_take (i:=2) (v:= .pointer (some ⟨br,4,none⟩)) rfl yuo yuo yuo (λ_ _ _ h=>h) (Or.inl ⟨by rfl,λw=>by go_simp⟩) ?_
  refine wpAny_take (i:=4) (v:=ptr bl) rfl yuo yuo yuo (λ_ _ _ h=>h) (Or.inl ⟨by rfl,λw=>by go_simp⟩) ?_
  refine wpAny_ready (rs:=[3,5]) yuo yun ?_
  refine AllReady.cons rfl (λK hK=>?_) ?_
  ·go_simp
   refine hK _ _ ?_
   clear hK K
   refine wpAny_ready (rs:=[5]) yuo yun ?_
   refine AllReady.cons rfl (λK hK=>?_) AllReady.nil
   go_simp
   refine (Fg H.out).mono ?_
   intro e w3 h3
   obtain ⟨bf,rfl,h4⟩:=h3.after A0.out
   exact ⟨rfl,bf,rfl,h4⟩
  ·refine AllReady.cons rfl (λK hK=>?_) AllReady.nil
   go_simp
   refine (Fg H.out).mono ?_
   intro e w3 h3
   obtain ⟨bf,rfl,h4⟩:=h3.after A0.out
   exact ⟨rfl,bf,rfl,h4⟩
 |cons u ws=>
  have hu:u.size<=maxLen:=by have:=hz.head;unfold maxLen;omega
  cases hr:Uj u with
  |some r=>
   have e:((gOp (u::ws)).map λp=>((.int .i64 p.1:Value),p.2))=some (.int .i64 r,ws):=by simp [gOp,hr]
   rw [e]
   have HLK:=hid (λW (h:MapIs W bs Sa 12)=>zhl (W:=W) h hu (x:=some (.int .i64 r)) (by simp [Sa,hr]))
   simp only [Option.getD_some,Option.isSome_some] at HLK
   go_enter Tryz.func121,Tryz.ntmps121
   go_wp2_with fail
   go_region_law (go_simp;go_at_call 57;refine (Ve H.out hz.len).mono ?_;rintro e w1 ⟨rfl,h1,c1⟩;have hlk:=HLK.out w1 (HM.out.keep (A0.out.trans c1) (λi e=>hnm e.1));have hcw:=((A0.out.trans c1).cell br 4 (blt hc) (λe=>hne e.1)).trans hc;have H1:=hid h1;have C1:=hid c1;clear h1 c1)
   all_goals
    go_wp2
    go_ret
    exact ⟨rfl,H1.out,A0.out.trans C1.out⟩
  |none=>
   have e:((gOp (u::ws)).map λp=>((.int .i64 p.1:Value),p.2))=none:=by simp [gOp,hr]
   rw [e]
   have HLK:=hid (λW (h:MapIs W bs Sa 12)=>zhl (W:=W) h hu (x:=none) (by simp [Sa,hr]))
   simp only [Option.getD_none,Option.isSome_none] at HLK
   go_enter Tryz.func121,Tryz.ntmps121
   go_wp2_with fail
   go_region_law (go_simp;go_at_call 57;refine (Ve H.out hz.len).mono ?_;rintro e w1 ⟨rfl,h1,c1⟩;have hlk:=HLK.out w1 (HM.out.keep (A0.out.trans c1) (λi e=>hnm e.1));have hcw:=((A0.out.trans c1).cell br 4 (blt hc) (λe=>hne e.1)).trans hc;have H1:=hid h1;have C1:=hid c1;clear h1 c1)
   all_goals
    go_wp2_with fail
    refine (Jv H1.out 2).mono ?_
    intro e w3 h3
    obtain ⟨bf,rfl,h4⟩:=(h3.after C1.out).after A0.out
    exact ⟨rfl,bf,rfl,h4⟩
end
abbrev St:=(ByteArray×PV)⊕(ByteArray×Nat×PV×PV)⊕(ByteArray×ByteArray×PV)⊕(ByteArray×PV×PV)⊕PV⊕Unit⊕PV⊕Int
abbrev St.set(to:ByteArray)(a:PV):St:= .inl (to,a)
abbrev St.op(to:ByteArray)(o:Nat)(a b:PV):St:= .inr (.inl (to,o,a,b))
abbrev St.get(to of:ByteArray)(a:PV):St:= .inr (.inr (.inl (to,of,a)))
abbrev St.put(of:ByteArray)(a b:PV):St:= .inr (.inr (.inr (.inl (of,a,b))))
abbrev St.out(a:PV):St:= .inr (.inr (.inr (.inr (.inl a))))
abbrev St.atomic:St:= .inr (.inr (.inr (.inr (.inr (.inl ())))))
abbrev St.iff(a:PV):St:= .inr (.inr (.inr (.inr (.inr (.inr (.inl a))))))
abbrev St.loop(n:Int):St:= .inr (.inr (.inr (.inr (.inr (.inr (.inr n))))))
def zn4(ws:List ByteArray):Option (St×List ByteArray):=(gNm ws).bind λp=>(gPV p.2).bind λq=>match q.2 with
 |[]=>some (St.set p.1 q.1,[])
 |u::us=>(gOp (u::us)).bind λo=>(gPV o.2).map λr=>(St.op p.1 o.1 q.1 r.1,r.2)
section
variable{w:World}{bl bw br bs:Nat}{n:Int}{ws ws1:List ByteArray}{x:ByteArray}{y:PV}{k:Nat}
theorem Fa(h:LineAt w bl n bw ws)(hz:SzOk ws)(hv:gNm ws=some (x,ws1)):Cl 83 #[ptr bl] w λe w'=>e= .returned (.string x)/\LineAt w' bl n bw ws1/\Chg (Jo bl) w w':=by
 have:=zcp h hz
 rw [hv] at this
 exact this
theorem zqs(h:LineAt w bl n bw ws)(hz:SzOk ws)(hv:gNm ws=none):Cl 83 #[ptr bl] w λe w'=>Fails 2 n bl w e w':=by
 have:=zcp h hz
 rw [hv] at this
 exact this
theorem zge(h:LineAt w bl n bw ws)(hE:Env w)(hbl:10<=bl)(hz:SzOk ws)(hv:gPV ws=some (y,ws1)):Cl 88 #[ptr bl] w λe w'=>e= .returned (.agg #[.string y.name, .int .i64 y.num])/\LineAt w' bl n bw ws1/\Chg (Jo bl) w w':=by
 have:=Oh h hE hbl hz
 rw [hv] at this
 exact this
theorem zqt(h:LineAt w bl n bw ws)(hE:Env w)(hbl:10<=bl)(hz:SzOk ws)(hv:gPV ws=none):Cl 88 #[ptr bl] w λe w'=>Fails 2 n bl w e w':=by
 have:=Oh h hE hbl hz
 rw [hv] at this
 exact this
theorem z2c(h:LineAt w bl n bw ws)(hE:Env w)(hbl:10<=bl)(hz:SzOk ws)(hv:gAt ws=some (y,ws1)):Cl 87 #[ptr bl] w λe w'=>e= .returned (.agg #[.string y.name, .int .i64 y.num])/\LineAt w' bl n bw ws1/\Chg (Jo bl) w w':=by
 have:=zfi h hE hbl hz
 rw [hv] at this
 exact this
theorem z2d(h:LineAt w bl n bw ws)(hE:Env w)(hbl:10<=bl)(hz:SzOk ws)(hv:gAt ws=none):Cl 87 #[ptr bl] w λe w'=>Fails 2 n bl w e w':=by
 have:=zfi h hE hbl hz
 rw [hv] at this
 exact this
theorem z2e(h:LineAt w bl n bw ws)(hz:SzOk ws)(hc:w.cell? ⟨br,4,none⟩=some (.map (some bs)))(hne:br≠bl)(hm:MapIs w bs Sa 12)(hnm:bs≠bl)(hv:gOp ws=some (k,ws1)):Cl 121 #[ptr br,ptr bl] w λe w'=>e= .returned (.int .i64 k)/\LineAt w' bl n bw ws1/\Chg (Jo bl) w w':=by
 have:=zfj h hz hc hne hm hnm
 rw [hv] at this
 exact this
theorem z4z(h:LineAt w bl n bw ws)(hz:SzOk ws)(hc:w.cell? ⟨br,4,none⟩=some (.map (some bs)))(hne:br≠bl)(hm:MapIs w bs Sa 12)(hnm:bs≠bl)(hv:gOp ws=none):Cl 121 #[ptr br,ptr bl] w λe w'=>Fails 2 n bl w e w':=by
 have:=zfj h hz hc hne hm hnm
 rw [hv] at this
 exact this
theorem z2f(hv:gAt ws=some (y,ws1))(hz:SzOk ws):SzOk ws1:=by
 cases ws with
 |nil=>simp [gAt] at hv;exact hv.2▸hz
 |cons u ws=>
  simp only [gAt] at hv
  split at hv
  ·exact zcq hv hz.tail
  ·simp at hv
theorem LineAt.more(h:LineAt w bl n bw ws): ∃o cap,w.cell? ⟨bl,1,none⟩=some (.slice (some ⟨bw,o,none⟩) ws.length cap):=let ⟨o,cap,_,hs,_⟩:=h.wds;⟨o,cap,hs⟩
abbrev pvB(W:World)(y:PV):World:=W.alloc (.cells #[.string y.name, .int .i64 y.num] 196)
theorem zn5(h:LineAt w bl n bw ws)(hz:SzOk ws)(hv:gNm ws=none):Cl 86 #[ptr br,ptr bl] w λe w'=>Fails 2 n bl w e w':=by
 have K:=hid (zqs h hz hv)
 clear h
 go_enter Tryz.func86,Tryz.ntmps86
 go_wp2_with fail
 refine K.out.mono ?_
 rintro e w1 ⟨bf,rfl,h1⟩
 exact ⟨rfl,bf,rfl,h1⟩
theorem zn6(h:LineAt w bl n bw ws)(hE:Hid (Env w))(hbl:10<=bl)(hz:SzOk ws)(hv:gNm ws=some (x,ws1))(hv2:gPV ws1=none):Cl 86 #[ptr br,ptr bl] w λe w'=>Fails 2 n bl w e w':=by
 have K:=hid (Fa h hz hv)
 have hz1:=Ya hv hz
 clear h
 go_enter Tryz.func86,Tryz.ntmps86
 go_wp2_with fail
 refine K.out.mono ?_
 rintro e w1 ⟨rfl,h1,c1⟩
 have K2:=hid (zqt h1 (hE.out.line c1 hbl) hbl hz1 hv2)
 have C1:=hid c1
 clear h1 c1 K
 go_wp2_with fail
 refine K2.out.mono ?_
 intro e w3 h3
 obtain ⟨bf,rfl,h4⟩:=Fails.after h3 C1.out
 exact ⟨rfl,bf,rfl,h4⟩
theorem zju(h:LineAt w bl n bw ws)(hE:Hid (Env w))(hbl:10<=bl)(hz:SzOk ws)(hv:gNm ws=some (x,ws1))(hv2:gPV ws1=some (y,[])):Cl 86 #[ptr br,ptr bl] w λe w'=>e= .returned (.iface 222 (.agg #[.string x, .string y.name, .int .i64 y.num]))/\LineAt w' bl n bw []/\Chg (Jo bl) w w':=by
 have K:=hid (Fa h hz hv)
 have hz1:=Ya hv hz
 clear h
 go_enter Tryz.func86,Tryz.ntmps86
 go_wp2_with fail
 refine K.out.mono ?_
 rintro e w1 ⟨rfl,h1,c1⟩
 have K2:=hid (zge h1 (hE.out.line c1 hbl) hbl hz1 hv2)
 have C1:=hid c1
 clear h1 c1 K
 go_wp2_with fail
 refine K2.out.mono ?_
 rintro e w2 ⟨rfl,h2,c2⟩
 have bel:Below w2.heap.size w2 (pvB w2 y):=(Below.refl _ w2).alloc (Nat.le_refl _) _
 have H3:=hid (h2.below bel)
 have C3:=hid ((C1.out.trans c2).alloc (.cells #[.string y.name, .int .i64 y.num] 196))
 obtain ⟨o,cap,hs⟩:=(h2.below bel).more
 have hlt:=h2.lt
 simp only [List.length_nil] at hs
 clear h2 c2 C1 K2 bel
 go_wp2_with (go_at_call 82;go_in)
 go_ret
 exact ⟨rfl,H3.out,C3.out⟩
end
section
variable{w:World}{bl bw br bs:Nat}{n:Int}{ws ws1 ws3 ws4 us:List ByteArray}{x u:ByteArray}{y z:PV}{k:Nat}
structure SignsAt(w:World)(br bs bl:Nat):Prop where
 c:w.cell? ⟨br,4,none⟩=some (.map (some bs))
 ne:br≠bl
 m:MapIs w bs Sa 12
 nm:bs≠bl
theorem SignsAt.keep(h:SignsAt w br bs bl)(hc:Chg (Jo bl) w w'):SignsAt w' br bs bl:=
 ⟨(hc.cell br 4 (blt h.c) (λe=>h.ne e.1)).trans h.c,h.ne,h.m.keep hc (λ_ e=>h.nm e.1),h.nm⟩
theorem zhm(h:LineAt w bl n bw ws)(hE:Hid (Env w))(hbl:10<=bl)(hz:SzOk ws)(hS:Hid (SignsAt w br bs bl))(hv:gNm ws=some (x,ws1))(hv2:gPV ws1=some (y,u::us))(hv3:gOp (u::us)=none):Cl 86 #[ptr br,ptr bl] w λe w'=>Fails 2 n bl w e w':=by
 have K:=hid (Fa h hz hv)
 have hz1:=Ya hv hz
 have hz2:=zcq hv2 hz1
 clear h
 go_enter Tryz.func86,Tryz.ntmps86
 go_wp2_with fail
 refine K.out.mono ?_
 rintro e w1 ⟨rfl,h1,c1⟩
 have K2:=hid (zge h1 (hE.out.line c1 hbl) hbl hz1 hv2)
 have C1:=hid c1
 clear h1 c1 K
 go_wp2_with fail
 refine K2.out.mono ?_
 rintro e w2 ⟨rfl,h2,c2⟩
 have bel:Below w2.heap.size w2 (pvB w2 y):=(Below.refl _ w2).alloc (Nat.le_refl _) _
 have C3:=hid ((C1.out.trans c2).alloc (.cells #[.string y.name, .int .i64 y.num] 196))
 have h3:=h2.below bel
 have S3:=hS.out.keep C3.out
 have K3:=hid (z4z h3 hz2 S3.c S3.ne S3.m S3.nm hv3)
 obtain ⟨o,cap,hs⟩:=h3.more
 have hlt:=h2.lt
 simp only [List.length_cons] at hs
 clear h2 c2 C1 K2 bel h3 S3
 go_wp2_with (first|(go_at_call 82;go_in)|fail)
 refine K3.out.mono ?_
 intro e w3 h3
 obtain ⟨bf,rfl,h4⟩:=Fails.after h3 C3.out
 exact ⟨rfl,bf,rfl,h4⟩
theorem zjv(h:LineAt w bl n bw ws)(hE:Hid (Env w))(hbl:10<=bl)(hz:SzOk ws)(hS:Hid (SignsAt w br bs bl))(hv:gNm ws=some (x,ws1))(hv2:gPV ws1=some (y,u::us))(hv3:gOp (u::us)=some (k,ws3))(hv4:gPV ws3=none):Cl 86 #[ptr br,ptr bl] w λe w'=>Fails 2 n bl w e w':=by
 have K:=hid (Fa h hz hv)
 have hz1:=Ya hv hz
 have hz2:=zcq hv2 hz1
 have hz3:=zyn hv3 hz2
 clear h
 go_enter Tryz.func86,Tryz.ntmps86
 go_wp2_with fail
 refine K.out.mono ?_
 rintro e w1 ⟨rfl,h1,c1⟩
 have K2:=hid (zge h1 (hE.out.line c1 hbl) hbl hz1 hv2)
 have C1:=hid c1
 clear h1 c1 K
 go_wp2_with fail
 refine K2.out.mono ?_
 rintro e w2 ⟨rfl,h2,c2⟩
 have bel:Below w2.heap.size w2 (pvB w2 y):=(Below.refl _ w2).alloc (Nat.le_refl _) _
 have C3:=hid ((C1.out.trans c2).alloc (.cells #[.string y.name, .int .i64 y.num] 196))
 have h3:=h2.below bel
 have S3:=hS.out.keep C3.out
 have K3:=hid (z2e h3 hz2 S3.c S3.ne S3.m S3.nm hv3)
 obtain ⟨o,cap,hs⟩:=h3.more
 have hlt:=h2.lt
 have d0:(pvB w2 y).cell? ⟨w2.heap.size,0,none⟩=some (.string y.name):=World.cell?_alloc_new _ _ _ 0
 have d1:(pvB w2 y).cell? ⟨w2.heap.size,1,none⟩=some (.int .i64 y.num):=World.cell?_alloc_new _ _ _ 1
 simp only [List.length_cons] at hs
 clear h2 c2 C1 K2 bel h3 S3
 go_wp2_with (first|(go_at_call 82;go_in)|fail)
 refine K3.out.mono ?_
 rintro e w4 ⟨rfl,h4,c4⟩
 have e0:=(c4.cell w2.heap.size 0 (blt d0) (λe=>by omega)).trans d0
 have e1:=(c4.cell w2.heap.size 1 (blt d0) (λe=>by omega)).trans d1
 have hE4:=hE.out.line (C3.out.trans c4) hbl
 have K4:=hid (zqt (h4.below (w':=w4.drew) (Qi _ w4)) (hE4.below (Qi _ w4)) hbl hz3 hv4)
 have C4:=hid ((C3.out.trans c4).drew)
 clear h4 c4 hE4 K3 C3
 go_wp2_with fail
 refine wp_region_any yuo ?_
 change wpAny _ _ _ _ _ _ _ (World.drew _)
 refine wpAny_take (i:=0) (v:= .string x) rfl yuo yuo yuo (λ_ _ _ h=>h) (Or.inl ⟨by rfl,λw=>by go_simp⟩) ?_
 refine wpAny_take (i:=1) (v:= .int .i64 k) rfl yuo yuo yuo (λ_ _ _ h=>h) (Or.inl ⟨by rfl,λw=>by go_simp⟩) ?_
 refine wpAny_take (i:=3) (v:=ptr bl) rfl yuo yuo yuo (λ_ _ _ h=>h) (Or.inl ⟨by rfl,λw=>by go_simp⟩) ?_
 refine wpAny_ready (rs:=[2,4]) yuo yun ?_
 refine AllReady.cons rfl (λK hK=>?_) ?_
 ·go_simp
  refine hK _ _ ?_
  clear hK K
  refine wpAny_ready (rs:=[4]) yuo yun ?_
  refine AllReady.cons rfl (λK hK=>?_) AllReady.nil
  go_simp
  refine K4.out.mono ?_
  intro e w5 h5
  obtain ⟨bf,rfl,h6⟩:=h5.after C4.out
  exact ⟨rfl,bf,rfl,h6⟩
 ·refine AllReady.cons rfl (λK hK=>?_) AllReady.nil
  go_simp
  refine K4.out.mono ?_
  intro e w5 h5
  obtain ⟨bf,rfl,h6⟩:=h5.after C4.out
  exact ⟨rfl,bf,rfl,h6⟩
theorem zn7(h:LineAt w bl n bw ws)(hE:Hid (Env w))(hbl:10<=bl)(hz:SzOk ws)(hS:Hid (SignsAt w br bs bl))(hv:gNm ws=some (x,ws1))(hv2:gPV ws1=some (y,u::us))(hv3:gOp (u::us)=some (k,ws3))(hv4:gPV ws3=some (z,ws4)):Cl 86 #[ptr br,ptr bl] w λe w'=>e= .returned (.iface 226 (.agg #[.string x, .int .i64 k, .string y.name, .int .i64 y.num, .string z.name, .int .i64 z.num]))/\LineAt w' bl n bw ws4/\Chg (Jo bl) w w':=by
 have K:=hid (Fa h hz hv)
 have hz1:=Ya hv hz
 have hz2:=zcq hv2 hz1
 have hz3:=zyn hv3 hz2
 clear h
 go_enter Tryz.func86,Tryz.ntmps86
 go_wp2_with fail
 refine K.out.mono ?_
 rintro e w1 ⟨rfl,h1,c1⟩
 have K2:=hid (zge h1 (hE.out.line c1 hbl) hbl hz1 hv2)
 have C1:=hid c1
 clear h1 c1 K
 go_wp2_with fail
 refine K2.out.mono ?_
 rintro e w2 ⟨rfl,h2,c2⟩
 have bel:Below w2.heap.size w2 (pvB w2 y):=(Below.refl _ w2).alloc (Nat.le_refl _) _
 have C3:=hid ((C1.out.trans c2).alloc (.cells #[.string y.name, .int .i64 y.num] 196))
 have h3:=h2.below bel
 have S3:=hS.out.keep C3.out
 have K3:=hid (z2e h3 hz2 S3.c S3.ne S3.m S3.nm hv3)
 obtain ⟨o,cap,hs⟩:=h3.more
 have hlt:=h2.lt
 have d0:(pvB w2 y).cell? ⟨w2.heap.size,0,none⟩=some (.string y.name):=World.cell?_alloc_new _ _ _ 0
 have d1:(pvB w2 y).cell? ⟨w2.heap.size,1,none⟩=some (.int .i64 y.num):=World.cell?_alloc_new _ _ _ 1
 simp only [List.length_cons] at hs
 clear h2 c2 C1 K2 bel h3 S3
 go_wp2_with (first|(go_at_call 82;go_in)|fail)
 refine K3.out.mono ?_
 rintro e w4 ⟨rfl,h4,c4⟩
 have e0:=(c4.cell w2.heap.size 0 (blt d0) (λe=>by omega)).trans d0
 have e1:=(c4.cell w2.heap.size 1 (blt d0) (λe=>by omega)).trans d1
 have hE4:=hE.out.line (C3.out.trans c4) hbl
 have K4:=hid (zge (h4.below (w':=w4.drew) (Qi _ w4)) (hE4.below (Qi _ w4)) hbl hz3 hv4)
 have C4:=hid ((C3.out.trans c4).drew)
 clear h4 c4 hE4 K3 C3
 go_wp2_with fail
 go_region_law (go_simp;go_at_call 88;refine K4.out.mono ?_;rintro e w5 ⟨rfl,h5,c5⟩;have g0:=(c5.cell w2.heap.size 0 (blt e0) (λe=>by omega)).trans e0;have g1:=(c5.cell w2.heap.size 1 (blt e0) (λe=>by omega)).trans e1;have H5:=hid h5;have C5:=hid c5;clear h5 c5)
 all_goals
  go_wp2
  go_ret
  exact ⟨rfl,H5.out,C4.out.trans C5.out⟩
end
def z40(w0 w:World)(s:St)(v:Value):Prop:=match s with
 | .inl (to,a)=>v= .iface 222 (.agg #[.string to, .string a.name, .int .i64 a.num])
 | .inr (.inl (to,o,a,b))=>v= .iface 226 (.agg #[.string to, .int .i64 o, .string a.name, .int .i64 a.num, .string b.name, .int .i64 b.num])
 | .inr (.inr (.inl (to,of,a)))=>v= .iface 201 (.agg #[.string to, .string of, .string a.name, .int .i64 a.num])
 | .inr (.inr (.inr (.inl (of,a,b))))=>v= .iface 203 (.agg #[.string of, .string a.name, .int .i64 a.num, .string b.name, .int .i64 b.num])
 | .inr (.inr (.inr (.inr (.inl a))))=>v= .iface 205 (.agg #[.string a.name, .int .i64 a.num])
 | .inr (.inr (.inr (.inr (.inr (.inl ())))))=>∃b,w0.heap.size<=b/\v= .iface 162 (ptr b)/\w.shape? b=some (165,1)/\w.cell? ⟨b,0,none⟩=some (.slice none 0 0)/\(∀j,w.frozen? ⟨b,j,none⟩=false)
 | .inr (.inr (.inr (.inr (.inr (.inr (.inl a))))))=>∃b,w0.heap.size<=b/\v= .iface 206 (ptr b)/\w.shape? b=some (208,3)/\w.cell? ⟨b,0,none⟩=some (.slice none 0 0)/\(∀j,w.frozen? ⟨b,j,none⟩=false)/\w.cell? ⟨b,1,none⟩=some (.string a.name)/\w.cell? ⟨b,2,none⟩=some (.int .i64 a.num)
 | .inr (.inr (.inr (.inr (.inr (.inr (.inr n))))))=>∃b,w0.heap.size<=b/\v= .iface 209 (ptr b)/\w.shape? b=some (211,2)/\w.cell? ⟨b,0,none⟩=some (.slice none 0 0)/\(∀j,w.frozen? ⟨b,j,none⟩=false)/\w.cell? ⟨b,1,none⟩=some (.int .i64 n)
theorem zgf(w:World)(cs:Array Value)(t:TypeId): ∀j,(w.alloc (.cells cs t)).frozen? ⟨w.heap.size,j,none⟩=false:=by
 intro j
 have e:(w.alloc (.cells cs t)).heap[w.heap.size]?=some (.cells cs t):=yv4
 unfold World.frozen?
 rw [e]
 simp
theorem zl2(w:World)(cs:Array Value)(t:TypeId):(w.alloc (.cells cs t)).shape? w.heap.size=some (t,cs.size):=ytb
def StR(bl:Nat)(n:Int)(bw:Nat)(w:World)(r:Option (St×List ByteArray))(e:Ending)(w':World):Prop:=match r with
 |some (s,ws)=>∃v,e= .returned v/\z40 w w' s v/\LineAt w' bl n bw ws/\Chg (Jo bl) w w'
 |none=>Fails 2 n bl w e w'
section
variable{w:World}{bl bw br bs:Nat}{n:Int}{ws ws1 ws2 ws3:List ByteArray}{x x2 u:ByteArray}{y z:PV}{v:Int}
theorem zzp(h:LineAt w bl n bw ws)(_hE:Hid (Env w))(_hbl:10<=bl)(hz:SzOk ws)(hv0:gNm ws=none):Cl 61 #[ptr br, .string ⟨#[103,101,116]⟩,ptr bl] w λe w'=>Fails 2 n bl w e w':=yso
theorem zzq(h:LineAt w bl n bw ws)(_hE:Hid (Env w))(_hbl:10<=bl)(hz:SzOk ws)(hv0:gNm ws=some (x,ws1))(hv1:gNm ws1=none):Cl 61 #[ptr br, .string ⟨#[103,101,116]⟩,ptr bl] w λe w'=>Fails 2 n bl w e w':=by
 have H0:=hid h
 have C0:=hid (Chg.refl (Jo bl) w)
 clear h
 go_enter Tryz.func61,Tryz.ntmps61
 go_wp2_with fail
 refine (Fa H0.out hz hv0).mono ?_
 rintro e w1 ⟨rfl,h1,c1⟩
 have H1:=hid h1
 have C1:=hid (C0.out.trans c1)
 clear h1 c1 H0 C0
 have hz1:=Ya hv0 hz
 go_wp2_with fail
 refine (zqs H1.out hz1 hv1).mono ?_
 intro e w9 h9
 obtain ⟨bf,rfl,h8⟩:=Fails.after h9 C1.out
 exact ⟨rfl,bf,rfl,h8⟩
theorem zzr(h:LineAt w bl n bw ws)(hE:Hid (Env w))(hbl:10<=bl)(hz:SzOk ws)(hv0:gNm ws=some (x,ws1))(hv1:gNm ws1=some (x2,ws2))(hv2:gAt ws2=none):Cl 61 #[ptr br, .string ⟨#[103,101,116]⟩,ptr bl] w λe w'=>Fails 2 n bl w e w':=by
 have H0:=hid h
 have C0:=hid (Chg.refl (Jo bl) w)
 clear h
 go_enter Tryz.func61,Tryz.ntmps61
 go_wp2_with fail
 refine (Fa H0.out hz hv0).mono ?_
 rintro e w1 ⟨rfl,h1,c1⟩
 have H1:=hid h1
 have C1:=hid (C0.out.trans c1)
 clear h1 c1 H0 C0
 have hz1:=Ya hv0 hz
 go_wp2_with fail
 refine (Fa H1.out hz1 hv1).mono ?_
 rintro e w2 ⟨rfl,h1,c1⟩
 have H2:=hid h1
 have C2:=hid (C1.out.trans c1)
 clear h1 c1 H1 C1
 have hz2:=Ya hv1 hz1
 go_wp2_with fail
 refine (z2d H2.out (hE.out.line C2.out hbl) hbl hz2 hv2).mono ?_
 intro e w9 h9
 obtain ⟨bf,rfl,h8⟩:=Fails.after h9 C2.out
 exact ⟨rfl,bf,rfl,h8⟩
theorem z2g(h:LineAt w bl n bw ws)(hE:Hid (Env w))(hbl:10<=bl)(hz:SzOk ws)(hv0:gNm ws=some (x,ws1))(hv1:gNm ws1=some (x2,ws2))(hv2:gAt ws2=some (y,ws3)):Cl 61 #[ptr br, .string ⟨#[103,101,116]⟩,ptr bl] w λe w'=>StR bl n bw w (some (St.get x x2 y,ws3)) e w':=by
 have H0:=hid h
 have C0:=hid (Chg.refl (Jo bl) w)
 clear h
 go_enter Tryz.func61,Tryz.ntmps61
 go_wp2_with fail
 refine (Fa H0.out hz hv0).mono ?_
 rintro e w1 ⟨rfl,h1,c1⟩
 have H1:=hid h1
 have C1:=hid (C0.out.trans c1)
 clear h1 c1 H0 C0
 have hz1:=Ya hv0 hz
 go_wp2_with fail
 refine (Fa H1.out hz1 hv1).mono ?_
 rintro e w2 ⟨rfl,h1,c1⟩
 have H2:=hid h1
 have C2:=hid (C1.out.trans c1)
 clear h1 c1 H1 C1
 have hz2:=Ya hv1 hz1
 go_wp2_with fail
 refine (z2c H2.out (hE.out.line C2.out hbl) hbl hz2 hv2).mono ?_
 rintro e w3 ⟨rfl,h1,c1⟩
 have H3:=hid h1
 have C3:=hid (C2.out.trans c1)
 clear h1 c1 H2 C2
 have hz3:=z2f hv2 hz2
 go_wp2
 go_ret
 exact ⟨_,rfl,rfl,H3.out,C3.out⟩
theorem zzs(h:LineAt w bl n bw ws)(_hE:Hid (Env w))(_hbl:10<=bl)(hz:SzOk ws)(hv0:gNm ws=none):Cl 61 #[ptr br, .string ⟨#[112,117,116]⟩,ptr bl] w λe w'=>Fails 2 n bl w e w':=yso
theorem zzt(h:LineAt w bl n bw ws)(hE:Hid (Env w))(hbl:10<=bl)(hz:SzOk ws)(hv0:gNm ws=some (x,ws1))(hv1:gPV ws1=none):Cl 61 #[ptr br, .string ⟨#[112,117,116]⟩,ptr bl] w λe w'=>Fails 2 n bl w e w':=by
 have H0:=hid h
 have C0:=hid (Chg.refl (Jo bl) w)
 clear h
 go_enter Tryz.func61,Tryz.ntmps61
 go_wp2_with fail
 refine (Fa H0.out hz hv0).mono ?_
 rintro e w1 ⟨rfl,h1,c1⟩
 have H1:=hid h1
 have C1:=hid (C0.out.trans c1)
 clear h1 c1 H0 C0
 have hz1:=Ya hv0 hz
 go_wp2_with fail
 refine (zqt H1.out (hE.out.line C1.out hbl) hbl hz1 hv1).mono ?_
 intro e w9 h9
 obtain ⟨bf,rfl,h8⟩:=Fails.after h9 C1.out
 exact ⟨rfl,bf,rfl,h8⟩
theorem zzu(h:LineAt w bl n bw ws)(hE:Hid (Env w))(hbl:10<=bl)(hz:SzOk ws)(hv0:gNm ws=some (x,ws1))(hv1:gPV ws1=some (y,ws2))(hv2:gAt ws2=none):Cl 61 #[ptr br, .string ⟨#[112,117,116]⟩,ptr bl] w λe w'=>Fails 2 n bl w e w':=by
 have H0:=hid h
 have C0:=hid (Chg.refl (Jo bl) w)
 clear h
 go_enter Tryz.func61,Tryz.ntmps61
 go_wp2_with fail
 refine (Fa H0.out hz hv0).mono ?_
 rintro e w1 ⟨rfl,h1,c1⟩
 have H1:=hid h1
 have C1:=hid (C0.out.trans c1)
 clear h1 c1 H0 C0
 have hz1:=Ya hv0 hz
 go_wp2_with fail
 refine (zge H1.out (hE.out.line C1.out hbl) hbl hz1 hv1).mono ?_
 rintro e w2 ⟨rfl,h1,c1⟩
 have H2:=hid h1
 have C2:=hid (C1.out.trans c1)
 clear h1 c1 H1 C1
 have hz2:=zcq hv1 hz1
 have bel:Below w2.heap.size w2 (pvB w2 y):=(Below.refl _ w2).alloc (Nat.le_refl _) _
 have d0:(pvB w2 y).cell? ⟨w2.heap.size,0,none⟩=some (.string y.name):=World.cell?_alloc_new _ _ _ 0
 have d1:(pvB w2 y).cell? ⟨w2.heap.size,1,none⟩=some (.int .i64 y.num):=World.cell?_alloc_new _ _ _ 1
 have CB:=hid ((C2.out.alloc (.cells #[.string y.name, .int .i64 y.num] 196)).drew)
 have HB:=hid ((H2.out.below bel).below (w':=(pvB w2 y).drew) (Qi _ _))
 have hlt:=H2.out.lt
 have KD:=hid (z2d HB.out (hE.out.line CB.out hbl) hbl hz2 hv2)
 clear bel H2 C2
 go_wp2_with fail
 refine wp_region_any yuo ?_
 change wpAny _ _ _ _ _ _ _ (World.drew _)
 refine wpAny_take (i:=0) (v:= .string x) rfl yuo yuo yuo (λ_ _ _ h=>h) (Or.inl ⟨by rfl,λw=>by go_simp⟩) ?_
 refine wpAny_take (i:=1) (v:=ptr bl) rfl yuo yuo yuo (λ_ _ _ h=>h) (Or.inl ⟨by rfl,λw=>by go_simp⟩) ?_
 refine wpAny_ready (rs:=[2,4]) yuo yun ?_
 refine AllReady.cons rfl (λK hK=>?_) ?_
 ·go_simp
  refine KD.out.mono ?_
  intro e w5 h5
  obtain ⟨bf,rfl,h6⟩:=h5.after CB.out
  exact ⟨rfl,bf,rfl,h6⟩
 ·refine AllReady.cons rfl (λK hK=>?_) AllReady.nil
  go_simp
  refine hK _ _ ?_
  clear hK K
  refine wpAny_ready (rs:=[2]) yuo yun ?_
  refine AllReady.cons rfl (λK hK=>?_) AllReady.nil
  go_simp
  refine KD.out.mono ?_
  intro e w5 h5
  obtain ⟨bf,rfl,h6⟩:=h5.after CB.out
  exact ⟨rfl,bf,rfl,h6⟩
theorem z2h(h:LineAt w bl n bw ws)(hE:Hid (Env w))(hbl:10<=bl)(hz:SzOk ws)(hv0:gNm ws=some (x,ws1))(hv1:gPV ws1=some (y,ws2))(hv2:gAt ws2=some (z,ws3)):Cl 61 #[ptr br, .string ⟨#[112,117,116]⟩,ptr bl] w λe w'=>StR bl n bw w (some (St.put x z y,ws3)) e w':=by
 have H0:=hid h
 have C0:=hid (Chg.refl (Jo bl) w)
 clear h
 go_enter Tryz.func61,Tryz.ntmps61
 go_wp2_with fail
 refine (Fa H0.out hz hv0).mono ?_
 rintro e w1 ⟨rfl,h1,c1⟩
 have H1:=hid h1
 have C1:=hid (C0.out.trans c1)
 clear h1 c1 H0 C0
 have hz1:=Ya hv0 hz
 go_wp2_with fail
 refine (zge H1.out (hE.out.line C1.out hbl) hbl hz1 hv1).mono ?_
 rintro e w2 ⟨rfl,h1,c1⟩
 have H2:=hid h1
 have C2:=hid (C1.out.trans c1)
 clear h1 c1 H1 C1
 have hz2:=zcq hv1 hz1
 have bel:Below w2.heap.size w2 (pvB w2 y):=(Below.refl _ w2).alloc (Nat.le_refl _) _
 have d0:(pvB w2 y).cell? ⟨w2.heap.size,0,none⟩=some (.string y.name):=World.cell?_alloc_new _ _ _ 0
 have d1:(pvB w2 y).cell? ⟨w2.heap.size,1,none⟩=some (.int .i64 y.num):=World.cell?_alloc_new _ _ _ 1
 have CB:=hid ((C2.out.alloc (.cells #[.string y.name, .int .i64 y.num] 196)).drew)
 have HB:=hid ((H2.out.below bel).below (w':=(pvB w2 y).drew) (Qi _ _))
 have hlt:=H2.out.lt
 have KD:=hid (z2c HB.out (hE.out.line CB.out hbl) hbl hz2 hv2)
 clear bel H2 C2
 go_wp2_with fail
 go_region_law (go_simp;go_at_call 87;refine KD.out.mono ?_;rintro e w3 ⟨rfl,h1,c1⟩;have g0:=(c1.cell w2.heap.size 0 (blt d0) (λe=>by omega)).trans d0;have g1:=(c1.cell w2.heap.size 1 (blt d0) (λe=>by omega)).trans d1;have H3:=hid h1;have C3:=hid (CB.out.trans c1);clear h1 c1)
 all_goals
  go_wp2
  go_ret
  exact ⟨_,rfl,rfl,H3.out,C3.out⟩
theorem zzv(h:LineAt w bl n bw ws)(hE:Hid (Env w))(hbl:10<=bl)(hz:SzOk ws)(hv0:gPV ws=none):Cl 61 #[ptr br, .string ⟨#[111,117,116]⟩,ptr bl] w λe w'=>Fails 2 n bl w e w':=ysj
theorem z2i(h:LineAt w bl n bw ws)(hE:Hid (Env w))(hbl:10<=bl)(hz:SzOk ws)(hv0:gPV ws=some (y,ws1)):Cl 61 #[ptr br, .string ⟨#[111,117,116]⟩,ptr bl] w λe w'=>StR bl n bw w (some (St.out y,ws1)) e w':=by
 have H0:=hid h
 have C0:=hid (Chg.refl (Jo bl) w)
 clear h
 go_enter Tryz.func61,Tryz.ntmps61
 go_wp2_with fail
 refine (zge H0.out (hE.out.line C0.out hbl) hbl hz hv0).mono ?_
 rintro e w1 ⟨rfl,h1,c1⟩
 have H1:=hid h1
 have C1:=hid (C0.out.trans c1)
 clear h1 c1 H0 C0
 have hz1:=zcq hv0 hz
 go_wp2
 go_ret
 exact ⟨_,rfl,rfl,H1.out,C1.out⟩
theorem zqu(h:LineAt w bl n bw ws)(_hE:Hid (Env w))(_hbl:10<=bl)(_hz:SzOk ws):Cl 61 #[ptr br, .string ⟨#[97,116,111,109,105,99]⟩,ptr bl] w λe w'=>StR bl n bw w (some (St.atomic,ws)) e w':=by
 have H0:=hid h
 have C0:=hid (Chg.refl (Jo bl) w)
 clear h
 go_enter Tryz.func61,Tryz.ntmps61
 go_wp2
 go_ret
 have bel:Below w.heap.size w (w.alloc (.cells #[.slice none 0 0] 165)):=(Below.refl _ w).alloc (Nat.le_refl _) _
 exact ⟨_,rfl,⟨w.heap.size,C0.out.size,rfl,zl2 _ _ _,World.cell?_alloc_new _ _ _ 0,zgf _ _ _⟩,H0.out.below bel,C0.out.alloc _⟩
theorem z2j(h:LineAt w bl n bw ws)(hE:Hid (Env w))(hbl:10<=bl)(hz:SzOk ws)(hv0:gPV ws=none):Cl 61 #[ptr br, .string ⟨#[105,102]⟩,ptr bl] w λe w'=>Fails 2 n bl w e w':=ysj
theorem z41(h:LineAt w bl n bw ws)(hE:Hid (Env w))(hbl:10<=bl)(hz:SzOk ws)(hv0:gPV ws=some (y,ws1)):Cl 61 #[ptr br, .string ⟨#[105,102]⟩,ptr bl] w λe w'=>StR bl n bw w (some (St.iff y,ws1)) e w':=by
 have H0:=hid h
 have C0:=hid (Chg.refl (Jo bl) w)
 clear h
 go_enter Tryz.func61,Tryz.ntmps61
 go_wp2_with fail
 refine (zge H0.out (hE.out.line C0.out hbl) hbl hz hv0).mono ?_
 rintro e w1 ⟨rfl,h1,c1⟩
 have H1:=hid h1
 have C1:=hid (C0.out.trans c1)
 clear h1 c1 H0 C0
 have hz1:=zcq hv0 hz
 go_wp2
 go_ret
 have bel:Below w1.heap.size w1 (w1.alloc (.cells #[.slice none 0 0, .string y.name, .int .i64 y.num] 208)):=(Below.refl _ w1).alloc (Nat.le_refl _) _
 exact ⟨_,rfl,⟨w1.heap.size,C1.out.size,rfl,zl2 _ _ _,World.cell?_alloc_new _ _ _ 0,zgf _ _ _,World.cell?_alloc_new _ _ _ 1,World.cell?_alloc_new _ _ _ 2⟩,H1.out.below bel,C1.out.alloc _⟩
theorem zvc(h:LineAt w bl n bw ws)(hE:Hid (Env w))(hbl:10<=bl)(hz:SzOk ws)(hv0:gIn 1 4 ws=none):Cl 61 #[ptr br, .string ⟨#[108,111,111,112]⟩,ptr bl] w λe w'=>Fails 2 n bl w e w':=by
 have H0:=hid h
 have C0:=hid (Chg.refl (Jo bl) w)
 clear h
 go_enter Tryz.func61,Tryz.ntmps61
 go_wp2_with fail
 refine (z15 H0.out (hE.out.line C0.out hbl) hbl hz hv0).mono ?_
 intro e w9 h9
 obtain ⟨bf,rfl,h8⟩:=Fails.after h9 C0.out
 exact ⟨rfl,bf,rfl,h8⟩
theorem zzw(h:LineAt w bl n bw ws)(hE:Hid (Env w))(hbl:10<=bl)(hz:SzOk ws)(hv0:gIn 1 4 ws=some (v,ws1)):Cl 61 #[ptr br, .string ⟨#[108,111,111,112]⟩,ptr bl] w λe w'=>StR bl n bw w (some (St.loop v,ws1)) e w':=by
 have H0:=hid h
 have C0:=hid (Chg.refl (Jo bl) w)
 clear h
 go_enter Tryz.func61,Tryz.ntmps61
 go_wp2_with fail
 refine (zqf H0.out (hE.out.line C0.out hbl) hbl hz hv0).mono ?_
 rintro e w1 ⟨rfl,h1,c1⟩
 have H1:=hid h1
 have C1:=hid (C0.out.trans c1)
 clear h1 c1 H0 C0
 have hz1:=z13 hv0 hz
 go_wp2
 go_ret
 have bel:Below w1.heap.size w1 (w1.alloc (.cells #[.slice none 0 0, .int .i64 v] 211)):=(Below.refl _ w1).alloc (Nat.le_refl _) _
 exact ⟨_,rfl,⟨w1.heap.size,C1.out.size,rfl,zl2 _ _ _,World.cell?_alloc_new _ _ _ 0,zgf _ _ _,World.cell?_alloc_new _ _ _ 1⟩,H1.out.below bel,C1.out.alloc _⟩
end
def Jz:ByteArray:=⟨#[115,101,116]⟩
def Vd:ByteArray:=⟨#[103,101,116]⟩
def Va:ByteArray:=⟨#[112,117,116]⟩
def Vp:ByteArray:=⟨#[111,117,116]⟩
def Qs:ByteArray:=⟨#[97,116,111,109,105,99]⟩
def Fe:ByteArray:=⟨#[105,102]⟩
def Jh:ByteArray:=⟨#[108,111,111,112]⟩
def zvd(ws:List ByteArray):Option (St×List ByteArray):=(gNm ws).bind λp=>(gNm p.2).bind λq=>(gAt q.2).map λr=>(St.get p.1 q.1 r.1,r.2)
def zve(ws:List ByteArray):Option (St×List ByteArray):=(gNm ws).bind λp=>(gPV p.2).bind λq=>(gAt q.2).map λr=>(St.put p.1 r.1 q.1,r.2)
def Zs(u:ByteArray)(ws:List ByteArray):Option (St×List ByteArray):=
 if u=Jz then zn4 ws else if u=Vd then zvd ws else if u=Va then zve ws else if u=Vp then (gPV ws).map λp=>(St.out p.1,p.2)
 else if u=Qs then some (St.atomic,ws) else if u=Fe then (gPV ws).map λp=>(St.iff p.1,p.2) else if u=Jh then (gIn 1 4 ws).map λp=>(St.loop p.1,p.2) else none
section
variable{w:World}{bl bw br bs:Nat}{n:Int}{ws:List ByteArray}{u:ByteArray}
theorem zjw(h:LineAt w bl n bw ws)(hE:Hid (Env w))(hbl:10<=bl)(hz:SzOk ws)(hS:Hid (SignsAt w br bs bl)):Cl 86 #[ptr br,ptr bl] w λe w'=>StR bl n bw w (zn4 ws) e w':=by
 unfold zn4
 cases h1:gNm ws with
 |none=>exact zn5 h hz h1
 |some p=>
  obtain ⟨x,ws1⟩:=p
  simp only [Option.bind_some]
  cases h2:gPV ws1 with
  |none=>exact zn6 h hE hbl hz h1 h2
  |some q=>
   obtain ⟨y,ws2⟩:=q
   simp only [Option.bind_some]
   cases ws2 with
   |nil=>
    refine (zju h hE hbl hz h1 h2).mono ?_
    rintro e w' ⟨rfl,g1,g2⟩
    exact ⟨_,rfl,rfl,g1,g2⟩
   |cons u us=>
    simp only
    cases h3:gOp (u::us) with
    |none=>exact zhm h hE hbl hz hS h1 h2 h3
    |some o=>
     obtain ⟨k,ws3⟩:=o
     simp only [Option.bind_some]
     cases h4:gPV ws3 with
     |none=>exact zjv h hE hbl hz hS h1 h2 h3 h4
     |some r=>
      obtain ⟨z,ws4⟩:=r
      refine (zn7 h hE hbl hz hS h1 h2 h3 h4).mono ?_
      rintro e w' ⟨rfl,g1,g2⟩
      exact ⟨_,rfl,rfl,g1,g2⟩
theorem z2k(K:Hid (Cl 86 #[ptr br,ptr bl] w λe w'=>StR bl n bw w (zn4 ws) e w')):Cl 61 #[ptr br, .string ⟨#[115,101,116]⟩,ptr bl] w λe w'=>StR bl n bw w (zn4 ws) e w':=by
 cases hg:zn4 ws with
 |none=>
  rw [hg] at K
  go_enter Tryz.func61,Tryz.ntmps61
  go_wp2_with fail
  refine K.out.mono ?_
  rintro e w1 ⟨bf,rfl,h1⟩
  exact ⟨rfl,bf,rfl,h1⟩
 |some p=>
  obtain ⟨s,ws1⟩:=p
  rw [hg] at K
  go_enter Tryz.func61,Tryz.ntmps61
  go_wp2_with fail
  refine K.out.mono ?_
  rintro e w1 ⟨v,rfl,h1⟩
  have H1:=hid h1
  clear h1 K
  go_wp2
  go_ret
  exact ⟨v,rfl,H1.out⟩
theorem zzx(h:LineAt w bl n bw ws)(h0:u≠Jz)(h1:u≠Vd)(h2:u≠Va)(h3:u≠Vp)(h4:u≠Qs)(h5:u≠Fe)(h6:u≠Jh):Cl 61 #[ptr br, .string u,ptr bl] w λe w'=>Fails 2 n bl w e w':=by
 have e0:(u.toList==[115,101,116])=false:=by have:=Oz h0;rwa [show (Jz).toList=[115,101,116] from by rw [ByteArray.toList_eq];rfl] at this
 have e1:(u.toList==[103,101,116])=false:=by have:=Oz h1;rwa [show (Vd).toList=[103,101,116] from by rw [ByteArray.toList_eq];rfl] at this
 have e2:(u.toList==[112,117,116])=false:=by have:=Oz h2;rwa [show (Va).toList=[112,117,116] from by rw [ByteArray.toList_eq];rfl] at this
 have e3:(u.toList==[111,117,116])=false:=by have:=Oz h3;rwa [show (Vp).toList=[111,117,116] from by rw [ByteArray.toList_eq];rfl] at this
 have e4:(u.toList==[97,116,111,109,105,99])=false:=by have:=Oz h4;rwa [show (Qs).toList=[97,116,111,109,105,99] from by rw [ByteArray.toList_eq];rfl] at this
 have e5:(u.toList==[105,102])=false:=by have:=Oz h5;rwa [show (Fe).toList=[105,102] from by rw [ByteArray.toList_eq];rfl] at this
 have e6:(u.toList==[108,111,111,112])=false:=by have:=Oz h6;rwa [show (Jh).toList=[108,111,111,112] from by rw [ByteArray.toList_eq];rfl] at this
 have H:=hid h
 clear h h0 h1 h2 h3 h4 h5 h6
 go_enter Tryz.func61,Tryz.ntmps61
 go_wp2_with fail
 refine (Jv H.out 2).mono ?_
 rintro e w1 ⟨bf,rfl,h1⟩
 exact ⟨rfl,bf,rfl,h1⟩
theorem zhn(h:LineAt w bl n bw ws)(hE:Hid (Env w))(hbl:10<=bl)(hz:SzOk ws)(hS:Hid (SignsAt w br bs bl))(u:ByteArray):Cl 61 #[ptr br, .string u,ptr bl] w λe w'=>StR bl n bw w (Zs u ws) e w':=by
 unfold Zs
 by_cases h0:u=Jz
 ·rw [if_pos h0,h0];exact z2k (zjw h hE hbl hz hS)
 rw [if_neg h0]
 by_cases h1:u=Vd
 ·rw [if_pos h1,h1]
  unfold zvd
  cases g1:gNm ws with
  |none=>exact zzp h hE hbl hz g1
  |some p=>
   obtain ⟨x,ws1⟩:=p
   simp only [Option.bind_some]
   cases g2:gNm ws1 with
   |none=>exact zzq h hE hbl hz g1 g2
   |some q=>
    obtain ⟨y,ws2⟩:=q
    simp only [Option.bind_some]
    cases g3:gAt ws2 with
    |none=>exact zzr h hE hbl hz g1 g2 g3
    |some r=>exact z2g h hE hbl hz g1 g2 g3
 rw [if_neg h1]
 by_cases h2:u=Va
 ·rw [if_pos h2,h2]
  unfold zve
  cases g1:gNm ws with
  |none=>exact zzs h hE hbl hz g1
  |some p=>
   obtain ⟨x,ws1⟩:=p
   simp only [Option.bind_some]
   cases g2:gPV ws1 with
   |none=>exact zzt h hE hbl hz g1 g2
   |some q=>
    obtain ⟨y,ws2⟩:=q
    simp only [Option.bind_some]
    cases g3:gAt ws2 with
    |none=>exact zzu h hE hbl hz g1 g2 g3
    |some r=>exact z2h h hE hbl hz g1 g2 g3
 rw [if_neg h2]
 by_cases h3:u=Vp
 ·rw [if_pos h3,h3]
  cases g1:gPV ws with
  |none=>exact zzv h hE hbl hz g1
  |some p=>exact z2i h hE hbl hz g1
 rw [if_neg h3]
 by_cases h4:u=Qs
 ·rw [if_pos h4,h4]
  exact zqu h hE hbl hz
 rw [if_neg h4]
 by_cases h5:u=Fe
 ·rw [if_pos h5,h5]
  cases g1:gPV ws with
  |none=>exact z2j h hE hbl hz g1
  |some p=>exact z41 h hE hbl hz g1
 rw [if_neg h5]
 by_cases h6:u=Jh
 ·rw [if_pos h6,h6]
  cases g1:gIn 1 4 ws with
  |none=>exact zvc h hE hbl hz g1
  |some p=>exact zzw h hE hbl hz g1
 rw [if_neg h6]
 exact zzx h h0 h1 h2 h3 h4 h5 h6
end
abbrev En:=St⊕Nat
abbrev En.leaf(s:St):En:= .inl s
abbrev En.sub(j:Nat):En:= .inr j
abbrev HK:=(List ByteArray×Nat)⊕St
abbrev HK.thr(l:List ByteArray)(c:Nat):HK:= .inl (l,c)
abbrev HK.st(s:St):HK:= .inr s
structure Hd where
 k:HK
 ents:List En
structure RS where
 shared:List (ByteArray×Int×Int)
 cells:Int
 hs:List Hd
 threads:List Nat
 opn:List Nat
def stV:St->Value
 | .inl (to,a)=> .iface 222 (.agg #[.string to, .string a.name, .int .i64 a.num])
 | .inr (.inl (to,o,a,b))=> .iface 226 (.agg #[.string to, .int .i64 o, .string a.name, .int .i64 a.num, .string b.name, .int .i64 b.num])
 | .inr (.inr (.inl (to,of,a)))=> .iface 201 (.agg #[.string to, .string of, .string a.name, .int .i64 a.num])
 | .inr (.inr (.inr (.inl (of,a,b))))=> .iface 203 (.agg #[.string of, .string a.name, .int .i64 a.num, .string b.name, .int .i64 b.num])
 | .inr (.inr (.inr (.inr (.inl a))))=> .iface 205 (.agg #[.string a.name, .int .i64 a.num])
 |_=> .nilIface
def hkT:HK->TypeId
 | .inl (_,_)=>104
 | .inr (.inr (.inr (.inr (.inr (.inr (.inl ()))))))=>162
 | .inr (.inr (.inr (.inr (.inr (.inr (.inr (.inl _)))))))=>206
 | .inr (.inr (.inr (.inr (.inr (.inr (.inr (.inr _)))))))=>209
 | .inr _=>0
def z53:HK->TypeId×Nat
 | .inl (_,_)=>(111,3)
 | .inr (.inr (.inr (.inr (.inr (.inr (.inl ()))))))=>(165,1)
 | .inr (.inr (.inr (.inr (.inr (.inr (.inr (.inl _)))))))=>(208,3)
 | .inr (.inr (.inr (.inr (.inr (.inr (.inr (.inr _)))))))=>(211,2)
 | .inr _=>(0,0)
def zjx(l:List ByteArray)(u:ByteArray):Option Value:=(l.findIdx? λx=>decide (x=u)).map λ(k:Nat)=>Value.int .i64 (k:Int)
def shF(l:List (ByteArray×Int×Int))(u:ByteArray):Option Value:=(l.find? λp=>decide (p.1=u)).map λp=> .agg #[.int .i64 p.2.1, .int .i64 p.2.2]
structure HM where
 b:Nat
 rv:Value
 mb:Nat
 h:Hd
abbrev Ids:=List (TypeId×Nat)
def Qu(ms:List HM):Ids:=ms.map λm=>(hkT m.h.k,m.b)
def idV(ids:Ids)(j:Nat):Value:=match ids[j]? with|some p=> .iface p.1 (ptr p.2)|none=> .nilIface
def idP(ids:Ids)(j:Nat):Value:=match ids[j]? with|some p=>ptr p.2|none=> .pointer none
def enV(ids:Ids):En->Value
 | .inl s=>stV s
 | .inr j=>idV ids j
def HkAt(w:World)(b mb:Nat):HK->Prop
 | .inl (l,c)=>w.cell? ⟨b,1,none⟩=some (.map (some mb))/\w.cell? ⟨b,2,none⟩=some (.int .i64 c)/\MapIs w mb (zjx l) l.length
 | .inr (.inr (.inr (.inr (.inr (.inr (.inr (.inl a)))))))=>w.cell? ⟨b,1,none⟩=some (.string a.name)/\w.cell? ⟨b,2,none⟩=some (.int .i64 a.num)
 | .inr (.inr (.inr (.inr (.inr (.inr (.inr (.inr n)))))))=>w.cell? ⟨b,1,none⟩=some (.int .i64 n)
 | .inr _=>True
structure HdAt(w:World)(ids:Ids)(m:HM):Prop where
 sh:w.shape? m.b=some (z53 m.h.k)
 rc:w.cell? ⟨m.b,0,none⟩=some m.rv
 row:w.ownsRow 0 153 1 m.rv m.h.ents.length (m.h.ents.map (enV ids))
 kind:HkAt w m.b m.mb m.h.k
 free: ∀j,w.frozen? ⟨m.b,j,none⟩=false
def HK.isThr:HK->Prop
 | .inl (_,_)=>True
 | .inr _=>False
structure LabH(D:Nat->Prop)(lab:Nat->Nat×Nat)(i:Nat)(m:HM):Prop where
 b:lab m.b=(i+1,0)/\D m.b
 rv: ∀g,m.rv.ownBlock=some g->lab g=(i+1,1)/\D g
 mb:m.h.k.isThr->lab m.mb=(i+1,2)/\D m.mb
section
variable{M:Nat->Nat->Prop}{D D':Nat->Prop}{lab:Nat->Nat×Nat}{w w':World}{ids:Ids}{m:HM}{b mb:Nat}{k:HK}
theorem HkAt.keep(h:HkAt w b mb k)(hb:b<w.heap.size)(hc:Chg M w w')(h1: ∀i,i=1\/i=2->¬M b i)(h2:k.isThr->∀i,¬M mb i):HkAt w' b mb k:=by
 have c1:=hc.cell b 1 hb (h1 1 (.inl rfl))
 have c2:=hc.cell b 2 hb (h1 2 (.inr rfl))
 rcases k with ⟨l,c⟩|⟨to,a⟩|⟨to,k,a,c⟩|⟨to,f,a⟩|⟨f,a,c⟩|a|⟨⟩|a|n
 ·exact ⟨c1.trans h.1,c2.trans h.2.1,h.2.2.keep hc (h2 trivial)⟩
 ·trivial
 ·trivial
 ·trivial
 ·trivial
 ·trivial
 ·trivial
 ·exact ⟨c1.trans h.1,c2.trans h.2⟩
 ·exact c1.trans h
theorem HdAt.keep(h:HdAt w ids m)(hc:Chg M w w')(h1: ∀i,¬M m.b i)(h2: ∀g,m.rv.ownBlock=some g->∀i,¬M g i)(h3:m.h.k.isThr->∀i,¬M m.mb i):HdAt w' ids m:=by
 have hb:=Qd h.sh
 exact ⟨(hc.shape _ hb).trans h.sh,(hc.cell _ _ hb (h1 _)).trans h.rc,Qc h.row hc h2,h.kind.keep hb hc (λi _=>h1 i) h3,λj=>(hc.frozen _ _ hb).trans (h.free j)⟩
theorem HdAt.mblt(h:HdAt w ids m)(ht:m.h.k.isThr):m.mb<w.heap.size:=by
 have:=h.kind
 cases hk:m.h.k with
 |inl x=>rw [hk] at this;exact this.2.2.lt
 |inr s=>rw [hk] at ht;exact ht.elim
theorem LabH.newD{i:Nat}(l:LabH D lab i m)(h:HdAt w ids m)(hD: ∀k,D k->k<w.heap.size->D' k):LabH D' lab i m:=
 ⟨⟨l.b.1,hD _ l.b.2 (Qd h.sh)⟩,λg hg=>⟨(l.rv g hg).1,hD _ (l.rv g hg).2 (h.row.lt g hg).2⟩,λht=>⟨(l.mb ht).1,hD _ (l.mb ht).2 (h.mblt ht)⟩⟩
theorem zjy(ids x:Ids)(j:Nat)(hj:j<ids.length):idV (ids++x) j=idV ids j:=by unfold idV;rw [List.getElem?_append_left hj]
theorem zqv(ids x:Ids)(j:Nat)(hj:j<ids.length):idP (ids++x) j=idP ids j:=by unfold idP;rw [List.getElem?_append_left hj]
end
structure RMach(D:Nat->Prop)(lab:Nat->Nat×Nat)(w:World)(br sb bs:Nat)(tv ov:Value)(st:RS)(ms:List HM):Prop where
 sh:w.shape? br=some (96,5)
 c0:w.cell? ⟨br,0,none⟩=some (.map (some sb))
 c1:w.cell? ⟨br,1,none⟩=some tv
 c2:w.cell? ⟨br,2,none⟩=some (.int .i64 st.cells)
 c3:w.cell? ⟨br,3,none⟩=some ov
 c4:w.cell? ⟨br,4,none⟩=some (.map (some bs))
 free: ∀j,w.frozen? ⟨br,j,none⟩=false
 mS:MapIs w sb (shF st.shared) st.shared.length
 mG:MapIs w bs Sa 12
 trow:w.ownsRow 0 104 1 tv st.threads.length (st.threads.map (idP (Qu ms)))
 orow:w.ownsRow 0 216 1 ov st.opn.length (st.opn.map (idV (Qu ms)))
 hd: ∀i (h:i<ms.length),HdAt w (Qu ms) ms[i]
 hs:ms.map (·.h)=st.hs
 lbr:lab br=(0,0)/\D br
 lsb:lab sb=(0,1)/\D sb
 ltv: ∀g,tv.ownBlock=some g->lab g=(0,2)/\D g
 lov: ∀g,ov.ownBlock=some g->lab g=(0,3)/\D g
 lbs:lab bs=(0,4)/\D bs
 lhd: ∀i (h:i<ms.length),LabH D lab i ms[i]
section
variable{M:Nat->Nat->Prop}{D D':Nat->Prop}{lab:Nat->Nat×Nat}{w w':World}{br sb bs:Nat}{tv ov:Value}{st:RS}{ms:List HM}
theorem RMach.keep(h:RMach D lab w br sb bs tv ov st ms)(hc:Chg M w w')(hM: ∀k i,D k->¬M k i):RMach D lab w' br sb bs tv ov st ms:=by
 have hb:=Qd h.sh
 have kb: ∀i,¬M br i:=λi=>hM br i h.lbr.2
 exact {
  sh:=(hc.shape _ hb).trans h.sh,c0:=(hc.cell _ _ hb (kb _)).trans h.c0,c1:=(hc.cell _ _ hb (kb _)).trans h.c1,c2:=(hc.cell _ _ hb (kb _)).trans h.c2,c3:=(hc.cell _ _ hb (kb _)).trans h.c3,c4:=(hc.cell _ _ hb (kb _)).trans h.c4
  free:=λj=>(hc.frozen _ _ hb).trans (h.free j)
  mS:=h.mS.keep hc (λi=>hM _ i h.lsb.2)
  mG:=h.mG.keep hc (λi=>hM _ i h.lbs.2)
  trow:=Qc h.trow hc (λg hg i=>hM g i (h.ltv g hg).2)
  orow:=Qc h.orow hc (λg hg i=>hM g i (h.lov g hg).2)
  hd:=λi hi=>(h.hd i hi).keep hc (λj=>hM _ j (h.lhd i hi).b.2) (λg hg j=>hM g j ((h.lhd i hi).rv g hg).2) (λht j=>hM _ j ((h.lhd i hi).mb ht).2)
  hs:=h.hs,lbr:=h.lbr,lsb:=h.lsb,ltv:=h.ltv,lov:=h.lov,lbs:=h.lbs,lhd:=h.lhd}
theorem RMach.below(h:RMach D lab w br sb bs tv ov st ms)(hb:Below w.heap.size w w'):RMach D lab w' br sb bs tv ov st ms:=h.keep (M:=λ_ _=>False) (Chg.of_below hb) (λ_ _ _ e=>e)
theorem RMach.newD(h:RMach D lab w br sb bs tv ov st ms)(hD: ∀k,D k->k<w.heap.size->D' k):RMach D' lab w br sb bs tv ov st ms:={
 sh:=h.sh,c0:=h.c0,c1:=h.c1,c2:=h.c2,c3:=h.c3,c4:=h.c4,free:=h.free,mS:=h.mS,mG:=h.mG,trow:=h.trow,orow:=h.orow,hd:=h.hd,hs:=h.hs
 lbr:=⟨h.lbr.1,hD _ h.lbr.2 (Qd h.sh)⟩
 lsb:=⟨h.lsb.1,hD _ h.lsb.2 h.mS.lt⟩
 ltv:=λg hg=>⟨(h.ltv g hg).1,hD _ (h.ltv g hg).2 (h.trow.lt g hg).2⟩
 lov:=λg hg=>⟨(h.lov g hg).1,hD _ (h.lov g hg).2 (h.orow.lt g hg).2⟩
 lbs:=⟨h.lbs.1,hD _ h.lbs.2 h.mG.lt⟩
 lhd:=λi hi=>(h.lhd i hi).newD (h.hd i hi) hD}
theorem RMach.len(h:RMach D lab w br sb bs tv ov st ms):ms.length=st.hs.length:=by rw [<-h.hs];simp
theorem RMach.idl(h:RMach D lab w br sb bs tv ov st ms):(Qu ms).length=st.hs.length:=by rw [<-h.len];simp [Qu]
end
def Vk(s:St)(b:Nat):Value:=match s with
 | .inr (.inr (.inr (.inr (.inr (.inl ())))))=> .iface 162 (ptr b)
 | .inr (.inr (.inr (.inr (.inr (.inr (.inl _))))))=> .iface 206 (ptr b)
 | .inr (.inr (.inr (.inr (.inr (.inr (.inr _))))))=> .iface 209 (ptr b)
 |s=>stV s
def Vg:St->ByteArray
 | .inl (to,_)=>to
 | .inr (.inl (to,_,_,_))=>to
 | .inr (.inr (.inl (to,_,_)))=>to
 |_=>ByteArray.empty
def HK.isAtomic:HK->Bool
 | .inr (.inr (.inr (.inr (.inr (.inr (.inl ()))))))=>true
 |_=>false
def RS.hk(st:RS)(j:Nat):Option HK:=(st.hs[j]?).map (·.k)
def RS.inB(st:RS):Bool:=st.opn.any λj=>((st.hk j).map HK.isAtomic).getD false
def RS.isSh(st:RS)(u:ByteArray):Bool:=st.shared.any λp=>decide (p.1=u)
def Uh(l:List ByteArray)(u:ByteArray):Bool:=l.any λx=>decide (x=u)
theorem zqx(w:World):(zeroValue 193).run Tryz.prog w= .ok (.agg #[.int .i64 0, .int .i64 0]) w:=yuo
theorem zqy(w:World):(zeroValue 3).run Tryz.prog w= .ok (.int .i64 0) w:=yuo
section
variable{D:Nat->Prop}{lab:Nat->Nat×Nat}{w:World}{br sb bs:Nat}{tv ov:Value}{st:RS}{ms:List HM}
theorem zl5(l:List (ByteArray×Int×Int))(u:ByteArray):(shF l u).isSome=l.any λp=>decide (p.1=u):=by
 unfold shF
 rw [Option.isSome_map]
 induction l with
 |nil=>rfl
 |cons p l ih=>
  simp only [List.find?_cons,List.any_cons]
  cases h:decide (p.1=u) with
  |true=>simp
  |false=>simp [ih]
theorem zzy(l:List (ByteArray×Int×Int))(u:ByteArray): ∃a b,(shF l u).getD (.agg #[.int .i64 0, .int .i64 0])= .agg #[.int .i64 a, .int .i64 b]:=by
 unfold shF
 cases (l.find? λp=>decide (p.1=u)) with
 |none=>exact ⟨0,0,rfl⟩
 |some p=>exact ⟨_,_,rfl⟩
theorem Uu(h:RMach D lab w br sb bs tv ov st ms)(u:ByteArray)(hu:u.size<=maxLen):
  Cl 85 #[ptr br, .string u] w λe w'=>e= .returned (.bool (st.isSh u))/\Below w.heap.size w w':=by
 have c0:=h.c0
 have hl:=h.mS.look Tryz.underlying88 (zqx w) hu
 rw [zl5] at hl
 obtain ⟨a,b,e⟩:=zzy st.shared u
 rw [e] at hl
 unfold RS.isSh
 generalize (st.shared.any λp=>decide (p.1=u))=r at*
 clear h e
 go_enter Tryz.func85,Tryz.ntmps85
 go_wp2
 go_ret
 exact ⟨rfl,(Below.refl _ w).alloc (Nat.le_refl _) _⟩
theorem zho(l:List ByteArray)(u:ByteArray):(zjx l u).isSome=Uh l u:=by
 unfold zjx Uh
 rw [Option.isSome_map]
 induction l with
 |nil=>rfl
 |cons p l ih=>
  rw [List.findIdx?_cons,List.any_cons,<-ih]
  cases h:decide (p=u) with
  |true=>simp
  |false=>simp
theorem zvi(l:List ByteArray)(u:ByteArray): ∃a,(zjx l u).getD (.int .i64 0)= .int .i64 a:=by
 unfold zjx
 cases (l.findIdx? λx=>decide (x=u)) with
 |none=>exact ⟨0,rfl⟩
 |some k=>exact ⟨_,rfl⟩
theorem zhp{b mb:Nat}{l:List ByteArray}(c1:w.cell? ⟨b,1,none⟩=some (.map (some mb)))(hm:MapIs w mb (zjx l) l.length)(u:ByteArray)(hu:u.size<=maxLen):
  Cl 94 #[ptr b, .string u] w λe w'=>e= .returned (.bool (Uh l u))/\w'=w:=by
 have hl:=hm.look Tryz.underlying109 (zqy w) hu
 rw [zho] at hl
 obtain ⟨a,e⟩:=zvi l u
 rw [e] at hl
 generalize Uh l u=r at*
 clear hm e
 go_enter Tryz.func94,Tryz.ntmps94
 go_wp2
 go_ret
 exact ⟨rfl,rfl⟩
theorem zdq(h:RMach D lab w br sb bs tv ov st ms)(tl:List Nat)(t:Nat)(ht:st.threads=tl++[t])(htl:t<ms.length)(hn:tl.length<1000000):
  Cl 92 #[ptr br] w λe w'=>e= .returned (ptr ms[t].b)/\w'=w.drew:=by
 have c1:=h.c1
 have hr:=h.trow
 rw [ht] at hr
 simp only [List.length_append,List.length_cons,List.length_nil] at hr
 obtain ⟨g,cp,rfl⟩: ∃g cp,tv= .slice (some ⟨g,0,none⟩) (tl.length+1) cp:=ytg
 obtain ⟨q1,_,_⟩:=Qm hr tl.length yum
 have q2:w.cell? ⟨g,tl.length,none⟩=some (ptr ms[t].b):=by
  rw [q1]
  simp [idP,Qu,List.getElem?_eq_getElem htl]
 generalize ms[t].b=tb at*
 have hw:wrap64 ((tl.length:Int)+1- 1)=(tl.length:Int):=yut
 have hw2:(tl.length:Int)<(tl.length:Int)+1:=yum
 clear h hr q1
 go_enter Tryz.func92,Tryz.ntmps92
 go_wp2_with fail
 go_region
 all_goals
  go_wp2
  go_ret
  exact ⟨rfl,rfl⟩
end
end Go.Proofs.YtkenoofmkbghiaaGreatDoor
