import Derived.Test.YtiiepngikigmbaaGreatDoorP08
import Derived.Maps.OwnSet
import Derived.StringKeys
set_option maxRecDepth 100000
set_option maxHeartbeats 1000000
namespace Go.Proofs.YtiiepngikigmbaaGreatDoor
open Go.RowKit
variable{u:ByteArray}{W w' w1:World}{e t:TypeId}{z:Value}
def small(b:UInt8):Bool:=decide (97<=b.toNat)&&decide (b.toNat<=122)
def Vo(u:ByteArray):Bool:=decide (0<u.size)&&(decide (u.size<=6)&&u.data.toList.all small)
structure PV where
 name:ByteArray
 num:Int
def pvV(x:PV):Value:= .agg #[.string x.name, .int .i64 x.num]
def gNm:List ByteArray->Option (ByteArray×List ByteArray)
 |[]=>none
 |u::ws=>if Vo u=true then some (u,ws) else none
def gPV:List ByteArray->Option (PV×List ByteArray)
 |[]=>none
 |u::ws=>if Vo u=true then some (⟨u,0⟩,ws) else (Qk u).map λv=>(⟨ByteArray.empty,v⟩,ws)
section
variable{w:World}{bl bw:Nat}{n:Int}{ws ws1:List ByteArray}
theorem zl0(h:u.data.toList.all small=true)(j:Nat)(hj:j<u.size):97<=u[j].toNat/\u[j].toNat<=122:=by
 have:=List.all_eq_true.1 h u[j] (by
  have:u[j]=u.data.toList[j]'(by simpa using hj):=by simp [ByteArray.getElem_eq_getElem_data]
  rw [this]
  exact List.getElem_mem _)
 simpa [small] using this
theorem zl1(h:u.data.toList.all small=false): ∃k,∃hk:k<u.size,(u[k].toNat<97\/122<u[k].toNat)/\ ∀j (h:j<u.size),j<k->97<=u[j].toNat/\u[j].toNat<=122:=by
 have hex: ∃k,∃hk:k<u.size,u[k].toNat<97\/122<u[k].toNat:=by
  obtain ⟨x,hx,hs⟩:=List.all_eq_false.1 h
  obtain ⟨k,hk,rfl⟩:=List.getElem_of_mem hx
  have hk':k<u.size:=by simpa using hk
  refine ⟨k,hk',?_⟩
  have:u[k]=u.data.toList[k]:=by simp [ByteArray.getElem_eq_getElem_data]
  rw [this]
  simp [small] at hs
  simp
  omega
 classical
 obtain ⟨k,hk⟩: ∃k,(∃hk:k<u.size,u[k].toNat<97\/122<u[k].toNat)/\ ∀j,j<k->¬∃hk:j<u.size,u[j].toNat<97\/122<u[j].toNat:=by
  have: ∀n,(∃k,k<n/\ ∃hk:k<u.size,u[k].toNat<97\/122<u[k].toNat)->∃k,(∃hk:k<u.size,u[k].toNat<97\/122<u[k].toNat)/\ ∀j,j<k->¬∃hk:j<u.size,u[j].toNat<97\/122<u[j].toNat:=by
   intro n
   induction n with
   |zero=>rintro ⟨k,hk,_⟩;omega
   |succ n ih=>
    rintro ⟨k,hk,h⟩
    by_cases hlt: ∃k,k<n/\ ∃hk:k<u.size,u[k].toNat<97\/122<u[k].toNat
    ·exact ih hlt
    ·have:k=n:=by
      by_cases h':k<n
      ·exact absurd ⟨k,h',h⟩ hlt
      ·omega
     subst this
     exact ⟨k,h,λj hj hh=>hlt ⟨j,hj,hh⟩⟩
  obtain ⟨k,hk⟩:=hex
  exact this (k+1) ⟨k,by omega,hk⟩
 obtain ⟨⟨hlt,hb⟩,hf⟩:=hk
 refine ⟨k,hlt,hb,λj hj hjk=>?_⟩
 have:=hf j hjk
 have h2: ¬(u[j].toNat<97\/122<u[j].toNat):=λh=>this ⟨hj,h⟩
 omega
theorem zjs(w:World)(u:ByteArray)(h:u.size=0\/6<u.size):
  Cl 110 #[.string u] w λe w'=>e= .returned (.bool false)/\w'=w:=by
 by_cases h0:u.size=0
 ·have he:u.toList.isEmpty=true:=by
   rw [ByteArray.toList_eq]
   have:u.data.toList=[]:=List.length_eq_zero_iff.1 (by simpa using h0)
   rw [this];rfl
  go_enter Tryz.func110,Tryz.ntmps110
  go_wp2
  go_ret
  exact ⟨rfl,rfl⟩
 ·have he:u.toList.isEmpty=false:=Ey yl5
  have h6:(6:Int)<(u.size:Int):=yl5
  go_enter Tryz.func110,Tryz.ntmps110
  go_wp2
  go_ret
  exact ⟨rfl,rfl⟩
theorem zn2(w:World)(u:ByteArray)(h0:0<u.size)(h6:u.size<=6)(hd:Hid (∀j (h:j<u.size),97<=u[j].toNat/\u[j].toNat<=122)):
  Cl 110 #[.string u] w λe w'=>e= .returned (.bool true)/\w'=w:=by
 have he:u.toList.isEmpty=false:=Ey yl5
 have h6': ¬(6:Int)<(u.size:Int):=yl5
 go_enter Tryz.func110,Tryz.ntmps110
 go_wp2
 go_loopw [13] (λv wr=>∃k:Nat,k<=u.size/\v= .int .i64 k/\wr=w) (λv _=>u.size- (intOf v).toNat)
 case atStart=>exact ⟨0,by omega,rfl,rfl⟩
 case round=>
  obtain ⟨k,hk,rfl,rfl⟩:=hrel
  by_cases hlt:k<u.size
  ·have hlt':(k:Int)<(u.size:Int):=by omega
   obtain ⟨d1,d2⟩:=hd.out k hlt
   have q1: ¬(u[k].toNat:Int)<97:=yl5
   have q2: ¬(122:Int)<(u[k].toNat:Int):=yl5
   go_wp2
   go_roundw
   case rel=>exact ⟨k+1,by omega,by go_num,trivial⟩
   case measure=>simp [intOf];omega
  ·have hlt': ¬(k:Int)<(u.size:Int):=by omega
   go_wp2
   go_ret
   exact ⟨rfl,rfl⟩
theorem zqo(w:World)(u:ByteArray)(h0:0<u.size)(h6:u.size<=6)(k0:Nat)(hk0:k0<u.size)(hb:u[k0].toNat<97\/122<u[k0].toNat)(hd:Hid (∀j (h:j<u.size),j<k0->97<=u[j].toNat/\u[j].toNat<=122)):
  Cl 110 #[.string u] w λe w'=>e= .returned (.bool false)/\w'=w:=by
 have he:u.toList.isEmpty=false:=Ey yl5
 have h6': ¬(6:Int)<(u.size:Int):=yl5
 go_enter Tryz.func110,Tryz.ntmps110
 go_wp2
 go_loopw [13] (λv wr=>∃k:Nat,k<=k0/\v= .int .i64 k/\wr=w) (λv _=>u.size- (intOf v).toNat)
 case atStart=>exact ⟨0,by omega,rfl,rfl⟩
 case round=>
  obtain ⟨k,hk,rfl,rfl⟩:=hrel
  have hlt:k<u.size:=yl5
  have hlt':(k:Int)<(u.size:Int):=yl5
  by_cases hkn:k<k0
  ·obtain ⟨d1,d2⟩:=hd.out k hlt hkn
   have q1: ¬(u[k].toNat:Int)<97:=yl5
   have q2: ¬(122:Int)<(u[k].toNat:Int):=yl5
   go_wp2
   go_roundw
   case rel=>exact ⟨k+1,by omega,by go_num,trivial⟩
   case measure=>simp [intOf];omega
  ·obtain rfl:k=k0:=by omega
   by_cases q1:(u[k].toNat:Int)<97
   ·go_wp2
    go_ret
    exact ⟨rfl,rfl⟩
   ·have q2:(122:Int)<(u[k].toNat:Int):=by omega
    go_wp2
    go_ret
    exact ⟨rfl,rfl⟩
theorem Fj(w:World)(u:ByteArray):Cl 110 #[.string u] w λe w'=>e= .returned (.bool (Vo u))/\w'=w:=by
 by_cases h0:u.size=0\/6<u.size
 ·have e:Vo u=false:=by
   unfold Vo
   rcases h0 with h|h
   ·have: ¬0<u.size:=by omega
    simp [this]
   ·have: ¬u.size<=6:=by omega
    simp [this]
  rw [e]
  exact zjs w u h0
 ·have h1:0<u.size:=by omega
  have h6:u.size<=6:=yl5
  have e:Vo u=u.data.toList.all small:=by unfold Vo;simp [h1,h6]
  rw [e]
  cases ha:u.data.toList.all small with
  |true=>exact zn2 w u h1 h6 (zl0 ha)
  |false=>
   obtain ⟨k,hk,hb,hd⟩:=zl1 ha
   exact zqo w u h1 h6 k hk hb hd
theorem zcp(h:LineAt w bl n bw ws)(hz:SzOk ws):
  Cl 73 #[ptr bl] w λe w'=>Rds bl n bw w ((gNm ws).map λp=>(.string p.1,p.2)) e w':=by
 have H:=hid h
 clear h
 cases ws with
 |nil=>
  go_enter Tryz.func73,Tryz.ntmps73
  go_wp2_with fail
  refine (Fg H.out).mono ?_
  rintro e w1 ⟨bf,rfl,h1⟩
  exact ⟨rfl,bf,rfl,h1⟩
 |cons u ws=>
  cases hr:Vo u with
  |true=>
   have e:((gNm (u::ws)).map λp=>((.string p.1:Value),p.2))=some (.string u,ws):=by simp [gNm,hr]
   rw [e]
   go_enter Tryz.func73,Tryz.ntmps73
   go_wp2_with fail
   refine (Ve H.out hz.len).mono ?_
   rintro e w1 ⟨rfl,h1,c1⟩
   have H1:=hid h1
   have C1:=hid c1
   clear h1 c1
   go_wp2_with fail
   refine (Fj w1 u).mono ?_
   rintro e w2 ⟨rfl,rfl⟩
   rw [hr]
   go_wp2
   go_ret
   exact ⟨rfl,H1.out,C1.out⟩
  |false=>
   have e:((gNm (u::ws)).map λp=>((.string p.1:Value),p.2))=none:=by simp [gNm,hr]
   rw [e]
   go_enter Tryz.func73,Tryz.ntmps73
   go_wp2_with fail
   refine (Ve H.out hz.len).mono ?_
   rintro e w1 ⟨rfl,h1,c1⟩
   have H1:=hid h1
   have C1:=hid c1
   clear h1 c1
   go_wp2_with fail
   refine (Fj w1 u).mono ?_
   rintro e w2 ⟨rfl,rfl⟩
   rw [hr]
   go_wp2_with fail
   refine (Jv H1.out 2).mono ?_
   intro e w3 h3
   obtain ⟨bf,rfl,h4⟩:=h3.after C1.out
   exact ⟨rfl,bf,rfl,h4⟩
abbrev pvW(w:World):World:=w.alloc (.cells #[.string ⟨#[]⟩, .int .i64 0] 187)
structure PvRes(bl:Nat)(w w1:World):Prop where
 c0:w1.cell? ⟨w.heap.size,0,none⟩=some (.string ⟨#[]⟩)
 c1:w1.cell? ⟨w.heap.size,1,none⟩=some (.int .i64 0)
 f0:w1.frozen? ⟨w.heap.size,0,none⟩=false
 f1:w1.frozen? ⟨w.heap.size,1,none⟩=false
 lt:w.heap.size<w1.heap.size
 chg:Chg (Jo bl) w w1
theorem zqp(hb:bl<w.heap.size)(c:Chg (Jo bl) (pvW w) w1):PvRes bl w w1:=by
 have hs:(pvW w).heap.size=w.heap.size+1:=by simp [pvW]
 have h1:=c.size
 have k: ∀o,w1.cell? ⟨w.heap.size,o,none⟩=(pvW w).cell? ⟨w.heap.size,o,none⟩:=λo=>c.cell _ _ yl5 (λe=>by omega)
 have kf: ∀o,w1.frozen? ⟨w.heap.size,o,none⟩=(pvW w).frozen? ⟨w.heap.size,o,none⟩:=λo=>c.frozen _ _ yl5
 exact ⟨(k 0).trans (World.cell?_alloc_new _ _ _ 0),(k 1).trans (World.cell?_alloc_new _ _ _ 1),(kf 0).trans (by simp [pvW]),(kf 1).trans (by simp [pvW]),by omega,((Chg.refl _ w).alloc _).trans c⟩
theorem PvRes.done(h:PvRes bl w w1)(a b:Value):(World.setCell (w1.setCell ⟨w.heap.size,0,none⟩ a) ⟨w.heap.size,1,none⟩ b).cell? ⟨w.heap.size,0,none⟩=some a/\(World.setCell (w1.setCell ⟨w.heap.size,0,none⟩ a) ⟨w.heap.size,1,none⟩ b).cell? ⟨w.heap.size,1,none⟩=some b/\Chg (Jo bl) w ((w1.setCell ⟨w.heap.size,0,none⟩ a).setCell ⟨w.heap.size,1,none⟩ b)/\Chg (λk _=>k=w.heap.size) w1 ((w1.setCell ⟨w.heap.size,0,none⟩ a).setCell ⟨w.heap.size,1,none⟩ b):=
 ⟨(Qb yl5).trans (Qg h.c0 rfl),Qg ((Qb yl5).trans h.c1) rfl,(h.chg.setCell (λe=>absurd e (Nat.lt_irrefl _)) a).setCell (λe=>absurd e (Nat.lt_irrefl _)) b,((Chg.refl (λk _=>k=w.heap.size) w1).setCell (λ_=>rfl) a).setCell (λ_=>rfl) b⟩
theorem LineAt.done(h:LineAt w1 bl n bw ws)(hb:bl<w.heap.size)(hw:bw<w.heap.size)(c:Chg (λk _=>k=w.heap.size) w1 W):LineAt W bl n bw ws:=h.keep c (λ_ e=>by omega) (λ_ e=>by omega)
theorem Oh(h:LineAt w bl n bw ws)(hE:Hid (Env w))(hbl:10<=bl)(hz:SzOk ws):
  Cl 78 #[ptr bl] w λe w'=>Rds bl n bw w ((gPV ws).map λp=>(pvV p.1,p.2)) e w':=by
 have hlt:=h.lt
 have hltw:=h.ltw
 have bel:Below w.heap.size w (pvW w):=(Below.refl _ w).alloc (Nat.le_refl _) _
 have H:=hid (h.below bel)
 have E1:=hid (hE.out.below bel)
 have A0:=hid ((Chg.refl (Jo bl) w).alloc (.cells #[.string ⟨#[]⟩, .int .i64 0] 187))
 clear h bel
 cases ws with
 |nil=>
  go_enter Tryz.func78,Tryz.ntmps78
  go_wp2_with fail
  refine (Fg H.out).mono ?_
  intro e w3 h3
  obtain ⟨bf,rfl,h4⟩:=h3.after A0.out
  exact ⟨rfl,bf,rfl,h4⟩
 |cons u ws=>
  cases hr:Vo u with
  |true=>
   have e:((gPV (u::ws)).map λp=>(pvV p.1,p.2))=some (.agg #[.string u, .int .i64 0],ws):=by simp [gPV,hr,pvV]
   rw [e]
   go_enter Tryz.func78,Tryz.ntmps78
   go_wp2_with fail
   refine (Ve H.out hz.len).mono ?_
   rintro e w1 ⟨rfl,h1,c1⟩
   have H1:=hid h1
   have hp:=zqp hlt c1
   have HP:=hid hp
   obtain ⟨d0,d1,g0,g1,gl,_⟩:=hp
   clear h1 c1
   go_wp2_with fail
   refine (Fj w1 u).mono ?_
   rintro e w2 ⟨rfl,rfl⟩
   rw [hr]
   go_wp2
   obtain ⟨z0,z1,z2,z3⟩:=HP.out.done (.string u) (.int .i64 0)
   refine ⟨rfl, .agg #[.string u, .int .i64 0],?_,rfl,H1.out.done hlt hltw z3,z2⟩
   clear z2 z3
   generalize (w2.setCell ⟨w.heap.size,0,none⟩ (.string u)).setCell ⟨w.heap.size,1,none⟩ (.int .i64 0)=W' at*
   simp [results,Tryz.results78,go_sem,z0,z1]
  |false=>
   cases hv:Qk u with
   |some v=>
    have e:((gPV (u::ws)).map λp=>(pvV p.1,p.2))=some (.agg #[.string ByteArray.empty, .int .i64 v],ws):=by simp [gPV,hr,hv,pvV]
    rw [e]
    go_enter Tryz.func78,Tryz.ntmps78
    go_wp2_with fail
    refine (Ve H.out hz.len).mono ?_
    rintro e w1 ⟨rfl,h1,c1⟩
    have H1:=hid h1
    have C1:=hid c1
    clear h1 c1
    go_wp2_with fail
    refine (Fj w1 u).mono ?_
    rintro e w2 ⟨rfl,rfl⟩
    rw [hr]
    go_wp2_with fail
    refine (Og (E1.out.line C1.out hbl) u hz.head).mono ?_
    rintro e w2 ⟨rfl,b2⟩
    have H2:=hid (H1.out.below b2)
    have hp:=zqp hlt (C1.out.trans (Chg.of_below b2))
    have HP:=hid hp
    obtain ⟨d0,d1,g0,g1,gl,_⟩:=hp
    clear b2 H1 C1
    rw [hv]
    go_wp2
    obtain ⟨z0,z1,z2,z3⟩:=HP.out.done (.string ⟨#[]⟩) (.int .i64 v)
    refine ⟨rfl, .agg #[.string ByteArray.empty, .int .i64 v],?_,rfl,H2.out.done hlt hltw z3,z2⟩
    clear z2 z3
    generalize (w2.setCell ⟨w.heap.size,0,none⟩ (.string ⟨#[]⟩)).setCell ⟨w.heap.size,1,none⟩ (.int .i64 v)=W' at*
    simp [results,Tryz.results78,go_sem,z0,z1]
    rfl
   |none=>
    have e:((gPV (u::ws)).map λp=>(pvV p.1,p.2))=none:=by simp [gPV,hr,hv]
    rw [e]
    go_enter Tryz.func78,Tryz.ntmps78
    go_wp2_with fail
    refine (Ve H.out hz.len).mono ?_
    rintro e w1 ⟨rfl,h1,c1⟩
    have H1:=hid h1
    have C1:=hid c1
    clear h1 c1
    go_wp2_with fail
    refine (Fj w1 u).mono ?_
    rintro e w2 ⟨rfl,rfl⟩
    rw [hr]
    go_wp2_with fail
    refine (Og (E1.out.line C1.out hbl) u hz.head).mono ?_
    rintro e w2 ⟨rfl,b2⟩
    have H2:=hid (H1.out.below b2)
    have C2:=hid (A0.out.trans (C1.out.trans (Chg.of_below b2)))
    clear b2 H1 C1
    rw [hv]
    go_wp2_with fail
    refine (Jv H2.out 2).mono ?_
    intro e w3 h3
    obtain ⟨bf,rfl,h4⟩:=h3.after C2.out
    exact ⟨rfl,bf,rfl,h4⟩
end
open Go.RowKit Go.Maps Go.ChangeMaps
def zjt(v:Value):Option (DataW Value×List MemPlace):=some (.held v,[])
def zvb(u:ByteArray):Lit:= .string u.data.toList
theorem zqq{v:ByteArray}(h:u≠v):zvb u≠zvb v:=λe=>h (Go.WideShapes.bytes_inj (by unfold zvb at e;injection e))
theorem law:Keyed Tryz.prog 9:=string_keyed Tryz.underlying9
theorem zqr(h:u.size<=maxLen):keyOf Tryz.prog 9 (.string u)=some (zvb u):=Go.WideMaps.keyOf_string_mk Tryz.underlying9 h
def MapIs(w:World)(b:Nat)(f:ByteArray->Option Value)(n:Nat):Prop:=
 ∃D:DataW Value,w.ownsMap Tryz.prog 9 zjt b n D/\Maps.size D=n/\ ∀u,u.size<=maxLen->(Maps.has D (zvb u)=(f u).isSome/\ ∀z v,f u=some v->D.atKey (zvb u) z= .held v)
section
variable{w:World}{b n:Nat}{f:ByteArray->Option Value}
theorem zbr(w:World):MapIs (w.alloc (.map #[] 0)) w.heap.size (λ_=>none) 0:=
 ⟨.map [],World.ownsMap_made w _ _ _,rfl,λu _=>⟨rfl,λz v h=>by simp at h⟩⟩
theorem MapIs.lt(h:MapIs w b f n):b<w.heap.size:=let ⟨_,h1,_⟩:=h;h1.lt
theorem MapIs.of_block(h:MapIs w b f n)(hb:w'.heap[b]?=w.heap[b]?):MapIs w' b f n:=by
 obtain ⟨D,⟨es,clock,h1,F,hs,hD⟩,h2,h3⟩:=h
 exact ⟨D,⟨es,clock,hb.trans h1,F,hs,hD⟩,h2,h3⟩
theorem MapIs.keep{M:Nat->Nat->Prop}(h:MapIs w b f n)(hc:Chg M w w')(hM: ∀i,¬M b i):MapIs w' b f n:=h.of_block (hc.block b h.lt hM)
theorem MapIs.congr{g:ByteArray->Option Value}(h:MapIs w b f n)(hg: ∀u,f u=g u):MapIs w b g n:=by
 obtain rfl:f=g:=funext hg
 exact h
theorem MapIs.look(h:MapIs w b f n)(ht:Tryz.prog.underlying t=some (.map 9 e))(hz:(zeroValue e).run Tryz.prog w= .ok z w)(hu:u.size<=maxLen):
  (Instr.lookup t (.map (some b)) (.string u) true).run Tryz.prog w= .ok (.tuple #[(f u).getD z, .bool (f u).isSome]) w:=by
 obtain ⟨D,h1,_,h3⟩:=h
 obtain ⟨v,ps,hrun,hv⟩:=h1.look_ok law ht hz (zd:= .held z) (zp:=[]) rfl (zqr hu)
 obtain ⟨g1,g2⟩:=h3 u hu
 rw [hrun,g1]
 simp only [zjt,Option.some.injEq,Prod.mk.injEq] at hv
 cases hf:f u with
 |some x=>
  have:=hv.1.trans (g2 (.held z) x hf)
  have e2:v=x:=by injection this
  subst e2
  rfl
 |none=>exact ylt
theorem MapIs.look1(h:MapIs w b f n)(ht:Tryz.prog.underlying t=some (.map 9 e))(hz:(zeroValue e).run Tryz.prog w= .ok z w)(hu:u.size<=maxLen):
  (Instr.lookup t (.map (some b)) (.string u) false).run Tryz.prog w= .ok ((f u).getD z) w:=by
 obtain ⟨D,h1,_,h3⟩:=h
 obtain ⟨v,ps,hrun,hv⟩:=h1.lookup law ht hz (zd:= .held z) (zp:=[]) rfl (zqr hu)
 obtain ⟨g1,g2⟩:=h3 u hu
 rw [hrun]
 simp only [zjt,Option.some.injEq,Prod.mk.injEq] at hv
 cases hf:f u with
 |some x=>
  have:=hv.1.trans (g2 (.held z) x hf)
  have e2:v=x:=by injection this
  subst e2
  rfl
 |none=>exact ylt
theorem MapIs.len(h:MapIs w b f n)(ht:Tryz.prog.underlying t=some (.map 9 e))(ty:TypeId):(Builtin.len_ #[t] ty #[.map (some b)]).run Tryz.prog w= .ok (.int .i64 n) w:=by
 obtain ⟨D,h1,h2,_⟩:=h
 rw [h1.len ht,h2]
def zgd(f:ByteArray->Option Value)(u:ByteArray)(v:Value):ByteArray->Option Value:=λx=>if x=u then some v else f x
theorem zn3(h:w.mapTurned w' b):Chg (λk _=>k=b) w w':=by
 have hg:=h.grown
 have hf:=h.frozen
 obtain ⟨es,clock,es',clock',hb,rfl⟩:=h
 have ho: ∀k,k≠b->(setBlock w b (.map es' clock')).heap[k]?=w.heap[k]?:=λk hk=>heap_setBlock_other hb _ hk
 refine ⟨rfl,rfl,rfl,hg.size,λk _ hk=>ho k (λe=>hk 0 e),λk i _ hk=>?_,λk i _=>hf _,λk _=>?_⟩
 ·unfold World.cell?
  rw [ho k hk]
 ·by_cases e:k=b
  ·subst e
   unfold World.shape?
   rw [hb,heap_setBlock_same hb]
  ·exact Jw (ho k e)
theorem MapIs.put(h:MapIs w b f n)(ht:Tryz.prog.underlying t=some (.map 9 e))(hn:n<maxLen)(hu:u.size<=maxLen)(v:Value):
  ∃w',(Instr.mapUpdate t (.map (some b)) (.string u) v).run Tryz.prog w= .ok () w'/\MapIs w' b (zgd f u v) (if (f u).isSome then n else n+1)/\Chg (λk _=>k=b) w w':=by
 obtain ⟨D,h1,h2,h3⟩:=h
 obtain ⟨w',hrun,h4,h5⟩:=h1.store law ht hn (val:=v) (d:= .held v) (ps:=[]) (zqr hu) rfl
 have hk:WideAt.IsKeyLit (zvb u):=trivial
 have hsz:Maps.size (D.put (zvb u) (.held v))=if (f u).isSome then n else n+1:=by
  rw [size_put (h1.tidy law),(h3 u hu).1,h2]
 refine ⟨w',hrun,⟨D.put (zvb u) (.held v),?_,hsz,λx hx=>?_⟩,zn3 h5⟩
 ·obtain ⟨es,clock,q1,q2,q3,q4⟩:=h4
  refine ⟨es,clock,q1,q2,?_,q4⟩
  rw [<-hsz,q4]
  simp [Maps.size,length_sorted]
 ·unfold zgd
  by_cases e:x=u
  ·subst e
   rw [if_pos rfl]
   exact ⟨by rw [has_put_same h1.isMap hk];rfl,λz y hy=>by rw [atKey_put_same h1.isMap hk];simp at hy;rw [hy]⟩
  ·rw [if_neg e,has_put_other (zqq e)]
   exact ⟨(h3 x hx).1,λz y hy=>by rw [atKey_put_other (zqq e)];exact (h3 x hx).2 z y hy⟩
end
def zPV:PV:=⟨ByteArray.empty,0⟩
def wAt:ByteArray:=⟨#[97,116]⟩
def gAt:List ByteArray->Option (PV×List ByteArray)
 |[]=>some (zPV,[])
 |u::ws=>if u=wAt then gPV ws else none
def Uj(u:ByteArray):Option Nat:=[(⟨#[43]⟩:ByteArray),⟨#[45]⟩,⟨#[42]⟩,⟨#[47]⟩,⟨#[37]⟩,⟨#[38]⟩,⟨#[124]⟩,⟨#[94]⟩,⟨#[60,60]⟩,⟨#[62,62]⟩,⟨#[60]⟩,⟨#[61,61]⟩].findIdx? (·==u)
def Sa(u:ByteArray):Option Value:=(Uj u).map λk=> .int .i64 k
def gOp:List ByteArray->Option (Nat×List ByteArray)
 |[]=>none
 |u::ws=>(Uj u).map λk=>(k,ws)
section
variable{w:World}{bl bw br bs:Nat}{n:Int}{ws ws1:List ByteArray}
theorem Qi(B:Nat)(w:World):Below B w w.drew:=⟨rfl,rfl,rfl,Nat.le_refl _,λ_ _=>rfl⟩
theorem zcq{x:PV}(hv:gPV ws=some (x,ws1))(hz:SzOk ws):SzOk ws1:=by
 cases ws with
 |nil=>simp [gPV] at hv
 |cons u ws=>
  simp only [gPV] at hv
  split at hv
  ·simp at hv;exact hv.2▸hz.tail
  ·simp at hv
   obtain ⟨_,_,_,rfl⟩:=hv
   exact hz.tail
theorem Ya{x:ByteArray}(hv:gNm ws=some (x,ws1))(hz:SzOk ws):SzOk ws1:=by
 cases ws with
 |nil=>simp [gNm] at hv
 |cons u ws=>
  simp only [gNm] at hv
  split at hv
  ·simp at hv;exact hv.2▸hz.tail
  ·simp at hv
theorem zyn{k:Nat}(hv:gOp ws=some (k,ws1))(hz:SzOk ws):SzOk ws1:=by
 cases ws with
 |nil=>simp [gOp] at hv
 |cons u ws=>
  simp [gOp] at hv
  obtain ⟨_,_,_,rfl⟩:=hv
  exact hz.tail
theorem zfi(h:LineAt w bl n bw ws)(hE:Hid (Env w))(hbl:10<=bl)(hz:SzOk ws):
  Cl 77 #[ptr bl] w λe w'=>Rds bl n bw w ((gAt ws).map λp=>(pvV p.1,p.2)) e w':=by
 have hlt:=h.lt
 have hltw:=h.ltw
 have bel:Below w.heap.size w (pvW w):=(Below.refl _ w).alloc (Nat.le_refl _) _
 have H:=hid (h.below bel)
 have E1:=hid (hE.out.below bel)
 have A0:=hid ((Chg.refl (Jo bl) w).alloc (.cells #[.string ⟨#[]⟩, .int .i64 0] 187))
 have hq:=H.out
 obtain ⟨o,cap,hl,hs,_⟩:=hq.wds
 clear h bel hq hl
 cases ws with
 |nil=>
  simp only [List.length_nil] at hs
  go_enter Tryz.func77,Tryz.ntmps77
  go_wp2_with (go_at_call 72;go_in)
  refine ⟨rfl, .agg #[.string ByteArray.empty, .int .i64 0],?_,rfl,H.out,A0.out⟩
  simp [results,Tryz.results77,go_sem]
  rfl
 |cons u ws=>
  simp only [List.length_cons] at hs
  by_cases hu:u=wAt
  ·subst hu
   have e:gAt (wAt::ws)=gPV ws:=by simp [gAt]
   rw [e]
   cases hg:gPV ws with
   |some p=>
    obtain ⟨x,ws1⟩:=p
    go_enter Tryz.func77,Tryz.ntmps77
    go_wp2_with (first|(go_at_call 72;go_in)|fail)
    refine (Ve H.out hz.len).mono ?_
    rintro e w1 ⟨rfl,h1,c1⟩
    have H1:=hid h1
    have C1:=hid c1
    clear h1 c1
    unfold wAt
    go_wp2_with fail
    have k:=Oh H1.out (E1.out.line C1.out hbl) hbl hz.tail
    rw [hg] at k
    refine k.mono ?_
    rintro e w2 ⟨rfl,h2,c2⟩
    have H2:=hid h2
    have hp:=zqp hlt (C1.out.trans c2)
    have HP:=hid hp
    obtain ⟨d0,d1,g0,g1,gl,_⟩:=hp
    clear h2 c2 k C1 H1
    unfold pvV
    go_wp2
    obtain ⟨z0,z1,z2,z3⟩:=HP.out.done (.string x.name) (.int .i64 x.num)
    refine ⟨rfl, .agg #[.string x.name, .int .i64 x.num],?_,rfl,H2.out.done hlt hltw z3,z2⟩
    clear z2 z3
    generalize (w2.setCell ⟨w.heap.size,0,none⟩ (.string x.name)).setCell ⟨w.heap.size,1,none⟩ (.int .i64 x.num)=W' at*
    simp [results,Tryz.results77,go_sem,z0,z1]
   |none=>
    go_enter Tryz.func77,Tryz.ntmps77
    go_wp2_with (first|(go_at_call 72;go_in)|fail)
    refine (Ve H.out hz.len).mono ?_
    rintro e w1 ⟨rfl,h1,c1⟩
    have H1:=hid h1
    have C1:=hid c1
    clear h1 c1
    unfold wAt
    go_wp2_with fail
    have k:=Oh H1.out (E1.out.line C1.out hbl) hbl hz.tail
    rw [hg] at k
    refine k.mono ?_
    intro e w3 h3
    obtain ⟨bf,rfl,h4⟩:=Fails.after (Fails.after h3 C1.out) A0.out
    exact ⟨rfl,bf,rfl,h4⟩
  ·have e:gAt (u::ws)=none:=by simp [gAt,hu]
   rw [e]
   have hne:=Oz hu
   rw [show wAt.toList=[97,116] from by rw [ByteArray.toList_eq];rfl] at hne
   go_enter Tryz.func77,Tryz.ntmps77
   go_wp2_with (first|(go_at_call 72;go_in)|fail)
   refine (Ve H.out hz.len).mono ?_
   rintro e w1 ⟨rfl,h1,c1⟩
   have H1:=hid h1
   have C1:=hid c1
   clear h1 c1
   go_wp2_with fail
   refine (Jv H1.out 2).mono ?_
   intro e w3 h3
   obtain ⟨bf,rfl,h4⟩:=(h3.after C1.out).after A0.out
   exact ⟨rfl,bf,rfl,h4⟩
theorem z2b(w:World):(zeroValue 128).run Tryz.prog w= .ok (.int .i64 0) w:=yl7
theorem zhl(h:MapIs W bs Sa 12)(hu:u.size<=maxLen){x:Option Value}(hx:Sa u=x):(Instr.lookup 72 (.map (some bs)) (.string u) true).run Tryz.prog W= .ok (.tuple #[x.getD (.int .i64 0), .bool x.isSome]) W:=by
 rw [<-hx]
 exact h.look Tryz.underlying72 (z2b W) hu
theorem zfj(h:LineAt w bl n bw ws)(hz:SzOk ws)(hc:w.cell? ⟨br,4,none⟩=some (.map (some bs)))(hne:br≠bl)(hm:MapIs w bs Sa 12)(hnm:bs≠bl):
  Cl 112 #[ptr br,ptr bl] w λe w'=>Rds bl n bw w ((gOp ws).map λp=>(.int .i64 p.1,p.2)) e w':=by
 have H:=hid (h.below (w':=w.drew) (Qi _ w))
 have HM:=hid hm
 have A0:=hid ((Chg.refl (Jo bl) w).drew)
 clear h hm
 cases ws with
 |nil=>
  go_enter Tryz.func112,Tryz.ntmps112
  go_wp2_with fail
  refine wp_region_any yl7 ?_
  change wpAny _ _ _ _ _ _ _ (World.drew _)
  refine wpAny_take (i:=0) (v:=ptr br) rfl yl7 yl7 yl7 (λ_ _ _ h=>h) (Or.inl ⟨by rfl,λw=>by go_simp⟩) ?_
  refine wpAny_take (i:=1) (v:=ptr br) rfl yl7 yl7 yl7 (λ_ _ _ h=>h) (Or.inl ⟨by rfl,λw=>by go_simp⟩) ?_
  refine wpAny_take (i:=2) (v:= .pointer (some ⟨br,4,none⟩)) rfl yl7 yl7 yl7 (λ_ _ _ h=>h) (Or.inl ⟨by rfl,λw=>by go_simp⟩) ?_
  refine wpAny_take (i:=4) (v:=ptr bl) rfl yl7 yl7 yl7 (λ_ _ _ h=>h) (Or.inl ⟨by rfl,λw=>by go_simp⟩) ?_
  refine wpAny_ready (rs:=[3,5]) yl7 yl6 ?_
  refine AllReady.cons rfl (λK hK=>?_) ?_
  ·go_simp
   refine hK _ _ ?_
   clear hK K
   refine wpAny_ready (rs:=[5]) yl7 yl6 ?_
   refine AllReady.cons rfl (λK hK=>?_) AllReady.nil
   go_simp
   refine (Fg H.out).mono ?_
   intro e w3 h3
   obtain ⟨bf,rfl,h4⟩:=h3.after A0.out
   exact ⟨rfl,bf,rfl,h4⟩
  ·refine AllReady.cons rfl (λK hK=>?_) AllReady.nil
   go_simp
   refine (Fg H.out).mono ?_
   intro e w3 h3
   obtain ⟨bf,rfl,h4⟩:=h3.after A0.out
   exact ⟨rfl,bf,rfl,h4⟩
 |cons u ws=>
  have hu:u.size<=maxLen:=by have:=hz.head;unfold maxLen;omega
  cases hr:Uj u with
  |some r=>
   have e:((gOp (u::ws)).map λp=>((.int .i64 p.1:Value),p.2))=some (.int .i64 r,ws):=by simp [gOp,hr]
   rw [e]
   have HLK:=hid (λW (h:MapIs W bs Sa 12)=>zhl (W:=W) h hu (x:=some (.int .i64 r)) (by simp [Sa,hr]))
   simp only [Option.getD_some,Option.isSome_some] at HLK
   go_enter Tryz.func112,Tryz.ntmps112
   go_wp2_with fail
   go_region_law (go_simp;go_at_call 46;refine (Ve H.out hz.len).mono ?_;rintro e w1 ⟨rfl,h1,c1⟩;have hlk:=HLK.out w1 (HM.out.keep (A0.out.trans c1) (λi e=>hnm e.1));have hcw:=((A0.out.trans c1).cell br 4 (blt hc) (λe=>hne e.1)).trans hc;have H1:=hid h1;have C1:=hid c1;clear h1 c1)
   all_goals
    go_wp2
    go_ret
    exact ⟨rfl,H1.out,A0.out.trans C1.out⟩
  |none=>
   have e:((gOp (u::ws)).map λp=>((.int .i64 p.1:Value),p.2))=none:=by simp [gOp,hr]
   rw [e]
   have HLK:=hid (λW (h:MapIs W bs Sa 12)=>zhl (W:=W) h hu (x:=none) (by simp [Sa,hr]))
   simp only [Option.getD_none,Option.isSome_none] at HLK
   go_enter Tryz.func112,Tryz.ntmps112
   go_wp2_with fail
   go_region_law (go_simp;go_at_call 46;refine (Ve H.out hz.len).mono ?_;rintro e w1 ⟨rfl,h1,c1⟩;have hlk:=HLK.out w1 (HM.out.keep (A0.out.trans c1) (λi e=>hnm e.1));have hcw:=((A0.out.trans c1).cell br 4 (blt hc) (λe=>hne e.1)).trans hc;have H1:=hid h1;have C1:=hid c1;clear h1 c1)
   all_goals
    go_wp2_with fail
    refine (Jv H1.out 2).mono ?_
    intro e w3 h3
    obtain ⟨bf,rfl,h4⟩:=(h3.after C1.out).after A0.out
    exact ⟨rfl,bf,rfl,h4⟩
end
abbrev St:=(ByteArray×PV)⊕(ByteArray×Nat×PV×PV)⊕(ByteArray×ByteArray×PV)⊕(ByteArray×PV×PV)⊕PV⊕Unit⊕PV⊕Int
abbrev St.set(to:ByteArray)(a:PV):St:= .inl (to,a)
abbrev St.op(to:ByteArray)(o:Nat)(a b:PV):St:= .inr (.inl (to,o,a,b))
abbrev St.get(to of:ByteArray)(a:PV):St:= .inr (.inr (.inl (to,of,a)))
abbrev St.put(of:ByteArray)(a b:PV):St:= .inr (.inr (.inr (.inl (of,a,b))))
abbrev St.out(a:PV):St:= .inr (.inr (.inr (.inr (.inl a))))
abbrev St.atomic:St:= .inr (.inr (.inr (.inr (.inr (.inl ())))))
abbrev St.iff(a:PV):St:= .inr (.inr (.inr (.inr (.inr (.inr (.inl a))))))
abbrev St.loop(n:Int):St:= .inr (.inr (.inr (.inr (.inr (.inr (.inr n))))))
def zn4(ws:List ByteArray):Option (St×List ByteArray):=(gNm ws).bind λp=>(gPV p.2).bind λq=>match q.2 with
 |[]=>some (St.set p.1 q.1,[])
 |u::us=>(gOp (u::us)).bind λo=>(gPV o.2).map λr=>(St.op p.1 o.1 q.1 r.1,r.2)
section
variable{w:World}{bl bw br bs:Nat}{n:Int}{ws ws1:List ByteArray}{x:ByteArray}{y:PV}{k:Nat}
theorem Fa(h:LineAt w bl n bw ws)(hz:SzOk ws)(hv:gNm ws=some (x,ws1)):Cl 73 #[ptr bl] w λe w'=>e= .returned (.string x)/\LineAt w' bl n bw ws1/\Chg (Jo bl) w w':=by
 have:=zcp h hz
 rw [hv] at this
 exact this
theorem zqs(h:LineAt w bl n bw ws)(hz:SzOk ws)(hv:gNm ws=none):Cl 73 #[ptr bl] w λe w'=>Fails 2 n bl w e w':=by
 have:=zcp h hz
 rw [hv] at this
 exact this
theorem zge(h:LineAt w bl n bw ws)(hE:Env w)(hbl:10<=bl)(hz:SzOk ws)(hv:gPV ws=some (y,ws1)):Cl 78 #[ptr bl] w λe w'=>e= .returned (.agg #[.string y.name, .int .i64 y.num])/\LineAt w' bl n bw ws1/\Chg (Jo bl) w w':=by
 have:=Oh h hE hbl hz
 rw [hv] at this
 exact this
theorem zqt(h:LineAt w bl n bw ws)(hE:Env w)(hbl:10<=bl)(hz:SzOk ws)(hv:gPV ws=none):Cl 78 #[ptr bl] w λe w'=>Fails 2 n bl w e w':=by
 have:=Oh h hE hbl hz
 rw [hv] at this
 exact this
theorem z2c(h:LineAt w bl n bw ws)(hE:Env w)(hbl:10<=bl)(hz:SzOk ws)(hv:gAt ws=some (y,ws1)):Cl 77 #[ptr bl] w λe w'=>e= .returned (.agg #[.string y.name, .int .i64 y.num])/\LineAt w' bl n bw ws1/\Chg (Jo bl) w w':=by
 have:=zfi h hE hbl hz
 rw [hv] at this
 exact this
theorem z2d(h:LineAt w bl n bw ws)(hE:Env w)(hbl:10<=bl)(hz:SzOk ws)(hv:gAt ws=none):Cl 77 #[ptr bl] w λe w'=>Fails 2 n bl w e w':=by
 have:=zfi h hE hbl hz
 rw [hv] at this
 exact this
theorem z2e(h:LineAt w bl n bw ws)(hz:SzOk ws)(hc:w.cell? ⟨br,4,none⟩=some (.map (some bs)))(hne:br≠bl)(hm:MapIs w bs Sa 12)(hnm:bs≠bl)(hv:gOp ws=some (k,ws1)):Cl 112 #[ptr br,ptr bl] w λe w'=>e= .returned (.int .i64 k)/\LineAt w' bl n bw ws1/\Chg (Jo bl) w w':=by
 have:=zfj h hz hc hne hm hnm
 rw [hv] at this
 exact this
theorem z4z(h:LineAt w bl n bw ws)(hz:SzOk ws)(hc:w.cell? ⟨br,4,none⟩=some (.map (some bs)))(hne:br≠bl)(hm:MapIs w bs Sa 12)(hnm:bs≠bl)(hv:gOp ws=none):Cl 112 #[ptr br,ptr bl] w λe w'=>Fails 2 n bl w e w':=by
 have:=zfj h hz hc hne hm hnm
 rw [hv] at this
 exact this
theorem z2f(hv:gAt ws=some (y,ws1))(hz:SzOk ws):SzOk ws1:=by
 cases ws with
 |nil=>simp [gAt] at hv;exact hv.2▸hz
 |cons u ws=>
  simp only [gAt] at hv
  split at hv
  ·exact zcq hv hz.tail
  ·simp at hv
theorem LineAt.more(h:LineAt w bl n bw ws): ∃o cap,w.cell? ⟨bl,1,none⟩=some (.slice (some ⟨bw,o,none⟩) ws.length cap):=let ⟨o,cap,_,hs,_⟩:=h.wds;⟨o,cap,hs⟩
abbrev pvB(W:World)(y:PV):World:=W.alloc (.cells #[.string y.name, .int .i64 y.num] 187)
theorem zn5(h:LineAt w bl n bw ws)(hz:SzOk ws)(hv:gNm ws=none):Cl 76 #[ptr br,ptr bl] w λe w'=>Fails 2 n bl w e w':=by
 have K:=hid (zqs h hz hv)
 clear h
 go_enter Tryz.func76,Tryz.ntmps76
 go_wp2_with fail
 refine K.out.mono ?_
 rintro e w1 ⟨bf,rfl,h1⟩
 exact ⟨rfl,bf,rfl,h1⟩
theorem zn6(h:LineAt w bl n bw ws)(hE:Hid (Env w))(hbl:10<=bl)(hz:SzOk ws)(hv:gNm ws=some (x,ws1))(hv2:gPV ws1=none):Cl 76 #[ptr br,ptr bl] w λe w'=>Fails 2 n bl w e w':=by
 have K:=hid (Fa h hz hv)
 have hz1:=Ya hv hz
 clear h
 go_enter Tryz.func76,Tryz.ntmps76
 go_wp2_with fail
 refine K.out.mono ?_
 rintro e w1 ⟨rfl,h1,c1⟩
 have K2:=hid (zqt h1 (hE.out.line c1 hbl) hbl hz1 hv2)
 have C1:=hid c1
 clear h1 c1 K
 go_wp2_with fail
 refine K2.out.mono ?_
 intro e w3 h3
 obtain ⟨bf,rfl,h4⟩:=Fails.after h3 C1.out
 exact ⟨rfl,bf,rfl,h4⟩
theorem zju(h:LineAt w bl n bw ws)(hE:Hid (Env w))(hbl:10<=bl)(hz:SzOk ws)(hv:gNm ws=some (x,ws1))(hv2:gPV ws1=some (y,[])):Cl 76 #[ptr br,ptr bl] w λe w'=>e= .returned (.iface 213 (.agg #[.string x, .string y.name, .int .i64 y.num]))/\LineAt w' bl n bw []/\Chg (Jo bl) w w':=by
 have K:=hid (Fa h hz hv)
 have hz1:=Ya hv hz
 clear h
 go_enter Tryz.func76,Tryz.ntmps76
 go_wp2_with fail
 refine K.out.mono ?_
 rintro e w1 ⟨rfl,h1,c1⟩
 have K2:=hid (zge h1 (hE.out.line c1 hbl) hbl hz1 hv2)
 have C1:=hid c1
 clear h1 c1 K
 go_wp2_with fail
 refine K2.out.mono ?_
 rintro e w2 ⟨rfl,h2,c2⟩
 have bel:Below w2.heap.size w2 (pvB w2 y):=(Below.refl _ w2).alloc (Nat.le_refl _) _
 have H3:=hid (h2.below bel)
 have C3:=hid ((C1.out.trans c2).alloc (.cells #[.string y.name, .int .i64 y.num] 187))
 obtain ⟨o,cap,hs⟩:=(h2.below bel).more
 have hlt:=h2.lt
 simp only [List.length_nil] at hs
 clear h2 c2 C1 K2 bel
 go_wp2_with (go_at_call 72;go_in)
 go_ret
 exact ⟨rfl,H3.out,C3.out⟩
end
section
variable{w:World}{bl bw br bs:Nat}{n:Int}{ws ws1 ws3 ws4 us:List ByteArray}{x u:ByteArray}{y z:PV}{k:Nat}
structure SignsAt(w:World)(br bs bl:Nat):Prop where
 c:w.cell? ⟨br,4,none⟩=some (.map (some bs))
 ne:br≠bl
 m:MapIs w bs Sa 12
 nm:bs≠bl
theorem SignsAt.keep(h:SignsAt w br bs bl)(hc:Chg (Jo bl) w w'):SignsAt w' br bs bl:=
 ⟨(hc.cell br 4 (blt h.c) (λe=>h.ne e.1)).trans h.c,h.ne,h.m.keep hc (λ_ e=>h.nm e.1),h.nm⟩
theorem zhm(h:LineAt w bl n bw ws)(hE:Hid (Env w))(hbl:10<=bl)(hz:SzOk ws)(hS:Hid (SignsAt w br bs bl))(hv:gNm ws=some (x,ws1))(hv2:gPV ws1=some (y,u::us))(hv3:gOp (u::us)=none):Cl 76 #[ptr br,ptr bl] w λe w'=>Fails 2 n bl w e w':=by
 have K:=hid (Fa h hz hv)
 have hz1:=Ya hv hz
 have hz2:=zcq hv2 hz1
 clear h
 go_enter Tryz.func76,Tryz.ntmps76
 go_wp2_with fail
 refine K.out.mono ?_
 rintro e w1 ⟨rfl,h1,c1⟩
 have K2:=hid (zge h1 (hE.out.line c1 hbl) hbl hz1 hv2)
 have C1:=hid c1
 clear h1 c1 K
 go_wp2_with fail
 refine K2.out.mono ?_
 rintro e w2 ⟨rfl,h2,c2⟩
 have bel:Below w2.heap.size w2 (pvB w2 y):=(Below.refl _ w2).alloc (Nat.le_refl _) _
 have C3:=hid ((C1.out.trans c2).alloc (.cells #[.string y.name, .int .i64 y.num] 187))
 have h3:=h2.below bel
 have S3:=hS.out.keep C3.out
 have K3:=hid (z4z h3 hz2 S3.c S3.ne S3.m S3.nm hv3)
 obtain ⟨o,cap,hs⟩:=h3.more
 have hlt:=h2.lt
 simp only [List.length_cons] at hs
 clear h2 c2 C1 K2 bel h3 S3
 go_wp2_with (first|(go_at_call 72;go_in)|fail)
 refine K3.out.mono ?_
 intro e w3 h3
 obtain ⟨bf,rfl,h4⟩:=Fails.after h3 C3.out
 exact ⟨rfl,bf,rfl,h4⟩
theorem zjv(h:LineAt w bl n bw ws)(hE:Hid (Env w))(hbl:10<=bl)(hz:SzOk ws)(hS:Hid (SignsAt w br bs bl))(hv:gNm ws=some (x,ws1))(hv2:gPV ws1=some (y,u::us))(hv3:gOp (u::us)=some (k,ws3))(hv4:gPV ws3=none):Cl 76 #[ptr br,ptr bl] w λe w'=>Fails 2 n bl w e w':=by
 have K:=hid (Fa h hz hv)
 have hz1:=Ya hv hz
 have hz2:=zcq hv2 hz1
 have hz3:=zyn hv3 hz2
 clear h
 go_enter Tryz.func76,Tryz.ntmps76
 go_wp2_with fail
 refine K.out.mono ?_
 rintro e w1 ⟨rfl,h1,c1⟩
 have K2:=hid (zge h1 (hE.out.line c1 hbl) hbl hz1 hv2)
 have C1:=hid c1
 clear h1 c1 K
 go_wp2_with fail
 refine K2.out.mono ?_
 rintro e w2 ⟨rfl,h2,c2⟩
 have bel:Below w2.heap.size w2 (pvB w2 y):=(Below.refl _ w2).alloc (Nat.le_refl _) _
 have C3:=hid ((C1.out.trans c2).alloc (.cells #[.string y.name, .int .i64 y.num] 187))
 have h3:=h2.below bel
 have S3:=hS.out.keep C3.out
 have K3:=hid (z2e h3 hz2 S3.c S3.ne S3.m S3.nm hv3)
 obtain ⟨o,cap,hs⟩:=h3.more
 have hlt:=h2.lt
 have d0:(pvB w2 y).cell? ⟨w2.heap.size,0,none⟩=some (.string y.name):=World.cell?_alloc_new _ _ _ 0
 have d1:(pvB w2 y).cell? ⟨w2.heap.size,1,none⟩=some (.int .i64 y.num):=World.cell?_alloc_new _ _ _ 1
 simp only [List.length_cons] at hs
 clear h2 c2 C1 K2 bel h3 S3
 go_wp2_with (first|(go_at_call 72;go_in)|fail)
 refine K3.out.mono ?_
 rintro e w4 ⟨rfl,h4,c4⟩
 have e0:=(c4.cell w2.heap.size 0 (blt d0) (λe=>by omega)).trans d0
 have e1:=(c4.cell w2.heap.size 1 (blt d0) (λe=>by omega)).trans d1
 have hE4:=hE.out.line (C3.out.trans c4) hbl
 have K4:=hid (zqt (h4.below (w':=w4.drew) (Qi _ w4)) (hE4.below (Qi _ w4)) hbl hz3 hv4)
 have C4:=hid ((C3.out.trans c4).drew)
 clear h4 c4 hE4 K3 C3
 go_wp2_with fail
 refine wp_region_any yl7 ?_
 change wpAny _ _ _ _ _ _ _ (World.drew _)
 refine wpAny_take (i:=0) (v:= .string x) rfl yl7 yl7 yl7 (λ_ _ _ h=>h) (Or.inl ⟨by rfl,λw=>by go_simp⟩) ?_
 refine wpAny_take (i:=1) (v:= .int .i64 k) rfl yl7 yl7 yl7 (λ_ _ _ h=>h) (Or.inl ⟨by rfl,λw=>by go_simp⟩) ?_
 refine wpAny_take (i:=3) (v:=ptr bl) rfl yl7 yl7 yl7 (λ_ _ _ h=>h) (Or.inl ⟨by rfl,λw=>by go_simp⟩) ?_
 refine wpAny_ready (rs:=[2,4]) yl7 yl6 ?_
 refine AllReady.cons rfl (λK hK=>?_) ?_
 ·go_simp
  refine hK _ _ ?_
  clear hK K
  refine wpAny_ready (rs:=[4]) yl7 yl6 ?_
  refine AllReady.cons rfl (λK hK=>?_) AllReady.nil
  go_simp
  refine K4.out.mono ?_
  intro e w5 h5
  obtain ⟨bf,rfl,h6⟩:=h5.after C4.out
  exact ⟨rfl,bf,rfl,h6⟩
 ·refine AllReady.cons rfl (λK hK=>?_) AllReady.nil
  go_simp
  refine K4.out.mono ?_
  intro e w5 h5
  obtain ⟨bf,rfl,h6⟩:=h5.after C4.out
  exact ⟨rfl,bf,rfl,h6⟩
theorem zn7(h:LineAt w bl n bw ws)(hE:Hid (Env w))(hbl:10<=bl)(hz:SzOk ws)(hS:Hid (SignsAt w br bs bl))(hv:gNm ws=some (x,ws1))(hv2:gPV ws1=some (y,u::us))(hv3:gOp (u::us)=some (k,ws3))(hv4:gPV ws3=some (z,ws4)):Cl 76 #[ptr br,ptr bl] w λe w'=>e= .returned (.iface 217 (.agg #[.string x, .int .i64 k, .string y.name, .int .i64 y.num, .string z.name, .int .i64 z.num]))/\LineAt w' bl n bw ws4/\Chg (Jo bl) w w':=by
 have K:=hid (Fa h hz hv)
 have hz1:=Ya hv hz
 have hz2:=zcq hv2 hz1
 have hz3:=zyn hv3 hz2
 clear h
 go_enter Tryz.func76,Tryz.ntmps76
 go_wp2_with fail
 refine K.out.mono ?_
 rintro e w1 ⟨rfl,h1,c1⟩
 have K2:=hid (zge h1 (hE.out.line c1 hbl) hbl hz1 hv2)
 have C1:=hid c1
 clear h1 c1 K
 go_wp2_with fail
 refine K2.out.mono ?_
 rintro e w2 ⟨rfl,h2,c2⟩
 have bel:Below w2.heap.size w2 (pvB w2 y):=(Below.refl _ w2).alloc (Nat.le_refl _) _
 have C3:=hid ((C1.out.trans c2).alloc (.cells #[.string y.name, .int .i64 y.num] 187))
 have h3:=h2.below bel
 have S3:=hS.out.keep C3.out
 have K3:=hid (z2e h3 hz2 S3.c S3.ne S3.m S3.nm hv3)
 obtain ⟨o,cap,hs⟩:=h3.more
 have hlt:=h2.lt
 have d0:(pvB w2 y).cell? ⟨w2.heap.size,0,none⟩=some (.string y.name):=World.cell?_alloc_new _ _ _ 0
 have d1:(pvB w2 y).cell? ⟨w2.heap.size,1,none⟩=some (.int .i64 y.num):=World.cell?_alloc_new _ _ _ 1
 simp only [List.length_cons] at hs
 clear h2 c2 C1 K2 bel h3 S3
 go_wp2_with (first|(go_at_call 72;go_in)|fail)
 refine K3.out.mono ?_
 rintro e w4 ⟨rfl,h4,c4⟩
 have e0:=(c4.cell w2.heap.size 0 (blt d0) (λe=>by omega)).trans d0
 have e1:=(c4.cell w2.heap.size 1 (blt d0) (λe=>by omega)).trans d1
 have hE4:=hE.out.line (C3.out.trans c4) hbl
 have K4:=hid (zge (h4.below (w':=w4.drew) (Qi _ w4)) (hE4.below (Qi _ w4)) hbl hz3 hv4)
 have C4:=hid ((C3.out.trans c4).drew)
 clear h4 c4 hE4 K3 C3
 go_wp2_with fail
 go_region_law (go_simp;go_at_call 78;refine K4.out.mono ?_;rintro e w5 ⟨rfl,h5,c5⟩;have g0:=(c5.cell w2.heap.size 0 (blt e0) (λe=>by omega)).trans e0;have g1:=(c5.cell w2.heap.size 1 (blt e0) (λe=>by omega)).trans e1;have H5:=hid h5;have C5:=hid c5;clear h5 c5)
 all_goals
  go_wp2
  go_ret
  exact ⟨rfl,H5.out,C4.out.trans C5.out⟩
end
end Go.Proofs.YtiiepngikigmbaaGreatDoor
