import Derived.Test.YtphcopbffecceaaGreatDoorP04
import Derived.Lib.LaidTab
import Derived.Lib.ItoaNum
import Derived.Lib.Join
import Derived.Lib.ItoaLen
import Derived.Test.YtphcopbffecceaaGreatDoorShelf2
set_option maxRecDepth 100000
set_option maxHeartbeats 1000000
namespace Go.Proofs.YtphcopbffecceaaGreatDoor
open Go.RowKit
variable{b o:Nat}{F:List Value}{N:List Nat}{v:Value}{K':List (Nat×Nat×Value)}
def Jz:ByteArray:=⟨#[115,101,116]⟩
def Vd:ByteArray:=⟨#[103,101,116]⟩
def Va:ByteArray:=⟨#[112,117,116]⟩
def Vp:ByteArray:=⟨#[111,117,116]⟩
def Qs:ByteArray:=⟨#[97,116,111,109,105,99]⟩
def Fe:ByteArray:=⟨#[105,102]⟩
def Jh:ByteArray:=⟨#[108,111,111,112]⟩
def zvd(ws:List ByteArray):Option (St×List ByteArray):=(gNm ws).bind λp=>(gNm p.2).bind λq=>(gAt q.2).map λr=>(St.get p.1 q.1 r.1,r.2)
def zve(ws:List ByteArray):Option (St×List ByteArray):=(gNm ws).bind λp=>(gPV p.2).bind λq=>(gAt q.2).map λr=>(St.put p.1 r.1 q.1,r.2)
def Zs(u:ByteArray)(ws:List ByteArray):Option (St×List ByteArray):=
 if u=Jz then zn4 ws else if u=Vd then zvd ws else if u=Va then zve ws else if u=Vp then (gPV ws).map λp=>(St.out p.1,p.2)
 else if u=Qs then some (St.atomic,ws) else if u=Fe then (gPV ws).map λp=>(St.iff p.1,p.2) else if u=Jh then (gIn 1 4 ws).map λp=>(St.loop p.1,p.2) else none
section
variable{w:World}{bl bw br bs:Nat}{n:Int}{ws:List ByteArray}{u:ByteArray}
theorem zjw(h:LineAt w bl n bw ws)(hE:Hid (Env w))(hbl:10<=bl)(hz:SzOk ws)(hS:Hid (SignsAt w br bs bl)):Cl 80 #[ptr br,ptr bl] w λe w'=>StR bl n bw w (zn4 ws) e w':=by
 unfold zn4
 cases h1:gNm ws with
 |none=>exact zn5 h hz h1
 |some p=>
  obtain ⟨x,ws1⟩:=p
  simp only [Option.bind_some]
  cases h2:gPV ws1 with
  |none=>exact zn6 h hE hbl hz h1 h2
  |some q=>
   obtain ⟨y,ws2⟩:=q
   simp only [Option.bind_some]
   cases ws2 with
   |nil=>
    refine (zju h hE hbl hz h1 h2).mono ?_
    rintro e w' ⟨rfl,g1,g2⟩
    exact ⟨_,rfl,rfl,g1,g2⟩
   |cons u us=>
    simp only
    cases h3:gOp (u::us) with
    |none=>exact zhm h hE hbl hz hS h1 h2 h3
    |some o=>
     obtain ⟨k,ws3⟩:=o
     simp only [Option.bind_some]
     cases h4:gPV ws3 with
     |none=>exact zjv h hE hbl hz hS h1 h2 h3 h4
     |some r=>
      obtain ⟨z,ws4⟩:=r
      refine (zn7 h hE hbl hz hS h1 h2 h3 h4).mono ?_
      rintro e w' ⟨rfl,g1,g2⟩
      exact ⟨_,rfl,rfl,g1,g2⟩
theorem z2k(K:Hid (Cl 80 #[ptr br,ptr bl] w λe w'=>StR bl n bw w (zn4 ws) e w')):Cl 57 #[ptr br, .string ⟨#[115,101,116]⟩,ptr bl] w λe w'=>StR bl n bw w (zn4 ws) e w':=by
 cases hg:zn4 ws with
 |none=>
  rw [hg] at K
  go_enter Tryz.func57,Tryz.ntmps57
  go_wp2_with fail
  refine K.out.mono ?_
  rintro e w1 ⟨bf,rfl,h1⟩
  exact ⟨rfl,bf,rfl,h1⟩
 |some p=>
  obtain ⟨s,ws1⟩:=p
  rw [hg] at K
  go_enter Tryz.func57,Tryz.ntmps57
  go_wp2_with fail
  refine K.out.mono ?_
  rintro e w1 ⟨v,rfl,h1⟩
  have H1:=hid h1
  clear h1 K
  go_wp2
  go_ret
  exact ⟨v,rfl,H1.out⟩
theorem zzx(h:LineAt w bl n bw ws)(h0:u≠Jz)(h1:u≠Vd)(h2:u≠Va)(h3:u≠Vp)(h4:u≠Qs)(h5:u≠Fe)(h6:u≠Jh):Cl 57 #[ptr br, .string u,ptr bl] w λe w'=>Fails 2 n bl w e w':=by
 have e0:(u.toList==[115,101,116])=false:=by have:=Oz h0;rwa [show (Jz).toList=[115,101,116] from by rw [ByteArray.toList_eq];rfl] at this
 have e1:(u.toList==[103,101,116])=false:=by have:=Oz h1;rwa [show (Vd).toList=[103,101,116] from by rw [ByteArray.toList_eq];rfl] at this
 have e2:(u.toList==[112,117,116])=false:=by have:=Oz h2;rwa [show (Va).toList=[112,117,116] from by rw [ByteArray.toList_eq];rfl] at this
 have e3:(u.toList==[111,117,116])=false:=by have:=Oz h3;rwa [show (Vp).toList=[111,117,116] from by rw [ByteArray.toList_eq];rfl] at this
 have e4:(u.toList==[97,116,111,109,105,99])=false:=by have:=Oz h4;rwa [show (Qs).toList=[97,116,111,109,105,99] from by rw [ByteArray.toList_eq];rfl] at this
 have e5:(u.toList==[105,102])=false:=by have:=Oz h5;rwa [show (Fe).toList=[105,102] from by rw [ByteArray.toList_eq];rfl] at this
 have e6:(u.toList==[108,111,111,112])=false:=by have:=Oz h6;rwa [show (Jh).toList=[108,111,111,112] from by rw [ByteArray.toList_eq];rfl] at this
 have H:=hid h
 clear h h0 h1 h2 h3 h4 h5 h6
 go_enter Tryz.func57,Tryz.ntmps57
 go_wp2_with fail
 refine (Jv H.out 2).mono ?_
 rintro e w1 ⟨bf,rfl,h1⟩
 exact ⟨rfl,bf,rfl,h1⟩
theorem zhn(h:LineAt w bl n bw ws)(hE:Hid (Env w))(hbl:10<=bl)(hz:SzOk ws)(hS:Hid (SignsAt w br bs bl))(u:ByteArray):Cl 57 #[ptr br, .string u,ptr bl] w λe w'=>StR bl n bw w (Zs u ws) e w':=by
 unfold Zs
 by_cases h0:u=Jz
 ·rw [if_pos h0,h0];exact z2k (zjw h hE hbl hz hS)
 rw [if_neg h0]
 by_cases h1:u=Vd
 ·rw [if_pos h1,h1]
  unfold zvd
  cases g1:gNm ws with
  |none=>exact zzp h hE hbl hz g1
  |some p=>
   obtain ⟨x,ws1⟩:=p
   simp only [Option.bind_some]
   cases g2:gNm ws1 with
   |none=>exact zzq h hE hbl hz g1 g2
   |some q=>
    obtain ⟨y,ws2⟩:=q
    simp only [Option.bind_some]
    cases g3:gAt ws2 with
    |none=>exact zzr h hE hbl hz g1 g2 g3
    |some r=>exact z2g h hE hbl hz g1 g2 g3
 rw [if_neg h1]
 by_cases h2:u=Va
 ·rw [if_pos h2,h2]
  unfold zve
  cases g1:gNm ws with
  |none=>exact zzs h hE hbl hz g1
  |some p=>
   obtain ⟨x,ws1⟩:=p
   simp only [Option.bind_some]
   cases g2:gPV ws1 with
   |none=>exact zzt h hE hbl hz g1 g2
   |some q=>
    obtain ⟨y,ws2⟩:=q
    simp only [Option.bind_some]
    cases g3:gAt ws2 with
    |none=>exact zzu h hE hbl hz g1 g2 g3
    |some r=>exact z2h h hE hbl hz g1 g2 g3
 rw [if_neg h2]
 by_cases h3:u=Vp
 ·rw [if_pos h3,h3]
  cases g1:gPV ws with
  |none=>exact zzv h hE hbl hz g1
  |some p=>exact z2i h hE hbl hz g1
 rw [if_neg h3]
 by_cases h4:u=Qs
 ·rw [if_pos h4,h4]
  exact zqu h hE hbl hz
 rw [if_neg h4]
 by_cases h5:u=Fe
 ·rw [if_pos h5,h5]
  cases g1:gPV ws with
  |none=>exact z2j h hE hbl hz g1
  |some p=>exact z41 h hE hbl hz g1
 rw [if_neg h5]
 by_cases h6:u=Jh
 ·rw [if_pos h6,h6]
  cases g1:gIn 1 4 ws with
  |none=>exact zvc h hE hbl hz g1
  |some p=>exact zzw h hE hbl hz g1
 rw [if_neg h6]
 exact zzx h h0 h1 h2 h3 h4 h5 h6
end
abbrev En:=St⊕Nat
abbrev En.leaf(s:St):En:= .inl s
abbrev En.sub(j:Nat):En:= .inr j
abbrev HK:=(List ByteArray×Nat)⊕St
abbrev HK.thr(l:List ByteArray)(c:Nat):HK:= .inl (l,c)
abbrev HK.st(s:St):HK:= .inr s
structure Hd where
 k:HK
 ents:List En
structure RS where
 shared:List (ByteArray×Int×Int)
 cells:Int
 hs:List Hd
 threads:List Nat
 opn:List Nat
def stV:St->Value
 | .inl (to,a)=> .iface 228 (.agg #[.string to, .string a.name, .int .i64 a.num])
 | .inr (.inl (to,o,a,b))=> .iface 231 (.agg #[.string to, .int .i64 o, .string a.name, .int .i64 a.num, .string b.name, .int .i64 b.num])
 | .inr (.inr (.inl (to,of,a)))=> .iface 207 (.agg #[.string to, .string of, .string a.name, .int .i64 a.num])
 | .inr (.inr (.inr (.inl (of,a,b))))=> .iface 209 (.agg #[.string of, .string a.name, .int .i64 a.num, .string b.name, .int .i64 b.num])
 | .inr (.inr (.inr (.inr (.inl a))))=> .iface 211 (.agg #[.string a.name, .int .i64 a.num])
 |_=> .nilIface
def hkT:HK->TypeId
 | .inl (_,_)=>109
 | .inr (.inr (.inr (.inr (.inr (.inr (.inl ()))))))=>171
 | .inr (.inr (.inr (.inr (.inr (.inr (.inr (.inl _)))))))=>212
 | .inr (.inr (.inr (.inr (.inr (.inr (.inr (.inr _)))))))=>215
 | .inr _=>0
def z53:HK->TypeId×Nat
 | .inl (_,_)=>(116,3)
 | .inr (.inr (.inr (.inr (.inr (.inr (.inl ()))))))=>(174,1)
 | .inr (.inr (.inr (.inr (.inr (.inr (.inr (.inl _)))))))=>(214,3)
 | .inr (.inr (.inr (.inr (.inr (.inr (.inr (.inr _)))))))=>(217,2)
 | .inr _=>(0,0)
def zjx(l:List ByteArray)(u:ByteArray):Option Value:=(l.findIdx? λx=>decide (x=u)).map λ(k:Nat)=>Value.int .i64 (k:Int)
def shF(l:List (ByteArray×Int×Int))(u:ByteArray):Option Value:=(l.find? λp=>decide (p.1=u)).map λp=> .agg #[.int .i64 p.2.1, .int .i64 p.2.2]
structure HM where
 b:Nat
 rv:Value
 mb:Nat
 h:Hd
abbrev Ids:=List (TypeId×Nat)
def Qu(ms:List HM):Ids:=ms.map λm=>(hkT m.h.k,m.b)
def idV(ids:Ids)(j:Nat):Value:=match ids[j]? with|some p=> .iface p.1 (ptr p.2)|none=> .nilIface
def idP(ids:Ids)(j:Nat):Value:=match ids[j]? with|some p=>ptr p.2|none=> .pointer none
def enV(ids:Ids):En->Value
 | .inl s=>stV s
 | .inr j=>idV ids j
def HkAt(w:World)(b mb:Nat):HK->Prop
 | .inl (l,c)=>w.cell? ⟨b,1,none⟩=some (.map (some mb))/\w.cell? ⟨b,2,none⟩=some (.int .i64 c)/\MapIs w mb (zjx l) l.length
 | .inr (.inr (.inr (.inr (.inr (.inr (.inr (.inl a)))))))=>w.cell? ⟨b,1,none⟩=some (.string a.name)/\w.cell? ⟨b,2,none⟩=some (.int .i64 a.num)
 | .inr (.inr (.inr (.inr (.inr (.inr (.inr (.inr n)))))))=>w.cell? ⟨b,1,none⟩=some (.int .i64 n)
 | .inr _=>True
structure HdAt(w:World)(ids:Ids)(m:HM):Prop where
 sh:w.shape? m.b=some (z53 m.h.k)
 rc:w.cell? ⟨m.b,0,none⟩=some m.rv
 row:w.ownsRow 0 162 1 m.rv m.h.ents.length (m.h.ents.map (enV ids))
 kind:HkAt w m.b m.mb m.h.k
 free: ∀j,w.frozen? ⟨m.b,j,none⟩=false
def HK.isThr:HK->Prop
 | .inl (_,_)=>True
 | .inr _=>False
structure LabH(D:Nat->Prop)(lab:Nat->Nat×Nat)(i:Nat)(m:HM):Prop where
 b:lab m.b=(i+1,0)/\D m.b
 rv: ∀g,m.rv.ownBlock=some g->lab g=(i+1,1)/\D g
 mb:m.h.k.isThr->lab m.mb=(i+1,2)/\D m.mb
section
variable{M:Nat->Nat->Prop}{D D':Nat->Prop}{lab:Nat->Nat×Nat}{w w':World}{ids:Ids}{m:HM}{b mb:Nat}{k:HK}
theorem HkAt.keep(h:HkAt w b mb k)(hb:b<w.heap.size)(hc:Chg M w w')(h1: ∀i,i=1\/i=2->¬M b i)(h2:k.isThr->∀i,¬M mb i):HkAt w' b mb k:=by
 have c1:=hc.cell b 1 hb (h1 1 (.inl rfl))
 have c2:=hc.cell b 2 hb (h1 2 (.inr rfl))
 rcases k with ⟨l,c⟩|⟨to,a⟩|⟨to,k,a,c⟩|⟨to,f,a⟩|⟨f,a,c⟩|a|⟨⟩|a|n
 ·exact ⟨c1.trans h.1,c2.trans h.2.1,h.2.2.keep hc (h2 trivial)⟩
 ·trivial
 ·trivial
 ·trivial
 ·trivial
 ·trivial
 ·trivial
 ·exact ⟨c1.trans h.1,c2.trans h.2⟩
 ·exact c1.trans h
theorem HdAt.keep(h:HdAt w ids m)(hc:Chg M w w')(h1: ∀i,¬M m.b i)(h2: ∀g,m.rv.ownBlock=some g->∀i,¬M g i)(h3:m.h.k.isThr->∀i,¬M m.mb i):HdAt w' ids m:=by
 have hb:=Qd h.sh
 exact ⟨(hc.shape _ hb).trans h.sh,(hc.cell _ _ hb (h1 _)).trans h.rc,Qc h.row hc h2,h.kind.keep hb hc (λi _=>h1 i) h3,λj=>(hc.frozen _ _ hb).trans (h.free j)⟩
theorem HdAt.mblt(h:HdAt w ids m)(ht:m.h.k.isThr):m.mb<w.heap.size:=by
 have:=h.kind
 cases hk:m.h.k with
 |inl x=>rw [hk] at this;exact this.2.2.lt
 |inr s=>rw [hk] at ht;exact ht.elim
theorem LabH.newD{i:Nat}(l:LabH D lab i m)(h:HdAt w ids m)(hD: ∀k,D k->k<w.heap.size->D' k):LabH D' lab i m:=
 ⟨⟨l.b.1,hD _ l.b.2 (Qd h.sh)⟩,λg hg=>⟨(l.rv g hg).1,hD _ (l.rv g hg).2 (h.row.lt g hg).2⟩,λht=>⟨(l.mb ht).1,hD _ (l.mb ht).2 (h.mblt ht)⟩⟩
theorem zjy(ids x:Ids)(j:Nat)(hj:j<ids.length):idV (ids++x) j=idV ids j:=by unfold idV;rw [List.getElem?_append_left hj]
theorem zqv(ids x:Ids)(j:Nat)(hj:j<ids.length):idP (ids++x) j=idP ids j:=by unfold idP;rw [List.getElem?_append_left hj]
end
structure RMach(D:Nat->Prop)(lab:Nat->Nat×Nat)(w:World)(br sb bs:Nat)(tv ov:Value)(st:RS)(ms:List HM):Prop where
 sh:w.shape? br=some (100,5)
 c0:w.cell? ⟨br,0,none⟩=some (.map (some sb))
 c1:w.cell? ⟨br,1,none⟩=some tv
 c2:w.cell? ⟨br,2,none⟩=some (.int .i64 st.cells)
 c3:w.cell? ⟨br,3,none⟩=some ov
 c4:w.cell? ⟨br,4,none⟩=some (.map (some bs))
 free: ∀j,w.frozen? ⟨br,j,none⟩=false
 mS:MapIs w sb (shF st.shared) st.shared.length
 mG:MapIs w bs Sa 12
 trow:w.ownsRow 0 109 1 tv st.threads.length (st.threads.map (idP (Qu ms)))
 orow:w.ownsRow 0 222 1 ov st.opn.length (st.opn.map (idV (Qu ms)))
 hd: ∀i (h:i<ms.length),HdAt w (Qu ms) ms[i]
 hs:ms.map (·.h)=st.hs
 lbr:lab br=(0,0)/\D br
 lsb:lab sb=(0,1)/\D sb
 ltv: ∀g,tv.ownBlock=some g->lab g=(0,2)/\D g
 lov: ∀g,ov.ownBlock=some g->lab g=(0,3)/\D g
 lbs:lab bs=(0,4)/\D bs
 lhd: ∀i (h:i<ms.length),LabH D lab i ms[i]
section
variable{M:Nat->Nat->Prop}{D D':Nat->Prop}{lab:Nat->Nat×Nat}{w w':World}{br sb bs:Nat}{tv ov:Value}{st:RS}{ms:List HM}
theorem RMach.keep(h:RMach D lab w br sb bs tv ov st ms)(hc:Chg M w w')(hM: ∀k i,D k->¬M k i):RMach D lab w' br sb bs tv ov st ms:=by
 have hb:=Qd h.sh
 have kb: ∀i,¬M br i:=λi=>hM br i h.lbr.2
 exact {
  sh:=(hc.shape _ hb).trans h.sh,c0:=(hc.cell _ _ hb (kb _)).trans h.c0,c1:=(hc.cell _ _ hb (kb _)).trans h.c1,c2:=(hc.cell _ _ hb (kb _)).trans h.c2,c3:=(hc.cell _ _ hb (kb _)).trans h.c3,c4:=(hc.cell _ _ hb (kb _)).trans h.c4
  free:=λj=>(hc.frozen _ _ hb).trans (h.free j)
  mS:=h.mS.keep hc (λi=>hM _ i h.lsb.2)
  mG:=h.mG.keep hc (λi=>hM _ i h.lbs.2)
  trow:=Qc h.trow hc (λg hg i=>hM g i (h.ltv g hg).2)
  orow:=Qc h.orow hc (λg hg i=>hM g i (h.lov g hg).2)
  hd:=λi hi=>(h.hd i hi).keep hc (λj=>hM _ j (h.lhd i hi).b.2) (λg hg j=>hM g j ((h.lhd i hi).rv g hg).2) (λht j=>hM _ j ((h.lhd i hi).mb ht).2)
  hs:=h.hs,lbr:=h.lbr,lsb:=h.lsb,ltv:=h.ltv,lov:=h.lov,lbs:=h.lbs,lhd:=h.lhd}
theorem RMach.below(h:RMach D lab w br sb bs tv ov st ms)(hb:Below w.heap.size w w'):RMach D lab w' br sb bs tv ov st ms:=h.keep (M:=λ_ _=>False) (Chg.of_below hb) (λ_ _ _ e=>e)
theorem RMach.newD(h:RMach D lab w br sb bs tv ov st ms)(hD: ∀k,D k->k<w.heap.size->D' k):RMach D' lab w br sb bs tv ov st ms:={
 sh:=h.sh,c0:=h.c0,c1:=h.c1,c2:=h.c2,c3:=h.c3,c4:=h.c4,free:=h.free,mS:=h.mS,mG:=h.mG,trow:=h.trow,orow:=h.orow,hd:=h.hd,hs:=h.hs
 lbr:=⟨h.lbr.1,hD _ h.lbr.2 (Qd h.sh)⟩
 lsb:=⟨h.lsb.1,hD _ h.lsb.2 h.mS.lt⟩
 ltv:=λg hg=>⟨(h.ltv g hg).1,hD _ (h.ltv g hg).2 (h.trow.lt g hg).2⟩
 lov:=λg hg=>⟨(h.lov g hg).1,hD _ (h.lov g hg).2 (h.orow.lt g hg).2⟩
 lbs:=⟨h.lbs.1,hD _ h.lbs.2 h.mG.lt⟩
 lhd:=λi hi=>(h.lhd i hi).newD (h.hd i hi) hD}
theorem RMach.len(h:RMach D lab w br sb bs tv ov st ms):ms.length=st.hs.length:=by rw [<-h.hs];simp
theorem RMach.idl(h:RMach D lab w br sb bs tv ov st ms):(Qu ms).length=st.hs.length:=by rw [<-h.len];simp [Qu]
end
structure Bk where
 gets:List Bool
 puts:List Bool
 chgs:List Bool
 gives:Bool
 again:Nat
 undo:List Nat
structure Ck where
 L:List ByteArray
 T:List Nat
 loops:Nat
 blk:Option Bk
 g:Nat
structure Ck.Ok(s:Ck):Prop where
 l:s.L.length<=s.g
 z: ∀l∈s.L,l.size<=200+30*s.g
 t:s.T.length<=s.g
 tb: ∀n∈s.T,n<s.L.length
 u: ∀k,s.blk=some k->k.undo.length<=s.g/\ ∀n∈k.undo,n<s.L.length
structure Cx where
 sh:List (ByteArray×Int×Int)
 loc:List ByteArray
 th:Nat
 sb:Nat
 lb:Nat
structure Cm where
 lab:Nat->Nat
 lv:Value
 tv:Value
 TV:List Value
 b:Nat
 uv:Value
 UV:List Value
def IsLeap(lab:Nat->Nat)(w:World)(c:Nat)(f:Value)(n:Nat):Prop:=∃bl ba,f= .func (.func 129) #[] #[ptr bl,ptr ba]/\(bl<w.heap.size/\lab bl=0/\w.cell? ⟨bl,0,none⟩=some (ptr c))/\(ba<w.heap.size/\lab ba=0/\w.cell? ⟨ba,0,none⟩=some (.int .i64 n))
def Leaps(lab:Nat->Nat)(w:World)(c:Nat)(F:List Value)(N:List Nat):Prop:=F.length=N.length/\ ∀(i:Nat) f n,F[i]?=some f->N[i]?=some n->IsLeap lab w c f n
structure BkAt(m:Cm)(w:World)(c:Nat)(k:Bk):Prop where
 sh:w.shape? m.b=some (257,19)
 g: ∀(i:Nat) v,k.gets[i]?=some v->w.cell? ⟨m.b,i,none⟩=some (.bool v)
 p: ∀(i:Nat) v,k.puts[i]?=some v->w.cell? ⟨m.b,6+i,none⟩=some (.bool v)
 ch: ∀(i:Nat) v,k.chgs[i]?=some v->w.cell? ⟨m.b,12+i,none⟩=some (.bool v)
 gv:w.cell? ⟨m.b,16,none⟩=some (.bool k.gives)
 ag:w.cell? ⟨m.b,17,none⟩=some (.int .i64 k.again)
 un:w.cell? ⟨m.b,18,none⟩=some m.uv
 free: ∀j,w.frozen? ⟨m.b,j,none⟩=false
 urow:w.ownsRow 0 1 1 m.uv k.undo.length m.UV
 ul:Leaps m.lab w c m.UV k.undo
 lbk:m.lab m.b=4
 luv: ∀g,m.uv.ownBlock=some g->m.lab g=5
 n1:k.gets.length=6
 n2:k.puts.length=6
 n3:k.chgs.length=4
def zjz(m:Cm)(s:Ck):Value:=match s.blk with|some _=>ptr m.b|none=> .pointer none
structure zj0(W:World)(x:Cx):Prop where
 mS:MapIs W x.sb (shF x.sh) x.sh.length
 mL:MapIs W x.lb (zjx x.loc) x.loc.length
 tab: ∀w,Below W.heap.size W w->Lib.TabIs Tryz.prog w "internal/strconv.uint64pow10" .u64 Lib.pow10Tab
 th:x.th<=3
 ln:x.loc.length<=4
structure Cd(W:World)(x:Cx)(K:List (Nat×Nat×Value))(m:Cm)(w:World)(c:Nat)(s:Ck):Prop where
 base:zj0 W x
 ok:s.Ok
 low:Below W.heap.size W w
 sh:w.shape? c=some (122,7)
 c0:w.cell? ⟨c,0,none⟩=some m.lv
 c1:w.cell? ⟨c,1,none⟩=some (.map (some x.sb))
 c2:w.cell? ⟨c,2,none⟩=some (.map (some x.lb))
 c3:w.cell? ⟨c,3,none⟩=some (.int .i64 x.th)
 c4:w.cell? ⟨c,4,none⟩=some (.int .i64 s.loops)
 c5:w.cell? ⟨c,5,none⟩=some (zjz m s)
 c6:w.cell? ⟨c,6,none⟩=some m.tv
 free: ∀j,w.frozen? ⟨c,j,none⟩=false
 lrow:w.ownsRow 0 9 1 m.lv s.L.length (s.L.map .string)
 trow:w.ownsRow 0 1 1 m.tv s.T.length m.TV
 tl:Leaps m.lab w c m.TV s.T
 bk: ∀k,s.blk=some k->BkAt m w c k
 kp: ∀p∈K,p.1<w.heap.size/\m.lab p.1=0/\w.cell? ⟨p.1,p.2.1,none⟩=some p.2.2
 lz: ∀k,w.heap.size<=k->m.lab k=0
 lo: ∀k,k<W.heap.size->m.lab k=0
 lc:m.lab c=1
 llv: ∀g,m.lv.ownBlock=some g->m.lab g=2
 ltv: ∀g,m.tv.ownBlock=some g->m.lab g=3
section
variable{W w w':World}{x:Cx}{K:List (Nat×Nat×Value)}{m m':Cm}{c:Nat}{s s':Ck}{M:Nat->Nat->Prop}{lab lab':Nat->Nat}{f:Value}{n:Nat}
theorem IsLeap.keep(h:IsLeap lab w c f n)(hc:Chg M w w')(hM: ∀k j,k<w.heap.size->M k j->lab k≠0)(hl: ∀k,k<w.heap.size->lab k=0->lab' k=0):IsLeap lab' w' c f n:=by
 obtain ⟨bl,ba,e,⟨h1,h2,h3⟩,h4,h5,h6⟩:=h
 exact ⟨bl,ba,e,⟨Nat.lt_of_lt_of_le h1 hc.size,hl _ h1 h2,(hc.cell _ _ h1 λe=>hM _ _ h1 e h2).trans h3⟩,Nat.lt_of_lt_of_le h4 hc.size,hl _ h4 h5,(hc.cell _ _ h4 λe=>hM _ _ h4 e h5).trans h6⟩
theorem Leaps.keep(h:Leaps lab w c F N)(hc:Chg M w w')(hM: ∀k j,k<w.heap.size->M k j->lab k≠0)(hl: ∀k,k<w.heap.size->lab k=0->lab' k=0):Leaps lab' w' c F N:=
 ⟨h.1,λi f n hf hn=>(h.2 i f n hf hn).keep hc hM hl⟩
theorem Leaps.push(h:Leaps lab w c F N)(hf:IsLeap lab w c f n):Leaps lab w c (F++[f]) (N++[n]):=by
 refine ⟨by simp [h.1],λi f' n' hf' hn'=>?_⟩
 by_cases hi:i<F.length
 ·rw [List.getElem?_append_left hi] at hf'
  rw [List.getElem?_append_left (h.1▸hi)] at hn'
  exact h.2 i f' n' hf' hn'
 ·rw [List.getElem?_append_right yai] at hf'
  rw [List.getElem?_append_right (by have:=h.1;omega)] at hn'
  rw [<-h.1] at hn'
  generalize i- F.length=j at hf' hn'
  cases j with
  |zero=>
   simp only [List.getElem?_cons_zero,Option.some.injEq] at hf' hn'
   rw [<-hf',<-hn'];exact hf
  |succ j=>simp at hf'
theorem BkAt.keep{k:Bk}(h:BkAt m w c k)(hc:Chg M w w')(hM: ∀k j,k<w.heap.size->M k j->m.lab k≠0)(h1: ∀j,¬M m.b j)(h2: ∀g,m.uv.ownBlock=some g->∀j,¬M g j)(hl: ∀k,k<w.heap.size->m'.lab k=m.lab k)(e1:m'.b=m.b)(e2:m'.uv=m.uv)(e3:m'.UV=m.UV):BkAt m' w' c k:=by
 have hb:=Qd h.sh
 have cc: ∀j,w'.cell? ⟨m.b,j,none⟩=w.cell? ⟨m.b,j,none⟩:=λj=>hc.cell _ _ hb (h1 j)
 have hl0: ∀k,k<w.heap.size->m.lab k=0->m'.lab k=0:=λk hk e=>(hl k hk).trans e
 refine ⟨?_,?_,?_,?_,?_,?_,?_,?_,?_,?_,?_,?_,h.n1,h.n2,h.n3⟩<;>(try rw [e1])<;>(try rw [e2])<;>(try rw [e3])
 ·exact (hc.shape _ hb).trans h.sh
 ·intro i v hv;exact (cc _).trans (h.g i v hv)
 ·intro i v hv;exact (cc _).trans (h.p i v hv)
 ·intro i v hv;exact (cc _).trans (h.ch i v hv)
 ·exact (cc _).trans h.gv
 ·exact (cc _).trans h.ag
 ·exact (cc _).trans h.un
 ·intro j;exact (hc.frozen _ _ hb).trans (h.free j)
 ·exact Qc h.urow hc h2
 ·exact h.ul.keep hc hM hl0
 ·exact (hl _ hb).trans h.lbk
 ·intro g hg;exact (hl _ (h.urow.lt g hg).2).trans (h.luv g hg)
theorem Cd.belowW(h:Cd W x K m w c s)(hc:Chg M w w')(hM: ∀k j,k<w.heap.size->M k j->m.lab k≠0):Below W.heap.size W w':=
 h.low.trans ((hc.mono (M':=λk _=>W.heap.size<=k) (λk j hk e=>by
  by_cases hl:k<W.heap.size
  ·exact (hM k j hk e (h.lo k hl)).elim
  ·exact Nat.le_of_not_lt hl)).below h.low.size (λ_ _ e=>e))
theorem Cd.turn(h:Cd W x K m w c s)(ok:s'.Ok)(hc:Chg M w w')(hM: ∀k j,k<w.heap.size->M k j->m.lab k≠0/\(k=c->j≠1/\j≠2/\j≠3))(hl: ∀k,k<w.heap.size->m'.lab k=m.lab k)(hz: ∀k,w'.heap.size<=k->m'.lab k=0)
  (c0:w'.cell? ⟨c,0,none⟩=some m'.lv) (c4:w'.cell? ⟨c,4,none⟩=some (.int .i64 s'.loops)) (c5:w'.cell? ⟨c,5,none⟩=some (zjz m' s')) (c6:w'.cell? ⟨c,6,none⟩=some m'.tv)
  (lrow:w'.ownsRow 0 9 1 m'.lv s'.L.length (s'.L.map .string)) (trow:w'.ownsRow 0 1 1 m'.tv s'.T.length m'.TV) (tl:Leaps m'.lab w' c m'.TV s'.T) (bk: ∀k,s'.blk=some k->BkAt m' w' c k)
  (llv: ∀g,m'.lv.ownBlock=some g->m'.lab g=2) (ltv: ∀g,m'.tv.ownBlock=some g->m'.lab g=3):Cd W x K m' w' c s':=by
 have lb:=Qd h.sh
 have kc: ∀j,j=1\/j=2\/j=3->w'.cell? ⟨c,j,none⟩=w.cell? ⟨c,j,none⟩:=λj hj=>hc.cell _ _ lb λe=>by
  have:=(hM c j lb e).2 rfl
  omega
 exact {
  base:=h.base,ok:=ok,low:=h.belowW hc (λk j hk e=>(hM k j hk e).1)
  sh:=(hc.shape _ lb).trans h.sh
  c0:=c0,c1:=(kc 1 yai).trans h.c1,c2:=(kc 2 yai).trans h.c2,c3:=(kc 3 yai).trans h.c3,c4:=c4,c5:=c5,c6:=c6
  free:=λj=>(hc.frozen _ _ lb).trans (h.free j)
  lrow:=lrow,trow:=trow,tl:=tl,bk:=bk
  kp:=λp hp=>by
   obtain ⟨h1,h2,h3⟩:=h.kp p hp
   exact ⟨Nat.lt_of_lt_of_le h1 hc.size,(hl _ h1).trans h2,(hc.cell _ _ h1 λe=>(hM _ _ h1 e).1 h2).trans h3⟩
  lz:=hz
  lo:=λk hk=>(hl k (Nat.lt_of_lt_of_le hk h.low.size)).trans (h.lo k hk)
  lc:=(hl _ lb).trans h.lc
  llv:=llv,ltv:=ltv}
theorem Cd.below(h:Cd W x K m w c s)(hb:Below w.heap.size w w'):Cd W x K m w' c s:=by
 have hc:Chg (λ_ _=>False) w w':=Chg.of_below hb
 have lb:=Qd h.sh
 exact h.turn h.ok hc (λ_ _ _ e=>e.elim) (λ_ _=>rfl) (λk hk=>h.lz k (Nat.le_trans hb.size hk)) ((hc.cell _ _ lb id).trans h.c0) ((hc.cell _ _ lb id).trans h.c4) ((hc.cell _ _ lb id).trans h.c5) ((hc.cell _ _ lb id).trans h.c6)
  (Qc h.lrow hc (λ_ _ _ e=>e)) (Qc h.trow hc (λ_ _ _ e=>e)) (h.tl.keep hc (λ_ _ _ e=>e.elim) (λ_ _ e=>e)) (λk hk=>(h.bk k hk).keep hc (λ_ _ _ e=>e.elim) (λ_ e=>e) (λ_ _ _ e=>e) (λ_ _=>rfl) rfl rfl rfl) h.llv h.ltv
theorem Cd.more(h:Cd W x K m w c s)(h1:b<w.heap.size)(h2:m.lab b=0)(h3:w.cell? ⟨b,o,none⟩=some v):Cd W x ((b,o,v)::K) m w c s:=
 {h with kp:=λp hp=>(List.mem_cons.1 hp).elim (λe=>e▸⟨h1,h2,h3⟩) (h.kp p)}
theorem Cd.less(h:Cd W x K m w c s)(hK: ∀p∈K',p∈K):Cd W x K' m w c s:=
 {h with kp:=λp hp=>h.kp p (hK p hp)}
theorem Cd.lt(h:Cd W x K m w c s):c<w.heap.size:=Qd h.sh
end
def Cw(W:World)(x:Cx)(K:List (Nat×Nat×Value))(w:World)(c:Nat)(s:Ck):Prop:=∃m,Cd W x K m w c s
section
variable{W w w':World}{x:Cx}{K:List (Nat×Nat×Value)}{c:Nat}{s s':Ck}
theorem Cw.below(h:Cw W x K w c s)(hb:Below w.heap.size w w'):Cw W x K w' c s:=let ⟨m,h⟩:=h;⟨m,h.below hb⟩
theorem Cw.less(h:Cw W x K w c s)(hK: ∀p∈K',p∈K):Cw W x K' w c s:=let ⟨m,h⟩:=h;⟨m,h.less hK⟩
theorem Cw.lt(h:Cw W x K w c s):c<w.heap.size:=let ⟨_,h⟩:=h;h.lt
theorem Cw.kept(h:Cw W x K w c s)(hp:(b,o,v)∈K):w.cell? ⟨b,o,none⟩=some v:=let ⟨_,h⟩:=h;(h.kp _ hp).2.2
theorem Cw.tab(h:Cw W x K w c s):Lib.TabIs Tryz.prog w "internal/strconv.uint64pow10" .u64 Lib.pow10Tab:=let ⟨_,h⟩:=h;h.base.tab w h.low
end
def Zt(sep:UInt8)(ws:List ByteArray):ByteArray:=⟨(Lib.join (ws.map (·.data.toList)) [sep]).toArray⟩
def dec(n:Int):ByteArray:=⟨(Lib.itoa n).toArray⟩
theorem zaf(n:Int)(h0:-9223372036854775808<=n)(h1:n<=9223372036854775807):(dec n).size<=21:=by
 have:=Lib.itoa_length_le n h0 h1
 simpa [dec,ByteArray.size] using this
abbrev yR4:ByteArray:=⟨#[114,52]⟩
abbrev yR5:ByteArray:=⟨#[114,53]⟩
abbrev yR6:ByteArray:=⟨#[114,54]⟩
abbrev yR7:ByteArray:=⟨#[114,55]⟩
abbrev y0:ByteArray:=⟨#[48]⟩
abbrev y1:ByteArray:=⟨#[49]⟩
abbrev yM1:ByteArray:=⟨#[45,49]⟩
abbrev zdp:ByteArray:=⟨#[109,111,118]⟩
abbrev Qw:ByteArray:=⟨#[108,111,97,100]⟩
abbrev Qh:ByteArray:=⟨#[115,116,111,114,101]⟩
abbrev Fy:ByteArray:=⟨#[97,100,100]⟩
abbrev zyo:ByteArray:=⟨#[115,117,98]⟩
abbrev yLt:ByteArray:=⟨#[108,116]⟩
abbrev yEq:ByteArray:=⟨#[101,113]⟩
abbrev yJz:ByteArray:=⟨#[106,122]⟩
abbrev zaa:ByteArray:=⟨#[106,109,112]⟩
abbrev zp6:ByteArray:=⟨#[111,117,116]⟩
abbrev Xf:ByteArray:=⟨#[120,97,100,100]⟩
abbrev zvf:ByteArray:=⟨#[99,97,115]⟩
abbrev Yn:ByteArray:=⟨#[102,101,110,99,101]⟩
abbrev Ex:ByteArray:=⟨#[104,97,108,116]⟩
abbrev zj1:ByteArray:=⟨#[116,114,97,112]⟩
abbrev ySp:ByteArray:=⟨#[32]⟩
def Ck.add(s:Ck)(ws:List ByteArray):Ck:={s with L:=s.L++[Zt 32 ws],g:=s.g+1}
def Ck.land(s:Ck)(n:Nat):Ck:={s with L:=s.L.set n ((s.L[n]?).getD ⟨#[]⟩++(ySp++dec s.L.length)),g:=s.g+1}
def Ck.lands(s:Ck)(ns:List Nat):Ck:=ns.foldl Ck.land s
def Ck.back(s:Ck)(n:Nat):Ck:=s.add [zaa,dec n]
def Ck.trapIf(s:Ck):Ck:={s.add [yJz,yR4] with T:=s.T++[s.L.length]}
def Ck.bk(s:Ck):Bk:=s.blk.getD ⟨[],[],[],false,0,[]⟩
def Ck.undoIf(s:Ck):Ck:={s.add [yJz,yR4] with blk:=some {s.bk with undo:=s.bk.undo++[s.L.length]}}
def Zy(n:Int):ByteArray:=⟨#[114]⟩++dec n
theorem zvg(n:Int)(h0:-9223372036854775808<=n)(h1:n<=9223372036854775807):(Zy n).size<=22:=by
 have:=zaf n h0 h1
 simp only [Zy,ByteArray.size_append]
 have:(ByteArray.mk #[114]).size=1:=rfl
 omega
def Cx.own(x:Cx)(k:Int):ByteArray:=dec (13+(x.th:Int)*39+k)
def ze5(k:Int):ByteArray:=dec (6+k)
def Cx.lock(x:Cx):ByteArray:=dec (9223372036854775807- (x.th:Int))
def Cx.locI(x:Cx)(u:ByteArray):Nat:=(x.loc.findIdx? λy=>decide (y=u)).getD 0
def Cx.local(x:Cx)(u:ByteArray):ByteArray:=Zy (x.locI u)
def Cx.val(x:Cx)(a:PV):ByteArray:=if a.name=⟨#[]⟩ then dec a.num else x.local a.name
def Cx.var(x:Cx)(u:ByteArray):Int×Int:=((x.sh.find? λp=>decide (p.1=u)).map (·.2)).getD (0,0)
def Qn(f:Nat->Ck->Ck):List Bool->Nat->Ck->Ck
 |[],_,s=>s
 |b::r,i,s=>Qn f r (i+1) (if b=true then f i s else s)
def Zu(at':ByteArray)(first:Int)(s:Ck):Ck:=(s.add [Qw,yR4,at',ze5 first]).add [yLt,yR4,yR4,yR6]
def Cx.begin(x:Cx)(s:Ck):Ck:=
 let k:=s.bk
 let s1:=Qn (λi s=>s.add [Qh,y0,x.own (32+i),Zy i]) k.chgs 0 s
 let s2:Ck:={s1 with blk:=some {k with again:=s1.L.length}}
 let s3:=Qn (λi s=>s.add [Qw,Zy i,y0,x.own (32+i)]) k.chgs 0 s2
 let s4:=(s3.add [Qw,yR6,y0,dec 12]).add [Fy,yR6,yR6,y1]
 let s5:=Qn (λi s=>s.add [Qh,y0,x.own (6+i),y0]) k.puts 0 s4
 let s6:=Qn (λi s=>s.add [Qh,y0,x.own (12+i),y0]) k.gets 0 s5
 s6.add [zdp,yR7,y0]
def Cx.readC(x:Cx)(to at':ByteArray)(first:Int)(s:Ck):Ck:=
 let again:=dec s.bk.again
 let s1:=((Zu at' first s).add [yJz,yR4,again]).add [Qw,yR5,at',dec first]
 (((Zu at' first s1).add [yJz,yR4,again]).add [Qh,at',x.own (12+first),y1]).add [zdp,to,yR5]
def Cx.check(x:Cx)(of:ByteArray)(a:PV)(s:Ck):Ck:=
 let n:=(x.var of).2
 if a.name=⟨#[]⟩/\0<=a.num/\a.num<n then s
 else (((s.add [yLt,yR4,yM1,x.val a]).trapIf).add [yLt,yR4,x.val a,dec n]).trapIf
def Cx.get(x:Cx)(to of:ByteArray)(a:PV)(s:Ck):Ck:=
 let first:=(x.var of).1
 let s1:=x.check of a s
 if (s.bk.puts[first.toNat]?).getD false=false then x.readC (x.local to) (x.val a) first s1
 else
  let s2:=s1.add [Qw,yR4,x.val a,x.own (6+first)]
  let s3:=s2.add [yJz,yR4]
  let s4:=s3.add [Qw,x.local to,x.val a,x.own first]
  let s5:=s4.add [zaa]
  (x.readC (x.local to) (x.val a) first (s5.land s2.L.length)).land s4.L.length
def Cx.put(x:Cx)(of:ByteArray)(a v:PV)(s:Ck):Ck:=
 let first:=(x.var of).1
 (((x.check of a s).add [Qh,x.val a,x.own first,x.val v]).add [Qh,x.val a,x.own (6+first),y1]).add [Qh,x.val a,x.own (12+first),y0]
def Cx.outC(x:Cx)(a:PV)(s:Ck):Ck:=match s.blk with
 |none=>s.add [zp6,x.val a]
 |some _=>(s.add [Qh,yR7,x.own 24,x.val a]).add [Fy,yR7,yR7,y1]
def Cx.lockC(x:Cx)(i:Int)(s:Ck):Ck:=
 let s1:=s.add [Qw,yR4,y0,x.own (6+i)]
 let s2:=(((s1.add [yJz,yR4]).add [Qw,yR5,y0,ze5 i]).add [yLt,yR4,yR5,yR6]).undoIf
 (((s2.add [Qh,y0,x.own (18+i),yR5]).add [zvf,yR4,y0,ze5 i,yR5,x.lock]).undoIf).land s1.L.length
def Cx.lookC(x:Cx)(i:Int)(s:Ck):Ck:=
 let s1:=s.add [Qw,yR4,y0,x.own (12+i)]
 ((Zu y0 i (s1.add [yJz,yR4])).undoIf).land s1.L.length
def Cx.storeC(x:Cx)(i:Int)(s:Ck):Ck:=
 let s1:=s.add [Qw,yR4,y0,x.own (6+i)]
 ((((s1.add [yJz,yR4]).add [Qw,yR4,y0,x.own i]).add [Qh,y0,dec i,yR4]).add [Qh,y0,ze5 i,yR5]).land s1.L.length
def Cx.unlockC(x:Cx)(i:Int)(s:Ck):Ck:=
 let s1:=(s.add [Qw,yR4,y0,ze5 i]).add [yEq,yR4,yR4,x.lock]
 (((s1.add [yJz,yR4]).add [Qw,yR4,y0,x.own (18+i)]).add [Qh,y0,ze5 i,yR4]).land s1.L.length
def Cx.undoC(x:Cx)(s:Ck):Ck:=
 let k:=s.bk
 (Qn (λi=>x.unlockC i) k.puts 0 (s.lands k.undo)).back k.again
def Cx.commit(x:Cx)(s:Ck):Ck:=
 let k:=s.bk
 let s1:=Qn (λi=>x.lockC i) k.puts 0 s
 let s2:=(s1.add [Xf,yR5,y0,dec 12,y1]).add [Fy,yR5,yR5,y1]
 let s3:=Qn (λi=>x.lookC i) k.gets 0 s2
 let s4:=(Qn (λi=>x.storeC i) k.puts 0 s3).add [Yn]
 (x.undoC (s4.add [zaa])).land s4.L.length
def Cx.give(x:Cx)(s:Ck):Ck:=
 let s1:=s.add [zdp,yR4,y0]
 let s2:=s1.add [yLt,yR5,yR4,yR7]
 (((((s2.add [yJz,yR5]).add [Qw,yR5,yR4,x.own 24]).add [zp6,yR5]).add [Fy,yR4,yR4,y1]).back s1.L.length).land s2.L.length
def zvh(l:List Bool)(v:Int×Int):List Bool:=(List.range v.2.toNat).foldl (λl i=>l.set (v.1.toNat+i) true) l
def Cx.seen(x:Cx)(k:Bk):En->Bk
 | .inl (.inl (to,_))=>{k with chgs:=k.chgs.set (x.locI to) true}
 | .inl (.inr (.inl (to,_)))=>{k with chgs:=k.chgs.set (x.locI to) true}
 | .inl (.inr (.inr (.inl (to,of,_))))=>{k with chgs:=k.chgs.set (x.locI to) true,gets:=zvh k.gets (x.var of)}
 | .inl (.inr (.inr (.inr (.inl (of,_)))))=>{k with puts:=zvh k.puts (x.var of)}
 | .inl (.inr (.inr (.inr (.inr (.inl _)))))=>{k with gives:=true}
 |_=>k
def bk0:Bk:=⟨List.replicate 6 false,List.replicate 6 false,List.replicate 4 false,false,0,[]⟩
theorem zbs(w:World)(k:Nat)(os:Array Obj):Below w.heap.size w (Go.Sort.grow (w.drewN k) os):=
 ⟨rfl,rfl,rfl,by simp [Go.Sort.grow,World.drewN],λj hj=>by simp [Go.Sort.grow,World.drewN,Array.getElem?_append_left hj]⟩
section
variable{W w w':World}{x:Cx}{K:List (Nat×Nat×Value)}{c:Nat}{s:Ck}
theorem zag(h:Cw W x K w c s)(n:Int)(h0:-9223372036854775808<=n)(h1:n<=9223372036854775807):
  Cl 68 #[.int .i64 n] w λe w'=>e= .returned (.string (dec n))/\Cw W x K w' c s:=by
 refine (Tryz.strconv_Itoa n h0 h1 w h.tab).mono ?_
 rintro e w' ⟨rfl,k,os,rfl⟩
 exact ⟨rfl,h.below (zbs w k os)⟩
theorem zah(h:Cw W x K w c s)(n:Int)(h0:-9223372036854775808<=n)(h1:n<=9223372036854775807):
  Cl 120 #[.int .i64 n, .int .i64 10] w λe w'=>e= .returned (.string (dec n))/\Cw W x K w' c s:=by
 refine (Tryz.strconv_FormatInt_10 n h0 h1 w h.tab).mono ?_
 rintro e w' ⟨rfl,k,os,rfl⟩
 exact ⟨rfl,h.below (zbs w k os)⟩
theorem Cw.c3(h:Cw W x K w c s):w.cell? ⟨c,3,none⟩=some (.int .i64 x.th):=let ⟨_,h⟩:=h;h.c3
theorem Cw.c4(h:Cw W x K w c s):w.cell? ⟨c,4,none⟩=some (.int .i64 s.loops):=let ⟨_,h⟩:=h;h.c4
theorem Cw.c1(h:Cw W x K w c s):w.cell? ⟨c,1,none⟩=some (.map (some x.sb)):=let ⟨_,h⟩:=h;h.c1
theorem Cw.c2(h:Cw W x K w c s):w.cell? ⟨c,2,none⟩=some (.map (some x.lb)):=let ⟨_,h⟩:=h;h.c2
theorem Cw.base(h:Cw W x K w c s):zj0 W x:=let ⟨_,h⟩:=h;h.base
theorem Cw.low(h:Cw W x K w c s):Below W.heap.size W w:=let ⟨_,h⟩:=h;h.low
theorem Cw.mL(h:Cw W x K w c s):MapIs w x.lb (zjx x.loc) x.loc.length:=h.base.mL.of_block (h.low.block _ h.base.mL.lt)
theorem Cw.mS(h:Cw W x K w c s):MapIs w x.sb (shF x.sh) x.sh.length:=h.base.mS.of_block (h.low.block _ h.base.mS.lt)
theorem Cw.th(h:Cw W x K w c s):x.th<=3:=h.base.th
theorem zbt(h:Cw W x K w c s)(n:Int)(h0:0<=n)(h1:n<=100):
  Cl 119 #[.int .i64 n] w λe w'=>e= .returned (.string (Zy n))/\Cw W x K w' c s:=by
 have H:=hid h
 clear h
 have hsz: ¬9223372036854775807<1+(dec n).size:=by have:=zaf n yai yai;omega
 go_enter Tryz.func119,Tryz.ntmps119
 go_wp2_with fail
 refine (zag H.out n yai yai).mono ?_
 rintro e w1 ⟨rfl,h1⟩
 have H1:=hid h1
 clear h1 H
 go_wp2
 go_ret
 exact ⟨rfl,H1.out⟩
theorem Fz(h:Cw W x K w c s)(n:Int)(h0:0<=n)(h1:n<=100):
  Cl 123 #[ptr c, .int .i64 n] w λe w'=>e= .returned (.string (x.own n))/\Cw W x K w' c s:=by
 have hc:=h.c3
 have ht:=h.th
 have H:=hid h
 clear h
 have w1:wrap64 ((x.th:Int)*39)=(x.th:Int)*39:=yao
 have w2:wrap64 (13+(x.th:Int)*39)=13+(x.th:Int)*39:=yao
 have w3:wrap64 (13+(x.th:Int)*39+n)=13+(x.th:Int)*39+n:=yao
 go_enter Tryz.func123,Tryz.ntmps123
 go_wp2_with fail
 refine (zag H.out (13+(x.th:Int)*39+n) yai yai).mono ?_
 rintro e w1 ⟨rfl,h1⟩
 have H1:=hid h1
 clear h1 H hc
 go_wp2
 go_ret
 exact ⟨rfl,H1.out⟩
theorem Fk(h:Cw W x K w c s)(n:Int)(h0:0<=n)(h1:n<=100):
  Cl 162 #[.int .i64 n] w λe w'=>e= .returned (.string (ze5 n))/\Cw W x K w' c s:=by
 have H:=hid h
 clear h
 have w1:wrap64 (6+n)=6+n:=yao
 go_enter Tryz.func162,Tryz.ntmps162
 go_wp2_with fail
 refine (zag H.out (6+n) yai yai).mono ?_
 rintro e w1 ⟨rfl,h1⟩
 have H1:=hid h1
 clear h1 H
 go_wp2
 go_ret
 exact ⟨rfl,H1.out⟩
theorem zl3(h:Cw W x K w c s)(n:Int)(h0:0<=n)(h1:n<=100):
  Cl 140 #[.int .i64 n] w λe w'=>e= .returned (.string (dec n))/\Cw W x K w' c s:=by
 have H:=hid h
 clear h
 have w1:wrap64 (0+n)=n:=yao
 go_enter Tryz.func140,Tryz.ntmps140
 go_wp2_with fail
 refine (zag H.out n yai yai).mono ?_
 rintro e w1 ⟨rfl,h1⟩
 have H1:=hid h1
 clear h1 H
 go_wp2
 go_ret
 exact ⟨rfl,H1.out⟩
theorem zqw(h:Cw W x K w c s):
  Cl 145 #[] w λe w'=>e= .returned (.string (dec 12))/\Cw W x K w' c s:=by
 have H:=hid h
 clear h
 go_enter Tryz.func145,Tryz.ntmps145
 go_wp2_with fail
 refine (zag H.out 12 yai yai).mono ?_
 rintro e w1 ⟨rfl,h1⟩
 have H1:=hid h1
 clear h1 H
 go_wp2
 go_ret
 exact ⟨rfl,H1.out⟩
theorem zl4(h:Cw W x K w c s):
  Cl 164 #[ptr c] w λe w'=>e= .returned (.string x.lock)/\Cw W x K w' c s:=by
 have hc:=h.c3
 have ht:=h.th
 have H:=hid h
 clear h
 have w1:wrap64 (9223372036854775807- (x.th:Int))=9223372036854775807- (x.th:Int):=yao
 go_enter Tryz.func164,Tryz.ntmps164
 go_wp2_with fail
 refine (zah H.out (9223372036854775807- (x.th:Int)) yai yai).mono ?_
 rintro e w1 ⟨rfl,h1⟩
 have H1:=hid h1
 clear h1 H hc
 go_wp2
 go_ret
 exact ⟨rfl,H1.out⟩
end
def Vk(s:St)(b:Nat):Value:=match s with
 | .inr (.inr (.inr (.inr (.inr (.inl ())))))=> .iface 171 (ptr b)
 | .inr (.inr (.inr (.inr (.inr (.inr (.inl _))))))=> .iface 212 (ptr b)
 | .inr (.inr (.inr (.inr (.inr (.inr (.inr _))))))=> .iface 215 (ptr b)
 |s=>stV s
def Vg:St->ByteArray
 | .inl (to,_)=>to
 | .inr (.inl (to,_,_,_))=>to
 | .inr (.inr (.inl (to,_,_)))=>to
 |_=>ByteArray.empty
def HK.isAtomic:HK->Bool
 | .inr (.inr (.inr (.inr (.inr (.inr (.inl ()))))))=>true
 |_=>false
def RS.hk(st:RS)(j:Nat):Option HK:=(st.hs[j]?).map (·.k)
def RS.inB(st:RS):Bool:=st.opn.any λj=>((st.hk j).map HK.isAtomic).getD false
def RS.isSh(st:RS)(u:ByteArray):Bool:=st.shared.any λp=>decide (p.1=u)
def Uh(l:List ByteArray)(u:ByteArray):Bool:=l.any λx=>decide (x=u)
theorem zqx(w:World):(zeroValue 199).run Tryz.prog w= .ok (.agg #[.int .i64 0, .int .i64 0]) w:=yak
theorem zqy(w:World):(zeroValue 3).run Tryz.prog w= .ok (.int .i64 0) w:=yak
section
variable{D:Nat->Prop}{lab:Nat->Nat×Nat}{w:World}{br sb bs:Nat}{tv ov:Value}{st:RS}{ms:List HM}
theorem zl5(l:List (ByteArray×Int×Int))(u:ByteArray):(shF l u).isSome=l.any λp=>decide (p.1=u):=by
 unfold shF
 rw [Option.isSome_map]
 induction l with
 |nil=>rfl
 |cons p l ih=>
  simp only [List.find?_cons,List.any_cons]
  cases h:decide (p.1=u) with
  |true=>simp
  |false=>simp [ih]
theorem zzy(l:List (ByteArray×Int×Int))(u:ByteArray): ∃a b,(shF l u).getD (.agg #[.int .i64 0, .int .i64 0])= .agg #[.int .i64 a, .int .i64 b]:=by
 unfold shF
 cases (l.find? λp=>decide (p.1=u)) with
 |none=>exact ⟨0,0,rfl⟩
 |some p=>exact ⟨_,_,rfl⟩
theorem Uu(h:RMach D lab w br sb bs tv ov st ms)(u:ByteArray)(hu:u.size<=maxLen):
  Cl 79 #[ptr br, .string u] w λe w'=>e= .returned (.bool (st.isSh u))/\Below w.heap.size w w':=by
 have c0:=h.c0
 have hl:=h.mS.look Tryz.underlying92 (zqx w) hu
 rw [zl5] at hl
 obtain ⟨a,b,e⟩:=zzy st.shared u
 rw [e] at hl
 unfold RS.isSh
 generalize (st.shared.any λp=>decide (p.1=u))=r at*
 clear h e
 go_enter Tryz.func79,Tryz.ntmps79
 go_wp2
 go_ret
 exact ⟨rfl,(Below.refl _ w).alloc (Nat.le_refl _) _⟩
theorem zho(l:List ByteArray)(u:ByteArray):(zjx l u).isSome=Uh l u:=by
 unfold zjx Uh
 rw [Option.isSome_map]
 induction l with
 |nil=>rfl
 |cons p l ih=>
  rw [List.findIdx?_cons,List.any_cons,<-ih]
  cases h:decide (p=u) with
  |true=>simp
  |false=>simp
theorem zvi(l:List ByteArray)(u:ByteArray): ∃a,(zjx l u).getD (.int .i64 0)= .int .i64 a:=by
 unfold zjx
 cases (l.findIdx? λx=>decide (x=u)) with
 |none=>exact ⟨0,rfl⟩
 |some k=>exact ⟨_,rfl⟩
theorem zhp{mb:Nat}{l:List ByteArray}(c1:w.cell? ⟨b,1,none⟩=some (.map (some mb)))(hm:MapIs w mb (zjx l) l.length)(u:ByteArray)(hu:u.size<=maxLen):
  Cl 88 #[ptr b, .string u] w λe w'=>e= .returned (.bool (Uh l u))/\w'=w:=by
 have hl:=hm.look Tryz.underlying114 (zqy w) hu
 rw [zho] at hl
 obtain ⟨a,e⟩:=zvi l u
 rw [e] at hl
 generalize Uh l u=r at*
 clear hm e
 go_enter Tryz.func88,Tryz.ntmps88
 go_wp2
 go_ret
 exact ⟨rfl,rfl⟩
theorem zdq(h:RMach D lab w br sb bs tv ov st ms)(tl:List Nat)(t:Nat)(ht:st.threads=tl++[t])(htl:t<ms.length)(hn:tl.length<1000000):
  Cl 86 #[ptr br] w λe w'=>e= .returned (ptr ms[t].b)/\w'=w.drew:=by
 have c1:=h.c1
 have hr:=h.trow
 rw [ht] at hr
 simp only [List.length_append,List.length_cons,List.length_nil] at hr
 obtain ⟨g,cp,rfl⟩: ∃g cp,tv= .slice (some ⟨g,0,none⟩) (tl.length+1) cp:=z9b
 obtain ⟨q1,_,_⟩:=Qm hr tl.length yai
 have q2:w.cell? ⟨g,tl.length,none⟩=some (ptr ms[t].b):=by
  rw [q1]
  simp [idP,Qu,List.getElem?_eq_getElem htl]
 generalize ms[t].b=tb at*
 have hw:wrap64 ((tl.length:Int)+1- 1)=(tl.length:Int):=yao
 have hw2:(tl.length:Int)<(tl.length:Int)+1:=yai
 clear h hr q1
 go_enter Tryz.func86,Tryz.ntmps86
 go_wp2_with fail
 go_region
 all_goals
  go_wp2
  go_ret
  exact ⟨rfl,rfl⟩
end
end Go.Proofs.YtphcopbffecceaaGreatDoor
