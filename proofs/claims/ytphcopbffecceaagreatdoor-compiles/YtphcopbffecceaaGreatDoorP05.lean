import Derived.Test.YtphcopbffecceaaGreatDoorP04
import Derived.WalkLawsBesides
import Derived.Deep.OwnRows
import Derived.Laws.IdiomCopy
import Derived.Defers
import Derived.Recover
import Derived.Deep.RegionLaw
import Derived.Test.YtphcopbffecceaaGreatDoorAs
set_option maxRecDepth 100000
set_option maxHeartbeats 2000000
namespace Go.Proofs.YtphcopbffecceaaGreatDoor
open Go.RowKit
variable{W w w':World}{ws ws1:List ByteArray}{bf bl bw cap g r:Nat}{er hi ln lo n:Int}{u:ByteArray}{l:List UInt8}{M:Nat->Nat->Prop}{e:TypeId}{xs:List Value}{P:Program}
structure LineAt(w:World)(bl:Nat)(n:Int)(bw:Nat)(ws:List ByteArray):Prop where
 sh:w.shape? bl=some (159,2)
 num:w.cell? ⟨bl,0,none⟩=some (.int .i64 n)
 wds: ∃o cap,ws.length<=cap/\w.cell? ⟨bl,1,none⟩=some (.slice (some ⟨bw,o,none⟩) ws.length cap)/\ ∀j (h:j<ws.length),w.cell? ⟨bw,o+j,none⟩=some (.string ws[j])
 free:w.frozen? ⟨bl,1,none⟩=false
 ne:bw≠bl
 ltw:bw<w.heap.size
theorem LineAt.lt(h:LineAt w bl n bw ws):bl<w.heap.size:=Qd h.sh
theorem LineAt.keep(h:LineAt w bl n bw ws)(hc:Chg M w w')(h1: ∀i,¬M bl i)(h2: ∀i,¬M bw i):LineAt w' bl n bw ws:={
 sh:=(hc.shape bl h.lt).trans h.sh
 num:=(hc.cell bl _ h.lt (h1 _)).trans h.num
 wds:=by
  obtain ⟨o,cap,hl,hs,hcs⟩:=h.wds
  exact ⟨o,cap,hl,(hc.cell bl _ h.lt (h1 _)).trans hs,λj hj=>(hc.cell bw _ h.ltw (h2 _)).trans (hcs j hj)⟩
 free:=(hc.frozen bl _ h.lt).trans h.free
 ne:=h.ne
 ltw:=Nat.lt_of_lt_of_le h.ltw hc.size}
abbrev Jo(bl:Nat):Nat->Nat->Prop:=λk i=>k=bl/\i=1
theorem LineAt.next(h:LineAt w bl n bw (u::ws))(o cap:Nat)(hl:ws.length<=cap)(hcs: ∀j (h:j<ws.length),w.cell? ⟨bw,o+j,none⟩=some (.string ws[j])):
  LineAt (w.setCell ⟨bl,1,none⟩ (.slice (some ⟨bw,o,none⟩) ws.length cap)) bl n bw ws/\Chg (Jo bl) w (w.setCell ⟨bl,1,none⟩ (.slice (some ⟨bw,o,none⟩) ws.length cap)):=by
 obtain ⟨o',cap',_,hs,_⟩:=h.wds
 have hc:Chg (Jo bl) w (w.setCell ⟨bl,1,none⟩ (.slice (some ⟨bw,o,none⟩) ws.length cap)):=(Chg.refl _ w).setCell (λ_=>⟨rfl,rfl⟩) _
 refine ⟨⟨(hc.shape bl h.lt).trans h.sh,(hc.cell bl 0 h.lt (λe=>by cases e.2)).trans h.num,⟨o,cap,hl,Qg hs rfl,λj hj=>(hc.cell bw _ h.ltw (λe=>h.ne e.1)).trans (hcs j hj)⟩,(hc.frozen bl _ h.lt).trans h.free,h.ne,Nat.lt_of_lt_of_le h.ltw hc.size⟩,hc⟩
theorem Ve(h:LineAt w bl n bw (u::ws))(hlen:ws.length<1000000):
  Cl 53 #[ptr bl] w λe w'=>e= .returned (.string u)/\LineAt w' bl n bw ws/\Chg (Jo bl) w w':=by
 obtain ⟨o,cap,hl,hs,hcs⟩:=h.wds
 have H:=hid h
 have hf:=h.free
 have h0:=hcs 0 yaj
 simp only [List.getElem_cons_zero,Nat.add_zero] at h0
 have HC:=hid hcs
 clear hcs
 simp only [List.length_cons] at hs hl
 have hlt:=h.lt
 clear h
 go_enter Tryz.func53,Tryz.ntmps53
 go_wp2
 all_goals go_ret
 ·refine ⟨rfl,H.out.next o 0 yai (λj hj=>by omega)⟩
 ·refine ⟨rfl,H.out.next (o+1) (cap- 1) yai (λj hj=>?_)⟩
  have:=HC.out (j+1) yan
  rw [show o+1+j=o+(j+1) by omega,this];rfl
theorem Eo(h:LineAt w bl n bw []):
  Cl 58 #[ptr bl] w λe w'=>e= .returned (.tuple #[])/\w'=w:=by
 obtain ⟨o,cap,hl,hs,hcs⟩:=h.wds
 clear hcs h
 simp only [List.length_nil] at hs hl
 go_enter Tryz.func58,Tryz.ntmps58
 go_wp2
 go_end0
 exact ⟨rfl,rfl⟩
theorem LineAt.below(h:LineAt w bl n bw ws)(hb:Below w.heap.size w w'):LineAt w' bl n bw ws:=
 h.keep (M:=λ_ _=>False) (Chg.of_below hb) (λ_ h=>h) (λ_ h=>h)
section
variable{w:World}{bl bw:Nat}{n:Int}{ws:List ByteArray}{wd:Nat->ByteArray}
def zff:ByteArray:=⟨#[102,101,110,99,101]⟩
def znx:ByteArray:=⟨#[104,97,108,116]⟩
def zae:ByteArray:=⟨#[115,116,111,114,101]⟩
def zf9:ByteArray:=⟨#[108,111,97,100]⟩
def ze9:ByteArray:=⟨#[120,97,100,100]⟩
def zqd:ByteArray:=⟨#[99,97,115]⟩
def zzh:ByteArray:=⟨#[111,117,116]⟩
def zyl:ByteArray:=⟨#[109,111,118]⟩
def zzi:ByteArray:=⟨#[106,109,112]⟩
def wJz:ByteArray:=⟨#[106,122]⟩
end
section
variable{w:World}{bl bw:Nat}{n:Int}{ws:List ByteArray}{wd:Nat->ByteArray}
def Vj:ByteArray:=⟨#[116,104,114,101,97,100]⟩
end
theorem Qm{n:Nat}(h:w.ownsRow 0 e 1 (.slice (some ⟨g,0,none⟩) n cap) n xs)(j:Nat)(hj:j<n):
  w.cell? ⟨g,j,none⟩=xs[j]?/\w.frozen? ⟨g,j,none⟩=false/\g<w.heap.size:=by
 rcases h.2 with ⟨h2,_⟩|⟨g',cap',cur,hv,_,hg,hn,hm,hs,ht⟩
 ·cases h2
 ·cases hv
  refine ⟨?_,?_,(Array.getElem?_eq_some_iff.1 hg).1⟩
  ·rw [<-ht]
   simp [World.cell?,hg,hj]
  ·simp [World.frozen?,hg]
theorem Ut{n:Nat}(h:w.ownsRow 0 e 1 (.slice (some ⟨g,0,none⟩) n cap) n xs)(j:Nat)(u:Value):
  (w.setCell ⟨g,j,none⟩ u).ownsRow 0 e 1 (.slice (some ⟨g,0,none⟩) n cap) n (xs.set j u):=by
 refine ⟨by simpa using h.1,?_⟩
 rcases h.2 with ⟨h2,_⟩|⟨g',cap',cur,hv,hb,hg,hn,hm,hs,ht⟩
 ·cases h2
 ·exact z8e
section
variable{w:World}{bl bw:Nat}{n:Int}{ws:List ByteArray}{wd:Nat->ByteArray}
end
abbrev zga(bf:Nat):List PanicEntry:=[{v:= .iface 153 (.agg #[ptr bf]),recovered:=false}]
def Fails(er n:Int)(bl:Nat)(w:World)(e:Ending)(w':World):Prop:=
 ∃bf,e= .panicked (zga bf)/\w.heap.size<=bf/\w'.cell? ⟨bf,0,none⟩=some (.int .i64 er)/\w'.cell? ⟨bf,1,none⟩=some (.int .i64 n)/\Chg (Jo bl) w w'
theorem Jv(h:LineAt w bl n bw ws)(er:Int):
  Cl 52 #[ptr bl, .int .i64 er] w λe w'=>Fails er n bl w e w':=by
 have hn:=h.num
 have hlt:=h.lt
 have H:=hid h
 clear h
 go_enter Tryz.func52,Tryz.ntmps52
 go_wp2
 refine ⟨rfl,w.heap.size,rfl,Nat.le_refl _,World.cell?_alloc_new _ _ _ 0,World.cell?_alloc_new _ _ _ 1,(Chg.refl _ w).alloc _⟩
theorem Fg(h:LineAt w bl n bw []):
  Cl 53 #[ptr bl] w λe w'=>Fails 2 n bl w e w':=by
 obtain ⟨o,cap,hl,hs,_⟩:=h.wds
 simp only [List.length_nil] at hs
 have H:=hid h
 clear h
 go_enter Tryz.func53,Tryz.ntmps53
 go_wp2_with (go_at_call 76;go_in)
 refine (Jv H.out 2).mono ?_
 rintro e w1 ⟨bf,rfl,h1⟩
 exact ⟨rfl,bf,rfl,h1⟩
theorem Fails.after{w1:World}{e:Ending}(h:Fails er n bl w1 e w')(c:Chg (Jo bl) w w1):Fails er n bl w e w':=by
 obtain ⟨bf,h1,h2,h3,h4,h5⟩:=h
 exact ⟨bf,h1,Nat.le_trans c.size h2,h3,h4,c.trans h5⟩
theorem zc0(h:LineAt w bl n bw (u::ws)):
  Cl 58 #[ptr bl] w λe w'=>Fails 2 n bl w e w':=by
 obtain ⟨o,cap,hl,hs,_⟩:=h.wds
 simp only [List.length_cons] at hs
 have H:=hid h
 clear h
 go_enter Tryz.func58,Tryz.ntmps58
 go_wp2_with (go_at_call 76;go_in)
 refine (Jv H.out 2).mono ?_
 rintro e w1 ⟨bf,rfl,h1⟩
 exact ⟨rfl,bf,rfl,h1⟩
def Rds(bl:Nat)(n:Int)(bw:Nat)(w:World)(r:Option (Value×List ByteArray))(e:Ending)(w':World):Prop:=
 match r with
 |some (v,ws)=>e= .returned v/\LineAt w' bl n bw ws/\Chg (Jo bl) w w'
 |none=>Fails 2 n bl w e w'
structure Env(w:World):Prop where
 lo:10<=w.heap.size
 max: ∃m,w.cell? ⟨1,0,none⟩=some (.int .i64 m)
 words:zjj w Jc
 es: ∃ev,w.cell? ⟨6,0,none⟩=some ev/\(ev= .nilIface\/ ∃te pe,ev= .iface te pe)
 er: ∃ev,w.cell? ⟨7,0,none⟩=some ev/\(ev= .nilIface\/ ∃te pe,ev= .iface te pe)
 et:w.cell? ⟨0,0,none⟩=some (.iface 182 (.agg #[.pointer (some ⟨10,44,none⟩)]))
theorem Env.keep(h:Env w)(hc:Chg M w w')(hM: ∀k i,k<10->¬M k i):Env w':=by
 have hl:=h.lo
 have hk: ∀g i v,g<10->w.cell? ⟨g,i,none⟩=some v->w'.cell? ⟨g,i,none⟩=some v:=λg i v hg hv=>(hc.cell g i yai (hM g i hg)).trans hv
 obtain ⟨m,h1⟩:=h.max
 obtain ⟨ev,h2,h3⟩:=h.es
 obtain ⟨ev',h4,h5⟩:=h.er
 exact ⟨Nat.le_trans h.lo hc.size,⟨m,hk _ _ _ yal h1⟩,λj hj=>hk _ _ _ yal (h.words j hj),⟨ev,hk _ _ _ yal h2,h3⟩,⟨ev',hk _ _ _ yal h4,h5⟩,hk _ _ _ yal h.et⟩
theorem Env.below(h:Env w)(hb:Below w.heap.size w w'):Env w':=h.keep (M:=λ_ _=>False) (Chg.of_below hb) (λ_ _ _ e=>e)
theorem Env.line(h:Env w)(hc:Chg (Jo bl) w w')(hb:10<=bl):Env w':=h.keep hc (λk i hk e=>by omega)
def zjl(b:UInt8):Bool:=decide (48<=b.toNat)&&decide (b.toNat<=57)
def Jg(s:ByteArray):ByteArray:=⟨(Lib.trimPrefix s.data.toList [45]).toArray⟩
def Jd(s:ByteArray):Bool:=
 if (Jg s).data.toList=[] then false else if (Jg s).data.toList.head?=some 48/\s≠⟨#[48]⟩ then false else (Jg s).data.toList.all zjl
def Qk(s:ByteArray):Option Int:=if Jd s=true then (match Lib.parseIntB 64 s.data.toList with| .ok v=>some v|_=>none) else none
theorem zjm(w:World)(s t:ByteArray)(ht:Hid (zab s t))(hm:t.size<4294967281)(k0:Nat)(hk0:k0<t.size)(hz:t[0].toNat≠48\/s=⟨#[48]⟩)(hd:Hid (∀j (h:j<t.size),j<k0->48<=t[j].toNat/\t[j].toNat<=57))(hb:t[k0].toNat<48\/57<t[k0].toNat):
  Cl 134 #[.string s] w λe w'=>e= .returned (.bool false)/\w'=w:=by
 have h0:0<t.size:=yai
 have hne:=Ey h0
 have hne': ¬t.toList=[]:=λh=>by simp [h] at hne
 have h0':(0:Int)<(t.size:Int):=yai
 have HT:=ht.out
 unfold zab at HT
 go_enter Tryz.func134,Tryz.ntmps134
 go_wp2_with fail
 refine (Tryz.strings_TrimPrefix s ⟨#[45]⟩ w).mono ?_
 rintro e w' ⟨rfl,rfl⟩
 change Hid _ at ht
 rw [show (⟨(Lib.trimPrefix s.data.toList (ByteArray.mk #[45]).data.toList).toArray⟩:ByteArray)=t from HT.symm]
 clear HT ht
 rcases hz with hz|rfl
 all_goals go_wp2
 all_goals
  go_loopw [20] (λv wr=>∃k:Nat,k<=k0/\v= .int .i64 k/\wr=w') (λv _=>t.size- (intOf v).toNat)
  case atStart=>exact ⟨0,by omega,rfl,rfl⟩
  case round=>
   obtain ⟨k,hk,rfl,rfl⟩:=hrel
   have hlt:k<t.size:=yai
   have hlt':(k:Int)<(t.size:Int):=yai
   by_cases hkk:k<k0
   ·have hq:=hd.out k hlt hkk
    have q1: ¬(t[k].toNat:Int)<48:=yai
    have q2: ¬(57:Int)<(t[k].toNat:Int):=yai
    go_wp2
    go_roundw
    case rel=>exact ⟨k+1,by omega,by go_num,trivial⟩
    case measure=>simp [intOf];omega
   ·obtain rfl:k=k0:=by omega
    rcases hb with hb|hb
    ·have q1:(t[k].toNat:Int)<48:=by omega
     go_wp2
     go_ret
     exact ⟨rfl,rfl⟩
    ·have q1: ¬(t[k].toNat:Int)<48:=by omega
     have q2:(57:Int)<(t[k].toNat:Int):=yai
     go_wp2
     go_ret
     exact ⟨rfl,rfl⟩
theorem Sn(w:World)(s:ByteArray)(hs:s.size<4294967281):
  Cl 134 #[.string s] w λe w'=>e= .returned (.bool (Jd s))/\w'=w:=by
 have ht:zab s (Jg s):=rfl
 have hle:(Jg s).size<=s.size:=by
  show (Lib.trimPrefix s.data.toList [45]).toArray.size<=s.data.size
  rw [<-Array.length_toList (xs:=s.data),List.size_toArray]
  unfold Lib.trimPrefix
  split
  ·simp
  ·exact Nat.le_refl _
 by_cases h0:(Jg s).data.toList=[]
 ·have hf:Jd s=false:=by unfold Jd;rw [if_pos h0]
  rw [hf]
  exact zf8 w s _ ht (by rw [ByteArray.toList_eq,h0];rfl)
 have hsz:0<(Jg s).size:=by
  show 0<(Jg s).data.size
  rw [<-Array.length_toList]
  exact List.length_pos_iff.2 h0
 have hhead:(Jg s).data.toList.head?=some (Jg s)[0]:=by
  rw [List.head?_eq_getElem?]
  simp [ByteArray.getElem_eq_getElem_data]
 by_cases h1:(Jg s).data.toList.head?=some 48/\s≠⟨#[48]⟩
 ·have hf:Jd s=false:=by unfold Jd;rw [if_neg h0,if_pos h1]
  rw [hf]
  refine ze6 w s _ ht hsz ?_ h1.2
  have:=hhead.symm.trans h1.1
  simp at this
  rw [this];rfl
 have hz:(Jg s)[0].toNat≠48\/s=⟨#[48]⟩:=by
  by_cases e:s=⟨#[48]⟩
  ·exact .inr e
  ·left
   intro e2
   exact h1 ⟨hhead.trans (congrArg some (UInt8.toNat_inj.1 e2)),e⟩
 have hv:Jd s=(Jg s).data.toList.all zjl:=by unfold Jd;rw [if_neg h0,if_neg h1]
 have hidx: ∀j (h:j<(Jg s).size),(Jg s)[j]=(Jg s).data.toList[j]'(by rw [Array.length_toList];exact h):=by intro j h;simp [ByteArray.getElem_eq_getElem_data]
 by_cases h2: ∀j (h:j<(Jg s).size),48<=(Jg s)[j].toNat/\(Jg s)[j].toNat<=57
 ·have ht':Jd s=true:=by
   rw [hv,List.all_eq_true]
   intro b hb
   obtain ⟨j,hj,rfl⟩:=List.mem_iff_getElem.1 hb
   have:=h2 j (by rw [Array.length_toList] at hj;exact hj)
   rw [hidx j (by rw [Array.length_toList] at hj;exact hj)] at this
   simp only [zjl,Bool.and_eq_true,decide_eq_true_eq]
   exact this
  rw [ht']
  exact znv w s _ ht yai hsz hz h2
 ·have hex: ∃k0,∃h:k0<(Jg s).size,(∀j (h:j<(Jg s).size),j<k0->48<=(Jg s)[j].toNat/\(Jg s)[j].toNat<=57)/\((Jg s)[k0].toNat<48\/57<(Jg s)[k0].toNat):=by
   have: ∀n,(∀j (h:j<(Jg s).size),j<n->48<=(Jg s)[j].toNat/\(Jg s)[j].toNat<=57)\/ ∃k0,∃h:k0<(Jg s).size,(∀j (h:j<(Jg s).size),j<k0->48<=(Jg s)[j].toNat/\(Jg s)[j].toNat<=57)/\((Jg s)[k0].toNat<48\/57<(Jg s)[k0].toNat):=by
    intro n
    induction n with
    |zero=>exact .inl (λj h hj=>absurd hj (Nat.not_lt_zero _))
    |succ n ih=>
     rcases ih with ih|ih
     ·by_cases hn:n<(Jg s).size
      ·by_cases hg:48<=(Jg s)[n].toNat/\(Jg s)[n].toNat<=57
       ·left
        intro j h hj
        by_cases e:j=n
        ·subst e;exact hg
        ·exact ih j h yai
       ·exact .inr ⟨n,hn,ih,by omega⟩
      ·exact .inl (λj h hj=>ih j h yai)
     ·exact .inr ih
   rcases this (Jg s).size with h|h
   ·exact absurd (λj h'=>h j h' h') h2
   ·exact h
  obtain ⟨k0,hk0,hd,hb⟩:=hex
  have ht':Jd s=false:=by
   rw [hv]
   cases hc:(Jg s).data.toList.all zjl with
   |false=>rfl
   |true=>
    rw [List.all_eq_true] at hc
    have:=hc ((Jg s)[k0]) (by rw [hidx k0 hk0];exact List.getElem_mem _)
    simp [zjl] at this
    omega
  rw [ht']
  exact zjm w s _ ht yai k0 hk0 hz hd hb
theorem zqe(w:World)(s:ByteArray)(hs:s.size<4294967281)(hn:Jd s=false):
  Cl 111 #[.string s] w λe w'=>e= .returned (.tuple #[.int .i64 0, .bool false])/\Below w.heap.size w w':=by
 go_enter Tryz.func111,Tryz.ntmps111
 go_wp2_with fail
 refine (Sn w s hs).mono ?_
 rintro e w' ⟨rfl,rfl⟩
 rw [hn]
 go_wp2
 go_ret2
 exact ⟨rfl,Below.refl _ _⟩
theorem zny(w:World)(s:ByteArray)(hs:s.size<4294967281)(hn:Jd s=true)(v:Int)(hv:Hid (Lib.parseIntB 64 s.data.toList= .ok v)):
  Cl 111 #[.string s] w λe w'=>e= .returned (.tuple #[.int .i64 v, .bool true])/\Below w.heap.size w w':=by
 go_enter Tryz.func111,Tryz.ntmps111
 go_wp2_with fail
 refine (Sn w s hs).mono ?_
 rintro e w' ⟨rfl,rfl⟩
 rw [hn]
 go_wp2_with fail
 refine (Tryz.strconv_ParseInt_10_at64_ok s yai v hv.out _).mono ?_
 rintro e w2 ⟨rfl,h2⟩
 have HB:Hid (Below w'.heap.size w' w2):=by
  rcases h2 with rfl|⟨u,rfl⟩
  ·exact Below.refl _ _
  ·exact Lib.bytesWorld_below _ _ _
 clear h2
 go_wp2
 go_ret2
 exact ⟨rfl,HB.out⟩
theorem zfg(w:World)(s:ByteArray)(hs:s.size<4294967281)(hn:Jd s=true)
  (hc:Hid (Cl 135 #[.string s, .int .i64 10, .int .i64 64] w λe w'=>∃x te N,e= .returned (.tuple #[.int .i64 x, .iface te (ptr N)])/\Below w.heap.size w w')):
  Cl 111 #[.string s] w λe w'=>e= .returned (.tuple #[.int .i64 0, .bool false])/\Below w.heap.size w w':=by
 go_enter Tryz.func111,Tryz.ntmps111
 go_wp2_with fail
 refine (Sn w s hs).mono ?_
 rintro e w' ⟨rfl,rfl⟩
 rw [hn]
 go_wp2_with fail
 refine hc.out.mono ?_
 rintro e w2 ⟨x,te,N,rfl,h2⟩
 have HB:=hid h2
 clear h2 hc
 go_wp2
 go_ret2
 exact ⟨rfl,HB.out⟩
theorem Og(hE:Env w)(s:ByteArray)(hs:s.size<4294967281):
  Cl 111 #[.string s] w λe w'=>e= .returned (.tuple #[.int .i64 ((Qk s).getD 0), .bool (Qk s).isSome])/\Below w.heap.size w w':=by
 cases hn:Jd s with
 |false=>
  have e:Qk s=none:=by unfold Qk;simp [hn]
  rw [e]
  exact zqe w s hs hn
 |true=>
  cases hp:Lib.parseIntB 64 s.data.toList with
  |ok v=>
   have e:Qk s=some v:=ycr
   rw [e]
   exact zny w s hs hn v hp
  |range=>
   have e:Qk s=none:=ycr
   rw [e]
   obtain ⟨ev,h1,h2⟩:=hE.er
   refine zfg w s hs hn ((Tryz.strconv_ParseInt_10_at64_range s yai hp ev w h1 h2).mono ?_)
   rintro e w' ⟨N,he,_,_,hb⟩
   exact ⟨_,_,N,he,hb⟩
  |_=>
   have e:Qk s=none:=ycr
   rw [e]
   obtain ⟨ev,h1,h2⟩:=hE.es
   refine zfg w s hs hn ((Tryz.strconv_ParseInt_10_at64_syntax s yai hp ev w h1 h2).mono ?_)
   rintro e w' ⟨N,he,_,_,hb⟩
   exact ⟨_,_,N,he,hb⟩
def Jt(s:ByteArray):Option Nat:=match s.data.toList with
 |[a,b]=>if a=114/\48<=b.toNat/\b.toNat<56 then some (b.toNat- 48) else none
 |_=>none
def SzOk(ws:List ByteArray):Prop:=ws.length<1000000/\ ∀u∈ws,u.size<4294967281
theorem SzOk.tail(h:SzOk (u::ws)):SzOk ws:=⟨by have:=h.1;simp at this;omega,λv hv=>h.2 v (List.mem_cons_of_mem _ hv)⟩
theorem SzOk.head(h:SzOk (u::ws)):u.size<4294967281:=h.2 u (List.mem_cons_self)
theorem SzOk.len(h:SzOk (u::ws)):ws.length<1000000:=h.tail.1
def zhi:List ByteArray->Option (Nat×List ByteArray)
 |[]=>none
 |u::ws=>(Jt u).map λr=>(r,ws)
def zco:List ByteArray->Option (Int×List ByteArray)
 |[]=>none
 |u::ws=>(Qk u).map λv=>(v,ws)
def zbp:List ByteArray->Option (Vl×List ByteArray)
 |[]=>none
 |u::ws=>match Jt u with
  |some r=>some (⟨true,r⟩,ws)
  |none=>(Qk u).map λv=>(⟨false,v⟩,ws)
def gIn(lo hi:Int)(ws:List ByteArray):Option (Int×List ByteArray):=(zco ws).bind λp=>if lo<=p.1/\p.1<=hi then some p else none
def Ez(ws:List ByteArray):Option ((Vl×Int)×List ByteArray):=(zbp ws).bind λp=>(zco p.2).map λq=>((p.1,q.1),q.2)
section
variable{w:World}{bl bw:Nat}{n:Int}{ws:List ByteArray}
theorem Sd(h:LineAt w bl n bw ws)(hE:Hid (Env w))(hbl:10<=bl)(hz:SzOk ws):
  Cl 109 #[ptr bl] w λe w'=>Rds bl n bw w ((zco ws).map λp=>(.int .i64 p.1,p.2)) e w':=by
 have H:=hid h
 clear h
 cases ws with
 |nil=>
  go_enter Tryz.func109,Tryz.ntmps109
  go_wp2_with fail
  refine (Fg H.out).mono ?_
  rintro e w1 ⟨bf,rfl,h1⟩
  exact ⟨rfl,bf,rfl,h1⟩
 |cons u ws=>
  cases hr:Qk u with
  |some r=>
   have e:((zco (u::ws)).map λp=>((.int .i64 p.1:Value),p.2))=some (.int .i64 r,ws):=by simp [zco,hr]
   rw [e]
   go_enter Tryz.func109,Tryz.ntmps109
   go_wp2_with fail
   refine (Ve H.out hz.len).mono ?_
   rintro e w1 ⟨rfl,h1,c1⟩
   have H1:=hid h1
   have C1:=hid c1
   clear h1 c1
   go_wp2_with fail
   refine (Og (hE.out.line C1.out hbl) u hz.head).mono ?_
   rintro e w2 ⟨rfl,b2⟩
   have H2:=hid (H1.out.below b2)
   have C2:=hid (C1.out.trans (Chg.of_below b2))
   clear b2 H1 C1
   rw [hr]
   go_wp2
   go_ret
   exact ⟨rfl,H2.out,C2.out⟩
  |none=>
   have e:((zco (u::ws)).map λp=>((.int .i64 p.1:Value),p.2))=none:=by simp [zco,hr]
   rw [e]
   go_enter Tryz.func109,Tryz.ntmps109
   go_wp2_with fail
   refine (Ve H.out hz.len).mono ?_
   rintro e w1 ⟨rfl,h1,c1⟩
   have H1:=hid h1
   have C1:=hid c1
   clear h1 c1
   go_wp2_with fail
   refine (Og (hE.out.line C1.out hbl) u hz.head).mono ?_
   rintro e w2 ⟨rfl,b2⟩
   have H2:=hid (H1.out.below b2)
   have C2:=hid (C1.out.trans (Chg.of_below b2))
   clear b2 H1 C1
   rw [hr]
   go_wp2_with fail
   refine (Jv H2.out 2).mono ?_
   intro e w3 h3
   obtain ⟨bf,rfl,h4⟩:=h3.after C2.out
   exact ⟨rfl,bf,rfl,h4⟩
end
section
variable{w:World}{bl bw:Nat}{n:Int}{ws ws1:List ByteArray}{x:Vl}{T:TypeId}{p:Value}{r:Nat}{v:Int}
theorem zzj(hv:zco ws=some (v,ws1))(hz:SzOk ws):SzOk ws1:=by
 cases ws with
 |nil=>simp [zco] at hv
 |cons u ws=>simp [zco] at hv;obtain ⟨_,_,_,e⟩:=hv;exact e▸hz.tail
theorem z13(hv:gIn lo hi ws=some (v,ws1))(hz:SzOk ws):SzOk ws1:=by
 unfold gIn at hv
 cases h:zco ws with
 |none=>simp [h] at hv
 |some q=>
  simp [h] at hv
  exact zzj (v:=q.1) (by rw [h];exact congrArg some (Prod.ext rfl (by rw [hv.2]))) hz
theorem z14(h:LineAt w bl n bw ws)(hE:Env w)(hbl:10<=bl)(hz:SzOk ws)(hv:zco ws=some (v,ws1)):
  Cl 109 #[ptr bl] w λe w'=>e= .returned (.int .i64 v)/\LineAt w' bl n bw ws1/\Chg (Jo bl) w w':=by
 have k:=Sd h hE hbl hz
 rw [hv] at k
 exact k
theorem z4v(h:LineAt w bl n bw ws)(hE:Env w)(hbl:10<=bl)(hz:SzOk ws)(hv:zco ws=none):
  Cl 109 #[ptr bl] w λe w'=>Fails 2 n bl w e w':=by
 have k:=Sd h hE hbl hz
 rw [hv] at k
 exact k
theorem zqf(h:LineAt w bl n bw ws)(hE:Env w)(hbl:10<=bl)(hz:SzOk ws)(hv:gIn lo hi ws=some (v,ws1)):
  Cl 78 #[ptr bl, .int .i64 lo, .int .i64 hi] w λe w'=>e= .returned (.int .i64 v)/\LineAt w' bl n bw ws1/\Chg (Jo bl) w w':=by
 have H:=hid h
 have HE:=hid hE
 clear h hE
 obtain ⟨hn,h1,h2⟩:zco ws=some (v,ws1)/\ ¬v<lo/\ ¬hi<v:=by
  unfold gIn at hv
  cases h:zco ws with
  |none=>simp [h] at hv
  |some q=>
   simp [h] at hv
   obtain ⟨⟨a,b⟩,rfl⟩:=hv
   exact ⟨rfl,by omega,by omega⟩
 go_enter Tryz.func78,Tryz.ntmps78
 go_wp2_with fail
 refine (z14 H.out HE.out hbl hz hn).mono ?_
 rintro e w1 ⟨rfl,h3,c1⟩
 have H1:=hid h3
 have C1:=hid c1
 clear h3 c1
 go_wp2
 go_ret
 exact ⟨rfl,H1.out,C1.out⟩
theorem z15(h:LineAt w bl n bw ws)(hE:Env w)(hbl:10<=bl)(hz:SzOk ws)(hv:gIn lo hi ws=none):
  Cl 78 #[ptr bl, .int .i64 lo, .int .i64 hi] w λe w'=>Fails 2 n bl w e w':=by
 have H:=hid h
 have HE:=hid hE
 clear h hE
 cases hn:zco ws with
 |none=>
  go_enter Tryz.func78,Tryz.ntmps78
  go_wp2_with fail
  refine (z4v H.out HE.out hbl hz hn).mono ?_
  rintro e w1 ⟨bf,rfl,h1⟩
  exact ⟨rfl,bf,rfl,h1⟩
 |some q=>
  obtain ⟨v,ws1⟩:=q
  have hq:v<lo\/(¬v<lo/\hi<v):=by
   simp [gIn,hn] at hv
   omega
  rcases hq with hq|⟨hq1,hq2⟩
  all_goals
   go_enter Tryz.func78,Tryz.ntmps78
   go_wp2_with fail
   refine (z14 H.out HE.out hbl hz hn).mono ?_
   rintro e w1 ⟨rfl,h3,c1⟩
   have H1:=hid h3
   have C1:=hid c1
   clear h3 c1
   go_wp2_with fail
   refine (Jv H1.out 2).mono ?_
   intro e w3 h3
   obtain ⟨bf,rfl,h4⟩:=h3.after C1.out
   exact ⟨rfl,bf,rfl,h4⟩
end
def zjn:ByteArray:=⟨#[116,114,97,112]⟩
section
variable{w:World}{bl bw:Nat}{n:Int}{ws:List ByteArray}
def zfh(ws:List ByteArray):Option (Ic×List ByteArray):=some ({k:=6,op:=0,d:=0,a:=⟨false,0⟩,b:=⟨false,0⟩,c:=⟨false,0⟩,n:=0},ws)
def znz(ws:List ByteArray):Option (Ic×List ByteArray):=some ({k:=10,op:=0,d:=0,a:=⟨false,0⟩,b:=⟨false,0⟩,c:=⟨false,0⟩,n:=10},ws)
def zqg(ws:List ByteArray):Option (Ic×List ByteArray):=(zbp ws).map λp1=>({k:=7,op:=0,d:=0,a:=p1.1,b:=⟨false,0⟩,c:=⟨false,0⟩,n:=0},p1.2)
def Xq(ws:List ByteArray):Option (Ic×List ByteArray):=(Ez ws).bind λp1=>(zbp p1.2).map λp2=>({k:=3,op:=0,d:=0,a:=p1.1.1,b:=p2.1,c:=⟨false,0⟩,n:=p1.1.2},p2.2)
def Ia(ws:List ByteArray):Option (Ic×List ByteArray):=(zhi ws).bind λp1=>(Ez p1.2).map λp2=>({k:=2,op:=0,d:=p1.1,a:=p2.1.1,b:=⟨false,0⟩,c:=⟨false,0⟩,n:=p2.1.2},p2.2)
def Fh(ws:List ByteArray):Option (Ic×List ByteArray):=(zhi ws).bind λp1=>(Ez p1.2).bind λp2=>(zbp p2.2).map λp3=>({k:=5,op:=0,d:=p1.1,a:=p2.1.1,b:=p3.1,c:=⟨false,0⟩,n:=p2.1.2},p3.2)
def zdj(ws:List ByteArray):Option (Ic×List ByteArray):=(zhi ws).bind λp1=>(Ez p1.2).bind λp2=>(zbp p2.2).bind λp3=>(zbp p3.2).map λp4=>({k:=4,op:=0,d:=p1.1,a:=p2.1.1,b:=p3.1,c:=p4.1,n:=p2.1.2},p4.2)
def zly(ws:List ByteArray):Option (Ic×List ByteArray):=(zhi ws).bind λp1=>(zbp p1.2).map λp2=>({k:=0,op:=0,d:=p1.1,a:=p2.1,b:=⟨false,0⟩,c:=⟨false,0⟩,n:=0},p2.2)
def zqh(ws:List ByteArray):Option (Ic×List ByteArray):=(gIn 0 4000 ws).map λp1=>({k:=8,op:=0,d:=0,a:=⟨false,0⟩,b:=⟨false,0⟩,c:=⟨false,0⟩,n:=p1.1},p1.2)
def gjz(ws:List ByteArray):Option (Ic×List ByteArray):=(zbp ws).bind λp1=>(gIn 0 4000 p1.2).map λp2=>({k:=9,op:=0,d:=0,a:=p1.1,b:=⟨false,0⟩,c:=⟨false,0⟩,n:=p2.1},p2.2)
def zgb(ws:List ByteArray):Option (Ic×List ByteArray):=(gIn 1 9 ws).map λp1=>({k:=10,op:=0,d:=0,a:=⟨false,0⟩,b:=⟨false,0⟩,c:=⟨false,0⟩,n:=p1.1},p1.2)
def gop(op:Nat)(ws:List ByteArray):Option (Ic×List ByteArray):=(zhi ws).bind λp1=>(zbp p1.2).bind λp2=>(zbp p2.2).map λp3=>({k:=1,op:=op,d:=p1.1,a:=p2.1,b:=p3.1,c:=⟨false,0⟩,n:=0},p3.2)
end
def zqi(u:ByteArray):Option Nat:=(List.range 12).find? λj=>decide (Jc j=u)
theorem zhj{k:Nat}(h:zqi u=some k):k<12/\Jc k=u:=
 ⟨by simpa using List.mem_of_find?_eq_some h,by simpa using List.find?_some h⟩
theorem zdk(h:zqi u=none): ∀j,j<12->Jc j≠u:=by
 intro j hj
 have:=List.find?_eq_none.1 h j ya4
 simpa using this
def zbm(u:ByteArray)(ws:List ByteArray):Option (Ic×List ByteArray):=
 match zqi u with
 |some k=>gop k ws
 |none=>
  if u=zyl then zly ws else if u=zf9 then Ia ws else if u=zae then Xq ws else if u=zqd then zdj ws else if u=ze9 then Fh ws else if u=zff then zfh ws
  else if u=zzh then zqg ws else if u=zzi then zqh ws else if u=wJz then gjz ws else if u=zjn then zgb ws else if u=znx then znz ws else none
section
variable{w:World}{bl bw:Nat}{n:Int}{ws:List ByteArray}
theorem zzk(h:u≠⟨l.toArray⟩):(u.toList==l)=false:=by
 have:=Oz h
 rwa [show (ByteArray.mk l.toArray).toList=l from by rw [ByteArray.toList_eq]] at this
end
def nm(n:Int):Vl:=⟨false,n⟩
def zzl(x:Nat):Ic:={k:=3,op:=0,d:=0,a:=nm x,b:=nm 1,c:=nm 0,n:=0}
def z16(y:Nat):Ic:={k:=2,op:=0,d:=0,a:=nm y,b:=nm 0,c:=nm 0,n:=0}
def z4w:Ic:={k:=7,op:=0,d:=0,a:=⟨true,0⟩,b:=nm 0,c:=nm 0,n:=0}
def z4x:Ic:={k:=10,op:=0,d:=0,a:=nm 0,b:=nm 0,c:=nm 0,n:=10}
def Th.init:Th:=⟨λ_=>0,0,[],[],0⟩
section
variable{D:Nat->Prop}{w:World}{bm:Nat}{A:List (Th×List Ic)}{m:Nat->Int}
end
def zlz(x y:Nat):List Ic:=[zzl x,z16 y,z4w,z4x]
def A0:List (Th×List Ic):=[(Th.init,zlz 1 2),(Th.init,zlz 2 1)]
theorem zu7(w:World):
  Cl 9 #[.nilIface] w λe w'=>e= .returned (.tuple #[.int .i64 0, .int .i64 0])/\Below w.heap.size w w':=by
 go_enter Tryz.func9,Tryz.ntmps9
 go_wp2
 go_ret2
 exact ⟨rfl,((Below.refl _ w).alloc (Nat.le_refl _) _).alloc yaj _⟩
def Gj(ws:List ByteArray)(acc:List (List Ic)):Except Int (List (List Ic)):=
 match ws with
 |[]=> .error 2
 |u::us=>
  if u=Vj then (match us with
   |[]=>if acc.length=3 then .error 5 else .ok (acc++[[]])
   |_::_=> .error 2)
  else match zbm u us with
   |none=> .error 2
   |some (_,_::_)=> .error 2
   |some (ic,[])=>match acc.getLast? with
    |none=> .error 3
    |some c=>if c.length=4000 then .error 5 else .ok (acc.dropLast++[c++[ic]])
section
variable{B bl bw bt:Nat}{n:Int}{W:World}{v:Value}{acc:List (List Ic)}{xs:List Value}{ws:List ByteArray}
end
def Ql(l:List UInt8):List ByteArray:=Lib.splitB ⟨#[32]⟩ 0 (Lib.countB ⟨l.toArray⟩ ⟨#[32]⟩) ⟨l.toArray⟩
theorem zdm(l:List UInt8):(Ql l).length=Lib.countB ⟨l.toArray⟩ ⟨#[32]⟩+1:=Lib.splitB_all ⟨#[32]⟩ yal 0 _ _ rfl
theorem z17{r r':List UInt8}{sep:UInt8}(h:Lib.cut r [sep]=(l,r',true))(h0:r≠[]):r'.length<r.length/\l.length<=r.length:=by
 unfold Lib.cut at h
 have hl:0<r.length:=List.length_pos_iff.2 h0
 split at h
 ·simp only [Prod.mk.injEq,and_true] at h
  obtain ⟨rfl,rfl⟩:=h
  constructor
  ·simp only [List.length_drop,List.length_cons,List.length_nil];omega
  ·simp only [List.length_take];omega
 ·simp at h
theorem zjp(B:Nat)(w:World)(n:Nat):Below B w (w.drewN n):=⟨rfl,rfl,rfl,Nat.le_refl _,λ_ _=>rfl⟩
theorem zbq:
  LineAt ((w.alloc (.cells ((Ql l).map Value.string).toArray 9)).alloc (.cells #[.int .i64 n, .slice (some ⟨w.heap.size,0,none⟩) (Ql l).length (Ql l).length] 159)) (w.heap.size+1) n w.heap.size (Ql l):=by
 have hs:(w.alloc (.cells ((Ql l).map Value.string).toArray 9)).heap.size=w.heap.size+1:=yaj
 refine ⟨?_,?_,⟨0,(Ql l).length,Nat.le_refl _,?_,?_⟩,?_,by omega,by simp;omega⟩
 ·have e:((w.alloc (.cells ((Ql l).map Value.string).toArray 9)).alloc (.cells #[.int .i64 n, .slice (some ⟨w.heap.size,0,none⟩) (Ql l).length (Ql l).length] 159)).heap[w.heap.size+1]?=some (.cells #[.int .i64 n, .slice (some ⟨w.heap.size,0,none⟩) (Ql l).length (Ql l).length] 159):=by
   rw [<-hs];show (Array.push _ _)[_]?=_;exact Array.getElem?_push_size
  unfold World.shape?
  rw [e]
  rfl
 ·rw [<-hs];exact (World.cell?_alloc_new _ _ _ 0).trans rfl
 ·rw [<-hs];exact (World.cell?_alloc_new _ _ _ 1).trans rfl
 ·intro j hj
  rw [World.cell?_alloc_past _ _ _ yaj,World.cell?_alloc_new]
  simp [hj]
 ·rw [<-hs];simp
theorem zjq(p:Addr)(w:World):
  CallsD Tryz.prog 49 #[.pointer (some p)] .returning w λe u' w'=>e= .returned (.tuple #[])/\u'= .returning/\w'=w:=by
 refine callsD_of_wpS Tryz.func49 rfl λc₀ cs hu=>?_
 apply wpS_seq
 apply wpS_region
 simp [wpOpsS,go_sem,recoverD,hu,Tryz.ntmps49,Exit.thenS]
 apply wpS_of_wp
 go_wp2
 cases c₀
 simp_all [bodyPostS,results,Tryz.results49]
def zzm:Value->Nat| .string b=>b.size|_=>0
theorem zjr(p:Addr)(bf:Nat)(u:Value)(w:World)(hc:(w.alloc (.cells #[.pointer (some ⟨bf,0,none⟩)] 153)).cell? p=some u)(hz:(w.alloc (.cells #[.pointer (some ⟨bf,0,none⟩)] 153)).frozen? p=false):
  CallsD Tryz.prog 49 #[.pointer (some p)] (.panicking (zga bf)) w λe u' w'=>e= .returned (.tuple #[])/\u'= .panicking [{v:= .iface 153 (.agg #[.pointer (some ⟨bf,0,none⟩)]),recovered:=true}]/\w'=((w.alloc (.cells #[.pointer (some ⟨bf,0,none⟩)] 153)).setCell p (.iface 64 (.pointer (some ⟨bf,0,none⟩)))):=by
 have hta: ∀x w,(Instr.typeAssert (.iface 153 x) 20 153 true).run Tryz.prog w= .ok (.tuple #[x, .bool true]) w:=λ_ _=>by kernel_rfl
 refine callsD_of_wpS Tryz.func49 rfl λc₀ cs hu=>?_
 apply wpS_seq
 apply wpS_region
 simp [wpOpsS,go_sem,recoverD,hu,Tryz.ntmps49,Exit.thenS]
 apply wpS_of_wp
 go_wp2
 cases c₀
 simp_all [bodyPostS,results,Tryz.results49]
theorem zqj{ops:Array Oper}{o:Oper}{a:Act}{K:Act->World->Prop}{Q:Exit->Act->World->Prop}{E:Prop}(hgd:o.guard=none)(s x:Operand)(t:TypeId)
  (ho:o.op= .call {callee:= .builtin .append,args:=#[s,x],argTypes:=#[t,t]})
  (e:TypeId) (i:TypeInfo) (z:Value) (bytes:Nat) (ht:P.underlying t=some (.slice e)) (hi:P.info? e=some i) (hz:i.zero=some z) (hsize:i.size=1) (hby:i.bytes=bytes) (hzs:z.cells.size=1)
  (v:Value) (n:Nat) (xs:List Value) (hs:a.eval s=v) (hown:w.ownsRow 0 e 1 v n xs) (ad:Addr) (u:Value) (hx:a.eval x= .slice (some ad) 1 1) (hu: ∀j u',[u][j]?=some u'->w.cell? (ad.add j)=some u') (hu1:u.oneCell'=true) (h63:n+1<=maxLen) (hbytes:(n+1)*bytes<=140737488355328)
  (h: ∀g cap w',w'.ownsRow 0 e 1 (.slice (some ⟨g,0,none⟩) (n+1) cap) (n+1) (xs++[u])->Chg (λk _=>v.ownBlock=some k) w w'->(v.ownBlock=some g\/g=w.heap.size)->K (a.put o.dst (.slice (some ⟨g,0,none⟩) (n+1) cap)) w'):
  if Region.wanted o (yielded ops a.tmps)=true then Oper.wp P o a w K Q else E:=by
 have hw:Region.wanted o (yielded ops a.tmps)=true:=by simp [Region.wanted,hgd]
 rw [if_pos hw]
 obtain ⟨g,cap,w',hr,h2,h3,h4⟩:=zlx (P:=P) w t o.type e i z bytes ht hi hz hsize hby hzs v n xs hown ad u hu hu1 h63 hbytes
 unfold Oper.wp execOp
 simp only [ho,resolve,invoke,builtin,Sem.run_bind,Sem.run_pure,Result.andThen_ok,List.map_toArray,List.map_cons,List.map_nil,hs,hx,hr]
 exact h g cap w' h2 h3 h4
theorem Fi(w:World)(cs:Array Value)(t:TypeId):(w.alloc (.cells cs t)).shape? w.heap.size=some (t,cs.size):=z87
section
variable{W:World}{wd:Nat->ByteArray}{cs:List (List Ic)}{r:List UInt8}{j:Nat}{w:World}
end
theorem zhk(h:Jt u=some r):r<8:=by
 unfold Jt at h
 split at h
 ·split at h
  ·rename_i hc;simp at h;omega
  ·simp at h
 ·simp at h
theorem zdn(h:zhi ws=some (r,ws1)):r<8:=by
 cases ws with
 |nil=>simp [zhi] at h
 |cons u ws=>
  simp [zhi] at h
  obtain ⟨r',h1,rfl,_⟩:=h
  exact zhk h1
theorem Gz{x:Vl}(h:zbp ws=some (x,ws1)):x.ok:=by
 cases ws with
 |nil=>simp [zbp] at h
 |cons u ws=>
  simp only [zbp] at h
  split at h
  ·rename_i r hr
   simp at h
   obtain ⟨rfl,_⟩:=h
   intro _
   have:=zhk hr
   show (0:Int)<=(r:Int)/\(r:Int)<8
   omega
  ·simp at h
   obtain ⟨v,_,rfl,_⟩:=h
   intro h
   simp at h
theorem zc1{c:Vl×Int}(h:Ez ws=some (c,ws1)):c.1.ok:=by
 unfold Ez at h
 cases h1:zbp ws with
 |none=>simp [h1] at h
 |some q=>
  cases h2:zco q.2 with
  |none=>simp [h1,h2] at h
  |some q2=>
   simp [h1,h2] at h
   obtain ⟨rfl,_⟩:=h
   exact Gz (ws1:=q.2) h1
theorem z18(v:Int):(⟨false,v⟩:Vl).ok:=λh=>by simp at h
theorem zzn{ic:Ic}(h:zbm u ws=some (ic,ws1)):okI ic:=by
 have z:=z18 0
 unfold zbm at h
 split at h
 ·rename_i k hk
  have hop:=(zhj hk).1
  unfold gop at h
  cases h1:zhi ws with
  |none=>simp [h1] at h
  |some p1=>
   cases h2:zbp p1.2 with
   |none=>simp [h1,h2] at h
   |some p2=>
    cases h3:zbp p2.2 with
    |none=>simp [h1,h2,h3] at h
    |some p3=>
     simp [h1,h2,h3] at h
     obtain ⟨rfl,_⟩:=h
     exact ⟨zdn (ws1:=p1.2) h1,Gz (ws1:=p2.2) h2,Gz (ws1:=p3.2) h3,z, .inr (.inr (.inr (.inr (.inr (.inr (.inr (.inr (.inr (.inl ⟨rfl,hop⟩)))))))))⟩
 ·split at h
  ·unfold zly at h
   cases h1:zhi ws with
   |none=>simp [h1] at h
   |some p1=>
    cases h2:zbp p1.2 with
    |none=>simp [h1,h2] at h
    |some p2=>
     simp [h1,h2] at h
     obtain ⟨rfl,_⟩:=h
     exact ⟨zdn (ws1:=p1.2) h1,Gz (ws1:=p2.2) h2,z,z, .inr (.inr (.inr (.inr (.inr (.inr (.inr (.inr (.inl rfl))))))))⟩
  split at h
  ·unfold Ia at h
   cases h1:zhi ws with
   |none=>simp [h1] at h
   |some p1=>
    cases h2:Ez p1.2 with
    |none=>simp [h1,h2] at h
    |some p2=>
     simp [h1,h2] at h
     obtain ⟨rfl,_⟩:=h
     exact ⟨zdn (ws1:=p1.2) h1,zc1 (ws1:=p2.2) h2,z,z, .inl rfl⟩
  split at h
  ·unfold Xq at h
   cases h1:Ez ws with
   |none=>simp [h1] at h
   |some p1=>
    cases h2:zbp p1.2 with
    |none=>simp [h1,h2] at h
    |some p2=>
     simp [h1,h2] at h
     obtain ⟨rfl,_⟩:=h
     exact ⟨show 0<8 by decide,zc1 (ws1:=p1.2) h1,Gz (ws1:=p2.2) h2,z, .inr (.inl rfl)⟩
  split at h
  ·unfold zdj at h
   cases h1:zhi ws with
   |none=>simp [h1] at h
   |some p1=>
    cases h2:Ez p1.2 with
    |none=>simp [h1,h2] at h
    |some p2=>
     cases h3:zbp p2.2 with
     |none=>simp [h1,h2,h3] at h
     |some p3=>
      cases h4:zbp p3.2 with
      |none=>simp [h1,h2,h3,h4] at h
      |some p4=>
       simp [h1,h2,h3,h4] at h
       obtain ⟨rfl,_⟩:=h
       exact ⟨zdn (ws1:=p1.2) h1,zc1 (ws1:=p2.2) h2,Gz (ws1:=p3.2) h3,Gz (ws1:=p4.2) h4, .inr (.inr (.inl rfl))⟩
  split at h
  ·unfold Fh at h
   cases h1:zhi ws with
   |none=>simp [h1] at h
   |some p1=>
    cases h2:Ez p1.2 with
    |none=>simp [h1,h2] at h
    |some p2=>
     cases h3:zbp p2.2 with
     |none=>simp [h1,h2,h3] at h
     |some p3=>
      simp [h1,h2,h3] at h
      obtain ⟨rfl,_⟩:=h
      exact ⟨zdn (ws1:=p1.2) h1,zc1 (ws1:=p2.2) h2,Gz (ws1:=p3.2) h3,z, .inr (.inr (.inr (.inl rfl)))⟩
  split at h
  ·simp [zfh] at h
   obtain ⟨rfl,_⟩:=h
   exact ⟨show 0<8 by decide,z,z,z, .inr (.inr (.inr (.inr (.inl rfl))))⟩
  split at h
  ·unfold zqg at h
   cases h1:zbp ws with
   |none=>simp [h1] at h
   |some p1=>
    simp [h1] at h
    obtain ⟨rfl,_⟩:=h
    exact ⟨show 0<8 by decide,Gz (ws1:=p1.2) h1,z,z, .inr (.inr (.inr (.inr (.inr (.inl rfl)))))⟩
  split at h
  ·unfold zqh at h
   cases h1:gIn 0 4000 ws with
   |none=>simp [h1] at h
   |some p1=>
    simp [h1] at h
    obtain ⟨rfl,_⟩:=h
    exact ⟨show 0<8 by decide,z,z,z, .inr (.inr (.inr (.inr (.inr (.inr (.inl rfl))))))⟩
  split at h
  ·unfold gjz at h
   cases h1:zbp ws with
   |none=>simp [h1] at h
   |some p1=>
    cases h2:gIn 0 4000 p1.2 with
    |none=>simp [h1,h2] at h
    |some p2=>
     simp [h1,h2] at h
     obtain ⟨rfl,_⟩:=h
     exact ⟨show 0<8 by decide,Gz (ws1:=p1.2) h1,z,z, .inr (.inr (.inr (.inr (.inr (.inr (.inr (.inr (.inr (.inr rfl)))))))))⟩
  split at h
  ·unfold zgb at h
   cases h1:gIn 1 9 ws with
   |none=>simp [h1] at h
   |some p1=>
    simp [h1] at h
    obtain ⟨rfl,_⟩:=h
    exact ⟨show 0<8 by decide,z,z,z, .inr (.inr (.inr (.inr (.inr (.inr (.inr (.inl rfl)))))))⟩
  split at h
  ·simp [znz] at h
   obtain ⟨rfl,_⟩:=h
   exact ⟨show 0<8 by decide,z,z,z, .inr (.inr (.inr (.inr (.inr (.inr (.inr (.inl rfl)))))))⟩
  ·simp at h
def zqk(acc:List (List Ic)):Prop:=acc.length<=3/\ ∀c∈acc,c.length<=4000/\ ∀i∈c,okI i
theorem zu8{acc acc':List (List Ic)}(h:Gj ws acc= .ok acc')(ha:zqk acc):zqk acc'/\acc'≠[]:=by
 unfold Gj at h
 split at h
 ·simp at h
 ·split at h
  ·split at h
   ·split at h
    ·simp at h
    ·simp at h
     subst h
     refine ⟨⟨?_,?_⟩,by simp⟩
     ·have:=ha.1;simp;omega
     ·intro c hc
      simp at hc
      rcases hc with hc|rfl
      ·exact ha.2 c hc
      ·exact ⟨by simp,λi hi=>by simp at hi⟩
   ·simp at h
  ·split at h
   ·simp at h
   ·simp at h
   ·rename_i ic hi
    split at h
    ·simp at h
    ·rename_i c hc
     split at h
     ·simp at h
     ·rename_i hne
      simp at h
      subst h
      have hm:c∈acc:=List.mem_of_getLast? hc
      refine ⟨⟨?_,?_⟩,by simp⟩
      ·have h0:acc≠[]:=List.ne_nil_of_mem hm
       have:=List.length_pos_iff.2 h0
       have:=ha.1
       simp;omega
      ·intro d hd
       simp at hd
       rcases hd with hd|rfl
       ·exact ha.2 d ((List.dropLast_sublist acc).subset hd)
       ·have h1:=(ha.2 c hm).1
        refine ⟨by simp;omega,λi hi'=>?_⟩
        simp at hi'
        rcases hi' with hi'|rfl
        ·exact (ha.2 c hm).2 i hi'
        ·exact zzn hi
def zdo:Nat->List UInt8->Nat->List (List Ic)->Except (Int×Int) (List (List Ic))
 |0,_,_,acc=> .ok acc
 |f+1,r,j,acc=>if r=[]/\j≠0 then .ok acc else match Lib.cut r [10] with
  |(_,_,false)=> .error (2,j+1)
  |(l,r',true)=>match Gj (Ql l) acc with
   | .ok acc'=>zdo f r' (j+1) acc'
   | .error er=> .error (er,j+1)
theorem zql(r:List UInt8)(c:UInt8):(Lib.cut r [c]).1.length<=r.length:=by
 unfold Lib.cut
 split
 ·simp only [List.length_take];omega
 ·exact Nat.le_refl _
theorem zzo(c:UInt8):Lib.cut [] [c]=([],[],false):=rfl
theorem zn0(h:l.length<=131072):SzOk (Ql l):=by
 constructor
 ·rw [zdm]
  have:=Lib.countB_le ⟨#[32]⟩ yal _ ⟨l.toArray⟩ (Nat.le_refl _)
  have h2:(⟨l.toArray⟩:ByteArray).size=l.length:=ybv
  omega
 ·intro u hu
  have key: ∀(k:Nat) (s:ByteArray),∀u∈Lib.splitB ⟨#[32]⟩ 0 k s,u.size<=s.size:=by
   intro k
   induction k with
   |zero=>intro s u hu;simp [Lib.splitB_zero] at hu;rw [hu];exact Nat.le_refl _
   |succ k ih=>
    intro s u hu
    unfold Lib.splitB at hu
    split at hu
    ·simp at hu;rw [hu];exact Nat.le_refl _
    ·simp only [List.mem_cons] at hu
     rcases hu with rfl|hu
     ·rw [ByteArray.size_extract];omega
     ·have:=ih _ u hu
      rw [ByteArray.size_extract] at this
      omega
  have h2:(⟨l.toArray⟩:ByteArray).size=l.length:=ybv
  have:=key _ _ u hu
  omega
section
variable{W:World}{R:Except (Int×Int) (List (List Ic))}{r:List UInt8}{j:Nat}{w:World}
end
def zu9(s:ByteArray):Except (Int×Int) (List (List Ic)):=if 131072<s.size then .error (1,0) else zdo (s.size+2) s.data.toList 0 []
def FaultAt(w:World)(bf:Nat)(er ln:Int):Prop:=w.cell? ⟨bf,0,none⟩=some (.int .i64 er)/\w.cell? ⟨bf,1,none⟩=some (.int .i64 ln)
theorem zgc(W:World)(s:ByteArray)(most:Int)(tk:Value)(hs:most<(s.size:Int)):
  Cl 28 #[.string s, .int .i64 most,tk] W λe w'=>∃bf,e= .returned (.iface 64 (ptr bf))/\W.heap.size<bf/\FaultAt w' bf 1 0/\Below W.heap.size W w':=by
 go_enter_defers Tryz.func28,Tryz.ntmps28
 go_wp2
 have hsz:(W.alloc (.cells #[.iface 64 (ptr (W.heap.size+1))] 44)).heap.size=W.heap.size+1:=yaj
 have c0:=World.cell?_alloc_new (W.alloc (.cells #[.iface 64 (ptr (W.heap.size+1))] 44)) #[.int .i64 1, .int .i64 0] 68 0
 have c1:=World.cell?_alloc_new (W.alloc (.cells #[.iface 64 (ptr (W.heap.size+1))] 44)) #[.int .i64 1, .int .i64 0] 68 1
 rw [hsz] at c0 c1
 refine ⟨.iface 64 (ptr (W.heap.size+1)),?_,W.heap.size+1,rfl,by omega,⟨c0,c1⟩,((Below.refl _ W).alloc (Nat.le_refl _) _).alloc yaj _⟩
 simp [results,Tryz.results28,go_sem]
theorem FaultAt.keep(h:FaultAt w bf er ln)(hc:Chg M w w')(hM: ∀i,¬M bf i):FaultAt w' bf er ln:=
 ⟨(hc.cell bf 0 (blt h.1) (hM 0)).trans h.1,(hc.cell bf 1 (blt h.2) (hM 1)).trans h.2⟩
theorem zn1(hE:Env w)(hb:FaultAt w bf er ln):
  Cl 9 #[.iface 64 (ptr bf)] w λe w'=>e= .returned (.tuple #[.int .i64 er, .int .i64 ln])/\Below w.heap.size w w':=by
 have hlt:bf<w.heap.size:=blt hb.1
 have HE:=hid hE
 have HB:=hid hb
 clear hE hb
 go_enter Tryz.func9,Tryz.ntmps9
 go_wp2_with fail
 have hs1:(w.alloc (.cells #[.pointer none] 64)).heap.size=w.heap.size+1:=yaj
 have hb2:Below w.heap.size w ((w.alloc (.cells #[.pointer none] 64)).alloc (.cells #[.int .i64 0] 26)):=((Below.refl _ w).alloc (Nat.le_refl _) _).alloc yaj _
 have hg:((w.alloc (.cells #[.pointer none] 64)).alloc (.cells #[.int .i64 0] 26)).cell? ⟨0,0,none⟩=some (.iface 182 (.agg #[.pointer (some ⟨10,44,none⟩)])):=(HE.out.below hb2).et
 have ht0:((w.alloc (.cells #[.pointer none] 64)).alloc (.cells #[.int .i64 0] 26)).cell? ⟨w.heap.size,0,none⟩=some (.pointer none):=(World.cell?_alloc_past _ _ _ yai).trans (World.cell?_alloc_new w _ _ 0)
 have hf0:((w.alloc (.cells #[.pointer none] 64)).alloc (.cells #[.int .i64 0] 26)).frozen? ⟨w.heap.size,0,none⟩=false:=(World.frozen?_alloc_past _ _ _ yai).trans yaj
 have key:Cl 17 #[.iface 64 (ptr bf), .iface 66 (.pointer (some ⟨w.heap.size,0,none⟩))] ((w.alloc (.cells #[.pointer none] 64)).alloc (.cells #[.int .i64 0] 26)) λev w'=>ev= .returned (.bool true)/\w'.cell? ⟨w.heap.size,0,none⟩=some (.pointer (some ⟨bf,0,none⟩))/\w'.cell? ⟨bf,0,none⟩=some (.int .i64 er)/\w'.cell? ⟨bf,1,none⟩=some (.int .i64 ln)/\Below w.heap.size w w':=by
  refine (as_hit ⟨bf,0,none⟩ ⟨w.heap.size,0,none⟩ (.pointer none) _ hg ht0 hf0).mono ?_
  rintro e w' ⟨rfl,rfl⟩
  generalize hW2:(w.alloc (.cells #[.pointer none] 64)).alloc (.cells #[.int .i64 0] 26)=W2 at*
  have c9:Chg (λ_ (_:Nat)=>False) W2 ((((W2.alloc (.cells #[.pointer (some ⟨w.heap.size,0,none⟩)] 66)).alloc (.cells #[.pointer (some ⟨10,66,none⟩), .pointer (some ⟨W2.heap.size,0,none⟩), .int .u64 150] 130)).alloc (.cells #[.pointer (some ⟨10,66,none⟩), .pointer (some ⟨W2.heap.size,0,none⟩), .int .u64 150] 130)).alloc (.cells #[.pointer (some ⟨bf,0,none⟩)] 64)):=((((Chg.refl _ W2).alloc _).alloc _).alloc _).alloc _
  have c1:=(c9.mono (M':=λk (_:Nat)=>k=w.heap.size) (λ_ _ _ e=>e.elim)).setCell (b:=w.heap.size) (o:=0) (λ_=>rfl) (.pointer (some ⟨bf,0,none⟩))
  have hl2:bf<W2.heap.size:=Nat.lt_of_lt_of_le hlt hb2.size
  have hl3:w.heap.size<W2.heap.size:=blt ht0
  have e0:=(hb2.cell (p:=⟨bf,0,none⟩) hlt).trans HB.out.1
  have e1:=(hb2.cell (p:=⟨bf,1,none⟩) hlt).trans HB.out.2
  exact ⟨rfl,Qg ((c9.cell w.heap.size 0 hl3 (λe=>e)).trans ht0) rfl,(c1.cell bf 0 hl2 yai).trans e0,(c1.cell bf 1 hl2 yai).trans e1,hb2.trans (c1.below hb2.size (λk i e=>by omega))⟩
 clear hg ht0 hf0 hb2 hs1
 have HK:=hid key
 clear key
 refine HK.out.mono ?_
 rintro e w1 ⟨rfl,k1,k2,k3,k4⟩
 have K4:=hid k4
 clear k4 HK
 go_wp2
 go_region
 all_goals
  go_wp2
  go_ret2
  exact ⟨rfl,⟨K4.out.os,K4.out.tape,K4.out.output,K4.out.size,K4.out.block⟩⟩
open Go.ChangeShapes Go.WideShapes Go.ChangeAt Go.WideMaps Go.WideElems Go.RowKit
theorem gEs:Tryz.prog.globalNamed "strconv.ErrSyntax" =some 6:=yak
theorem gEr:Tryz.prog.globalNamed "strconv.ErrRange" =some 7:=yak
theorem gEt:Tryz.prog.globalNamed "errors.errorType" =some 0:=yak
theorem tEs:(Tryz.prog.globals[6]?).map (·.type)=some 44:=yak
theorem tEr:(Tryz.prog.globals[7]?).map (·.type)=some 44:=yak
theorem z4y:(Tryz.prog.cutTypes.find? (·.1== "internal/reflectlite.rtype")).map (·.2)=some 182:=yak
theorem z19:((List.range 343).filter λt=>Tryz.prog.rowNamed t [101,114,114,111,114])=[44]:=yak
theorem zqm:Tryz.prog.types.size=343:=yak
theorem zva{H:Type}{enc:TypeId×Value->H}{base fuel:Nat}{sp:Nat->Bool}{held:Bool}{t:TypeId}{cs:List Value}{x:DataW H×List MemPlace}{ms:Array (String×TypeId)}(ht:P.underlying t=some (.interface ms))(h:DataW.trod enc P w base sp held fuel t cs=some x):
  cs=[.nilIface]\/ ∃te pe,cs=[.iface te pe]:=by
 cases fuel with
 |zero=>simp [DataW.trod] at h
 |succ n=>
  unfold DataW.trod at h
  rw [ht] at h
  match cs,h with
  |[],h=>simp at h
  |[v],h=>
   cases v with
   |nilIface=>exact .inl rfl
   |iface te pe=>exact .inr ⟨te,pe,rfl⟩
   |_=>simp at h
  |_::_::_,h=>simp at h
theorem zym{n:String}{d:DataW Unit}(hg:Tryz.prog.globalNamed n=some g)(ht:(Tryz.prog.globals[g]?).map (·.type)=some 44)(h:laidMet Tryz.prog [(n,d)] W): ∃ev,W.cell? ⟨g,0,none⟩=some ev/\(ev= .nilIface\/ ∃te pe,ev= .iface te pe):=by
 obtain ⟨ps,⟨g0,t0,cs0,f0,p0,q0,hg0,ht0,hv0,hd0,_,_⟩,_,_⟩:=h
 obtain rfl:=Option.some.inj (hg.symm.trans hg0)
 obtain rfl:=Option.some.inj (ht.symm.trans ht0)
 have hc:=World.var?_cell hg0 hv0 0
 rcases zva Tryz.underlying44 hd0 with e|⟨te,pe,e⟩
 ·rw [Array.eq_one_of_toList e] at hc
  exact ⟨_,by simpa using hc, .inl rfl⟩
 ·rw [Array.eq_one_of_toList e] at hc
  exact ⟨_,by simpa using hc, .inr ⟨te,pe,rfl⟩⟩
theorem zqn{l:List (String×DataW Unit)}(hf:l.filter (λx=>x.1== "errors.errorType")=[("errors.errorType",Rows.laid_errors_errorType)])(h:laidMetH Tryz.prog l W):W.cell? ⟨0,0,none⟩=some (.iface 182 (.agg #[.pointer (some ⟨10,44,none⟩)])):=by
 have h1:=h.filter (λx=>x.1== "errors.errorType")
 rw [hf] at h1
 have h':laidMet Tryz.prog [] W/\handlesMet Tryz.prog [("errors.errorType",Rows.laid_errors_errorType)] W:=h1
 obtain ⟨name,u,ty,e1,e2,e3,e4,e5⟩:=h'.2 _ (List.mem_singleton.2 rfl)
 have en:name=[101,114,114,111,114]:=(Option.some.inj e1).symm
 subst en
 obtain rfl:=Option.some.inj (z4y.symm.trans e2)
 have hm:ty∈(List.range 343).filter λt=>Tryz.prog.rowNamed t [101,114,114,111,114]:=List.mem_filter.2 ⟨List.mem_range.2 (by rw [<-zqm];exact e3),e4⟩
 rw [z19] at hm
 obtain rfl:=List.mem_singleton.1 hm
 have hh:typeHandle Tryz.prog 44= .pointer (some ⟨10,44,none⟩):=yak
 rw [hh] at e5
 simpa using World.var?_cell gEt e5 0
theorem z2a{l:List (String×DataW Unit)}(hS:W.ShapedOpen Tryz.prog)(hL:laidMetH Tryz.prog l W)
  (f1:l.filter (λx=>x.1== "commits/ops.words")=[("commits/ops.words",Rows.laid_commits_ops_words)]) (f2:l.filter (λx=>x.1== "errors.errorType")=[("errors.errorType",Rows.laid_errors_errorType)])
  (f3:l.filter (λx=>x.1== "strconv.ErrSyntax")=[("strconv.ErrSyntax",Rows.laid_strconv_ErrSyntax)]) (f4:l.filter (λx=>x.1== "strconv.ErrRange")=[("strconv.ErrRange",Rows.laid_strconv_ErrRange)]):Env W:=by
 have h3:=hL.filter (λx=>x.1== "strconv.ErrSyntax")
 rw [f3,MakeChecks.laidMetH_plain _ _ _ yak] at h3
 have h4:=hL.filter (λx=>x.1== "strconv.ErrRange")
 rw [f4,MakeChecks.laidMetH_plain _ _ _ yak] at h4
 have hlast:9<W.heap.size:=by
  have hsome:(((begin Tryz.prog (λ_ _=>0) default).world.heap[9]?).bind Obj.row?).isSome=true:=yak
  obtain ⟨⟨zero,t⟩,h0⟩:=Option.isSome_iff_exists.1 hsome
  obtain ⟨cs,hh,_⟩:=hS.1 9 zero t (of_decide_eq_true yak) h0
  exact (Array.getElem?_eq_some_iff.1 hh).1
 exact ⟨by omega,zqa hS,znw f1 hL,zym gEs tEs h3,zym gEr tEr h4,zqn f2 hL⟩
end Go.Proofs.YtphcopbffecceaaGreatDoor
