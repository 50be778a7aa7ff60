import Derived.Test.YtiiepngikigmbaaGreatDoorP07
import Derived.WalkLawsBesides
set_option maxRecDepth 100000
set_option maxHeartbeats 1000000
namespace Go.Proofs.YtiiepngikigmbaaGreatDoor
open Go.RowKit
variable{W w w' w1:World}{bl bw c cap g k:Nat}{hi lo n:Int}{ws:List ByteArray}{u:ByteArray}{xs:List Value}{ov v:Value}{M:Nat->Nat->Prop}{e:TypeId}{o:Obj}
structure LineAt(w:World)(bl:Nat)(n:Int)(bw:Nat)(ws:List ByteArray):Prop where
 sh:w.shape? bl=some (135,2)
 num:w.cell? ⟨bl,0,none⟩=some (.int .i64 n)
 wds: ∃o cap,ws.length<=cap/\w.cell? ⟨bl,1,none⟩=some (.slice (some ⟨bw,o,none⟩) ws.length cap)/\ ∀j (h:j<ws.length),w.cell? ⟨bw,o+j,none⟩=some (.string ws[j])
 free:w.frozen? ⟨bl,1,none⟩=false
 ne:bw≠bl
 ltw:bw<w.heap.size
theorem LineAt.lt(h:LineAt w bl n bw ws):bl<w.heap.size:=Qd h.sh
theorem LineAt.keep(h:LineAt w bl n bw ws)(hc:Chg M w w')(h1: ∀i,¬M bl i)(h2: ∀i,¬M bw i):LineAt w' bl n bw ws:={
 sh:=(hc.shape bl h.lt).trans h.sh
 num:=(hc.cell bl _ h.lt (h1 _)).trans h.num
 wds:=by
  obtain ⟨o,cap,hl,hs,hcs⟩:=h.wds
  exact ⟨o,cap,hl,(hc.cell bl _ h.lt (h1 _)).trans hs,λj hj=>(hc.cell bw _ h.ltw (h2 _)).trans (hcs j hj)⟩
 free:=(hc.frozen bl _ h.lt).trans h.free
 ne:=h.ne
 ltw:=Nat.lt_of_lt_of_le h.ltw hc.size}
abbrev Jo(bl:Nat):Nat->Nat->Prop:=λk i=>k=bl/\i=1
theorem LineAt.next(h:LineAt w bl n bw (u::ws))(o cap:Nat)(hl:ws.length<=cap)(hcs: ∀j (h:j<ws.length),w.cell? ⟨bw,o+j,none⟩=some (.string ws[j])):
  LineAt (w.setCell ⟨bl,1,none⟩ (.slice (some ⟨bw,o,none⟩) ws.length cap)) bl n bw ws/\Chg (Jo bl) w (w.setCell ⟨bl,1,none⟩ (.slice (some ⟨bw,o,none⟩) ws.length cap)):=by
 obtain ⟨o',cap',_,hs,_⟩:=h.wds
 have hc:Chg (Jo bl) w (w.setCell ⟨bl,1,none⟩ (.slice (some ⟨bw,o,none⟩) ws.length cap)):=(Chg.refl _ w).setCell (λ_=>⟨rfl,rfl⟩) _
 refine ⟨⟨(hc.shape bl h.lt).trans h.sh,(hc.cell bl 0 h.lt (λe=>by cases e.2)).trans h.num,⟨o,cap,hl,Qg hs rfl,λj hj=>(hc.cell bw _ h.ltw (λe=>h.ne e.1)).trans (hcs j hj)⟩,(hc.frozen bl _ h.lt).trans h.free,h.ne,Nat.lt_of_lt_of_le h.ltw hc.size⟩,hc⟩
theorem Ve(h:LineAt w bl n bw (u::ws))(hlen:ws.length<1000000):
  Cl 46 #[ptr bl] w λe w'=>e= .returned (.string u)/\LineAt w' bl n bw ws/\Chg (Jo bl) w w':=by
 obtain ⟨o,cap,hl,hs,hcs⟩:=h.wds
 have H:=hid h
 have hf:=h.free
 have h0:=hcs 0 yl6
 simp only [List.getElem_cons_zero,Nat.add_zero] at h0
 have HC:=hid hcs
 clear hcs
 simp only [List.length_cons] at hs hl
 have hlt:=h.lt
 clear h
 go_enter Tryz.func46,Tryz.ntmps46
 go_wp2
 all_goals go_ret
 ·refine ⟨rfl,H.out.next o 0 yl5 (λj hj=>by omega)⟩
 ·refine ⟨rfl,H.out.next (o+1) (cap- 1) yl5 (λj hj=>?_)⟩
  have:=HC.out (j+1) yma
  rw [show o+1+j=o+(j+1) by omega,this];rfl
theorem Eo(h:LineAt w bl n bw []):
  Cl 51 #[ptr bl] w λe w'=>e= .returned (.tuple #[])/\w'=w:=by
 obtain ⟨o,cap,hl,hs,hcs⟩:=h.wds
 clear hcs h
 simp only [List.length_nil] at hs hl
 go_enter Tryz.func51,Tryz.ntmps51
 go_wp2
 go_end0
 exact ⟨rfl,rfl⟩
theorem LineAt.below(h:LineAt w bl n bw ws)(hb:Below w.heap.size w w'):LineAt w' bl n bw ws:=
 h.keep (M:=λ_ _=>False) (Chg.of_below hb) (λ_ h=>h) (λ_ h=>h)
section
variable{w:World}{bl bw:Nat}{n:Int}{ws:List ByteArray}{wd:Nat->ByteArray}
def zff:ByteArray:=⟨#[102,101,110,99,101]⟩
def znx:ByteArray:=⟨#[104,97,108,116]⟩
def zae:ByteArray:=⟨#[115,116,111,114,101]⟩
def zf9:ByteArray:=⟨#[108,111,97,100]⟩
def ze9:ByteArray:=⟨#[120,97,100,100]⟩
def zqd:ByteArray:=⟨#[99,97,115]⟩
def zzh:ByteArray:=⟨#[111,117,116]⟩
def zyl:ByteArray:=⟨#[109,111,118]⟩
def zzi:ByteArray:=⟨#[106,109,112]⟩
def wJz:ByteArray:=⟨#[106,122]⟩
end
section
variable{w:World}{bl bw:Nat}{n:Int}{ws:List ByteArray}{wd:Nat->ByteArray}
def Vj:ByteArray:=⟨#[116,104,114,101,97,100]⟩
theorem yfi:(Tryz.prog.info? 61).map (λi=>(i.zero,i.size,i.bytes))=some (some (.slice none 0 0),1,24):=yl7
theorem z9y{a:Option Addr}(h:LineAt w bl n bw [Vj])(hk:k<3)(hv:v= .slice a k c)(ho:w.ownsRow 0 61 1 v k xs)(hob:v.ownBlock≠some bl)(how:v.ownBlock≠some bw):
  Cl 37 #[v,ptr bl] w λe w'=>∃g cap,e= .returned (.slice (some ⟨g,0,none⟩) (k+1) cap)/\w'.ownsRow 0 61 1 (.slice (some ⟨g,0,none⟩) (k+1) cap) (k+1) (xs++[.slice none 0 0])/\(v.ownBlock=some g\/w.heap.size<=g)/\LineAt w' bl n bw []/\Chg (λq i=>Jo bl q i\/v.ownBlock=some q) w w':=by
 obtain ⟨i0,hi,hz0,hz1,hz2⟩:=info_parts yfi
 have H0:=hid h
 have HO:=hid ho
 have hl1:k+1<=maxLen:=ymb
 have hl2:(k+1)*24<=140737488355328:=yl5
 clear h ho
 subst hv
 have hk': ¬(k:Int)=3:=yl5
 go_enter Tryz.func37,Tryz.ntmps37
 go_wp2_with fail
 refine (Ve H0.out yl6).mono ?_
 rintro e W1 ⟨rfl,h1,c1⟩
 have H1:=hid h1
 have C1:=hid c1
 have HO1:=hid (Qc HO.out c1 (λg hg i e=>hob (e.1▸hg)))
 clear h1 c1
 rw [show Vj=⟨#[116,104,114,101,97,100]⟩ from rfl]
 go_wp2_with fail
 refine (Eo H1.out).mono ?_
 rintro e W2 ⟨rfl,rfl⟩
 go_wp2_with (at_builtin;refine Zk rfl _ _ 53 rfl 61 i0 (.slice none 0 0) 24 Tryz.underlying53 hi hz0 hz1 hz2 rfl (.slice a k c) k _ rfl (HO1.out.alloc _) ⟨W2.heap.size,0,none⟩ (.slice none 0 0) rfl (cell_one_new _ _ _) rfl hl1 hl2 ?_;go_must (intro g cap w1 hown1 hch hg;have HC:=hid hown1;have HD:=hid hch;have HG:=hid hg;clear hown1 hch hg))
 go_ret
 have d1:Chg (λq _=>(Value.slice a k c).ownBlock=some q) W2 w1:=((Chg.refl _ W2).alloc _).trans HD.out
 refine ⟨g,cap,rfl,HC.out,?_,H1.out.keep d1 (λ_=>hob) (λ_=>how),(C1.out.mono (λq i _ e=> .inl e)).trans (d1.mono (λq i _ e=> .inr e))⟩
 rcases HG.out with e|e
 ·exact .inl e
 ·right;have:=C1.out.size;simp at e;omega
end
theorem Qm{n:Nat}(h:w.ownsRow 0 e 1 (.slice (some ⟨g,0,none⟩) n cap) n xs)(j:Nat)(hj:j<n):
  w.cell? ⟨g,j,none⟩=xs[j]?/\w.frozen? ⟨g,j,none⟩=false/\g<w.heap.size:=by
 rcases h.2 with ⟨h2,_⟩|⟨g',cap',cur,hv,_,hg,hn,hm,hs,ht⟩
 ·cases h2
 ·cases hv
  refine ⟨?_,?_,(Array.getElem?_eq_some_iff.1 hg).1⟩
  ·rw [<-ht]
   simp [World.cell?,hg,hj]
  ·simp [World.frozen?,hg]
theorem Ut{n:Nat}(h:w.ownsRow 0 e 1 (.slice (some ⟨g,0,none⟩) n cap) n xs)(j:Nat)(u:Value):
  (w.setCell ⟨g,j,none⟩ u).ownsRow 0 e 1 (.slice (some ⟨g,0,none⟩) n cap) n (xs.set j u):=by
 refine ⟨by simpa using h.1,?_⟩
 rcases h.2 with ⟨h2,_⟩|⟨g',cap',cur,hv,hb,hg,hn,hm,hs,ht⟩
 ·cases h2
 ·cases hv
  have hlt:=(Array.getElem?_eq_some_iff.1 hg).1
  refine .inr ⟨g,cap,cur.setIfInBounds j u,rfl,hb,?_,hn,hm,by simpa using hs,?_⟩
  ·rw [World.setCell];simp only [Array.getElem?_modify,hg];simp
  ·rw [<-ht];simp [List.take_set]
section
variable{w:World}{bl bw:Nat}{n:Int}{ws:List ByteArray}{wd:Nat->ByteArray}
theorem yfj(hc:Chg (λk _=>ov.ownBlock=some k) (W.alloc o) w1)(hg:ov.ownBlock≠some g)(hlt:g<W.heap.size)(h:W.cell? ⟨g,k,none⟩=some v):w1.cell? ⟨g,k,none⟩=some v:=
 (hc.cell g k yma hg).trans ((World.cell?_alloc_past _ _ _ hlt).trans h)
theorem yfk(hc:Chg (λk _=>ov.ownBlock=some k) (W.alloc o) w1)(hlt:g<W.heap.size)(h:W.frozen? ⟨g,k,none⟩=false):w1.frozen? ⟨g,k,none⟩=false:=
 (hc.frozen g k yma).trans ((World.frozen?_alloc_past _ _ _ hlt).trans h)
theorem ygv:(Tryz.prog.info? 172).map (λi=>(i.zero,i.size,i.bytes))=some (some .nilIface,1,16):=yl7
theorem z9h{m:Nat}{ys:List Value}{iv:Value}{T:TypeId}{p:Value}(h:LineAt w bl n bw (u::ws))(hlen:ws.length<1000000)(hu:u≠Vj)(hk:k<3)
  (hr: ∀W,LineAt W bl n bw ws->Chg (Jo bl) w W->Cl 67 #[.string u,ptr bl] W λe w'=>e= .returned (.iface T p)/\LineAt w' bl n bw []/\Chg (Jo bl) W w')
  (ho:w.ownsRow 0 61 1 (.slice (some ⟨g,0,none⟩) (k+1) c) (k+1) xs) (hob:g≠bl) (how:g≠bw) (hx:xs[k]?=some iv) (hi:w.ownsRow 0 172 1 iv m ys) (him:m<4000) (hib:iv.ownBlock≠some bl) (hiw:iv.ownBlock≠some bw):
  Cl 37 #[.slice (some ⟨g,0,none⟩) (k+1) c,ptr bl] w λe w'=>e= .returned (.slice (some ⟨g,0,none⟩) (k+1) c)/\ ∃b cap,w'.ownsRow 0 172 1 (.slice (some ⟨b,0,none⟩) (m+1) cap) (m+1) (ys++[.iface T p])/\w'.ownsRow 0 61 1 (.slice (some ⟨g,0,none⟩) (k+1) c) (k+1) (xs.set k (.slice (some ⟨b,0,none⟩) (m+1) cap))/\(iv.ownBlock=some b\/w.heap.size<=b)/\LineAt w' bl n bw []/\Chg (λq i=>Jo bl q i\/iv.ownBlock=some q\/(q=g/\i=k)) w w':=by
 have hne:=Oz hu
 have H0:=hid h
 have HR:=hid hr
 have HO:=hid ho
 have HI:=hid hi
 have hk': ¬(k:Int)+1=0:=yl5
 clear h hr ho hi hu
 go_enter Tryz.func37,Tryz.ntmps37
 go_wp2_with fail
 refine (Ve H0.out hlen).mono ?_
 rintro e W1 ⟨rfl,h1,c1⟩
 have H1:=hid h1
 have C1:=hid c1
 clear h1 c1
 rw [show Vj.toList=[116,104,114,101,97,100] from by rw [ByteArray.toList_eq];rfl] at hne
 go_wp2_with fail
 refine (HR.out W1 H1.out C1.out).mono ?_
 rintro e W2 ⟨rfl,h2,c2⟩
 have H2:=hid h2
 have C2:=hid (C1.out.trans c2)
 clear h2 c2 HR H1 C1
 go_wp2_with fail
 refine (Eo H2.out).mono ?_
 rintro e W3 ⟨rfl,rfl⟩
 have ho3:=Qc HO.out C2.out (λg' hg i e=>by simp [Value.ownBlock] at hg;exact hob (hg.trans e.1))
 have hi3:=Qc HI.out C2.out (λg' hg i e=>hib (e.1▸hg))
 obtain ⟨q1,q2,q3⟩:=Qm ho3 k yl5
 rw [hx] at q1
 obtain ⟨ia,ic,rfl⟩: ∃ia ic,iv= .slice ia m ic:=by
  rcases hi3.2 with ⟨e1,e2⟩|⟨g',cap',cur,e1,_⟩
  ·exact ⟨none,0,by rw [e1,e2]⟩
  ·exact ⟨_,_,e1⟩
 have HO3:=hid ho3
 have HI3:=hid hi3
 have him': ¬(m:Int)=4000:=yl5
 have hl1:m+1<=maxLen:=ymb
 have hl2:(m+1)*16<=140737488355328:=yl5
 obtain ⟨i0,hi0,hz0,hz1,hz2⟩:=info_parts ygv
 have hig:(Value.slice ia m ic).ownBlock≠some g:=λe=>by
  obtain ⟨x1,y1⟩:=z7e hi3 g e
  obtain ⟨x2,y2⟩:=z7e ho3 g rfl
  rw [y1] at y2
  simp at y2
 have HIG:=hid hig
 clear ho3 hi3 hig
 go_wp2_with (at_builtin;refine Zk rfl _ _ 61 rfl 172 i0 .nilIface 16 Tryz.underlying61 hi0 hz0 hz1 hz2 rfl (.slice ia m ic) m _ rfl (HI3.out.alloc _) ⟨W3.heap.size,0,none⟩ (.iface T p) rfl (cell_one_new _ _ _) rfl hl1 hl2 ?_;go_must (intro b cap w1 hown1 hch hg;have hcb:=yfj hch HIG.out q3 q1;have hfb:=yfk hch q3 q2;have HC:=hid hown1;have HD:=hid hch;have HG:=hid hg;clear hown1 hch hg))
 go_ret
 have d1:Chg (λq _=>(Value.slice ia m ic).ownBlock=some q) W3 w1:=((Chg.refl _ W3).alloc _).trans HD.out
 have d2:Chg (λq i=>q=g/\i=k) w1 (w1.setCell ⟨g,k,none⟩ (.slice (some ⟨b,0,none⟩) (m+1) cap)):=(Chg.refl (λq i=>q=g/\i=k) w1).setCell (b:=g) (o:=k) (λ_=>⟨rfl,rfl⟩) _
 have hbg:b≠g:=by
  rcases HG.out with e|e
  ·exact λe'=>HIG.out (e'▸e)
  ·simp at e;omega
 refine ⟨rfl,b,cap,Qc HC.out d2 (λg' hg' i e=>by simp [Value.ownBlock] at hg';exact hbg (hg'.trans e.1)),Ut (Qc HO3.out d1 (λg' hg' i e=>by simp [Value.ownBlock] at hg';exact HIG.out (hg'▸e))) k _,?_,(H2.out.keep d1 (λ_=>hib) (λ_=>hiw)).keep d2 (λ_ e=>hob e.1.symm) (λ_ e=>how e.1.symm),((C2.out.mono (λq i _ e=> .inl e)).trans (d1.mono (λq i _ e=> .inr (.inl e)))).trans (d2.mono (λq i _ e=> .inr (.inr e)))⟩
 rcases HG.out with e|e
 ·exact .inl e
 ·right;have:=C2.out.size;simp at e;omega
end
section
variable{w:World}{bl bw:Nat}{n:Int}{ws:List ByteArray}
theorem yak{bt:Nat}{R:Option Addr->Nat->Nat->World->Prop}(hc:w.cell? ⟨bt,0,none⟩=some v)
  (hcall:Cl 37 #[v,ptr bl] w λe w'=>∃a k c,e= .returned (.slice a k c)/\R a k c w'/\w'.cell? ⟨bt,0,none⟩=some v/\w'.frozen? ⟨bt,0,none⟩=false):
  Cl 36 #[ptr bl,ptr bt] w λe w'=>e= .returned (.tuple #[])/\ ∃a k c w1,R a k c w1/\w1.cell? ⟨bt,0,none⟩=some v/\w'=w1.setCell ⟨bt,0,none⟩ (.slice a k c):=by
 have HC:=hid hcall
 clear hcall
 go_enter Tryz.func36,Tryz.ntmps36
 go_wp2_with fail
 refine HC.out.mono ?_
 rintro e w1 ⟨a,k,c,rfl,hr,h1,h2⟩
 have HR:=hid hr
 clear hr HC
 go_wp2
 go_end0
 exact ⟨rfl,a,k,c,w1,HR.out,h1,rfl⟩
end
abbrev zga(bf:Nat):List PanicEntry:=[{v:= .iface 130 (.agg #[ptr bf]),recovered:=false}]
def Fails(er n:Int)(bl:Nat)(w:World)(e:Ending)(w':World):Prop:=
 ∃bf,e= .panicked (zga bf)/\w.heap.size<=bf/\w'.cell? ⟨bf,0,none⟩=some (.int .i64 er)/\w'.cell? ⟨bf,1,none⟩=some (.int .i64 n)/\Chg (Jo bl) w w'
theorem Jv(h:LineAt w bl n bw ws)(er:Int):
  Cl 45 #[ptr bl, .int .i64 er] w λe w'=>Fails er n bl w e w':=by
 have hn:=h.num
 have hlt:=h.lt
 have H:=hid h
 clear h
 go_enter Tryz.func45,Tryz.ntmps45
 go_wp2
 refine ⟨rfl,w.heap.size,rfl,Nat.le_refl _,World.cell?_alloc_new _ _ _ 0,World.cell?_alloc_new _ _ _ 1,(Chg.refl _ w).alloc _⟩
theorem Fg(h:LineAt w bl n bw []):
  Cl 46 #[ptr bl] w λe w'=>Fails 2 n bl w e w':=by
 obtain ⟨o,cap,hl,hs,_⟩:=h.wds
 simp only [List.length_nil] at hs
 have H:=hid h
 clear h
 go_enter Tryz.func46,Tryz.ntmps46
 go_wp2_with (go_at_call 72;go_in)
 refine (Jv H.out 2).mono ?_
 rintro e w1 ⟨bf,rfl,h1⟩
 exact ⟨rfl,bf,rfl,h1⟩
theorem Fails.after{er:Int}{e:Ending}(h:Fails er n bl w1 e w')(c:Chg (Jo bl) w w1):Fails er n bl w e w':=by
 obtain ⟨bf,h1,h2,h3,h4,h5⟩:=h
 exact ⟨bf,h1,Nat.le_trans c.size h2,h3,h4,c.trans h5⟩
theorem zc0(h:LineAt w bl n bw (u::ws)):
  Cl 51 #[ptr bl] w λe w'=>Fails 2 n bl w e w':=by
 obtain ⟨o,cap,hl,hs,_⟩:=h.wds
 simp only [List.length_cons] at hs
 have H:=hid h
 clear h
 go_enter Tryz.func51,Tryz.ntmps51
 go_wp2_with (go_at_call 72;go_in)
 refine (Jv H.out 2).mono ?_
 rintro e w1 ⟨bf,rfl,h1⟩
 exact ⟨rfl,bf,rfl,h1⟩
def Rds(bl:Nat)(n:Int)(bw:Nat)(w:World)(r:Option (Value×List ByteArray))(e:Ending)(w':World):Prop:=
 match r with
 |some (v,ws)=>e= .returned v/\LineAt w' bl n bw ws/\Chg (Jo bl) w w'
 |none=>Fails 2 n bl w e w'
structure Env(w:World):Prop where
 lo:10<=w.heap.size
 max: ∃m,w.cell? ⟨1,0,none⟩=some (.int .i64 m)
 words:zjj w Jc
 es: ∃ev,w.cell? ⟨6,0,none⟩=some ev/\(ev= .nilIface\/ ∃te pe,ev= .iface te pe)
 er: ∃ev,w.cell? ⟨7,0,none⟩=some ev/\(ev= .nilIface\/ ∃te pe,ev= .iface te pe)
 et:w.cell? ⟨0,0,none⟩=some (.iface 158 (.agg #[.pointer (some ⟨10,33,none⟩)]))
theorem Env.keep(h:Env w)(hc:Chg M w w')(hM: ∀k i,k<10->¬M k i):Env w':=by
 have hl:=h.lo
 have hk: ∀g i v,g<10->w.cell? ⟨g,i,none⟩=some v->w'.cell? ⟨g,i,none⟩=some v:=λg i v hg hv=>(hc.cell g i yl5 (hM g i hg)).trans hv
 obtain ⟨m,h1⟩:=h.max
 obtain ⟨ev,h2,h3⟩:=h.es
 obtain ⟨ev',h4,h5⟩:=h.er
 exact ⟨Nat.le_trans h.lo hc.size,⟨m,hk _ _ _ yl8 h1⟩,λj hj=>hk _ _ _ yl8 (h.words j hj),⟨ev,hk _ _ _ yl8 h2,h3⟩,⟨ev',hk _ _ _ yl8 h4,h5⟩,hk _ _ _ yl8 h.et⟩
theorem Env.below(h:Env w)(hb:Below w.heap.size w w'):Env w':=h.keep (M:=λ_ _=>False) (Chg.of_below hb) (λ_ _ _ e=>e)
theorem Env.line(h:Env w)(hc:Chg (Jo bl) w w')(hb:10<=bl):Env w':=h.keep hc (λk i hk e=>by omega)
def zjl(b:UInt8):Bool:=decide (48<=b.toNat)&&decide (b.toNat<=57)
def Jg(s:ByteArray):ByteArray:=⟨(Lib.trimPrefix s.data.toList [45]).toArray⟩
def Jd(s:ByteArray):Bool:=
 if (Jg s).data.toList=[] then false else if (Jg s).data.toList.head?=some 48/\s≠⟨#[48]⟩ then false else (Jg s).data.toList.all zjl
def Qk(s:ByteArray):Option Int:=if Jd s=true then (match Lib.parseIntB 64 s.data.toList with| .ok v=>some v|_=>none) else none
theorem zjm(w:World)(s t:ByteArray)(ht:Hid (zab s t))(hm:t.size<4294967281)(k0:Nat)(hk0:k0<t.size)(hz:t[0].toNat≠48\/s=⟨#[48]⟩)(hd:Hid (∀j (h:j<t.size),j<k0->48<=t[j].toNat/\t[j].toNat<=57))(hb:t[k0].toNat<48\/57<t[k0].toNat):
  Cl 137 #[.string s] w λe w'=>e= .returned (.bool false)/\w'=w:=by
 have h0:0<t.size:=yl5
 have hne:=Ey h0
 have hne': ¬t.toList=[]:=λh=>by simp [h] at hne
 have h0':(0:Int)<(t.size:Int):=yl5
 have HT:=ht.out
 unfold zab at HT
 go_enter Tryz.func137,Tryz.ntmps137
 go_wp2_with fail
 refine (Tryz.strings_TrimPrefix s ⟨#[45]⟩ w).mono ?_
 rintro e w' ⟨rfl,rfl⟩
 change Hid _ at ht
 rw [show (⟨(Lib.trimPrefix s.data.toList (ByteArray.mk #[45]).data.toList).toArray⟩:ByteArray)=t from HT.symm]
 clear HT ht
 rcases hz with hz|rfl
 all_goals go_wp2
 all_goals
  go_loopw [20] (λv wr=>∃k:Nat,k<=k0/\v= .int .i64 k/\wr=w') (λv _=>t.size- (intOf v).toNat)
  case atStart=>exact ⟨0,by omega,rfl,rfl⟩
  case round=>
   obtain ⟨k,hk,rfl,rfl⟩:=hrel
   have hlt:k<t.size:=yl5
   have hlt':(k:Int)<(t.size:Int):=yl5
   by_cases hkk:k<k0
   ·have hq:=hd.out k hlt hkk
    have q1: ¬(t[k].toNat:Int)<48:=yl5
    have q2: ¬(57:Int)<(t[k].toNat:Int):=yl5
    go_wp2
    go_roundw
    case rel=>exact ⟨k+1,by omega,by go_num,trivial⟩
    case measure=>simp [intOf];omega
   ·obtain rfl:k=k0:=by omega
    rcases hb with hb|hb
    ·have q1:(t[k].toNat:Int)<48:=by omega
     go_wp2
     go_ret
     exact ⟨rfl,rfl⟩
    ·have q1: ¬(t[k].toNat:Int)<48:=by omega
     have q2:(57:Int)<(t[k].toNat:Int):=yl5
     go_wp2
     go_ret
     exact ⟨rfl,rfl⟩
theorem Sn(w:World)(s:ByteArray)(hs:s.size<4294967281):
  Cl 137 #[.string s] w λe w'=>e= .returned (.bool (Jd s))/\w'=w:=by
 have ht:zab s (Jg s):=rfl
 have hle:(Jg s).size<=s.size:=by
  show (Lib.trimPrefix s.data.toList [45]).toArray.size<=s.data.size
  rw [<-Array.length_toList (xs:=s.data),List.size_toArray]
  unfold Lib.trimPrefix
  split
  ·simp
  ·exact Nat.le_refl _
 by_cases h0:(Jg s).data.toList=[]
 ·have hf:Jd s=false:=by unfold Jd;rw [if_pos h0]
  rw [hf]
  exact zf8 w s _ ht (by rw [ByteArray.toList_eq,h0];rfl)
 have hsz:0<(Jg s).size:=by
  show 0<(Jg s).data.size
  rw [<-Array.length_toList]
  exact List.length_pos_iff.2 h0
 have hhead:(Jg s).data.toList.head?=some (Jg s)[0]:=by
  rw [List.head?_eq_getElem?]
  simp [ByteArray.getElem_eq_getElem_data]
 by_cases h1:(Jg s).data.toList.head?=some 48/\s≠⟨#[48]⟩
 ·have hf:Jd s=false:=by unfold Jd;rw [if_neg h0,if_pos h1]
  rw [hf]
  refine ze6 w s _ ht hsz ?_ h1.2
  have:=hhead.symm.trans h1.1
  simp at this
  rw [this];rfl
 have hz:(Jg s)[0].toNat≠48\/s=⟨#[48]⟩:=by
  by_cases e:s=⟨#[48]⟩
  ·exact .inr e
  ·left
   intro e2
   exact h1 ⟨hhead.trans (congrArg some (UInt8.toNat_inj.1 e2)),e⟩
 have hv:Jd s=(Jg s).data.toList.all zjl:=by unfold Jd;rw [if_neg h0,if_neg h1]
 have hidx: ∀j (h:j<(Jg s).size),(Jg s)[j]=(Jg s).data.toList[j]'(by rw [Array.length_toList];exact h):=by intro j h;simp [ByteArray.getElem_eq_getElem_data]
 by_cases h2: ∀j (h:j<(Jg s).size),48<=(Jg s)[j].toNat/\(Jg s)[j].toNat<=57
 ·have ht':Jd s=true:=by
   rw [hv,List.all_eq_true]
   intro b hb
   obtain ⟨j,hj,rfl⟩:=List.mem_iff_getElem.1 hb
   have:=h2 j (by rw [Array.length_toList] at hj;exact hj)
   rw [hidx j (by rw [Array.length_toList] at hj;exact hj)] at this
   simp only [zjl,Bool.and_eq_true,decide_eq_true_eq]
   exact this
  rw [ht']
  exact znv w s _ ht yl5 hsz hz h2
 ·have hex: ∃k0,∃h:k0<(Jg s).size,(∀j (h:j<(Jg s).size),j<k0->48<=(Jg s)[j].toNat/\(Jg s)[j].toNat<=57)/\((Jg s)[k0].toNat<48\/57<(Jg s)[k0].toNat):=by
   have: ∀n,(∀j (h:j<(Jg s).size),j<n->48<=(Jg s)[j].toNat/\(Jg s)[j].toNat<=57)\/ ∃k0,∃h:k0<(Jg s).size,(∀j (h:j<(Jg s).size),j<k0->48<=(Jg s)[j].toNat/\(Jg s)[j].toNat<=57)/\((Jg s)[k0].toNat<48\/57<(Jg s)[k0].toNat):=by
    intro n
    induction n with
    |zero=>exact .inl (λj h hj=>absurd hj (Nat.not_lt_zero _))
    |succ n ih=>
     rcases ih with ih|ih
     ·by_cases hn:n<(Jg s).size
      ·by_cases hg:48<=(Jg s)[n].toNat/\(Jg s)[n].toNat<=57
       ·left
        intro j h hj
        by_cases e:j=n
        ·subst e;exact hg
        ·exact ih j h yl5
       ·exact .inr ⟨n,hn,ih,by omega⟩
      ·exact .inl (λj h hj=>ih j h yl5)
     ·exact .inr ih
   rcases this (Jg s).size with h|h
   ·exact absurd (λj h'=>h j h' h') h2
   ·exact h
  obtain ⟨k0,hk0,hd,hb⟩:=hex
  have ht':Jd s=false:=by
   rw [hv]
   cases hc:(Jg s).data.toList.all zjl with
   |false=>rfl
   |true=>
    rw [List.all_eq_true] at hc
    have:=hc ((Jg s)[k0]) (by rw [hidx k0 hk0];exact List.getElem_mem _)
    simp [zjl] at this
    omega
  rw [ht']
  exact zjm w s _ ht yl5 k0 hk0 hz hd hb
theorem zqe(w:World)(s:ByteArray)(hs:s.size<4294967281)(hn:Jd s=false):
  Cl 113 #[.string s] w λe w'=>e= .returned (.tuple #[.int .i64 0, .bool false])/\Below w.heap.size w w':=by
 go_enter Tryz.func113,Tryz.ntmps113
 go_wp2_with fail
 refine (Sn w s hs).mono ?_
 rintro e w' ⟨rfl,rfl⟩
 rw [hn]
 go_wp2
 go_ret2
 exact ⟨rfl,Below.refl _ _⟩
theorem zny(w:World)(s:ByteArray)(hs:s.size<4294967281)(hn:Jd s=true)(v:Int)(hv:Hid (Lib.parseIntB 64 s.data.toList= .ok v)):
  Cl 113 #[.string s] w λe w'=>e= .returned (.tuple #[.int .i64 v, .bool true])/\Below w.heap.size w w':=by
 go_enter Tryz.func113,Tryz.ntmps113
 go_wp2_with fail
 refine (Sn w s hs).mono ?_
 rintro e w' ⟨rfl,rfl⟩
 rw [hn]
 go_wp2_with fail
 refine (Tryz.strconv_ParseInt_10_at64_ok s yl5 v hv.out _).mono ?_
 rintro e w2 ⟨rfl,h2⟩
 have HB:Hid (Below w'.heap.size w' w2):=by
  rcases h2 with rfl|⟨u,rfl⟩
  ·exact Below.refl _ _
  ·exact Lib.bytesWorld_below _ _ _
 clear h2
 go_wp2
 go_ret2
 exact ⟨rfl,HB.out⟩
theorem zfg(w:World)(s:ByteArray)(hs:s.size<4294967281)(hn:Jd s=true)
  (hc:Hid (Cl 138 #[.string s, .int .i64 10, .int .i64 64] w λe w'=>∃x te N,e= .returned (.tuple #[.int .i64 x, .iface te (ptr N)])/\Below w.heap.size w w')):
  Cl 113 #[.string s] w λe w'=>e= .returned (.tuple #[.int .i64 0, .bool false])/\Below w.heap.size w w':=by
 go_enter Tryz.func113,Tryz.ntmps113
 go_wp2_with fail
 refine (Sn w s hs).mono ?_
 rintro e w' ⟨rfl,rfl⟩
 rw [hn]
 go_wp2_with fail
 refine hc.out.mono ?_
 rintro e w2 ⟨x,te,N,rfl,h2⟩
 have HB:=hid h2
 clear h2 hc
 go_wp2
 go_ret2
 exact ⟨rfl,HB.out⟩
theorem Og(hE:Env w)(s:ByteArray)(hs:s.size<4294967281):
  Cl 113 #[.string s] w λe w'=>e= .returned (.tuple #[.int .i64 ((Qk s).getD 0), .bool (Qk s).isSome])/\Below w.heap.size w w':=by
 cases hn:Jd s with
 |false=>
  have e:Qk s=none:=by unfold Qk;simp [hn]
  rw [e]
  exact zqe w s hs hn
 |true=>
  cases hp:Lib.parseIntB 64 s.data.toList with
  |ok v=>
   have e:Qk s=some v:=ynf
   rw [e]
   exact zny w s hs hn v hp
  |range=>
   have e:Qk s=none:=ynf
   rw [e]
   obtain ⟨ev,h1,h2⟩:=hE.er
   refine zfg w s hs hn ((Tryz.strconv_ParseInt_10_at64_range s yl5 hp ev w h1 h2).mono ?_)
   rintro e w' ⟨N,he,_,_,hb⟩
   exact ⟨_,_,N,he,hb⟩
  |_=>
   have e:Qk s=none:=ynf
   rw [e]
   obtain ⟨ev,h1,h2⟩:=hE.es
   refine zfg w s hs hn ((Tryz.strconv_ParseInt_10_at64_syntax s yl5 hp ev w h1 h2).mono ?_)
   rintro e w' ⟨N,he,_,_,hb⟩
   exact ⟨_,_,N,he,hb⟩
def Jt(s:ByteArray):Option Nat:=match s.data.toList with
 |[a,b]=>if a=114/\48<=b.toNat/\b.toNat<56 then some (b.toNat- 48) else none
 |_=>none
theorem z8u(w:World)(b:UInt8)(hb:b.toNat<48\/56<=b.toNat):
  Cl 135 #[.string ⟨#[114,b]⟩] w λe w'=>e= .returned (.tuple #[.int .i64 0, .bool false])/\w'=w:=by
 rcases hb with hb|hb
 ·have hb':(((⟨#[114,b]⟩:ByteArray)[1]'(by show 1<2;omega)).toNat:Int)<48:=by show (b.toNat:Int)<48;omega
  go_enter Tryz.func135,Tryz.ntmps135
  go_wp2
  go_ret2
  exact ⟨rfl,rfl⟩
 ·have hb': ¬(((⟨#[114,b]⟩:ByteArray)[1]'(by show 1<2;omega)).toNat:Int)<48:=by show ¬(b.toNat:Int)<48;omega
  have hb2: ¬(((⟨#[114,b]⟩:ByteArray)[1]'(by show 1<2;omega)).toNat:Int)<56:=by show ¬(b.toNat:Int)<56;omega
  go_enter Tryz.func135,Tryz.ntmps135
  go_wp2
  go_ret2
  exact ⟨rfl,rfl⟩
theorem z7x(w:World)(s:ByteArray):
  Cl 135 #[.string s] w λe w'=>e= .returned (.tuple #[.int .i64 ((Jt s).getD 0), .bool (Jt s).isSome])/\w'=w:=by
 obtain ⟨⟨l⟩⟩:=s
 by_cases h:l.length=2
 ·match l,h with
  |[a,b],_=>
   by_cases ha:a=114
   ·subst ha
    by_cases hb:48<=b.toNat/\b.toNat<56
    ·have e:Jt ⟨⟨[114,b]⟩⟩=some (b.toNat- 48):=by show (if _ then _ else _)=_;rw [if_pos ⟨rfl,hb⟩]
     rw [e]
     have hbb:b=UInt8.ofNat (48+(b.toNat- 48)):=by rw [show 48+(b.toNat- 48)=b.toNat by omega];simp
     have k:=z9j w (b.toNat- 48) yl5
     rw [<-hbb] at k
     exact k
    ·have e:Jt ⟨⟨[114,b]⟩⟩=none:=by show (if _ then _ else _)=_;rw [if_neg (λh=>hb h.2)]
     rw [e]
     exact z8u w b yl5
   ·have e:Jt ⟨⟨[a,b]⟩⟩=none:=by show (if _ then _ else _)=_;rw [if_neg (λh=>ha h.1)]
    rw [e]
    exact z8w w a b ha
 ·have e:Jt ⟨⟨l⟩⟩=none:=by
   show (match l with|[a,b]=>_|_=>none)=none
   match l,h with
   |[],_=>rfl
   |[_],_=>rfl
   |_::_::_::_,_=>rfl
  rw [e]
  exact z8y w _ (by show l.toArray.size≠2;simpa using h)
def SzOk(ws:List ByteArray):Prop:=ws.length<1000000/\ ∀u∈ws,u.size<4294967281
theorem SzOk.tail(h:SzOk (u::ws)):SzOk ws:=⟨by have:=h.1;simp at this;omega,λv hv=>h.2 v (List.mem_cons_of_mem _ hv)⟩
theorem SzOk.head(h:SzOk (u::ws)):u.size<4294967281:=h.2 u (List.mem_cons_self)
theorem SzOk.len(h:SzOk (u::ws)):ws.length<1000000:=h.tail.1
def zhi:List ByteArray->Option (Nat×List ByteArray)
 |[]=>none
 |u::ws=>(Jt u).map λr=>(r,ws)
def zco:List ByteArray->Option (Int×List ByteArray)
 |[]=>none
 |u::ws=>(Qk u).map λv=>(v,ws)
def zbp:List ByteArray->Option (Vl×List ByteArray)
 |[]=>none
 |u::ws=>match Jt u with
  |some r=>some (⟨true,r⟩,ws)
  |none=>(Qk u).map λv=>(⟨false,v⟩,ws)
def gIn(lo hi:Int)(ws:List ByteArray):Option (Int×List ByteArray):=(zco ws).bind λp=>if lo<=p.1/\p.1<=hi then some p else none
def Ez(ws:List ByteArray):Option ((Vl×Int)×List ByteArray):=(zbp ws).bind λp=>(zco p.2).map λq=>((p.1,q.1),q.2)
section
variable{w:World}{bl bw:Nat}{n:Int}{ws:List ByteArray}
theorem z8l(h:LineAt w bl n bw ws)(hz:SzOk ws):
  Cl 104 #[ptr bl] w λe w'=>Rds bl n bw w ((zhi ws).map λp=>(.int .i64 p.1,p.2)) e w':=by
 have H:=hid h
 clear h
 cases ws with
 |nil=>
  go_enter Tryz.func104,Tryz.ntmps104
  go_wp2_with fail
  refine (Fg H.out).mono ?_
  rintro e w1 ⟨bf,rfl,h1⟩
  exact ⟨rfl,bf,rfl,h1⟩
 |cons u ws=>
  cases hr:Jt u with
  |some r=>
   have e:((zhi (u::ws)).map λp=>((.int .i64 p.1:Value),p.2))=some (.int .i64 r,ws):=by simp [zhi,hr]
   rw [e]
   go_enter Tryz.func104,Tryz.ntmps104
   go_wp2_with fail
   refine (Ve H.out hz.len).mono ?_
   rintro e w1 ⟨rfl,h1,c1⟩
   have H1:=hid h1
   have C1:=hid c1
   clear h1 c1
   go_wp2_with fail
   refine (z7x w1 u).mono ?_
   rintro e w2 ⟨rfl,rfl⟩
   rw [hr]
   go_wp2
   go_ret
   exact ⟨rfl,H1.out,C1.out⟩
  |none=>
   have e:((zhi (u::ws)).map λp=>((.int .i64 p.1:Value),p.2))=none:=by simp [zhi,hr]
   rw [e]
   go_enter Tryz.func104,Tryz.ntmps104
   go_wp2_with fail
   refine (Ve H.out hz.len).mono ?_
   rintro e w1 ⟨rfl,h1,c1⟩
   have H1:=hid h1
   have C1:=hid c1
   clear h1 c1
   go_wp2_with fail
   refine (z7x w1 u).mono ?_
   rintro e w2 ⟨rfl,rfl⟩
   rw [hr]
   go_wp2_with fail
   refine (Jv H1.out 2).mono ?_
   intro e w3 h3
   obtain ⟨bf,rfl,h4⟩:=h3.after C1.out
   exact ⟨rfl,bf,rfl,h4⟩
theorem Sd(h:LineAt w bl n bw ws)(hE:Hid (Env w))(hbl:10<=bl)(hz:SzOk ws):
  Cl 111 #[ptr bl] w λe w'=>Rds bl n bw w ((zco ws).map λp=>(.int .i64 p.1,p.2)) e w':=by
 have H:=hid h
 clear h
 cases ws with
 |nil=>
  go_enter Tryz.func111,Tryz.ntmps111
  go_wp2_with fail
  refine (Fg H.out).mono ?_
  rintro e w1 ⟨bf,rfl,h1⟩
  exact ⟨rfl,bf,rfl,h1⟩
 |cons u ws=>
  cases hr:Qk u with
  |some r=>
   have e:((zco (u::ws)).map λp=>((.int .i64 p.1:Value),p.2))=some (.int .i64 r,ws):=by simp [zco,hr]
   rw [e]
   go_enter Tryz.func111,Tryz.ntmps111
   go_wp2_with fail
   refine (Ve H.out hz.len).mono ?_
   rintro e w1 ⟨rfl,h1,c1⟩
   have H1:=hid h1
   have C1:=hid c1
   clear h1 c1
   go_wp2_with fail
   refine (Og (hE.out.line C1.out hbl) u hz.head).mono ?_
   rintro e w2 ⟨rfl,b2⟩
   have H2:=hid (H1.out.below b2)
   have C2:=hid (C1.out.trans (Chg.of_below b2))
   clear b2 H1 C1
   rw [hr]
   go_wp2
   go_ret
   exact ⟨rfl,H2.out,C2.out⟩
  |none=>
   have e:((zco (u::ws)).map λp=>((.int .i64 p.1:Value),p.2))=none:=by simp [zco,hr]
   rw [e]
   go_enter Tryz.func111,Tryz.ntmps111
   go_wp2_with fail
   refine (Ve H.out hz.len).mono ?_
   rintro e w1 ⟨rfl,h1,c1⟩
   have H1:=hid h1
   have C1:=hid c1
   clear h1 c1
   go_wp2_with fail
   refine (Og (hE.out.line C1.out hbl) u hz.head).mono ?_
   rintro e w2 ⟨rfl,b2⟩
   have H2:=hid (H1.out.below b2)
   have C2:=hid (C1.out.trans (Chg.of_below b2))
   clear b2 H1 C1
   rw [hr]
   go_wp2_with fail
   refine (Jv H2.out 2).mono ?_
   intro e w3 h3
   obtain ⟨bf,rfl,h4⟩:=h3.after C2.out
   exact ⟨rfl,bf,rfl,h4⟩
theorem z82(h:LineAt w bl n bw ws)(hE:Hid (Env w))(hbl:10<=bl)(hz:SzOk ws):
  Cl 105 #[ptr bl] w λe w'=>Rds bl n bw w ((zbp ws).map λp=>(z7o p.1,p.2)) e w':=by
 have H:=hid h
 clear h
 cases ws with
 |nil=>
  go_enter Tryz.func105,Tryz.ntmps105
  go_wp2_with fail
  refine (Fg H.out).mono ?_
  rintro e w1 ⟨bf,rfl,h1⟩
  exact ⟨rfl,bf,rfl,h1⟩
 |cons u ws=>
  cases hr:Jt u with
  |some r=>
   have e:((zbp (u::ws)).map λp=>(z7o p.1,p.2))=some (.iface 227 (.int .i64 r),ws):=by simp [zbp,hr,z7o]
   rw [e]
   go_enter Tryz.func105,Tryz.ntmps105
   go_wp2_with fail
   refine (Ve H.out hz.len).mono ?_
   rintro e w1 ⟨rfl,h1,c1⟩
   have H1:=hid h1
   have C1:=hid c1
   clear h1 c1
   go_wp2_with fail
   refine (z7x w1 u).mono ?_
   rintro e w2 ⟨rfl,rfl⟩
   rw [hr]
   go_wp2
   go_ret
   exact ⟨rfl,H1.out,C1.out⟩
  |none=>
   cases hv:Qk u with
   |some v=>
    have e:((zbp (u::ws)).map λp=>(z7o p.1,p.2))=some (.iface 283 (.int .i64 v),ws):=by simp [zbp,hr,hv,z7o]
    rw [e]
    go_enter Tryz.func105,Tryz.ntmps105
    go_wp2_with fail
    refine (Ve H.out hz.len).mono ?_
    rintro e w1 ⟨rfl,h1,c1⟩
    have H1:=hid h1
    have C1:=hid c1
    clear h1 c1
    go_wp2_with fail
    refine (z7x w1 u).mono ?_
    rintro e w2 ⟨rfl,rfl⟩
    rw [hr]
    go_wp2_with fail
    refine (Og (hE.out.line C1.out hbl) u hz.head).mono ?_
    rintro e w2 ⟨rfl,b2⟩
    have H2:=hid (H1.out.below b2)
    have C2:=hid (C1.out.trans (Chg.of_below b2))
    clear b2 H1 C1
    rw [hv]
    go_wp2
    go_ret
    exact ⟨rfl,H2.out,C2.out⟩
   |none=>
    have e:((zbp (u::ws)).map λp=>(z7o p.1,p.2))=none:=by simp [zbp,hr,hv]
    rw [e]
    go_enter Tryz.func105,Tryz.ntmps105
    go_wp2_with fail
    refine (Ve H.out hz.len).mono ?_
    rintro e w1 ⟨rfl,h1,c1⟩
    have H1:=hid h1
    have C1:=hid c1
    clear h1 c1
    go_wp2_with fail
    refine (z7x w1 u).mono ?_
    rintro e w2 ⟨rfl,rfl⟩
    rw [hr]
    go_wp2_with fail
    refine (Og (hE.out.line C1.out hbl) u hz.head).mono ?_
    rintro e w2 ⟨rfl,b2⟩
    have H2:=hid (H1.out.below b2)
    have C2:=hid (C1.out.trans (Chg.of_below b2))
    clear b2 H1 C1
    rw [hv]
    go_wp2_with fail
    refine (Jv H2.out 2).mono ?_
    intro e w3 h3
    obtain ⟨bf,rfl,h4⟩:=h3.after C2.out
    exact ⟨rfl,bf,rfl,h4⟩
end
theorem z7r(x:Vl): ∃T p,z7o x= .iface T p:=by
 unfold z7o
 split
 ·exact ⟨_,_,rfl⟩
 ·exact ⟨_,_,rfl⟩
section
variable{w:World}{bl bw:Nat}{n:Int}{ws ws1:List ByteArray}{x:Vl}{T:TypeId}{p:Value}{r:Nat}{v:Int}
theorem z9z(hv:zhi ws=some (r,ws1))(hz:SzOk ws):SzOk ws1:=by
 cases ws with
 |nil=>simp [zhi] at hv
 |cons u ws=>simp [zhi] at hv;obtain ⟨_,_,_,e⟩:=hv;exact e▸hz.tail
theorem zzj(hv:zco ws=some (v,ws1))(hz:SzOk ws):SzOk ws1:=by
 cases ws with
 |nil=>simp [zco] at hv
 |cons u ws=>simp [zco] at hv;obtain ⟨_,_,_,e⟩:=hv;exact e▸hz.tail
theorem z76(hv:zbp ws=some (x,ws1))(hz:SzOk ws):SzOk ws1:=by
 cases ws with
 |nil=>simp [zbp] at hv
 |cons u ws=>
  simp only [zbp] at hv
  split at hv
  ·simp at hv;exact hv.2▸hz.tail
  ·simp at hv;obtain ⟨_,_,_,e⟩:=hv;exact e▸hz.tail
theorem z13(hv:gIn lo hi ws=some (v,ws1))(hz:SzOk ws):SzOk ws1:=by
 unfold gIn at hv
 cases h:zco ws with
 |none=>simp [h] at hv
 |some q=>
  simp [h] at hv
  exact zzj (v:=q.1) (by rw [h];exact congrArg some (Prod.ext rfl (by rw [hv.2]))) hz
theorem z9p{c:Vl×Int}(hv:Ez ws=some (c,ws1))(hz:SzOk ws):SzOk ws1:=by
 unfold Ez at hv
 cases h:zbp ws with
 |none=>simp [h] at hv
 |some q=>
  cases h2:zco q.2 with
  |none=>simp [h,h2] at hv
  |some q2=>
   simp [h,h2] at hv
   exact zzj (v:=q2.1) (by rw [h2];exact congrArg some (Prod.ext rfl hv.2)) (z76 (x:=q.1) (ws1:=q.2) h hz)
theorem z83(h:LineAt w bl n bw ws)(hz:SzOk ws)(hv:zhi ws=some (r,ws1)):
  Cl 104 #[ptr bl] w λe w'=>e= .returned (.int .i64 r)/\LineAt w' bl n bw ws1/\Chg (Jo bl) w w':=by
 have k:=z8l h hz
 rw [hv] at k
 exact k
theorem yd8(h:LineAt w bl n bw ws)(hz:SzOk ws)(hv:zhi ws=none):
  Cl 104 #[ptr bl] w λe w'=>Fails 2 n bl w e w':=by
 have k:=z8l h hz
 rw [hv] at k
 exact k
theorem z84(h:LineAt w bl n bw ws)(hE:Env w)(hbl:10<=bl)(hz:SzOk ws)(hv:zbp ws=some (x,ws1))(hT:z7o x= .iface T p):
  Cl 105 #[ptr bl] w λe w'=>e= .returned (.iface T p)/\LineAt w' bl n bw ws1/\Chg (Jo bl) w w':=by
 have k:=z82 h hE hbl hz
 rw [hv,<-hT] at*
 exact k
theorem z97(h:LineAt w bl n bw ws)(hE:Env w)(hbl:10<=bl)(hz:SzOk ws)(hv:zbp ws=none):
  Cl 105 #[ptr bl] w λe w'=>Fails 2 n bl w e w':=by
 have k:=z82 h hE hbl hz
 rw [hv] at k
 exact k
theorem z14(h:LineAt w bl n bw ws)(hE:Env w)(hbl:10<=bl)(hz:SzOk ws)(hv:zco ws=some (v,ws1)):
  Cl 111 #[ptr bl] w λe w'=>e= .returned (.int .i64 v)/\LineAt w' bl n bw ws1/\Chg (Jo bl) w w':=by
 have k:=Sd h hE hbl hz
 rw [hv] at k
 exact k
theorem z4v(h:LineAt w bl n bw ws)(hE:Env w)(hbl:10<=bl)(hz:SzOk ws)(hv:zco ws=none):
  Cl 111 #[ptr bl] w λe w'=>Fails 2 n bl w e w':=by
 have k:=Sd h hE hbl hz
 rw [hv] at k
 exact k
theorem zqf(h:LineAt w bl n bw ws)(hE:Env w)(hbl:10<=bl)(hz:SzOk ws)(hv:gIn lo hi ws=some (v,ws1)):
  Cl 74 #[ptr bl, .int .i64 lo, .int .i64 hi] w λe w'=>e= .returned (.int .i64 v)/\LineAt w' bl n bw ws1/\Chg (Jo bl) w w':=by
 have H:=hid h
 have HE:=hid hE
 clear h hE
 obtain ⟨hn,h1,h2⟩:zco ws=some (v,ws1)/\ ¬v<lo/\ ¬hi<v:=by
  unfold gIn at hv
  cases h:zco ws with
  |none=>simp [h] at hv
  |some q=>
   simp [h] at hv
   obtain ⟨⟨a,b⟩,rfl⟩:=hv
   exact ⟨rfl,by omega,by omega⟩
 go_enter Tryz.func74,Tryz.ntmps74
 go_wp2_with fail
 refine (z14 H.out HE.out hbl hz hn).mono ?_
 rintro e w1 ⟨rfl,h3,c1⟩
 have H1:=hid h3
 have C1:=hid c1
 clear h3 c1
 go_wp2
 go_ret
 exact ⟨rfl,H1.out,C1.out⟩
theorem z15(h:LineAt w bl n bw ws)(hE:Env w)(hbl:10<=bl)(hz:SzOk ws)(hv:gIn lo hi ws=none):
  Cl 74 #[ptr bl, .int .i64 lo, .int .i64 hi] w λe w'=>Fails 2 n bl w e w':=by
 have H:=hid h
 have HE:=hid hE
 clear h hE
 cases hn:zco ws with
 |none=>
  go_enter Tryz.func74,Tryz.ntmps74
  go_wp2_with fail
  refine (z4v H.out HE.out hbl hz hn).mono ?_
  rintro e w1 ⟨bf,rfl,h1⟩
  exact ⟨rfl,bf,rfl,h1⟩
 |some q=>
  obtain ⟨v,ws1⟩:=q
  have hq:v<lo\/(¬v<lo/\hi<v):=by
   simp [gIn,hn] at hv
   omega
  rcases hq with hq|⟨hq1,hq2⟩
  all_goals
   go_enter Tryz.func74,Tryz.ntmps74
   go_wp2_with fail
   refine (z14 H.out HE.out hbl hz hn).mono ?_
   rintro e w1 ⟨rfl,h3,c1⟩
   have H1:=hid h3
   have C1:=hid c1
   clear h3 c1
   go_wp2_with fail
   refine (Jv H1.out 2).mono ?_
   intro e w3 h3
   obtain ⟨bf,rfl,h4⟩:=h3.after C1.out
   exact ⟨rfl,bf,rfl,h4⟩
theorem yh0(h:LineAt w bl n bw ws)(hE:Env w)(hbl:10<=bl)(hz:SzOk ws)(hv:gIn 0 4000 ws=some (v,ws1)):
  Cl 107 #[ptr bl] w λe w'=>e= .returned (.int .i64 v)/\LineAt w' bl n bw ws1/\Chg (Jo bl) w w':=by
 have H:=hid h
 have HE:=hid hE
 clear h hE
 have hb:0<=v/\v<=4000:=by
  unfold gIn at hv
  cases h:zco ws with
  |none=>simp [h] at hv
  |some q=>
   simp [h] at hv
   obtain ⟨⟨a,b⟩,rfl⟩:=hv
   exact ⟨a,b⟩
 go_enter Tryz.func107,Tryz.ntmps107
 go_wp2_with fail
 refine (zqf H.out HE.out hbl hz hv).mono ?_
 rintro e w1 ⟨rfl,h3,c1⟩
 have H1:=hid h3
 have C1:=hid c1
 clear h3 c1
 go_wp2
 go_ret
 exact ⟨rfl,H1.out,C1.out⟩
theorem yh1(h:LineAt w bl n bw ws)(hE:Env w)(hbl:10<=bl)(hz:SzOk ws)(hv:gIn 0 4000 ws=none):
  Cl 107 #[ptr bl] w λe w'=>Fails 2 n bl w e w':=by
 have H:=hid h
 have HE:=hid hE
 clear h hE
 go_enter Tryz.func107,Tryz.ntmps107
 go_wp2_with fail
 refine (z15 H.out HE.out hbl hz hv).mono ?_
 rintro e w1 ⟨bf,rfl,h1⟩
 exact ⟨rfl,bf,rfl,h1⟩
theorem ya0(h:LineAt w bl n bw ws)(hE:Env w)(hbl:10<=bl)(hz:SzOk ws)(hv:Ez ws=some ((x,v),ws1))(hT:z7o x= .iface T p):
  Cl 106 #[ptr bl] w λe w'=>e= .returned (.agg #[.iface T p, .int .i64 v])/\LineAt w' bl n bw ws1/\Chg (Jo bl) w w':=by
 have H:=hid h
 have HE:=hid hE
 clear h hE
 obtain ⟨ws2,h1,h2⟩: ∃ws2,zbp ws=some (x,ws2)/\zco ws2=some (v,ws1):=by
  unfold Ez at hv
  cases h:zbp ws with
  |none=>simp [h] at hv
  |some q=>
   cases h2:zco q.2 with
   |none=>simp [h,h2] at hv
   |some q2=>
    simp [h,h2] at hv
    obtain ⟨⟨rfl,rfl⟩,rfl⟩:=hv
    exact ⟨q.2,rfl,h2⟩
 go_enter Tryz.func106,Tryz.ntmps106
 go_wp2_with fail
 have hb0:Below w.heap.size w (w.alloc (.cells #[.nilIface, .int .i64 0] 237)):=(Below.refl _ w).alloc (Nat.le_refl _) _
 refine (z84 (H.out.below hb0) (HE.out.below hb0) hbl hz h1 hT).mono ?_
 rintro e w1 ⟨rfl,g1,c1⟩
 have hbn: ¬Jo bl w.heap.size 0/\ ¬Jo bl w.heap.size 1:=⟨λe=>by have:=H.out.lt;omega,λe=>by have:=H.out.lt;omega⟩
 have hsz:w.heap.size<(w.alloc (.cells #[.nilIface, .int .i64 0] 237)).heap.size:=by show w.heap.size<(w.heap.push _).size;rw [Array.size_push];omega
 have k0:=(c1.cell w.heap.size 0 hsz hbn.1).trans (World.cell?_alloc_new w #[.nilIface, .int .i64 0] 237 0)
 have k1:=(c1.cell w.heap.size 1 hsz hbn.2).trans (World.cell?_alloc_new w #[.nilIface, .int .i64 0] 237 1)
 have f0:=c1.frozen w.heap.size 0 hsz
 have f1:=c1.frozen w.heap.size 1 hsz
 have H1:=hid g1
 have C1:=hid ((Chg.of_below hb0).trans c1)
 have Z1:=hid (Nat.lt_of_lt_of_le hsz c1.size)
 clear g1 c1 hb0
 go_wp2_with fail
 refine (z14 H1.out (HE.out.line C1.out hbl) hbl (z76 h1 hz) h2).mono ?_
 rintro e w2 ⟨rfl,g2,c2⟩
 have k0':=(c2.cell w.heap.size 0 Z1.out hbn.1).trans k0
 have k1':=(c2.cell w.heap.size 1 Z1.out hbn.2).trans k1
 have f0':=(c2.frozen w.heap.size 0 Z1.out).trans f0
 have f1':=(c2.frozen w.heap.size 1 Z1.out).trans f1
 simp at k0' k1' f0' f1'
 have H2:=hid g2
 have C2:=hid (C1.out.trans c2)
 clear g2 c2 H1 C1 k0 k1 f0 f1
 go_wp2
 have d1:Chg (λk _=>k=w.heap.size) w2 ((w2.setCell ⟨w.heap.size,0,none⟩ (.iface T p)).setCell ⟨w.heap.size,1,none⟩ (.int .i64 v)):=
  ((Chg.refl (λk _=>k=w.heap.size) w2).setCell (b:=w.heap.size) (o:=0) (λ_=>rfl) _).setCell (b:=w.heap.size) (o:=1) (λ_=>rfl) _
 have d2:Chg (Jo bl) w ((w2.setCell ⟨w.heap.size,0,none⟩ (.iface T p)).setCell ⟨w.heap.size,1,none⟩ (.int .i64 v)):=
  (C2.out.setCell (λh=>absurd h (Nat.lt_irrefl _)) _).setCell (λh=>absurd h (Nat.lt_irrefl _)) _
 have g1:=H2.out.keep d1 (λ_ e=>by have:=H.out.lt;omega) (λ_ e=>by have:=H.out.ltw;omega)
 have e0:((w2.setCell ⟨w.heap.size,0,none⟩ (.iface T p)).setCell ⟨w.heap.size,1,none⟩ (.int .i64 v)).cell? ⟨w.heap.size,0,none⟩=some (.iface T p):=
  (Qb (.inr yl8)).trans (Qg k0' rfl)
 have e1:((w2.setCell ⟨w.heap.size,0,none⟩ (.iface T p)).setCell ⟨w.heap.size,1,none⟩ (.int .i64 v)).cell? ⟨w.heap.size,1,none⟩=some (.int .i64 v):=
  Qg ((Qb (.inr yl8)).trans k1') rfl
 generalize (w2.setCell ⟨w.heap.size,0,none⟩ (.iface T p)).setCell ⟨w.heap.size,1,none⟩ (.int .i64 v)=w3 at*
 refine bodyPost_ret (v:= .agg #[.iface T p, .int .i64 v]) (by simp [results,Tryz.results106,go_sem,e0,e1]) rfl ⟨rfl,g1,d2⟩
theorem yfl(h:LineAt w bl n bw ws)(hE:Env w)(hbl:10<=bl)(hz:SzOk ws)(hv:Ez ws=none):
  Cl 106 #[ptr bl] w λe w'=>Fails 2 n bl w e w':=by
 have H:=hid h
 have HE:=hid hE
 clear h hE
 cases h1:zbp ws with
 |none=>
  go_enter Tryz.func106,Tryz.ntmps106
  go_wp2_with fail
  have hb0:Below w.heap.size w (w.alloc (.cells #[.nilIface, .int .i64 0] 237)):=(Below.refl _ w).alloc (Nat.le_refl _) _
  refine (z97 (H.out.below hb0) (HE.out.below hb0) hbl hz h1).mono ?_
  intro e w3 h3
  obtain ⟨bf,rfl,h4⟩:=h3.after (Chg.of_below hb0)
  exact ⟨rfl,bf,rfl,h4⟩
 |some q=>
  obtain ⟨x,ws2⟩:=q
  have h2:zco ws2=none:=by
   cases h2:zco ws2 with
   |none=>rfl
   |some q2=>simp [Ez,h1,h2] at hv
  obtain ⟨T,p,hT⟩:=z7r x
  go_enter Tryz.func106,Tryz.ntmps106
  go_wp2_with fail
  have hb0:Below w.heap.size w (w.alloc (.cells #[.nilIface, .int .i64 0] 237)):=(Below.refl _ w).alloc (Nat.le_refl _) _
  refine (z84 (H.out.below hb0) (HE.out.below hb0) hbl hz h1 hT).mono ?_
  rintro e w1 ⟨rfl,h3,c1⟩
  have H1:=hid h3
  have C1:=hid ((Chg.of_below hb0).trans c1)
  clear h3 c1 hb0
  go_wp2_with fail
  refine (z4v H1.out (HE.out.line C1.out hbl) hbl (z76 h1 hz) h2).mono ?_
  intro e w3 h3
  obtain ⟨bf,rfl,h4⟩:=h3.after C1.out
  exact ⟨rfl,bf,rfl,h4⟩
end
end Go.Proofs.YtiiepngikigmbaaGreatDoor
