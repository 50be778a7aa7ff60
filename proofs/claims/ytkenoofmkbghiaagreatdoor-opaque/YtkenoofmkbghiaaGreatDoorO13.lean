import Derived.WalkLawsBesides
import Derived.Test.YtkenoofmkbghiaaGreatDoorO12
set_option maxRecDepth 100000
set_option maxHeartbeats 1000000
namespace Go.Proofs.YtkenoofmkbghiaaGreatDoor
open Go.RowKit
variable{u:ByteArray}{W w w' w1:World}{B bl bw c cap g i k x y:Nat}{er hi lo n:Int}{m:Nat->Int}{ws:List ByteArray}{a:Option Addr}{bt ic:Ic}{xs:List Value}{iv ov p v:Value}{M:Nat->Nat->Prop}{T e:TypeId}{o:Obj}{acc acc0:List (List Ic)}
structure LineAt(w:World)(bl:Nat)(n:Int)(bw:Nat)(ws:List ByteArray):Prop where
 sh:w.shape? bl=some (150,2)
 num:w.cell? ⟨bl,0,none⟩=some (.int .i64 n)
 wds: ∃o cap,ws.length<=cap/\w.cell? ⟨bl,1,none⟩=some (.slice (some ⟨bw,o,none⟩) ws.length cap)/\ ∀j (h:j<ws.length),w.cell? ⟨bw,o+j,none⟩=some (.string ws[j])
 free:w.frozen? ⟨bl,1,none⟩=false
 ne:bw≠bl
 ltw:bw<w.heap.size
theorem LineAt.lt(h:LineAt w bl n bw ws):bl<w.heap.size:=Qd h.sh
theorem LineAt.keep(h:LineAt w bl n bw ws)(hc:Chg M w w')(h1: ∀i,¬M bl i)(h2: ∀i,¬M bw i):LineAt w' bl n bw ws:={
 sh:=(hc.shape bl h.lt).trans h.sh
 num:=(hc.cell bl _ h.lt (h1 _)).trans h.num
 wds:=by
  obtain ⟨o,cap,hl,hs,hcs⟩:=h.wds
  exact ⟨o,cap,hl,(hc.cell bl _ h.lt (h1 _)).trans hs,λj hj=>(hc.cell bw _ h.ltw (h2 _)).trans (hcs j hj)⟩
 free:=(hc.frozen bl _ h.lt).trans h.free
 ne:=h.ne
 ltw:=Nat.lt_of_lt_of_le h.ltw hc.size}
abbrev Jo(bl:Nat):Nat->Nat->Prop:=λk i=>k=bl/\i=1
theorem LineAt.next(h:LineAt w bl n bw (u::ws))(o cap:Nat)(hl:ws.length<=cap)(hcs: ∀j (h:j<ws.length),w.cell? ⟨bw,o+j,none⟩=some (.string ws[j])):
  LineAt (w.setCell ⟨bl,1,none⟩ (.slice (some ⟨bw,o,none⟩) ws.length cap)) bl n bw ws/\Chg (Jo bl) w (w.setCell ⟨bl,1,none⟩ (.slice (some ⟨bw,o,none⟩) ws.length cap)):=by
 obtain ⟨o',cap',_,hs,_⟩:=h.wds
 have hc:Chg (Jo bl) w (w.setCell ⟨bl,1,none⟩ (.slice (some ⟨bw,o,none⟩) ws.length cap)):=(Chg.refl _ w).setCell (λ_=>⟨rfl,rfl⟩) _
 refine ⟨⟨(hc.shape bl h.lt).trans h.sh,(hc.cell bl 0 h.lt (λe=>by cases e.2)).trans h.num,⟨o,cap,hl,Qg hs rfl,λj hj=>(hc.cell bw _ h.ltw (λe=>h.ne e.1)).trans (hcs j hj)⟩,(hc.frozen bl _ h.lt).trans h.free,h.ne,Nat.lt_of_lt_of_le h.ltw hc.size⟩,hc⟩
theorem Ve(h:LineAt w bl n bw (u::ws))(hlen:ws.length<1000000):
  Cl 57 #[ptr bl] w λe w'=>e= .returned (.string u)/\LineAt w' bl n bw ws/\Chg (Jo bl) w w':=by
 obtain ⟨o,cap,hl,hs,hcs⟩:=h.wds
 have H:=hid h
 have hf:=h.free
 have h0:=hcs 0 yun
 simp only [List.getElem_cons_zero,Nat.add_zero] at h0
 have HC:=hid hcs
 clear hcs
 simp only [List.length_cons] at hs hl
 have hlt:=h.lt
 clear h
 go_enter Tryz.func57,Tryz.ntmps57
 go_wp2
 all_goals go_ret
 ·refine ⟨rfl,H.out.next o 0 yum (λj hj=>by omega)⟩
 ·refine ⟨rfl,H.out.next (o+1) (cap- 1) yum (λj hj=>?_)⟩
  have:=HC.out (j+1) yur
  rw [show o+1+j=o+(j+1) by omega,this];rfl
theorem Eo(h:LineAt w bl n bw []):
  Cl 62 #[ptr bl] w λe w'=>e= .returned (.tuple #[])/\w'=w:=by
 obtain ⟨o,cap,hl,hs,hcs⟩:=h.wds
 clear hcs h
 simp only [List.length_nil] at hs hl
 go_enter Tryz.func62,Tryz.ntmps62
 go_wp2
 go_end0
 exact ⟨rfl,rfl⟩
theorem LineAt.below(h:LineAt w bl n bw ws)(hb:Below w.heap.size w w'):LineAt w' bl n bw ws:=
 h.keep (M:=λ_ _=>False) (Chg.of_below hb) (λ_ h=>h) (λ_ h=>h)
section
variable{w:World}{bl bw:Nat}{n:Int}{ws:List ByteArray}{wd:Nat->ByteArray}
def zff:ByteArray:=⟨#[102,101,110,99,101]⟩
def znx:ByteArray:=⟨#[104,97,108,116]⟩
def zae:ByteArray:=⟨#[115,116,111,114,101]⟩
def zf9:ByteArray:=⟨#[108,111,97,100]⟩
def ze9:ByteArray:=⟨#[120,97,100,100]⟩
def zqd:ByteArray:=⟨#[99,97,115]⟩
def zzh:ByteArray:=⟨#[111,117,116]⟩
def zyl:ByteArray:=⟨#[109,111,118]⟩
def zzi:ByteArray:=⟨#[106,109,112]⟩
def wJz:ByteArray:=⟨#[106,122]⟩
end
section
variable{w:World}{bl bw:Nat}{n:Int}{ws:List ByteArray}{wd:Nat->ByteArray}
def Vj:ByteArray:=⟨#[116,104,114,101,97,100]⟩
theorem yfi:(Tryz.prog.info? 75).map (λi=>(i.zero,i.size,i.bytes))=some (some (.slice none 0 0),1,24):=yuo
theorem z9y(h:LineAt w bl n bw [Vj])(hk:k<3)(hv:v= .slice a k c)(ho:w.ownsRow 0 75 1 v k xs)(hob:v.ownBlock≠some bl)(how:v.ownBlock≠some bw):
  Cl 50 #[v,ptr bl] w λe w'=>∃g cap,e= .returned (.slice (some ⟨g,0,none⟩) (k+1) cap)/\w'.ownsRow 0 75 1 (.slice (some ⟨g,0,none⟩) (k+1) cap) (k+1) (xs++[.slice none 0 0])/\(v.ownBlock=some g\/w.heap.size<=g)/\LineAt w' bl n bw []/\Chg (λq i=>Jo bl q i\/v.ownBlock=some q) w w':=by
 obtain ⟨i0,hi,hz0,hz1,hz2⟩:=info_parts yfi
 have H0:=hid h
 have HO:=hid ho
 have hl1:k+1<=maxLen:=yus
 have hl2:(k+1)*24<=140737488355328:=yum
 clear h ho
 subst hv
 have hk': ¬(k:Int)=3:=yum
 go_enter Tryz.func50,Tryz.ntmps50
 go_wp2_with fail
 refine (Ve H0.out yun).mono ?_
 rintro e W1 ⟨rfl,h1,c1⟩
 have H1:=hid h1
 have C1:=hid c1
 have HO1:=hid (Qc HO.out c1 (λg hg i e=>hob (e.1▸hg)))
 clear h1 c1
 rw [show Vj=⟨#[116,104,114,101,97,100]⟩ from rfl]
 go_wp2_with fail
 refine (Eo H1.out).mono ?_
 rintro e W2 ⟨rfl,rfl⟩
 go_wp2_with (at_builtin;refine Zk rfl _ _ 72 rfl 75 i0 (.slice none 0 0) 24 Tryz.underlying72 hi hz0 hz1 hz2 rfl (.slice a k c) k _ rfl (HO1.out.alloc _) ⟨W2.heap.size,0,none⟩ (.slice none 0 0) rfl (cell_one_new _ _ _) rfl hl1 hl2 ?_;go_must (intro g cap w1 hown1 hch hg;have HC:=hid hown1;have HD:=hid hch;have HG:=hid hg;clear hown1 hch hg))
 go_ret
 have d1:Chg (λq _=>(Value.slice a k c).ownBlock=some q) W2 w1:=((Chg.refl _ W2).alloc _).trans HD.out
 refine ⟨g,cap,rfl,HC.out,?_,H1.out.keep d1 (λ_=>hob) (λ_=>how),(C1.out.mono (λq i _ e=> .inl e)).trans (d1.mono (λq i _ e=> .inr e))⟩
 rcases HG.out with e|e
 ·exact .inl e
 ·right;have:=C1.out.size;simp at e;omega
end
theorem Qm{n:Nat}(h:w.ownsRow 0 e 1 (.slice (some ⟨g,0,none⟩) n cap) n xs)(j:Nat)(hj:j<n):
  w.cell? ⟨g,j,none⟩=xs[j]?/\w.frozen? ⟨g,j,none⟩=false/\g<w.heap.size:=by
 rcases h.2 with ⟨h2,_⟩|⟨g',cap',cur,hv,_,hg,hn,hm,hs,ht⟩
 ·cases h2
 ·cases hv
  refine ⟨?_,?_,(Array.getElem?_eq_some_iff.1 hg).1⟩
  ·rw [<-ht]
   simp [World.cell?,hg,hj]
  ·simp [World.frozen?,hg]
theorem Ut{n:Nat}(h:w.ownsRow 0 e 1 (.slice (some ⟨g,0,none⟩) n cap) n xs)(j:Nat)(u:Value):
  (w.setCell ⟨g,j,none⟩ u).ownsRow 0 e 1 (.slice (some ⟨g,0,none⟩) n cap) n (xs.set j u):=by
 refine ⟨by simpa using h.1,?_⟩
 rcases h.2 with ⟨h2,_⟩|⟨g',cap',cur,hv,hb,hg,hn,hm,hs,ht⟩
 ·cases h2
 ·cases hv
  have hlt:=(Array.getElem?_eq_some_iff.1 hg).1
  refine .inr ⟨g,cap,cur.setIfInBounds j u,rfl,hb,?_,hn,hm,by simpa using hs,?_⟩
  ·rw [World.setCell];simp only [Array.getElem?_modify,hg];simp
  ·rw [<-ht];simp [List.take_set]
section
variable{w:World}{bl bw:Nat}{n:Int}{ws:List ByteArray}{wd:Nat->ByteArray}
theorem yfj(hc:Chg (λk _=>ov.ownBlock=some k) (W.alloc o) w1)(hg:ov.ownBlock≠some g)(hlt:g<W.heap.size)(h:W.cell? ⟨g,k,none⟩=some v):w1.cell? ⟨g,k,none⟩=some v:=
 (hc.cell g k yur hg).trans ((World.cell?_alloc_past _ _ _ hlt).trans h)
theorem yfk(hc:Chg (λk _=>ov.ownBlock=some k) (W.alloc o) w1)(hlt:g<W.heap.size)(h:W.frozen? ⟨g,k,none⟩=false):w1.frozen? ⟨g,k,none⟩=false:=
 (hc.frozen g k yur).trans ((World.frozen?_alloc_past _ _ _ hlt).trans h)
theorem ygv:(Tryz.prog.info? 141).map (λi=>(i.zero,i.size,i.bytes))=some (some .nilIface,1,16):=yuo
theorem z9h{m:Nat}{ys:List Value}(h:LineAt w bl n bw (u::ws))(hlen:ws.length<1000000)(hu:u≠Vj)(hk:k<3)
  (hr: ∀W,LineAt W bl n bw ws->Chg (Jo bl) w W->Cl 78 #[.string u,ptr bl] W λe w'=>e= .returned (.iface T p)/\LineAt w' bl n bw []/\Chg (Jo bl) W w')
  (ho:w.ownsRow 0 75 1 (.slice (some ⟨g,0,none⟩) (k+1) c) (k+1) xs) (hob:g≠bl) (how:g≠bw) (hx:xs[k]?=some iv) (hi:w.ownsRow 0 141 1 iv m ys) (him:m<4000) (hib:iv.ownBlock≠some bl) (hiw:iv.ownBlock≠some bw):
  Cl 50 #[.slice (some ⟨g,0,none⟩) (k+1) c,ptr bl] w λe w'=>e= .returned (.slice (some ⟨g,0,none⟩) (k+1) c)/\ ∃b cap,w'.ownsRow 0 141 1 (.slice (some ⟨b,0,none⟩) (m+1) cap) (m+1) (ys++[.iface T p])/\w'.ownsRow 0 75 1 (.slice (some ⟨g,0,none⟩) (k+1) c) (k+1) (xs.set k (.slice (some ⟨b,0,none⟩) (m+1) cap))/\(iv.ownBlock=some b\/w.heap.size<=b)/\LineAt w' bl n bw []/\Chg (λq i=>Jo bl q i\/iv.ownBlock=some q\/(q=g/\i=k)) w w':=by
 have hne:=Oz hu
 have H0:=hid h
 have HR:=hid hr
 have HO:=hid ho
 have HI:=hid hi
 have hk': ¬(k:Int)+1=0:=yum
 clear h hr ho hi hu
 go_enter Tryz.func50,Tryz.ntmps50
 go_wp2_with fail
 refine (Ve H0.out hlen).mono ?_
 rintro e W1 ⟨rfl,h1,c1⟩
 have H1:=hid h1
 have C1:=hid c1
 clear h1 c1
 rw [show Vj.toList=[116,104,114,101,97,100] from by rw [ByteArray.toList_eq];rfl] at hne
 go_wp2_with fail
 refine (HR.out W1 H1.out C1.out).mono ?_
 rintro e W2 ⟨rfl,h2,c2⟩
 have H2:=hid h2
 have C2:=hid (C1.out.trans c2)
 clear h2 c2 HR H1 C1
 go_wp2_with fail
 refine (Eo H2.out).mono ?_
 rintro e W3 ⟨rfl,rfl⟩
 have ho3:=Qc HO.out C2.out (λg' hg i e=>by simp [Value.ownBlock] at hg;exact hob (hg.trans e.1))
 have hi3:=Qc HI.out C2.out (λg' hg i e=>hib (e.1▸hg))
 obtain ⟨q1,q2,q3⟩:=Qm ho3 k yum
 rw [hx] at q1
 obtain ⟨ia,ic,rfl⟩: ∃ia ic,iv= .slice ia m ic:=by
  rcases hi3.2 with ⟨e1,e2⟩|⟨g',cap',cur,e1,_⟩
  ·exact ⟨none,0,by rw [e1,e2]⟩
  ·exact ⟨_,_,e1⟩
 have HO3:=hid ho3
 have HI3:=hid hi3
 have him': ¬(m:Int)=4000:=yum
 have hl1:m+1<=maxLen:=yus
 have hl2:(m+1)*16<=140737488355328:=yum
 obtain ⟨i0,hi0,hz0,hz1,hz2⟩:=info_parts ygv
 have hig:(Value.slice ia m ic).ownBlock≠some g:=λe=>by
  obtain ⟨x1,y1⟩:=z7e hi3 g e
  obtain ⟨x2,y2⟩:=z7e ho3 g rfl
  rw [y1] at y2
  simp at y2
 have HIG:=hid hig
 clear ho3 hi3 hig
 go_wp2_with (at_builtin;refine Zk rfl _ _ 75 rfl 141 i0 .nilIface 16 Tryz.underlying75 hi0 hz0 hz1 hz2 rfl (.slice ia m ic) m _ rfl (HI3.out.alloc _) ⟨W3.heap.size,0,none⟩ (.iface T p) rfl (cell_one_new _ _ _) rfl hl1 hl2 ?_;go_must (intro b cap w1 hown1 hch hg;have hcb:=yfj hch HIG.out q3 q1;have hfb:=yfk hch q3 q2;have HC:=hid hown1;have HD:=hid hch;have HG:=hid hg;clear hown1 hch hg))
 go_ret
 have d1:Chg (λq _=>(Value.slice ia m ic).ownBlock=some q) W3 w1:=((Chg.refl _ W3).alloc _).trans HD.out
 have d2:Chg (λq i=>q=g/\i=k) w1 (w1.setCell ⟨g,k,none⟩ (.slice (some ⟨b,0,none⟩) (m+1) cap)):=(Chg.refl (λq i=>q=g/\i=k) w1).setCell (b:=g) (o:=k) (λ_=>⟨rfl,rfl⟩) _
 have hbg:b≠g:=by
  rcases HG.out with e|e
  ·exact λe'=>HIG.out (e'▸e)
  ·simp at e;omega
 refine ⟨rfl,b,cap,Qc HC.out d2 (λg' hg' i e=>by simp [Value.ownBlock] at hg';exact hbg (hg'.trans e.1)),Ut (Qc HO3.out d1 (λg' hg' i e=>by simp [Value.ownBlock] at hg';exact HIG.out (hg'▸e))) k _,?_,(H2.out.keep d1 (λ_=>hib) (λ_=>hiw)).keep d2 (λ_ e=>hob e.1.symm) (λ_ e=>how e.1.symm),((C2.out.mono (λq i _ e=> .inl e)).trans (d1.mono (λq i _ e=> .inr (.inl e)))).trans (d2.mono (λq i _ e=> .inr (.inr e)))⟩
 rcases HG.out with e|e
 ·exact .inl e
 ·right;have:=C2.out.size;simp at e;omega
end
section
variable{w:World}{bl bw:Nat}{n:Int}{ws:List ByteArray}
theorem yak{bt:Nat}{R:Option Addr->Nat->Nat->World->Prop}(hc:w.cell? ⟨bt,0,none⟩=some v)
  (hcall:Cl 50 #[v,ptr bl] w λe w'=>∃a k c,e= .returned (.slice a k c)/\R a k c w'/\w'.cell? ⟨bt,0,none⟩=some v/\w'.frozen? ⟨bt,0,none⟩=false):
  Cl 49 #[ptr bl,ptr bt] w λe w'=>e= .returned (.tuple #[])/\ ∃a k c w1,R a k c w1/\w1.cell? ⟨bt,0,none⟩=some v/\w'=w1.setCell ⟨bt,0,none⟩ (.slice a k c):=by
 have HC:=hid hcall
 clear hcall
 go_enter Tryz.func49,Tryz.ntmps49
 go_wp2_with fail
 refine HC.out.mono ?_
 rintro e w1 ⟨a,k,c,rfl,hr,h1,h2⟩
 have HR:=hid hr
 clear hr HC
 go_wp2
 go_end0
 exact ⟨rfl,a,k,c,w1,HR.out,h1,rfl⟩
end
abbrev zga(bf:Nat):List PanicEntry:=[{v:= .iface 145 (.agg #[ptr bf]),recovered:=false}]
def Fails(er n:Int)(bl:Nat)(w:World)(e:Ending)(w':World):Prop:=
 ∃bf,e= .panicked (zga bf)/\w.heap.size<=bf/\w'.cell? ⟨bf,0,none⟩=some (.int .i64 er)/\w'.cell? ⟨bf,1,none⟩=some (.int .i64 n)/\Chg (Jo bl) w w'
theorem Jv(h:LineAt w bl n bw ws)(er:Int):
  Cl 56 #[ptr bl, .int .i64 er] w λe w'=>Fails er n bl w e w':=by
 have hn:=h.num
 have hlt:=h.lt
 have H:=hid h
 clear h
 go_enter Tryz.func56,Tryz.ntmps56
 go_wp2
 refine ⟨rfl,w.heap.size,rfl,Nat.le_refl _,World.cell?_alloc_new _ _ _ 0,World.cell?_alloc_new _ _ _ 1,(Chg.refl _ w).alloc _⟩
theorem Fg(h:LineAt w bl n bw []):
  Cl 57 #[ptr bl] w λe w'=>Fails 2 n bl w e w':=by
 obtain ⟨o,cap,hl,hs,_⟩:=h.wds
 simp only [List.length_nil] at hs
 have H:=hid h
 clear h
 go_enter Tryz.func57,Tryz.ntmps57
 go_wp2_with (go_at_call 82;go_in)
 refine (Jv H.out 2).mono ?_
 rintro e w1 ⟨bf,rfl,h1⟩
 exact ⟨rfl,bf,rfl,h1⟩
theorem Fails.after{e:Ending}(h:Fails er n bl w1 e w')(c:Chg (Jo bl) w w1):Fails er n bl w e w':=by
 obtain ⟨bf,h1,h2,h3,h4,h5⟩:=h
 exact ⟨bf,h1,Nat.le_trans c.size h2,h3,h4,c.trans h5⟩
theorem zc0(h:LineAt w bl n bw (u::ws)):
  Cl 62 #[ptr bl] w λe w'=>Fails 2 n bl w e w':=by
 obtain ⟨o,cap,hl,hs,_⟩:=h.wds
 simp only [List.length_cons] at hs
 have H:=hid h
 clear h
 go_enter Tryz.func62,Tryz.ntmps62
 go_wp2_with (go_at_call 82;go_in)
 refine (Jv H.out 2).mono ?_
 rintro e w1 ⟨bf,rfl,h1⟩
 exact ⟨rfl,bf,rfl,h1⟩
def Rds(bl:Nat)(n:Int)(bw:Nat)(w:World)(r:Option (Value×List ByteArray))(e:Ending)(w':World):Prop:=
 match r with
 |some (v,ws)=>e= .returned v/\LineAt w' bl n bw ws/\Chg (Jo bl) w w'
 |none=>Fails 2 n bl w e w'
structure Env(w:World):Prop where
 lo:10<=w.heap.size
 max: ∃m,w.cell? ⟨1,0,none⟩=some (.int .i64 m)
 words:zjj w Jc
 es: ∃ev,w.cell? ⟨6,0,none⟩=some ev/\(ev= .nilIface\/ ∃te pe,ev= .iface te pe)
 er: ∃ev,w.cell? ⟨7,0,none⟩=some ev/\(ev= .nilIface\/ ∃te pe,ev= .iface te pe)
 et:w.cell? ⟨0,0,none⟩=some (.iface 172 (.agg #[.pointer (some ⟨10,45,none⟩)]))
theorem Env.keep(h:Env w)(hc:Chg M w w')(hM: ∀k i,k<10->¬M k i):Env w':=by
 have hl:=h.lo
 have hk: ∀g i v,g<10->w.cell? ⟨g,i,none⟩=some v->w'.cell? ⟨g,i,none⟩=some v:=λg i v hg hv=>(hc.cell g i yum (hM g i hg)).trans hv
 obtain ⟨m,h1⟩:=h.max
 obtain ⟨ev,h2,h3⟩:=h.es
 obtain ⟨ev',h4,h5⟩:=h.er
 exact ⟨Nat.le_trans h.lo hc.size,⟨m,hk _ _ _ yup h1⟩,λj hj=>hk _ _ _ yup (h.words j hj),⟨ev,hk _ _ _ yup h2,h3⟩,⟨ev',hk _ _ _ yup h4,h5⟩,hk _ _ _ yup h.et⟩
theorem Env.below(h:Env w)(hb:Below w.heap.size w w'):Env w':=h.keep (M:=λ_ _=>False) (Chg.of_below hb) (λ_ _ _ e=>e)
theorem Env.line(h:Env w)(hc:Chg (Jo bl) w w')(hb:10<=bl):Env w':=h.keep hc (λk i hk e=>by omega)
def zjl(b:UInt8):Bool:=decide (48<=b.toNat)&&decide (b.toNat<=57)
def Jg(s:ByteArray):ByteArray:=⟨(Lib.trimPrefix s.data.toList [45]).toArray⟩
def Jd(s:ByteArray):Bool:=
 if (Jg s).data.toList=[] then false else if (Jg s).data.toList.head?=some 48/\s≠⟨#[48]⟩ then false else (Jg s).data.toList.all zjl
def Qk(s:ByteArray):Option Int:=if Jd s=true then (match Lib.parseIntB 64 s.data.toList with| .ok v=>some v|_=>none) else none
theorem zjm(w:World)(s t:ByteArray)(ht:Hid (zab s t))(hm:t.size<4294967281)(k0:Nat)(hk0:k0<t.size)(hz:t[0].toNat≠48\/s=⟨#[48]⟩)(hd:Hid (∀j (h:j<t.size),j<k0->48<=t[j].toNat/\t[j].toNat<=57))(hb:t[k0].toNat<48\/57<t[k0].toNat):
  Cl 146 #[.string s] w λe w'=>e= .returned (.bool false)/\w'=w:=by
 have h0:0<t.size:=yum
 have hne:=Ey h0
 have hne': ¬t.toList=[]:=λh=>by simp [h] at hne
 have h0':(0:Int)<(t.size:Int):=yum
 have HT:=ht.out
 unfold zab at HT
 go_enter Tryz.func146,Tryz.ntmps146
 go_wp2_with fail
 refine (Tryz.strings_TrimPrefix s ⟨#[45]⟩ w).mono ?_
 rintro e w' ⟨rfl,rfl⟩
 change Hid _ at ht
 rw [show (⟨(Lib.trimPrefix s.data.toList (ByteArray.mk #[45]).data.toList).toArray⟩:ByteArray)=t from HT.symm]
 clear HT ht
 rcases hz with hz|rfl
 all_goals go_wp2
 all_goals
  go_loopw [20] (λv wr=>∃k:Nat,k<=k0/\v= .int .i64 k/\wr=w') (λv _=>t.size- (intOf v).toNat)
  case atStart=>exact ⟨0,by omega,rfl,rfl⟩
  case round=>
   obtain ⟨k,hk,rfl,rfl⟩:=hrel
   have hlt:k<t.size:=yum
   have hlt':(k:Int)<(t.size:Int):=yum
   by_cases hkk:k<k0
   ·have hq:=hd.out k hlt hkk
    have q1: ¬(t[k].toNat:Int)<48:=yum
    have q2: ¬(57:Int)<(t[k].toNat:Int):=yum
    go_wp2
    go_roundw
    case rel=>exact ⟨k+1,by omega,by go_num,trivial⟩
    case measure=>simp [intOf];omega
   ·obtain rfl:k=k0:=by omega
    rcases hb with hb|hb
    ·have q1:(t[k].toNat:Int)<48:=by omega
     go_wp2
     go_ret
     exact ⟨rfl,rfl⟩
    ·have q1: ¬(t[k].toNat:Int)<48:=by omega
     have q2:(57:Int)<(t[k].toNat:Int):=yum
     go_wp2
     go_ret
     exact ⟨rfl,rfl⟩
theorem Sn(w:World)(s:ByteArray)(hs:s.size<4294967281):
  Cl 146 #[.string s] w λe w'=>e= .returned (.bool (Jd s))/\w'=w:=by
 have ht:zab s (Jg s):=rfl
 have hle:(Jg s).size<=s.size:=by
  show (Lib.trimPrefix s.data.toList [45]).toArray.size<=s.data.size
  rw [<-Array.length_toList (xs:=s.data),List.size_toArray]
  unfold Lib.trimPrefix
  split
  ·simp
  ·exact Nat.le_refl _
 by_cases h0:(Jg s).data.toList=[]
 ·have hf:Jd s=false:=by unfold Jd;rw [if_pos h0]
  rw [hf]
  exact zf8 w s _ ht (by rw [ByteArray.toList_eq,h0];rfl)
 have hsz:0<(Jg s).size:=by
  show 0<(Jg s).data.size
  rw [<-Array.length_toList]
  exact List.length_pos_iff.2 h0
 have hhead:(Jg s).data.toList.head?=some (Jg s)[0]:=by
  rw [List.head?_eq_getElem?]
  simp [ByteArray.getElem_eq_getElem_data]
 by_cases h1:(Jg s).data.toList.head?=some 48/\s≠⟨#[48]⟩
 ·have hf:Jd s=false:=by unfold Jd;rw [if_neg h0,if_pos h1]
  rw [hf]
  refine ze6 w s _ ht hsz ?_ h1.2
  have:=hhead.symm.trans h1.1
  simp at this
  rw [this];rfl
 have hz:(Jg s)[0].toNat≠48\/s=⟨#[48]⟩:=by
  by_cases e:s=⟨#[48]⟩
  ·exact .inr e
  ·left
   intro e2
   exact h1 ⟨hhead.trans (congrArg some (UInt8.toNat_inj.1 e2)),e⟩
 have hv:Jd s=(Jg s).data.toList.all zjl:=by unfold Jd;rw [if_neg h0,if_neg h1]
 have hidx: ∀j (h:j<(Jg s).size),(Jg s)[j]=(Jg s).data.toList[j]'(by rw [Array.length_toList];exact h):=by intro j h;simp [ByteArray.getElem_eq_getElem_data]
 by_cases h2: ∀j (h:j<(Jg s).size),48<=(Jg s)[j].toNat/\(Jg s)[j].toNat<=57
 ·have ht':Jd s=true:=by
   rw [hv,List.all_eq_true]
   intro b hb
   obtain ⟨j,hj,rfl⟩:=List.mem_iff_getElem.1 hb
   have:=h2 j (by rw [Array.length_toList] at hj;exact hj)
   rw [hidx j (by rw [Array.length_toList] at hj;exact hj)] at this
   simp only [zjl,Bool.and_eq_true,decide_eq_true_eq]
   exact this
  rw [ht']
  exact znv w s _ ht yum hsz hz h2
 ·have hex: ∃k0,∃h:k0<(Jg s).size,(∀j (h:j<(Jg s).size),j<k0->48<=(Jg s)[j].toNat/\(Jg s)[j].toNat<=57)/\((Jg s)[k0].toNat<48\/57<(Jg s)[k0].toNat):=by
   have: ∀n,(∀j (h:j<(Jg s).size),j<n->48<=(Jg s)[j].toNat/\(Jg s)[j].toNat<=57)\/ ∃k0,∃h:k0<(Jg s).size,(∀j (h:j<(Jg s).size),j<k0->48<=(Jg s)[j].toNat/\(Jg s)[j].toNat<=57)/\((Jg s)[k0].toNat<48\/57<(Jg s)[k0].toNat):=by
    intro n
    induction n with
    |zero=>exact .inl (λj h hj=>absurd hj (Nat.not_lt_zero _))
    |succ n ih=>
     rcases ih with ih|ih
     ·by_cases hn:n<(Jg s).size
      ·by_cases hg:48<=(Jg s)[n].toNat/\(Jg s)[n].toNat<=57
       ·left
        intro j h hj
        by_cases e:j=n
        ·subst e;exact hg
        ·exact ih j h yum
       ·exact .inr ⟨n,hn,ih,by omega⟩
      ·exact .inl (λj h hj=>ih j h yum)
     ·exact .inr ih
   rcases this (Jg s).size with h|h
   ·exact absurd (λj h'=>h j h' h') h2
   ·exact h
  obtain ⟨k0,hk0,hd,hb⟩:=hex
  have ht':Jd s=false:=by
   rw [hv]
   cases hc:(Jg s).data.toList.all zjl with
   |false=>rfl
   |true=>
    rw [List.all_eq_true] at hc
    have:=hc ((Jg s)[k0]) (by rw [hidx k0 hk0];exact List.getElem_mem _)
    simp [zjl] at this
    omega
  rw [ht']
  exact zjm w s _ ht yum k0 hk0 hz hd hb
theorem zqe(w:World)(s:ByteArray)(hs:s.size<4294967281)(hn:Jd s=false):
  Cl 122 #[.string s] w λe w'=>e= .returned (.tuple #[.int .i64 0, .bool false])/\Below w.heap.size w w':=by
 go_enter Tryz.func122,Tryz.ntmps122
 go_wp2_with fail
 refine (Sn w s hs).mono ?_
 rintro e w' ⟨rfl,rfl⟩
 rw [hn]
 go_wp2
 go_ret2
 exact ⟨rfl,Below.refl _ _⟩
theorem zny(w:World)(s:ByteArray)(hs:s.size<4294967281)(hn:Jd s=true)(v:Int)(hv:Hid (Lib.parseIntB 64 s.data.toList= .ok v)):
  Cl 122 #[.string s] w λe w'=>e= .returned (.tuple #[.int .i64 v, .bool true])/\Below w.heap.size w w':=by
 go_enter Tryz.func122,Tryz.ntmps122
 go_wp2_with fail
 refine (Sn w s hs).mono ?_
 rintro e w' ⟨rfl,rfl⟩
 rw [hn]
 go_wp2_with fail
 refine (Tryz.strconv_ParseInt_10_at64_ok s yum v hv.out _).mono ?_
 rintro e w2 ⟨rfl,h2⟩
 have HB:Hid (Below w'.heap.size w' w2):=by
  rcases h2 with rfl|⟨u,rfl⟩
  ·exact Below.refl _ _
  ·exact Lib.bytesWorld_below _ _ _
 clear h2
 go_wp2
 go_ret2
 exact ⟨rfl,HB.out⟩
theorem zfg(w:World)(s:ByteArray)(hs:s.size<4294967281)(hn:Jd s=true)
  (hc:Hid (Cl 147 #[.string s, .int .i64 10, .int .i64 64] w λe w'=>∃x te N,e= .returned (.tuple #[.int .i64 x, .iface te (ptr N)])/\Below w.heap.size w w')):
  Cl 122 #[.string s] w λe w'=>e= .returned (.tuple #[.int .i64 0, .bool false])/\Below w.heap.size w w':=by
 go_enter Tryz.func122,Tryz.ntmps122
 go_wp2_with fail
 refine (Sn w s hs).mono ?_
 rintro e w' ⟨rfl,rfl⟩
 rw [hn]
 go_wp2_with fail
 refine hc.out.mono ?_
 rintro e w2 ⟨x,te,N,rfl,h2⟩
 have HB:=hid h2
 clear h2 hc
 go_wp2
 go_ret2
 exact ⟨rfl,HB.out⟩
theorem Og(hE:Env w)(s:ByteArray)(hs:s.size<4294967281):
  Cl 122 #[.string s] w λe w'=>e= .returned (.tuple #[.int .i64 ((Qk s).getD 0), .bool (Qk s).isSome])/\Below w.heap.size w w':=by
 cases hn:Jd s with
 |false=>
  have e:Qk s=none:=by unfold Qk;simp [hn]
  rw [e]
  exact zqe w s hs hn
 |true=>
  cases hp:Lib.parseIntB 64 s.data.toList with
  |ok v=>
   have e:Qk s=some v:=yv1
   rw [e]
   exact zny w s hs hn v hp
  |range=>
   have e:Qk s=none:=yv1
   rw [e]
   obtain ⟨ev,h1,h2⟩:=hE.er
   refine zfg w s hs hn ((Tryz.strconv_ParseInt_10_at64_range s yum hp ev w h1 h2).mono ?_)
   rintro e w' ⟨N,he,_,_,hb⟩
   exact ⟨_,_,N,he,hb⟩
  |_=>
   have e:Qk s=none:=yv1
   rw [e]
   obtain ⟨ev,h1,h2⟩:=hE.es
   refine zfg w s hs hn ((Tryz.strconv_ParseInt_10_at64_syntax s yum hp ev w h1 h2).mono ?_)
   rintro e w' ⟨N,he,_,_,hb⟩
   exact ⟨_,_,N,he,hb⟩
def Jt(s:ByteArray):Option Nat:=match s.data.toList with
 |[a,b]=>if a=114/\48<=b.toNat/\b.toNat<56 then some (b.toNat- 48) else none
 |_=>none
theorem z8u(w:World)(b:UInt8)(hb:b.toNat<48\/56<=b.toNat):
  Cl 144 #[.string ⟨#[114,b]⟩] w λe w'=>e= .returned (.tuple #[.int .i64 0, .bool false])/\w'=w:=by
 rcases hb with hb|hb
 ·have hb':(((⟨#[114,b]⟩:ByteArray)[1]'(by show 1<2;omega)).toNat:Int)<48:=by show (b.toNat:Int)<48;omega
  go_enter Tryz.func144,Tryz.ntmps144
  go_wp2
  go_ret2
  exact ⟨rfl,rfl⟩
 ·have hb': ¬(((⟨#[114,b]⟩:ByteArray)[1]'(by show 1<2;omega)).toNat:Int)<48:=by show ¬(b.toNat:Int)<48;omega
  have hb2: ¬(((⟨#[114,b]⟩:ByteArray)[1]'(by show 1<2;omega)).toNat:Int)<56:=by show ¬(b.toNat:Int)<56;omega
  go_enter Tryz.func144,Tryz.ntmps144
  go_wp2
  go_ret2
  exact ⟨rfl,rfl⟩
theorem z7x(w:World)(s:ByteArray):
  Cl 144 #[.string s] w λe w'=>e= .returned (.tuple #[.int .i64 ((Jt s).getD 0), .bool (Jt s).isSome])/\w'=w:=by
 obtain ⟨⟨l⟩⟩:=s
 by_cases h:l.length=2
 ·match l,h with
  |[a,b],_=>
   by_cases ha:a=114
   ·subst ha
    by_cases hb:48<=b.toNat/\b.toNat<56
    ·have e:Jt ⟨⟨[114,b]⟩⟩=some (b.toNat- 48):=by show (if _ then _ else _)=_;rw [if_pos ⟨rfl,hb⟩]
     rw [e]
     have hbb:b=UInt8.ofNat (48+(b.toNat- 48)):=by rw [show 48+(b.toNat- 48)=b.toNat by omega];simp
     have k:=z9j w (b.toNat- 48) yum
     rw [<-hbb] at k
     exact k
    ·have e:Jt ⟨⟨[114,b]⟩⟩=none:=by show (if _ then _ else _)=_;rw [if_neg (λh=>hb h.2)]
     rw [e]
     exact z8u w b yum
   ·have e:Jt ⟨⟨[a,b]⟩⟩=none:=by show (if _ then _ else _)=_;rw [if_neg (λh=>ha h.1)]
    rw [e]
    exact z8w w a b ha
 ·have e:Jt ⟨⟨l⟩⟩=none:=by
   show (match l with|[a,b]=>_|_=>none)=none
   match l,h with
   |[],_=>rfl
   |[_],_=>rfl
   |_::_::_::_,_=>rfl
  rw [e]
  exact z8y w _ (by show l.toArray.size≠2;simpa using h)
def SzOk(ws:List ByteArray):Prop:=ws.length<1000000/\ ∀u∈ws,u.size<4294967281
theorem SzOk.tail(h:SzOk (u::ws)):SzOk ws:=⟨by have:=h.1;simp at this;omega,λv hv=>h.2 v (List.mem_cons_of_mem _ hv)⟩
theorem SzOk.head(h:SzOk (u::ws)):u.size<4294967281:=h.2 u (List.mem_cons_self)
theorem SzOk.len(h:SzOk (u::ws)):ws.length<1000000:=h.tail.1
def zhi:List ByteArray->Option (Nat×List ByteArray)
 |[]=>none
 |u::ws=>(Jt u).map λr=>(r,ws)
def zco:List ByteArray->Option (Int×List ByteArray)
 |[]=>none
 |u::ws=>(Qk u).map λv=>(v,ws)
def zbp:List ByteArray->Option (Vl×List ByteArray)
 |[]=>none
 |u::ws=>match Jt u with
  |some r=>some (⟨true,r⟩,ws)
  |none=>(Qk u).map λv=>(⟨false,v⟩,ws)
def gIn(lo hi:Int)(ws:List ByteArray):Option (Int×List ByteArray):=(zco ws).bind λp=>if lo<=p.1/\p.1<=hi then some p else none
def Ez(ws:List ByteArray):Option ((Vl×Int)×List ByteArray):=(zbp ws).bind λp=>(zco p.2).map λq=>((p.1,q.1),q.2)
section
variable{w:World}{bl bw:Nat}{n:Int}{ws:List ByteArray}
theorem z8l(h:LineAt w bl n bw ws)(hz:SzOk ws):
  Cl 114 #[ptr bl] w λe w'=>Rds bl n bw w ((zhi ws).map λp=>(.int .i64 p.1,p.2)) e w':=by
 have H:=hid h
 clear h
 cases ws with
 |nil=>
  go_enter Tryz.func114,Tryz.ntmps114
  go_wp2_with fail
  refine (Fg H.out).mono ?_
  rintro e w1 ⟨bf,rfl,h1⟩
  exact ⟨rfl,bf,rfl,h1⟩
 |cons u ws=>
  cases hr:Jt u with
  |some r=>
   have e:((zhi (u::ws)).map λp=>((.int .i64 p.1:Value),p.2))=some (.int .i64 r,ws):=by simp [zhi,hr]
   rw [e]
   go_enter Tryz.func114,Tryz.ntmps114
   go_wp2_with fail
   refine (Ve H.out hz.len).mono ?_
   rintro e w1 ⟨rfl,h1,c1⟩
   have H1:=hid h1
   have C1:=hid c1
   clear h1 c1
   go_wp2_with fail
   refine (z7x w1 u).mono ?_
   rintro e w2 ⟨rfl,rfl⟩
   rw [hr]
   go_wp2
   go_ret
   exact ⟨rfl,H1.out,C1.out⟩
  |none=>
   have e:((zhi (u::ws)).map λp=>((.int .i64 p.1:Value),p.2))=none:=by simp [zhi,hr]
   rw [e]
   go_enter Tryz.func114,Tryz.ntmps114
   go_wp2_with fail
   refine (Ve H.out hz.len).mono ?_
   rintro e w1 ⟨rfl,h1,c1⟩
   have H1:=hid h1
   have C1:=hid c1
   clear h1 c1
   go_wp2_with fail
   refine (z7x w1 u).mono ?_
   rintro e w2 ⟨rfl,rfl⟩
   rw [hr]
   go_wp2_with fail
   refine (Jv H1.out 2).mono ?_
   intro e w3 h3
   obtain ⟨bf,rfl,h4⟩:=h3.after C1.out
   exact ⟨rfl,bf,rfl,h4⟩
theorem Sd(h:LineAt w bl n bw ws)(hE:Hid (Env w))(hbl:10<=bl)(hz:SzOk ws):
  Cl 120 #[ptr bl] w λe w'=>Rds bl n bw w ((zco ws).map λp=>(.int .i64 p.1,p.2)) e w':=by
 have H:=hid h
 clear h
 cases ws with
 |nil=>
  go_enter Tryz.func120,Tryz.ntmps120
  go_wp2_with fail
  refine (Fg H.out).mono ?_
  rintro e w1 ⟨bf,rfl,h1⟩
  exact ⟨rfl,bf,rfl,h1⟩
 |cons u ws=>
  cases hr:Qk u with
  |some r=>
   have e:((zco (u::ws)).map λp=>((.int .i64 p.1:Value),p.2))=some (.int .i64 r,ws):=by simp [zco,hr]
   rw [e]
   go_enter Tryz.func120,Tryz.ntmps120
   go_wp2_with fail
   refine (Ve H.out hz.len).mono ?_
   rintro e w1 ⟨rfl,h1,c1⟩
   have H1:=hid h1
   have C1:=hid c1
   clear h1 c1
   go_wp2_with fail
   refine (Og (hE.out.line C1.out hbl) u hz.head).mono ?_
   rintro e w2 ⟨rfl,b2⟩
   have H2:=hid (H1.out.below b2)
   have C2:=hid (C1.out.trans (Chg.of_below b2))
   clear b2 H1 C1
   rw [hr]
   go_wp2
   go_ret
   exact ⟨rfl,H2.out,C2.out⟩
  |none=>
   have e:((zco (u::ws)).map λp=>((.int .i64 p.1:Value),p.2))=none:=by simp [zco,hr]
   rw [e]
   go_enter Tryz.func120,Tryz.ntmps120
   go_wp2_with fail
   refine (Ve H.out hz.len).mono ?_
   rintro e w1 ⟨rfl,h1,c1⟩
   have H1:=hid h1
   have C1:=hid c1
   clear h1 c1
   go_wp2_with fail
   refine (Og (hE.out.line C1.out hbl) u hz.head).mono ?_
   rintro e w2 ⟨rfl,b2⟩
   have H2:=hid (H1.out.below b2)
   have C2:=hid (C1.out.trans (Chg.of_below b2))
   clear b2 H1 C1
   rw [hr]
   go_wp2_with fail
   refine (Jv H2.out 2).mono ?_
   intro e w3 h3
   obtain ⟨bf,rfl,h4⟩:=h3.after C2.out
   exact ⟨rfl,bf,rfl,h4⟩
theorem z82(h:LineAt w bl n bw ws)(hE:Hid (Env w))(hbl:10<=bl)(hz:SzOk ws):
  Cl 115 #[ptr bl] w λe w'=>Rds bl n bw w ((zbp ws).map λp=>(z7o p.1,p.2)) e w':=by
 have H:=hid h
 clear h
 cases ws with
 |nil=>
  go_enter Tryz.func115,Tryz.ntmps115
  go_wp2_with fail
  refine (Fg H.out).mono ?_
  rintro e w1 ⟨bf,rfl,h1⟩
  exact ⟨rfl,bf,rfl,h1⟩
 |cons u ws=>
  cases hr:Jt u with
  |some r=>
   have e:((zbp (u::ws)).map λp=>(z7o p.1,p.2))=some (.iface 236 (.int .i64 r),ws):=by simp [zbp,hr,z7o]
   rw [e]
   go_enter Tryz.func115,Tryz.ntmps115
   go_wp2_with fail
   refine (Ve H.out hz.len).mono ?_
   rintro e w1 ⟨rfl,h1,c1⟩
   have H1:=hid h1
   have C1:=hid c1
   clear h1 c1
   go_wp2_with fail
   refine (z7x w1 u).mono ?_
   rintro e w2 ⟨rfl,rfl⟩
   rw [hr]
   go_wp2
   go_ret
   exact ⟨rfl,H1.out,C1.out⟩
  |none=>
   cases hv:Qk u with
   |some v=>
    have e:((zbp (u::ws)).map λp=>(z7o p.1,p.2))=some (.iface 291 (.int .i64 v),ws):=by simp [zbp,hr,hv,z7o]
    rw [e]
    go_enter Tryz.func115,Tryz.ntmps115
    go_wp2_with fail
    refine (Ve H.out hz.len).mono ?_
    rintro e w1 ⟨rfl,h1,c1⟩
    have H1:=hid h1
    have C1:=hid c1
    clear h1 c1
    go_wp2_with fail
    refine (z7x w1 u).mono ?_
    rintro e w2 ⟨rfl,rfl⟩
    rw [hr]
    go_wp2_with fail
    refine (Og (hE.out.line C1.out hbl) u hz.head).mono ?_
    rintro e w2 ⟨rfl,b2⟩
    have H2:=hid (H1.out.below b2)
    have C2:=hid (C1.out.trans (Chg.of_below b2))
    clear b2 H1 C1
    rw [hv]
    go_wp2
    go_ret
    exact ⟨rfl,H2.out,C2.out⟩
   |none=>
    have e:((zbp (u::ws)).map λp=>(z7o p.1,p.2))=none:=by simp [zbp,hr,hv]
    rw [e]
    go_enter Tryz.func115,Tryz.ntmps115
    go_wp2_with fail
    refine (Ve H.out hz.len).mono ?_
    rintro e w1 ⟨rfl,h1,c1⟩
    have H1:=hid h1
    have C1:=hid c1
    clear h1 c1
    go_wp2_with fail
    refine (z7x w1 u).mono ?_
    rintro e w2 ⟨rfl,rfl⟩
    rw [hr]
    go_wp2_with fail
    refine (Og (hE.out.line C1.out hbl) u hz.head).mono ?_
    rintro e w2 ⟨rfl,b2⟩
    have H2:=hid (H1.out.below b2)
    have C2:=hid (C1.out.trans (Chg.of_below b2))
    clear b2 H1 C1
    rw [hv]
    go_wp2_with fail
    refine (Jv H2.out 2).mono ?_
    intro e w3 h3
    obtain ⟨bf,rfl,h4⟩:=h3.after C2.out
    exact ⟨rfl,bf,rfl,h4⟩
end
theorem z7r(x:Vl): ∃T p,z7o x= .iface T p:=by
 unfold z7o
 split
 ·exact ⟨_,_,rfl⟩
 ·exact ⟨_,_,rfl⟩
section
variable{w:World}{bl bw:Nat}{n:Int}{ws ws1:List ByteArray}{x:Vl}{T:TypeId}{p:Value}{r:Nat}{v:Int}
theorem z9z(hv:zhi ws=some (r,ws1))(hz:SzOk ws):SzOk ws1:=by
 cases ws with
 |nil=>simp [zhi] at hv
 |cons u ws=>simp [zhi] at hv;obtain ⟨_,_,_,e⟩:=hv;exact e▸hz.tail
theorem zzj(hv:zco ws=some (v,ws1))(hz:SzOk ws):SzOk ws1:=by
 cases ws with
 |nil=>simp [zco] at hv
 |cons u ws=>simp [zco] at hv;obtain ⟨_,_,_,e⟩:=hv;exact e▸hz.tail
theorem z76(hv:zbp ws=some (x,ws1))(hz:SzOk ws):SzOk ws1:=by
 cases ws with
 |nil=>simp [zbp] at hv
 |cons u ws=>
  simp only [zbp] at hv
  split at hv
  ·simp at hv;exact hv.2▸hz.tail
  ·simp at hv;obtain ⟨_,_,_,e⟩:=hv;exact e▸hz.tail
theorem z13(hv:gIn lo hi ws=some (v,ws1))(hz:SzOk ws):SzOk ws1:=by
 unfold gIn at hv
 cases h:zco ws with
 |none=>simp [h] at hv
 |some q=>
  simp [h] at hv
  exact zzj (v:=q.1) (by rw [h];exact congrArg some (Prod.ext rfl (by rw [hv.2]))) hz
theorem z9p{c:Vl×Int}(hv:Ez ws=some (c,ws1))(hz:SzOk ws):SzOk ws1:=by
 unfold Ez at hv
 cases h:zbp ws with
 |none=>simp [h] at hv
 |some q=>
  cases h2:zco q.2 with
  |none=>simp [h,h2] at hv
  |some q2=>
   simp [h,h2] at hv
   exact zzj (v:=q2.1) (by rw [h2];exact congrArg some (Prod.ext rfl hv.2)) (z76 (x:=q.1) (ws1:=q.2) h hz)
theorem z83(h:LineAt w bl n bw ws)(hz:SzOk ws)(hv:zhi ws=some (r,ws1)):
  Cl 114 #[ptr bl] w λe w'=>e= .returned (.int .i64 r)/\LineAt w' bl n bw ws1/\Chg (Jo bl) w w':=by
 have k:=z8l h hz
 rw [hv] at k
 exact k
theorem yd8(h:LineAt w bl n bw ws)(hz:SzOk ws)(hv:zhi ws=none):
  Cl 114 #[ptr bl] w λe w'=>Fails 2 n bl w e w':=by
 have k:=z8l h hz
 rw [hv] at k
 exact k
theorem z84(h:LineAt w bl n bw ws)(hE:Env w)(hbl:10<=bl)(hz:SzOk ws)(hv:zbp ws=some (x,ws1))(hT:z7o x= .iface T p):
  Cl 115 #[ptr bl] w λe w'=>e= .returned (.iface T p)/\LineAt w' bl n bw ws1/\Chg (Jo bl) w w':=by
 have k:=z82 h hE hbl hz
 rw [hv,<-hT] at*
 exact k
theorem z97(h:LineAt w bl n bw ws)(hE:Env w)(hbl:10<=bl)(hz:SzOk ws)(hv:zbp ws=none):
  Cl 115 #[ptr bl] w λe w'=>Fails 2 n bl w e w':=by
 have k:=z82 h hE hbl hz
 rw [hv] at k
 exact k
theorem z14(h:LineAt w bl n bw ws)(hE:Env w)(hbl:10<=bl)(hz:SzOk ws)(hv:zco ws=some (v,ws1)):
  Cl 120 #[ptr bl] w λe w'=>e= .returned (.int .i64 v)/\LineAt w' bl n bw ws1/\Chg (Jo bl) w w':=by
 have k:=Sd h hE hbl hz
 rw [hv] at k
 exact k
theorem z4v(h:LineAt w bl n bw ws)(hE:Env w)(hbl:10<=bl)(hz:SzOk ws)(hv:zco ws=none):
  Cl 120 #[ptr bl] w λe w'=>Fails 2 n bl w e w':=by
 have k:=Sd h hE hbl hz
 rw [hv] at k
 exact k
theorem zqf(h:LineAt w bl n bw ws)(hE:Env w)(hbl:10<=bl)(hz:SzOk ws)(hv:gIn lo hi ws=some (v,ws1)):
  Cl 84 #[ptr bl, .int .i64 lo, .int .i64 hi] w λe w'=>e= .returned (.int .i64 v)/\LineAt w' bl n bw ws1/\Chg (Jo bl) w w':=by
 have H:=hid h
 have HE:=hid hE
 clear h hE
 obtain ⟨hn,h1,h2⟩:zco ws=some (v,ws1)/\ ¬v<lo/\ ¬hi<v:=by
  unfold gIn at hv
  cases h:zco ws with
  |none=>simp [h] at hv
  |some q=>
   simp [h] at hv
   obtain ⟨⟨a,b⟩,rfl⟩:=hv
   exact ⟨rfl,by omega,by omega⟩
 go_enter Tryz.func84,Tryz.ntmps84
 go_wp2_with fail
 refine (z14 H.out HE.out hbl hz hn).mono ?_
 rintro e w1 ⟨rfl,h3,c1⟩
 have H1:=hid h3
 have C1:=hid c1
 clear h3 c1
 go_wp2
 go_ret
 exact ⟨rfl,H1.out,C1.out⟩
theorem z15(h:LineAt w bl n bw ws)(hE:Env w)(hbl:10<=bl)(hz:SzOk ws)(hv:gIn lo hi ws=none):
  Cl 84 #[ptr bl, .int .i64 lo, .int .i64 hi] w λe w'=>Fails 2 n bl w e w':=by
 have H:=hid h
 have HE:=hid hE
 clear h hE
 cases hn:zco ws with
 |none=>
  go_enter Tryz.func84,Tryz.ntmps84
  go_wp2_with fail
  refine (z4v H.out HE.out hbl hz hn).mono ?_
  rintro e w1 ⟨bf,rfl,h1⟩
  exact ⟨rfl,bf,rfl,h1⟩
 |some q=>
  obtain ⟨v,ws1⟩:=q
  have hq:v<lo\/(¬v<lo/\hi<v):=by
   simp [gIn,hn] at hv
   omega
  rcases hq with hq|⟨hq1,hq2⟩
  all_goals
   go_enter Tryz.func84,Tryz.ntmps84
   go_wp2_with fail
   refine (z14 H.out HE.out hbl hz hn).mono ?_
   rintro e w1 ⟨rfl,h3,c1⟩
   have H1:=hid h3
   have C1:=hid c1
   clear h3 c1
   go_wp2_with fail
   refine (Jv H1.out 2).mono ?_
   intro e w3 h3
   obtain ⟨bf,rfl,h4⟩:=h3.after C1.out
   exact ⟨rfl,bf,rfl,h4⟩
theorem yh0(h:LineAt w bl n bw ws)(hE:Env w)(hbl:10<=bl)(hz:SzOk ws)(hv:gIn 0 4000 ws=some (v,ws1)):
  Cl 117 #[ptr bl] w λe w'=>e= .returned (.int .i64 v)/\LineAt w' bl n bw ws1/\Chg (Jo bl) w w':=by
 have H:=hid h
 have HE:=hid hE
 clear h hE
 have hb:0<=v/\v<=4000:=by
  unfold gIn at hv
  cases h:zco ws with
  |none=>simp [h] at hv
  |some q=>
   simp [h] at hv
   obtain ⟨⟨a,b⟩,rfl⟩:=hv
   exact ⟨a,b⟩
 go_enter Tryz.func117,Tryz.ntmps117
 go_wp2_with fail
 refine (zqf H.out HE.out hbl hz hv).mono ?_
 rintro e w1 ⟨rfl,h3,c1⟩
 have H1:=hid h3
 have C1:=hid c1
 clear h3 c1
 go_wp2
 go_ret
 exact ⟨rfl,H1.out,C1.out⟩
theorem yh1(h:LineAt w bl n bw ws)(hE:Env w)(hbl:10<=bl)(hz:SzOk ws)(hv:gIn 0 4000 ws=none):
  Cl 117 #[ptr bl] w λe w'=>Fails 2 n bl w e w':=by
 have H:=hid h
 have HE:=hid hE
 clear h hE
 go_enter Tryz.func117,Tryz.ntmps117
 go_wp2_with fail
 refine (z15 H.out HE.out hbl hz hv).mono ?_
 rintro e w1 ⟨bf,rfl,h1⟩
 exact ⟨rfl,bf,rfl,h1⟩
theorem ya0(h:LineAt w bl n bw ws)(hE:Env w)(hbl:10<=bl)(hz:SzOk ws)(hv:Ez ws=some ((x,v),ws1))(hT:z7o x= .iface T p):
  Cl 116 #[ptr bl] w λe w'=>e= .returned (.agg #[.iface T p, .int .i64 v])/\LineAt w' bl n bw ws1/\Chg (Jo bl) w w':=by
 have H:=hid h
 have HE:=hid hE
 clear h hE
 obtain ⟨ws2,h1,h2⟩: ∃ws2,zbp ws=some (x,ws2)/\zco ws2=some (v,ws1):=by
  unfold Ez at hv
  cases h:zbp ws with
  |none=>simp [h] at hv
  |some q=>
   cases h2:zco q.2 with
   |none=>simp [h,h2] at hv
   |some q2=>
    simp [h,h2] at hv
    obtain ⟨⟨rfl,rfl⟩,rfl⟩:=hv
    exact ⟨q.2,rfl,h2⟩
 go_enter Tryz.func116,Tryz.ntmps116
 go_wp2_with fail
 have hb0:Below w.heap.size w (w.alloc (.cells #[.nilIface, .int .i64 0] 246)):=(Below.refl _ w).alloc (Nat.le_refl _) _
 refine (z84 (H.out.below hb0) (HE.out.below hb0) hbl hz h1 hT).mono ?_
 rintro e w1 ⟨rfl,g1,c1⟩
 have hbn: ¬Jo bl w.heap.size 0/\ ¬Jo bl w.heap.size 1:=⟨λe=>by have:=H.out.lt;omega,λe=>by have:=H.out.lt;omega⟩
 have hsz:w.heap.size<(w.alloc (.cells #[.nilIface, .int .i64 0] 246)).heap.size:=by show w.heap.size<(w.heap.push _).size;rw [Array.size_push];omega
 have k0:=(c1.cell w.heap.size 0 hsz hbn.1).trans (World.cell?_alloc_new w #[.nilIface, .int .i64 0] 246 0)
 have k1:=(c1.cell w.heap.size 1 hsz hbn.2).trans (World.cell?_alloc_new w #[.nilIface, .int .i64 0] 246 1)
 have f0:=c1.frozen w.heap.size 0 hsz
 have f1:=c1.frozen w.heap.size 1 hsz
 have H1:=hid g1
 have C1:=hid ((Chg.of_below hb0).trans c1)
 have Z1:=hid (Nat.lt_of_lt_of_le hsz c1.size)
 clear g1 c1 hb0
 go_wp2_with fail
 refine (z14 H1.out (HE.out.line C1.out hbl) hbl (z76 h1 hz) h2).mono ?_
 rintro e w2 ⟨rfl,g2,c2⟩
 have k0':=(c2.cell w.heap.size 0 Z1.out hbn.1).trans k0
 have k1':=(c2.cell w.heap.size 1 Z1.out hbn.2).trans k1
 have f0':=(c2.frozen w.heap.size 0 Z1.out).trans f0
 have f1':=(c2.frozen w.heap.size 1 Z1.out).trans f1
 simp at k0' k1' f0' f1'
 have H2:=hid g2
 have C2:=hid (C1.out.trans c2)
 clear g2 c2 H1 C1 k0 k1 f0 f1
 go_wp2
 have d1:Chg (λk _=>k=w.heap.size) w2 ((w2.setCell ⟨w.heap.size,0,none⟩ (.iface T p)).setCell ⟨w.heap.size,1,none⟩ (.int .i64 v)):=
  ((Chg.refl (λk _=>k=w.heap.size) w2).setCell (b:=w.heap.size) (o:=0) (λ_=>rfl) _).setCell (b:=w.heap.size) (o:=1) (λ_=>rfl) _
 have d2:Chg (Jo bl) w ((w2.setCell ⟨w.heap.size,0,none⟩ (.iface T p)).setCell ⟨w.heap.size,1,none⟩ (.int .i64 v)):=
  (C2.out.setCell (λh=>absurd h (Nat.lt_irrefl _)) _).setCell (λh=>absurd h (Nat.lt_irrefl _)) _
 have g1:=H2.out.keep d1 (λ_ e=>by have:=H.out.lt;omega) (λ_ e=>by have:=H.out.ltw;omega)
 have e0:((w2.setCell ⟨w.heap.size,0,none⟩ (.iface T p)).setCell ⟨w.heap.size,1,none⟩ (.int .i64 v)).cell? ⟨w.heap.size,0,none⟩=some (.iface T p):=
  (Qb (.inr yup)).trans (Qg k0' rfl)
 have e1:((w2.setCell ⟨w.heap.size,0,none⟩ (.iface T p)).setCell ⟨w.heap.size,1,none⟩ (.int .i64 v)).cell? ⟨w.heap.size,1,none⟩=some (.int .i64 v):=
  Qg ((Qb (.inr yup)).trans k1') rfl
 generalize (w2.setCell ⟨w.heap.size,0,none⟩ (.iface T p)).setCell ⟨w.heap.size,1,none⟩ (.int .i64 v)=w3 at*
 refine bodyPost_ret (v:= .agg #[.iface T p, .int .i64 v]) (by simp [results,Tryz.results116,go_sem,e0,e1]) rfl ⟨rfl,g1,d2⟩
theorem yfl(h:LineAt w bl n bw ws)(hE:Env w)(hbl:10<=bl)(hz:SzOk ws)(hv:Ez ws=none):
  Cl 116 #[ptr bl] w λe w'=>Fails 2 n bl w e w':=by
 have H:=hid h
 have HE:=hid hE
 clear h hE
 cases h1:zbp ws with
 |none=>
  go_enter Tryz.func116,Tryz.ntmps116
  go_wp2_with fail
  have hb0:Below w.heap.size w (w.alloc (.cells #[.nilIface, .int .i64 0] 246)):=(Below.refl _ w).alloc (Nat.le_refl _) _
  refine (z97 (H.out.below hb0) (HE.out.below hb0) hbl hz h1).mono ?_
  intro e w3 h3
  obtain ⟨bf,rfl,h4⟩:=h3.after (Chg.of_below hb0)
  exact ⟨rfl,bf,rfl,h4⟩
 |some q=>
  obtain ⟨x,ws2⟩:=q
  have h2:zco ws2=none:=by
   cases h2:zco ws2 with
   |none=>rfl
   |some q2=>simp [Ez,h1,h2] at hv
  obtain ⟨T,p,hT⟩:=z7r x
  go_enter Tryz.func116,Tryz.ntmps116
  go_wp2_with fail
  have hb0:Below w.heap.size w (w.alloc (.cells #[.nilIface, .int .i64 0] 246)):=(Below.refl _ w).alloc (Nat.le_refl _) _
  refine (z84 (H.out.below hb0) (HE.out.below hb0) hbl hz h1 hT).mono ?_
  rintro e w1 ⟨rfl,h3,c1⟩
  have H1:=hid h3
  have C1:=hid ((Chg.of_below hb0).trans c1)
  clear h3 c1 hb0
  go_wp2_with fail
  refine (z4v H1.out (HE.out.line C1.out hbl) hbl (z76 h1 hz) h2).mono ?_
  intro e w3 h3
  obtain ⟨bf,rfl,h4⟩:=h3.after C1.out
  exact ⟨rfl,bf,rfl,h4⟩
end
def zjn:ByteArray:=⟨#[116,114,97,112]⟩
theorem Fails.thru{e:Ending}(h:Fails er n bl w1 e w')(c:Chg (Jo bl) w w1): ∃bf,e= .panicked (zga bf)/\Fails er n bl w (.panicked (zga bf)) w':=by
 obtain ⟨bf,rfl,h4⟩:=h.after c
 exact ⟨bf,rfl,bf,rfl,h4⟩
section
variable{w:World}{bl bw:Nat}{n:Int}{ws:List ByteArray}
theorem z85: ∀k,k<12->∀j,j<k->Jc j≠Jc k:=yup
def zfh(ws:List ByteArray):Option (Ic×List ByteArray):=some ({k:=6,op:=0,d:=0,a:=⟨false,0⟩,b:=⟨false,0⟩,c:=⟨false,0⟩,n:=0},ws)
theorem ycy(h:LineAt w bl n bw ws)(hE:Hid (Env w)):
  Cl 78 #[.string zff,ptr bl] w λe w'=>Rds bl n bw w ((zfh ws).map λp=>(z7k p.1,p.2)) e w':=by
 have H0:=hid h
 clear h
 have hq:zff=⟨#[102,101,110,99,101]⟩:=rfl
 rw [show ((zfh ws).map λp=>(z7k p.1,p.2))=some (.iface 257 (.agg #[]),ws) from by simp [zfh,z7k,yaz,z8x]]
 go_enter Tryz.func78,Tryz.ntmps78
 go_wp2_with fail
 refine (z7h w zff Jc hE.out.words (by decide: ∀j,j<12->Jc j≠zff)).mono ?_
 rintro e W0 ⟨rfl,hW0⟩
 subst W0
 rw [hq]
 clear hq
 have C0:=hid (Chg.refl (Jo bl) w)
 go_wp2
 go_ret
 exact ⟨rfl,H0.out,C0.out⟩
def znz(ws:List ByteArray):Option (Ic×List ByteArray):=some ({k:=10,op:=0,d:=0,a:=⟨false,0⟩,b:=⟨false,0⟩,c:=⟨false,0⟩,n:=10},ws)
theorem yd9(h:LineAt w bl n bw ws)(hE:Hid (Env w)):
  Cl 78 #[.string znx,ptr bl] w λe w'=>Rds bl n bw w ((znz ws).map λp=>(z7k p.1,p.2)) e w':=by
 have H0:=hid h
 clear h
 have hq:znx=⟨#[104,97,108,116]⟩:=rfl
 rw [show ((znz ws).map λp=>(z7k p.1,p.2))=some (.iface 266 (.agg #[.int .i64 10]),ws) from by simp [znz,z7k,yaz,z8x]]
 go_enter Tryz.func78,Tryz.ntmps78
 go_wp2_with fail
 refine (z7h w znx Jc hE.out.words (by decide: ∀j,j<12->Jc j≠znx)).mono ?_
 rintro e W0 ⟨rfl,hW0⟩
 subst W0
 rw [hq]
 clear hq
 have C0:=hid (Chg.refl (Jo bl) w)
 go_wp2
 go_ret
 exact ⟨rfl,H0.out,C0.out⟩
def zqg(ws:List ByteArray):Option (Ic×List ByteArray):=(zbp ws).map λp1=>({k:=7,op:=0,d:=0,a:=p1.1,b:=⟨false,0⟩,c:=⟨false,0⟩,n:=0},p1.2)
theorem yfm(h:LineAt w bl n bw ws)(hE:Hid (Env w))(hbl:10<=bl)(hz:SzOk ws):
  Cl 78 #[.string zzh,ptr bl] w λe w'=>Rds bl n bw w ((zqg ws).map λp=>(z7k p.1,p.2)) e w':=by
 have H0:=hid h
 clear h
 have hq:zzh=⟨#[111,117,116]⟩:=rfl
 have Z0:=hid hz
 clear hz
 cases hv:zbp ws with
 |none=>
  rw [show ((zqg ws).map λp=>(z7k p.1,p.2))=none from by simp [zqg,hv]]
  go_enter Tryz.func78,Tryz.ntmps78
  go_wp2_with fail
  refine (z7h w zzh Jc hE.out.words (by decide: ∀j,j<12->Jc j≠zzh)).mono ?_
  rintro e W0 ⟨rfl,hW0⟩
  subst W0
  rw [hq]
  clear hq
  have C0:=hid (Chg.refl (Jo bl) w)
  go_wp2_with fail
  refine (z97 H0.out (hE.out.line C0.out hbl) hbl Z0.out hv).mono ?_
  intro e Wf hf
  obtain ⟨bf,rfl,hf'⟩:=hf.thru C0.out
  exact ⟨rfl,hf'⟩
 |some q=>
  obtain ⟨x1,ws1⟩:=q
  have E1:=hid hv
  have Z1:=hid (z76 hv Z0.out)
  clear hv
  obtain ⟨t1,v1,T1⟩:=z7r x1
  rw [show ((zqg ws).map λp=>(z7k p.1,p.2))=some (.iface 259 (.agg #[.iface t1 v1]),ws1) from by simp [zqg,E1.out,z7k,yaz,z8x,T1]]
  go_enter Tryz.func78,Tryz.ntmps78
  go_wp2_with fail
  refine (z7h w zzh Jc hE.out.words (by decide: ∀j,j<12->Jc j≠zzh)).mono ?_
  rintro e W0 ⟨rfl,hW0⟩
  subst W0
  rw [hq]
  clear hq
  have C0:=hid (Chg.refl (Jo bl) w)
  go_wp2_with fail
  refine (z84 H0.out (hE.out.line C0.out hbl) hbl Z0.out E1.out T1).mono ?_
  rintro e W1 ⟨rfl,h',c'⟩
  have H1:=hid h'
  have C1:=hid (C0.out.trans c')
  clear h' c' H0
  go_wp2
  go_ret
  exact ⟨rfl,H1.out,C1.out⟩
def Xq(ws:List ByteArray):Option (Ic×List ByteArray):=(Ez ws).bind λp1=>(zbp p1.2).map λp2=>({k:=3,op:=0,d:=0,a:=p1.1.1,b:=p2.1,c:=⟨false,0⟩,n:=p1.1.2},p2.2)
theorem ycz(h:LineAt w bl n bw ws)(hE:Hid (Env w))(hbl:10<=bl)(hz:SzOk ws):
  Cl 78 #[.string zae,ptr bl] w λe w'=>Rds bl n bw w ((Xq ws).map λp=>(z7k p.1,p.2)) e w':=by
 have H0:=hid h
 clear h
 have hq:zae=⟨#[115,116,111,114,101]⟩:=rfl
 have Z0:=hid hz
 clear hz
 cases hv:Ez ws with
 |none=>
  rw [show ((Xq ws).map λp=>(z7k p.1,p.2))=none from by simp [Xq,hv]]
  go_enter Tryz.func78,Tryz.ntmps78
  go_wp2_with fail
  refine (z7h w zae Jc hE.out.words (by decide: ∀j,j<12->Jc j≠zae)).mono ?_
  rintro e W0 ⟨rfl,hW0⟩
  subst W0
  rw [hq]
  clear hq
  have C0:=hid (Chg.refl (Jo bl) w)
  go_wp2_with fail
  refine (yfl H0.out (hE.out.line C0.out hbl) hbl Z0.out hv).mono ?_
  intro e Wf hf
  obtain ⟨bf,rfl,hf'⟩:=hf.thru C0.out
  exact ⟨rfl,hf'⟩
 |some q=>
  obtain ⟨⟨x1,y1⟩,ws1⟩:=q
  have E1:=hid hv
  have Z1:=hid (z9p hv Z0.out)
  clear hv
  obtain ⟨t1,v1,T1⟩:=z7r x1
  cases hv:zbp ws1 with
  |none=>
   rw [show ((Xq ws).map λp=>(z7k p.1,p.2))=none from by simp [Xq,E1.out,hv]]
   go_enter Tryz.func78,Tryz.ntmps78
   go_wp2_with fail
   refine (z7h w zae Jc hE.out.words (by decide: ∀j,j<12->Jc j≠zae)).mono ?_
   rintro e W0 ⟨rfl,hW0⟩
   subst W0
   rw [hq]
   clear hq
   have C0:=hid (Chg.refl (Jo bl) w)
   go_wp2_with fail
   refine (ya0 H0.out (hE.out.line C0.out hbl) hbl Z0.out E1.out T1).mono ?_
   rintro e W1 ⟨rfl,h',c'⟩
   have H1:=hid h'
   have C1:=hid (C0.out.trans c')
   clear h' c' H0
   go_wp2_with fail
   refine (z97 H1.out (hE.out.line C1.out hbl) hbl Z1.out hv).mono ?_
   intro e Wf hf
   obtain ⟨bf,rfl,hf'⟩:=hf.thru C1.out
   exact ⟨rfl,hf'⟩
  |some q=>
   obtain ⟨x2,ws2⟩:=q
   have E2:=hid hv
   have Z2:=hid (z76 hv Z1.out)
   clear hv
   obtain ⟨t2,v2,T2⟩:=z7r x2
   rw [show ((Xq ws).map λp=>(z7k p.1,p.2))=some (.iface 251 (.agg #[.iface t1 v1, .int .i64 y1, .iface t2 v2]),ws2) from by simp [Xq,E1.out,E2.out,z7k,yaz,z8x,T1,T2]]
   go_enter Tryz.func78,Tryz.ntmps78
   go_wp2_with fail
   refine (z7h w zae Jc hE.out.words (by decide: ∀j,j<12->Jc j≠zae)).mono ?_
   rintro e W0 ⟨rfl,hW0⟩
   subst W0
   rw [hq]
   clear hq
   have C0:=hid (Chg.refl (Jo bl) w)
   go_wp2_with fail
   refine (ya0 H0.out (hE.out.line C0.out hbl) hbl Z0.out E1.out T1).mono ?_
   rintro e W1 ⟨rfl,h',c'⟩
   have H1:=hid h'
   have C1:=hid (C0.out.trans c')
   clear h' c' H0
   go_wp2_with fail
   refine (z84 H1.out (hE.out.line C1.out hbl) hbl Z1.out E2.out T2).mono ?_
   rintro e W2 ⟨rfl,h',c'⟩
   have H2:=hid h'
   have C2:=hid (C1.out.trans c')
   clear h' c' H1
   go_wp2
   go_ret
   exact ⟨rfl,H2.out,C2.out⟩
def Ia(ws:List ByteArray):Option (Ic×List ByteArray):=(zhi ws).bind λp1=>(Ez p1.2).map λp2=>({k:=2,op:=0,d:=p1.1,a:=p2.1.1,b:=⟨false,0⟩,c:=⟨false,0⟩,n:=p2.1.2},p2.2)
theorem yea(h:LineAt w bl n bw ws)(hE:Hid (Env w))(hbl:10<=bl)(hz:SzOk ws):
  Cl 78 #[.string zf9,ptr bl] w λe w'=>Rds bl n bw w ((Ia ws).map λp=>(z7k p.1,p.2)) e w':=by
 have H0:=hid h
 clear h
 have hq:zf9=⟨#[108,111,97,100]⟩:=rfl
 have Z0:=hid hz
 clear hz
 cases hv:zhi ws with
 |none=>
  rw [show ((Ia ws).map λp=>(z7k p.1,p.2))=none from by simp [Ia,hv]]
  go_enter Tryz.func78,Tryz.ntmps78
  go_wp2_with fail
  refine (z7h w zf9 Jc hE.out.words (by decide: ∀j,j<12->Jc j≠zf9)).mono ?_
  rintro e W0 ⟨rfl,hW0⟩
  subst W0
  rw [hq]
  clear hq
  have C0:=hid (Chg.refl (Jo bl) w)
  go_wp2_with fail
  refine (yd8 H0.out Z0.out hv).mono ?_
  intro e Wf hf
  obtain ⟨bf,rfl,hf'⟩:=hf.thru C0.out
  exact ⟨rfl,hf'⟩
 |some q=>
  obtain ⟨x1,ws1⟩:=q
  have E1:=hid hv
  have Z1:=hid (z9z hv Z0.out)
  clear hv
  cases hv:Ez ws1 with
  |none=>
   rw [show ((Ia ws).map λp=>(z7k p.1,p.2))=none from by simp [Ia,E1.out,hv]]
   go_enter Tryz.func78,Tryz.ntmps78
   go_wp2_with fail
   refine (z7h w zf9 Jc hE.out.words (by decide: ∀j,j<12->Jc j≠zf9)).mono ?_
   rintro e W0 ⟨rfl,hW0⟩
   subst W0
   rw [hq]
   clear hq
   have C0:=hid (Chg.refl (Jo bl) w)
   go_wp2_with fail
   refine (z83 H0.out Z0.out E1.out).mono ?_
   rintro e W1 ⟨rfl,h',c'⟩
   have H1:=hid h'
   have C1:=hid (C0.out.trans c')
   clear h' c' H0
   go_wp2_with fail
   refine (yfl H1.out (hE.out.line C1.out hbl) hbl Z1.out hv).mono ?_
   intro e Wf hf
   obtain ⟨bf,rfl,hf'⟩:=hf.thru C1.out
   exact ⟨rfl,hf'⟩
  |some q=>
   obtain ⟨⟨x2,y2⟩,ws2⟩:=q
   have E2:=hid hv
   have Z2:=hid (z9p hv Z1.out)
   clear hv
   obtain ⟨t2,v2,T2⟩:=z7r x2
   rw [show ((Ia ws).map λp=>(z7k p.1,p.2))=some (.iface 249 (.agg #[.int .i64 x1, .iface t2 v2, .int .i64 y2]),ws2) from by simp [Ia,E1.out,E2.out,z7k,yaz,z8x,T2]]
   go_enter Tryz.func78,Tryz.ntmps78
   go_wp2_with fail
   refine (z7h w zf9 Jc hE.out.words (by decide: ∀j,j<12->Jc j≠zf9)).mono ?_
   rintro e W0 ⟨rfl,hW0⟩
   subst W0
   rw [hq]
   clear hq
   have C0:=hid (Chg.refl (Jo bl) w)
   go_wp2_with fail
   refine (z83 H0.out Z0.out E1.out).mono ?_
   rintro e W1 ⟨rfl,h',c'⟩
   have H1:=hid h'
   have C1:=hid (C0.out.trans c')
   clear h' c' H0
   go_wp2_with fail
   refine (ya0 H1.out (hE.out.line C1.out hbl) hbl Z1.out E2.out T2).mono ?_
   rintro e W2 ⟨rfl,h',c'⟩
   have H2:=hid h'
   have C2:=hid (C1.out.trans c')
   clear h' c' H1
   go_wp2
   go_ret
   exact ⟨rfl,H2.out,C2.out⟩
def Fh(ws:List ByteArray):Option (Ic×List ByteArray):=(zhi ws).bind λp1=>(Ez p1.2).bind λp2=>(zbp p2.2).map λp3=>({k:=5,op:=0,d:=p1.1,a:=p2.1.1,b:=p3.1,c:=⟨false,0⟩,n:=p2.1.2},p3.2)
theorem yeb(h:LineAt w bl n bw ws)(hE:Hid (Env w))(hbl:10<=bl)(hz:SzOk ws):
  Cl 78 #[.string ze9,ptr bl] w λe w'=>Rds bl n bw w ((Fh ws).map λp=>(z7k p.1,p.2)) e w':=by
 have H0:=hid h
 clear h
 have hq:ze9=⟨#[120,97,100,100]⟩:=rfl
 have Z0:=hid hz
 clear hz
 cases hv:zhi ws with
 |none=>
  rw [show ((Fh ws).map λp=>(z7k p.1,p.2))=none from by simp [Fh,hv]]
  go_enter Tryz.func78,Tryz.ntmps78
  go_wp2_with fail
  refine (z7h w ze9 Jc hE.out.words (by decide: ∀j,j<12->Jc j≠ze9)).mono ?_
  rintro e W0 ⟨rfl,hW0⟩
  subst W0
  rw [hq]
  clear hq
  have C0:=hid (Chg.refl (Jo bl) w)
  go_wp2_with fail
  refine (yd8 H0.out Z0.out hv).mono ?_
  intro e Wf hf
  obtain ⟨bf,rfl,hf'⟩:=hf.thru C0.out
  exact ⟨rfl,hf'⟩
 |some q=>
  obtain ⟨x1,ws1⟩:=q
  have E1:=hid hv
  have Z1:=hid (z9z hv Z0.out)
  clear hv
  cases hv:Ez ws1 with
  |none=>
   rw [show ((Fh ws).map λp=>(z7k p.1,p.2))=none from by simp [Fh,E1.out,hv]]
   go_enter Tryz.func78,Tryz.ntmps78
   go_wp2_with fail
   refine (z7h w ze9 Jc hE.out.words (by decide: ∀j,j<12->Jc j≠ze9)).mono ?_
   rintro e W0 ⟨rfl,hW0⟩
   subst W0
   rw [hq]
   clear hq
   have C0:=hid (Chg.refl (Jo bl) w)
   go_wp2_with fail
   refine (z83 H0.out Z0.out E1.out).mono ?_
   rintro e W1 ⟨rfl,h',c'⟩
   have H1:=hid h'
   have C1:=hid (C0.out.trans c')
   clear h' c' H0
   go_wp2_with fail
   refine (yfl H1.out (hE.out.line C1.out hbl) hbl Z1.out hv).mono ?_
   intro e Wf hf
   obtain ⟨bf,rfl,hf'⟩:=hf.thru C1.out
   exact ⟨rfl,hf'⟩
  |some q=>
   obtain ⟨⟨x2,y2⟩,ws2⟩:=q
   have E2:=hid hv
   have Z2:=hid (z9p hv Z1.out)
   clear hv
   obtain ⟨t2,v2,T2⟩:=z7r x2
   cases hv:zbp ws2 with
   |none=>
    rw [show ((Fh ws).map λp=>(z7k p.1,p.2))=none from by simp [Fh,E1.out,E2.out,hv]]
    go_enter Tryz.func78,Tryz.ntmps78
    go_wp2_with fail
    refine (z7h w ze9 Jc hE.out.words (by decide: ∀j,j<12->Jc j≠ze9)).mono ?_
    rintro e W0 ⟨rfl,hW0⟩
    subst W0
    rw [hq]
    clear hq
    have C0:=hid (Chg.refl (Jo bl) w)
    go_wp2_with fail
    refine (z83 H0.out Z0.out E1.out).mono ?_
    rintro e W1 ⟨rfl,h',c'⟩
    have H1:=hid h'
    have C1:=hid (C0.out.trans c')
    clear h' c' H0
    go_wp2_with fail
    refine (ya0 H1.out (hE.out.line C1.out hbl) hbl Z1.out E2.out T2).mono ?_
    rintro e W2 ⟨rfl,h',c'⟩
    have H2:=hid h'
    have C2:=hid (C1.out.trans c')
    clear h' c' H1
    go_wp2_with fail
    refine (z97 H2.out (hE.out.line C2.out hbl) hbl Z2.out hv).mono ?_
    intro e Wf hf
    obtain ⟨bf,rfl,hf'⟩:=hf.thru C2.out
    exact ⟨rfl,hf'⟩
   |some q=>
    obtain ⟨x3,ws3⟩:=q
    have E3:=hid hv
    have Z3:=hid (z76 hv Z2.out)
    clear hv
    obtain ⟨t3,v3,T3⟩:=z7r x3
    rw [show ((Fh ws).map λp=>(z7k p.1,p.2))=some (.iface 255 (.agg #[.int .i64 x1, .iface t2 v2, .int .i64 y2, .iface t3 v3]),ws3) from by simp [Fh,E1.out,E2.out,E3.out,z7k,yaz,z8x,T2,T3]]
    go_enter Tryz.func78,Tryz.ntmps78
    go_wp2_with fail
    refine (z7h w ze9 Jc hE.out.words (by decide: ∀j,j<12->Jc j≠ze9)).mono ?_
    rintro e W0 ⟨rfl,hW0⟩
    subst W0
    rw [hq]
    clear hq
    have C0:=hid (Chg.refl (Jo bl) w)
    go_wp2_with fail
    refine (z83 H0.out Z0.out E1.out).mono ?_
    rintro e W1 ⟨rfl,h',c'⟩
    have H1:=hid h'
    have C1:=hid (C0.out.trans c')
    clear h' c' H0
    go_wp2_with fail
    refine (ya0 H1.out (hE.out.line C1.out hbl) hbl Z1.out E2.out T2).mono ?_
    rintro e W2 ⟨rfl,h',c'⟩
    have H2:=hid h'
    have C2:=hid (C1.out.trans c')
    clear h' c' H1
    go_wp2_with fail
    refine (z84 H2.out (hE.out.line C2.out hbl) hbl Z2.out E3.out T3).mono ?_
    rintro e W3 ⟨rfl,h',c'⟩
    have H3:=hid h'
    have C3:=hid (C2.out.trans c')
    clear h' c' H2
    go_wp2
    go_ret
    exact ⟨rfl,H3.out,C3.out⟩
def zdj(ws:List ByteArray):Option (Ic×List ByteArray):=(zhi ws).bind λp1=>(Ez p1.2).bind λp2=>(zbp p2.2).bind λp3=>(zbp p3.2).map λp4=>({k:=4,op:=0,d:=p1.1,a:=p2.1.1,b:=p3.1,c:=p4.1,n:=p2.1.2},p4.2)
theorem yfn(h:LineAt w bl n bw ws)(hE:Hid (Env w))(hbl:10<=bl)(hz:SzOk ws):
  Cl 78 #[.string zqd,ptr bl] w λe w'=>Rds bl n bw w ((zdj ws).map λp=>(z7k p.1,p.2)) e w':=by
 have H0:=hid h
 clear h
 have hq:zqd=⟨#[99,97,115]⟩:=rfl
 have Z0:=hid hz
 clear hz
 cases hv:zhi ws with
 |none=>
  rw [show ((zdj ws).map λp=>(z7k p.1,p.2))=none from by simp [zdj,hv]]
  go_enter Tryz.func78,Tryz.ntmps78
  go_wp2_with fail
  refine (z7h w zqd Jc hE.out.words (by decide: ∀j,j<12->Jc j≠zqd)).mono ?_
  rintro e W0 ⟨rfl,hW0⟩
  subst W0
  rw [hq]
  clear hq
  have C0:=hid (Chg.refl (Jo bl) w)
  go_wp2_with fail
  refine (yd8 H0.out Z0.out hv).mono ?_
  intro e Wf hf
  obtain ⟨bf,rfl,hf'⟩:=hf.thru C0.out
  exact ⟨rfl,hf'⟩
 |some q=>
  obtain ⟨x1,ws1⟩:=q
  have E1:=hid hv
  have Z1:=hid (z9z hv Z0.out)
  clear hv
  cases hv:Ez ws1 with
  |none=>
   rw [show ((zdj ws).map λp=>(z7k p.1,p.2))=none from by simp [zdj,E1.out,hv]]
   go_enter Tryz.func78,Tryz.ntmps78
   go_wp2_with fail
   refine (z7h w zqd Jc hE.out.words (by decide: ∀j,j<12->Jc j≠zqd)).mono ?_
   rintro e W0 ⟨rfl,hW0⟩
   subst W0
   rw [hq]
   clear hq
   have C0:=hid (Chg.refl (Jo bl) w)
   go_wp2_with fail
   refine (z83 H0.out Z0.out E1.out).mono ?_
   rintro e W1 ⟨rfl,h',c'⟩
   have H1:=hid h'
   have C1:=hid (C0.out.trans c')
   clear h' c' H0
   go_wp2_with fail
   refine (yfl H1.out (hE.out.line C1.out hbl) hbl Z1.out hv).mono ?_
   intro e Wf hf
   obtain ⟨bf,rfl,hf'⟩:=hf.thru C1.out
   exact ⟨rfl,hf'⟩
  |some q=>
   obtain ⟨⟨x2,y2⟩,ws2⟩:=q
   have E2:=hid hv
   have Z2:=hid (z9p hv Z1.out)
   clear hv
   obtain ⟨t2,v2,T2⟩:=z7r x2
   cases hv:zbp ws2 with
   |none=>
    rw [show ((zdj ws).map λp=>(z7k p.1,p.2))=none from by simp [zdj,E1.out,E2.out,hv]]
    go_enter Tryz.func78,Tryz.ntmps78
    go_wp2_with fail
    refine (z7h w zqd Jc hE.out.words (by decide: ∀j,j<12->Jc j≠zqd)).mono ?_
    rintro e W0 ⟨rfl,hW0⟩
    subst W0
    rw [hq]
    clear hq
    have C0:=hid (Chg.refl (Jo bl) w)
    go_wp2_with fail
    refine (z83 H0.out Z0.out E1.out).mono ?_
    rintro e W1 ⟨rfl,h',c'⟩
    have H1:=hid h'
    have C1:=hid (C0.out.trans c')
    clear h' c' H0
    go_wp2_with fail
    refine (ya0 H1.out (hE.out.line C1.out hbl) hbl Z1.out E2.out T2).mono ?_
    rintro e W2 ⟨rfl,h',c'⟩
    have H2:=hid h'
    have C2:=hid (C1.out.trans c')
    clear h' c' H1
    go_wp2_with fail
    refine (z97 H2.out (hE.out.line C2.out hbl) hbl Z2.out hv).mono ?_
    intro e Wf hf
    obtain ⟨bf,rfl,hf'⟩:=hf.thru C2.out
    exact ⟨rfl,hf'⟩
   |some q=>
    obtain ⟨x3,ws3⟩:=q
    have E3:=hid hv
    have Z3:=hid (z76 hv Z2.out)
    clear hv
    obtain ⟨t3,v3,T3⟩:=z7r x3
    cases hv:zbp ws3 with
    |none=>
     rw [show ((zdj ws).map λp=>(z7k p.1,p.2))=none from by simp [zdj,E1.out,E2.out,E3.out,hv]]
     go_enter Tryz.func78,Tryz.ntmps78
     go_wp2_with fail
     refine (z7h w zqd Jc hE.out.words (by decide: ∀j,j<12->Jc j≠zqd)).mono ?_
     rintro e W0 ⟨rfl,hW0⟩
     subst W0
     rw [hq]
     clear hq
     have C0:=hid (Chg.refl (Jo bl) w)
     go_wp2_with fail
     refine (z83 H0.out Z0.out E1.out).mono ?_
     rintro e W1 ⟨rfl,h',c'⟩
     have H1:=hid h'
     have C1:=hid (C0.out.trans c')
     clear h' c' H0
     go_wp2_with fail
     refine (ya0 H1.out (hE.out.line C1.out hbl) hbl Z1.out E2.out T2).mono ?_
     rintro e W2 ⟨rfl,h',c'⟩
     have H2:=hid h'
     have C2:=hid (C1.out.trans c')
     clear h' c' H1
     go_wp2_with fail
     refine (z84 H2.out (hE.out.line C2.out hbl) hbl Z2.out E3.out T3).mono ?_
     rintro e W3 ⟨rfl,h',c'⟩
     have H3:=hid h'
     have C3:=hid (C2.out.trans c')
     clear h' c' H2
     go_wp2_with fail
     refine (z97 H3.out (hE.out.line C3.out hbl) hbl Z3.out hv).mono ?_
     intro e Wf hf
     obtain ⟨bf,rfl,hf'⟩:=hf.thru C3.out
     exact ⟨rfl,hf'⟩
    |some q=>
     obtain ⟨x4,ws4⟩:=q
     have E4:=hid hv
     have Z4:=hid (z76 hv Z3.out)
     clear hv
     obtain ⟨t4,v4,T4⟩:=z7r x4
     rw [show ((zdj ws).map λp=>(z7k p.1,p.2))=some (.iface 253 (.agg #[.int .i64 x1, .iface t2 v2, .int .i64 y2, .iface t3 v3, .iface t4 v4]),ws4) from by simp [zdj,E1.out,E2.out,E3.out,E4.out,z7k,yaz,z8x,T2,T3,T4]]
     go_enter Tryz.func78,Tryz.ntmps78
     go_wp2_with fail
     refine (z7h w zqd Jc hE.out.words (by decide: ∀j,j<12->Jc j≠zqd)).mono ?_
     rintro e W0 ⟨rfl,hW0⟩
     subst W0
     rw [hq]
     clear hq
     have C0:=hid (Chg.refl (Jo bl) w)
     go_wp2_with fail
     refine (z83 H0.out Z0.out E1.out).mono ?_
     rintro e W1 ⟨rfl,h',c'⟩
     have H1:=hid h'
     have C1:=hid (C0.out.trans c')
     clear h' c' H0
     go_wp2_with fail
     refine (ya0 H1.out (hE.out.line C1.out hbl) hbl Z1.out E2.out T2).mono ?_
     rintro e W2 ⟨rfl,h',c'⟩
     have H2:=hid h'
     have C2:=hid (C1.out.trans c')
     clear h' c' H1
     go_wp2_with fail
     refine (z84 H2.out (hE.out.line C2.out hbl) hbl Z2.out E3.out T3).mono ?_
     rintro e W3 ⟨rfl,h',c'⟩
     have H3:=hid h'
     have C3:=hid (C2.out.trans c')
     clear h' c' H2
     go_wp2_with fail
     refine (z84 H3.out (hE.out.line C3.out hbl) hbl Z3.out E4.out T4).mono ?_
     rintro e W4 ⟨rfl,h',c'⟩
     have H4:=hid h'
     have C4:=hid (C3.out.trans c')
     clear h' c' H3
     go_wp2
     go_ret
     exact ⟨rfl,H4.out,C4.out⟩
def zly(ws:List ByteArray):Option (Ic×List ByteArray):=(zhi ws).bind λp1=>(zbp p1.2).map λp2=>({k:=0,op:=0,d:=p1.1,a:=p2.1,b:=⟨false,0⟩,c:=⟨false,0⟩,n:=0},p2.2)
theorem yfo(h:LineAt w bl n bw ws)(hE:Hid (Env w))(hbl:10<=bl)(hz:SzOk ws):
  Cl 78 #[.string zyl,ptr bl] w λe w'=>Rds bl n bw w ((zly ws).map λp=>(z7k p.1,p.2)) e w':=by
 have H0:=hid h
 clear h
 have hq:zyl=⟨#[109,111,118]⟩:=rfl
 have Z0:=hid hz
 clear hz
 cases hv:zhi ws with
 |none=>
  rw [show ((zly ws).map λp=>(z7k p.1,p.2))=none from by simp [zly,hv]]
  go_enter Tryz.func78,Tryz.ntmps78
  go_wp2_with fail
  refine (z7h w zyl Jc hE.out.words (by decide: ∀j,j<12->Jc j≠zyl)).mono ?_
  rintro e W0 ⟨rfl,hW0⟩
  subst W0
  rw [hq]
  clear hq
  have C0:=hid (Chg.refl (Jo bl) w)
  go_wp2_with fail
  refine (yd8 H0.out Z0.out hv).mono ?_
  intro e Wf hf
  obtain ⟨bf,rfl,hf'⟩:=hf.thru C0.out
  exact ⟨rfl,hf'⟩
 |some q=>
  obtain ⟨x1,ws1⟩:=q
  have E1:=hid hv
  have Z1:=hid (z9z hv Z0.out)
  clear hv
  cases hv:zbp ws1 with
  |none=>
   rw [show ((zly ws).map λp=>(z7k p.1,p.2))=none from by simp [zly,E1.out,hv]]
   go_enter Tryz.func78,Tryz.ntmps78
   go_wp2_with fail
   refine (z7h w zyl Jc hE.out.words (by decide: ∀j,j<12->Jc j≠zyl)).mono ?_
   rintro e W0 ⟨rfl,hW0⟩
   subst W0
   rw [hq]
   clear hq
   have C0:=hid (Chg.refl (Jo bl) w)
   go_wp2_with fail
   refine (z83 H0.out Z0.out E1.out).mono ?_
   rintro e W1 ⟨rfl,h',c'⟩
   have H1:=hid h'
   have C1:=hid (C0.out.trans c')
   clear h' c' H0
   go_wp2_with fail
   refine (z97 H1.out (hE.out.line C1.out hbl) hbl Z1.out hv).mono ?_
   intro e Wf hf
   obtain ⟨bf,rfl,hf'⟩:=hf.thru C1.out
   exact ⟨rfl,hf'⟩
  |some q=>
   obtain ⟨x2,ws2⟩:=q
   have E2:=hid hv
   have Z2:=hid (z76 hv Z1.out)
   clear hv
   obtain ⟨t2,v2,T2⟩:=z7r x2
   rw [show ((zly ws).map λp=>(z7k p.1,p.2))=some (.iface 244 (.agg #[.int .i64 x1, .iface t2 v2]),ws2) from by simp [zly,E1.out,E2.out,z7k,yaz,z8x,T2]]
   go_enter Tryz.func78,Tryz.ntmps78
   go_wp2_with fail
   refine (z7h w zyl Jc hE.out.words (by decide: ∀j,j<12->Jc j≠zyl)).mono ?_
   rintro e W0 ⟨rfl,hW0⟩
   subst W0
   rw [hq]
   clear hq
   have C0:=hid (Chg.refl (Jo bl) w)
   go_wp2_with fail
   refine (z83 H0.out Z0.out E1.out).mono ?_
   rintro e W1 ⟨rfl,h',c'⟩
   have H1:=hid h'
   have C1:=hid (C0.out.trans c')
   clear h' c' H0
   go_wp2_with fail
   refine (z84 H1.out (hE.out.line C1.out hbl) hbl Z1.out E2.out T2).mono ?_
   rintro e W2 ⟨rfl,h',c'⟩
   have H2:=hid h'
   have C2:=hid (C1.out.trans c')
   clear h' c' H1
   go_wp2
   go_ret
   exact ⟨rfl,H2.out,C2.out⟩
def zqh(ws:List ByteArray):Option (Ic×List ByteArray):=(gIn 0 4000 ws).map λp1=>({k:=8,op:=0,d:=0,a:=⟨false,0⟩,b:=⟨false,0⟩,c:=⟨false,0⟩,n:=p1.1},p1.2)
theorem yfp(h:LineAt w bl n bw ws)(hE:Hid (Env w))(hbl:10<=bl)(hz:SzOk ws):
  Cl 78 #[.string zzi,ptr bl] w λe w'=>Rds bl n bw w ((zqh ws).map λp=>(z7k p.1,p.2)) e w':=by
 have H0:=hid h
 clear h
 have hq:zzi=⟨#[106,109,112]⟩:=rfl
 have Z0:=hid hz
 clear hz
 cases hv:gIn 0 4000 ws with
 |none=>
  rw [show ((zqh ws).map λp=>(z7k p.1,p.2))=none from by simp [zqh,hv]]
  go_enter Tryz.func78,Tryz.ntmps78
  go_wp2_with fail
  refine (z7h w zzi Jc hE.out.words (by decide: ∀j,j<12->Jc j≠zzi)).mono ?_
  rintro e W0 ⟨rfl,hW0⟩
  subst W0
  rw [hq]
  clear hq
  have C0:=hid (Chg.refl (Jo bl) w)
  go_wp2_with fail
  refine (yh1 H0.out (hE.out.line C0.out hbl) hbl Z0.out hv).mono ?_
  intro e Wf hf
  obtain ⟨bf,rfl,hf'⟩:=hf.thru C0.out
  exact ⟨rfl,hf'⟩
 |some q=>
  obtain ⟨x1,ws1⟩:=q
  have E1:=hid hv
  have Z1:=hid (z13 hv Z0.out)
  clear hv
  rw [show ((zqh ws).map λp=>(z7k p.1,p.2))=some (.iface 262 (.agg #[.int .i64 x1]),ws1) from by simp [zqh,E1.out,z7k,yaz,z8x]]
  go_enter Tryz.func78,Tryz.ntmps78
  go_wp2_with fail
  refine (z7h w zzi Jc hE.out.words (by decide: ∀j,j<12->Jc j≠zzi)).mono ?_
  rintro e W0 ⟨rfl,hW0⟩
  subst W0
  rw [hq]
  clear hq
  have C0:=hid (Chg.refl (Jo bl) w)
  go_wp2_with fail
  refine (yh0 H0.out (hE.out.line C0.out hbl) hbl Z0.out E1.out).mono ?_
  rintro e W1 ⟨rfl,h',c'⟩
  have H1:=hid h'
  have C1:=hid (C0.out.trans c')
  clear h' c' H0
  go_wp2
  go_ret
  exact ⟨rfl,H1.out,C1.out⟩
def gjz(ws:List ByteArray):Option (Ic×List ByteArray):=(zbp ws).bind λp1=>(gIn 0 4000 p1.2).map λp2=>({k:=9,op:=0,d:=0,a:=p1.1,b:=⟨false,0⟩,c:=⟨false,0⟩,n:=p2.1},p2.2)
theorem ygw(h:LineAt w bl n bw ws)(hE:Hid (Env w))(hbl:10<=bl)(hz:SzOk ws):
  Cl 78 #[.string wJz,ptr bl] w λe w'=>Rds bl n bw w ((gjz ws).map λp=>(z7k p.1,p.2)) e w':=by
 have H0:=hid h
 clear h
 have hq:wJz=⟨#[106,122]⟩:=rfl
 have Z0:=hid hz
 clear hz
 cases hv:zbp ws with
 |none=>
  rw [show ((gjz ws).map λp=>(z7k p.1,p.2))=none from by simp [gjz,hv]]
  go_enter Tryz.func78,Tryz.ntmps78
  go_wp2_with fail
  refine (z7h w wJz Jc hE.out.words (by decide: ∀j,j<12->Jc j≠wJz)).mono ?_
  rintro e W0 ⟨rfl,hW0⟩
  subst W0
  rw [hq]
  clear hq
  have C0:=hid (Chg.refl (Jo bl) w)
  go_wp2_with fail
  refine (z97 H0.out (hE.out.line C0.out hbl) hbl Z0.out hv).mono ?_
  intro e Wf hf
  obtain ⟨bf,rfl,hf'⟩:=hf.thru C0.out
  exact ⟨rfl,hf'⟩
 |some q=>
  obtain ⟨x1,ws1⟩:=q
  have E1:=hid hv
  have Z1:=hid (z76 hv Z0.out)
  clear hv
  obtain ⟨t1,v1,T1⟩:=z7r x1
  cases hv:gIn 0 4000 ws1 with
  |none=>
   rw [show ((gjz ws).map λp=>(z7k p.1,p.2))=none from by simp [gjz,E1.out,hv]]
   go_enter Tryz.func78,Tryz.ntmps78
   go_wp2_with fail
   refine (z7h w wJz Jc hE.out.words (by decide: ∀j,j<12->Jc j≠wJz)).mono ?_
   rintro e W0 ⟨rfl,hW0⟩
   subst W0
   rw [hq]
   clear hq
   have C0:=hid (Chg.refl (Jo bl) w)
   go_wp2_with fail
   refine (z84 H0.out (hE.out.line C0.out hbl) hbl Z0.out E1.out T1).mono ?_
   rintro e W1 ⟨rfl,h',c'⟩
   have H1:=hid h'
   have C1:=hid (C0.out.trans c')
   clear h' c' H0
   go_wp2_with fail
   refine (yh1 H1.out (hE.out.line C1.out hbl) hbl Z1.out hv).mono ?_
   intro e Wf hf
   obtain ⟨bf,rfl,hf'⟩:=hf.thru C1.out
   exact ⟨rfl,hf'⟩
  |some q=>
   obtain ⟨x2,ws2⟩:=q
   have E2:=hid hv
   have Z2:=hid (z13 hv Z1.out)
   clear hv
   rw [show ((gjz ws).map λp=>(z7k p.1,p.2))=some (.iface 264 (.agg #[.iface t1 v1, .int .i64 x2]),ws2) from by simp [gjz,E1.out,E2.out,z7k,yaz,z8x,T1]]
   go_enter Tryz.func78,Tryz.ntmps78
   go_wp2_with fail
   refine (z7h w wJz Jc hE.out.words (by decide: ∀j,j<12->Jc j≠wJz)).mono ?_
   rintro e W0 ⟨rfl,hW0⟩
   subst W0
   rw [hq]
   clear hq
   have C0:=hid (Chg.refl (Jo bl) w)
   go_wp2_with fail
   refine (z84 H0.out (hE.out.line C0.out hbl) hbl Z0.out E1.out T1).mono ?_
   rintro e W1 ⟨rfl,h',c'⟩
   have H1:=hid h'
   have C1:=hid (C0.out.trans c')
   clear h' c' H0
   go_wp2_with fail
   refine (yh0 H1.out (hE.out.line C1.out hbl) hbl Z1.out E2.out).mono ?_
   rintro e W2 ⟨rfl,h',c'⟩
   have H2:=hid h'
   have C2:=hid (C1.out.trans c')
   clear h' c' H1
   go_wp2
   go_ret
   exact ⟨rfl,H2.out,C2.out⟩
def zgb(ws:List ByteArray):Option (Ic×List ByteArray):=(gIn 1 9 ws).map λp1=>({k:=10,op:=0,d:=0,a:=⟨false,0⟩,b:=⟨false,0⟩,c:=⟨false,0⟩,n:=p1.1},p1.2)
theorem yec(h:LineAt w bl n bw ws)(hE:Hid (Env w))(hbl:10<=bl)(hz:SzOk ws):
  Cl 78 #[.string zjn,ptr bl] w λe w'=>Rds bl n bw w ((zgb ws).map λp=>(z7k p.1,p.2)) e w':=by
 have H0:=hid h
 clear h
 have hq:zjn=⟨#[116,114,97,112]⟩:=rfl
 have Z0:=hid hz
 clear hz
 cases hv:gIn 1 9 ws with
 |none=>
  rw [show ((zgb ws).map λp=>(z7k p.1,p.2))=none from by simp [zgb,hv]]
  go_enter Tryz.func78,Tryz.ntmps78
  go_wp2_with fail
  refine (z7h w zjn Jc hE.out.words (by decide: ∀j,j<12->Jc j≠zjn)).mono ?_
  rintro e W0 ⟨rfl,hW0⟩
  subst W0
  rw [hq]
  clear hq
  have C0:=hid (Chg.refl (Jo bl) w)
  go_wp2_with fail
  refine (z15 H0.out (hE.out.line C0.out hbl) hbl Z0.out hv).mono ?_
  intro e Wf hf
  obtain ⟨bf,rfl,hf'⟩:=hf.thru C0.out
  exact ⟨rfl,hf'⟩
 |some q=>
  obtain ⟨x1,ws1⟩:=q
  have E1:=hid hv
  have Z1:=hid (z13 hv Z0.out)
  clear hv
  rw [show ((zgb ws).map λp=>(z7k p.1,p.2))=some (.iface 266 (.agg #[.int .i64 x1]),ws1) from by simp [zgb,E1.out,z7k,yaz,z8x]]
  go_enter Tryz.func78,Tryz.ntmps78
  go_wp2_with fail
  refine (z7h w zjn Jc hE.out.words (by decide: ∀j,j<12->Jc j≠zjn)).mono ?_
  rintro e W0 ⟨rfl,hW0⟩
  subst W0
  rw [hq]
  clear hq
  have C0:=hid (Chg.refl (Jo bl) w)
  go_wp2_with fail
  refine (zqf H0.out (hE.out.line C0.out hbl) hbl Z0.out E1.out).mono ?_
  rintro e W1 ⟨rfl,h',c'⟩
  have H1:=hid h'
  have C1:=hid (C0.out.trans c')
  clear h' c' H0
  go_wp2
  go_ret
  exact ⟨rfl,H1.out,C1.out⟩
def gop(op:Nat)(ws:List ByteArray):Option (Ic×List ByteArray):=(zhi ws).bind λp1=>(zbp p1.2).bind λp2=>(zbp p2.2).map λp3=>({k:=1,op:=op,d:=p1.1,a:=p2.1,b:=p3.1,c:=⟨false,0⟩,n:=0},p3.2)
theorem ygx{op:Nat}(hop:op<12)(hu:Jc op=u)(h:LineAt w bl n bw ws)(hE:Hid (Env w))(hbl:10<=bl)(hz:SzOk ws):
  Cl 78 #[.string u,ptr bl] w λe w'=>Rds bl n bw w ((gop op ws).map λp=>(z7k p.1,p.2)) e w':=by
 have H0:=hid h
 clear h
 have Z0:=hid hz
 clear hz
 cases hv:zhi ws with
 |none=>
  rw [show ((gop op ws).map λp=>(z7k p.1,p.2))=none from by simp [gop,hv]]
  go_enter Tryz.func78,Tryz.ntmps78
  go_wp2_with fail
  refine (z9m w u Jc hE.out.words op hop (hu▸z85 op hop) hu).mono ?_
  rintro e W0 ⟨rfl,hW0⟩
  subst W0
  have C0:=hid (Chg.refl (Jo bl) w)
  go_wp2_with fail
  refine (yd8 H0.out Z0.out hv).mono ?_
  intro e Wf hf
  obtain ⟨bf,rfl,hf'⟩:=hf.thru C0.out
  exact ⟨rfl,hf'⟩
 |some q=>
  obtain ⟨x1,ws1⟩:=q
  have E1:=hid hv
  have Z1:=hid (z9z hv Z0.out)
  clear hv
  cases hv:zbp ws1 with
  |none=>
   rw [show ((gop op ws).map λp=>(z7k p.1,p.2))=none from by simp [gop,E1.out,hv]]
   go_enter Tryz.func78,Tryz.ntmps78
   go_wp2_with fail
   refine (z9m w u Jc hE.out.words op hop (hu▸z85 op hop) hu).mono ?_
   rintro e W0 ⟨rfl,hW0⟩
   subst W0
   have C0:=hid (Chg.refl (Jo bl) w)
   go_wp2_with fail
   refine (z83 H0.out Z0.out E1.out).mono ?_
   rintro e W1 ⟨rfl,h',c'⟩
   have H1:=hid h'
   have C1:=hid (C0.out.trans c')
   clear h' c' H0
   go_wp2_with fail
   refine (z97 H1.out (hE.out.line C1.out hbl) hbl Z1.out hv).mono ?_
   intro e Wf hf
   obtain ⟨bf,rfl,hf'⟩:=hf.thru C1.out
   exact ⟨rfl,hf'⟩
  |some q=>
   obtain ⟨x2,ws2⟩:=q
   have E2:=hid hv
   have Z2:=hid (z76 hv Z1.out)
   clear hv
   obtain ⟨t2,v2,T2⟩:=z7r x2
   cases hv:zbp ws2 with
   |none=>
    rw [show ((gop op ws).map λp=>(z7k p.1,p.2))=none from by simp [gop,E1.out,E2.out,hv]]
    go_enter Tryz.func78,Tryz.ntmps78
    go_wp2_with fail
    refine (z9m w u Jc hE.out.words op hop (hu▸z85 op hop) hu).mono ?_
    rintro e W0 ⟨rfl,hW0⟩
    subst W0
    have C0:=hid (Chg.refl (Jo bl) w)
    go_wp2_with fail
    refine (z83 H0.out Z0.out E1.out).mono ?_
    rintro e W1 ⟨rfl,h',c'⟩
    have H1:=hid h'
    have C1:=hid (C0.out.trans c')
    clear h' c' H0
    go_wp2_with fail
    refine (z84 H1.out (hE.out.line C1.out hbl) hbl Z1.out E2.out T2).mono ?_
    rintro e W2 ⟨rfl,h',c'⟩
    have H2:=hid h'
    have C2:=hid (C1.out.trans c')
    clear h' c' H1
    go_wp2_with fail
    refine (z97 H2.out (hE.out.line C2.out hbl) hbl Z2.out hv).mono ?_
    intro e Wf hf
    obtain ⟨bf,rfl,hf'⟩:=hf.thru C2.out
    exact ⟨rfl,hf'⟩
   |some q=>
    obtain ⟨x3,ws3⟩:=q
    have E3:=hid hv
    have Z3:=hid (z76 hv Z2.out)
    clear hv
    obtain ⟨t3,v3,T3⟩:=z7r x3
    rw [show ((gop op ws).map λp=>(z7k p.1,p.2))=some (.iface 242 (.agg #[.int .i64 op, .int .i64 x1, .iface t2 v2, .iface t3 v3]),ws3) from by simp [gop,E1.out,E2.out,E3.out,z7k,yaz,z8x,T2,T3]]
    go_enter Tryz.func78,Tryz.ntmps78
    go_wp2_with fail
    refine (z9m w u Jc hE.out.words op hop (hu▸z85 op hop) hu).mono ?_
    rintro e W0 ⟨rfl,hW0⟩
    subst W0
    have C0:=hid (Chg.refl (Jo bl) w)
    go_wp2_with fail
    refine (z83 H0.out Z0.out E1.out).mono ?_
    rintro e W1 ⟨rfl,h',c'⟩
    have H1:=hid h'
    have C1:=hid (C0.out.trans c')
    clear h' c' H0
    go_wp2_with fail
    refine (z84 H1.out (hE.out.line C1.out hbl) hbl Z1.out E2.out T2).mono ?_
    rintro e W2 ⟨rfl,h',c'⟩
    have H2:=hid h'
    have C2:=hid (C1.out.trans c')
    clear h' c' H1
    go_wp2_with fail
    refine (z84 H2.out (hE.out.line C2.out hbl) hbl Z2.out E3.out T3).mono ?_
    rintro e W3 ⟨rfl,h',c'⟩
    have H3:=hid h'
    have C3:=hid (C2.out.trans c')
    clear h' c' H2
    go_wp2
    go_ret
    exact ⟨rfl,H3.out,C3.out⟩
end
def zqi(u:ByteArray):Option Nat:=(List.range 12).find? λj=>decide (Jc j=u)
theorem zhj(h:zqi u=some k):k<12/\Jc k=u:=
 ⟨by simpa using List.mem_of_find?_eq_some h,by simpa using List.find?_some h⟩
theorem zdk(h:zqi u=none): ∀j,j<12->Jc j≠u:=by
 intro j hj
 have:=List.find?_eq_none.1 h j yuz
 simpa using this
def zbm(u:ByteArray)(ws:List ByteArray):Option (Ic×List ByteArray):=
 match zqi u with
 |some k=>gop k ws
 |none=>
  if u=zyl then zly ws else if u=zf9 then Ia ws else if u=zae then Xq ws else if u=zqd then zdj ws else if u=ze9 then Fh ws else if u=zff then zfh ws
  else if u=zzh then zqg ws else if u=zzi then zqh ws else if u=wJz then gjz ws else if u=zjn then zgb ws else if u=znx then znz ws else none
section
variable{w:World}{bl bw:Nat}{n:Int}{ws:List ByteArray}
theorem yed(h:LineAt w bl n bw ws)(hE:Hid (Env w))(hn:Hid (∀j,j<12->Jc j≠u))
  (q1:(u.toList==[109,111,118])=false) (q2:(u.toList==[108,111,97,100])=false) (q3:(u.toList==[115,116,111,114,101])=false) (q4:(u.toList==[99,97,115])=false) (q5:(u.toList==[120,97,100,100])=false) (q6:(u.toList==[102,101,110,99,101])=false)
  (q7:(u.toList==[111,117,116])=false) (q8:(u.toList==[106,109,112])=false) (q9:(u.toList==[106,122])=false) (q10:(u.toList==[116,114,97,112])=false) (q11:(u.toList==[104,97,108,116])=false):
  Cl 78 #[.string u,ptr bl] w λe w'=>Fails 2 n bl w e w':=by
 have H0:=hid h
 clear h
 go_enter Tryz.func78,Tryz.ntmps78
 go_wp2_with fail
 refine (z7h w u Jc hE.out.words hn.out).mono ?_
 rintro e W0 ⟨rfl,hW0⟩
 subst W0
 go_wp2_with fail
 refine (Jv H0.out 2).mono ?_
 intro e Wf hf
 obtain ⟨bf,rfl,hf'⟩:=hf.thru (Chg.refl _ w)
 exact ⟨rfl,hf'⟩
theorem zzk{l:List UInt8}(h:u≠⟨l.toArray⟩):(u.toList==l)=false:=by
 have:=Oz h
 rwa [show (ByteArray.mk l.toArray).toList=l from by rw [ByteArray.toList_eq]] at this
theorem z90(h:LineAt w bl n bw ws)(hE:Env w)(hbl:10<=bl)(hz:SzOk ws):
  Cl 78 #[.string u,ptr bl] w λe w'=>Rds bl n bw w ((zbm u ws).map λp=>(z7k p.1,p.2)) e w':=by
 unfold zbm
 cases ho:zqi u with
 |some k=>exact ygx (zhj ho).1 (zhj ho).2 h hE hbl hz
 |none=>
  simp only
  by_cases e1:u=zyl
  ·subst e1;exact yfo h hE hbl hz
  rw [if_neg e1]
  by_cases e2:u=zf9
  ·subst e2;exact yea h hE hbl hz
  rw [if_neg e2]
  by_cases e3:u=zae
  ·subst e3;exact ycz h hE hbl hz
  rw [if_neg e3]
  by_cases e4:u=zqd
  ·subst e4;exact yfn h hE hbl hz
  rw [if_neg e4]
  by_cases e5:u=ze9
  ·subst e5;exact yeb h hE hbl hz
  rw [if_neg e5]
  by_cases e6:u=zff
  ·subst e6;exact ycy h hE
  rw [if_neg e6]
  by_cases e7:u=zzh
  ·subst e7;exact yfm h hE hbl hz
  rw [if_neg e7]
  by_cases e8:u=zzi
  ·subst e8;exact yfp h hE hbl hz
  rw [if_neg e8]
  by_cases e9:u=wJz
  ·subst e9;exact ygw h hE hbl hz
  rw [if_neg e9]
  by_cases e10:u=zjn
  ·subst e10;exact yec h hE hbl hz
  rw [if_neg e10]
  by_cases e11:u=znx
  ·subst e11;exact yd9 h hE
  rw [if_neg e11]
  exact yed h hE (zdk ho) (zzk e1) (zzk e2) (zzk e3) (zzk e4) (zzk e5) (zzk e6) (zzk e7) (zzk e8) (zzk e9) (zzk e10) (zzk e11)
theorem yfq{ws1:List ByteArray}(h:LineAt w bl n bw ws)(hE:Env w)(hbl:10<=bl)(hz:SzOk ws)(hv:zbm u ws=some (ic,ws1))(hT:z7k ic= .iface T p):
  Cl 78 #[.string u,ptr bl] w λe w'=>e= .returned (.iface T p)/\LineAt w' bl n bw ws1/\Chg (Jo bl) w w':=by
 have k:=z90 (u:=u) h hE hbl hz
 rw [hv,<-hT] at*
 exact k
theorem yi3(h:LineAt w bl n bw ws)(hE:Env w)(hbl:10<=bl)(hz:SzOk ws)(hv:zbm u ws=none):
  Cl 78 #[.string u,ptr bl] w λe w'=>Fails 2 n bl w e w':=by
 have k:=z90 (u:=u) h hE hbl hz
 rw [hv] at k
 exact k
theorem ya1(h:LineAt w bl n bw (Vj::u::ws))(hz:SzOk (u::ws)):
  Cl 50 #[.slice a k c,ptr bl] w λe w'=>Fails 2 n bl w e w':=by
 have H0:=hid h
 clear h
 go_enter Tryz.func50,Tryz.ntmps50
 go_wp2_with fail
 refine (Ve H0.out hz.1).mono ?_
 rintro e W1 ⟨rfl,h1,c1⟩
 have H1:=hid h1
 have C1:=hid c1
 clear h1 c1
 rw [show Vj=⟨#[116,104,114,101,97,100]⟩ from rfl]
 go_wp2_with fail
 refine (zc0 H1.out).mono ?_
 intro e Wf hf
 obtain ⟨bf,rfl,hf'⟩:=hf.thru C1.out
 exact ⟨rfl,hf'⟩
theorem ya2(h:LineAt w bl n bw [Vj]):
  Cl 50 #[.slice a 3 c,ptr bl] w λe w'=>Fails 5 n bl w e w':=by
 have H0:=hid h
 clear h
 go_enter Tryz.func50,Tryz.ntmps50
 go_wp2_with fail
 refine (Ve H0.out yun).mono ?_
 rintro e W1 ⟨rfl,h1,c1⟩
 have H1:=hid h1
 have C1:=hid c1
 clear h1 c1
 rw [show Vj=⟨#[116,104,114,101,97,100]⟩ from rfl]
 go_wp2_with fail
 refine (Eo H1.out).mono ?_
 rintro e W2 ⟨rfl,rfl⟩
 go_wp2_with fail
 refine (Jv H1.out 5).mono ?_
 intro e Wf hf
 obtain ⟨bf,rfl,hf'⟩:=hf.thru C1.out
 exact ⟨rfl,hf'⟩
theorem yc0(h:LineAt w bl n bw (u::ws))(hE:Hid (Env w))(hbl:10<=bl)(hz:SzOk (u::ws))(hu:u≠Vj)(hv:Hid (zbm u ws=none)):
  Cl 50 #[.slice a k c,ptr bl] w λe w'=>Fails 2 n bl w e w':=by
 have hne:=zzk hu
 have H0:=hid h
 clear h hu
 go_enter Tryz.func50,Tryz.ntmps50
 go_wp2_with fail
 refine (Ve H0.out hz.len).mono ?_
 rintro e W1 ⟨rfl,h1,c1⟩
 have H1:=hid h1
 have C1:=hid c1
 clear h1 c1
 go_wp2_with fail
 refine (yi3 H1.out (hE.out.line C1.out hbl) hbl hz.tail hv.out).mono ?_
 intro e Wf hf
 obtain ⟨bf,rfl,hf'⟩:=hf.thru C1.out
 exact ⟨rfl,hf'⟩
theorem ybp{u2:ByteArray}{ws2:List ByteArray}(h:LineAt w bl n bw (u::ws))(hE:Hid (Env w))(hbl:10<=bl)(hz:SzOk (u::ws))(hu:u≠Vj)(hv:Hid (zbm u ws=some (ic,u2::ws2))):
  Cl 50 #[.slice a k c,ptr bl] w λe w'=>Fails 2 n bl w e w':=by
 have hne:=zzk hu
 have H0:=hid h
 clear h hu
 go_enter Tryz.func50,Tryz.ntmps50
 go_wp2_with fail
 refine (Ve H0.out hz.len).mono ?_
 rintro e W1 ⟨rfl,h1,c1⟩
 have H1:=hid h1
 have C1:=hid c1
 clear h1 c1
 go_wp2_with fail
 refine (yfq H1.out (hE.out.line C1.out hbl) hbl hz.tail hv.out rfl).mono ?_
 rintro e W2 ⟨rfl,h2,c2⟩
 have H2:=hid h2
 have C2:=hid (C1.out.trans c2)
 clear h2 c2
 go_wp2_with fail
 refine (zc0 H2.out).mono ?_
 intro e Wf hf
 obtain ⟨bf,rfl,hf'⟩:=hf.thru C2.out
 exact ⟨rfl,hf'⟩
theorem ya3(h:LineAt w bl n bw (u::ws))(hE:Hid (Env w))(hbl:10<=bl)(hz:SzOk (u::ws))(hu:u≠Vj)(hv:Hid (zbm u ws=some (ic,[]))):
  Cl 50 #[.slice a 0 c,ptr bl] w λe w'=>Fails 3 n bl w e w':=by
 have hne:=zzk hu
 have H0:=hid h
 clear h hu
 go_enter Tryz.func50,Tryz.ntmps50
 go_wp2_with fail
 refine (Ve H0.out hz.len).mono ?_
 rintro e W1 ⟨rfl,h1,c1⟩
 have H1:=hid h1
 have C1:=hid c1
 clear h1 c1
 go_wp2_with fail
 refine (yfq H1.out (hE.out.line C1.out hbl) hbl hz.tail hv.out rfl).mono ?_
 rintro e W2 ⟨rfl,h2,c2⟩
 have H2:=hid h2
 have C2:=hid (C1.out.trans c2)
 clear h2 c2
 go_wp2_with fail
 refine (Eo H2.out).mono ?_
 rintro e W3 ⟨rfl,rfl⟩
 go_wp2_with fail
 refine (Jv H2.out 3).mono ?_
 intro e Wf hf
 obtain ⟨bf,rfl,hf'⟩:=hf.thru C2.out
 exact ⟨rfl,hf'⟩
theorem ybq{ia:Option Addr}{icp:Nat}(h:LineAt w bl n bw (u::ws))(hE:Hid (Env w))(hbl:10<=bl)(hz:SzOk (u::ws))(hu:u≠Vj)(hv:Hid (zbm u ws=some (ic,[])))(hk:k<3)
  (hg:g≠bl) (hlt:g<w.heap.size) (hc:w.cell? ⟨g,k,none⟩=some (.slice ia 4000 icp)):
  Cl 50 #[.slice (some ⟨g,0,none⟩) (k+1) c,ptr bl] w λe w'=>Fails 5 n bl w e w':=by
 have hne:=zzk hu
 have H0:=hid h
 have hk': ¬(k:Int)+1=0:=yum
 clear h hu
 go_enter Tryz.func50,Tryz.ntmps50
 go_wp2_with fail
 refine (Ve H0.out hz.len).mono ?_
 rintro e W1 ⟨rfl,h1,c1⟩
 have H1:=hid h1
 have C1:=hid c1
 clear h1 c1
 go_wp2_with fail
 refine (yfq H1.out (hE.out.line C1.out hbl) hbl hz.tail hv.out rfl).mono ?_
 rintro e W2 ⟨rfl,h2,c2⟩
 have H2:=hid h2
 have C2:=hid (C1.out.trans c2)
 clear h2 c2
 go_wp2_with fail
 refine (Eo H2.out).mono ?_
 rintro e W3 ⟨rfl,rfl⟩
 have hc3:=(C2.out.cell g k hlt (λe=>hg e.1)).trans hc
 go_wp2_with fail
 refine (Jv H2.out 5).mono ?_
 intro e Wf hf
 obtain ⟨bf,rfl,hf'⟩:=hf.thru C2.out
 exact ⟨rfl,hf'⟩
end
def z7c(A:List (Th×List Ic))(i:Nat):Int:=((A[i]?).map (·.1.st)).getD 10
theorem z61{T:Th}{c:List Ic}(h:T.st≠0):z6w T m c=(T,m):=by simp only [z6w,h,if_false]
theorem ymf(T:Th)(m:Nat->Int):(z6y T m).1.st=T.st:=by unfold z6y;split<;>rfl
theorem yle(A:List (Th×List Ic))(m:Nat->Int){j:Nat}(h:j≠i):z7c (z7b A m i).1 j=z7c A j:=by
 unfold z7b z7c
 split
 ·rfl
 ·simp [List.getElem?_set_ne h.symm]
theorem yku(A:List (Th×List Ic))(m:Nat->Int)(h:z7c A i≠0):z7c (z7b A m i).1 i=z7c A i:=by
 unfold z7b z7c at*
 split
 ·rename_i h1;simp [h1]
 ·rename_i p hp
  simp only [hp,Option.map_some,Option.getD_some] at h
  have hlt:i<A.length:=(List.getElem?_eq_some_iff.1 hp).1
  have e:A[i]=p:=ywa
  simp [hlt,e,z61 h]
theorem yl4(A:List (Th×List Ic))(m:Nat->Int)(i j:Nat):z7c (z69 A m i).1 j=z7c A j:=by
 unfold z69 z7c
 split
 ·rfl
 ·rename_i p hp
  by_cases e:i=j
  ·subst e
   have hlt:i<A.length:=(List.getElem?_eq_some_iff.1 hp).1
   have e:A[i]=p:=ywa
   simp [hlt,e,ymf]
  ·simp [List.getElem?_set_ne e]
section
variable{D:Nat->Prop}{w:World}{bm:Nat}{A:List (Th×List Ic)}{m:Nat->Int}{I:List (Th×List Ic)->(Nat->Int)->Prop}
end
def nm(n:Int):Vl:=⟨false,n⟩
def zzl(x:Nat):Ic:={k:=3,op:=0,d:=0,a:=nm x,b:=nm 1,c:=nm 0,n:=0}
def z16(y:Nat):Ic:={k:=2,op:=0,d:=0,a:=nm y,b:=nm 0,c:=nm 0,n:=0}
def z4w:Ic:={k:=7,op:=0,d:=0,a:=⟨true,0⟩,b:=nm 0,c:=nm 0,n:=0}
def z4x:Ic:={k:=10,op:=0,d:=0,a:=nm 0,b:=nm 0,c:=nm 0,n:=10}
def z63:Ic:={k:=6,op:=0,d:=0,a:=nm 0,b:=nm 0,c:=nm 0,n:=0}
def z64:Ic:={k:=5,op:=0,d:=1,a:=nm 9,b:=nm 1,c:=nm 0,n:=0}
def z65:Ic:={k:=4,op:=0,d:=1,a:=nm 9,b:=nm 0,c:=nm 0,n:=0}
def z6v(x y:Nat)(bt:Ic):List Ic:=[zzl x,bt,z16 y,z4w,z4x]
def z7d(bt:Ic):Prop:=bt=z63\/bt=z64\/bt=z65
def TI(x:Nat)(T:Th)(m:Nat->Int):Prop:=
 (T.pl=0/\T.st=0/\T.q=[]/\T.out=[])\/
 (T.pl=1/\T.st=0/\T.out=[]/\(T.q=[((x:Int),1)]\/(T.q=[]/\m x=1)))\/
 (T.pl=2/\T.st=0/\T.out=[]/\T.q=[]/\m x=1)\/
 (T.pl=3/\T.st=0/\T.out=[]/\T.q=[]/\m x=1)\/
 (T.pl=4/\T.st=0/\T.out=[T.r 0]/\T.q=[]/\m x=1)\/
 (T.pl=5/\T.st=10/\T.out=[T.r 0]/\T.q=[]/\m x=1)
theorem z7a(n:Int)(h0:0<=n)(h1:n<256)(T:Th):z6z (nm n) 0 T=n:=by
 unfold z6z nm Vl.of wrap64;simp;omega
theorem TI.step{T:Th}(hx:x=1\/x=2)(hy:y=1\/y=2)(hxy:x≠y)(hb:z7d bt)(h:TI x T m):
  TI x (z6w T m (z6v x y bt)).1 (z6w T m (z6v x y bt)).2/\(z6w T m (z6v x y bt)).2 y=m y/\
   (T.pl<=(z6w T m (z6v x y bt)).1.pl)/\(T.st=0->T.pl<(z6w T m (z6v x y bt)).1.pl)/\
   ((z6w T m (z6v x y bt)).1.pl>=3->(T.pl=2/\(z6w T m (z6v x y bt)).1.r 0=m y)\/(T.pl>=3/\(z6w T m (z6v x y bt)).1.r 0=T.r 0)):=by
 obtain ⟨r,pl,q,out,st⟩:=T
 have ax:z6z (nm (x:Int)) 0=λ_=>(x:Int):=funext λT=>z7a _ yum yum T
 have ay:z6z (nm (y:Int)) 0=λ_=>(y:Int):=funext λT=>z7a _ yum yum T
 have a9:z6z (nm 9) 0=λ_=>9:=funext λT=>z7a _ yum yum T
 have x256:(0:Int)<=(x:Int)/\(x:Int)<256:=yum
 have y256:(0:Int)<=(y:Int)/\(y:Int)<256:=yum
 have x9:x≠9:=yum
 have y9:y≠9:=yum
 rcases h with ⟨h1,h2,h3,h4⟩|⟨h1,h2,h3,h4⟩|⟨h1,h2,h3,h4,h5⟩|⟨h1,h2,h3,h4,h5⟩|⟨h1,h2,h3,h4,h5⟩|⟨h1,h2,h3,h4,h5⟩
 ·simp only at h1 h2 h3 h4
  subst h1 h2 h3 h4
  have e:z6w ⟨r,0,[],[],0⟩ m (z6v x y bt)=(⟨r,1,[((x:Int),1)],[],0⟩,m):=by
   simp [z6w,z6v,zzl,doI,ax,x256,z62,Vl.of]
   simp [nm]
  rw [e]
  exact ⟨.inr (.inl ⟨rfl,rfl,rfl, .inl rfl⟩),rfl,by simp,by simp,by simp⟩
 ·simp only at h1 h2 h3 h4
  subst h1 h2 h3
  have key: ∀m0:Nat->Int,m0 x=1->m0 y=m y->z6x m q=m0->TI x (z6w ⟨r,1,q,[],0⟩ m (z6v x y bt)).1 (z6w ⟨r,1,q,[],0⟩ m (z6v x y bt)).2/\(z6w ⟨r,1,q,[],0⟩ m (z6v x y bt)).2 y=m y/\(z6w ⟨r,1,q,[],0⟩ m (z6v x y bt)).1.pl=2:=by
   intro m0 k1 k2 k3
   rcases hb with rfl|rfl|rfl
   ·have e:z6w ⟨r,1,q,[],0⟩ m (z6v x y z63)=(⟨r,2,[],[],0⟩,m0):=by
     simp [z6w,z6v,z63,doI,k3]
    rw [e]
    exact ⟨.inr (.inr (.inl ⟨rfl,rfl,rfl,rfl,k1⟩)),k2,rfl⟩
   ·have e:z6w ⟨r,1,q,[],0⟩ m (z6v x y z64)=(({r:=r,pl:=2,q:=[],out:=[],st:=0}:Th).setR 1 (m0 9),z60 m0 9 (wrap64 (m0 9+1))):=by
     simp [z6w,z6v,z64,doI,k3,a9,Vl.of]
     simp [nm]
    rw [e]
    refine ⟨.inr (.inr (.inl ⟨rfl,rfl,rfl,rfl,?_⟩)),?_,rfl⟩
    ·simp [z60,x9,k1]
    ·simp [z60,y9,k2]
   ·by_cases hz:m0 9=0
    ·have e:z6w ⟨r,1,q,[],0⟩ m (z6v x y z65)=(({r:=r,pl:=2,q:=[],out:=[],st:=0}:Th).setR 1 1,z60 m0 9 0):=by
      simp [z6w,z6v,z65,doI,k3,a9,Vl.of,hz]
      simp [nm]
     rw [e]
     refine ⟨.inr (.inr (.inl ⟨rfl,rfl,rfl,rfl,?_⟩)),?_,rfl⟩
     ·simp [z60,x9,k1]
     ·simp [z60,y9,k2]
    ·have e:z6w ⟨r,1,q,[],0⟩ m (z6v x y z65)=(({r:=r,pl:=2,q:=[],out:=[],st:=0}:Th).setR 1 0,m0):=by
      simp [z6w,z6v,z65,doI,k3,a9,Vl.of]
      simp [nm,hz]
     rw [e]
     exact ⟨.inr (.inr (.inl ⟨rfl,rfl,rfl,rfl,k1⟩)),k2,rfl⟩
  rcases h4 with rfl|⟨rfl,hm⟩
  ·obtain ⟨k1,k2,k3⟩:=key (z60 m x 1) (by simp [z60]) (by simp only [z60];rw [if_neg];intro e;exact hxy (by simpa using e.symm)) (by simp [z6x])
   exact ⟨k1,k2,by rw [k3];simp,by rw [k3];simp,by rw [k3];simp⟩
  ·obtain ⟨k1,k2,k3⟩:=key m hm rfl rfl
   exact ⟨k1,k2,by rw [k3];simp,by rw [k3];simp,by rw [k3];simp⟩
 ·simp only at h1 h2 h3 h4 h5
  subst h1 h2 h3 h4
  have e:z6w ⟨r,2,[],[],0⟩ m (z6v x y bt)=(({r:=r,pl:=3,q:=[],out:=[],st:=0}:Th).setR 0 (m y),m):=by
   simp [z6w,z6v,z16,doI,ay,y256,z67]
  rw [e]
  exact ⟨.inr (.inr (.inr (.inl ⟨rfl,rfl,rfl,rfl,h5⟩))),rfl,by simp [Th.setR],by simp [Th.setR],λ_=> .inl ⟨rfl,by simp [Th.setR]⟩⟩
 ·simp only at h1 h2 h3 h4 h5
  subst h1 h2 h3 h4
  have e:z6w ⟨r,3,[],[],0⟩ m (z6v x y bt)=(⟨r,4,[],[r 0],0⟩,m):=by
   simp [z6w,z6v,z4w,doI,Vl.of]
  rw [e]
  exact ⟨.inr (.inr (.inr (.inr (.inl ⟨rfl,rfl,rfl,rfl,h5⟩)))),rfl,by simp,by simp,λ_=> .inr ⟨by simp,rfl⟩⟩
 ·simp only at h1 h2 h3 h4 h5
  subst h1 h2 h3 h4
  have e:z6w ⟨r,4,[],[r 0],0⟩ m (z6v x y bt)=(⟨r,5,[],[r 0],10⟩,m):=by
   simp [z6w,z6v,z4x,doI]
  rw [e]
  exact ⟨.inr (.inr (.inr (.inr (.inr ⟨rfl,rfl,rfl,rfl,h5⟩)))),rfl,by simp,by simp,λ_=> .inr ⟨by simp,rfl⟩⟩
 ·simp only at h1 h2 h3 h4 h5
  subst h1 h2 h3 h4
  have e:z6w ⟨r,5,[],[r 0],10⟩ m (z6v x y bt)=(⟨r,5,[],[r 0],10⟩,m):=z61 yun
  rw [e]
  exact ⟨.inr (.inr (.inr (.inr (.inr ⟨rfl,rfl,rfl,rfl,h5⟩)))),rfl,by simp,by simp,λ_=> .inr ⟨by simp,rfl⟩⟩
theorem TI.flush{T:Th}(hxy:x≠y)(h:TI x T m):
  TI x (z6y T m).1 (z6y T m).2/\(z6y T m).2 y=m y/\(z6y T m).1.pl=T.pl/\(z6y T m).1.r=T.r:=by
 obtain ⟨r,pl,q,out,st⟩:=T
 rcases h with ⟨h1,h2,h3,h4⟩|⟨h1,h2,h3,h4⟩|⟨h1,h2,h3,h4,h5⟩|⟨h1,h2,h3,h4,h5⟩|⟨h1,h2,h3,h4,h5⟩|⟨h1,h2,h3,h4,h5⟩
 all_goals simp only at h1 h2 h3 h4
 ·subst h1 h2 h3 h4;exact ⟨.inl ⟨rfl,rfl,rfl,rfl⟩,rfl,rfl,rfl⟩
 ·subst h1 h2 h3
  rcases h4 with rfl|⟨rfl,hm⟩
  ·refine ⟨.inr (.inl ⟨rfl,rfl,rfl, .inr ⟨rfl,by simp [z6y,z60]⟩⟩),?_,rfl,rfl⟩
   simp only [z6y,z60];rw [if_neg];intro e;exact hxy (by simpa using e.symm)
  ·exact ⟨.inr (.inl ⟨rfl,rfl,rfl, .inr ⟨rfl,hm⟩⟩),rfl,rfl,rfl⟩
 ·subst h1 h2 h3 h4;exact ⟨.inr (.inr (.inl ⟨rfl,rfl,rfl,rfl,h5⟩)),rfl,rfl,rfl⟩
 ·subst h1 h2 h3 h4;exact ⟨.inr (.inr (.inr (.inl ⟨rfl,rfl,rfl,rfl,h5⟩))),rfl,rfl,rfl⟩
 ·subst h1 h2 h3 h4;exact ⟨.inr (.inr (.inr (.inr (.inl ⟨rfl,rfl,rfl,rfl,h5⟩)))),rfl,rfl,rfl⟩
 ·subst h1 h2 h3 h4;exact ⟨.inr (.inr (.inr (.inr (.inr ⟨rfl,rfl,rfl,rfl,h5⟩)))),rfl,rfl,rfl⟩
theorem TI.mem{T:Th}{m':Nat->Int}(h:TI x T m)(hm:m' x=m x):TI x T m':=by
 unfold TI at*;rw [hm];exact h
theorem TI.done{T:Th}(h:TI x T m)(h2:2<=T.pl):m x=1:=by
 rcases h with h|h|h|h|h|h
 ·have:=h.1;omega
 ·have:=h.1;omega
 ·exact h.2.2.2.2
 ·exact h.2.2.2.2
 ·exact h.2.2.2.2
 ·exact h.2.2.2.2
theorem TI.range{T:Th}(h:TI x T m):0<=T.pl/\T.pl<=5/\T.out.length<=1/\(T.st≠0->T.out=[T.r 0]/\T.pl=5):=by
 rcases h with h|h|h|h|h|h
 all_goals (refine ⟨by have:=h.1;omega,by have:=h.1;omega,?_,?_⟩)
 ·simp [h.2.2.2]
 ·exact λe=>absurd h.2.1 e
 ·simp [h.2.2.1]
 ·exact λe=>absurd h.2.1 e
 ·simp [h.2.2.1]
 ·exact λe=>absurd h.2.1 e
 ·simp [h.2.2.1]
 ·exact λe=>absurd h.2.1 e
 ·simp [h.2.2.1]
 ·exact λe=>absurd h.2.1 e
 ·simp [h.2.2.1]
 ·exact λ_=>⟨h.2.2.1,h.1⟩
def LI(bt:Ic)(A:List (Th×List Ic))(m:Nat->Int):Prop:=
 ∃T0 T1,A=[(T0,z6v 1 2 bt),(T1,z6v 2 1 bt)]/\TI 1 T0 m/\TI 2 T1 m/\(3<=T0.pl->3<=T1.pl->T0.r 0=1\/T1.r 0=1)
theorem LI.len{A:List (Th×List Ic)}(h:LI bt A m):A.length=2:=by
 obtain ⟨T0,T1,rfl,_⟩:=h;rfl
theorem LI.step(hb:z7d bt){A:List (Th×List Ic)}(i:Nat)(h:LI bt A m):LI bt (z7b A m i).1 (z7b A m i).2:=by
 obtain ⟨T0,T1,rfl,h0,h1,h2⟩:=h
 match i with
 |0=>
  obtain ⟨a1,a2,a3,_,a5⟩:=h0.step (.inl rfl) (.inr rfl) yup hb (y:=2)
  refine ⟨(z6w T0 m (z6v 1 2 bt)).1,T1,rfl,a1,h1.mem a2,λp q=>?_⟩
  rcases a5 p with ⟨b1,b2⟩|⟨b1,b2⟩
  ·exact .inl (b2.trans (h1.done yum))
  ·rw [b2];exact h2 b1 q
 |1=>
  obtain ⟨a1,a2,a3,_,a5⟩:=h1.step (.inr rfl) (.inl rfl) yup hb (y:=1)
  refine ⟨T0,(z6w T1 m (z6v 2 1 bt)).1,rfl,h0.mem a2,a1,λp q=>?_⟩
  rcases a5 q with ⟨b1,b2⟩|⟨b1,b2⟩
  ·exact .inr (b2.trans (h0.done yum))
  ·rw [b2];exact h2 p b1
 |n+2=>exact ⟨T0,T1,rfl,h0,h1,h2⟩
theorem LI.flush{A:List (Th×List Ic)}(i:Nat)(h:LI bt A m):LI bt (z69 A m i).1 (z69 A m i).2:=by
 obtain ⟨T0,T1,rfl,h0,h1,h2⟩:=h
 match i with
 |0=>
  obtain ⟨a1,a2,a3,a4⟩:=h0.flush (y:=2) yup
  exact ⟨(z6y T0 m).1,T1,rfl,a1,h1.mem a2,λp q=>by rw [a4];exact h2 (a3▸p) q⟩
 |1=>
  obtain ⟨a1,a2,a3,a4⟩:=h1.flush (y:=1) yup
  exact ⟨T0,(z6y T1 m).1,rfl,h0.mem a2,a1,λp q=>by rw [a4];exact h2 p (a3▸q)⟩
 |n+2=>exact ⟨T0,T1,rfl,h0,h1,h2⟩
theorem z66(hb:z7d bt): ∀i∈z6v x y bt,okI i:=by
 have hn: ∀n,(nm n).ok:=λn h=>by simp [nm] at h
 have hr:(⟨true,0⟩:Vl).ok:=λ_=>by simp
 intro i hi
 simp only [z6v,List.mem_cons,List.not_mem_nil,or_false] at hi
 rcases hi with rfl|rfl|rfl|rfl|rfl
 ·exact ⟨show (0:Nat)<8 by decide,hn _,hn _,hn _, .inr (.inl rfl)⟩
 ·rcases hb with rfl|rfl|rfl
  ·exact ⟨by decide,hn _,hn _,hn _, .inr (.inr (.inr (.inr (.inl rfl))))⟩
  ·exact ⟨by decide,hn _,hn _,hn _, .inr (.inr (.inr (.inl rfl)))⟩
  ·exact ⟨by decide,hn _,hn _,hn _, .inr (.inr (.inl rfl))⟩
 ·exact ⟨show (0:Nat)<8 by decide,hn _,hn _,hn _, .inl rfl⟩
 ·exact ⟨by decide,hr,hn _,hn _, .inr (.inr (.inr (.inr (.inr (.inl rfl)))))⟩
 ·exact ⟨by decide,hn _,hn _,hn _, .inr (.inr (.inr (.inr (.inr (.inr (.inr (.inl rfl)))))))⟩
theorem LI.ok(hb:z7d bt){A:List (Th×List Ic)}(h:LI bt A m):okA A:=by
 obtain ⟨T0,T1,rfl,h0,h1,_⟩:=h
 intro p hp
 simp only [List.mem_cons,List.not_mem_nil,or_false] at hp
 rcases hp with rfl|rfl
 ·have:=h0.range;exact ⟨this.1,by simp [z6v],z66 hb,by show T0.out.length<_;omega⟩
 ·have:=h1.range;exact ⟨this.1,by simp [z6v],z66 hb,by show T1.out.length<_;omega⟩
theorem LI.fin{A:List (Th×List Ic)}(h:LI bt A m)(s0:z7c A 0≠0)(s1:z7c A 1≠0):
  ∃T0 T1,A=[(T0,z6v 1 2 bt),(T1,z6v 2 1 bt)]/\T0.out=[T0.r 0]/\T1.out=[T1.r 0]/\ ¬(T0.r 0=0/\T1.r 0=0):=by
 obtain ⟨T0,T1,rfl,h0,h1,h2⟩:=h
 have e0:=h0.range.2.2.2 (by simpa [z7c] using s0)
 have e1:=h1.range.2.2.2 (by simpa [z7c] using s1)
 refine ⟨T0,T1,rfl,e0.1,e1.1,λe=>?_⟩
 have:=h2 yum yum
 omega
def Th.init:Th:=⟨λ_=>0,0,[],[],0⟩
section
variable{D:Nat->Prop}{w:World}{bm:Nat}{A:List (Th×List Ic)}{m:Nat->Int}
theorem MRep.keep(h:MRep D w bm A m)(hc:Chg M w w')(hM: ∀k,D k->k<w.heap.size->∀i,¬M k i):MRep D w' bm A m:=
 let ⟨ts,h1,h2⟩:=h;⟨ts,h1.keep hc hM,h2⟩
theorem MRep.newD{D':Nat->Prop}(h:MRep D w bm A m)(hD: ∀k,D k->k<w.heap.size->D' k):MRep D' w bm A m:=
 let ⟨ts,h1,h2⟩:=h;⟨ts,h1.newD hD,h2⟩
theorem MRep.below(h:MRep D w bm A m)(hc:Below w.heap.size w w'):MRep D w' bm A m:=h.keep (M:=λ_ _=>False) (Chg.of_below hc) (λ_ _ _ _ h=>h)
end
def zlz(x y:Nat):List Ic:=[zzl x,z16 y,z4w,z4x]
def A0:List (Th×List Ic):=[(Th.init,zlz 1 2),(Th.init,zlz 2 1)]
def T4(x:Nat):Th:=⟨λ_=>0,4,[((x:Int),1)],[0],10⟩
theorem zu7(w:World):
  Cl 21 #[.nilIface] w λe w'=>e= .returned (.tuple #[.int .i64 0, .int .i64 0])/\Below w.heap.size w w':=by
 go_enter Tryz.func21,Tryz.ntmps21
 go_wp2
 go_ret2
 exact ⟨rfl,((Below.refl _ w).alloc (Nat.le_refl _) _).alloc yun _⟩
def z7w(bm:Nat)(iv:Value):Array Value:=#[ptr bm,iv, .int .i64 0, .int .i64 0, .int .i64 0, .int .i64 0, .int .i64 0, .int .i64 0, .int .i64 0, .int .i64 0, .int .i64 0, .int .i64 0, .int .i64 0, .int .i64 0, .int .i64 0, .int .i64 0, .int .i64 0, .int .i64 0, .int .i64 0, .int .i64 0, .int .i64 0, .slice none 0 0, .int .i64 0]
theorem ya8(w:World)(bm:Nat)(a:Option Addr)(k c:Nat):
  Cl 32 #[.slice a k c,ptr bm] w λe w'=>e= .returned (ptr w.heap.size)/\w'=w.alloc (.cells (z7w bm (.slice a k c)) 86):=by
 go_enter Tryz.func32,Tryz.ntmps32
 go_wp2
 go_ret
 exact ⟨rfl,rfl⟩
theorem yfs(w:World)(bm:Nat)(iv:Value):ThAt (w.alloc (.cells (z7w bm iv) 86)) w.heap.size bm iv (.slice none 0 0) Th.init:=by
 have hc: ∀i v,(z7w bm iv)[i]?=some v->(w.alloc (.cells (z7w bm iv) 86)).cell? ⟨w.heap.size,i,none⟩=some v:=λi v h=>(World.cell?_alloc_new w _ _ i).trans h
 have hf: ∀i,(w.alloc (.cells (z7w bm iv) 86)).frozen? ⟨w.heap.size,i,none⟩=false:=λi=>by simp
 have hz: ∀i,2<=i->i<21->(z7w bm iv)[i]?=some (.int .i64 0):=by
  intro i h1 h2
  have:i=2\/i=3\/i=4\/i=5\/i=6\/i=7\/i=8\/i=9\/i=10\/i=11\/i=12\/i=13\/i=14\/i=15\/i=16\/i=17\/i=18\/i=19\/i=20:=yum
  rcases this with rfl|rfl|rfl|rfl|rfl|rfl|rfl|rfl|rfl|rfl|rfl|rfl|rfl|rfl|rfl|rfl|rfl|rfl|rfl<;>rfl
 refine ⟨?_,hc _ _ rfl,hc _ _ rfl,λj hj=>hc _ _ (hz _ yum yum),hc _ _ rfl,?_,hc _ _ rfl,⟨rfl, .inl ⟨rfl,rfl⟩⟩,hc _ _ rfl,λj _=>hf j,λp hp=>by cases hp⟩
 ·have e:(w.alloc (.cells (z7w bm iv) 86)).heap[w.heap.size]?=some (.cells (z7w bm iv) 86):=by show (w.heap.push _)[w.heap.size]?=_;exact Array.getElem?_push_size
  unfold World.shape?
  rw [e]
  rfl
 ·refine ⟨λ_=>0,λ_=>0,0,⟨by simp,by omega,by decide,λj hj=>hc _ _ (hz _ yum yum),λj hj=>hc _ _ (hz _ yum yum),hc _ _ rfl,hc _ _ rfl,λj _=>hf _⟩,?_⟩
  exact λi h=>absurd h (Nat.not_lt_zero i)
structure RowsAt(B:Nat)(w:World)(v:Value)(acc:List (List Ic))(xs:List Value):Prop where
 own:w.ownsRow 0 75 1 v acc.length xs
 row: ∀(i:Nat) (iv:Value),xs[i]?=some iv->∃c:List Ic,acc[i]?=some c/\w.ownsRow 0 141 1 iv c.length (c.map z7k)
 dis: ∀(i j:Nat) (iv jv:Value),i≠j->xs[i]?=some iv->xs[j]?=some jv->∀g,iv.ownBlock=some g->jv.ownBlock≠some g
 low: ∀(g:Nat),v.ownBlock=some g->B<=g
 lowr: ∀(i:Nat) (iv:Value),xs[i]?=some iv->∀g,iv.ownBlock=some g->B<=g
abbrev yis(w:World)(k:Nat):Prop:=∃t n,w.shape? k=some (t,n)/\(t=75\/t=141)
theorem RowsAt.keep(h:RowsAt B w v acc xs)(hc:Chg M w w')(hM: ∀k i,yis w k->¬M k i):RowsAt B w' v acc xs:={
 own:=Qc h.own hc (λg hg i=>by obtain ⟨n,hs⟩:=z7e h.own g hg;exact hM g i ⟨_,n,hs, .inl rfl⟩)
 row:=λi iv hi=>by
  obtain ⟨c,hc1,hc2⟩:=h.row i iv hi
  exact ⟨c,hc1,Qc hc2 hc (λg hg i=>by obtain ⟨n,hs⟩:=z7e hc2 g hg;exact hM g i ⟨_,n,hs, .inr rfl⟩)⟩
 dis:=h.dis
 low:=h.low
 lowr:=h.lowr}
theorem RowsAt.len(h:RowsAt B w v acc xs):xs.length=acc.length:=by have:=h.own.1;omega
def yg2(wd:Nat->ByteArray)(ws:List ByteArray)(ic:Ic):Prop:=∃u us T p,ws=u::us/\us.length<1000000/\u≠Vj/\z7k ic= .iface T p/\
 ∀(W:World) (bl:Nat) (n:Int) (bw:Nat),LineAt W bl n bw us->zjj W wd->Cl 78 #[.string u,ptr bl] W λe w'=>e= .returned (.iface T p)/\LineAt w' bl n bw []/\Chg (Jo bl) W w'
def yh3(wd:Nat->ByteArray)(ws:List ByteArray)(acc acc':List (List Ic)):Prop:=
 (ws=[Vj]/\acc.length<3/\acc'=acc++[[]])\/ ∃acc0 c ic,acc=acc0++[c]/\acc0.length<3/\c.length<4000/\acc'=acc0++[c++[ic]]/\yg2 wd ws ic
theorem yei(w:World)(t:TypeId):w.ownsRow 0 t 1 (.slice none 0 0) 0 []:=⟨rfl, .inl ⟨rfl,rfl⟩⟩
section
variable{B bl bw bt:Nat}{n:Int}{W:World}{v:Value}{acc acc':List (List Ic)}{xs:List Value}{wd:Nat->ByteArray}{ws:List ByteArray}
abbrev yc6(W:World)(B bl bt:Nat):Nat->Nat->Prop:=λq _=>q=bl\/q=bt\/(B<=q/\yis W q)
theorem z72{t n:Nat}(h:w.shape? k=some (t,n))(h1:t≠75)(h2:t≠141): ¬yis w k:=by
 rintro ⟨t',n',e,h3⟩
 rw [h] at e
 simp at e
 rcases h3 with h3|h3
 ·exact h1 (e.1.trans h3)
 ·exact h2 (e.1.trans h3)
theorem ybx(hB:B<=W.heap.size)(hL:LineAt W bl n bw ws)(h:RowsAt B W v acc xs)
  (ho:w'.ownsRow 0 75 1 (.slice (some ⟨g,0,none⟩) (acc.length+1) cap) (acc.length+1) (xs++[.slice none 0 0])) (hg:v.ownBlock=some g\/W.heap.size<=g)
  (hc:Chg (λq i=>Jo bl q i\/v.ownBlock=some q) W w'):RowsAt B w' (.slice (some ⟨g,0,none⟩) (acc.length+1) cap) (acc++[[]]) (xs++[.slice none 0 0]):=by
 have hx: ∀i iv,(xs++[.slice none 0 0])[i]?=some iv->xs[i]?=some iv\/(i=acc.length/\iv= .slice none 0 0):=by
  intro i iv hi
  rw [List.getElem?_append] at hi
  split at hi
  ·exact .inl hi
  ·rename_i hlt
   right
   have hl:=h.len
   obtain ⟨h1,h2⟩:=List.getElem?_eq_some_iff.1 hi
   simp at h1
   have:i- xs.length=0:=yum
   simp [this] at hi
   exact ⟨by omega,hi.symm⟩
 refine ⟨by simpa using ho,?_,?_,?_,?_⟩
 ·intro i iv hi
  rcases hx i iv hi with h1|⟨rfl,rfl⟩
  ·obtain ⟨c,hc1,hc2⟩:=h.row i iv h1
   refine ⟨c,by rw [List.getElem?_append_left (List.getElem?_eq_some_iff.1 hc1).1];exact hc1,Qc hc2 hc ?_⟩
   rintro g' hg' j (e|e)
   ·obtain ⟨n',hs⟩:=z7e hc2 g' hg'
    rw [e.1,hL.sh] at hs
    simp at hs
   ·obtain ⟨n',hs⟩:=z7e hc2 g' hg'
    obtain ⟨n2,hs2⟩:=z7e h.own g' e
    rw [hs] at hs2
    simp at hs2
  ·exact ⟨[],by simp,yei _ _⟩
 ·intro i j iv jv hij hi hj g' hg'
  rcases hx i iv hi with h1|⟨rfl,rfl⟩
  ·rcases hx j jv hj with h2|⟨rfl,rfl⟩
   ·exact h.dis i j iv jv hij h1 h2 g' hg'
   ·simp [Value.ownBlock]
  ·simp [Value.ownBlock] at hg'
 ·intro g' hg'
  simp [Value.ownBlock] at hg'
  subst hg'
  rcases hg with e|e
  ·exact h.low _ e
  ·omega
 ·intro i iv hi g' hg'
  rcases hx i iv hi with h1|⟨rfl,rfl⟩
  ·exact h.lowr i iv h1 g' hg'
  ·simp [Value.ownBlock] at hg'
theorem yab{c:List Ic}{b cap2:Nat}(hB:B<=W.heap.size)(hL:LineAt W bl n bw ws)(h:RowsAt B W (.slice (some ⟨g,0,none⟩) (acc0.length+1) cap) (acc0++[c]) xs)
  (hx:xs[acc0.length]?=some iv)
  (hi:w'.ownsRow 0 141 1 (.slice (some ⟨b,0,none⟩) (c.length+1) cap2) (c.length+1) (c.map z7k++[z7k ic]))
  (ho:w'.ownsRow 0 75 1 (.slice (some ⟨g,0,none⟩) (acc0.length+1) cap) (acc0.length+1) (xs.set acc0.length (.slice (some ⟨b,0,none⟩) (c.length+1) cap2))) (hb:iv.ownBlock=some b\/W.heap.size<=b)
  (hc:Chg (λq i=>Jo bl q i\/iv.ownBlock=some q\/(q=g/\i=acc0.length)) W w'):
  RowsAt B w' (.slice (some ⟨g,0,none⟩) (acc0.length+1) cap) (acc0++[c++[ic]]) (xs.set acc0.length (.slice (some ⟨b,0,none⟩) (c.length+1) cap2)):=by
 have hl:=h.len
 simp at hl
 have hx': ∀i jv,(xs.set acc0.length (.slice (some ⟨b,0,none⟩) (c.length+1) cap2))[i]?=some jv->(i≠acc0.length/\xs[i]?=some jv)\/(i=acc0.length/\jv= .slice (some ⟨b,0,none⟩) (c.length+1) cap2):=by
  intro i jv hi
  rw [List.getElem?_set] at hi
  split at hi
  ·rename_i e
   simp [hl] at hi
   exact .inr ⟨e.symm,hi.symm⟩
  ·rename_i e
   exact .inl ⟨λe'=>e e'.symm,hi⟩
 have hbn: ∀j jv,j≠acc0.length->xs[j]?=some jv->jv.ownBlock≠some b:=by
  intro j jv hj hjx e
  rcases hb with e2|e2
  ·exact h.dis _ _ _ _ hj hjx hx b e e2
  ·obtain ⟨c',hc1,hc2⟩:=h.row j jv hjx
   obtain ⟨n',hs⟩:=z7e hc2 b e
   have:=Qd hs
   omega
 refine ⟨by simpa using ho,?_,?_,h.low,?_⟩
 ·intro i jv hi'
  rcases hx' i jv hi' with ⟨h0,h1⟩|⟨rfl,rfl⟩
  ·obtain ⟨c',hc1,hc2⟩:=h.row i jv h1
   have hlt:i<acc0.length:=by
    have:=(List.getElem?_eq_some_iff.1 h1).1
    omega
   rw [List.getElem?_append_left hlt] at hc1
   refine ⟨c',by rw [List.getElem?_append_left hlt];exact hc1,Qc hc2 hc ?_⟩
   rintro g' hg' j (e|e|e)
   ·obtain ⟨n',hs⟩:=z7e hc2 g' hg'
    rw [e.1,hL.sh] at hs
    simp at hs
   ·exact h.dis _ _ _ _ h0 h1 hx g' hg' e
   ·obtain ⟨n',hs⟩:=z7e hc2 g' hg'
    obtain ⟨n2,hs2⟩:=z7e h.own g' (by simp [Value.ownBlock,e.1])
    rw [hs] at hs2
    simp at hs2
  ·exact ⟨c++[ic],by simp,by simpa using hi⟩
 ·intro i j iv' jv hij hi' hj g' hg'
  rcases hx' i iv' hi' with ⟨h0,h1⟩|⟨rfl,rfl⟩
  ·rcases hx' j jv hj with ⟨h2,h3⟩|⟨rfl,rfl⟩
   ·exact h.dis i j iv' jv hij h1 h3 g' hg'
   ·intro e
    simp [Value.ownBlock] at e
    exact hbn i iv' h0 h1 (e▸hg')
  ·rcases hx' j jv hj with ⟨h2,h3⟩|⟨rfl,rfl⟩
   ·simp [Value.ownBlock] at hg'
    exact hg'▸hbn j jv h2 h3
   ·exact absurd rfl hij
 ·intro i jv hi' g' hg'
  rcases hx' i jv hi' with ⟨h0,h1⟩|⟨rfl,rfl⟩
  ·exact h.lowr i jv h1 g' hg'
  ·simp [Value.ownBlock] at hg'
   subst hg'
   rcases hb with e|e
   ·exact h.lowr _ _ hx _ e
   ·omega
theorem yg3(hB:B<=W.heap.size)(hB3:3<=B)(hL:LineAt W bl n bw ws)(hbl:B<=bl)(hws:W.shape? bw=some (9,ws.length))(hbt:W.cell? ⟨bt,0,none⟩=some v)(hst:W.shape? bt=some (72,1))(hft:W.frozen? ⟨bt,0,none⟩=false)
  (h:RowsAt B W v acc xs) (hw:zjj W wd) (ht:yh3 wd ws acc acc'):
  Cl 49 #[ptr bl,ptr bt] W λe W'=>e= .returned (.tuple #[])/\ ∃v' xs',W'.cell? ⟨bt,0,none⟩=some v'/\RowsAt B W' v' acc' xs'/\Chg (yc6 W B bl bt) W W':=by
 have nbl: ∀g,v.ownBlock=some g->g≠bl/\g≠bw/\g≠bt:=ys8
 have hlt:bt<W.heap.size:=Qd hst
 have nbt:bt≠bl:=λe=>by rw [e,hL.sh] at hst;simp at hst
 have fin: ∀(w1:World) (v1:Value) (acc1:List (List Ic)) (xs1:List Value) (M:Nat->Nat->Prop),RowsAt B w1 v1 acc1 xs1->w1.cell? ⟨bt,0,none⟩=some v->w1.shape? bt=some (72,1)->Chg M W w1->(∀q i,q<W.heap.size->M q i->yc6 W B bl bt q i) ->
   (w1.setCell ⟨bt,0,none⟩ v1).cell? ⟨bt,0,none⟩=some v1/\RowsAt B (w1.setCell ⟨bt,0,none⟩ v1) v1 acc1 xs1/\Chg (yc6 W B bl bt) W (w1.setCell ⟨bt,0,none⟩ v1):=by
  intro w1 v1 acc1 xs1 M h1 h2 h2s h3 h4
  have hset:Chg (λq i=>q=bt/\i=0) w1 (w1.setCell ⟨bt,0,none⟩ v1):=(Chg.refl _ w1).setCell (λ_=>⟨rfl,rfl⟩) _
  refine ⟨Qg h2 rfl,h1.keep hset ?_,(h3.mono h4).setCell (λ_=> .inr (.inl rfl)) _⟩
  rintro k i hk ⟨rfl,rfl⟩
  exact z72 h2s yup yup hk
 rcases ht with ⟨rfl,hl3,rfl⟩|⟨acc0,c,ic,rfl,hl3,hcl,rfl,u,us,T,p,rfl,hul,hut,hic,hread⟩
 ·obtain ⟨a,cp,rfl⟩: ∃a cp,v= .slice a acc.length cp:=by
   rcases h.own.2 with ⟨e1,e2⟩|⟨g',cap',cur,e1,_⟩
   ·exact ⟨none,0,by rw [e1,e2]⟩
   ·exact ⟨_,_,e1⟩
  have k1:=z9y hL hl3 rfl h.own (λe=>(nbl _ e).1 rfl) (λe=>(nbl _ e).2.1 rfl)
  refine (yak (R:=λa1 kk c1 w1=>∃g,a1=some ⟨g,0,none⟩/\RowsAt B w1 (.slice a1 kk c1) (acc++[[]]) (xs++[.slice none 0 0])/\w1.shape? bt=some (72,1)/\Chg (λq i=>Jo bl q i\/(Value.slice a acc.length cp).ownBlock=some q) W w1) hbt (k1.mono ?_)).mono ?_
  ·rintro e w1 ⟨g,cap,rfl,h1,h2,h3,h4⟩
   refine ⟨_,_,_,rfl,⟨g,rfl,ybx hB hL h h1 h2 h4,(h4.shape bt hlt).trans hst,h4⟩,(h4.cell bt 0 hlt ?_).trans hbt,(h4.frozen bt 0 hlt).trans hft⟩
   rintro (e|e)
   ·exact nbt e.1
   ·exact (nbl _ e).2.2 rfl
  ·rintro e W' ⟨rfl,a1,kk,c1,w1,⟨g,rfl,h1,hs,h2⟩,h3,rfl⟩
   refine ⟨rfl,_,_,fin w1 _ _ _ _ h1 h3 hs h2 ?_⟩
   rintro q i hq (e|e)
   ·exact .inl e.1
   ·obtain ⟨c,hs⟩:=z7e h.own q e
    exact .inr (.inr ⟨h.low q e,_,c,hs, .inl rfl⟩)
 ·obtain ⟨g,cp,rfl⟩: ∃g cp,v= .slice (some ⟨g,0,none⟩) (acc0.length+1) cp:=by
   rcases h.own.2 with ⟨e1,e2⟩|⟨g',cap',cur,e1,_⟩
   ·simp at e2
   ·exact ⟨g',cap',by simpa using e1⟩
  have hlen:=h.len
  simp at hlen
  obtain ⟨iv,hiv⟩: ∃iv,xs[acc0.length]?=some iv:=⟨_,List.getElem?_eq_getElem yum⟩
  obtain ⟨c',hc1,hc2⟩:=h.row _ _ hiv
  simp at hc1
  subst hc1
  have nib: ∀g',iv.ownBlock=some g'->g'≠bl/\g'≠bw/\g'≠bt:=ys7
  have hown:W.ownsRow 0 75 1 (.slice (some ⟨g,0,none⟩) (acc0.length+1) cp) (acc0.length+1) xs:=by simpa using h.own
  have k1:=z9h (T:=T) (p:=p) hL hul hut hl3 (λW1 hL1 hC1=>hread W1 bl n bw hL1 (λj hj=>(hC1.cell 2 j yum (λe=>by omega)).trans (hw j hj))) hown (λe=>(nbl g rfl).1 e) (λe=>(nbl g rfl).2.1 e) hiv hc2 hcl (λe=>(nib _ e).1 rfl) (λe=>(nib _ e).2.1 rfl)
  refine (yak (R:=λa1 kk c1 w1=>∃xs1,RowsAt B w1 (.slice a1 kk c1) (acc0++[c++[ic]]) xs1/\w1.shape? bt=some (72,1)/\Chg (λq i=>Jo bl q i\/iv.ownBlock=some q\/(q=g/\i=acc0.length)) W w1) hbt (k1.mono ?_)).mono ?_
  ·rintro e w1 ⟨rfl,b,cap,h1,h2,h3,h4,h5⟩
   rw [<-hic] at h1
   refine ⟨_,_,_,rfl,⟨_,yab hB hL h hiv h1 h2 h3 h5,(h5.shape bt hlt).trans hst,h5⟩,(h5.cell bt 0 hlt ?_).trans hbt,(h5.frozen bt 0 hlt).trans hft⟩
   rintro (e|e|e)
   ·exact nbt e.1
   ·exact (nib _ e).2.2 rfl
   ·exact (nbl g rfl).2.2 e.1.symm
  ·rintro e W' ⟨rfl,a1,kk,c1,w1,⟨xs1,h1,hs,h2⟩,h3,rfl⟩
   refine ⟨rfl,_,_,fin w1 _ _ _ _ h1 h3 hs h2 ?_⟩
   rintro q i hq (e|e|e)
   ·exact .inl e.1
   ·exact yui
   ·exact yti
end
def Gj(ws:List ByteArray)(acc:List (List Ic)):Except Int (List (List Ic)):=
 match ws with
 |[]=> .error 2
 |u::us=>
  if u=Vj then (match us with
   |[]=>if acc.length=3 then .error 5 else .ok (acc++[[]])
   |_::_=> .error 2)
  else match zbm u us with
   |none=> .error 2
   |some (_,_::_)=> .error 2
   |some (ic,[])=>match acc.getLast? with
    |none=> .error 3
    |some c=>if c.length=4000 then .error 5 else .ok (acc.dropLast++[c++[ic]])
section
variable{B bl bw bt:Nat}{n:Int}{W:World}{v:Value}{acc:List (List Ic)}{xs:List Value}{ws:List ByteArray}
theorem z73(hc:W.cell? ⟨bt,0,none⟩=some v)(hcall:Hid (Cl 50 #[v,ptr bl] W λe w'=>Fails er n bl W e w')):
  Cl 49 #[ptr bl,ptr bt] W λe w'=>Fails er n bl W e w':=by
 go_enter Tryz.func49,Tryz.ntmps49
 go_wp2_with fail
 refine hcall.out.mono ?_
 intro e Wf hf
 obtain ⟨bf,rfl,hf'⟩:=hf.thru (Chg.refl _ W)
 exact ⟨rfl,hf'⟩
theorem yh4(h:LineAt W bl n bw []):
  Cl 50 #[.slice a k c,ptr bl] W λe w'=>Fails 2 n bl W e w':=by
 have H0:=hid h
 clear h
 go_enter Tryz.func50,Tryz.ntmps50
 go_wp2_with fail
 refine (Fg H0.out).mono ?_
 intro e Wf hf
 obtain ⟨bf,rfl,hf'⟩:=hf.thru (Chg.refl _ W)
 exact ⟨rfl,hf'⟩
theorem yft{c:List Ic}{us:List ByteArray}(hB:B<=W.heap.size)(hL:LineAt W bl n bw (u::us))(hws:W.shape? bw=some (9,(u::us).length))(hbt:W.cell? ⟨bt,0,none⟩=some v)(hst:W.shape? bt=some (72,1))(hft:W.frozen? ⟨bt,0,none⟩=false)
  (h:RowsAt B W v (acc0++[c]) xs) (hul:us.length<1000000) (hut:u≠Vj) (hl3:acc0.length<3) (hcl:c.length<4000)
  (hread: ∀W1,LineAt W1 bl n bw us->Chg (Jo bl) W W1->Cl 78 #[.string u,ptr bl] W1 λe w'=>e= .returned (.iface (yaz ic) (z8x ic))/\LineAt w' bl n bw []/\Chg (Jo bl) W1 w'):
  Cl 49 #[ptr bl,ptr bt] W λe W'=>e= .returned (.tuple #[])/\ ∃v' xs',W'.cell? ⟨bt,0,none⟩=some v'/\RowsAt B W' v' (acc0++[c++[ic]]) xs'/\Chg (yc6 W B bl bt) W W':=by
 have nbl: ∀g,v.ownBlock=some g->g≠bl/\g≠bw/\g≠bt:=ys8
 have hlt:bt<W.heap.size:=Qd hst
 have nbt:bt≠bl:=λe=>by rw [e,hL.sh] at hst;simp at hst
 obtain ⟨g,cp,rfl⟩: ∃g cp,v= .slice (some ⟨g,0,none⟩) (acc0.length+1) cp:=ytx
 have hlen:=h.len
 simp at hlen
 obtain ⟨iv,hiv⟩: ∃iv,xs[acc0.length]?=some iv:=⟨_,List.getElem?_eq_getElem yum⟩
 obtain ⟨c',hc1,hc2⟩:=h.row _ _ hiv
 simp at hc1
 subst hc1
 have nib: ∀g',iv.ownBlock=some g'->g'≠bl/\g'≠bw/\g'≠bt:=ys7
 have hown:W.ownsRow 0 75 1 (.slice (some ⟨g,0,none⟩) (acc0.length+1) cp) (acc0.length+1) xs:=by simpa using h.own
 have k1:=z9h (T:=yaz ic) (p:=z8x ic) hL hul hut hl3 hread hown (λe=>(nbl g rfl).1 e) (λe=>(nbl g rfl).2.1 e) hiv hc2 hcl (λe=>(nib _ e).1 rfl) (λe=>(nib _ e).2.1 rfl)
 refine (yak (R:=λa1 kk c1 w1=>∃xs1,RowsAt B w1 (.slice a1 kk c1) (acc0++[c++[ic]]) xs1/\w1.shape? bt=some (72,1)/\Chg (λq i=>Jo bl q i\/iv.ownBlock=some q\/(q=g/\i=acc0.length)) W w1) hbt (k1.mono ?_)).mono ?_
 ·rintro e w1 ⟨rfl,b,cap,h1,h2,h3,h4,h5⟩
  refine ⟨_,_,_,rfl,⟨_,yab hB hL h hiv h1 h2 h3 h5,(h5.shape bt hlt).trans hst,h5⟩,(h5.cell bt 0 hlt ?_).trans hbt,(h5.frozen bt 0 hlt).trans hft⟩
  rintro (e|e|e)
  ·exact nbt e.1
  ·exact (nib _ e).2.2 rfl
  ·exact (nbl g rfl).2.2 e.1.symm
 ·rintro e W' ⟨rfl,a1,kk,c1,w1,⟨xs1,h1,hs,h2⟩,h3,rfl⟩
  have hset:Chg (λq i=>q=bt/\i=0) w1 (w1.setCell ⟨bt,0,none⟩ (.slice a1 kk c1)):=(Chg.refl _ w1).setCell (λ_=>⟨rfl,rfl⟩) _
  refine ⟨rfl,_,_,Qg h3 rfl,h1.keep hset ?_,(h2.mono ?_).setCell (λ_=> .inr (.inl rfl)) _⟩
  ·rintro k i hk ⟨rfl,rfl⟩
   exact z72 hs yup yup hk
  ·rintro q i hq (e|e|e)
   ·exact .inl e.1
   ·exact yui
   ·exact yti
theorem yfu(hB:B<=W.heap.size)(hG:10<=B)(hL:LineAt W bl n bw ws)(hbl:B<=bl)(hws:W.shape? bw=some (9,ws.length))(hbt:W.cell? ⟨bt,0,none⟩=some v)(hst:W.shape? bt=some (72,1))(hft:W.frozen? ⟨bt,0,none⟩=false)
  (h:RowsAt B W v acc xs) (h3:acc.length<=3) (h4: ∀c∈acc,c.length<=4000) (hE:Env W) (hz:SzOk ws):
  Cl 49 #[ptr bl,ptr bt] W λe W'=>match Gj ws acc with
   | .ok acc'=>e= .returned (.tuple #[])/\ ∃v' xs',W'.cell? ⟨bt,0,none⟩=some v'/\RowsAt B W' v' acc' xs'/\Chg (yc6 W B bl bt) W W'
   | .error er=>Fails er n bl W e W':=by
 obtain ⟨a,cp,hv⟩: ∃a cp,v= .slice a acc.length cp:=by
  rcases h.own.2 with ⟨e1,e2⟩|⟨g',cap',cur,e1,_⟩
  ·exact ⟨none,0,by rw [e1,e2]⟩
  ·exact ⟨_,_,e1⟩
 have hG':10<=bl:=Nat.le_trans hG hbl
 cases ws with
 |nil=>exact z73 hbt (hv▸yh4 hL)
 |cons u us=>
  by_cases hu:u=Vj
  ·subst hu
   cases us with
   |cons u2 us=>simp only [Gj,if_true];exact z73 hbt (hv▸ya1 hL hz.tail)
   |nil=>
    by_cases hl:acc.length=3
    ·simp only [Gj,if_true,hl]
     rw [hl] at hv
     exact z73 hbt (hv▸ya2 hL)
    ·simp only [Gj,if_true,if_neg hl]
     exact yg3 (wd:=Jc) hB yum hL hbl hws hbt hst hft h hE.words (.inl ⟨rfl,by omega,rfl⟩)
  ·cases hi:zbm u us with
   |none=>simp only [Gj,if_neg hu,hi];exact z73 hbt (hv▸yc0 hL hE hG' hz hu hi)
   |some q=>
    obtain ⟨ic,us2⟩:=q
    cases us2 with
    |cons u2 us2=>simp only [Gj,if_neg hu,hi];exact z73 hbt (hv▸ybp hL hE hG' hz hu hi)
    |nil=>
     rcases List.eq_nil_or_concat acc with rfl|⟨acc0,c,rfl⟩
     ·simp only [Gj,if_neg hu,hi,List.getLast?_nil]
      exact z73 hbt (hv▸ya3 hL hE hG' hz hu hi)
     ·simp only [List.concat_eq_append] at h h3 h4 hv⊢
      have hl0:acc0.length<3:=by simp at h3;omega
      by_cases hf:c.length=4000
      ·simp only [Gj,if_neg hu,hi,List.getLast?_concat,hf,if_true]
       obtain ⟨g,cp',rfl⟩: ∃g cp',v= .slice (some ⟨g,0,none⟩) (acc0.length+1) cp':=ytx
       have hlen:=h.len
       simp at hlen
       obtain ⟨iv,hiv⟩: ∃iv,xs[acc0.length]?=some iv:=⟨_,List.getElem?_eq_getElem yum⟩
       obtain ⟨c',hc1,hc2⟩:=h.row _ _ hiv
       simp at hc1
       subst hc1
       rw [hf] at hc2
       obtain ⟨ia,icp,rfl⟩: ∃ia icp,iv= .slice ia 4000 icp:=by
        rcases hc2.2 with ⟨e1,e2⟩|⟨g',cap',cur,e1,_⟩
        ·simp at e2
        ·exact ⟨_,_,e1⟩
       have hown:W.ownsRow 0 75 1 (.slice (some ⟨g,0,none⟩) (acc0.length+1) cp') (acc0.length+1) xs:=by simpa using h.own
       obtain ⟨q1,_,q3⟩:=Qm hown acc0.length yum
       refine z73 hbt (ybq hL hE hG' hz hu hi hl0 (λe=>?_) q3 (q1.trans hiv))
       obtain ⟨nn,hs⟩:=z7e hown g rfl
       rw [e,hL.sh] at hs
       simp at hs
      ·simp only [Gj,if_neg hu,hi,List.getLast?_concat,if_neg hf,List.dropLast_concat]
       have hc4:=h4 c yun
       exact yft hB hL hws hbt hst hft h hz.len hu hl0 yum (λW1 hL1 hC1=>yfq hL1 (hE.line hC1 hG') hG' hz.tail hi rfl)
end
end Go.Proofs.YtkenoofmkbghiaaGreatDoor
