import Derived.Test.YtphcopbffecceaaGreatDoorP38
import Derived.ShutString
import Derived.ChangeOld
import Derived.ChangeMaps5
import Derived.Below
import Derived.SizedLaws
import Derived.JoinedOf
import Derived.Test.YtphcopbffecceaaGreatDoorCards
import Derived.Test.YtphcopbffecceaaGreatDoorTie
import Derived.SevenTiedAt
set_option maxRecDepth 100000
set_option maxHeartbeats 20000000
namespace Go.Proofs.YtphcopbffecceaaGreatDoor
open Go.RowKit
variable{s:ByteArray}{st:RS}
section
variable{u:Bool}{Q:Nat->Bool}{b c k:Nat}{s:Ck}{x:Cx}
theorem zus(hx:x.Fit)(i:Nat)(hi:i<6)(h:Good true Q b s):Good true Q (b+125) (x.lockC (i:Int) s):=by
 have h1:=h.add (c:=14) (ws:=[Qw,yR4,y0,x.own (6+(i:Int))]) (λ_=>Zb rw4 nw0.val (Xd hx 6 i yai) yai) yai
 have h2:=h1.pend (c:=11) (ws:=[yJz,yR4]) (Fd rw4.val (Nat.le_refl _)) yai
 have h3:=h2.add (c:=13) (ws:=[Qw,yR5,y0,ze5 (i:Int)]) (λ_=>Zb rw5 nw0.val (zf6 i yai) yai) yai
 have h4:=(h3.add (c:=13) (ws:=[yLt,yR4,yR5,yR6]) (λ_=>Ew 10 yai rw4 rw5.val rw6.val yai) yai).undoIf
 have h5:=h4.add (c:=15) (ws:=[Qh,y0,x.own (18+(i:Int)),yR5]) (λ_=>Vi nw0.val (Xd hx 18 i yai) rw5.val yai) yai
 have h6:=(h5.add (c:=37) (ws:=[zvf,yR4,y0,ze5 (i:Int),yR5,x.lock]) (λ_=>z1y rw4 nw0.val (zf6 i yai) rw5.val (zur hx).val yai) yai).undoIf
 exact (h6.land h1.fresh.1).mono yai
theorem zut(hx:x.Fit)(i:Nat)(hi:i<6)(h:Good true Q b s):Good true Q (b+62) (x.lookC (i:Int) s):=by
 have h1:=h.add (c:=14) (ws:=[Qw,yR4,y0,x.own (12+(i:Int))]) (λ_=>Zb rw4 nw0.val (Xd hx 12 i yai) yai) yai
 have h2:=h1.pend (c:=11) (ws:=[yJz,yR4]) (Fd rw4.val (Nat.le_refl _)) yai
 have h3:=(zcm nw0.val i yai h2).undoIf
 exact (h3.land h1.fresh.1).mono yai
theorem zp2(hx:x.Fit)(i:Nat)(hi:i<6)(h:Good u Q b s):Good u Q (b+66) (x.storeC (i:Int) s):=by
 have h1:=h.add (c:=14) (ws:=[Qw,yR4,y0,x.own (6+(i:Int))]) (λ_=>Zb rw4 nw0.val (Xd hx 6 i yai) yai) yai
 have h2:=h1.pend (c:=11) (ws:=[yJz,yR4]) (Fd rw4.val (Nat.le_refl _)) yai
 have h3:=h2.add (c:=14) (ws:=[Qw,yR4,y0,x.own (i:Int)]) (λ_=>Zb rw4 nw0.val (zf5 hx i yai) yai) yai
 have h4:=h3.add (c:=13) (ws:=[Qh,y0,dec (i:Int),yR4]) (λ_=>Vi nw0.val (Xp i 0 yai yai) rw4.val yai) yai
 have h5:=h4.add (c:=14) (ws:=[Qh,y0,ze5 (i:Int),yR5]) (λ_=>Vi nw0.val (zf6 i yai) rw5.val yai) yai
 exact (h5.land h1.fresh.1).mono yai
theorem zlt(hx:x.Fit)(i:Nat)(hi:i<6)(h:Good u Q b s):Good u Q (b+84) (x.unlockC (i:Int) s):=by
 have h0:=h.add (c:=13) (ws:=[Qw,yR4,y0,ze5 (i:Int)]) (λ_=>Zb rw4 nw0.val (zf6 i yai) yai) yai
 have h1:=h0.add (c:=32) (ws:=[yEq,yR4,yR4,x.lock]) (λ_=>Ew 11 yai rw4 rw4.val (zur hx).val yai) yai
 have h2:=h1.pend (c:=11) (ws:=[yJz,yR4]) (Fd rw4.val (Nat.le_refl _)) yai
 have h3:=h2.add (c:=14) (ws:=[Qw,yR4,y0,x.own (18+(i:Int))]) (λ_=>Zb rw4 nw0.val (Xd hx 18 i yai) yai) yai
 have h4:=h3.add (c:=14) (ws:=[Qh,y0,ze5 (i:Int),yR4]) (λ_=>Vi nw0.val (zf6 i yai) rw4.val yai) yai
 exact (h4.land h1.fresh.1).mono yai
theorem zuu(l:List Bool): ∀(i:Nat) (s:Ck),(Qn (λi=>x.unlockC i) l i s).bk=s.bk:=by
 induction l with
 |nil=>intro i s;rfl
 |cons a r ih=>
  intro i s
  simp only [Qn]
  rw [ih]
  split<;>rfl
theorem zuv(hx:x.Fit)(h:Good true Q b s):Good false Q (b+513) (x.undoC s):=by
 unfold Cx.undoC
 dsimp only
 have h1:=h.landsU
 have hb:(s.lands s.bk.undo).bk=s.bk:=zuq (zcl s.bk.undo s).2.1
 have hp:=h.bl.2.1
 have h2:=Xc (c:=84) (N:=6) (f:=λi=>x.unlockC i) (λi hi b s h=>zlt hx i hi h) s.bk.puts 0 b _ yai h1
 have ha:=h2.bl.2.2.2
 rw [zuu,hb] at ha
 have h3:=h2.add (c:=9) (ws:=[zaa,dec (s.bk.again:Int)]) (λhl=>zg7 (zjc _ yai) yai) yai
 exact h3.mono yai
theorem Good.toF(h:Good true Q b s)(hu:s.bk.undo=[]):Good false Q b s:=by
 have e:s.un true=s.un false:=hu
 exact ⟨e▸h.g,e▸h.dis,e▸h.nd,h.bl⟩
theorem zlu(hx:x.Fit)(h:Good true Q b s):Good false Q (b+2076) (x.commit s):=by
 have hp:=h.bl.2.1
 have hg:=h.bl.1
 have h1:=Xc (c:=125) (N:=6) (f:=λi=>x.lockC i) (λi hi b s h=>zus hx i hi h) s.bk.puts 0 b s yai h
 have h2:=h1.add (c:=15) (ws:=[Xf,yR5,y0,dec 12,y1]) (λ_=>zyg rw5 nw0.val (Xp 12 1 yai yai) nw1.val yai) yai
 have h3:=h2.add (c:=12) (ws:=[Fy,yR5,yR5,y1]) (λ_=>Ew 0 yai rw5 rw5.val nw1.val yai) yai
 have h4:=Xc (c:=62) (N:=6) (f:=λi=>x.lookC i) (λi hi b s h=>zut hx i hi h) s.bk.gets 0 _ _ yai h3
 have h5:=Xc (c:=66) (N:=6) (f:=λi=>x.storeC i) (λi hi b s h=>zp2 hx i hi h) s.bk.puts 0 _ _ yai h4
 have h6:=h5.add (c:=9) (ws:=[Yn]) (λ_=>zun) yai
 have h7:=h6.pend (c:=9) (ws:=[zaa]) (zns (Nat.le_refl _)) yai
 have h8:=zuv hx h7
 exact (h8.land h6.fresh.1).mono yai
theorem zuw(hx:x.Fit)(h:Good u Q b s):Good u Q (b+78) (x.give s):=by
 have h1:=h.add (c:=9) (ws:=[zdp,yR4,y0]) (λ_=>zg6 rw4 nw0.val yai) yai
 have h2:=h1.add (c:=13) (ws:=[yLt,yR5,yR4,yR7]) (λ_=>Ew 10 yai rw5 rw4.val rw7.val yai) yai
 have h3:=h2.pend (c:=11) (ws:=[yJz,yR5]) (Fd rw5.val (Nat.le_refl _)) yai
 have h4:=h3.add (c:=15) (ws:=[Qw,yR5,yR4,x.own 24]) (λ_=>Zb rw5 rw4.val (zf5 hx 24 yai) yai) yai
 have h5:=h4.add (c:=9) (ws:=[zp6,yR5]) (λ_=>zul rw5.val yai) yai
 have h6:=h5.add (c:=12) (ws:=[Fy,yR4,yR4,y1]) (λ_=>Ew 0 yai rw4 rw4.val nw1.val yai) yai
 have h7:=h6.add (c:=9) (ws:=[zaa,dec (((s.add [zdp,yR4,y0]).L.length:Nat):Int)]) (λhl=>zg7 (zjc _ (by simp only [Qx] at hl⊢;omega)) yai) yai
 exact (h7.land h2.fresh.1).mono yai
theorem zp3(hx:x.Fit)(h:Good u Q b s):Good u Q (b+318) (x.begin s):=by
 have hc:=h.bl.2.2.1
 have hp:=h.bl.2.1
 have hg:=h.bl.1
 have h1:=Xc (c:=15) (N:=4) (f:=λi s=>s.add [Qh,y0,x.own (32+(i:Int)),Zy (i:Int)]) (λi hi b s h=>h.add (λ_=>Vi nw0.val (Xd hx 32 i yai) (zez i yai).val yai) yai) s.bk.chgs 0 b s yai h
 have hb:=Zl (λi=>[Qh,y0,x.own (32+(i:Int)),Zy (i:Int)]) s.bk.chgs 0 s
 have hbk:=zuq hb
 simp only [Cx.begin]
 generalize Qn (λi s=>s.add [Qh,y0,x.own (32+(i:Int)),Zy (i:Int)]) s.bk.chgs 0 s=s1 at*
 have h2:Good u Q (b+15*s.bk.chgs.length) ({s1 with blk:=some {s.bk with again:=s1.L.length}}:Ck):=by
  have e:({s1 with blk:=some {s.bk with again:=s1.L.length}}:Ck).un u=s1.un u:=by
   unfold Ck.un
   rw [hbk]
   rfl
  refine ⟨?_,?_,?_,⟨hg,hp,hc,Nat.le_refl _⟩⟩
  ·rw [e];exact h1.g
  ·rw [e];exact h1.dis
  ·rw [e];exact h1.nd
 have h3:=Xc (c:=14) (N:=4) (f:=λi s=>s.add [Qw,Zy (i:Int),y0,x.own (32+(i:Int))]) (λi hi b s h=>h.add (λ_=>Zb (zez i yai) nw0.val (Xd hx 32 i yai) yai) yai) s.bk.chgs 0 _ _ yai h2
 have h4:=h3.add (c:=13) (ws:=[Qw,yR6,y0,dec 12]) (λ_=>Zb rw6 nw0.val (Xp 12 1 yai yai) yai) yai
 have h5:=h4.add (c:=12) (ws:=[Fy,yR6,yR6,y1]) (λ_=>Ew 0 yai rw6 rw6.val nw1.val yai) yai
 have h6:=Xc (c:=14) (N:=6) (f:=λi s=>s.add [Qh,y0,x.own (6+(i:Int)),y0]) (λi hi b s h=>h.add (λ_=>Vi nw0.val (Xd hx 6 i yai) nw0.val yai) yai) s.bk.puts 0 _ _ yai h5
 have h7:=Xc (c:=14) (N:=6) (f:=λi s=>s.add [Qh,y0,x.own (12+(i:Int)),y0]) (λi hi b s h=>h.add (λ_=>Vi nw0.val (Xd hx 12 i yai) nw0.val yai) yai) s.bk.gets 0 _ _ yai h6
 have h8:=h7.add (c:=9) (ws:=[zdp,yR7,y0]) (λ_=>zg6 rw7 nw0.val yai) yai
 exact h8.mono yai
theorem zp4(e:En)(k:Bk):(x.seen k e).again=k.again:=by
 rcases e with st|j
 ·rcases st with ⟨to,a⟩|⟨to,o,a,b⟩|⟨to,f,a⟩|⟨f,a,v⟩|a|⟨⟩|a|n<;>rfl
 ·rfl
theorem zje: ∀(es:List En) (k:Bk),(es.foldl x.seen k).again=k.again
 |[],_=>rfl
 |e::r,k=>(zje r (x.seen k e)).trans (zp4 e k)
theorem zlv(hx:x.Fit){k:Bk}(hk:k.New)(ha:k.again=0){body:Ck->Ck}{N:Nat}(hb: ∀B s',s'.loops=s.loops->Good true Q B s'->Good true Q (B+N) (body s'))(hB: ∀s:Ck,(body s).blk=s.blk)(hn:s.blk=none)(h:Good true Q b s):
  Good true Q (b+(N+2472)) (x.atomicC k body s):=by
 have e0:s.un true=[]:=by unfold Ck.un Ck.bk;rw [hn];rfl
 have ek:({s with blk:=some k}:Ck).un true=[]:=hk.u
 have h1:Good true Q b ({s with blk:=some k}:Ck):=by
  refine ⟨?_,?_,?_,⟨Nat.le_of_eq hk.g,Nat.le_of_eq hk.p,Nat.le_of_eq hk.c,?_⟩⟩
  ·rw [ek];have:=h.g;rw [e0] at this;exact this
  ·rw [ek];have:=h.dis;rw [e0] at this;exact this
  ·rw [ek];have:=h.nd;rw [e0] at this;exact this
  ·show k.again<=_;omega
 have h2:=zp3 hx h1
 obtain ⟨n,h3,_⟩:=zh4 x (s:={s with blk:=some k}) rfl
 have h4:=hb _ (x.begin {s with blk:=some k}) ((zat x).lo {s with blk:=some k}) h2
 have h5:=(hB (x.begin {s with blk:=some k})).trans h3
 unfold Cx.atomicC
 dsimp only
 generalize body (x.begin {s with blk:=some k})=s2 at*
 have hu:s2.bk.undo=[]:=by rw [Sq h5];exact hk.u
 have h6:Good false Q (b+318+N+2076) (if k.puts=[false,false,false,false,false,false] then s2 else x.commit s2):=by
  split
  ·exact (h4.toF hu).mono yai
  ·exact (zlu hx h4).mono yai
 generalize (if k.puts=[false,false,false,false,false,false] then s2 else x.commit s2)=s3 at*
 have h7:Good false Q (b+318+N+2076+78) (if k.gives=true then x.give s3 else s3):=by
  split
  ·exact zuw hx h6
  ·exact h6.mono yai
 generalize (if k.gives=true then x.give s3 else s3)=s4 at*
 have h8:Good true Q (b+318+N+2076+78) ({s4 with blk:=none}:Ck):=⟨h7.g,h7.dis,h7.nd,⟨Nat.zero_le _,Nat.zero_le _,Nat.zero_le _,Nat.zero_le _⟩⟩
 exact h8.mono yai
theorem zjf(hx:x.Fit){inb:Bool}{st:St}(hl:x.leafOk inb st)(h:Good true Q b s):Good true Q (b+363) (x.leaf st s):=by
 rcases st with ⟨to,a⟩|⟨to,o,a,v⟩|⟨to,f,a⟩|⟨f,a,v⟩|a|⟨⟩|a|n
 ·exact (h.add (c:=29) (λ_=>zg6 (zdh hx to) (Sm hx hl.2) yai) yai).mono yai
 ·exact (h.add (c:=51) (λ_=>Ew o hl.2.1 (zdh hx to) (Sm hx hl.2.2.1) (Sm hx hl.2.2.2) yai) yai).mono yai
 ·exact zyi hx hl.2.2.2 hl.2.2.1 h
 ·exact (zyj hx hl.2.2.1 hl.2.2.2 hl.2.1 h).mono yai
 ·exact (zyk hx hl h).mono yai
 ·exact hl.elim
 ·exact hl.elim
 ·exact hl.elim
theorem Of{f:Ck->En->Ck}{cst:En->Nat}{I:Ck->Prop}: ∀(es:List En) (b:Nat) (s:Ck),(∀e∈es,∀B s,I s->Good true Q B s->Good true Q (B+cst e) (f s e)/\I (f s e))->I s->Good true Q b s->Good true Q (b+(es.map cst).sum) (es.foldl f s)/\I (es.foldl f s)
 |[],_,_,_,hI,hg=>⟨hg,hI⟩
 |e::r,b,s,h,hI,hg=>by
  obtain ⟨h1,h2⟩:=h e yaj b s hI hg
  have:=Of r (b+cst e) (f s e) (λe' he=>h e' (List.mem_cons_of_mem _ he)) h2 h1
  simp only [List.foldl_cons,List.map_cons,List.sum_cons]
  rw [<-Nat.add_assoc]
  exact this
theorem zg9(hx:x.Fit)(hs:List Hd): ∀(f:Nat) (inb:Bool) (e:En),enW hs x f inb e->∀(Q:Nat->Bool) (b:Nat) (s:Ck),(inb=false->s.blk=none)->s.loops+f<=3->Good true Q b s->Good true Q (b+2472*wE hs f e) (cEn hs x f e s)
 |0,_, .inl st,hw,Q,b,s,_,_,h=>by
  refine (zjf hx hw h).mono ?_
  show _<=b+2472*1
  omega
 |0,_, .inr _,hw,_,_,_,_,_,_=>hw.elim
 |f+1,_, .inl st,hw,Q,b,s,_,_,h=>by
  refine (zjf hx hw h).mono ?_
  show _<=b+2472*(1+_)
  omega
 |f+1,inb, .inr j,hw,Q,b,s,hn,hlo,h=>by
  obtain ⟨es,_,hw⟩:=hw
  have hc: ∀k,hs[j]?=some ⟨k,es⟩->2472*wE hs (f+1) (.inr j)=2472+(es.map λe=>2472*wE hs f e).sum:=λk hj=>by
   rw [Is]
   simp only [wE,Jb,hj,Nat.mul_add]
  rcases hw with ⟨hj,hb,he⟩|⟨a,hj,ha,he⟩|⟨n,hj,hn14,he⟩
  ·have hblk: ∀s:Ck,(es.foldl (λs e=>cEn hs x f e s) s).blk=s.blk:=λs'=>Oq (f:=λs e=>cEn hs x f e s) es s' (λe he' s=>Xh hs x f true e (he e he') s (λq=>by cases q))
   have e2:cEn hs x (f+1) (.inr j) s=x.atomicC ((Jf hs 3 es).foldl x.seen bk0) (λs=>es.foldl (λs e=>cEn hs x f e s) s) s:=by
    simp only [cEn,hj]
    rfl
   rw [e2,hc _ hj]
   have:=zlv hx (zgq x (Jf hs 3 es) bk0 zkd) (zje (x:=x) (Jf hs 3 es) bk0) (N:=(es.map λe=>2472*wE hs f e).sum) (λB s' hl hg=>(Of (f:=λs e=>cEn hs x f e s) (I:=λs=>s.loops+f<=3) es B s' (λe he' B s hI hg=>⟨zg9 hx hs f true e (he e he') Q B s (λq=>by cases q) hI hg,by have:=(Fq hs x f e).lo s;show (cEn hs x f e s).loops+f<=3;omega⟩) (by show s'.loops+f<=3;omega) hg).1) hblk (hn hb) h
   exact this.mono yai
  ·have e2:cEn hs x (f+1) (.inr j) s=(es.foldl (λs e=>cEn hs x f e s) (s.add [yJz,x.val a])).land s.L.length:=by
    simp only [cEn,hj]
    rfl
   rw [e2,hc _ hj]
   have h1:=h.pend (c:=30) (ws:=[yJz,x.val a]) (Fd (Sm hx ha) (Nat.le_refl _)) yai
   have h2:=(Of (f:=λs e=>cEn hs x f e s) (cst:=λe=>2472*wE hs f e) (I:=λs=>s.loops+f<=3/\(inb=false->s.blk=none)) es _ (s.add [yJz,x.val a]) (λe he' B s hI hg=>⟨zg9 hx hs f inb e (he e he') _ B s hI.2 hI.1 hg,by have:=(Fq hs x f e).lo s;show (cEn hs x f e s).loops+f<=3;omega,λhq=>(Xh hs x f inb e (he e he') s hI.2).trans (hI.2 hq)⟩) ⟨by show s.loops+f<=3;omega,hn⟩ h1).1
   exact (h2.land h.fresh.1).mono yai
  ·obtain ⟨n',hn'⟩: ∃n':Nat,n=(n':Int):=⟨n.toNat,by omega⟩
   subst hn'
   have hdn:VW 1 (dec (n':Int)):=(Xp n' 0 yai yai).val
   have hown:=Xd hx 36 s.loops yai
   have e2:cEn hs x (f+1) (.inr j) s=x.loopC (n':Int) (λs=>es.foldl (λs e=>cEn hs x f e s) s) s:=by
    simp only [cEn,hj]
    rfl
   rw [e2,hc _ hj]
   have h0:Good true Q b ({s with loops:=s.loops+1}:Ck):=⟨h.g,h.dis,h.nd,h.bl⟩
   have h1:=h0.add (c:=14) (ws:=[Qh,y0,x.own (36+(s.loops:Int)),dec (n':Int)]) (λ_=>Vi nw0.val hown hdn yai) yai
   have h2:=(Of (f:=λs e=>cEn hs x f e s) (cst:=λe=>2472*wE hs f e) (I:=λs=>s.loops+f<=3/\(inb=false->s.blk=none)) es _ (({s with loops:=s.loops+1}:Ck).add [Qh,y0,x.own (36+(s.loops:Int)),dec (n':Int)]) (λe he' B s hI hg=>⟨zg9 hx hs f inb e (he e he') _ B s hI.2 hI.1 hg,by have:=(Fq hs x f e).lo s;show (cEn hs x f e s).loops+f<=3;omega,λhq=>(Xh hs x f inb e (he e he') s hI.2).trans (hI.2 hq)⟩) ⟨by show s.loops+1+f<=3;omega,hn⟩ h1).1
   have hle:=(Oo (f:=λs e=>cEn hs x f e s) (λe=>Fq hs x f e) es).le (({s with loops:=s.loops+1}:Ck).add [Qh,y0,x.own (36+(s.loops:Int)),dec (n':Int)])
   unfold Cx.loopC
   dsimp only at hle⊢
   generalize ({s with loops:=s.loops+1}:Ck).add [Qh,y0,x.own (36+(s.loops:Int)),dec (n':Int)]=s1 at*
   generalize es.foldl (λs e=>cEn hs x f e s) s1=s2 at*
   have h3:=h2.add (c:=14) (ws:=[Qw,yR4,y0,x.own (36+(s.loops:Int))]) (λ_=>Zb rw4 nw0.val hown yai) yai
   have h4:=h3.add (c:=12) (ws:=[zyo,yR4,yR4,y1]) (λ_=>Ew 1 yai rw4 rw4.val nw1.val yai) yai
   have h5:=h4.add (c:=15) (ws:=[Qh,y0,x.own (36+(s.loops:Int)),yR4]) (λ_=>Vi nw0.val hown rw4.val yai) yai
   have h6:=h5.pend (c:=11) (ws:=[yJz,yR4]) (Fd rw4.val (Nat.le_refl _)) yai
   have h7:=h6.add (c:=9) (ws:=[zaa,dec ((s1.L.length:Nat):Int)]) (λhl=>zg7 (zjc _ (by simp only [Qx] at hl;omega)) yai) yai
   have h8:=(h7.land h5.fresh.1).mono (b':=b+(2472+(es.map λe=>2472*wE hs f e).sum)) yai
   exact ⟨h8.g,h8.dis,h8.nd,h8.bl⟩
theorem znt: ∀(L:List ByteArray) (i:Nat),wt (λ_=>false) i L=(L.map λl=>l.size+1).sum
 |[],_=>rfl
 |a::r,i=>by simp only [wt,List.map_cons,List.sum_cons,cond_false];rw [znt r]
theorem GoodP.fin{L:List ByteArray}(h:GoodP (λ_=>false) b L)(hb:b<=34626):L.length<=4000/\(∀l∈L,ze0 l)/\(L.map λl=>l.size+1).sum<=34626:=by
 have hl:L.length<=4000:=by have:=h.n9;omega
 obtain ⟨h1,h2⟩:=h.ok hl
 rw [znt] at h2
 refine ⟨hl,λl hm=>?_,by omega⟩
 obtain ⟨i,hi⟩:=List.getElem?_of_mem hm
 exact (h1 i l hi).2 rfl
theorem zjg(hx:x.Fit)(hs:List Hd)(es:List En)(he: ∀e∈es,enW hs x 3 false e)(hw:(es.map (wE hs 3)).sum<=14):
  (It hs x es).L.length<=4000/\(∀l∈(It hs x es).L,ze0 l)/\((It hs x es).L.map λl=>l.size+1).sum<=34626:=by
 have h0:Good true (λ_=>false) 0 Ck.none':=⟨⟨λi hi=>by simp [pn,Ck.un,Ck.bk,Ck.none'] at hi,Nat.le_refl _,λ_=>⟨λi l hi=>by simp [Ck.none'] at hi,Nat.le_refl _⟩⟩,λi hi=>(by cases hi),by simp [Ck.un,Ck.bk,Ck.none'],⟨Nat.zero_le _,Nat.zero_le _,Nat.zero_le _,Nat.zero_le _⟩⟩
 obtain ⟨h1,_,hb⟩:=Of (f:=λs e=>cEn hs x 3 e s) (cst:=λe=>2472*wE hs 3 e) (I:=λs=>s.loops+3<=3/\s.blk=none) es 0 Ck.none' (λe he' B s hI hg=>⟨zg9 hx hs 3 false e (he e he') _ B s (λ_=>hI.2) hI.1 hg,by have:=(Fq hs x 3 e).lo s;show (cEn hs x 3 e s).loops+3<=3;have:=hI.1;omega,(Xh hs x 3 false e (he e he') s (λ_=>hI.2)).trans hI.2⟩) ⟨Nat.le_refl _,rfl⟩ h0
 rw [Is] at h1
 unfold It
 generalize es.foldl (λs e=>cEn hs x 3 e s) Ck.none'=s at*
 generalize (es.map (wE hs 3)).sum=W at*
 have eu:s.un true=[]:=by unfold Ck.un Ck.bk;rw [hb];rfl
 have hg:=h1.g
 have hnd:=h1.nd
 rw [eu] at hg hnd
 have ep:pn (λ_=>false) [] s.T=λj=>s.T.contains j:=by funext j;simp [pn]
 rw [ep] at hg
 unfold Ck.endC
 split
 ·rename_i hT
  rw [hT] at hg
  have e:(λj=>([]:List Nat).contains j)=λ_=>false:=by funext j;simp
  rw [e] at hg
  exact (hg.add (c:=9) (λ_=>znr) yai).fin yai
 ·have h2:=GoodP.lands s.T (s:=s.add [Ex]) (hg.add (c:=9) (λ_=>znr) yai) (by simpa using hnd) (λn hn=>by simpa using hn)
  have e:(λj=>(λj=>s.T.contains j) j&&!s.T.contains j)=λ_=>false:=by funext j;simp
  rw [e] at h2
  exact (h2.add (c:=9) (λ_=>zyh) yai).fin yai
end
def lnT(ls:List (List UInt8)):List UInt8:=ls.flatMap λl=>l++[10]
def rdL:List (List UInt8)->List (List Ic)->Option (List (List Ic))
 |[],acc=>some acc
 |l::r,acc=>match Gj (Ql l) acc with
  | .ok acc'=>rdL r acc'
  | .error _=>none
theorem zux: ∀(l r:List (List UInt8)) (acc acc':List (List Ic)),rdL l acc=some acc'->rdL (l++r) acc=rdL r acc'
 |[],_,_,_,h=>by rw [Option.some.inj h];rfl
 |a::l,r,acc,acc',h=>by
  simp only [List.cons_append,rdL] at h⊢
  cases hg:Gj (Ql a) acc with
  |error e=>rw [hg] at h;cases h
  |ok x=>rw [hg] at h;exact zux l r x acc' h
theorem znu: ∀(ls:List (List UInt8)) (f j:Nat) (acc acc':List (List Ic)),ls.length+1<=f->(j≠0\/ls≠[])->(∀l∈ls,(10:UInt8)∉l)->rdL ls acc=some acc'->zdo f (lnT ls) j acc= .ok acc'
 |_,0,_,_,_,hf,_,_,_=>by omega
 |[],f+1,j,acc,acc',_,hj,_,h=>by
  rw [zdo,if_pos ⟨rfl,hj.resolve_right yaj⟩,Option.some.inj h]
 |l::r,f+1,j,acc,acc',hf,_,hn,h=>by
  have e:lnT (l::r)=l++10::lnT r:=by simp [lnT]
  rw [zdo,e,if_neg yaj,zek l (lnT r) (hn l yaj)]
  dsimp only
  simp only [rdL] at h
  cases hg:Gj (Ql l) acc with
  |error e=>rw [hg] at h;cases h
  |ok a=>
   rw [hg] at h
   exact znu r f (j+1) a acc' (by simp at hf;omega) (.inl yai) (λl' hl=>hn l' (List.mem_cons_of_mem _ hl)) h
theorem zzf(acc:List (List Ic)): ∀(L:List ByteArray) (c:List Ic),(∀l∈L,ze0 l)->c.length+L.length<=4000->∃c',rdL (L.map λl=>l.data.toList) (acc++[c])=some (acc++[c'])
 |[],c,_,_=>⟨c,rfl⟩
 |l::r,c,h,hl=>by
  obtain ⟨_,u,us,hw,hne,hg⟩:=h l yaj
  obtain ⟨⟨ic,q⟩,hi,hq⟩:=Option.map_eq_some_iff.1 hg
  have hq:q=[]:=hq
  subst hq
  rw [List.length_cons] at hl
  have e:Gj (Ql l.data.toList) (acc++[c])= .ok (acc++[c++[ic]]):=by
   rw [hw]
   unfold Gj
   dsimp only
   rw [if_neg hne,hi]
   dsimp only
   rw [List.getLast?_append,List.getLast?_singleton]
   show (if c.length=4000 then _ else _)=_
   rw [if_neg yai,List.dropLast_append_of_ne_nil yaj]
   simp
  obtain ⟨c',hc⟩:=zzf acc r (c++[ic]) (λl' hl'=>h l' (List.mem_cons_of_mem _ hl')) (by rw [List.length_append,List.length_singleton];omega)
  refine ⟨c',?_⟩
  simp only [List.map_cons,rdL]
  rw [e]
  exact hc
theorem zuy(acc:List (List Ic))(ha:acc.length<3)(L:List ByteArray)(h: ∀l∈L,ze0 l)(hl:L.length<=4000): ∃c',rdL (Vj.data.toList::L.map λl=>l.data.toList) acc=some (acc++[c']):=by
 have hw:Ql Vj.data.toList=[Vj]:=by
  have:=zf4 Vj [] (λv hv=>by rw [List.mem_singleton.1 hv];unfold NoS;decide)
  rw [Zx] at this
  simpa using this
 obtain ⟨c',hc⟩:=zzf acc L [] h (by simpa using hl)
 refine ⟨c',?_⟩
 simp only [rdL]
 rw [hw]
 have e:Gj [Vj] acc= .ok (acc++[[]]):=by
  unfold Gj
  dsimp only
  rw [if_pos rfl,if_neg yai]
 rw [e]
 exact hc
theorem zp5: ∀(L:List ByteArray),L≠[]->(Zt 10 L++⟨#[10]⟩).data.toList=lnT (L.map λl=>l.data.toList)
 |[],h=>absurd rfl h
 |l::r,_=>by
  rw [ByteArray.data_append,Array.toList_append,Zx]
  have: ∀(r:List ByteArray),(r.map λv=>(10:UInt8)::v.data.toList).flatten++[10]=10::lnT (r.map λl=>l.data.toList):=by
   intro r
   induction r with
   |nil=>rfl
   |cons a r ih=>
    simp only [List.map_cons,List.flatten_cons,List.append_assoc,ih]
    simp [lnT]
  have e:=this r
  simp only [List.append_assoc]
  rw [e]
  simp [lnT]
def zjh(st:RS)(i:Nat):List (List UInt8):=Vj.data.toList::(It st.hs (zmu st i 0 0) (st.ents (st.thr i))).L.map λl=>l.data.toList
def Gi(st:RS):Nat->List (List UInt8)
 |0=>[]
 |i+1=>Gi st i++zjh st i
theorem zuz(a b:List (List UInt8)):lnT (a++b)=lnT a++lnT b:=by simp [lnT]
theorem zha(st:RS)(i:Nat):(Ek st i).data.toList=lnT (zjh st i):=by
 unfold Ek zfr Ck.text zjh
 rw [ByteArray.data_append,Array.toList_append,zp5 _ (show (It _ _ _).L≠[] from zss _)]
 rfl
theorem ze2(st:RS): ∀n,za0 st n=lnT (Gi st n)
 |0=>rfl
 |n+1=>by
  simp only [za0,Gi]
  rw [zuz,ze2 st n,zha]
theorem zu0: ∀(L:List ByteArray),(lnT (L.map λl=>l.data.toList)).length=(L.map λl=>l.size+1).sum
 |[]=>rfl
 |l::r=>by
  have:lnT ((l::r).map λl=>l.data.toList)=(l.data.toList++[10])++lnT (r.map λl=>l.data.toList):=rfl
  rw [this,List.length_append,zu0 r,List.map_cons,List.sum_cons,List.length_append,Array.length_toList]
  rfl
theorem zzg: ∀(L:List (List UInt8)),L.length<=(lnT L).length
 |[]=>Nat.le_refl _
 |l::r=>by
  have e:lnT (l::r)=(l++[10])++lnT r:=rfl
  have:=zzg r
  rw [e,List.length_append,List.length_append,List.length_cons,List.length_singleton]
  omega
theorem zu1(hg:zaz s= .ok st):Jl s= .ok st/\zay st=false/\st.Ok 2000/\st.threads≠[]:=by
 unfold zaz at hg
 cases h:Jl s with
 |error e=>rw [h] at hg;cases hg
 |ok st'=>
  rw [h] at hg
  dsimp only at hg
  by_cases c1:st'.opn.length≠1
  ·rw [if_pos c1] at hg;cases hg
  rw [if_neg c1] at hg
  by_cases c2:zay st'=true
  ·rw [if_pos c2] at hg;cases hg
  rw [if_neg c2] at hg
  obtain rfl:=Except.ok.inj hg
  have hok:st'.Ok 2000:=by
   have hz:=Iv h
   unfold Jl at h
   rw [if_neg yai] at h
   exact zbe _ _ 0 _ _ none_ok yc1 h
  exact ⟨rfl,by simpa using c2,hok,hok.ne λe=>c1 ybl⟩
theorem zu2(hg:zaz s= .ok st): ∃acc,zu9 (Yi st)= .ok acc/\acc.length=st.threads.length:=by
 obtain ⟨hl,hm,hok,hne⟩:=zu1 hg
 have hn3:st.threads.length<=3:=yag
 have H: ∀n,n<=st.threads.length->(∃acc,rdL (Gi st n) []=some acc/\acc.length=n)/\(∀l∈Gi st n,(10:UInt8)∉l)/\(lnT (Gi st n)).length<=n*34633/\(0<n->Gi st n≠[]):=by
  intro n
  induction n with
  |zero=>intro _;exact ⟨⟨[],rfl,rfl⟩,λl hl=>by simp [Gi] at hl,Nat.le_refl _,λh=>absurd h yai⟩
  |succ n ih=>
   intro hn
   obtain ⟨⟨acc,h1,h2⟩,h3,h4,_⟩:=ih yai
   have hmem:st.thr n∈st.threads:=by
    unfold RS.thr
    rw [List.getElem?_eq_getElem (show n<st.threads.length by omega)]
    exact List.getElem_mem _
   obtain ⟨q1,q2,q3⟩:=zms hl hok hm (zmu st n 0 0) rfl (st.thr n) hmem
   have hfit:(zmu st n 0 0).Fit:=by
    refine ⟨by show n<=2;omega,?_⟩
    show (st.locs (st.thr n)).length<=4
    obtain ⟨l,c,e1,_,e2⟩:=hok.thr _ hmem
    unfold RS.locs
    rw [e1]
    exact e2
   obtain ⟨g1,g2,g3⟩:=zjg hfit st.hs (st.ents (st.thr n)) q2 q3
   obtain ⟨c',hc⟩:=zuy acc yai _ g2 g1
   refine ⟨⟨acc++[c'],?_,by simp [h2]⟩,λl hl=>?_,?_,λ_=>by simp [Gi,zjh]⟩
   ·show rdL (Gi st n++zjh st n) []=_
    rw [zux _ _ _ _ h1]
    exact hc
   ·rcases List.mem_append.1 (show l∈Gi st n++zjh st n from hl) with hl|hl
    ·exact h3 l hl
    ·rcases List.mem_cons.1 hl with rfl|hl
     ·decide
     ·obtain ⟨v,hv,rfl⟩:=List.mem_map.1 hl
      exact (g2 v hv).1
   ·show (lnT (Gi st n++zjh st n)).length<=_
    have e:lnT (zjh st n)=(Vj.data.toList++[10])++lnT ((It st.hs (zmu st n 0 0) (st.ents (st.thr n))).L.map λl=>l.data.toList):=rfl
    rw [zuz,List.length_append,e,List.length_append,zu0]
    have:(Vj.data.toList++[10]).length=7:=rfl
    omega
 obtain ⟨⟨acc,h1,h2⟩,h3,h4,h5⟩:=H _ (Nat.le_refl _)
 have hz:(Yi st).data.toList=lnT (Gi st st.threads.length):=by
  unfold Yi
  rw [<-ze2]
 have hs:(Yi st).size=(lnT (Gi st st.threads.length)).length:=by rw [<-hz,Array.length_toList];rfl
 refine ⟨acc,?_,h2⟩
 have hle:=zzg (Gi st st.threads.length)
 unfold zu9
 rw [if_neg yai,hz]
 exact znu _ _ 0 [] acc yai (.inr (h5 (List.length_pos_iff.2 hne))) h3 h1
section
variable{W:World}{s:ByteArray}
theorem zji{er ln:Int}(her:er≠0)(P1 P2:World->Prop)(K1:Hid (Cl 5 #[.string s] W λe w'=>e= .returned (.tuple #[.string ⟨#[]⟩, .int .i64 er, .int .i64 ln])/\P1 w'))
  (K2:Hid (∀w,P1 w->Cl 6 #[.string s] w λe w'=>e= .returned (.tuple #[.pointer none, .int .i64 er, .int .i64 ln])/\P2 w')):
  Cl 4 #[.string s] W λe w'=>(∃a b,e= .returned (.tuple #[a,b, .bool true]))/\P2 w':=by
 go_enter Tryz.func4,Tryz.ntmps4
 go_wp2_with fail
 refine K1.out.mono ?_
 rintro e w1 ⟨rfl,h1⟩
 have H1:=hid h1
 clear h1
 go_wp2_with fail
 refine (K2.out _ H1.out).mono ?_
 rintro e w2 ⟨rfl,h2⟩
 have H2:=hid h2
 clear h2
 go_wp2
 go_ret3
 exact ⟨⟨_,_,rfl⟩,H2.out⟩
theorem zlw(t:ByteArray)(n:Nat)(P1:World->Prop)(P2:Nat->World->Prop)(P3:Nat->Nat->World->Prop)
  (K1:Hid (Cl 5 #[.string s] W λe w'=>e= .returned (.tuple #[.string t, .int .i64 0, .int .i64 0])/\P1 w'))
  (K2:Hid (∀w,P1 w->Cl 6 #[.string s] w λe w'=>∃bp,e= .returned (.tuple #[ptr bp, .int .i64 0, .int .i64 0])/\P2 bp w'))
  (K3:Hid (∀bp w,P2 bp w->Cl 7 #[.string t] w λe w'=>∃bm,e= .returned (.tuple #[ptr bm, .int .i64 0, .int .i64 0])/\P3 bp bm w'))
  (K4:Hid (∀bp bm w,P3 bp bm w->∃p1 c1 p2 c2,w.cell? ⟨bm,1,none⟩=some (.slice p1 n c1)/\w.cell? ⟨bp,0,none⟩=some (.slice p2 n c2))):
  Cl 4 #[.string s] W λe w'=>(∃a b,e= .returned (.tuple #[a,b, .bool true]))/\ ∃bp bm w,P3 bp bm w/\w'=w.drew:=by
 go_enter Tryz.func4,Tryz.ntmps4
 go_wp2_with fail
 refine K1.out.mono ?_
 rintro e w1 ⟨rfl,h1⟩
 have H1:=hid h1
 clear h1
 go_wp2_with fail
 refine (K2.out _ H1.out).mono ?_
 rintro e w2 ⟨bp,rfl,h2⟩
 have H2:=hid h2
 clear h2
 go_wp2_with fail
 refine (K3.out _ _ H2.out).mono ?_
 rintro e w3 ⟨bm,rfl,h3⟩
 obtain ⟨p1,c1,p2,c2,d1,d2⟩:=K4.out _ _ _ h3
 have l1:bm<w3.heap.size:=blt d1
 have l2:bp<w3.heap.size:=blt d2
 have H3:=hid h3
 clear h3 K1 K2 K3 K4 H1 H2
 go_wp2_with fail
 go_region
 go_wp2
 go_ret3
 exact ⟨⟨_,_,rfl⟩,_,_,_,H3.out,rfl⟩
theorem zhb(h:262144<s.size):Cl 3 #[.string s] W λe w'=>e= .returned (.bool true)/\w'=W:=by
 have h':(262144:Int)<(s.size:Int):=yai
 go_enter Tryz.func3,Tryz.ntmps3
 go_wp2
 go_ret
 exact ⟨rfl,rfl⟩
theorem zfc(h:s.size<=262144)(P:World->Prop)(K:Hid (Cl 4 #[.string s] W λe w'=>(∃a b,e= .returned (.tuple #[a,b, .bool true]))/\P w')):
  Cl 3 #[.string s] W λe w'=>e= .returned (.bool true)/\P w':=by
 have h': ¬(262144:Int)<(s.size:Int):=yai
 go_enter Tryz.func3,Tryz.ntmps3
 go_wp2_with fail
 refine K.out.mono ?_
 rintro e w1 ⟨⟨a,b,rfl⟩,h1⟩
 have H1:=hid h1
 clear h1
 go_wp2
 go_ret
 exact ⟨rfl,H1.out⟩
end
theorem ze3: ∀(ls:List (List UInt8)) (j:Nat) (d:DR) {e l:Int},Vz ls j d= .error (e,l)->e≠0
 |[],_,_,_,_,h=>by cases h
 |[a],j,d,e,l,h=>by
  rw [Vz] at h
  split at h
  ·cases h
  ·cases h;decide
 |a::b::r,j,d,e,l,h=>by
  rw [Vz] at h
  split at h
  ·cases h;decide
  ·cases hd:Xw d (Ql a) with
   |ok d'=>rw [hd] at h;exact ze3 (b::r) (j+1) d' h
   |error er=>rw [hd] at h;cases h;exact zf1 hd
theorem zu3{e l:Int}(h:zis s= .error (e,l)):e≠0:=by
 unfold zis at h
 split at h
 ·cases h;decide
 ·cases hd:Vz (Xe 10 s.data.toList) 0 d0 with
  |error p=>
   rw [hd] at h
   obtain ⟨a,b⟩:=p
   cases h
   exact ze3 _ _ _ hd
  |ok d=>
   rw [hd] at h
   dsimp only at h
   split at h
   ·cases h;decide
   ·split at h
    ·cases h;decide
    ·cases h
theorem zu4{W:World}(hE:Env W)(hT:TabAt W)(s:ByteArray):Cl 3 #[.string s] W λe w'=>e= .returned (.bool true)/\Below W.heap.size W w':=by
 by_cases hl:262144<s.size
 ·refine (zhb hl).mono ?_
  rintro e w' ⟨rfl,rfl⟩
  exact ⟨rfl,Below.refl _ _⟩
 refine zfc yai (λw'=>Below W.heap.size W w') (hid ?_)
 have hs:=zxm s
 cases hg:zaz s with
 |error p=>
  obtain ⟨er,ln⟩:=p
  rw [hg] at hs
  cases hd:zis s with
  |ok d=>rw [hd] at hs;exact hs.elim
  |error p'=>
   rw [hd] at hs
   have hs:(er,ln)=p':=hs
   subst hs
   refine zji (zu3 hd) (λw=>Below W.heap.size W w) (λw=>Below W.heap.size W w) (hid (zsu hE s hg)) (hid λw hb=>?_)
   have:=zi2 w s
   rw [hd] at this
   refine this.mono ?_
   rintro e w' ⟨he,hb'⟩
   exact ⟨he,hb.trans (hb'.mono hb.size)⟩
 |ok st=>
  rw [hg] at hs
  cases hd:zis s with
  |error p'=>rw [hd] at hs;exact hs.elim
  |ok d=>
   rw [hd] at hs
   have hsim:Sim st d:=hs
   obtain ⟨acc,ha,hal⟩:=zu2 hg
   refine (zlw (Yi st) st.threads.length (λw=>Below W.heap.size W w) (λbp w=>Below W.heap.size W w/\ ∃p c,w.cell? ⟨bp,0,none⟩=some (.slice p st.threads.length c))
    (λbp bm w=>Below W.heap.size W w/\(∃p c,w.cell? ⟨bp,0,none⟩=some (.slice p st.threads.length c))/\ ∃p c,w.cell? ⟨bm,1,none⟩=some (.slice p st.threads.length c))
    (hid (zw5 hE hT s hg)) (hid λw hb=>?_) (hid λbp w h=>?_) (hid λbp bm w h=>?_)).mono ?_
   ·have:=zi2 w s
    rw [hd] at this
    refine this.mono ?_
    rintro e w' ⟨⟨bp,p,c,he,hc⟩,hb'⟩
    rw [hsim.len] at hc
    exact ⟨bp,he,hb.trans (hb'.mono hb.size),p,c,hc⟩
   ·obtain ⟨hb,p,c,hc⟩:=h
    have:=zp0 w (Yi st) (λk=>w.heap.size<=k) (λ_ h=>h) (λ_ h=>h)
    rw [ha] at this
    refine this.mono ?_
    rintro e w' ⟨⟨he,⟨lab,mb,tv,ts,hm,hts,_⟩,_⟩,hb'⟩
    have hlen:ts.length=st.threads.length:=by rw [<-hal,<-hts,List.length_map]
    obtain ⟨p2,c2,hv⟩:=Gf hm.trow
    have htc:=hm.tc
    rw [hv,hlen] at htc
    exact ⟨_,he,hb.trans (hb'.mono hb.size),⟨p,c,(hb'.cell (p:=⟨bp,0,none⟩) (blt hc)).trans hc⟩,p2,c2,htc⟩
   ·obtain ⟨_,⟨p,c,h1⟩,p2,c2,h2⟩:=h
    exact ⟨p2,c2,p,c,h2,h1⟩
   ·rintro e w' ⟨⟨a,b,rfl⟩,bp,bm,w,h,rfl⟩
    exact ⟨⟨a,b,rfl⟩,h.1.drew⟩
open Go.ChangeShapes Go.WideShapes Go.ChangeAt Go.WideMaps Go.WideElems Go.RowKit
open Go.ChangeMaps (open_string shut_string)
theorem zu5(os:Os)(args:Array Value):laidMetH Tryz.prog Rows.compilesRow.laid ((((World.doorLaid Tryz.prog 200 os).layVars Tryz.prog [("unicode/utf8.first",Rows.laid_unicode_utf8_first)]).forCall (λ_ _=>0) ⟨#[],args,[]⟩).memory):=
 laidMetH_of_parts3 (fuel:=8) (laidMet_of_run' 8 yak yak) yak yak
theorem ze4(os:Os)(started:os.Started)(H:Type)(enc:TypeId×Value->H):
  ReturnsInHanded {} Tryz.checked os 3 .any (λw args=>(Rows.compilesSpec.pre enc Tryz.prog Tryz.f3 Rows.compilesRow.domain false w args/\laidMetH Tryz.prog Rows.compilesRow.laid w)/\sizedMet enc Tryz.prog Tryz.f3 (OpenSpec.ofChange Rows.compilesSpec) false w args)
   (Rows.compilesSpec.post enc Tryz.prog Tryz.f3 false true false false):=by
 refine ze7 (C:=Tryz.checked) (X:=λw _=>laidMetH Tryz.prog Rows.compilesRow.laid w) (λ_ _ _ hh h=>h.of_heap hh) own started yak Tryz.func3
  (ChangeSpec.witness_shaped (enc:=enc) (C:=Tryz.checked) (os:=os) (X:=λw _=>laidMetH Tryz.prog Rows.compilesRow.laid w) false ((World.doorLaid Tryz.prog 200 os).layVars Tryz.prog [("unicode/utf8.first",Rows.laid_unicode_utf8_first)]) #[.string ByteArray.empty] 8 rfl (World.shaped_of_RefB yak yak) yak yak yak (zu5 os _)) ?_
 intro W base args ds gs before hval0 hW hsz0 hL hS
 have hval: ∀(j:Nat) t v,Tryz.f3.params[j]?=some t->args[j]?=some v->Value.okWide Tryz.prog W .any base t v:=hval0
 have hW':=hW
 obtain ⟨p,q,hA0,hV,rfl,hfz,hnd⟩:=hW
 have hA:DataW.TrodAll enc Tryz.prog W 0 (λ_=>true) true Tryz.f3.params.toList args.toList ds p:=hA0
 rw [Tryz.params3] at hA hval
 obtain ⟨v0,vs0,d0,ds0,p0,q0,hargs,rfl,rfl,h0,r0⟩:=trodAll_cons hA
 obtain ⟨rfl,rfl,rfl⟩:=trodAll_nil r0
 obtain rfl:args= #[v0]:=by cases args;simp_all
 obtain ⟨rfl,rfl⟩:=trodVars_none hV
 obtain ⟨s0,rfl,rfl,rfl,hs0⟩:=open_string Tryz.underlying9 (hval 0 9 v0 rfl rfl) h0
 clear hA0 hval0
 have hE:=z2a hS hL yak yak yak yak
 refine (zu4 hE (z3q hE.lo hL yak) s0).mono λe W' ⟨he,bel⟩=>?_
 subst he
 exact ⟨_,rfl,_,_,_,[],_,[],hW',trodAll_mk1 (shut_bool Tryz.underlying4 _),(trodAll_cons_mk (shut_string Tryz.underlying9 hs0) trodAll_mk0),rfl,bel.frame _,λh=>by cases h⟩
theorem z52{a b:Bool}(ha:a=true)(hb:b=true):(a&&b)=true:=by rw [ha,hb];rfl
theorem zfd:joinedFacts Tryz.checked.prog 3 Tryz.f3 Rows.compilesSpec Rows.compilesRow=true:=by
 unfold joinedFacts
 repeat' (with_reducible refine z52 ?_ ?_)
 all_goals (as_aux_lemma=>kernel_rfl)
theorem zfe:Tryz.checked.prog.funcNamed Rows.compilesRow.func=some 3:=yak
theorem zhc:Tryz.f3.isInstance Tryz.checked.prog Rows.compilesRow.origin Rows.compilesRow.targs:=of_decide_eq_true yak
theorem zhd:Tryz.f3.isWrapper Tryz.checked.prog Rows.compilesRow.wrapper Rows.compilesRow.mainSum:=by unfold Func.isWrapper;first|(rw [if_pos (by decide+kernel)];kernel_rfl)|(rw [if_neg (by decide+kernel)];exact ⟨rfl,rfl⟩)
open Go.ChangeShapes Go.WideShapes Go.ChangeAt Go.WideMaps Go.WideElems Go.RowKit
theorem zhe:Rows.CompilesSaid:=
 OpenClaim.holds_of_wide 3 Tryz.f3 rfl rfl rfl rfl rfl rfl rfl ⟨rfl,rfl,rfl,rfl,rfl⟩ rfl rfl rfl rfl rfl zfe Tryz.func3 zfd zhc zhd
  (λos started H enc _=>ze4 os started H enc)
theorem compiles_holds:Rows.CompilesCardSaid:=
 Claim7.holds_tied_plain_at .later [] [.data, .data, .data, .data, .data, .handle, .sentinel, .sentinel, .pinned] true Rows.compilesCard.stood.harness true
  zhe (λ_ h=>by cases h) (by as_aux_lemma=>kernel_rfl) (λ_ h=>by cases h) compiles_row_tie rfl ⟨rfl,rfl⟩ (by as_aux_lemma=>kernel_rfl) rfl
  (λf fn hf hfn=>by
   obtain rfl:f=3:=Option.some.inj ((show Tryz.prog.funcNamed "commits/commitslaw.Compiles" =some 3 by as_aux_lemma=>kernel_rfl).symm.trans hf)|>.symm
   obtain rfl:fn=Tryz.f3:=(Option.some.inj (Tryz.func3.symm.trans hfn)).symm
   exact ⟨by as_aux_lemma=>kernel_rfl,λj t ht=>by
    rw [Tryz.params3] at ht
    have hm:t∈[9]:=by simpa using Array.mem_of_getElem? ht
    have hall:([9].all λu=>!Tryz.prog.wantsStandIn u)=true:=by as_aux_lemma=>kernel_rfl
    exact (show Tryz.prog.wantsStandIn t=false by simpa using List.all_eq_true.1 hall t hm)⟩)
  (by as_aux_lemma=>kernel_rfl)
#print axioms compiles_holds
end Go.Proofs.YtphcopbffecceaaGreatDoor
