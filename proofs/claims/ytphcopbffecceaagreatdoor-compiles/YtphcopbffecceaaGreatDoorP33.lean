import Derived.Test.YtphcopbffecceaaGreatDoorP31
import Derived.Test.YtphcopbffecceaaGreatDoorP32
set_option maxRecDepth 100000
set_option maxHeartbeats 10000000
namespace Go.Proofs.YtphcopbffecceaaGreatDoor
open Go.RowKit
variable{pt:Option Addr}{d:DR}{s:St}
section
variable{D:Nat->Prop}{lab:Nat->Nat×Nat}{w:World}{m:DM}{d:DR}{u:ByteArray}{bw cap L:Nat}{N:List NK}{op:Option Addr}{tnv:Value}{co gt ct T K1:Nat}{K2:Int}{r:Except Int DR}{gB pB aB:Bool}
theorem zph(hk:DOk d)(hD: ∀k,w.heap.size<=k->D k)(hN:d.thr.getLast?=some N)(hNl:N.length<=1000)(hI:InAt w m d N op tnv co gt ct T)(hT:T<=2000)(hTT:d.thr.length=T+1)(w0:w.cell? ⟨bw,0,none⟩=some (.string u))(hL0:(0:Int)<(L:Int))
  (e1:(u.toList==[115,104,97,114,101,100])=false) (e2:(u.toList==[116,104,114,101,97,100])=false) (e3:(u.toList==[101,110,100])=false) (g1:(u.toList==[103,101,116])=gB) (g2:(u.toList==[112,117,116])=pB) (g3:(u.toList==[97,116,111,109,105,99])=aB)
  (hr0: ∀e,r= .error e->e≠0) (hr1: ∀d1,r= .ok d1->d1.thr=d.thr/\d1.opn=d.opn/\d1.stmts=d.stmts)
  (KN:Hid (∀wr,Below w.heap.size w wr->Cl 25 #[ptr m.br, .slice (some ⟨bw,0,none⟩) L cap] wr (Jm D wr m 40 K2 r)))
  (hcls:(Xx d N d.opn.length=false/\gB=false/\pB=false/\aB=true)):
  Cl 12 #[ptr m.br, .slice (some ⟨bw,0,none⟩) L cap] w (DPost D w m (zbg d N (40,K2) r)):=by
 have c0:=hI.c0
 have c5:=hI.c5
 have p0:=hI.p0
 have hlw:bw<w.heap.size:=blt w0
 have hlt:m.br<w.heap.size:=blt c0
 have hlp:m.bp<w.heap.size:=blt p0
 have hT0:(0:Int)<=(T:Int):=yai
 have hT1:(T:Int)<(T:Int)+1:=yai
 have eT:wrap64 (((T+1:Nat):Int)- 1)=(T:Int):=yao
 have HI:=hid hI
 have HD:=hid hD
 have HN:=hid hN
 have HTL:=hid hTT
 have HNL:=hid hNl
 have HR0:=hid hr0
 have HR1:=hid hr1
 have HCL:=hid hcls
 have HS14:=hid hk.n
 have ho3:=hk.o
 have hneg: ¬(T:Int)<0:=yai
 clear hI hD hN hNl hr0 hr1 hcls hk hTT
 go_enter Tryz.func12,Tryz.ntmps12
 go_wp2
 go_loopw [6,7] (λv6 v7 wr=>∃i:Nat,i<=d.opn.length/\v7= .int .i64 i/\v6= .bool (Xx d N i)/\Hid (Below w.heap.size w wr)) (λ_ v7 _=>d.opn.length- (intOf v7).toNat)
 case atStart=>exact ⟨0,Nat.zero_le _,rfl,rfl,hid (Below.refl _ _)⟩
 case round=>
  obtain ⟨i,hi,rfl,rfl,HB⟩:=hrel
  have hJ:=HI.out.below HB.out
  have d0:=hJ.c0
  have d5:=hJ.c5
  have dp:=hJ.p0
  have dt:=hJ.tc
  have lr:m.br<wr.heap.size:=blt d0
  have lp:m.bp<wr.heap.size:=blt dp
  by_cases hlti:i<d.opn.length
  ·exact z7e
  ·have hii:i=d.opn.length:=by omega
   subst hii
   clear hJ hlti hi
   have lbw:bw<wr.heap.size:=yb4
   have w0':wr.cell? ⟨bw,0,none⟩=some (.string u):=(HB.out.cell (p:=⟨bw,0,none⟩) hlw).trans w0
   have hcl:=HCL.out
   generalize Xx d N d.opn.length=inn at hcl⊢
   obtain ⟨rfl,rfl,rfl,rfl⟩:=hcl
   go_wp2_with fail
   all_goals
    refine (KN.out _ HB.out).mono ?_
    rintro e w2 ⟨hc,X,er,k1,k2,k3,rfl,hr⟩
    have HC:=hid ((Chg.of_below (M:=λk _=>D k) HB.out).trans hc)
    have hsz:w.heap.size<=w2.heap.size:=Nat.le_trans HB.out.size hc.size
    subst k2
    have HK1:=hid k1
    have HK3:=hid k3
    clear hc d0 d5 dp dt lr lp w0' lbw HB k3
    cases r with
    |error e'=>exact z7y
    |ok d1=>
     obtain ⟨rfl,lab',m',hb1,hb2,hm⟩:=hr
     obtain ⟨t1,t2,t3⟩:=HR1.out d1 rfl
     have hc6:=hm.c6
     have hf6:=hm.free 6
     rw [hb1] at hc6 hf6
     rw [t3] at hc6
     have hs14:=HS14.out
     generalize hsi:(d.stmts:Int)=si at hc6
     have hsb:0<=si/\si<=14:=yai
     have eS:wrap64 (si+1)=si+1:=yao
     have l2:m.br<w2.heap.size:=blt hc6
     have HM:=hid hm
     have HT1:=hid t1
     have HT2:=hid t2
     have HT3:=hid t3
     clear hm t1 t2 t3 hs14
     by_cases h14:si=14
     ·exact z7z
     ·have h14': ¬14<si+1:=by omega
      obtain ⟨i0,hi0,hz0,hz1,hz2⟩:=info_parts Ox
      have hl1:N.length+1<=maxLen:=ycm
      have hl2:(N.length+1)*120<=140737488355328:=ycn
      have nD2: ∀k,k<w2.heap.size->D k->(D k/\k≠w2.heap.size):=λk hk hd=>⟨hd,by omega⟩
      have hset:Chg (λk j=>k=m.br/\j=6) w2 (w2.setCell ⟨m.br,6,none⟩ (.int .i64 (si+1))):=(Chg.refl _ w2).setCell (λ_=>⟨rfl,rfl⟩) _
      have hm3:=((HM.out.restrict (D':=λk=>D k/\k≠w2.heap.size) nD2).stmtF (s:=d.stmts+1) (w':=w2.setCell ⟨m.br,6,none⟩ (.int .i64 (si+1))) ych (hset.mono λk j _ e _=> .inr (.inl ⟨by rw [hb1];exact e.1,by rw [e.2];simp⟩)))
      have hsz2:(w2.setCell ⟨m.br,6,none⟩ (.int .i64 (si+1))).heap.size=w2.heap.size:=Jq _ _ _
      obtain ⟨j0,hj0,hy0,hy1,hy2⟩:=info_parts za7
      have hxd:X.k=40:=HK1.out
      have hc5:=HM.out.c5
      have ho5:=HM.out.orow
      rw [hb1] at hc5
      rw [HT2.out] at ho5
      obtain ⟨po,co',hov⟩: ∃po co',m'.ov= .slice po d.opn.length co':=z8r
      rw [hov] at hc5 ho5
      by_cases h3:d.opn.length=3
      ·exact z7w
      ·have h3': ¬(d.opn.length:Int)=3:=by omega
       have hf5:w2.frozen? ⟨m.br,5,none⟩=false:=ydb
       have hx3:XAt ((w2.setCell ⟨m.br,6,none⟩ (.int .i64 (si+1))).alloc (.cells #[(.int .u8 40),(.int .i64 X.v),(.string X.op),(.bool X.al),(.int .i64 X.av),(.bool X.bl),(.int .i64 X.bv),(.bool X.tl),(.int .i64 X.tv),(.int .i64 X.fi),(.int .i64 X.si),(.int .i64 X.to),(.int .i64 X.n),(.int .i64 (d.opn.length:Int))] 77)) w2.heap.size ({X with k:=40,dp:=(d.opn.length:Int)}:XV):=by
        have:=Sy (w2.setCell ⟨m.br,6,none⟩ (.int .i64 (si+1))) ({X with k:=40,dp:=(d.opn.length:Int)}:XV)
        rw [hsz2] at this
        exact this
       have hm4:=hm3.below (w':=((w2.setCell ⟨m.br,6,none⟩ (.int .i64 (si+1))).alloc (.cells #[(.int .u8 40),(.int .i64 X.v),(.string X.op),(.bool X.al),(.int .i64 X.av),(.bool X.bl),(.int .i64 X.bv),(.bool X.tl),(.int .i64 X.tv),(.int .i64 X.fi),(.int .i64 X.si),(.int .i64 X.to),(.int .i64 X.n),(.int .i64 (d.opn.length:Int))] 77))) ((Below.refl _ _).alloc (Nat.le_refl _) _)
       obtain ⟨tl0,t0,gt0,ct0,hly⟩:=hm4.layAt (N:=N) yci hx3 (λe=>e.2 rfl)
       have hTl:tl0.length=T:=z9d
       obtain ⟨pn,cn,hnv⟩: ∃pn cn,t0.nv= .slice pn N.length cn:=z8m
       have HDW:Hid (∀k,((w2.setCell ⟨m.br,6,none⟩ (.int .i64 (si+1))).alloc (.cells #[(.int .u8 40),(.int .i64 X.v),(.string X.op),(.bool X.al),(.int .i64 X.av),(.bool X.bl),(.int .i64 X.bv),(.bool X.tl),(.int .i64 X.tv),(.int .i64 X.fi),(.int .i64 X.si),(.int .i64 X.to),(.int .i64 X.n),(.int .i64 (d.opn.length:Int))] 77)).heap.size<=k->(D k/\k≠w2.heap.size)):=hid λk hk=>ycj
       have HCW:Hid (Chg (λk _=>D k) w ((w2.setCell ⟨m.br,6,none⟩ (.int .i64 (si+1))).alloc (.cells #[(.int .u8 40),(.int .i64 X.v),(.string X.op),(.bool X.al),(.int .i64 X.av),(.bool X.bl),(.int .i64 X.bv),(.bool X.tl),(.int .i64 X.tv),(.int .i64 X.fi),(.int .i64 X.si),(.int .i64 X.to),(.int .i64 X.n),(.int .i64 (d.opn.length:Int))] 77))):=hid ((HC.out.setCell (λ_=>hb1▸HM.out.lb.2) _).alloc _)
       have HLM:=hid hm4
       have HX3:=hid hx3
       have s0:=hly.c0
       have s1:=hly.p0
       have s2:=hly.tc
       rw [hb1,hb2] at s0
       rw [hb2,hTl] at s1
       rw [hTl,hnv] at s2
       have s5:=hm4.c5
       have s6:=hm4.free 5
       rw [hb1,hov] at s5
       rw [hb1] at s6
       have hro:=hm4.orow
       rw [hov,show ({d1 with stmts:=d.stmts+1}:DR).opn=d.opn from HT2.out] at hro
       have HRO:=hid hro
       have HNB:Hid (m.br≠m.bp/\gt0≠m.br):=hid yc6
       have HGT:Hid (∀g,(Value.slice po d.opn.length co').ownBlock=some g->lab' g=(0,6)/\(D g/\g≠w2.heap.size)):=hid yc8
       have HNG:Hid (lab' gt0≠(0,6)/\lab' m.br≠(0,6)/\lab' m.bp≠(0,6)):=hid ⟨by rw [(hm4.lt gt0 yba).1];simp,by rw [<-hb1,hm4.lb.1];simp,by rw [<-hb2,hm4.lp.1];simp⟩
       have hn1:d.opn.length+1<=maxLen:=yap
       have hn2:(d.opn.length+1)*8<=140737488355328:=yai
       clear hm3 hm4 hly hx3 hset nD2 hro
       dsimp only [XV.cells]
       go_wp2_with fail
       all_goals
        generalize hW:((w2.setCell ⟨m.br,6,none⟩ (.int .i64 (si+1))).alloc (.cells #[(.int .u8 40),(.int .i64 X.v),(.string X.op),(.bool X.al),(.int .i64 X.av),(.bool X.bl),(.int .i64 X.bv),(.bool X.tl),(.int .i64 X.tv),(.int .i64 X.fi),(.int .i64 X.si),(.int .i64 X.to),(.int .i64 X.n),(.int .i64 (d.opn.length:Int))] 77))=W at HDW HCW HLM HX3 HRO s0 s1 s2 s5 s6⊢
        clear hW eS hc6 hf6 hsz2 h14' hc5 hf5 ho5 h3'
        have lW0:m.br<W.heap.size:=blt s0
        have lW1:m.bp<W.heap.size:=blt s1
        have lW2:gt0<W.heap.size:=blt s2
        have HWI:Hid (∀c:Array Value,Below W.heap.size W (W.drew.alloc (.cells c 3))):=hid λc=>(Qi _ W).alloc (Nat.le_refl _) _
        have HOP:Hid (∀V,Below W.heap.size W V->∀g5 c5 w5,w5.ownsRow 0 3 1 (.slice (some ⟨g5,0,none⟩) (d.opn.length+1) c5) (d.opn.length+1) ((d.opn.map λ(k:Nat)=> .int .i64 (k:Int))++[.int .i64 (N.length:Int)])->Chg (λb _=>(Value.slice po d.opn.length co').ownBlock=some b) V w5->((Value.slice po d.opn.length co').ownBlock=some g5\/g5=V.heap.size) ->
          (w5.cell? ⟨m.br,0,none⟩=some (ptr m.bp)/\w5.cell? ⟨m.bp,0,none⟩=some (.slice (some ⟨gt0,0,none⟩) (T+1) ct0)/\w5.cell? ⟨gt0,T,none⟩=some (.slice pn N.length cn)/\w5.cell? ⟨m.br,5,none⟩=some (.slice po d.opn.length co')/\w5.frozen? ⟨m.br,5,none⟩=false)/\
          Chg (λk _=>D k) w (w5.setCell ⟨m.br,5,none⟩ (.slice (some ⟨g5,0,none⟩) (d.opn.length+1) c5))/\XAt (w5.setCell ⟨m.br,5,none⟩ (.slice (some ⟨g5,0,none⟩) (d.opn.length+1) c5)) w2.heap.size ({X with k:=40,dp:=(d.opn.length:Int)}:XV)/\
          (∀k,(w5.setCell ⟨m.br,5,none⟩ (.slice (some ⟨g5,0,none⟩) (d.opn.length+1) c5)).heap.size<=k->(D k/\k≠w2.heap.size))/\ ∃lab5 m5,m5.br=m'.br/\m5.bp=m'.bp/\DMach (λk=>D k/\k≠w2.heap.size) lab5 (w5.setCell ⟨m.br,5,none⟩ (.slice (some ⟨g5,0,none⟩) (d.opn.length+1) c5)) m5 {d1 with stmts:=d.stmts+1,opn:=d.opn++[N.length]}):=hid (zeo HLM.out HDW.out HCW.out HX3.out HT2.out hb1 hov HGT.out HNG.out s0 s1 s2 s5 s6)
        refine wp_region_held_drew (S:=(λw'=>w'.cell? ⟨m.br,0,none⟩=some (ptr m.bp)/\w'.cell? ⟨m.bp,0,none⟩=some (.slice (some ⟨gt0,0,none⟩) (T+1) ct0)/\w'.cell? ⟨gt0,T,none⟩=some (.slice pn N.length cn))) yak ?_ (λhHeld=>?_)
        ·(try dsimp only);exact ⟨s0,s1,s2⟩
        refine Qa 0 (h:=Qa 1 (h:=Qa 2 (h:=Qa 3 (h:=Qa 5 (h:=Qa 6 (h:=Qa 7 (h:=Qa 8 (h:=Qa 9 (h:=Qa 10 (h:=Qa 11 (h:=Qa 12 (h:=Qa 13 (h:=Qa 14 (h:=Qa 15 (h:=?_)))))))))))))))
        refine tr [4,16] (.cons rfl (λKQ hKQ=>?_) (.cons rfl (λKQ hKQ=>?_) .nil))
        go_simp
        refine hKQ.out _ _ ?_ (λhHeld=>?_)
        ·(try dsimp only);exact hHeld
        clear hKQ KQ
        refine tr [16] (.cons rfl (λKQ hKQ=>?_) .nil)
        go_simp
        rotate_left
        go_simp
        refine hKQ.out _ _ ?_ (λhHeld=>?_)
        ·(try dsimp only);go_keep
        clear hKQ KQ
        refine tr [4] (.cons rfl (λKQ hKQ=>?_) .nil)
        go_simp
        rotate_left
        all_goals
         refine hKQ.out _ _ ?_ (λhHeld=>?_)
         ·(try dsimp only);go_keep
         clear hKQ KQ
         refine tr [17] (.cons rfl (λKQ hKQ=>?_) .nil)
         (refine Je rfl (.tmp 208) (.tmp 220) 52 rfl 3 j0 (.int .i64 0) 1 8 yal Tryz.underlying52 hj0 hy0 hy1 hy2 rfl (.slice po d.opn.length co') d.opn.length (d.opn.map λ(k:Nat)=> .int .i64 (k:Int)) rfl (Qc HRO.out (Chg.of_below (M:=λ_ _=>False) (HWI.out _)) λ_ _ _ e=>e) ⟨W.heap.size,0,none⟩ [.int .i64 (N.length:Int)] rfl rfl (cell_one_new _ _ _) yax hn1 hn2 ?_;intro g5 c5 w5 ho hch hg;have H5:=hid (HOP.out _ (HWI.out _) g5 c5 w5 ho hch hg);have S5:=H5.out.1;have f1:=S5.2.2.2.1;have f2:=S5.2.2.2.2;have HS5:=hid (And.intro S5.1 (And.intro S5.2.1 S5.2.2.1));clear ho hch hg S5)
         refine hKQ.out _ _ ?_ (λhHeld=>?_)
         ·(try dsimp only);exact HS5.out
         clear hKQ KQ
         refine Qa 18 (h:=Qa 19 (h:=?_))
         refine tr [20] (.cons rfl (λKQ hKQ=>?_) .nil)
         go_simp
         refine hKQ.out _ _ ?_ (λhHeld=>?_)
         ·exact z75
         clear hKQ KQ
         refine wpAnyH_done yak ?_ _
         obtain ⟨_,hcw,hx5,hdx,lab5,m5,b51,b52,hm5⟩:=H5.out
         have hb1':=b51.trans hb1
         have hb2':=b52.trans hb2
         obtain ⟨tl,t,gt',ct',hly⟩:=hm5.layAt (N:=N) yc9 hx5 (λe=>e.2 rfl)
         have hTl:T=tl.length:=z8i
         have HDX:=hid hdx
         have HCX:=hid hcw
         have HLX:=hid hm5
         have HLY:=hid hly
         have HNT:Hid (gt'≠m.br/\gt'≠m.bp/\gt'≠w2.heap.size):=hid yda
         have HOW:Hid (∀k,t.nv.ownBlock=some k->D k):=hid λk e=>(hm5.ln tl.length t yck k e).2.1
         have HGD:Hid (D gt'):=hid (hm5.lt gt' yba).2.1
         clear hcw hx5 hdx hm5 hly H5 HS5 HLM HDW HCW HOP HRO HGT HNG HNB HX3 s0 s1 s2 s5 s6 f1 f2 hHeld lW0 lW1 lW2
         subst hTl
         generalize hV5:World.setCell w5 ⟨m.br,5,none⟩ (.slice (some ⟨g5,0,none⟩) (d.opn.length+1) c5)=V at HDX HCX HLX HLY⊢
         clear hV5
         go_wp2_with fail
         have r0:=HLY.out.c0
         have r1:=HLY.out.p0
         rw [hb1',hb2'] at r0
         rw [hb2'] at r1
         have r2:=HLY.out.tc
         obtain ⟨x0,x1,x2,x3,x4,x5,x6,x7,x8,x9,x10,x11,x12,x13⟩:=HLY.out.x.all
         have lW0:m.br<V.heap.size:=blt r0
         have lW1:m.bp<V.heap.size:=blt r1
         have lW2:gt'<V.heap.size:=blt r2
         have lW3:w2.heap.size<V.heap.size:=blt x0
         have HWB:Hid (∀c:Array Value,Below V.heap.size V (V.drew.alloc (.cells c 77))):=hid λc=>(Qi _ V).alloc (Nat.le_refl _) _
         refine wp_region_held_drew (S:=(λw'=>w'.cell? ⟨m.br,0,none⟩=some (ptr m.bp)/\w'.cell? ⟨m.bp,0,none⟩=some (.slice (some ⟨gt',0,none⟩) (tl.length+1) ct')/\w'.cell? ⟨w2.heap.size,0,none⟩=some (.int .u8 40)/\w'.cell? ⟨w2.heap.size,1,none⟩=some (.int .i64 X.v)/\w'.cell? ⟨w2.heap.size,2,none⟩=some (.string X.op)/\w'.cell? ⟨w2.heap.size,3,none⟩=some (.bool X.al)/\w'.cell? ⟨w2.heap.size,4,none⟩=some (.int .i64 X.av)/\w'.cell? ⟨w2.heap.size,5,none⟩=some (.bool X.bl)/\w'.cell? ⟨w2.heap.size,6,none⟩=some (.int .i64 X.bv)/\w'.cell? ⟨w2.heap.size,7,none⟩=some (.bool X.tl)/\w'.cell? ⟨w2.heap.size,8,none⟩=some (.int .i64 X.tv)/\w'.cell? ⟨w2.heap.size,9,none⟩=some (.int .i64 X.fi)/\w'.cell? ⟨w2.heap.size,10,none⟩=some (.int .i64 X.si)/\w'.cell? ⟨w2.heap.size,11,none⟩=some (.int .i64 X.to)/\w'.cell? ⟨w2.heap.size,12,none⟩=some (.int .i64 X.n)/\w'.cell? ⟨w2.heap.size,13,none⟩=some (.int .i64 (d.opn.length:Int)))) yak ?_ (λhHeld=>?_)
         ·exact z8j
         refine Qa 0 (h:=Qa 1 (h:=Qa 2 (h:=Qa 3 (h:=Qa 4 (h:=Qa 5 (h:=Qa 6 (h:=Qa 7 (h:=Qa 8 (h:=Qa 9 (h:=Qa 10 (h:=Qa 11 (h:=Qa 12 (h:=Qa 13 (h:=Qa 14 (h:=Qa 15 (h:=Qa 16 (h:=Qa 18 (h:=?_))))))))))))))))))
         refine tr [17,19] (.cons rfl (λKQ hKQ=>?_) (.cons rfl (λKQ hKQ=>?_) .nil))
         go_simp
         refine hKQ.out _ _ ?_ (λhHeld=>?_)
         ·(try dsimp only);exact hHeld
         clear hKQ KQ
         refine tr [19] (.cons rfl (λKQ hKQ=>?_) .nil)
         go_simp
         rotate_left
         go_simp
         refine hKQ.out _ _ ?_ (λhHeld=>?_)
         ·(try dsimp only);go_keep
         clear hKQ KQ
         refine tr [17] (.cons rfl (λKQ hKQ=>?_) .nil)
         go_simp
         rotate_left
         all_goals
          refine hKQ.out _ _ ?_ (λhHeld=>?_)
          ·(try dsimp only);go_keep
          clear hKQ KQ
          refine tr [20] (.cons rfl (λKQ hKQ=>?_) .nil)
          (refine Je rfl (.tmp 241) (.tmp 243) 59 rfl 77 i0 _ 14 120 yal Tryz.underlying59 hi0 hz0 hz1 hz2 rfl t.nv N.length t.xs rfl (HLY.out.below (HWB.out _)).row ⟨V.heap.size,0,none⟩ ({X with k:=40,dp:=(d.opn.length:Int)}:XV).cells rfl rfl (Fu _ _ _) ycl hl1 hl2 ?_;intro g cp w3 ho hch hg;have H9:=hid (HLX.out.lay HDX.out HLY.out (HWB.out _) ho hch hg);have mm:=HLY.out.mid (HWB.out _) hch;rw [hb1',hb2'] at mm;have f1:=mm.2.2.1;have f2:=mm.2.2.2.1;have HS9:=hid (And.intro mm.1 (And.intro mm.2.1 mm.2.2.2.2.all));have HC9:=hid ((HCX.out.then (Chg.of_below (M:=λ_ _=>False) (HWB.out _)) (λ_ _ _ e=>e.elim)).then hch (λk j hk e=>HOW.out k e));clear ho hch hg mm)
          refine hKQ.out _ _ ?_ (λhHeld=>?_)
          ·(try dsimp only);exact HS9.out
          clear hKQ KQ
          refine Qa 21 (h:=?_)
          refine tr [22] (.cons rfl (λKQ hKQ=>?_) .nil)
          go_simp
          refine hKQ.out _ _ ?_ (λhHeld=>?_)
          ·exact z7f
          clear hKQ KQ
          refine wpAnyH_done yak ?_ _
          go_wp2
          go_ret
          have hst: ¬d.stmts=14:=yai
          unfold zbg
          dsimp only
          rw [if_neg hst,if_neg h3]
          refine ⟨HC9.out.setCell (λ_=>HGD.out) _,rfl,?_⟩
          obtain ⟨lab9,m9,a1,a2,h9⟩:=H9.out
          refine ⟨lab9,m9,a1.trans hb1',a2.trans hb2',?_⟩
          have h10:=h9.restrict (D':=D) (λk _ hk=>hk.1)
          rw [show ({d1 with stmts:=d.stmts+1,opn:=d.opn++[N.length]}:DR).thr=d.thr from HT1.out] at h10
          exact h10
end
section
variable{D:Nat->Prop}{w:World}{m:DM}{d:DR}{u:ByteArray}{bw cap L:Nat}{N:List NK}{op:Option Addr}{tnv:Value}{co gt ct T:Nat}{gB pB aB:Bool}
theorem ztt(hk:DOk d)(hI:InAt w m d N op tnv co gt ct T)(hT:T<=2000)(w0:w.cell? ⟨bw,0,none⟩=some (.string u))(hL0:(0:Int)<(L:Int))
  (e1:(u.toList==[115,104,97,114,101,100])=false) (e2:(u.toList==[116,104,114,101,97,100])=false) (e3:(u.toList==[101,110,100])=false) (g1:(u.toList==[103,101,116])=gB) (g2:(u.toList==[112,117,116])=pB) (g3:(u.toList==[97,116,111,109,105,99])=aB)
  (hcls:(Xx d N d.opn.length=false/\gB=true)\/(Xx d N d.opn.length=false/\gB=false/\pB=true)\/(Xx d N d.opn.length=true/\gB=false/\pB=false/\aB=true)):
  Cl 12 #[ptr m.br, .slice (some ⟨bw,0,none⟩) L cap] w (DPost D w m (.error 3)):=by
 have c0:=hI.c0
 have c5:=hI.c5
 have p0:=hI.p0
 have hlw:bw<w.heap.size:=blt w0
 have hlt:m.br<w.heap.size:=blt c0
 have hlp:m.bp<w.heap.size:=blt p0
 have hT0:(0:Int)<=(T:Int):=yai
 have hT1:(T:Int)<(T:Int)+1:=yai
 have eT:wrap64 (((T+1:Nat):Int)- 1)=(T:Int):=yao
 have HI:=hid hI
 have HCL:=hid hcls
 have ho3:=hk.o
 have hneg: ¬(T:Int)<0:=yai
 clear hI hcls
 go_enter Tryz.func12,Tryz.ntmps12
 go_wp2
 go_loopw [6,7] (λv6 v7 wr=>∃i:Nat,i<=d.opn.length/\v7= .int .i64 i/\v6= .bool (Xx d N i)/\Hid (Below w.heap.size w wr)) (λ_ v7 _=>d.opn.length- (intOf v7).toNat)
 case atStart=>exact ⟨0,Nat.zero_le _,rfl,rfl,hid (Below.refl _ _)⟩
 case round=>
  obtain ⟨i,hi,rfl,rfl,HB⟩:=hrel
  have hJ:=HI.out.below HB.out
  have d0:=hJ.c0
  have d5:=hJ.c5
  have dp:=hJ.p0
  have dt:=hJ.tc
  have lr:m.br<wr.heap.size:=blt d0
  have lp:m.bp<wr.heap.size:=blt dp
  by_cases hlti:i<d.opn.length
  ·exact z7e
  ·have hii:i=d.opn.length:=by omega
   subst hii
   clear hJ hlti hi
   have lbw:bw<wr.heap.size:=yb4
   have w0':wr.cell? ⟨bw,0,none⟩=some (.string u):=(HB.out.cell (p:=⟨bw,0,none⟩) hlw).trans w0
   have hcl:=HCL.out
   generalize Xx d N d.opn.length=inn at hcl⊢
   rcases hcl with ⟨rfl,rfl⟩|⟨rfl,rfl,rfl⟩|⟨rfl,rfl,rfl,rfl⟩
   all_goals
    go_wp2
    go_ret
    exact ⟨Chg.of_below HB.out,rfl⟩
theorem zxu{po:Option Addr}(c0:w.cell? ⟨m.br,0,none⟩=some (ptr m.bp))(c5:w.cell? ⟨m.br,5,none⟩=some (.slice po 0 co))(p0:w.cell? ⟨m.bp,0,none⟩=some (.slice pt 0 ct))(w0:w.cell? ⟨bw,0,none⟩=some (.string u))(hL0:(0:Int)<(L:Int))
  (e1:(u.toList==[115,104,97,114,101,100])=false) (e2:(u.toList==[116,104,114,101,97,100])=false) (e3:(u.toList==[101,110,100])=false):
  Cl 12 #[ptr m.br, .slice (some ⟨bw,0,none⟩) L cap] w (DPost D w m (.error 3)):=by
 have hlw:bw<w.heap.size:=blt w0
 have hlt:m.br<w.heap.size:=blt c0
 have hlp:m.bp<w.heap.size:=blt p0
 go_enter Tryz.func12,Tryz.ntmps12
 go_wp2
 go_loopw [6,7] (λv6 v7 wr=>v6= .bool false/\v7= .int .i64 0/\wr=w) (λ_ _ _=>0)
 case atStart=>exact ⟨rfl,rfl,rfl⟩
 case round=>
  obtain ⟨rfl,rfl,rfl⟩:=hrel
  go_wp2
  go_ret
  exact ⟨Chg.refl _ _,rfl⟩
end
theorem z5x(s:St):kL s≠122/\kL s≠108/\kL s≠40:=by
 rcases s with ⟨to,a⟩|⟨to,k,a,c⟩|⟨to,f,a⟩|⟨f,a,c⟩|a|⟨⟩|a|n<;>exact ⟨by simp [kL],by simp [kL],by simp [kL]⟩
theorem zbh: ∀e,Vu d s= .error e->e≠0:=by
 intro e h
 unfold Vu at h
 generalize ((Qj s).all (λv=>v.name.toList.isEmpty||Uh d.locals v.name)&&zlf d s)=b at h
 cases b with
 |false=>cases h;decide
 |true=>
  unfold okP zcc at h
  dsimp only at h
  repeat' split at h
  all_goals first|(cases h;decide)|cases h
theorem zde: ∀d1,Vu d s= .ok d1->d1.thr=d.thr/\d1.opn=d.opn/\d1.stmts=d.stmts:=by
 intro d1 h
 unfold Vu at h
 generalize ((Qj s).all (λv=>v.name.toList.isEmpty||Uh d.locals v.name)&&zlf d s)=b at h
 cases b with
 |false=>cases h
 |true=>
  unfold okP zcc at h
  dsimp only at h
  repeat' split at h
  all_goals first|(cases h;exact ⟨rfl,rfl,rfl⟩)|cases h
theorem ztu(d:DR)(N:List NK)(s:St)(r:Except Int DR)(h:Qf s=false):z1j d N s r=zts d N (zcd s) r:=by
 unfold z1j zts
 cases r with
 |error e=>rfl
 |ok d1=>dsimp only;rw [if_neg (show ¬Qf s=true by simp [h])]
theorem zep(d:DR)(N:List NK)(s:St)(r:Except Int DR)(h:Qf s=true):z1j d N s r=zbg d N (zcd s) r:=by
 unfold z1j zbg
 cases r with
 |error e=>rfl
 |ok d1=>dsimp only;rw [if_pos h]
theorem zeq(d:DR)(N:List NK):Xx d N d.opn.length=zhf d N:=by
 unfold Xx zhf
 rw [List.take_length]
theorem z1l(us:List ByteArray)(hb:Jr (Jh::us)=true): ∃v,us=[v]:=by
 rw [Uf] at hb
 match us,hb with
 |[],hb=>simp at hb
 |[v],_=>exact ⟨v,rfl⟩
 |v::x::r,hb=>simp at hb
theorem z33(us:List ByteArray)(hb:Jr (Jz::us)=true):Qf (stW (Jz::us))=false/\ ∀b,Gd b (stW (Jz::us))=true:=by
 rw [Gu] at hb
 rw [zto]
 match us,hb with
 |[],hb=>simp at hb
 |[v],hb=>simp at hb
 |[v,x],_=>exact ⟨rfl,λ_=>rfl⟩
 |[v,x,y],hb=>simp at hb
 |[v,x,y,z],_=>exact ⟨rfl,λ_=>rfl⟩
 |v::x::y::z::t::r,hb=>simp at hb
theorem z34(us:List ByteArray)(hb:Jr (Vd::us)=true):Qf (stW (Vd::us))=false/\ ∀b,Gd b (stW (Vd::us))=b:=by
 rw [Es] at hb
 rw [ztp]
 match us,hb with
 |[],hb=>simp at hb
 |[v],hb=>simp at hb
 |[v,x],_=>exact ⟨rfl,λ_=>rfl⟩
 |[v,x,y],hb=>simp at hb
 |[v,x,y,z],_=>exact ⟨rfl,λ_=>rfl⟩
 |v::x::y::z::t::r,hb=>simp at hb
theorem z35(us:List ByteArray)(hb:Jr (Va::us)=true):Qf (stW (Va::us))=false/\ ∀b,Gd b (stW (Va::us))=b:=by
 rw [Et] at hb
 rw [ztq]
 match us,hb with
 |[],hb=>simp at hb
 |[v],hb=>simp at hb
 |[v,x],_=>exact ⟨rfl,λ_=>rfl⟩
 |[v,x,y],hb=>simp at hb
 |[v,x,y,z],_=>exact ⟨rfl,λ_=>rfl⟩
 |v::x::y::z::t::r,hb=>simp at hb
section
variable{D:Nat->Prop}{lab:Nat->Nat×Nat}{w:World}{m:DM}{d:DR}{bw cap:Nat}{N:List NK}
theorem DMach.inAt(h:DMach D lab w m d)(hN:d.thr.getLast?=some N)(ho: ∀a∈d.opn,∃k,N[a]?=some k): ∃op tnv co gt ct T,InAt w m d N op tnv co gt ct T/\d.thr.length=T+1:=by
 have hlen:=Sl h
 have hne:d.thr≠[]:=ycg
 obtain ⟨tl,t,hts⟩: ∃tl t,m.ts=tl++[t]:=z84
 have htl:d.thr.length=tl.length+1:=yb3
 obtain ⟨gt,ct,et,_⟩:=Za h.trow yai
 rw [htl] at et
 have hti:m.ts[tl.length]?=some t:=ybo
 have tN:t.N=N:=z9s
 have hth:=h.th tl.length t hti
 have rt:=h.trow
 rw [et,htl] at rt
 have q:=(Qm rt tl.length yai).1
 rw [List.getElem?_map,hti] at q
 have p0:=h.p0
 rw [et] at p0
 obtain ⟨op,co,hov⟩: ∃op co,m.ov= .slice op d.opn.length co:=by
  rcases h.orow.2 with ⟨q1,q2⟩|⟨g,cap,cur,q1,_⟩
  ·exact ⟨none,0,by rw [q1,q2]⟩
  ·exact ⟨_,_,q1⟩
 have c5:=h.c5
 rw [hov] at c5
 refine ⟨op,t.nv,co,gt,ct,tl.length,⟨h.c0,c5,p0,q,λi a hi=>?_⟩,htl⟩
 have hil:i<d.opn.length:=(List.getElem?_eq_some_iff.1 hi).1
 obtain ⟨k,hk⟩:=ho a (List.mem_of_getElem? hi)
 have hal:a<N.length:=(List.getElem?_eq_some_iff.1 hk).1
 have hro:=h.orow
 obtain ⟨go,cgo,eo,_⟩:=Za hro yai
 have hop:op=some ⟨go,0,none⟩:=by
  rw [hov] at eo
  injection eo
 rw [eo] at hro
 have q1:=(Qm hro i hil).1
 rw [List.getElem?_map,hi] at q1
 have hrn:=hth.row
 rw [tN] at hrn
 obtain ⟨gn,cgn,en,_⟩:=Za hrn yai
 rw [en] at hrn
 have q2:=(Zr hrn (a*14) yai).1
 have nd:=hth.nodes.kind a k (by rw [tN];exact hk)
 rw [nd] at q2
 exact ⟨go,gn,cgn,k,hop,en,hk,q1,q2⟩
theorem DMach.row_st(h:DMach D lab w m d)(hk:DOk d)(hD: ∀k,w.heap.size<=k->D k)(nw: ¬D bw)(u:ByteArray)(us:List ByteArray)(hw:StrsAt w bw (u::us))(hbw:bw<w.heap.size)(hb:Jr (u::us)=true)(n1:u≠Qy)(n2:u≠Qt)(n3:u≠Zd)(hno:d.thr=[]->d.opn=[])(hop: ∀N,d.thr.getLast?=some N->N.length<=1000/\ ∀a∈d.opn,∃k,N[a]?=some k):
  Cl 12 #[ptr m.br, .slice (some ⟨bw,0,none⟩) (us.length+1) cap] w (DPost D w m (dSt d (stW (u::us)))):=by
 have e1:(u.toList==[115,104,97,114,101,100])=false:=Qo n1
 have e2:(u.toList==[116,104,114,101,97,100])=false:=Qo n2
 have e3:(u.toList==[101,110,100])=false:=Qo n3
 have w0:=hw 0 yaj
 have hL0:(0:Int)<((us.length+1:Nat):Int):=yai
 cases hN:d.thr.getLast? with
 |none=>
  have ht:d.thr=[]:=List.getLast?_eq_none_iff.1 hN
  have hs:dSt d (stW (u::us))= .error 3:=by unfold dSt;rw [hN]
  rw [hs]
  have c5:=h.c5
  have p0:=h.p0
  obtain ⟨po,co,hov⟩: ∃po co,m.ov= .slice po 0 co:=by
   have hr:=h.orow
   rw [hno ht] at hr
   rcases hr.2 with ⟨q1,_⟩|⟨g,cap,cur,q1,_⟩
   ·exact ⟨_,_,q1⟩
   ·exact ⟨_,_,q1⟩
  obtain ⟨pt,ct,htv⟩: ∃pt ct,m.tv= .slice pt 0 ct:=by
   have hr:=h.trow
   rw [ht] at hr
   rcases hr.2 with ⟨q1,_⟩|⟨g,cap,cur,q1,_⟩
   ·exact ⟨_,_,q1⟩
   ·exact ⟨_,_,q1⟩
  rw [hov] at c5
  rw [htv] at p0
  exact zxu h.c0 c5 p0 w0 hL0 e1 e2 e3
 |some N=>
  obtain ⟨hNl,ha⟩:=hop N hN
  have ht:d.thr≠[]:=ycg
  obtain ⟨op,tnv,co,gt,ct,T,hI,hT⟩:=h.inAt hN ha
  have hT2:T<=2000:=by have:=hk.t;omega
  rw [z1k d N _ hN hk.o]
  have KN:Hid (∀wr,Below w.heap.size w wr->Cl 25 #[ptr m.br, .slice (some ⟨bw,0,none⟩) (us.length+1) cap] wr (Jm D wr m (zcd (stW (u::us))).1 (zcd (stW (u::us))).2 (Vu d (stW (u::us))))):=hid λwr hb'=>
   (h.below hb').node_is hk (λk hk=>hD k (Nat.le_trans hb'.size hk)) nw ht u us (hw.keep hbw hb') hb n1 n2 n3
  have LEAF: ∀(s:St) (gB pB aB:Bool),stW (u::us)=s->(u.toList==[103,101,116])=gB->(u.toList==[112,117,116])=pB->(u.toList==[97,116,111,109,105,99])=aB->Qf s=false ->
    ((zhf d N=true/\gB=true/\aB=false)\/(zhf d N=true/\gB=false/\pB=true/\aB=false)\/(gB=false/\pB=false/\aB=false)) ->
    Cl 12 #[ptr m.br, .slice (some ⟨bw,0,none⟩) (us.length+1) cap] w (DPost D w m (z1j d N s (Vu d s))):=λs gB pB aB hs g1 g2 g3 hH hc=>by
   subst hs
   rw [ztu d N _ _ hH]
   have hkk:=(znh (stW (u::us))).2 hH
   have:=zxs (K1:=(zcd (stW (u::us))).1) (K2:=(zcd (stW (u::us))).2) (r:=Vu d (stW (u::us))) hk hD hN hNl hI hT2 hT w0 hL0 e1 e2 e3 g1 g2 g3 zbh zde KN (by rw [zeq];exact hc) (by rw [hkk];exact z5x _)
   exact this
  have PLACE: ∀(gB pB aB:Bool),(u.toList==[103,101,116])=gB->(u.toList==[112,117,116])=pB->(u.toList==[97,116,111,109,105,99])=aB ->
    ((zhf d N=false/\gB=true)\/(zhf d N=false/\gB=false/\pB=true)\/(zhf d N=true/\gB=false/\pB=false/\aB=true)) ->
    Cl 12 #[ptr m.br, .slice (some ⟨bw,0,none⟩) (us.length+1) cap] w (DPost D w m (.error 3)):=λgB pB aB g1 g2 g3 hc=>
   ztt hk hI hT2 w0 hL0 e1 e2 e3 g1 g2 g3 (by rw [zeq];exact hc)
  rcases Yk u with rfl|rfl|rfl|rfl|rfl|rfl|rfl|rfl|rfl|rfl|⟨nshared,nthread,nend,natomic,nset,nget,nput,nout,nif,nloop⟩
  ·exact absurd rfl n1
  ·exact absurd rfl n2
  ·exact absurd rfl n3
  ·rw [Zg] at hb
   have:us=[]:=ybu
   subst this
   rw [zfz] at KN⊢
   cases hin:zhf d N with
   |true=>
    rw [if_pos (show Gd true St.atomic=false from rfl)]
    exact PLACE false false true yak yak yak (.inr (.inr ⟨hin,rfl,rfl,rfl⟩))
   |false=>
    rw [if_neg (by simp [Gd]),zep d N _ _ rfl]
    exact zph (r:=Vu d St.atomic) hk hD hN hNl hI hT2 hT w0 hL0 e1 e2 e3 yak yak yak zbh zde KN (by rw [zeq];exact ⟨hin,rfl,rfl,rfl⟩)
  ·have hs:=z33 us hb
   rw [if_neg (by rw [hs.2];simp)]
   exact LEAF _ false false false rfl yak yak yak hs.1 (.inr (.inr ⟨rfl,rfl,rfl⟩))
  ·have hs:=z34 us hb
   cases hin:zhf d N with
   |true=>
    rw [if_neg (by rw [hs.2];simp)]
    exact LEAF _ true false false rfl yak yak yak hs.1 (.inl ⟨hin,rfl,rfl⟩)
   |false=>
    rw [if_pos (hs.2 _)]
    exact PLACE true false false yak yak yak (.inl ⟨hin,rfl⟩)
  ·have hs:=z35 us hb
   cases hin:zhf d N with
   |true=>
    rw [if_neg (by rw [hs.2];simp)]
    exact LEAF _ false true false rfl yak yak yak hs.1 (.inr (.inl ⟨hin,rfl,rfl,rfl⟩))
   |false=>
    rw [if_pos (hs.2 _)]
    exact PLACE false true false yak yak yak (.inr (.inl ⟨hin,rfl,rfl⟩))
  ·rw [Eu] at hb
   obtain ⟨v,rfl,_⟩:=zb8 us hb
   have hs:=ztr v
   rw [if_neg (by rw [hs];simp [Gd])]
   exact LEAF _ false false false rfl yak yak yak (by rw [hs];rfl) (.inr (.inr ⟨rfl,rfl,rfl⟩))
  ·rw [zcy] at hb
   obtain ⟨v,rfl,_⟩:=zb8 us hb
   rw [zy9] at KN⊢
   rw [if_neg (by simp [Gd]),zep d N _ _ rfl]
   exact z32 (r:=Vu d (St.iff (Ff v))) hk hD hN hNl hI hT2 hT w0 hL0 e1 e2 e3 yak yak yak zbh zde KN ⟨rfl,rfl,rfl⟩
  ·obtain ⟨v,rfl⟩:=z1l us hb
   rw [zni] at KN⊢
   rw [if_neg (by simp [Gd]),zep d N _ _ rfl]
   exact zxt (r:=Vu d (St.loop ((Qk v).getD 0))) hk hD hN hNl hI hT2 hT w0 hL0 e1 e2 e3 yak yak yak zbh zde KN ⟨rfl,rfl,rfl⟩
  ·exact z99
end
section
variable{w:World}{br bp bw cap n L:Nat}{x y:ByteArray}{c k q:Int}{M:Nat->Nat->Prop}
abbrev ztv(br:Nat)(v:Value)(n:Nat)(xs:List Value):Slot:=⟨0,br,1,9,v,n,xs,v⟩
abbrev ztw(br:Nat)(v:Value)(n:Nat)(xs:List Value):Slot:=⟨1,br,2,3,v,n,xs,v⟩
abbrev ztx(br:Nat)(v:Value)(n:Nat)(xs:List Value):Slot:=⟨2,br,3,3,v,n,xs,v⟩
theorem zpi{sv fv zv:Value}{xs1 xs2 xs3:List Value}{ct:Nat}(h:SlotsAt M w w [(br,0,ptr bp),(bp,1, .int .i64 c),(bw,1, .string x)] [(bp,1)] [ztv br sv n xs1,ztw br fv n xs2,ztx br zv n xs3])(p0:w.cell? ⟨bp,0,none⟩=some (.slice pt 0 ct))(hbb:br≠bp)(hM:M bp 1)(hn:n<1000000)(hc:0<=c/\c<100000000)(hk: ¬0<=k)(hq:1<=q/\q<=6)(hL:(L=2/\q=1)\/(L=3/\w.cell? ⟨bw,2,none⟩=some (.string y)/\Qk y=some q))
  (KS:Hid (∀w',Below w.heap.size w w'->Cl 22 #[sv, .string x] w' λe w2=>e= .returned (.int .i64 k)/\w2=w')):
  Cl 23 #[ptr br, .slice (some ⟨bw,0,none⟩) L cap] w λe w'=>e= .returned (.int .i64 0)/\ ∃g1 c1 g2 c2 g3 c3,SlotsAt M w w' [(bp,1, .int .i64 (c+q))] [(bp,1)] [(ztv br sv n xs1).more g1 c1 (.string x),(ztw br fv n xs2).more g2 c2 (.int .i64 c),(ztx br zv n xs3).more g3 c3 (.int .i64 q)]:=by
 have c0:=h.keep (br,0,ptr bp) yaj
 have c1:=h.cell (ztv br sv n xs1) yaj
 have w1:=h.keep (bw,1, .string x) yaj
 dsimp only at c0 c1 w1
 have hlt:br<w.heap.size:=blt c0
 have hlp:bp<w.heap.size:=blt p0
 have hlw:bw<w.heap.size:=blt w1
 have HX:=hid (h.below ((Qi _ w).trans (Qi _ _)))
 have HW:Hid (∀x,Below w.drew.drew.heap.size w.drew.drew (w.drew.drew.alloc (.cells #[x] 9))):=hid λx=>(Below.refl _ _).alloc (Nat.le_refl _) _
 obtain ⟨i0,hi0,hz0,hz1,hz2⟩:=info_parts znd
 obtain ⟨j0,hj0,hy0,hy1,hy2⟩:=info_parts za7
 have hl1:n+1<=maxLen:=yap
 have hl2:(n+1)*16<=140737488355328:=yai
 have hl3:(n+1)*8<=140737488355328:=yai
 have hwr:IntKind.i64.wrap (c+q)=c+q:=yar
 have hL1:(1:Int)<(L:Int):=by rcases hL with ⟨e,_⟩|⟨e,_⟩<;>omega
 have HM:=hid hM
 have HBB:=hid hbb
 have KN:Hid (Qk y=some q->∀w,Cl 41 #[.string y] w λe w'=>e= .returned (.tuple #[.int .i64 q, .bool true])/\w'=w):=hid λhy w=>by
  have:=Ym w y
  rw [Yj hy] at this
  exact this
 clear h hn hM hbb hc hq
 go_enter Tryz.func23,Tryz.ntmps23
 go_wp2_with fail
 refine wp_region_held_drew (S:=(λw'=>w'.cell? ⟨br,1,none⟩=some sv/\w'.cell? ⟨bw,1,none⟩=some (.string x))) yak ?_ (λhHeld=>?_)
 ·(try dsimp only);go_keep
 refine Qa 0 (h:=Qa 1 (h:=Qa 2 (h:=Qa 3 (h:=Qa 4 (h:=Qa 5 (h:=Qa 6 (h:=?_)))))))
 refine tr [7] (.cons rfl (λKQ hKQ=>?_) .nil)
 (go_simp;go_at_call 22;refine (KS.out _ (Qi _ w)).mono ?_;rintro e w1 ⟨rfl,hw⟩;subst w1)
 refine hKQ.out _ _ ?_ (λhHeld=>?_)
 ·(try dsimp only);go_keep
 clear hKQ KQ
 refine Qa 8 (h:=?_)
 refine wpAnyH_done yak ?_ _
 rcases hL with ⟨rfl,rfl⟩|⟨rfl,w2,hy⟩
 case' inl=>go_wp2_with fail
 case' inr=>(go_wp2_with fail;refine (KN.out hy _).mono ?_;rintro e w1 ⟨rfl,hw⟩;subst w1;clear w2 hy;go_wp2_with fail)
 all_goals
  refine wp_region_held_drew (S:=(λw'=>w'.cell? ⟨bw,1,none⟩=some (.string x))) yak ?_ (λhHeld=>?_)
  ·(try dsimp only);go_keep
  refine Qa 0 (h:=Qa 1 (h:=Qa 2 (h:=Qa 3 (h:=Qa 5 (h:=Qa 6 (h:=Qa 7 (h:=?_)))))))
  refine tr [4,8] (.cons rfl (λKQ hKQ=>?_) (.cons rfl (λKQ hKQ=>?_) .nil))
  go_simp
  refine hKQ.out _ _ ?_ (λhHeld=>?_)
  ·exact z70
  clear hKQ KQ
  refine tr [8] (.cons rfl (λKQ hKQ=>?_) .nil)
  go_simp
  rotate_left
  go_simp
  refine hKQ.out _ _ ?_ (λhHeld=>?_)
  ·exact z70
  clear hKQ KQ
  refine tr [4] (.cons rfl (λKQ hKQ=>?_) .nil)
  go_simp
  rotate_left
  all_goals
   refine hKQ.out _ _ ?_ (λhHeld=>?_)
   ·exact z70
   clear hKQ KQ
   refine tr [9] (.cons rfl (λKQ hKQ=>?_) .nil)
   (refine Je rfl (.tmp 40) (.tmp 44) 49 rfl 9 i0 (.string ByteArray.empty) 1 16 yal Tryz.underlying49 hi0 hz0 hz1 hz2 rfl sv n xs1 rfl ((HX.out.below (HW.out _)).row (ztv br sv n xs1) yaj) ⟨w.heap.size,0,none⟩ [.string x] rfl rfl (cell_one_new _ _ _) yax hl1 hl2 ?_;intro g cp w3 ho hch hg;have H1:=hid (SlotsAt.push0 HX.out rfl rfl rfl (HW.out _) ho hch hg);have mm:=HX.out.mid (s:=ztv br sv n xs1) yaj (HW.out _) hch;have d1:=(mm.1 (ztv br sv n xs1) yaj).1;have d2:=(mm.1 (ztv br sv n xs1) yaj).2;have d3:=mm.2 (bw,1, .string x) yaj;dsimp only at d1 d2 d3;clear ho hch hg mm)
   refine hKQ.out _ _ ?_ (λhHeld=>?_)
   ·exact z70
   clear hKQ KQ
   refine Qa 10 (h:=Qa 11 (h:=?_))
   refine tr [12] (.cons rfl (λKQ hKQ=>?_) .nil)
   go_simp
   refine hKQ.out _ _ ?_ (λhHeld=>?_)
   ·exact z70
   clear hKQ KQ
   refine wpAnyH_done yak ?_ _
   generalize hW1:World.setCell w3 ⟨br,1,none⟩ (.slice (some ⟨g,0,none⟩) (n+1) cp)=W1 at H1⊢
   have e0:=H1.out.keep (br,0,ptr bp) yaj
   have e1:=H1.out.keep (bp,1, .int .i64 c) yaj
   have e2:=H1.out.cell (ztw br fv n xs2) yaj
   dsimp only at e0 e1 e2
   have l0:br<W1.heap.size:=blt e0
   have l1:bp<W1.heap.size:=blt e1
   have HX1:=hid (H1.out.below (Qi _ W1))
   have HW1:Hid (∀x,Below W1.drew.heap.size W1.drew (W1.drew.alloc (.cells #[x] 3))):=hid λx=>(Below.refl _ _).alloc (Nat.le_refl _) _
   clear hW1 hHeld
   go_wp2_with fail
   refine wp_region_held_drew (S:=(λw'=>w'.cell? ⟨br,0,none⟩=some (ptr bp)/\w'.cell? ⟨bp,1,none⟩=some (.int .i64 c))) yak ?_ (λhHeld=>?_)
   ·(try dsimp only);go_keep
   refine Qa 0 (h:=Qa 1 (h:=Qa 2 (h:=Qa 3 (h:=Qa 5 (h:=Qa 6 (h:=Qa 7 (h:=Qa 8 (h:=Qa 9 (h:=Qa 10 (h:=Qa 11 (h:=?_)))))))))))
   refine tr [4,12] (.cons rfl (λKQ hKQ=>?_) (.cons rfl (λKQ hKQ=>?_) .nil))
   go_simp
   refine hKQ.out _ _ ?_ (λhHeld=>?_)
   ·exact z7t
   clear hKQ KQ
   refine tr [12] (.cons rfl (λKQ hKQ=>?_) .nil)
   go_simp
   rotate_left
   go_simp
   refine hKQ.out _ _ ?_ (λhHeld=>?_)
   ·exact z7t
   clear hKQ KQ
   refine tr [4] (.cons rfl (λKQ hKQ=>?_) .nil)
   go_simp
   rotate_left
   all_goals
    refine hKQ.out _ _ ?_ (λhHeld=>?_)
    ·exact z7t
    clear hKQ KQ
    refine tr [13] (.cons rfl (λKQ hKQ=>?_) .nil)
    (refine Je rfl (.tmp 52) (.tmp 60) 52 rfl 3 j0 (.int .i64 0) 1 8 yal Tryz.underlying52 hj0 hy0 hy1 hy2 rfl fv n xs2 rfl ((HX1.out.below (HW1.out _)).row (ztw br fv n xs2) yaj) ⟨W1.heap.size,0,none⟩ [.int .i64 c] rfl rfl (cell_one_new _ _ _) yax hl1 hl3 ?_;intro g2 cp2 w4 ho hch hg;have H2:=hid (SlotsAt.push1 HX1.out rfl rfl rfl (HW1.out _) ho hch hg);have mm:=HX1.out.mid (s:=ztw br fv n xs2) yaj (HW1.out _) hch;have f1:=(mm.1 (ztw br fv n xs2) yaj).1;have f2:=(mm.1 (ztw br fv n xs2) yaj).2;have f0:=mm.2 (br,0,ptr bp) yaj;have f5:=mm.2 (bp,1, .int .i64 c) yaj;dsimp only at f0 f1 f2 f5;clear ho hch hg mm)
    refine hKQ.out _ _ ?_ (λhHeld=>?_)
    ·exact z7t
    clear hKQ KQ
    refine Qa 14 (h:=Qa 15 (h:=?_))
    refine tr [16] (.cons rfl (λKQ hKQ=>?_) .nil)
    go_simp
    refine hKQ.out _ _ ?_ (λhHeld=>?_)
    ·exact z7t
    clear hKQ KQ
    refine wpAnyH_done yak ?_ _
    generalize hW2:World.setCell w4 ⟨br,2,none⟩ (.slice (some ⟨g2,0,none⟩) (n+1) cp2)=W2 at H2⊢
    have q0:=H2.out.keep (br,0,ptr bp) yaj
    have q1:=H2.out.keep (bp,1, .int .i64 c) yaj
    have q3:=H2.out.cell (ztx br zv n xs3) yaj
    dsimp only at q0 q1 q3
    have m0:br<W2.heap.size:=blt q0
    have m1:bp<W2.heap.size:=blt q1
    have RW2:=λz=>((H2.out.below (X:=W2.alloc (.cells #[.int .i64 z] 3)) ((Below.refl _ _).alloc (Nat.le_refl _) _)).row (ztx br zv n xs3) yaj)
    clear hW2 hHeld
    go_wp2_with (at_builtin;refine Zk rfl _ _ 52 rfl 3 j0 (.int .i64 0) 8 Tryz.underlying52 hj0 hy0 hy1 hy2 rfl zv n xs3 rfl (RW2 _) ⟨W2.heap.size,0,none⟩ (.int .i64 _) rfl (cell_one_new _ _ _) rfl hl1 hl3 ?_;go_must (intro g3 cp3 w5 ho hch hg;have H3:=hid (SlotsAt.push2 H2.out rfl rfl rfl ((Below.refl _ _).alloc (Nat.le_refl _) _) ho hch hg);have mm:=H2.out.mid (s:=ztx br zv n xs3) yaj ((Below.refl _ _).alloc (Nat.le_refl _) _) hch;have f3:=(mm.1 (ztx br zv n xs3) yaj).1;have f4:=(mm.1 (ztx br zv n xs3) yaj).2;dsimp only at f3 f4;clear ho hch hg mm))
    generalize hW3:World.setCell w5 ⟨br,3,none⟩ (.slice (some ⟨g3,0,none⟩) (n+1) cp3)=W3 at H3⊢
    have s0:=H3.out.keep (br,0,ptr bp) yaj
    have s1:=H3.out.keep (bp,1, .int .i64 c) yaj
    have s2:=(H3.out.fr (bp,1) yaj).2
    dsimp only at s0 s1 s2
    have H4:=H3.out
    have H5:=λz=>hid ((H4.set (b:=bp) (o:=1) (v:= .int .i64 (c+z)) (K':=[(bp,1, .int .i64 (c+z))]) (by exact s1) (λs hs=>⟨by simp at hs;rcases hs with rfl|rfl|rfl<;>exact .inl HBB.out,λg hg=>((H4.nb s hs g hg).2 (bp,1, .int .i64 c) yaj)⟩) (λ_=>HM.out) (λq hq=> .inr (by simpa using hq))).below (Qi _ _))
    clear hW3 H4
    have n0:br<W3.heap.size:=blt s0
    have n1:bp<W3.heap.size:=blt s1
    go_wp2_with fail
    refine wp_region_held_drew (S:=(λw'=>w'.cell? ⟨br,0,none⟩=some (ptr bp))) yak ?_ (λhHeld=>?_)
    ·(try dsimp only);go_keep
    refine Qa 0 (h:=Qa 1 (h:=Qa 2 (h:=Qa 3 (h:=Qa 4 (h:=Qa 5 (h:=Qa 6 (h:=Qa 7 (h:=Qa 8 (h:=Qa 9 (h:=Qa 11 (h:=?_)))))))))))
    refine tr [10] (.cons rfl (λKQ hKQ=>?_) .nil)
    go_simp
    refine hKQ.out _ _ ?_ (λhHeld=>?_)
    ·(try dsimp only);exact hHeld
    clear hKQ KQ
    refine Qa 12 (h:=Qa 13 (h:=Qa 14 (h:=?_)))
    refine tr [15] (.cons rfl (λKQ hKQ=>?_) .nil)
    go_simp
    refine hKQ.out _ _ ?_ (λhHeld=>?_)
    ·(try dsimp only);exact (Qb (.inl HBB.out)).trans hHeld
    clear hKQ KQ
    refine wpAnyH_done yak ?_ _
    go_wp2
    go_ret
    exact ⟨rfl,_,_,_,_,_,_,(H5 _).out⟩
end
end Go.Proofs.YtphcopbffecceaaGreatDoor
