import Derived.Test.YtphcopbffecceaaGreatDoorP32
set_option maxRecDepth 100000
set_option maxHeartbeats 10000000
namespace Go.Proofs.YtphcopbffecceaaGreatDoor
open Go.RowKit
section
variable{D:Nat->Prop}{lab:Nat->Nat×Nat}{w:World}{m:DM}{d:DR}{u:ByteArray}{bw cap L:Nat}{N:List NK}{op:Option Addr}{tnv:Value}{co gt ct T K1:Nat}{K2:Int}{r:Except Int DR}{gB pB aB:Bool}
theorem zxt(hk:DOk d)(hD: ∀k,w.heap.size<=k->D k)(hN:d.thr.getLast?=some N)(hNl:N.length<=1000)(hI:InAt w m d N op tnv co gt ct T)(hT:T<=2000)(hTT:d.thr.length=T+1)(w0:w.cell? ⟨bw,0,none⟩=some (.string u))(hL0:(0:Int)<(L:Int))
  (e1:(u.toList==[115,104,97,114,101,100])=false) (e2:(u.toList==[116,104,114,101,97,100])=false) (e3:(u.toList==[101,110,100])=false) (g1:(u.toList==[103,101,116])=gB) (g2:(u.toList==[112,117,116])=pB) (g3:(u.toList==[97,116,111,109,105,99])=aB)
  (hr0: ∀e,r= .error e->e≠0) (hr1: ∀d1,r= .ok d1->d1.thr=d.thr/\d1.opn=d.opn/\d1.stmts=d.stmts)
  (KN:Hid (∀wr,Below w.heap.size w wr->Cl 25 #[ptr m.br, .slice (some ⟨bw,0,none⟩) L cap] wr (Jm D wr m 108 K2 r)))
  (hcls:(gB=false/\pB=false/\aB=false)):
  Cl 12 #[ptr m.br, .slice (some ⟨bw,0,none⟩) L cap] w (DPost D w m (zbg d N (108,K2) r)):=by
 have c0:=hI.c0
 have c5:=hI.c5
 have p0:=hI.p0
 have hlw:bw<w.heap.size:=blt w0
 have hlt:m.br<w.heap.size:=blt c0
 have hlp:m.bp<w.heap.size:=blt p0
 have hT0:(0:Int)<=(T:Int):=yai
 have hT1:(T:Int)<(T:Int)+1:=yai
 have eT:wrap64 (((T+1:Nat):Int)- 1)=(T:Int):=yao
 have HI:=hid hI
 have HD:=hid hD
 have HN:=hid hN
 have HTL:=hid hTT
 have HNL:=hid hNl
 have HR0:=hid hr0
 have HR1:=hid hr1
 have HCL:=hid hcls
 have HS14:=hid hk.n
 have ho3:=hk.o
 have hneg: ¬(T:Int)<0:=yai
 clear hI hD hN hNl hr0 hr1 hcls hk hTT
 go_enter Tryz.func12,Tryz.ntmps12
 go_wp2
 go_loopw [6,7] (λv6 v7 wr=>∃i:Nat,i<=d.opn.length/\v7= .int .i64 i/\v6= .bool (Xx d N i)/\Hid (Below w.heap.size w wr)) (λ_ v7 _=>d.opn.length- (intOf v7).toNat)
 case atStart=>exact ⟨0,Nat.zero_le _,rfl,rfl,hid (Below.refl _ _)⟩
 case round=>
  obtain ⟨i,hi,rfl,rfl,HB⟩:=hrel
  have hJ:=HI.out.below HB.out
  have d0:=hJ.c0
  have d5:=hJ.c5
  have dp:=hJ.p0
  have dt:=hJ.tc
  have lr:m.br<wr.heap.size:=blt d0
  have lp:m.bp<wr.heap.size:=blt dp
  by_cases hlti:i<d.opn.length
  ·exact z7e
  ·have hii:i=d.opn.length:=by omega
   subst hii
   clear hJ hlti hi
   have lbw:bw<wr.heap.size:=yb4
   have w0':wr.cell? ⟨bw,0,none⟩=some (.string u):=(HB.out.cell (p:=⟨bw,0,none⟩) hlw).trans w0
   have hcl:=HCL.out
   generalize Xx d N d.opn.length=inn at hcl⊢
   obtain ⟨rfl,rfl,rfl⟩:=hcl
   go_wp2_with fail
   all_goals
    refine (KN.out _ HB.out).mono ?_
    rintro e w2 ⟨hc,X,er,k1,k2,k3,rfl,hr⟩
    have HC:=hid ((Chg.of_below (M:=λk _=>D k) HB.out).trans hc)
    have hsz:w.heap.size<=w2.heap.size:=Nat.le_trans HB.out.size hc.size
    subst k2
    have HK1:=hid k1
    have HK3:=hid k3
    clear hc d0 d5 dp dt lr lp w0' lbw HB k3
    cases r with
    |error e'=>exact z7y
    |ok d1=>
     obtain ⟨rfl,lab',m',hb1,hb2,hm⟩:=hr
     obtain ⟨t1,t2,t3⟩:=HR1.out d1 rfl
     have hc6:=hm.c6
     have hf6:=hm.free 6
     rw [hb1] at hc6 hf6
     rw [t3] at hc6
     have hs14:=HS14.out
     generalize hsi:(d.stmts:Int)=si at hc6
     have hsb:0<=si/\si<=14:=yai
     have eS:wrap64 (si+1)=si+1:=yao
     have l2:m.br<w2.heap.size:=blt hc6
     have HM:=hid hm
     have HT1:=hid t1
     have HT2:=hid t2
     have HT3:=hid t3
     clear hm t1 t2 t3 hs14
     by_cases h14:si=14
     ·exact z7z
     ·have h14': ¬14<si+1:=by omega
      obtain ⟨i0,hi0,hz0,hz1,hz2⟩:=info_parts Ox
      have hl1:N.length+1<=maxLen:=ycm
      have hl2:(N.length+1)*120<=140737488355328:=ycn
      have nD2: ∀k,k<w2.heap.size->D k->(D k/\k≠w2.heap.size):=λk hk hd=>⟨hd,by omega⟩
      have hset:Chg (λk j=>k=m.br/\j=6) w2 (w2.setCell ⟨m.br,6,none⟩ (.int .i64 (si+1))):=(Chg.refl _ w2).setCell (λ_=>⟨rfl,rfl⟩) _
      have hm3:=((HM.out.restrict (D':=λk=>D k/\k≠w2.heap.size) nD2).stmtF (s:=d.stmts+1) (w':=w2.setCell ⟨m.br,6,none⟩ (.int .i64 (si+1))) ych (hset.mono λk j _ e _=> .inr (.inl ⟨by rw [hb1];exact e.1,by rw [e.2];simp⟩)))
      have hsz2:(w2.setCell ⟨m.br,6,none⟩ (.int .i64 (si+1))).heap.size=w2.heap.size:=Jq _ _ _
      obtain ⟨j0,hj0,hy0,hy1,hy2⟩:=info_parts za7
      have hxd:X.k=108:=HK1.out
      have hc5:=HM.out.c5
      have ho5:=HM.out.orow
      rw [hb1] at hc5
      rw [HT2.out] at ho5
      obtain ⟨po,co',hov⟩: ∃po co',m'.ov= .slice po d.opn.length co':=z8r
      rw [hov] at hc5 ho5
      by_cases h3:d.opn.length=3
      ·exact z7w
      ·have h3': ¬(d.opn.length:Int)=3:=by omega
       have hf5:w2.frozen? ⟨m.br,5,none⟩=false:=ydb
       have hx3:XAt ((w2.setCell ⟨m.br,6,none⟩ (.int .i64 (si+1))).alloc (.cells #[(.int .u8 108),(.int .i64 X.v),(.string X.op),(.bool X.al),(.int .i64 X.av),(.bool X.bl),(.int .i64 X.bv),(.bool X.tl),(.int .i64 X.tv),(.int .i64 X.fi),(.int .i64 X.si),(.int .i64 X.to),(.int .i64 X.n),(.int .i64 (d.opn.length:Int))] 77)) w2.heap.size ({X with k:=108,dp:=(d.opn.length:Int)}:XV):=by
        have:=Sy (w2.setCell ⟨m.br,6,none⟩ (.int .i64 (si+1))) ({X with k:=108,dp:=(d.opn.length:Int)}:XV)
        rw [hsz2] at this
        exact this
       have hm4:=hm3.below (w':=((w2.setCell ⟨m.br,6,none⟩ (.int .i64 (si+1))).alloc (.cells #[(.int .u8 108),(.int .i64 X.v),(.string X.op),(.bool X.al),(.int .i64 X.av),(.bool X.bl),(.int .i64 X.bv),(.bool X.tl),(.int .i64 X.tv),(.int .i64 X.fi),(.int .i64 X.si),(.int .i64 X.to),(.int .i64 X.n),(.int .i64 (d.opn.length:Int))] 77))) ((Below.refl _ _).alloc (Nat.le_refl _) _)
       obtain ⟨tl0,t0,gt0,ct0,hly⟩:=hm4.layAt (N:=N) yci hx3 (λe=>e.2 rfl)
       have hTl:tl0.length=T:=z9d
       obtain ⟨pn,cn,hnv⟩: ∃pn cn,t0.nv= .slice pn N.length cn:=z8m
       have HDW:Hid (∀k,((w2.setCell ⟨m.br,6,none⟩ (.int .i64 (si+1))).alloc (.cells #[(.int .u8 108),(.int .i64 X.v),(.string X.op),(.bool X.al),(.int .i64 X.av),(.bool X.bl),(.int .i64 X.bv),(.bool X.tl),(.int .i64 X.tv),(.int .i64 X.fi),(.int .i64 X.si),(.int .i64 X.to),(.int .i64 X.n),(.int .i64 (d.opn.length:Int))] 77)).heap.size<=k->(D k/\k≠w2.heap.size)):=hid λk hk=>ycj
       have HCW:Hid (Chg (λk _=>D k) w ((w2.setCell ⟨m.br,6,none⟩ (.int .i64 (si+1))).alloc (.cells #[(.int .u8 108),(.int .i64 X.v),(.string X.op),(.bool X.al),(.int .i64 X.av),(.bool X.bl),(.int .i64 X.bv),(.bool X.tl),(.int .i64 X.tv),(.int .i64 X.fi),(.int .i64 X.si),(.int .i64 X.to),(.int .i64 X.n),(.int .i64 (d.opn.length:Int))] 77))):=hid ((HC.out.setCell (λ_=>hb1▸HM.out.lb.2) _).alloc _)
       have HLM:=hid hm4
       have HX3:=hid hx3
       have s0:=hly.c0
       have s1:=hly.p0
       have s2:=hly.tc
       rw [hb1,hb2] at s0
       rw [hb2,hTl] at s1
       rw [hTl,hnv] at s2
       have s5:=hm4.c5
       have s6:=hm4.free 5
       rw [hb1,hov] at s5
       rw [hb1] at s6
       have hro:=hm4.orow
       rw [hov,show ({d1 with stmts:=d.stmts+1}:DR).opn=d.opn from HT2.out] at hro
       have HRO:=hid hro
       have HNB:Hid (m.br≠m.bp/\gt0≠m.br):=hid yc6
       have HGT:Hid (∀g,(Value.slice po d.opn.length co').ownBlock=some g->lab' g=(0,6)/\(D g/\g≠w2.heap.size)):=hid yc8
       have HNG:Hid (lab' gt0≠(0,6)/\lab' m.br≠(0,6)/\lab' m.bp≠(0,6)):=hid ⟨by rw [(hm4.lt gt0 yba).1];simp,by rw [<-hb1,hm4.lb.1];simp,by rw [<-hb2,hm4.lp.1];simp⟩
       have hn1:d.opn.length+1<=maxLen:=yap
       have hn2:(d.opn.length+1)*8<=140737488355328:=yai
       clear hm3 hm4 hly hx3 hset nD2 hro
       dsimp only [XV.cells]
       go_wp2_with fail
       all_goals
        generalize hW:((w2.setCell ⟨m.br,6,none⟩ (.int .i64 (si+1))).alloc (.cells #[(.int .u8 108),(.int .i64 X.v),(.string X.op),(.bool X.al),(.int .i64 X.av),(.bool X.bl),(.int .i64 X.bv),(.bool X.tl),(.int .i64 X.tv),(.int .i64 X.fi),(.int .i64 X.si),(.int .i64 X.to),(.int .i64 X.n),(.int .i64 (d.opn.length:Int))] 77))=W at HDW HCW HLM HX3 HRO s0 s1 s2 s5 s6⊢
        clear hW eS hc6 hf6 hsz2 h14' hc5 hf5 ho5 h3'
        have lW0:m.br<W.heap.size:=blt s0
        have lW1:m.bp<W.heap.size:=blt s1
        have lW2:gt0<W.heap.size:=blt s2
        have HWI:Hid (∀c:Array Value,Below W.heap.size W (W.drew.alloc (.cells c 3))):=hid λc=>(Qi _ W).alloc (Nat.le_refl _) _
        have HOP:Hid (∀V,Below W.heap.size W V->∀g5 c5 w5,w5.ownsRow 0 3 1 (.slice (some ⟨g5,0,none⟩) (d.opn.length+1) c5) (d.opn.length+1) ((d.opn.map λ(k:Nat)=> .int .i64 (k:Int))++[.int .i64 (N.length:Int)])->Chg (λb _=>(Value.slice po d.opn.length co').ownBlock=some b) V w5->((Value.slice po d.opn.length co').ownBlock=some g5\/g5=V.heap.size) ->
          (w5.cell? ⟨m.br,0,none⟩=some (ptr m.bp)/\w5.cell? ⟨m.bp,0,none⟩=some (.slice (some ⟨gt0,0,none⟩) (T+1) ct0)/\w5.cell? ⟨gt0,T,none⟩=some (.slice pn N.length cn)/\w5.cell? ⟨m.br,5,none⟩=some (.slice po d.opn.length co')/\w5.frozen? ⟨m.br,5,none⟩=false)/\
          Chg (λk _=>D k) w (w5.setCell ⟨m.br,5,none⟩ (.slice (some ⟨g5,0,none⟩) (d.opn.length+1) c5))/\XAt (w5.setCell ⟨m.br,5,none⟩ (.slice (some ⟨g5,0,none⟩) (d.opn.length+1) c5)) w2.heap.size ({X with k:=108,dp:=(d.opn.length:Int)}:XV)/\
          (∀k,(w5.setCell ⟨m.br,5,none⟩ (.slice (some ⟨g5,0,none⟩) (d.opn.length+1) c5)).heap.size<=k->(D k/\k≠w2.heap.size))/\ ∃lab5 m5,m5.br=m'.br/\m5.bp=m'.bp/\DMach (λk=>D k/\k≠w2.heap.size) lab5 (w5.setCell ⟨m.br,5,none⟩ (.slice (some ⟨g5,0,none⟩) (d.opn.length+1) c5)) m5 {d1 with stmts:=d.stmts+1,opn:=d.opn++[N.length]}):=hid (zeo HLM.out HDW.out HCW.out HX3.out HT2.out hb1 hov HGT.out HNG.out s0 s1 s2 s5 s6)
        refine wp_region_held_drew (S:=(λw'=>w'.cell? ⟨m.br,0,none⟩=some (ptr m.bp)/\w'.cell? ⟨m.bp,0,none⟩=some (.slice (some ⟨gt0,0,none⟩) (T+1) ct0)/\w'.cell? ⟨gt0,T,none⟩=some (.slice pn N.length cn))) yak ?_ (λhHeld=>?_)
        ·(try dsimp only);exact ⟨s0,s1,s2⟩
        refine Qa 0 (h:=Qa 1 (h:=Qa 2 (h:=Qa 3 (h:=Qa 5 (h:=Qa 6 (h:=Qa 7 (h:=Qa 8 (h:=Qa 9 (h:=Qa 10 (h:=Qa 11 (h:=Qa 12 (h:=Qa 13 (h:=Qa 14 (h:=Qa 15 (h:=?_)))))))))))))))
        refine tr [4,16] (.cons rfl (λKQ hKQ=>?_) (.cons rfl (λKQ hKQ=>?_) .nil))
        go_simp
        refine hKQ.out _ _ ?_ (λhHeld=>?_)
        ·(try dsimp only);exact hHeld
        clear hKQ KQ
        refine tr [16] (.cons rfl (λKQ hKQ=>?_) .nil)
        go_simp
        rotate_left
        go_simp
        refine hKQ.out _ _ ?_ (λhHeld=>?_)
        ·(try dsimp only);go_keep
        clear hKQ KQ
        refine tr [4] (.cons rfl (λKQ hKQ=>?_) .nil)
        go_simp
        rotate_left
        all_goals
         refine hKQ.out _ _ ?_ (λhHeld=>?_)
         ·(try dsimp only);go_keep
         clear hKQ KQ
         refine tr [17] (.cons rfl (λKQ hKQ=>?_) .nil)
         (refine Je rfl (.tmp 208) (.tmp 220) 52 rfl 3 j0 (.int .i64 0) 1 8 yal Tryz.underlying52 hj0 hy0 hy1 hy2 rfl (.slice po d.opn.length co') d.opn.length (d.opn.map λ(k:Nat)=> .int .i64 (k:Int)) rfl (Qc HRO.out (Chg.of_below (M:=λ_ _=>False) (HWI.out _)) λ_ _ _ e=>e) ⟨W.heap.size,0,none⟩ [.int .i64 (N.length:Int)] rfl rfl (cell_one_new _ _ _) yax hn1 hn2 ?_;intro g5 c5 w5 ho hch hg;have H5:=hid (HOP.out _ (HWI.out _) g5 c5 w5 ho hch hg);have S5:=H5.out.1;have f1:=S5.2.2.2.1;have f2:=S5.2.2.2.2;have HS5:=hid (And.intro S5.1 (And.intro S5.2.1 S5.2.2.1));clear ho hch hg S5)
         refine hKQ.out _ _ ?_ (λhHeld=>?_)
         ·(try dsimp only);exact HS5.out
         clear hKQ KQ
         refine Qa 18 (h:=Qa 19 (h:=?_))
         refine tr [20] (.cons rfl (λKQ hKQ=>?_) .nil)
         go_simp
         refine hKQ.out _ _ ?_ (λhHeld=>?_)
         ·exact z75
         clear hKQ KQ
         refine wpAnyH_done yak ?_ _
         obtain ⟨_,hcw,hx5,hdx,lab5,m5,b51,b52,hm5⟩:=H5.out
         have hb1':=b51.trans hb1
         have hb2':=b52.trans hb2
         obtain ⟨tl,t,gt',ct',hly⟩:=hm5.layAt (N:=N) yc9 hx5 (λe=>e.2 rfl)
         have hTl:T=tl.length:=z8i
         have HDX:=hid hdx
         have HCX:=hid hcw
         have HLX:=hid hm5
         have HLY:=hid hly
         have HNT:Hid (gt'≠m.br/\gt'≠m.bp/\gt'≠w2.heap.size):=hid yda
         have HOW:Hid (∀k,t.nv.ownBlock=some k->D k):=hid λk e=>(hm5.ln tl.length t yck k e).2.1
         have HGD:Hid (D gt'):=hid (hm5.lt gt' yba).2.1
         clear hcw hx5 hdx hm5 hly H5 HS5 HLM HDW HCW HOP HRO HGT HNG HNB HX3 s0 s1 s2 s5 s6 f1 f2 hHeld lW0 lW1 lW2
         subst hTl
         generalize hV5:World.setCell w5 ⟨m.br,5,none⟩ (.slice (some ⟨g5,0,none⟩) (d.opn.length+1) c5)=V at HDX HCX HLX HLY⊢
         clear hV5
         go_wp2_with fail
         have r0:=HLY.out.c0
         have r1:=HLY.out.p0
         rw [hb1',hb2'] at r0
         rw [hb2'] at r1
         have r2:=HLY.out.tc
         obtain ⟨x0,x1,x2,x3,x4,x5,x6,x7,x8,x9,x10,x11,x12,x13⟩:=HLY.out.x.all
         have lW0:m.br<V.heap.size:=blt r0
         have lW1:m.bp<V.heap.size:=blt r1
         have lW2:gt'<V.heap.size:=blt r2
         have lW3:w2.heap.size<V.heap.size:=blt x0
         have HWB:Hid (∀c:Array Value,Below V.heap.size V (V.drew.alloc (.cells c 77))):=hid λc=>(Qi _ V).alloc (Nat.le_refl _) _
         refine wp_region_held_drew (S:=(λw'=>w'.cell? ⟨m.br,0,none⟩=some (ptr m.bp)/\w'.cell? ⟨m.bp,0,none⟩=some (.slice (some ⟨gt',0,none⟩) (tl.length+1) ct')/\w'.cell? ⟨w2.heap.size,0,none⟩=some (.int .u8 108)/\w'.cell? ⟨w2.heap.size,1,none⟩=some (.int .i64 X.v)/\w'.cell? ⟨w2.heap.size,2,none⟩=some (.string X.op)/\w'.cell? ⟨w2.heap.size,3,none⟩=some (.bool X.al)/\w'.cell? ⟨w2.heap.size,4,none⟩=some (.int .i64 X.av)/\w'.cell? ⟨w2.heap.size,5,none⟩=some (.bool X.bl)/\w'.cell? ⟨w2.heap.size,6,none⟩=some (.int .i64 X.bv)/\w'.cell? ⟨w2.heap.size,7,none⟩=some (.bool X.tl)/\w'.cell? ⟨w2.heap.size,8,none⟩=some (.int .i64 X.tv)/\w'.cell? ⟨w2.heap.size,9,none⟩=some (.int .i64 X.fi)/\w'.cell? ⟨w2.heap.size,10,none⟩=some (.int .i64 X.si)/\w'.cell? ⟨w2.heap.size,11,none⟩=some (.int .i64 X.to)/\w'.cell? ⟨w2.heap.size,12,none⟩=some (.int .i64 X.n)/\w'.cell? ⟨w2.heap.size,13,none⟩=some (.int .i64 (d.opn.length:Int)))) yak ?_ (λhHeld=>?_)
         ·exact z8j
         refine Qa 0 (h:=Qa 1 (h:=Qa 2 (h:=Qa 3 (h:=Qa 4 (h:=Qa 5 (h:=Qa 6 (h:=Qa 7 (h:=Qa 8 (h:=Qa 9 (h:=Qa 10 (h:=Qa 11 (h:=Qa 12 (h:=Qa 13 (h:=Qa 14 (h:=Qa 15 (h:=Qa 16 (h:=Qa 18 (h:=?_))))))))))))))))))
         refine tr [17,19] (.cons rfl (λKQ hKQ=>?_) (.cons rfl (λKQ hKQ=>?_) .nil))
         go_simp
         refine hKQ.out _ _ ?_ (λhHeld=>?_)
         ·(try dsimp only);exact hHeld
         clear hKQ KQ
         refine tr [19] (.cons rfl (λKQ hKQ=>?_) .nil)
         go_simp
         rotate_left
         go_simp
         refine hKQ.out _ _ ?_ (λhHeld=>?_)
         ·(try dsimp only);go_keep
         clear hKQ KQ
         refine tr [17] (.cons rfl (λKQ hKQ=>?_) .nil)
         go_simp
         rotate_left
         all_goals
          refine hKQ.out _ _ ?_ (λhHeld=>?_)
          ·(try dsimp only);go_keep
          clear hKQ KQ
          refine tr [20] (.cons rfl (λKQ hKQ=>?_) .nil)
          (refine Je rfl (.tmp 241) (.tmp 243) 59 rfl 77 i0 _ 14 120 yal Tryz.underlying59 hi0 hz0 hz1 hz2 rfl t.nv N.length t.xs rfl (HLY.out.below (HWB.out _)).row ⟨V.heap.size,0,none⟩ ({X with k:=108,dp:=(d.opn.length:Int)}:XV).cells rfl rfl (Fu _ _ _) ycl hl1 hl2 ?_;intro g cp w3 ho hch hg;have H9:=hid (HLX.out.lay HDX.out HLY.out (HWB.out _) ho hch hg);have mm:=HLY.out.mid (HWB.out _) hch;rw [hb1',hb2'] at mm;have f1:=mm.2.2.1;have f2:=mm.2.2.2.1;have HS9:=hid (And.intro mm.1 (And.intro mm.2.1 mm.2.2.2.2.all));have HC9:=hid ((HCX.out.then (Chg.of_below (M:=λ_ _=>False) (HWB.out _)) (λ_ _ _ e=>e.elim)).then hch (λk j hk e=>HOW.out k e));clear ho hch hg mm)
          refine hKQ.out _ _ ?_ (λhHeld=>?_)
          ·(try dsimp only);exact HS9.out
          clear hKQ KQ
          refine Qa 21 (h:=?_)
          refine tr [22] (.cons rfl (λKQ hKQ=>?_) .nil)
          go_simp
          refine hKQ.out _ _ ?_ (λhHeld=>?_)
          ·exact z7f
          clear hKQ KQ
          refine wpAnyH_done yak ?_ _
          go_wp2
          go_ret
          have hst: ¬d.stmts=14:=yai
          unfold zbg
          dsimp only
          rw [if_neg hst,if_neg h3]
          refine ⟨HC9.out.setCell (λ_=>HGD.out) _,rfl,?_⟩
          obtain ⟨lab9,m9,a1,a2,h9⟩:=H9.out
          refine ⟨lab9,m9,a1.trans hb1',a2.trans hb2',?_⟩
          have h10:=h9.restrict (D':=D) (λk _ hk=>hk.1)
          rw [show ({d1 with stmts:=d.stmts+1,opn:=d.opn++[N.length]}:DR).thr=d.thr from HT1.out] at h10
          exact h10
end
end Go.Proofs.YtphcopbffecceaaGreatDoor
