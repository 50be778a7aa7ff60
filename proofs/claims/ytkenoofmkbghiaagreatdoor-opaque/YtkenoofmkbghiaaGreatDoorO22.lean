import Derived.Test.YtkenoofmkbghiaaGreatDoorO20
import Derived.Test.YtkenoofmkbghiaaGreatDoorO21
set_option maxRecDepth 100000
set_option maxHeartbeats 4000000
namespace Go.Proofs.YtkenoofmkbghiaaGreatDoor
open Go.RowKit
variable{b b0 b1 b2 b3 b4 b5:Bool}{a:PV}{G bx j k o tk:Nat}{l:List Bool}{of to:ByteArray}{f:Nat->Ck->Ck}{v:Value}{n:Int}
section
variable{w:World}{c:Nat}
theorem z2p(w:World)(b0 b1 b2 b3 b4 b5:Bool):(Instr.index 283 (.agg #[.bool b0, .bool b1, .bool b2, .bool b3, .bool b4, .bool b5]) (.int .i64 ((0:Nat):Int))).run Tryz.prog w= .ok (.bool b0) w:=yuo
theorem z2q(w:World)(b0 b1 b2 b3 b4 b5:Bool):(Instr.index 283 (.agg #[.bool b0, .bool b1, .bool b2, .bool b3, .bool b4, .bool b5]) (.int .i64 ((1:Nat):Int))).run Tryz.prog w= .ok (.bool b1) w:=yuo
theorem z2r(w:World)(b0 b1 b2 b3 b4 b5:Bool):(Instr.index 283 (.agg #[.bool b0, .bool b1, .bool b2, .bool b3, .bool b4, .bool b5]) (.int .i64 ((2:Nat):Int))).run Tryz.prog w= .ok (.bool b2) w:=yuo
theorem z2s(w:World)(b0 b1 b2 b3 b4 b5:Bool):(Instr.index 283 (.agg #[.bool b0, .bool b1, .bool b2, .bool b3, .bool b4, .bool b5]) (.int .i64 ((3:Nat):Int))).run Tryz.prog w= .ok (.bool b3) w:=yuo
theorem z2t(w:World)(b0 b1 b2 b3 b4 b5:Bool):(Instr.index 283 (.agg #[.bool b0, .bool b1, .bool b2, .bool b3, .bool b4, .bool b5]) (.int .i64 ((4:Nat):Int))).run Tryz.prog w= .ok (.bool b4) w:=yuo
theorem z2u(w:World)(b0 b1 b2 b3 b4 b5:Bool):(Instr.index 283 (.agg #[.bool b0, .bool b1, .bool b2, .bool b3, .bool b4, .bool b5]) (.int .i64 ((5:Nat):Int))).run Tryz.prog w= .ok (.bool b5) w:=yuo
theorem z54(w:World)(k:Nat)(hk:k<6)(hb:[b0,b1,b2,b3,b4,b5][k]?=some b):(Instr.index 283 (.agg #[.bool b0, .bool b1, .bool b2, .bool b3, .bool b4, .bool b5]) (.int .i64 k)).run Tryz.prog w= .ok (.bool b) w:=by
 have:k=0\/k=1\/k=2\/k=3\/k=4\/k=5:=yum
 rcases this with rfl|rfl|rfl|rfl|rfl|rfl<;>(simp at hb;subst hb)
 ·exact z2p w _ _ _ _ _ _
 ·exact z2q w _ _ _ _ _ _
 ·exact z2r w _ _ _ _ _ _
 ·exact z2s w _ _ _ _ _ _
 ·exact z2t w _ _ _ _ _ _
 ·exact z2u w _ _ _ _ _ _
theorem z2v(w:World)(b0 b1 b2 b3:Bool):(Instr.index 284 (.agg #[.bool b0, .bool b1, .bool b2, .bool b3]) (.int .i64 ((0:Nat):Int))).run Tryz.prog w= .ok (.bool b0) w:=yuo
theorem z2w(w:World)(b0 b1 b2 b3:Bool):(Instr.index 284 (.agg #[.bool b0, .bool b1, .bool b2, .bool b3]) (.int .i64 ((1:Nat):Int))).run Tryz.prog w= .ok (.bool b1) w:=yuo
theorem z2x(w:World)(b0 b1 b2 b3:Bool):(Instr.index 284 (.agg #[.bool b0, .bool b1, .bool b2, .bool b3]) (.int .i64 ((2:Nat):Int))).run Tryz.prog w= .ok (.bool b2) w:=yuo
theorem z2y(w:World)(b0 b1 b2 b3:Bool):(Instr.index 284 (.agg #[.bool b0, .bool b1, .bool b2, .bool b3]) (.int .i64 ((3:Nat):Int))).run Tryz.prog w= .ok (.bool b3) w:=yuo
theorem z59(w:World)(k:Nat)(hk:k<4)(hb:[b0,b1,b2,b3][k]?=some b):(Instr.index 284 (.agg #[.bool b0, .bool b1, .bool b2, .bool b3]) (.int .i64 k)).run Tryz.prog w= .ok (.bool b) w:=by
 have:k=0\/k=1\/k=2\/k=3:=yum
 rcases this with rfl|rfl|rfl|rfl<;>(simp at hb;subst hb)
 ·exact z2v w _ _ _ _
 ·exact z2w w _ _ _ _
 ·exact z2x w _ _ _ _
 ·exact z2y w _ _ _ _
theorem z2z(hent: ∀args w,(callFunc tk args).run Tryz.prog w= .ok (.enter tk args) w)(J:Nat->World->Prop)
  (KC:Hid (∀k wr,k<6->[b0,b1,b2,b3,b4,b5][k]?=some true->J k wr->Cl tk #[ptr c, .int .i64 k] wr λe w'=>e= .returned (.tuple #[])/\J (k+1) w'))
  (KN:Hid (∀k wr,k<6->[b0,b1,b2,b3,b4,b5][k]?=some false->J k wr->J (k+1) wr)) (hJ:Hid (∀o,J 0 (w.alloc o))):
  Cl 158 #[.agg #[.bool b0, .bool b1, .bool b2, .bool b3, .bool b4, .bool b5], .func (.func tk) #[ptr c] #[]] w λe w'=>e= .returned (.tuple #[])/\J 6 w':=by
 go_enter Tryz.func158,Tryz.ntmps158
 go_wp2
 go_loopw [7] (λv7 wr=>∃k:Nat,k<=6/\v7= .int .i64 k/\Hid (J k wr)) (λv7 _=>6- (intOf v7).toNat)
 case atStart=>exact ⟨0,Nat.zero_le _,rfl,hid (hJ.out _)⟩
 case round=>exact yr1
theorem z20(hent: ∀args w,(callFunc tk args).run Tryz.prog w= .ok (.enter tk args) w)(J:Nat->World->Prop)
  (KC:Hid (∀k wr,k<6->[b0,b1,b2,b3,b4,b5][k]?=some true->J k wr->Cl tk #[.int .i64 k,ptr c] wr λe w'=>e= .returned (.tuple #[])/\J (k+1) w'))
  (KN:Hid (∀k wr,k<6->[b0,b1,b2,b3,b4,b5][k]?=some false->J k wr->J (k+1) wr)) (hJ:Hid (∀o,J 0 (w.alloc o))):
  Cl 158 #[.agg #[.bool b0, .bool b1, .bool b2, .bool b3, .bool b4, .bool b5], .func (.func tk) #[] #[ptr c]] w λe w'=>e= .returned (.tuple #[])/\J 6 w':=by
 go_enter Tryz.func158,Tryz.ntmps158
 go_wp2
 go_loopw [7] (λv7 wr=>∃k:Nat,k<=6/\v7= .int .i64 k/\Hid (J k wr)) (λv7 _=>6- (intOf v7).toNat)
 case atStart=>exact ⟨0,Nat.zero_le _,rfl,hid (hJ.out _)⟩
 case round=>exact yr1
theorem zq2(hent: ∀args w,(callFunc tk args).run Tryz.prog w= .ok (.enter tk args) w)(J:Nat->World->Prop){b:Nat}(c0:w.cell? ⟨b,12,none⟩=some (.bool b0))(c1:w.cell? ⟨b,13,none⟩=some (.bool b1))(c2:w.cell? ⟨b,14,none⟩=some (.bool b2))(c3:w.cell? ⟨b,15,none⟩=some (.bool b3))
  (KC:Hid (∀k wr,k<4->[b0,b1,b2,b3][k]?=some true->J k wr->Cl tk #[.int .i64 k,ptr c] wr λe w'=>e= .returned (.tuple #[])/\J (k+1) w'))
  (KN:Hid (∀k wr,k<4->[b0,b1,b2,b3][k]?=some false->J k wr->J (k+1) wr)) (hJ:Hid (J 0 w)):
  Cl 154 #[ptr b, .func (.func tk) #[] #[ptr c]] w λe w'=>e= .returned (.tuple #[])/\J 4 w':=by
 go_enter Tryz.func154,Tryz.ntmps154
 go_wp2
 go_loopw [10] (λv7 wr=>∃k:Nat,k<=4/\v7= .int .i64 k/\Hid (J k wr)) (λv7 _=>4- (intOf v7).toNat)
 case atStart=>exact ⟨0,Nat.zero_le _,rfl,hid (hJ.out)⟩
 case round=>
  obtain ⟨k,hk,rfl,hB⟩:=hrel
  by_cases hlt:k<4
  ·have hlt':(k:Int)<4:=by omega
   have C1:=hid (KC.out k wr hlt)
   have C2:=hid (KN.out k wr hlt)
   have hs: ∃b,[b0,b1,b2,b3][k]?=some b:=⟨_,List.getElem?_eq_getElem hlt⟩
   obtain ⟨b,hb⟩:=hs
   have hix:=z59 wr k hlt hb
   have hw1:wrap64 ((k:Int)+1)=((k+1:Nat):Int):=yut
   rw [hb] at C1 C2
   clear KC KN
   cases b with
   |true=>
    have D1:=hid (C1.out rfl hB.out)
    clear C1 C2
    go_wp2_with fail
    refine D1.out.mono ?_
    rintro e w1 ⟨rfl,h1⟩
    have H1:=hid h1
    clear h1 D1
    go_wp2
    go_roundw
    case rel=>exact ⟨k+1,by omega,by go_num,H1⟩
    case measure=>simp [intOf];omega
   |false=>
    have H1:=hid (C2.out rfl hB.out)
    clear C1 C2
    go_wp2
    go_roundw
    case rel=>exact ⟨k+1,by omega,by go_num,H1⟩
    case measure=>simp [intOf];omega
  ·have hlt': ¬(k:Int)<4:=by omega
   have hk6:k=4:=yum
   rw [hk6] at hB
   go_wp2
   go_end0
   exact ⟨rfl,hB.out⟩
end
def Bk.sim(a b:Bk):Prop:=b.gets=a.gets/\b.puts=a.puts/\b.chgs=a.chgs/\b.gives=a.gives/\b.again=a.again
theorem Bk.sim.refl(a:Bk):a.sim a:=⟨rfl,rfl,rfl,rfl,rfl⟩
theorem Bk.sim.trans{a b c:Bk}(h:a.sim b)(k:b.sim c):a.sim c:=⟨k.1.trans h.1,k.2.1.trans h.2.1,k.2.2.1.trans h.2.2.1,k.2.2.2.1.trans h.2.2.2.1,k.2.2.2.2.trans h.2.2.2.2⟩
theorem zfk(f:Nat->Ck->Ck)(b:Bool): ∀(l:List Bool) (i:Nat) (s:Ck),Qn f (l++[b]) i s=if b=true then f (i+l.length) (Qn f l i s) else Qn f l i s
 |[],i,s=>by simp [Qn]
 |a::r,i,s=>by
  show Qn f (r++[b]) (i+1) _=_
  rw [zfk f b r (i+1)]
  simp only [Qn,List.length_cons]
  rw [show i+1+r.length=i+(r.length+1) from by omega]
structure Fair(G:Nat)(f:Nat->Ck->Ck):Prop where
 g: ∀i s,(f i s).g<=s.g+G
 l: ∀i s,s.L.length<=(f i s).L.length
 b: ∀i s k,s.blk=some k->∃k',(f i s).blk=some k'/\k.sim k'
theorem Fair.eachG(h:Fair G f): ∀(l:List Bool) (i:Nat) (s:Ck),(Qn f l i s).g<=s.g+l.length*G
 |[],_,s=>by simp [Qn]
 |a::r,i,s=>by
  have ih:=h.eachG r (i+1) (if a=true then f i s else s)
  have h1:=h.g i s
  have e:(r.length+1)*G=r.length*G+G:=by rw [Nat.add_mul,Nat.one_mul]
  simp only [Qn,List.length_cons,e]
  by_cases ha:a=true
  ·rw [if_pos ha] at ih⊢;omega
  ·rw [if_neg ha] at ih⊢;omega
theorem Fair.eachL(h:Fair G f): ∀(l:List Bool) (i:Nat) (s:Ck),s.L.length<=(Qn f l i s).L.length
 |[],_,s=>by simp [Qn]
 |a::r,i,s=>by
  have ih:=h.eachL r (i+1) (if a=true then f i s else s)
  have h1:=h.l i s
  simp only [Qn]
  by_cases ha:a=true
  ·rw [if_pos ha] at ih⊢;omega
  ·rw [if_neg ha] at ih⊢;omega
theorem Fair.eachK(h:Fair G f): ∀(l:List Bool) (i:Nat) (s:Ck) (k:Bk),s.blk=some k->∃k',(Qn f l i s).blk=some k'/\k.sim k'
 |[],_,s,k,hk=>⟨k,hk,Bk.sim.refl k⟩
 |a::r,i,s,k,hk=>by
  simp only [Qn]
  by_cases ha:a=true
  ·obtain ⟨k1,h1,s1⟩:=h.b i s k hk
   rw [if_pos ha]
   obtain ⟨k2,h2,s2⟩:=h.eachK r (i+1) (f i s) k1 h1
   exact ⟨k2,h2,s1.trans s2⟩
  ·rw [if_neg ha]
   exact h.eachK r (i+1) s k hk
theorem zq3(h:l[k]?=some b):l.take (k+1)=l.take k++[b]:=by
 rw [List.take_add_one,h];rfl
theorem zc3(h:l[k]?=some b):(l.take k).length=k:=by
 have:=(List.getElem?_eq_some_iff.1 h).1
 simp;omega
section
variable{W w w':World}{x:Cx}{K:List (Nat×Nat×Value)}{c:Nat}{s:Ck}
theorem Fl(f:Nat->Ck->Ck)(h:l[k]?=some b):Qn f (l.take (k+1)) 0 s=if b=true then f k (Qn f (l.take k) 0 s) else Qn f (l.take k) 0 s:=by
 rw [zq3 h,zfk,zc3 h,Nat.zero_add]
theorem zgk(f:Nat->Ck->Ck)(hF:Fair G f)(hent: ∀args w,(callFunc tk args).run Tryz.prog w= .ok (.enter tk args) w)
  (KC: ∀(i:Nat) (w:World) (s:Ck) (k:Bk),i<6->Cw W x K w c s->s.blk=some k->s.g+100<10000000->Cl tk #[ptr c, .int .i64 i] w λe w'=>e= .returned (.tuple #[])/\Cw W x K w' c (f i s))
  (h:Cw W x K w c s) {k:Bk} (hk:s.blk=some k) (hG:s.g+6*G+100<10000000):
  Cl 158 #[.agg #[.bool b0, .bool b1, .bool b2, .bool b3, .bool b4, .bool b5], .func (.func tk) #[ptr c] #[]] w λe w'=>e= .returned (.tuple #[])/\Cw W x K w' c (Qn f [b0,b1,b2,b3,b4,b5] 0 s):=by
 refine z2z hent (λn w=>Cw W x K w c (Qn f ([b0,b1,b2,b3,b4,b5].take n) 0 s)) (hid λi wr hi hb hc=>?_) (hid λi wr hi hb hc=>?_) (hid λo=>h.alloc o)
 ·exact ysa
 ·show Cw W x K wr c (Qn f ([b0,b1,b2,b3,b4,b5].take (i+1)) 0 s)
  rw [Fl f hb]
  exact hc
theorem zq4(f:Nat->Ck->Ck)(hF:Fair G f)(hent: ∀args w,(callFunc tk args).run Tryz.prog w= .ok (.enter tk args) w)
  (KC: ∀(i:Nat) (w:World) (s:Ck) (k:Bk),i<6->Cw W x K w c s->s.blk=some k->s.g+100<10000000->Cl tk #[.int .i64 i,ptr bx] w λe w'=>e= .returned (.tuple #[])/\Cw W x K w' c (f i s))
  (h:Cw W x K w c s) {k:Bk} (hk:s.blk=some k) (hG:s.g+6*G+100<10000000):
  Cl 158 #[.agg #[.bool b0, .bool b1, .bool b2, .bool b3, .bool b4, .bool b5], .func (.func tk) #[] #[ptr bx]] w λe w'=>e= .returned (.tuple #[])/\Cw W x K w' c (Qn f [b0,b1,b2,b3,b4,b5] 0 s):=by
 refine z20 hent (λn w=>Cw W x K w c (Qn f ([b0,b1,b2,b3,b4,b5].take n) 0 s)) (hid λi wr hi hb hc=>?_) (hid λi wr hi hb hc=>?_) (hid λo=>h.alloc o)
 ·exact ysa
 ·show Cw W x K wr c (Qn f ([b0,b1,b2,b3,b4,b5].take (i+1)) 0 s)
  rw [Fl f hb]
  exact hc
theorem zfl(f:Nat->Ck->Ck)(hF:Fair G f){b:Nat}(hent: ∀args w,(callFunc tk args).run Tryz.prog w= .ok (.enter tk args) w)
  (c0:w.cell? ⟨b,12,none⟩=some (.bool b0)) (c1:w.cell? ⟨b,13,none⟩=some (.bool b1)) (c2:w.cell? ⟨b,14,none⟩=some (.bool b2)) (c3:w.cell? ⟨b,15,none⟩=some (.bool b3))
  (KC: ∀(i:Nat) (w:World) (s:Ck) (k:Bk),i<4->Cw W x K w c s->s.blk=some k->s.g+100<10000000->Cl tk #[.int .i64 i,ptr bx] w λe w'=>e= .returned (.tuple #[])/\Cw W x K w' c (f i s))
  (h:Cw W x K w c s) {k:Bk} (hk:s.blk=some k) (hG:s.g+4*G+100<10000000):
  Cl 154 #[ptr b, .func (.func tk) #[] #[ptr bx]] w λe w'=>e= .returned (.tuple #[])/\Cw W x K w' c (Qn f [b0,b1,b2,b3] 0 s):=by
 refine zq2 hent (λn w=>Cw W x K w c (Qn f ([b0,b1,b2,b3].take n) 0 s)) c0 c1 c2 c3 (hid λi wr hi hb hc=>?_) (hid λi wr hi hb hc=>?_) (hid h)
 ·obtain ⟨k',hk',_⟩:=hF.eachK ([b0,b1,b2,b3].take i) 0 s k hk
  have hg:=hF.eachG ([b0,b1,b2,b3].take i) 0 s
  rw [zc3 hb] at hg
  have:i*G<=4*G:=Nat.mul_le_mul_right _ yum
  refine (KC i wr _ k' hi hc hk' yum).mono ?_
  rintro e w' ⟨he,h'⟩
  refine ⟨he,?_⟩
  show Cw W x K w' c (Qn f ([b0,b1,b2,b3].take (i+1)) 0 s)
  rw [Fl f hb]
  exact h'
 ·show Cw W x K wr c (Qn f ([b0,b1,b2,b3].take (i+1)) 0 s)
  rw [Fl f hb]
  exact hc
theorem zn9(h:l.length=6): ∃b0 b1 b2 b3 b4 b5,l=[b0,b1,b2,b3,b4,b5]:=by
 match l,h with
 |[a,b,c,d,e,f],_=>exact ⟨a,b,c,d,e,f,rfl⟩
theorem z48(h:l.length=4): ∃b0 b1 b2 b3,l=[b0,b1,b2,b3]:=by
 match l,h with
 |[a,b,c,d],_=>exact ⟨a,b,c,d,rfl⟩
structure BkCells(w:World)(b:Nat)(k:Bk):Prop where
 g: ∀(i:Nat) v,k.gets[i]?=some v->w.cell? ⟨b,i,none⟩=some (.bool v)
 p: ∀(i:Nat) v,k.puts[i]?=some v->w.cell? ⟨b,6+i,none⟩=some (.bool v)
 ch: ∀(i:Nat) v,k.chgs[i]?=some v->w.cell? ⟨b,12+i,none⟩=some (.bool v)
 gv:w.cell? ⟨b,16,none⟩=some (.bool k.gives)
 ag:w.cell? ⟨b,17,none⟩=some (.int .i64 k.again)
 n1:k.gets.length=6
 n2:k.puts.length=6
 n3:k.chgs.length=4
theorem Cw.cells(h:Cw W x K w c s){k:Bk}(hk:s.blk=some k): ∃b,w.cell? ⟨c,5,none⟩=some (ptr b)/\BkCells w b k:=by
 obtain ⟨m,h⟩:=h
 have hb:=h.bk k hk
 refine ⟨m.b,?_,⟨hb.g,hb.p,hb.ch,hb.gv,hb.ag,hb.n1,hb.n2,hb.n3⟩⟩
 rw [h.c5]
 simp only [zjz,hk]
end
section
variable{W w w':World}{x:Cx}{K:List (Nat×Nat×Value)}{m:Cm}{c:Nat}{s:Ck}
theorem Ye(ws:Nat->List ByteArray):Fair 1 (λi s=>s.add (ws i)):=
 ⟨λ_ _=>Nat.le_refl _,λi s=>by rw [Qx];omega,λ_ _ k hk=>⟨k,hk,Bk.sim.refl k⟩⟩
theorem Id(x:Cx):Fair 9 (λi=>x.lockC i):=
 ⟨λi s=>Nat.le_refl (s.g+9),λi s=>by simp only [Cx.lockC,Qx,Vv,Ur];omega,λi s k hk=>⟨_,rfl,by simp [Bk.sim,Ck.bk,Ck.add,Ck.undoIf,hk]⟩⟩
theorem Ie(x:Cx):Fair 6 (λi=>x.lookC i):=
 ⟨λi s=>Nat.le_refl (s.g+6),λi s=>by simp only [Cx.lookC,Qx,Vv,Ur,Sr];omega,λi s k hk=>⟨_,rfl,by simp [Bk.sim,Ck.bk,Ck.add,Zu,hk]⟩⟩
theorem Fm(x:Cx):Fair 6 (λi=>x.storeC i):=
 ⟨λi s=>Nat.le_refl (s.g+6),λi s=>by simp only [Cx.storeC,Qx,Vv];omega,λ_ _ k hk=>⟨k,hk,Bk.sim.refl k⟩⟩
theorem Xj(x:Cx):Fair 6 (λi=>x.unlockC i):=
 ⟨λi s=>Nat.le_refl (s.g+6),λi s=>by simp only [Cx.unlockC,Qx,Vv];omega,λ_ _ k hk=>⟨k,hk,Bk.sim.refl k⟩⟩
theorem zz5: ∀args w,(callFunc 161 args).run Tryz.prog w= .ok (.enter 161 args) w:=λ_ _=>by kernel_rfl
theorem zz6: ∀args w,(callFunc 162 args).run Tryz.prog w= .ok (.enter 162 args) w:=λ_ _=>by kernel_rfl
theorem zvt: ∀args w,(callFunc 163 args).run Tryz.prog w= .ok (.enter 163 args) w:=λ_ _=>by kernel_rfl
theorem zq5: ∀args w,(callFunc 177 args).run Tryz.prog w= .ok (.enter 177 args) w:=λ_ _=>by kernel_rfl
theorem z49: ∀args w,(callFunc 155 args).run Tryz.prog w= .ok (.enter 155 args) w:=λ_ _=>by kernel_rfl
theorem z5a: ∀args w,(callFunc 156 args).run Tryz.prog w= .ok (.enter 156 args) w:=λ_ _=>by kernel_rfl
theorem z5b: ∀args w,(callFunc 159 args).run Tryz.prog w= .ok (.enter 159 args) w:=λ_ _=>by kernel_rfl
theorem z5c: ∀args w,(callFunc 160 args).run Tryz.prog w= .ok (.enter 160 args) w:=λ_ _=>by kernel_rfl
theorem If: ∀(ns:List Nat) (s:Ck),(s.lands ns).g=s.g+ns.length
 |[],_=>rfl
 |n::r,s=>by
  show ((s.land n).lands r).g=_
  rw [If r]
  simp [Ck.land];omega
theorem zhq: ∀(ns:List Nat) (s:Ck),(s.lands ns).L.length=s.L.length
 |[],_=>rfl
 |n::r,s=>by
  show ((s.land n).lands r).L.length=_
  rw [zhq r,Vv]
theorem Ig: ∀(ns:List Nat) (s:Ck),(s.lands ns).blk=s.blk
 |[],_=>rfl
 |n::r,s=>by
  show ((s.land n).lands r).blk=_
  rw [Ig r];rfl
theorem zq6: ∀(ns:List Nat) (s:Ck),(s.lands ns).T=s.T
 |[],_=>rfl
 |n::r,s=>by
  show ((s.land n).lands r).T=_
  rw [zq6 r];rfl
theorem zfm(ns:List Nat)(n:Nat)(s:Ck):s.lands (ns++[n])=(s.lands ns).land n:=by simp [Ck.lands,List.foldl_append]
theorem zl7{F:List Value}{N:List Nat}{i:Nat}(ho:w.ownsRow 0 1 1 v N.length F)(hl:Leaps m.lab w c F N)(hi:i<N.length):
  ∃g cap bl ba,v= .slice (some ⟨g,0,none⟩) N.length cap/\w.cell? ⟨g,i,none⟩=some (zcx bl ba)/\(bl<w.heap.size/\m.lab bl=0/\w.cell? ⟨bl,0,none⟩=some (ptr c))/\(ba<w.heap.size/\m.lab ba=0/\w.cell? ⟨ba,0,none⟩=some (.int .i64 N[i])):=by
 have hF:i<F.length:=by rw [hl.1];exact hi
 obtain ⟨bl,ba,e,h1,h2⟩:=hl.2 i F[i] N[i] (List.getElem?_eq_getElem hF) (List.getElem?_eq_getElem hi)
 rcases ho.2 with ⟨_,e'⟩|⟨g,cap,cur,e',_⟩
 ·omega
 ·have hc:=ho.cells (g:=g) (by rw [e'];rfl)
  have e1:=hc i F[i] (List.getElem?_eq_getElem hF)
  have e2:(⟨g,0,none⟩:Addr).add i=⟨g,i,none⟩:=by cases i<;>simp [Addr.add]
  rw [e2] at e1
  exact ⟨g,cap,bl,ba,e',by rw [e1,e],h1,h2⟩
theorem z21(h:Cw W x K w c s){k:Bk}(hk:s.blk=some k)(hA:k.again<100000000)(hG:s.g+k.undo.length+200<10000000):
  Cl 164 #[ptr c] w λe w'=>e= .returned (.tuple #[])/\Cw W x K w' c (x.undoC s):=by
 obtain ⟨m,hm⟩:=h
 have hb:=hm.bk k hk
 obtain ⟨p0,p1,p2,p3,p4,p5,hp⟩:=zn9 hb.n2
 have hR:x.undoC s=(Qn (λi=>x.unlockC i) [p0,p1,p2,p3,p4,p5] 0 (s.lands k.undo)).back k.again:=by simp only [Cx.undoC,Sq hk,hp]
 rw [hR]
 have c5:w.cell? ⟨c,5,none⟩=some (ptr m.b):=by rw [hm.c5];simp only [zjz,hk]
 have c18:=hb.un
 obtain ⟨ua,uk,huv⟩:=zc2 hb.urow
 rw [huv] at c18
 have H0:=hid hm
 clear hm hb hR
 go_enter Tryz.func164,Tryz.ntmps164
 go_wp2
 go_loopw [12] (λv12 wr=>∃i:Nat,i<=k.undo.length/\v12= .int .i64 i/\Hid (Cd W x K m wr c (s.lands (k.undo.take i)))) (λv12 _=>k.undo.length- (intOf v12).toNat)
 case atStart=>exact ⟨0,Nat.zero_le _,rfl,H0⟩
 case round=>
  obtain ⟨i,hi,rfl,hB⟩:=hrel
  by_cases hlt:i<k.undo.length
  ·have hlt':(i:Int)<(k.undo.length:Int):=by omega
   have hi0:(0:Int)<=(i:Int):=yum
   have hb:=hB.out.bk k ((Ig _ _).trans hk)
   obtain ⟨g,cap,bl,ba,e1,e2,h1,h2⟩:=zl7 hb.urow hb.ul hlt
   rw [huv] at e1
   injection e1 with e3 _ e4
   subst e3 e4
   have hun:=(hB.out.ok.u k ((Ig _ _).trans hk)).2 k.undo[i] (List.getElem_mem hlt)
   have D1:=hid (zq0 hB.out h1 h2 hun (by rw [If];simp;omega))
   have hs:(s.lands (k.undo.take i)).land k.undo[i]=s.lands (k.undo.take (i+1)):=by
    rw [<-zfm,List.take_add_one,List.getElem?_eq_getElem hlt];rfl
   rw [hs] at D1
   clear hb h1 h2 hun hs
   go_wp2_with fail
   refine D1.out.mono ?_
   rintro e w1 ⟨rfl,q⟩
   have H1:=hid q
   clear q D1
   go_wp2
   go_roundw
   case rel=>exact ⟨i+1,by omega,by go_num,H1⟩
   case measure=>simp [intOf];omega
  ·have hlt': ¬(i:Int)<(k.undo.length:Int):=by omega
   have hie:i=k.undo.length:=yum
   rw [hie,List.take_length] at hB
   have hk2:(s.lands k.undo).blk=some k:=(Ig _ _).trans hk
   have hb:=hB.out.bk k hk2
   have d5:wr.cell? ⟨c,5,none⟩=some (ptr m.b):=by rw [hB.out.c5];simp only [zjz,hk2]
   have g0:=hb.p 0 p0 yuv
   have g1:=hb.p 1 p1 yuv
   have g2:=hb.p 2 p2 yuv
   have g3:=hb.p 3 p3 yuv
   have g4:=hb.p 4 p4 yuv
   have g5:=hb.p 5 p5 yuv
   simp only [Nat.reduceAdd] at g0 g1 g2 g3 g4 g5
   have hmf: ∀(fn:Fn) (first cap:Array Value) (w:World),(Instr.makeFunc fn first cap).run Tryz.prog w= .ok (.func fn first cap) w:=λ_ _ _ _=>rfl
   clear hb
   go_wp2_with fail
   refine (zgk (λi=>x.unlockC i) (Xj x) zq5 (λi w s k hi h hk hG=>zvk h yum yum hG) ⟨m,hB.out⟩ hk2 (by rw [If];omega)).mono ?_
   rintro e w2 ⟨rfl,q⟩
   obtain ⟨k',hk',hsim⟩:=(Xj x).eachK [p0,p1,p2,p3,p4,p5] 0 (s.lands k.undo) k hk2
   have hg:=(Xj x).eachG [p0,p1,p2,p3,p4,p5] 0 (s.lands k.undo)
   rw [If] at hg
   obtain ⟨b',d5',dc⟩:=q.cells hk'
   have d17:=dc.ag
   rw [hsim.2.2.2.2] at d17
   have H2:=hid q
   clear q dc d5 g0 g1 g2 g3 g4 g5
   go_wp2_with fail
   go_region_law (first|(go_simp;go_at_call 141;refine (zq1 H2.out.drew (n:=k.again) hA (by simp only [List.length_cons,List.length_nil] at hg;omega)).mono ?_;rintro e w3 ⟨rfl,q⟩;have H3:=hid q;clear q))
   all_goals
    go_wp2
    go_end0
    exact ⟨rfl,H3.out⟩
end
section
variable{W w w':World}{x:Cx}{K:List (Nat×Nat×Value)}{m:Cm}{c:Nat}{s:Ck}
theorem Cd.setAgain(h:Cd W x K m w c s){k:Bk}(hk:s.blk=some k)(n:Nat):
  Cd W x K m (w.setCell ⟨m.b,17,none⟩ (.int .i64 n)) c {s with blk:=some {k with again:=n}}:=by
 have lb:=h.lt
 have hb:=h.bk k hk
 have lbb:=Qd hb.sh
 have hset:Chg (λk j=>k=m.b/\j=17) w (w.setCell ⟨m.b,17,none⟩ (.int .i64 n)):=(Chg.refl _ w).setCell (λ_=>⟨rfl,rfl⟩) _
 have nk: ∀k l,m.lab k=l->l≠4->∀j,¬(k=m.b/\j=17):=λk l hk h1 j e=>h1 (by rw [<-hk,e.1];exact hb.lbk)
 have hM: ∀k j,k<w.heap.size->(k=m.b/\j=17)->m.lab k≠0:=by
  rintro k j _ ⟨rfl,_⟩
  rw [hb.lbk];omega
 have kc: ∀j,¬(c=m.b/\j=17):=nk c 1 h.lc yum
 have kb: ∀j,j≠17->(w.setCell ⟨m.b,17,none⟩ (.int .i64 n)).cell? ⟨m.b,j,none⟩=w.cell? ⟨m.b,j,none⟩:=λj hj=>hset.cell _ _ lbb (λe=>hj e.2)
 refine h.turn ⟨h.ok.l,h.ok.z,h.ok.t,h.ok.tb,λk' hk'=>?_⟩ hset (λk j hk e=>⟨hM k j hk e,λec=>(kc j (ec▸e)).elim⟩) (λ_ _=>rfl) (λk hk=>h.lz k yva) ((hset.cell _ _ lb (kc 0)).trans h.c0) ((hset.cell _ _ lb (kc 4)).trans h.c4) ?_ ((hset.cell _ _ lb (kc 6)).trans h.c6) (Qc h.lrow hset (λq hq=>nk _ _ (h.llv q hq) yum)) (Qc h.trow hset (λq hq=>nk _ _ (h.ltv q hq) yum)) (h.tl.keep hset hM λ_ _ e=>e) (λk' hk'=>?_) h.llv h.ltv
 ·cases hk';exact h.ok.u k hk
 ·rw [(hset.cell _ _ lb (kc 5)).trans h.c5]
  simp only [zjz,hk]
 ·cases hk'
  exact {
   sh:=(hset.shape _ lbb).trans hb.sh
   g:=λi v hv=>by
    have:i<6:=ywb
    exact (kb i yum).trans (hb.g i v hv)
   p:=λi v hv=>by
    have:i<6:=ywc
    exact (kb (6+i) yum).trans (hb.p i v hv)
   ch:=λi v hv=>by
    have:i<4:=ywd
    exact (kb (12+i) yum).trans (hb.ch i v hv)
   gv:=(kb 16 yum).trans hb.gv
   ag:=Qg hb.ag rfl
   un:=(kb 18 yum).trans hb.un
   free:=λj=>(hset.frozen _ _ lbb).trans (hb.free j)
   urow:=Qc hb.urow hset (λq hq=>nk _ _ (hb.luv q hq) yum)
   ul:=hb.ul.keep hset hM λ_ _ e=>e
   lbk:=hb.lbk,luv:=hb.luv,n1:=hb.n1,n2:=hb.n2,n3:=hb.n3}
theorem BkCells.below{b:Nat}{k:Bk}(h:BkCells w b k)(hb:Below w.heap.size w w'):BkCells w' b k:=by
 have lb:=blt h.gv
 have cc: ∀j,w'.cell? ⟨b,j,none⟩=w.cell? ⟨b,j,none⟩:=λj=>hb.cell (p:=⟨b,j,none⟩) lb
 exact ⟨λi v hv=>(cc _).trans (h.g i v hv),λi v hv=>(cc _).trans (h.p i v hv),λi v hv=>(cc _).trans (h.ch i v hv),(cc _).trans h.gv,(cc _).trans h.ag,h.n1,h.n2,h.n3⟩
theorem Zl(ws:Nat->List ByteArray): ∀(l:List Bool) (i:Nat) (s:Ck),(Qn (λi s=>s.add (ws i)) l i s).blk=s.blk
 |[],_,_=>rfl
 |a::r,i,s=>by
  simp only [Qn]
  rw [Zl ws r (i+1)]
  by_cases ha:a=true
  ·rw [if_pos ha];rfl
  ·rw [if_neg ha]
theorem zz7(h:Cw W x K w c s){k:Bk}(hk:s.blk=some k)(hG:s.g+1000<1000000):
  Cl 136 #[ptr c] w λe w'=>e= .returned (.tuple #[])/\Cw W x K w' c (x.begin s):=by
 obtain ⟨b0,c5,hb⟩:=h.cells hk
 obtain ⟨p0,p1,p2,p3,p4,p5,hp⟩:=zn9 hb.n2
 obtain ⟨q0,q1,q2,q3,q4,q5,hq⟩:=zn9 hb.n1
 obtain ⟨l0,l1,l2,l3,hl⟩:=z48 hb.n3
 have lb:=h.lt
 have H0:=hid (h.box [ptr c] 105)
 have HB0:=hid (hb.below ((Below.refl _ w).alloc (Nat.le_refl _) (.cells #[ptr c] 105)))
 have hmf: ∀(fn:Fn) (first cap:Array Value) (w:World),(Instr.makeFunc fn first cap).run Tryz.prog w= .ok (.func fn first cap) w:=λ_ _ _ _=>rfl
 have hR:x.begin s=(Qn (λi s=>s.add [Qh,y0,x.own (12+i),y0]) [q0,q1,q2,q3,q4,q5] 0 (Qn (λi s=>s.add [Qh,y0,x.own (6+i),y0]) [p0,p1,p2,p3,p4,p5] 0 (((Qn (λi s=>s.add [Qw,Zy i,y0,x.own (32+i)]) [l0,l1,l2,l3] 0 {Qn (λi s=>s.add [Qh,y0,x.own (32+i),Zy i]) [l0,l1,l2,l3] 0 s with blk:=some {k with again:=(Qn (λi s=>s.add [Qh,y0,x.own (32+i),Zy i]) [l0,l1,l2,l3] 0 s).L.length}}).add [Qw,yR6,y0,dec 12]).add [yjq,yR6,yR6,y1]))).add [zdp,yR7,y0]:=by
  simp only [Cx.begin,Sq hk,hp,hq,hl]
 rw [hR]
 clear h hb hR
 go_enter Tryz.func136,Tryz.ntmps136
 go_wp2_with fail
 generalize hwb:w.alloc (Obj.cells #[ptr c] 105)=wb at*
 generalize w.heap.size=bx at*
 have hbx:(bx,0,ptr c)∈Jj bx [ptr c] 0++K:=yuq
 generalize hKK:Jj bx [ptr c] 0++K=KK at*
 have hg1:=(Ye λi=>[Qh,y0,x.own (32+(i:Nat)),Zy (i:Nat)]).eachG [l0,l1,l2,l3] 0 s
 have hk1:(Qn (λi s=>s.add [Qh,y0,x.own (32+(i:Nat)),Zy (i:Nat)]) [l0,l1,l2,l3] 0 s).blk=some k:=(Zl (λi=>[Qh,y0,x.own (32+(i:Nat)),Zy (i:Nat)]) _ _ _).trans hk
 refine (zfl (λi s=>s.add [Qh,y0,x.own (32+(i:Nat)),Zy (i:Nat)]) (Ye λi=>[Qh,y0,x.own (32+(i:Nat)),Zy (i:Nat)]) z49 (HB0.out.ch 0 l0 (by rw [hl];rfl)) (HB0.out.ch 1 l1 (by rw [hl];rfl)) (HB0.out.ch 2 l2 (by rw [hl];rfl)) (HB0.out.ch 3 l3 (by rw [hl];rfl)) (λi w s k hi h hk hG=>zvl h hbx yum yum hG) H0.out hk yum).mono ?_
 rintro e w1 ⟨rfl,m1,h1⟩
 simp only [List.length_cons,List.length_nil] at hg1
 generalize hS1:Qn (λi s=>s.add [Qh,y0,x.own (32+(i:Nat)),Zy (i:Nat)]) [l0,l1,l2,l3] 0 s=S1 at*
 have hb1:=h1.bk k hk1
 have d5:w1.cell? ⟨c,5,none⟩=some (ptr m1.b):=by rw [h1.c5];simp only [zjz,hk1]
 have d17:=hb1.ag
 have f17:=hb1.free 17
 have e0:=(h1.kp _ hbx).2.2
 dsimp only at e0
 have ncb:c≠m1.b:=λe=>by have:=hb1.lbk;rw [<-e,h1.lc] at this;omega
 have nxb:bx≠m1.b:=λe=>by have:=hb1.lbk;rw [<-e,(h1.kp _ hbx).2.1] at this;omega
 have H1:=hid h1
 have kk1:(w1.setCell ⟨m1.b,17,none⟩ (.int .i64 (S1.L.length:Int))).drew.cell? ⟨bx,0,none⟩=some (ptr c):=(Qb (w:=w1) (v:= .int .i64 (S1.L.length:Int)) (.inl nxb)).trans e0
 have kk2:(w1.setCell ⟨m1.b,17,none⟩ (.int .i64 (S1.L.length:Int))).drew.cell? ⟨c,5,none⟩=some (ptr m1.b):=(Qb (w:=w1) (v:= .int .i64 (S1.L.length:Int)) (.inl ncb)).trans d5
 clear h1 hb1 c5 HB0 H0
 go_wp2_with fail
 go_region_held3 (λw'=>w'.cell? ⟨bx,0,none⟩=some (ptr c)/\w'.cell? ⟨c,5,none⟩=some (ptr m1.b)) (first|go_keep|exact ⟨kk1,kk2⟩)
  (first
   |(go_at_call 139;refine (zbu ⟨m1,H1.out.drew⟩).mono ?_;rintro e w2 ⟨rfl,rfl⟩))
 have hk2:({S1 with blk:=some {k with again:=S1.L.length}}:Ck).blk=some {k with again:=S1.L.length}:=rfl
 have H2:=hid (H1.out.drew.setAgain hk1 S1.L.length)
 generalize hW2:World.drew _=w2 at*
 have H2d:Hid (Cd W x KK m1 w2 c {S1 with blk:=some {k with again:=S1.L.length}}):=hid (by rw [<-hW2];exact H2.out)
 have H2':Hid (Cw W x KK w2 c {S1 with blk:=some {k with again:=S1.L.length}}):=hid ⟨m1,H2d.out⟩
 clear H2 hW2 d5 d17 f17 e0 H1 kk1 kk2
 have hbb:=H2d.out.bk _ hk2
 have hb:BkCells w2 m1.b _:=⟨hbb.g,hbb.p,hbb.ch,hbb.gv,hbb.ag,hbb.n1,hbb.n2,hbb.n3⟩
 clear hbb H2d
 have e0:=H2'.out.kept hbx
 have hg2:({S1 with blk:=some {k with again:=S1.L.length}}:Ck).g=S1.g:=rfl
 generalize hS2:({S1 with blk:=some {k with again:=S1.L.length}}:Ck)=S2 at*
 generalize hk':({k with again:=S1.L.length}:Bk)=k2 at*
 have hl2:k2.chgs=[l0,l1,l2,l3]:=by rw [<-hk'];exact hl
 have hp2:k2.puts=[p0,p1,p2,p3,p4,p5]:=by rw [<-hk'];exact hp
 have hq2:k2.gets=[q0,q1,q2,q3,q4,q5]:=by rw [<-hk'];exact hq
 have HB2:=hid hb
 clear hb
 have hg3:=(Ye λi=>[Qw,Zy (i:Nat),y0,x.own (32+(i:Nat))]).eachG [l0,l1,l2,l3] 0 S2
 have hk3:(Qn (λi s=>s.add [Qw,Zy (i:Nat),y0,x.own (32+(i:Nat))]) [l0,l1,l2,l3] 0 S2).blk=some k2:=(Zl (λi=>[Qw,Zy (i:Nat),y0,x.own (32+(i:Nat))]) _ _ _).trans hk2
 simp only [List.length_cons,List.length_nil] at hg3
 go_wp2_with fail
 refine (zfl (λi s=>s.add [Qw,Zy (i:Nat),y0,x.own (32+(i:Nat))]) (Ye λi=>[Qw,Zy (i:Nat),y0,x.own (32+(i:Nat))]) z5a (HB2.out.ch 0 l0 (by rw [hl2];rfl)) (HB2.out.ch 1 l1 (by rw [hl2];rfl)) (HB2.out.ch 2 l2 (by rw [hl2];rfl)) (HB2.out.ch 3 l3 (by rw [hl2];rfl)) (λi w s k hi h hk hG=>zvm h hbx yum yum hG) H2'.out hk2 yum).mono ?_
 rintro e w3 ⟨rfl,h3⟩
 have H3:=hid h3
 clear h3 e0 HB2
 have e0:=H3.out.kept hbx
 generalize hS3:Qn (λi s=>s.add [Qw,Zy (i:Nat),y0,x.own (32+(i:Nat))]) [l0,l1,l2,l3] 0 S2=S3 at*
 go_wp2_with fail
 go_region_held3 (λw'=>w'.cell? ⟨bx,0,none⟩=some (ptr c)) (go_keep)
  (first
   |(go_at_call 157;refine (zqw H3.out.drew).mono ?_;rintro e w4 ⟨rfl,q⟩;have H4:=hid q;clear q;have e4:=H4.out.kept hbx)
   |(go_at_call 71;refine (Qp H4.out [Qw,yR6,y0,dec 12] yun ⟨by decide,by decide,by decide,Sp _ yum yum,trivial⟩ yum).mono ?_;rintro e w5 ⟨rfl,q⟩;have H5:=hid q;clear q;have e5:=H5.out.kept hbx))
 go_wp2_with fail
 refine (Qp H5.out [yjq,yR6,yR6,y1] yun ⟨by decide,by decide,by decide,by decide,trivial⟩ (by show S3.g+1<_;omega)).mono ?_
 rintro e w6 ⟨rfl,h6⟩
 have hk6:((S3.add [Qw,yR6,y0,dec 12]).add [yjq,yR6,yR6,y1]).blk=some k2:=hk3
 have hg6:((S3.add [Qw,yR6,y0,dec 12]).add [yjq,yR6,yR6,y1]).g=S3.g+2:=rfl
 have H6:=hid h6
 clear h6 e0 e4 e5 H4 H5 H3
 generalize hS6:(S3.add [Qw,yR6,y0,dec 12]).add [yjq,yR6,yR6,y1]=S6 at*
 have e0:=H6.out.kept hbx
 obtain ⟨b6,c5,hb⟩:=H6.out.cells hk6
 have g0:=hb.p 0 p0 yvd
 have g1:=hb.p 1 p1 yvd
 have g2:=hb.p 2 p2 yvd
 have g3:=hb.p 3 p3 yvd
 have g4:=hb.p 4 p4 yvd
 have g5:=hb.p 5 p5 yvd
 simp only [Nat.reduceAdd] at g0 g1 g2 g3 g4 g5
 clear hb
 have hg7:=(Ye λi=>[Qh,y0,x.own (6+(i:Nat)),y0]).eachG [p0,p1,p2,p3,p4,p5] 0 S6
 have hk7:(Qn (λi s=>s.add [Qh,y0,x.own (6+(i:Nat)),y0]) [p0,p1,p2,p3,p4,p5] 0 S6).blk=some k2:=(Zl (λi=>[Qh,y0,x.own (6+(i:Nat)),y0]) _ _ _).trans hk6
 simp only [List.length_cons,List.length_nil] at hg7
 go_wp2_with fail
 refine (zq4 (λi s=>s.add [Qh,y0,x.own (6+(i:Nat)),y0]) (Ye λi=>[Qh,y0,x.own (6+(i:Nat)),y0]) z5b (λi w s k hi h hk hG=>zvn h hbx yum yum hG) H6.out hk6 yum).mono ?_
 rintro e w7 ⟨rfl,h7⟩
 have H7:=hid h7
 clear h7 e0 c5 g0 g1 g2 g3 g4 g5 H6
 generalize hS7:Qn (λi s=>s.add [Qh,y0,x.own (6+(i:Nat)),y0]) [p0,p1,p2,p3,p4,p5] 0 S6=S7 at*
 have e0:=H7.out.kept hbx
 obtain ⟨b7,c5,hb⟩:=H7.out.cells hk7
 have g0:=hb.g 0 q0 yve
 have g1:=hb.g 1 q1 yve
 have g2:=hb.g 2 q2 yve
 have g3:=hb.g 3 q3 yve
 have g4:=hb.g 4 q4 yve
 have g5:=hb.g 5 q5 yve
 clear hb
 have hg8:=(Ye λi=>[Qh,y0,x.own (12+(i:Nat)),y0]).eachG [q0,q1,q2,q3,q4,q5] 0 S7
 simp only [List.length_cons,List.length_nil] at hg8
 go_wp2_with fail
 refine (zq4 (λi s=>s.add [Qh,y0,x.own (12+(i:Nat)),y0]) (Ye λi=>[Qh,y0,x.own (12+(i:Nat)),y0]) z5c (λi w s k hi h hk hG=>zvo h hbx yum yum hG) H7.out hk7 yum).mono ?_
 rintro e w8 ⟨rfl,h8⟩
 have H8:=hid h8
 clear h8 e0 c5 g0 g1 g2 g3 g4 g5 H7
 generalize hS8:Qn (λi s=>s.add [Qh,y0,x.own (12+(i:Nat)),y0]) [q0,q1,q2,q3,q4,q5] 0 S7=S8 at*
 have e0:=H8.out.kept hbx
 go_wp2_with fail
 refine (Qp H8.out [zdp,yR7,y0] yun ⟨by decide,by decide,by decide,trivial⟩ yum).mono ?_
 rintro e w9 ⟨rfl,h9⟩
 have H9:=hid h9
 clear h9 H8
 go_wp2
 go_end0
 subst hKK
 have H10:=H9.out.unbox
 subst hS8 hS7 hS6 hS3 hS2 hk' hS1
 exact ⟨rfl,H10⟩
end
section
variable{W w w':World}{x:Cx}{K:List (Nat×Nat×Value)}{m:Cm}{c:Nat}{s:Ck}
theorem Cw.env(h:Cw W x K w c s)(hE:Env W):Env w:=hE.below h.low
theorem z23(hE:Env w)(ho:o<12):Cl 103 #[.int .i64 (o:Int)] w λe w'=>e= .returned (.string (Jc o))/\w'=w:=by
 have hc:=hE.words o ho
 have h0:(0:Int)<=(o:Int):=yum
 have h1:(o:Int)<12:=yum
 clear hE
 go_enter Tryz.func103,Tryz.ntmps103
 go_wp2
 go_ret
 exact ⟨rfl,rfl⟩
theorem z6a(ho:o<12):(Jc o).size<=30:=by
 have:o=0\/o=1\/o=2\/o=3\/o=4\/o=5\/o=6\/o=7\/o=8\/o=9\/o=10\/o=11:=yum
 rcases this with rfl|rfl|rfl|rfl|rfl|rfl|rfl|rfl|rfl|rfl|rfl|rfl<;>decide
theorem zvw(h:Cw W x K w c s)(hto:to.size<=maxLen)(ha:a.ok)(hG:s.g+300<1000000):
  Cl 70 #[ptr c,stV (.inl (to,a))] w λe w'=>e= .returned (.tuple #[])/\Cw W x K w' c (s.add [zdp,x.local to,x.val a]):=by
 have hst:=zdt h.base to
 have hsa:=zaj h.base ha
 have HT:=hid (λ(K:List (Nat×Nat×Value)) (w:World) (s:Ck) (h:Cw W x K w c s)=>zdr h hto)
 have HA:=hid (λ(K:List (Nat×Nat×Value)) (w:World) (s:Ck) (h:Cw W x K w c s)=>Yq h ha)
 have H0:=hid (h.box [.string to, .string a.name, .int .i64 a.num] 222)
 have lb:=h.lt
 clear h ha
 obtain ⟨nm,num⟩:=a
 dsimp only at H0 HA hsa⊢
 unfold stV
 have t0:=Ih
 go_enter Tryz.func70,Tryz.ntmps70
 go_wp2_with fail
 generalize hwb:w.alloc (Obj.cells #[.string to, .string nm, .int .i64 num] 222)=wb at*
 generalize w.heap.size=bs at*
 have e0:=H0.out.kept (b:=bs) (o:=0) (v:= .string to) yuq
 have e1:=H0.out.kept (b:=bs) (o:=1) (v:= .string nm) yuq
 have e2:=H0.out.kept (b:=bs) (o:=2) (v:= .int .i64 num) yuq
 go_region_held3 (λw'=>w'.cell? ⟨bs,0,none⟩=some (.string to)/\w'.cell? ⟨bs,1,none⟩=some (.string nm)/\w'.cell? ⟨bs,2,none⟩=some (.int .i64 num)) (go_keep)
  (first
   |(go_at_call 101;refine (HT.out _ _ _ H0.out.drew).mono ?_;rintro e w1 ⟨rfl,q⟩;have H1:=hid q;clear q;have e0a:=H1.out.kept (b:=bs) (o:=0) (v:= .string to) yuq;have e1a:=H1.out.kept (b:=bs) (o:=1) (v:= .string nm) yuq;have e2a:=H1.out.kept (b:=bs) (o:=2) (v:= .int .i64 num) yuq)
   |(go_at_call 102;refine (HA.out _ _ _ H1.out).mono ?_;rintro e w2 ⟨rfl,q⟩;have H2:=hid q;clear q;have e0b:=H2.out.kept (b:=bs) (o:=0) (v:= .string to) yuq;have e1b:=H2.out.kept (b:=bs) (o:=1) (v:= .string nm) yuq;have e2b:=H2.out.kept (b:=bs) (o:=2) (v:= .int .i64 num) yuq)
   |(go_at_call 71;refine (Qp H2.out [zdp,x.local to,x.val ⟨nm,num⟩] yun ⟨by decide,hst,hsa,trivial⟩ yum).mono ?_;rintro e w3 ⟨rfl,q⟩;have H3:=hid q;clear q;have e0c:=H3.out.kept (b:=bs) (o:=0) (v:= .string to) yuq;have e1c:=H3.out.kept (b:=bs) (o:=1) (v:= .string nm) yuq;have e2c:=H3.out.kept (b:=bs) (o:=2) (v:= .int .i64 num) yuq))
 all_goals
  go_wp2
  go_end0
  exact ⟨rfl,H3.out.unbox⟩
theorem zz9(h:Cw W x K w c s)(hE:Env W)(hto:to.size<=maxLen)(ho:o<12){b:PV}(ha:a.ok)(hb:b.ok)(hG:s.g+300<1000000):
  Cl 70 #[ptr c,stV (.inr (.inl (to,o,a,b)))] w λe w'=>e= .returned (.tuple #[])/\Cw W x K w' c (s.add [Jc o,x.local to,x.val a,x.val b]):=by
 have hst:=zdt h.base to
 have hsa:=zaj h.base ha
 have hsb:=zaj h.base hb
 have hso:=z6a ho
 have HW:=hid (λ(K:List (Nat×Nat×Value)) (w:World) (s:Ck) (h:Cw W x K w c s)=>z23 (h.env hE) ho)
 have HT:=hid (λ(K:List (Nat×Nat×Value)) (w:World) (s:Ck) (h:Cw W x K w c s)=>zdr h hto)
 have HA:=hid (λ(K:List (Nat×Nat×Value)) (w:World) (s:Ck) (h:Cw W x K w c s)=>Yq h ha)
 have HB:=hid (λ(K:List (Nat×Nat×Value)) (w:World) (s:Ck) (h:Cw W x K w c s)=>Yq h hb)
 have H0:=hid (h.box [.string to, .int .i64 (o:Int), .string a.name, .int .i64 a.num, .string b.name, .int .i64 b.num] 226)
 have lb:=h.lt
 clear h ha hb hE
 obtain ⟨nm,num⟩:=a
 obtain ⟨nm2,num2⟩:=b
 dsimp only at H0 HA HB hsa hsb⊢
 unfold stV
 have t0:=Ua
 have t1:=Zz
 go_enter Tryz.func70,Tryz.ntmps70
 go_wp2_with fail
 generalize hwb:w.alloc (Obj.cells #[.string to, .int .i64 (o:Int), .string nm, .int .i64 num, .string nm2, .int .i64 num2] 226)=wb at*
 generalize w.heap.size=bs at*
 have e0:=H0.out.kept (b:=bs) (o:=0) (v:= .string to) yuq
 have e1:=H0.out.kept (b:=bs) (o:=1) (v:= .int .i64 (o:Int)) yuq
 have e2:=H0.out.kept (b:=bs) (o:=2) (v:= .string nm) yuq
 have e3:=H0.out.kept (b:=bs) (o:=3) (v:= .int .i64 num) yuq
 have e4:=H0.out.kept (b:=bs) (o:=4) (v:= .string nm2) yuq
 have e5:=H0.out.kept (b:=bs) (o:=5) (v:= .int .i64 num2) yuq
 go_region_held3 (λw'=>w'.cell? ⟨bs,0,none⟩=some (.string to)/\w'.cell? ⟨bs,1,none⟩=some (.int .i64 (o:Int))/\w'.cell? ⟨bs,2,none⟩=some (.string nm)/\w'.cell? ⟨bs,3,none⟩=some (.int .i64 num)/\w'.cell? ⟨bs,4,none⟩=some (.string nm2)/\w'.cell? ⟨bs,5,none⟩=some (.int .i64 num2)) (go_keep)
  (first
   |(go_at_call 103;refine (HW.out _ _ _ H0.out.drew).mono ?_;rintro e w0 ⟨rfl,rfl⟩;have H4:=hid H0.out.drew;clear H0)
   |(go_at_call 101;refine (HT.out _ _ _ H4.out).mono ?_;rintro e w1 ⟨rfl,q⟩;have H1:=hid q;clear q H4;have e0a:=H1.out.kept (b:=bs) (o:=0) (v:= .string to) yuq;have e1a:=H1.out.kept (b:=bs) (o:=1) (v:= .int .i64 (o:Int)) yuq;have e2a:=H1.out.kept (b:=bs) (o:=2) (v:= .string nm) yuq;have e3a:=H1.out.kept (b:=bs) (o:=3) (v:= .int .i64 num) yuq;have e4a:=H1.out.kept (b:=bs) (o:=4) (v:= .string nm2) yuq;have e5a:=H1.out.kept (b:=bs) (o:=5) (v:= .int .i64 num2) yuq)
   |(go_at_call 102;refine (HA.out _ _ _ H1.out).mono ?_;rintro e w2 ⟨rfl,q⟩;have H2:=hid q;clear q H1;have e0b:=H2.out.kept (b:=bs) (o:=0) (v:= .string to) yuq;have e1b:=H2.out.kept (b:=bs) (o:=1) (v:= .int .i64 (o:Int)) yuq;have e2b:=H2.out.kept (b:=bs) (o:=2) (v:= .string nm) yuq;have e3b:=H2.out.kept (b:=bs) (o:=3) (v:= .int .i64 num) yuq;have e4b:=H2.out.kept (b:=bs) (o:=4) (v:= .string nm2) yuq;have e5b:=H2.out.kept (b:=bs) (o:=5) (v:= .int .i64 num2) yuq)
   |(go_at_call 102;refine (HB.out _ _ _ H2.out).mono ?_;rintro e w3 ⟨rfl,q⟩;have H3:=hid q;clear q H2;have e0c:=H3.out.kept (b:=bs) (o:=0) (v:= .string to) yuq;have e1c:=H3.out.kept (b:=bs) (o:=1) (v:= .int .i64 (o:Int)) yuq;have e2c:=H3.out.kept (b:=bs) (o:=2) (v:= .string nm) yuq;have e3c:=H3.out.kept (b:=bs) (o:=3) (v:= .int .i64 num) yuq;have e4c:=H3.out.kept (b:=bs) (o:=4) (v:= .string nm2) yuq;have e5c:=H3.out.kept (b:=bs) (o:=5) (v:= .int .i64 num2) yuq)
   |(go_at_call 71;refine (Qp H3.out [Jc o,x.local to,x.val ⟨nm,num⟩,x.val ⟨nm2,num2⟩] yun ⟨hso,hst,hsa,hsb,trivial⟩ yum).mono ?_;rintro e w5 ⟨rfl,q⟩;have H5:=hid q;clear q;have e0d:=H5.out.kept (b:=bs) (o:=0) (v:= .string to) yuq;have e1d:=H5.out.kept (b:=bs) (o:=1) (v:= .int .i64 (o:Int)) yuq;have e2d:=H5.out.kept (b:=bs) (o:=2) (v:= .string nm) yuq;have e3d:=H5.out.kept (b:=bs) (o:=3) (v:= .int .i64 num) yuq;have e4d:=H5.out.kept (b:=bs) (o:=4) (v:= .string nm2) yuq;have e5d:=H5.out.kept (b:=bs) (o:=5) (v:= .int .i64 num2) yuq))
 all_goals
  go_wp2
  go_end0
  exact ⟨rfl,H5.out.unbox⟩
theorem zvx(h:Cw W x K w c s)(hof:of.size<=maxLen){v:PV}(ha:a.ok)(hv:v.ok)(hf:0<=(x.var of).1/\(x.var of).1<=6/\0<=(x.var of).2/\(x.var of).2<=6)(hG:s.g+300<1000000):
  Cl 70 #[ptr c,stV (.inr (.inr (.inr (.inl (of,a,v)))))] w λe w'=>e= .returned (.tuple #[])/\Cw W x K w' c (x.put of a v s):=by
 have KC:=hid (z45 (h.alloc (.cells #[.string of, .string a.name, .int .i64 a.num, .string v.name, .int .i64 v.num] 203)) hof ha hv hf yum)
 clear h
 unfold stV
 have t0:=Im
 have t1:=Ud
 have t2:=Gp
 have t3:=Gq
 go_enter Tryz.func70,Tryz.ntmps70
 go_wp2_with fail
 refine KC.out.mono ?_
 rintro e w1 ⟨rfl,q⟩
 have H1:=hid q
 clear q KC
 go_wp2
 go_end0
 exact ⟨rfl,H1.out⟩
theorem zq7(h:Cw W x K w c s){k:Bk}(hk:s.blk=some k)(ha:a.ok)(hG:s.g+300<1000000):
  Cl 70 #[ptr c,stV (.inr (.inr (.inr (.inr (.inl a)))))] w λe w'=>e= .returned (.tuple #[])/\Cw W x K w' c (x.outC a s):=by
 have KC:=hid (z44 (h.alloc (.cells #[.string a.name, .int .i64 a.num] 205)) hk ha yum)
 clear h
 unfold stV
 have t0:=Gs
 have t1:=Yh
 have t2:=Xs
 have t3:=Xt
 have t4:=Yo
 go_enter Tryz.func70,Tryz.ntmps70
 go_wp2_with fail
 refine KC.out.mono ?_
 rintro e w1 ⟨rfl,q⟩
 have H1:=hid q
 clear q KC
 go_wp2
 go_end0
 exact ⟨rfl,H1.out⟩
theorem zq8(h:Cw W x K w c s)(hk:s.blk=none)(ha:a.ok)(hG:s.g+300<1000000):
  Cl 70 #[ptr c,stV (.inr (.inr (.inr (.inr (.inl a)))))] w λe w'=>e= .returned (.tuple #[])/\Cw W x K w' c (x.outC a s):=by
 have KC:=hid (z43 (h.alloc (.cells #[.string a.name, .int .i64 a.num] 205)) hk ha yum)
 clear h
 unfold stV
 have t0:=Gs
 have t1:=Yh
 have t2:=Xs
 have t3:=Xt
 have t4:=Yo
 go_enter Tryz.func70,Tryz.ntmps70
 go_wp2_with fail
 refine KC.out.mono ?_
 rintro e w1 ⟨rfl,q⟩
 have H1:=hid q
 clear q KC
 go_wp2
 go_end0
 exact ⟨rfl,H1.out⟩
theorem zq9(h:Cw W x K w c s){k:Bk}(hk:s.blk=some k)(hA:k.again<100000000)(hto:to.size<=maxLen)(hof:of.size<=maxLen)(ha:a.ok){f:Nat}(hfn:x.var of=((f:Int),n))(hf:f<6)(hn:0<=n/\n<=6)(hp:k.puts[f]?=some false)(hG:s.g+300<1000000):
  Cl 70 #[ptr c,stV (.inr (.inr (.inl (to,of,a))))] w λe w'=>e= .returned (.tuple #[])/\Cw W x K w' c (x.get to of a s):=by
 have KC:=hid (z46 (h.alloc (.cells #[.string to, .string of, .string a.name, .int .i64 a.num] 201)) hk hA hto hof ha hfn hf hn hp yum)
 clear h
 unfold stV
 have t0:=Gm
 have t1:=Yg
 have t2:=Xr
 go_enter Tryz.func70,Tryz.ntmps70
 go_wp2_with fail
 refine KC.out.mono ?_
 rintro e w1 ⟨rfl,q⟩
 have H1:=hid q
 clear q KC
 go_wp2
 go_end0
 exact ⟨rfl,H1.out⟩
theorem zra(h:Cw W x K w c s){k:Bk}(hk:s.blk=some k)(hA:k.again<100000000)(hto:to.size<=maxLen)(hof:of.size<=maxLen)(ha:a.ok){f:Nat}(hfn:x.var of=((f:Int),n))(hf:f<6)(hn:0<=n/\n<=6)(hp:k.puts[f]?=some true)(hG:s.g+300<1000000):
  Cl 70 #[ptr c,stV (.inr (.inr (.inl (to,of,a))))] w λe w'=>e= .returned (.tuple #[])/\Cw W x K w' c (x.get to of a s):=by
 have KC:=hid (z47 (h.alloc (.cells #[.string to, .string of, .string a.name, .int .i64 a.num] 201)) hk hA hto hof ha hfn hf hn hp yum)
 clear h
 unfold stV
 have t0:=Gm
 have t1:=Yg
 have t2:=Xr
 go_enter Tryz.func70,Tryz.ntmps70
 go_wp2_with fail
 refine KC.out.mono ?_
 rintro e w1 ⟨rfl,q⟩
 have H1:=hid q
 clear q KC
 go_wp2
 go_end0
 exact ⟨rfl,H1.out⟩
end
section
variable{W w w':World}{x:Cx}{K:List (Nat×Nat×Value)}{m:Cm}{c:Nat}{s:Ck}{ids:Ids}{es:List En}{rv:Value}
theorem z0a(hrow:W.ownsRow 0 153 1 rv es.length (es.map (enV ids)))(hn:es.length<=1000)(J:Nat->World->Prop)(hlow:Hid (∀k wr,J k wr->Below W.heap.size W wr))
  (KC:Hid (∀k wr (hk:k<es.length),J k wr->Cl 70 #[ptr c,enV ids es[k]] wr λe w'=>e= .returned (.tuple #[])/\J (k+1) w')) (h0:Hid (J 0 w)):
  Cl 40 #[ptr c,rv] w λe w'=>e= .returned (.tuple #[])/\J es.length w':=by
 obtain ⟨ra,rk,hrv⟩:=zc2 hrow
 have HC:Hid (∀k,(hk:k<es.length)->∃g,ra=some ⟨g,0,none⟩/\g<W.heap.size/\W.cell? ⟨g,k,none⟩=some (enV ids es[k])):=hid λk hk=>by
  rcases hrow.2 with ⟨e,e'⟩|⟨g,cap,cur,e,h1,h2,h3,h4,h5,h6⟩
  ·omega
  ·rw [hrv] at e
   injection e with e1 _ _
   have hc:=hrow.cells (g:=g) (by rw [hrv,e1];rfl)
   have e2:=hc k (enV ids es[k]) (by simp [List.getElem?_eq_getElem hk])
   have e3:(⟨g,0,none⟩:Addr).add k=⟨g,k,none⟩:=by cases k<;>simp [Addr.add]
   rw [e3] at e2
   exact ⟨g,e1,(Array.getElem?_eq_some_iff.1 h2).1,e2⟩
 rw [hrv]
 clear hrow hrv
 go_enter Tryz.func40,Tryz.ntmps40
 go_wp2
 go_loopw [8] (λv8 wr=>∃k:Nat,k<=es.length/\v8= .int .i64 k/\Hid (J k wr)) (λv8 _=>es.length- (intOf v8).toNat)
 case atStart=>exact ⟨0,Nat.zero_le _,rfl,h0⟩
 case round=>
  obtain ⟨k,hk,rfl,hB⟩:=hrel
  by_cases hlt:k<es.length
  ·have hlt':(k:Int)<(es.length:Int):=by omega
   have hi0:(0:Int)<=(k:Int):=yum
   obtain ⟨g,hra,hg,hcell⟩:=HC.out k hlt
   subst hra
   have hcell':wr.cell? ⟨g,k,none⟩=some (enV ids es[k]):=((hlow.out k wr hB.out).cell (p:=⟨g,k,none⟩) hg).trans hcell
   have D1:=hid (KC.out k wr hlt hB.out)
   clear hcell KC HC
   generalize enV ids es[k]=v at*
   go_wp2_with fail
   refine D1.out.mono ?_
   rintro e w1 ⟨rfl,q⟩
   have H1:=hid q
   clear q D1
   go_wp2
   go_roundw
   case rel=>exact ⟨k+1,by omega,by go_num,H1⟩
   case measure=>simp [intOf];omega
  ·have hlt': ¬(k:Int)<(es.length:Int):=by omega
   have hke:k=es.length:=yum
   rw [hke] at hB
   go_wp2
   go_end0
   exact ⟨rfl,hB.out⟩
theorem Cw.old(h:Cw W x K w c s)(hj:W.cell? ⟨j,o,none⟩=some v):w.cell? ⟨j,o,none⟩=some v:=
 (h.low.cell (p:=⟨j,o,none⟩) (blt hj)).trans hj
theorem z0b(h:Cw W x K w c s)(ha:a.ok)(hj0:W.cell? ⟨j,0,none⟩=some rv)(hj1:W.cell? ⟨j,1,none⟩=some (.string a.name))(hj2:W.cell? ⟨j,2,none⟩=some (.int .i64 a.num))
  (body:Ck->Ck) (KB:Hid (∀K w,Cw W x K w c (s.add [yJz,x.val a])->Cl 40 #[ptr c,rv] w λe w'=>e= .returned (.tuple #[])/\Cw W x K w' c (body (s.add [yJz,x.val a]))))
  (hbl:(s.add [yJz,x.val a]).L.length<=(body (s.add [yJz,x.val a])).L.length) (hbg:(body (s.add [yJz,x.val a])).g<10000000) (hG:s.g+300<1000000):
  Cl 70 #[ptr c, .iface 206 (ptr j)] w λe w'=>e= .returned (.tuple #[])/\Cw W x K w' c ((body (s.add [yJz,x.val a])).land s.L.length):=by
 have hsa:=zaj h.base ha
 have HA:=hid (λ(K:List (Nat×Nat×Value)) (w:World) (s:Ck) (h:Cw W x K w c s)=>Yq h ha)
 have HJ:=hid (λ(K:List (Nat×Nat×Value)) (w:World) (s:Ck) (h:Cw W x K w c s)=>(⟨h.old hj0,h.old hj1,h.old hj2⟩:w.cell? ⟨j,0,none⟩=some rv/\w.cell? ⟨j,1,none⟩=some (.string a.name)/\w.cell? ⟨j,2,none⟩=some (.int .i64 a.num)))
 have e:=HJ.out _ _ _ h
 obtain ⟨e0,e1,e2⟩:=e
 have H0:=hid h
 have lb:=h.lt
 have hL:=h.ok.l
 clear h ha hj0 hj1 hj2
 obtain ⟨nm,num⟩:=a
 dsimp only at HA HJ hsa e1 e2 KB hbl hbg⊢
 have t0:=Ss
 have t1:=Uw
 have t2:=Eb
 have t3:=Ec
 have t4:=Ux
 have t5:=Yb
 have t6:=zbv
 go_enter Tryz.func70,Tryz.ntmps70
 go_wp2_with fail
 go_region_held3 (λw'=>w'.cell? ⟨j,0,none⟩=some rv/\w'.cell? ⟨j,1,none⟩=some (.string nm)/\w'.cell? ⟨j,2,none⟩=some (.int .i64 num)) (go_keep)
  (first
   |(go_at_call 102;refine (HA.out _ _ _ H0.out.drew).mono ?_;rintro e w1 ⟨rfl,q⟩;have H1:=hid q;clear q;have f1:=HJ.out _ _ _ H1.out)
   |(go_at_call 108;refine (Xo H1.out [yJz,x.val ⟨nm,num⟩] yun ⟨by decide,hsa,trivial⟩ yum).mono ?_;rintro e w2 ⟨bl,ba,rfl,q⟩;have H2:=hid q;clear q;have f2:=HJ.out _ _ _ H2.out))
 all_goals
  obtain ⟨g0,g1,g2⟩:=f2
  go_wp2_with fail
  refine (KB.out _ _ H2.out).mono ?_
  rintro e w3 ⟨rfl,q⟩
  have H3:=hid q
  clear q
  go_wp2_with fail
  refine (Se H3.out (bl:=bl) (ba:=ba) (n:=s.L.length) yun yun (by rw [Qx] at hbl;omega) yum).mono ?_
  rintro e w4 ⟨rfl,q⟩
  have H4:=hid q
  clear q
  go_wp2
  go_end0
  exact ⟨rfl,H4.out.less (K':=K) (λp hp=>List.mem_cons_of_mem _ (List.mem_cons_of_mem _ hp))⟩
end
end Go.Proofs.YtkenoofmkbghiaaGreatDoor
