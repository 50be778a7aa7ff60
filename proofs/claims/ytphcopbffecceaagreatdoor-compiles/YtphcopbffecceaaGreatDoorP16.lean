import Derived.Test.YtphcopbffecceaaGreatDoorP15
set_option maxRecDepth 100000
set_option maxHeartbeats 4000000
namespace Go.Proofs.YtphcopbffecceaaGreatDoor
open Go.RowKit
variable{u:ByteArray}
def zkh(a:Int):Prop:=-9223372036854775808<=a/\a<=9223372036854775807
def z6m:St->Nat
 | .inr (.inl (_,o,_,_))=>o
 |_=>0
structure zop(s:St):Prop where
 rd: ∀v∈Qj s,zkh v.num
 op:z6m s<12
section
variable{ws ws1:List ByteArray}{y:PV}{s:St}{k:Nat}
theorem zr2{v:Int}(h:Qk u=some v):zkh v:=by
 unfold Qk at h
 split at h
 ·unfold Lib.parseIntB at h
  cases hl:u.data.toList with
  |nil=>simp [hl] at h
  |cons c r=>
   simp only [hl] at h
   cases hp:Lib.parseUintB 64 (if c.toNat=43\/c.toNat=45 then r else c::r) with
   |ok u=>
    simp only [hp] at h
    by_cases h1: ¬c.toNat=45/\2^(64- 1)<=u
    ·simp [h1] at h
    ·by_cases h2:c.toNat=45/\2^(64- 1)<u
     ·simp [h2] at h
     ·rw [if_neg h1,if_neg h2] at h
      simp only [Option.some.injEq] at h
      subst h
      unfold zkh
      by_cases hc:c.toNat=45
      ·rw [if_pos hc];omega
      ·rw [if_neg hc];omega
   |_=>simp [hp] at h
 ·simp at h
theorem zfs:zkh 0:=by unfold zkh;omega
theorem Sv(h:gPV ws=some (y,ws1)):zkh y.num:=by
 cases ws with
 |nil=>simp [gPV] at h
 |cons u us=>
  simp only [gPV] at h
  split at h
  ·simp at h
   rw [<-h.1];exact zfs
  ·cases hn:Qk u with
   |none=>simp [hn] at h
   |some v=>
    simp [hn] at h
    rw [<-h.1];exact zr2 hn
theorem zr3(h:gAt ws=some (y,ws1)):zkh y.num:=by
 cases ws with
 |nil=>
  simp [gAt] at h
  rw [<-h.1];exact zfs
 |cons u us=>
  simp only [gAt] at h
  split at h
  ·exact Sv h
  ·simp at h
theorem z3k(h:gOp ws=some (k,ws1)):k<12:=by
 cases ws with
 |nil=>simp [gOp] at h
 |cons u us=>
  simp only [gOp] at h
  cases hs:Uj u with
  |none=>simp [hs] at h
  |some n=>
   simp [hs] at h
   rw [<-h.1]
   unfold Uj at hs
   have:=(List.findIdx?_eq_some_iff_findIdx_eq.1 hs).1
   simpa using this
theorem zoq(h:Zs u ws=some (s,ws1)):zop s:=by
 unfold Zs at h
 split at h
 ·unfold zn4 at h
  cases h1:gNm ws with
  |none=>simp [h1] at h
  |some p=>
   obtain ⟨x,ws2⟩:=p
   rw [h1] at h
   simp only [Option.bind_some] at h
   cases h2:gPV ws2 with
   |none=>simp [h2] at h
   |some q=>
    obtain ⟨y,ws3⟩:=q
    rw [h2] at h
    simp only [Option.bind_some] at h
    rcases ws3 with _|⟨u3,ws3⟩
    ·simp at h
     obtain ⟨rfl,_⟩:=h
     exact ⟨λv hv=>by simp [Qj] at hv;subst hv;exact Sv h2,(by decide:(0:Nat)<12)⟩
    ·simp only at h
     cases h3:gOp (u3::ws3) with
     |none=>simp [h3] at h
     |some o=>
      rw [h3] at h
      simp only [Option.bind_some] at h
      cases h4:gPV o.2 with
      |none=>simp [h4] at h
      |some r=>
       rw [h4] at h
       simp at h
       obtain ⟨rfl,_⟩:=h
       exact ⟨λv hv=>by
        simp [Qj] at hv
        rcases hv with rfl|rfl
        ·exact Sv h2
        ·exact Sv (y:=r.1) (ws1:=r.2) h4,z3k (k:=o.1) (ws1:=o.2) h3⟩
 ·split at h
  ·unfold zvd at h
   cases h1:gNm ws with
   |none=>simp [h1] at h
   |some p=>
    rw [h1] at h
    simp only [Option.bind_some] at h
    cases h2:gNm p.2 with
    |none=>simp [h2] at h
    |some q=>
     rw [h2] at h
     simp only [Option.bind_some] at h
     cases h3:gAt q.2 with
     |none=>simp [h3] at h
     |some r=>
      rw [h3] at h
      simp at h
      obtain ⟨rfl,_⟩:=h
      exact ⟨λv hv=>by simp [Qj] at hv;subst hv;exact zr3 (y:=r.1) (ws1:=r.2) h3,(by decide:(0:Nat)<12)⟩
  ·split at h
   ·unfold zve at h
    cases h1:gNm ws with
    |none=>simp [h1] at h
    |some p=>
     rw [h1] at h
     simp only [Option.bind_some] at h
     cases h2:gPV p.2 with
     |none=>simp [h2] at h
     |some q=>
      rw [h2] at h
      simp only [Option.bind_some] at h
      cases h3:gAt q.2 with
      |none=>simp [h3] at h
      |some r=>
       rw [h3] at h
       simp at h
       obtain ⟨rfl,_⟩:=h
       exact ⟨λv hv=>by
        simp [Qj] at hv
        rcases hv with rfl|rfl
        ·exact zr3 (y:=r.1) (ws1:=r.2) h3
        ·exact Sv (y:=q.1) (ws1:=q.2) h2,(by decide:(0:Nat)<12)⟩
   ·split at h
    ·exact z8q
    ·split at h
     ·simp at h
      obtain ⟨rfl,_⟩:=h
      exact ⟨λv hv=>by simp [Qj] at hv,(by decide:(0:Nat)<12)⟩
     ·split at h
      ·exact z8q
      ·split at h
       ·cases h1:gIn 1 4 ws with
        |none=>simp [h1] at h
        |some p=>
         rw [h1] at h
         simp at h
         obtain ⟨rfl,_⟩:=h
         exact ⟨λv hv=>by simp [Qj] at hv,(by decide:(0:Nat)<12)⟩
       ·simp at h
end
section
variable{D D0:Nat->Prop}{lab:Nat->Nat×Nat}{w:World}{br sb bs bl bw:Nat}{n:Int}{ws us:List ByteArray}{u:ByteArray}{tv ov:Value}{st:RS}{ms:List HM}{k:Nat}{r:Except Int RS}{s:St}
theorem zki(K:Hid (∀w1,LineAt w1 bl n bw us->Chg (Jo bl) w w1->Cl 54 #[ptr br,ptr bl] w1 λe w'=>PLR D br sb bs bl n w1 r e w'))(hL:LineAt w bl n bw (⟨#[115,104,97,114,101,100]⟩::us))(hlen:us.length<1000000)(hDl:D bl):
  Cl 29 #[ptr br,ptr bl] w λe w'=>PLR D br sb bs bl n w r e w':=by
 have H:=hid hL
 clear hL
 cases r with
 |error er=>exact z7q
 |ok st'=>exact z7m
theorem zkj(K:Hid (∀w1,LineAt w1 bl n bw us->Chg (Jo bl) w w1->Cl 55 #[ptr br,ptr bl] w1 λe w'=>PLR D br sb bs bl n w1 r e w'))(hL:LineAt w bl n bw (⟨#[116,104,114,101,97,100]⟩::us))(hlen:us.length<1000000)(hDl:D bl):
  Cl 29 #[ptr br,ptr bl] w λe w'=>PLR D br sb bs bl n w r e w':=by
 have H:=hid hL
 clear hL
 cases r with
 |error er=>exact z7q
 |ok st'=>exact z7m
theorem zwp(K:Hid (∀w1,LineAt w1 bl n bw us->Chg (Jo bl) w w1->Cl 56 #[ptr br,ptr bl] w1 λe w'=>PLR D br sb bs bl n w1 r e w'))(hL:LineAt w bl n bw (⟨#[101,110,100]⟩::us))(hlen:us.length<1000000)(hDl:D bl):
  Cl 29 #[ptr br,ptr bl] w λe w'=>PLR D br sb bs bl n w r e w':=by
 have H:=hid hL
 clear hL
 cases r with
 |error er=>exact z7q
 |ok st'=>exact z7m
theorem zwq(KR:Hid (∀w1,LineAt w1 bl n bw us->Chg (Jo bl) w w1->Cl 57 #[ptr br, .string u,ptr bl] w1 λe w'=>StR bl n bw w1 none e w'))(hL:LineAt w bl n bw (u::us))(hlen:us.length<1000000)(e0:(u.toList==[115,104,97,114,101,100])=false)(e1:(u.toList==[116,104,114,101,97,100])=false)(e2:(u.toList==[101,110,100])=false):
  Cl 29 #[ptr br,ptr bl] w λe w'=>Fails 2 n bl w e w':=by
 have H:=hid hL
 clear hL
 go_enter Tryz.func29,Tryz.ntmps29
 go_wp2_with fail
 refine (Ve H.out hlen).mono ?_
 rintro e w1 ⟨rfl,h1,c1⟩
 have H1:=hid h1
 have C1:=hid c1
 clear h1 c1 H
 go_wp2_with fail
 refine (KR.out w1 H1.out C1.out).mono ?_
 intro e w2 h2
 obtain ⟨bf,rfl,h4⟩:=Fails.after h2 C1.out
 exact ⟨rfl,bf,rfl,h4⟩
theorem zr4{u2:ByteArray}{us2:List ByteArray}(KR:Hid (∀w1,LineAt w1 bl n bw us->Chg (Jo bl) w w1->Cl 57 #[ptr br, .string u,ptr bl] w1 λe w'=>StR bl n bw w1 (some (s,u2::us2)) e w'))(hL:LineAt w bl n bw (u::us))(hlen:us.length<1000000)(e0:(u.toList==[115,104,97,114,101,100])=false)(e1:(u.toList==[116,104,114,101,97,100])=false)(e2:(u.toList==[101,110,100])=false):
  Cl 29 #[ptr br,ptr bl] w λe w'=>Fails 2 n bl w e w':=by
 have H:=hid hL
 clear hL
 go_enter Tryz.func29,Tryz.ntmps29
 go_wp2_with fail
 refine (Ve H.out hlen).mono ?_
 rintro e w1 ⟨rfl,h1,c1⟩
 have H1:=hid h1
 have C1:=hid c1
 clear h1 c1 H
 go_wp2_with fail
 refine (KR.out w1 H1.out C1.out).mono ?_
 rintro e w2 ⟨v,rfl,h2,h3,c2⟩
 have H2:=hid h2
 have H3:=hid h3
 have C2:=hid c2
 clear h2 h3 c2 KR H1
 go_wp2_with fail
 refine (zc0 H3.out).mono ?_
 intro e w3 h3
 obtain ⟨bf,rfl,h4⟩:=Fails.after h3 (C1.out.trans C2.out)
 exact ⟨rfl,bf,rfl,h4⟩
theorem zr5(KR:Hid (∀w1,LineAt w1 bl n bw us->Chg (Jo bl) w w1->Cl 57 #[ptr br, .string u,ptr bl] w1 λe w'=>StR bl n bw w1 (some (s,[])) e w'))(KS:Hid (∀w1 w2 v,Chg (Jo bl) w w1->Chg (Jo bl) w1 w2->z40 w1 w2 s v->LineAt w2 bl n bw []->Cl 59 #[ptr br,ptr bl,v] w2 λe w'=>PLR D br sb bs bl n w2 r e w'))(hL:LineAt w bl n bw (u::us))(hlen:us.length<1000000)(hDl:D bl)(e0:(u.toList==[115,104,97,114,101,100])=false)(e1:(u.toList==[116,104,114,101,97,100])=false)(e2:(u.toList==[101,110,100])=false):
  Cl 29 #[ptr br,ptr bl] w λe w'=>PLR D br sb bs bl n w r e w':=by
 cases r with
 |error er=>
  have H:=hid hL
  clear hL
  go_enter Tryz.func29,Tryz.ntmps29
  go_wp2_with fail
  refine (Ve H.out hlen).mono ?_
  rintro e w1 ⟨rfl,h1,c1⟩
  have H1:=hid h1
  have C1:=hid c1
  clear h1 c1 H
  go_wp2_with fail
  refine (KR.out w1 H1.out C1.out).mono ?_
  rintro e w2 ⟨v,rfl,h2,h3,c2⟩
  have H2:=hid h2
  have H3:=hid h3
  have C2:=hid c2
  clear h2 h3 c2 KR H1
  go_wp2_with fail
  refine (Eo H3.out).mono ?_
  rintro e w3 ⟨rfl,rfl⟩
  go_wp2_with fail
  refine (KS.out w1 _ v C1.out C2.out H2.out H3.out).mono ?_
  intro e w4 h4
  obtain ⟨bf,rfl,h5⟩:=Fails.after h4 (C1.out.trans C2.out)
  exact ⟨rfl,bf,rfl,h5⟩
 |ok st'=>
  have H:=hid hL
  clear hL
  go_enter Tryz.func29,Tryz.ntmps29
  go_wp2_with fail
  refine (Ve H.out hlen).mono ?_
  rintro e w1 ⟨rfl,h1,c1⟩
  have H1:=hid h1
  have C1:=hid c1
  clear h1 c1 H
  go_wp2_with fail
  refine (KR.out w1 H1.out C1.out).mono ?_
  rintro e w2 ⟨v,rfl,h2,h3,c2⟩
  have H2:=hid h2
  have H3:=hid h3
  have C2:=hid c2
  clear h2 h3 c2 KR H1
  go_wp2_with fail
  refine (Eo H3.out).mono ?_
  rintro e w3 ⟨rfl,rfl⟩
  go_wp2_with fail
  refine (KS.out w1 _ v C1.out C2.out H2.out H3.out).mono ?_
  rintro e w4 ⟨rfl,h4,c4⟩
  have H4:=hid h4
  have C4:=hid (((C1.out.trans C2.out).mono (M':=λk _=>D k) (λk i _ e=>e.1▸hDl)).trans c4)
  clear h4 c4
  go_wp2
  go_end0
  exact ⟨rfl,H4.out,C4.out⟩
theorem zr6(hL:LineAt w bl n bw []):Cl 29 #[ptr br,ptr bl] w λe w'=>Fails 2 n bl w e w':=by
 have H:=hid hL
 clear hL
 go_enter Tryz.func29,Tryz.ntmps29
 go_wp2_with fail
 refine (Fg H.out).mono ?_
 rintro e w1 ⟨bf,rfl,h1⟩
 exact ⟨rfl,bf,rfl,h1⟩
theorem RMach.line{w1:World}(h:RMach D0 lab w br sb bs tv ov st ms)(hn: ¬D0 bl)(c:Chg (Jo bl) w w1):RMach D0 lab w1 br sb bs tv ov st ms:=h.keep c (λ_ _ hk e=>hn (e.1▸hk))
theorem zwr(h:RMach D0 lab w br sb bs tv ov st ms)(h0: ∀k,D0 k->D k)(hD: ∀k,w.heap.size<=k->D k)(hD0: ∀k,D0 k->k<w.heap.size)(hDl:D bl)(hn: ¬D0 bl)(hok:st.Ok k)(hk:k<900000)(hE:Env w)(hbl:10<=bl)(hz:SzOk ws)(hL:LineAt w bl n bw ws):
  Cl 29 #[ptr br,ptr bl] w λe w'=>PLR D br sb bs bl n w (Vq st ws) e w':=by
 rcases ws with _|⟨u,us⟩
 ·exact zr6 hL
 unfold Vq
 simp only
 have hlen:=hz.len
 have hz':=hz.tail
 by_cases h1:u=Qy
 ·rw [if_pos h1]
  subst h1
  refine zki (hid λw1 l1 c1=>?_) hL hlen hDl
  exact zoo (h.line hn c1) h0 hDl hn hok hk (hid (hE.line c1 hbl)) hbl hz' l1
 rw [if_neg h1]
 by_cases h2:u=Qt
 ·rw [if_pos h2]
  subst h2
  refine zkj (hid λw1 l1 c1=>?_) hL hlen hDl
  exact zon (h.line hn c1) h0 (λk hk=>hD k (Nat.le_trans c1.size hk)) (λk hk=>Nat.lt_of_lt_of_le (hD0 k hk) c1.size) hok hk l1
 rw [if_neg h2]
 by_cases h3:u=Zd
 ·rw [if_pos h3]
  subst h3
  refine zwp (hid λw1 l1 c1=>?_) hL hlen hDl
  exact z0q (h.line hn c1) h0 hok l1
 rw [if_neg h3]
 have e0:(u.toList==[115,104,97,114,101,100])=false:=by have:=Oz h1;rwa [show (Qy).toList=[115,104,97,114,101,100] from by rw [ByteArray.toList_eq];rfl] at this
 have e1:(u.toList==[116,104,114,101,97,100])=false:=by have:=Oz h2;rwa [show (Qt).toList=[116,104,114,101,97,100] from by rw [ByteArray.toList_eq];rfl] at this
 have e2:(u.toList==[101,110,100])=false:=by have:=Oz h3;rwa [show (Zd).toList=[101,110,100] from by rw [ByteArray.toList_eq];rfl] at this
 have hS:SignsAt w br bs bl:=⟨h.c4,λe=>hn (e▸h.lbr.2),h.mG,λe=>hn (e▸h.lbs.2)⟩
 have KR:=hid (λw1 (l1:LineAt w1 bl n bw us) (c1:Chg (Jo bl) w w1)=>zhn l1 (hid (hE.line c1 hbl)) hbl hz' (hid (hS.keep c1)) u)
 cases hg:Zs u us with
 |none=>
  rw [hg] at KR
  exact zwq KR hL hlen e0 e1 e2
 |some p=>
  obtain ⟨s,us2⟩:=p
  rw [hg] at KR
  rcases us2 with _|⟨u2,us2⟩
  ·simp only
   refine zr5 KR (hid λw1 w2 v c1 c2 hs l2=>?_) hL hlen hDl e0 e1 e2
   obtain ⟨b,rfl,hB,hH⟩:=z0p hs
   have c12:=c1.trans c2
   exact zwo (h.line hn c12) h0 (λk hk=>hD k (Nat.le_trans c12.size hk)) hok hk l2 s b hB (zd5 hg) (λhh=>⟨(hH hh).1,hD b (Nat.le_trans c1.size (hH hh).2),λhb=>by have:=hD0 b hb;have:=(hH hh).2;have:=c1.size;omega⟩)
  ·exact zr4 KR hL hlen e0 e1 e2
end
theorem zor(W:World)(s:ByteArray)(most:Int)(tk bt:Nat)(Inv:List UInt8->Nat->World->Prop)(Bad:Nat->World->Prop)
  (hs:(s.size:Int)<=most) (hs2:s.size<=1000000)
  (hent: ∀args w,(callFunc tk args).run Tryz.prog w= .ok (.enter tk args) w)
  (h0:Hid (Inv s.data.toList 0 (W.alloc (.cells #[.nilIface] 44))))
  (hcut:Hid (∀(r:List UInt8) (j:Nat) (w:World),r.length<=s.size->Inv r j w->Cl 50 #[.string ⟨r.toArray⟩, .string ⟨#[10]⟩] w λe w'=>e= .returned (.tuple #[.string ⟨(Lib.cut r [10]).1.toArray⟩, .string ⟨(Lib.cut r [10]).2.1.toArray⟩, .bool (Lib.cut r [10]).2.2])/\ ∃n,w'=w.drewN n))
  (hsplit:Hid (∀(r:List UInt8) (j:Nat) (w:World) (l:List UInt8) (n:Nat),Inv r j w->l.length<=s.size->Cl 51 #[.string ⟨l.toArray⟩, .string ⟨#[32]⟩] (w.drewN n) λe w'=>e= .returned (.slice (some ⟨w.heap.size,0,none⟩) (Ql l).length (Ql l).length)/\w'=(w.drewN n).alloc (.cells ((Ql l).map Value.string).toArray 9)))
  (hstep:Hid (∀(r:List UInt8) (j:Nat) (w:World),Inv r j w->(r≠[]\/j=0)->∃l r' b,Lib.cut r [10]=(l,r',b)/\l.length<=r.length/\
   (b=true->r'.length<r.length/\ ∀n,Cl tk #[ptr bt,ptr (w.heap.size+1)] (((w.drewN n).alloc (.cells ((Ql l).map Value.string).toArray 9)).alloc (.cells #[.int .i64 (j+1), .slice (some ⟨w.heap.size,0,none⟩) (Ql l).length (Ql l).length] 159)) λe w2=>(e= .returned (.tuple #[])/\Inv r' (j+1) w2)\/ ∃bf,e= .panicked (zga bf)/\Bad bf w2)/\
   (b=false->∀n bf w2,Fails 2 (j+1) (w.heap.size+1) (((w.drewN n).alloc (.cells ((Ql l).map Value.string).toArray 9)).alloc (.cells #[.int .i64 (j+1), .slice (some ⟨w.heap.size,0,none⟩) (Ql l).length (Ql l).length] 159)) (.panicked (zga bf)) w2->Bad bf w2)))
  (herr:Hid (∀r j w,Inv r j w->w.cell? ⟨W.heap.size,0,none⟩=some .nilIface/\w.frozen? ⟨W.heap.size,0,none⟩=false))
  (hbad:Hid (∀bf w,Bad bf w->W.heap.size<w.heap.size/\w.cell? ⟨W.heap.size,0,none⟩=some .nilIface/\w.frozen? ⟨W.heap.size,0,none⟩=false)):
  Cl 28 #[.string s, .int .i64 most, .func (.func tk) #[ptr bt] #[]] W λe w'=>(e= .returned .nilIface/\ ∃j w1,j≠0/\Inv [] j w1/\w'=w1.setCell ⟨W.heap.size,0,none⟩ .nilIface)\/
   ∃bf w2,e= .returned (.iface 64 (ptr bf))/\Bad bf w2/\w'=(w2.alloc (.cells #[ptr bf] 153)).setCell ⟨W.heap.size,0,none⟩ (.iface 64 (ptr bf)):=by
 have hs': ¬most<(s.size:Int):=yai
 have hmf: ∀(fn:Fn) (first cap:Array Value) (w:World),(Instr.makeFunc fn first cap).run Tryz.prog w= .ok (.func fn first cap) w:=λ_ _ _ _=>rfl
 have hfall: ∀(bf:Nat) (w2:World) (tm:Array Value),Hid (tm[6]?.getD undef= .pointer (some ⟨W.heap.size,0,none⟩))->Bad bf w2->bodyPostD Tryz.prog Tryz.f28 (λe w'=>(e= .returned .nilIface/\ ∃j w1,j≠0/\Inv [] j w1/\w'=w1.setCell ⟨W.heap.size,0,none⟩ .nilIface)\/
   ∃bf w2,e= .returned (.iface 64 (ptr bf))/\Bad bf w2/\w'=(w2.alloc (.cells #[ptr bf] 153)).setCell ⟨W.heap.size,0,none⟩ (.iface 64 (ptr bf))) (.panic (zga bf)) {tmps:=tm,defers:=[{target:= .fn (.func 49) #[.pointer (some ⟨W.heap.size,0,none⟩)],args:=#[]}]} w2:=by
  intro bf w2 tm htm hB
  obtain ⟨b1,b2,b3⟩:=hbad.out bf w2 hB
  have c2:(w2.alloc (.cells #[.pointer (some ⟨bf,0,none⟩)] 153)).cell? ⟨W.heap.size,0,none⟩=some .nilIface:=(World.cell?_alloc_past _ _ _ b1).trans b2
  refine leaves_cons (f:=49) (args:=#[.pointer (some ⟨W.heap.size,0,none⟩)]) yaj (by simp [go_sem]) ?_
  refine (zjr ⟨W.heap.size,0,none⟩ bf .nilIface w2 c2 ((World.frozen?_alloc_past _ _ _ b1).trans b3)).mono ?_
  rintro e u' w'' ⟨rfl,rfl,rfl⟩
  refine ⟨.iface 64 (ptr bf),?_, .inr ⟨bf,w2,rfl,hB,rfl⟩⟩
  have h6:=htm.out
  simp [results,Tryz.results28,go_sem,h6,World.cell?_setCell_same _ _ _ c2]
 have HF:=hid hfall
 clear hfall
 go_enter_defers Tryz.func28,Tryz.ntmps28
 go_wp2
 go_loopw [0,7] (λv0 v7 wr=>∃(r:List UInt8) (j:Nat),v0= .string ⟨r.toArray⟩/\v7= .int .i64 (j+1)/\Inv r j wr/\j+r.length<=s.size) (λv0 _ _=>zzm v0)
 case atStart=>exact ⟨s.data.toList,0,by simp,rfl,h0.out,by simp⟩
 case round=>
  obtain ⟨r,j,rfl,rfl,hi,hjl⟩:=hrel
  have HI:=hid hi
  clear hi
  by_cases hr:r=[]/\j≠0
  ·obtain ⟨rfl,hj0⟩:=hr
   have hj: ¬(j:Int)+1=1:=yai
   have hee:(ByteArray.mk ([]:List UInt8).toArray).toList.isEmpty=true:=by rw [ByteArray.toList_eq];rfl
   obtain ⟨e1,e2⟩:=herr.out _ _ _ HI.out
   have hjb:(((j:Int)+1)==1)=false:=ya4
   go_wp2
   refine leaves_cons (f:=49) (args:=#[.pointer (some ⟨W.heap.size,0,none⟩)]) yaj (by simp [go_sem]) ?_
   refine (zjq ⟨W.heap.size,0,none⟩ _).mono ?_
   rintro e u' w'' ⟨rfl,rfl,rfl⟩
   refine ⟨.nilIface,?_, .inl ⟨rfl,j,wr,hj0,HI.out,rfl⟩⟩
   simp [results,Tryz.results28,go_sem,World.cell?_setCell_same wr _ _ e1]
  ·have hr':r≠[]\/j=0:=by
    by_cases e:r=[]
    ·exact .inr (Decidable.byContradiction λh=>hr ⟨e,h⟩)
    ·exact .inl e
   obtain ⟨l,r',b,hcu,hll,hgo,hno⟩:=hstep.out r j wr HI.out hr'
   have HG:=hid hgo
   have HN:=hid hno
   clear hgo hno
   have hj6:j<=1000000:=yai
   have hwr:wrap64 ((j:Int)+1+1)=(j:Int)+1+1:=by
    unfold wrap64;omega
   have hL:LineAt (((wr.drewN 0).alloc (.cells ((Ql l).map Value.string).toArray 9)).alloc (.cells #[.int .i64 (j+1), .slice (some ⟨wr.heap.size,0,none⟩) (Ql l).length (Ql l).length] 159)) (wr.heap.size+1) (j+1) wr.heap.size (Ql l):=zbq (w:=wr.drewN 0)
   have hcase:((((j:Int)+1)==1)=true)\/((((j:Int)+1)==1)=false/\r.isEmpty=false):=by
    by_cases e:j=0
    ·left;subst e;rfl
    ·right
     refine ⟨by simpa using (show ¬(j:Int)+1=1 by omega),?_⟩
     rcases hr' with h|h
     ·simpa using h
     ·exact absurd h e
   clear hL
   rcases hcase with hjb|⟨hjb,hie⟩
   all_goals
    go_wp2_with fail
    refine (hcut.out r j wr yai HI.out).mono ?_
    rintro e w1 ⟨rfl,n,rfl⟩
    rw [hcu]
    go_wp2_with fail
    refine (hsplit.out r j wr l n HI.out yai).mono ?_
    rintro e w1 ⟨rfl,rfl⟩
    cases b with
    |false=>
     have hL:LineAt (((wr.drewN n).alloc (.cells ((Ql l).map Value.string).toArray 9)).alloc (.cells #[.int .i64 (j+1), .slice (some ⟨wr.heap.size,0,none⟩) (Ql l).length (Ql l).length] 159)) (wr.heap.size+1) (j+1) wr.heap.size (Ql l):=zbq (w:=wr.drewN n)
     have HN2:=hid (HN.out rfl n)
     clear HN HG
     go_wp2_with fail
     refine (Jv hL 2).mono ?_
     rintro e w2 ⟨bf,rfl,hf⟩
     exact HF.out bf w2 _ rfl (HN2.out bf w2 ⟨bf,rfl,hf⟩)
    |true=>
     obtain ⟨hlt,hcall⟩:=HG.out rfl
     have HC:=hid (hcall n)
     clear hcall HG HN
     go_wp2_with fail
     refine HC.out.mono ?_
     rintro e w2 (⟨rfl,h2⟩|⟨bf,rfl,h2⟩)
     ·have H2:=hid h2
      clear h2 HC HI
      go_wp2
      go_roundw
      case rel=>exact ⟨r',j+1,rfl,by go_num,H2.out,by omega⟩
      case measure=>show r'.toArray.size<r.toArray.size;simpa using hlt
     ·exact HF.out bf w2 _ rfl h2
def RS.none:RS:=⟨[],0,[],[],[]⟩
theorem none_ok:RS.none.Ok 0 where
 opn:=⟨Nat.zero_le _,λj hj=>by simp [RS.none] at hj⟩
 ent:=⟨λh hh=>by simp [RS.none] at hh,λj hj=>by simp [RS.none] at hj,λj hj=>by simp [RS.none] at hj⟩
 thr:=λt ht=>by simp [RS.none] at ht
 ne:=λh=>absurd rfl h
 tn:=Nat.zero_le _
 sn:=Nat.zero_le _
 cn:=⟨Int.le_refl _,by simp [RS.none]⟩
 e14:=λj h hh=>by simp [RS.none] at hh
 eo:=λj hj=>by simp [RS.none] at hj
def Yc:Nat->List UInt8->Nat->RS->Except (Int×Int) RS
 |0,_,_,st=> .ok st
 |f+1,r,j,st=>if r=[]/\j≠0 then .ok st else match Lib.cut r [10] with
  |(_,_,false)=> .error (2,j+1)
  |(l,r',true)=>match Vq st (Ql l) with
   | .ok st'=>Yc f r' (j+1) st'
   | .error er=> .error (er,j+1)
def Jl(s:ByteArray):Except (Int×Int) RS:=if 2000<s.size then .error (1,0) else Yc (s.size+2) s.data.toList 0 RS.none
abbrev dom(B E:Nat)(w:World):Nat->Prop:=λk=>B<=k/\k≠E/\k<w.heap.size
structure PI(B:Nat)(WR:World)(br sb bs:Nat)(f:Nat)(r:List UInt8)(j:Nat)(st:RS)(w:World):Prop where
 fuel:r.length+1<=f
 len:j+r.length<=2000
 ok:st.Ok j
 m: ∃lab tv ov ms,RMach (dom B WR.heap.size w) lab w br sb bs tv ov st ms
 env:Env w
 low:Below B WR w
 ce:w.cell? ⟨WR.heap.size,0,none⟩=some .nilIface
 fe:w.frozen? ⟨WR.heap.size,0,none⟩=false
 lt:WR.heap.size<w.heap.size
def z5o(B:Nat)(WR:World)(br sb bs:Nat)(R:Except (Int×Int) RS)(r:List UInt8)(j:Nat)(w:World):Prop:=
 ∃f st,Yc f r j st=R/\PI B WR br sb bs f r j st w
def z4i(B:Nat)(WR:World)(R:Except (Int×Int) RS)(bf:Nat)(w:World):Prop:=
 ∃er ln,R= .error (er,ln)/\FaultAt w bf er ln/\WR.heap.size<bf/\Below B WR w/\w.cell? ⟨WR.heap.size,0,none⟩=some .nilIface/\w.frozen? ⟨WR.heap.size,0,none⟩=false/\WR.heap.size<w.heap.size
section
variable{B:Nat}{WR:World}{br sb bs:Nat}{R:Except (Int×Int) RS}{r:List UInt8}{j:Nat}{w:World}
theorem zr7(hB:10<=B)(hBW:B<=WR.heap.size)(h:z5o B WR br sb bs R r j w)(hr:r≠[]\/j=0):
  ∃l r' b,Lib.cut r [10]=(l,r',b)/\l.length<=r.length/\
   (b=true->r'.length<r.length/\ ∀n,Cl 29 #[ptr br,ptr (w.heap.size+1)] (((w.drewN n).alloc (.cells ((Ql l).map Value.string).toArray 9)).alloc (.cells #[.int .i64 (j+1), .slice (some ⟨w.heap.size,0,none⟩) (Ql l).length (Ql l).length] 159)) λe w2=>(e= .returned (.tuple #[])/\z5o B WR br sb bs R r' (j+1) w2)\/ ∃bf,e= .panicked (zga bf)/\z4i B WR R bf w2)/\
   (b=false->∀n bf w2,Fails 2 (j+1) (w.heap.size+1) (((w.drewN n).alloc (.cells ((Ql l).map Value.string).toArray 9)).alloc (.cells #[.int .i64 (j+1), .slice (some ⟨w.heap.size,0,none⟩) (Ql l).length (Ql l).length] 159)) (.panicked (zga bf)) w2->z4i B WR R bf w2):=by
 obtain ⟨f,st,hR,h⟩:=h
 have hf:=h.fuel
 obtain ⟨f,rfl⟩: ∃f',f=f'+1:=⟨f- 1,by omega⟩
 have hcond: ¬(r=[]/\j≠0):=λ⟨e1,e2⟩=>hr.elim (λh=>h e1) (λh=>e2 h)
 have hlen:=h.len
 have hlt:=h.lt
 have hl:=zql r 10
 generalize hcu:Lib.cut r [10]=q
 obtain ⟨l,r',b⟩:=q
 rw [hcu] at hl
 simp only at hl
 have hworld: ∀n,∃w1,w1=((w.drewN n).alloc (.cells ((Ql l).map Value.string).toArray 9)).alloc (.cells #[.int .i64 (j+1), .slice (some ⟨w.heap.size,0,none⟩) (Ql l).length (Ql l).length] 159)/\Below w.heap.size w w1/\LineAt w1 (w.heap.size+1) (j+1) w.heap.size (Ql l)/\w1.heap.size=w.heap.size+2:=by
  intro n
  exact ⟨_,rfl,((zjp w.heap.size w n).alloc (Nat.le_refl _) _).alloc yaj _,zbq (w:=w.drewN n),by simp⟩
 have hfall: ∀(w1:World) (er:Int) (bf:Nat) (w2:World),Below w.heap.size w w1->R= .error (er,(j:Int)+1)->Fails er (j+1) (w.heap.size+1) w1 (.panicked (zga bf)) w2->z4i B WR R bf w2:=by
  rintro w1 er bf w2 hb hR' ⟨bf',e1,e2,e3,e4,e5⟩
  have:bf'=bf:=by simpa [zga] using e1.symm
  subst this
  have hs:=hb.size
  have hc:Chg (Jo (w.heap.size+1)) w w2:=(Chg.of_below hb).trans e5
  refine ⟨er,(j:Int)+1,hR',⟨e3,e4⟩,by omega,h.low.trans (hc.below yai (λk i e=>by have:=e.1;omega)),(hc.cell _ 0 hlt (λe=>by omega)).trans h.ce,(hc.frozen _ 0 hlt).trans h.fe,Nat.lt_of_lt_of_le hlt hc.size⟩
 refine ⟨l,r',b,rfl,hl,?_,?_⟩
 ·rintro rfl
  have hr0:r≠[]:=λe=>by rw [e,zzo] at hcu;simp at hcu
  have hrl:=(z17 hcu hr0).1
  refine ⟨hrl,λn=>?_⟩
  obtain ⟨w1,hw1,hb,hL,hsz⟩:=hworld n
  rw [<-hw1]
  have hc1:Chg (λ_ _=>False) w w1:=Chg.of_below hb
  have hE1:Env w1:=h.env.keep hc1 (λ_ _ _ e=>e)
  have hR2:R=match Vq st (Ql l) with| .ok st'=>Yc f r' (j+1) st'| .error er=> .error (er,(j:Int)+1):=by rw [<-hR];simp only [Yc,if_neg hcond,hcu]
  obtain ⟨lab,tv,ov,ms,hm⟩:=h.m
  refine (zwr (D:=λk=>B<=k/\k≠WR.heap.size) (hm.keep hc1 (λ_ _ _ e=>e)) (λk hk=>⟨hk.1,hk.2.1⟩) (λk hk=>⟨by omega,by omega⟩) (λk hk=>by have:=hk.2.2;omega) ⟨by omega,by omega⟩ (λhd=>by have:=hd.2.2;omega) h.ok yai hE1 yai (zn0 yai) hL).mono ?_
  intro e w2 h2
  cases hg:Vq st (Ql l) with
  |error er=>
   rw [hg] at h2 hR2
   right
   obtain ⟨bf,he,h3⟩:=Fails.after (show Fails er (j+1) (w.heap.size+1) w1 e w2 from h2) (Chg.refl _ w1)
   exact ⟨bf,he,hfall w1 er bf w2 hb hR2 ⟨bf,rfl,h3⟩⟩
  |ok st'=>
   rw [hg] at h2 hR2
   left
   obtain ⟨rfl,⟨lab',tv',ov',ms',r2⟩,c2⟩:=h2
   have hlt1:WR.heap.size<w1.heap.size:=yai
   refine ⟨rfl,f,st',hR2.symm,{fuel:=by omega,len:=by omega,ok:=Ir h.ok hg,m:=⟨lab',tv',ov',ms',r2.newD (λk hk hkl=>⟨hk.1,hk.2,hkl⟩)⟩,env:=hE1.keep c2 (λk i hk e=>by have:=e.1;omega),low:=(h.low.trans (hb.mono yai)).trans (c2.below yai (λk i e=>e.1)),ce:=(c2.cell _ 0 hlt1 (λe=>e.2 rfl)).trans ((hc1.cell _ 0 hlt (λe=>e)).trans h.ce),fe:=(c2.frozen _ 0 hlt1).trans ((hc1.frozen _ 0 hlt).trans h.fe),lt:=Nat.lt_of_lt_of_le hlt1 c2.size}⟩
 ·rintro rfl n bf w2 hF
  obtain ⟨w1,hw1,hb,_,_⟩:=hworld n
  rw [<-hw1] at hF
  have hR2:R= .error (2,(j:Int)+1):=by rw [<-hR];simp only [Yc,if_neg hcond,hcu]
  exact hfall w1 2 bf w2 hb hR2 hF
end
theorem z0r: ∀args w,(callFunc 29 args).run Tryz.prog w= .ok (.enter 29 args) w:=λ_ _=>by kernel_rfl
theorem zav{B:Nat}{WR:World}{br sb bs:Nat}(hB:10<=B)(hBW:B<=WR.heap.size)(hE:Env WR){lab:Nat->Nat×Nat}{tv ov:Value}{ms:List HM}(hm:RMach (λk=>B<=k/\k<WR.heap.size) lab WR br sb bs tv ov RS.none ms)(s:ByteArray):
  Cl 28 #[.string s, .int .i64 2000, .func (.func 29) #[ptr br] #[]] WR λe w'=>match Jl s with
   | .ok st=>e= .returned .nilIface/\st.Ok 2000/\(∃lab tv ov ms,RMach (dom B WR.heap.size w') lab w' br sb bs tv ov st ms)/\Env w'/\Below B WR w'
   | .error (er,ln)=>∃bf,e= .returned (.iface 64 (ptr bf))/\WR.heap.size<bf/\FaultAt w' bf er ln/\Below B WR w':=by
 by_cases hlong:2000<s.size
 ·rw [show Jl s= .error (1,0) from by unfold Jl;rw [if_pos hlong]]
  refine (zgc WR s 2000 _ yai).mono ?_
  rintro e w' ⟨bf,rfl,h1,h2,h3⟩
  exact ⟨bf,rfl,h1,h2,h3.mono hBW⟩
 have hs': ∀l:List UInt8,l.length<=s.size->(⟨l.toArray⟩:ByteArray).size<4294967281:=λl hl=>by
  have:(⟨l.toArray⟩:ByteArray).size=l.length:=ybv
  omega
 have hlen:s.data.toList.length=s.size:=ybz
 have hgc:Jl s=Yc (s.size+2) s.data.toList 0 RS.none:=by unfold Jl;rw [if_neg hlong]
 have hw0:Below WR.heap.size WR (WR.alloc (.cells #[.nilIface] 44)):=(Below.refl _ WR).alloc (Nat.le_refl _) _
 have k:=zor WR s 2000 29 br (z5o B WR br sb bs (Jl s)) (z4i B WR (Jl s)) yai yai z0r ?_ ?_ ?_ ?_ ?_ ?_
 ·refine k.mono ?_
  rintro e w' (⟨rfl,j,w1,hj,⟨f,st,hR,h⟩,rfl⟩|⟨bf,w2,rfl,⟨er,ln,hbad,b1,b2,b3,b4,b5,b6⟩,rfl⟩)
  ·have hf:=h.fuel
   obtain ⟨f,rfl⟩: ∃f',f=f'+1:=⟨f- 1,by omega⟩
   simp only [Yc,ne_eq,hj,not_false_eq_true,and_self,if_true] at hR
   rw [<-hR]
   have hset:Chg (λq i=>q=WR.heap.size/\i=0) w1 (w1.setCell ⟨WR.heap.size,0,none⟩ .nilIface):=(Chg.refl _ w1).setCell (λ_=>⟨rfl,rfl⟩) _
   obtain ⟨lab,tv,ov,ms,hm⟩:=h.m
   refine ⟨rfl,Ok.mono h.ok (by have:=h.len;omega),⟨lab,tv,ov,ms,(hm.keep hset (λk i hk e=>hk.2.1 e.1)).newD (λk hk hl=>⟨hk.1,hk.2.1,hl⟩)⟩,h.env.keep hset (λk i hk e=>by have:=e.1;omega),h.low.trans (hset.below (by have:=h.lt;omega) (λq i e=>by have:=e.1;omega))⟩
  ·rw [hbad]
   have hc:Chg (λq i=>q=WR.heap.size/\i=0) w2 ((w2.alloc (.cells #[ptr bf] 153)).setCell ⟨WR.heap.size,0,none⟩ (.iface 64 (ptr bf))):=((Chg.refl _ w2).alloc _).setCell (λ_=>⟨rfl,rfl⟩) _
   exact ⟨bf,rfl,b2,FaultAt.keep b1 hc (λi e=>by have:=e.1;omega),b3.trans (hc.below yai (λq i e=>by have:=e.1;omega))⟩
 ·refine hid ⟨s.size+2,RS.none,hgc.symm,{fuel:=by omega,len:=by omega,ok:=none_ok,m:=⟨lab,tv,ov,ms,?_⟩,env:=hE.keep (M:=λ_ _=>False) (Chg.of_below hw0) (λ_ _ _ e=>e),low:=hw0.mono hBW,ce:=World.cell?_alloc_new _ _ _ 0,fe:=by simp,lt:=by simp}⟩
  exact (hm.below hw0).newD (λk hk _=>⟨hk.1,by have:=hk.2;omega,by have:=hk.2;simp;omega⟩)
 ·refine hid λr j w hr hi=>?_
  obtain ⟨f,st,hR,h⟩:=hi
  obtain ⟨m,hmx⟩:=h.env.max
  exact Tryz.strings_Cut ⟨r.toArray⟩ ⟨#[10]⟩ m w (hs' r hr) hmx
 ·refine hid λr j w l n hi hl=>?_
  obtain ⟨f,st,hR,h⟩:=hi
  obtain ⟨m,hmx⟩:=h.env.max
  have hk:=Tryz.strings_Split ⟨l.toArray⟩ ⟨#[32]⟩ m (w.drewN n) (hs' l hl) hmx yal
  rw [zdm]
  exact hk
 ·exact hid λr j w hi hr=>zr7 hB hBW hi hr
 ·refine hid ?_
  rintro r j w ⟨f,st,hR,h⟩
  exact ⟨h.ce,h.fe⟩
 ·refine hid ?_
  rintro bf w ⟨er,ln,hbad,b1,b2,b3,b4,b5,b6⟩
  exact ⟨b6,b4,b5⟩
section
variable{st st':RS}{k:Nat}{s:St}
theorem zws(hok:st.Ok k)(h:st.Deep)(hloop: ∀n,s=St.loop n->1<=n/\n<=4)(hg:gSt st s= .ok st'):st'.Deep:=by
 obtain ⟨lv,h⟩:=h
 unfold gSt at hg
 split at hg
 ·simp at hg
 ·cases hl:st.lastT with
  |none=>simp [hl] at hg
  |some p=>
   obtain ⟨t,l,c⟩:=p
   cases ho:st.opn.getLast? with
   |none=>simp [hl,ho] at hg
   |some o=>
    rw [hl,ho] at hg
    simp only at hg
    split at hg
    ·simp at hg
    ·split at hg
     ·simp at hg
     ·rename_i hr
      obtain ⟨ol,hol⟩:=List.getLast?_eq_some_iff.1 ho
      have:st.lay t o l c s=st':=by simpa using hg
      rw [<-this]
      exact h.lay hok hl hol (by simpa using hr) hloop
theorem DeepL.share{lv:Nat->Nat}(h:DeepL st lv)(x:ByteArray)(c:Int):RS.Deep {st with shared:=st.shared++[(x,st.cells,c)],cells:=st.cells+c}:=
 ⟨lv,{nest:=h.nest,le:=h.le,op:=h.op,leaf:=h.leaf,loop:=h.loop,thr:=h.thr}⟩
theorem zkk{ws:List ByteArray}(hok:st.Ok k)(h:st.Deep)(hg:Vq st ws= .ok st'):st'.Deep:=by
 have hD:=h
 obtain ⟨lv,h⟩:=h
 unfold Vq at hg
 rcases ws with _|⟨u,us⟩
 ·simp at hg
 ·simp only at hg
  split at hg
  ·unfold Iq at hg
   cases hn:gNm us with
   |none=>simp [hn] at hg
   |some p=>
    obtain ⟨x,us1⟩:=p
    rw [hn] at hg
    rcases us1 with _|⟨u1,us1⟩
    ·simp only at hg
     split at hg
     ·simp at hg
     ·split at hg
      ·simp at hg
      ·simp only [Except.ok.injEq] at hg
       rw [<-hg];exact h.share x 1
    ·simp only at hg
     cases hi:gIn 1 6 (u1::us1) with
     |none=>simp [hi] at hg
     |some q=>
      obtain ⟨v,us2⟩:=q
      rw [hi] at hg
      rcases us2 with _|⟨u2,us2⟩
      ·simp only at hg
       split at hg
       ·simp at hg
       ·split at hg
        ·simp at hg
        ·simp only [Except.ok.injEq] at hg
         rw [<-hg];exact h.share x v
      ·simp at hg
  ·split at hg
   ·exact z86
   ·split at hg
    ·exact z88
    ·cases hs:Zs u us with
     |none=>simp [hs] at hg
     |some p=>
      obtain ⟨s,us1⟩:=p
      rw [hs] at hg
      rcases us1 with _|⟨u1,us1⟩
      ·exact zws hok hD (λn e=>zfq (e▸hs)) hg
      ·simp at hg
end
theorem zd6: ∀(f:Nat) (r:List UInt8) (j:Nat) (st st':RS),st.Ok j->st.Deep->Yc f r j st= .ok st'->st'.Deep
 |0,_,_,st,st',_,hd,h=>by simp only [Yc,Except.ok.injEq] at h;exact h▸hd
 |f+1,r,j,st,st',ho,hd,h=>by
  simp only [Yc] at h
  split at h
  ·simp only [Except.ok.injEq] at h;exact h▸hd
  ·generalize Lib.cut r [10]=q at h
   obtain ⟨l,r',b⟩:=q
   cases b with
   |false=>simp at h
   |true=>
    simp only at h
    cases hg:Vq st (Ql l) with
    |error er=>simp [hg] at h
    |ok st2=>
     rw [hg] at h
     exact zd6 f r' (j+1) st2 st' (Ir ho hg) (zkk ho hd hg) h
theorem zkl{s:ByteArray}{st:RS}(h:Jl s= .ok st):st.Deep:=by
 unfold Jl at h
 split at h
 ·simp at h
 ·exact zd6 _ _ 0 RS.none st none_ok zrp h
def zb0(j:Nat):En->Bool
 | .inl _=>false
 | .inr k=>decide (k=j)
def wtE(wt:Nat->Nat):En->Nat
 | .inl _=>1
 | .inr j=>1+wt j
def RS.isAt(st:RS)(j:Nat):Bool:=((st.hk j).map HK.isAtomic).getD false
structure z0s(st:RS)(b:Bool)(s:St):Prop where
 nh:Qf s=false
 sz:zl9 s
 nm:zop s
 of: ∀f,Xg s=some f->b=true/\st.isSh f=true
structure z3l(b b':Bool)(s:St):Prop where
 hh:Qf s=true
 sz:zl9 s
 nm:zop s
 lp: ∀n,s=St.loop n->1<=n/\n<=4
 at1:HK.isAtomic (.st s)=true->b=false/\b'=true
 at0:HK.isAtomic (.st s)=false->b'=b
structure Fit(st:RS)(lv:Nat->Nat)(ib:Nat->Bool)(wt:Nat->Nat):Prop where
 nest: ∀(i:Nat) (h:Hd),st.hs[i]?=some h->∀j, .inr j∈h.ents->lv j=lv i+1/\ ∃s,st.hk j=some (.st s)/\z3l (ib i) (ib j) s
 le: ∀i,i<st.hs.length->lv i<=3
 op: ∀(m j:Nat),st.opn[m]?=some j->lv j=m/\ib j=(st.opn.take (m+1)).any st.isAt
 hd: ∀j,st.opn[0]?=some j->st.threads.getLast?=some j
 leaf: ∀(i:Nat) (h:Hd),st.hs[i]?=some h->∀s, .inl s∈h.ents->z0s st (ib i) s
 thr: ∀t∈st.threads,lv t=0/\ib t=false
 occ: ∀j∈st.opn,∀(i:Nat) (h:Hd),st.hs[i]?=some h->h.ents.countP (zb0 j)<=1/\(.inr j∈h.ents->i∈st.opn)
 w: ∀(i:Nat) (h:Hd),st.hs[i]?=some h->(h.ents.map (wtE wt)).sum<=wt i
 c: ∀t∈st.threads,∀l c,st.hk t=some (.thr l c)->wt t<=c
 sh: ∀p∈st.shared,0<=p.2.1/\1<=p.2.2/\p.2.1+p.2.2<=st.cells
def RS.Fits(st:RS):Prop:=∃lv ib wt,Fit st lv ib wt
theorem zr8:RS.none.Fits:=⟨λ_=>0,λ_=>false,λ_=>0,⟨λi h hh=>by simp [RS.none] at hh,λi hi=>by simp [RS.none] at hi,λm j hj=>by simp [RS.none] at hj,λj hj=>by simp [RS.none] at hj,λi h hh=>by simp [RS.none] at hh,λt ht=>by simp [RS.none] at ht,λj hj=>by simp [RS.none] at hj,λi h hh=>by simp [RS.none] at hh,λt ht=>by simp [RS.none] at ht,λp hp=>by simp [RS.none] at hp⟩⟩
theorem zh6{α:Type}{f g:α->Bool}: ∀(l:List α),(∀x∈l,f x=g x)->l.any f=l.any g
 |[],_=>rfl
 |a::r,h=>by
  rw [List.any_cons,List.any_cons,h a yaj,zh6 r λx hx=>h x (List.mem_cons_of_mem _ hx)]
theorem zr9(wt wt':Nat->Nat)(es:List En)(h: ∀j, .inr j∈es->wt' j=wt j):(es.map (wtE wt')).sum=(es.map (wtE wt)).sum:=by
 congr 1
 apply List.map_congr_left
 intro e he
 cases e with
 |inl s=>rfl
 |inr j=>simp only [wtE];rw [h j he]
theorem zsa(wt wt':Nat->Nat)(j:Nat): ∀(es:List En),(∀i, .inr i∈es->wt' i=wt i+if i=j then 1 else 0)->(es.map (wtE wt')).sum=(es.map (wtE wt)).sum+es.countP (zb0 j)
 |[],_=>by simp
 |e::r,h=>by
  have hr:=zsa wt wt' j r λi hi=>h i (List.mem_cons_of_mem _ hi)
  cases e with
  |inl s=>
   simp only [List.map_cons,List.sum_cons,wtE,List.countP_cons,zb0]
   rw [hr]
   simp
   omega
  |inr i=>
   have hi:=h i yaj
   simp only [List.map_cons,List.sum_cons,wtE,List.countP_cons,zb0]
   rw [hr,hi]
   by_cases e:i=j
   ·simp [e];omega
   ·simp [e];omega
section
variable{st st':RS}{lv:Nat->Nat}{ib:Nat->Bool}{wt:Nat->Nat}{k t o:Nat}{l l':List ByteArray}{c:Nat}{s:St}
def zwt(st:RS)(lv:Nat->Nat)(ib:Nat->Bool)(wt:Nat->Nat)(o:Nat):En->Prop
 | .inl s=>z0s st (ib o) s
 | .inr j=>lv j=lv o+1/\(∃s,st.hk j=some (.st s)/\z3l (ib o) (ib j) s)/\j∉st.opn/\wt j=0
theorem Fit.mem(h:Fit st lv ib wt){j:Nat}(hj:j∈st.opn):st.opn[lv j]?=some j:=by
 obtain ⟨m,hm⟩:=List.mem_iff_getElem?.1 hj
 rw [(h.op m j hm).1]
 exact hm
theorem Fit.upd(h:Fit st lv ib wt)(hl:st.lastT=some (t,l,c)){ol:List Nat}(ho:st.opn=ol++[o])(e:En)(he:zwt st lv ib wt o e)
  (hsame:st'.shared=st.shared/\st'.cells=st.cells/\st'.threads=st.threads/\st'.opn=st.opn) (hlen:st'.hs.length=st.hs.length) (hget: ∀j,st'.hs[j]?=(st.hs[j]?).map (Zv t o (.thr l' (c+1)) e j)):
  Fit st' lv ib (λi=>wt i+if i∈st.opn then 1 else 0):=by
 obtain ⟨s1,s2,s3,s4⟩:=hsame
 obtain ⟨tl,htl,hkt⟩:=Us hl
 have hom:o∈st.opn:=yas
 have hkj: ∀j,st'.hk j=(st.hk j).map λq=>if j=t then .thr l' (c+1) else q:=z97
 have hinv: ∀(j:Nat) (x:Hd),st'.hs[j]?=some x->∃y,st.hs[j]?=some y/\x=Zv t o (.thr l' (c+1)) e j y:=z8c
 have hst: ∀j s,st.hk j=some (.st s)->st'.hk j=some (.st s):=by
  intro j s hj
  have:j≠t:=λe=>by rw [e,hkt] at hj;simp at hj
  rw [hkj,hj]
  simp [this]
 have hat: ∀j,st'.isAt j=st.isAt j:=by
  intro j
  unfold RS.isAt
  rw [hkj]
  by_cases e1:j=t
  ·subst e1;rw [hkt];simp [HK.isAtomic]
  ·simp [e1]
 have hlf: ∀{b s},z0s st b s->z0s st' b s:=λq=>⟨q.nh,q.sz,q.nm,λf hf=>⟨(q.of f hf).1,by unfold RS.isSh;rw [s1];exact (q.of f hf).2⟩⟩
 have hlo:lv o=ol.length:=(h.op ol.length o yas).1
 have hopl:st.opn.length=ol.length+1:=yas
 have hpar: ∀(i:Nat) (y:Hd),st.hs[i]?=some y->∀j∈st.opn, .inr j∈y.ents->i∈st.opn/\i≠o/\ ∀j'∈st.opn, .inr j'∈y.ents->j'=j:=by
  intro i y hy j hj hm
  have l1:=(h.nest i y hy j hm).1
  have m1:=h.mem hj
  have lt1:=(List.getElem?_eq_some_iff.1 m1).1
  refine ⟨(h.occ j hj i y hy).2 hm,λe1=>?_,λj' hj' hm'=>?_⟩
  ·subst e1;omega
  ·have l2:=(h.nest i y hy j' hm').1
   have m2:=h.mem hj'
   rw [l2,<-l1,m1] at m2
   simpa using m2.symm
 have hsum: ∀(i:Nat) (y:Hd),st.hs[i]?=some y->(y.ents.map (wtE λi=>wt i+if i∈st.opn then 1 else 0)).sum<=(y.ents.map (wtE wt)).sum+(if i∈st.opn/\i≠o then 1 else 0):=by
  intro i y hy
  by_cases hex: ∃j∈st.opn, .inr j∈y.ents
  ·obtain ⟨j,hj,hm⟩:=hex
   obtain ⟨p1,p2,p3⟩:=hpar i y hy j hj hm
   rw [if_pos ⟨p1,p2⟩,zsa wt _ j]
   ·have:=(h.occ j hj i y hy).1
    omega
   ·intro i' hi'
    by_cases e1:i'=j
    ·subst e1;simp [hj]
    ·have:i'∉st.opn:=λq=>e1 (p3 i' q hi')
     simp [this,e1]
  ·rw [zr9 wt _]
   ·omega
   ·intro j hj
    have:j∉st.opn:=λq=>hex ⟨j,q,hj⟩
    simp [this]
 refine {nest:=?_,le:=by rw [hlen];exact h.le,op:=?_,hd:=by rw [s4,s3];exact h.hd,leaf:=?_,thr:=by rw [s3];exact h.thr,occ:=?_,w:=?_,c:=?_,sh:=by rw [s1,s2];exact h.sh}
 ·intro i x hx j hj
  obtain ⟨y,hy,rfl⟩:=hinv i x hx
  simp only [Zv] at hj
  by_cases e1:i=o
  ·rw [if_pos e1,List.mem_append] at hj
   rcases hj with hj|hj
   ·obtain ⟨q1,s,q2,q3⟩:=h.nest i y hy j hj
    exact ⟨q1,s,hst j s q2,q3⟩
   ·have:e= .inr j:=by simp at hj;exact hj.symm
    subst this
    obtain ⟨q1,⟨s,q2,q3⟩,_⟩:=he
    exact ⟨e1▸q1,s,hst j s q2,e1▸q3⟩
  ·exact z94
 ·intro m j hj
  rw [s4] at hj⊢
  obtain ⟨q1,q2⟩:=h.op m j hj
  exact ⟨q1,q2.trans (zh6 _ λx _=>(hat x).symm)⟩
 ·intro i x hx s hs
  obtain ⟨y,hy,rfl⟩:=hinv i x hx
  simp only [Zv] at hs
  by_cases e1:i=o
  ·rw [if_pos e1,List.mem_append] at hs
   rcases hs with hs|hs
   ·exact hlf (h.leaf i y hy s hs)
   ·have:e= .inl s:=by simp at hs;exact hs.symm
    subst this
    exact e1▸hlf he
  ·rw [if_neg e1] at hs
   exact hlf (h.leaf i y hy s hs)
 ·intro j hj i x hx
  rw [s4] at hj⊢
  obtain ⟨y,hy,rfl⟩:=hinv i x hx
  have hej:zb0 j e=false:=by
   cases e with
   |inl s=>rfl
   |inr n=>
    have:n≠j:=λq=>he.2.2.1 (q▸hj)
    simp [zb0,this]
  simp only [Zv]
  obtain ⟨o1,o2⟩:=h.occ j hj i y hy
  by_cases e1:i=o
  ·rw [if_pos e1,List.countP_append,List.countP_singleton,hej]
   refine ⟨by simpa using o1,λhm=>?_⟩
   rw [e1]
   exact hom
  ·rw [if_neg e1]
   exact ⟨o1,o2⟩
 ·intro i x hx
  obtain ⟨y,hy,rfl⟩:=hinv i x hx
  have hs:=hsum i y hy
  have hw:=h.w i y hy
  simp only [Zv]
  by_cases e1:i=o
  ·have hn: ¬(i∈st.opn/\i≠o):=λq=>q.2 e1
   rw [if_neg hn] at hs
   rw [if_pos e1,List.map_append,List.sum_append,if_pos (show i∈st.opn from e1▸hom)]
   have hee:wtE (λi=>wt i+if i∈st.opn then 1 else 0) e=1:=by
    cases e with
    |inl s=>rfl
    |inr n=>
     have:=he.2.2
     simp [wtE,this.1,this.2]
   simp only [List.map_cons,List.map_nil,List.sum_cons,List.sum_nil,hee]
   omega
  ·rw [if_neg e1]
   by_cases e2:i∈st.opn
   ·rw [if_pos ⟨e2,e1⟩] at hs
    rw [if_pos e2]
    omega
   ·rw [if_neg (λq=>e2 q.1)] at hs
    rw [if_neg e2]
    omega
 ·intro t2 ht2 l2 c2 hk2
  rw [s3] at ht2
  rw [hkj] at hk2
  by_cases e1:t2=t
  ·subst e1
   rw [hkt] at hk2
   simp at hk2
   have:=h.c t2 ht2 l c hkt
   show wt t2+_<=c2
   split<;>omega
  ·have hk3:st.hk t2=some (.thr l2 c2):=by
    cases hq:st.hk t2 with
    |none=>simp [hq] at hk2
    |some q=>simpa [hq,e1] using hk2
   have hno:t2∉st.opn:=by
    intro hm
    have m1:=h.mem hm
    rw [(h.thr t2 ht2).1] at m1
    have:=h.hd t2 m1
    rw [htl] at this
    simp at this
    exact e1 this.symm
   have:=h.c t2 ht2 l2 c2 hk3
   show wt t2+_<=c2
   rw [if_neg hno]
   omega
end
end Go.Proofs.YtphcopbffecceaaGreatDoor
