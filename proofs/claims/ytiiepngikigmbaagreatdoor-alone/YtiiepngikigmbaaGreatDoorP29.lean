import Derived.Test.YtiiepngikigmbaaGreatDoorP27
import Derived.Test.YtiiepngikigmbaaGreatDoorP28
set_option maxRecDepth 100000
set_option maxHeartbeats 4000000
namespace Go.Proofs.YtiiepngikigmbaaGreatDoor
open Go.RowKit
variable{a:PV}{f j o:Nat}{of to:ByteArray}{k:Bk}{n:Int}
section
variable{W w w':World}{x:Cx}{K:List (Nat×Nat×Value)}{m:Cm}{c:Nat}{s:Ck}
theorem Cw.env(h:Cw W x K w c s)(hE:Env W):Env w:=hE.below h.low
theorem z23(hE:Env w)(ho:o<12):Cl 93 #[.int .i64 (o:Int)] w λe w'=>e= .returned (.string (Jc o))/\w'=w:=by
 have hc:=hE.words o ho
 have h0:(0:Int)<=(o:Int):=yl5
 have h1:(o:Int)<12:=yl5
 clear hE
 go_enter Tryz.func93,Tryz.ntmps93
 go_wp2
 go_ret
 exact ⟨rfl,rfl⟩
theorem z6a(ho:o<12):(Jc o).size<=30:=by
 have:o=0\/o=1\/o=2\/o=3\/o=4\/o=5\/o=6\/o=7\/o=8\/o=9\/o=10\/o=11:=yl5
 rcases this with rfl|rfl|rfl|rfl|rfl|rfl|rfl|rfl|rfl|rfl|rfl|rfl<;>decide
theorem zvw(h:Cw W x K w c s)(hto:to.size<=maxLen)(ha:a.ok)(hG:s.g+300<1000000):
  Cl 59 #[ptr c,stV (.inl (to,a))] w λe w'=>e= .returned (.tuple #[])/\Cw W x K w' c (s.add [zdp,x.local to,x.val a]):=by
 have hst:=zdt h.base to
 have hsa:=zaj h.base ha
 have HT:=hid (λ(K:List (Nat×Nat×Value)) (w:World) (s:Ck) (h:Cw W x K w c s)=>zdr h hto)
 have HA:=hid (λ(K:List (Nat×Nat×Value)) (w:World) (s:Ck) (h:Cw W x K w c s)=>Yq h ha)
 have H0:=hid (h.box [.string to, .string a.name, .int .i64 a.num] 213)
 have lb:=h.lt
 clear h ha
 obtain ⟨nm,num⟩:=a
 dsimp only at H0 HA hsa⊢
 unfold stV
 have t0:=Ih
 go_enter Tryz.func59,Tryz.ntmps59
 go_wp2_with fail
 generalize hwb:w.alloc (Obj.cells #[.string to, .string nm, .int .i64 num] 213)=wb at*
 generalize w.heap.size=bs at*
 have e0:=H0.out.kept (b:=bs) (o:=0) (v:= .string to) yl9
 have e1:=H0.out.kept (b:=bs) (o:=1) (v:= .string nm) yl9
 have e2:=H0.out.kept (b:=bs) (o:=2) (v:= .int .i64 num) yl9
 go_region_held3 (λw'=>w'.cell? ⟨bs,0,none⟩=some (.string to)/\w'.cell? ⟨bs,1,none⟩=some (.string nm)/\w'.cell? ⟨bs,2,none⟩=some (.int .i64 num)) (go_keep)
  (first
   |(go_at_call 91;refine (HT.out _ _ _ H0.out.drew).mono ?_;rintro e w1 ⟨rfl,q⟩;have H1:=hid q;clear q;have e0a:=H1.out.kept (b:=bs) (o:=0) (v:= .string to) yl9;have e1a:=H1.out.kept (b:=bs) (o:=1) (v:= .string nm) yl9;have e2a:=H1.out.kept (b:=bs) (o:=2) (v:= .int .i64 num) yl9)
   |(go_at_call 92;refine (HA.out _ _ _ H1.out).mono ?_;rintro e w2 ⟨rfl,q⟩;have H2:=hid q;clear q;have e0b:=H2.out.kept (b:=bs) (o:=0) (v:= .string to) yl9;have e1b:=H2.out.kept (b:=bs) (o:=1) (v:= .string nm) yl9;have e2b:=H2.out.kept (b:=bs) (o:=2) (v:= .int .i64 num) yl9)
   |(go_at_call 60;refine (Qp H2.out [zdp,x.local to,x.val ⟨nm,num⟩] yl6 ⟨by decide,hst,hsa,trivial⟩ yl5).mono ?_;rintro e w3 ⟨rfl,q⟩;have H3:=hid q;clear q;have e0c:=H3.out.kept (b:=bs) (o:=0) (v:= .string to) yl9;have e1c:=H3.out.kept (b:=bs) (o:=1) (v:= .string nm) yl9;have e2c:=H3.out.kept (b:=bs) (o:=2) (v:= .int .i64 num) yl9))
 all_goals
  go_wp2
  go_end0
  exact ⟨rfl,H3.out.unbox⟩
theorem zz9(h:Cw W x K w c s)(hE:Env W)(hto:to.size<=maxLen)(ho:o<12){b:PV}(ha:a.ok)(hb:b.ok)(hG:s.g+300<1000000):
  Cl 59 #[ptr c,stV (.inr (.inl (to,o,a,b)))] w λe w'=>e= .returned (.tuple #[])/\Cw W x K w' c (s.add [Jc o,x.local to,x.val a,x.val b]):=by
 have hst:=zdt h.base to
 have hsa:=zaj h.base ha
 have hsb:=zaj h.base hb
 have hso:=z6a ho
 have HW:=hid (λ(K:List (Nat×Nat×Value)) (w:World) (s:Ck) (h:Cw W x K w c s)=>z23 (h.env hE) ho)
 have HT:=hid (λ(K:List (Nat×Nat×Value)) (w:World) (s:Ck) (h:Cw W x K w c s)=>zdr h hto)
 have HA:=hid (λ(K:List (Nat×Nat×Value)) (w:World) (s:Ck) (h:Cw W x K w c s)=>Yq h ha)
 have HB:=hid (λ(K:List (Nat×Nat×Value)) (w:World) (s:Ck) (h:Cw W x K w c s)=>Yq h hb)
 have H0:=hid (h.box [.string to, .int .i64 (o:Int), .string a.name, .int .i64 a.num, .string b.name, .int .i64 b.num] 217)
 have lb:=h.lt
 clear h ha hb hE
 obtain ⟨nm,num⟩:=a
 obtain ⟨nm2,num2⟩:=b
 dsimp only at H0 HA HB hsa hsb⊢
 unfold stV
 have t0:=Ua
 have t1:=Zz
 go_enter Tryz.func59,Tryz.ntmps59
 go_wp2_with fail
 generalize hwb:w.alloc (Obj.cells #[.string to, .int .i64 (o:Int), .string nm, .int .i64 num, .string nm2, .int .i64 num2] 217)=wb at*
 generalize w.heap.size=bs at*
 have e0:=H0.out.kept (b:=bs) (o:=0) (v:= .string to) yl9
 have e1:=H0.out.kept (b:=bs) (o:=1) (v:= .int .i64 (o:Int)) yl9
 have e2:=H0.out.kept (b:=bs) (o:=2) (v:= .string nm) yl9
 have e3:=H0.out.kept (b:=bs) (o:=3) (v:= .int .i64 num) yl9
 have e4:=H0.out.kept (b:=bs) (o:=4) (v:= .string nm2) yl9
 have e5:=H0.out.kept (b:=bs) (o:=5) (v:= .int .i64 num2) yl9
 go_region_held3 (λw'=>w'.cell? ⟨bs,0,none⟩=some (.string to)/\w'.cell? ⟨bs,1,none⟩=some (.int .i64 (o:Int))/\w'.cell? ⟨bs,2,none⟩=some (.string nm)/\w'.cell? ⟨bs,3,none⟩=some (.int .i64 num)/\w'.cell? ⟨bs,4,none⟩=some (.string nm2)/\w'.cell? ⟨bs,5,none⟩=some (.int .i64 num2)) (go_keep)
  (first
   |(go_at_call 93;refine (HW.out _ _ _ H0.out.drew).mono ?_;rintro e w0 ⟨rfl,rfl⟩;have H4:=hid H0.out.drew;clear H0)
   |(go_at_call 91;refine (HT.out _ _ _ H4.out).mono ?_;rintro e w1 ⟨rfl,q⟩;have H1:=hid q;clear q H4;have e0a:=H1.out.kept (b:=bs) (o:=0) (v:= .string to) yl9;have e1a:=H1.out.kept (b:=bs) (o:=1) (v:= .int .i64 (o:Int)) yl9;have e2a:=H1.out.kept (b:=bs) (o:=2) (v:= .string nm) yl9;have e3a:=H1.out.kept (b:=bs) (o:=3) (v:= .int .i64 num) yl9;have e4a:=H1.out.kept (b:=bs) (o:=4) (v:= .string nm2) yl9;have e5a:=H1.out.kept (b:=bs) (o:=5) (v:= .int .i64 num2) yl9)
   |(go_at_call 92;refine (HA.out _ _ _ H1.out).mono ?_;rintro e w2 ⟨rfl,q⟩;have H2:=hid q;clear q H1;have e0b:=H2.out.kept (b:=bs) (o:=0) (v:= .string to) yl9;have e1b:=H2.out.kept (b:=bs) (o:=1) (v:= .int .i64 (o:Int)) yl9;have e2b:=H2.out.kept (b:=bs) (o:=2) (v:= .string nm) yl9;have e3b:=H2.out.kept (b:=bs) (o:=3) (v:= .int .i64 num) yl9;have e4b:=H2.out.kept (b:=bs) (o:=4) (v:= .string nm2) yl9;have e5b:=H2.out.kept (b:=bs) (o:=5) (v:= .int .i64 num2) yl9)
   |(go_at_call 92;refine (HB.out _ _ _ H2.out).mono ?_;rintro e w3 ⟨rfl,q⟩;have H3:=hid q;clear q H2;have e0c:=H3.out.kept (b:=bs) (o:=0) (v:= .string to) yl9;have e1c:=H3.out.kept (b:=bs) (o:=1) (v:= .int .i64 (o:Int)) yl9;have e2c:=H3.out.kept (b:=bs) (o:=2) (v:= .string nm) yl9;have e3c:=H3.out.kept (b:=bs) (o:=3) (v:= .int .i64 num) yl9;have e4c:=H3.out.kept (b:=bs) (o:=4) (v:= .string nm2) yl9;have e5c:=H3.out.kept (b:=bs) (o:=5) (v:= .int .i64 num2) yl9)
   |(go_at_call 60;refine (Qp H3.out [Jc o,x.local to,x.val ⟨nm,num⟩,x.val ⟨nm2,num2⟩] yl6 ⟨hso,hst,hsa,hsb,trivial⟩ yl5).mono ?_;rintro e w5 ⟨rfl,q⟩;have H5:=hid q;clear q;have e0d:=H5.out.kept (b:=bs) (o:=0) (v:= .string to) yl9;have e1d:=H5.out.kept (b:=bs) (o:=1) (v:= .int .i64 (o:Int)) yl9;have e2d:=H5.out.kept (b:=bs) (o:=2) (v:= .string nm) yl9;have e3d:=H5.out.kept (b:=bs) (o:=3) (v:= .int .i64 num) yl9;have e4d:=H5.out.kept (b:=bs) (o:=4) (v:= .string nm2) yl9;have e5d:=H5.out.kept (b:=bs) (o:=5) (v:= .int .i64 num2) yl9))
 all_goals
  go_wp2
  go_end0
  exact ⟨rfl,H5.out.unbox⟩
theorem zvx(h:Cw W x K w c s)(hof:of.size<=maxLen){v:PV}(ha:a.ok)(hv:v.ok)(hf:0<=(x.var of).1/\(x.var of).1<=6/\0<=(x.var of).2/\(x.var of).2<=6)(hG:s.g+300<1000000):
  Cl 59 #[ptr c,stV (.inr (.inr (.inr (.inl (of,a,v)))))] w λe w'=>e= .returned (.tuple #[])/\Cw W x K w' c (x.put of a v s):=by
 have KC:=hid (z45 (h.alloc (.cells #[.string of, .string a.name, .int .i64 a.num, .string v.name, .int .i64 v.num] 194)) hof ha hv hf yl5)
 clear h
 unfold stV
 have t0:=Im
 have t1:=Ud
 have t2:=Gp
 have t3:=Gq
 go_enter Tryz.func59,Tryz.ntmps59
 go_wp2_with fail
 refine KC.out.mono ?_
 rintro e w1 ⟨rfl,q⟩
 have H1:=hid q
 clear q KC
 go_wp2
 go_end0
 exact ⟨rfl,H1.out⟩
theorem zq7(h:Cw W x K w c s)(hk:s.blk=some k)(ha:a.ok)(hG:s.g+300<1000000):
  Cl 59 #[ptr c,stV (.inr (.inr (.inr (.inr (.inl a)))))] w λe w'=>e= .returned (.tuple #[])/\Cw W x K w' c (x.outC a s):=by
 have KC:=hid (z44 (h.alloc (.cells #[.string a.name, .int .i64 a.num] 196)) hk ha yl5)
 clear h
 unfold stV
 have t0:=Gs
 have t1:=Yh
 have t2:=Xs
 have t3:=Xt
 have t4:=Yo
 go_enter Tryz.func59,Tryz.ntmps59
 go_wp2_with fail
 refine KC.out.mono ?_
 rintro e w1 ⟨rfl,q⟩
 have H1:=hid q
 clear q KC
 go_wp2
 go_end0
 exact ⟨rfl,H1.out⟩
theorem zq8(h:Cw W x K w c s)(hk:s.blk=none)(ha:a.ok)(hG:s.g+300<1000000):
  Cl 59 #[ptr c,stV (.inr (.inr (.inr (.inr (.inl a)))))] w λe w'=>e= .returned (.tuple #[])/\Cw W x K w' c (x.outC a s):=by
 have KC:=hid (z43 (h.alloc (.cells #[.string a.name, .int .i64 a.num] 196)) hk ha yl5)
 clear h
 unfold stV
 have t0:=Gs
 have t1:=Yh
 have t2:=Xs
 have t3:=Xt
 have t4:=Yo
 go_enter Tryz.func59,Tryz.ntmps59
 go_wp2_with fail
 refine KC.out.mono ?_
 rintro e w1 ⟨rfl,q⟩
 have H1:=hid q
 clear q KC
 go_wp2
 go_end0
 exact ⟨rfl,H1.out⟩
theorem zq9(h:Cw W x K w c s)(hk:s.blk=some k)(hA:k.again<100000000)(hto:to.size<=maxLen)(hof:of.size<=maxLen)(ha:a.ok)(hfn:x.var of=((f:Int),n))(hf:f<6)(hn:0<=n/\n<=6)(hp:k.puts[f]?=some false)(hG:s.g+300<1000000):
  Cl 59 #[ptr c,stV (.inr (.inr (.inl (to,of,a))))] w λe w'=>e= .returned (.tuple #[])/\Cw W x K w' c (x.get to of a s):=by
 have KC:=hid (z46 (h.alloc (.cells #[.string to, .string of, .string a.name, .int .i64 a.num] 192)) hk hA hto hof ha hfn hf hn hp yl5)
 clear h
 unfold stV
 have t0:=Gm
 have t1:=Yg
 have t2:=Xr
 go_enter Tryz.func59,Tryz.ntmps59
 go_wp2_with fail
 refine KC.out.mono ?_
 rintro e w1 ⟨rfl,q⟩
 have H1:=hid q
 clear q KC
 go_wp2
 go_end0
 exact ⟨rfl,H1.out⟩
theorem zra(h:Cw W x K w c s)(hk:s.blk=some k)(hA:k.again<100000000)(hto:to.size<=maxLen)(hof:of.size<=maxLen)(ha:a.ok)(hfn:x.var of=((f:Int),n))(hf:f<6)(hn:0<=n/\n<=6)(hp:k.puts[f]?=some true)(hG:s.g+300<1000000):
  Cl 59 #[ptr c,stV (.inr (.inr (.inl (to,of,a))))] w λe w'=>e= .returned (.tuple #[])/\Cw W x K w' c (x.get to of a s):=by
 have KC:=hid (z47 (h.alloc (.cells #[.string to, .string of, .string a.name, .int .i64 a.num] 192)) hk hA hto hof ha hfn hf hn hp yl5)
 clear h
 unfold stV
 have t0:=Gm
 have t1:=Yg
 have t2:=Xr
 go_enter Tryz.func59,Tryz.ntmps59
 go_wp2_with fail
 refine KC.out.mono ?_
 rintro e w1 ⟨rfl,q⟩
 have H1:=hid q
 clear q KC
 go_wp2
 go_end0
 exact ⟨rfl,H1.out⟩
end
section
variable{W w w':World}{x:Cx}{K:List (Nat×Nat×Value)}{m:Cm}{c:Nat}{s:Ck}{ids:Ids}{es:List En}{rv:Value}
theorem z0a(hrow:W.ownsRow 0 138 1 rv es.length (es.map (enV ids)))(hn:es.length<=1000)(J:Nat->World->Prop)(hlow:Hid (∀k wr,J k wr->Below W.heap.size W wr))
  (KC:Hid (∀k wr (hk:k<es.length),J k wr->Cl 59 #[ptr c,enV ids es[k]] wr λe w'=>e= .returned (.tuple #[])/\J (k+1) w')) (h0:Hid (J 0 w)):
  Cl 27 #[ptr c,rv] w λe w'=>e= .returned (.tuple #[])/\J es.length w':=by
 obtain ⟨ra,rk,hrv⟩:=zc2 hrow
 have HC:Hid (∀k,(hk:k<es.length)->∃g,ra=some ⟨g,0,none⟩/\g<W.heap.size/\W.cell? ⟨g,k,none⟩=some (enV ids es[k])):=hid λk hk=>by
  rcases hrow.2 with ⟨e,e'⟩|⟨g,cap,cur,e,h1,h2,h3,h4,h5,h6⟩
  ·omega
  ·rw [hrv] at e
   injection e with e1 _ _
   have hc:=hrow.cells (g:=g) (by rw [hrv,e1];rfl)
   have e2:=hc k (enV ids es[k]) (by simp [List.getElem?_eq_getElem hk])
   have e3:(⟨g,0,none⟩:Addr).add k=⟨g,k,none⟩:=by cases k<;>simp [Addr.add]
   rw [e3] at e2
   exact ⟨g,e1,(Array.getElem?_eq_some_iff.1 h2).1,e2⟩
 rw [hrv]
 clear hrow hrv
 go_enter Tryz.func27,Tryz.ntmps27
 go_wp2
 go_loopw [8] (λv8 wr=>∃k:Nat,k<=es.length/\v8= .int .i64 k/\Hid (J k wr)) (λv8 _=>es.length- (intOf v8).toNat)
 case atStart=>exact ⟨0,Nat.zero_le _,rfl,h0⟩
 case round=>
  obtain ⟨k,hk,rfl,hB⟩:=hrel
  by_cases hlt:k<es.length
  ·have hlt':(k:Int)<(es.length:Int):=by omega
   have hi0:(0:Int)<=(k:Int):=yl5
   obtain ⟨g,hra,hg,hcell⟩:=HC.out k hlt
   subst hra
   have hcell':wr.cell? ⟨g,k,none⟩=some (enV ids es[k]):=((hlow.out k wr hB.out).cell (p:=⟨g,k,none⟩) hg).trans hcell
   have D1:=hid (KC.out k wr hlt hB.out)
   clear hcell KC HC
   generalize enV ids es[k]=v at*
   go_wp2_with fail
   refine D1.out.mono ?_
   rintro e w1 ⟨rfl,q⟩
   have H1:=hid q
   clear q D1
   go_wp2
   go_roundw
   case rel=>exact ⟨k+1,by omega,by go_num,H1⟩
   case measure=>simp [intOf];omega
  ·have hlt': ¬(k:Int)<(es.length:Int):=by omega
   have hke:k=es.length:=yl5
   rw [hke] at hB
   go_wp2
   go_end0
   exact ⟨rfl,hB.out⟩
theorem Cw.old(h:Cw W x K w c s){v:Value}(hj:W.cell? ⟨j,o,none⟩=some v):w.cell? ⟨j,o,none⟩=some v:=
 (h.low.cell (p:=⟨j,o,none⟩) (blt hj)).trans hj
theorem z0b(h:Cw W x K w c s)(ha:a.ok)(hj0:W.cell? ⟨j,0,none⟩=some rv)(hj1:W.cell? ⟨j,1,none⟩=some (.string a.name))(hj2:W.cell? ⟨j,2,none⟩=some (.int .i64 a.num))
  (body:Ck->Ck) (KB:Hid (∀K w,Cw W x K w c (s.add [yJz,x.val a])->Cl 27 #[ptr c,rv] w λe w'=>e= .returned (.tuple #[])/\Cw W x K w' c (body (s.add [yJz,x.val a]))))
  (hbl:(s.add [yJz,x.val a]).L.length<=(body (s.add [yJz,x.val a])).L.length) (hbg:(body (s.add [yJz,x.val a])).g<10000000) (hG:s.g+300<1000000):
  Cl 59 #[ptr c, .iface 197 (ptr j)] w λe w'=>e= .returned (.tuple #[])/\Cw W x K w' c ((body (s.add [yJz,x.val a])).land s.L.length):=by
 have hsa:=zaj h.base ha
 have HA:=hid (λ(K:List (Nat×Nat×Value)) (w:World) (s:Ck) (h:Cw W x K w c s)=>Yq h ha)
 have HJ:=hid (λ(K:List (Nat×Nat×Value)) (w:World) (s:Ck) (h:Cw W x K w c s)=>(⟨h.old hj0,h.old hj1,h.old hj2⟩:w.cell? ⟨j,0,none⟩=some rv/\w.cell? ⟨j,1,none⟩=some (.string a.name)/\w.cell? ⟨j,2,none⟩=some (.int .i64 a.num)))
 have e:=HJ.out _ _ _ h
 obtain ⟨e0,e1,e2⟩:=e
 have H0:=hid h
 have lb:=h.lt
 have hL:=h.ok.l
 clear h ha hj0 hj1 hj2
 obtain ⟨nm,num⟩:=a
 dsimp only at HA HJ hsa e1 e2 KB hbl hbg⊢
 have t0:=Ss
 have t1:=Uw
 have t2:=Eb
 have t3:=Ec
 have t4:=Ux
 have t5:=Yb
 have t6:=zbv
 go_enter Tryz.func59,Tryz.ntmps59
 go_wp2_with fail
 go_region_held3 (λw'=>w'.cell? ⟨j,0,none⟩=some rv/\w'.cell? ⟨j,1,none⟩=some (.string nm)/\w'.cell? ⟨j,2,none⟩=some (.int .i64 num)) (go_keep)
  (first
   |(go_at_call 92;refine (HA.out _ _ _ H0.out.drew).mono ?_;rintro e w1 ⟨rfl,q⟩;have H1:=hid q;clear q;have f1:=HJ.out _ _ _ H1.out)
   |(go_at_call 98;refine (Xo H1.out [yJz,x.val ⟨nm,num⟩] yl6 ⟨by decide,hsa,trivial⟩ yl5).mono ?_;rintro e w2 ⟨bl,ba,rfl,q⟩;have H2:=hid q;clear q;have f2:=HJ.out _ _ _ H2.out))
 all_goals
  obtain ⟨g0,g1,g2⟩:=f2
  go_wp2_with fail
  refine (KB.out _ _ H2.out).mono ?_
  rintro e w3 ⟨rfl,q⟩
  have H3:=hid q
  clear q
  go_wp2_with fail
  refine (Se H3.out (bl:=bl) (ba:=ba) (n:=s.L.length) yl6 yl6 (by rw [Qx] at hbl;omega) yl5).mono ?_
  rintro e w4 ⟨rfl,q⟩
  have H4:=hid q
  clear q
  go_wp2
  go_end0
  exact ⟨rfl,H4.out.less (K':=K) (λp hp=>List.mem_cons_of_mem _ (List.mem_cons_of_mem _ hp))⟩
end
def Cx.loopC(x:Cx)(n:Int)(body:Ck->Ck)(s:Ck):Ck:=
 let left:=x.own (36+(s.loops:Int))
 let s1:=({s with loops:=s.loops+1}:Ck).add [Qh,y0,left,dec n]
 let s3:=(((body s1).add [Qw,yR4,y0,left]).add [zyo,yR4,yR4,y1]).add [Qh,y0,left,yR4]
 let s4:=((s3.add [yJz,yR4]).back s1.L.length).land s3.L.length
 {s4 with loops:=s4.loops- 1}
section
variable{W w w':World}{x:Cx}{K:List (Nat×Nat×Value)}{m:Cm}{c:Nat}{s:Ck}{rv:Value}
theorem zbw(z:Int)(h0:0<=z)(h1:z<=1000):wrap64 z=z:=ymc
theorem Cd.setLoops(h:Cd W x K m w c s)(n:Nat):Cd W x K m (w.setCell ⟨c,4,none⟩ (.int .i64 n)) c {s with loops:=n}:=by
 have lb:=h.lt
 have hset:Chg (λk j=>k=c/\j=4) w (w.setCell ⟨c,4,none⟩ (.int .i64 n)):=(Chg.refl _ w).setCell (λ_=>⟨rfl,rfl⟩) _
 have nk: ∀k l,m.lab k=l->l≠1->∀j,¬(k=c/\j=4):=λk l hk h1 j e=>h1 ynj
 have hM: ∀k j,k<w.heap.size->(k=c/\j=4)->m.lab k≠0:=by
  rintro k j _ ⟨rfl,_⟩
  rw [h.lc];omega
 have kc: ∀j,j≠4->¬(c=c/\j=4):=λj hj e=>hj e.2
 refine h.turn ⟨h.ok.l,h.ok.z,h.ok.t,h.ok.tb,h.ok.u⟩ hset (λk j hk e=>⟨hM k j hk e,λ_=>by omega⟩) (λ_ _=>rfl) (λk hk=>h.lz k ymt) ((hset.cell _ _ lb (kc 0 yl5)).trans h.c0) (Qg h.c4 rfl) ((hset.cell _ _ lb (kc 5 yl5)).trans h.c5) ((hset.cell _ _ lb (kc 6 yl5)).trans h.c6) (Qc h.lrow hset (λq hq=>nk _ _ (h.llv q hq) yl5)) (Qc h.trow hset (λq hq=>nk _ _ (h.ltv q hq) yl5)) (h.tl.keep hset hM λ_ _ e=>e) (λk' hk'=>?_) h.llv h.ltv
 have hb:=h.bk k' hk'
 exact hb.keep hset hM (nk _ _ hb.lbk yl5) (λq hq=>nk _ _ (hb.luv q hq) yl5) (λ_ _=>rfl) rfl rfl rfl
theorem Cw.setLoops(h:Cw W x K w c s)(n:Nat):Cw W x K (w.setCell ⟨c,4,none⟩ (.int .i64 n)) c {s with loops:=n}:=let ⟨m,h⟩:=h;⟨m,h.setLoops n⟩
theorem Cw.free(h:Cw W x K w c s)(j:Nat):w.frozen? ⟨c,j,none⟩=false:=let ⟨_,h⟩:=h;h.free j
theorem z24(h:Cw W x K w c s)(hn:0<=n/\n<=100)(hj0:W.cell? ⟨j,0,none⟩=some rv)(hj1:W.cell? ⟨j,1,none⟩=some (.int .i64 n))(hlo:s.loops<=10)
  (body:Ck->Ck) (KB:Hid (∀K w,Cw W x K w c (({s with loops:=s.loops+1}:Ck).add [Qh,y0,x.own (36+(s.loops:Int)),dec n])->Cl 27 #[ptr c,rv] w λe w'=>e= .returned (.tuple #[])/\Cw W x K w' c (body (({s with loops:=s.loops+1}:Ck).add [Qh,y0,x.own (36+(s.loops:Int)),dec n]))))
  (hbl:s.L.length+1<=(body (({s with loops:=s.loops+1}:Ck).add [Qh,y0,x.own (36+(s.loops:Int)),dec n])).L.length) (hbo:(body (({s with loops:=s.loops+1}:Ck).add [Qh,y0,x.own (36+(s.loops:Int)),dec n])).loops=s.loops+1) (hbg:(body (({s with loops:=s.loops+1}:Ck).add [Qh,y0,x.own (36+(s.loops:Int)),dec n])).g+100<10000000) (hG:s.g+300<1000000):
  Cl 99 #[ptr c,ptr j] w λe w'=>e= .returned (.tuple #[])/\Cw W x K w' c (x.loopC n body s):=by
 have hth:=h.th
 have hL:=h.ok.l
 have hR:x.loopC n body s={((((((body (({s with loops:=s.loops+1}:Ck).add [Qh,y0,x.own (36+(s.loops:Int)),dec n])).add [Qw,yR4,y0,x.own (36+(s.loops:Int))]).add [zyo,yR4,yR4,y1]).add [Qh,y0,x.own (36+(s.loops:Int)),yR4]).add [yJz,yR4]).back (s.L.length+1)).land ((((body (({s with loops:=s.loops+1}:Ck).add [Qh,y0,x.own (36+(s.loops:Int)),dec n])).add [Qw,yR4,y0,x.own (36+(s.loops:Int))]).add [zyo,yR4,yR4,y1]).add [Qh,y0,x.own (36+(s.loops:Int)),yR4]).L.length with loops:=s.loops}:=by
  simp only [Cx.loopC,Qx]
  congr 1
  show (body _).loops- 1=_
  rw [hbo];rfl
 rw [hR]
 have HJ:=hid (λ(K:List (Nat×Nat×Value)) (w:World) (s:Ck) (h:Cw W x K w c s)=>(⟨h.old hj0,h.old hj1⟩:w.cell? ⟨j,0,none⟩=some rv/\w.cell? ⟨j,1,none⟩=some (.int .i64 n)))
 have c4:=h.c4
 have H0:=hid h
 have lb:=h.lt
 have hsl:(x.own (36+(s.loops:Int))).size<=30:=Ea hth _ yl5 yl5
 have hsn:(dec n).size<=30:=Sp _ yl5 yl5
 have hOW:=hid (Fz h (36+(s.loops:Int)) yl5 yl5)
 generalize hleft:x.own (36+(s.loops:Int))=left at*
 clear h hj0 hj1 hR hleft
 have hl0:(0:Int)<=(s.loops:Int):=yl5
 have hl1:(s.loops:Int)<=10:=yl5
 generalize hlo':(s.loops:Int)=lo at*
 have q1:=zbw (36+lo) yl5 yl5
 have q2:=zbw (lo+1) yl5 yl5
 have q3:wrap64 (lo+1- 1)=lo:=by rw [Int.add_sub_cancel];exact zbw _ yl5 yl5
 go_enter Tryz.func99,Tryz.ntmps99
 go_wp2_with fail
 refine hOW.out.mono ?_
 rintro e w1 ⟨rfl,q⟩
 have d4:=q.c4
 rw [hlo'] at d4
 have df:=q.free 4
 have H1:=hid (q.setLoops (s.loops+1))
 have lb1:=q.lt
 clear q c4 hOW H0
 rw [show (((s.loops+1:Nat)):Int)=lo+1 from by omega] at H1
 go_wp2_with fail
 generalize hw1:w1.setCell ⟨c,4,none⟩ (.int .i64 (lo+1))=w2 at*
 obtain ⟨e0,e1⟩:=HJ.out _ _ _ H1.out
 clear d4 df hw1
 go_region_held3 (λw'=>w'.cell? ⟨j,1,none⟩=some (.int .i64 n)) (go_keep)
  (first
   |(go_at_call 61;refine (zag H1.out.drew n yl5 yl5).mono ?_;rintro e w3 ⟨rfl,q⟩;have H3:=hid q;clear q;have f3:=(HJ.out _ _ _ H3.out).2)
   |(go_at_call 60;refine (Qp H3.out [Qh,y0,left,dec n] yl6 ⟨by decide,by decide,hsl,hsn,trivial⟩ (by show s.g<_;omega)).mono ?_;rintro e w4 ⟨rfl,q⟩;have H4:=hid q;clear q;have f4:=(HJ.out _ _ _ H4.out).2))
 all_goals
  obtain ⟨g0,g1⟩:=HJ.out _ _ _ H4.out
  go_wp2_with fail
  refine (zbu H4.out).mono ?_
  rintro e w5 ⟨rfl,rfl⟩
  rw [show (({s with loops:=s.loops+1}:Ck).add [Qh,y0,left,dec n]).L.length=s.L.length+1 from by rw [Qx]]
  go_wp2_with fail
  refine (KB.out _ _ H4.out).mono ?_
  rintro e w6 ⟨rfl,q⟩
  have H6:=hid q
  clear q H4 KB
  generalize hbody:body (({s with loops:=s.loops+1}:Ck).add [Qh,y0,left,dec n])=B at*
  go_wp2_with fail
  refine (Qp H6.out [Qw,yR4,y0,left] yl6 ⟨by decide,by decide,by decide,hsl,trivial⟩ yl5).mono ?_
  rintro e w7 ⟨rfl,q⟩
  have H7:=hid q
  clear q H6
  go_wp2_with fail
  refine (Qp H7.out [zyo,yR4,yR4,y1] yl6 ⟨by decide,by decide,by decide,by decide,trivial⟩ (by show B.g+1<_;omega)).mono ?_
  rintro e w8 ⟨rfl,q⟩
  have H8:=hid q
  clear q H7
  go_wp2_with fail
  refine (Qp H8.out [Qh,y0,left,yR4] yl6 ⟨by decide,by decide,hsl,by decide,trivial⟩ (by show B.g+2<_;omega)).mono ?_
  rintro e w9 ⟨rfl,q⟩
  have H9:=hid q
  clear q H8
  go_wp2_with fail
  refine (Xo H9.out [yJz,yR4] yl6 ⟨by decide,by decide,trivial⟩ (by show B.g+3<_;omega)).mono ?_
  rintro e w10 ⟨bl,ba,rfl,q⟩
  have H10:=hid q
  clear q H9
  go_wp2_with fail
  refine (zq1 H10.out (n:=s.L.length+1) yl5 (by show B.g+4<_;omega)).mono ?_
  rintro e w11 ⟨rfl,q⟩
  have H11:=hid q
  clear q H10
  go_wp2_with fail
  refine (Se H11.out (bl:=bl) (ba:=ba) (n:=(((B.add [Qw,yR4,y0,left]).add [zyo,yR4,yR4,y1]).add [Qh,y0,left,yR4]).L.length) yl6 yl6 (by simp only [Qx,zak];omega) (by show B.g+5<_;omega)).mono ?_
  rintro e w12 ⟨rfl,q⟩
  have d4:=q.c4
  have hlB:((((((B.add [Qw,yR4,y0,left]).add [zyo,yR4,yR4,y1]).add [Qh,y0,left,yR4]).add [yJz,yR4]).back (s.L.length+1)).land (((B.add [Qw,yR4,y0,left]).add [zyo,yR4,yR4,y1]).add [Qh,y0,left,yR4]).L.length).loops=s.loops+1:=hbo
  rw [hlB,show (((s.loops+1:Nat)):Int)=lo+1 from by omega] at d4
  have df:=q.free 4
  have H12:=hid ((q.setLoops s.loops).less (K':=K) (λp hp=>List.mem_cons_of_mem _ (List.mem_cons_of_mem _ hp)))
  rw [hlo'] at H12
  clear q H11
  go_wp2
  go_end0
  subst hbody
  exact ⟨rfl,H12.out⟩
end
end Go.Proofs.YtiiepngikigmbaaGreatDoor
