import Derived.Test.YtkenoofmkbghiaaGreatDoorO19
set_option maxRecDepth 100000
set_option maxHeartbeats 4000000
namespace Go.Proofs.YtkenoofmkbghiaaGreatDoor
open Go.RowKit
variable{of to:ByteArray}{a:PV}{k:Bk}{f:Nat}{n:Int}
section
variable{W w w':World}{x:Cx}{K:List (Nat×Nat×Value)}{m:Cm}{c:Nat}{s:Ck}
theorem zdv(x:Cx)(of:ByteArray)(a:PV)(s:Ck):(x.check of a s).g<=s.g+4:=by
 unfold Cx.check
 dsimp only
 split
 ·omega
 ·simp [Ck.trapIf,Ck.add]
theorem Ib(x:Cx)(of:ByteArray)(a:PV)(s:Ck):(x.check of a s).blk=s.blk:=by
 unfold Cx.check
 dsimp only
 split
 ·rfl
 ·rfl
theorem zdw(x:Cx)(of:ByteArray)(a:PV)(s:Ck):s.L.length<=(x.check of a s).L.length:=by
 unfold Cx.check
 dsimp only
 split
 ·omega
 ·simp [Ck.trapIf,Ck.add]
theorem z45(h:Cw W x K w c s)(hof:of.size<=maxLen){v:PV}(ha:a.ok)(hv:v.ok)(hf:0<=(x.var of).1/\(x.var of).1<=6/\0<=(x.var of).2/\(x.var of).2<=6)(hG:s.g+200<10000000):
  Cl 105 #[ptr c, .agg #[.string of, .string a.name, .int .i64 a.num, .string v.name, .int .i64 v.num]] w λe w'=>e= .returned (.tuple #[])/\Cw W x K w' c (x.put of a v s):=by
 have hth:=h.th
 have hsa:=zaj h.base ha
 have hsv:=zaj h.base hv
 have HA:=hid (λ(K:List (Nat×Nat×Value)) (w:World) (s:Ck) (h:Cw W x K w c s)=>Yq h ha)
 have HV:=hid (λ(K:List (Nat×Nat×Value)) (w:World) (s:Ck) (h:Cw W x K w c s)=>Yq h hv)
 have HC:=hid (λ(K:List (Nat×Nat×Value)) (w:World) (s:Ck) (h:Cw W x K w c s) (hG:s.g+100<10000000)=>zj2 h hof ha hf.2.2 hG)
 have HL:=hid (λ(K:List (Nat×Nat×Value)) (w:World) (s:Ck) (h:Cw W x K w c s)=>h.lookS hof)
 have hcg:=zdv x of a s
 have H0:=hid (h.box [.string of, .string a.name, .int .i64 a.num, .string v.name, .int .i64 v.num] 203)
 have lb:=h.lt
 unfold Cx.put
 generalize hck:x.check of a s=sc at*
 clear h ha hv
 obtain ⟨nm,num⟩:=a
 obtain ⟨vm,vn⟩:=v
 dsimp only at H0 HV HA HC HL hsv hsa hck⊢
 generalize hfn:x.var of=fn at*
 obtain ⟨first,n⟩:=fn
 have hfd:=zz3 first n
 dsimp only at HL hf⊢
 have q6:IntKind.i64.wrap (6+first)=6+first:=yuu
 have q12:IntKind.i64.wrap (12+first)=12+first:=yuu
 have q0:IntKind.i64.wrap first=first:=yuu
 go_enter Tryz.func105,Tryz.ntmps105
 go_wp2_with fail
 generalize hwb:w.alloc (Obj.cells #[.string of, .string nm, .int .i64 num, .string vm, .int .i64 vn] 203)=wb at*
 generalize w.heap.size=bs at*
 have c1:=H0.out.c1
 have hlk:=HL.out _ _ _ H0.out.drew
 have e0:=H0.out.kept (b:=bs) (o:=0) (v:= .string of) yuq
 have e1:=H0.out.kept (b:=bs) (o:=1) (v:= .string nm) yuq
 have e2:=H0.out.kept (b:=bs) (o:=2) (v:= .int .i64 num) yuq
 have e3:=H0.out.kept (b:=bs) (o:=3) (v:= .string vm) yuq
 have e4:=H0.out.kept (b:=bs) (o:=4) (v:= .int .i64 vn) yuq
 go_region_held3 (λw'=>w'.cell? ⟨c,1,none⟩=some (.map (some x.sb))/\w'.cell? ⟨bs,0,none⟩=some (.string of)/\w'.cell? ⟨bs,1,none⟩=some (.string nm)/\w'.cell? ⟨bs,2,none⟩=some (.int .i64 num)/\(Instr.lookup 88 (.map (some x.sb)) (.string of) false).run Tryz.prog w'= .ok (.agg #[.int .i64 first, .int .i64 n]) w') (go_keep)
  (first|(go_at_call 102;refine (HA.out _ _ _ H0.out.drew).mono ?_;rintro e w1 ⟨rfl,q⟩;have H1:=hid q;have c1a:=q.c1;have hlka:=HL.out _ _ _ q;have e0a:=H1.out.kept (b:=bs) (o:=0) (v:= .string of) yuq;have e1a:=H1.out.kept (b:=bs) (o:=1) (v:= .string nm) yuq;have e2a:=H1.out.kept (b:=bs) (o:=2) (v:= .int .i64 num) yuq;have e3a:=H1.out.kept (b:=bs) (o:=3) (v:= .string vm) yuq;have e4a:=H1.out.kept (b:=bs) (o:=4) (v:= .int .i64 vn) yuq;clear q))
 all_goals
  go_wp2_with fail
  refine (HC.out _ _ _ H1.out yum).mono ?_
  rintro e w2 ⟨rfl,q⟩
  rw [hck] at q
  have H2:=hid q
  clear q c1a hlka c1 hlk
  have e0b:=H2.out.kept (b:=bs) (o:=0) (v:= .string of) yuq
  have e1b:=H2.out.kept (b:=bs) (o:=1) (v:= .string nm) yuq
  have e2b:=H2.out.kept (b:=bs) (o:=2) (v:= .int .i64 num) yuq
  have e3b:=H2.out.kept (b:=bs) (o:=3) (v:= .string vm) yuq
  have e4b:=H2.out.kept (b:=bs) (o:=4) (v:= .int .i64 vn) yuq
  go_wp2_with fail
  go_region_held3 (λw'=>w'.cell? ⟨bs,3,none⟩=some (.string vm)/\w'.cell? ⟨bs,4,none⟩=some (.int .i64 vn)) (go_keep)
   (first
    |(go_at_call 134;refine (yjr H2.out.drew first yum yum).mono ?_;rintro e wj0 ⟨rfl,q⟩;have HJ0:=hid q;clear q;have e0j0:=HJ0.out.kept (b:=bs) (o:=0) (v:= .string of) yuq;have e1j0:=HJ0.out.kept (b:=bs) (o:=1) (v:= .string nm) yuq;have e2j0:=HJ0.out.kept (b:=bs) (o:=2) (v:= .int .i64 num) yuq;have e3j0:=HJ0.out.kept (b:=bs) (o:=3) (v:= .string vm) yuq;have e4j0:=HJ0.out.kept (b:=bs) (o:=4) (v:= .int .i64 vn) yuq)
    |(go_at_call 102;refine (HV.out _ _ _ HJ0.out).mono ?_;rintro e wj1 ⟨rfl,q⟩;have HJ1:=hid q;clear q;have e0j1:=HJ1.out.kept (b:=bs) (o:=0) (v:= .string of) yuq;have e1j1:=HJ1.out.kept (b:=bs) (o:=1) (v:= .string nm) yuq;have e2j1:=HJ1.out.kept (b:=bs) (o:=2) (v:= .int .i64 num) yuq;have e3j1:=HJ1.out.kept (b:=bs) (o:=3) (v:= .string vm) yuq;have e4j1:=HJ1.out.kept (b:=bs) (o:=4) (v:= .int .i64 vn) yuq)
    |(go_at_call 71;refine (Qp HJ1.out [Qh,x.val ⟨nm,num⟩,x.own (first),x.val ⟨vm,vn⟩] yun ⟨by decide,hsa,Ea hth _ yum yum,hsv,trivial⟩ (by show sc.g+0<_;omega)).mono ?_;rintro e w3 ⟨rfl,q⟩;have H3:=hid q;clear q;have e0h3:=H3.out.kept (b:=bs) (o:=0) (v:= .string of) yuq;have e1h3:=H3.out.kept (b:=bs) (o:=1) (v:= .string nm) yuq;have e2h3:=H3.out.kept (b:=bs) (o:=2) (v:= .int .i64 num) yuq;have e3h3:=H3.out.kept (b:=bs) (o:=3) (v:= .string vm) yuq;have e4h3:=H3.out.kept (b:=bs) (o:=4) (v:= .int .i64 vn) yuq))
  go_wp2_with fail
  go_region_law (first
   |(go_simp;go_at_call 134;refine (yjr H3.out.drew (6+first) yum yum).mono ?_;rintro e wj2 ⟨rfl,q⟩;have HJ2:=hid q;clear q)
   |(go_simp;go_at_call 71;refine (Qp HJ2.out [Qh,x.val ⟨nm,num⟩,x.own (6+first),y1] yun ⟨by decide,hsa,Ea hth _ yum yum,by decide,trivial⟩ (by show sc.g+1<_;omega)).mono ?_;rintro e w4 ⟨rfl,q⟩;have H4:=hid q;clear q))
  go_wp2_with fail
  go_region_law (first
   |(go_simp;go_at_call 134;refine (yjr H4.out.drew (12+first) yum yum).mono ?_;rintro e wj3 ⟨rfl,q⟩;have HJ3:=hid q;clear q)
   |(go_simp;go_at_call 71;refine (Qp HJ3.out [Qh,x.val ⟨nm,num⟩,x.own (12+first),y0] yun ⟨by decide,hsa,Ea hth _ yum yum,by decide,trivial⟩ (by show sc.g+2<_;omega)).mono ?_;rintro e w5 ⟨rfl,q⟩;have H5:=hid q;clear q))
  go_wp2
  go_end0
  exact ⟨rfl,H5.out.unbox⟩
theorem zgj(x:Cx)(to u:ByteArray)(n:Int)(s:Ck):(x.readC to u n s).L.length=s.L.length+9:=by simp [Cx.readC,Zu,Ck.add]
theorem Cw.blkP(h:Cw W x K w c s)(hk:s.blk=some k){p:Bool}(hp:k.puts[f]?=some p): ∃b,w.cell? ⟨c,5,none⟩=some (ptr b)/\w.cell? ⟨b,6+f,none⟩=some (.bool p):=by
 obtain ⟨m,h⟩:=h
 refine ⟨m.b,?_,(h.bk k hk).p f p hp⟩
 rw [h.c5]
 simp only [zjz,hk]
theorem z46(h:Cw W x K w c s)(hk:s.blk=some k)(hA:k.again<100000000)(hto:to.size<=maxLen)(hof:of.size<=maxLen)(ha:a.ok)(hfn:x.var of=((f:Int),n))(hf:f<6)(hn:0<=n/\n<=6)(hp:k.puts[f]?=some false)(hG:s.g+300<10000000):
  Cl 104 #[ptr c, .agg #[.string to, .string of, .string a.name, .int .i64 a.num]] w λe w'=>e= .returned (.tuple #[])/\Cw W x K w' c (x.get to of a s):=by
 have hth:=h.th
 have hR:x.get to of a s=x.readC (x.local to) (x.val a) f (x.check of a s):=by
  simp only [Cx.get,hfn,Sq hk,Int.toNat_natCast,hp,Option.getD_some]
  rfl
 rw [hR]
 have hst:=zdt h.base to
 have hsa:=zaj h.base ha
 have HT:=hid (λ(K:List (Nat×Nat×Value)) (w:World) (s:Ck) (h:Cw W x K w c s)=>zdr h hto)
 have HA:=hid (λ(K:List (Nat×Nat×Value)) (w:World) (s:Ck) (h:Cw W x K w c s)=>Yq h ha)
 have HC:=hid (λ(K:List (Nat×Nat×Value)) (w:World) (s:Ck) (h:Cw W x K w c s) (hG:s.g+100<10000000)=>zj2 h hof ha (by rw [hfn];exact hn) hG)
 have HL:=hid (λ(K:List (Nat×Nat×Value)) (w:World) (s:Ck) (h:Cw W x K w c s)=>h.lookS hof)
 have hcg:=zdv x of a s
 have hkc:=(Ib x of a s).trans hk
 have H0:=hid (h.box [.string to, .string of, .string a.name, .int .i64 a.num] 201)
 have lb:=h.lt
 generalize hck:x.check of a s=sc at*
 clear h ha hR
 obtain ⟨nm,num⟩:=a
 dsimp only at H0 HA HC HL HT hsa hck⊢
 rw [hfn] at HL
 have hfd:=zz3 f n
 dsimp only at HL⊢
 have hf0:(0:Int)<=(f:Int):=yum
 have hf6:(f:Int)<6:=yum
 go_enter Tryz.func104,Tryz.ntmps104
 go_wp2_with fail
 generalize hwb:w.alloc (Obj.cells #[.string to, .string of, .string nm, .int .i64 num] 201)=wb at*
 generalize w.heap.size=bs at*
 have c1:=H0.out.c1
 have hlk:=HL.out _ _ _ H0.out.drew
 have e0:=H0.out.kept (b:=bs) (o:=0) (v:= .string to) yuq
 have e1:=H0.out.kept (b:=bs) (o:=1) (v:= .string of) yuq
 have e2:=H0.out.kept (b:=bs) (o:=2) (v:= .string nm) yuq
 have e3:=H0.out.kept (b:=bs) (o:=3) (v:= .int .i64 num) yuq
 go_region_held3 (λw'=>w'.cell? ⟨c,1,none⟩=some (.map (some x.sb))/\w'.cell? ⟨bs,0,none⟩=some (.string to)/\w'.cell? ⟨bs,1,none⟩=some (.string of)/\w'.cell? ⟨bs,2,none⟩=some (.string nm)/\w'.cell? ⟨bs,3,none⟩=some (.int .i64 num)/\(Instr.lookup 88 (.map (some x.sb)) (.string of) false).run Tryz.prog w'= .ok (.agg #[.int .i64 (f:Int), .int .i64 n]) w') (go_keep)
  (first
   |(go_at_call 101;refine (HT.out _ _ _ H0.out.drew).mono ?_;rintro e w1 ⟨rfl,q⟩;have H1:=hid q;have c1a:=q.c1;have hlka:=HL.out _ _ _ q;have e0a:=H1.out.kept (b:=bs) (o:=0) (v:= .string to) yuq;have e1a:=H1.out.kept (b:=bs) (o:=1) (v:= .string of) yuq;have e2a:=H1.out.kept (b:=bs) (o:=2) (v:= .string nm) yuq;have e3a:=H1.out.kept (b:=bs) (o:=3) (v:= .int .i64 num) yuq;clear q)
   |(go_at_call 102;refine (HA.out _ _ _ H1.out).mono ?_;rintro e w2 ⟨rfl,q⟩;have H2:=hid q;have c1b:=q.c1;have hlkb:=HL.out _ _ _ q;have e0b:=H2.out.kept (b:=bs) (o:=0) (v:= .string to) yuq;have e1b:=H2.out.kept (b:=bs) (o:=1) (v:= .string of) yuq;have e2b:=H2.out.kept (b:=bs) (o:=2) (v:= .string nm) yuq;have e3b:=H2.out.kept (b:=bs) (o:=3) (v:= .int .i64 num) yuq;clear q))
 all_goals
  go_wp2_with fail
  refine (HC.out _ _ _ H2.out yum).mono ?_
  rintro e w3 ⟨rfl,q⟩
  rw [hck] at q
  obtain ⟨b,c5,cp⟩:=q.blkP hkc hp
  have H3:=hid q
  clear q c1a hlka c1b hlkb c1 hlk
  go_wp2_with fail
  refine (zyt H3.out hkc hst hsa hf0 yum hA yum).mono ?_
  rintro e w4 ⟨rfl,q⟩
  have H4:=hid q
  clear q c5 cp
  go_wp2
  (try simp only [Exit.inBlock,Exit.then])
  refine bodyPost_ret (results_none rfl _ _ _) rfl ?_
  exact ⟨rfl,H4.out.unbox⟩
theorem z47(h:Cw W x K w c s)(hk:s.blk=some k)(hA:k.again<100000000)(hto:to.size<=maxLen)(hof:of.size<=maxLen)(ha:a.ok)(hfn:x.var of=((f:Int),n))(hf:f<6)(hn:0<=n/\n<=6)(hp:k.puts[f]?=some true)(hG:s.g+300<10000000):
  Cl 104 #[ptr c, .agg #[.string to, .string of, .string a.name, .int .i64 a.num]] w λe w'=>e= .returned (.tuple #[])/\Cw W x K w' c (x.get to of a s):=by
 have hth:=h.th
 have hR:x.get to of a s=(x.readC (x.local to) (x.val a) f (((((x.check of a s).add [Qw,yR4,x.val a,x.own (6+(f:Int))]).add [yJz,yR4]).add [Qw,x.local to,x.val a,x.own f]).add [zaa]|>.land ((x.check of a s).add [Qw,yR4,x.val a,x.own (6+(f:Int))]).L.length)).land ((((x.check of a s).add [Qw,yR4,x.val a,x.own (6+(f:Int))]).add [yJz,yR4]).add [Qw,x.local to,x.val a,x.own f]).L.length:=by
  simp only [Cx.get,hfn,Sq hk,Int.toNat_natCast,hp,Option.getD_some]
  rfl
 rw [hR]
 have hst:=zdt h.base to
 have hsa:=zaj h.base ha
 have HT:=hid (λ(K:List (Nat×Nat×Value)) (w:World) (s:Ck) (h:Cw W x K w c s)=>zdr h hto)
 have HA:=hid (λ(K:List (Nat×Nat×Value)) (w:World) (s:Ck) (h:Cw W x K w c s)=>Yq h ha)
 have HC:=hid (λ(K:List (Nat×Nat×Value)) (w:World) (s:Ck) (h:Cw W x K w c s) (hG:s.g+100<10000000)=>zj2 h hof ha (by rw [hfn];exact hn) hG)
 have HL:=hid (λ(K:List (Nat×Nat×Value)) (w:World) (s:Ck) (h:Cw W x K w c s)=>h.lookS hof)
 have hcg:=zdv x of a s
 have hkc:=(Ib x of a s).trans hk
 have H0:=hid (h.box [.string to, .string of, .string a.name, .int .i64 a.num] 201)
 have lb:=h.lt
 generalize hck:x.check of a s=sc at*
 clear h ha hR
 obtain ⟨nm,num⟩:=a
 dsimp only at H0 HA HC HL HT hsa hck⊢
 rw [hfn] at HL
 have hfd:=zz3 f n
 dsimp only at HL⊢
 have hf0:(0:Int)<=(f:Int):=yum
 have hf6:(f:Int)<6:=yum
 go_enter Tryz.func104,Tryz.ntmps104
 go_wp2_with fail
 generalize hwb:w.alloc (Obj.cells #[.string to, .string of, .string nm, .int .i64 num] 201)=wb at*
 generalize w.heap.size=bs at*
 have c1:=H0.out.c1
 have hlk:=HL.out _ _ _ H0.out.drew
 have e0:=H0.out.kept (b:=bs) (o:=0) (v:= .string to) yuq
 have e1:=H0.out.kept (b:=bs) (o:=1) (v:= .string of) yuq
 have e2:=H0.out.kept (b:=bs) (o:=2) (v:= .string nm) yuq
 have e3:=H0.out.kept (b:=bs) (o:=3) (v:= .int .i64 num) yuq
 go_region_held3 (λw'=>w'.cell? ⟨c,1,none⟩=some (.map (some x.sb))/\w'.cell? ⟨bs,0,none⟩=some (.string to)/\w'.cell? ⟨bs,1,none⟩=some (.string of)/\w'.cell? ⟨bs,2,none⟩=some (.string nm)/\w'.cell? ⟨bs,3,none⟩=some (.int .i64 num)/\(Instr.lookup 88 (.map (some x.sb)) (.string of) false).run Tryz.prog w'= .ok (.agg #[.int .i64 (f:Int), .int .i64 n]) w') (go_keep)
  (first
   |(go_at_call 101;refine (HT.out _ _ _ H0.out.drew).mono ?_;rintro e w1 ⟨rfl,q⟩;have H1:=hid q;have c1a:=q.c1;have hlka:=HL.out _ _ _ q;have e0a:=H1.out.kept (b:=bs) (o:=0) (v:= .string to) yuq;have e1a:=H1.out.kept (b:=bs) (o:=1) (v:= .string of) yuq;have e2a:=H1.out.kept (b:=bs) (o:=2) (v:= .string nm) yuq;have e3a:=H1.out.kept (b:=bs) (o:=3) (v:= .int .i64 num) yuq;clear q)
   |(go_at_call 102;refine (HA.out _ _ _ H1.out).mono ?_;rintro e w2 ⟨rfl,q⟩;have H2:=hid q;have c1b:=q.c1;have hlkb:=HL.out _ _ _ q;have e0b:=H2.out.kept (b:=bs) (o:=0) (v:= .string to) yuq;have e1b:=H2.out.kept (b:=bs) (o:=1) (v:= .string of) yuq;have e2b:=H2.out.kept (b:=bs) (o:=2) (v:= .string nm) yuq;have e3b:=H2.out.kept (b:=bs) (o:=3) (v:= .int .i64 num) yuq;clear q))
 all_goals
  go_wp2_with fail
  refine (HC.out _ _ _ H2.out yum).mono ?_
  rintro e w3 ⟨rfl,q⟩
  rw [hck] at q
  obtain ⟨b,c5,cp⟩:=q.blkP hkc hp
  have H3:=hid q
  clear q c1a hlka c1b hlkb c1 hlk
  go_wp2_with fail
  clear c5 cp
  generalize hF:(f:Int)=F at*
  have q6:IntKind.i64.wrap (6+F)=6+F:=yuu
  have q0:IntKind.i64.wrap F=F:=yuu
  go_region_law (first
   |(go_simp;go_at_call 134;refine (yjr H3.out.drew (6+F) yum yum).mono ?_;rintro e wj0 ⟨rfl,q⟩;have HJ0:=hid q;clear q)
   |(go_simp;go_at_call 71;refine (Qp HJ0.out [Qw,yR4,x.val ⟨nm,num⟩,x.own (6+F)] yun ⟨by decide,by decide,hsa,Ea hth _ yum yum,trivial⟩ (by show sc.g+0<_;omega)).mono ?_;rintro e w4 ⟨rfl,q⟩;have H4:=hid q;clear q))
  go_wp2_with fail
  refine (Xo H4.out [yJz,yR4] yun ⟨by decide,by decide,trivial⟩ (by show sc.g+1<_;omega)).mono ?_
  rintro e w5 ⟨bl4,ba4,rfl,q⟩
  have H5:=hid q
  clear q
  go_wp2_with fail
  go_region_law (first
   |(go_simp;go_at_call 134;refine (yjr H5.out.drew F yum yum).mono ?_;rintro e wj1 ⟨rfl,q⟩;have HJ1:=hid q;clear q)
   |(go_simp;go_at_call 71;refine (Qp HJ1.out [Qw,x.local to,x.val ⟨nm,num⟩,x.own (F)] yun ⟨by decide,hst,hsa,Ea hth _ yum yum,trivial⟩ (by show sc.g+2<_;omega)).mono ?_;rintro e w6 ⟨rfl,q⟩;have H6:=hid q;clear q))
  go_wp2_with fail
  refine (Xo H6.out [zaa] yun ⟨by decide,trivial⟩ (by show sc.g+3<_;omega)).mono ?_
  rintro e w7 ⟨bl6,ba6,rfl,q⟩
  have H7:=hid q
  clear q
  go_wp2_with fail
  refine (Se H7.out (bl:=bl4) (ba:=ba4) (n:=(sc.add [Qw,yR4,x.val ⟨nm,num⟩,x.own (6+F)]).L.length) yun yun yvu (by show sc.g+4<_;omega)).mono ?_
  rintro e w8 ⟨rfl,q⟩
  have H8:=hid q
  clear q
  go_wp2_with fail
  refine (zyt H8.out hkc hst hsa hf0 yum hA (by show sc.g+5+100<_;omega)).mono ?_
  rintro e w9 ⟨rfl,q⟩
  have H9:=hid q
  clear q
  go_wp2_with fail
  refine (Se H9.out (bl:=bl6) (ba:=ba6) (n:=(((sc.add [Qw,yR4,x.val ⟨nm,num⟩,x.own (6+F)]).add [yJz,yR4]).add [Qw,x.local to,x.val ⟨nm,num⟩,x.own (F)]).L.length) yun yun (by simp only [Qx,Vv,zgj];omega) (by show sc.g+14<_;omega)).mono ?_
  rintro e w10 ⟨rfl,q⟩
  have H10:=hid q
  clear q
  go_wp2
  go_end0
  subst hF
  exact ⟨rfl,(H10.out.less (K':=Jj bs [.string to, .string of, .string nm, .int .i64 num] 0++K) (λp hp=>List.mem_cons_of_mem _ (List.mem_cons_of_mem _ (List.mem_cons_of_mem _ (List.mem_cons_of_mem _ hp))))).unbox⟩
end
end Go.Proofs.YtkenoofmkbghiaaGreatDoor
