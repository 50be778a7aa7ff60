import Derived.Test.YtkenoofmkbghiaaGreatDoorO18
set_option maxRecDepth 100000
set_option maxHeartbeats 2000000
namespace Go.Proofs.YtkenoofmkbghiaaGreatDoor
open Go.RowKit
variable{a:PV}{of:ByteArray}{b:Nat}
def Jj(b:Nat):List Value->Nat->List (Nat×Nat×Value)
 |[],_=>[]
 |v::r,i=>(b,i,v)::Jj b r (i+1)
section
variable{W w w':World}{x:Cx}{K:List (Nat×Nat×Value)}{m:Cm}{c:Nat}{s:Ck}
theorem Cd.boxes(h:Cd W x K m w c s)(hb:b<w.heap.size)(hl:m.lab b=0): ∀(vs:List Value) (i:Nat),(∀(j:Nat) v,vs[j]?=some v->w.cell? ⟨b,i+j,none⟩=some v)->Cd W x (Jj b vs i++K) m w c s
 |[],_,_=>h
 |v::r,i,hc=>by
  have ih:=Cd.boxes h hb hl r (i+1) (λj u hu=>by
   have:=hc (j+1) u (by simpa using hu)
   rw [show i+(j+1)=i+1+j from by omega] at this
   exact this)
  exact ih.more hb hl (by simpa using hc 0 v rfl)
theorem Cw.box(h:Cw W x K w c s)(vs:List Value)(t:TypeId):Cw W x (Jj w.heap.size vs 0++K) (w.alloc (.cells vs.toArray t)) c s:=by
 obtain ⟨m,h⟩:=h
 refine ⟨m,(h.below ((Below.refl _ w).alloc (Nat.le_refl _) _)).boxes yun (h.lz _ (Nat.le_refl _)) vs 0 (λj v hv=>?_)⟩
 rw [Nat.zero_add,World.cell?_alloc_new]
 simpa using hv
theorem Cw.unbox{i:Nat}{vs:List Value}(h:Cw W x (Jj b vs i++K) w c s):Cw W x K w c s:=h.less λ_ hp=>List.mem_append_right _ hp
theorem zz3(a b:Int)(w:World):(Instr.field 193 (.agg #[.int .i64 a, .int .i64 b]) 0).run Tryz.prog w= .ok (.int .i64 a) w:=yuo
theorem zvp(a b:Int)(w:World):(Instr.field 193 (.agg #[.int .i64 a, .int .i64 b]) 1).run Tryz.prog w= .ok (.int .i64 b) w:=yuo
theorem Cw.c5n(h:Cw W x K w c s)(hk:s.blk=none):w.cell? ⟨c,5,none⟩=some (.pointer none):=by
 obtain ⟨m,h⟩:=h
 rw [h.c5]
 simp only [zjz,hk]
theorem z43(h:Cw W x K w c s)(hk:s.blk=none)(ha:a.ok)(hG:s.g+100<10000000):
  Cl 106 #[ptr c, .agg #[.string a.name, .int .i64 a.num]] w λe w'=>e= .returned (.tuple #[])/\Cw W x K w' c (x.outC a s):=by
 have hth:=h.th
 have hR:x.outC a s=s.add [zp6,x.val a]:=by simp only [Cx.outC,hk]
 rw [hR]
 have hsv:=zaj h.base ha
 have HV:=hid (λ(K:List (Nat×Nat×Value)) (w:World) (s:Ck) (h:Cw W x K w c s)=>Yq h ha)
 have H0:=hid (h.box [.string a.name, .int .i64 a.num] 205)
 have c5:=h.c5n hk
 have lb:=h.lt
 clear h hR ha
 obtain ⟨nm,num⟩:=a
 dsimp only at H0 HV hsv⊢
 go_enter Tryz.func106,Tryz.ntmps106
 go_wp2_with fail
 generalize hwb:w.alloc (Obj.cells #[.string nm, .int .i64 num] 205)=wb at*
 generalize w.heap.size=bs at*
 have e0:=H0.out.kept (b:=bs) (o:=0) (v:= .string nm) yuq
 have e1:=H0.out.kept (b:=bs) (o:=1) (v:= .int .i64 num) yuq
 go_region_held3 (λw'=>w'.cell? ⟨bs,0,none⟩=some (.string nm)/\w'.cell? ⟨bs,1,none⟩=some (.int .i64 num)) (go_keep)
  (first
   |(go_at_call 102;refine (HV.out _ _ _ H0.out.drew).mono ?_;rintro e wj0 ⟨rfl,q⟩;have HJ0:=hid q;clear q;have e0j0:=HJ0.out.kept (b:=bs) (o:=0) (v:= .string nm) yuq;have e1j0:=HJ0.out.kept (b:=bs) (o:=1) (v:= .int .i64 num) yuq)
   |(go_at_call 71;refine (Qp HJ0.out [zp6,x.val ⟨nm,num⟩] yun ⟨by decide,hsv,trivial⟩ yux).mono ?_;rintro e w1 ⟨rfl,q⟩;have H1:=hid q;clear q;have e0h1:=H1.out.kept (b:=bs) (o:=0) (v:= .string nm) yuq;have e1h1:=H1.out.kept (b:=bs) (o:=1) (v:= .int .i64 num) yuq))
 go_wp2
 (try simp only [Exit.inBlock,Exit.then])
 refine bodyPost_ret (results_none rfl _ _ _) rfl ?_
 exact ⟨rfl,H1.out.unbox⟩
theorem z44(h:Cw W x K w c s){k:Bk}(hk:s.blk=some k)(ha:a.ok)(hG:s.g+100<10000000):
  Cl 106 #[ptr c, .agg #[.string a.name, .int .i64 a.num]] w λe w'=>e= .returned (.tuple #[])/\Cw W x K w' c (x.outC a s):=by
 have hth:=h.th
 have hR:x.outC a s=(s.add [Qh,yR7,x.own 24,x.val a]).add [yjq,yR7,yR7,y1]:=by simp only [Cx.outC,hk]
 rw [hR]
 have hsv:=zaj h.base ha
 have HV:=hid (λ(K:List (Nat×Nat×Value)) (w:World) (s:Ck) (h:Cw W x K w c s)=>Yq h ha)
 have H0:=hid (h.box [.string a.name, .int .i64 a.num] 205)
 obtain ⟨b,c5,_⟩:=h.blk hk
 have lb:=h.lt
 clear h hR ha
 obtain ⟨nm,num⟩:=a
 dsimp only at H0 HV hsv⊢
 go_enter Tryz.func106,Tryz.ntmps106
 go_wp2_with fail
 generalize hwb:w.alloc (Obj.cells #[.string nm, .int .i64 num] 205)=wb at*
 generalize w.heap.size=bs at*
 have e0:=H0.out.kept (b:=bs) (o:=0) (v:= .string nm) yuq
 have e1:=H0.out.kept (b:=bs) (o:=1) (v:= .int .i64 num) yuq
 go_region_held3 (λw'=>w'.cell? ⟨bs,0,none⟩=some (.string nm)/\w'.cell? ⟨bs,1,none⟩=some (.int .i64 num)) (go_keep)
  (first
   |(go_at_call 134;refine (yjr H0.out.drew 24 yum yum).mono ?_;rintro e wj0 ⟨rfl,q⟩;have HJ0:=hid q;clear q;have e0j0:=HJ0.out.kept (b:=bs) (o:=0) (v:= .string nm) yuq;have e1j0:=HJ0.out.kept (b:=bs) (o:=1) (v:= .int .i64 num) yuq)
   |(go_at_call 102;refine (HV.out _ _ _ HJ0.out).mono ?_;rintro e wj1 ⟨rfl,q⟩;have HJ1:=hid q;clear q;have e0j1:=HJ1.out.kept (b:=bs) (o:=0) (v:= .string nm) yuq;have e1j1:=HJ1.out.kept (b:=bs) (o:=1) (v:= .int .i64 num) yuq)
   |(go_at_call 71;refine (Qp HJ1.out [Qh,yR7,x.own (24),x.val ⟨nm,num⟩] yun ⟨by decide,by decide,Ea hth _ yum yum,hsv,trivial⟩ yux).mono ?_;rintro e w1 ⟨rfl,q⟩;have H1:=hid q;clear q;have e0h1:=H1.out.kept (b:=bs) (o:=0) (v:= .string nm) yuq;have e1h1:=H1.out.kept (b:=bs) (o:=1) (v:= .int .i64 num) yuq))
 go_wp2_with fail
 refine (Qp H1.out [yjq,yR7,yR7,y1] yun ⟨by decide,by decide,by decide,by decide,trivial⟩ yu3).mono ?_
 rintro e w2 ⟨rfl,q⟩
 have H2:=hid q
 clear q
 go_wp2
 go_end0
 exact ⟨rfl,H2.out.unbox⟩
theorem zvq(h:Cw W x K w c s)(hof:of.size<=maxLen)(ha:a.ok)(hc:a.name=⟨#[]⟩/\0<=a.num/\a.num<(x.var of).2)(hv:0<=(x.var of).2/\(x.var of).2<=6):
  Cl 132 #[ptr c, .agg #[.string of, .string a.name, .int .i64 a.num]] w λe w'=>e= .returned (.tuple #[])/\Cw W x K w' c (x.check of a s):=by
 have hth:=h.th
 have hR:x.check of a s=s:=by
  simp only [Cx.check]
  rw [if_pos hc]
 rw [hR]
 have hsv:=zaj h.base ha
 have HV:=hid (λ(K:List (Nat×Nat×Value)) (w:World) (s:Ck) (h:Cw W x K w c s)=>Yq h ha)
 have hb:=h.box [.string of, .string a.name, .int .i64 a.num] 199
 have c1:=hb.c1
 have hlk:=hb.drew.lookS hof
 have H0:=hid hb
 have lb:=h.lt
 clear h ha hb hR
 obtain ⟨nm,num⟩:=a
 dsimp only at H0 HV hsv hlk c1 hc⊢
 generalize x.var of=fn at*
 obtain ⟨first,n⟩:=fn
 have hfd:=zvp first n
 dsimp only at hlk hv hc⊢
 obtain ⟨rfl,hc1,hc2⟩:=hc
 go_enter Tryz.func132,Tryz.ntmps132
 go_wp2_with fail
 generalize hwb:w.alloc (Obj.cells #[.string of, .string ⟨#[]⟩, .int .i64 num] 199)=wb at*
 generalize w.heap.size=bs at*
 have e0:=H0.out.kept (b:=bs) (o:=0) (v:= .string of) yuq
 have e1:=H0.out.kept (b:=bs) (o:=1) (v:= .string ⟨#[]⟩) yuq
 have e2:=H0.out.kept (b:=bs) (o:=2) (v:= .int .i64 num) yuq
 go_region_held3 (λw'=>w'.cell? ⟨c,1,none⟩=some (.map (some x.sb))/\w'.cell? ⟨bs,0,none⟩=some (.string of)/\(Instr.lookup 88 (.map (some x.sb)) (.string of) false).run Tryz.prog w'= .ok (.agg #[.int .i64 first, .int .i64 n]) w') (go_keep) (fail)
 go_wp2_with fail
 (try simp only [Exit.inBlock,Exit.then])
 refine bodyPost_ret (results_none rfl _ _ _) rfl ?_
 exact ⟨rfl,H0.out.drew.unbox⟩
theorem zz4(h:Cw W x K w c s)(hof:of.size<=maxLen)(ha:a.ok)(hp: ¬a.name=⟨#[]⟩)(hv:0<=(x.var of).2/\(x.var of).2<=6)(hG:s.g+100<10000000):
  Cl 132 #[ptr c, .agg #[.string of, .string a.name, .int .i64 a.num]] w λe w'=>e= .returned (.tuple #[])/\Cw W x K w' c (x.check of a s):=by
 have hc: ¬(a.name=⟨#[]⟩/\0<=a.num/\a.num<(x.var of).2):=λe=>by
  exact hp e.1
 have hth:=h.th
 have hR:x.check of a s=(((s.add [yLt,yR4,yM1,x.val a]).trapIf).add [yLt,yR4,x.val a,dec (x.var of).2]).trapIf:=by
  simp only [Cx.check]
  rw [if_neg hc]
 rw [hR]
 have hsv:=zaj h.base ha
 have HV:=hid (λ(K:List (Nat×Nat×Value)) (w:World) (s:Ck) (h:Cw W x K w c s)=>Yq h ha)
 have hb:=h.box [.string of, .string a.name, .int .i64 a.num] 199
 have c1:=hb.c1
 have hlk:=hb.drew.lookS hof
 have H0:=hid hb
 have lb:=h.lt
 clear h ha hb hR hc
 obtain ⟨nm,num⟩:=a
 dsimp only at H0 HV hsv hlk c1 hp⊢
 generalize x.var of=fn at*
 obtain ⟨first,n⟩:=fn
 have hfd:=zvp first n
 dsimp only at hlk hv hp⊢
 have he:nm.toList.isEmpty=false:=by
  refine Ey ?_
  rcases nm with ⟨⟨l⟩⟩
  cases l with
  |nil=>exact (hp rfl).elim
  |cons a l=>simp [ByteArray.size]
 go_enter Tryz.func132,Tryz.ntmps132
 go_wp2_with fail
 generalize hwb:w.alloc (Obj.cells #[.string of, .string nm, .int .i64 num] 199)=wb at*
 generalize w.heap.size=bs at*
 have e0:=H0.out.kept (b:=bs) (o:=0) (v:= .string of) yuq
 have e1:=H0.out.kept (b:=bs) (o:=1) (v:= .string nm) yuq
 have e2:=H0.out.kept (b:=bs) (o:=2) (v:= .int .i64 num) yuq
 go_region_held3 (λw'=>w'.cell? ⟨c,1,none⟩=some (.map (some x.sb))/\w'.cell? ⟨bs,0,none⟩=some (.string of)/\(Instr.lookup 88 (.map (some x.sb)) (.string of) false).run Tryz.prog w'= .ok (.agg #[.int .i64 first, .int .i64 n]) w') (go_keep) (fail)
 go_wp2_with fail
 refine (HV.out _ _ _ (Cw.drew H0.out)).mono ?_
 rintro e w1 ⟨rfl,q⟩
 have H1:=hid q
 clear q
 go_wp2_with fail
 refine (Qp H1.out [yLt,yR4,yM1,x.val ⟨nm,num⟩] yun ⟨by decide,by decide,by decide,hsv,trivial⟩ yux).mono ?_
 rintro e w2 ⟨rfl,q⟩
 have H2:=hid q
 clear q
 go_wp2_with fail
 refine (Oi H2.out yu3).mono ?_
 rintro e w3 ⟨rfl,q⟩
 have H3:=hid q
 clear q
 go_wp2_with fail
 go_region_law (first
  |(go_simp;go_at_call 131;refine (zah H3.out.drew n yum yum).mono ?_;rintro e wj0 ⟨rfl,q⟩;have HJ0:=hid q;clear q)
  |(go_simp;go_at_call 71;refine (Qp HJ0.out [yLt,yR4,x.val ⟨nm,num⟩,dec (n)] yun ⟨by decide,by decide,hsv,Sp _ yum yum,trivial⟩ yu4).mono ?_;rintro e w4 ⟨rfl,q⟩;have H4:=hid q;clear q))
 go_wp2_with fail
 refine (Oi H4.out yu5).mono ?_
 rintro e w5 ⟨rfl,q⟩
 have H5:=hid q
 clear q
 go_wp2
 go_end0
 exact ⟨rfl,H5.out.unbox⟩
theorem zvr(h:Cw W x K w c s)(hof:of.size<=maxLen)(ha:a.ok)(hp:a.name=⟨#[]⟩/\a.num<0)(hv:0<=(x.var of).2/\(x.var of).2<=6)(hG:s.g+100<10000000):
  Cl 132 #[ptr c, .agg #[.string of, .string a.name, .int .i64 a.num]] w λe w'=>e= .returned (.tuple #[])/\Cw W x K w' c (x.check of a s):=by
 have hc: ¬(a.name=⟨#[]⟩/\0<=a.num/\a.num<(x.var of).2):=λe=>by
  omega
 have hth:=h.th
 have hR:x.check of a s=(((s.add [yLt,yR4,yM1,x.val a]).trapIf).add [yLt,yR4,x.val a,dec (x.var of).2]).trapIf:=by
  simp only [Cx.check]
  rw [if_neg hc]
 rw [hR]
 have hsv:=zaj h.base ha
 have HV:=hid (λ(K:List (Nat×Nat×Value)) (w:World) (s:Ck) (h:Cw W x K w c s)=>Yq h ha)
 have hb:=h.box [.string of, .string a.name, .int .i64 a.num] 199
 have c1:=hb.c1
 have hlk:=hb.drew.lookS hof
 have H0:=hid hb
 have lb:=h.lt
 clear h ha hb hR hc
 obtain ⟨nm,num⟩:=a
 dsimp only at H0 HV hsv hlk c1 hp⊢
 generalize x.var of=fn at*
 obtain ⟨first,n⟩:=fn
 have hfd:=zvp first n
 dsimp only at hlk hv hp⊢
 obtain ⟨rfl,hp1⟩:=hp
 have hp2: ¬(0:Int)<=num:=yum
 go_enter Tryz.func132,Tryz.ntmps132
 go_wp2_with fail
 generalize hwb:w.alloc (Obj.cells #[.string of, .string ⟨#[]⟩, .int .i64 num] 199)=wb at*
 generalize w.heap.size=bs at*
 have e0:=H0.out.kept (b:=bs) (o:=0) (v:= .string of) yuq
 have e1:=H0.out.kept (b:=bs) (o:=1) (v:= .string ⟨#[]⟩) yuq
 have e2:=H0.out.kept (b:=bs) (o:=2) (v:= .int .i64 num) yuq
 go_region_held3 (λw'=>w'.cell? ⟨c,1,none⟩=some (.map (some x.sb))/\w'.cell? ⟨bs,0,none⟩=some (.string of)/\(Instr.lookup 88 (.map (some x.sb)) (.string of) false).run Tryz.prog w'= .ok (.agg #[.int .i64 first, .int .i64 n]) w') (go_keep) (fail)
 go_wp2_with fail
 refine (HV.out _ _ _ (Cw.drew H0.out)).mono ?_
 rintro e w1 ⟨rfl,q⟩
 have H1:=hid q
 clear q
 go_wp2_with fail
 refine (Qp H1.out [yLt,yR4,yM1,x.val ⟨⟨#[]⟩,num⟩] yun ⟨by decide,by decide,by decide,hsv,trivial⟩ yux).mono ?_
 rintro e w2 ⟨rfl,q⟩
 have H2:=hid q
 clear q
 go_wp2_with fail
 refine (Oi H2.out yu3).mono ?_
 rintro e w3 ⟨rfl,q⟩
 have H3:=hid q
 clear q
 go_wp2_with fail
 go_region_law (first
  |(go_simp;go_at_call 131;refine (zah H3.out.drew n yum yum).mono ?_;rintro e wj0 ⟨rfl,q⟩;have HJ0:=hid q;clear q)
  |(go_simp;go_at_call 71;refine (Qp HJ0.out [yLt,yR4,x.val ⟨⟨#[]⟩,num⟩,dec (n)] yun ⟨by decide,by decide,hsv,Sp _ yum yum,trivial⟩ yu4).mono ?_;rintro e w4 ⟨rfl,q⟩;have H4:=hid q;clear q))
 go_wp2_with fail
 refine (Oi H4.out yu5).mono ?_
 rintro e w5 ⟨rfl,q⟩
 have H5:=hid q
 clear q
 go_wp2
 go_end0
 exact ⟨rfl,H5.out.unbox⟩
theorem zvs(h:Cw W x K w c s)(hof:of.size<=maxLen)(ha:a.ok)(hp:a.name=⟨#[]⟩/\0<=a.num/\ ¬a.num<(x.var of).2)(hv:0<=(x.var of).2/\(x.var of).2<=6)(hG:s.g+100<10000000):
  Cl 132 #[ptr c, .agg #[.string of, .string a.name, .int .i64 a.num]] w λe w'=>e= .returned (.tuple #[])/\Cw W x K w' c (x.check of a s):=by
 have hc: ¬(a.name=⟨#[]⟩/\0<=a.num/\a.num<(x.var of).2):=λe=>by
  exact hp.2.2 e.2.2
 have hth:=h.th
 have hR:x.check of a s=(((s.add [yLt,yR4,yM1,x.val a]).trapIf).add [yLt,yR4,x.val a,dec (x.var of).2]).trapIf:=by
  simp only [Cx.check]
  rw [if_neg hc]
 rw [hR]
 have hsv:=zaj h.base ha
 have HV:=hid (λ(K:List (Nat×Nat×Value)) (w:World) (s:Ck) (h:Cw W x K w c s)=>Yq h ha)
 have hb:=h.box [.string of, .string a.name, .int .i64 a.num] 199
 have c1:=hb.c1
 have hlk:=hb.drew.lookS hof
 have H0:=hid hb
 have lb:=h.lt
 clear h ha hb hR hc
 obtain ⟨nm,num⟩:=a
 dsimp only at H0 HV hsv hlk c1 hp⊢
 generalize x.var of=fn at*
 obtain ⟨first,n⟩:=fn
 have hfd:=zvp first n
 dsimp only at hlk hv hp⊢
 obtain ⟨rfl,hp1,hp2⟩:=hp
 go_enter Tryz.func132,Tryz.ntmps132
 go_wp2_with fail
 generalize hwb:w.alloc (Obj.cells #[.string of, .string ⟨#[]⟩, .int .i64 num] 199)=wb at*
 generalize w.heap.size=bs at*
 have e0:=H0.out.kept (b:=bs) (o:=0) (v:= .string of) yuq
 have e1:=H0.out.kept (b:=bs) (o:=1) (v:= .string ⟨#[]⟩) yuq
 have e2:=H0.out.kept (b:=bs) (o:=2) (v:= .int .i64 num) yuq
 go_region_held3 (λw'=>w'.cell? ⟨c,1,none⟩=some (.map (some x.sb))/\w'.cell? ⟨bs,0,none⟩=some (.string of)/\(Instr.lookup 88 (.map (some x.sb)) (.string of) false).run Tryz.prog w'= .ok (.agg #[.int .i64 first, .int .i64 n]) w') (go_keep) (fail)
 go_wp2_with fail
 refine (HV.out _ _ _ (Cw.drew H0.out)).mono ?_
 rintro e w1 ⟨rfl,q⟩
 have H1:=hid q
 clear q
 go_wp2_with fail
 refine (Qp H1.out [yLt,yR4,yM1,x.val ⟨⟨#[]⟩,num⟩] yun ⟨by decide,by decide,by decide,hsv,trivial⟩ yux).mono ?_
 rintro e w2 ⟨rfl,q⟩
 have H2:=hid q
 clear q
 go_wp2_with fail
 refine (Oi H2.out yu3).mono ?_
 rintro e w3 ⟨rfl,q⟩
 have H3:=hid q
 clear q
 go_wp2_with fail
 go_region_law (first
  |(go_simp;go_at_call 131;refine (zah H3.out.drew n yum yum).mono ?_;rintro e wj0 ⟨rfl,q⟩;have HJ0:=hid q;clear q)
  |(go_simp;go_at_call 71;refine (Qp HJ0.out [yLt,yR4,x.val ⟨⟨#[]⟩,num⟩,dec (n)] yun ⟨by decide,by decide,hsv,Sp _ yum yum,trivial⟩ yu4).mono ?_;rintro e w4 ⟨rfl,q⟩;have H4:=hid q;clear q))
 go_wp2_with fail
 refine (Oi H4.out yu5).mono ?_
 rintro e w5 ⟨rfl,q⟩
 have H5:=hid q
 clear q
 go_wp2
 go_end0
 exact ⟨rfl,H5.out.unbox⟩
theorem zj2(h:Cw W x K w c s)(hof:of.size<=maxLen)(ha:a.ok)(hv:0<=(x.var of).2/\(x.var of).2<=6)(hG:s.g+100<10000000):
  Cl 132 #[ptr c, .agg #[.string of, .string a.name, .int .i64 a.num]] w λe w'=>e= .returned (.tuple #[])/\Cw W x K w' c (x.check of a s):=by
 by_cases h1:a.name=⟨#[]⟩
 ·by_cases h2:0<=a.num
  ·by_cases h3:a.num<(x.var of).2
   ·exact zvq h hof ha ⟨h1,h2,h3⟩ hv
   ·exact zvs h hof ha ⟨h1,h2,h3⟩ hv hG
  ·exact zvr h hof ha ⟨h1,by omega⟩ hv hG
 ·exact zz4 h hof ha h1 hv hG
end
end Go.Proofs.YtkenoofmkbghiaaGreatDoor
