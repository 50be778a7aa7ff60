import Derived.Test.YtiiepngikigmbaaGreatDoorP21
set_option maxRecDepth 100000
set_option maxHeartbeats 4000000
namespace Go.Proofs.YtiiepngikigmbaaGreatDoor
open Go.RowKit
variable{w3:World}
section
variable{D:Nat->Prop}{lab:Nat->Nat×Nat}{w:World}{br sb bs:Nat}{tv ov:Value}{st:RS}{ms:List HM}
attribute [local go_sem] Ih Ep Ii Ij Gk Yr zdx zal Sf Ua Zz Ub Uc Yf Vw Ik Fo Gl Gm Yg Xr Il Gn Ys zdy zam Sg Im Ud Gp Gq Gr Yt zdz zan Sh Gs Yh Xs Xt Yo Yu zd0 zao Si Uv Yl Yv Yw Zm Vh Sj Er Xk Ss Uw Eb Ec Ux Yb zbv zcr Ed Ee Xl Uk Ul Yx Zc In Fb Uy
theorem Io(s:St)(b:Nat)(w:World):
  Cl 83 #[Vk s b] w λe w'=>e= .returned (.string (Vg s))/\Below w.heap.size w w':=by
 rcases s with ⟨to,a⟩|⟨to,k,a,c⟩|⟨to,f,a⟩|⟨f,a,c⟩|a|⟨⟩|a|n
 ·exact ykc
 ·exact ykc
 ·exact ykc
 ·exact ylq
 ·exact ylq
 ·exact yks
 ·exact yks
 ·exact yks
def RS.mayStand(st:RS):St->Bool
 | .inr (.inr (.inl (_,_,_)))=>decide (0<st.opn.length)&&st.inB
 | .inr (.inr (.inr (.inl (_,_,_))))=>decide (0<st.opn.length)&&st.inB
 | .inr (.inr (.inr (.inr (.inr (.inl ())))))=>decide (0<st.opn.length)&&!st.inB
 |_=>decide (0<st.opn.length)
theorem Xm(h:RMach D lab w br sb bs tv ov st ms)(ho:st.opnOk)(s:St)(b:Nat):
  Cl 79 #[ptr br,Vk s b] w λe w'=>e= .returned (.bool (st.mayStand s))/\w'=w:=by
 have c3:=h.c3
 obtain ⟨oa,ok,hov⟩: ∃a k,ov= .slice a st.opn.length k:=yjz
 rw [hov] at c3
 have KB:=hid (zob h ho)
 clear h ho hov
 by_cases h0:st.opn.length=0
 ·have hf:st.mayStand s=false:=by
   rcases s with ⟨to,a⟩|⟨to,k,a,c⟩|⟨to,f,a⟩|⟨f,a,c⟩|a|⟨⟩|a|n<;>simp [RS.mayStand,h0]
  rw [hf]
  rw [h0] at c3
  rcases s with ⟨to,a⟩|⟨to,k,a,c⟩|⟨to,f,a⟩|⟨f,a,c⟩|a|⟨⟩|a|n<;>
  ·simp only [Vk,stV]
   go_enter Tryz.func79,Tryz.ntmps79
   go_wp2
   go_ret
   exact ⟨rfl,rfl⟩
 ·have h1:0<st.opn.length:=by omega
  have h2:((st.opn.length:Int)==0)=false:=by simpa using (show ¬(st.opn.length:Int)=0 by omega)
  generalize hI:st.inB=ib at KB
  rcases s with ⟨to,a⟩|⟨to,k,a,c⟩|⟨to,f,a⟩|⟨f,a,c⟩|a|⟨⟩|a|n
  ·exact ykf
  ·exact ykf
  ·rw [show st.mayStand (St.get to f a)=ib from by simp [RS.mayStand,h1,hI]]
   simp only [Vk,stV]
   go_enter Tryz.func79,Tryz.ntmps79
   go_wp2_with fail
   refine KB.out.mono ?_
   rintro e w1 ⟨rfl,rfl⟩
   go_wp2
   go_ret
   exact ⟨rfl,rfl⟩
  ·rw [show st.mayStand (St.put f a c)=ib from by simp [RS.mayStand,h1,hI]]
   simp only [Vk,stV]
   go_enter Tryz.func79,Tryz.ntmps79
   go_wp2_with fail
   refine KB.out.mono ?_
   rintro e w1 ⟨rfl,rfl⟩
   go_wp2
   go_ret
   exact ⟨rfl,rfl⟩
  ·exact ykf
  ·rw [show st.mayStand (St.atomic)=!ib from by simp [RS.mayStand,h1,hI]]
   simp only [Vk]
   go_enter Tryz.func79,Tryz.ntmps79
   go_wp2_with fail
   refine KB.out.mono ?_
   rintro e w1 ⟨rfl,rfl⟩
   go_wp2
   go_ret
   exact ⟨rfl,rfl⟩
  ·exact ylg
  ·exact ylg
end
def Qj:St->List PV
 | .inl (_,a)=>[a]
 | .inr (.inl (_,_,a,b))=>[a,b]
 | .inr (.inr (.inl (_,_,a)))=>[a]
 | .inr (.inr (.inr (.inl (_,a,b))))=>[a,b]
 | .inr (.inr (.inr (.inr (.inl a))))=>[a]
 | .inr (.inr (.inr (.inr (.inr (.inl ())))))=>[]
 | .inr (.inr (.inr (.inr (.inr (.inr (.inl a))))))=>[a]
 | .inr (.inr (.inr (.inr (.inr (.inr (.inr _))))))=>[]
def Ip(w:World)(l:List PV)(e:Ending)(w':World):Prop:=∃a c,e= .returned (.slice a l.length c)/\Below w.heap.size w w'/\ ∀i (h:i<l.length),∃g,a=some ⟨g,0,none⟩/\g<w'.heap.size/\w'.cell? ⟨g,i*2,none⟩=some (.string l[i].name)/\w'.cell? ⟨g,i*2+1,none⟩=some (.int .i64 l[i].num)
theorem zfo(w:World)(o p:Obj):Below w.heap.size w ((w.alloc o).alloc p):=((Below.refl _ w).alloc (Nat.le_refl _) o).alloc yl6 p
theorem zd1(w:World)(o:Obj)(a:PV)(g:Nat)(hg:g=(w.alloc o).heap.size):Ip w [a] (.returned (.slice (some ⟨g,0,none⟩) 1 1)) ((w.alloc o).alloc (.cells #[.string a.name, .int .i64 a.num] 187)):=by
 subst hg
 refine ⟨_,1,rfl,zfo _ _ _,λi hi=>?_⟩
 obtain rfl:i=0:=ymy
 exact ⟨_,rfl,by simp,World.cell?_alloc_new _ _ _ 0,World.cell?_alloc_new _ _ _ 1⟩
theorem zre(w:World)(o:Obj)(a b:PV):Ip w [a,b] (.returned (.slice (some ⟨(w.alloc o).heap.size,0,none⟩) 2 2)) ((w.alloc o).alloc (.cells #[.string a.name, .int .i64 a.num, .string b.name, .int .i64 b.num] 187)):=by
 refine ⟨_,2,rfl,zfo _ _ _,λi hi=>?_⟩
 have:i=0\/i=1:=ymy
 rcases this with rfl|rfl
 ·exact ⟨_,rfl,by simp,World.cell?_alloc_new _ _ _ 0,World.cell?_alloc_new _ _ _ 1⟩
 ·exact ⟨_,rfl,by simp,World.cell?_alloc_new _ _ _ 2,World.cell?_alloc_new _ _ _ 3⟩
section
variable(w:World)(to of:ByteArray)(a b:PV)(k:Int)
theorem z25:Cl 231 #[.agg #[.string to, .string a.name, .int .i64 a.num]] w λe w'=>Ip w [a] e w':=by
 go_enter Tryz.func231,Tryz.ntmps231
 go_wp2
 go_ret
 exact zd1 w _ a _ yl6
theorem z5d:Cl 232 #[.agg #[.string to, .int .i64 k, .string a.name, .int .i64 a.num, .string b.name, .int .i64 b.num]] w λe w'=>Ip w [a,b] e w':=by
 go_enter Tryz.func232,Tryz.ntmps232
 go_wp2
 go_ret
 have:=zre w (.cells #[.string to, .int .i64 k, .string a.name, .int .i64 a.num, .string b.name, .int .i64 b.num] 217) a b
 simpa using this
theorem zrf:Cl 226 #[.agg #[.string of, .string a.name, .int .i64 a.num]] w λe w'=>e= .returned (.slice (some ⟨w.heap.size+1,0,none⟩) 1 1)/\w'=(w.alloc (.cells #[.string of, .string a.name, .int .i64 a.num] 190)).alloc (.cells #[.string a.name, .int .i64 a.num] 187):=by
 go_enter Tryz.func226,Tryz.ntmps226
 go_wp2
 go_ret
 exact ⟨rfl,rfl⟩
theorem z26:Cl 228 #[.agg #[.string a.name, .int .i64 a.num]] w λe w'=>Ip w [a] e w':=by
 go_enter Tryz.func228,Tryz.ntmps228
 go_wp2
 go_ret
 exact zd1 w _ a _ yl6
theorem zrg(v:Value):Cl 214 #[v] w λe w'=>Ip w [] e w':=by
 go_enter Tryz.func214,Tryz.ntmps214
 go_wp2
 go_ret
 exact ⟨none,0,rfl,Below.refl _ _,λi hi=>by simp at hi⟩
theorem z0c(v:Value):Cl 230 #[v] w λe w'=>Ip w [] e w':=by
 go_enter Tryz.func230,Tryz.ntmps230
 go_wp2
 go_ret
 exact ⟨none,0,rfl,Below.refl _ _,λi hi=>by simp at hi⟩
theorem z5e(b:Nat)(c1:w.cell? ⟨b,1,none⟩=some (.string a.name))(c2:w.cell? ⟨b,2,none⟩=some (.int .i64 a.num)):Cl 229 #[ptr b] w λe w'=>Ip w [a] e w':=by
 go_enter Tryz.func229,Tryz.ntmps229
 go_wp2
 go_ret
 refine ⟨_,1,rfl,(Below.refl _ w).alloc (Nat.le_refl _) _,λi hi=>?_⟩
 obtain rfl:i=0:=ymy
 exact ⟨_,rfl,by simp,World.cell?_alloc_new _ _ _ 0,World.cell?_alloc_new _ _ _ 1⟩
theorem z27:(Tryz.prog.info? 187).map (λi=>(i.zero,i.size,i.bytes))=some (some (.agg #[.string ⟨#[]⟩, .int .i64 0]),2,24):=yl7
theorem zj5(W:World)(x y:Value)(T:TypeId):(W.alloc (.cells #[x,y] T)).ownsRow 0 T 2 (.slice (some ⟨W.heap.size,0,none⟩) 1 1) 1 [x,y]:=
 ⟨rfl, .inr ⟨_,1,#[x,y],rfl,Nat.zero_le _,(show (W.heap.push _)[W.heap.size]?=_ from Array.getElem?_push_size),Nat.le_refl _,by unfold maxLen;omega,rfl,rfl⟩⟩
theorem zht(W:World)(x y:Value)(T:TypeId): ∀j u',[x,y][j]?=some u'->(W.alloc (.cells #[x,y] T)).cell? ((⟨W.heap.size,0,none⟩:Addr).add j)=some u':=by
 intro j u' hj
 have hc:=(zj5 W x y T).cells (g:=W.heap.size) rfl j u' hj
 exact hc
theorem zhu{g cap:Nat}(ho:w3.ownsRow 0 187 2 (.slice (some ⟨g,0,none⟩) 2 cap) 2 [.string a.name, .int .i64 a.num, .string b.name, .int .i64 b.num])(hb:Below w.heap.size w w3):Ip w [a,b] (.returned (.slice (some ⟨g,0,none⟩) 2 cap)) w3:=by
 have hg:g<w3.heap.size:=(ho.lt g rfl).2
 have c: ∀j u,[Value.string a.name, .int .i64 a.num, .string b.name, .int .i64 b.num][j]?=some u->w3.cell? ⟨g,j,none⟩=some u:=by
  intro j u hu
  have:=ho.cells (g:=g) rfl j u hu
  have e:(⟨g,0,none⟩:Addr).add j=⟨g,j,none⟩:=by
   unfold Addr.add
   split
   ·rename_i h0;rw [h0]
   ·simp
  rwa [e] at this
 refine ⟨_,cap,rfl,hb,λi hi=>?_⟩
 have:i=0\/i=1:=ymy
 rcases this with rfl|rfl
 ·exact ⟨g,rfl,hg,c 0 _ rfl,c 1 _ rfl⟩
 ·exact ⟨g,rfl,hg,c 2 _ rfl,c 3 _ rfl⟩
theorem z5f(w:World)(o:Obj):(w.alloc o).heap.size=w.heap.size+1:=yl6
theorem z5g(w:World)(o p:Obj):((w.alloc o).alloc p).heap.size=w.heap.size+1+1:=yl6
theorem z28(w:World)(o p q:Obj):(((w.alloc o).alloc p).alloc q).heap.size=w.heap.size+1+1+1:=yl6
theorem zhv{W:World}{v:Value}{gv:Nat}(hW:Below w.heap.size w W)(hv:v.ownBlock=some gv)(hg:w.heap.size<=gv)(hc:Chg (λk _=>v.ownBlock=some k) W w3):Below w.heap.size w w3:=
 hW.trans (hc.below hW.size (λk _ e=>by rw [hv] at e;injection e with e;omega))
theorem z29:Cl 227 #[.agg #[.string of, .string a.name, .int .i64 a.num, .string b.name, .int .i64 b.num]] w λe w'=>Ip w [a,b] e w':=by
 obtain ⟨i0,hi,hz0,hz1,hz2⟩:=info_parts z27
 have hl1:1+1<=maxLen:=ymb
 have hl2:(1+1)*24<=140737488355328:=yl5
 have OA:Hid (((((w.alloc (.cells #[.string of, .string a.name, .int .i64 a.num, .string b.name, .int .i64 b.num] 194)).alloc (.cells #[.string of, .string a.name, .int .i64 a.num] 190)).alloc (.cells #[.string a.name, .int .i64 a.num] 187)).alloc (.cells #[.string b.name, .int .i64 b.num] 187)).drew.ownsRow 0 187 2 (.slice (some ⟨w.heap.size+1+1,0,none⟩) 1 1) 1 [.string a.name, .int .i64 a.num]):=hid (by
  have:=zj5 ((w.alloc (.cells #[.string of, .string a.name, .int .i64 a.num, .string b.name, .int .i64 b.num] 194)).alloc (.cells #[.string of, .string a.name, .int .i64 a.num] 190)) (.string a.name) (.int .i64 a.num) 187
  rw [z5g] at this
  exact this.alloc _)
 have CA:Hid (∀j u',[Value.string b.name, .int .i64 b.num][j]?=some u'->((((w.alloc (.cells #[.string of, .string a.name, .int .i64 a.num, .string b.name, .int .i64 b.num] 194)).alloc (.cells #[.string of, .string a.name, .int .i64 a.num] 190)).alloc (.cells #[.string a.name, .int .i64 a.num] 187)).alloc (.cells #[.string b.name, .int .i64 b.num] 187)).drew.cell? ((⟨w.heap.size+1+1+1,0,none⟩:Addr).add j)=some u'):=hid (by
  have:=zht (((w.alloc (.cells #[.string of, .string a.name, .int .i64 a.num, .string b.name, .int .i64 b.num] 194)).alloc (.cells #[.string of, .string a.name, .int .i64 a.num] 190)).alloc (.cells #[.string a.name, .int .i64 a.num] 187)) (.string b.name) (.int .i64 b.num) 187
  rw [z28] at this
  exact this)
 have OB:Hid (((((w.alloc (.cells #[.string of, .string a.name, .int .i64 a.num, .string b.name, .int .i64 b.num] 194)).alloc (.cells #[.string b.name, .int .i64 b.num] 187)).alloc (.cells #[.string of, .string a.name, .int .i64 a.num] 190)).alloc (.cells #[.string a.name, .int .i64 a.num] 187)).drew.ownsRow 0 187 2 (.slice (some ⟨w.heap.size+1+1+1,0,none⟩) 1 1) 1 [.string a.name, .int .i64 a.num]):=hid (by
  have:=zj5 (((w.alloc (.cells #[.string of, .string a.name, .int .i64 a.num, .string b.name, .int .i64 b.num] 194)).alloc (.cells #[.string b.name, .int .i64 b.num] 187)).alloc (.cells #[.string of, .string a.name, .int .i64 a.num] 190)) (.string a.name) (.int .i64 a.num) 187
  rw [z28] at this
  exact this)
 have CB:Hid (∀j u',[Value.string b.name, .int .i64 b.num][j]?=some u'->((((w.alloc (.cells #[.string of, .string a.name, .int .i64 a.num, .string b.name, .int .i64 b.num] 194)).alloc (.cells #[.string b.name, .int .i64 b.num] 187)).alloc (.cells #[.string of, .string a.name, .int .i64 a.num] 190)).alloc (.cells #[.string a.name, .int .i64 a.num] 187)).drew.cell? ((⟨w.heap.size+1,0,none⟩:Addr).add j)=some u'):=hid (by
  have h0:=zht (w.alloc (.cells #[.string of, .string a.name, .int .i64 a.num, .string b.name, .int .i64 b.num] 194)) (.string b.name) (.int .i64 b.num) 187
  rw [z5f] at h0
  intro j u' hj
  have h1:=h0 j u' hj
  have hlt:=blt h1
  exact ((((Below.refl _ _).alloc (Nat.le_refl _) (.cells #[.string of, .string a.name, .int .i64 a.num] 190)).alloc yl6 (.cells #[.string a.name, .int .i64 a.num] 187)).cell (p:=(⟨w.heap.size+1,0,none⟩:Addr).add j) hlt).trans h1)
 have BA:Hid (Below w.heap.size w ((((w.alloc (.cells #[.string of, .string a.name, .int .i64 a.num, .string b.name, .int .i64 b.num] 194)).alloc (.cells #[.string of, .string a.name, .int .i64 a.num] 190)).alloc (.cells #[.string a.name, .int .i64 a.num] 187)).alloc (.cells #[.string b.name, .int .i64 b.num] 187)).drew):=hid (((((Below.refl _ w).alloc (Nat.le_refl _) _).alloc yl6 _).alloc yma _).alloc yma _).drew
 have BB:Hid (Below w.heap.size w ((((w.alloc (.cells #[.string of, .string a.name, .int .i64 a.num, .string b.name, .int .i64 b.num] 194)).alloc (.cells #[.string b.name, .int .i64 b.num] 187)).alloc (.cells #[.string of, .string a.name, .int .i64 a.num] 190)).alloc (.cells #[.string a.name, .int .i64 a.num] 187)).drew):=hid (((((Below.refl _ w).alloc (Nat.le_refl _) _).alloc yl6 _).alloc yma _).alloc yma _).drew
 go_enter Tryz.func227,Tryz.ntmps227
 go_wp2_with fail
 go_region_law (first
  |(go_simp;go_at_call 226;refine (zrf _ of a).mono ?_;rintro e w1 ⟨rfl,rfl⟩)
  |(refine Je rfl (.tmp 5) (.tmp 8) 265 rfl 187 i0 (.agg #[.string ⟨#[]⟩, .int .i64 0]) 2 24 yl8 Tryz.underlying265 hi hz0 hz1 hz2 rfl (.slice (some ⟨w.heap.size+1+1,0,none⟩) 1 1) 1 [.string a.name, .int .i64 a.num] rfl OA.out ⟨w.heap.size+1+1+1,0,none⟩ [.string b.name, .int .i64 b.num] rfl rfl CA.out ynr hl1 hl2 ?_;intro g cap w3 ho hc hg;have HR:=hid (zhu w a b ho (zhv w (gv:=w.heap.size+1+1) BA.out rfl yl5 hc));clear ho hc hg)
  |(refine Je rfl (.tmp 5) (.tmp 8) 265 rfl 187 i0 (.agg #[.string ⟨#[]⟩, .int .i64 0]) 2 24 yl8 Tryz.underlying265 hi hz0 hz1 hz2 rfl (.slice (some ⟨w.heap.size+1+1+1,0,none⟩) 1 1) 1 [.string a.name, .int .i64 a.num] rfl OB.out ⟨w.heap.size+1,0,none⟩ [.string b.name, .int .i64 b.num] rfl rfl CB.out ynr hl1 hl2 ?_;intro g cap w3 ho hc hg;have HR:=hid (zhu w a b ho (zhv w (gv:=w.heap.size+1+1+1) BB.out rfl yl5 hc));clear ho hc hg))
 all_goals
  go_wp2
  go_ret
  exact HR.out
end
def StB(W:World)(s:St)(b:Nat):Prop:=match s with
 | .inr (.inr (.inr (.inr (.inr (.inr (.inl a))))))=>W.cell? ⟨b,1,none⟩=some (.string a.name)/\W.cell? ⟨b,2,none⟩=some (.int .i64 a.num)
 |_=>True
theorem z5h(v:Value)(w:World):(method 473 213 v "commits/program.reads").run Tryz.prog w= .ok (231,v) w:=yl7
theorem z6i(v:Value)(w:World):(method 473 217 v "commits/program.reads").run Tryz.prog w= .ok (232,v) w:=yl7
theorem z5i(a b c d:Value)(w:World):(method 473 192 (.agg #[a,b,c,d]) "commits/program.reads").run Tryz.prog w= .ok (226, .agg #[b,c,d]) w:=yl7
theorem z5j(v:Value)(w:World):(method 473 194 v "commits/program.reads").run Tryz.prog w= .ok (227,v) w:=yl7
theorem z5k(v:Value)(w:World):(method 473 196 v "commits/program.reads").run Tryz.prog w= .ok (228,v) w:=yl7
theorem zv0(v:Value)(w:World):(method 473 147 v "commits/program.reads").run Tryz.prog w= .ok (214,v) w:=yl7
theorem z6j(v:Value)(w:World):(method 473 197 v "commits/program.reads").run Tryz.prog w= .ok (229,v) w:=yl7
theorem z3a(v:Value)(w:World):(method 473 200 v "commits/program.reads").run Tryz.prog w= .ok (230,v) w:=yl7
theorem z0d(s:St)(b:Nat): ∃T u F u',Vk s b= .iface T u/\(∀W,(method 473 T u "commits/program.reads").run Tryz.prog W= .ok (F,u') W)/\(∀args W,(callFunc F args).run Tryz.prog W= .ok (.enter F args) W)/\
  ∀W,StB W s b->Cl F #[u'] W λe w'=>Ip W (Qj s) e w':=by
 rcases s with ⟨to,a⟩|⟨to,k,a,c⟩|⟨to,f,a⟩|⟨f,a,c⟩|a|⟨⟩|a|n
 ·exact ⟨_,_,_,_,rfl,z5h _,enters_of Tryz.func231 yl7 rfl,λW _=>z25 W to a⟩
 ·exact ⟨_,_,_,_,rfl,z6i _,enters_of Tryz.func232 yl7 rfl,λW _=>z5d W to a c k⟩
 ·refine ⟨_,_,_,_,rfl,z5i _ _ _ _,enters_of Tryz.func226 yl7 rfl,λW _=>(zrf W f a).mono ?_⟩
  rintro e w' ⟨rfl,rfl⟩
  exact zd1 W _ a _ yl6
 ·exact ⟨_,_,_,_,rfl,z5j _,enters_of Tryz.func227 yl7 rfl,λW _=>z29 W f a c⟩
 ·exact ⟨_,_,_,_,rfl,z5k _,enters_of Tryz.func228 yl7 rfl,λW _=>z26 W a⟩
 ·exact ⟨_,_,_,_,rfl,zv0 _,enters_of Tryz.func214 yl7 rfl,λW _=>zrg W _⟩
 ·exact ⟨_,_,_,_,rfl,z6j _,enters_of Tryz.func229 yl7 rfl,λW h=>z5e W a b h.1 h.2⟩
 ·exact ⟨_,_,_,_,rfl,z3a _,enters_of Tryz.func230 yl7 rfl,λW _=>z0c W _⟩
def Xg:St->Option ByteArray
 | .inr (.inr (.inl (_,f,_)))=>some f
 | .inr (.inr (.inr (.inl (f,_,_))))=>some f
 |_=>none
def RS.mayName(st:RS)(l:List ByteArray)(s:St):Bool:=(Qj s).all (λv=>v.name.toList.isEmpty||Uh l v.name)&&(!st.isSh (Vg s)&&(match Xg s with|some f=>st.isSh f|none=>true))
structure zl9(s:St):Prop where
 rd: ∀v∈Qj s,v.name.size<=maxLen
 to:(Vg s).size<=maxLen
 of: ∀f,Xg s=some f->f.size<=maxLen
section
variable{D:Nat->Prop}{lab:Nat->Nat×Nat}{w:World}{br sb bs:Nat}{tv ov:Value}{st:RS}{ms:List HM}
attribute [local go_sem] Ii Ij Ub Uc Xr Il Gp Gq Xs Xt Yv Yw Eb Ec Uk Ul
theorem Fp(h:RMach D lab w br sb bs tv ov st ms)(tl:List Nat)(t:Nat)(ht:st.threads=tl++[t])(htl:t<ms.length)(hn:tl.length<1000000)(l:List ByteArray)(c:Nat)(hk:ms[t].h.k= .thr l c)(s:St)(b:Nat)(hS:StB w s b)(hz:zl9 s)(hlen:(Qj s).length<=2):
  Cl 80 #[ptr br,Vk s b] w λe w'=>e= .returned (.bool (st.mayName l s))/\Below w.heap.size w w':=by
 obtain ⟨T,u,F,u',he,hme,hen,hrd⟩:=z0d s b
 have KR:=hid (hrd w hS)
 have KL:Hid (∀W,Below w.heap.size w W->Cl 82 #[ptr br] W λe w'=>e= .returned (ptr ms[t].b)/\w'=W.drew):=hid (λW hW=>zdq (h.below hW) tl t ht htl hn)
 have hth:=(h.hd t htl).kind
 rw [hk] at hth
 have KH:Hid (∀W,Below w.heap.size w W->∀x:ByteArray,x.size<=maxLen->Cl 84 #[ptr ms[t].b, .string x] W λe w'=>e= .returned (.bool (Uh l x))/\w'=W):=hid (λW hW x hx=>by
  have hb:=Qd (h.hd t htl).sh
  exact zhp ((hW.cell (p:=⟨ms[t].b,1,none⟩) hb).trans hth.1) (hth.2.2.keep (Chg.of_below (M:=λ_ _=>False) hW) (λ_ e=>e)) x hx)
 have KI:Hid (∀W,Below w.heap.size w W->∀x:ByteArray,x.size<=maxLen->Cl 75 #[ptr br, .string x] W λe w'=>e= .returned (.bool (st.isSh x))/\Below w.heap.size w w'):=hid (λW hW x hx=>(Uu (h.below hW) x hx).mono λe w' ⟨h1,h2⟩=>⟨h1,hW.trans (h2.mono hW.size)⟩)
 have KT:Hid (∀W,Below w.heap.size w W->Cl 83 #[.iface T u] W λe w'=>e= .returned (.string (Vg s))/\Below w.heap.size w w'):=hid (λW hW=>by rw [<-he];exact (Io s b W).mono λe w' ⟨h1,h2⟩=>⟨h1,hW.trans (h2.mono hW.size)⟩)
 have HE:=hid he
 have HZ:=hid hz
 rw [he]
 clear h hS hrd he hth hz ht hk hn
 generalize ms[t].b=tb at*
 clear htl
 go_enter Tryz.func80,Tryz.ntmps80
 go_wp2_with fail
 refine KR.out.mono ?_
 rintro e w1 ⟨a,cp,rfl,b1,hc⟩
 have B1:=hid b1
 have HC:=hid hc
 clear b1 hc KR
 go_wp2
 go_loopw [12] (λv wr=>∃k:Nat,k<=(Qj s).length/\v= .int .i64 k/\Hid (Below w1.heap.size w1 wr)/\Hid (∀j (h:j<(Qj s).length),j<k->((Qj s)[j].name.toList.isEmpty||Uh l (Qj s)[j].name)=true)) (λv _=>(Qj s).length- (intOf v).toNat)
 case atStart=>exact ⟨0,Nat.zero_le _,rfl,Below.refl _ _,λj _ hj=>by omega⟩
 case round=>
  obtain ⟨k,hkl,rfl,HB,HP⟩:=hrel
  have HW:Hid (Below w.heap.size w wr):=B1.out.trans (HB.out.mono B1.out.size)
  by_cases hlt:k<(Qj s).length
  ·have hlt':(k:Int)<((Qj s).length:Int):=by omega
   obtain ⟨g,rfl,hg,q1,q2⟩:=HC.out k hlt
   have r1:=(HB.out.cell (p:=⟨g,k*2,none⟩) hg).trans q1
   have r2:=(HB.out.cell (p:=⟨g,k*2+1,none⟩) hg).trans q2
   have hxs:=HZ.out.rd _ (List.getElem_mem hlt)
   clear q1 q2
   generalize hx:(Qj s)[k]=x at r1 r2 hxs
   have HX:=hid hx
   clear hx
   have BA:Hid (Below w.heap.size w (wr.alloc (.cells #[.string x.name, .int .i64 x.num] 187)).drew):=hid ((HW.out.alloc HW.out.size _).drew)
   have BA2:Hid (Below w1.heap.size w1 (wr.alloc (.cells #[.string x.name, .int .i64 x.num] 187)).drew):=hid ((HB.out.alloc HB.out.size _).drew)
   cases hem:x.name.toList.isEmpty with
   |true=>
    have HP2:Hid (∀j (h:j<(Qj s).length),j<k+1->((Qj s)[j].name.toList.isEmpty||Uh l (Qj s)[j].name)=true):=λj hj hjk=>by
     by_cases e:j=k
     ·subst e;rw [HX.out,hem];rfl
     ·exact HP.out j hj yl5
    go_wp2_with fail
    go_region
    all_goals
     go_wp2
     go_roundw
     case rel=>exact ⟨k+1,by omega,by go_num,BA2,HP2⟩
     case measure=>simp [intOf];omega
   |false=>
    cases hha:Uh l x.name with
    |true=>
     have HP2:Hid (∀j (h:j<(Qj s).length),j<k+1->((Qj s)[j].name.toList.isEmpty||Uh l (Qj s)[j].name)=true):=λj hj hjk=>by
      by_cases e:j=k
      ·subst e;rw [HX.out,hha];simp
      ·exact HP.out j hj yl5
     go_wp2_with fail
     go_region_law (first
      |(go_simp;go_at_call 82;refine (KL.out _ BA.out).mono ?_;rintro e w2 ⟨rfl,rfl⟩)
      |(go_simp;go_at_call 84;refine (KH.out _ BA.out.drew x.name hxs).mono ?_;rintro e w2 ⟨rfl,rfl⟩;rw [hha]))
     all_goals
      go_wp2
      go_roundw
      case rel=>exact ⟨k+1,by omega,by go_num,BA2.out.drew,HP2⟩
      case measure=>simp [intOf];omega
    |false=>
     have HF:Hid (st.mayName l s=false):=by
      have:(Qj s).all (λv=>v.name.toList.isEmpty||Uh l v.name)=false:=List.all_eq_false.2 ⟨(Qj s)[k],List.getElem_mem hlt,by rw [HX.out,hem,hha];simp⟩
      show (_&&_)=false
      rw [this]
      rfl
     go_wp2_with fail
     go_region_law (first
      |(go_simp;go_at_call 82;refine (KL.out _ BA.out).mono ?_;rintro e w2 ⟨rfl,rfl⟩)
      |(go_simp;go_at_call 84;refine (KH.out _ BA.out.drew x.name hxs).mono ?_;rintro e w2 ⟨rfl,rfl⟩;rw [hha]))
     all_goals
      go_wp2
      go_ret
      exact ⟨by rw [HF.out];rfl,BA.out.drew⟩
  ·have hlt': ¬(k:Int)<((Qj s).length:Int):=by omega
   have HA:Hid ((Qj s).all (λv=>v.name.toList.isEmpty||Uh l v.name)=true):=hid (List.all_eq_true.2 λv hv=>by
    obtain ⟨i,hi,rfl⟩:=List.getElem_of_mem hv
    exact HP.out i hi yl5)
   go_wp2_with fail
   refine (KT.out wr HW.out).mono ?_
   rintro e w2 ⟨rfl,b2⟩
   have B2:=hid b2
   clear b2
   go_wp2_with fail
   refine (KI.out w2 B2.out _ HZ.out.to).mono ?_
   rintro e w3 ⟨rfl,b3⟩
   have B3:=hid b3
   clear b3
   cases hsh:st.isSh (Vg s) with
   |true=>
    have HF:Hid (st.mayName l s=false):=by
     show (_&&(!st.isSh (Vg s)&&_))=false
     rw [hsh]
     simp
    go_wp2
    go_ret
    exact ⟨by rw [HF.out];rfl,B3.out⟩
   |false=>
    have HM:Hid (st.mayName l s=(match Xg s with|some f=>st.isSh f|none=>true)):=by
     show (_&&(!st.isSh (Vg s)&&_))=_
     rw [hsh,HA.out]
     simp
    have HEo:=HE.out
    rcases s with ⟨to,y⟩|⟨to,o,y,z⟩|⟨to,f,y⟩|⟨f,y,z⟩|y|⟨⟩|y|n
    ·obtain ⟨rfl,rfl⟩:213=T/\_=u:=by simpa [Vk,stV] using HEo
     go_wp2
     go_ret
     exact ⟨by rw [HM.out];rfl,B3.out⟩
    ·obtain ⟨rfl,rfl⟩:217=T/\_=u:=by simpa [Vk,stV] using HEo
     go_wp2
     go_ret
     exact ⟨by rw [HM.out];rfl,B3.out⟩
    ·obtain ⟨rfl,rfl⟩:192=T/\_=u:=by simpa [Vk,stV] using HEo
     go_wp2_with fail
     refine (KI.out _ (B3.out.alloc B3.out.size _) f (HZ.out.of f rfl)).mono ?_
     rintro e w4 ⟨rfl,b4⟩
     have B4:=hid b4
     clear b4
     go_wp2
     go_ret
     exact ⟨by rw [HM.out];rfl,B4.out⟩
    ·obtain ⟨rfl,rfl⟩:194=T/\_=u:=by simpa [Vk,stV] using HEo
     go_wp2_with fail
     refine (KI.out _ (B3.out.alloc B3.out.size _) f (HZ.out.of f rfl)).mono ?_
     rintro e w4 ⟨rfl,b4⟩
     have B4:=hid b4
     clear b4
     go_wp2
     go_ret
     exact ⟨by rw [HM.out];rfl,B4.out⟩
    ·obtain ⟨rfl,rfl⟩:196=T/\_=u:=by simpa [Vk,stV] using HEo
     go_wp2
     go_ret
     exact ⟨by rw [HM.out];rfl,B3.out⟩
    ·obtain ⟨rfl,rfl⟩:147=T/\ptr b=u:=by simpa [Vk] using HEo
     go_wp2
     go_ret
     exact ⟨by rw [HM.out];rfl,B3.out⟩
    ·obtain ⟨rfl,rfl⟩:197=T/\ptr b=u:=by simpa [Vk] using HEo
     go_wp2
     go_ret
     exact ⟨by rw [HM.out];rfl,B3.out⟩
    ·obtain ⟨rfl,rfl⟩:200=T/\ptr b=u:=by simpa [Vk] using HEo
     go_wp2
     go_ret
     exact ⟨by rw [HM.out];rfl,B3.out⟩
end
end Go.Proofs.YtiiepngikigmbaaGreatDoor
