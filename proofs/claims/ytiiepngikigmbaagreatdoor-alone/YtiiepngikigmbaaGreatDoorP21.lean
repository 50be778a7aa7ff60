import Derived.Test.YtiiepngikigmbaaGreatDoorP20
import Derived.Stop.Asserts
set_option maxRecDepth 100000
set_option maxHeartbeats 1000000
namespace Go.Proofs.YtiiepngikigmbaaGreatDoor
open Go.RowKit
def z40(w0 w:World)(s:St)(v:Value):Prop:=match s with
 | .inl (to,a)=>v= .iface 213 (.agg #[.string to, .string a.name, .int .i64 a.num])
 | .inr (.inl (to,o,a,b))=>v= .iface 217 (.agg #[.string to, .int .i64 o, .string a.name, .int .i64 a.num, .string b.name, .int .i64 b.num])
 | .inr (.inr (.inl (to,of,a)))=>v= .iface 192 (.agg #[.string to, .string of, .string a.name, .int .i64 a.num])
 | .inr (.inr (.inr (.inl (of,a,b))))=>v= .iface 194 (.agg #[.string of, .string a.name, .int .i64 a.num, .string b.name, .int .i64 b.num])
 | .inr (.inr (.inr (.inr (.inl a))))=>v= .iface 196 (.agg #[.string a.name, .int .i64 a.num])
 | .inr (.inr (.inr (.inr (.inr (.inl ())))))=>∃b,w0.heap.size<=b/\v= .iface 147 (ptr b)/\w.shape? b=some (150,1)/\w.cell? ⟨b,0,none⟩=some (.slice none 0 0)/\(∀j,w.frozen? ⟨b,j,none⟩=false)
 | .inr (.inr (.inr (.inr (.inr (.inr (.inl a))))))=>∃b,w0.heap.size<=b/\v= .iface 197 (ptr b)/\w.shape? b=some (199,3)/\w.cell? ⟨b,0,none⟩=some (.slice none 0 0)/\(∀j,w.frozen? ⟨b,j,none⟩=false)/\w.cell? ⟨b,1,none⟩=some (.string a.name)/\w.cell? ⟨b,2,none⟩=some (.int .i64 a.num)
 | .inr (.inr (.inr (.inr (.inr (.inr (.inr n))))))=>∃b,w0.heap.size<=b/\v= .iface 200 (ptr b)/\w.shape? b=some (202,2)/\w.cell? ⟨b,0,none⟩=some (.slice none 0 0)/\(∀j,w.frozen? ⟨b,j,none⟩=false)/\w.cell? ⟨b,1,none⟩=some (.int .i64 n)
theorem zgf(w:World)(cs:Array Value)(t:TypeId): ∀j,(w.alloc (.cells cs t)).frozen? ⟨w.heap.size,j,none⟩=false:=by
 intro j
 have e:(w.alloc (.cells cs t)).heap[w.heap.size]?=some (.cells cs t):=yni
 unfold World.frozen?
 rw [e]
 simp
theorem zl2(w:World)(cs:Array Value)(t:TypeId):(w.alloc (.cells cs t)).shape? w.heap.size=some (t,cs.size):=ykz
def StR(bl:Nat)(n:Int)(bw:Nat)(w:World)(r:Option (St×List ByteArray))(e:Ending)(w':World):Prop:=match r with
 |some (s,ws)=>∃v,e= .returned v/\z40 w w' s v/\LineAt w' bl n bw ws/\Chg (Jo bl) w w'
 |none=>Fails 2 n bl w e w'
section
variable{w:World}{bl bw br bs:Nat}{n:Int}{ws ws1 ws2 ws3:List ByteArray}{x x2 u:ByteArray}{y z:PV}{v:Int}
theorem zzp(h:LineAt w bl n bw ws)(_hE:Hid (Env w))(_hbl:10<=bl)(hz:SzOk ws)(hv0:gNm ws=none):Cl 50 #[ptr br, .string ⟨#[103,101,116]⟩,ptr bl] w λe w'=>Fails 2 n bl w e w':=yke
theorem zzq(h:LineAt w bl n bw ws)(_hE:Hid (Env w))(_hbl:10<=bl)(hz:SzOk ws)(hv0:gNm ws=some (x,ws1))(hv1:gNm ws1=none):Cl 50 #[ptr br, .string ⟨#[103,101,116]⟩,ptr bl] w λe w'=>Fails 2 n bl w e w':=by
 have H0:=hid h
 have C0:=hid (Chg.refl (Jo bl) w)
 clear h
 go_enter Tryz.func50,Tryz.ntmps50
 go_wp2_with fail
 refine (Fa H0.out hz hv0).mono ?_
 rintro e w1 ⟨rfl,h1,c1⟩
 have H1:=hid h1
 have C1:=hid (C0.out.trans c1)
 clear h1 c1 H0 C0
 have hz1:=Ya hv0 hz
 go_wp2_with fail
 refine (zqs H1.out hz1 hv1).mono ?_
 intro e w9 h9
 obtain ⟨bf,rfl,h8⟩:=Fails.after h9 C1.out
 exact ⟨rfl,bf,rfl,h8⟩
theorem zzr(h:LineAt w bl n bw ws)(hE:Hid (Env w))(hbl:10<=bl)(hz:SzOk ws)(hv0:gNm ws=some (x,ws1))(hv1:gNm ws1=some (x2,ws2))(hv2:gAt ws2=none):Cl 50 #[ptr br, .string ⟨#[103,101,116]⟩,ptr bl] w λe w'=>Fails 2 n bl w e w':=by
 have H0:=hid h
 have C0:=hid (Chg.refl (Jo bl) w)
 clear h
 go_enter Tryz.func50,Tryz.ntmps50
 go_wp2_with fail
 refine (Fa H0.out hz hv0).mono ?_
 rintro e w1 ⟨rfl,h1,c1⟩
 have H1:=hid h1
 have C1:=hid (C0.out.trans c1)
 clear h1 c1 H0 C0
 have hz1:=Ya hv0 hz
 go_wp2_with fail
 refine (Fa H1.out hz1 hv1).mono ?_
 rintro e w2 ⟨rfl,h1,c1⟩
 have H2:=hid h1
 have C2:=hid (C1.out.trans c1)
 clear h1 c1 H1 C1
 have hz2:=Ya hv1 hz1
 go_wp2_with fail
 refine (z2d H2.out (hE.out.line C2.out hbl) hbl hz2 hv2).mono ?_
 intro e w9 h9
 obtain ⟨bf,rfl,h8⟩:=Fails.after h9 C2.out
 exact ⟨rfl,bf,rfl,h8⟩
theorem z2g(h:LineAt w bl n bw ws)(hE:Hid (Env w))(hbl:10<=bl)(hz:SzOk ws)(hv0:gNm ws=some (x,ws1))(hv1:gNm ws1=some (x2,ws2))(hv2:gAt ws2=some (y,ws3)):Cl 50 #[ptr br, .string ⟨#[103,101,116]⟩,ptr bl] w λe w'=>StR bl n bw w (some (St.get x x2 y,ws3)) e w':=by
 have H0:=hid h
 have C0:=hid (Chg.refl (Jo bl) w)
 clear h
 go_enter Tryz.func50,Tryz.ntmps50
 go_wp2_with fail
 refine (Fa H0.out hz hv0).mono ?_
 rintro e w1 ⟨rfl,h1,c1⟩
 have H1:=hid h1
 have C1:=hid (C0.out.trans c1)
 clear h1 c1 H0 C0
 have hz1:=Ya hv0 hz
 go_wp2_with fail
 refine (Fa H1.out hz1 hv1).mono ?_
 rintro e w2 ⟨rfl,h1,c1⟩
 have H2:=hid h1
 have C2:=hid (C1.out.trans c1)
 clear h1 c1 H1 C1
 have hz2:=Ya hv1 hz1
 go_wp2_with fail
 refine (z2c H2.out (hE.out.line C2.out hbl) hbl hz2 hv2).mono ?_
 rintro e w3 ⟨rfl,h1,c1⟩
 have H3:=hid h1
 have C3:=hid (C2.out.trans c1)
 clear h1 c1 H2 C2
 have hz3:=z2f hv2 hz2
 go_wp2
 go_ret
 exact ⟨_,rfl,rfl,H3.out,C3.out⟩
theorem zzs(h:LineAt w bl n bw ws)(_hE:Hid (Env w))(_hbl:10<=bl)(hz:SzOk ws)(hv0:gNm ws=none):Cl 50 #[ptr br, .string ⟨#[112,117,116]⟩,ptr bl] w λe w'=>Fails 2 n bl w e w':=yke
theorem zzt(h:LineAt w bl n bw ws)(hE:Hid (Env w))(hbl:10<=bl)(hz:SzOk ws)(hv0:gNm ws=some (x,ws1))(hv1:gPV ws1=none):Cl 50 #[ptr br, .string ⟨#[112,117,116]⟩,ptr bl] w λe w'=>Fails 2 n bl w e w':=by
 have H0:=hid h
 have C0:=hid (Chg.refl (Jo bl) w)
 clear h
 go_enter Tryz.func50,Tryz.ntmps50
 go_wp2_with fail
 refine (Fa H0.out hz hv0).mono ?_
 rintro e w1 ⟨rfl,h1,c1⟩
 have H1:=hid h1
 have C1:=hid (C0.out.trans c1)
 clear h1 c1 H0 C0
 have hz1:=Ya hv0 hz
 go_wp2_with fail
 refine (zqt H1.out (hE.out.line C1.out hbl) hbl hz1 hv1).mono ?_
 intro e w9 h9
 obtain ⟨bf,rfl,h8⟩:=Fails.after h9 C1.out
 exact ⟨rfl,bf,rfl,h8⟩
theorem zzu(h:LineAt w bl n bw ws)(hE:Hid (Env w))(hbl:10<=bl)(hz:SzOk ws)(hv0:gNm ws=some (x,ws1))(hv1:gPV ws1=some (y,ws2))(hv2:gAt ws2=none):Cl 50 #[ptr br, .string ⟨#[112,117,116]⟩,ptr bl] w λe w'=>Fails 2 n bl w e w':=by
 have H0:=hid h
 have C0:=hid (Chg.refl (Jo bl) w)
 clear h
 go_enter Tryz.func50,Tryz.ntmps50
 go_wp2_with fail
 refine (Fa H0.out hz hv0).mono ?_
 rintro e w1 ⟨rfl,h1,c1⟩
 have H1:=hid h1
 have C1:=hid (C0.out.trans c1)
 clear h1 c1 H0 C0
 have hz1:=Ya hv0 hz
 go_wp2_with fail
 refine (zge H1.out (hE.out.line C1.out hbl) hbl hz1 hv1).mono ?_
 rintro e w2 ⟨rfl,h1,c1⟩
 have H2:=hid h1
 have C2:=hid (C1.out.trans c1)
 clear h1 c1 H1 C1
 have hz2:=zcq hv1 hz1
 have bel:Below w2.heap.size w2 (pvB w2 y):=(Below.refl _ w2).alloc (Nat.le_refl _) _
 have d0:(pvB w2 y).cell? ⟨w2.heap.size,0,none⟩=some (.string y.name):=World.cell?_alloc_new _ _ _ 0
 have d1:(pvB w2 y).cell? ⟨w2.heap.size,1,none⟩=some (.int .i64 y.num):=World.cell?_alloc_new _ _ _ 1
 have CB:=hid ((C2.out.alloc (.cells #[.string y.name, .int .i64 y.num] 187)).drew)
 have HB:=hid ((H2.out.below bel).below (w':=(pvB w2 y).drew) (Qi _ _))
 have hlt:=H2.out.lt
 have KD:=hid (z2d HB.out (hE.out.line CB.out hbl) hbl hz2 hv2)
 clear bel H2 C2
 go_wp2_with fail
 refine wp_region_any yl7 ?_
 change wpAny _ _ _ _ _ _ _ (World.drew _)
 refine wpAny_take (i:=0) (v:= .string x) rfl yl7 yl7 yl7 (λ_ _ _ h=>h) (Or.inl ⟨by rfl,λw=>by go_simp⟩) ?_
 refine wpAny_take (i:=1) (v:=ptr bl) rfl yl7 yl7 yl7 (λ_ _ _ h=>h) (Or.inl ⟨by rfl,λw=>by go_simp⟩) ?_
 refine wpAny_ready (rs:=[2,4]) yl7 yl6 ?_
 refine AllReady.cons rfl (λK hK=>?_) ?_
 ·go_simp
  refine KD.out.mono ?_
  intro e w5 h5
  obtain ⟨bf,rfl,h6⟩:=h5.after CB.out
  exact ⟨rfl,bf,rfl,h6⟩
 ·refine AllReady.cons rfl (λK hK=>?_) AllReady.nil
  go_simp
  refine hK _ _ ?_
  clear hK K
  refine wpAny_ready (rs:=[2]) yl7 yl6 ?_
  refine AllReady.cons rfl (λK hK=>?_) AllReady.nil
  go_simp
  refine KD.out.mono ?_
  intro e w5 h5
  obtain ⟨bf,rfl,h6⟩:=h5.after CB.out
  exact ⟨rfl,bf,rfl,h6⟩
theorem z2h(h:LineAt w bl n bw ws)(hE:Hid (Env w))(hbl:10<=bl)(hz:SzOk ws)(hv0:gNm ws=some (x,ws1))(hv1:gPV ws1=some (y,ws2))(hv2:gAt ws2=some (z,ws3)):Cl 50 #[ptr br, .string ⟨#[112,117,116]⟩,ptr bl] w λe w'=>StR bl n bw w (some (St.put x z y,ws3)) e w':=by
 have H0:=hid h
 have C0:=hid (Chg.refl (Jo bl) w)
 clear h
 go_enter Tryz.func50,Tryz.ntmps50
 go_wp2_with fail
 refine (Fa H0.out hz hv0).mono ?_
 rintro e w1 ⟨rfl,h1,c1⟩
 have H1:=hid h1
 have C1:=hid (C0.out.trans c1)
 clear h1 c1 H0 C0
 have hz1:=Ya hv0 hz
 go_wp2_with fail
 refine (zge H1.out (hE.out.line C1.out hbl) hbl hz1 hv1).mono ?_
 rintro e w2 ⟨rfl,h1,c1⟩
 have H2:=hid h1
 have C2:=hid (C1.out.trans c1)
 clear h1 c1 H1 C1
 have hz2:=zcq hv1 hz1
 have bel:Below w2.heap.size w2 (pvB w2 y):=(Below.refl _ w2).alloc (Nat.le_refl _) _
 have d0:(pvB w2 y).cell? ⟨w2.heap.size,0,none⟩=some (.string y.name):=World.cell?_alloc_new _ _ _ 0
 have d1:(pvB w2 y).cell? ⟨w2.heap.size,1,none⟩=some (.int .i64 y.num):=World.cell?_alloc_new _ _ _ 1
 have CB:=hid ((C2.out.alloc (.cells #[.string y.name, .int .i64 y.num] 187)).drew)
 have HB:=hid ((H2.out.below bel).below (w':=(pvB w2 y).drew) (Qi _ _))
 have hlt:=H2.out.lt
 have KD:=hid (z2c HB.out (hE.out.line CB.out hbl) hbl hz2 hv2)
 clear bel H2 C2
 go_wp2_with fail
 go_region_law (go_simp;go_at_call 77;refine KD.out.mono ?_;rintro e w3 ⟨rfl,h1,c1⟩;have g0:=(c1.cell w2.heap.size 0 (blt d0) (λe=>by omega)).trans d0;have g1:=(c1.cell w2.heap.size 1 (blt d0) (λe=>by omega)).trans d1;have H3:=hid h1;have C3:=hid (CB.out.trans c1);clear h1 c1)
 all_goals
  go_wp2
  go_ret
  exact ⟨_,rfl,rfl,H3.out,C3.out⟩
theorem zzv(h:LineAt w bl n bw ws)(hE:Hid (Env w))(hbl:10<=bl)(hz:SzOk ws)(hv0:gPV ws=none):Cl 50 #[ptr br, .string ⟨#[111,117,116]⟩,ptr bl] w λe w'=>Fails 2 n bl w e w':=yj9
theorem z2i(h:LineAt w bl n bw ws)(hE:Hid (Env w))(hbl:10<=bl)(hz:SzOk ws)(hv0:gPV ws=some (y,ws1)):Cl 50 #[ptr br, .string ⟨#[111,117,116]⟩,ptr bl] w λe w'=>StR bl n bw w (some (St.out y,ws1)) e w':=by
 have H0:=hid h
 have C0:=hid (Chg.refl (Jo bl) w)
 clear h
 go_enter Tryz.func50,Tryz.ntmps50
 go_wp2_with fail
 refine (zge H0.out (hE.out.line C0.out hbl) hbl hz hv0).mono ?_
 rintro e w1 ⟨rfl,h1,c1⟩
 have H1:=hid h1
 have C1:=hid (C0.out.trans c1)
 clear h1 c1 H0 C0
 have hz1:=zcq hv0 hz
 go_wp2
 go_ret
 exact ⟨_,rfl,rfl,H1.out,C1.out⟩
theorem zqu(h:LineAt w bl n bw ws)(_hE:Hid (Env w))(_hbl:10<=bl)(_hz:SzOk ws):Cl 50 #[ptr br, .string ⟨#[97,116,111,109,105,99]⟩,ptr bl] w λe w'=>StR bl n bw w (some (St.atomic,ws)) e w':=by
 have H0:=hid h
 have C0:=hid (Chg.refl (Jo bl) w)
 clear h
 go_enter Tryz.func50,Tryz.ntmps50
 go_wp2
 go_ret
 have bel:Below w.heap.size w (w.alloc (.cells #[.slice none 0 0] 150)):=(Below.refl _ w).alloc (Nat.le_refl _) _
 exact ⟨_,rfl,⟨w.heap.size,C0.out.size,rfl,zl2 _ _ _,World.cell?_alloc_new _ _ _ 0,zgf _ _ _⟩,H0.out.below bel,C0.out.alloc _⟩
theorem z2j(h:LineAt w bl n bw ws)(hE:Hid (Env w))(hbl:10<=bl)(hz:SzOk ws)(hv0:gPV ws=none):Cl 50 #[ptr br, .string ⟨#[105,102]⟩,ptr bl] w λe w'=>Fails 2 n bl w e w':=yj9
theorem z41(h:LineAt w bl n bw ws)(hE:Hid (Env w))(hbl:10<=bl)(hz:SzOk ws)(hv0:gPV ws=some (y,ws1)):Cl 50 #[ptr br, .string ⟨#[105,102]⟩,ptr bl] w λe w'=>StR bl n bw w (some (St.iff y,ws1)) e w':=by
 have H0:=hid h
 have C0:=hid (Chg.refl (Jo bl) w)
 clear h
 go_enter Tryz.func50,Tryz.ntmps50
 go_wp2_with fail
 refine (zge H0.out (hE.out.line C0.out hbl) hbl hz hv0).mono ?_
 rintro e w1 ⟨rfl,h1,c1⟩
 have H1:=hid h1
 have C1:=hid (C0.out.trans c1)
 clear h1 c1 H0 C0
 have hz1:=zcq hv0 hz
 go_wp2
 go_ret
 have bel:Below w1.heap.size w1 (w1.alloc (.cells #[.slice none 0 0, .string y.name, .int .i64 y.num] 199)):=(Below.refl _ w1).alloc (Nat.le_refl _) _
 exact ⟨_,rfl,⟨w1.heap.size,C1.out.size,rfl,zl2 _ _ _,World.cell?_alloc_new _ _ _ 0,zgf _ _ _,World.cell?_alloc_new _ _ _ 1,World.cell?_alloc_new _ _ _ 2⟩,H1.out.below bel,C1.out.alloc _⟩
theorem zvc(h:LineAt w bl n bw ws)(hE:Hid (Env w))(hbl:10<=bl)(hz:SzOk ws)(hv0:gIn 1 4 ws=none):Cl 50 #[ptr br, .string ⟨#[108,111,111,112]⟩,ptr bl] w λe w'=>Fails 2 n bl w e w':=by
 have H0:=hid h
 have C0:=hid (Chg.refl (Jo bl) w)
 clear h
 go_enter Tryz.func50,Tryz.ntmps50
 go_wp2_with fail
 refine (z15 H0.out (hE.out.line C0.out hbl) hbl hz hv0).mono ?_
 intro e w9 h9
 obtain ⟨bf,rfl,h8⟩:=Fails.after h9 C0.out
 exact ⟨rfl,bf,rfl,h8⟩
theorem zzw(h:LineAt w bl n bw ws)(hE:Hid (Env w))(hbl:10<=bl)(hz:SzOk ws)(hv0:gIn 1 4 ws=some (v,ws1)):Cl 50 #[ptr br, .string ⟨#[108,111,111,112]⟩,ptr bl] w λe w'=>StR bl n bw w (some (St.loop v,ws1)) e w':=by
 have H0:=hid h
 have C0:=hid (Chg.refl (Jo bl) w)
 clear h
 go_enter Tryz.func50,Tryz.ntmps50
 go_wp2_with fail
 refine (zqf H0.out (hE.out.line C0.out hbl) hbl hz hv0).mono ?_
 rintro e w1 ⟨rfl,h1,c1⟩
 have H1:=hid h1
 have C1:=hid (C0.out.trans c1)
 clear h1 c1 H0 C0
 have hz1:=z13 hv0 hz
 go_wp2
 go_ret
 have bel:Below w1.heap.size w1 (w1.alloc (.cells #[.slice none 0 0, .int .i64 v] 202)):=(Below.refl _ w1).alloc (Nat.le_refl _) _
 exact ⟨_,rfl,⟨w1.heap.size,C1.out.size,rfl,zl2 _ _ _,World.cell?_alloc_new _ _ _ 0,zgf _ _ _,World.cell?_alloc_new _ _ _ 1⟩,H1.out.below bel,C1.out.alloc _⟩
end
def Jz:ByteArray:=⟨#[115,101,116]⟩
def Vd:ByteArray:=⟨#[103,101,116]⟩
def Va:ByteArray:=⟨#[112,117,116]⟩
def Vp:ByteArray:=⟨#[111,117,116]⟩
def Qs:ByteArray:=⟨#[97,116,111,109,105,99]⟩
def Fe:ByteArray:=⟨#[105,102]⟩
def Jh:ByteArray:=⟨#[108,111,111,112]⟩
def zvd(ws:List ByteArray):Option (St×List ByteArray):=(gNm ws).bind λp=>(gNm p.2).bind λq=>(gAt q.2).map λr=>(St.get p.1 q.1 r.1,r.2)
def zve(ws:List ByteArray):Option (St×List ByteArray):=(gNm ws).bind λp=>(gPV p.2).bind λq=>(gAt q.2).map λr=>(St.put p.1 r.1 q.1,r.2)
def Zs(u:ByteArray)(ws:List ByteArray):Option (St×List ByteArray):=
 if u=Jz then zn4 ws else if u=Vd then zvd ws else if u=Va then zve ws else if u=Vp then (gPV ws).map λp=>(St.out p.1,p.2)
 else if u=Qs then some (St.atomic,ws) else if u=Fe then (gPV ws).map λp=>(St.iff p.1,p.2) else if u=Jh then (gIn 1 4 ws).map λp=>(St.loop p.1,p.2) else none
section
variable{w:World}{bl bw br bs:Nat}{n:Int}{ws:List ByteArray}{u:ByteArray}
theorem zjw(h:LineAt w bl n bw ws)(hE:Hid (Env w))(hbl:10<=bl)(hz:SzOk ws)(hS:Hid (SignsAt w br bs bl)):Cl 76 #[ptr br,ptr bl] w λe w'=>StR bl n bw w (zn4 ws) e w':=by
 unfold zn4
 cases h1:gNm ws with
 |none=>exact zn5 h hz h1
 |some p=>
  obtain ⟨x,ws1⟩:=p
  simp only [Option.bind_some]
  cases h2:gPV ws1 with
  |none=>exact zn6 h hE hbl hz h1 h2
  |some q=>
   obtain ⟨y,ws2⟩:=q
   simp only [Option.bind_some]
   cases ws2 with
   |nil=>
    refine (zju h hE hbl hz h1 h2).mono ?_
    rintro e w' ⟨rfl,g1,g2⟩
    exact ⟨_,rfl,rfl,g1,g2⟩
   |cons u us=>
    simp only
    cases h3:gOp (u::us) with
    |none=>exact zhm h hE hbl hz hS h1 h2 h3
    |some o=>
     obtain ⟨k,ws3⟩:=o
     simp only [Option.bind_some]
     cases h4:gPV ws3 with
     |none=>exact zjv h hE hbl hz hS h1 h2 h3 h4
     |some r=>
      obtain ⟨z,ws4⟩:=r
      refine (zn7 h hE hbl hz hS h1 h2 h3 h4).mono ?_
      rintro e w' ⟨rfl,g1,g2⟩
      exact ⟨_,rfl,rfl,g1,g2⟩
theorem z2k(K:Hid (Cl 76 #[ptr br,ptr bl] w λe w'=>StR bl n bw w (zn4 ws) e w')):Cl 50 #[ptr br, .string ⟨#[115,101,116]⟩,ptr bl] w λe w'=>StR bl n bw w (zn4 ws) e w':=by
 cases hg:zn4 ws with
 |none=>
  rw [hg] at K
  go_enter Tryz.func50,Tryz.ntmps50
  go_wp2_with fail
  refine K.out.mono ?_
  rintro e w1 ⟨bf,rfl,h1⟩
  exact ⟨rfl,bf,rfl,h1⟩
 |some p=>
  obtain ⟨s,ws1⟩:=p
  rw [hg] at K
  go_enter Tryz.func50,Tryz.ntmps50
  go_wp2_with fail
  refine K.out.mono ?_
  rintro e w1 ⟨v,rfl,h1⟩
  have H1:=hid h1
  clear h1 K
  go_wp2
  go_ret
  exact ⟨v,rfl,H1.out⟩
theorem zzx(h:LineAt w bl n bw ws)(h0:u≠Jz)(h1:u≠Vd)(h2:u≠Va)(h3:u≠Vp)(h4:u≠Qs)(h5:u≠Fe)(h6:u≠Jh):Cl 50 #[ptr br, .string u,ptr bl] w λe w'=>Fails 2 n bl w e w':=by
 have e0:(u.toList==[115,101,116])=false:=by have:=Oz h0;rwa [show (Jz).toList=[115,101,116] from by rw [ByteArray.toList_eq];rfl] at this
 have e1:(u.toList==[103,101,116])=false:=by have:=Oz h1;rwa [show (Vd).toList=[103,101,116] from by rw [ByteArray.toList_eq];rfl] at this
 have e2:(u.toList==[112,117,116])=false:=by have:=Oz h2;rwa [show (Va).toList=[112,117,116] from by rw [ByteArray.toList_eq];rfl] at this
 have e3:(u.toList==[111,117,116])=false:=by have:=Oz h3;rwa [show (Vp).toList=[111,117,116] from by rw [ByteArray.toList_eq];rfl] at this
 have e4:(u.toList==[97,116,111,109,105,99])=false:=by have:=Oz h4;rwa [show (Qs).toList=[97,116,111,109,105,99] from by rw [ByteArray.toList_eq];rfl] at this
 have e5:(u.toList==[105,102])=false:=by have:=Oz h5;rwa [show (Fe).toList=[105,102] from by rw [ByteArray.toList_eq];rfl] at this
 have e6:(u.toList==[108,111,111,112])=false:=by have:=Oz h6;rwa [show (Jh).toList=[108,111,111,112] from by rw [ByteArray.toList_eq];rfl] at this
 have H:=hid h
 clear h h0 h1 h2 h3 h4 h5 h6
 go_enter Tryz.func50,Tryz.ntmps50
 go_wp2_with fail
 refine (Jv H.out 2).mono ?_
 rintro e w1 ⟨bf,rfl,h1⟩
 exact ⟨rfl,bf,rfl,h1⟩
theorem zhn(h:LineAt w bl n bw ws)(hE:Hid (Env w))(hbl:10<=bl)(hz:SzOk ws)(hS:Hid (SignsAt w br bs bl))(u:ByteArray):Cl 50 #[ptr br, .string u,ptr bl] w λe w'=>StR bl n bw w (Zs u ws) e w':=by
 unfold Zs
 by_cases h0:u=Jz
 ·rw [if_pos h0,h0];exact z2k (zjw h hE hbl hz hS)
 rw [if_neg h0]
 by_cases h1:u=Vd
 ·rw [if_pos h1,h1]
  unfold zvd
  cases g1:gNm ws with
  |none=>exact zzp h hE hbl hz g1
  |some p=>
   obtain ⟨x,ws1⟩:=p
   simp only [Option.bind_some]
   cases g2:gNm ws1 with
   |none=>exact zzq h hE hbl hz g1 g2
   |some q=>
    obtain ⟨y,ws2⟩:=q
    simp only [Option.bind_some]
    cases g3:gAt ws2 with
    |none=>exact zzr h hE hbl hz g1 g2 g3
    |some r=>exact z2g h hE hbl hz g1 g2 g3
 rw [if_neg h1]
 by_cases h2:u=Va
 ·rw [if_pos h2,h2]
  unfold zve
  cases g1:gNm ws with
  |none=>exact zzs h hE hbl hz g1
  |some p=>
   obtain ⟨x,ws1⟩:=p
   simp only [Option.bind_some]
   cases g2:gPV ws1 with
   |none=>exact zzt h hE hbl hz g1 g2
   |some q=>
    obtain ⟨y,ws2⟩:=q
    simp only [Option.bind_some]
    cases g3:gAt ws2 with
    |none=>exact zzu h hE hbl hz g1 g2 g3
    |some r=>exact z2h h hE hbl hz g1 g2 g3
 rw [if_neg h2]
 by_cases h3:u=Vp
 ·rw [if_pos h3,h3]
  cases g1:gPV ws with
  |none=>exact zzv h hE hbl hz g1
  |some p=>exact z2i h hE hbl hz g1
 rw [if_neg h3]
 by_cases h4:u=Qs
 ·rw [if_pos h4,h4]
  exact zqu h hE hbl hz
 rw [if_neg h4]
 by_cases h5:u=Fe
 ·rw [if_pos h5,h5]
  cases g1:gPV ws with
  |none=>exact z2j h hE hbl hz g1
  |some p=>exact z41 h hE hbl hz g1
 rw [if_neg h5]
 by_cases h6:u=Jh
 ·rw [if_pos h6,h6]
  cases g1:gIn 1 4 ws with
  |none=>exact zvc h hE hbl hz g1
  |some p=>exact zzw h hE hbl hz g1
 rw [if_neg h6]
 exact zzx h h0 h1 h2 h3 h4 h5 h6
end
abbrev En:=St⊕Nat
abbrev En.leaf(s:St):En:= .inl s
abbrev En.sub(j:Nat):En:= .inr j
abbrev HK:=(List ByteArray×Nat)⊕St
abbrev HK.thr(l:List ByteArray)(c:Nat):HK:= .inl (l,c)
abbrev HK.st(s:St):HK:= .inr s
structure Hd where
 k:HK
 ents:List En
structure RS where
 shared:List (ByteArray×Int×Int)
 cells:Int
 hs:List Hd
 threads:List Nat
 opn:List Nat
def stV:St->Value
 | .inl (to,a)=> .iface 213 (.agg #[.string to, .string a.name, .int .i64 a.num])
 | .inr (.inl (to,o,a,b))=> .iface 217 (.agg #[.string to, .int .i64 o, .string a.name, .int .i64 a.num, .string b.name, .int .i64 b.num])
 | .inr (.inr (.inl (to,of,a)))=> .iface 192 (.agg #[.string to, .string of, .string a.name, .int .i64 a.num])
 | .inr (.inr (.inr (.inl (of,a,b))))=> .iface 194 (.agg #[.string of, .string a.name, .int .i64 a.num, .string b.name, .int .i64 b.num])
 | .inr (.inr (.inr (.inr (.inl a))))=> .iface 196 (.agg #[.string a.name, .int .i64 a.num])
 |_=> .nilIface
def hkT:HK->TypeId
 | .inl (_,_)=>85
 | .inr (.inr (.inr (.inr (.inr (.inr (.inl ()))))))=>147
 | .inr (.inr (.inr (.inr (.inr (.inr (.inr (.inl _)))))))=>197
 | .inr (.inr (.inr (.inr (.inr (.inr (.inr (.inr _)))))))=>200
 | .inr _=>0
def z53:HK->TypeId×Nat
 | .inl (_,_)=>(92,3)
 | .inr (.inr (.inr (.inr (.inr (.inr (.inl ()))))))=>(150,1)
 | .inr (.inr (.inr (.inr (.inr (.inr (.inr (.inl _)))))))=>(199,3)
 | .inr (.inr (.inr (.inr (.inr (.inr (.inr (.inr _)))))))=>(202,2)
 | .inr _=>(0,0)
def zjx(l:List ByteArray)(u:ByteArray):Option Value:=(l.findIdx? λx=>decide (x=u)).map λ(k:Nat)=>Value.int .i64 (k:Int)
def shF(l:List (ByteArray×Int×Int))(u:ByteArray):Option Value:=(l.find? λp=>decide (p.1=u)).map λp=> .agg #[.int .i64 p.2.1, .int .i64 p.2.2]
structure HM where
 b:Nat
 rv:Value
 mb:Nat
 h:Hd
abbrev Ids:=List (TypeId×Nat)
def Qu(ms:List HM):Ids:=ms.map λm=>(hkT m.h.k,m.b)
def idV(ids:Ids)(j:Nat):Value:=match ids[j]? with|some p=> .iface p.1 (ptr p.2)|none=> .nilIface
def idP(ids:Ids)(j:Nat):Value:=match ids[j]? with|some p=>ptr p.2|none=> .pointer none
def enV(ids:Ids):En->Value
 | .inl s=>stV s
 | .inr j=>idV ids j
def HkAt(w:World)(b mb:Nat):HK->Prop
 | .inl (l,c)=>w.cell? ⟨b,1,none⟩=some (.map (some mb))/\w.cell? ⟨b,2,none⟩=some (.int .i64 c)/\MapIs w mb (zjx l) l.length
 | .inr (.inr (.inr (.inr (.inr (.inr (.inr (.inl a)))))))=>w.cell? ⟨b,1,none⟩=some (.string a.name)/\w.cell? ⟨b,2,none⟩=some (.int .i64 a.num)
 | .inr (.inr (.inr (.inr (.inr (.inr (.inr (.inr n)))))))=>w.cell? ⟨b,1,none⟩=some (.int .i64 n)
 | .inr _=>True
structure HdAt(w:World)(ids:Ids)(m:HM):Prop where
 sh:w.shape? m.b=some (z53 m.h.k)
 rc:w.cell? ⟨m.b,0,none⟩=some m.rv
 row:w.ownsRow 0 138 1 m.rv m.h.ents.length (m.h.ents.map (enV ids))
 kind:HkAt w m.b m.mb m.h.k
 free: ∀j,w.frozen? ⟨m.b,j,none⟩=false
def HK.isThr:HK->Prop
 | .inl (_,_)=>True
 | .inr _=>False
structure LabH(D:Nat->Prop)(lab:Nat->Nat×Nat)(i:Nat)(m:HM):Prop where
 b:lab m.b=(i+1,0)/\D m.b
 rv: ∀g,m.rv.ownBlock=some g->lab g=(i+1,1)/\D g
 mb:m.h.k.isThr->lab m.mb=(i+1,2)/\D m.mb
section
variable{M:Nat->Nat->Prop}{D D':Nat->Prop}{lab:Nat->Nat×Nat}{w w':World}{ids:Ids}{m:HM}{b mb:Nat}{k:HK}
theorem HkAt.keep(h:HkAt w b mb k)(hb:b<w.heap.size)(hc:Chg M w w')(h1: ∀i,i=1\/i=2->¬M b i)(h2:k.isThr->∀i,¬M mb i):HkAt w' b mb k:=by
 have c1:=hc.cell b 1 hb (h1 1 (.inl rfl))
 have c2:=hc.cell b 2 hb (h1 2 (.inr rfl))
 rcases k with ⟨l,c⟩|⟨to,a⟩|⟨to,k,a,c⟩|⟨to,f,a⟩|⟨f,a,c⟩|a|⟨⟩|a|n
 ·exact ⟨c1.trans h.1,c2.trans h.2.1,h.2.2.keep hc (h2 trivial)⟩
 ·trivial
 ·trivial
 ·trivial
 ·trivial
 ·trivial
 ·trivial
 ·exact ⟨c1.trans h.1,c2.trans h.2⟩
 ·exact c1.trans h
theorem HdAt.keep(h:HdAt w ids m)(hc:Chg M w w')(h1: ∀i,¬M m.b i)(h2: ∀g,m.rv.ownBlock=some g->∀i,¬M g i)(h3:m.h.k.isThr->∀i,¬M m.mb i):HdAt w' ids m:=by
 have hb:=Qd h.sh
 exact ⟨(hc.shape _ hb).trans h.sh,(hc.cell _ _ hb (h1 _)).trans h.rc,Qc h.row hc h2,h.kind.keep hb hc (λi _=>h1 i) h3,λj=>(hc.frozen _ _ hb).trans (h.free j)⟩
theorem HdAt.mblt(h:HdAt w ids m)(ht:m.h.k.isThr):m.mb<w.heap.size:=by
 have:=h.kind
 cases hk:m.h.k with
 |inl x=>rw [hk] at this;exact this.2.2.lt
 |inr s=>rw [hk] at ht;exact ht.elim
theorem LabH.newD{i:Nat}(l:LabH D lab i m)(h:HdAt w ids m)(hD: ∀k,D k->k<w.heap.size->D' k):LabH D' lab i m:=
 ⟨⟨l.b.1,hD _ l.b.2 (Qd h.sh)⟩,λg hg=>⟨(l.rv g hg).1,hD _ (l.rv g hg).2 (h.row.lt g hg).2⟩,λht=>⟨(l.mb ht).1,hD _ (l.mb ht).2 (h.mblt ht)⟩⟩
theorem zjy(ids x:Ids)(j:Nat)(hj:j<ids.length):idV (ids++x) j=idV ids j:=by unfold idV;rw [List.getElem?_append_left hj]
theorem zqv(ids x:Ids)(j:Nat)(hj:j<ids.length):idP (ids++x) j=idP ids j:=by unfold idP;rw [List.getElem?_append_left hj]
end
structure RMach(D:Nat->Prop)(lab:Nat->Nat×Nat)(w:World)(br sb bs:Nat)(tv ov:Value)(st:RS)(ms:List HM):Prop where
 sh:w.shape? br=some (76,5)
 c0:w.cell? ⟨br,0,none⟩=some (.map (some sb))
 c1:w.cell? ⟨br,1,none⟩=some tv
 c2:w.cell? ⟨br,2,none⟩=some (.int .i64 st.cells)
 c3:w.cell? ⟨br,3,none⟩=some ov
 c4:w.cell? ⟨br,4,none⟩=some (.map (some bs))
 free: ∀j,w.frozen? ⟨br,j,none⟩=false
 mS:MapIs w sb (shF st.shared) st.shared.length
 mG:MapIs w bs Sa 12
 trow:w.ownsRow 0 85 1 tv st.threads.length (st.threads.map (idP (Qu ms)))
 orow:w.ownsRow 0 207 1 ov st.opn.length (st.opn.map (idV (Qu ms)))
 hd: ∀i (h:i<ms.length),HdAt w (Qu ms) ms[i]
 hs:ms.map (·.h)=st.hs
 lbr:lab br=(0,0)/\D br
 lsb:lab sb=(0,1)/\D sb
 ltv: ∀g,tv.ownBlock=some g->lab g=(0,2)/\D g
 lov: ∀g,ov.ownBlock=some g->lab g=(0,3)/\D g
 lbs:lab bs=(0,4)/\D bs
 lhd: ∀i (h:i<ms.length),LabH D lab i ms[i]
section
variable{M:Nat->Nat->Prop}{D D':Nat->Prop}{lab:Nat->Nat×Nat}{w w':World}{br sb bs:Nat}{tv ov:Value}{st:RS}{ms:List HM}
theorem RMach.keep(h:RMach D lab w br sb bs tv ov st ms)(hc:Chg M w w')(hM: ∀k i,D k->¬M k i):RMach D lab w' br sb bs tv ov st ms:=by
 have hb:=Qd h.sh
 have kb: ∀i,¬M br i:=λi=>hM br i h.lbr.2
 exact {
  sh:=(hc.shape _ hb).trans h.sh,c0:=(hc.cell _ _ hb (kb _)).trans h.c0,c1:=(hc.cell _ _ hb (kb _)).trans h.c1,c2:=(hc.cell _ _ hb (kb _)).trans h.c2,c3:=(hc.cell _ _ hb (kb _)).trans h.c3,c4:=(hc.cell _ _ hb (kb _)).trans h.c4
  free:=λj=>(hc.frozen _ _ hb).trans (h.free j)
  mS:=h.mS.keep hc (λi=>hM _ i h.lsb.2)
  mG:=h.mG.keep hc (λi=>hM _ i h.lbs.2)
  trow:=Qc h.trow hc (λg hg i=>hM g i (h.ltv g hg).2)
  orow:=Qc h.orow hc (λg hg i=>hM g i (h.lov g hg).2)
  hd:=λi hi=>(h.hd i hi).keep hc (λj=>hM _ j (h.lhd i hi).b.2) (λg hg j=>hM g j ((h.lhd i hi).rv g hg).2) (λht j=>hM _ j ((h.lhd i hi).mb ht).2)
  hs:=h.hs,lbr:=h.lbr,lsb:=h.lsb,ltv:=h.ltv,lov:=h.lov,lbs:=h.lbs,lhd:=h.lhd}
theorem RMach.below(h:RMach D lab w br sb bs tv ov st ms)(hb:Below w.heap.size w w'):RMach D lab w' br sb bs tv ov st ms:=h.keep (M:=λ_ _=>False) (Chg.of_below hb) (λ_ _ _ e=>e)
theorem RMach.newD(h:RMach D lab w br sb bs tv ov st ms)(hD: ∀k,D k->k<w.heap.size->D' k):RMach D' lab w br sb bs tv ov st ms:={
 sh:=h.sh,c0:=h.c0,c1:=h.c1,c2:=h.c2,c3:=h.c3,c4:=h.c4,free:=h.free,mS:=h.mS,mG:=h.mG,trow:=h.trow,orow:=h.orow,hd:=h.hd,hs:=h.hs
 lbr:=⟨h.lbr.1,hD _ h.lbr.2 (Qd h.sh)⟩
 lsb:=⟨h.lsb.1,hD _ h.lsb.2 h.mS.lt⟩
 ltv:=λg hg=>⟨(h.ltv g hg).1,hD _ (h.ltv g hg).2 (h.trow.lt g hg).2⟩
 lov:=λg hg=>⟨(h.lov g hg).1,hD _ (h.lov g hg).2 (h.orow.lt g hg).2⟩
 lbs:=⟨h.lbs.1,hD _ h.lbs.2 h.mG.lt⟩
 lhd:=λi hi=>(h.lhd i hi).newD (h.hd i hi) hD}
theorem RMach.len(h:RMach D lab w br sb bs tv ov st ms):ms.length=st.hs.length:=by rw [<-h.hs];simp
theorem RMach.idl(h:RMach D lab w br sb bs tv ov st ms):(Qu ms).length=st.hs.length:=by rw [<-h.len];simp [Qu]
end
def Vk(s:St)(b:Nat):Value:=match s with
 | .inr (.inr (.inr (.inr (.inr (.inl ())))))=> .iface 147 (ptr b)
 | .inr (.inr (.inr (.inr (.inr (.inr (.inl _))))))=> .iface 197 (ptr b)
 | .inr (.inr (.inr (.inr (.inr (.inr (.inr _))))))=> .iface 200 (ptr b)
 |s=>stV s
def Vg:St->ByteArray
 | .inl (to,_)=>to
 | .inr (.inl (to,_,_,_))=>to
 | .inr (.inr (.inl (to,_,_)))=>to
 |_=>ByteArray.empty
def HK.isAtomic:HK->Bool
 | .inr (.inr (.inr (.inr (.inr (.inr (.inl ()))))))=>true
 |_=>false
def RS.hk(st:RS)(j:Nat):Option HK:=(st.hs[j]?).map (·.k)
def RS.inB(st:RS):Bool:=st.opn.any λj=>((st.hk j).map HK.isAtomic).getD false
def RS.isSh(st:RS)(u:ByteArray):Bool:=st.shared.any λp=>decide (p.1=u)
def Uh(l:List ByteArray)(u:ByteArray):Bool:=l.any λx=>decide (x=u)
theorem zqx(w:World):(zeroValue 184).run Tryz.prog w= .ok (.agg #[.int .i64 0, .int .i64 0]) w:=yl7
theorem zqy(w:World):(zeroValue 3).run Tryz.prog w= .ok (.int .i64 0) w:=yl7
section
variable{D:Nat->Prop}{lab:Nat->Nat×Nat}{w:World}{br sb bs:Nat}{tv ov:Value}{st:RS}{ms:List HM}
theorem zl5(l:List (ByteArray×Int×Int))(u:ByteArray):(shF l u).isSome=l.any λp=>decide (p.1=u):=by
 unfold shF
 rw [Option.isSome_map]
 induction l with
 |nil=>rfl
 |cons p l ih=>
  simp only [List.find?_cons,List.any_cons]
  cases h:decide (p.1=u) with
  |true=>simp
  |false=>simp [ih]
theorem zzy(l:List (ByteArray×Int×Int))(u:ByteArray): ∃a b,(shF l u).getD (.agg #[.int .i64 0, .int .i64 0])= .agg #[.int .i64 a, .int .i64 b]:=by
 unfold shF
 cases (l.find? λp=>decide (p.1=u)) with
 |none=>exact ⟨0,0,rfl⟩
 |some p=>exact ⟨_,_,rfl⟩
theorem Uu(h:RMach D lab w br sb bs tv ov st ms)(u:ByteArray)(hu:u.size<=maxLen):
  Cl 75 #[ptr br, .string u] w λe w'=>e= .returned (.bool (st.isSh u))/\Below w.heap.size w w':=by
 have c0:=h.c0
 have hl:=h.mS.look Tryz.underlying68 (zqx w) hu
 rw [zl5] at hl
 obtain ⟨a,b,e⟩:=zzy st.shared u
 rw [e] at hl
 unfold RS.isSh
 generalize (st.shared.any λp=>decide (p.1=u))=r at*
 clear h e
 go_enter Tryz.func75,Tryz.ntmps75
 go_wp2
 go_ret
 exact ⟨rfl,(Below.refl _ w).alloc (Nat.le_refl _) _⟩
theorem zho(l:List ByteArray)(u:ByteArray):(zjx l u).isSome=Uh l u:=by
 unfold zjx Uh
 rw [Option.isSome_map]
 induction l with
 |nil=>rfl
 |cons p l ih=>
  rw [List.findIdx?_cons,List.any_cons,<-ih]
  cases h:decide (p=u) with
  |true=>simp
  |false=>simp
theorem zvi(l:List ByteArray)(u:ByteArray): ∃a,(zjx l u).getD (.int .i64 0)= .int .i64 a:=by
 unfold zjx
 cases (l.findIdx? λx=>decide (x=u)) with
 |none=>exact ⟨0,rfl⟩
 |some k=>exact ⟨_,rfl⟩
theorem zhp{b mb:Nat}{l:List ByteArray}(c1:w.cell? ⟨b,1,none⟩=some (.map (some mb)))(hm:MapIs w mb (zjx l) l.length)(u:ByteArray)(hu:u.size<=maxLen):
  Cl 84 #[ptr b, .string u] w λe w'=>e= .returned (.bool (Uh l u))/\w'=w:=by
 have hl:=hm.look Tryz.underlying90 (zqy w) hu
 rw [zho] at hl
 obtain ⟨a,e⟩:=zvi l u
 rw [e] at hl
 generalize Uh l u=r at*
 clear hm e
 go_enter Tryz.func84,Tryz.ntmps84
 go_wp2
 go_ret
 exact ⟨rfl,rfl⟩
theorem zdq(h:RMach D lab w br sb bs tv ov st ms)(tl:List Nat)(t:Nat)(ht:st.threads=tl++[t])(htl:t<ms.length)(hn:tl.length<1000000):
  Cl 82 #[ptr br] w λe w'=>e= .returned (ptr ms[t].b)/\w'=w.drew:=by
 have c1:=h.c1
 have hr:=h.trow
 rw [ht] at hr
 simp only [List.length_append,List.length_cons,List.length_nil] at hr
 obtain ⟨g,cp,rfl⟩: ∃g cp,tv= .slice (some ⟨g,0,none⟩) (tl.length+1) cp:=yk4
 obtain ⟨q1,_,_⟩:=Qm hr tl.length yl5
 have q2:w.cell? ⟨g,tl.length,none⟩=some (ptr ms[t].b):=by
  rw [q1]
  simp [idP,Qu,List.getElem?_eq_getElem htl]
 generalize ms[t].b=tb at*
 have hw:wrap64 ((tl.length:Int)+1- 1)=(tl.length:Int):=ymc
 have hw2:(tl.length:Int)<(tl.length:Int)+1:=yl5
 clear h hr q1
 go_enter Tryz.func82,Tryz.ntmps82
 go_wp2_with fail
 go_region
 all_goals
  go_wp2
  go_ret
  exact ⟨rfl,rfl⟩
end
theorem Ih(x:Value)(w:World):(Instr.typeAssert (.iface 213 x) 138 213 true).run Tryz.prog w= .ok (.tuple #[x, .bool true]) w:=yl7
theorem Ep(x:Value)(w:World):(Instr.typeAssert (.iface 213 x) 138 217 true).run Tryz.prog w= .ok (.tuple #[.agg #[.string ⟨#[]⟩, .int .i64 0, .string ⟨#[]⟩, .int .i64 0, .string ⟨#[]⟩, .int .i64 0], .bool false]) w:=yl7
theorem Ii(x:Value)(w:World):(Instr.typeAssert (.iface 213 x) 138 192 true).run Tryz.prog w= .ok (.tuple #[.agg #[.string ⟨#[]⟩, .string ⟨#[]⟩, .string ⟨#[]⟩, .int .i64 0], .bool false]) w:=yl7
theorem Ij(x:Value)(w:World):(Instr.typeAssert (.iface 213 x) 138 194 true).run Tryz.prog w= .ok (.tuple #[.agg #[.string ⟨#[]⟩, .string ⟨#[]⟩, .int .i64 0, .string ⟨#[]⟩, .int .i64 0], .bool false]) w:=yl7
theorem Gk(x:Value)(w:World):(Instr.typeAssert (.iface 213 x) 138 196 true).run Tryz.prog w= .ok (.tuple #[.agg #[.string ⟨#[]⟩, .int .i64 0], .bool false]) w:=yl7
theorem Yr(x:Value)(w:World):(Instr.typeAssert (.iface 213 x) 138 147 true).run Tryz.prog w= .ok (.tuple #[.pointer none, .bool false]) w:=yl7
theorem zdx(x:Value)(w:World):(Instr.typeAssert (.iface 213 x) 138 197 true).run Tryz.prog w= .ok (.tuple #[.pointer none, .bool false]) w:=yl7
theorem zal(x:Value)(w:World):(Instr.typeAssert (.iface 213 x) 138 200 true).run Tryz.prog w= .ok (.tuple #[.pointer none, .bool false]) w:=yl7
theorem Sf(x:Value)(w:World):(Instr.typeAssert (.iface 213 x) 138 207 true).run Tryz.prog w= .ok (.tuple #[.nilIface, .bool false]) w:=run_typeAssert_lacksB Tryz.underlying207 yl7 yl7 x _ w
theorem Ua(x:Value)(w:World):(Instr.typeAssert (.iface 217 x) 138 213 true).run Tryz.prog w= .ok (.tuple #[.agg #[.string ⟨#[]⟩, .string ⟨#[]⟩, .int .i64 0], .bool false]) w:=yl7
theorem Zz(x:Value)(w:World):(Instr.typeAssert (.iface 217 x) 138 217 true).run Tryz.prog w= .ok (.tuple #[x, .bool true]) w:=yl7
theorem Ub(x:Value)(w:World):(Instr.typeAssert (.iface 217 x) 138 192 true).run Tryz.prog w= .ok (.tuple #[.agg #[.string ⟨#[]⟩, .string ⟨#[]⟩, .string ⟨#[]⟩, .int .i64 0], .bool false]) w:=yl7
theorem Uc(x:Value)(w:World):(Instr.typeAssert (.iface 217 x) 138 194 true).run Tryz.prog w= .ok (.tuple #[.agg #[.string ⟨#[]⟩, .string ⟨#[]⟩, .int .i64 0, .string ⟨#[]⟩, .int .i64 0], .bool false]) w:=yl7
theorem Yf(x:Value)(w:World):(Instr.typeAssert (.iface 217 x) 138 196 true).run Tryz.prog w= .ok (.tuple #[.agg #[.string ⟨#[]⟩, .int .i64 0], .bool false]) w:=yl7
theorem Vw(x:Value)(w:World):(Instr.typeAssert (.iface 217 x) 138 147 true).run Tryz.prog w= .ok (.tuple #[.pointer none, .bool false]) w:=yl7
theorem Ik(x:Value)(w:World):(Instr.typeAssert (.iface 217 x) 138 197 true).run Tryz.prog w= .ok (.tuple #[.pointer none, .bool false]) w:=yl7
theorem Fo(x:Value)(w:World):(Instr.typeAssert (.iface 217 x) 138 200 true).run Tryz.prog w= .ok (.tuple #[.pointer none, .bool false]) w:=yl7
theorem Gl(x:Value)(w:World):(Instr.typeAssert (.iface 217 x) 138 207 true).run Tryz.prog w= .ok (.tuple #[.nilIface, .bool false]) w:=run_typeAssert_lacksB Tryz.underlying207 yl7 yl7 x _ w
theorem Gm(x:Value)(w:World):(Instr.typeAssert (.iface 192 x) 138 213 true).run Tryz.prog w= .ok (.tuple #[.agg #[.string ⟨#[]⟩, .string ⟨#[]⟩, .int .i64 0], .bool false]) w:=yl7
theorem Yg(x:Value)(w:World):(Instr.typeAssert (.iface 192 x) 138 217 true).run Tryz.prog w= .ok (.tuple #[.agg #[.string ⟨#[]⟩, .int .i64 0, .string ⟨#[]⟩, .int .i64 0, .string ⟨#[]⟩, .int .i64 0], .bool false]) w:=yl7
theorem Xr(x:Value)(w:World):(Instr.typeAssert (.iface 192 x) 138 192 true).run Tryz.prog w= .ok (.tuple #[x, .bool true]) w:=yl7
theorem Il(x:Value)(w:World):(Instr.typeAssert (.iface 192 x) 138 194 true).run Tryz.prog w= .ok (.tuple #[.agg #[.string ⟨#[]⟩, .string ⟨#[]⟩, .int .i64 0, .string ⟨#[]⟩, .int .i64 0], .bool false]) w:=yl7
theorem Gn(x:Value)(w:World):(Instr.typeAssert (.iface 192 x) 138 196 true).run Tryz.prog w= .ok (.tuple #[.agg #[.string ⟨#[]⟩, .int .i64 0], .bool false]) w:=yl7
theorem Ys(x:Value)(w:World):(Instr.typeAssert (.iface 192 x) 138 147 true).run Tryz.prog w= .ok (.tuple #[.pointer none, .bool false]) w:=yl7
theorem zdy(x:Value)(w:World):(Instr.typeAssert (.iface 192 x) 138 197 true).run Tryz.prog w= .ok (.tuple #[.pointer none, .bool false]) w:=yl7
theorem zam(x:Value)(w:World):(Instr.typeAssert (.iface 192 x) 138 200 true).run Tryz.prog w= .ok (.tuple #[.pointer none, .bool false]) w:=yl7
theorem Sg(x:Value)(w:World):(Instr.typeAssert (.iface 192 x) 138 207 true).run Tryz.prog w= .ok (.tuple #[.nilIface, .bool false]) w:=run_typeAssert_lacksB Tryz.underlying207 yl7 yl7 x _ w
theorem Im(x:Value)(w:World):(Instr.typeAssert (.iface 194 x) 138 213 true).run Tryz.prog w= .ok (.tuple #[.agg #[.string ⟨#[]⟩, .string ⟨#[]⟩, .int .i64 0], .bool false]) w:=yl7
theorem Ud(x:Value)(w:World):(Instr.typeAssert (.iface 194 x) 138 217 true).run Tryz.prog w= .ok (.tuple #[.agg #[.string ⟨#[]⟩, .int .i64 0, .string ⟨#[]⟩, .int .i64 0, .string ⟨#[]⟩, .int .i64 0], .bool false]) w:=yl7
theorem Gp(x:Value)(w:World):(Instr.typeAssert (.iface 194 x) 138 192 true).run Tryz.prog w= .ok (.tuple #[.agg #[.string ⟨#[]⟩, .string ⟨#[]⟩, .string ⟨#[]⟩, .int .i64 0], .bool false]) w:=yl7
theorem Gq(x:Value)(w:World):(Instr.typeAssert (.iface 194 x) 138 194 true).run Tryz.prog w= .ok (.tuple #[x, .bool true]) w:=yl7
theorem Gr(x:Value)(w:World):(Instr.typeAssert (.iface 194 x) 138 196 true).run Tryz.prog w= .ok (.tuple #[.agg #[.string ⟨#[]⟩, .int .i64 0], .bool false]) w:=yl7
theorem Yt(x:Value)(w:World):(Instr.typeAssert (.iface 194 x) 138 147 true).run Tryz.prog w= .ok (.tuple #[.pointer none, .bool false]) w:=yl7
theorem zdz(x:Value)(w:World):(Instr.typeAssert (.iface 194 x) 138 197 true).run Tryz.prog w= .ok (.tuple #[.pointer none, .bool false]) w:=yl7
theorem zan(x:Value)(w:World):(Instr.typeAssert (.iface 194 x) 138 200 true).run Tryz.prog w= .ok (.tuple #[.pointer none, .bool false]) w:=yl7
theorem Sh(x:Value)(w:World):(Instr.typeAssert (.iface 194 x) 138 207 true).run Tryz.prog w= .ok (.tuple #[.nilIface, .bool false]) w:=run_typeAssert_lacksB Tryz.underlying207 yl7 yl7 x _ w
theorem Gs(x:Value)(w:World):(Instr.typeAssert (.iface 196 x) 138 213 true).run Tryz.prog w= .ok (.tuple #[.agg #[.string ⟨#[]⟩, .string ⟨#[]⟩, .int .i64 0], .bool false]) w:=yl7
theorem Yh(x:Value)(w:World):(Instr.typeAssert (.iface 196 x) 138 217 true).run Tryz.prog w= .ok (.tuple #[.agg #[.string ⟨#[]⟩, .int .i64 0, .string ⟨#[]⟩, .int .i64 0, .string ⟨#[]⟩, .int .i64 0], .bool false]) w:=yl7
theorem Xs(x:Value)(w:World):(Instr.typeAssert (.iface 196 x) 138 192 true).run Tryz.prog w= .ok (.tuple #[.agg #[.string ⟨#[]⟩, .string ⟨#[]⟩, .string ⟨#[]⟩, .int .i64 0], .bool false]) w:=yl7
theorem Xt(x:Value)(w:World):(Instr.typeAssert (.iface 196 x) 138 194 true).run Tryz.prog w= .ok (.tuple #[.agg #[.string ⟨#[]⟩, .string ⟨#[]⟩, .int .i64 0, .string ⟨#[]⟩, .int .i64 0], .bool false]) w:=yl7
theorem Yo(x:Value)(w:World):(Instr.typeAssert (.iface 196 x) 138 196 true).run Tryz.prog w= .ok (.tuple #[x, .bool true]) w:=yl7
theorem Yu(x:Value)(w:World):(Instr.typeAssert (.iface 196 x) 138 147 true).run Tryz.prog w= .ok (.tuple #[.pointer none, .bool false]) w:=yl7
theorem zd0(x:Value)(w:World):(Instr.typeAssert (.iface 196 x) 138 197 true).run Tryz.prog w= .ok (.tuple #[.pointer none, .bool false]) w:=yl7
theorem zao(x:Value)(w:World):(Instr.typeAssert (.iface 196 x) 138 200 true).run Tryz.prog w= .ok (.tuple #[.pointer none, .bool false]) w:=yl7
theorem Si(x:Value)(w:World):(Instr.typeAssert (.iface 196 x) 138 207 true).run Tryz.prog w= .ok (.tuple #[.nilIface, .bool false]) w:=run_typeAssert_lacksB Tryz.underlying207 yl7 yl7 x _ w
theorem Uv(x:Value)(w:World):(Instr.typeAssert (.iface 147 x) 138 213 true).run Tryz.prog w= .ok (.tuple #[.agg #[.string ⟨#[]⟩, .string ⟨#[]⟩, .int .i64 0], .bool false]) w:=yl7
theorem Yl(x:Value)(w:World):(Instr.typeAssert (.iface 147 x) 138 217 true).run Tryz.prog w= .ok (.tuple #[.agg #[.string ⟨#[]⟩, .int .i64 0, .string ⟨#[]⟩, .int .i64 0, .string ⟨#[]⟩, .int .i64 0], .bool false]) w:=yl7
theorem Yv(x:Value)(w:World):(Instr.typeAssert (.iface 147 x) 138 192 true).run Tryz.prog w= .ok (.tuple #[.agg #[.string ⟨#[]⟩, .string ⟨#[]⟩, .string ⟨#[]⟩, .int .i64 0], .bool false]) w:=yl7
theorem Yw(x:Value)(w:World):(Instr.typeAssert (.iface 147 x) 138 194 true).run Tryz.prog w= .ok (.tuple #[.agg #[.string ⟨#[]⟩, .string ⟨#[]⟩, .int .i64 0, .string ⟨#[]⟩, .int .i64 0], .bool false]) w:=yl7
theorem Zm(x:Value)(w:World):(Instr.typeAssert (.iface 147 x) 138 196 true).run Tryz.prog w= .ok (.tuple #[.agg #[.string ⟨#[]⟩, .int .i64 0], .bool false]) w:=yl7
theorem Vh(x:Value)(w:World):(Instr.typeAssert (.iface 147 x) 138 147 true).run Tryz.prog w= .ok (.tuple #[x, .bool true]) w:=yl7
theorem Sj(x:Value)(w:World):(Instr.typeAssert (.iface 147 x) 138 197 true).run Tryz.prog w= .ok (.tuple #[.pointer none, .bool false]) w:=yl7
theorem Er(x:Value)(w:World):(Instr.typeAssert (.iface 147 x) 138 200 true).run Tryz.prog w= .ok (.tuple #[.pointer none, .bool false]) w:=yl7
theorem Xk(x:Value)(w:World):(Instr.typeAssert (.iface 147 x) 138 207 true).run Tryz.prog w= .ok (.tuple #[.iface 147 x, .bool true]) w:=yl7
theorem Ss(x:Value)(w:World):(Instr.typeAssert (.iface 197 x) 138 213 true).run Tryz.prog w= .ok (.tuple #[.agg #[.string ⟨#[]⟩, .string ⟨#[]⟩, .int .i64 0], .bool false]) w:=yl7
theorem Uw(x:Value)(w:World):(Instr.typeAssert (.iface 197 x) 138 217 true).run Tryz.prog w= .ok (.tuple #[.agg #[.string ⟨#[]⟩, .int .i64 0, .string ⟨#[]⟩, .int .i64 0, .string ⟨#[]⟩, .int .i64 0], .bool false]) w:=yl7
theorem Eb(x:Value)(w:World):(Instr.typeAssert (.iface 197 x) 138 192 true).run Tryz.prog w= .ok (.tuple #[.agg #[.string ⟨#[]⟩, .string ⟨#[]⟩, .string ⟨#[]⟩, .int .i64 0], .bool false]) w:=yl7
theorem Ec(x:Value)(w:World):(Instr.typeAssert (.iface 197 x) 138 194 true).run Tryz.prog w= .ok (.tuple #[.agg #[.string ⟨#[]⟩, .string ⟨#[]⟩, .int .i64 0, .string ⟨#[]⟩, .int .i64 0], .bool false]) w:=yl7
theorem Ux(x:Value)(w:World):(Instr.typeAssert (.iface 197 x) 138 196 true).run Tryz.prog w= .ok (.tuple #[.agg #[.string ⟨#[]⟩, .int .i64 0], .bool false]) w:=yl7
theorem Yb(x:Value)(w:World):(Instr.typeAssert (.iface 197 x) 138 147 true).run Tryz.prog w= .ok (.tuple #[.pointer none, .bool false]) w:=yl7
theorem zbv(x:Value)(w:World):(Instr.typeAssert (.iface 197 x) 138 197 true).run Tryz.prog w= .ok (.tuple #[x, .bool true]) w:=yl7
theorem zcr(x:Value)(w:World):(Instr.typeAssert (.iface 197 x) 138 200 true).run Tryz.prog w= .ok (.tuple #[.pointer none, .bool false]) w:=yl7
theorem Ed(x:Value)(w:World):(Instr.typeAssert (.iface 197 x) 138 207 true).run Tryz.prog w= .ok (.tuple #[.iface 197 x, .bool true]) w:=yl7
theorem Ee(x:Value)(w:World):(Instr.typeAssert (.iface 200 x) 138 213 true).run Tryz.prog w= .ok (.tuple #[.agg #[.string ⟨#[]⟩, .string ⟨#[]⟩, .int .i64 0], .bool false]) w:=yl7
theorem Xl(x:Value)(w:World):(Instr.typeAssert (.iface 200 x) 138 217 true).run Tryz.prog w= .ok (.tuple #[.agg #[.string ⟨#[]⟩, .int .i64 0, .string ⟨#[]⟩, .int .i64 0, .string ⟨#[]⟩, .int .i64 0], .bool false]) w:=yl7
theorem Uk(x:Value)(w:World):(Instr.typeAssert (.iface 200 x) 138 192 true).run Tryz.prog w= .ok (.tuple #[.agg #[.string ⟨#[]⟩, .string ⟨#[]⟩, .string ⟨#[]⟩, .int .i64 0], .bool false]) w:=yl7
theorem Ul(x:Value)(w:World):(Instr.typeAssert (.iface 200 x) 138 194 true).run Tryz.prog w= .ok (.tuple #[.agg #[.string ⟨#[]⟩, .string ⟨#[]⟩, .int .i64 0, .string ⟨#[]⟩, .int .i64 0], .bool false]) w:=yl7
theorem Yx(x:Value)(w:World):(Instr.typeAssert (.iface 200 x) 138 196 true).run Tryz.prog w= .ok (.tuple #[.agg #[.string ⟨#[]⟩, .int .i64 0], .bool false]) w:=yl7
theorem Zc(x:Value)(w:World):(Instr.typeAssert (.iface 200 x) 138 147 true).run Tryz.prog w= .ok (.tuple #[.pointer none, .bool false]) w:=yl7
theorem In(x:Value)(w:World):(Instr.typeAssert (.iface 200 x) 138 197 true).run Tryz.prog w= .ok (.tuple #[.pointer none, .bool false]) w:=yl7
theorem Fb(x:Value)(w:World):(Instr.typeAssert (.iface 200 x) 138 200 true).run Tryz.prog w= .ok (.tuple #[x, .bool true]) w:=yl7
theorem Uy(x:Value)(w:World):(Instr.typeAssert (.iface 200 x) 138 207 true).run Tryz.prog w= .ok (.tuple #[.iface 200 x, .bool true]) w:=yl7
theorem zj3(x:Value)(w:World):(Instr.typeAssert (.iface 85 x) 207 147 true).run Tryz.prog w= .ok (.tuple #[.pointer none, .bool false]) w:=yl7
theorem zoa(x:Value)(w:World):(Instr.typeAssert (.iface 147 x) 207 147 true).run Tryz.prog w= .ok (.tuple #[x, .bool true]) w:=yl7
theorem z22(x:Value)(w:World):(Instr.typeAssert (.iface 197 x) 207 147 true).run Tryz.prog w= .ok (.tuple #[.pointer none, .bool false]) w:=yl7
theorem zvu(x:Value)(w:World):(Instr.typeAssert (.iface 200 x) 207 147 true).run Tryz.prog w= .ok (.tuple #[.pointer none, .bool false]) w:=yl7
def zhr:HK->Prop
 | .inl _=>True
 | .inr (.inr (.inr (.inr (.inr (.inr (.inl ()))))))=>True
 | .inr (.inr (.inr (.inr (.inr (.inr (.inr (.inl _)))))))=>True
 | .inr (.inr (.inr (.inr (.inr (.inr (.inr (.inr _)))))))=>True
 | .inr _=>False
section
variable{D:Nat->Prop}{lab:Nat->Nat×Nat}{w:World}{br sb bs:Nat}{tv ov:Value}{st:RS}{ms:List HM}
attribute [local go_sem] zj3 zoa z22 zvu
theorem zvv{k:HK}(h:zhr k):(hkT k=147/\k.isAtomic=true)\/((hkT k=85\/hkT k=197\/hkT k=200)/\k.isAtomic=false):=by
 rcases k with ⟨l,c⟩|⟨to,a⟩|⟨to,k,a,c⟩|⟨to,f,a⟩|⟨f,a,c⟩|a|⟨⟩|a|n
 ·exact .inr ⟨.inl rfl,rfl⟩
 ·exact h.elim
 ·exact h.elim
 ·exact h.elim
 ·exact h.elim
 ·exact h.elim
 ·exact .inl ⟨rfl,rfl⟩
 ·exact .inr ⟨.inr (.inl rfl),rfl⟩
 ·exact .inr ⟨.inr (.inr rfl),rfl⟩
def RS.opnOk(st:RS):Prop:=st.opn.length<=4/\ ∀j∈st.opn,∃h,st.hs[j]?=some h/\zhr h.k
theorem zz8(h:RMach D lab w br sb bs tv ov st ms)(ho:st.opnOk)(k:Nat)(hk:k<st.opn.length): ∃g cp T b,ov= .slice (some ⟨g,0,none⟩) st.opn.length cp/\w.cell? ⟨g,k,none⟩=some (.iface T (ptr b))/\
  ((T=147/\((st.hk st.opn[k]).map HK.isAtomic).getD false=true)\/((T=85\/T=197\/T=200)/\((st.hk st.opn[k]).map HK.isAtomic).getD false=false)):=by
 have hr:=h.orow
 obtain ⟨g,cp,rfl⟩: ∃g cp,ov= .slice (some ⟨g,0,none⟩) st.opn.length cp:=yk4
 obtain ⟨q1,_,_⟩:=Qm hr k hk
 obtain ⟨x,hx,hok⟩:=ho.2 st.opn[k] (List.getElem_mem hk)
 rw [<-h.hs,List.getElem?_map] at hx
 cases hm:ms[st.opn[k]]? with
 |none=>rw [hm] at hx;simp at hx
 |some m=>
  rw [hm] at hx
  simp at hx
  have hc:w.cell? ⟨g,k,none⟩=some (.iface (hkT m.h.k) (ptr m.b)):=by
   rw [q1]
   simp [idV,Qu,List.getElem?_eq_getElem hk,hm]
  have e:(st.hk st.opn[k]).map HK.isAtomic=some m.h.k.isAtomic:=by
   unfold RS.hk
   rw [<-h.hs,List.getElem?_map,hm]
   rfl
  rw [e]
  rw [<-hx] at hok
  exact ⟨g,cp,_,_,rfl,hc,zvv hok⟩
theorem zob(h:RMach D lab w br sb bs tv ov st ms)(ho:st.opnOk):
  Cl 114 #[ptr br] w λe w'=>e= .returned (.bool st.inB)/\w'=w:=by
 have c3:=h.c3
 obtain ⟨oa,ok,hov⟩: ∃a k,ov= .slice a st.opn.length k:=yjz
 have HA:=hid (λk hk=>zz8 h ho k hk)
 have ho4:=ho.1
 rw [hov] at c3
 have HOV:=hid hov
 clear h ho hov
 go_enter Tryz.func114,Tryz.ntmps114
 go_wp2
 go_loopw [12] (λv wr=>∃k:Nat,k<=st.opn.length/\v= .int .i64 k/\wr=w/\Hid (∀j (h:j<st.opn.length),j<k->((st.hk st.opn[j]).map HK.isAtomic).getD false=false)) (λv _=>st.opn.length- (intOf v).toNat)
 case atStart=>exact ⟨0,Nat.zero_le _,rfl,rfl,λj _ hj=>by omega⟩
 case round=>
  obtain ⟨k,hk,rfl,rfl,hP⟩:=hrel
  by_cases hlt:k<st.opn.length
  ·have hlt':(k:Int)<(st.opn.length:Int):=by omega
   obtain ⟨g,cp,T,b,e1,q1,q2⟩:=HA.out k hlt
   rw [HOV.out] at e1
   obtain ⟨rfl,rfl⟩:oa=some ⟨g,0,none⟩/\ok=cp:=by simpa using e1
   clear e1
   have Q2:=hid q2
   rcases q2 with ⟨rfl,q3⟩|⟨q2|q2|q2,q3⟩
   ·have HT:Hid (st.inB=true):=by
     refine List.any_eq_true.2 ⟨st.opn[k],List.getElem_mem hlt,q3⟩
    clear q3 Q2
    go_wp2
    go_ret
    exact ⟨by rw [HT.out];rfl,rfl⟩
   all_goals
    subst q2
    have HP2:Hid (∀j (h:j<st.opn.length),j<k+1->((st.hk st.opn[j]).map HK.isAtomic).getD false=false):=λj hj hjk=>by
     by_cases e:j=k
     ·subst e;exact q3
     ·exact hP.out j hj yl5
    clear q3 Q2 hP
    go_wp2
    go_roundw
    case rel=>exact ⟨k+1,by omega,by go_num,trivial,HP2⟩
    case measure=>simp [intOf];omega
  ·have hlt': ¬(k:Int)<(st.opn.length:Int):=by omega
   have HF:Hid (st.inB=false):=by
    refine List.any_eq_false.2 λj hj=>?_
    obtain ⟨i,hi,rfl⟩:=List.getElem_of_mem hj
    have:=hP.out i hi yl5
    simp [this]
   go_wp2
   go_ret
   exact ⟨by rw [HF.out];rfl,rfl⟩
end
end Go.Proofs.YtiiepngikigmbaaGreatDoor
