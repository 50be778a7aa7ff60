import Derived.Test.YtiiepngikigmbaaGreatDoorP17
set_option maxRecDepth 100000
set_option maxHeartbeats 4000000
namespace Go.Proofs.YtiiepngikigmbaaGreatDoor
open Go.RowKit
theorem zjr(p:Addr)(bf:Nat)(u:Value)(w:World)(hc:(w.alloc (.cells #[.pointer (some ⟨bf,0,none⟩)] 130)).cell? p=some u)(hz:(w.alloc (.cells #[.pointer (some ⟨bf,0,none⟩)] 130)).frozen? p=false):
  CallsD Tryz.prog 42 #[.pointer (some p)] (.panicking (zga bf)) w λe u' w'=>e= .returned (.tuple #[])/\u'= .panicking [{v:= .iface 130 (.agg #[.pointer (some ⟨bf,0,none⟩)]),recovered:=true}]/\w'=((w.alloc (.cells #[.pointer (some ⟨bf,0,none⟩)] 130)).setCell p (.iface 47 (.pointer (some ⟨bf,0,none⟩)))):=by
 have hta: ∀x w,(Instr.typeAssert (.iface 130 x) 20 130 true).run Tryz.prog w= .ok (.tuple #[x, .bool true]) w:=λ_ _=>by kernel_rfl
 refine callsD_of_wpS Tryz.func42 rfl λc₀ cs hu=>?_
 apply wpS_seq
 apply wpS_region
 simp [wpOpsS,go_sem,recoverD,hu,Tryz.ntmps42,Exit.thenS]
 apply wpS_of_wp
 go_wp2
 cases c₀
 simp_all [bodyPostS,results,Tryz.results42]
theorem ya9(W:World)(s:ByteArray)(most:Int)(tk bt:Nat)(Inv:List UInt8->Nat->World->Prop)(Bad:Nat->World->Prop)
  (hs:(s.size:Int)<=most) (hs2:s.size<=1000000)
  (hent: ∀args w,(callFunc tk args).run Tryz.prog w= .ok (.enter tk args) w)
  (h0:Hid (Inv s.data.toList 0 (W.alloc (.cells #[.nilIface] 33))))
  (hcut:Hid (∀(r:List UInt8) (j:Nat) (w:World),r.length<=s.size->Inv r j w->Cl 43 #[.string ⟨r.toArray⟩, .string ⟨#[10]⟩] w λe w'=>e= .returned (.tuple #[.string ⟨(Lib.cut r [10]).1.toArray⟩, .string ⟨(Lib.cut r [10]).2.1.toArray⟩, .bool (Lib.cut r [10]).2.2])/\ ∃n,w'=w.drewN n))
  (hsplit:Hid (∀(r:List UInt8) (j:Nat) (w:World) (l:List UInt8) (n:Nat),Inv r j w->l.length<=s.size->Cl 44 #[.string ⟨l.toArray⟩, .string ⟨#[32]⟩] (w.drewN n) λe w'=>e= .returned (.slice (some ⟨w.heap.size,0,none⟩) (Ql l).length (Ql l).length)/\w'=(w.drewN n).alloc (.cells ((Ql l).map Value.string).toArray 9)))
  (hstep:Hid (∀(r:List UInt8) (j:Nat) (w:World),Inv r j w->(r≠[]\/j=0)->∃l r' b,Lib.cut r [10]=(l,r',b)/\l.length<=r.length/\
   (b=true->r'.length<r.length/\ ∀n,Cl tk #[ptr (w.heap.size+1),ptr bt] (((w.drewN n).alloc (.cells ((Ql l).map Value.string).toArray 9)).alloc (.cells #[.int .i64 (j+1), .slice (some ⟨w.heap.size,0,none⟩) (Ql l).length (Ql l).length] 135)) λe w2=>(e= .returned (.tuple #[])/\Inv r' (j+1) w2)\/ ∃bf,e= .panicked (zga bf)/\Bad bf w2)/\
   (b=false->∀n bf w2,Fails 2 (j+1) (w.heap.size+1) (((w.drewN n).alloc (.cells ((Ql l).map Value.string).toArray 9)).alloc (.cells #[.int .i64 (j+1), .slice (some ⟨w.heap.size,0,none⟩) (Ql l).length (Ql l).length] 135)) (.panicked (zga bf)) w2->Bad bf w2)))
  (herr:Hid (∀r j w,Inv r j w->w.cell? ⟨W.heap.size,0,none⟩=some .nilIface/\w.frozen? ⟨W.heap.size,0,none⟩=false))
  (hbad:Hid (∀bf w,Bad bf w->W.heap.size<w.heap.size/\w.cell? ⟨W.heap.size,0,none⟩=some .nilIface/\w.frozen? ⟨W.heap.size,0,none⟩=false)):
  Cl 23 #[.string s, .int .i64 most, .func (.func tk) #[] #[ptr bt]] W λe w'=>(e= .returned .nilIface/\ ∃j w1,j≠0/\Inv [] j w1/\w'=w1.setCell ⟨W.heap.size,0,none⟩ .nilIface)\/
   ∃bf w2,e= .returned (.iface 47 (ptr bf))/\Bad bf w2/\w'=(w2.alloc (.cells #[ptr bf] 130)).setCell ⟨W.heap.size,0,none⟩ (.iface 47 (ptr bf)):=by
 have hs': ¬most<(s.size:Int):=yl5
 have hmf: ∀(fn:Fn) (first cap:Array Value) (w:World),(Instr.makeFunc fn first cap).run Tryz.prog w= .ok (.func fn first cap) w:=λ_ _ _ _=>rfl
 have hfall: ∀(bf:Nat) (w2:World) (tm:Array Value),Hid (tm[6]?.getD undef= .pointer (some ⟨W.heap.size,0,none⟩))->Bad bf w2->bodyPostD Tryz.prog Tryz.f23 (λe w'=>(e= .returned .nilIface/\ ∃j w1,j≠0/\Inv [] j w1/\w'=w1.setCell ⟨W.heap.size,0,none⟩ .nilIface)\/
   ∃bf w2,e= .returned (.iface 47 (ptr bf))/\Bad bf w2/\w'=(w2.alloc (.cells #[ptr bf] 130)).setCell ⟨W.heap.size,0,none⟩ (.iface 47 (ptr bf))) (.panic (zga bf)) {tmps:=tm,defers:=[{target:= .fn (.func 42) #[.pointer (some ⟨W.heap.size,0,none⟩)],args:=#[]}]} w2:=by
  intro bf w2 tm htm hB
  obtain ⟨b1,b2,b3⟩:=hbad.out bf w2 hB
  have c2:(w2.alloc (.cells #[.pointer (some ⟨bf,0,none⟩)] 130)).cell? ⟨W.heap.size,0,none⟩=some .nilIface:=(World.cell?_alloc_past _ _ _ b1).trans b2
  refine leaves_cons (f:=42) (args:=#[.pointer (some ⟨W.heap.size,0,none⟩)]) yl6 ymi ?_
  refine (zjr ⟨W.heap.size,0,none⟩ bf .nilIface w2 c2 ((World.frozen?_alloc_past _ _ _ b1).trans b3)).mono ?_
  rintro e u' w'' ⟨rfl,rfl,rfl⟩
  refine ⟨.iface 47 (ptr bf),?_, .inr ⟨bf,w2,rfl,hB,rfl⟩⟩
  have h6:=htm.out
  simp [results,Tryz.results23,go_sem,h6,World.cell?_setCell_same _ _ _ c2]
 have HF:=hid hfall
 clear hfall
 go_enter_defers Tryz.func23,Tryz.ntmps23
 go_wp2
 go_loopw [0,7] (λv0 v7 wr=>∃(r:List UInt8) (j:Nat),v0= .string ⟨r.toArray⟩/\v7= .int .i64 (j+1)/\Inv r j wr/\j+r.length<=s.size) (λv0 _ _=>zzm v0)
 case atStart=>exact ⟨s.data.toList,0,by simp,rfl,h0.out,by simp⟩
 case round=>exact yjq
end Go.Proofs.YtiiepngikigmbaaGreatDoor
