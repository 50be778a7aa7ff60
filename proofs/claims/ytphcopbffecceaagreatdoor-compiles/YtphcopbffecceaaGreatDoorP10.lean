import Derived.Test.YtphcopbffecceaaGreatDoorP06
set_option maxRecDepth 100000
set_option maxHeartbeats 4000000
namespace Go.Proofs.YtphcopbffecceaaGreatDoor
open Go.RowKit
variable{ol tl:List Nat}{c f j o t:Nat}{l ws ws1:List ByteArray}{rv:Value}{es:List En}{u:ByteArray}{x:Hd}{e:En}
section
variable{D D0:Nat->Prop}{lab:Nat->Nat×Nat}{w W:World}{br sb bs bl bw:Nat}{n:Int}{ws:List ByteArray}{tv ov:Value}{st:RS}{ms:List HM}
def RS.newT(st:RS):RS:={st with hs:=st.hs++[⟨.thr [] 0,[]⟩],threads:=st.threads++[st.hs.length],opn:=[st.hs.length]}
abbrev Uz(w:World):World:=(w.alloc (.map #[] 0)).alloc (.cells #[.slice none 0 0, .map (some w.heap.size), .int .i64 0] 116)
theorem zj7(w:World):zmb (Uz w) (w.heap.size+1) w.heap.size:=by
 have hb:(Uz w).heap[w.heap.size+1]?=some (.cells #[.slice none 0 0, .map (some w.heap.size), .int .i64 0] 116):=by
  have:(Uz w).heap[(w.alloc (.map #[] 0)).heap.size]?=some (.cells #[.slice none 0 0, .map (some w.heap.size), .int .i64 0] 116):=Array.getElem?_push_size
  rw [show (w.alloc (.map #[] 0)).heap.size=w.heap.size+1 from by simp] at this
  exact this
 refine ⟨?_,?_,⟨?_,?_,?_⟩,?_⟩
 ·unfold World.shape?;rw [hb];rfl
 ·unfold World.cell?;rw [hb];rfl
 ·unfold World.cell?;rw [hb];rfl
 ·unfold World.cell?;rw [hb];rfl
 ·exact (zbr w).keep (M:=λ_ _=>False) ((Chg.refl _ _).alloc _) (λ_ e=>e)
 ·intro j
  unfold World.frozen?
  rw [hb]
  simp
theorem zhx(h:RMach D0 lab w br sb bs tv ov st ms)(he:st.entOk)(h0: ∀k,D0 k->D k)(hD: ∀k,w.heap.size<=k->D k)(hlt: ∀k,D0 k->k<w.heap.size):
  ∃lab1 ms1,RMach D lab1 (Uz w) br sb bs tv ov {st with hs:=st.hs++[⟨.thr [] 0,[]⟩]} ms1/\idP (Qu ms1) st.hs.length=ptr (w.heap.size+1)/\idV (Qu ms1) st.hs.length= .iface 109 (ptr (w.heap.size+1))/\Chg (λk _=>D k) w (Uz w):=by
 have hc:Chg (λ_ _=>False) w (Uz w):=((Chg.refl _ w).alloc _).alloc _
 have r0:=h.keep hc (λ_ _ _ e=>e)
 obtain ⟨lab1,r1⟩:=r0.newT (D:=D) he h0 (w.heap.size+1) w.heap.size (zj7 w) (hD _ yai) (hD _ yai) (λe=>by have:=hlt _ e;omega) (λe=>by have:=hlt _ e;omega) yai
 refine ⟨lab1,_,r1,?_,?_,hc.mono (λ_ _ _ e=>e.elim)⟩
 ·rw [<-h.len]
  simp [idP,Qu]
 ·rw [<-h.len]
  simp [idV,Qu,hkT]
theorem zhy{us:List ByteArray}(hL:LineAt w bl n bw (u::us)):Cl 55 #[ptr br,ptr bl] w λe w'=>Fails 2 n bl w e w':=by
 have H:=hid hL
 clear hL
 go_enter Tryz.func55,Tryz.ntmps55
 go_wp2_with fail
 refine (zc0 H.out).mono ?_
 rintro e w1 ⟨bf,rfl,h1⟩
 exact ⟨rfl,bf,rfl,h1⟩
theorem RMach.openS(h:RMach D lab w br sb bs tv ov st ms): ∃a k,ov= .slice a st.opn.length k:=z7v
theorem RMach.threadS(h:RMach D lab w br sb bs tv ov st ms): ∃a k,tv= .slice a st.threads.length k:=z8l
theorem zgm(h:RMach D lab w br sb bs tv ov st ms)(hL:LineAt w bl n bw [])(hlt:1<st.opn.length):Cl 55 #[ptr br,ptr bl] w λe w'=>Fails 3 n bl w e w':=by
 have c3:=h.c3
 obtain ⟨oa,ok,hov⟩:=h.openS
 rw [hov] at c3
 have hlt':1<(st.opn.length:Int):=yai
 have H:=hid hL
 clear hL h hov
 go_enter Tryz.func55,Tryz.ntmps55
 go_wp2_with fail
 refine (Eo H.out).mono ?_
 rintro e w1 ⟨rfl,rfl⟩
 go_wp2_with fail
 refine (Jv H.out 3).mono ?_
 rintro e w1 ⟨bf,rfl,h1⟩
 exact ⟨rfl,bf,rfl,h1⟩
theorem zof(h:RMach D0 lab w br sb bs tv ov st ms)(he:st.entOk)(h0: ∀k,D0 k->D k)(hD: ∀k,w.heap.size<=k->D k)(hD0: ∀k,D0 k->k<w.heap.size)(hL:LineAt w bl n bw [])(hle:st.opn.length<=1)(ht:st.threads.length<1000000):
  Cl 55 #[ptr br,ptr bl] w λe w'=>e= .returned (.tuple #[])/\(∃lab' tv' ov' ms',RMach D lab' w' br sb bs tv' ov' st.newT ms')/\Chg (λk _=>D k) w w':=by
 obtain ⟨lab1,ms1,r1,hp,hv,c1⟩:=zhx h he h0 hD hD0
 have cc3:=h.c3
 obtain ⟨oa,ok,hov⟩:=h.openS
 obtain ⟨ta,tk,htv⟩:=h.threadS
 subst htv
 have hle': ¬1<(st.opn.length:Int):=yai
 have H:=hid hL
 have cT:=r1.c1
 have fT:=r1.free 1
 have hl1:st.threads.length+1<=maxLen:=yap
 have hl2:(st.threads.length+1)*8<=140737488355328:=yai
 obtain ⟨oi0,ohi,ohz0,ohz1,ohz2⟩:=info_parts zv3
 have hrow:=r1.trow
 have hpush:=λoo w9 g9 cp9=>r1.pushT (λk hk=>hD k (by have:=c1.size;omega)) st.hs.length oo (w3:=w9) (g:=g9) (cp:=cp9)
 simp only at hrow hpush
 rw [hp] at hpush
 have nr: ¬(Value.slice ta st.threads.length tk).ownBlock=some br:=λe=>zd3 (r1.ltv _ e).1 r1.lbr.1 yaj rfl
 have lb:=Qd r1.sh
 have cO:=r1.c3
 have HO:=hid hrow
 have HP:=hid hpush
 have HCB:Hid (∀w9 oo,Chg (λk _=>(Value.slice ta st.threads.length tk).ownBlock=some k) ((Uz w).alloc oo) w9->w9.cell? ⟨br,1,none⟩=some (.slice ta st.threads.length tk)/\w9.frozen? ⟨br,1,none⟩=false/\(∀V o,((w9.setCell ⟨br,1,none⟩ V).alloc o).cell? ⟨br,3,none⟩=some ov)/\ ∀V o,((w9.setCell ⟨br,1,none⟩ V).alloc o).frozen? ⟨br,3,none⟩=false):=by
  refine hid (λw9 oo hch=>?_)
  have lb':br<((Uz w).alloc oo).heap.size:=by simp at lb⊢;omega
  have lb9:br<w9.heap.size:=Nat.lt_of_lt_of_le lb' hch.size
  refine ⟨(hch.cell _ _ lb' nr).trans ((World.cell?_alloc_past _ _ _ lb).trans cT),(hch.frozen _ _ lb').trans ((World.frozen?_alloc_past _ _ _ lb).trans fT),λV o=>?_,λV o=>?_⟩
  ·have hs:Chg (λk j=>k=br/\j=1) w9 ((w9.setCell ⟨br,1,none⟩ V).alloc o):=((Chg.refl _ w9).setCell (λ_=>⟨rfl,rfl⟩) V).alloc o
   exact (hs.cell _ _ lb9 yai).trans ((hch.cell _ _ lb' nr).trans ((World.cell?_alloc_past _ _ _ lb).trans cO))
  ·have hs:Chg (λk j=>k=br/\j=1) w9 ((w9.setCell ⟨br,1,none⟩ V).alloc o):=((Chg.refl _ w9).setCell (λ_=>⟨rfl,rfl⟩) V).alloc o
   exact (hs.frozen _ _ lb9).trans ((hch.frozen _ _ lb').trans ((World.frozen?_alloc_past _ _ _ lb).trans (r1.free 3)))
 have C1:=hid c1
 have HD:=hid hD
 have HV:=hid hv
 have HC3:=hid cc3
 have HCT:=hid cT
 clear h hL he h0 hD hD0 r1 c1 hrow hpush nr lb cO hp hv cc3 cT fT
 have cc3:=HC3.out
 rw [hov] at cc3
 clear hov
 go_enter Tryz.func55,Tryz.ntmps55
 go_wp2_with fail
 refine (Eo H.out).mono ?_
 rintro e w1 ⟨rfl,rfl⟩
 have cT:=HCT.out
 have hone:=cell_one_new (Uz w1) (ptr (w1.heap.size+1)) 109
 rw [show (Uz w1).heap.size=w1.heap.size+1+1 from by simp [Uz]] at hone
 have hmm: ∀w:World,(Instr.makeMap 114 none).run Tryz.prog w= .ok (.map (some w.heap.size)) (w.alloc (.map #[] 0)):=λ_=>rfl
 go_wp2_with (at_builtin;refine Zk rfl _ _ 93 rfl 109 oi0 (.pointer none) 8 Tryz.underlying93 ohi ohz0 ohz1 ohz2 rfl (.slice ta st.threads.length tk) st.threads.length _ rfl (HO.out.alloc _) ⟨w1.heap.size+1+1,0,none⟩ (ptr (w1.heap.size+1)) rfl hone rfl hl1 hl2 ?_;go_must (intro g9 cp9 w9 hown1 hch hg;have hcb:=(HCB.out w9 _ hch).1;have hfb:=(HCB.out w9 _ hch).2.1;have hcb3:=(HCB.out w9 _ hch).2.2.1;have hfb3:=(HCB.out w9 _ hch).2.2.2;have HO1:=hid hown1;have HC1:=hid hch;have HG1:=hid hg;clear hown1 hch hg))
 all_goals
  go_end0
  obtain ⟨lab9,r9,c9⟩:=HP.out _ w9 g9 cp9 HO1.out HC1.out HG1.out
  have hsz:=C1.out.size
  have hsz9:=c9.size
  obtain ⟨lab10,r10,c10⟩:=r9.setO (λk hk=>HD.out k yai) st.hs.length _ HV.out
  rw [show (w9.setCell ⟨br,1,none⟩ (.slice (some ⟨g9,0,none⟩) (st.threads.length+1) cp9)).heap.size=w9.heap.size from by simp] at r10 c10
  exact ⟨rfl,⟨lab10,_,_,_,r10⟩,(C1.out.trans c9).trans c10⟩
end
section
variable{D D0:Nat->Prop}{lab:Nat->Nat×Nat}{w W:World}{br sb bs bl bw:Nat}{n c:Int}{ws ws1 us us2:List ByteArray}{x u:ByteArray}{tv ov:Value}{st:RS}{ms:List HM}
theorem zv4(l:List (ByteArray×Int×Int))(u:ByteArray)(a c:Int)(hu:(l.any λp=>decide (p.1=u))=false): ∀x,zgd (shF l) u (.agg #[.int .i64 a, .int .i64 c]) x=shF (l++[(u,a,c)]) x:=by
 intro x
 unfold zgd shF
 rw [List.find?_append]
 by_cases e:x=u
 ·subst e
  rw [if_pos rfl]
  have:(l.find? λp=>decide (p.1=x))=none:=by
   rw [List.find?_eq_none]
   intro p hp
   rw [List.any_eq_false] at hu
   exact hu p hp
  simp [this]
 ·rw [if_neg e]
  have e':u≠x:=λh=>e h.symm
  cases h:(l.find? λp=>decide (p.1=x)) with
  |some p=>simp
  |none=>simp [e']
theorem RMach.share(h:RMach D lab w br sb bs tv ov st ms)(u:ByteArray)(hu:u.size<=maxLen)(hnew:st.isSh u=false)(c:Int)(hl:st.shared.length<1000000):
  ∃W,(Instr.mapUpdate 92 (.map (some sb)) (.string u) (.agg #[.int .i64 st.cells, .int .i64 c])).run Tryz.prog w= .ok () W/\
  RMach D lab W br sb bs tv ov {st with shared:=st.shared++[(u,st.cells,c)]} ms/\Chg (λk _=>D k) w W:=by
 have lb:=Qd h.sh
 obtain ⟨W,hrun,hm,hc⟩:=h.mS.put Tryz.underlying92 yap hu (.agg #[.int .i64 st.cells, .int .i64 c])
 have hsome:(shF st.shared u).isSome=false:=by rw [zl5];exact hnew
 rw [hsome] at hm
 simp only [Bool.false_eq_true,if_false] at hm
 have nb:br≠sb:=zd3 h.lbr.1 h.lsb.1 yaj
 refine ⟨W,hrun,h.updB (st':={st with shared:=st.shared++[(u,st.cells,c)]}) rfl hc (λk j _ e=> .inl (e▸h.lsb.1)) (λ_ _=>rfl) ((hc.cell _ _ lb nb).trans h.c1) ((hc.cell _ _ lb nb).trans h.c2) ((hc.cell _ _ lb nb).trans h.c3) ?_ (Qc h.trow hc (λg hg j=>zd3 (h.ltv g hg).1 h.lsb.1 yaj)) (Qc h.orow hc (λg hg j=>zd3 (h.lov g hg).1 h.lsb.1 yaj)) h.ltv h.lov,hc.mono (λk i _ e=>e▸h.lsb.2)⟩
 simp only [List.length_append,List.length_cons,List.length_nil]
 exact hm.congr (zv4 st.shared u st.cells c hnew)
theorem RMach.cellsTo(h:RMach D lab w br sb bs tv ov st ms)(v:Int):RMach D lab (w.setCell ⟨br,2,none⟩ (.int .i64 v)) br sb bs tv ov {st with cells:=v} ms/\Chg (λk _=>D k) w (w.setCell ⟨br,2,none⟩ (.int .i64 v)):=by
 have lb:=Qd h.sh
 have hset:Chg (λk j=>k=br/\j=2) w (w.setCell ⟨br,2,none⟩ (.int .i64 v)):=(Chg.refl _ w).setCell (λ_=>⟨rfl,rfl⟩) _
 have nk: ∀k l,lab k=l->l≠(0,0)->∀j,¬(k=br/\j=2):=λk l hk h2 j e=>h2 (hk.symm.trans (e.1▸h.lbr.1))
 refine ⟨h.updB (st':={st with cells:=v}) rfl hset ?_ (λ_ _=>rfl) ((hset.cell _ _ lb yai).trans h.c1) (Qg h.c2 rfl) ((hset.cell _ _ lb yai).trans h.c3) (h.mS.keep hset (nk _ _ h.lsb.1 yaj)) (Qc h.trow hset (λq hq=>nk _ _ (h.ltv q hq).1 yaj)) (Qc h.orow hset (λq hq=>nk _ _ (h.lov q hq).1 yaj)) h.ltv h.lov,hset.mono (λk j _ e=>e.1▸h.lbr.2)⟩
 rintro k j _ ⟨rfl,rfl⟩
 exact .inr (.inr (.inr ⟨rfl, .inr (.inl rfl)⟩))
theorem z3b(hL:LineAt w bl n bw ws)(hz:SzOk ws)(hv:gNm ws=none):Cl 54 #[ptr br,ptr bl] w λe w'=>Fails 2 n bl w e w':=by
 have K:=hid (zqs hL hz hv)
 clear hL
 go_enter Tryz.func54,Tryz.ntmps54
 go_wp2_with fail
 refine K.out.mono ?_
 rintro e w1 ⟨bf,rfl,h1⟩
 exact ⟨rfl,bf,rfl,h1⟩
theorem z3c(hL:LineAt w bl n bw ws)(hz:SzOk ws)(hE:Hid (Env w))(hbl:10<=bl)(hv:gNm ws=some (x,u::us))(hv2:gIn 1 6 (u::us)=none):Cl 54 #[ptr br,ptr bl] w λe w'=>Fails 2 n bl w e w':=by
 have K:=hid (Fa hL hz hv)
 have hz1:=Ya hv hz
 clear hL
 go_enter Tryz.func54,Tryz.ntmps54
 go_wp2_with fail
 refine K.out.mono ?_
 rintro e w1 ⟨rfl,h1,c1⟩
 have K2:=hid (z15 h1 (hE.out.line c1 hbl) hbl hz1 hv2)
 have C1:=hid c1
 obtain ⟨o,cap,hs⟩:=h1.more
 simp only [List.length_cons] at hs
 clear h1 c1 K
 go_wp2_with (first|(go_at_call 76;go_in)|fail)
 refine K2.out.mono ?_
 intro e w3 h3
 obtain ⟨bf,rfl,h4⟩:=Fails.after h3 C1.out
 exact ⟨rfl,bf,rfl,h4⟩
theorem zj8(h:RMach D0 lab w br sb bs tv ov st ms)(hn: ¬D0 bl)(hL:LineAt w bl n bw ws)(hz:SzOk ws)(hv:gNm ws=some (x,[]))(ht:0<st.threads.length):Cl 54 #[ptr br,ptr bl] w λe w'=>Fails 3 n bl w e w':=by
 obtain ⟨ta,tk,htv⟩:=h.threadS
 have R0:=hid (λW (hc:Chg (Jo bl) w W)=>h.keep hc (λk i hk e=>hn (e.1▸hk)))
 clear h
 have K:=hid (Fa hL hz hv)
 have hz1:=Ya hv hz
 clear hL
 go_enter Tryz.func54,Tryz.ntmps54
 go_wp2_with fail
 refine K.out.mono ?_
 rintro e w1 ⟨rfl,h1,c1⟩
 have H2:=hid h1
 have C2:=hid c1
 obtain ⟨o,cap,hs1⟩:=h1.more
 simp only [List.length_nil] at hs1
 clear h1 c1 K
 go_wp2_with (first|(go_at_call 76;go_in)|fail)
 refine (Eo H2.out).mono ?_
 rintro e w3 ⟨rfl,rfl⟩
 have r3:=R0.out _ C2.out
 have ct:=r3.c1
 rw [htv] at ct
 have ht':0<(st.threads.length:Int):=yai
 clear r3 R0 htv
 go_wp2_with fail
 refine (Jv H2.out 3).mono ?_
 intro e w4 h3
 obtain ⟨bf,rfl,h4⟩:=Fails.after h3 C2.out
 exact ⟨rfl,bf,rfl,h4⟩
theorem zog(h:RMach D0 lab w br sb bs tv ov st ms)(hn: ¬D0 bl)(hL:LineAt w bl n bw ws)(hz:SzOk ws)(hv:gNm ws=some (x,[]))(ht:st.threads.length=0)(hx:x.size<=maxLen)(hs:st.isSh x=true):Cl 54 #[ptr br,ptr bl] w λe w'=>Fails 4 n bl w e w':=by
 obtain ⟨ta,tk,htv⟩:=h.threadS
 have R0:=hid (λW (hc:Chg (Jo bl) w W)=>h.keep hc (λk i hk e=>hn (e.1▸hk)))
 clear h
 have K:=hid (Fa hL hz hv)
 have hz1:=Ya hv hz
 clear hL
 go_enter Tryz.func54,Tryz.ntmps54
 go_wp2_with fail
 refine K.out.mono ?_
 rintro e w1 ⟨rfl,h1,c1⟩
 have H2:=hid h1
 have C2:=hid c1
 obtain ⟨o,cap,hs1⟩:=h1.more
 simp only [List.length_nil] at hs1
 clear h1 c1 K
 go_wp2_with (first|(go_at_call 76;go_in)|fail)
 refine (Eo H2.out).mono ?_
 rintro e w3 ⟨rfl,rfl⟩
 have r3:=R0.out _ C2.out
 have ct:=r3.c1
 rw [htv] at ct
 have K4:=hid (Uu r3 x hx)
 rw [hs] at K4
 rw [ht] at ct
 have R3:=hid r3
 clear r3 R0 htv
 go_wp2_with fail
 refine K4.out.mono ?_
 rintro e w4 ⟨rfl,b4⟩
 have H4:=hid (H2.out.below b4)
 have C4:=hid (C2.out.trans (Chg.of_below b4))
 clear b4 R3 K4 C2
 go_wp2_with fail
 refine (Jv H4.out 4).mono ?_
 intro e w5 h3
 obtain ⟨bf,rfl,h4⟩:=Fails.after h3 C4.out
 exact ⟨rfl,bf,rfl,h4⟩
theorem zv5(h:RMach D0 lab w br sb bs tv ov st ms)(hn: ¬D0 bl)(hL:LineAt w bl n bw ws)(hz:SzOk ws)(hv:gNm ws=some (x,[]))(ht:st.threads.length=0)(hx:x.size<=maxLen)(hs:st.isSh x=false)(h0: ∀k,D0 k->D k)(hDl:D bl)(hl:st.shared.length<1000000)(hc:0<=st.cells/\st.cells<10000000):Cl 54 #[ptr br,ptr bl] w λe w'=>e= .returned (.tuple #[])/\RMach D lab w' br sb bs tv ov {st with shared:=st.shared++[(x,st.cells,1)],cells:=st.cells+1} ms/\Chg (λk _=>D k) w w':=by
 obtain ⟨ta,tk,htv⟩:=h.threadS
 have R0:=hid (λW (hc:Chg (Jo bl) w W)=>h.keep hc (λk i hk e=>hn (e.1▸hk)))
 clear h
 have K:=hid (Fa hL hz hv)
 have hz1:=Ya hv hz
 clear hL
 go_enter Tryz.func54,Tryz.ntmps54
 go_wp2_with fail
 refine K.out.mono ?_
 rintro e w1 ⟨rfl,h1,c1⟩
 have H2:=hid h1
 have C2:=hid c1
 obtain ⟨o,cap,hs1⟩:=h1.more
 simp only [List.length_nil] at hs1
 clear h1 c1 K
 go_wp2_with (first|(go_at_call 76;go_in)|fail)
 refine (Eo H2.out).mono ?_
 rintro e w3 ⟨rfl,rfl⟩
 have r3:=R0.out _ C2.out
 have ct:=r3.c1
 rw [htv] at ct
 have K4:=hid (Uu r3 x hx)
 rw [hs] at K4
 rw [ht] at ct
 have R3:=hid r3
 clear r3 R0 htv
 go_wp2_with fail
 refine K4.out.mono ?_
 rintro e w4 ⟨rfl,b4⟩
 have r4:=(R3.out.below b4).newD (D':=D) (λk hk _=>h0 k hk)
 have r5:=r4.below (w':=w4.drew) (Qi _ _)
 obtain ⟨W,hmu,r6,c6⟩:=r5.share x hx hs 1 hl
 have lb6:=Qd r6.sh
 have cs0:=r5.c0
 have cs2:=r5.c2
 have cs2':=r6.c2
 have cf2:=r6.free 2
 obtain ⟨r7,c7⟩:=r6.cellsTo (st.cells+1)
 have hwr:wrap64 (st.cells+1)=st.cells+1:=yao
 have R7:=hid r7
 have C7:=hid ((((C2.out.trans (Chg.of_below b4)).drew.mono (M':=λk _=>D k) (λk i _ e=>e.1▸hDl)).trans c6).trans c7)
 clear r4 r5 r6 r7 c6 c7 b4 R3 K4 C2
 go_wp2_with fail
 go_region
 all_goals
  go_wp2
  go_end0
  exact ⟨rfl,R7.out,C7.out⟩
theorem zrm{u2:ByteArray}(hL:LineAt w bl n bw ws)(hz:SzOk ws)(hE:Hid (Env w))(hbl:10<=bl)(hv:gNm ws=some (x,u::us))(hv2:gIn 1 6 (u::us)=some (c,(u2::us2))):Cl 54 #[ptr br,ptr bl] w λe w'=>Fails 2 n bl w e w':=by
 have K:=hid (Fa hL hz hv)
 have hz1:=Ya hv hz
 clear hL
 go_enter Tryz.func54,Tryz.ntmps54
 go_wp2_with fail
 refine K.out.mono ?_
 rintro e w1 ⟨rfl,h1,c1⟩
 have K2:=hid (zqf h1 (hE.out.line c1 hbl) hbl hz1 hv2)
 have C1:=hid c1
 obtain ⟨o,cap,hs1⟩:=h1.more
 simp only [List.length_cons] at hs1
 clear h1 c1 K
 go_wp2_with (first|(go_at_call 76;go_in)|fail)
 refine K2.out.mono ?_
 rintro e w2 ⟨rfl,h2,c2⟩
 have H2:=hid h2
 have C2:=hid (C1.out.trans c2)
 clear h2 c2 C1 K2 hs1
 go_wp2_with (fail)
 refine (zc0 H2.out).mono ?_
 intro e w3 h3
 obtain ⟨bf,rfl,h4⟩:=Fails.after h3 C2.out
 exact ⟨rfl,bf,rfl,h4⟩
theorem zj9(h:RMach D0 lab w br sb bs tv ov st ms)(hn: ¬D0 bl)(hL:LineAt w bl n bw ws)(hz:SzOk ws)(hE:Hid (Env w))(hbl:10<=bl)(hv:gNm ws=some (x,u::us))(hv2:gIn 1 6 (u::us)=some (c,[]))(ht:0<st.threads.length):Cl 54 #[ptr br,ptr bl] w λe w'=>Fails 3 n bl w e w':=by
 obtain ⟨ta,tk,htv⟩:=h.threadS
 have R0:=hid (λW (hc:Chg (Jo bl) w W)=>h.keep hc (λk i hk e=>hn (e.1▸hk)))
 clear h
 have K:=hid (Fa hL hz hv)
 have hz1:=Ya hv hz
 clear hL
 go_enter Tryz.func54,Tryz.ntmps54
 go_wp2_with fail
 refine K.out.mono ?_
 rintro e w1 ⟨rfl,h1,c1⟩
 have K2:=hid (zqf h1 (hE.out.line c1 hbl) hbl hz1 hv2)
 have C1:=hid c1
 obtain ⟨o,cap,hs1⟩:=h1.more
 simp only [List.length_cons] at hs1
 clear h1 c1 K
 go_wp2_with (first|(go_at_call 76;go_in)|fail)
 refine K2.out.mono ?_
 rintro e w2 ⟨rfl,h2,c2⟩
 have H2:=hid h2
 have C2:=hid (C1.out.trans c2)
 clear h2 c2 C1 K2 hs1
 go_wp2_with (fail)
 refine (Eo H2.out).mono ?_
 rintro e w3 ⟨rfl,rfl⟩
 have r3:=R0.out _ C2.out
 have ct:=r3.c1
 rw [htv] at ct
 have ht':0<(st.threads.length:Int):=yai
 clear r3 R0 htv
 go_wp2_with fail
 refine (Jv H2.out 3).mono ?_
 intro e w4 h3
 obtain ⟨bf,rfl,h4⟩:=Fails.after h3 C2.out
 exact ⟨rfl,bf,rfl,h4⟩
theorem zoh(h:RMach D0 lab w br sb bs tv ov st ms)(hn: ¬D0 bl)(hL:LineAt w bl n bw ws)(hz:SzOk ws)(hE:Hid (Env w))(hbl:10<=bl)(hv:gNm ws=some (x,u::us))(hv2:gIn 1 6 (u::us)=some (c,[]))(ht:st.threads.length=0)(hx:x.size<=maxLen)(hs:st.isSh x=true):Cl 54 #[ptr br,ptr bl] w λe w'=>Fails 4 n bl w e w':=by
 obtain ⟨ta,tk,htv⟩:=h.threadS
 have R0:=hid (λW (hc:Chg (Jo bl) w W)=>h.keep hc (λk i hk e=>hn (e.1▸hk)))
 clear h
 have K:=hid (Fa hL hz hv)
 have hz1:=Ya hv hz
 clear hL
 go_enter Tryz.func54,Tryz.ntmps54
 go_wp2_with fail
 refine K.out.mono ?_
 rintro e w1 ⟨rfl,h1,c1⟩
 have K2:=hid (zqf h1 (hE.out.line c1 hbl) hbl hz1 hv2)
 have C1:=hid c1
 obtain ⟨o,cap,hs1⟩:=h1.more
 simp only [List.length_cons] at hs1
 clear h1 c1 K
 go_wp2_with (first|(go_at_call 76;go_in)|fail)
 refine K2.out.mono ?_
 rintro e w2 ⟨rfl,h2,c2⟩
 have H2:=hid h2
 have C2:=hid (C1.out.trans c2)
 clear h2 c2 C1 K2 hs1
 go_wp2_with (fail)
 refine (Eo H2.out).mono ?_
 rintro e w3 ⟨rfl,rfl⟩
 have r3:=R0.out _ C2.out
 have ct:=r3.c1
 rw [htv] at ct
 have K4:=hid (Uu r3 x hx)
 rw [hs] at K4
 rw [ht] at ct
 have R3:=hid r3
 clear r3 R0 htv
 go_wp2_with fail
 refine K4.out.mono ?_
 rintro e w4 ⟨rfl,b4⟩
 have H4:=hid (H2.out.below b4)
 have C4:=hid (C2.out.trans (Chg.of_below b4))
 clear b4 R3 K4 C2
 go_wp2_with fail
 refine (Jv H4.out 4).mono ?_
 intro e w5 h3
 obtain ⟨bf,rfl,h4⟩:=Fails.after h3 C4.out
 exact ⟨rfl,bf,rfl,h4⟩
theorem zv6(h:RMach D0 lab w br sb bs tv ov st ms)(hn: ¬D0 bl)(hL:LineAt w bl n bw ws)(hz:SzOk ws)(hE:Hid (Env w))(hbl:10<=bl)(hv:gNm ws=some (x,u::us))(hv2:gIn 1 6 (u::us)=some (c,[]))(ht:st.threads.length=0)(hx:x.size<=maxLen)(hs:st.isSh x=false)(h0: ∀k,D0 k->D k)(hDl:D bl)(hl:st.shared.length<1000000)(hc:0<=st.cells/\st.cells<10000000)(hc6:1<=c/\c<=6):Cl 54 #[ptr br,ptr bl] w λe w'=>e= .returned (.tuple #[])/\RMach D lab w' br sb bs tv ov {st with shared:=st.shared++[(x,st.cells,c)],cells:=st.cells+c} ms/\Chg (λk _=>D k) w w':=by
 obtain ⟨ta,tk,htv⟩:=h.threadS
 have R0:=hid (λW (hc:Chg (Jo bl) w W)=>h.keep hc (λk i hk e=>hn (e.1▸hk)))
 clear h
 have K:=hid (Fa hL hz hv)
 have hz1:=Ya hv hz
 clear hL
 go_enter Tryz.func54,Tryz.ntmps54
 go_wp2_with fail
 refine K.out.mono ?_
 rintro e w1 ⟨rfl,h1,c1⟩
 have K2:=hid (zqf h1 (hE.out.line c1 hbl) hbl hz1 hv2)
 have C1:=hid c1
 obtain ⟨o,cap,hs1⟩:=h1.more
 simp only [List.length_cons] at hs1
 clear h1 c1 K
 go_wp2_with (first|(go_at_call 76;go_in)|fail)
 refine K2.out.mono ?_
 rintro e w2 ⟨rfl,h2,c2⟩
 have H2:=hid h2
 have C2:=hid (C1.out.trans c2)
 clear h2 c2 C1 K2 hs1
 go_wp2_with (fail)
 refine (Eo H2.out).mono ?_
 rintro e w3 ⟨rfl,rfl⟩
 have r3:=R0.out _ C2.out
 have ct:=r3.c1
 rw [htv] at ct
 have K4:=hid (Uu r3 x hx)
 rw [hs] at K4
 rw [ht] at ct
 have R3:=hid r3
 clear r3 R0 htv
 go_wp2_with fail
 refine K4.out.mono ?_
 rintro e w4 ⟨rfl,b4⟩
 have r4:=(R3.out.below b4).newD (D':=D) (λk hk _=>h0 k hk)
 have r5:=r4.below (w':=w4.drew) (Qi _ _)
 obtain ⟨W,hmu,r6,c6⟩:=r5.share x hx hs c hl
 have lb6:=Qd r6.sh
 have cs0:=r5.c0
 have cs2:=r5.c2
 have cs2':=r6.c2
 have cf2:=r6.free 2
 obtain ⟨r7,c7⟩:=r6.cellsTo (st.cells+c)
 have hwr:wrap64 (st.cells+c)=st.cells+c:=yao
 have R7:=hid r7
 have C7:=hid ((((C2.out.trans (Chg.of_below b4)).drew.mono (M':=λk _=>D k) (λk i _ e=>e.1▸hDl)).trans c6).trans c7)
 clear r4 r5 r6 r7 c6 c7 b4 R3 K4 C2
 go_wp2_with fail
 go_region
 all_goals
  go_wp2
  go_end0
  exact ⟨rfl,R7.out,C7.out⟩
end
def RS.setK(st:RS)(t:Nat)(k:HK):RS:=match st.hs[t]? with
 |some h=>{st with hs:=st.hs.set t ⟨k,h.ents⟩}
 |none=>st
def RS.addE(st:RS)(o:Nat)(e:En):RS:=match st.hs[o]? with
 |some h=>{st with hs:=st.hs.set o ⟨h.k,h.ents++[e]⟩}
 |none=>st
def RS.newH(st:RS)(s:St):RS:={st with hs:=st.hs++[⟨.st s,[]⟩]}
theorem zv7(b:Nat)(w:World):(method 443 109 (ptr b) "commits/program.add").run Tryz.prog w= .ok (208,ptr b) w:=yak
theorem zv8(b:Nat)(w:World):(method 443 171 (ptr b) "commits/program.add").run Tryz.prog w= .ok (208,ptr b) w:=yak
theorem z6k(b:Nat)(w:World):(method 443 212 (ptr b) "commits/program.add").run Tryz.prog w= .ok (208,ptr b) w:=yak
theorem z3d(b:Nat)(w:World):(method 443 215 (ptr b) "commits/program.add").run Tryz.prog w= .ok (208,ptr b) w:=yak
theorem zv9(b:Nat)(w:World):(nilAhead 443 109 (ptr b) "commits/program.add").run Tryz.prog w= .ok (some false) w:=yak
theorem zwa(b:Nat)(w:World):(nilAhead 443 171 (ptr b) "commits/program.add").run Tryz.prog w= .ok (some false) w:=yak
theorem z6l(b:Nat)(w:World):(nilAhead 443 212 (ptr b) "commits/program.add").run Tryz.prog w= .ok (some false) w:=yak
theorem z3e(b:Nat)(w:World):(nilAhead 443 215 (ptr b) "commits/program.add").run Tryz.prog w= .ok (some false) w:=yak
theorem zmc{k:HK}(h:zhr k)(b:Nat):(∀w,(method 443 (hkT k) (ptr b) "commits/program.add").run Tryz.prog w= .ok (208,ptr b) w)/\ ∀w,(nilAhead 443 (hkT k) (ptr b) "commits/program.add").run Tryz.prog w= .ok (some false) w:=by
 rcases k with ⟨l,c⟩|⟨to,a⟩|⟨to,k,a,c⟩|⟨to,f,a⟩|⟨f,a,c⟩|a|⟨⟩|a|n
 ·exact ⟨zv7 b,zv9 b⟩
 ·exact h.elim
 ·exact h.elim
 ·exact h.elim
 ·exact h.elim
 ·exact h.elim
 ·exact ⟨zv8 b,zwa b⟩
 ·exact ⟨z6k b,z6l b⟩
 ·exact ⟨z3d b,z3e b⟩
section
variable{D D0:Nat->Prop}{lab:Nat->Nat×Nat}{w:World}{br sb bs bl bw:Nat}{n:Int}{ws:List ByteArray}{tv ov:Value}{st:RS}{ms:List HM}
theorem RMach.setK_eq(h:RMach D lab w br sb bs tv ov st ms)(t:Nat)(ht:t<ms.length)(k:HK):st.setK t k={st with hs:=st.hs.set t ⟨k,ms[t].h.ents⟩}:=by
 unfold RS.setK
 rw [h.hsAt t ht]
theorem RMach.addE_eq(h:RMach D lab w br sb bs tv ov st ms)(t:Nat)(ht:t<ms.length)(e:En):st.addE t e={st with hs:=st.hs.set t ⟨ms[t].h.k,ms[t].h.ents++[e]⟩}:=by
 unfold RS.addE
 rw [h.hsAt t ht]
structure Lays(st:RS)(ms:List HM)(tl ol:List Nat)(t o:Nat)(l:List ByteArray)(c:Nat):Prop where
 opn:st.opnOk
 ent:st.entOk
 ht:st.threads=tl++[t]
 htl:t<ms.length
 hn:tl.length<1000000
 hk:(ms[t]'htl).h.k= .thr l c
 ho:st.opn=ol++[o]
 hol:o<ms.length
 hc:c<=14
 hl:l.length<=4
 hents: ∀h∈st.hs,h.ents.length<900
theorem zoi(h:RMach D0 lab w br sb bs tv ov st ms)(hL:LineAt w bl n bw ws)(ho:st.opnOk)(s:St)(b:Nat)(hmay:st.mayStand s=false):
  Cl 59 #[ptr br,ptr bl,Vk s b] w λe w'=>Fails 3 n bl w e w':=by
 have K:=hid (Xm h ho s b)
 rw [hmay] at K
 have H:=hid hL
 clear h hL
 generalize Vk s b=v at*
 go_enter Tryz.func59,Tryz.ntmps59
 go_wp2_with fail
 refine K.out.mono ?_
 rintro e w1 ⟨rfl,rfl⟩
 go_wp2_with fail
 refine (Jv H.out 3).mono ?_
 rintro e w1 ⟨bf,rfl,h1⟩
 exact ⟨rfl,bf,rfl,h1⟩
theorem zrn(h:RMach D0 lab w br sb bs tv ov st ms)(hL:LineAt w bl n bw ws)(hy:Lays st ms tl ol t o l c)(s:St)(b:Nat)(hS:StB w s b)(hz:zl9 s)(h2:(Qj s).length<=2)(hmay:st.mayStand s=true)(hnm:st.mayName l s=false):
  Cl 59 #[ptr br,ptr bl,Vk s b] w λe w'=>Fails 4 n bl w e w':=by
 have K:=hid (Xm h hy.opn s b)
 rw [hmay] at K
 have K2:=hid (Fp h tl t hy.ht hy.htl hy.hn l c hy.hk s b hS hz h2)
 rw [hnm] at K2
 have H:=hid hL
 clear h hL
 generalize Vk s b=v at*
 go_enter Tryz.func59,Tryz.ntmps59
 go_wp2_with fail
 refine K.out.mono ?_
 rintro e w1 ⟨rfl,rfl⟩
 go_wp2_with fail
 refine K2.out.mono ?_
 rintro e w2 ⟨rfl,b2⟩
 have B2:=hid b2
 clear b2
 go_wp2_with fail
 refine (Jv (H.out.below B2.out) 4).mono ?_
 intro e w3 h3
 obtain ⟨bf,rfl,h4⟩:=h3.after (Chg.of_below B2.out)
 exact ⟨rfl,bf,rfl,h4⟩
theorem zro(h:RMach D0 lab w br sb bs tv ov st ms)(hL:LineAt w bl n bw ws)(hy:Lays st ms tl ol t o l c)(s:St)(b:Nat)(hS:StB w s b)(hz:zl9 s)(h2:(Qj s).length<=2)(hmay:st.mayStand s=true)(hnm:st.mayName l s=true)(hrm:st.hasRoom l c s=false):
  Cl 59 #[ptr br,ptr bl,Vk s b] w λe w'=>Fails 5 n bl w e w':=by
 have K:=hid (Xm h hy.opn s b)
 rw [hmay] at K
 have K2:=hid (Fp h tl t hy.ht hy.htl hy.hn l c hy.hk s b hS hz h2)
 rw [hnm] at K2
 have K3:=hid (λW (hW:Below w.heap.size w W)=>Oj (h.below hW) hy.opn tl t hy.ht hy.htl hy.hn l c hy.hk s b hz)
 rw [hrm] at K3
 have H:=hid hL
 clear h hL
 generalize Vk s b=v at*
 go_enter Tryz.func59,Tryz.ntmps59
 go_wp2_with fail
 refine K.out.mono ?_
 rintro e w1 ⟨rfl,rfl⟩
 go_wp2_with fail
 refine K2.out.mono ?_
 rintro e w2 ⟨rfl,b2⟩
 have B2:=hid b2
 clear b2
 go_wp2_with fail
 refine (K3.out w2 B2.out).mono ?_
 rintro e w3 ⟨rfl,b3⟩
 have B3:=hid (B2.out.trans (b3.mono B2.out.size))
 clear b3
 go_wp2_with fail
 refine (Jv (H.out.below B3.out) 5).mono ?_
 intro e w4 h4
 obtain ⟨bf,rfl,h5⟩:=h4.after (Chg.of_below B3.out)
 exact ⟨rfl,bf,rfl,h5⟩
end
def RS.lastT(st:RS):Option (Nat×List ByteArray×Nat):=match st.threads.getLast? with
 |none=>none
 |some t=>match st.hk t with
  |some (.inl (l,c))=>some (t,l,c)
  |_=>none
def RS.lay(st:RS)(t o:Nat)(l:List ByteArray)(c:Nat)(s:St):RS:=
 if Qf s=true then {(((st.newH s).setK t (.thr l (c+1))).addE o (.sub st.hs.length)) with opn:=st.opn++[st.hs.length]}
 else if (Vg s).toList.isEmpty=false/\Uh l (Vg s)=false then ((st.setK t (.thr l (c+1))).setK t (.thr (l++[Vg s]) (c+1))).addE o (.leaf s)
 else (st.setK t (.thr l (c+1))).addE o (.leaf s)
def gSt(st:RS)(s:St):Except Int RS:=
 if st.mayStand s=false then .error 3 else match st.lastT,st.opn.getLast? with
 |some (t,l,c),some o=>if st.mayName l s=false then .error 4 else if st.hasRoom l c s=false then .error 5 else .ok (st.lay t o l c s)
 |_,_=> .error 3
def Qy:ByteArray:=⟨#[115,104,97,114,101,100]⟩
def Qt:ByteArray:=⟨#[116,104,114,101,97,100]⟩
def Zd:ByteArray:=⟨#[101,110,100]⟩
def Iq(st:RS)(ws:List ByteArray):Except Int RS:=match gNm ws with
 |none=> .error 2
 |some (x,[])=>if 0<st.threads.length then .error 3 else if st.isSh x=true then .error 4 else .ok {st with shared:=st.shared++[(x,st.cells,1)],cells:=st.cells+1}
 |some (x,u::us)=>match gIn 1 6 (u::us) with
  |some (c,[])=>if 0<st.threads.length then .error 3 else if st.isSh x=true then .error 4 else .ok {st with shared:=st.shared++[(x,st.cells,c)],cells:=st.cells+c}
  |_=> .error 2
def Ef(st:RS)(ws:List ByteArray):Except Int RS:=match ws with
 |[]=>if 1<st.opn.length then .error 3 else .ok st.newT
 |_=> .error 2
def zwb(st:RS)(ws:List ByteArray):Except Int RS:=match ws with
 |[]=>if st.opn.length<2 then .error 3 else .ok {st with opn:=st.opn.dropLast}
 |_=> .error 2
def Vq(st:RS)(ws:List ByteArray):Except Int RS:=match ws with
 |[]=> .error 2
 |u::us=>if u=Qy then Iq st us else if u=Qt then Ef st us else if u=Zd then zwb st us else match Zs u us with
  |some (s,[])=>gSt st s
  |_=> .error 2
structure RS.Ok(st:RS)(k:Nat):Prop where
 opn:st.opnOk
 ent:st.entOk
 thr: ∀t∈st.threads,∃l c,st.hk t=some (.thr l c)/\c<=14/\l.length<=4
 ne:st.opn≠[]->st.threads≠[]
 tn:st.threads.length<=k
 sn:st.shared.length<=k
 cn:0<=st.cells/\st.cells<=6*k
 e14: ∀(j:Nat) (h:Hd),st.hs[j]?=some h->h.ents.length<=14
 eo: ∀o∈st.opn,∀h:Hd,st.hs[o]?=some h->∀t l c,st.lastT=some (t,l,c)->h.ents.length<=c
def Zv(t o:Nat)(k:HK)(e:En)(j:Nat)(h:Hd):Hd:=⟨if j=t then k else h.k,if j=o then h.ents++[e] else h.ents⟩
section
variable{st st':RS}{k t o:Nat}{l l':List ByteArray}{c:Nat}{s:St}
theorem zmd(t:Nat)(q:HK)(j:Nat):(st.setK t q).hs[j]?=(st.hs[j]?).map λh=>⟨if j=t then q else h.k,h.ents⟩:=by
 unfold RS.setK
 cases h:st.hs[t]? with
 |none=>
  by_cases e:j=t
  ·subst e;simp [h]
  ·simp [e]
 |some x=>
  by_cases e:j=t
  ·subst e
   obtain ⟨this,rfl⟩:=List.getElem?_eq_some_iff.1 h
   simp [this]
  ·have e':t≠j:=λq=>e q.symm
   simp [e,List.getElem?_set_ne e']
theorem zwc(o:Nat)(e:En)(j:Nat):(st.addE o e).hs[j]?=(st.hs[j]?).map λh=>⟨h.k,if j=o then h.ents++[e] else h.ents⟩:=by
 unfold RS.addE
 cases h:st.hs[o]? with
 |none=>
  by_cases e:j=o
  ·subst e;simp [h]
  ·simp [e]
 |some x=>
  by_cases e:j=o
  ·subst e
   obtain ⟨this,rfl⟩:=List.getElem?_eq_some_iff.1 h
   simp [this]
  ·have e':o≠j:=λq=>e q.symm
   simp [e,List.getElem?_set_ne e']
theorem Xu(t:Nat)(q:HK):(st.setK t q).shared=st.shared/\(st.setK t q).cells=st.cells/\(st.setK t q).threads=st.threads/\(st.setK t q).opn=st.opn:=by
 unfold RS.setK
 split<;>exact ⟨rfl,rfl,rfl,rfl⟩
theorem zas(o:Nat)(e:En):(st.addE o e).shared=st.shared/\(st.addE o e).cells=st.cells/\(st.addE o e).threads=st.threads/\(st.addE o e).opn=st.opn:=by
 unfold RS.addE
 split<;>exact ⟨rfl,rfl,rfl,rfl⟩
theorem Us(h:st.lastT=some (t,l,c)): ∃tl,st.threads=tl++[t]/\st.hk t=some (.thr l c):=by
 unfold RS.lastT at h
 cases hg:st.threads.getLast? with
 |none=>simp [hg] at h
 |some t'=>
  rw [hg] at h
  simp only at h
  cases hk:st.hk t' with
  |none=>simp [hk] at h
  |some q=>
   rw [hk] at h
   rcases q with ⟨l',c'⟩|q
   ·simp only [Option.some.injEq,Prod.mk.injEq] at h
    obtain ⟨rfl,rfl,rfl⟩:=h
    obtain ⟨tl,htl⟩:=List.getLast?_eq_some_iff.1 hg
    exact ⟨tl,htl,hk⟩
   ·simp at h
theorem zc4(h:st.threads=tl++[t])(hk:st.hk t=some (.thr l c)):st.lastT=some (t,l,c):=by
 unfold RS.lastT
 rw [h]
 simp [hk]
theorem zwd(h:st.Ok k)(hne:st.threads≠[]): ∃t l c tl,st.lastT=some (t,l,c)/\st.threads=tl++[t]/\st.hk t=some (.thr l c)/\c<=14/\l.length<=4:=by
 obtain ⟨tl,t,e⟩: ∃tl t,st.threads=tl++[t]:=⟨_,_,(List.dropLast_concat_getLast hne).symm⟩
 obtain ⟨l,c,h1,h2,h3⟩:=h.thr t ybl
 exact ⟨t,l,c,tl,zc4 e h1,e,h1,h2,h3⟩
theorem Yy{q:HK}(h:st.hk j=some q): ∃x,st.hs[j]?=some x/\x.k=q:=by
 unfold RS.hk at h
 cases hx:st.hs[j]? with
 |none=>simp [hx] at h
 |some x=>exact ⟨x,rfl,by simpa [hx] using h⟩
theorem Ok.upd(h:st.Ok k)(hl:st.lastT=some (t,l,c))(ho:o∈st.opn)(hc:c<14)(hl':l'.length<=4)(e:En)(he: ∀j,e= .inr j->j<st.hs.length)
  (hsame:st'.shared=st.shared/\st'.cells=st.cells/\st'.threads=st.threads/\st'.opn=st.opn) (hget: ∀j,st'.hs[j]?=(st.hs[j]?).map (Zv t o (.thr l' (c+1)) e j)):st'.Ok k/\st'.lastT=some (t,l',c+1)/\st'.hs.length=st.hs.length:=by
 obtain ⟨s1,s2,s3,s4⟩:=hsame
 obtain ⟨tl,ht,hkt⟩:=Us hl
 have hlen:st'.hs.length=st.hs.length:=by
  apply Nat.le_antisymm
  ·apply Nat.le_of_not_lt
   intro hlt
   have:=hget st.hs.length
   rw [List.getElem?_eq_none (Nat.le_refl _)] at this
   rw [List.getElem?_eq_getElem hlt] at this
   simp at this
  ·apply Nat.le_of_not_lt
   intro hlt
   have:=hget st'.hs.length
   rw [List.getElem?_eq_none (Nat.le_refl _),List.getElem?_eq_getElem hlt] at this
   simp at this
 have hkj: ∀j,st'.hk j=(st.hk j).map λq=>if j=t then .thr l' (c+1) else q:=z97
 have hkt':st'.hk t=some (.thr l' (c+1)):=by rw [hkj,hkt];simp
 have hlt':st'.lastT=some (t,l',c+1):=zc4 (s3.trans ht) hkt'
 have hinv: ∀(j:Nat) (x:Hd),st'.hs[j]?=some x->∃y,st.hs[j]?=some y/\x=Zv t o (.thr l' (c+1)) e j y:=z8c
 refine ⟨{opn:=⟨by rw [s4];exact h.opn.1,?_⟩,ent:=⟨?_,?_,?_⟩,thr:=?_,ne:=by rw [s3,s4];exact h.ne,tn:=by rw [s3];exact h.tn,sn:=by rw [s1];exact h.sn,cn:=by rw [s2];exact h.cn,e14:=?_,eo:=?_},hlt',hlen⟩
 ·intro j hj
  rw [s4] at hj
  obtain ⟨y,hy,hok⟩:=h.opn.2 j hj
  refine ⟨Zv t o (.thr l' (c+1)) e j y,by rw [hget,hy];rfl,?_⟩
  unfold Zv
  by_cases e1:j=t
  ·simp only [e1,if_true];trivial
  ·simp only [e1,if_false];exact hok
 ·intro x hx i hi
  rw [hlen]
  obtain ⟨j,hj⟩:=List.mem_iff_getElem?.1 hx
  obtain ⟨y,hy,rfl⟩:=hinv j x hj
  have hy':y∈st.hs:=List.mem_iff_getElem?.2 ⟨j,hy⟩
  unfold Zv at hi
  simp only at hi
  by_cases e1:j=o
  ·rw [if_pos e1,List.mem_append] at hi
   rcases hi with hi|hi
   ·exact h.ent.1 y hy' i hi
   ·simp at hi
    exact he i hi.symm
  ·rw [if_neg e1] at hi
   exact h.ent.1 y hy' i hi
 ·rw [s3,hlen];exact h.ent.2.1
 ·rw [s4,hlen];exact h.ent.2.2
 ·intro j hj
  rw [s3] at hj
  obtain ⟨l0,c0,h1,h2,h3⟩:=h.thr j hj
  by_cases e1:j=t
  ·subst e1
   exact ⟨l',c+1,hkt',by omega,hl'⟩
  ·refine ⟨l0,c0,?_,h2,h3⟩
   rw [hkj,h1]
   simp [e1]
 ·intro j x hx
  obtain ⟨y,hy,rfl⟩:=hinv j x hx
  unfold Zv
  simp only
  by_cases e1:j=o
  ·subst e1
   have:=h.eo j ho y hy t l c hl
   rw [if_pos rfl]
   simp
   omega
  ·rw [if_neg e1];exact h.e14 j y hy
 ·intro j hj x hx t2 l2 c2 h2
  rw [hlt'] at h2
  simp only [Option.some.injEq,Prod.mk.injEq] at h2
  obtain ⟨_,_,rfl⟩:=h2
  rw [s4] at hj
  obtain ⟨y,hy,rfl⟩:=hinv j x hx
  have:=h.eo j hj y hy t l c hl
  unfold Zv
  simp only
  by_cases e1:j=o
  ·rw [if_pos e1];simp;omega
  ·rw [if_neg e1];omega
theorem Ok.newH(h:st.Ok k)(s:St):(st.newH s).Ok k/\(st.newH s).lastT=st.lastT:=by
 have old: ∀j,j<st.hs.length->(st.newH s).hs[j]?=st.hs[j]?:=λj hj=>List.getElem?_append_left hj
 have hko: ∀j,j<st.hs.length->(st.newH s).hk j=st.hk j:=λj hj=>by unfold RS.hk;rw [old j hj]
 have hlt:(st.newH s).lastT=st.lastT:=by
  unfold RS.lastT
  show (match st.threads.getLast? with|none=>none|some t=>_)=_
  cases hg:st.threads.getLast? with
  |none=>rfl
  |some t=>
   have ht:t∈st.threads:=List.mem_of_getLast? hg
   simp only
   rw [hko t (h.ent.2.1 t ht)]
 have hinv: ∀(j:Nat) (x:Hd),(st.newH s).hs[j]?=some x->st.hs[j]?=some x\/x=⟨.st s,[]⟩:=by
  intro j x hx
  by_cases e:j<st.hs.length
  ·left;rw [<-old j e];exact hx
  ·right
   have:(st.hs++[⟨.st s,[]⟩])[j]?=some x:=hx
   rw [List.getElem?_append_right yai] at this
   have hj:j- st.hs.length=0:=by
    apply Nat.eq_zero_of_not_pos
    intro hp
    rw [List.getElem?_eq_none yan] at this
    simp at this
   rw [hj] at this
   simpa using this.symm
 have hlen:(st.newH s).hs.length=st.hs.length+1:=ybm
 refine ⟨{opn:=⟨h.opn.1,λj hj=>?_⟩,ent:=⟨?_,?_,?_⟩,thr:=?_,ne:=h.ne,tn:=h.tn,sn:=h.sn,cn:=h.cn,e14:=?_,eo:=?_},hlt⟩
 ·obtain ⟨y,hy,hok⟩:=h.opn.2 j hj
  exact ⟨y,by rw [old j (h.ent.2.2 j hj)];exact hy,hok⟩
 ·exact z83
 ·intro j hj;rw [hlen];have:=h.ent.2.1 j hj;omega
 ·intro j hj;rw [hlen];have:=h.ent.2.2 j hj;omega
 ·intro t ht
  obtain ⟨l,c,h1,h2⟩:=h.thr t ht
  exact ⟨l,c,by rw [hko t (h.ent.2.1 t ht)];exact h1,h2⟩
 ·intro j x hx
  rcases hinv j x hx with q|rfl
  ·exact h.e14 j x q
  ·simp
 ·intro j hj x hx t l c h2
  rw [hlt] at h2
  rw [old j (h.ent.2.2 j hj)] at hx
  exact h.eo j hj x hx t l c h2
theorem Ok.pushO(h:st.Ok k)(x:Nat)(y:Hd)(hy:st.hs[x]?=some y)(hok:zhr y.k)(he:y.ents=[])(h3:st.opn.length<=3)(hne:st.threads≠[]):RS.Ok {st with opn:=st.opn++[x]} k:=by
 have hx:x<st.hs.length:=(List.getElem?_eq_some_iff.1 hy).1
 refine {opn:=⟨by simp;omega,λj hj=>?_⟩,ent:=⟨h.ent.1,h.ent.2.1,λj hj=>?_⟩,thr:=h.thr,ne:=λ_=>hne,tn:=h.tn,sn:=h.sn,cn:=h.cn,e14:=h.e14,eo:=λj hj z hz t l c hl=>?_}
 ·rcases List.mem_append.1 hj with hj|hj
  ·exact h.opn.2 j hj
  ·simp at hj;subst hj;exact ⟨y,hy,hok⟩
 ·rcases List.mem_append.1 hj with hj|hj
  ·exact h.ent.2.2 j hj
  ·simp at hj;subst hj;exact hx
 ·rcases List.mem_append.1 hj with hj|hj
  ·exact h.eo j hj z hz t l c hl
  ·simp at hj;subst hj
   have:z=y:=by simpa using (show some z=some y from hz.symm.trans hy)
   rw [this,he]
   simp
end
section
variable{st st':RS}{k t o:Nat}{l l':List ByteArray}{c:Nat}{s:St}
theorem Ok.mono{k':Nat}(h:st.Ok k)(hk:k<=k'):st.Ok k':={opn:=h.opn,ent:=h.ent,thr:=h.thr,ne:=h.ne,tn:=Nat.le_trans h.tn hk,sn:=Nat.le_trans h.sn hk,cn:=⟨h.cn.1,by have:=h.cn.2;omega⟩,e14:=h.e14,eo:=h.eo}
theorem Vx(st:RS)(t o:Nat)(q:HK)(e:En)(j:Nat):((st.setK t q).addE o e).hs[j]?=(st.hs[j]?).map (Zv t o q e j):=by
 rw [zwc,zmd,Option.map_map]
 rfl
theorem Ol(st:RS)(t o:Nat)(q1 q:HK)(e:En)(j:Nat):(((st.setK t q1).setK t q).addE o e).hs[j]?=(st.hs[j]?).map (Zv t o q e j):=by
 rw [Vx,zmd,Option.map_map]
 congr 1
 funext h
 unfold Zv
 simp only [Function.comp_apply]
 by_cases e1:j=t
 ·simp [e1]
 ·simp [e1]
theorem Om(h:st.hasRoom l c s=true):c≠14/\((Vg s).toList.isEmpty=false->Uh l (Vg s)=false->l.length≠4)/\(Qf s=true->st.opn.length<=3):=by
 unfold RS.hasRoom at h
 simp only [Bool.and_eq_true,Bool.not_eq_true',decide_eq_false_iff_not,Bool.or_eq_true,decide_eq_true_eq] at h
 refine ⟨h.1,λh1 h2 h3=>?_,λh1=>?_⟩
 ·have:=h.2.1
  simp [h1,h2,h3] at this
 ·rcases h.2.2 with q|q
  ·rw [h1] at q;simp at q
  ·exact q
theorem zoj(h:Qf s=true):zhr (.st s):=by
 rcases s with ⟨to,a⟩|⟨to,k,a,c⟩|⟨to,f,a⟩|⟨f,a,c⟩|a|⟨⟩|a|n
 ·simp [Qf] at h
 ·simp [Qf] at h
 ·simp [Qf] at h
 ·simp [Qf] at h
 ·simp [Qf] at h
 ·trivial
 ·trivial
 ·trivial
theorem Ok.lay(h:st.Ok k)(hl:st.lastT=some (t,l,c))(ho:st.opn=ol++[o])(hr:st.hasRoom l c s=true):(st.lay t o l c s).Ok k:=by
 obtain ⟨r1,r2,r3⟩:=Om hr
 obtain ⟨tl,htl,hkt⟩:=Us hl
 obtain ⟨l0,c0,q1,q2,q3⟩:=h.thr t ybn
 obtain ⟨rfl,rfl⟩:l=l0/\c=c0:=by
  have:=hkt.symm.trans q1
  simpa using this
 have hom:o∈st.opn:=yas
 have hc:c<14:=yai
 have htlt:t<st.hs.length:=h.ent.2.1 t ybn
 have holt:o<st.hs.length:=h.ent.2.2 o hom
 unfold RS.lay
 split
 ·rename_i hh
  obtain ⟨n1,n2⟩:=Ok.newH h s
  have hsm:(((st.newH s).setK t (.thr l (c+1))).addE o (.sub st.hs.length)).shared=st.shared/\(((st.newH s).setK t (.thr l (c+1))).addE o (.sub st.hs.length)).cells=st.cells/\(((st.newH s).setK t (.thr l (c+1))).addE o (.sub st.hs.length)).threads=st.threads/\(((st.newH s).setK t (.thr l (c+1))).addE o (.sub st.hs.length)).opn=st.opn:=by
   obtain ⟨a1,a2,a3,a4⟩:=zas (st:=(st.newH s).setK t (.thr l (c+1))) o (.sub st.hs.length)
   obtain ⟨b1,b2,b3,b4⟩:=Xu (st:=st.newH s) t (.thr l (c+1))
   exact ⟨a1.trans b1,a2.trans b2,a3.trans b3,a4.trans b4⟩
  obtain ⟨u1,u2,u3⟩:=Ok.upd n1 (n2.trans hl) (show o∈(st.newH s).opn from hom) hc q3 (.sub st.hs.length) (λj e=>by
   have:st.hs.length=j:=by simpa using e
   simp [RS.newH];omega) hsm (Vx _ _ _ _ _)
  have hx:(((st.newH s).setK t (.thr l (c+1))).addE o (.sub st.hs.length)).hs[st.hs.length]?=some ⟨.st s,[]⟩:=by
   rw [Vx]
   have:(st.newH s).hs[st.hs.length]?=some ⟨.st s,[]⟩:=ybm
   rw [this]
   have e1:st.hs.length≠t:=yai
   have e2:st.hs.length≠o:=yai
   simp [Zv,e1,e2]
  have:=Ok.pushO u1 st.hs.length _ hx (zoj hh) rfl (by rw [hsm.2.2.2];exact r3 hh) (by rw [hsm.2.2.1,htl];simp)
  rw [hsm.2.2.2] at this
  exact this
 ·split
  ·rename_i hn
   have hsm:(((st.setK t (.thr l (c+1))).setK t (.thr (l++[Vg s]) (c+1))).addE o (.leaf s)).shared=st.shared/\(((st.setK t (.thr l (c+1))).setK t (.thr (l++[Vg s]) (c+1))).addE o (.leaf s)).cells=st.cells/\(((st.setK t (.thr l (c+1))).setK t (.thr (l++[Vg s]) (c+1))).addE o (.leaf s)).threads=st.threads/\(((st.setK t (.thr l (c+1))).setK t (.thr (l++[Vg s]) (c+1))).addE o (.leaf s)).opn=st.opn:=by
    obtain ⟨a1,a2,a3,a4⟩:=zas (st:=(st.setK t (.thr l (c+1))).setK t (.thr (l++[Vg s]) (c+1))) o (.leaf s)
    obtain ⟨b1,b2,b3,b4⟩:=Xu (st:=st.setK t (.thr l (c+1))) t (.thr (l++[Vg s]) (c+1))
    obtain ⟨d1,d2,d3,d4⟩:=Xu (st:=st) t (.thr l (c+1))
    exact ⟨(a1.trans b1).trans d1,(a2.trans b2).trans d2,(a3.trans b3).trans d3,(a4.trans b4).trans d4⟩
   have:=r2 hn.1 hn.2
   exact (Ok.upd h hl hom hc (l':=l++[Vg s]) yan (.leaf s) (λj e=>by simp at e) hsm (Ol _ _ _ _ _ _)).1
  ·have hsm:((st.setK t (.thr l (c+1))).addE o (.leaf s)).shared=st.shared/\((st.setK t (.thr l (c+1))).addE o (.leaf s)).cells=st.cells/\((st.setK t (.thr l (c+1))).addE o (.leaf s)).threads=st.threads/\((st.setK t (.thr l (c+1))).addE o (.leaf s)).opn=st.opn:=by
    obtain ⟨a1,a2,a3,a4⟩:=zas (st:=st.setK t (.thr l (c+1))) o (.leaf s)
    obtain ⟨d1,d2,d3,d4⟩:=Xu (st:=st) t (.thr l (c+1))
    exact ⟨a1.trans d1,a2.trans d2,a3.trans d3,a4.trans d4⟩
   exact (Ok.upd h hl hom hc q3 (.leaf s) (λj e=>by simp at e) hsm (Vx _ _ _ _ _)).1
theorem Ok.newT(h:st.Ok k):st.newT.Ok (k+1):=by
 obtain ⟨n1,_⟩:=Ok.newH h St.atomic
 have old: ∀j,j<st.hs.length->st.newT.hs[j]?=st.hs[j]?:=λj hj=>List.getElem?_append_left hj
 have new:st.newT.hs[st.hs.length]?=some ⟨.thr [] 0,[]⟩:=by simp [RS.newT]
 have hlen:st.newT.hs.length=st.hs.length+1:=by simp [RS.newT]
 have hkn:st.newT.hk st.hs.length=some (.thr [] 0):=by unfold RS.hk;rw [new];rfl
 have hlt:st.newT.lastT=some (st.hs.length,[],0):=zc4 (tl:=st.threads) rfl hkn
 have hinv: ∀(j:Nat) (x:Hd),st.newT.hs[j]?=some x->st.hs[j]?=some x\/x=⟨.thr [] 0,[]⟩:=by
  intro j x hx
  by_cases e:j<st.hs.length
  ·left;rw [<-old j e];exact hx
  ·right
   have hj:=(List.getElem?_eq_some_iff.1 hx).1
   obtain rfl:j=st.hs.length:=yai
   rw [new] at hx
   simpa using hx.symm
 refine {opn:=⟨by simp [RS.newT],λj hj=>?_⟩,ent:=⟨?_,?_,?_⟩,thr:=?_,ne:=λ_=>by simp [RS.newT],tn:=by have:=h.tn;simp [RS.newT];omega,sn:=by have:=h.sn;simp [RS.newT];omega,cn:=⟨h.cn.1,by have:=h.cn.2;show st.cells<=_;omega⟩,e14:=?_,eo:=?_}
 ·have:j=st.hs.length:=by simpa [RS.newT] using hj
  subst this
  exact ⟨_,new,trivial⟩
 ·exact z83
 ·intro j hj
  rw [hlen]
  rcases List.mem_append.1 (show j∈st.threads++[st.hs.length] from hj) with hj|hj
  ·have:=h.ent.2.1 j hj;omega
  ·simp at hj;omega
 ·intro j hj
  rw [hlen]
  have:j=st.hs.length:=ycw
  omega
 ·intro j hj
  rcases List.mem_append.1 (show j∈st.threads++[st.hs.length] from hj) with hj|hj
  ·obtain ⟨l,c,h1,h2⟩:=h.thr j hj
   exact ⟨l,c,by unfold RS.hk;rw [old j (h.ent.2.1 j hj)];exact h1,h2⟩
  ·simp at hj
   subst hj
   exact ⟨[],0,hkn,by omega,by simp⟩
 ·intro j x hx
  rcases hinv j x hx with q|rfl
  ·exact h.e14 j x q
  ·simp
 ·intro j hj x hx t l c _
  have:j=st.hs.length:=ycw
  subst this
  rw [new] at hx
  have:x=⟨.thr [] 0,[]⟩:=by simpa using hx.symm
  rw [this]
  simp
theorem Ok.pop(h:st.Ok k):RS.Ok {st with opn:=st.opn.dropLast} k:=by
 have sub: ∀j,j∈st.opn.dropLast->j∈st.opn:=λj hj=>List.mem_of_mem_take (by rw [List.dropLast_eq_take] at hj;exact hj)
 refine {opn:=⟨by have:=h.opn.1;simp;omega,λj hj=>h.opn.2 j (sub j hj)⟩,ent:=⟨h.ent.1,h.ent.2.1,λj hj=>h.ent.2.2 j (sub j hj)⟩,thr:=h.thr,ne:=λhne=>h.ne (λe=>hne (by show st.opn.dropLast=[];rw [e];rfl)),tn:=h.tn,sn:=h.sn,cn:=h.cn,e14:=h.e14,eo:=λj hj=>h.eo j (sub j hj)}
theorem Ok.share(h:st.Ok k)(x:ByteArray)(c:Int)(hc:1<=c/\c<=6):RS.Ok {st with shared:=st.shared++[(x,st.cells,c)],cells:=st.cells+c} (k+1):=by
 have:=h.cn
 exact {opn:=h.opn,ent:=h.ent,thr:=h.thr,ne:=h.ne,tn:=Nat.le_succ_of_le h.tn,sn:=by have:=h.sn;simp;omega,cn:=⟨by show 0<=st.cells+c;omega,by show st.cells+c<=_;omega⟩,e14:=h.e14,eo:=h.eo}
theorem z3f(h:st.Ok k)(hg:gSt st s= .ok st'):st'.Ok k:=by
 unfold gSt at hg
 split at hg
 ·simp at hg
 ·cases hl:st.lastT with
  |none=>simp [hl] at hg
  |some p=>
   obtain ⟨t,l,c⟩:=p
   cases ho:st.opn.getLast? with
   |none=>simp [hl,ho] at hg
   |some o=>
    rw [hl,ho] at hg
    simp only at hg
    split at hg
    ·simp at hg
    ·split at hg
     ·simp at hg
     ·rename_i hr
      obtain ⟨ol,hol⟩:=List.getLast?_eq_some_iff.1 ho
      have:st.lay t o l c s=st':=by simpa using hg
      rw [<-this]
      exact Ok.lay h hl hol (by simpa using hr)
theorem zme{lo hi v:Int}(h:gIn lo hi ws=some (v,ws1)):lo<=v/\v<=hi:=by
 unfold gIn at h
 cases hn:zco ws with
 |none=>simp [hn] at h
 |some q=>
  simp [hn] at h
  obtain ⟨h1,rfl⟩:=h
  exact h1
theorem Ir(h:st.Ok k)(hg:Vq st ws= .ok st'):st'.Ok (k+1):=by
 unfold Vq at hg
 rcases ws with _|⟨u,us⟩
 ·simp at hg
 ·simp only at hg
  split at hg
  ·unfold Iq at hg
   cases hn:gNm us with
   |none=>simp [hn] at hg
   |some p=>
    obtain ⟨x,us1⟩:=p
    rw [hn] at hg
    rcases us1 with _|⟨u1,us1⟩
    ·simp only at hg
     split at hg
     ·simp at hg
     ·split at hg
      ·simp at hg
      ·have:=Ok.share h x 1 yai
       simp only [Except.ok.injEq] at hg
       rw [<-hg];exact this
    ·simp only at hg
     cases hi:gIn 1 6 (u1::us1) with
     |none=>simp [hi] at hg
     |some q=>
      obtain ⟨v,us2⟩:=q
      rw [hi] at hg
      rcases us2 with _|⟨u2,us2⟩
      ·simp only at hg
       split at hg
       ·simp at hg
       ·split at hg
        ·simp at hg
        ·have:=Ok.share h x v (zme hi)
         simp only [Except.ok.injEq] at hg
         rw [<-hg];exact this
      ·simp at hg
  ·split at hg
   ·unfold Ef at hg
    rcases us with _|⟨u1,us1⟩
    ·simp only at hg
     split at hg
     ·simp at hg
     ·simp only [Except.ok.injEq] at hg
      rw [<-hg];exact Ok.newT h
    ·simp at hg
   ·split at hg
    ·unfold zwb at hg
     rcases us with _|⟨u1,us1⟩
     ·simp only at hg
      split at hg
      ·simp at hg
      ·simp only [Except.ok.injEq] at hg
       rw [<-hg];exact Ok.mono (Ok.pop h) (Nat.le_succ k)
     ·simp at hg
    ·cases hs:Zs u us with
     |none=>simp [hs] at hg
     |some p=>
      obtain ⟨s,us1⟩:=p
      rw [hs] at hg
      rcases us1 with _|⟨u1,us1⟩
      ·exact Ok.mono (z3f h hg) (Nat.le_succ k)
      ·simp at hg
end
structure DeepL(st:RS)(lv:Nat->Nat):Prop where
 nest: ∀(i:Nat) (h:Hd),st.hs[i]?=some h->∀j, .inr j∈h.ents->lv j=lv i+1/\ ∃s,st.hk j=some (.st s)/\Qf s=true
 le: ∀i,i<st.hs.length->lv i<=3
 op: ∀(m j:Nat),st.opn[m]?=some j->lv j=m
 leaf: ∀(i:Nat) (h:Hd),st.hs[i]?=some h->∀s, .inl s∈h.ents->Qf s=false
 loop: ∀i n,st.hk i=some (.st (St.loop n))->1<=n/\n<=4
 thr: ∀t∈st.threads,lv t=0
def RS.Deep(st:RS):Prop:=∃lv,DeepL st lv
theorem zrp:(⟨[],0,[],[],[]⟩:RS).Deep:=⟨λ_=>0,⟨λi h hh=>by simp at hh,λi hi=>by simp at hi,λm j hj=>by simp at hj,λi h hh=>by simp at hh,λi n hh=>by simp [RS.hk] at hh,λt ht=>by simp at ht⟩⟩
section
variable{st st':RS}{lv:Nat->Nat}{k t o:Nat}{l l':List ByteArray}{c c':Nat}{s:St}
def z4g(st:RS)(lv:Nat->Nat)(o:Nat):En->Prop
 | .inl s=>Qf s=false
 | .inr j=>lv j=lv o+1/\ ∃s,st.hk j=some (.st s)/\Qf s=true
theorem DeepL.upd(h:DeepL st lv)(hkt:st.hk t=some (.thr l c))(e:En)(he:z4g st lv o e)
  (hsame:st'.shared=st.shared/\st'.cells=st.cells/\st'.threads=st.threads/\st'.opn=st.opn) (hlen:st'.hs.length=st.hs.length) (hget: ∀j,st'.hs[j]?=(st.hs[j]?).map (Zv t o (.thr l' c') e j)):DeepL st' lv:=by
 obtain ⟨s1,s2,s3,s4⟩:=hsame
 have hkj: ∀j,st'.hk j=(st.hk j).map λq=>if j=t then .thr l' c' else q:=z97
 have hinv: ∀(j:Nat) (x:Hd),st'.hs[j]?=some x->∃y,st.hs[j]?=some y/\x=Zv t o (.thr l' c') e j y:=z8c
 have hst: ∀j s,st.hk j=some (.st s)->st'.hk j=some (.st s):=by
  intro j s hj
  have:j≠t:=λe=>by rw [e,hkt] at hj;simp at hj
  rw [hkj,hj]
  simp [this]
 refine {nest:=?_,le:=by rw [hlen];exact h.le,op:=by rw [s4];exact h.op,leaf:=?_,loop:=?_,thr:=by rw [s3];exact h.thr}
 ·intro i x hx j hj
  obtain ⟨y,hy,rfl⟩:=hinv i x hx
  simp only [Zv] at hj
  by_cases e1:i=o
  ·rw [if_pos e1,List.mem_append] at hj
   rcases hj with hj|hj
   ·obtain ⟨q1,s,q2,q3⟩:=h.nest i y hy j hj
    exact ⟨q1,s,hst j s q2,q3⟩
   ·have:e= .inr j:=by simp at hj;exact hj.symm
    subst this
    obtain ⟨q1,s,q2,q3⟩:=he
    exact ⟨e1▸q1,s,hst j s q2,q3⟩
  ·exact z94
 ·intro i x hx s hs
  obtain ⟨y,hy,rfl⟩:=hinv i x hx
  simp only [Zv] at hs
  by_cases e1:i=o
  ·rw [if_pos e1,List.mem_append] at hs
   rcases hs with hs|hs
   ·exact h.leaf i y hy s hs
   ·have:e= .inl s:=by simp at hs;exact hs.symm
    subst this
    exact he
  ·rw [if_neg e1] at hs
   exact h.leaf i y hy s hs
 ·intro i n hi
  rw [hkj] at hi
  by_cases e1:i=t
  ·subst e1
   rw [hkt] at hi
   simp at hi
  ·apply h.loop i n
   cases hq:st.hk i with
   |none=>simp [hq] at hi
   |some q=>simpa [hq,e1] using hi
theorem DeepL.newH(h:DeepL st lv)(hok:st.Ok k)(hloop: ∀n,s=St.loop n->1<=n/\n<=4)(x:Nat)(hx:x<=3):DeepL (st.newH s) (λi=>if i=st.hs.length then x else lv i):=by
 have old: ∀j,j<st.hs.length->(st.newH s).hs[j]?=st.hs[j]?:=λj hj=>List.getElem?_append_left hj
 have new:(st.newH s).hs[st.hs.length]?=some ⟨.st s,[]⟩:=ybm
 have hlen:(st.newH s).hs.length=st.hs.length+1:=ybm
 have hko: ∀j,j<st.hs.length->(st.newH s).hk j=st.hk j:=λj hj=>by unfold RS.hk;rw [old j hj]
 have hinv: ∀(j:Nat) (y:Hd),(st.newH s).hs[j]?=some y->(j<st.hs.length/\st.hs[j]?=some y)\/(j=st.hs.length/\y=⟨.st s,[]⟩):=z8f
 refine {nest:=?_,le:=?_,op:=?_,leaf:=?_,loop:=?_,thr:=?_}
 ·exact z78
 ·intro i hi
  split
  ·exact hx
  ·exact h.le i yai
 ·intro m j hj
  have:j<st.hs.length:=hok.ent.2.2 j (List.mem_iff_getElem?.2 ⟨m,hj⟩)
  rw [if_neg yai]
  exact h.op m j hj
 ·exact z9o
 ·intro i n hi
  by_cases e:i<st.hs.length
  ·rw [hko i e] at hi
   exact h.loop i n hi
  ·obtain ⟨y,hy,hyk⟩:=Yy hi
   rcases hinv i y hy with ⟨hi',_⟩|⟨_,rfl⟩
   ·exact absurd hi' e
   ·exact hloop n (by simpa using hyk)
 ·intro t ht
  have:t<st.hs.length:=hok.ent.2.1 t ht
  rw [if_neg yai]
  exact h.thr t ht
theorem Ze(st:RS)(t o:Nat)(q:HK)(e:En):((st.setK t q).addE o e).shared=st.shared/\((st.setK t q).addE o e).cells=st.cells/\((st.setK t q).addE o e).threads=st.threads/\((st.setK t q).addE o e).opn=st.opn:=by
 obtain ⟨a1,a2,a3,a4⟩:=zas (st:=st.setK t q) o e
 obtain ⟨d1,d2,d3,d4⟩:=Xu (st:=st) t q
 exact ⟨a1.trans d1,a2.trans d2,a3.trans d3,a4.trans d4⟩
theorem Yp{xs ys:List Hd}{g:Nat->Hd->Hd}(h: ∀j:Nat,xs[j]?=(ys[j]?).map (g j)):xs.length=ys.length:=by
 apply Nat.le_antisymm
 ·apply Nat.le_of_not_lt
  intro hlt
  have:=h ys.length
  rw [List.getElem?_eq_none (Nat.le_refl _),List.getElem?_eq_getElem hlt] at this
  simp at this
 ·apply Nat.le_of_not_lt
  intro hlt
  have:=h xs.length
  rw [List.getElem?_eq_none (Nat.le_refl _),List.getElem?_eq_getElem hlt] at this
  simp at this
theorem DeepL.lay(h:DeepL st lv)(hok:st.Ok k)(hl:st.lastT=some (t,l,c))(ho:st.opn=ol++[o])(hr:st.hasRoom l c s=true)(hloop: ∀n,s=St.loop n->1<=n/\n<=4):(st.lay t o l c s).Deep:=by
 obtain ⟨r1,r2,r3⟩:=Om hr
 obtain ⟨tl,htl,hkt⟩:=Us hl
 have hom:o∈st.opn:=yas
 have htlt:t<st.hs.length:=hok.ent.2.1 t ybn
 have holt:o<st.hs.length:=hok.ent.2.2 o hom
 have hlo:lv o=ol.length:=h.op ol.length o yas
 unfold RS.lay
 split
 ·rename_i hh
  have h3:=r3 hh
  have hlen3:ol.length+1=st.opn.length:=yas
  have hn:=h.newH hok hloop st.opn.length h3
  have hkn:(st.newH s).hk t=some (.thr l c):=by
   have:(st.newH s).hs[t]?=st.hs[t]?:=List.getElem?_append_left htlt
   unfold RS.hk
   rw [this]
   exact hkt
  have hknew:(st.newH s).hk st.hs.length=some (.st s):=by unfold RS.hk;simp [RS.newH]
  have hu:=hn.upd (l':=l) (c':=c+1) (o:=o) hkn (.sub st.hs.length) (show z4g _ _ _ (.inr st.hs.length) from ⟨by
   simp only
   rw [if_pos trivial,if_neg yai,hlo]
   omega,s,hknew,hh⟩) (Ze _ _ _ _ _) (Yp (Vx _ _ _ _ _)) (Vx _ _ _ _ _)
  have hop:(((st.newH s).setK t (.thr l (c+1))).addE o (.sub st.hs.length)).opn=st.opn:=(Ze _ _ _ _ _).2.2.2
  refine ⟨_,{nest:=hu.nest,le:=hu.le,op:=?_,leaf:=hu.leaf,loop:=hu.loop,thr:=hu.thr}⟩
  intro m j hj
  rcases Nat.lt_or_ge m st.opn.length with hm|hm
  ·apply hu.op m j
   rw [hop]
   have hj':(st.opn++[st.hs.length])[m]?=some j:=hj
   rw [List.getElem?_append_left hm] at hj'
   exact hj'
  ·have hj':(st.opn++[st.hs.length])[m]?=some j:=hj
   have hml:=(List.getElem?_eq_some_iff.1 hj').1
   simp at hml
   obtain rfl:m=st.opn.length:=yai
   simp at hj'
   subst hj'
   simp
 ·rename_i hh
  have hh':Qf s=false:=by simpa using hh
  split
  ·refine ⟨lv,h.upd (o:=o) hkt (.leaf s) (show z4g _ _ _ (.inl s) from hh') ?_ (Yp (Ol _ _ _ _ _ _)) (Ol _ _ _ _ _ _)⟩
   obtain ⟨a1,a2,a3,a4⟩:=Ze (st.setK t (.thr l (c+1))) t o (.thr (l++[Vg s]) (c+1)) (.leaf s)
   obtain ⟨d1,d2,d3,d4⟩:=Xu (st:=st) t (.thr l (c+1))
   exact ⟨a1.trans d1,a2.trans d2,a3.trans d3,a4.trans d4⟩
  ·exact ⟨lv,h.upd (o:=o) hkt (.leaf s) (show z4g _ _ _ (.inl s) from hh') (Ze _ _ _ _ _) (Yp (Vx _ _ _ _ _)) (Vx _ _ _ _ _)⟩
theorem DeepL.newT(h:DeepL st lv)(hok:st.Ok k):st.newT.Deep:=by
 have old: ∀j,j<st.hs.length->st.newT.hs[j]?=st.hs[j]?:=λj hj=>List.getElem?_append_left hj
 have new:st.newT.hs[st.hs.length]?=some ⟨.thr [] 0,[]⟩:=by simp [RS.newT]
 have hlen:st.newT.hs.length=st.hs.length+1:=by simp [RS.newT]
 have hko: ∀j,j<st.hs.length->st.newT.hk j=st.hk j:=λj hj=>by unfold RS.hk;rw [old j hj]
 have hinv: ∀(j:Nat) (y:Hd),st.newT.hs[j]?=some y->(j<st.hs.length/\st.hs[j]?=some y)\/(j=st.hs.length/\y=⟨.thr [] 0,[]⟩):=z8f
 refine ⟨λi=>if i=st.hs.length then 0 else lv i,{nest:=?_,le:=?_,op:=?_,leaf:=?_,loop:=?_,thr:=?_}⟩
 ·exact z78
 ·intro i hi
  split
  ·omega
  ·exact h.le i yai
 ·intro m j hj
  have hj':[st.hs.length][m]?=some j:=hj
  have hm:=(List.getElem?_eq_some_iff.1 hj').1
  simp at hm
  subst hm
  simp at hj'
  subst hj'
  simp
 ·exact z9o
 ·intro i n hi
  by_cases e:i<st.hs.length
  ·rw [hko i e] at hi
   exact h.loop i n hi
  ·obtain ⟨y,hy,hyk⟩:=Yy hi
   rcases hinv i y hy with ⟨hi',_⟩|⟨_,rfl⟩
   ·exact absurd hi' e
   ·simp at hyk
 ·intro t ht
  rcases List.mem_append.1 (show t∈st.threads++[st.hs.length] from ht) with ht|ht
  ·have:t<st.hs.length:=hok.ent.2.1 t ht
   rw [if_neg yai]
   exact h.thr t ht
  ·simp at ht
   simp [ht]
theorem DeepL.pop(h:DeepL st lv):RS.Deep {st with opn:=st.opn.dropLast}:=by
 refine ⟨lv,{nest:=h.nest,le:=h.le,op:=λm j hj=>h.op m j ?_,leaf:=h.leaf,loop:=h.loop,thr:=h.thr}⟩
 have hj':st.opn.dropLast[m]?=some j:=hj
 rw [List.dropLast_eq_take,List.getElem?_take] at hj'
 split at hj'
 ·exact hj'
 ·simp at hj'
theorem zfq{n:Int}(h:Zs u ws=some (St.loop n,ws1)):1<=n/\n<=4:=by
 unfold Zs at h
 split at h
 ·unfold zn4 at h
  cases h1:gNm ws with
  |none=>simp [h1] at h
  |some p=>
   rw [h1] at h
   simp only [Option.bind_some] at h
   cases h2:gPV p.2 with
   |none=>simp [h2] at h
   |some q=>
    obtain ⟨y,ws3⟩:=q
    rw [h2] at h
    simp only [Option.bind_some] at h
    rcases ws3 with _|⟨u3,ws3⟩
    ·simp at h
    ·simp only at h
     cases h3:gOp (u3::ws3) with
     |none=>simp [h3] at h
     |some o=>
      rw [h3] at h
      simp only [Option.bind_some] at h
      cases h4:gPV o.2 with
      |none=>simp [h4] at h
      |some r=>simp [h4] at h
 ·split at h
  ·unfold zvd at h
   cases h1:gNm ws with
   |none=>simp [h1] at h
   |some p=>
    rw [h1] at h
    simp only [Option.bind_some] at h
    cases h2:gNm p.2 with
    |none=>simp [h2] at h
    |some q=>exact z9n
  ·split at h
   ·unfold zve at h
    cases h1:gNm ws with
    |none=>simp [h1] at h
    |some p=>
     rw [h1] at h
     simp only [Option.bind_some] at h
     cases h2:gPV p.2 with
     |none=>simp [h2] at h
     |some q=>exact z9n
   ·split at h
    ·cases h1:gPV ws with
     |none=>simp [h1] at h
     |some p=>simp [h1] at h
    ·split at h
     ·simp at h
     ·split at h
      ·cases h1:gPV ws with
       |none=>simp [h1] at h
       |some p=>simp [h1] at h
      ·split at h
       ·cases h1:gIn 1 4 ws with
        |none=>simp [h1] at h
        |some p=>
         rw [h1] at h
         simp at h
         rw [<-h.1]
         exact zme (v:=p.1) (ws1:=p.2) h1
       ·simp at h
end
attribute [local go_sem] Yr Gk Vw Yf Ys Gn Yt Gr Yu Yo Vh Zm Yb Ux Zc Yx
def Ue:St->Bool
 | .inr (.inr (.inr (.inr (.inl _))))=>true
 |_=>false
section
variable{w:World}{b:Nat}
theorem zwe(s:St)(hh:Qf s=false):Cl 91 #[stV s] w λe w'=>e= .returned (.bool false)/\w'=w:=by
 rcases s with ⟨to,a⟩|⟨to,k,a,c⟩|⟨to,f,a⟩|⟨f,a,c⟩|a|⟨⟩|a|n
 ·exact z74
 ·exact z74
 ·exact z74
 ·exact z74
 ·exact z74
 ·simp [Qf] at hh
 ·simp [Qf] at hh
 ·simp [Qf] at hh
theorem z0g(s:St)(hh:Qf s=true):Cl 91 #[.iface (hkT (.st s)) (ptr b)] w λe w'=>e= .returned (.bool (HK.isAtomic (.st s)))/\w'=w:=by
 rcases s with ⟨to,a⟩|⟨to,k,a,c⟩|⟨to,f,a⟩|⟨f,a,c⟩|a|⟨⟩|a|n
 ·simp [Qf] at hh
 ·simp [Qf] at hh
 ·simp [Qf] at hh
 ·simp [Qf] at hh
 ·simp [Qf] at hh
 ·exact z81
 ·exact z81
 ·exact z81
theorem zwf(s:St)(hh:Qf s=false):Cl 94 #[stV s] w λe w'=>e= .returned (.bool (Ue s))/\Below w.heap.size w w':=by
 rcases s with ⟨to,a⟩|⟨to,k,a,c⟩|⟨to,f,a⟩|⟨f,a,c⟩|a|⟨⟩|a|n
 ·exact z7k
 ·exact z7k
 ·exact z7k
 ·exact z7k
 ·exact z7k
 ·simp [Qf] at hh
 ·simp [Qf] at hh
 ·simp [Qf] at hh
theorem z0h(s:St)(hh:Qf s=true):Cl 94 #[.iface (hkT (.st s)) (ptr b)] w λe w'=>e= .returned (.bool false)/\Below w.heap.size w w':=by
 rcases s with ⟨to,a⟩|⟨to,k,a,c⟩|⟨to,f,a⟩|⟨f,a,c⟩|a|⟨⟩|a|n
 ·simp [Qf] at hh
 ·simp [Qf] at hh
 ·simp [Qf] at hh
 ·simp [Qf] at hh
 ·simp [Qf] at hh
 ·exact z7u
 ·exact z7u
 ·exact z7u
end
structure Ar(hs:List Hd)(ms:List HM)(w:World):Prop where
 hd: ∀i (h:i<ms.length),HdAt w (Qu ms) ms[i]
 hs:ms.map (·.h)=hs
def enG(hs:List Hd):Nat->En->Prop
 |0,e=>∃s,e= .inl s/\Qf s=false
 |f+1,e=>(∃s,e= .inl s/\Qf s=false)\/ ∃j h s,e= .inr j/\hs[j]?=some h/\h.k= .st s/\Qf s=true/\(1<=Jk s/\Jk s<=4)/\h.ents.length<=14/\ ∀e∈h.ents,enG hs f e
def Jb(hs:List Hd):En->List En
 | .inl _=>[]
 | .inr j=>match hs[j]? with
  |some h=>h.ents
  |none=>[]
def Vb(hs:List Hd):En->Int
 | .inl _=>1
 | .inr j=>match hs[j]? with
  |some ⟨.inr s,_⟩=>Jk s
  |_=>1
def Zn(hs:List Hd)(kd:En->Bool):Nat->En->Int
 |0,e=>if kd e=true then 1 else 0
 |f+1,e=>(if kd e=true then 1 else 0)+Vb hs e*((Jb hs e).map (Zn hs kd f)).sum
def kdA(hs:List Hd):En->Bool
 | .inl _=>false
 | .inr j=>match hs[j]? with
  |some h=>h.k.isAtomic
  |none=>false
def kdO:En->Bool
 | .inl s=>Ue s
 | .inr _=>false
section
variable{hs:List Hd}{ms:List HM}{w w':World}
theorem Ar.below(h:Ar hs ms w)(hb:Below w.heap.size w w'):Ar hs ms w':=
 ⟨λi hi=>(h.hd i hi).keep (M:=λ_ _=>False) (Chg.of_below hb) (λ_ e=>e) (λ_ _ _ e=>e) (λ_ _ e=>e),h.hs⟩
theorem Ar.at(h:Ar hs ms w)(hj:hs[j]?=some x): ∃hl:j<ms.length,ms[j].h=x:=by
 rw [<-h.hs,List.getElem?_map] at hj
 cases hm:ms[j]? with
 |none=>simp [hm] at hj
 |some m=>
  obtain ⟨hl,hm'⟩:=List.getElem?_eq_some_iff.1 hm
  refine ⟨hl,?_⟩
  rw [hm']
  simpa [hm] using hj
theorem Eg(h:Ar hs ms w)(hj:hs[j]?=some x): ∃hl:j<ms.length,ms[j].h=x/\enV (Qu ms) (.inr j)= .iface (hkT x.k) (ptr ms[j].b):=by
 obtain ⟨hl,e⟩:=h.at hj
 refine ⟨hl,e,?_⟩
 show idV (Qu ms) j=_
 simp [idV,Qu,List.getElem?_eq_getElem hl,e]
theorem zbx(kd:En->Bool): ∀f e,enG hs f e->0<=Zn hs kd f e/\Zn hs kd f e<=(60:Int)^f
 |0,e,_=>by unfold Zn;split<;>simp
 |f+1,e,h=>by
  have hp:(0:Int)<60^f:=Int.pow_pos yai
  have hpe:(60:Int)^(f+1)=60*60^f:=by rw [Int.pow_succ,Int.mul_comm]
  unfold Zn
  rcases h with ⟨s,rfl,_⟩|⟨j,x,s,rfl,hj,hk,hh,ht,hl,he⟩
  ·simp only [Vb,Jb,List.map_nil,List.sum_nil]
   rw [hpe]
   split<;>omega
  ·have e1:Vb hs (.inr j)=Jk s:=by
    simp only [Vb,hj]
    obtain ⟨k,es⟩:=x
    simp only at hk
    subst hk
    rfl
   have e2:Jb hs (.inr j)=x.ents:=yby
   rw [e1,e2,hpe]
   obtain ⟨b1,b2⟩:=zap (Zn hs kd f) (60^f) yai x.ents (λe he'=>zbx kd f e (he e he'))
   generalize (x.ents.map (Zn hs kd f)).sum=S at*
   generalize Jk s=t at*
   have hl':(x.ents.length:Int)<=14:=yai
   have b3:S<=14*60^f:=Int.le_trans b2 (Int.mul_le_mul_of_nonneg_right hl' yai)
   generalize (60:Int)^f=P at*
   have b4:0<=t*S:=Int.mul_nonneg yai b1
   have b5:t*S<=4*S:=Int.mul_le_mul_of_nonneg_right ht.2 b1
   split<;>omega
def zrq(hs:List Hd)(ms:List HM)(tk:Nat)(kd:En->Bool):Prop:=∀w1,Ar hs ms w1->∀f e,enG hs f e->Cl tk #[enV (Qu ms) e] w1 λr w'=>r= .returned (.bool (kd e))/\Below w1.heap.size w1 w'
theorem zka(w:World):w.ownsRow 0 162 1 (.slice none 0 0) 0 []:=⟨rfl, .inl ⟨rfl,rfl⟩⟩
theorem zhz{tk:Nat}(hent: ∀args w,(callFunc tk args).run Tryz.prog w= .ok (.enter tk args) w)(w:World):Cl 90 #[.slice none 0 0, .func (.func tk) #[] #[]] w λr w'=>r= .returned (.int .i64 0)/\Below w.heap.size w w':=
 zd2 (es:=[]) (ids:=[]) (zka w) yaj (λ_=>True) trivial (hid λ_ _ _ _=>trivial) (λ_=>false) (λ_=>0) (λ_=>0) (λ_=>0) (λ_=> .nilIface) hent (hid λ_ _ e he=>by simp at he) (hid λ_ _ e he=>by simp at he) (hid λ_ _ e he=>by simp at he) (hid λ_ _ e he=>by simp at he) (hid λe he=>by simp at he) (hid λe he=>by simp at he)
theorem Gt: ∀f e,enG hs f e->enG hs (f+1) e
 |0,_,h=> .inl h
 |f+1,_,h=>by
  rcases h with h|⟨j,x,s,h1,h2,h3,h4,h5,h6,h7⟩
  ·exact .inl h
  ·exact .inr ⟨j,x,s,h1,h2,h3,h4,h5,h6,λe he=>Gt f e (h7 e he)⟩
def wiV(ms:List HM):En->Value
 | .inl _=> .slice none 0 0
 | .inr j=>match ms[j]? with
  |some m=>m.rv
  |none=> .slice none 0 0
theorem zrr(h:Ar hs ms w)(he:enG hs f e):Cl 117 #[enV (Qu ms) e] w λr w'=>r= .returned (.int .i64 (Vb hs e))/\w'=w:=by
 have he':enG hs (f+1) e:=Gt f e he
 rcases he' with ⟨s,rfl,hh⟩|⟨j,x,s,rfl,hj,hk,hh,_⟩
 ·exact zfp s hh
 ·obtain ⟨hl,e1,e2⟩:=Eg h hj
  rw [e2,hk]
  have ht:Vb hs (.inr j)=Jk s:=by
   simp only [Vb,hj]
   obtain ⟨k,es⟩:=x
   simp only at hk
   subst hk
   rfl
  rw [ht]
  have hkk:=(h.hd j hl).kind
  rw [e1,hk] at hkk
  exact zrh s hh hkk
theorem On(h:Ar hs ms w)(he:enG hs f e):Cl 118 #[enV (Qu ms) e] w λr w'=>r= .returned (wiV ms e)/\w'=w:=by
 have he':enG hs (f+1) e:=Gt f e he
 rcases he' with ⟨s,rfl,hh⟩|⟨j,x,s,rfl,hj,hk,hh,_⟩
 ·exact zj6 s hh
 ·obtain ⟨hl,e1,e2⟩:=Eg h hj
  rw [e2,hk]
  have hw:wiV ms (.inr j)=ms[j].rv:=by simp [wiV,List.getElem?_eq_getElem hl]
  rw [hw]
  exact zoc s hh (h.hd j hl).rc
theorem zgn{tk:Nat}{kd:En->Bool}(hent: ∀args w,(callFunc tk args).run Tryz.prog w= .ok (.enter tk args) w)(hK:zrq hs ms tk kd): ∀f,f<=4->∀(w:World) (rv:Value) (es:List En),Ar hs ms w->w.ownsRow 0 162 1 rv es.length (es.map (enV (Qu ms)))->es.length<=14->(∀e∈es,enG hs f e) ->
  Cl 90 #[rv, .func (.func tk) #[] #[]] w λr w'=>r= .returned (.int .i64 (es.map (Zn hs kd f)).sum)/\Below w.heap.size w w'
 |0,_,w,rv,es,hA,hrow,h14,hes=>by
  refine zd2 hrow h14 (Ar hs ms) hA (hid λ_ _ h1 hb=>h1.below hb) kd (λ_=>1) (λ_=>0) (Zn hs kd 0) (wiV ms) hent (hid λw1 h1 e he=>hK w1 h1 0 e (hes e he)) (hid λw1 h1 e he=>?_) (hid λw1 h1 e he=>On h1 (hes e he)) (hid λw1 h1 e he=>?_) (hid λe he=>by simp [Zn]) (hid λe he=>by simp)
  ·obtain ⟨s,rfl,hh⟩:=hes e he
   exact zfp s hh
  ·obtain ⟨s,rfl,hh⟩:=hes e he
   exact zhz hent w1
 |f+1,hf,w,rv,es,hA,hrow,h14,hes=>by
  refine zd2 hrow h14 (Ar hs ms) hA (hid λ_ _ h1 hb=>h1.below hb) kd (Vb hs) (λe=>((Jb hs e).map (Zn hs kd f)).sum) (Zn hs kd (f+1)) (wiV ms) hent (hid λw1 h1 e he=>hK w1 h1 (f+1) e (hes e he)) (hid λw1 h1 e he=>zrr h1 (hes e he)) (hid λw1 h1 e he=>On h1 (hes e he)) (hid λw1 h1 e he=>?_) (hid λe he=>rfl) (hid λe he=>?_)
  ·rcases hes e he with ⟨s,rfl,hh⟩|⟨j,x,s,rfl,hj,hk,hh,ht,hl,hsub⟩
   ·exact zhz hent w1
   ·obtain ⟨hl2,e1⟩:=h1.at hj
    have hw:wiV ms (.inr j)=ms[j].rv:=by simp [wiV,List.getElem?_eq_getElem hl2]
    have e2:Jb hs (.inr j)=x.ents:=yby
    rw [hw,e2]
    have hr:=(h1.hd j hl2).row
    rw [e1] at hr
    exact zgn hent hK f yai w1 _ _ h1 hr hl hsub
  ·have hb:=zbx kd (f+1) e (hes e he)
   have h4:(60:Int)^(f+1)<=12960000:=by
    have:f+1=1\/f+1=2\/f+1=3\/f+1=4:=yai
    rcases this with e|e|e|e<;>rw [e]<;>decide
   rcases hes e he with ⟨s,rfl,hh⟩|⟨j,x,s,rfl,hj,hk,hh,ht,hl,hsub⟩
   ·simp [Vb,Jb]
   ·have e1:Vb hs (.inr j)=Jk s:=by
     simp only [Vb,hj]
     obtain ⟨k,es⟩:=x
     simp only at hk
     subst hk
     rfl
    have e2:Jb hs (.inr j)=x.ents:=yby
    obtain ⟨b1,_⟩:=zap (Zn hs kd f) (60^f) (Int.le_of_lt (Int.pow_pos yai)) x.ents (λe he'=>zbx kd f e (hsub e he'))
    simp only [Zn,e1,e2] at hb⊢
    generalize (x.ents.map (Zn hs kd f)).sum=S at*
    have b4:0<=Jk s*S:=Int.mul_nonneg yai b1
    refine ⟨b4,?_⟩
    have:=hb.2
    split at this<;>omega
theorem z5l:zrq hs ms 91 (kdA hs):=by
 intro w1 h1 f e he
 have he':enG hs (f+1) e:=Gt f e he
 rcases he' with ⟨s,rfl,hh⟩|⟨j,x,s,rfl,hj,hk,hh,_⟩
 ·refine (zwe s hh).mono ?_
  rintro r w' ⟨rfl,rfl⟩
  exact ⟨rfl,Below.refl _ _⟩
 ·obtain ⟨hl,e1,e2⟩:=Eg h1 hj
  rw [e2,hk]
  refine (z0g s hh).mono ?_
  rintro r w' ⟨rfl,rfl⟩
  exact ⟨by simp only [kdA,hj,hk],Below.refl _ _⟩
theorem z5m:zrq hs ms 94 kdO:=by
 intro w1 h1 f e he
 have he':enG hs (f+1) e:=Gt f e he
 rcases he' with ⟨s,rfl,hh⟩|⟨j,x,s,rfl,hj,hk,hh,_⟩
 ·exact zwf s hh
 ·obtain ⟨hl,e1,e2⟩:=Eg h1 hj
  rw [e2,hk]
  exact z0h s hh
theorem zok: ∀args w,(callFunc 91 args).run Tryz.prog w= .ok (.enter 91 args) w:=λ_ _=>by kernel_rfl
theorem zwg: ∀args w,(callFunc 94 args).run Tryz.prog w= .ok (.enter 94 args) w:=λ_ _=>by kernel_rfl
theorem zrs(hf:f<=4)(hA:Ar hs ms w)(hrow:w.ownsRow 0 162 1 rv es.length (es.map (enV (Qu ms))))(h14:es.length<=14)(hes: ∀e∈es,enG hs f e):
  Cl 63 #[rv] w λr w'=>r= .returned (.int .i64 (es.map (Zn hs (kdA hs) f)).sum)/\Below w.heap.size w w':=by
 have K:=hid (zgn zok z5l f hf w rv es hA hrow h14 hes)
 clear hA hrow hes
 generalize (es.map (Zn hs (kdA hs) f)).sum=S at*
 go_enter Tryz.func63,Tryz.ntmps63
 go_wp2_with fail
 refine K.out.mono ?_
 rintro e w1 ⟨rfl,b1⟩
 have B1:=hid b1
 clear b1 K
 go_wp2
 go_ret
 exact ⟨rfl,B1.out⟩
theorem z0i(hf:f<=4)(hA:Ar hs ms w)(hrow:w.ownsRow 0 162 1 rv es.length (es.map (enV (Qu ms))))(h14:es.length<=14)(hes: ∀e∈es,enG hs f e):
  Cl 65 #[rv] w λr w'=>r= .returned (.int .i64 (es.map (Zn hs kdO f)).sum)/\Below w.heap.size w w':=by
 have K:=hid (zgn zwg z5m f hf w rv es hA hrow h14 hes)
 clear hA hrow hes
 generalize (es.map (Zn hs kdO f)).sum=S at*
 go_enter Tryz.func65,Tryz.ntmps65
 go_wp2_with fail
 refine K.out.mono ?_
 rintro e w1 ⟨rfl,b1⟩
 have B1:=hid b1
 clear b1 K
 go_wp2
 go_ret
 exact ⟨rfl,B1.out⟩
end
open Go.RowKit Go.Shelf
attribute [local go_sem] Oper.semAt_some
theorem zrt(k:Nat):Fence.wide.room k:=λd h=>by cases h
theorem zh0{m:Nat}(m':Nat){P:Program}{l:Nat}{args:Array Value}{W:World}{R:Ending->World->Prop}(h:YieldAt Fence.wide m P l args W R):YieldAt Fence.wide m' P l args W R:=by
 obtain ⟨fn,tmps,assign,body,hy,hR⟩:=h
 exact ⟨fn,tmps,assign,body,hy,hR.1,λc cs _=>hR.2 c cs (zrt _)⟩
def Jf(hs:List Hd):Nat->List En->List En
 |0,es=>es
 |f+1,es=>es.flatMap λe=>e::Jf hs f (Jb hs e)
abbrev zcs(hs:List Hd):={e:En // enG hs 3 e}
section
variable{hs:List Hd}{ms:List HM}{W0:World}
theorem zgo(n l n₀ N:Nat)(hA0:Ar hs ms W0)(hn₀:W0.heap.size<=n₀)(hrow:W0.ownsRow 0 162 1 rv es.length (es.map (enV (Qu ms))))(h14:es.length<=14)(hes:Hid (∀e∈es,enG hs 3 e))(J Jx:List (zcs hs)->World->Prop)
  (hY:Hid (∀m pre (x:zcs hs) W,J pre W->Below W0.heap.size W0 W->pre.length<N->YieldAt Fence.wide m Tryz.prog l #[enV (Qu ms) x.1] W λe W'=>(e= .returned (.bool true)/\J (pre++[x]) W'/\Below n₀ W W')\/(e= .returned (.bool false)/\Jx (pre++[x]) W')))
  (sub:En->List En)
  (RK:Hid (∀m pre W,J pre W->Below W0.heap.size W0 W->∀e∈es,pre.length+(sub e).length<=N->CallsIn Fence.wide m Tryz.prog 93 #[wiV ms e, .func (.yield l) #[] #[]] W λe' W'=>(e'= .returned (.bool true)/\(∃ys:List (zcs hs),ys.map (·.1)=sub e/\J (pre++ys) W')/\Below n₀ W W')\/(e'= .returned (.bool false)/\ ∃q:List (zcs hs),q.map (·.1)<+:sub e/\Jx (pre++q) W')))
  (pre:List (zcs hs)) (W:World) (hJ:J pre W) (hW:Below W0.heap.size W0 W) (hN:pre.length+(es.flatMap λe=>e::sub e).length<=N):
  CallsIn Fence.wide n Tryz.prog 93 #[rv, .func (.yield l) #[] #[]] W λe W'=>(e= .returned (.bool true)/\(∃ys:List (zcs hs),ys.map (·.1)=(es.flatMap λe=>e::sub e)/\J (pre++ys) W')/\Below n₀ W W')\/(e= .returned (.bool false)/\ ∃q:List (zcs hs),q.map (·.1)<+:(es.flatMap λe=>e::sub e)/\Jx (pre++q) W'):=by
 obtain ⟨ra,rk,hrv⟩: ∃a k,rv= .slice a es.length k:=z8o
 subst hrv
 have HC:Hid (∀k (hk:k<es.length),∃g,ra=some ⟨g,0,none⟩/\es.length<=rk/\g<W0.heap.size/\W0.cell? ⟨g,k,none⟩=some (enV (Qu ms) es[k])):=z7r
 have HSN:Hid (∀k (hk:k<es.length),((es.take (k+1)).flatMap λe=>e::sub e)=((es.take k).flatMap λe=>e::sub e)++(es[k]::sub es[k])):=z8t
 have HPF:Hid (∀k,∃r,(es.flatMap λe=>e::sub e)=((es.take k).flatMap λe=>e::sub e)++r):=z9r
 have HA:=hid hA0
 clear hrow hA0
 refine callsIn_of_wp Tryz.func93 rfl trivial ?_ rfl
 simp only [Tryz.ntmps93,List.size_toArray,List.length_cons,List.length_nil,Nat.reduceAdd,Nat.reduceSub,Array.replicate_succ,Array.replicate_zero,List.push_toArray,List.append_toArray,List.nil_append,List.cons_append]
 have hw: ∀f,Fence.wide.fn f:=λ_=>trivial
 have hdd: ∀k:Nat,(Fence.wide.depth.isSome=true->1<=k):=λk h=>by cases h
 have HJ0:=hid hJ
 have HW0:=hid hW
 have HN:=hid hN
 clear hJ hW hN
 gi_wp2
 gi_loopw [9] (λi wr=>∃k:Nat,k<=es.length/\i= .int .i64 k/\Hid (∃ys:List (zcs hs),ys.map (·.1)=((es.take k).flatMap λe=>e::sub e)/\J (pre++ys) wr)/\Hid (Below n₀ W wr))
  (λi _=>es.length- (intOf i).toNat)
 case atStart=>exact ⟨0,Nat.zero_le _,rfl,⟨[],by simp,by simpa using HJ0.out⟩,Below.refl _ _⟩
 case round=>
  obtain ⟨k,hk,rfl,hys,hB⟩:=hrel
  by_cases hlt:k<es.length
  ·have hlt':(k:Int)<(es.length:Int):=by omega
   obtain ⟨g,hra,hrk,hg,hcell⟩:=HC.out k hlt
   subst hra
   obtain ⟨ys,hy1,hJ1⟩:=hys.out
   have hWr:Below W0.heap.size W0 wr:=HW0.out.trans (hB.out.mono hn₀)
   have hcell':wr.cell? ⟨g,k,none⟩=some (enV (Qu ms) es[k]):=(hWr.cell (p:=⟨g,k,none⟩) hg).trans hcell
   have hmem:es[k]∈es:=List.getElem_mem hlt
   have hlen:ys.length=((es.take k).flatMap λe=>e::sub e).length:=by rw [<-hy1];simp
   obtain ⟨rest,hrest⟩:=HPF.out (k+1)
   have hsn:=HSN.out k hlt
   have hN1:pre.length+ys.length+1+(sub es[k]).length<=N:=z93
   obtain ⟨X,hX⟩: ∃X:zcs hs,X.1=es[k]:=⟨⟨es[k],hes.out _ hmem⟩,rfl⟩
   obtain ⟨fn,tmps,assign,body,hy,hR⟩:=hY.out (n- 1) (pre++ys) X wr hJ1 hWr yan
   rw [hX] at hy
   have hR':=hR.mono (R':=λe W'=>(e= .returned (.bool true)/\Hid (J (pre++ys++[X]) W'/\Below n₀ wr W'))\/(e= .returned (.bool false)/\Hid (Jx (pre++ys++[X]) W'))) (λe W' h=>h.elim (λh=> .inl ⟨h.1,hid h.2⟩) (λh=> .inr ⟨h.1,hid h.2⟩))
   have KW:=hid (λw1 (h1:Below W0.heap.size W0 w1)=>(callsIn_wide (n:=n- 1)).2 (On (HA.out.below h1) (hes.out _ hmem)))
   have KR:=hid (λW3 (h1:J (pre++ys++[X]) W3) (h2:Below W0.heap.size W0 W3)=>RK.out (n- 1) (pre++ys++[X]) W3 h1 h2 es[k] hmem yan)
   have HWr:=hid hWr
   have HS:Hid (∀zs:List (zcs hs),zs.map (·.1)=sub es[k]->(ys++[X]++zs).map (·.1)=((es.take (k+1)).flatMap λe=>e::sub e)):=by
    intro zs hz
    rw [hsn,List.map_append,List.map_append,hy1,hz]
    simp [hX]
   have HP:Hid (∀q:List (zcs hs),q.map (·.1)<+:sub es[k]->(ys++[X]++q).map (·.1)<+:(es.flatMap λe=>e::sub e)):=z9j
   clear hcell hR hWr hJ1 hsn hrest hN1 hlen hy1 hys HJ0 HN
   generalize enV (Qu ms) es[k]=v at*
   generalize wiV ms es[k]=wv at*
   generalize sub es[k]=sk at*
   gi_wp2_with (first
    |((try refine ⟨hdd _,?_⟩);refine hR'.mono ?_;clear hR';rintro e W3 (⟨rfl,hJ3⟩|⟨rfl,hJx3⟩))
    |((try refine ⟨hdd _,?_⟩);gi_at_call 118;refine (KW.out _ (HWr.out.trans (hJ3.out.2.mono hn₀))).mono ?_;clear KW;rintro e w' ⟨rfl,rfl⟩)
    |((try refine ⟨hdd _,?_⟩);gi_at_call 93;refine (KR.out _ hJ3.out.1 (HWr.out.trans (hJ3.out.2.mono hn₀))).mono ?_;clear KR;rintro e W4 (⟨rfl,hq⟩|⟨rfl,hq⟩)))
   ·exact z8s
   ·exact z9m
   ·exact z9v
  ·have hlt': ¬(k:Int)<(es.length:Int):=by omega
   have hke:k=es.length:=yai
   subst hke
   obtain ⟨ys,hy1,hJ1⟩:=hys.out
   rw [List.take_length] at hy1
   have HY:=hid hy1
   have HJ1:=hid hJ1
   clear hy1 hJ1 hys HJ0 HN
   gi_wp2
   go_ret
   exact .inl ⟨rfl,⟨ys,HY.out,HJ1.out⟩,hB.out⟩
end
end Go.Proofs.YtphcopbffecceaaGreatDoor
