import Derived.Test.YtkenoofmkbghiaaGreatDoorB26
import Derived.Test.YtkenoofmkbghiaaGreatDoorShelf2
set_option maxRecDepth 100000
set_option maxHeartbeats 4000000
namespace Go.Proofs.YtkenoofmkbghiaaGreatDoor
open Go.RowKit
open Go.RowKit Go.Shelf
attribute [local go_sem] Oper.semAt_some Yr Vw Ys Yt Yu Vh Yb Zc
section
variable{D:Nat->Prop}{lab:Nat->Nat×Nat}{w:World}{br sb bs:Nat}{tv ov:Value}{st:RS}{ms:List HM}{kk:Nat}
theorem zso(n:Nat)(hn:6<=n)(h:RMach D lab w br sb bs tv ov st ms)(hok:st.Ok kk)(hdp:st.Deep)(hc: ¬6<st.cells)(ht:st.threads.length<=3):
  CallsIn Fence.wide n Tryz.prog 39 #[ptr br] w λe w'=>e= .returned (.bool (st.threads.any st.thrMuch))/\Below w.heap.size w w':=by
 have lb:=Qd h.sh
 have c2:(w.alloc (.cells #[.bool false] 4)).cell? ⟨br,2,none⟩=some (.int .i64 st.cells):=(World.cell?_alloc_past _ _ _ lb).trans h.c2
 obtain ⟨ta,tk,htv⟩:=h.threadS
 have c1:(w.alloc (.cells #[.bool false] 4)).cell? ⟨br,1,none⟩=some (.slice ta st.threads.length tk):=yv7
 have ht': ¬3<(st.threads.length:Int):=yue
 have hw: ∀f,Fence.wide.fn f:=λ_=>trivial
 have H:=hid h
 have HTV:=hid htv
 clear h htv
 refine callsIn_of_wp_marks Tryz.func39 rfl trivial ?_ rfl
 simp only [Tryz.ntmps39,List.size_toArray,List.length_cons,List.length_nil,Nat.reduceAdd,Nat.reduceSub,Array.replicate_succ,Array.replicate_zero,List.push_toArray,List.append_toArray,List.nil_append,List.cons_append]
 gi_wp2
 refine wpIn_loop (λa W=>∃k u4 u29 u30 u31 u32 u33 u34 u35 u36 u37 u38 u39 u40 u41 u42 u43 u44 u61 Ds,k<=st.threads.length/\a=z5q br w.heap.size st.cells (.slice ta st.threads.length tk) st.threads.length k u4 u29 u30 u31 u32 u33 u34 u35 u36 u37 u38 u39 u40 u41 u42 u43 u44 u61 Ds/\z5r w st k Ds W) (λa _=>st.threads.length- (intOf (a.tmps[28]?.getD undef)).toNat) ?_ ?_
 ·refine ⟨0,undef,undef,undef,undef,undef,undef,undef,undef,undef,undef,undef,undef,undef,undef,undef,undef,undef,undef,[],Nat.zero_le _,rfl,⟨(Below.refl _ w).alloc (Nat.le_refl _) _,Boxed.new w 4 _,List.nodup_nil,λD hD=>by simp at hD,λj _ hj=>by omega⟩⟩
 ·rintro a W ⟨k,u4,u29,u30,u31,u32,u33,u34,u35,u36,u37,u38,u39,u40,u41,u42,u43,u44,u61,Ds,hk,rfl,hI⟩
  have HI:=hid hI
  clear hI
  by_cases hlt:k<st.threads.length
  ·have hlt':(k:Int)<(st.threads.length:Int):=by omega
   obtain ⟨g,cp,htv,hcp,hg,htl,q1,q2,q3,⟨ra,rc,hrv⟩,hrow,h14⟩:=(H.out.below HI.out.low).thread_at hok k hlt
   rw [HTV.out] at htv
   obtain ⟨rfl,rfl⟩:ta=some ⟨g,0,none⟩/\tk=cp:=by simpa using htv
   have KB:=hid ((callsIn_wide (n:=n- 1)).2 (zgs H.out hok hdp k hlt htl HI.out.low))
   rw [hrv] at q3 hrow KB
   have HROW:=hid hrow
   have h1n:1<=n:=yue
   have cb:=HI.out.box.cell
   have fb:=HI.out.box.frozen
   generalize hM:((st.ents st.threads[k]).map (Zn st.hs (kdA st.hs) 3)).sum=Mb at*
   generalize ms[st.threads[k]].b=tb at*
   clear htv hrow
   gi_wp2_with (gi_at_call 67;refine KB.out.mono ?_;clear KB;rintro e W1 ⟨rfl,b1⟩;have cb1:=(b1.cell (p:=⟨w.heap.size,0,none⟩) (blt cb)).trans cb;have fb1:=(b1.frozen (p:=⟨w.heap.size,0,none⟩) (blt cb)).trans fb;have q31:=(b1.cell (p:=⟨tb,0,none⟩) q2).trans q3;have B1:=hid b1;clear b1)
   ·have h3:3<Mb:=by assumption
    refine zb2 rfl ((HI.out.low.trans (B1.out.mono HI.out.low.size)).setCell (p:=⟨w.heap.size,0,none⟩) (Nat.le_refl _) _) (Qg cb1 rfl) HI.out.nd (λD hD=>⟨(HI.out.ds D hD).1,(KeepsOthers.setCell W1 ⟨w.heap.size,0,none⟩ (.bool true)).same D _ ((B1.out.block D (HI.out.ds D hD).2.1).trans (HI.out.ds D hD).2.2) rfl⟩) _ ?_
    rw [List.any_eq_true]
    exact ⟨st.threads[k],List.getElem_mem hlt,by simp [RS.thrMuch,hM,h3]⟩
   ·have h3: ¬3<Mb:=by first|assumption|omega
    refine ((callsIn_wide (n:=n- 1)).2 (zse ra _ rc W1)).mono ?_
    rintro e w' ⟨rfl,rfl⟩
    gi_wp2
    have hBB:=B1.out
    obtain ⟨W2,hW2⟩: ∃W2,W1.alloc (.cells #[.slice ra (st.ents st.threads[k]).length rc] 106)=W2:=⟨_,rfl⟩
    have hB2:Below W1.heap.size W1 W2:=yv8
    have hBt:W2.cell? ⟨W1.heap.size,0,none⟩=some (.slice ra (st.ents st.threads[k]).length rc):=by rw [<-hW2];exact World.cell?_alloc_new _ _ _ 0
    have hsz2:W2.heap.size=W1.heap.size+1:=by rw [<-hW2];simp
    rw [hW2]
    clear hW2
    have hWW:Below W.heap.size W W2:=hBB.trans (hB2.mono hBB.size)
    have low2:Below w.heap.size w W2:=HI.out.low.trans (hWW.mono HI.out.low.size)
    have hR2:=hid (H.out.below low2)
    have hrow2:=Qc HROW.out (Chg.of_below (M:=λ_ _=>False) hWW) (λ_ _ _ e=>e)
    have hl2:w.heap.size<W2.heap.size:=by have:=blt cb1;simp at this;omega
    have bx2:Boxed W2 w.heap.size 4 (.bool false):=(hWW.block w.heap.size (blt cb)).trans HI.out.box
    have hds2: ∀D∈Ds,w.heap.size+1<=D/\D<W2.heap.size/\W2.heap[D]?=some (.deferred (some [])):=λD hD=>⟨(HI.out.ds D hD).1,Nat.lt_of_lt_of_le (HI.out.ds D hD).2.1 hWW.size,(hWW.block D (HI.out.ds D hD).2.1).trans (HI.out.ds D hD).2.2⟩
    refine wpIn_rangeFunc_ownH rfl h1n (gf:=98) (lb:=#[.pointer (some ⟨W1.heap.size,0,none⟩)]) rfl trivial (enters_of Tryz.func98 yug rfl)
     (zsf (n- 1) W1.heap.size W2 hR2.out.ar hrow2 h14 (zy1 hdp hok _) hBt) belowK_t (belowK_b (Nat.le_refl _)) (Below.refl _ _) (λ_=>rfl)
     (λpre W'=>(∀x∈pre,Zo st.hs x.1=false)/\Below W2.heap.size W2 W')
     (λc' pre W'=>((c'= .ret/\ ∃x∈pre,Zo st.hs x.1=true)/\(Boxed W' w.heap.size 4 (.bool true)/\(∀D∈Ds,W'.heap[D]?=some (.deferred (some [])))))/\Below w.heap.size w W')
     (OwnFrom.and (λ_ _ _ _ hs _ _=>hs) (ownFrom_below (Nat.le_refl _) (Nat.le_refl _)))
     (λc'=>OwnFrom.and (OwnFrom.and (λ_ _ _ _ hs _ _=>hs) (OwnFrom.and (Own.from (boxed_own _ _ _) _) (λpre X Y row hs hg hr=>?own))) (ownFrom_below (Nat.le_refl _) yue))
     ⟨λx hx=>by simp at hx,Below.refl _ _⟩
     (λx a' _=>a'={tmps:=#[ptr br,undef, .pointer (some ⟨w.heap.size,0,none⟩),undef,ptr tb,enV (Qu ms) x.1,undef,undef,ptr br, .pointer (some ⟨br,0,none⟩), .pointer (some ⟨br,2,none⟩), .int .i64 st.cells, .bool false, .bool false,ptr br, .pointer (some ⟨br,0,none⟩), .pointer (some ⟨br,0,none⟩), .pointer (some ⟨br,1,none⟩), .slice (some ⟨g,0,none⟩) st.threads.length tk, .int .i64 (st.threads.length:Int), .bool false, .bool false,ptr br, .pointer (some ⟨br,0,none⟩), .pointer (some ⟨br,0,none⟩), .pointer (some ⟨br,1,none⟩), .slice (some ⟨g,0,none⟩) st.threads.length tk, .int .i64 (st.threads.length:Int), .int .i64 (k:Int), .bool true, .pointer (some ⟨g,k,none⟩),ptr tb,ptr tb, .pointer (some ⟨tb,0,none⟩), .pointer (some ⟨tb,0,none⟩), .pointer (some ⟨tb,0,none⟩), .slice ra (st.ents st.threads[k]).length rc, .int .i64 Mb, .bool (decide (3<Mb)),ptr tb, .pointer (some ⟨tb,0,none⟩), .pointer (some ⟨tb,0,none⟩), .pointer (some ⟨tb,0,none⟩), .slice ra (st.ents st.threads[k]).length rc, .func (.func 98) #[] #[.pointer (some ⟨W1.heap.size,0,none⟩)],enV (Qu ms) x.1,undef,undef,undef,undef,undef,undef,undef,undef,undef,undef,undef,undef,undef,undef,undef,u61],defers:=[]})
     (λx a' _ X Y row hs _ _=>hs)
     ?assign ?body ?done ?stop
    case own=>
     intro D hD
     exact (hg.block D (Array.getElem?_eq_some_iff.1 (hs D hD)).1 (λe=>by have:=(hr D e.symm).1;have:=(hds2 D hD).2.1;omega)).trans (hs D hD)
    case assign=>
     rintro l pre x W' K hI hK
     gi_wp2
     exact hK _ _ (KeepsFrom.refl _ _) (Below.refl _ _) hI rfl
    case done=>
     rintro D' ys W' hD hS ⟨hno,hb⟩ hK
     gi_wp2
     refine ⟨⟨k+1,_,_,_,_,_,_,_,_,_,_,_,_,_,_,_,_,_,_,D'::Ds,by omega,rfl,⟨low2.trans (hb.mono yue),(hb.block w.heap.size hl2).trans bx2,List.nodup_cons.2 ⟨λe=>by have:=(hds2 D' e).2.1;omega,HI.out.nd⟩,λE hE=>?_,λj hj hjk=>?_⟩⟩,?_⟩
     ·rcases List.mem_cons.1 hE with rfl|hE
      ·exact ⟨by omega,(Array.getElem?_eq_some_iff.1 hK).1,hK⟩
      ·exact ⟨(hds2 E hE).1,Nat.lt_of_lt_of_le (hds2 E hE).2.1 hb.size,(hb.block E (hds2 E hE).2.1).trans (hds2 E hE).2.2⟩
     ·by_cases e:j=k
      ·subst e
       have:(Jf st.hs 3 (st.ents st.threads[j])).any (Zo st.hs)=false:=by
        rw [List.any_eq_false]
        intro y hy
        rw [<-hS] at hy
        obtain ⟨x,hx,rfl⟩:=List.mem_map.1 hy
        simp [hno x hx]
       simp [RS.thrMuch,hM,h3,this]
      ·exact HI.out.no j hj yue
     ·simp [intOf];omega
    case stop=>
     rintro D' c' pre W' hD hSp ⟨⟨⟨rfl,x,hx,hm⟩,bx,hds⟩,hb⟩ hK
     gi_wp2
     refine zb2 (Ds:=D'::Ds) rfl hb bx.cell (List.nodup_cons.2 ⟨λe=>by have:=(hds2 D' e).2.1;omega,HI.out.nd⟩) (λE hE=>?_) _ ?_
     ·rcases List.mem_cons.1 hE with rfl|hE
      ·exact ⟨by omega,hK⟩
      ·exact ⟨(hds2 E hE).1,hds E hE⟩
     ·rw [List.any_eq_true]
      refine ⟨st.threads[k],List.getElem_mem hlt,?_⟩
      have:(Jf st.hs 3 (st.ents st.threads[k])).any (Zo st.hs)=true:=List.any_eq_true.2 ⟨x.1,hSp.subset (List.mem_map.2 ⟨x,hx,rfl⟩),hm⟩
      simp [RS.thrMuch,this]
    case body=>
     rintro l pre ⟨e,he⟩ a' W' hl _ ⟨hno,hb⟩ rfl hlt
     have hsn:Zo st.hs e=false->∀x∈pre++[(⟨e,he⟩:zcs st.hs)],Zo st.hs x.1=false:=λhm x hx=>(List.mem_append.1 hx).elim (hno x) (λh=>by simp at h;subst h;exact hm)
     have he0:=he
     rcases he0 with ⟨s,rfl,hh⟩|⟨j,y,s,rfl,hj,hky,hh,ht,hl14,hsub⟩
     ·have hm:Zo st.hs (.inl s)=false:=rfl
      have HS:=hid (hsn hm)
      have hv:enV (Qu ms) (.inl s)=stV s:=rfl
      rw [hv]
      clear hsn hv
      rcases s with ⟨to,a⟩|⟨to,k,a,c⟩|⟨to,f,a⟩|⟨f,a,c⟩|a|⟨⟩|a|n
      ·simp only [stV]
       gi_wp2
       exact ⟨KeepsFrom.refl _ _,Below.refl _ _,HS.out,hb⟩
      ·simp only [stV]
       gi_wp2
       exact ⟨KeepsFrom.refl _ _,Below.refl _ _,HS.out,hb⟩
      ·simp only [stV]
       gi_wp2
       exact ⟨KeepsFrom.refl _ _,Below.refl _ _,HS.out,hb⟩
      ·simp only [stV]
       gi_wp2
       exact ⟨KeepsFrom.refl _ _,Below.refl _ _,HS.out,hb⟩
      ·simp only [stV]
       gi_wp2
       exact ⟨KeepsFrom.refl _ _,Below.refl _ _,HS.out,hb⟩
      ·simp [Qf] at hh
      ·simp [Qf] at hh
      ·simp [Qf] at hh
     ·obtain ⟨hl5,e1,e2⟩:=Eg (hR2.out.ar.below hb) hj
      have HAW:=hid (hR2.out.ar.below hb)
      have hrowW:=(HAW.out.hd j hl5).row
      rw [e1] at hrowW
      have hcW:=(HAW.out.hd j hl5).rc
      obtain ⟨ya,yc,hyr⟩: ∃a c,ms[j].rv= .slice a y.ents.length c:=by
       rcases hrowW.2 with ⟨q1,q2⟩|⟨g',cap',cur,q1,_⟩
       ·exact ⟨none,0,by rw [q1,q2]⟩
       ·exact ⟨_,_,q1⟩
      rw [hyr] at hrowW hcW
      have hen:Zo st.hs (.inr j)=(HK.isAtomic (.st s)&&decide (8<(y.ents.map (Zn st.hs kdO 3)).sum)):=by simp only [Zo,kdA,Jb,hj,hky]
      rw [e2,hky]
      have KO:=hid (CallsIn.inRound l ((callsIn_wide (n:=n- 1- 1- 1)).2 (z0i (f:=3) yue HAW.out hrowW hl14 (λe' he'=>Gt 2 e' (hsub e' he')))))
      generalize ms[j].b=jb at*
      generalize (y.ents.map (Zn st.hs kdO 3)).sum=So at*
      have HSN:=hid hsn
      have cbW:=(hb.cell (p:=⟨w.heap.size,0,none⟩) hl2).trans bx2.cell
      have fbW:=(hb.frozen (p:=⟨w.heap.size,0,none⟩) hl2).trans bx2.frozen
      have h1r:1<=n- 1- 1:=yue
      clear hsn hrowW
      rcases s with ⟨to,a⟩|⟨to,k,a,c⟩|⟨to,f,a⟩|⟨f,a,c⟩|a|⟨⟩|a|nn
      ·simp [Qf] at hh
      ·simp [Qf] at hh
      ·simp [Qf] at hh
      ·simp [Qf] at hh
      ·simp [Qf] at hh
      ·simp only [hkT]
       gi_wp2_with (gi_at_call 69;refine KO.out.mono ?_;clear KO;rintro e W3 ⟨rfl,b3⟩;have cb3:=(b3.cell (p:=⟨w.heap.size,0,none⟩) (blt cbW)).trans cbW;have fb3:=(b3.frozen (p:=⟨w.heap.size,0,none⟩) (blt cbW)).trans fbW;have B3:=hid b3;clear b3)
       ·have h8:8<So:=by assumption
        have KF:KeepsFrom W2.heap.size W' W3:=KeepsFrom.of_grownBy (row:=none) ⟨B3.out.os,B3.out.tape,B3.out.output,B3.out.size,λq hq _=>B3.out.block q hq⟩ (λq e=>by cases e)
        have bx3:Boxed W3 w.heap.size 4 (.bool false):=(B3.out.block w.heap.size (blt cbW)).trans ((hb.block w.heap.size hl2).trans bx2)
        have low3:Below w.heap.size w W3:=(low2.trans (hb.mono yue)).trans (B3.out.mono (by have:=hb.size;omega))
        refine ⟨KF.trans ((KeepsOthers.setCell W3 ⟨w.heap.size,0,none⟩ (.bool true)).from _),⟨⟨rfl,⟨.inr j,he⟩,by simp,?_⟩,bx3.set _,λD hD=>?_⟩,low3.setCell (p:=⟨w.heap.size,0,none⟩) (Nat.le_refl _) _⟩
        ·rw [hen];simp [HK.isAtomic,h8]
        ·exact (KeepsOthers.setCell W3 ⟨w.heap.size,0,none⟩ (.bool true)).same D _ ((B3.out.block D (Nat.lt_of_lt_of_le (hds2 D hD).2.1 hb.size)).trans ((hb.block D (hds2 D hD).2.1).trans (hds2 D hD).2.2)) rfl
       ·have h8: ¬8<So:=by first|assumption|omega
        have KF:KeepsFrom W2.heap.size W' W3:=KeepsFrom.of_grownBy (row:=none) ⟨B3.out.os,B3.out.tape,B3.out.output,B3.out.size,λq hq _=>B3.out.block q hq⟩ (λq e=>by cases e)
        exact ⟨KF,B3.out.mono hb.size,HSN.out (by rw [hen];simp [h8]),hb.trans (B3.out.mono hb.size)⟩
      ·simp only [hkT]
       gi_wp2
       exact ⟨KeepsFrom.refl _ _,Below.refl _ _,λa b hx=>HSN.out (by rw [hen];rfl) ⟨a,b⟩ hx,hsz2▸hb⟩
      ·simp only [hkT]
       gi_wp2
       exact ⟨KeepsFrom.refl _ _,Below.refl _ _,λa b hx=>HSN.out (by rw [hen];rfl) ⟨a,b⟩ hx,hsz2▸hb⟩
  ·have hlt': ¬(k:Int)<(st.threads.length:Int):=by omega
   have cb:=HI.out.box.cell
   have fb:=HI.out.box.frozen
   gi_wp2
   refine zb2 rfl (HI.out.low.setCell (p:=⟨w.heap.size,0,none⟩) (Nat.le_refl _) _) (Qg cb rfl) HI.out.nd (λD hD=>⟨(HI.out.ds D hD).1,(KeepsOthers.setCell W ⟨w.heap.size,0,none⟩ (.bool false)).same D _ (HI.out.ds D hD).2.2 rfl⟩) _ ?_
   rw [List.any_eq_false]
   intro t ht
   obtain ⟨i,hi,rfl⟩:=List.getElem_of_mem ht
   have:=HI.out.no i hi yue
   simp [this]
end
open Go.RowKit Go.Shelf
theorem zsp(W:World)(st:RS):zsi W st (zay st):=by
 intro w br h
 obtain ⟨E,lab,sb,bs,tv,ov,ms,_,hm⟩:=h.m
 unfold zay
 by_cases h1:6<st.cells
 ·rw [decide_eq_true h1]
  exact (callsIn_wide (n:=6)).1 (zox 6 hm h1)
 ·rw [decide_eq_false h1]
  by_cases h2:3<st.threads.length
  ·rw [decide_eq_true h2]
   exact (callsIn_wide (n:=6)).1 (zh8 6 hm h1 h2)
  ·rw [decide_eq_false h2]
   exact (callsIn_wide (n:=6)).1 (zso 6 yue hm h.ok h.deep h1 yue)
theorem zkp(s:ByteArray):zsh s (s.data.toList.count 10):=by
 intro w _
 refine (Tryz.strings_Count_one s 10 w).mono ?_
 rintro e w' ⟨rfl,rfl⟩
 exact ⟨rfl,Below.refl _ _⟩
def zaz(s:ByteArray):Except (Int×Int) RS:=
 match Jl s with
 | .error e=> .error e
 | .ok st=>if st.opn.length≠1 then .error (3,(s.data.toList.count 10:Int)+1) else if zay st=true then .error (5,0) else .ok st
theorem Iv{s:ByteArray}{st:RS}(h:Jl s= .ok st):s.size<=2000:=by
 unfold Jl at h
 by_cases hs:2000<s.size
 ·rw [if_pos hs] at h;cases h
 ·omega
def z3o(W:World)(r:Except (Int×Int) RS)(e:Ending)(w':World):Prop:=
 match r with
 | .error (er,ln)=>∃bf,e= .returned (.tuple #[.pointer none, .iface 66 (ptr bf)])/\W.heap.size<=bf/\FaultAt w' bf er ln/\Below W.heap.size W w'
 | .ok st=>∃br,e= .returned (.tuple #[ptr br, .nilIface])/\Has W w' br st
theorem zmt{W:World}(hE:Env W)(s:ByteArray):Cl 28 #[.string s] W λe w'=>z3o W (zaz s) e w':=by
 unfold zaz
 cases hg:Jl s with
 |error p=>
  obtain ⟨er,ln⟩:=p
  exact zow hE s hg
 |ok st=>
  have hs:=Iv hg
  have hc:s.data.toList.count 10<=s.data.toList.length:=List.count_le_length
  have hl:s.data.toList.length=s.size:=Array.length_toList
  dsimp only
  by_cases ho:st.opn.length=1
  ·rw [if_neg (by simpa using ho)]
   cases hm:zay st with
   |true=>
    rw [if_pos rfl]
    exact zsl hE s hg ho (hid (hm▸zsp W st))
   |false=>
    rw [if_neg yuf]
    exact zsm hE s hg ho (hid (hm▸zsp W st))
  ·rw [if_pos ho]
   exact zsk hE s hg ho yue (hid (zkp s))
end Go.Proofs.YtkenoofmkbghiaaGreatDoor
