import Derived.Test.YtphcopbffecceaaGreatDoorP37
import Derived.Test.YtphcopbffecceaaGreatDoorP28
set_option maxRecDepth 100000
set_option maxHeartbeats 2000000
namespace Go.Proofs.YtphcopbffecceaaGreatDoor
open Go.RowKit
section
variable{w:World}{br bp bw cap L:Nat}{x y:ByteArray}{k q:Int}
theorem zpj{sv:Value}{pt:Option Addr}{ct:Nat}(c0:w.cell? ⟨br,0,none⟩=some (ptr bp))(c1:w.cell? ⟨br,1,none⟩=some sv)(p0:w.cell? ⟨bp,0,none⟩=some (.slice pt 0 ct))(w1:w.cell? ⟨bw,1,none⟩=some (.string x))(hL1:(1:Int)<(L:Int))(hk:0<=k)
  (KS:Hid (∀w',Below w.heap.size w w'->Cl 22 #[sv, .string x] w' λe w2=>e= .returned (.int .i64 k)/\w2=w')):
  Cl 23 #[ptr br, .slice (some ⟨bw,0,none⟩) L cap] w λe w'=>e= .returned (.int .i64 4)/\w'=w.drew:=by
 have hlt:br<w.heap.size:=blt c0
 have hlp:bp<w.heap.size:=blt p0
 have hlw:bw<w.heap.size:=blt w1
 go_enter Tryz.func23,Tryz.ntmps23
 go_wp2_with fail
 refine wp_region_held_drew (S:=(λw'=>w'.cell? ⟨br,1,none⟩=some sv/\w'.cell? ⟨bw,1,none⟩=some (.string x))) yak ?_ (λhHeld=>?_)
 ·(try dsimp only);go_keep
 refine Qa 0 (h:=Qa 1 (h:=Qa 2 (h:=Qa 3 (h:=Qa 4 (h:=Qa 5 (h:=Qa 6 (h:=?_)))))))
 refine tr [7] (.cons rfl (λKQ hKQ=>?_) .nil)
 (go_simp;go_at_call 22;refine (KS.out _ (Qi _ w)).mono ?_;rintro e w1 ⟨rfl,hw⟩;subst w1)
 refine hKQ.out _ _ ?_ (λhHeld=>?_)
 ·(try dsimp only);go_keep
 clear hKQ KQ
 refine Qa 8 (h:=?_)
 refine wpAnyH_done yak ?_ _
 go_wp2
 go_ret
 exact ⟨rfl,rfl⟩
variable{D:Nat->Prop}{lab:Nat->Nat×Nat}{m:DM}{d:DR}
theorem DMach.share_is(h:DMach D lab w m d)(hk:DOk d)(hD: ∀k,w.heap.size<=k->D k)(nw: ¬D bw)(w1:w.cell? ⟨bw,1,none⟩=some (.string x))(hq:1<=q/\q<=6)(hL:(L=2/\q=1)\/(L=3/\w.cell? ⟨bw,2,none⟩=some (.string y)/\Qk y=some q)):
  Cl 23 #[ptr m.br, .slice (some ⟨bw,0,none⟩) L cap] w (DPost D w m (Ge d x q)):=by
 unfold Ge
 have c0:=h.c0
 have hL1:(1:Int)<(L:Int):=by rcases hL with ⟨e,_⟩|⟨e,_⟩<;>omega
 obtain ⟨pt,ct,htv⟩: ∃pt ct,m.tv= .slice pt d.thr.length ct:=by
  rcases h.trow.2 with ⟨q1,q2⟩|⟨g,cap,cur,q1,_⟩
  ·exact ⟨none,0,by rw [q1,q2]⟩
  ·exact ⟨_,_,q1⟩
 have p0:=h.p0
 rw [htv] at p0
 by_cases ht:0<d.thr.length
 ·rw [if_pos ht]
  refine (zlc c0 p0 yai).mono ?_
  rintro e w' ⟨rfl,rfl⟩
  exact ⟨Chg.refl _ _,rfl⟩
 rw [if_neg ht]
 have ht0:d.thr=[]:=List.length_eq_zero_iff.1 yai
 have htl:d.thr.length=0:=by rw [ht0];rfl
 rw [htl] at p0
 have KS:=hid (h.inSh hk.s x)
 cases hs:Uh (d.shared.map (·.1)) x with
 |true=>
  obtain ⟨kk,hkk,_⟩:=zdc hs
  rw [hkk] at KS
  rw [if_pos (by rw [zit];exact hs)]
  refine (zpj c0 h.c1 p0 w1 hL1 yai KS).mono ?_
  rintro e w' ⟨rfl,rfl⟩
  exact ⟨(Chg.refl _ _).drew,rfl⟩
 |false=>
  rw [if_neg (by rw [zit,hs];simp)]
  have hbb:m.br≠m.bp:=λe=>by
   have:=h.lb.1
   rw [e,h.lp.1] at this
   cases this
  have lb:=Qd h.sh
  have lp:=Qd h.psh
  have nL: ∀k k' l l',lab k=l->lab k'=l'->l≠l'->k≠k':=λk k' l l' a b c e=>c (by rw [<-a,<-b,e])
  have hS:SlotsAt (λk j=>D k/\FM D lab m [(0,2),(0,3),(0,4)] [1,2,3] [1] k j) w w [(m.br,0,ptr m.bp),(m.bp,1, .int .i64 d.cells),(bw,1, .string x)] [(m.bp,1)] [ztv m.br m.sv d.shared.length (d.shared.map λp=> .string p.1),ztw m.br m.fv d.shared.length (d.shared.map λp=> .int .i64 p.2.1),ztx m.br m.zv d.shared.length (d.shared.map λp=> .int .i64 p.2.2)]:={
   chg:=Chg.refl _ _
   uniq:=λs hs q hq e=>by
    simp at hs hq
    rcases hs with rfl|rfl|rfl<;>rcases hq with rfl|rfl|rfl<;>first|rfl|(simp at e)
   cell:=λs hs=>by
    simp at hs
    rcases hs with rfl|rfl|rfl
    ·exact h.c1
    ·exact h.c2
    ·exact h.c3
   free:=λs hs=>by
    simp at hs
    rcases hs with rfl|rfl|rfl<;>exact h.free _
   row:=λs hs=>by
    simp at hs
    rcases hs with rfl|rfl|rfl
    ·exact h.srow
    ·exact h.frow
    ·exact h.zrow
   keep:=λq hq=>by
    simp at hq
    rcases hq with rfl|rfl|rfl
    ·exact h.c0
    ·exact h.p1
    ·exact w1
   fr:=λq hq=>by
    simp at hq
    subst hq
    exact ⟨lp,h.pfree 1⟩
   dis:=λs hs q hq e=>by
    simp at hs hq
    rcases hs with rfl|rfl|rfl<;>rcases hq with rfl|rfl|rfl
    ·exact absurd rfl e
    ·exact ⟨.inr yaj,λg a b=>nL _ _ _ _ (h.ls g a).1 (h.lf g b).1 yaj rfl⟩
    ·exact ⟨.inr yaj,λg a b=>nL _ _ _ _ (h.ls g a).1 (h.lz g b).1 yaj rfl⟩
    ·exact ⟨.inr yaj,λg a b=>nL _ _ _ _ (h.lf g a).1 (h.ls g b).1 yaj rfl⟩
    ·exact absurd rfl e
    ·exact ⟨.inr yaj,λg a b=>nL _ _ _ _ (h.lf g a).1 (h.lz g b).1 yaj rfl⟩
    ·exact ⟨.inr yaj,λg a b=>nL _ _ _ _ (h.lz g a).1 (h.ls g b).1 yaj rfl⟩
    ·exact ⟨.inr yaj,λg a b=>nL _ _ _ _ (h.lz g a).1 (h.lf g b).1 yaj rfl⟩
    ·exact absurd rfl e
   nb:=λs hs g hg=>by
    have hl:(lab g=(0,2)\/lab g=(0,3)\/lab g=(0,4))/\D g:=by
     simp at hs
     rcases hs with rfl|rfl|rfl
     ·exact ⟨.inl (h.ls g hg).1,(h.ls g hg).2⟩
     ·exact ⟨.inr (.inl (h.lf g hg).1),(h.lf g hg).2⟩
     ·exact ⟨.inr (.inr (h.lz g hg).1),(h.lz g hg).2⟩
    have hgb:g≠m.br:=λe=>by
     have:=hl.1
     rw [e,h.lb.1] at this
     simp at this
    have hgp:g≠m.bp:=λe=>by
     have:=hl.1
     rw [e,h.lp.1] at this
     simp at this
    refine ⟨λq hq=>?_,λq hq=>?_⟩
    ·simp at hq
     rcases hq with rfl|rfl|rfl<;>exact hgb
    ·simp at hq
     rcases hq with rfl|rfl|rfl
     ·exact hgb
     ·exact hgp
     ·exact λe=>nw ((show g=bw from e)▸hl.2)
   nk:=λs hs q hq=>by
    have hbw:m.br≠bw:=λe=>nw (e▸h.lb.2)
    simp at hs hq
    rcases hs with rfl|rfl|rfl<;>rcases hq with rfl|rfl|rfl<;>first|exact .inl hbb|exact .inl hbw|exact .inr yaj
   old:=λs hs g hg _ j=>by
    simp at hs
    rcases hs with rfl|rfl|rfl
    ·exact ⟨(h.ls g hg).2,λ_=> .inl (by rw [(h.ls g hg).1];simp)⟩
    ·exact ⟨(h.lf g hg).2,λ_=> .inl (by rw [(h.lf g hg).1];simp)⟩
    ·exact ⟨(h.lz g hg).2,λ_=> .inl (by rw [(h.lz g hg).1];simp)⟩
   slot:=λs hs _=>by
    simp at hs
    rcases hs with rfl|rfl|rfl<;>exact ⟨h.lb.2,λ_=> .inr (.inl ⟨rfl,by simp⟩)⟩
   org:=λs hs g hg=>by
    simp at hs
    rcases hs with rfl|rfl|rfl<;>exact .inl hg}
  refine (zpi hS p0 hbb ⟨h.lp.2,λ_=> .inr (.inr ⟨rfl,by simp⟩)⟩ hk.s hk.c (by have:=zdd hs;omega) hq hL KS).mono ?_
  rintro e w' ⟨rfl,g1,c1,g2,c2,g3,c3,hT⟩
  have n1:=(hT.dis _ (List.mem_cons_self ..) _ (List.mem_cons_of_mem _ (List.mem_cons_self ..)) ybr).2 g1 rfl
  have n2:=(hT.dis _ (List.mem_cons_self ..) _ (List.mem_cons_of_mem _ (List.mem_cons_of_mem _ (List.mem_cons_self ..))) ybr).2 g1 rfl
  have n3:=(hT.dis _ (List.mem_cons_of_mem _ (List.mem_cons_self ..)) _ (List.mem_cons_of_mem _ (List.mem_cons_of_mem _ (List.mem_cons_self ..))) ybr).2 g2 rfl
  have i1:=List.mem_cons_self (a:=(ztv m.br m.sv d.shared.length (d.shared.map λp=>Value.string p.1)).more g1 c1 (.string x)) (l:=[(ztw m.br m.fv d.shared.length (d.shared.map λp=>Value.int .i64 p.2.1)).more g2 c2 (.int .i64 d.cells),(ztx m.br m.zv d.shared.length (d.shared.map λp=>Value.int .i64 p.2.2)).more g3 c3 (.int .i64 q)])
  have i2:=List.mem_cons_of_mem ((ztv m.br m.sv d.shared.length (d.shared.map λp=>Value.string p.1)).more g1 c1 (.string x)) (List.mem_cons_self (a:=(ztw m.br m.fv d.shared.length (d.shared.map λp=>Value.int .i64 p.2.1)).more g2 c2 (.int .i64 d.cells)) (l:=[(ztx m.br m.zv d.shared.length (d.shared.map λp=>Value.int .i64 p.2.2)).more g3 c3 (.int .i64 q)]))
  have i3:=List.mem_cons_of_mem ((ztv m.br m.sv d.shared.length (d.shared.map λp=>Value.string p.1)).more g1 c1 (.string x)) (List.mem_cons_of_mem ((ztw m.br m.fv d.shared.length (d.shared.map λp=>Value.int .i64 p.2.1)).more g2 c2 (.int .i64 d.cells)) (List.mem_cons_self (a:=(ztx m.br m.zv d.shared.length (d.shared.map λp=>Value.int .i64 p.2.2)).more g3 c3 (.int .i64 q)) (l:=[])))
  obtain ⟨lab',h'⟩:=h.shareF hD ht0 (x:=x) (n:=q) (hT.row _ i1) (hT.row _ i2) (hT.row _ i3) (hT.cell _ i1) (hT.cell _ i2) (hT.cell _ i3) (hT.keep _ (List.mem_cons_self ..)) (hT.org _ i1 g1 rfl) (hT.org _ i2 g2 rfl) (hT.org _ i3 g3 rfl) (λe=>n1 ybs) (λe=>n2 ybs) (λe=>n3 ybs) (hT.chg.mono λ_ _ _ e=>e.2)
  exact ⟨hT.chg.mono λk j hk e=>e.1,rfl,lab',{m with sv:= .slice (some ⟨g1,0,none⟩) (d.shared.length+1) c1,fv:= .slice (some ⟨g2,0,none⟩) (d.shared.length+1) c2,zv:= .slice (some ⟨g3,0,none⟩) (d.shared.length+1) c3},rfl,rfl,h'⟩
end
end Go.Proofs.YtphcopbffecceaaGreatDoor
