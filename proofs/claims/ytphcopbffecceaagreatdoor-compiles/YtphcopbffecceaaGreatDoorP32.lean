import Derived.Test.YtphcopbffecceaaGreatDoorP30
namespace Go.Proofs.YtphcopbffecceaaGreatDoor
open Go.RowKit
section
variable{D:Nat->Prop}{lab:Nat->Nat×Nat}{w:World}{m:DM}{d:DR}{u:ByteArray}{bw cap L:Nat}{N:List NK}{op:Option Addr}{tnv:Value}{co gt ct T K1:Nat}{K2:Int}{r:Except Int DR}{gB pB aB:Bool}
def zbg(d:DR)(N:List NK)(k:NK)(r:Except Int DR):Except Int DR:=match r with
 | .error e=> .error e
 | .ok d1=>if d.stmts=14 then .error 5 else if d.opn.length=3 then .error 5 else .ok {d1 with thr:=d.thr.dropLast++[N++[k]],opn:=d.opn++[N.length],stmts:=d.stmts+1}
theorem zeo{D:Nat->Prop}{lab':Nat->Nat×Nat}{w W:World}{m m':DM}{d d1:DR}{N:List NK}{po:Option Addr}{co' gt0 ct0 T cn bx:Nat}{pn:Option Addr}{X:XV}{st:Nat}
  (hm:DMach (λk=>D k/\k≠bx) lab' W m' {d1 with stmts:=st}) (hD: ∀k,W.heap.size<=k->(D k/\k≠bx)) (hc:Chg (λk _=>D k) w W) (hx:XAt W bx X) (t2:d1.opn=d.opn) (hb1:m'.br=m.br) (hov:m'.ov= .slice po d.opn.length co')
  (hg: ∀g,(Value.slice po d.opn.length co').ownBlock=some g->lab' g=(0,6)/\(D g/\g≠bx)) (hn:lab' gt0≠(0,6)/\lab' m.br≠(0,6)/\lab' m.bp≠(0,6))
  (s0:W.cell? ⟨m.br,0,none⟩=some (ptr m.bp)) (s1:W.cell? ⟨m.bp,0,none⟩=some (.slice (some ⟨gt0,0,none⟩) (T+1) ct0)) (s2:W.cell? ⟨gt0,T,none⟩=some (.slice pn N.length cn)) (s5:W.cell? ⟨m.br,5,none⟩=some (.slice po d.opn.length co')) (s6:W.frozen? ⟨m.br,5,none⟩=false):
  ∀V,Below W.heap.size W V->∀g5 c5 w5,w5.ownsRow 0 3 1 (.slice (some ⟨g5,0,none⟩) (d.opn.length+1) c5) (d.opn.length+1) ((d.opn.map λ(k:Nat)=> .int .i64 (k:Int))++[.int .i64 (N.length:Int)])->Chg (λb _=>(Value.slice po d.opn.length co').ownBlock=some b) V w5->((Value.slice po d.opn.length co').ownBlock=some g5\/g5=V.heap.size) ->
   (w5.cell? ⟨m.br,0,none⟩=some (ptr m.bp)/\w5.cell? ⟨m.bp,0,none⟩=some (.slice (some ⟨gt0,0,none⟩) (T+1) ct0)/\w5.cell? ⟨gt0,T,none⟩=some (.slice pn N.length cn)/\w5.cell? ⟨m.br,5,none⟩=some (.slice po d.opn.length co')/\w5.frozen? ⟨m.br,5,none⟩=false)/\
   Chg (λk _=>D k) w (w5.setCell ⟨m.br,5,none⟩ (.slice (some ⟨g5,0,none⟩) (d.opn.length+1) c5))/\XAt (w5.setCell ⟨m.br,5,none⟩ (.slice (some ⟨g5,0,none⟩) (d.opn.length+1) c5)) bx X/\
   (∀k,(w5.setCell ⟨m.br,5,none⟩ (.slice (some ⟨g5,0,none⟩) (d.opn.length+1) c5)).heap.size<=k->(D k/\k≠bx))/\ ∃lab5 m5,m5.br=m'.br/\m5.bp=m'.bp/\DMach (λk=>D k/\k≠bx) lab5 (w5.setCell ⟨m.br,5,none⟩ (.slice (some ⟨g5,0,none⟩) (d.opn.length+1) c5)) m5 {d1 with stmts:=st,opn:=d.opn++[N.length]}:=by
 intro V hV g5 c5 w5 ho hch hg5
 have hc5:Chg (λb _=>(Value.slice po d.opn.length co').ownBlock=some b) W w5:=(Chg.of_below (M:=λb _=>(Value.slice po d.opn.length co').ownBlock=some b) hV).trans hch
 have hset:Chg (λk j=>k=m.br/\j=5) w5 (w5.setCell ⟨m.br,5,none⟩ (.slice (some ⟨g5,0,none⟩) (d.opn.length+1) c5)):=(Chg.refl _ w5).setCell (λ_=>⟨rfl,rfl⟩) _
 have nb: ∀k,lab' k≠(0,6)->¬(Value.slice po d.opn.length co').ownBlock=some k:=λk h e=>h (hg k e).1
 have hDb:D m.br/\m.br≠bx:=hb1▸hm.lb.2
 have q5:=(hc5.cell _ _ (blt s5) (nb _ hn.2.1)).trans s5
 have hgb:g5≠m.br:=by
  rcases hg5 with e|e
  ·exact λq=>nb _ hn.2.1 (q▸e)
  ·have lb:m.br<W.heap.size:=blt s5
   have:=hV.size
   omega
 have hgx:g5≠bx:=by
  rcases hg5 with e|e
  ·exact (hg g5 e).2.2
  ·have:=hx.lt
   have:=hV.size
   omega
 refine ⟨⟨(hc5.cell _ _ (blt s0) (nb _ hn.2.1)).trans s0,(hc5.cell _ _ (blt s1) (nb _ hn.2.2)).trans s1,(hc5.cell _ _ (blt s2) (nb _ hn.1)).trans s2,q5,(hc5.frozen _ _ (blt s5)).trans s6⟩,?_,?_,λk hk=>hD k (Nat.le_trans (Nat.le_trans hc5.size hset.size) hk),?_⟩
 ·exact (hc.then hc5 λk j hk e=>(hg k e).2.1).setCell (λ_=>hDb.1) _
 ·exact (hx.keep hc5 λj e=>(hg _ e).2.2 rfl).keep hset λj e=>hDb.2 e.1.symm
 ·have hr2:=Qc ho hset (λb hb j e=>hgb ((show g5=b by simpa [Value.ownBlock] using hb).trans e.1))
  have hl:({d1 with stmts:=st}:DR).opn=d.opn:=t2
  obtain ⟨lab5,h5⟩:=hm.openF (w':=w5.setCell ⟨m.br,5,none⟩ (.slice (some ⟨g5,0,none⟩) (d.opn.length+1) c5)) hD (g1:=g5) (c1:=c5) (a:=N.length) (by rw [hl];exact hr2) (by rw [hb1,hl];exact Qg q5 rfl) (by rw [hov];exact hg5.imp id (λe=>by have:=hV.size;omega)) ((hc5.mono (M':=FM (λk=>D k/\k≠bx) lab' m' [(0,6)] [5] []) λk j _ e _=> .inl (by rw [(hg k e).1];simp)).trans (hset.mono λk j _ e _=> .inr (.inl ⟨by rw [hb1];exact e.1,by rw [e.2];simp⟩)))
  rw [hl] at h5
  exact ⟨lab5,{m' with ov:= .slice (some ⟨g5,0,none⟩) (d.opn.length+1) c5},rfl,rfl,h5⟩
end
end Go.Proofs.YtphcopbffecceaaGreatDoor
