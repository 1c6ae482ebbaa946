import Derived.Test.YtmomffminkflnaaGreatDoorRDdR5
set_option maxRecDepth 100000
set_option maxHeartbeats 32000000
namespace Go.Proofs
open Go.RowKit Go.Shelf
theorem Dd.load_want {ops:Array Oper}{rest:List Oper}{o:Oper}{a:Act}{w:World}{Q:Exit->Act->World->Prop}(hw:Region.wanted o (yielded ops a.tmps)=true)(ty:TypeId)(x:Operand)(ho:o.op=.load ty x)
  (b p:Nat) (hx:a.eval x=.pointer (some ⟨b,p,none⟩)) (cs:List Value) (d:TypeDesc) (hr:w.rangeAt b p cs) (hu:Tryz.prog.underlying ty=some d) (hd:d.isRow=true) (hi:(Tryz.prog.info? ty).map (·.size)=some cs.length)
  (h:wpList Tryz.prog ops Q rest (a.put o.dst (.agg cs.toArray)) w):wpList Tryz.prog ops Q (o::rest) a w:=
 wpList_step λK hK=>by
  simp only[hw,if_true];unfold Oper.wp execOp;simp only[ho,hx,Instr.loadAt,Instr.sureAddr,Sem.run_bind,Sem.run_pure,Result.andThen_ok,run_loadVar_mid w b p ty cs d hr hu hd hi];exact hK _ _ h
theorem Dd.ints_len {l:List Int}(h:l.length=104):(Tryz.prog.info? 41).map (·.size)=some (Dd.ints l).length:=by
 have:=Dd.info_row h;rw[Dd.row_size]at this;rw[this];simp[Dd.ints]
structure Dd.ExAt (w w1:World):Prop where
 a:w1.heap[w.heap.size]? =some (.cells #[.int .i64 2,.int .i64 0,.slice none 0 0,.int .i64 2,.int .i64 0,.slice none 0 0] 24 (0,0))
 t:w1.heap[w.heap.size+1]? =some (.cells #[.int .i64 10,.int .i64 0,.slice (some ⟨w.heap.size,0,none⟩) 2 2] 24 (0,0))
 c:w1.heap[w.heap.size+1+1]? =some (.cells #[.int .i64 10,.int .i64 0,.slice (some ⟨w.heap.size,0,none⟩) 2 2,.int .i64 0,.int .i64 0,.slice none 0 0] 24 (0,0))
 k:w1.heap[w.heap.size+1+1+1]? =some (.cells #[.int .i64 12,.int .i64 0,.int .i64 3,.int .i64 1,.int .i64 0,.int .i64 0,.slice none 0 0,.slice (some ⟨w.heap.size+1+1,0,none⟩) 2 2,.slice none 0 0,.slice none 0 0,.slice none 0 0,.slice none 0 0,.int .i64 5,.int .i64 1,.int .i64 0,.int .i64 0,.int .i64 0,.int .i64 0,.slice none 0 0,.slice none 0 0,.slice none 0 0,.slice none 0 0,.slice none 0 0,.slice none 0 0,.int .i64 12,.int .i64 2,.int .i64 4,.int .i64 0,.int .i64 0,.int .i64 0,.slice none 0 0,.slice none 0 0,.slice none 0 0,.slice none 0 0,.slice none 0 0,.slice none 0 0] 32 (0,0))
 l:w1.heap[w.heap.size+1+1+1+1]? =some (.cells #[.int .i64 (-1),.int .i64 0,.int .i64 0,.int .i64 1,.int .i64 0,.int .i64 2,.int .i64 1,.int .i64 2,.int .i64 2,.int .i64 (-1)] 80 (0,0))
 r:w1.heap[w.heap.size+1+1+1+1+1]? =some (.cells #[.int .i64 13,.int .i64 0,.int .i64 0,.int .i64 0,.int .i64 0,.int .i64 0,.slice none 0 0,.slice none 0 0,.slice (some ⟨w.heap.size+1+1+1,0,none⟩) 3 3,.slice (some ⟨w.heap.size+1+1+1+1,0,none⟩) 5 5,.slice none 0 0,.slice none 0 0] 32 (0,0))
 bel:Below w.heap.size w w1
theorem Dd.ex_at (w:World):Dd.ExAt w ((((((w.alloc (.cells #[.int .i64 2,.int .i64 0,.slice none 0 0,.int .i64 2,.int .i64 0,.slice none 0 0] 24)).alloc (.cells #[.int .i64 10,.int .i64 0,.slice (some ⟨w.heap.size,0,none⟩) 2 2] 24)).alloc (.cells #[.int .i64 10,.int .i64 0,.slice (some ⟨w.heap.size,0,none⟩) 2 2,.int .i64 0,.int .i64 0,.slice none 0 0] 24)).alloc (.cells #[.int .i64 12,.int .i64 0,.int .i64 3,.int .i64 1,.int .i64 0,.int .i64 0,.slice none 0 0,.slice (some ⟨w.heap.size+1+1,0,none⟩) 2 2,.slice none 0 0,.slice none 0 0,.slice none 0 0,.slice none 0 0,.int .i64 5,.int .i64 1,.int .i64 0,.int .i64 0,.int .i64 0,.int .i64 0,.slice none 0 0,.slice none 0 0,.slice none 0 0,.slice none 0 0,.slice none 0 0,.slice none 0 0,.int .i64 12,.int .i64 2,.int .i64 4,.int .i64 0,.int .i64 0,.int .i64 0,.slice none 0 0,.slice none 0 0,.slice none 0 0,.slice none 0 0,.slice none 0 0,.slice none 0 0] 32)).alloc (.cells #[.int .i64 (-1),.int .i64 0,.int .i64 0,.int .i64 1,.int .i64 0,.int .i64 2,.int .i64 1,.int .i64 2,.int .i64 2,.int .i64 (-1)] 80)).alloc (.cells #[.int .i64 13,.int .i64 0,.int .i64 0,.int .i64 0,.int .i64 0,.int .i64 0,.slice none 0 0,.slice none 0 0,.slice (some ⟨w.heap.size+1+1+1,0,none⟩) 3 3,.slice (some ⟨w.heap.size+1+1+1+1,0,none⟩) 5 5,.slice none 0 0,.slice none 0 0] 32)):=by
 obtain⟨v0,hv0⟩:=pE (w.alloc (.cells #[.int .i64 2,.int .i64 0,.slice none 0 0,.int .i64 2,.int .i64 0,.slice none 0 0] 24));obtain⟨v1,hv1⟩:=pE (v0.alloc (.cells #[.int .i64 10,.int .i64 0,.slice (some ⟨w.heap.size,0,none⟩) 2 2] 24));obtain⟨v2,hv2⟩:=pE (v1.alloc (.cells #[.int .i64 10,.int .i64 0,.slice (some ⟨w.heap.size,0,none⟩) 2 2,.int .i64 0,.int .i64 0,.slice none 0 0] 24));obtain⟨v3,hv3⟩:=pE (v2.alloc (.cells #[.int .i64 12,.int .i64 0,.int .i64 3,.int .i64 1,.int .i64 0,.int .i64 0,.slice none 0 0,.slice (some ⟨w.heap.size+1+1,0,none⟩) 2 2,.slice none 0 0,.slice none 0 0,.slice none 0 0,.slice none 0 0,.int .i64 5,.int .i64 1,.int .i64 0,.int .i64 0,.int .i64 0,.int .i64 0,.slice none 0 0,.slice none 0 0,.slice none 0 0,.slice none 0 0,.slice none 0 0,.slice none 0 0,.int .i64 12,.int .i64 2,.int .i64 4,.int .i64 0,.int .i64 0,.int .i64 0,.slice none 0 0,.slice none 0 0,.slice none 0 0,.slice none 0 0,.slice none 0 0,.slice none 0 0] 32));obtain⟨v4,hv4⟩:=pE (v3.alloc (.cells #[.int .i64 (-1),.int .i64 0,.int .i64 0,.int .i64 1,.int .i64 0,.int .i64 2,.int .i64 1,.int .i64 2,.int .i64 2,.int .i64 (-1)] 80))
 obtain⟨v5,hv5⟩:=pE (v4.alloc (.cells #[.int .i64 13,.int .i64 0,.int .i64 0,.int .i64 0,.int .i64 0,.int .i64 0,.slice none 0 0,.slice none 0 0,.slice (some ⟨w.heap.size+1+1+1,0,none⟩) 3 3,.slice (some ⟨w.heap.size+1+1+1+1,0,none⟩) 5 5,.slice none 0 0,.slice none 0 0] 32));have z0:v0.heap.size=w.heap.size+1:=by rw[<-hv0];simp
 have z1:v1.heap.size=w.heap.size+1+1:=by rw[<-hv1];simp[z0]
 have z2:v2.heap.size=w.heap.size+1+1+1:=by rw[<-hv2];simp[z1]
 have z3:v3.heap.size=w.heap.size+1+1+1+1:=by rw[<-hv3];simp[z2]
 have z4:v4.heap.size=w.heap.size+1+1+1+1+1:=by rw[<-hv4];simp[z3]
 have z5:v5.heap.size=w.heap.size+1+1+1+1+1+1:=by rw[<-hv5];simp[z4]
 have b0:=pB hv0
 have n0:v0.heap[w.heap.size]? =some (.cells #[.int .i64 2,.int .i64 0,.slice none 0 0,.int .i64 2,.int .i64 0,.slice none 0 0] 24 (0,0)):=by rw[<-hv0];have:=heap_alloc_new w (.cells #[.int .i64 2,.int .i64 0,.slice none 0 0,.int .i64 2,.int .i64 0,.slice none 0 0] 24);exact this
 have b1:=pB hv1
 have n1:v1.heap[w.heap.size+1]? =some (.cells #[.int .i64 10,.int .i64 0,.slice (some ⟨w.heap.size,0,none⟩) 2 2] 24 (0,0)):=by rw[<-hv1];have:=heap_alloc_new v0 (.cells #[.int .i64 10,.int .i64 0,.slice (some ⟨w.heap.size,0,none⟩) 2 2] 24);rw[z0]at this;exact this
 have b2:=pB hv2
 have n2:v2.heap[w.heap.size+1+1]? =some (.cells #[.int .i64 10,.int .i64 0,.slice (some ⟨w.heap.size,0,none⟩) 2 2,.int .i64 0,.int .i64 0,.slice none 0 0] 24 (0,0)):=by rw[<-hv2];have:=heap_alloc_new v1 (.cells #[.int .i64 10,.int .i64 0,.slice (some ⟨w.heap.size,0,none⟩) 2 2,.int .i64 0,.int .i64 0,.slice none 0 0] 24);rw[z1]at this;exact this
 have b3:=pB hv3
 have n3:v3.heap[w.heap.size+1+1+1]? =some (.cells #[.int .i64 12,.int .i64 0,.int .i64 3,.int .i64 1,.int .i64 0,.int .i64 0,.slice none 0 0,.slice (some ⟨w.heap.size+1+1,0,none⟩) 2 2,.slice none 0 0,.slice none 0 0,.slice none 0 0,.slice none 0 0,.int .i64 5,.int .i64 1,.int .i64 0,.int .i64 0,.int .i64 0,.int .i64 0,.slice none 0 0,.slice none 0 0,.slice none 0 0,.slice none 0 0,.slice none 0 0,.slice none 0 0,.int .i64 12,.int .i64 2,.int .i64 4,.int .i64 0,.int .i64 0,.int .i64 0,.slice none 0 0,.slice none 0 0,.slice none 0 0,.slice none 0 0,.slice none 0 0,.slice none 0 0] 32 (0,0)):=by rw[<-hv3];have:=heap_alloc_new v2 (.cells #[.int .i64 12,.int .i64 0,.int .i64 3,.int .i64 1,.int .i64 0,.int .i64 0,.slice none 0 0,.slice (some ⟨w.heap.size+1+1,0,none⟩) 2 2,.slice none 0 0,.slice none 0 0,.slice none 0 0,.slice none 0 0,.int .i64 5,.int .i64 1,.int .i64 0,.int .i64 0,.int .i64 0,.int .i64 0,.slice none 0 0,.slice none 0 0,.slice none 0 0,.slice none 0 0,.slice none 0 0,.slice none 0 0,.int .i64 12,.int .i64 2,.int .i64 4,.int .i64 0,.int .i64 0,.int .i64 0,.slice none 0 0,.slice none 0 0,.slice none 0 0,.slice none 0 0,.slice none 0 0,.slice none 0 0] 32);rw[z2]at this;exact this
 have b4:=pB hv4
 have n4:v4.heap[w.heap.size+1+1+1+1]? =some (.cells #[.int .i64 (-1),.int .i64 0,.int .i64 0,.int .i64 1,.int .i64 0,.int .i64 2,.int .i64 1,.int .i64 2,.int .i64 2,.int .i64 (-1)] 80 (0,0)):=by rw[<-hv4];have:=heap_alloc_new v3 (.cells #[.int .i64 (-1),.int .i64 0,.int .i64 0,.int .i64 1,.int .i64 0,.int .i64 2,.int .i64 1,.int .i64 2,.int .i64 2,.int .i64 (-1)] 80);rw[z3]at this;exact this
 have b5:=pB hv5
 have n5:v5.heap[w.heap.size+1+1+1+1+1]? =some (.cells #[.int .i64 13,.int .i64 0,.int .i64 0,.int .i64 0,.int .i64 0,.int .i64 0,.slice none 0 0,.slice none 0 0,.slice (some ⟨w.heap.size+1+1+1,0,none⟩) 3 3,.slice (some ⟨w.heap.size+1+1+1+1,0,none⟩) 5 5,.slice none 0 0,.slice none 0 0] 32 (0,0)):=by rw[<-hv5];have:=heap_alloc_new v4 (.cells #[.int .i64 13,.int .i64 0,.int .i64 0,.int .i64 0,.int .i64 0,.int .i64 0,.slice none 0 0,.slice none 0 0,.slice (some ⟨w.heap.size+1+1+1,0,none⟩) 3 3,.slice (some ⟨w.heap.size+1+1+1+1,0,none⟩) 5 5,.slice none 0 0,.slice none 0 0] 32);rw[z4]at this;exact this
 rw[hv0,hv1,hv2,hv3,hv4,hv5];have bb:Below w.heap.size w v5:=((((b0.trans (b1.mono (by omega))).trans (b2.mono (by omega))).trans (b3.mono (by omega))).trans (b4.mono (by omega))).trans (b5.mono (by omega));exact⟨((b5.block _ (by omega)).trans ((b4.block _ (by omega)).trans ((b3.block _ (by omega)).trans ((b2.block _ (by omega)).trans ((b1.block _ (by omega)).trans n0))))),((b5.block _ (by omega)).trans ((b4.block _ (by omega)).trans ((b3.block _ (by omega)).trans ((b2.block _ (by omega)).trans n1)))),((b5.block _ (by omega)).trans ((b4.block _ (by omega)).trans ((b3.block _ (by omega)).trans n2))),((b5.block _ (by omega)).trans ((b4.block _ (by omega)).trans n3)),((b5.block _ (by omega)).trans n4),n5,bb⟩
theorem Dd.ex_row {w1:World}{g o:Nat}{cs r:Array Value}{ty:TypeId}{fr:Nat×Nat}(h:w1.heap[g]? =some (.cells cs ty fr))(hr:∀i (hi:i<r.size),cs[o+i]? =some r[i]):Ac.Row w1 g o r:=λi hi=>by
 simp only[World.cell?,h];rw[hr i hi];rfl
theorem Dd.ex_lies {w w1:World}(h:Dd.ExAt w w1):Ac.Lies w1 w1.heap.size 2 2 ⟨.slice none 0 0,.slice none 0 0,.slice (some ⟨w.heap.size+1+1+1,0,none⟩) 3 3,.slice (some ⟨w.heap.size+1+1+1+1,0,none⟩) 5 5,.slice none 0 0,.slice none 0 0⟩ Dd.exT:=by
 have lt:∀{k:Nat} {o:Obj},w1.heap[k]? =some o->k<w1.heap.size:=λh=>(Array.getElem?_eq_some_iff.1 h).1
 have ly:Tm.Lies w1 w1.heap.size 2 (.slice (some ⟨w.heap.size,0,none⟩) 2 2) Dd.exY:=⟨_,_,rfl,.inr ⟨w.heap.size,0,rfl,lt h.a,λj hj=>by
  match j,hj with
  |0,_=>exact⟨.slice none 0 0,by simp only[World.cell?,h.a];rfl,by simp only[World.cell?,h.a];rfl,by simp only[World.cell?,h.a];rfl,⟨none,0,rfl,.inl rfl⟩⟩
  |1,_=>exact⟨.slice none 0 0,by simp only[World.cell?,h.a];rfl,by simp only[World.cell?,h.a];rfl,by simp only[World.cell?,h.a];rfl,⟨none,0,rfl,.inl rfl⟩⟩⟩⟩
 have l0:Ac.Lies w1 w1.heap.size 2 1 ⟨.slice none 0 0,.slice (some ⟨w.heap.size+1+1,0,none⟩) 2 2,.slice none 0 0,.slice none 0 0,.slice none 0 0,.slice none 0 0⟩ Dd.ex0:=⟨⟨Tm.lies_any w1 _ 1,⟨_,_,rfl,λj hj=>by
  match j,hj with
  |0,_=>exact⟨w.heap.size+1+1,0,_,rfl,lt h.c,by simp only[World.cell?,h.c];rfl,by simp only[World.cell?,h.c];rfl,by simp only[World.cell?,h.c];rfl,ly⟩
  |1,_=>exact⟨w.heap.size+1+1,0,_,rfl,lt h.c,by simp only[World.cell?,h.c];rfl,by simp only[World.cell?,h.c];rfl,by simp only[World.cell?,h.c];rfl,Tm.lies_any w1 _ 1⟩⟩,⟨none,0,rfl,λj h=>absurd h (Nat.not_lt_zero j)⟩,⟨none,0,rfl,λj h=>absurd h (Nat.not_lt_zero j)⟩,⟨none,0,rfl,λj h=>absurd h (Nat.not_lt_zero j)⟩⟩,none,0,rfl,λj hj=>absurd hj (Nat.not_lt_zero j)⟩
 have l1:Ac.Lies w1 w1.heap.size 2 1 ⟨.slice none 0 0,.slice none 0 0,.slice none 0 0,.slice none 0 0,.slice none 0 0,.slice none 0 0⟩ Dd.ex1:=⟨⟨Tm.lies_any w1 _ 1,⟨none,0,rfl,λj h=>absurd h (Nat.not_lt_zero j)⟩,⟨none,0,rfl,λj h=>absurd h (Nat.not_lt_zero j)⟩,⟨none,0,rfl,λj h=>absurd h (Nat.not_lt_zero j)⟩,⟨none,0,rfl,λj h=>absurd h (Nat.not_lt_zero j)⟩⟩,none,0,rfl,λj hj=>absurd hj (Nat.not_lt_zero j)⟩;have l2:Ac.Lies w1 w1.heap.size 2 1 ⟨.slice none 0 0,.slice none 0 0,.slice none 0 0,.slice none 0 0,.slice none 0 0,.slice none 0 0⟩ Dd.ex2:=⟨⟨Tm.lies_any w1 _ 1,⟨none,0,rfl,λj h=>absurd h (Nat.not_lt_zero j)⟩,⟨none,0,rfl,λj h=>absurd h (Nat.not_lt_zero j)⟩,⟨none,0,rfl,λj h=>absurd h (Nat.not_lt_zero j)⟩,⟨none,0,rfl,λj h=>absurd h (Nat.not_lt_zero j)⟩⟩,none,0,rfl,λj hj=>absurd hj (Nat.not_lt_zero j)⟩;have i12:∀{i:Nat},i<12->i=0∨i=1∨i=2∨i=3∨i=4∨i=5∨i=6∨i=7∨i=8∨i=9∨i=10∨i=11:=by omega
 refine⟨⟨Tm.lies_any w1 _ 1,⟨none,0,rfl,λj h=>absurd h (Nat.not_lt_zero j)⟩,⟨_,_,rfl,λj hj=>by
  match j,hj with
  |0,_=>exact⟨w.heap.size+1+1+1+1,0,rfl,lt h.l,by simp only[World.cell?,h.l];rfl,by simp only[World.cell?,h.l];rfl⟩
  |1,_=>exact⟨w.heap.size+1+1+1+1,0,rfl,lt h.l,by simp only[World.cell?,h.l];rfl,by simp only[World.cell?,h.l];rfl⟩
  |2,_=>exact⟨w.heap.size+1+1+1+1,0,rfl,lt h.l,by simp only[World.cell?,h.l];rfl,by simp only[World.cell?,h.l];rfl⟩
  |3,_=>exact⟨w.heap.size+1+1+1+1,0,rfl,lt h.l,by simp only[World.cell?,h.l];rfl,by simp only[World.cell?,h.l];rfl⟩
  |4,_=>exact⟨w.heap.size+1+1+1+1,0,rfl,lt h.l,by simp only[World.cell?,h.l];rfl,by simp only[World.cell?,h.l];rfl⟩⟩,⟨none,0,rfl,λj h=>absurd h (Nat.not_lt_zero j)⟩,⟨none,0,rfl,λj h=>absurd h (Nat.not_lt_zero j)⟩⟩,_,_,rfl,λj hj=> ?_⟩
 match j,hj with
 |0,_=>exact⟨w.heap.size+1+1+1,0,⟨.slice none 0 0,.slice (some ⟨w.heap.size+1+1,0,none⟩) 2 2,.slice none 0 0,.slice none 0 0,.slice none 0 0,.slice none 0 0⟩,rfl,lt h.k,Dd.ex_row h.k (λi hi=>by rcases i12 hi with rfl|rfl|rfl|rfl|rfl|rfl|rfl|rfl|rfl|rfl|rfl|rfl<;>rfl),l0⟩
 |1,_=>exact⟨w.heap.size+1+1+1,0,⟨.slice none 0 0,.slice none 0 0,.slice none 0 0,.slice none 0 0,.slice none 0 0,.slice none 0 0⟩,rfl,lt h.k,Dd.ex_row h.k (λi hi=>by rcases i12 hi with rfl|rfl|rfl|rfl|rfl|rfl|rfl|rfl|rfl|rfl|rfl|rfl<;>rfl),l1⟩
 |2,_=>exact⟨w.heap.size+1+1+1,0,⟨.slice none 0 0,.slice none 0 0,.slice none 0 0,.slice none 0 0,.slice none 0 0,.slice none 0 0⟩,rfl,lt h.k,Dd.ex_row h.k (λi hi=>by rcases i12 hi with rfl|rfl|rfl|rfl|rfl|rfl|rfl|rfl|rfl|rfl|rfl|rfl<;>rfl),l2⟩
theorem Dd.ex_ctx {w w1:World}(h:Dd.ExAt w w1)(hO:Tk.Ops w):Dd.Ctx w1 #[.int .i64 13,.int .i64 0,.int .i64 0,.int .i64 0,.int .i64 0,.int .i64 0,.slice none 0 0,.slice none 0 0,.slice (some ⟨w.heap.size+1+1+1,0,none⟩) 3 3,.slice (some ⟨w.heap.size+1+1+1+1,0,none⟩) 5 5,.slice none 0 0,.slice none 0 0] true Dd.exL Dd.exK:=by
 have:=Dd.ctx 2 2 Dd.exT ⟨.slice none 0 0,.slice none 0 0,.slice (some ⟨w.heap.size+1+1+1,0,none⟩) 3 3,.slice (some ⟨w.heap.size+1+1+1+1,0,none⟩) 5 5,.slice none 0 0,.slice none 0 0⟩ w1 (Dd.ex_lies h) (by have:=(Array.getElem?_eq_some_iff.1 h.a).1;omega) (by decide) Dd.ex_fit (hO.below h.bel hO.lt);rw[Dd.ex_web]at this;exact this
theorem Tryz.skips_any (w:World)(hO:Tk.Ops w):Calls Tryz.prog 10 #[] w λe w'=>e=.returned (.bool true)/\Below w.heap.size w w':=by
 have hat:=Dd.ex_at w;obtain⟨w1,hw1⟩:=pE (((((((w.alloc (.cells #[.int .i64 2,.int .i64 0,.slice none 0 0,.int .i64 2,.int .i64 0,.slice none 0 0] 24)).alloc (.cells #[.int .i64 10,.int .i64 0,.slice (some ⟨w.heap.size,0,none⟩) 2 2] 24)).alloc (.cells #[.int .i64 10,.int .i64 0,.slice (some ⟨w.heap.size,0,none⟩) 2 2,.int .i64 0,.int .i64 0,.slice none 0 0] 24)).alloc (.cells #[.int .i64 12,.int .i64 0,.int .i64 3,.int .i64 1,.int .i64 0,.int .i64 0,.slice none 0 0,.slice (some ⟨w.heap.size+1+1,0,none⟩) 2 2,.slice none 0 0,.slice none 0 0,.slice none 0 0,.slice none 0 0,.int .i64 5,.int .i64 1,.int .i64 0,.int .i64 0,.int .i64 0,.int .i64 0,.slice none 0 0,.slice none 0 0,.slice none 0 0,.slice none 0 0,.slice none 0 0,.slice none 0 0,.int .i64 12,.int .i64 2,.int .i64 4,.int .i64 0,.int .i64 0,.int .i64 0,.slice none 0 0,.slice none 0 0,.slice none 0 0,.slice none 0 0,.slice none 0 0,.slice none 0 0] 32)).alloc (.cells #[.int .i64 (-1),.int .i64 0,.int .i64 0,.int .i64 1,.int .i64 0,.int .i64 2,.int .i64 1,.int .i64 2,.int .i64 2,.int .i64 (-1)] 80)).alloc (.cells #[.int .i64 13,.int .i64 0,.int .i64 0,.int .i64 0,.int .i64 0,.int .i64 0,.slice none 0 0,.slice none 0 0,.slice (some ⟨w.heap.size+1+1+1,0,none⟩) 3 3,.slice (some ⟨w.heap.size+1+1+1+1,0,none⟩) 5 5,.slice none 0 0,.slice none 0 0] 32)));rw[hw1]at hat;have cx:=Dd.ex_ctx hat hO
 have H1:Hid _:=hw1;have CX:Hid _:=cx;obtain⟨q,hq⟩:=pE (w.heap.size+1+1+1+1+1);have HQ:Hid (w.heap.size+1+1+1+1+1=q):=hq;have NR0:=hat.r;rw[hq]at NR0;obtain⟨xs,hxs⟩:=pE ((#[.int .i64 13,.int .i64 0,.int .i64 0,.int .i64 0,.int .i64 0,.int .i64 0,.slice none 0 0,.slice none 0 0,.slice (some ⟨w.heap.size+1+1+1,0,none⟩) 3 3,.slice (some ⟨w.heap.size+1+1+1+1,0,none⟩) 5 5,.slice none 0 0,.slice none 0 0]:Array Value));have HXS:Hid ((#[.int .i64 13,.int .i64 0,.int .i64 0,.int .i64 0,.int .i64 0,.int .i64 0,.slice none 0 0,.slice none 0 0,.slice (some ⟨w.heap.size+1+1+1,0,none⟩) 3 3,.slice (some ⟨w.heap.size+1+1+1+1,0,none⟩) 5 5,.slice none 0 0,.slice none 0 0]:Array Value)=xs):=hxs;rw[hxs]at NR0 CX;have HB:Hid (Below w.heap.size w w1/\w1.heap[q]? =some (.cells xs 32 (0,0))):=⟨hat.bel,NR0⟩;have lx:xs.size=12:=by rw[<-hxs];rfl
 have ha:=Tryz.underlying32;have hu:=Tryz.underlying41;have ia:(Tryz.prog.info? 32).map (·.size)=some xs.size:=by rw[lx];exact Dd.info_act
 have HAX:Hid (∀W,Below w1.heap.size w1 W->W.heap[q]? =some (.cells xs 32 (0,0))/\Below w.heap.size w W/\W.rangeAt q 0 xs.toList):=λW hb=>by
  have h:=(hb.block q (Array.getElem?_eq_some_iff.1 HB.out.2).1).trans HB.out.2;refine⟨h,HB.out.1.trans (hb.mono HB.out.1.size),λj v hv=> ?_⟩;rw[Nat.zero_add];simp only[World.cell?,h];simpa using hv
 have ial:(Tryz.prog.info? 32).map (·.size)=some xs.toList.length:=by rw[ia];simp
 obtain⟨S0,hS0⟩:=pE (Dd.exS);obtain⟨S1,hS1⟩:=pE (Dd.exS1);have l0:S0.length=104:=by rw[<-hS0];exact Dd.exS_length
 have l1:S1.length=104:=by rw[<-hS1];exact Dd.exS1_length
 have C1:Hid (∀W,Below w1.heap.size w1 W->Calls Tryz.prog 11 #[.agg xs] W λe w'=>e=.returned (.tuple #[.agg (Dd.row S0),.int .i64 0])/\Below W.heap.size W w'):=λW hb=>by
  have h:=CX.out.start W hb;rw[Dd.ex_start,hS0]at h;exact h
 have C2:Hid (∀W,Below w1.heap.size w1 W->Calls Tryz.prog 23 #[.agg xs,.agg (Dd.row S0),.int .i64 0,.int .i64 1] W λe w'=>e=.returned (.tuple #[.agg (Dd.row S1),.int .i64 0])/\Below W.heap.size W w'):=λW hb=>by
  have h:=CX.out.choose W S0 0 1 hb l0 (by omega) (by omega);rw[<-hS0,Dd.ex_choose,hS1]at h;rw[<-hS0];exact h
 have C3:Hid (∀W,Below w1.heap.size w1 W->Calls Tryz.prog 14 #[.agg xs,.agg (Dd.row S0)] W λe w'=>∃a c,e=.returned (.slice a 1 c)/\Below W.heap.size W w'):=λW hb=>by
  have h:=CX.out.running W S0 hb l0;refine h.mono λe w' hh=> ?_;obtain⟨v,hv,how,hbb⟩:=hh;rw[<-hS0,Dd.ex_run]at how;obtain⟨a,c,rfl⟩:=Rk.own_shape how;exact⟨a,c,hv,hbb⟩
 have C4:Hid (∀W,Below w1.heap.size w1 W->Calls Tryz.prog 21 #[.agg xs,.agg (Dd.row S1)] W λe w'=>e=.returned (.bool true)/\Below W.heap.size W w'):=λW hb=>by
  have h:=CX.out.over W S1 hb l1;rw[<-hS1,Dd.ex_over1]at h;rw[<-hS1];exact h
 have C5:Hid (∀W,Below w1.heap.size w1 W->Calls Tryz.prog 21 #[.agg xs,.agg (Dd.row S0)] W λe w'=>e=.returned (.bool false)/\Below W.heap.size W w'):=λW hb=>by
  have h:=CX.out.over W S0 hb l0;rw[<-hS0,Dd.ex_over0]at h;rw[<-hS0];exact h
 have HS:Hid (S1.getD (40+1) 0=3):=by show _=_;rw[<-hS1];exact Dd.ex_skip
 have i0:=Dd.info_row l0;have i1:=Dd.info_row l1;have o0:=Dd.row_one S0;have o1:=Dd.row_one S1;have z0:(Tryz.zeroCells41).size=(Dd.row S0).size:=by rw[Dd.zero_row,Dd.row_size,Dd.row_size,l0,Dd.zeros_length]
 have z1:(Tryz.zeroCells41).size=(Dd.row S1).size:=by rw[Dd.zero_row,Dd.row_size,Dd.row_size,l1,Dd.zeros_length]
 have j0:=Dd.ints_len l0;have j1:=Dd.ints_len l1;have HL:Hid (S0.length=104/\S1.length=104):=⟨l0,l1⟩;clear hat hw1 cx hq hxs hS0 hS1 l0 l1 lx CX hO HB
 go_enter Tryz.func10,Tryz.ntmps10
 go_upto_region 3 with fail
 rw[H1.out,HQ.out];clear H1
 go_wp2_with (refine wpList_load_row rfl 32 _ rfl _ rfl 32 _ (0,0) _ NR0 ha rfl ia ?_)
 refine Calls.mono (C1.out _ (Below.refl _ _)) ?_;rintro e W2 ⟨rfl,hb2⟩;have NZ2:(W2.alloc (.cells Tryz.zeroCells41 41)).heap[W2.heap.size]? =some (.cells Tryz.zeroCells41 41 (0,0)):=heap_alloc_new W2 _;obtain⟨W3,hW3⟩:=pE ((W2.alloc (.cells Tryz.zeroCells41 41)).setRow W2.heap.size (Dd.row S0));have A3:Dd.At W3 W2.heap.size S0:=by rw[<-hW3];exact⟨setRow_heap _ _ _ _ _ _ NZ2,HL.out.1⟩
 have B3:Below W2.heap.size W2 W3:=by rw[<-hW3];exact Tk.below_row ((Below.refl _ W2).alloc (Nat.le_refl _) _) (Nat.le_refl _) _
 have HB3:Hid (Below w1.heap.size w1 W3):=hb2.trans (B3.mono hb2.size);have HW3:Hid _:=hW3;obtain⟨p,hp⟩:=pE (W2.heap.size);rw[hp]at A3;have HP:Hid (W2.heap.size=p):=hp;have HA3:Hid (Dd.At W3 p S0):=A3;clear NR0 hb2 hW3 hp A3 B3
 go_upto_region 4 with(refine wpList_store_row rfl 41 _ _ rfl W2.heap.size (Dd.row S0) rfl rfl 41 _ NZ2 i0 z0 o0 ?_)
 rw[HW3.out,HP.out];clear HW3 NZ2 HP;have NA3:=(HAX.out W3 HB3.out).1;have NS3:=HA3.out.h
 go_wp2_with (first
  |refine wpList_load_row rfl 32 _ rfl _ rfl 32 _ (0,0) _ NA3 ha rfl ia ?_
  |refine wpList_load_row rfl 41 _ rfl _ rfl 41 (Dd.row S0) (0,0) _ NS3 hu rfl i0 ?_)
 refine Calls.mono (C2.out _ HB3.out) ?_;rintro e W4 ⟨rfl,hb4⟩;have NZ4:(W4.alloc (.cells Tryz.zeroCells41 41)).heap[W4.heap.size]? =some (.cells Tryz.zeroCells41 41 (0,0)):=heap_alloc_new W4 _;obtain⟨W5,hW5⟩:=pE ((W4.alloc (.cells Tryz.zeroCells41 41)).setRow W4.heap.size (Dd.row S1));have A5:Dd.At W5 W4.heap.size S1:=by rw[<-hW5];exact⟨setRow_heap _ _ _ _ _ _ NZ4,HL.out.2⟩
 have B5:Below W4.heap.size W4 W5:=by rw[<-hW5];exact Tk.below_row ((Below.refl _ W4).alloc (Nat.le_refl _) _) (Nat.le_refl _) _
 have B45:Below W3.heap.size W3 W5:=hb4.trans (B5.mono hb4.size);have HB5:Hid (Below w1.heap.size w1 W5/\Dd.At W5 p S0):=⟨HB3.out.trans (B45.mono HB3.out.size),HA3.out.below B45 HA3.out.lt⟩;have HW5:Hid _:=hW5;obtain⟨p5,hp5⟩:=pE (W4.heap.size);rw[hp5]at A5;have HP5:Hid (W4.heap.size=p5):=hp5;have HA5:Hid (Dd.At W5 p5 S1):=A5;clear NA3 NS3 hb4 hW5 hp5 A5 B5 B45
 go_upto_region 5 with(refine wpList_store_row rfl 41 _ _ rfl W4.heap.size (Dd.row S1) rfl rfl 41 _ NZ4 i1 z1 o1 ?_)
 rw[HW5.out,HP5.out];clear HW5 NZ4 HP5;have NA5:=(HAX.out W5 HB5.out.1).1;have NS5:=HB5.out.2.h
 go_wp2_with (first
  |refine wpList_load_row rfl 32 _ rfl _ rfl 32 _ (0,0) _ NA5 ha rfl ia ?_
  |refine wpList_load_row rfl 41 _ rfl _ rfl 41 (Dd.row S0) (0,0) _ NS5 hu rfl i0 ?_)
 refine Calls.mono (C3.out _ HB5.out.1) ?_;rintro e W6 ⟨a6,c6,rfl,hb6⟩;have HB6:Hid (Below w1.heap.size w1 W6/\Dd.At W6 p S0/\Dd.At W6 p5 S1):=⟨HB5.out.1.trans (hb6.mono HB5.out.1.size),HB5.out.2.below hb6 HB5.out.2.lt,HA5.out.below hb6 HA5.out.lt⟩;clear NA5 NS5 hb6;have k1:=HB6.out.2.2.cell (40+1) (by omega);rw[HS.out]at k1;have RA6:=(HAX.out W6 HB6.out.1).2.2;have RS6:=Dd.range_st HB6.out.2.2
 go_wp2_with (first
  |refine Dd.load_want (by rfl) 32 _ rfl q 0 rfl xs.toList _ RA6 ha rfl ial ?_
  |refine Dd.load_want (by rfl) 41 _ rfl p5 0 rfl (Dd.ints S1) _ RS6 hu rfl j1 ?_
  |fail)
 refine Calls.mono (C4.out W6 HB6.out.1) ?_;rintro e W7 ⟨rfl,hb7⟩;have HB7:Hid (Below w1.heap.size w1 W7/\Dd.At W7 p S0):=⟨HB6.out.1.trans (hb7.mono HB6.out.1.size),HB6.out.2.1.below hb7 HB6.out.2.1.lt⟩;clear k1 RA6 RS6 hb7;have RA7:=(HAX.out W7 HB7.out.1).2.2;have RS7:=Dd.range_st HB7.out.2
 go_wp2_with (first
  |refine Dd.load_want (by rfl) 32 _ rfl q 0 rfl xs.toList _ RA7 ha rfl ial ?_
  |refine Dd.load_want (by rfl) 41 _ rfl p 0 rfl (Dd.ints S0) _ RS7 hu rfl j0 ?_
  |fail)
 refine Calls.mono (C5.out W7 HB7.out.1) ?_;rintro e W8 ⟨rfl,hb8⟩;have HB8:Hid (Below w.heap.size w W8):=(HAX.out W8 (HB7.out.1.trans (hb8.mono HB7.out.1.size))).2.1;clear RA7 RS7 hb8;go_wp2;go_ret;exact⟨rfl,HB8.out⟩
theorem Ak.infoRAct:(Tryz.prog.info? 48).map (λi=>(i.zero,i.size,i.bytes))=some (some (.agg #[.int .i64 0,.int .i64 0,.int .i64 0,.int .i64 0,.int .i64 0,.int .i64 0,.slice none 0 0,.slice none 0 0,.slice none 0 0,.slice none 0 0,.slice none 0 0,.slice none 0 0]),12,192):=by kernel_rfl
theorem Ak.infoRLink:(Tryz.prog.info? 83).map (λi=>(i.zero,i.size,i.bytes))=some (some (.agg #[.int .i64 0,.int .i64 0]),2,16):=by kernel_rfl
theorem Ak.at_op2 {P:Program}{ops:Array Oper}{o:Oper}{a:Act}{w:World}{K:Act->World->Prop}{Q:Exit->Act->World->Prop}{E:Prop}(x:Op)(_hop:o.op=x)
 (h:if Region.wanted o (yielded ops a.tmps)=true then Oper.wp P o a w K Q else E):if Region.wanted o (yielded ops a.tmps)=true then Oper.wp P o a w K Q else E:=h
def Ak.RefC (d:Nat):Prop:=∀(B e:Nat) (T:Ac) (V:Ac.Vs) (w:World),B<=w.heap.size->Ac.Lies w B e d V T->T.size<=100000->T.All (λx=>x.ls.length<=100)->
 Calls Tryz.prog 12 #[.agg (Ac.row T V)] w λe' w'=>Below w.heap.size w w'/\∃U d',e'=.returned (.agg (Ac.row T U))/\Ac.LiesP w' B e (λk=>w.heap.size<=k/\k<w'.heap.size) d' U T
theorem Ak.refC:∀d:Nat,Ak.RefC d:=by
 intro d
 induction d with
 |zero=>intro B e T V w _ hT;exact hT.elim
 |succ d ih=>
  intro B e T V w hB hT hsz hlk;rw[T.all_eq]at hlk;have hown:=hT.own;obtain⟨al,cl,hvl,hat⟩:=hT.own.l;have HV0:=hT.shape;obtain⟨a6,c6,a7,c7,ak,ck,aa,ca,a10,c10,a11,c11,hV⟩:=HV0;obtain⟨n,hn⟩:=pE (T.ks.length);obtain⟨m,hm⟩:=pE (T.ls.length);obtain⟨n6,hn6⟩:=pE (T.t.ks.length);obtain⟨n7,hn7⟩:=pE (T.cs.length);obtain⟨n10,hn10⟩:=pE (T.ns.length);obtain⟨n11,hn11⟩:=pE (T.fs.length);rw[hn,hm,hn6,hn7,hn10,hn11]at hV;obtain⟨z0,hz0⟩:=pE (T.kind);obtain⟨z1,hz1⟩:=pE (T.node);obtain⟨z2,hz2⟩:=pE (T.a);obtain⟨z3,hz3⟩:=pE (T.b);obtain⟨z4,hz4⟩:=pE (T.t.op);obtain⟨z5,hz5⟩:=pE (T.t.num);have hrow:Ac.row T V=#[.int .i64 z0,.int .i64 z1,.int .i64 z2,.int .i64 z3,.int .i64 z4,.int .i64 z5,.slice a6 n6 c6,.slice a7 n7 c7,.slice ak n ck,.slice aa m ca,.slice a10 n10 c10,.slice a11 n11 c11]:=by unfold Ac.row;rw[hV,hz0,hz1,hz2,hz3,hz4,hz5]
  have hvar:∀vk vl,Ac.row T ⟨V.t,V.c,vk,vl,V.n,V.f⟩=#[.int .i64 z0,.int .i64 z1,.int .i64 z2,.int .i64 z3,.int .i64 z4,.int .i64 z5,.slice a6 n6 c6,.slice a7 n7 c7,vk,vl,.slice a10 n10 c10,.slice a11 n11 c11]:=λvk vl=>by unfold Ac.row;rw[hV,hz0,hz1,hz2,hz3,hz4,hz5]
  have hvk:V.k=.slice ak n ck:=by rw[hV]
  have hvl2:V.l=.slice aa m ca:=by rw[hV]
  rw[hvl2]at hvl;simp only[Value.slice.injEq]at hvl;obtain⟨rfl,-,rfl⟩:=hvl
  have hnb:n<=100000:=by
   have h1:=T.size_eq;have h2:=Ac.length_le_sizes T.ks;omega
  have hmb:m<=100:=by have:=hlk.1;omega
  rw[hrow];obtain⟨w0,hw0⟩:=pE (((w.alloc (.cells #[.int .i64 z0,.int .i64 z1,.int .i64 z2,.int .i64 z3,.int .i64 z4,.int .i64 z5,.slice a6 n6 c6,.slice a7 n7 c7,.slice ak n ck,.slice aa m ca,.slice a10 n10 c10,.slice a11 n11 c11] 32)).alloc (.cells #[.int .i64 0,.int .i64 0,.int .i64 0,.int .i64 0,.int .i64 0,.int .i64 0,.slice none 0 0,.slice none 0 0,.slice none 0 0,.slice none 0 0,.slice none 0 0,.slice none 0 0] 48)).alloc (.cells #[.int .i64 z0,.int .i64 z1,.int .i64 z2,.int .i64 z3,.int .i64 z4,.int .i64 z5,.slice a6 n6 c6,.slice a7 n7 c7,.slice none 0 0,.slice none 0 0,.slice a10 n10 c10,.slice a11 n11 c11] 48))
  have R0:Ak.Rf w B e #[.int .i64 z0,.int .i64 z1,.int .i64 z2,.int .i64 z3,.int .i64 z4,.int .i64 z5,.slice a6 n6 c6,.slice a7 n7 c7,.slice ak n ck,.slice aa m ca,.slice a10 n10 c10,.slice a11 n11 c11] T V (.slice none 0 0) (.slice none 0 0) [] [] w0:=by
   rw[<-hw0];refine⟨?_, ?_, ?_,World.ownsRow_nil _ _ _ _,World.ownsRow_nil _ _ _ _,(λq hq=>by cases hq),(((Below.refl _ w).alloc (Nat.le_refl _) _).alloc (by simp) _).alloc (by simp;omega) _⟩
   ·rw[Below.heap_alloc _ _ _ (by simp;omega),Below.heap_alloc _ _ _ (by simp)];exact heap_alloc_new w _
   ·rw[Below.heap_alloc _ _ _ (by simp)]
    have:=heap_alloc_new (w.alloc (.cells #[.int .i64 z0,.int .i64 z1,.int .i64 z2,.int .i64 z3,.int .i64 z4,.int .i64 z5,.slice a6 n6 c6,.slice a7 n7 c7,.slice ak n ck,.slice aa m ca,.slice a10 n10 c10,.slice a11 n11 c11] 32)) (.cells #[.int .i64 0,.int .i64 0,.int .i64 0,.int .i64 0,.int .i64 0,.int .i64 0,.slice none 0 0,.slice none 0 0,.slice none 0 0,.slice none 0 0,.slice none 0 0,.slice none 0 0] 48);simpa using this
   rw[hvar];have:=heap_alloc_new ((w.alloc (.cells #[.int .i64 z0,.int .i64 z1,.int .i64 z2,.int .i64 z3,.int .i64 z4,.int .i64 z5,.slice a6 n6 c6,.slice a7 n7 c7,.slice ak n ck,.slice aa m ca,.slice a10 n10 c10,.slice a11 n11 c11] 32)).alloc (.cells #[.int .i64 0,.int .i64 0,.int .i64 0,.int .i64 0,.int .i64 0,.int .i64 0,.slice none 0 0,.slice none 0 0,.slice none 0 0,.slice none 0 0,.slice none 0 0,.slice none 0 0] 48)) (.cells #[.int .i64 z0,.int .i64 z1,.int .i64 z2,.int .i64 z3,.int .i64 z4,.int .i64 z5,.slice a6 n6 c6,.slice a7 n7 c7,.slice none 0 0,.slice none 0 0,.slice a10 n10 c10,.slice a11 n11 c11] 48);simpa using this
  have HR0:Hid _:=R0;obtain⟨q0,q1⟩:w0.cell? ⟨w.heap.size,8,none⟩=some (.slice ak n ck)/\w0.cell? ⟨w.heap.size,9,none⟩=some (.slice aa m ca):=by have:=R0.box;simp[World.cell?,this]
  have HW0:Hid _:=hw0;have HT:Hid (Ac.Lies w B e (d+1) V T/\V.k=.slice ak n ck/\Ac.Own w B e V T/\B<=w.heap.size/\∀vk vl,Ac.row T ⟨V.t,V.c,vk,vl,V.n,V.f⟩=#[.int .i64 z0,.int .i64 z1,.int .i64 z2,.int .i64 z3,.int .i64 z4,.int .i64 z5,.slice a6 n6 c6,.slice a7 n7 c7,vk,vl,.slice a10 n10 c10,.slice a11 n11 c11]):=⟨hT,hvk,hown,hB,hvar⟩;have HAT:Hid (Ac.Lks w B aa T.ls):=hat;have HI:Hid (Ak.RefC d):=ih;have HM:Hid (T.ks.length=n/\T.ls.length=m/\T.size<=100000/\Ac.Alls (λx=>x.ls.length<=100) T.ks):=⟨hn,hm,hsz,hlk.2⟩;obtain⟨i0,hi,hy0,hy1,hy2⟩:=info_parts Ak.infoRLink;obtain⟨i1,hi1,hx0,hx1,hx2⟩:=info_parts Ak.infoRAct;clear ih hT hat hn hm hsz hlk hw0 R0 hown hV hn6 hn7 hn10 hn11 hz0 hz1 hz2 hz3 hz4 hz5 hrow hvar hvk hvl2 hB
  go_enter Tryz.func12,Tryz.ntmps12
  go_upto_region 2 with fail
  rw[HW0.out];go_wp2
  go_loopg [5,26] n (λgg _ i wr=>∃(j:Nat) (qs:List (Ac×Ac.Vs)) (vK:Value),gg+j=n/\i=.int .i64 j/\qs.length=j/\Hid (qs.map (·.1)=T.ks.take j/\Ak.Rf w B e #[.int .i64 z0,.int .i64 z1,.int .i64 z2,.int .i64 z3,.int .i64 z4,.int .i64 z5,.slice a6 n6 c6,.slice a7 n7 c7,.slice ak n ck,.slice aa m ca,.slice a10 n10 c10,.slice a11 n11 c11] T V vK (.slice none 0 0) qs [] wr))
  case atStart=>exact⟨0, [],.slice none 0 0,by omega,rfl,rfl,rfl,HR0.out⟩
  case round=>
   obtain⟨j,qs,vK,hg,rfl,hql,HJ⟩:=hrel;clear q0 q1;subst hql;obtain⟨avk,cvk,hvk⟩:=Ak.own_shape HJ.out.2.ownK;subst hvk
   by_cases hjn:qs.length<n
   ·have hd:decide ((qs.length:Int)<n)=true:=decide_eq_true (by omega)
    have hjk:qs.length<T.ks.length:=by rw[HM.out.1];exact hjn
    obtain⟨g,off,U,rfl,hgl,hrw,hlu⟩:=HT.out.1.kid HT.out.2.1 qs.length hjk;obtain⟨x,hx⟩:=pE (T.ks[qs.length]);have hxs:=Ac.sizes_get T.ks qs.length hjk;have hxl:=Ac.alls_get HM.out.2.2.2 qs.length hjk;rw[hx]at hrw hlu hxs hxl;obtain⟨y0,y1,y2,y3,y4,y5,y6,y7,y8,y9,y10,y11,hyr⟩:∃y0 y1 y2 y3 y4 y5 y6 y7 y8 y9 y10 y11,Ac.row x U=#[y0,y1,y2,y3,y4,y5,y6,y7,y8,y9,y10,y11]:=⟨_,_,_,_,_,_,_,_,_,_,_,_,rfl⟩;have hone:=hlu.ones;rw[hyr]at hrw hone;have hcb:∀o,wr.cell? ⟨g,o,none⟩=w.cell? ⟨g,o,none⟩:=λo=>World.cell?_of_block (w:=w) (HJ.out.2.below.block g (by have:=HT.out.2.2.2.1;omega))
    obtain⟨k0,k1,k2,k3,k4,k5,k6,k7,k8,k9,k10,k11⟩:wr.cell? ⟨g,off+qs.length*12,none⟩=some y0/\wr.cell? ⟨g,off+qs.length*12+1,none⟩=some y1/\wr.cell? ⟨g,off+qs.length*12+2,none⟩=some y2/\wr.cell? ⟨g,off+qs.length*12+3,none⟩=some y3/\wr.cell? ⟨g,off+qs.length*12+4,none⟩=some y4/\wr.cell? ⟨g,off+qs.length*12+5,none⟩=some y5/\wr.cell? ⟨g,off+qs.length*12+6,none⟩=some y6/\wr.cell? ⟨g,off+qs.length*12+7,none⟩=some y7/\wr.cell? ⟨g,off+qs.length*12+8,none⟩=some y8/\wr.cell? ⟨g,off+qs.length*12+9,none⟩=some y9/\wr.cell? ⟨g,off+qs.length*12+10,none⟩=some y10/\wr.cell? ⟨g,off+qs.length*12+11,none⟩=some y11:=⟨by rw[hcb];exact hrw 0 (by simp),by rw[hcb];exact hrw 1 (by simp),by rw[hcb];exact hrw 2 (by simp),by rw[hcb];exact hrw 3 (by simp),by rw[hcb];exact hrw 4 (by simp),by rw[hcb];exact hrw 5 (by simp),by rw[hcb];exact hrw 6 (by simp),by rw[hcb];exact hrw 7 (by simp),by rw[hcb];exact hrw 8 (by simp),by rw[hcb];exact hrw 9 (by simp),by rw[hcb];exact hrw 10 (by simp),by rw[hcb];exact hrw 11 (by simp)⟩
    have HK:Hid ((wr.alloc (.cells #[.int .i64 0,.int .i64 0,.int .i64 0,.int .i64 0,.int .i64 0,.int .i64 0,.slice none 0 0,.slice none 0 0,.slice none 0 0,.slice none 0 0,.slice none 0 0,.slice none 0 0] 32)).heap[wr.heap.size]? =some (.cells #[.int .i64 0,.int .i64 0,.int .i64 0,.int .i64 0,.int .i64 0,.int .i64 0,.slice none 0 0,.slice none 0 0,.slice none 0 0,.slice none 0 0,.slice none 0 0,.slice none 0 0] 32 (0,0))):=heap_alloc_new wr _;obtain⟨wa,hwa⟩:=pE ((wr.alloc (.cells #[.int .i64 0,.int .i64 0,.int .i64 0,.int .i64 0,.int .i64 0,.int .i64 0,.slice none 0 0,.slice none 0 0,.slice none 0 0,.slice none 0 0,.slice none 0 0,.slice none 0 0] 32)).setRow wr.heap.size #[y0,y1,y2,y3,y4,y5,y6,y7,y8,y9,y10,y11]);have hma:wa.heap[wr.heap.size]? =some (.cells #[y0,y1,y2,y3,y4,y5,y6,y7,y8,y9,y10,y11] 32 (0,0)):=by rw[<-hwa];exact setRow_heap _ _ _ _ _ _ HK.out
    have Aa:Below wr.heap.size wr wa:=by
     rw[<-hwa];exact((Below.refl _ wr).alloc (Nat.le_refl _) _).trans ⟨rfl,rfl,rfl,by simp[World.setRow],λk hk=>setRow_other _ _ _ _ (by omega)⟩
    obtain⟨m0,m1,m2,m3,m4,m5,m6,m7,m8,m9,m10,m11⟩:wa.cell? ⟨wr.heap.size,0,none⟩=some y0/\wa.cell? ⟨wr.heap.size,1,none⟩=some y1/\wa.cell? ⟨wr.heap.size,2,none⟩=some y2/\wa.cell? ⟨wr.heap.size,3,none⟩=some y3/\wa.cell? ⟨wr.heap.size,4,none⟩=some y4/\wa.cell? ⟨wr.heap.size,5,none⟩=some y5/\wa.cell? ⟨wr.heap.size,6,none⟩=some y6/\wa.cell? ⟨wr.heap.size,7,none⟩=some y7/\wa.cell? ⟨wr.heap.size,8,none⟩=some y8/\wa.cell? ⟨wr.heap.size,9,none⟩=some y9/\wa.cell? ⟨wr.heap.size,10,none⟩=some y10/\wa.cell? ⟨wr.heap.size,11,none⟩=some y11:=by simp[World.cell?,hma]
    have RA:Hid (Ak.Rf w B e #[.int .i64 z0,.int .i64 z1,.int .i64 z2,.int .i64 z3,.int .i64 z4,.int .i64 z5,.slice a6 n6 c6,.slice a7 n7 c7,.slice (some ⟨g,off,none⟩) n ck,.slice aa m ca,.slice a10 n10 c10,.slice a11 n11 c11] T V (.slice avk qs.length cvk) (.slice none 0 0) qs [] wa):=HJ.out.2.step HT.out.2.2.2.1 Aa;have s0:wa.cell? ⟨w.heap.size+1+1,8,none⟩=some (.slice avk qs.length cvk):=by have h:=RA.out.var;rw[HT.out.2.2.2.2]at h;simp[World.cell?,h]
    have hxw:x.size<=100000:=by have h2:=T.size_eq;have:=HM.out.2.2.1;omega
    have HCALL:Hid (∀W:World,W.heap=wa.heap->W.os=wa.os/\W.tape=wa.tape/\W.output=wa.output->Calls Tryz.prog 12 #[.agg #[y0,y1,y2,y3,y4,y5,y6,y7,y8,y9,y10,y11]] W λe' w'=>
      ∃u0 u1 u2 u3 u4 u5 u6 u7 u8 u9 u10 u11 U',Ac.row x U'=#[u0,u1,u2,u3,u4,u5,u6,u7,u8,u9,u10,u11]/\(∀u∈ [u0,u1,u2,u3,u4,u5,u6,u7,u8,u9,u10,u11],u.oneCell'=true)/\e'=.returned (.agg #[u0,u1,u2,u3,u4,u5,u6,u7,u8,u9,u10,u11])/\Ak.Rf w B e #[.int .i64 z0,.int .i64 z1,.int .i64 z2,.int .i64 z3,.int .i64 z4,.int .i64 z5,.slice a6 n6 c6,.slice a7 n7 c7,.slice (some ⟨g,off,none⟩) n ck,.slice aa m ca,.slice a10 n10 c10,.slice a11 n11 c11] T V (.slice avk qs.length cvk) (.slice none 0 0) qs [] w'/\
       ∃d',Ac.LiesP w' B e (Ak.Far w.heap.size w'.heap.size (.slice avk qs.length cvk) (.slice none 0 0)) d' U' x):=by
     intro W hh ho;have hbW:Below wa.heap.size wa W:=⟨ho.1,ho.2.1,ho.2.2,by rw[hh];exact Nat.le_refl _,λk _=>by rw[hh]⟩;have hsz:=RA.out.below.size;have h1:=HI.out B e x U W (by rw[hh];have:=HT.out.2.2.2.1;omega) (hlu.keep (λk hk=>by rw[hh];exact RA.out.below.block k (by have:=HT.out.2.2.2.1;omega))) hxw hxl;rw[hyr]at h1;refine h1.mono ?_;rintro e' w' ⟨hb,U',d',rfl,hl⟩;refine⟨_,_,_,_,_,_,_,_,_,_,_,_,U',rfl,by simpa [Ac.row]using hl.ones,rfl,(RA.out.step HT.out.2.2.2.1 hbW).step HT.out.2.2.2.1 hb,d',hl.keep (λ_ _=>rfl) (λ_ _=>rfl) λk hk=>⟨?_,hk.2, ?_, ?_⟩⟩
     ·have:=RA.out.lt;have h5:=hk.1;rw[hh]at h5;omega
     ·intro e
      have:=(Ak.row_lt RA.out.ownK e).2;have h5:=hk.1;rw[hh]at h5;omega
     simp[Value.ownBlock]
    have HU:Hid (wa.os=wa.os/\wa.tape=wa.tape/\wa.output=wa.output):=⟨rfl,rfl,rfl⟩;have HX:Hid (T.ks[qs.length]=x):=hx;have HWA:Hid _:=hwa;have HON:Hid (#[y0,y1,y2,y3,y4,y5,y6,y7,y8,y9,y10,y11].all (·.oneCell')=true):=hone
    have F4:Hid (∀W4:World,Ak.Rf w B e #[.int .i64 z0,.int .i64 z1,.int .i64 z2,.int .i64 z3,.int .i64 z4,.int .i64 z5,.slice a6 n6 c6,.slice a7 n7 c7,.slice (some ⟨g,off,none⟩) n ck,.slice aa m ca,.slice a10 n10 c10,.slice a11 n11 c11] T V (.slice avk qs.length cvk) (.slice none 0 0) qs [] W4->W4.cell? ⟨w.heap.size+1+1,8,none⟩=some (.slice avk qs.length cvk)/\w.heap.size+3<=W4.heap.size/\∀o,(W4.alloc o).cell? ⟨w.heap.size+1+1,8,none⟩=some (.slice avk qs.length cvk)):=λW4 h=>by
     have h1:=h.var;rw[HT.out.2.2.2.2]at h1;refine⟨by simp[World.cell?,h1],h.lt,λo=> ?_⟩;have h2:=(h.step HT.out.2.2.2.1 ((Below.refl _ W4).alloc (Nat.le_refl _) o)).var;rw[HT.out.2.2.2.2]at h2;simp[World.cell?,h2]
    have F6:Hid (∀(W4 W6:World) (o:Obj),Ak.Rf w B e #[.int .i64 z0,.int .i64 z1,.int .i64 z2,.int .i64 z3,.int .i64 z4,.int .i64 z5,.slice a6 n6 c6,.slice a7 n7 c7,.slice (some ⟨g,off,none⟩) n ck,.slice aa m ca,.slice a10 n10 c10,.slice a11 n11 c11] T V (.slice avk qs.length cvk) (.slice none 0 0) qs [] W4->(W4.alloc o).grownBy W6 (Value.slice avk qs.length cvk).ownBlock->W6.cell? ⟨w.heap.size+1+1,8,none⟩=some (.slice avk qs.length cvk)/\W6.frozen? ⟨w.heap.size+1+1,8,none⟩=false):=λW4 W6 o h hg6=>by
     have h1:=(h.step HT.out.2.2.2.1 ((Below.refl _ W4).alloc (Nat.le_refl _) o)).midK hg6;rw[HT.out.2.2.2.2]at h1;exact⟨by simp[World.cell?,h1],by simp[World.frozen?,h1]⟩
    have lg:g<wr.heap.size:=by have:=HJ.out.2.below.size;have:=HT.out.2.2.2.1;omega
    clear hcb hrw hlu hx hxs hxl hwa Aa hma hxw hyr hone
    go_upto_region 5 with(refine wpList_store_row rfl 32 _ _ rfl wr.heap.size #[y0,y1,y2,y3,y4,y5,y6,y7,y8,y9,y10,y11] rfl rfl 32 _ HK.out (by kernel_rfl) rfl HON.out ?_)
    rw[HWA.out];clear k0 k1 k2 k3 k4 k5 k6 k7 k8 k9 k10 k11 HK HON HWA
    go_region_law (first
     |(go_simp;go_at_call 12;refine Calls.mono (HCALL.out _ ?_ ?_) ?_;exact rfl;exact HU.out;rintro e' W4 ⟨u0,u1,u2,u3,u4,u5,u6,u7,u8,u9,u10,u11,U4,hu4,ho4,rfl,r4,l4⟩;obtain⟨t4,t5,t6⟩:=F4.out W4 r4)
     |((with_reducible refine Ak.at_op2 (Op.call {callee:=Callee.builtin Builtin.append,args:=#[.tmp 31,.tmp 34],argTypes:=#[45,45]}) ?hop ?_);(case hop=>with_reducible rfl);go_loud (refine step_append_lies _ rfl (.tmp 31) (.tmp 34) 45 rfl (w.heap.size+3) 48 i1 _ 12 192 Tryz.underlying45 hi1 hx0 hx1 hx2 rfl (by decide) (.slice avk qs.length cvk) qs.length (Ak.kCells qs) (by simp[Act.eval]) (by exact(r4.step HT.out.2.2.2.1 ((Below.refl _ W4).alloc (Nat.le_refl _) (.cells #[u0,u1,u2,u3,u4,u5,u6,u7,u8,u9,u10,u11] 48))).ownK) ⟨W4.heap.size,0,none⟩ 1 1 [u0,u1,u2,u3,u4,u5,u6,u7,u8,u9,u10,u11] (by simp[Act.eval]) rfl (by exact World.news_of_block (heap_alloc_new W4 (.cells #[u0,u1,u2,u3,u4,u5,u6,u7,u8,u9,u10,u11] 48))) (by exact ho4) (by decide) (by unfold maxLen;omega) (by omega) (by simp;omega) (W4.heap.size+1) (by simp) ?_);intro g6 c6' W6 o6 qq6 hg6 hl6;obtain⟨b0,b1⟩:=F6.out W4 W6 _ r4 (by exact⟨qq6.os,qq6.tape,qq6.output,qq6.size,qq6.block⟩))
     |fail)
    all_goals
     have RN:Hid (Ak.Rf w B e #[.int .i64 z0,.int .i64 z1,.int .i64 z2,.int .i64 z3,.int .i64 z4,.int .i64 z5,.slice a6 n6 c6,.slice a7 n7 c7,.slice (some ⟨g,off,none⟩) n ck,.slice aa m ca,.slice a10 n10 c10,.slice a11 n11 c11] T V (.slice (some ⟨g6,0,none⟩) (qs.length+1) c6') (.slice none 0 0) (qs++ [(x,U4)]) [] (W6.setCell ⟨w.heap.size+1+1,8,none⟩ (.slice (some ⟨g6,0,none⟩) (qs.length+1) c6'))):=by
      have A4:Below W4.heap.size W4 (W4.alloc (.cells #[u0,u1,u2,u3,u4,u5,u6,u7,u8,u9,u10,u11] 48)):=(Below.refl _ W4).alloc (Nat.le_refl _) _;obtain⟨d',hl⟩:=l4;have hb4:=r4.below.size;exact Ak.Rf.kid (x:=x) (U:=U4) (H:=W4.heap.size+1) (r4.step HT.out.2.2.2.1 A4) HT.out.2.2.2.1 ⟨d',hl.keep (λk hk=>A4.block k (by have:=HT.out.2.2.2.1;omega)) (λk hk=>A4.block k hk.2.1) λk hk=>⟨hk.1,Nat.lt_of_lt_of_le hk.2.1 A4.size,hk.2.2⟩⟩ (by simp) (by rw[hu4];exact o6) ⟨qq6.os,qq6.tape,qq6.output,qq6.size,qq6.block⟩ hg6
     have HQ:Hid ((qs++ [(x,U4)]).map (·.1)=T.ks.take (qs.length+1)):=by
      show _=_;rw[List.take_succ_eq_append_getElem hjk,List.map_append,HJ.out.1,HX.out];rfl
     clear r4 l4 t4 t5 t6 o6 qq6 hg6 hl6 b0 b1 hu4 ho4;go_wp2;go_roundg (gk-1)
     case measure=>omega
     case rel=>exact⟨qs.length+1,_,_,by omega,by go_num,by simp,HQ.out,RN.out⟩
   have hd:decide ((qs.length:Int)<n)=false:=decide_eq_false (by omega);have hall:qs.map (·.1)=T.ks:=HJ.out.1.trans (List.take_of_length_le (by rw[HM.out.1];omega));have hlen:qs.length=n:=by rw[<-HM.out.1,<-hall];simp
   have HF0:Hid (Ak.Rf w B e #[.int .i64 z0,.int .i64 z1,.int .i64 z2,.int .i64 z3,.int .i64 z4,.int .i64 z5,.slice a6 n6 c6,.slice a7 n7 c7,.slice ak n ck,.slice aa m ca,.slice a10 n10 c10,.slice a11 n11 c11] T V (.slice avk qs.length cvk) (.slice none 0 0) qs [] wr):=HJ.out.2;have HALL:Hid (qs.map (·.1)=T.ks/\qs.length=n):=⟨hall,hlen⟩;have q2:wr.cell? ⟨w.heap.size,9,none⟩=some (.slice aa m ca):=by have:=HF0.out.box;simp[World.cell?,this]
   clear hall hlen HJ hg;go_wp2
   go_loopg [7,41] m (λgg _ i wr=>∃(k:Nat) (ys:List (Int×Int)) (vb:Value),gg+k=m/\i=.int .i64 k/\ys.length=k/\Hid (ys=T.ls.take k/\Ak.Rf w B e #[.int .i64 z0,.int .i64 z1,.int .i64 z2,.int .i64 z3,.int .i64 z4,.int .i64 z5,.slice a6 n6 c6,.slice a7 n7 c7,.slice ak n ck,.slice aa m ca,.slice a10 n10 c10,.slice a11 n11 c11] T V (.slice avk qs.length cvk) vb qs ys wr))
   case atStart=>exact⟨0, [],.slice none 0 0,by omega,rfl,rfl,rfl,HF0.out⟩
   case round=>
    obtain⟨k,ys,vb,hg,rfl,hyl,HL⟩:=hrel;clear q2;subst hyl;obtain⟨av,cv,hva⟩:=Ak.own_shape HL.out.2.ownL;subst hva
    by_cases hk:ys.length<m
    rotate_left
    ·have hd2:decide ((ys.length:Int)<m)=false:=decide_eq_false (by omega)
     have hall:ys=T.ls:=HL.out.1.trans (List.take_of_length_le (by rw[HM.out.2.1];omega));subst hall;have hu:=Tryz.underlying48;have HR:Hid (Ak.Rf w B e #[.int .i64 z0,.int .i64 z1,.int .i64 z2,.int .i64 z3,.int .i64 z4,.int .i64 z5,.slice a6 n6 c6,.slice a7 n7 c7,.slice ak n ck,.slice aa m ca,.slice a10 n10 c10,.slice a11 n11 c11] T V (.slice avk qs.length cvk) (.slice av T.ls.length cv) qs T.ls wr):=HL.out.2;have HEl:Hid (∃d',Ac.LiesP wr B e (λk=>w.heap.size+3<=k/\k<wr.heap.size) d' ⟨V.t,V.c,.slice avk qs.length cvk,.slice av T.ls.length cv,V.n,V.f⟩ T):=Ak.Rf.all HR.out HT.out.2.2.2.1 HALL.out.1 HT.out.2.2.1;have hv:=HR.out.var;have hr:=HR.out.res;rw[HT.out.2.2.2.2]at hv;have ir:(Tryz.prog.info? 48).map (·.size)=some (#[.int .i64 z0,.int .i64 z1,.int .i64 z2,.int .i64 z3,.int .i64 z4,.int .i64 z5,.slice a6 n6 c6,.slice a7 n7 c7,.slice avk qs.length cvk,.slice av T.ls.length cv,.slice a10 n10 c10,.slice a11 n11 c11]:Array Value).size:=Ak.rinfo;have or_:(#[.int .i64 z0,.int .i64 z1,.int .i64 z2,.int .i64 z3,.int .i64 z4,.int .i64 z5,.slice a6 n6 c6,.slice a7 n7 c7,.slice avk qs.length cvk,.slice av T.ls.length cv,.slice a10 n10 c10,.slice a11 n11 c11]:Array Value).all (·.oneCell')=true:=by simp[Value.oneCell']
     clear HL
     go_wp2_with (first
      |refine wpList_load_row rfl 48 _ rfl _ rfl 48 _ (0,0) _ hv hu rfl ir ?_
      |refine wpList_store_row rfl 48 _ _ rfl (w.heap.size+1) #[.int .i64 z0,.int .i64 z1,.int .i64 z2,.int .i64 z3,.int .i64 z4,.int .i64 z5,.slice a6 n6 c6,.slice a7 n7 c7,.slice avk qs.length cvk,.slice av T.ls.length cv,.slice a10 n10 c10,.slice a11 n11 c11] rfl rfl 48 _ hr ir rfl or_ ?_)
     refine bodyPost_ret (v:=.agg #[.int .i64 z0,.int .i64 z1,.int .i64 z2,.int .i64 z3,.int .i64 z4,.int .i64 z5,.slice a6 n6 c6,.slice a7 n7 c7,.slice avk qs.length cvk,.slice av T.ls.length cv,.slice a10 n10 c10,.slice a11 n11 c11]) (results_cell_row Tryz.results12 _ _ (w.heap.size+1) 48 #[.int .i64 z0,.int .i64 z1,.int .i64 z2,.int .i64 z3,.int .i64 z4,.int .i64 z5,.slice a6 n6 c6,.slice a7 n7 c7,.slice avk qs.length cvk,.slice av T.ls.length cv,.slice a10 n10 c10,.slice a11 n11 c11] (0,0) _ rfl (setRow_heap _ _ _ _ _ _ hr) hu rfl ir) rfl ⟨?_, ?_⟩
     ·exact Tk.below_row HR.out.below (by omega) _
     obtain⟨d',hl⟩:=HEl.out;refine⟨⟨V.t,V.c,.slice avk qs.length cvk,.slice av T.ls.length cv,V.n,V.f⟩,d',by rw[HT.out.2.2.2.2], ?_⟩;refine hl.keep (λk hk=>setRow_other _ _ _ _ (by have:=HT.out.2.2.2.1;omega)) (λk hk=>setRow_other _ _ _ _ (by have:=hk.1;omega)) λk hk=>⟨by have:=hk.1;omega,by have:=hk.2;simpa [World.setRow]using this⟩
    have hd2:decide ((ys.length:Int)<m)=true:=decide_eq_true (by omega);have hkm:ys.length<T.ls.length:=by rw[HM.out.2.1];exact hk
    obtain⟨g,off,rfl,hgl,k0,k1⟩:=HAT.out ys.length hkm;obtain⟨x,hx⟩:=pE (T.ls[ys.length]);rw[hx]at k0 k1;have hgw:g<w.heap.size:=by have:=HT.out.2.2.2.1;omega
    have hcb:∀o,wr.cell? ⟨g,o,none⟩=w.cell? ⟨g,o,none⟩:=λo=>World.cell?_of_block (w:=w) (HL.out.2.below.block g hgw);have hc0:wr.cell? ⟨g,off+ys.length*2,none⟩=some (.int .i64 x.1):=by rw[hcb];exact k0
    have hc1:wr.cell? ⟨g,off+ys.length*2+1,none⟩=some (.int .i64 x.2):=by rw[hcb];exact k1
    have hob:=HL.out.2.var;rw[HT.out.2.2.2.2]at hob;have co:wr.cell? ⟨w.heap.size+1+1,9,none⟩=some (.slice av ys.length cv):=by simp[World.cell?,hob]
    have hzf:=HL.out.2.lt;have HF1:=HL.out.2.step HT.out.2.2.2.1 ((Below.refl _ wr).alloc (Nat.le_refl _) (.cells #[.int .i64 x.1,.int .i64 x.2] 80));have own3:=HF1.ownL;have HX:Hid (T.ls[ys.length]=x):=hx;have lg:g<wr.heap.size:=by omega
    clear k0 k1 hob hx hcb
    go_wp2_with (at_builtin;refine wpList_append_lies _ rfl _ _ 46 rfl (w.heap.size+3) 83 i0 _ 2 16 Tryz.underlying46 hi hy0 hy1 hy2 rfl (by decide) _ _ _ rfl (own3.alloc _) ⟨wr.heap.size+1,0,none⟩ 1 1 [.int .i64 x.1,.int .i64 x.2] rfl rfl ?c1 ?c2 (by decide) ?c3 ?c4 ?c5 (wr.heap.size+2) ?c6 ?_)
    case c1=>
     intro j u hj
     match j,hj with
     |0,hj=>simp at hj;subst hj;simp[Addr.add]
     |1,hj=>simp at hj;subst hj;simp[Addr.add]
    case c2=>intro u hu;simp at hu;rcases hu with rfl|rfl<;>rfl
    case c3=>unfold maxLen;omega
    case c4=>omega
    case c5=>simp;omega
    case c6=>simp
    intro g6 c6' W6 o6 q6 hg6 hl6;have HF2:=HF1.step HT.out.2.2.2.1 ((Below.refl _ _).alloc (Nat.le_refl _) (.cells #[.int .i64 x.1,.int .i64 x.2] 83));have m6:=HF2.midL q6;rw[HT.out.2.2.2.2]at m6;have z6:w.heap.size+1+1<W6.heap.size:=(Array.getElem?_eq_some_iff.1 m6).1;have k60:W6.cell? ⟨w.heap.size+1+1,9,none⟩=some (.slice av ys.length cv):=by simp[World.cell?,m6]
    have k61:W6.frozen? ⟨w.heap.size+1+1,9,none⟩=false:=by simp[World.frozen?,m6]
    have P6:Hid (ys++ [x]=T.ls.take (ys.length+1)/\Ak.Rf w B e #[.int .i64 z0,.int .i64 z1,.int .i64 z2,.int .i64 z3,.int .i64 z4,.int .i64 z5,.slice a6 n6 c6,.slice a7 n7 c7,.slice ak n ck,.slice (some ⟨g,off,none⟩) m ca,.slice a10 n10 c10,.slice a11 n11 c11] T V (.slice avk qs.length cvk) (.slice (some ⟨g6,0,none⟩) (ys.length+1) c6') qs (ys++ [x]) (W6.setCell ⟨w.heap.size+1+1,9,none⟩ (.slice (some ⟨g6,0,none⟩) (ys.length+1) c6'))):=by
     refine⟨?_,Ak.Rf.link (H:=wr.heap.size+2) HF2 HT.out.2.2.2.1 (by simp) o6 q6 hg6⟩;rw[List.take_succ_eq_append_getElem hkm,HX.out,<-HL.out.1]
    clear m6 o6 q6 own3 HF1 HF2 hg6 hl6;go_wp2;go_roundg (gk-1)
    case measure=>omega
    case rel=>exact⟨ys.length+1,_,_,by omega,by go_num,by simp,P6.out⟩
end Go.Proofs
namespace Go.Proofs
open Go.RowKit Go.ChangeShapes Go.WideShapes
theorem Dd.rst_eq_raw (s t:List Int)(hs:s.length=104)(ht:t.length=104)(W:World):(Op.equalIn 10000 53 (.agg (Dd.row s)) (.agg (Dd.row t))).run Tryz.prog W=.ok ((List.range 40).all (λj=>decide (s.getD (0+j) 0=t.getD (0+j) 0))&&(List.range 64).all (λj=>decide (s.getD (40+j) 0=t.getD (40+j) 0))) W:=by
 show(Op.equalIn (9999+1) 53 _ _).run Tryz.prog W=_;rw[run_equalIn_struct W 9999 _ _ _ (by kernel_rfl) (by kernel_rfl)];have p0:(part 38 (Dd.row s) 0).run Tryz.prog W=.ok (.agg ((Dd.row s).extract 0 (0+40))) W:=Dd.part40 _ 0 W;have p1:(part 39 (Dd.row s) 40).run Tryz.prog W=.ok (.agg ((Dd.row s).extract 40 (40+64))) W:=Dd.part64 _ 40 W;have q0:(part 38 (Dd.row t) 0).run Tryz.prog W=.ok (.agg ((Dd.row t).extract 0 (0+40))) W:=Dd.part40 _ 0 W;have q1:(part 39 (Dd.row t) 40).run Tryz.prog W=.ok (.agg ((Dd.row t).extract 40 (40+64))) W:=Dd.part64 _ 40 W;have r0:=Dd.arr_eq40 9997 ((Dd.row s).extract 0 (0+40)) ((Dd.row t).extract 0 (0+40)) (λj=>s.getD (0+j) 0) (λj=>t.getD (0+j) 0) W λj hj=>⟨Dd.row_extract hs 0 40 j hj (by omega),Dd.row_extract ht 0 40 j hj (by omega)⟩;have r1:=Dd.arr_eq64 9997 ((Dd.row s).extract 40 (40+64)) ((Dd.row t).extract 40 (40+64)) (λj=>s.getD (40+j) 0) (λj=>t.getD (40+j) 0) W λj hj=>⟨Dd.row_extract hs 40 64 j hj (by omega),Dd.row_extract ht 40 64 j hj (by omega)⟩;obtain⟨e0,he0⟩:=pE (((List.range 40).all λj=>decide (s.getD (0+j) 0=t.getD (0+j) 0)));obtain⟨e1,he1⟩:=pE (((List.range 64).all λj=>decide (s.getD (40+j) 0=t.getD (40+j) 0)));rw[he0]at r0⊢;rw[he1]at r1⊢;obtain⟨cs,hcs⟩:=pE (Dd.row s);obtain⟨ct,hct⟩:=pE (Dd.row t);rw[hcs]at p0 p1 r0 r1⊢
 rw[hct]at q0 q1 r0 r1⊢;unfold Program.fieldsOf;rw[Tryz.underlying53];change (Op.eqFields 9999 cs ct (_::_:: [])).run Tryz.prog W=_;refine(Dd.eqFields_cons 9999 cs ct _ _ W _ _ e0 (by decide) p0 q0 r0).trans ?_
 cases e0 with
 |false=>rfl
 |true=>
  rw[if_pos rfl];refine(Dd.eqFields_cons 9999 cs ct _ _ W _ _ e1 (by decide) p1 q1 r1).trans ?_
  cases e1<;>rfl
theorem Dd.rst_eq (s t:List Int)(hs:s.length=104)(ht:t.length=104)(W:World):(Op.equalIn 10000 53 (.agg (Dd.row s)) (.agg (Dd.row t))).run Tryz.prog W=.ok (decide (s=t)) W:=by
 rw[Dd.rst_eq_raw s t hs ht W]
 congr 1
 rw[Bool.eq_iff_iff,Bool.and_eq_true,decide_eq_true_iff,List.all_eq_true,List.all_eq_true]
 constructor
 ·rintro⟨h1,h2⟩
  refine Dd.ext hs ht λi hi=> ?_
  by_cases q:i<40
  ·have:=of_decide_eq_true (h1 i (List.mem_range.2 q))
   rwa [Nat.zero_add]at this
  have:=of_decide_eq_true (h2 (i-40) (List.mem_range.2 (by omega)))
  rwa [show 40+(i-40)=i by omega]at this
 rintro rfl;exact⟨λ_ _=>decide_eq_true rfl,λ_ _=>decide_eq_true rfl⟩
theorem Dd.rints_len {l:List Int}(h:l.length=104):(Tryz.prog.info? 53).map (·.size)=some (Dd.ints l).length:=by
 have:=Dd.rinfo_row h;rw[Dd.row_size]at this;rw[this];simp[Dd.ints]
theorem Dd.st_eqi (s t:List Int)(hs:s.length=104)(ht:t.length=104)(W:World):(Op.equalIn 10000 41 (.agg (Dd.ints s).toArray) (.agg (Dd.row t))).run Tryz.prog W=.ok (decide (s=t)) W:=Dd.st_eq s t hs ht W
theorem Dd.range_got {W:World}{g:Nat}{t:List Int}{e:Int}(h:W.heap[g]? =some (.cells (Dd.row (t++ [e])) 59 (0,0)))(ht:t.length=104):W.rangeAt g 0 (Dd.ints t)/\W.cell? ⟨g,104,none⟩=some (.int .i64 e):=by
 refine⟨λj v hv=> ?_, ?_⟩
 ·rw[Nat.zero_add]
  simp only[World.cell?,h];obtain⟨hj,rfl⟩:=List.getElem?_eq_some_iff.1 hv;have hj':j<t.length:=by simpa [Dd.ints]using hj
  have h1:=Dd.row_get (l:=t++ [e]) (i:=j) (by simp;omega);rw[List.getD_eq_getElem?_getD,List.getElem?_append_left hj',List.getElem?_eq_getElem hj']at h1;refine h1.trans ?_;simp[Dd.ints]
 simp only[World.cell?,h];have h1:=Dd.row_get (l:=t++ [e]) (i:=104) (by simp[ht]);rw[List.getD_eq_getElem?_getD,List.getElem?_append_right (by omega),ht]at h1;exact h1
end Go.Proofs
