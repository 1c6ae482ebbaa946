import Derived.Test.YtenaelpdnccgnaaGreatDoorRAcFormM
import Derived.Test.YtenaelpdnccgnaaGreatDoorRNtRef4
import Derived.Test.YtenaelpdnccgnaaGreatDoorRBwAt
set_option maxRecDepth 100000
set_option maxHeartbeats 32000000
namespace Go.Proofs
open Go
theorem Nt.put_some (ts:List Value)(ds:List Deferred)(d:Tmp)(v:Value):Act.put ⟨ts.toArray,ds⟩ (some d) v=⟨(ts.set d v).toArray,ds⟩:=by
 simp[Act.put]
theorem Nt.takeS {P:Program}{md:Region.Mode}{ops:Array Oper}{Q:Exit->Act->World->Prop}{S:World->Prop}(i:Nat){oi:Oper}{v:Value}{fuel:Nat}{listed:Array Bool}{ts:List Value}{ds:List Deferred}{w:World}(d:Tmp)(hi:ops[i]? =some oi)(hd:oi.dst=some d)
  (hs:Region.noSelect ops=true) (hf:Region.free md ops listed i=true) (hr:(Region.ready md ops listed).contains i=true)
  (hQ:∀c a w,Q (.panic c) (a.put oi.dst v) w->Q (.panic c) a w) (hy:YieldsIf P ops S oi v ⟨ts.toArray,ds⟩) (hS:S w)
  (h:wpAnyH P md ops Q S fuel (listed.setIfInBounds i true) ⟨(ts.set d v).toArray,ds⟩ w):wpAnyH P md ops Q S (fuel+1) listed ⟨ts.toArray,ds⟩ w:=
 wpAnyH_take hi hs hf hr hQ hy hS (by rw[hd,Nt.put_some];exact h)
end Go.Proofs
namespace Go.Proofs
open Go.RowKit Go.Shelf
def Ac.enterS (T:Ac)(bs:List Bool):Bool×List Bool:=if Ac.hasNodeB T.kind=true then(!((bs[T.node.toNat]?).getD true),bs.set T.node.toNat true)else(true,bs)
def Ac.NodeOk (T:Ac):Prop:=Ac.hasNodeB T.kind=true->0<=T.node/\T.node<24
theorem Tryz.twice1_any (k m:Int)(x2 x3 x4 x5 x6 x7 x8 x9 x10 x11:Value)(b:Nat)(bs:List Bool)(w:World)(h:Nt.Bt w b bs)(hl:bs.length=24)(hm:Ac.hasNodeB k=true->0<=m/\m<24):
  Calls Tryz.prog 50 #[.agg #[.int .i64 k,.int .i64 m,x2,x3,x4,x5,x6,x7,x8,x9,x10,x11],.pointer (some ⟨b,0,none⟩)] w λe w'=>e=.returned (.bool (if Ac.hasNodeB k=true then !((bs[m.toNat]?).getD true)else true))/\Nt.Bt w' b (if Ac.hasNodeB k=true then bs.set m.toNat true else bs)/\Tk.But (λx=>x=b) w w':=by
 obtain⟨w1,hw1⟩:=pE (w.alloc (.cells #[.int .i64 k,.int .i64 m,x2,x3,x4,x5,x6,x7,x8,x9,x10,x11] 32));have A1:=pB hw1
 have G1:w1.heap[w.heap.size]? =some (.cells #[.int .i64 k,.int .i64 m,x2,x3,x4,x5,x6,x7,x8,x9,x10,x11] 32 (0,0)):=by rw[<-hw1];exact heap_alloc_new w _
 have c0:w1.cell? ⟨w.heap.size,0,none⟩=some (.int .i64 k):=by simp[World.cell?,G1]
 have c1:w1.cell? ⟨w.heap.size,1,none⟩=some (.int .i64 m):=by simp[World.cell?,G1]
 have h1:Nt.Bt w1 b bs:=h.keep (A1.block b h.lt);have H1:Hid (w.alloc (.cells #[.int .i64 k,.int .i64 m,x2,x3,x4,x5,x6,x7,x8,x9,x10,x11] 32)=w1):=hw1;have CN:Hid _:=Tryz.hasNode_any k w1;obtain⟨q,hq⟩:=pE (Ac.hasNodeB k);rw[hq]at CN hm⊢;have HA:Hid (Below w.heap.size w w1/\Nt.Bt w1 b bs):=⟨A1,h1⟩
 cases q with
 |false=>
  clear hw1 A1 G1 h1 h hm hq hl
  go_enter Tryz.func50,Tryz.ntmps50
  go_upto_region 1 with fail
  rw[H1.out]
  go_wp2_with fail
  refine Calls.mono CN.out ?_;rintro e W2 ⟨rfl,hw2⟩;obtain rfl:=hw2.symm;go_wp2;go_ret;exact⟨rfl,HA.out.2,Tk.But.of_below HA.out.1⟩
 |true=>
  obtain⟨i,rfl⟩:∃i:Nat,m=i:=⟨m.toNat,by have:=hm rfl;omega⟩;have hi:i<24:=by have:=hm rfl;omega
  have hx:bs[i]? =some (bs[i]'(by omega)):=List.getElem?_eq_getElem (by omega);obtain⟨x,hxx⟩:=pE (bs[i]'(by omega));rw[hxx]at hx;have d0:=h1.cell i x hx;have f0:=h1.frozen i;have hi':(i:Int)<24:=by omega
  have hi0:(0:Int)<=i:=by omega
  have hlt:b≠w.heap.size:=by have:=h.lt;omega
  have c1':(w1.setCell ⟨b,i,none⟩ (.bool true)).cell? ⟨w.heap.size,1,none⟩=some (.int .i64 (i:Int)):=by
   rw[World.cell?_of_block (w:=w1) (Below.heap_setCell _ _ _ _ (Ne.symm hlt))];exact c1
  have HP:Hid (Nt.Bt (w1.setCell ⟨b,i,none⟩ (.bool true)) b (bs.set i true)/\Tk.But (λk=>k=b) w (w1.setCell ⟨b,i,none⟩ (.bool true))/\(bs[i]?).getD true=x):=⟨h1.put i true,(Tk.But.of_below A1).setCell (E:=λk=>k=b) (p:=⟨b,i,none⟩) rfl _,by rw[hx];rfl⟩;clear hw1 A1 G1 h1 h hm hq hl hx hxx
  go_enter Tryz.func50,Tryz.ntmps50
  go_upto_region 1 with fail
  rw[H1.out]
  go_wp2_with fail
  refine Calls.mono CN.out ?_;rintro e W2 ⟨rfl,hw2⟩;obtain rfl:=hw2.symm;go_wp2;go_ret;exact⟨by rw[HP.out.2.2];rfl,HP.out.1,HP.out.2.1⟩
theorem Ak.stepped_twice (B e b bw:Nat)(hB:B<=b)(hne:b≠bw):Ak.Stepped Ac.enterS Ac.NodeOk 50 #[.pointer (some ⟨b,0,none⟩)] (λbs W=>Nt.Bt W b bs/\bs.length=24) (λk=>k=b) B e bw where
 enters:=enters_of Tryz.func50 (by kernel_rfl) rfl
 calls:=λs W d T V hP hI _ _=>by
  have h:=Tryz.twice1_any T.kind T.node (.int .i64 T.a) (.int .i64 T.b) (.int .i64 T.t.op) (.int .i64 T.t.num) V.t V.c V.k V.l V.n V.f b s W hI.1 hI.2 hP;refine Calls.mono h λe w' q=> ?_;unfold Ac.enterS;refine⟨?_, ?_,q.2.2⟩
  ·rw[q.1];congr 2;split<;>rfl
  have h2:=q.2.1
  split at h2
  ·next hh=>rw[if_pos hh];exact⟨h2,by simp[hI.2]⟩
  next hh=>rw[if_neg hh];exact⟨h2,hI.2⟩
 keeps:=λs W W' hI hb=>⟨hI.1.keep (hb.block b hI.1.lt hne),hI.2⟩
 above:=λk hk=>hk▸hB
 not_bw:=λh=>hne h.symm
structure Nt.Kw (w:World)(box:Array Value)(W:World):Prop where
 below:Below w.heap.size w W
 box:W.heap[w.heap.size]? =some (.cells box 30 (0,0))
 ans:W.heap[w.heap.size+1]? =some (.cells #[.int .i64 0,.int .i64 0] 123 (0,0))
end Go.Proofs
