import Derived.Test.YtenaelpdnccgnaaGreatDoorRAcRSmall
set_option maxRecDepth 100000
set_option maxHeartbeats 32000000
namespace Go.Proofs
open Go.RowKit Go.Shelf
end Go.Proofs
namespace Go.Proofs
open Go.RowKit
def Tk.Rm (b:Nat)(k:Int)(w:World):Prop:=w.heap[b]? =some (.cells #[.int .i64 k] 36 (0,0))
theorem Tk.Rm.c0 {b:Nat}{k:Int}{w:World}(h:Tk.Rm b k w):w.cell? ⟨b,0,none⟩=some (.int .i64 k):=by simp only[Tk.Rm]at h;simp[World.cell?,h]
theorem Tk.Rm.f0 {b:Nat}{k:Int}{w:World}(h:Tk.Rm b k w):w.frozen? ⟨b,0,none⟩=false:=by simp only[Tk.Rm]at h;simp[World.frozen?,h]
theorem Tk.Rm.lt {b:Nat}{k:Int}{w:World}(h:Tk.Rm b k w):b<w.heap.size:=(Array.getElem?_eq_some_iff.1 h).1
theorem Tk.Rm.put {b:Nat}{k:Int}{w:World}(h:Tk.Rm b k w)(k':Int):Tk.Rm b k' (w.setCell ⟨b,0,none⟩ (.int .i64 k')):=by
 unfold Tk.Rm at*;simp[World.setCell,Array.getElem?_modify,h]
theorem Tk.Rm.keep {b:Nat}{k:Int}{w w':World}(h:Tk.Rm b k w)(hk:w'.heap[b]? =w.heap[b]?):Tk.Rm b k w':=by unfold Tk.Rm;rw[hk];exact h
def Tk.LargeEnd (T:Tm)(k:Nat)(b dp:Nat)(w:World)(e:Ending)(w':World):Prop:=
 Tk.But (λi=>i=b) w w'/\((e=.returned (.bool false)/\(T.size<=k/\T.depth+dp<=41)/\Tk.Rm b ((k-T.size:Nat):Int) w')∨e=.returned (.bool true))
theorem Tryz.deep_any:∀(d:Nat) (T:Tm) (v:Value) (k b:Nat) (dp:Nat) (B:Nat) (w:World),Tm.Lies w B d v T->B<=b->B<=w.heap.size->Tk.Rm b k w->k<=1000000->dp<=1000->
  Calls Tryz.prog 23 #[.agg #[.int .i64 T.op,.int .i64 T.num,v],.pointer (some ⟨b,0,none⟩),.int .i64 dp] w λe w'=>Tk.LargeEnd T k b dp w e w':=by
 intro d
 induction d with
 |zero=>intro T v k b dp B w h;exact h.elim
 |succ d ih=>
  intro T v k b dp B w hT hBb hBs hR hk hdp;obtain⟨a,cap,rfl⟩:=hT.shape;obtain⟨o,ho⟩:=pE (T.op);obtain⟨m,hm⟩:=pE (T.num);obtain⟨n,hn⟩:=pE (T.ks.length);rw[ho,hm,hn];rw[hn]at hT;have A0:Below w.heap.size w (w.alloc (.cells #[.int .i64 o,.int .i64 m,.slice a n cap] 24)):=(Below.refl _ w).alloc (Nat.le_refl _) _;have R0:Tk.Rm b k (w.alloc (.cells #[.int .i64 o,.int .i64 m,.slice a n cap] 24)):=hR.keep (A0.block b hR.lt);have c0:=R0.c0;have f0:=R0.f0;have R1:=R0.put ((k:Int)-1);obtain⟨w1,hw1⟩:=pE ((w.alloc (.cells #[.int .i64 o,.int .i64 m,.slice a n cap] 24)).setCell ⟨b,0,none⟩ (.int .i64 ((k:Int)-1)));have X1:Hid (Tk.But (λi=>i=b) w w1):=by show Tk.But _ _ _;rw[<-hw1];exact(Tk.But.of_below A0).setCell (E:=λi=>i=b) (p:=⟨b,0,none⟩) rfl _
  rw[hw1]at R1;have g0:=R1.c0
  have hbx:w1.heap[w.heap.size]? =some (.cells #[.int .i64 o,.int .i64 m,.slice a n cap] 24 (0,0)):=by
   rw[<-hw1,Below.heap_setCell _ _ _ _ (by have:=hR.lt;show w.heap.size≠b;omega)];exact heap_alloc_new w _
  have g2:w1.cell? ⟨w.heap.size,2,none⟩=some (.slice a n cap):=by simp[World.cell?,hbx]
  have HW1:Hid ((w.alloc (.cells #[.int .i64 o,.int .i64 m,.slice a n cap] 24)).setCell ⟨b,0,none⟩ (.int .i64 ((k:Int)-1))=w1):=hw1;have HT:Hid (Tm.Lies w B (d+1) (.slice a n cap) T):=hT;have HI:Hid _:=ih;have HM:Hid (T.op=o/\T.num=m/\T.ks.length=n/\B<=b/\B<=w.heap.size):=⟨ho,hm,hn,hBb,hBs⟩;have HR1:Hid (Tk.Rm b ((k:Int)-1) w1):=R1;have HRl:Hid (b<w.heap.size):=hR.lt;clear ih hT hR A0 R0 ho hm hn hw1 R1 hbx hBb hBs
  by_cases hbad:(k:Int)-1<0∨40<dp∨50<n
  ·obtain h1|⟨h1,h2⟩|⟨h1,h2,h3⟩:decide ((k:Int)-1<0)=true∨(decide ((k:Int)-1<0)=false/\decide ((40:Int)<dp)=true)∨(decide ((k:Int)-1<0)=false/\decide ((40:Int)<dp)=false/\decide ((50:Int)<n)=true):=by
    simp;omega
   all_goals
    clear hbad
    go_enter Tryz.func23,Tryz.ntmps23
    go_wp2;go_ret;exact⟨by rw[HW1.out];exact X1.out,.inr rfl⟩
  have h1:decide ((k:Int)-1<0)=false:=decide_eq_false (by omega);have h2:decide ((40:Int)<dp)=false:=decide_eq_false (by omega);have h3:decide ((50:Int)<n)=false:=decide_eq_false (by omega);have hn100:n<=100:=by omega
  have hdp':dp<=100:=by omega
  have HK:Hid (1<=k):=by show 1<=k;omega
  have HDP:Hid (dp<=40):=by show dp<=40;omega
  clear hbad
  go_enter Tryz.func23,Tryz.ntmps23
  go_wp2;rw[HW1.out]
  go_loopg [35] n (λg i wr=>∃j:Nat,g+j=n/\i=.int .i64 j/\Hid (Tk.But (λi=>i=b) w wr/\(Tm.sizes (T.ks.take j)<=k-1/\Tm.depths (T.ks.take j)+(dp+1)<=41)/\Tk.Rm b ((k-1-Tm.sizes (T.ks.take j):Nat):Int) wr))
  case atStart=>
   refine⟨0,by omega,rfl,X1.out,⟨by simp[Tm.sizes],by have:=HDP.out;simp[Tm.depths];omega⟩, ?_⟩;have:=HR1.out;rw[show(k:Int)-1=((k-1:Nat):Int)by have:=HK.out;omega]at this;simpa [Tm.sizes]using this
  case round=>
   obtain⟨j,hj,rfl,HJ⟩:=hrel
   by_cases hjn:j<n
   rotate_left
   ·have hd:decide ((j:Int)<n)=false:=decide_eq_false (by omega)
    have hall:T.ks.take j=T.ks:=List.take_of_length_le (by rw[HM.out.2.2.1];omega);have HZ:=HJ.out;rw[hall]at HZ;have HZ':Hid _:=HZ;clear HZ;go_wp2;go_ret;refine⟨HZ'.out.1,.inl ⟨rfl, ?_, ?_⟩⟩
    ·rw[T.size_eq,T.depth_eq];have h4:=HZ'.out.2.1;have:=HK.out;exact⟨by omega,by omega⟩
    rw[T.size_eq,show k-(Tm.sizes T.ks+1)=k-1-Tm.sizes T.ks by omega];exact HZ'.out.2.2
   have hd:decide ((j:Int)<n)=true:=decide_eq_true (by omega);have hjk:j<T.ks.length:=by rw[HM.out.2.2.1];exact hjn
   obtain⟨g,off,u,rfl,hg,q0,q1,q2,q3⟩:=HT.out.kid j hjk;obtain⟨x,hx⟩:=pE (T.ks[j]);rw[hx]at q0 q1 q3;obtain⟨au,cu,rfl⟩:=q3.shape;obtain⟨nx,hnx⟩:=pE (x.ks.length);rw[hnx]at q2 q3;obtain⟨y0,hy0⟩:=pE (x.op);obtain⟨y1,hz1⟩:=pE (x.num);rw[hy0]at q0;rw[hz1]at q1;have hE:∀i,i<B->¬(i=b):=λi hi=>by have:=HM.out;omega
   have hc:∀p,wr.cell? ⟨g,p,none⟩=w.cell? ⟨g,p,none⟩:=λp=>World.cell?_of_block (w:=w) (HJ.out.1.block g (by have:=HM.out;omega) (hE g hg));have hc0:wr.cell? ⟨g,off+j*3,none⟩=some (.int .i64 y0):=by rw[hc];exact q0
   have hc1:wr.cell? ⟨g,off+j*3+1,none⟩=some (.int .i64 y1):=by rw[hc];exact q1
   have hc2:wr.cell? ⟨g,off+j*3+2,none⟩=some (.slice au nx cu):=by rw[hc];exact q2
   have BA:Hid (Tk.But (λi=>i=b) w (wr.alloc (.cells #[.int .i64 y0,.int .i64 y1,.slice au nx cu] 24))):=HJ.out.1.alloc _
   have hcall:=HI.out x (.slice au nx cu) (k-1-Tm.sizes (T.ks.take j)) b (dp+1) B (wr.alloc (.cells #[.int .i64 y0,.int .i64 y1,.slice au nx cu] 24))
    (q3.keep λi hi=>BA.out.block i (by have:=HM.out;omega) (hE i hi)) HM.out.2.2.2.1 (by have:=HM.out;have:=BA.out.size;omega) (HJ.out.2.2.keep (Below.heap_alloc _ _ _ HJ.out.2.2.lt)) (by omega) (by omega)
   rw[hy0,hz1,show((dp+1:Nat):Int)=(dp:Int)+1 by omega]at hcall;have HC:Hid _:=hcall;have HY:Hid (T.ks[j]=x):=hx;clear hc q0 q1 q2 q3 hx hy0 hz1 hnx hcall hE g0 g2 c0 f0
   go_wp2_with fail
   refine Calls.mono HC.out ?_;rintro e W3 ⟨hb3,⟨rfl,hs3,hr3⟩|rfl⟩
   ·have B3:Hid (Tk.But (λi=>i=b) w W3):=BA.out.trans hb3
    have H3:Hid ((x.size<=k-1-Tm.sizes (T.ks.take j)/\x.depth+(dp+1)<=41)/\Tk.Rm b ((k-1-Tm.sizes (T.ks.take j)-x.size:Nat):Int) W3):=⟨hs3,hr3⟩;clear hb3 hs3 hr3 HC;go_wp2;go_roundg (gk-1)
    case measure=>omega
    case rel=>
     refine⟨j+1,by omega,by go_num,B3.out, ?_, ?_⟩
     ·rw[Tm.sizes_take _ _ hjk,Tm.depths_take _ _ hjk,HY.out];have h3:=H3.out.1;have h4:=HJ.out.2.1;exact⟨by omega,by omega⟩
     rw[Tm.sizes_take _ _ hjk,HY.out,<-Nat.sub_sub];exact H3.out.2
   have B3:Hid (Tk.But (λi=>i=b) w W3):=BA.out.trans hb3;clear hb3 HC;go_wp2;go_ret;exact⟨B3.out,.inr rfl⟩
end Go.Proofs
