import Derived.Test.YtenaelpdnccgnaaGreatDoorQBwTwiceM
set_option maxRecDepth 100000
set_option maxHeartbeats 32000000
namespace Go.Proofs
open Go.RowKit
def Bw.Sm (x:Tm):Prop:=x.size<=2000/\x.depth<=1000
structure Bw.Small (T:Ac):Prop where
 t:Bw.Sm T.t
 c:∀x∈T.cs,Bw.Sm x
 n:∀x∈T.ns,Bw.Sm x.t
 f:∀x∈T.fs,Bw.Sm x.c
 cl:T.cs.length<=120
 kl:T.ks.length<=120
 ll:T.ls.length<=60
 nl:T.ns.length<=30
 fl:T.fs.length<=50
def Bw.LargeEnd (T:Ac)(k:Nat)(b dp:Nat)(w:World)(e:Ending)(w':World):Prop:=
 Tk.But (λi=>i=b) w w'/\((e=.returned (.bool false)/\(T.All Bw.Small/\T.depth+dp<=41)/\∃k':Nat,k'+T.size<=k/\Tk.Rm b (k':Int) w')∨e=.returned (.bool true))
theorem Bw.row12 {w:World}{g o:Nat}{y0 y1 y2 y3 y4 y5 y6 y7 y8 y9 y10 y11:Value}(h:Ac.Row w g o #[y0,y1,y2,y3,y4,y5,y6,y7,y8,y9,y10,y11]):
  w.cell? ⟨g,o,none⟩=some y0/\w.cell? ⟨g,o+1,none⟩=some y1/\w.cell? ⟨g,o+2,none⟩=some y2/\w.cell? ⟨g,o+3,none⟩=some y3/\w.cell? ⟨g,o+4,none⟩=some y4/\w.cell? ⟨g,o+5,none⟩=some y5/\w.cell? ⟨g,o+6,none⟩=some y6/\w.cell? ⟨g,o+7,none⟩=some y7/\w.cell? ⟨g,o+8,none⟩=some y8/\w.cell? ⟨g,o+9,none⟩=some y9/\w.cell? ⟨g,o+10,none⟩=some y10/\w.cell? ⟨g,o+11,none⟩=some y11:=
 ⟨h 0 (by simp),h 1 (by simp),h 2 (by simp),h 3 (by simp),h 4 (by simp),h 5 (by simp),h 6 (by simp),h 7 (by simp),h 8 (by simp),h 9 (by simp),h 10 (by simp),h 11 (by simp)⟩
theorem Bw.alls_of {P:Ac->Prop} :∀{l:List Ac},(∀k (h:k<l.length),l[k].All P)->Ac.Alls P l
 | [],_=>trivial
 |x::r,h=>⟨h 0 (by simp),Bw.alls_of λk hk=>h (k+1) (by simpa using hk)⟩
theorem Bw.depths_le:∀(l:List Ac) (m:Nat),(∀k (h:k<l.length),l[k].depth<=m)->Ac.depths l<=m
 | [],_,_=>Nat.zero_le _
 |x::r,m,h=>by
  have h1:=h 0 (by simp);have h2:=Bw.depths_le r m λk hk=>h (k+1) (by simpa using hk);simp only[List.getElem_cons_zero]at h1;rw[Ac.depths];omega
theorem Tryz.alarge_any (e:Nat):∀(d:Nat) (T:Ac) (V:Ac.Vs) (k b dp B:Nat) (w:World),Ac.Lies w B e d V T->B<=b->B<=w.heap.size->Tk.Rm b k w->k<=2000->dp<=1000->
  Calls Tryz.prog 9 #[.agg (Ac.row T V),.pointer (some ⟨b,0,none⟩),.int .i64 dp] w λe w'=>Bw.LargeEnd T k b dp w e w':=by
 intro d
 induction d with
 |zero=>intro T V k b dp B w h;exact h.elim
 |succ d ih=>
  intro T V k b dp B w hT hBb hBs hR hk hdp;obtain⟨ta,tc,ht⟩:=hT.own.t.shape;obtain⟨ca,cc,hc,hcs⟩:=hT.own.c;obtain⟨ka,kc,hvk⟩:=hT.kids;obtain⟨la,lc,hl,_⟩:=hT.own.l;obtain⟨na,nc,hn,hns⟩:=hT.own.n;obtain⟨fa,fc,hf,hfs⟩:=hT.own.f;obtain⟨tn,etn⟩:=pE (T.t.ks.length);obtain⟨cn,ecn⟩:=pE (T.cs.length);obtain⟨kn,ekn⟩:=pE (T.ks.length);obtain⟨ln,eln⟩:=pE (T.ls.length);obtain⟨nn,enn⟩:=pE (T.ns.length);obtain⟨fn,efn⟩:=pE (T.fs.length);rw[etn]at ht;rw[ecn]at hc;rw[ekn]at hvk;rw[eln]at hl;rw[enn]at hn;rw[efn]at hf;have hrow0:Ac.row T V=#[.int .i64 T.kind,.int .i64 T.node,.int .i64 T.a,.int .i64 T.b,.int .i64 T.t.op,.int .i64 T.t.num,.slice ta tn tc,.slice ca cn cc,.slice ka kn kc,.slice la ln lc,.slice na nn nc,.slice fa fn fc]:=by unfold Ac.row;rw[ht,hc,hvk,hl,hn,hf]
  obtain⟨x0,e0⟩:=pE (Value.int .i64 T.kind);obtain⟨x1,e1⟩:=pE (Value.int .i64 T.node);obtain⟨x2,e2⟩:=pE (Value.int .i64 T.a);obtain⟨x3,e3⟩:=pE (Value.int .i64 T.b);obtain⟨x4,e4⟩:=pE (Value.int .i64 T.t.op);obtain⟨x5,e5⟩:=pE (Value.int .i64 T.t.num);rw[e0,e1,e2,e3,e4,e5]at hrow0;rw[hrow0];have A0:Below w.heap.size w (w.alloc (.cells #[x0,x1,x2,x3,x4,x5,.slice ta tn tc,.slice ca cn cc,.slice ka kn kc,.slice la ln lc,.slice na nn nc,.slice fa fn fc] 32)):=(Below.refl _ w).alloc (Nat.le_refl _) _;have R0:Tk.Rm b k (w.alloc (.cells #[x0,x1,x2,x3,x4,x5,.slice ta tn tc,.slice ca cn cc,.slice ka kn kc,.slice la ln lc,.slice na nn nc,.slice fa fn fc] 32)):=hR.keep (A0.block b hR.lt);have c0:=R0.c0;have f0:=R0.f0;have R1:=R0.put ((k:Int)-1);obtain⟨w1,hw1⟩:=pE ((w.alloc (.cells #[x0,x1,x2,x3,x4,x5,.slice ta tn tc,.slice ca cn cc,.slice ka kn kc,.slice la ln lc,.slice na nn nc,.slice fa fn fc] 32)).setCell ⟨b,0,none⟩ (.int .i64 ((k:Int)-1)));have X1:Hid (Tk.But (λi=>i=b) w w1):=by show Tk.But _ _ _;rw[<-hw1];exact(Tk.But.of_below A0).setCell (E:=λi=>i=b) (p:=⟨b,0,none⟩) rfl _
  rw[hw1]at R1;have g0:=R1.c0
  have hbx:w1.heap[w.heap.size]? =some (.cells #[x0,x1,x2,x3,x4,x5,.slice ta tn tc,.slice ca cn cc,.slice ka kn kc,.slice la ln lc,.slice na nn nc,.slice fa fn fc] 32 (0,0)):=by
   rw[<-hw1,Below.heap_setCell _ _ _ _ (by have:=hR.lt;show w.heap.size≠b;omega)];exact heap_alloc_new w _
  have HK:Hid (∀W,Tk.But (λi=>i=b) w1 W->Tk.But (λi=>i=b) w W/\(∀i,i<B->W.heap[i]? =w.heap[i]?)/\B<=W.heap.size/\W.cell? ⟨w.heap.size,4,none⟩=some x4/\W.cell? ⟨w.heap.size,5,none⟩=some x5/\W.cell? ⟨w.heap.size,6,none⟩=some (.slice ta tn tc)/\W.cell? ⟨w.heap.size,7,none⟩=some (.slice ca cn cc)/\W.cell? ⟨w.heap.size,8,none⟩=some (.slice ka kn kc)/\W.cell? ⟨w.heap.size,9,none⟩=some (.slice la ln lc)/\W.cell? ⟨w.heap.size,10,none⟩=some (.slice na nn nc)/\W.cell? ⟨w.heap.size,11,none⟩=some (.slice fa fn fc)):=λW hb=>by
   have hbt:Tk.But (λi=>i=b) w W:=X1.out.trans hb
   have h1:W.heap[w.heap.size]? =some (.cells #[x0,x1,x2,x3,x4,x5,.slice ta tn tc,.slice ca cn cc,.slice ka kn kc,.slice la ln lc,.slice na nn nc,.slice fa fn fc] 32 (0,0)):=by
    rw[hb.block _ (Array.getElem?_eq_some_iff.1 hbx).1 (by have:=hR.lt;show¬w.heap.size=b;omega)];exact hbx
   refine⟨hbt,λi hi=>hbt.block i (by omega) (by show¬i=b;omega),by have:=hbt.size;omega, ?_⟩;simp[World.cell?,h1]
  have HW1:Hid ((w.alloc (.cells #[x0,x1,x2,x3,x4,x5,.slice ta tn tc,.slice ca cn cc,.slice ka kn kc,.slice la ln lc,.slice na nn nc,.slice fa fn fc] 32)).setCell ⟨b,0,none⟩ (.int .i64 ((k:Int)-1))=w1):=hw1;have HT:Hid (Ac.Lies w B e (d+1) V T/\Ac.Tms w B e ca T.cs/\Nt.Nds w B e na T.ns/\Nt.Fls w B e fa T.fs/\V.k=.slice ka kn kc/\Tm.Lies w B e (.slice ta tn tc) T.t):=⟨hT,hcs,hns,hfs,hvk,by rw[<-ht];exact hT.own.t⟩;have HI:Hid _:=ih;have HN:Hid (T.t.ks.length=tn/\T.cs.length=cn/\T.ks.length=kn/\T.ls.length=ln/\T.ns.length=nn/\T.fs.length=fn/\Value.int .i64 T.t.op=x4/\Value.int .i64 T.t.num=x5):=⟨etn,ecn,ekn,eln,enn,efn,e4,e5⟩;have HM:Hid (B<=b/\B<=w.heap.size/\b<w.heap.size):=⟨hBb,hBs,hR.lt⟩;have HR1:Hid (Tk.Rm b ((k:Int)-1) w1):=R1;obtain⟨-,-,-,p4,p5,p6,p7,p8,p9,p10,p11⟩:=HK.out w1 (Tk.But.refl _ _);clear ih hT hR A0 R0 hw1 R1 hbx hBb hBs ht hc hvk hl hn hf hcs hns hfs etn ecn ekn eln enn efn hrow0 e0 e1 e2 e3 e4 e5
  by_cases hbad:(k:Int)-1<0∨40<dp∨120<kn∨60<ln∨120<cn∨30<nn∨50<fn
  ·obtain h1|⟨h1,h2⟩|⟨h1,h2,h3⟩|⟨h1,h2,h3,h4⟩|⟨h1,h2,h3,h4,h5⟩|⟨h1,h2,h3,h4,h5,h6⟩|⟨h1,h2,h3,h4,h5,h6,h7⟩:decide ((k:Int)-1<0)=true∨(decide ((k:Int)-1<0)=false/\decide ((40:Int)<dp)=true)∨(decide ((k:Int)-1<0)=false/\decide ((40:Int)<dp)=false/\decide ((120:Int)<kn)=true)∨(decide ((k:Int)-1<0)=false/\decide ((40:Int)<dp)=false/\decide ((120:Int)<kn)=false/\decide ((60:Int)<ln)=true)∨(decide ((k:Int)-1<0)=false/\decide ((40:Int)<dp)=false/\decide ((120:Int)<kn)=false/\decide ((60:Int)<ln)=false/\decide ((120:Int)<cn)=true)∨(decide ((k:Int)-1<0)=false/\decide ((40:Int)<dp)=false/\decide ((120:Int)<kn)=false/\decide ((60:Int)<ln)=false/\decide ((120:Int)<cn)=false/\decide ((30:Int)<nn)=true)∨(decide ((k:Int)-1<0)=false/\decide ((40:Int)<dp)=false/\decide ((120:Int)<kn)=false/\decide ((60:Int)<ln)=false/\decide ((120:Int)<cn)=false/\decide ((30:Int)<nn)=false/\decide ((50:Int)<fn)=true):=by
    simp;omega
   all_goals
    clear hbad
    go_enter Tryz.func9,Tryz.ntmps9
    go_wp2;go_ret;exact⟨by rw[HW1.out];exact X1.out,.inr rfl⟩
  have h1:decide ((k:Int)-1<0)=false:=decide_eq_false (by omega);have h2:decide ((40:Int)<dp)=false:=decide_eq_false (by omega);have h3:decide ((120:Int)<kn)=false:=decide_eq_false (by omega);have h4:decide ((60:Int)<ln)=false:=decide_eq_false (by omega);have h5:decide ((120:Int)<cn)=false:=decide_eq_false (by omega);have h6:decide ((30:Int)<nn)=false:=decide_eq_false (by omega);have h7:decide ((50:Int)<fn)=false:=decide_eq_false (by omega);have hb1:kn<=120:=by omega
  have hb2:cn<=120:=by omega
  have hb3:nn<=30:=by omega
  have hb4:fn<=50:=by omega
  have hdp':dp<=40:=by omega
  have HBD:Hid (1<=k/\k<=2000/\ln<=60):=by exact⟨by omega,hk,by omega⟩
  have CT:Hid (∀(W:World) (j:Nat),Tk.But (λi=>i=b) w1 W->j<=2000->Tk.Rm b (j:Int) W->∀(v:Value) (S:Tm),Tm.Lies w B e v S->Calls Tryz.prog 23 #[.agg #[.int .i64 S.op,.int .i64 S.num,v],.pointer (some ⟨b,0,none⟩),.int .i64 1] W λe w'=>Tk.LargeEnd S j b 1 W e w'):=λW j hb hj hr v S hS=>by
   obtain⟨_,q2,q3,_⟩:=HK.out W hb;exact Tryz.deep_any e S v j b 1 B W (hS.keep q2) HM.out.1 q3 hr (by omega) (by omega)
  have CTT:=CT.out w1 (k-1) (Tk.But.refl _ _) (by omega) (by have:=HR1.out;rw[show(k:Int)-1=((k-1:Nat):Int)by omega]at this;exact this) (.slice ta tn tc) T.t HT.out.2.2.2.2.2;rw[HN.out.2.2.2.2.2.2.1,HN.out.2.2.2.2.2.2.2]at CTT;have HCT:Hid _:=CTT;clear hbad CTT
  go_enter Tryz.func9,Tryz.ntmps9
  go_wp2_with fail
  rw[HW1.out]
  go_wp2_with fail
  refine Calls.mono HCT.out ?_;rintro e' W2 ⟨hb2',⟨rfl,hs2,hr2⟩|rfl⟩
  rotate_left
  ·have X2:Hid (Tk.But (λi=>i=b) w W2):=(HK.out _ hb2').1
   clear hb2' HCT;go_wp2;go_ret;exact⟨X2.out,.inr rfl⟩
  have X2:Hid (Tk.But (λi=>i=b) w1 W2/\(T.t.size<=k-1/\T.t.depth+1<=41)/\Tk.Rm b ((k-1-T.t.size:Nat):Int) W2):=⟨hb2',hs2,hr2⟩;obtain⟨-,-,-,-,-,-,q7,-,-,-,-⟩:=HK.out W2 hb2';clear hb2' hs2 hr2 HCT p4 p5 p6 p7 p8 p9 p10 p11 g0 c0 f0;go_wp2
  go_loopg [73] cn (λgk s73 wr=>∃(j k':Nat),gk+j=cn/\s73=.int .i64 j/\Hid (Tk.But (λi=>i=b) w1 wr/\k'<=k-1/\Tk.Rm b (k':Int) wr/\∀x,x∈T.cs.take j->Bw.Sm x))
  case atStart=>exact⟨0,k-1-T.t.size,by omega,rfl,X2.out.1,by omega,X2.out.2.2,by simp⟩
  case round=>
   obtain⟨j,k2,hj,rfl,HJ⟩:=hrel;clear q7
   by_cases hlt:j<cn
   ·have hd:decide ((j:Int)<cn)=true:=decide_eq_true (by omega)
    have hjl:j<T.cs.length:=by rw[HN.out.2.1];exact hlt
    obtain⟨g,off,u,rfl,hg,m0,m1,m2,hTj⟩:=HT.out.2.1 j hjl;obtain⟨x,hx⟩:=pE (T.cs[j]);rw[hx]at m0 m1 hTj;obtain⟨_,z2,z3,_⟩:=HK.out wr HJ.out.1;have hcw:∀o,wr.cell? ⟨g,o,none⟩=w.cell? ⟨g,o,none⟩:=λo=>World.cell?_of_block (w:=w) (z2 g hg);obtain⟨y0,hy0⟩:=pE (x.op);obtain⟨y1,hy1⟩:=pE (x.num);obtain⟨au,cu,rfl⟩:=hTj.shape;obtain⟨nu,hnu⟩:=pE (x.ks.length);have d0:=(hcw _).trans m0;have d1:=(hcw _).trans m1;have d2:=(hcw _).trans m2;rw[hy0]at d0;rw[hy1]at d1;rw[hnu]at d2 hTj;obtain⟨W0,hW0⟩:=pE (wr.alloc (.cells #[.int .i64 y0,.int .i64 y1,.slice au nu cu] 24));have BW0:Tk.But (λi=>i=b) w1 W0:=by rw[<-hW0];exact HJ.out.1.alloc _
    have hcall:=CT.out W0 k2 BW0 (by have:=HJ.out.2.1;have:=HBD.out;omega) (by rw[<-hW0];exact HJ.out.2.2.1.keep (Below.heap_alloc _ _ _ HJ.out.2.2.1.lt)) (.slice au nu cu) x hTj;rw[hy0,hy1]at hcall;have HC:Hid _:=hcall;have HW0:Hid (wr.alloc (.cells #[.int .i64 y0,.int .i64 y1,.slice au nu cu] 24)=W0):=hW0;have HB0:Hid (Tk.But (λi=>i=b) w1 W0):=BW0;have HX:Hid (T.cs[j]=x):=hx;have HJL:Hid (j<T.cs.length):=hjl;clear hcall hcw m0 m1 m2 hTj hx hy0 hy1 hnu hW0 BW0 z2 z3
    go_wp2_with fail
    rw[HW0.out];refine Calls.mono HC.out ?_;rintro e' W3 ⟨hb3,⟨rfl,hs3,hr3⟩|rfl⟩
    ·have B3:Hid (Tk.But (λi=>i=b) w1 W3):=HB0.out.trans hb3
     have H3:Hid ((x.size<=k2/\x.depth+1<=41)/\Tk.Rm b ((k2-x.size:Nat):Int) W3):=⟨hs3,hr3⟩;obtain⟨-,-,-,-,-,-,q7,-,-,-,-⟩:=HK.out W3 B3.out;clear hb3 hs3 hr3 HC;go_wp2;go_roundg (gk-1)
     case measure=>omega
     case rel=>
      refine⟨j+1,k2-x.size,by omega,by go_num,B3.out,by have:=HJ.out.2.1;omega,H3.out.2,λy hy=> ?_⟩;rw[Tm.take_snoc _ _ HJL.out,List.mem_append]at hy
      rcases hy with hy|hy
      ·exact HJ.out.2.2.2 y hy
      simp only[List.mem_singleton]at hy;rw[hy,HX.out];have h3:=H3.out.1;have:=HJ.out.2.1;have:=HBD.out;exact⟨by omega,by omega⟩
    have B3:Hid (Tk.But (λi=>i=b) w W3):=(HK.out _ (HB0.out.trans hb3)).1;clear hb3 HC;go_wp2;go_ret;exact⟨B3.out,.inr rfl⟩
   have hd:decide ((j:Int)<cn)=false:=decide_eq_false (by omega);have HCS:Hid (∀x,x∈T.cs->Bw.Sm x):=λx hx=>HJ.out.2.2.2 x (by rw[List.take_of_length_le (by rw[HN.out.2.1];omega)];exact hx);obtain⟨-,-,-,-,-,-,-,-,-,q10,-⟩:=HK.out wr HJ.out.1;go_wp2
   go_loopg [85] nn (λgk s85 wr=>∃(j k':Nat),gk+j=nn/\s85=.int .i64 j/\Hid (Tk.But (λi=>i=b) w1 wr/\k'<=k-1/\Tk.Rm b (k':Int) wr/\∀x,x∈T.ns.take j->Bw.Sm x.t))
   case atStart=>exact⟨0,k2,by omega,rfl,HJ.out.1,HJ.out.2.1,HJ.out.2.2.1,by simp⟩
   case round=>
    obtain⟨j3,k3,hj3,rfl,HJ3⟩:=hrel;clear q10
    by_cases hlt3:j3<nn
    ·have hd3:decide ((j3:Int)<nn)=true:=decide_eq_true (by omega)
     have hjl:j3<T.ns.length:=by rw[HN.out.2.2.2.2.1];exact hlt3
     obtain⟨g,off,u,rfl,hg,m0,m1,m2,m3,m4,hTj⟩:=HT.out.2.2.1 j3 hjl;obtain⟨x,hx⟩:=pE (T.ns[j3]);rw[hx]at m0 m1 m2 m3 hTj;obtain⟨_,z2,z3,_⟩:=HK.out wr HJ3.out.1;have hcw:∀o,wr.cell? ⟨g,o,none⟩=w.cell? ⟨g,o,none⟩:=λo=>World.cell?_of_block (w:=w) (z2 g hg);obtain⟨y0,hy0⟩:=pE (x.t.op);obtain⟨y1,hy1⟩:=pE (x.t.num);obtain⟨y2,hy2⟩:=pE (x.kind);obtain⟨y3,hy3⟩:=pE (x.a);obtain⟨au,cu,rfl⟩:=hTj.shape;obtain⟨nu,hnu⟩:=pE (x.t.ks.length);have d0:=(hcw _).trans m0;have d1:=(hcw _).trans m1;have d2:=(hcw _).trans m2;have d3:=(hcw _).trans m3;have d4:=(hcw _).trans m4;rw[hy2]at d0;rw[hy3]at d1;rw[hy0]at d2;rw[hy1]at d3;rw[hnu]at d4 hTj;obtain⟨W0,hW0⟩:=pE (wr.alloc (.cells #[.int .i64 y2,.int .i64 y3,.int .i64 y0,.int .i64 y1,.slice au nu cu] 62));have BW0:Tk.But (λi=>i=b) w1 W0:=by rw[<-hW0];exact HJ3.out.1.alloc _
     have hcall:=CT.out W0 k3 BW0 (by have:=HJ3.out.2.1;have:=HBD.out;omega) (by rw[<-hW0];exact HJ3.out.2.2.1.keep (Below.heap_alloc _ _ _ HJ3.out.2.2.1.lt)) (.slice au nu cu) x.t hTj;rw[hy0,hy1]at hcall;have HC:Hid _:=hcall;have HW0:Hid (wr.alloc (.cells #[.int .i64 y2,.int .i64 y3,.int .i64 y0,.int .i64 y1,.slice au nu cu] 62)=W0):=hW0;have HB0:Hid (Tk.But (λi=>i=b) w1 W0):=BW0;have HX:Hid (T.ns[j3]=x):=hx;have HJL:Hid (j3<T.ns.length):=hjl;have hu:=Tryz.underlying62;clear hcall hcw m0 m1 m2 m3 m4 hTj hx hy0 hy1 hy2 hy3 hnu hW0 BW0 z2 z3
     go_wp2_with fail
     rw[HW0.out];refine Calls.mono HC.out ?_;rintro e' W3 ⟨hb3,⟨rfl,hs3,hr3⟩|rfl⟩
     ·have B3:Hid (Tk.But (λi=>i=b) w1 W3):=HB0.out.trans hb3
      have H3:Hid ((x.t.size<=k3/\x.t.depth+1<=41)/\Tk.Rm b ((k3-x.t.size:Nat):Int) W3):=⟨hs3,hr3⟩;clear hb3 hs3 hr3 HC;go_wp2;go_roundg (gk-1)
      case measure=>omega
      case rel=>
       refine⟨j3+1,k3-x.t.size,by omega,by go_num,B3.out,by have:=HJ3.out.2.1;omega,H3.out.2,λy hy=> ?_⟩;rw[Tm.take_snoc _ _ HJL.out,List.mem_append]at hy
       rcases hy with hy|hy
       ·exact HJ3.out.2.2.2 y hy
       simp only[List.mem_singleton]at hy;rw[hy,HX.out];have h3:=H3.out.1;have:=HJ3.out.2.1;have:=HBD.out;exact⟨by omega,by omega⟩
     have B3:Hid (Tk.But (λi=>i=b) w W3):=(HK.out _ (HB0.out.trans hb3)).1;clear hb3 HC;go_wp2;go_ret;exact⟨B3.out,.inr rfl⟩
    have hd3:decide ((j3:Int)<nn)=false:=decide_eq_false (by omega);have HNS:Hid (∀x,x∈T.ns->Bw.Sm x.t):=λx hx=>HJ3.out.2.2.2 x (by rw[List.take_of_length_le (by rw[HN.out.2.2.2.2.1];omega)];exact hx);obtain⟨-,-,-,-,-,-,-,-,-,-,q11⟩:=HK.out wr HJ3.out.1;go_wp2
    go_loopg [98] fn (λgk s98 wr=>∃(j k':Nat),gk+j=fn/\s98=.int .i64 j/\Hid (Tk.But (λi=>i=b) w1 wr/\k'<=k-1/\Tk.Rm b (k':Int) wr/\∀x,x∈T.fs.take j->Bw.Sm x.c))
    case atStart=>exact⟨0,k3,by omega,rfl,HJ3.out.1,HJ3.out.2.1,HJ3.out.2.2.1,by simp⟩
    case round=>
     obtain⟨j4,k4,hj4,rfl,HJ4⟩:=hrel;clear q11
     by_cases hlt4:j4<fn
     ·have hd4:decide ((j4:Int)<fn)=true:=decide_eq_true (by omega)
      have hjl:j4<T.fs.length:=by rw[HN.out.2.2.2.2.2.1];exact hlt4
      obtain⟨g,off,u,rfl,hg,m0,m1,m2,m3,m4,m5,hTj⟩:=HT.out.2.2.2.1 j4 hjl;obtain⟨x,hx⟩:=pE (T.fs[j4]);rw[hx]at m0 m1 m2 m3 m4 hTj;obtain⟨_,z2,z3,_⟩:=HK.out wr HJ4.out.1;have hcw:∀o,wr.cell? ⟨g,o,none⟩=w.cell? ⟨g,o,none⟩:=λo=>World.cell?_of_block (w:=w) (z2 g hg);obtain⟨y0,hy0⟩:=pE (x.c.op);obtain⟨y1,hy1⟩:=pE (x.c.num);obtain⟨y2,hy2⟩:=pE (x.fr);obtain⟨y3,hy3⟩:=pE (x.to);obtain⟨y4,hy4⟩:=pE (x.els);obtain⟨au,cu,rfl⟩:=hTj.shape;obtain⟨nu,hnu⟩:=pE (x.c.ks.length);have d0:=(hcw _).trans m0;have d1:=(hcw _).trans m1;have d2:=(hcw _).trans m2;have d3:=(hcw _).trans m3;have d4:=(hcw _).trans m4;have d5:=(hcw _).trans m5;rw[hy2]at d0;rw[hy3]at d1;rw[hy4]at d2;rw[hy0]at d3;rw[hy1]at d4;rw[hnu]at d5 hTj;obtain⟨W0,hW0⟩:=pE (wr.alloc (.cells #[.int .i64 y2,.int .i64 y3,.bool y4,.int .i64 y0,.int .i64 y1,.slice au nu cu] 64));have BW0:Tk.But (λi=>i=b) w1 W0:=by rw[<-hW0];exact HJ4.out.1.alloc _
      have hcall:=CT.out W0 k4 BW0 (by have:=HJ4.out.2.1;have:=HBD.out;omega) (by rw[<-hW0];exact HJ4.out.2.2.1.keep (Below.heap_alloc _ _ _ HJ4.out.2.2.1.lt)) (.slice au nu cu) x.c hTj;rw[hy0,hy1]at hcall;have HC:Hid _:=hcall;have HW0:Hid (wr.alloc (.cells #[.int .i64 y2,.int .i64 y3,.bool y4,.int .i64 y0,.int .i64 y1,.slice au nu cu] 64)=W0):=hW0;have HB0:Hid (Tk.But (λi=>i=b) w1 W0):=BW0;have HX:Hid (T.fs[j4]=x):=hx;have HJL:Hid (j4<T.fs.length):=hjl;have hu:=Tryz.underlying64;clear hcall hcw m0 m1 m2 m3 m4 m5 hTj hx hy0 hy1 hy2 hy3 hy4 hnu hW0 BW0 z2 z3
      go_wp2_with fail
      rw[HW0.out];refine Calls.mono HC.out ?_;rintro e' W3 ⟨hb3,⟨rfl,hs3,hr3⟩|rfl⟩
      ·have B3:Hid (Tk.But (λi=>i=b) w1 W3):=HB0.out.trans hb3
       have H3:Hid ((x.c.size<=k4/\x.c.depth+1<=41)/\Tk.Rm b ((k4-x.c.size:Nat):Int) W3):=⟨hs3,hr3⟩;clear hb3 hs3 hr3 HC;go_wp2;go_roundg (gk-1)
       case measure=>omega
       case rel=>
        refine⟨j4+1,k4-x.c.size,by omega,by go_num,B3.out,by have:=HJ4.out.2.1;omega,H3.out.2,λy hy=> ?_⟩;rw[Tm.take_snoc _ _ HJL.out,List.mem_append]at hy
        rcases hy with hy|hy
        ·exact HJ4.out.2.2.2 y hy
        simp only[List.mem_singleton]at hy;rw[hy,HX.out];have h3:=H3.out.1;have:=HJ4.out.2.1;have:=HBD.out;exact⟨by omega,by omega⟩
      have B3:Hid (Tk.But (λi=>i=b) w W3):=(HK.out _ (HB0.out.trans hb3)).1;clear hb3 HC;go_wp2;go_ret;exact⟨B3.out,.inr rfl⟩
     have hd4:decide ((j4:Int)<fn)=false:=decide_eq_false (by omega);have HFS:Hid (∀x,x∈T.fs->Bw.Sm x.c):=λx hx=>HJ4.out.2.2.2 x (by rw[List.take_of_length_le (by rw[HN.out.2.2.2.2.2.1];omega)];exact hx)
     have HSM:Hid (Bw.Small T):=by
      have h:=HN.out;have h2:=HBD.out;exact⟨⟨by have:=X2.out.2.1;omega,by have:=X2.out.2.1;omega⟩,HCS.out,HNS.out,HFS.out,by omega,by omega,by omega,by omega,by omega⟩
     obtain⟨-,-,-,-,-,-,-,q8,-,-,-⟩:=HK.out wr HJ4.out.1;go_wp2
     go_loopg [110] kn (λgk s110 wr=>∃(j k':Nat),gk+j=kn/\s110=.int .i64 j/\Hid (Tk.But (λi=>i=b) w1 wr/\k'+Ac.sizes (T.ks.take j)<=k-1/\Tk.Rm b (k':Int) wr/\∀i (_:i<j) (h:i<T.ks.length),T.ks[i].All Bw.Small/\T.ks[i].depth+(dp+1)<=41))
     case atStart=>exact⟨0,k4,by omega,rfl,HJ4.out.1,by have:=HJ4.out.2.1;simp[Ac.sizes];omega,HJ4.out.2.2.1,λi hi=>by omega⟩
     case round=>
      obtain⟨j5,k5,hj5,rfl,HJ5⟩:=hrel;clear q8
      by_cases hlt5:j5<kn
      rotate_left
      ·have hd5:decide ((j5:Int)<kn)=false:=decide_eq_false (by omega)
       have B5:Hid (Tk.But (λi=>i=b) w wr):=(HK.out _ HJ5.out.1).1
       have HZ:Hid ((T.All Bw.Small/\T.depth+dp<=41)/\k5+T.size<=k):=by
        have hall:T.ks.take j5=T.ks:=List.take_of_length_le (by rw[HN.out.2.2.1];omega);refine⟨⟨?_, ?_⟩, ?_⟩
        ·rw[T.all_eq]
         exact⟨HSM.out,Bw.alls_of λi hi=>(HJ5.out.2.2.2 i (by rw[HN.out.2.2.1]at hi;omega) hi).1⟩
        ·rw[T.depth_eq]
         have h1:=Bw.depths_le T.ks (40-dp) λi hi=>by
          have h:=(HJ5.out.2.2.2 i (by rw[HN.out.2.2.1]at hi;omega) hi).2;omega
         omega
        have h1:=HJ5.out.2.1;rw[hall]at h1;rw[T.size_eq];have:=HBD.out;omega
       go_wp2;go_ret;exact⟨B5.out,.inl ⟨rfl,HZ.out.1,k5,HZ.out.2,HJ5.out.2.2.1⟩⟩
      have hd5:decide ((j5:Int)<kn)=true:=decide_eq_true (by omega);have hjl:j5<T.ks.length:=by rw[HN.out.2.2.1];exact hlt5
      obtain⟨g,off,U,rfl,hg,hr,hTj⟩:=HT.out.1.kid HT.out.2.2.2.2.1 j5 hjl;obtain⟨x,hx⟩:=pE (T.ks[j5]);rw[hx]at hr hTj;obtain⟨_,z2,z3,_⟩:=HK.out wr HJ5.out.1;obtain⟨a6,c6,a7,c7,a8,c8,a9,c9,aA,cA,aB,cB,rfl⟩:=hTj.shape;obtain⟨y0,y1,y2,y3,y4,y5,n6,n7,n8,n9,nA,nB,hyr⟩:∃(y0 y1 y2 y3 y4 y5:Int) (n6 n7 n8 n9 nA nB:Nat),Ac.row x ⟨.slice a6 x.t.ks.length c6,.slice a7 x.cs.length c7,.slice a8 x.ks.length c8,.slice a9 x.ls.length c9,.slice aA x.ns.length cA,.slice aB x.fs.length cB⟩=#[.int .i64 y0,.int .i64 y1,.int .i64 y2,.int .i64 y3,.int .i64 y4,.int .i64 y5,.slice a6 n6 c6,.slice a7 n7 c7,.slice a8 n8 c8,.slice a9 n9 c9,.slice aA nA cA,.slice aB nB cB]:=⟨_,_,_,_,_,_,_,_,_,_,_,_,rfl⟩;rw[hyr]at hr;obtain⟨d0,d1,d2,d3,d4,d5,d6,d7,d8,d9,d10,d11⟩:=Bw.row12 (hr.keep (z2 g hg));obtain⟨W0,hW0⟩:=pE (wr.alloc (.cells #[.int .i64 y0,.int .i64 y1,.int .i64 y2,.int .i64 y3,.int .i64 y4,.int .i64 y5,.slice a6 n6 c6,.slice a7 n7 c7,.slice a8 n8 c8,.slice a9 n9 c9,.slice aA nA cA,.slice aB nB cB] 32));have BW0:Tk.But (λi=>i=b) w1 W0:=by rw[<-hW0];exact HJ5.out.1.alloc _
      obtain⟨_,v2,v3,_⟩:=HK.out W0 BW0;have hcall:=HI.out x _ k5 b (dp+1) B W0 (hTj.keep v2) HM.out.1 v3 (by rw[<-hW0];exact HJ5.out.2.2.1.keep (Below.heap_alloc _ _ _ HJ5.out.2.2.1.lt)) (by have:=HJ5.out.2.1;have:=HBD.out;omega) (by omega);rw[hyr,show((dp+1:Nat):Int)=(dp:Int)+1 by omega]at hcall;have HC:Hid _:=hcall;have HW0:Hid (wr.alloc (.cells #[.int .i64 y0,.int .i64 y1,.int .i64 y2,.int .i64 y3,.int .i64 y4,.int .i64 y5,.slice a6 n6 c6,.slice a7 n7 c7,.slice a8 n8 c8,.slice a9 n9 c9,.slice aA nA cA,.slice aB nB cB] 32)=W0):=hW0;have HB0:Hid (Tk.But (λi=>i=b) w1 W0):=BW0;have HX:Hid (T.ks[j5]=x):=hx;have HJL:Hid (j5<T.ks.length):=hjl;have hu:=Tryz.underlying32;clear hcall hr hTj hx hyr hW0 BW0 z2 z3 v2 v3
      go_wp2_with fail
      rw[HW0.out];refine Calls.mono HC.out ?_;rintro e' W3 ⟨hb3,⟨rfl,hs3,k6,hk6,hr3⟩|rfl⟩
      ·have B3:Hid (Tk.But (λi=>i=b) w1 W3):=HB0.out.trans hb3
       have H3:Hid ((x.All Bw.Small/\x.depth+(dp+1)<=41)/\k6+x.size<=k5/\Tk.Rm b (k6:Int) W3):=⟨hs3,hk6,hr3⟩;clear hb3 hs3 hr3 HC hk6;go_wp2;go_roundg (gk-1)
       case measure=>omega
       case rel=>
        refine⟨j5+1,k6,by omega,by go_num,B3.out, ?_,H3.out.2.2,λi hi hil=> ?_⟩
        ·rw[Ac.sizes_take _ _ HJL.out,HX.out];have:=H3.out.2.1;have:=HJ5.out.2.1;omega
        by_cases q:i=j5
        ·subst q;rw[HX.out];exact H3.out.1
        exact HJ5.out.2.2.2 i (by omega) hil
      have B3:Hid (Tk.But (λi=>i=b) w W3):=(HK.out _ (HB0.out.trans hb3)).1;clear hb3 HC;go_wp2;go_ret;exact⟨B3.out,.inr rfl⟩
end Go.Proofs
