import Derived.Test.YtmomffminkflnaaGreatDoorRDdR1
import Derived.Test.YtmomffminkflnaaGreatDoorRDdOver
set_option maxRecDepth 100000
set_option maxHeartbeats 32000000
namespace Go.Proofs
open Go.RowKit
structure Dd.Small(T:Ac):Prop where
 t:T.t.size<=1000
 c: ∀x∈T.cs,x.size<=1000
 n: ∀x∈T.ns,x.t.size<=1000
 f: ∀x∈T.fs,x.c.size<=1000
 cl:T.cs.length<=100
 kl:T.ks.length<=100
 ll:T.ls.length<=60
 nl:T.ns.length<=30
 fl:T.fs.length<=50
def Dd.LargeEnd(T:Ac)(k:Nat)(b:Nat)(w:World)(e:Ending)(w':World):Prop:=
 Tk.But(λi=>i=b)w w'/\((e= .returned(.bool false)/\T.All Dd.Small/\ ∃k':Nat,k'+T.size<=k/\Tk.Rm b(k':Int)w')∨e= .returned(.bool true))
theorem Dd.row12 {w:World} {g o:Nat} {y0 y1 y2 y3 y4 y5 y6 y7 y8 y9 y10 y11:Value} (h:Ac.Row w g o #[y0,y1,y2,y3,y4,y5,y6,y7,y8,y9,y10,y11]):
  w.cell? ⟨g,o,none⟩=some y0/\w.cell? ⟨g,o+1,none⟩=some y1/\w.cell? ⟨g,o+2,none⟩=some y2/\w.cell? ⟨g,o+3,none⟩=some y3/\w.cell? ⟨g,o+4,none⟩=some y4/\w.cell? ⟨g,o+5,none⟩=some y5/\w.cell? ⟨g,o+6,none⟩=some y6/\w.cell? ⟨g,o+7,none⟩=some y7/\w.cell? ⟨g,o+8,none⟩=some y8/\w.cell? ⟨g,o+9,none⟩=some y9/\w.cell? ⟨g,o+10,none⟩=some y10/\w.cell? ⟨g,o+11,none⟩=some y11:=
 ⟨h 0(by simp),h 1(by simp),h 2(by simp),h 3(by simp),h 4(by simp),h 5(by simp),h 6(by simp),h 7(by simp),h 8(by simp),h 9(by simp),h 10(by simp),h 11(by simp)⟩
theorem Dd.alls_of {P:Ac->Prop} : ∀ {l:List Ac},(∀k(h:k<l.length),l[k].All P)->Ac.Alls P l
 | [],_=>trivial
 |x::r,h=>⟨h 0(by simp),Dd.alls_of λk hk=>h(k+1)(by simpa using hk)⟩
theorem Tryz.alarge_any(e:Nat): ∀(d:Nat)(T:Ac)(V:Ac.Vs)(k b dp B:Nat)(w:World),Ac.Lies w B e d V T->B<=b->B<=w.heap.size->Tk.Rm b k w->k<=1000->dp<=1000->
  Calls Tryz.prog 9 #[.agg(Ac.row T V), .pointer(some⟨b,0,none⟩), .int .i64 dp]w λe w'=>Dd.LargeEnd T k b w e w':=by
 intro d
 induction d with
 |zero=>intro T V k b dp B w h;exact h.elim
 |succ d ih=>
  intro T V k b dp B w hT hBb hBs hR hk hdp;obtain⟨ta,tc,ht⟩:=hT.own.t.shape;obtain⟨ca,cc,hc,hcs⟩:=hT.own.c;obtain⟨ka,kc,hvk⟩:=hT.kids;obtain⟨la,lc,hl,_⟩:=hT.own.l;obtain⟨na,nc,hn,hns⟩:=hT.own.n;obtain⟨fa,fc,hf,hfs⟩:=hT.own.f;obtain⟨tn,etn⟩: ∃n,T.t.ks.length=n:=⟨_,rfl⟩;obtain⟨cn,ecn⟩: ∃n,T.cs.length=n:=⟨_,rfl⟩;obtain⟨kn,ekn⟩: ∃n,T.ks.length=n:=⟨_,rfl⟩;obtain⟨ln,eln⟩: ∃n,T.ls.length=n:=⟨_,rfl⟩;obtain⟨nn,enn⟩: ∃n,T.ns.length=n:=⟨_,rfl⟩;obtain⟨fn,efn⟩: ∃n,T.fs.length=n:=⟨_,rfl⟩;rw [etn]at ht;rw [ecn]at hc;rw [ekn]at hvk;rw [eln]at hl;rw [enn]at hn;rw [efn]at hf;have hrow0:Ac.row T V= #[.int .i64 T.kind, .int .i64 T.node, .int .i64 T.a, .int .i64 T.b, .int .i64 T.t.op, .int .i64 T.t.num, .slice ta tn tc, .slice ca cn cc, .slice ka kn kc, .slice la ln lc, .slice na nn nc, .slice fa fn fc]:=by unfold Ac.row;rw [ht,hc,hvk,hl,hn,hf]
  obtain⟨x0,e0⟩: ∃x,Value.int .i64 T.kind=x:=⟨_,rfl⟩;obtain⟨x1,e1⟩: ∃x,Value.int .i64 T.node=x:=⟨_,rfl⟩;obtain⟨x2,e2⟩: ∃x,Value.int .i64 T.a=x:=⟨_,rfl⟩;obtain⟨x3,e3⟩: ∃x,Value.int .i64 T.b=x:=⟨_,rfl⟩;obtain⟨x4,e4⟩: ∃x,Value.int .i64 T.t.op=x:=⟨_,rfl⟩;obtain⟨x5,e5⟩: ∃x,Value.int .i64 T.t.num=x:=⟨_,rfl⟩;rw [e0,e1,e2,e3,e4,e5]at hrow0;rw [hrow0];have A0:Below w.heap.size w(w.alloc(.cells #[x0,x1,x2,x3,x4,x5, .slice ta tn tc, .slice ca cn cc, .slice ka kn kc, .slice la ln lc, .slice na nn nc, .slice fa fn fc]32)):=(Below.refl _ w).alloc(Nat.le_refl _)_;have R0:Tk.Rm b k(w.alloc(.cells #[x0,x1,x2,x3,x4,x5, .slice ta tn tc, .slice ca cn cc, .slice ka kn kc, .slice la ln lc, .slice na nn nc, .slice fa fn fc]32)):=hR.keep(A0.block b hR.lt);have c0:=R0.c0;have f0:=R0.f0;have R1:=R0.put((k:Int)-1);obtain⟨w1,hw1⟩: ∃w1,(w.alloc(.cells #[x0,x1,x2,x3,x4,x5, .slice ta tn tc, .slice ca cn cc, .slice ka kn kc, .slice la ln lc, .slice na nn nc, .slice fa fn fc]32)).setCell⟨b,0,none⟩(.int .i64((k:Int)-1))=w1:=⟨_,rfl⟩;have X1:Hid(Tk.But(λi=>i=b)w w1):=by show Tk.But _ _ _;rw [<-hw1];exact(Tk.But.of_below A0).setCell(E:=λi=>i=b)(p:=⟨b,0,none⟩)rfl _
  rw [hw1]at R1;have g0:=R1.c0
  have hbx:w1.heap[w.heap.size]? =some(.cells #[x0,x1,x2,x3,x4,x5, .slice ta tn tc, .slice ca cn cc, .slice ka kn kc, .slice la ln lc, .slice na nn nc, .slice fa fn fc]32(0,0)):=by
   rw [<-hw1,Below.heap_setCell _ _ _ _(by have:=hR.lt;show w.heap.size≠b;omega)];exact heap_alloc_new w _
  have HK:Hid(∀W,Tk.But(λi=>i=b)w1 W->Tk.But(λi=>i=b)w W/\(∀i,i<B->W.heap[i]? =w.heap[i]?)/\B<=W.heap.size/\W.cell? ⟨w.heap.size,4,none⟩=some x4/\W.cell? ⟨w.heap.size,5,none⟩=some x5/\W.cell? ⟨w.heap.size,6,none⟩=some(.slice ta tn tc)/\W.cell? ⟨w.heap.size,7,none⟩=some(.slice ca cn cc)/\W.cell? ⟨w.heap.size,8,none⟩=some(.slice ka kn kc)/\W.cell? ⟨w.heap.size,9,none⟩=some(.slice la ln lc)/\W.cell? ⟨w.heap.size,10,none⟩=some(.slice na nn nc)/\W.cell? ⟨w.heap.size,11,none⟩=some(.slice fa fn fc)):=λW hb=>by
   have hbt:Tk.But(λi=>i=b)w W:=X1.out.trans hb
   have h1:W.heap[w.heap.size]? =some(.cells #[x0,x1,x2,x3,x4,x5, .slice ta tn tc, .slice ca cn cc, .slice ka kn kc, .slice la ln lc, .slice na nn nc, .slice fa fn fc]32(0,0)):=by
    rw [hb.block _(Array.getElem?_eq_some_iff.1 hbx).1(by have:=hR.lt;show¬w.heap.size=b;omega)];exact hbx
   refine⟨hbt,λi hi=>hbt.block i(by omega)(by show¬i=b;omega),by have:=hbt.size;omega, ?_⟩;simp [World.cell?,h1]
  have HW1:Hid((w.alloc(.cells #[x0,x1,x2,x3,x4,x5, .slice ta tn tc, .slice ca cn cc, .slice ka kn kc, .slice la ln lc, .slice na nn nc, .slice fa fn fc]32)).setCell⟨b,0,none⟩(.int .i64((k:Int)-1))=w1):=hw1;have HT:Hid(Ac.Lies w B e(d+1)V T/\Ac.Tms w B e ca T.cs/\Nt.Nds w B e na T.ns/\Nt.Fls w B e fa T.fs/\V.k= .slice ka kn kc/\Tm.Lies w B e(.slice ta tn tc)T.t):=⟨hT,hcs,hns,hfs,hvk,by rw [<-ht];exact hT.own.t⟩;have HI:Hid _:=ih;have HN:Hid(T.t.ks.length=tn/\T.cs.length=cn/\T.ks.length=kn/\T.ls.length=ln/\T.ns.length=nn/\T.fs.length=fn/\Value.int .i64 T.t.op=x4/\Value.int .i64 T.t.num=x5):=⟨etn,ecn,ekn,eln,enn,efn,e4,e5⟩;have HM:Hid(B<=b/\B<=w.heap.size/\b<w.heap.size):=⟨hBb,hBs,hR.lt⟩;have HR1:Hid(Tk.Rm b((k:Int)-1)w1):=R1;obtain⟨-,-,-,p4,p5,p6,p7,p8,p9,p10,p11⟩:=HK.out w1(Tk.But.refl _ _);clear ih hT hR A0 R0 hw1 R1 hbx hBb hBs ht hc hvk hl hn hf hcs hns hfs etn ecn ekn eln enn efn hrow0 e0 e1 e2 e3 e4 e5
  by_cases hbad:(k:Int)-1<0∨30<dp∨100<kn∨60<ln∨100<cn∨30<nn∨50<fn
  ·obtain h1|⟨h1,h2⟩|⟨h1,h2,h3⟩|⟨h1,h2,h3,h4⟩|⟨h1,h2,h3,h4,h5⟩|⟨h1,h2,h3,h4,h5,h6⟩|⟨h1,h2,h3,h4,h5,h6,h7⟩:decide((k:Int)-1<0)=true∨(decide((k:Int)-1<0)=false/\decide((30:Int)<dp)=true)∨(decide((k:Int)-1<0)=false/\decide((30:Int)<dp)=false/\decide((100:Int)<kn)=true)∨(decide((k:Int)-1<0)=false/\decide((30:Int)<dp)=false/\decide((100:Int)<kn)=false/\decide((60:Int)<ln)=true)∨(decide((k:Int)-1<0)=false/\decide((30:Int)<dp)=false/\decide((100:Int)<kn)=false/\decide((60:Int)<ln)=false/\decide((100:Int)<cn)=true)∨(decide((k:Int)-1<0)=false/\decide((30:Int)<dp)=false/\decide((100:Int)<kn)=false/\decide((60:Int)<ln)=false/\decide((100:Int)<cn)=false/\decide((30:Int)<nn)=true)∨(decide((k:Int)-1<0)=false/\decide((30:Int)<dp)=false/\decide((100:Int)<kn)=false/\decide((60:Int)<ln)=false/\decide((100:Int)<cn)=false/\decide((30:Int)<nn)=false/\decide((50:Int)<fn)=true):=by
    simp;omega
   all_goals
    clear hbad
    go_enter Tryz.func9,Tryz.ntmps9
    go_wp2;go_ret;exact⟨by rw [HW1.out];exact X1.out, .inr rfl⟩
  have h1:decide((k:Int)-1<0)=false:=decide_eq_false(by omega);have h2:decide((30:Int)<dp)=false:=decide_eq_false(by omega);have h3:decide((100:Int)<kn)=false:=decide_eq_false(by omega);have h4:decide((60:Int)<ln)=false:=decide_eq_false(by omega);have h5:decide((100:Int)<cn)=false:=decide_eq_false(by omega);have h6:decide((30:Int)<nn)=false:=decide_eq_false(by omega);have h7:decide((50:Int)<fn)=false:=decide_eq_false(by omega);have hb1:kn<=100:=by omega
  have hb2:cn<=100:=by omega
  have hb3:nn<=30:=by omega
  have hb4:fn<=50:=by omega
  have hdp':dp<=30:=by omega
  have HBD:Hid(1<=k/\k<=1000/\ln<=60):=by exact⟨by omega,hk,by omega⟩
  have CT:Hid(∀(W:World)(j:Nat),Tk.But(λi=>i=b)w1 W->j<=1000->Tk.Rm b(j:Int)W-> ∀(v:Value)(S:Tm),Tm.Lies w B e v S->Calls Tryz.prog 25 #[.agg #[.int .i64 S.op, .int .i64 S.num,v], .pointer(some⟨b,0,none⟩), .int .i64 1]W λe w'=>Tk.LargeEnd S j b W e w'):=λW j hb hj hr v S hS=>by
   obtain⟨_,q2,q3,_⟩:=HK.out W hb;exact Tryz.deep_any e S v j b 1 B W(hS.keep q2)HM.out.1 q3 hr(by omega)(by omega)
  have CTT:=CT.out w1(k-1)(Tk.But.refl _ _)(by omega)(by have:=HR1.out;rw [show(k:Int)-1=((k-1:Nat):Int)by omega]at this;exact this)(.slice ta tn tc)T.t HT.out.2.2.2.2.2;rw [HN.out.2.2.2.2.2.2.1,HN.out.2.2.2.2.2.2.2]at CTT;have HCT:Hid _:=CTT;clear hbad CTT
  go_enter Tryz.func9,Tryz.ntmps9
  go_wp2_with fail
  rw [HW1.out]
  go_wp2_with fail
  refine Calls.mono HCT.out ?_;rintro e' W2⟨hb2',⟨rfl,hs2,hr2⟩|rfl⟩
  rotate_left
  ·have X2:Hid(Tk.But(λi=>i=b)w W2):=(HK.out _ hb2').1
   clear hb2' HCT;go_wp2;go_ret;exact⟨X2.out, .inr rfl⟩
  have X2:Hid(Tk.But(λi=>i=b)w1 W2/\T.t.size<=k-1/\Tk.Rm b((k-1-T.t.size:Nat):Int)W2):=⟨hb2',hs2,hr2⟩;obtain⟨-,-,-,-,-,-,q7,-,-,-,-⟩:=HK.out W2 hb2';clear hb2' hs2 hr2 HCT p4 p5 p6 p7 p8 p9 p10 p11 g0 c0 f0;go_wp2
  go_loopg [73]cn(λgk s73 wr=> ∃(j k':Nat),gk+j=cn/\s73= .int .i64 j/\Hid(Tk.But(λi=>i=b)w1 wr/\k'<=k-1/\Tk.Rm b(k':Int)wr/\ ∀x,x∈T.cs.take j->x.size<=1000))
  case atStart=>exact⟨0,k-1-T.t.size,by omega,rfl,X2.out.1,by omega,X2.out.2.2,by simp⟩
  case round=>
   obtain⟨j,k2,hj,rfl,HJ⟩:=hrel;clear q7
   by_cases hlt:j<cn
   ·have hd:decide((j:Int)<cn)=true:=decide_eq_true(by omega)
    have hjl:j<T.cs.length:=by rw [HN.out.2.1];exact hlt
    obtain⟨g,off,u,rfl,hg,m0,m1,m2,hTj⟩:=HT.out.2.1 j hjl;obtain⟨x,hx⟩: ∃x,T.cs[j]=x:=⟨_,rfl⟩;rw [hx]at m0 m1 hTj;obtain⟨_,z2,z3,_⟩:=HK.out wr HJ.out.1;have hcw: ∀o,wr.cell? ⟨g,o,none⟩=w.cell? ⟨g,o,none⟩:=λo=>World.cell?_of_block(w:=w)(z2 g hg);obtain⟨y0,hy0⟩: ∃y,x.op=y:=⟨_,rfl⟩;obtain⟨y1,hy1⟩: ∃y,x.num=y:=⟨_,rfl⟩;obtain⟨au,cu,rfl⟩:=hTj.shape;obtain⟨nu,hnu⟩: ∃n,x.ks.length=n:=⟨_,rfl⟩;have d0:=(hcw _).trans m0;have d1:=(hcw _).trans m1;have d2:=(hcw _).trans m2;rw [hy0]at d0;rw [hy1]at d1;rw [hnu]at d2 hTj;obtain⟨W0,hW0⟩: ∃z,wr.alloc(.cells #[.int .i64 y0, .int .i64 y1, .slice au nu cu]24)=z:=⟨_,rfl⟩;have BW0:Tk.But(λi=>i=b)w1 W0:=by rw [<-hW0];exact HJ.out.1.alloc _
    have hcall:=CT.out W0 k2 BW0(by have:=HJ.out.2.1;have:=HBD.out;omega)(by rw [<-hW0];exact HJ.out.2.2.1.keep(Below.heap_alloc _ _ _ HJ.out.2.2.1.lt))(.slice au nu cu)x hTj;rw [hy0,hy1]at hcall;have HC:Hid _:=hcall;have HW0:Hid(wr.alloc(.cells #[.int .i64 y0, .int .i64 y1, .slice au nu cu]24)=W0):=hW0;have HB0:Hid(Tk.But(λi=>i=b)w1 W0):=BW0;have HX:Hid(T.cs[j]=x):=hx;have HJL:Hid(j<T.cs.length):=hjl;clear hcall hcw m0 m1 m2 hTj hx hy0 hy1 hnu hW0 BW0 z2 z3
    go_wp2_with fail
    rw [HW0.out];refine Calls.mono HC.out ?_;rintro e' W3⟨hb3,⟨rfl,hs3,hr3⟩|rfl⟩
    ·have B3:Hid(Tk.But(λi=>i=b)w1 W3):=HB0.out.trans hb3
     have H3:Hid(x.size<=k2/\Tk.Rm b((k2-x.size:Nat):Int)W3):=⟨hs3,hr3⟩;obtain⟨-,-,-,-,-,-,q7,-,-,-,-⟩:=HK.out W3 B3.out;clear hb3 hs3 hr3 HC;go_wp2;go_roundg(gk-1)
     case measure=>omega
     case rel=>
      refine⟨j+1,k2-x.size,by omega,by go_num,B3.out,by have:=HJ.out.2.1;omega,H3.out.2,λy hy=> ?_⟩;rw [Tm.take_snoc _ _ HJL.out,List.mem_append]at hy
      rcases hy with hy|hy
      ·exact HJ.out.2.2.2 y hy
      simp only [List.mem_singleton]at hy;rw [hy,HX.out];have:=H3.out.1;have:=HJ.out.2.1;have:=HBD.out;omega
    have B3:Hid(Tk.But(λi=>i=b)w W3):=(HK.out _(HB0.out.trans hb3)).1;clear hb3 HC;go_wp2;go_ret;exact⟨B3.out, .inr rfl⟩
   have hd:decide((j:Int)<cn)=false:=decide_eq_false(by omega);have HCS:Hid(∀x,x∈T.cs->x.size<=1000):=λx hx=>HJ.out.2.2.2 x(by rw [List.take_of_length_le(by rw [HN.out.2.1];omega)];exact hx);obtain⟨-,-,-,-,-,-,-,-,-,q10,-⟩:=HK.out wr HJ.out.1;go_wp2
   go_loopg [85]nn(λgk s85 wr=> ∃(j k':Nat),gk+j=nn/\s85= .int .i64 j/\Hid(Tk.But(λi=>i=b)w1 wr/\k'<=k-1/\Tk.Rm b(k':Int)wr/\ ∀x,x∈T.ns.take j->x.t.size<=1000))
   case atStart=>exact⟨0,k2,by omega,rfl,HJ.out.1,HJ.out.2.1,HJ.out.2.2.1,by simp⟩
   case round=>
    obtain⟨j3,k3,hj3,rfl,HJ3⟩:=hrel;clear q10
    by_cases hlt3:j3<nn
    ·have hd3:decide((j3:Int)<nn)=true:=decide_eq_true(by omega)
     have hjl:j3<T.ns.length:=by rw [HN.out.2.2.2.2.1];exact hlt3
     obtain⟨g,off,u,rfl,hg,m0,m1,m2,m3,m4,hTj⟩:=HT.out.2.2.1 j3 hjl;obtain⟨x,hx⟩: ∃x,T.ns[j3]=x:=⟨_,rfl⟩;rw [hx]at m0 m1 m2 m3 hTj;obtain⟨_,z2,z3,_⟩:=HK.out wr HJ3.out.1;have hcw: ∀o,wr.cell? ⟨g,o,none⟩=w.cell? ⟨g,o,none⟩:=λo=>World.cell?_of_block(w:=w)(z2 g hg);obtain⟨y0,hy0⟩: ∃y,x.t.op=y:=⟨_,rfl⟩;obtain⟨y1,hy1⟩: ∃y,x.t.num=y:=⟨_,rfl⟩;obtain⟨y2,hy2⟩: ∃y,x.kind=y:=⟨_,rfl⟩;obtain⟨y3,hy3⟩: ∃y,x.a=y:=⟨_,rfl⟩;obtain⟨au,cu,rfl⟩:=hTj.shape;obtain⟨nu,hnu⟩: ∃n,x.t.ks.length=n:=⟨_,rfl⟩;have d0:=(hcw _).trans m0;have d1:=(hcw _).trans m1;have d2:=(hcw _).trans m2;have d3:=(hcw _).trans m3;have d4:=(hcw _).trans m4;rw [hy2]at d0;rw [hy3]at d1;rw [hy0]at d2;rw [hy1]at d3;rw [hnu]at d4 hTj;obtain⟨W0,hW0⟩: ∃z,wr.alloc(.cells #[.int .i64 y2, .int .i64 y3, .int .i64 y0, .int .i64 y1, .slice au nu cu]76)=z:=⟨_,rfl⟩;have BW0:Tk.But(λi=>i=b)w1 W0:=by rw [<-hW0];exact HJ3.out.1.alloc _
     have hcall:=CT.out W0 k3 BW0(by have:=HJ3.out.2.1;have:=HBD.out;omega)(by rw [<-hW0];exact HJ3.out.2.2.1.keep(Below.heap_alloc _ _ _ HJ3.out.2.2.1.lt))(.slice au nu cu)x.t hTj;rw [hy0,hy1]at hcall;have HC:Hid _:=hcall;have HW0:Hid(wr.alloc(.cells #[.int .i64 y2, .int .i64 y3, .int .i64 y0, .int .i64 y1, .slice au nu cu]76)=W0):=hW0;have HB0:Hid(Tk.But(λi=>i=b)w1 W0):=BW0;have HX:Hid(T.ns[j3]=x):=hx;have HJL:Hid(j3<T.ns.length):=hjl;have hu:=Tryz.underlying76;clear hcall hcw m0 m1 m2 m3 m4 hTj hx hy0 hy1 hy2 hy3 hnu hW0 BW0 z2 z3
     go_wp2_with fail
     rw [HW0.out];refine Calls.mono HC.out ?_;rintro e' W3⟨hb3,⟨rfl,hs3,hr3⟩|rfl⟩
     ·have B3:Hid(Tk.But(λi=>i=b)w1 W3):=HB0.out.trans hb3
      have H3:Hid(x.t.size<=k3/\Tk.Rm b((k3-x.t.size:Nat):Int)W3):=⟨hs3,hr3⟩;clear hb3 hs3 hr3 HC;go_wp2;go_roundg(gk-1)
      case measure=>omega
      case rel=>
       refine⟨j3+1,k3-x.t.size,by omega,by go_num,B3.out,by have:=HJ3.out.2.1;omega,H3.out.2,λy hy=> ?_⟩;rw [Tm.take_snoc _ _ HJL.out,List.mem_append]at hy
       rcases hy with hy|hy
       ·exact HJ3.out.2.2.2 y hy
       simp only [List.mem_singleton]at hy;rw [hy,HX.out];have:=H3.out.1;have:=HJ3.out.2.1;have:=HBD.out;omega
     have B3:Hid(Tk.But(λi=>i=b)w W3):=(HK.out _(HB0.out.trans hb3)).1;clear hb3 HC;go_wp2;go_ret;exact⟨B3.out, .inr rfl⟩
    have hd3:decide((j3:Int)<nn)=false:=decide_eq_false(by omega);have HNS:Hid(∀x,x∈T.ns->x.t.size<=1000):=λx hx=>HJ3.out.2.2.2 x(by rw [List.take_of_length_le(by rw [HN.out.2.2.2.2.1];omega)];exact hx);obtain⟨-,-,-,-,-,-,-,-,-,-,q11⟩:=HK.out wr HJ3.out.1;go_wp2
    go_loopg [98]fn(λgk s98 wr=> ∃(j k':Nat),gk+j=fn/\s98= .int .i64 j/\Hid(Tk.But(λi=>i=b)w1 wr/\k'<=k-1/\Tk.Rm b(k':Int)wr/\ ∀x,x∈T.fs.take j->x.c.size<=1000))
    case atStart=>exact⟨0,k3,by omega,rfl,HJ3.out.1,HJ3.out.2.1,HJ3.out.2.2.1,by simp⟩
    case round=>
     obtain⟨j4,k4,hj4,rfl,HJ4⟩:=hrel;clear q11
     by_cases hlt4:j4<fn
     ·have hd4:decide((j4:Int)<fn)=true:=decide_eq_true(by omega)
      have hjl:j4<T.fs.length:=by rw [HN.out.2.2.2.2.2.1];exact hlt4
      obtain⟨g,off,u,rfl,hg,m0,m1,m2,m3,m4,m5,hTj⟩:=HT.out.2.2.2.1 j4 hjl;obtain⟨x,hx⟩: ∃x,T.fs[j4]=x:=⟨_,rfl⟩;rw [hx]at m0 m1 m2 m3 m4 hTj;obtain⟨_,z2,z3,_⟩:=HK.out wr HJ4.out.1;have hcw: ∀o,wr.cell? ⟨g,o,none⟩=w.cell? ⟨g,o,none⟩:=λo=>World.cell?_of_block(w:=w)(z2 g hg);obtain⟨y0,hy0⟩: ∃y,x.c.op=y:=⟨_,rfl⟩;obtain⟨y1,hy1⟩: ∃y,x.c.num=y:=⟨_,rfl⟩;obtain⟨y2,hy2⟩: ∃y,x.fr=y:=⟨_,rfl⟩;obtain⟨y3,hy3⟩: ∃y,x.to=y:=⟨_,rfl⟩;obtain⟨y4,hy4⟩: ∃y,x.els=y:=⟨_,rfl⟩;obtain⟨au,cu,rfl⟩:=hTj.shape;obtain⟨nu,hnu⟩: ∃n,x.c.ks.length=n:=⟨_,rfl⟩;have d0:=(hcw _).trans m0;have d1:=(hcw _).trans m1;have d2:=(hcw _).trans m2;have d3:=(hcw _).trans m3;have d4:=(hcw _).trans m4;have d5:=(hcw _).trans m5;rw [hy2]at d0;rw [hy3]at d1;rw [hy4]at d2;rw [hy0]at d3;rw [hy1]at d4;rw [hnu]at d5 hTj;obtain⟨W0,hW0⟩: ∃z,wr.alloc(.cells #[.int .i64 y2, .int .i64 y3, .bool y4, .int .i64 y0, .int .i64 y1, .slice au nu cu]78)=z:=⟨_,rfl⟩;have BW0:Tk.But(λi=>i=b)w1 W0:=by rw [<-hW0];exact HJ4.out.1.alloc _
      have hcall:=CT.out W0 k4 BW0(by have:=HJ4.out.2.1;have:=HBD.out;omega)(by rw [<-hW0];exact HJ4.out.2.2.1.keep(Below.heap_alloc _ _ _ HJ4.out.2.2.1.lt))(.slice au nu cu)x.c hTj;rw [hy0,hy1]at hcall;have HC:Hid _:=hcall;have HW0:Hid(wr.alloc(.cells #[.int .i64 y2, .int .i64 y3, .bool y4, .int .i64 y0, .int .i64 y1, .slice au nu cu]78)=W0):=hW0;have HB0:Hid(Tk.But(λi=>i=b)w1 W0):=BW0;have HX:Hid(T.fs[j4]=x):=hx;have HJL:Hid(j4<T.fs.length):=hjl;have hu:=Tryz.underlying78;clear hcall hcw m0 m1 m2 m3 m4 m5 hTj hx hy0 hy1 hy2 hy3 hy4 hnu hW0 BW0 z2 z3
      go_wp2_with fail
      rw [HW0.out];refine Calls.mono HC.out ?_;rintro e' W3⟨hb3,⟨rfl,hs3,hr3⟩|rfl⟩
      ·have B3:Hid(Tk.But(λi=>i=b)w1 W3):=HB0.out.trans hb3
       have H3:Hid(x.c.size<=k4/\Tk.Rm b((k4-x.c.size:Nat):Int)W3):=⟨hs3,hr3⟩;clear hb3 hs3 hr3 HC;go_wp2;go_roundg(gk-1)
       case measure=>omega
       case rel=>
        refine⟨j4+1,k4-x.c.size,by omega,by go_num,B3.out,by have:=HJ4.out.2.1;omega,H3.out.2,λy hy=> ?_⟩;rw [Tm.take_snoc _ _ HJL.out,List.mem_append]at hy
        rcases hy with hy|hy
        ·exact HJ4.out.2.2.2 y hy
        simp only [List.mem_singleton]at hy;rw [hy,HX.out];have:=H3.out.1;have:=HJ4.out.2.1;have:=HBD.out;omega
      have B3:Hid(Tk.But(λi=>i=b)w W3):=(HK.out _(HB0.out.trans hb3)).1;clear hb3 HC;go_wp2;go_ret;exact⟨B3.out, .inr rfl⟩
     have hd4:decide((j4:Int)<fn)=false:=decide_eq_false(by omega);have HFS:Hid(∀x,x∈T.fs->x.c.size<=1000):=λx hx=>HJ4.out.2.2.2 x(by rw [List.take_of_length_le(by rw [HN.out.2.2.2.2.2.1];omega)];exact hx)
     have HSM:Hid(Dd.Small T):=by
      have h:=HN.out;have h2:=HBD.out;exact⟨by have:=X2.out.2.1;omega,HCS.out,HNS.out,HFS.out,by omega,by omega,by omega,by omega,by omega⟩
     obtain⟨-,-,-,-,-,-,-,q8,-,-,-⟩:=HK.out wr HJ4.out.1;go_wp2
     go_loopg [110]kn(λgk s110 wr=> ∃(j k':Nat),gk+j=kn/\s110= .int .i64 j/\Hid(Tk.But(λi=>i=b)w1 wr/\k'+Ac.sizes(T.ks.take j)<=k-1/\Tk.Rm b(k':Int)wr/\ ∀i(_:i<j)(h:i<T.ks.length),T.ks[i].All Dd.Small))
     case atStart=>exact⟨0,k4,by omega,rfl,HJ4.out.1,by have:=HJ4.out.2.1;simp [Ac.sizes];omega,HJ4.out.2.2.1,λi hi=>by omega⟩
     case round=>
      obtain⟨j5,k5,hj5,rfl,HJ5⟩:=hrel;clear q8
      by_cases hlt5:j5<kn
      rotate_left
      ·have hd5:decide((j5:Int)<kn)=false:=decide_eq_false(by omega)
       have B5:Hid(Tk.But(λi=>i=b)w wr):=(HK.out _ HJ5.out.1).1
       have HZ:Hid(T.All Dd.Small/\k5+T.size<=k):=by
        have hall:T.ks.take j5=T.ks:=List.take_of_length_le(by rw [HN.out.2.2.1];omega);refine⟨?_, ?_⟩
        ·rw [T.all_eq]
         exact⟨HSM.out,Dd.alls_of λi hi=>HJ5.out.2.2.2 i(by rw [HN.out.2.2.1]at hi;omega)hi⟩
        have h1:=HJ5.out.2.1;rw [hall]at h1;rw [T.size_eq];have:=HBD.out;omega
       go_wp2;go_ret;exact⟨B5.out, .inl⟨rfl,HZ.out.1,k5,HZ.out.2,HJ5.out.2.2.1⟩⟩
      have hd5:decide((j5:Int)<kn)=true:=decide_eq_true(by omega);have hjl:j5<T.ks.length:=by rw [HN.out.2.2.1];exact hlt5
      obtain⟨g,off,U,rfl,hg,hr,hTj⟩:=HT.out.1.kid HT.out.2.2.2.2.1 j5 hjl;obtain⟨x,hx⟩: ∃x,T.ks[j5]=x:=⟨_,rfl⟩;rw [hx]at hr hTj;obtain⟨_,z2,z3,_⟩:=HK.out wr HJ5.out.1;obtain⟨a6,c6,a7,c7,a8,c8,a9,c9,aA,cA,aB,cB,rfl⟩:=hTj.shape;obtain⟨y0,y1,y2,y3,y4,y5,n6,n7,n8,n9,nA,nB,hyr⟩: ∃(y0 y1 y2 y3 y4 y5:Int)(n6 n7 n8 n9 nA nB:Nat),Ac.row x⟨.slice a6 x.t.ks.length c6, .slice a7 x.cs.length c7, .slice a8 x.ks.length c8, .slice a9 x.ls.length c9, .slice aA x.ns.length cA, .slice aB x.fs.length cB⟩= #[.int .i64 y0, .int .i64 y1, .int .i64 y2, .int .i64 y3, .int .i64 y4, .int .i64 y5, .slice a6 n6 c6, .slice a7 n7 c7, .slice a8 n8 c8, .slice a9 n9 c9, .slice aA nA cA, .slice aB nB cB]:=⟨_,_,_,_,_,_,_,_,_,_,_,_,rfl⟩;rw [hyr]at hr;obtain⟨d0,d1,d2,d3,d4,d5,d6,d7,d8,d9,d10,d11⟩:=Dd.row12(hr.keep(z2 g hg));obtain⟨W0,hW0⟩: ∃z,wr.alloc(.cells #[.int .i64 y0, .int .i64 y1, .int .i64 y2, .int .i64 y3, .int .i64 y4, .int .i64 y5, .slice a6 n6 c6, .slice a7 n7 c7, .slice a8 n8 c8, .slice a9 n9 c9, .slice aA nA cA, .slice aB nB cB]32)=z:=⟨_,rfl⟩;have BW0:Tk.But(λi=>i=b)w1 W0:=by rw [<-hW0];exact HJ5.out.1.alloc _
      obtain⟨_,v2,v3,_⟩:=HK.out W0 BW0;have hcall:=HI.out x _ k5 b(dp+1)B W0(hTj.keep v2)HM.out.1 v3(by rw [<-hW0];exact HJ5.out.2.2.1.keep(Below.heap_alloc _ _ _ HJ5.out.2.2.1.lt))(by have:=HJ5.out.2.1;have:=HBD.out;omega)(by omega);rw [hyr,show((dp+1:Nat):Int)=(dp:Int)+1 by omega]at hcall;have HC:Hid _:=hcall;have HW0:Hid(wr.alloc(.cells #[.int .i64 y0, .int .i64 y1, .int .i64 y2, .int .i64 y3, .int .i64 y4, .int .i64 y5, .slice a6 n6 c6, .slice a7 n7 c7, .slice a8 n8 c8, .slice a9 n9 c9, .slice aA nA cA, .slice aB nB cB]32)=W0):=hW0;have HB0:Hid(Tk.But(λi=>i=b)w1 W0):=BW0;have HX:Hid(T.ks[j5]=x):=hx;have HJL:Hid(j5<T.ks.length):=hjl;have hu:=Tryz.underlying32;clear hcall hr hTj hx hyr hW0 BW0 z2 z3 v2 v3
      go_wp2_with fail
      rw [HW0.out];refine Calls.mono HC.out ?_;rintro e' W3⟨hb3,⟨rfl,hs3,k6,hk6,hr3⟩|rfl⟩
      ·have B3:Hid(Tk.But(λi=>i=b)w1 W3):=HB0.out.trans hb3
       have H3:Hid(x.All Dd.Small/\k6+x.size<=k5/\Tk.Rm b(k6:Int)W3):=⟨hs3,hk6,hr3⟩;clear hb3 hs3 hr3 HC hk6;go_wp2;go_roundg(gk-1)
       case measure=>omega
       case rel=>
        refine⟨j5+1,k6,by omega,by go_num,B3.out, ?_,H3.out.2.2,λi hi hil=> ?_⟩
        ·rw [Ac.sizes_take _ _ HJL.out,HX.out];have:=H3.out.2.1;have:=HJ5.out.2.1;omega
        by_cases q:i=j5
        ·subst q;rw [HX.out];exact H3.out.1
        exact HJ5.out.2.2.2 i(by omega)hil
      have B3:Hid(Tk.But(λi=>i=b)w W3):=(HK.out _(HB0.out.trans hb3)).1;clear hb3 HC;go_wp2;go_ret;exact⟨B3.out, .inr rfl⟩
def Dd.lks(s:List Int):List Value:=Dd.ints(s.take 40)
def Dd.kds(s:List Int):List Value:=Dd.ints(s.drop 40)
theorem Dd.fit_of {T:Ac} (h:Dd.Small T):T.Fit:=
 have dp: ∀x:Tm,x.size<=1000->x.size<=2147483647/\x.depth<=1000:=λx hx=>⟨by omega,by have:=x.depth_le_size;omega⟩
 ⟨dp _ h.t,λx hx=>dp _(h.c x hx),λx hx=>dp _(h.n x hx),λx hx=>dp _(h.f x hx),by have:=h.cl;omega,by have:=h.kl;omega,by have:=h.ll;omega,by have:=h.nl;omega,by have:=h.fl;omega⟩
theorem Dd.fin_run {ls kk:List(Int×Int)} (hw:Dd.Web ls kk) {s:List Int} (h:Dd.Inv ls kk s) {k:Nat} (hk:k<kk.length)(h1:s.getD(40+k)0=1):Dd.finR true ls kk s k=if Dd.gateB kk k=true then(Dd.zeros,6)else(Dd.finished ls kk s k,0):=by
 have hc:Dd.checkI true kk.length ls.length s=0:=by unfold Dd.checkI;rw [if_pos rfl,if_pos(h.ok hw)]
 have hr:Dd.runsB kk.length s k=true:=by
  unfold Dd.runsB;rw [show((k:Int)).toNat=k by omega,decide_eq_true(show(0:Int)<=k by omega),decide_eq_true(show(k:Int)<kk.length by omega),decide_eq_true h1];rfl
 unfold Dd.finR;rw [hc,if_neg(by decide),hr,show((k:Int)).toNat=k by omega]
 by_cases hg:Dd.gateB kk k=true
 ·rw [if_pos(.inr hg),if_pos hg]
 rw [if_neg(by rintro(e|e);cases e;exact hg e),if_neg hg]
theorem Dd.cho_run {ls kk:List(Int×Int)} (hw:Dd.Web ls kk) {s:List Int} (h:Dd.Inv ls kk s) {k:Nat} (hk:k<kk.length)(h1:s.getD(40+k)0=1)(hg:Dd.gateB kk k=true) {o:Nat} (ho:o<ls.countP λx=>decide(x.1=(k:Int))): ∃c:Nat,(ls[c]?).map Prod.fst=some(k:Int)/\Dd.choR true ls kk s k o=(Dd.chose ls kk s k c,0):=by
 have hc:Dd.checkI true kk.length ls.length s=0:=by unfold Dd.checkI;rw [if_pos rfl,if_pos(h.ok hw)]
 have hr:Dd.runsB kk.length s k=true:=by
  unfold Dd.runsB;rw [show((k:Int)).toNat=k by omega,decide_eq_true(show(0:Int)<=k by omega),decide_eq_true(show(k:Int)<kk.length by omega),decide_eq_true h1];rfl
 obtain⟨c,hl,hm⟩:=Dd.linkAt_some k ls 0 o(by omega)(by omega);refine⟨c,hm, ?_⟩;rw [Nat.zero_add]at hl;unfold Dd.choR;rw [hc,if_neg(by decide),hr,show((k:Int)).toNat=k by omega,hg,if_neg(by simp),hl,if_neg(by omega),show((c:Int)).toNat=c by omega]
theorem Dd.run_run {ls kk:List(Int×Int)} (hw:Dd.Web ls kk) {s:List Int} (h:Dd.Inv ls kk s):Dd.runL true kk.length ls.length s=Dd.running kk.length s:=by
 unfold Dd.runL Dd.checkI;rw [if_pos rfl,if_pos(h.ok hw),if_neg(by decide)]
theorem Dd.own_at {w:World} {B n c:Nat} {a:Option Addr} {l:List Nat} (h:w.ownsRow B 3 1(.slice a n c)l.length(Rk.nums l))(j:Nat)(hj:j<l.length): ∃g off,a=some⟨g,off,none⟩/\g<w.heap.size/\w.cell? ⟨g,off+j,none⟩=some(.int .i64 l[j]):=by
 rcases h with⟨hl,⟨_,hn⟩|⟨g,cap,cur,hv,hB,hg,h4,h5,h6,h7⟩⟩
 ·omega
 obtain⟨rfl,_,_⟩:=Value.slice.inj hv;refine⟨g,0,rfl,(Array.getElem?_eq_some_iff.1 hg).1, ?_⟩;rw [Nat.zero_add];simp only [World.cell?,hg];have h8:(Rk.nums l)[j]? =some(.int .i64 l[j]):=by simp [Rk.nums,hj]
 rw [<-h7,List.getElem?_take]at h8
 split at h8
 ·rw [Array.getElem?_toList]at h8;exact h8
 simp at h8
end Go.Proofs
namespace Go.Proofs
open Go.RowKit Go.Shelf
structure Dd.RFr(w:World)(xs:Array Value)(l r:List Int)(W:World):Prop where
 bx:Dd.RBx W w.heap.size xs
 st:Dd.RAt W(w.heap.size+1)l
 rs:Dd.RAt W(w.heap.size+1+1)r
 bel:Below w.heap.size w W
theorem Dd.RFr.new(w:World)(xs:Array Value) {l:List Int} (h:l.length=104):Dd.RFr w xs l Dd.zeros(((w.alloc(.cells xs 48)).alloc(.cells(Dd.row l)53)).alloc(.cells Tryz.zeroCells53 53)):=by
 have h0:Dd.RBx(w.alloc(.cells xs 48))w.heap.size xs:=heap_alloc_new w _;have h1:=Dd.RAt.new(w.alloc(.cells xs 48))h;have h2:=Dd.RAt.new((w.alloc(.cells xs 48)).alloc(.cells(Dd.row l)53))Dd.zeros_length;rw [Dd.rzero_row];rw [show(w.alloc(.cells xs 48)).heap.size=w.heap.size+1 by simp]at h1;rw [show((w.alloc(.cells xs 48)).alloc(.cells(Dd.row l)53)).heap.size=w.heap.size+1+1 by simp]at h2;refine⟨(h0.keep(Below.heap_alloc _ _ _ h0.lt)).keep(Below.heap_alloc _ _ _(by simp;omega)),h1.keep(Below.heap_alloc _ _ _ h1.lt),h2, ?_⟩;exact(((Below.refl _ w).alloc(Nat.le_refl _)_).alloc(by simp)_).alloc(by simp;omega)_
theorem Dd.RFr.below {w W W':World} {xs:Array Value} {l r:List Int} (h:Dd.RFr w xs l r W)(hb:Below W.heap.size W W'):Dd.RFr w xs l r W':=
 ⟨h.bx.below hb h.bx.lt,h.st.below hb h.st.lt,h.rs.below hb h.rs.lt,h.bel.trans(hb.mono h.bel.size)⟩
def Dd.setL(how:Int)(L:List Nat)(s:List Int):List Int:=L.foldl(λx k=>x.set k how)s
theorem Dd.setL_len(how:Int): ∀(L:List Nat)(s:List Int),(Dd.setL how L s).length=s.length
 | [],_=>rfl
 |k::r,s=>by
  show(Dd.setL how r(s.set k how)).length=_;rw [Dd.setL_len how r,List.length_set]
theorem Dd.setL_snoc(how:Int)(L:List Nat)(k:Nat)(s:List Int):Dd.setL how(L++ [k])s=(Dd.setL how L s).set k how:=by
 unfold Dd.setL;rw [List.foldl_append];rfl
theorem Dd.setL_outs(ls:List(Int×Int))(kid how:Int)(s:List Int): ∀k,k<=ls.length->Dd.setL how(Dd.outsU ls kid k)s=Dd.leftK ls kid how k s
 |0,_=>rfl
 |k+1,hk=>by
  have ih:=Dd.setL_outs ls kid how s k(by omega);obtain⟨x,hx⟩: ∃x,ls[k]? =some x:=⟨ls[k],List.getElem?_eq_getElem(by omega)⟩;obtain⟨a,b⟩:=x;rw [Dd.outsU_step ls kid k a b hx,Dd.leftK,hx]
  by_cases e:a=kid
  ·rw [if_pos e,Dd.setL_snoc,ih,if_pos(by rw [e];rfl)]
  rw [if_neg e,List.append_nil,ih,if_neg(show¬(Option.map Prod.fst(some(a,b))=some kid)from λh=>e(Option.some.inj h))]
theorem Dd.setL_left(ls:List(Int×Int))(kid how:Int)(s:List Int):Dd.setL how(Dd.outsD ls kid)s=Dd.left ls s kid how:=Dd.setL_outs ls kid how s ls.length(Nat.le_refl _)
theorem Dd.outs_lt {ls:List(Int×Int)} {kid:Int} {i:Nat} (h:i∈Dd.outsD ls kid):i<ls.length:=List.mem_range.1(List.mem_filter.1 h).1
def Dd.Kid12(w:World)(B:Nat)(ka:Option Addr)(kk:List(Int×Int)):Prop:=
 ∀i(h:i<kk.length),∃(g off:Nat)(xs:Array Value),ka=some⟨g,off,none⟩/\g<B/\xs.size=12/\xs.all(·.oneCell')=true/\xs[0]? =some(.int .i64 kk[i].1)/\xs[2]? =some(.int .i64 kk[i].2)/\w.rangeAt g(off+i*12)xs.toList
end Go.Proofs
