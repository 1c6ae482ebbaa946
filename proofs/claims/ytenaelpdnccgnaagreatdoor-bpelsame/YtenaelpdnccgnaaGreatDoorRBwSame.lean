import Derived.Test.YtenaelpdnccgnaaGreatDoorRAcFormed
import Derived.Test.YtenaelpdnccgnaaGreatDoorRBwRes
set_option maxRecDepth 100000
set_option maxHeartbeats 32000000
namespace Go.Proofs
open Go.RowKit Go.Shelf
theorem Bw.cells12 {W:World}{b:Nat}{x0 x1 x2 x3 x4 x5 x6 x7 x8 x9 x10 x11:Value}{T:TypeId}{fr:Nat×Nat}(h:W.heap[b]? =some (.cells #[x0,x1,x2,x3,x4,x5,x6,x7,x8,x9,x10,x11] T fr)):
 W.cell? ⟨b,0,none⟩=some x0/\W.cell? ⟨b,1,none⟩=some x1/\W.cell? ⟨b,2,none⟩=some x2/\W.cell? ⟨b,3,none⟩=some x3/\W.cell? ⟨b,4,none⟩=some x4/\W.cell? ⟨b,5,none⟩=some x5/\W.cell? ⟨b,6,none⟩=some x6/\W.cell? ⟨b,7,none⟩=some x7/\W.cell? ⟨b,8,none⟩=some x8/\W.cell? ⟨b,9,none⟩=some x9/\W.cell? ⟨b,10,none⟩=some x10/\W.cell? ⟨b,11,none⟩=some x11:=by simp[World.cell?,h]
theorem Bw.rinfo:(Tryz.prog.info? 44).map (·.size)=some 12:=by kernel_rfl
theorem Bw.row_range {W:World}{g o:Nat}{r:Array Value}(h:Ac.Row W g o r):W.rangeAt g o r.toList:=λj v hv=>by
 have hj:j<r.size:=by have:=(List.getElem?_eq_some_iff.1 hv).1;simpa using this
 rw[h j hj];rw[Array.getElem?_toList,Array.getElem?_eq_getElem hj]at hv;exact hv
theorem Tryz.r16Same_any:∀(d:Nat) (S T:Ac) (U V:Ac.Vs) (e e' d' B:Nat) (w:World),Ac.Lies w B e d U S->Ac.Lies w B e' d' V T->B<=w.heap.size->S.All Ac.Fit->T.All Ac.Fit->
  Calls Tryz.prog 17 #[.agg (Ac.row S U),.agg (Ac.row T V)] w λe w'=>Ak.Told (S=T) e/\Below w.heap.size w w':=by
 intro d
 induction d with
 |zero=>intro S T U V e e' d' B w h;exact h.elim
 |succ d ih=>
  intro S T U V e e' d' B w hA hB hBs hFS hFT
  cases d' with
  |zero=>exact hB.elim
  |succ d'=>
  rw[S.all_eq]at hFS;rw[T.all_eq]at hFT;obtain⟨a6,b6,a7,b7,a8,b8,a9,b9,aA,bA,aB,bB,rfl⟩:=hA.shape;obtain⟨v6,q6,v7,q7,v8,q8,v9,q9,vA,qA,vB,qB,rfl⟩:=hB.shape;have HL:Hid (Tm.Lies w B e (.slice a6 S.t.ks.length b6) S.t/\Ac.Tms w B e a7 S.cs/\Ac.Lks w B a9 S.ls/\Nt.Nds w B e aA S.ns/\Nt.Fls w B e aB S.fs):=⟨hA.own.t,Ak.tms_of hA.own,Ak.lks_of hA.own,Ak.nds_of hA.own,Ak.fls_of hA.own⟩;have HM:Hid (Tm.Lies w B e' (.slice v6 T.t.ks.length q6) T.t/\Ac.Tms w B e' v7 T.cs/\Ac.Lks w B v9 T.ls/\Nt.Nds w B e' vA T.ns/\Nt.Fls w B e' vB T.fs):=⟨hB.own.t,Ak.tms_of hB.own,Ak.lks_of hB.own,Ak.nds_of hB.own,Ak.fls_of hB.own⟩;have HKS:Hid (∀j (h:j<S.ks.length),∃g off Ux,a8=some ⟨g,off,none⟩/\g<B/\Ac.Row w g (off+j*12) (Ac.row S.ks[j] Ux)/\Ac.Lies w B e d Ux S.ks[j]):=λj h=>hA.kid rfl j h;have HKT:Hid (∀j (h:j<T.ks.length),∃g off Ux,v8=some ⟨g,off,none⟩/\g<B/\Ac.Row w g (off+j*12) (Ac.row T.ks[j] Ux)/\Ac.Lies w B e' d' Ux T.ks[j]):=λj h=>hB.kid rfl j h;have HF:Hid (S.Fit/\Ac.Alls Ac.Fit S.ks/\T.Fit/\Ac.Alls Ac.Fit T.ks/\B<=w.heap.size):=⟨hFS.1,hFS.2,hFT.1,hFT.2,hBs⟩;have HI:Hid _:=ih;have HQ:Hid (S=T↔Ac.Same1 S T/\S.ks=T.ks):=Ac.eq_iff S T;obtain⟨s0,es0⟩:=pE S.kind;obtain⟨s1,es1⟩:=pE S.node;obtain⟨s2,es2⟩:=pE S.a;obtain⟨s3,es3⟩:=pE S.b;obtain⟨s4,es4⟩:=pE S.t.op;obtain⟨s5,es5⟩:=pE S.t.num
  obtain⟨n6,en6⟩:=pE S.t.ks.length;obtain⟨n7,en7⟩:=pE S.cs.length;obtain⟨n8,en8⟩:=pE S.ks.length;obtain⟨n9,en9⟩:=pE S.ls.length;obtain⟨nA,enA⟩:=pE S.ns.length;obtain⟨nB,enB⟩:=pE S.fs.length;obtain⟨t0,et0⟩:=pE T.kind;obtain⟨t1,et1⟩:=pE T.node;obtain⟨t2,et2⟩:=pE T.a;obtain⟨t3,et3⟩:=pE T.b;obtain⟨t4,et4⟩:=pE T.t.op;obtain⟨t5,et5⟩:=pE T.t.num;obtain⟨m6,em6⟩:=pE T.t.ks.length;obtain⟨m7,em7⟩:=pE T.cs.length;obtain⟨m8,em8⟩:=pE T.ks.length;obtain⟨m9,em9⟩:=pE T.ls.length;obtain⟨mA,emA⟩:=pE T.ns.length;obtain⟨mB,emB⟩:=pE T.fs.length;have HE:Hid ((S.kind=s0/\S.node=s1/\S.a=s2/\S.b=s3/\S.t.op=s4/\S.t.num=s5/\S.t.ks.length=n6/\S.cs.length=n7/\S.ks.length=n8/\S.ls.length=n9/\S.ns.length=nA/\S.fs.length=nB)/\(T.kind=t0/\T.node=t1/\T.a=t2/\T.b=t3/\T.t.op=t4/\T.t.num=t5/\T.t.ks.length=m6/\T.cs.length=m7/\T.ks.length=m8/\T.ls.length=m9/\T.ns.length=mA/\T.fs.length=mB)):=⟨⟨es0,es1,es2,es3,es4,es5,en6,en7,en8,en9,enA,enB⟩,et0,et1,et2,et3,et4,et5,em6,em7,em8,em9,emA,emB⟩
  rw[show Ac.row S ⟨.slice a6 S.t.ks.length b6,.slice a7 S.cs.length b7,.slice a8 S.ks.length b8,.slice a9 S.ls.length b9,.slice aA S.ns.length bA,.slice aB S.fs.length bB⟩=#[.int .i64 s0,.int .i64 s1,.int .i64 s2,.int .i64 s3,.int .i64 s4,.int .i64 s5,.slice a6 n6 b6,.slice a7 n7 b7,.slice a8 n8 b8,.slice a9 n9 b9,.slice aA nA bA,.slice aB nB bB]by unfold Ac.row;rw[es0,es1,es2,es3,es4,es5,en6,en7,en8,en9,enA,enB]];rw[show Ac.row T ⟨.slice v6 T.t.ks.length q6,.slice v7 T.cs.length q7,.slice v8 T.ks.length q8,.slice v9 T.ls.length q9,.slice vA T.ns.length qA,.slice vB T.fs.length qB⟩=#[.int .i64 t0,.int .i64 t1,.int .i64 t2,.int .i64 t3,.int .i64 t4,.int .i64 t5,.slice v6 m6 q6,.slice v7 m7 q7,.slice v8 m8 q8,.slice v9 m9 q9,.slice vA mA qA,.slice vB mB qB]by unfold Ac.row;rw[et0,et1,et2,et3,et4,et5,em6,em7,em8,em9,emA,emB]];have h7:n7<=1000:=by have:=HF.out.1.cl;omega
  have h8:n8<=1000:=by have:=HF.out.1.kl;omega
  have h9:n9<=1000:=by have:=HF.out.1.ll;omega
  clear ih hA hB hBs hFS hFT es0 es1 es2 es3 es4 es5 en6 en7 en8 en9 enA enB et0 et1 et2 et3 et4 et5 em6 em7 em8 em9 emA emB;obtain⟨w1,hw1⟩:=pE (w.alloc (.cells #[.int .i64 s0,.int .i64 s1,.int .i64 s2,.int .i64 s3,.int .i64 s4,.int .i64 s5,.slice a6 n6 b6,.slice a7 n7 b7,.slice a8 n8 b8,.slice a9 n9 b9,.slice aA nA bA,.slice aB nB bB] 44));have B1:=pB hw1;have N1:=pH hw1;have z1:w1.heap.size=w.heap.size+1:=by rw[<-hw1];simp
  obtain⟨w2,hw2⟩:=pE (w1.alloc (.cells #[.int .i64 t0,.int .i64 t1,.int .i64 t2,.int .i64 t3,.int .i64 t4,.int .i64 t5,.slice v6 m6 q6,.slice v7 m7 q7,.slice v8 m8 q8,.slice v9 m9 q9,.slice vA mA qA,.slice vB mB qB] 44));have B2:=pB hw2;have N2:=pH hw2;rw[z1]at N2;have hl1:=(Array.getElem?_eq_some_iff.1 N1).1;have hl2:=(Array.getElem?_eq_some_iff.1 N2).1;have HX:Hid (∀W,Below w2.heap.size w2 W->W.heap[w.heap.size]? =some (.cells #[.int .i64 s0,.int .i64 s1,.int .i64 s2,.int .i64 s3,.int .i64 s4,.int .i64 s5,.slice a6 n6 b6,.slice a7 n7 b7,.slice a8 n8 b8,.slice a9 n9 b9,.slice aA nA bA,.slice aB nB bB] 44 (0,0))/\W.heap[w.heap.size+1]? =some (.cells #[.int .i64 t0,.int .i64 t1,.int .i64 t2,.int .i64 t3,.int .i64 t4,.int .i64 t5,.slice v6 m6 q6,.slice v7 m7 q7,.slice v8 m8 q8,.slice v9 m9 q9,.slice vA mA qA,.slice vB mB qB] 44 (0,0))/\Below w.heap.size w W):=λW h=>⟨(h.block _ (by have:=B2.size;omega)).trans ((B2.block _ hl1).trans N1),(h.block _ hl2).trans N2,B1.trans ((B2.trans (h.mono B2.size)).mono B1.size)⟩;have H1:Hid _:=hw1;have H2:Hid _:=hw2;have HG:Hid (∀W,Below w2.heap.size w2 W->∀g p,g<B->W.cell? ⟨g,p,none⟩=w.cell? ⟨g,p,none⟩):=λW h g p hg=>(HX.out W h).2.2.cell (p:=⟨g,p,none⟩) (by have:=HF.out.2.2.2.2;show g<_;omega);clear hw1 hw2 B1 B2 N1 N2 z1 hl1 hl2
  go_enter Tryz.func17,Tryz.ntmps17
  go_upto_region 1 with fail
  rw[H1.out,H2.out];clear H1 H2;obtain⟨k0,k1,k2,k3,k4,k5,k6,k7,k8,k9,k10,k11⟩:=Bw.cells12 (HX.out w2 (Below.refl _ _)).1;obtain⟨l0,l1,l2,l3,l4,l5,l6,l7,l8,l9,l10,l11⟩:=Bw.cells12 (HX.out w2 (Below.refl _ _)).2.1
  go_cut [60]from 8 to 128 (λs60 wx=>∃r:Bool,s60=.bool r/\Hid (r=false↔s0=t0/\s1=t1/\s2=t2/\s3=t3/\n7=m7/\n8=m8/\n9=m9)/\w2=wx)
  case first=>
   by_cases q0:¬s0=t0
   ·have f0:(s0 !=t0)=true:=by simp;omega
    have HN:Hid (true=false↔s0=t0/\s1=t1/\s2=t2/\s3=t3/\n7=m7/\n8=m8/\n9=m9):=⟨λh=>(by cases h),λh=>absurd h.1 q0⟩;clear q0
    go_wp2_with fail
    go_meet;exact⟨true,rfl,HN.out,rfl⟩
   replace q0:=Decidable.not_not.1 q0;have f0:(s0 !=t0)=false:=by simp;omega
   have Q0:Hid (s0=t0):=q0;clear q0
   by_cases q1:¬s1=t1
   ·have f1:(s1 !=t1)=true:=by simp;omega
    have HN:Hid (true=false↔s0=t0/\s1=t1/\s2=t2/\s3=t3/\n7=m7/\n8=m8/\n9=m9):=⟨λh=>(by cases h),λh=>absurd h.2.1 q1⟩;clear q1
    go_wp2_with fail
    go_meet;exact⟨true,rfl,HN.out,rfl⟩
   replace q1:=Decidable.not_not.1 q1;have f1:(s1 !=t1)=false:=by simp;omega
   have Q1:Hid (s1=t1):=q1;clear q1
   by_cases q2:¬s2=t2
   ·have f2:(s2 !=t2)=true:=by simp;omega
    have HN:Hid (true=false↔s0=t0/\s1=t1/\s2=t2/\s3=t3/\n7=m7/\n8=m8/\n9=m9):=⟨λh=>(by cases h),λh=>absurd h.2.2.1 q2⟩;clear q2
    go_wp2_with fail
    go_meet;exact⟨true,rfl,HN.out,rfl⟩
   replace q2:=Decidable.not_not.1 q2;have f2:(s2 !=t2)=false:=by simp;omega
   have Q2:Hid (s2=t2):=q2;clear q2
   by_cases q3:¬s3=t3
   ·have f3:(s3 !=t3)=true:=by simp;omega
    have HN:Hid (true=false↔s0=t0/\s1=t1/\s2=t2/\s3=t3/\n7=m7/\n8=m8/\n9=m9):=⟨λh=>(by cases h),λh=>absurd h.2.2.2.1 q3⟩;clear q3
    go_wp2_with fail
    go_meet;exact⟨true,rfl,HN.out,rfl⟩
   replace q3:=Decidable.not_not.1 q3;have f3:(s3 !=t3)=false:=by simp;omega
   have Q3:Hid (s3=t3):=q3;clear q3
   by_cases q4:¬n7=m7
   ·have f4:((n7:Int) !=(m7:Int))=true:=by simp;omega
    have HN:Hid (true=false↔s0=t0/\s1=t1/\s2=t2/\s3=t3/\n7=m7/\n8=m8/\n9=m9):=⟨λh=>(by cases h),λh=>absurd h.2.2.2.2.1 q4⟩;clear q4
    go_wp2_with fail
    go_meet;exact⟨true,rfl,HN.out,rfl⟩
   replace q4:=Decidable.not_not.1 q4;have f4:((n7:Int) !=(m7:Int))=false:=by simp;omega
   have Q4:Hid (n7=m7):=q4;clear q4
   by_cases q5:¬n8=m8
   ·have f5:((n8:Int) !=(m8:Int))=true:=by simp;omega
    have HN:Hid (true=false↔s0=t0/\s1=t1/\s2=t2/\s3=t3/\n7=m7/\n8=m8/\n9=m9):=⟨λh=>(by cases h),λh=>absurd h.2.2.2.2.2.1 q5⟩;clear q5
    go_wp2_with fail
    go_meet;exact⟨true,rfl,HN.out,rfl⟩
   replace q5:=Decidable.not_not.1 q5;have f5:((n8:Int) !=(m8:Int))=false:=by simp;omega
   have Q5:Hid (n8=m8):=q5;clear q5
   by_cases q6:¬n9=m9
   ·have f6:((n9:Int) !=(m9:Int))=true:=by simp;omega
    have HN:Hid (true=false↔s0=t0/\s1=t1/\s2=t2/\s3=t3/\n7=m7/\n8=m8/\n9=m9):=⟨λh=>(by cases h),λh=>absurd h.2.2.2.2.2.2 q6⟩;clear q6
    go_wp2_with fail
    go_meet;exact⟨true,rfl,HN.out,rfl⟩
   replace q6:=Decidable.not_not.1 q6;have f6:((n9:Int) !=(m9:Int))=false:=by simp;omega
   have Q6:Hid (n9=m9):=q6;clear q6
   go_wp2_with fail
   go_meet;exact⟨false,rfl,⟨λ_=>⟨Q0.out,Q1.out,Q2.out,Q3.out,Q4.out,Q5.out,Q6.out⟩,λ_=>rfl⟩,rfl⟩
  case rest=>
   rename World=>wx;obtain⟨r,rfl,HH,hwx⟩:=hcut;subst hwx
   cases r with
   |true=>
    have HN:Hid (¬S=T):=λh=>by
     subst h;obtain⟨⟨e0,e1,e2,e3,-,-,-,e7,e8,e9,-,-⟩,g0,g1,g2,g3,-,-,-,g7,g8,g9,-,-⟩:=HE.out;exact absurd (HH.out.2 ⟨e0.symm.trans g0,e1.symm.trans g1,e2.symm.trans g2,e3.symm.trans g3,e7.symm.trans g7,e8.symm.trans g8,e9.symm.trans g9⟩) (by decide)
    have HB2:Hid (Below w.heap.size w w2):=(HX.out w2 (Below.refl _ _)).2.2;go_wp2;go_ret;exact⟨Ak.Told.no HN.out,HB2.out⟩
   |false=>
   obtain⟨rfl,rfl,rfl,rfl,rfl,rfl,rfl⟩:=HH.out.1 (by first|rfl|trivial);clear HH
   go_wp2_with fail
   go_loopg [64] n7 (λgk s64 wr=>∃j:Nat,gk+j=n7/\s64=.int .i64 j/\Hid (Below w2.heap.size w2 wr/\S.cs.take j=T.cs.take j))
   case atStart=>exact⟨0,by omega,rfl,Below.refl _ _,by simp⟩
   case round=>
    obtain⟨j,hj,rfl,HJ⟩:=hrel;clear k0 k1 k2 k3 k4 k5 k6 k7 k8 k9 k10 k11 l0 l1 l2 l3 l4 l5 l6 l7 l8 l9 l10 l11;obtain⟨k0,k1,k2,k3,k4,k5,k6,k7,k8,k9,k10,k11⟩:=Bw.cells12 (HX.out wr HJ.out.1).1;obtain⟨l0,l1,l2,l3,l4,l5,l6,l7,l8,l9,l10,l11⟩:=Bw.cells12 (HX.out wr HJ.out.1).2.1
    by_cases hjn:j<n7
    ·have hd:decide ((j:Int)<n7)=true:=decide_eq_true (by omega)
     have j0:(0:Int)<=j:=by omega
     have j1:(j:Int)<n7:=by omega
     have hjk:j<S.cs.length:=by rw[HE.out.1.2.2.2.2.2.2.2.1];exact hjn
     have hjk':j<T.cs.length:=by rw[HE.out.2.2.2.2.2.2.2.2.1];exact hjn
     obtain⟨g,off,u,rfl,hg,c0,c1,c2,c3⟩:=HL.out.2.1 j hjk;obtain⟨g',off',u',rfl,hg',f0,f1,f2,f3⟩:=HM.out.2.1 j hjk';obtain⟨x,hx⟩:=pE S.cs[j];obtain⟨y,hy⟩:=pE T.cs[j];rw[hx]at c0 c1 c3;rw[hy]at f0 f1 f3;have HXY:Hid (S.cs[j]=x/\T.cs[j]=y):=⟨hx,hy⟩;have sx:=(HF.out.1.c x (by rw[<-hx];exact List.getElem_mem _)).1;have sy:=(HF.out.2.2.1.c y (by rw[<-hy];exact List.getElem_mem _)).1;obtain⟨x0,ex0⟩:=pE x.op;obtain⟨x1,ex1⟩:=pE x.num;obtain⟨y0,ey0⟩:=pE y.op;obtain⟨y1,ey1⟩:=pE y.num;rw[ex0]at c0;rw[ex1]at c1;rw[ey0]at f0;rw[ey1]at f1;rw[<-HG.out wr HJ.out.1 g _ hg]at c0 c1 c2;rw[<-HG.out wr HJ.out.1 g' _ hg']at f0 f1 f2
     have HC:Hid (∀W,Below w2.heap.size w2 W->Calls Tryz.prog 34 #[.agg #[.int .i64 x0,.int .i64 x1,u],.agg #[.int .i64 y0,.int .i64 y1,u']] W λe w'=>∃r,e=.returned (.bool r)/\(r=true↔x=y)/\Below w2.heap.size w2 w'):=λW hW=>by
      have hbW:=(HX.out W hW).2.2;have hb1:=HF.out.2.2.2.2;have h:=Tryz.plainTerm_any e x y u u' e' B W (c3.keep λk hk=>hbW.block k (by omega)) (f3.keep λk hk=>hbW.block k (by omega)) (by have:=hbW.size;omega) sx sy;rw[ex0,ex1,ey0,ey1]at h;exact h.mono λe w' ⟨⟨r,he,hr⟩,hb⟩=>⟨r,he,hr,hW.trans (hb.mono hW.size)⟩
     clear c3 f3 hg hg' hx hy sx sy ex0 ex1 ey0 ey1
     go_upto_region 6 with fail
     go_region_with (first|(go_at_call 34;refine Calls.mono (HC.out _ (by first|exact HJ.out.1|exact Tk.below_drewN HJ.out.1 _)) ?_;rintro e W3 ⟨r,rfl,hr,b3⟩)|fail)
     all_goals
      have B3:Hid (Below w2.heap.size w2 W3):=b3;have HR:Hid (r=true↔x=y):=hr;clear b3 hr HC
      cases r
      ·have HN:Hid (¬S=T):=λh=>by
        have hk:=(HQ.out.1 h).1.2.2.2.2.2.1
        have hxy:x=y:=by
         rw[<-HXY.out.1,<-HXY.out.2];simp only[hk]
        exact absurd (HR.out.2 hxy) (by decide)
       have HB3:Hid (Below w.heap.size w W3):=(HX.out W3 B3.out).2.2;go_wp2;go_ret;exact⟨Ak.Told.no HN.out,HB3.out⟩
      have HN:Hid (S.cs.take (j+1)=T.cs.take (j+1)):=by
       show _=_;rw[Tm.take_snoc _ _ hjk,Tm.take_snoc _ _ hjk',HJ.out.2,HXY.out.1,HXY.out.2,HR.out.1 rfl]
      go_wp2;go_roundg (gk-1)
      case measure=>omega
      case rel=>exact⟨j+1,by omega,by go_num,B3.out,HN.out⟩
    have hd:decide ((j:Int)<n7)=false:=decide_eq_false (by omega);have hd':decide (j<n7)=false:=decide_eq_false hjn
    have HCS:Hid (S.cs=T.cs):=by
     have h:=HJ.out.2;rw[List.take_of_length_le (by rw[HE.out.1.2.2.2.2.2.2.2.1];omega),List.take_of_length_le (by rw[HE.out.2.2.2.2.2.2.2.2.1];omega)]at h;exact h
    have HJ1:Hid (Below w2.heap.size w2 wr):=HJ.out.1;clear HJ hj
    go_wp2_with fail
    go_loopg [83] n9 (λgk s83 wr=>∃j:Nat,gk+j=n9/\s83=.int .i64 j/\Hid (Below w2.heap.size w2 wr/\S.ls.take j=T.ls.take j))
    case atStart=>exact⟨0,by omega,rfl,HJ1.out,by simp⟩
    case round=>
     obtain⟨j,hj,rfl,HJ⟩:=hrel;clear k0 k1 k2 k3 k4 k5 k6 k7 k8 k9 k10 k11 l0 l1 l2 l3 l4 l5 l6 l7 l8 l9 l10 l11;obtain⟨k0,k1,k2,k3,k4,k5,k6,k7,k8,k9,k10,k11⟩:=Bw.cells12 (HX.out wr HJ.out.1).1;obtain⟨l0,l1,l2,l3,l4,l5,l6,l7,l8,l9,l10,l11⟩:=Bw.cells12 (HX.out wr HJ.out.1).2.1
     by_cases hjn:j<n9
     ·have hd:decide ((j:Int)<n9)=true:=decide_eq_true (by omega)
      have j0:(0:Int)<=j:=by omega
      have j1:(j:Int)<n9:=by omega
      have hjk:j<S.ls.length:=by rw[HE.out.1.2.2.2.2.2.2.2.2.2.1];exact hjn
      have hjk':j<T.ls.length:=by rw[HE.out.2.2.2.2.2.2.2.2.2.2.1];exact hjn
      obtain⟨g,off,rfl,hg,c0,c1⟩:=HL.out.2.2.1 j hjk;obtain⟨g',off',rfl,hg',f0,f1⟩:=HM.out.2.2.1 j hjk';obtain⟨x,hx⟩:=pE S.ls[j];obtain⟨y,hy⟩:=pE T.ls[j];obtain⟨x0,x1⟩:=x;obtain⟨y0,y1⟩:=y;rw[hx]at c0 c1;rw[hy]at f0 f1;have HXY:Hid (S.ls[j]=(x0,x1)/\T.ls[j]=(y0,y1)):=⟨hx,hy⟩;rw[<-HG.out wr HJ.out.1 g _ hg]at c0 c1;rw[<-HG.out wr HJ.out.1 g' _ hg']at f0 f1;have hu:=Tryz.underlying70;clear hg hg' hx hy
      have hcase:(x0=y0/\x1=y1)∨((x0==y0)=true/\(x1==y1)=false)∨((x0==y0)=false):=by
       by_cases h0:x0=y0<;>by_cases h1:x1=y1<;>simp[h0,h1]
      rcases hcase with⟨rfl,rfl⟩|⟨e0,e1⟩|e0
      ·have HN:Hid (S.ls.take (j+1)=T.ls.take (j+1)):=by
        show _=_;rw[Ac.take_snoc _ _ hjk,Ac.take_snoc _ _ hjk',HJ.out.2,HXY.out.1,HXY.out.2]
       go_upto_region 12 with fail
       go_region_held3 (λW=>W.cell? ⟨w.heap.size,9,none⟩=some (.slice (some ⟨g,off,none⟩) n9 b9)/\W.cell? ⟨w.heap.size+1,9,none⟩=some (.slice (some ⟨g',off',none⟩) n9 q9)/\W.cell? ⟨g,off+j*2,none⟩=some (.int .i64 x0)/\W.cell? ⟨g,off+j*2+1,none⟩=some (.int .i64 x1)/\W.cell? ⟨g',off'+j*2,none⟩=some (.int .i64 x0)/\W.cell? ⟨g',off'+j*2+1,none⟩=some (.int .i64 x1)) (go_keep) (fail)
       go_simp;go_wp2;go_roundg (gk-1)
       case measure=>omega
       case rel=>exact⟨j+1,by omega,by go_num,by first|exact HJ.out.1|exact HJ.out.1.drew,HN.out⟩
      ·have HN:Hid (¬S=T):=λh=>by
        have hk:=(HQ.out.1 h).1.2.2.2.2.2.2.1;have h1:=HXY.out.1.symm.trans ((by simp only[hk]:S.ls[j]=T.ls[j]).trans HXY.out.2);simp only[Prod.mk.injEq]at h1;simp[h1.2]at e1
       have HBW:Hid (Below w.heap.size w wr):=(HX.out wr HJ.out.1).2.2
       go_upto_region 12 with fail
       go_region_held3 (λW=>W.cell? ⟨w.heap.size,9,none⟩=some (.slice (some ⟨g,off,none⟩) n9 b9)/\W.cell? ⟨w.heap.size+1,9,none⟩=some (.slice (some ⟨g',off',none⟩) n9 q9)/\W.cell? ⟨g,off+j*2,none⟩=some (.int .i64 x0)/\W.cell? ⟨g,off+j*2+1,none⟩=some (.int .i64 x1)/\W.cell? ⟨g',off'+j*2,none⟩=some (.int .i64 y0)/\W.cell? ⟨g',off'+j*2+1,none⟩=some (.int .i64 y1)) (go_keep) (fail)
       go_simp;go_wp2;go_ret;exact⟨Ak.Told.no HN.out,by first|exact HBW.out|exact HBW.out.drew⟩
      have HN:Hid (¬S=T):=λh=>by
       have hk:=(HQ.out.1 h).1.2.2.2.2.2.2.1;have h1:=HXY.out.1.symm.trans ((by simp only[hk]:S.ls[j]=T.ls[j]).trans HXY.out.2);simp only[Prod.mk.injEq]at h1;simp[h1.1]at e0
      have HBW:Hid (Below w.heap.size w wr):=(HX.out wr HJ.out.1).2.2
      go_upto_region 12 with fail
      go_region_held3 (λW=>W.cell? ⟨w.heap.size,9,none⟩=some (.slice (some ⟨g,off,none⟩) n9 b9)/\W.cell? ⟨w.heap.size+1,9,none⟩=some (.slice (some ⟨g',off',none⟩) n9 q9)/\W.cell? ⟨g,off+j*2,none⟩=some (.int .i64 x0)/\W.cell? ⟨g,off+j*2+1,none⟩=some (.int .i64 x1)/\W.cell? ⟨g',off'+j*2,none⟩=some (.int .i64 y0)/\W.cell? ⟨g',off'+j*2+1,none⟩=some (.int .i64 y1)) (go_keep) (fail)
      go_simp;go_wp2;go_ret;exact⟨Ak.Told.no HN.out,by first|exact HBW.out|exact HBW.out.drew⟩
     have hd:decide ((j:Int)<n9)=false:=decide_eq_false (by omega);have hd':decide (j<n9)=false:=decide_eq_false hjn
     have HLS:Hid (S.ls=T.ls):=by
      have h:=HJ.out.2;rw[List.take_of_length_le (by rw[HE.out.1.2.2.2.2.2.2.2.2.2.1];omega),List.take_of_length_le (by rw[HE.out.2.2.2.2.2.2.2.2.2.2.1];omega)]at h;exact h
     have HJ2:Hid (Below w2.heap.size w2 wr):=HJ.out.1;clear HJ hj HJ1
     go_wp2_with fail
     go_loopg [101] n8 (λgk s101 wr=>∃j:Nat,gk+j=n8/\s101=.int .i64 j/\Hid (Below w2.heap.size w2 wr/\S.ks.take j=T.ks.take j))
     case atStart=>exact⟨0,by omega,rfl,HJ2.out,by simp⟩
     case round=>
      obtain⟨j,hj,rfl,HJ⟩:=hrel;clear k0 k1 k2 k3 k4 k5 k6 k7 k8 k9 k10 k11 l0 l1 l2 l3 l4 l5 l6 l7 l8 l9 l10 l11;obtain⟨k0,k1,k2,k3,k4,k5,k6,k7,k8,k9,k10,k11⟩:=Bw.cells12 (HX.out wr HJ.out.1).1;obtain⟨l0,l1,l2,l3,l4,l5,l6,l7,l8,l9,l10,l11⟩:=Bw.cells12 (HX.out wr HJ.out.1).2.1
      by_cases hjn:j<n8
      ·have hd:decide ((j:Int)<n8)=true:=decide_eq_true (by omega)
       have j0:(0:Int)<=j:=by omega
       have j1:(j:Int)<n8:=by omega
       have hjk:j<S.ks.length:=by rw[HE.out.1.2.2.2.2.2.2.2.2.1];exact hjn
       have hjk':j<T.ks.length:=by rw[HE.out.2.2.2.2.2.2.2.2.2.1];exact hjn
       obtain⟨g,off,Ux,rfl,hg,c0,c1⟩:=HKS.out j hjk;obtain⟨g',off',Uy,rfl,hg',f0,f1⟩:=HKT.out j hjk';obtain⟨x,hx⟩:=pE S.ks[j];obtain⟨y,hy⟩:=pE T.ks[j];have sx:=Ac.alls_get HF.out.2.1 j hjk;have sy:=Ac.alls_get HF.out.2.2.2.1 j hjk';rw[hx]at c0 c1 sx;rw[hy]at f0 f1 sy;have HXY:Hid (S.ks[j]=x/\T.ks[j]=y):=⟨hx,hy⟩
       have HCK:Hid (∀W,Below w2.heap.size w2 W->Calls Tryz.prog 17 #[.agg (Ac.row x Ux),.agg (Ac.row y Uy)] W λe w'=>∃r,e=.returned (.bool r)/\(r=true↔x=y)/\Below w2.heap.size w2 w'):=λW hW=>by
        have hbW:=(HX.out W hW).2.2;have hb1:=HF.out.2.2.2.2;have h:=HI.out x y Ux Uy e e' d' B W (c1.keep λk hk=>hbW.block k (by omega)) (f1.keep λk hk=>hbW.block k (by omega)) (by have:=hbW.size;omega) sx sy;exact h.mono λe w' ⟨⟨r,he,hr⟩,hb⟩=>⟨r,he,hr,hW.trans (hb.mono hW.size)⟩
       have HSK:Hid (∀W,Below w2.heap.size w2 W->W.rangeAt g (off+j*12) (Ac.row x Ux).toList/\W.rangeAt g' (off'+j*12) (Ac.row y Uy).toList/\W.cell? ⟨w.heap.size,8,none⟩=some (.slice (some ⟨g,off,none⟩) n8 b8)/\W.cell? ⟨w.heap.size+1,8,none⟩=some (.slice (some ⟨g',off',none⟩) n8 q8)):=λW hW=>by
        obtain⟨-,-,-,-,-,-,-,-,z8,-,-,-⟩:=Bw.cells12 (HX.out W hW).1;obtain⟨-,-,-,-,-,-,-,-,z9,-,-,-⟩:=Bw.cells12 (HX.out W hW).2.1;exact⟨λi v hv=>(HG.out W hW g _ hg).trans (Bw.row_range c0 i v hv),λi v hv=>(HG.out W hW g' _ hg').trans (Bw.row_range f0 i v hv),z8,z9⟩
       have hu:=Tryz.underlying44;have ilx:(Tryz.prog.info? 44).map (·.size)=some (Ac.row x Ux).toList.length:=Bw.rinfo;have ily:(Tryz.prog.info? 44).map (·.size)=some (Ac.row y Uy).toList.length:=Bw.rinfo;have HD0:Hid (Below w2.heap.size w2 wr.drew):=HJ.out.1.drew;clear c0 c1 f0 f1 hg hg' hx hy sx sy
       go_upto_region 18 with fail
       go_cut [101,115]from 101 to 116 (λs101 s115 wx=>s101=.int .i64 j/\∃r:Bool,s115=.bool !r/\Hid ((r=true↔x=y)/\Below w2.heap.size w2 wx))
       case first=>
        refine wp_region_held_drew (S:=(λV=>V.rangeAt g (off+j*12) (Ac.row x Ux).toList/\V.rangeAt g' (off'+j*12) (Ac.row y Uy).toList/\V.cell? ⟨w.heap.size,8,none⟩=some (.slice (some ⟨g,off,none⟩) n8 b8)/\V.cell? ⟨w.heap.size+1,8,none⟩=some (.slice (some ⟨g',off',none⟩) n8 q8))) (by kernel_rfl) ?_ (λhHeld=> ?_)
        ·exact HSK.out _ HD0.out
        refine Nt.takeS (v:= ?va0) 0 104 rfl rfl (by kernel_rfl) (by kernel_rfl) (by kernel_rfl) (λ_ _ _ h=>h) (Or.inl ⟨by rfl, ?ya0⟩) hHeld ?ra0
        case ya0=>(intro w hSw;(try dsimp only at hSw);go_simp;all_goals (with_reducible rfl))
        simp only[List.set_cons_succ,List.set_cons_zero];refine Nt.takeS (v:= ?va1) 1 105 rfl rfl (by kernel_rfl) (by kernel_rfl) (by kernel_rfl) (λ_ _ _ h=>h) (Or.inl ⟨by rfl, ?ya1⟩) hHeld ?ra1
        case ya1=>(intro w hSw;(try dsimp only at hSw);go_simp;all_goals (with_reducible rfl))
        simp only[List.set_cons_succ,List.set_cons_zero];refine Nt.takeS (v:= ?va2) 2 106 rfl rfl (by kernel_rfl) (by kernel_rfl) (by kernel_rfl) (λ_ _ _ h=>h) (Or.inl ⟨by rfl, ?ya2⟩) hHeld ?ra2
        case ya2=>(intro w hSw;(try dsimp only at hSw);go_simp;all_goals (with_reducible rfl))
        simp only[List.set_cons_succ,List.set_cons_zero];refine Nt.takeS (v:= ?va3) 3 107 rfl rfl (by kernel_rfl) (by kernel_rfl) (by kernel_rfl) (λ_ _ _ h=>h) (Or.inl ⟨by rfl, ?ya3⟩) hHeld ?ra3
        case ya3=>(intro w hSw;(try dsimp only at hSw);go_simp;all_goals (with_reducible rfl))
        simp only[List.set_cons_succ,List.set_cons_zero];refine Nt.takeS (v:=.agg (Ac.row x Ux)) 4 108 rfl rfl (by kernel_rfl) (by kernel_rfl) (by kernel_rfl) (λ_ _ _ h=>h) (yieldsIf_load_mid (by rfl) 44 _ rfl g (off+j*12) rfl (Ac.row x Ux).toList _ (λ_ hw=>hw.1) hu rfl ilx) hHeld ?_;simp only[List.set_cons_succ,List.set_cons_zero];refine Nt.takeS (v:= ?va5) 5 109 rfl rfl (by kernel_rfl) (by kernel_rfl) (by kernel_rfl) (λ_ _ _ h=>h) (Or.inl ⟨by rfl, ?ya5⟩) hHeld ?ra5
        case ya5=>(intro w hSw;(try dsimp only at hSw);go_simp;all_goals (with_reducible rfl))
        simp only[List.set_cons_succ,List.set_cons_zero];refine Nt.takeS (v:= ?va6) 6 110 rfl rfl (by kernel_rfl) (by kernel_rfl) (by kernel_rfl) (λ_ _ _ h=>h) (Or.inl ⟨by rfl, ?ya6⟩) hHeld ?ra6
        case ya6=>(intro w hSw;(try dsimp only at hSw);go_simp;all_goals (with_reducible rfl))
        simp only[List.set_cons_succ,List.set_cons_zero];refine Nt.takeS (v:= ?va7) 7 111 rfl rfl (by kernel_rfl) (by kernel_rfl) (by kernel_rfl) (λ_ _ _ h=>h) (Or.inl ⟨by rfl, ?ya7⟩) hHeld ?ra7
        case ya7=>(intro w hSw;(try dsimp only at hSw);go_simp;all_goals (with_reducible rfl))
        simp only[List.set_cons_succ,List.set_cons_zero];refine Nt.takeS (v:= ?va8) 8 112 rfl rfl (by kernel_rfl) (by kernel_rfl) (by kernel_rfl) (λ_ _ _ h=>h) (Or.inl ⟨by rfl, ?ya8⟩) hHeld ?ra8
        case ya8=>(intro w hSw;(try dsimp only at hSw);go_simp;all_goals (with_reducible rfl))
        simp only[List.set_cons_succ,List.set_cons_zero];refine Nt.takeS (v:=.agg (Ac.row y Uy)) 9 113 rfl rfl (by kernel_rfl) (by kernel_rfl) (by kernel_rfl) (λ_ _ _ h=>h) (yieldsIf_load_mid (by rfl) 44 _ rfl g' (off'+j*12) rfl (Ac.row y Uy).toList _ (λ_ hw=>hw.2.1) hu rfl ily) hHeld ?_;simp only[List.set_cons_succ,List.set_cons_zero];refine wpAnyH_ready (rs:= [10]) (by kernel_rfl) (by simp) ?_;refine AllReadyH.cons rfl (λK hK=> ?_) AllReadyH.nil;go_simp
        go_at_call 17
        refine Calls.mono (HCK.out _ HD0.out) ?_;rintro e' W3 ⟨r,rfl,hr,b3⟩;have B3:Hid (Below w2.heap.size w2 W3):=b3;have HR:Hid (r=true↔x=y):=hr;clear b3 hr
        go_wp2_with fail
        refine hK.out _ _ ?_ (λhT10=> ?_)
        ·exact HSK.out _ B3.out
        clear hK K
        first|refine Nt.normS 114 rfl ?_|skip
        first|(simp only[List.set_cons_succ,List.set_cons_zero])|skip
        refine Nt.takeS (v:= ?vb11) 11 115 rfl rfl (by kernel_rfl) (by kernel_rfl) (by kernel_rfl) (λ_ _ _ h=>h) (Or.inl ⟨by rfl, ?yb11⟩) hT10 ?rb11
        case yb11=>(intro w hSw;(try dsimp only at hSw);go_simp;all_goals (with_reducible rfl))
        simp only[List.set_cons_succ,List.set_cons_zero];refine wpAnyH_done (by kernel_rfl) ?_ _
        go_wp2_with fail
        go_meet;exact⟨rfl,r,rfl,HR.out,B3.out⟩
       case rest=>
        rename World=>W3;obtain⟨rfl,r,rfl,HR⟩:=hcut;clear HSK HD0 HCK
        cases r
        ·have HN:Hid (¬S=T):=λh=>by
          have hk:=(HQ.out.1 h).2
          have hxy:x=y:=by
           rw[<-HXY.out.1,<-HXY.out.2];simp only[hk]
          exact absurd (HR.out.1.2 hxy) (by decide)
         have HB3:Hid (Below w.heap.size w W3):=(HX.out W3 HR.out.2).2.2;go_wp2;go_ret;exact⟨Ak.Told.no HN.out,HB3.out⟩
        have HN:Hid (S.ks.take (j+1)=T.ks.take (j+1)):=by
         show _=_;rw[Ac.take_snoc _ _ hjk,Ac.take_snoc _ _ hjk',HJ.out.2,HXY.out.1,HXY.out.2,HR.out.1.1 rfl]
        go_wp2;go_roundg (gk-1)
        case measure=>omega
        case rel=>exact⟨j+1,by omega,by go_num,HR.out.2,HN.out⟩
      have hd:decide ((j:Int)<n8)=false:=decide_eq_false (by omega);have hd':decide (j<n8)=false:=decide_eq_false hjn
      have HKK:Hid (S.ks=T.ks):=by
       have h:=HJ.out.2;rw[List.take_of_length_le (by rw[HE.out.1.2.2.2.2.2.2.2.2.1];omega),List.take_of_length_le (by rw[HE.out.2.2.2.2.2.2.2.2.2.1];omega)]at h;exact h
      have HJ3:Hid (Below w2.heap.size w2 wr):=HJ.out.1;clear HJ hj HJ2
      have CT:Hid (Calls Tryz.prog 34 #[.agg #[.int .i64 s4,.int .i64 s5,.slice a6 n6 b6],.agg #[.int .i64 t4,.int .i64 t5,.slice v6 m6 q6]] wr λe w'=>(∃r,e=.returned (.bool r)/\(r=true↔S.t=T.t))/\Below w2.heap.size w2 w'):=by
       have hbW:=(HX.out wr HJ3.out).2.2;have hb1:=HF.out.2.2.2.2;have h:=Tryz.plainTerm_any e S.t T.t _ _ e' B wr (HL.out.1.keep λk hk=>hbW.block k (by omega)) (HM.out.1.keep λk hk=>hbW.block k (by omega)) (by have:=hbW.size;omega) HF.out.1.t.1 HF.out.2.2.1.t.1;rw[HE.out.1.2.2.2.2.1,HE.out.1.2.2.2.2.2.1,HE.out.1.2.2.2.2.2.2.1,HE.out.2.2.2.2.2.1,HE.out.2.2.2.2.2.2.1,HE.out.2.2.2.2.2.2.2.1]at h;exact h.mono λe w' ⟨hr,hb⟩=>⟨hr,HJ3.out.trans (hb.mono HJ3.out.size)⟩
      have CN:Hid (∀W,Below w2.heap.size w2 W->Calls Tryz.prog 35 #[.agg #[.slice aA nA bA,.slice aB nB bB],.agg #[.slice vA mA qA,.slice vB mB qB]] W λe w'=>(∃r,e=.returned (.bool r)/\(r=true↔S.ns=T.ns/\S.fs=T.fs))/\Below w2.heap.size w2 w'):=λW hW=>by
       have hbW:=(HX.out W hW).2.2;have hb1:=HF.out.2.2.2.2;have h:=Tryz.plainNet_any e e' B aA bA aB bB S.ns S.fs vA qA vB qB T.ns T.fs W ⟨Ac.nds_keep HL.out.2.2.2.1 (λk hk=>hbW.block k (by omega)),Ac.fls_keep HL.out.2.2.2.2 (λk hk=>hbW.block k (by omega)),HF.out.1.nl,HF.out.1.fl,λx h=>(HF.out.1.n x h).1,λx h=>(HF.out.1.f x h).1⟩ ⟨Ac.nds_keep HM.out.2.2.2.1 (λk hk=>hbW.block k (by omega)),Ac.fls_keep HM.out.2.2.2.2 (λk hk=>hbW.block k (by omega)),HF.out.2.2.1.nl,HF.out.2.2.1.fl,λx h=>(HF.out.2.2.1.n x h).1,λx h=>(HF.out.2.2.1.f x h).1⟩ (by have:=hbW.size;omega);rw[HE.out.1.2.2.2.2.2.2.2.2.2.2.1,HE.out.1.2.2.2.2.2.2.2.2.2.2.2,HE.out.2.2.2.2.2.2.2.2.2.2.2.1,HE.out.2.2.2.2.2.2.2.2.2.2.2.2]at h;exact h.mono λe w' ⟨hr,hb⟩=>⟨hr,hW.trans (hb.mono hW.size)⟩
      have HS1:Hid (S.t=T.t->S.ns=T.ns->S.fs=T.fs->S=T):=λh1 h2 h3=>HQ.out.2 ⟨⟨HE.out.1.1.trans HE.out.2.1.symm,HE.out.1.2.1.trans HE.out.2.2.1.symm,HE.out.1.2.2.1.trans HE.out.2.2.2.1.symm,HE.out.1.2.2.2.1.trans HE.out.2.2.2.2.1.symm,h1,HCS.out,HLS.out,h2,h3⟩,HKK.out⟩
      go_wp2_with fail
      refine Calls.mono CT.out ?_;rintro e W4 ⟨⟨r,rfl,hr⟩,b4⟩;have H4:Hid (Below w2.heap.size w2 W4/\(r=true↔S.t=T.t)):=⟨b4,hr⟩;clear b4 hr CT
      cases r
      ·have HN:Hid (¬S=T):=λh=>absurd (H4.out.2.2 (HQ.out.1 h).1.2.2.2.2.1) (by decide)
       have HB4:Hid (Below w.heap.size w W4):=(HX.out W4 H4.out.1).2.2;go_wp2;go_ret;exact⟨Ak.Told.no HN.out,HB4.out⟩
      clear k0 k1 k2 k3 k4 k5 k6 k7 k8 k9 k10 k11 l0 l1 l2 l3 l4 l5 l6 l7 l8 l9 l10 l11;obtain⟨k0,k1,k2,k3,k4,k5,k6,k7,k8,k9,k10,k11⟩:=Bw.cells12 (HX.out W4 H4.out.1).1;obtain⟨l0,l1,l2,l3,l4,l5,l6,l7,l8,l9,l10,l11⟩:=Bw.cells12 (HX.out W4 H4.out.1).2.1
      go_wp2_with fail
      refine Calls.mono (CN.out W4 H4.out.1) ?_;rintro e W5 ⟨⟨r,rfl,hr⟩,b5⟩;have H5:Hid (Below w.heap.size w W5/\(r=true↔S.ns=T.ns/\S.fs=T.fs)):=⟨(HX.out W5 b5).2.2,hr⟩;clear b5 hr CN;go_wp2;go_ret;exact⟨Ak.Told.iff ⟨λh=>HS1.out (H4.out.2.1 (by first|rfl|trivial)) (H5.out.2.1 h).1 (H5.out.2.1 h).2,λh=>H5.out.2.2 ⟨(HQ.out.1 h).1.2.2.2.2.2.2.2.1,(HQ.out.1 h).1.2.2.2.2.2.2.2.2⟩⟩,H5.out.1⟩
end Go.Proofs
