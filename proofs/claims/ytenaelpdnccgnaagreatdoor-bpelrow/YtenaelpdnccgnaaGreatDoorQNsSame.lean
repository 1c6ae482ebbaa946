import Derived.Test.YtenaelpdnccgnaaGreatDoorQAllTChk
import Derived.Deep.RegionHeld3
set_option maxRecDepth 100000
set_option maxHeartbeats 32000000
namespace Go.Proofs
open Go.RowKit Go.Shelf
theorem Tryz.alike_any (o1 n1 o2 n2:Int)(a b:Option Addr)(l1 c1 l2 c2:Nat)(w:World):
  Calls Tryz.prog 92 #[.agg #[.int .i64 o1,.int .i64 n1,.slice a l1 c1],.agg #[.int .i64 o2,.int .i64 n2,.slice b l2 c2]] w λe w'=>e=.returned (.bool (o1==o2&&n1==n2))/\Below w.heap.size w w':=by
 have B0:Hid (Below w.heap.size w ((w.alloc (.cells #[.int .i64 o1,.int .i64 n1,.slice a l1 c1] 24)).alloc (.cells #[.int .i64 o2,.int .i64 n2,.slice b l2 c2] 24))):=((Below.refl _ w).alloc (Nat.le_refl _) _).alloc (by simp) _
 cases h1:(o1==o2)
 ·go_enter Tryz.func92,Tryz.ntmps92
  go_wp2;go_ret;exact⟨rfl,B0.out⟩
 go_enter Tryz.func92,Tryz.ntmps92
 go_wp2;go_ret;exact⟨by simp,B0.out⟩
theorem Tryz.equalFunc_any {g:Nat}{lb:Array Value}(eg:∀args w,(callFunc g args).run Tryz.prog w=.ok (.enter g args) w)(S T:Tm)(a b:Option Addr)(ca cb B d d':Nat)(w:World)(Inv:Nat->World->Prop)
  (hS:Tm.Lies w B (d+1) (.slice a S.ks.length ca) S) (hT:Tm.Lies w B (d'+1) (.slice b T.ks.length cb) T) (hI0:Inv 0 w) (hk:∀j W,Inv j W->∀i,i<B->W.heap[i]? =w.heap[i]?) (hal:∀j W o,Inv j W->Inv j (W.alloc o)) (hdr:∀j W,Inv j W->Inv j W.drew) (hsm:S.ks.length<=2147483647)
  (hc:∀j (hx:j<S.ks.length) (hy:j<T.ks.length) (W:World) (u v:Value),Inv j W->Tm.Lies w B d u S.ks[j]->Tm.Lies w B d' v T.ks[j]->Calls Tryz.prog g (#[.agg #[.int .i64 S.ks[j].op,.int .i64 S.ks[j].num,u],.agg #[.int .i64 T.ks[j].op,.int .i64 T.ks[j].num,v]]++lb) W λe w'=>∃r,e=.returned (.bool r)/\(r=true↔S.ks[j]=T.ks[j])/\Inv (j+1) w'):
  Calls Tryz.prog 62 #[.slice a S.ks.length ca,.slice b T.ks.length cb,.func (.func g) #[] lb] w λe w'=>∃r,e=.returned (.bool r)/\(r=true↔S.ks=T.ks)/\∃j,Inv j w':=by
 obtain⟨n,hn⟩:=pE (S.ks.length);obtain⟨m,hm⟩:=pE (T.ks.length);have HX:Hid (Tm.Lies w B (d+1) (.slice a n ca) S/\Tm.Lies w B (d'+1) (.slice b m cb) T/\S.ks.length=n/\T.ks.length=m/\Inv 0 w):=⟨by rw[<-hn];exact hS,by rw[<-hm];exact hT,hn,hm,hI0⟩;have HK:Hid ((∀j W,Inv j W->∀i,i<B->W.heap[i]? =w.heap[i]?)/\(∀j W o,Inv j W->Inv j (W.alloc o))/\(∀j W,Inv j W->Inv j W.drew)):=⟨hk,hal,hdr⟩;have HC:Hid _:=hc;rw[hn]at hsm;rw[hn,hm];clear hS hT hI0 hk hal hdr hc hn hm
 by_cases hnm:n=m
 rotate_left
 ·have hd:((n:Int)==(m:Int))=false:=by simp;omega
  go_enter Tryz.func62,Tryz.ntmps62
  go_wp2;go_ret;refine⟨false,rfl,⟨λh=>by simp at h,λh=> ?_⟩,0,HX.out.2.2.2.2⟩;have:=congrArg List.length h;rw[HX.out.2.2.1,HX.out.2.2.2.1]at this;exact absurd this hnm
 subst hnm
 go_enter Tryz.func62,Tryz.ntmps62
 go_wp2
 go_loopg [17] n (λgk i wr=>∃j:Nat,gk+j=n/\i=.int .i64 j/\Hid (Inv j wr/\S.ks.take j=T.ks.take j))
 case atStart=>exact⟨0,by omega,rfl,HX.out.2.2.2.2,by simp⟩
 case round=>
  obtain⟨j,hj,rfl,HJ⟩:=hrel
  by_cases hjn:j<n
  rotate_left
  ·have hd:decide ((j:Int)<n)=false:=decide_eq_false (by omega)
   go_wp2;go_ret;refine⟨true,rfl,⟨λ_=> ?_,λ_=>rfl⟩,j,HJ.out.1⟩;have h:=HJ.out.2
   rwa [List.take_of_length_le (by rw[HX.out.2.2.1];omega),List.take_of_length_le (by rw[HX.out.2.2.2.1];omega)]at h
  have hd:decide ((j:Int)<n)=true:=decide_eq_true (by omega);have hjn':(j:Int)<n:=by omega
  have hx:j<S.ks.length:=by rw[HX.out.2.2.1];exact hjn
  have hy:j<T.ks.length:=by rw[HX.out.2.2.2.1];exact hjn
  obtain⟨g1,off1,u1,rfl,hg1,p0,p1,p2,p3⟩:=HX.out.1.kid j hx;obtain⟨g2,off2,u2,rfl,hg2,q0,q1,q2,q3⟩:=HX.out.2.1.kid j hy;have hcl:=λW h=>HC.out j hx hy W u1 u2 h p3 q3;obtain⟨x,hxe⟩:=pE (S.ks[j]);obtain⟨y,hye⟩:=pE (T.ks[j]);rw[hxe]at p0 p1 p3;rw[hye]at q0 q1 q3;simp only[hxe,hye]at hcl;obtain⟨au,cu,rfl⟩:=p3.shape;obtain⟨av,cv,rfl⟩:=q3.shape;obtain⟨nx,hnx⟩:=pE (x.ks.length);obtain⟨ny,hny⟩:=pE (y.ks.length);obtain⟨x0,hx0⟩:=pE (x.op);obtain⟨x1,hx1⟩:=pE (x.num);obtain⟨y0,hy0⟩:=pE (y.op);obtain⟨y1,hy1⟩:=pE (y.num);rw[hnx]at p2;rw[hny]at q2;rw[hx0]at p0;rw[hx1]at p1;rw[hy0]at q0;rw[hy1]at q1;rw[hnx,hny,hx0,hx1,hy0,hy1]at hcl;have hkb:=HK.out.1 j wr HJ.out.1;have hc1:∀p,wr.cell? ⟨g1,p,none⟩=w.cell? ⟨g1,p,none⟩:=λp=>World.cell?_of_block (w:=w) (hkb g1 hg1);have hc2:∀p,wr.cell? ⟨g2,p,none⟩=w.cell? ⟨g2,p,none⟩:=λp=>World.cell?_of_block (w:=w) (hkb g2 hg2);have a0:wr.cell? ⟨g1,off1+j*3,none⟩=some (.int .i64 x0):=by rw[hc1];exact p0
  have a1:wr.cell? ⟨g1,off1+j*3+1,none⟩=some (.int .i64 x1):=by rw[hc1];exact p1
  have a2:wr.cell? ⟨g1,off1+j*3+2,none⟩=some (.slice au nx cu):=by rw[hc1];exact p2
  have b0:wr.cell? ⟨g2,off2+j*3,none⟩=some (.int .i64 y0):=by rw[hc2];exact q0
  have b1:wr.cell? ⟨g2,off2+j*3+1,none⟩=some (.int .i64 y1):=by rw[hc2];exact q1
  have b2:wr.cell? ⟨g2,off2+j*3+2,none⟩=some (.slice av ny cv):=by rw[hc2];exact q2
  have z1:g1<wr.heap.size:=by
   rcases Nat.lt_or_ge g1 wr.heap.size with h|h
   ·exact h
   simp[World.cell?,h]at a0
  have z2:g2<wr.heap.size:=by
   rcases Nat.lt_or_ge g2 wr.heap.size with h|h
   ·exact h
   simp[World.cell?,h]at b0
  have hcall:=hcl ((wr.alloc (.cells #[.int .i64 x0,.int .i64 x1,.slice au nx cu] 24)).alloc (.cells #[.int .i64 y0,.int .i64 y1,.slice av ny cv] 24)) (HK.out.2.1 _ _ _ (HK.out.2.1 _ _ _ HJ.out.1));have HCL:Hid _:=hcall;have HXY:Hid (S.ks[j]=x/\T.ks[j]=y):=⟨hxe,hye⟩;have hu:=Tryz.underlying24;clear hcl hcall p0 p1 p2 p3 q0 q1 q2 q3 hc1 hc2 hxe hye hnx hny hx0 hx1 hy0 hy1 hkb
  go_wp2_with (first|(go_at_fn g;refine Calls.mono HCL.out ?_;rintro e W3 ⟨r,rfl,hr,hI3⟩)|fail)
  ·obtain rfl:r=false:=by cases r<;>simp_all
   go_ret;refine⟨false,rfl,⟨λh=>by simp at h,λh=> ?_⟩,j+1,hI3⟩
   have hxy:x=y:=by
    rw[<-HXY.out.1,<-HXY.out.2];simp only[h]
   exact hr.2 hxy
  obtain rfl:r=true:=by cases r<;>simp_all
  have HN:Hid (Inv (j+1) W3/\S.ks.take (j+1)=T.ks.take (j+1)):=by
   refine⟨hI3, ?_⟩;rw[Tm.take_snoc _ _ hx,Tm.take_snoc _ _ hy,HJ.out.2,HXY.out.1,HXY.out.2,hr.1 rfl]
  go_roundg (gk-1)
  case measure=>omega
  case rel=>exact⟨j+1,by omega,by go_num,HN.out⟩
def Tk.SameEnd (S T:Tm)(lv left bw:Nat)(w:World)(e:Ending)(w':World):Prop:=
 ∃r,e=.returned (.bool r)/\(r=true↔S=T)/\Tk.But (λk=>k=bw) w w'/\∃left',Tk.Wy bw lv left' w'/\left<=left'+S.size/\left'<=left
structure Tk.Sb (bw L:Nat)(b1 b2 b3:Nat)(w:World):Prop where
 h1:w.heap[b1]? =some (.cells #[.pointer (some ⟨bw,0,none⟩)] 176 (0,0))
 h2:w.heap[b2]? =some (.cells #[.int .i64 L] 3 (0,0))
 h3:w.heap[b3]? =some (.cells #[.func (.func 92) #[] #[]] 75 (0,0))
theorem Tk.Sb.keep {bw L b1 b2 b3:Nat}{w w':World}(h:Tk.Sb bw L b1 b2 b3 w)(k1:w'.heap[b1]? =w.heap[b1]?)(k2:w'.heap[b2]? =w.heap[b2]?)(k3:w'.heap[b3]? =w.heap[b3]?):Tk.Sb bw L b1 b2 b3 w':=⟨k1.trans h.h1,k2.trans h.h2,k3.trans h.h3⟩
theorem Tk.Sb.c1 {bw L b1 b2 b3:Nat}{w:World}(h:Tk.Sb bw L b1 b2 b3 w):w.cell? ⟨b1,0,none⟩=some (.pointer (some ⟨bw,0,none⟩)):=by have:=h.h1;simp[World.cell?,this]
theorem Tk.Sb.c2 {bw L b1 b2 b3:Nat}{w:World}(h:Tk.Sb bw L b1 b2 b3 w):w.cell? ⟨b2,0,none⟩=some (.int .i64 L):=by have:=h.h2;simp[World.cell?,this]
theorem Tk.Sb.c3 {bw L b1 b2 b3:Nat}{w:World}(h:Tk.Sb bw L b1 b2 b3 w):w.cell? ⟨b3,0,none⟩=some (.func (.func 92) #[] #[]):=by have:=h.h3;simp[World.cell?,this]
theorem Tk.Sb.lt {bw L b1 b2 b3:Nat}{w:World}(h:Tk.Sb bw L b1 b2 b3 w):b1<w.heap.size/\b2<w.heap.size/\b3<w.heap.size:=
 ⟨(Array.getElem?_eq_some_iff.1 h.h1).1,(Array.getElem?_eq_some_iff.1 h.h2).1,(Array.getElem?_eq_some_iff.1 h.h3).1⟩
theorem Tryz.same1_any (bw lv L b1 b2 b3:Nat)(S T:Tm)(u v:Value)(left:Nat)(W:World)(hb:Tk.Sb bw (L+1) b1 b2 b3 W)(hL:L<=1000)
  (hs:∀W',Below W.heap.size W W'->Calls Tryz.prog 115 #[.pointer (some ⟨bw,0,none⟩),.agg #[.int .i64 S.op,.int .i64 S.num,u],.agg #[.int .i64 T.op,.int .i64 T.num,v],.int .i64 L,.func (.func 92) #[] #[]] W' (Tk.SameEnd S T lv left bw W')) (_hbw:bw<W.heap.size)
  (hu:∃a n c,u=.slice a n c) (hv:∃a n c,v=.slice a n c):
  Calls Tryz.prog 147 #[.agg #[.int .i64 S.op,.int .i64 S.num,u],.agg #[.int .i64 T.op,.int .i64 T.num,v],.pointer (some ⟨b1,0,none⟩),.pointer (some ⟨b2,0,none⟩),.pointer (some ⟨b3,0,none⟩)] W (Tk.SameEnd S T lv left bw W):=by
 obtain⟨a,n,c,rfl⟩:=hu;obtain⟨a',n',c',rfl⟩:=hv;obtain⟨x0,hx0⟩:=pE (S.op);obtain⟨x1,hx1⟩:=pE (S.num);obtain⟨y0,hy0⟩:=pE (T.op);obtain⟨y1,hy1⟩:=pE (T.num);rw[hx0,hx1,hy0,hy1];rw[hx0,hx1,hy0,hy1]at hs;have k1:=hb.c1;have k2:=hb.c2;have k3:=hb.c3;obtain⟨z1,z2,z3⟩:=hb.lt;have A0:Below W.heap.size W ((W.alloc (.cells #[.int .i64 x0,.int .i64 x1,.slice a n c] 24)).alloc (.cells #[.int .i64 y0,.int .i64 y1,.slice a' n' c'] 24)):=((Below.refl _ W).alloc (Nat.le_refl _) _).alloc (by simp) _;have H1:Hid _:=hs _ A0;have HA:Hid _:=A0;have e1:((L+1:Nat):Int)-1=L:=by omega
 clear hs A0 hb hx0 hx1 hy0 hy1
 go_enter Tryz.func147,Tryz.ntmps147
 go_wp2_with fail
 refine Calls.mono H1.out ?_;rintro e W2 ⟨r,rfl,hr,hbt,hl⟩;have HR:Hid ((r=true↔S=T)/\Tk.But (λk=>k=bw) W W2/\∃left',Tk.Wy bw lv left' W2/\left<=left'+S.size/\left'<=left):=⟨hr,(Tk.But.of_below HA.out).trans hbt,hl⟩;clear hr hbt hl H1;go_wp2;go_ret;exact⟨r,rfl,HR.out⟩
theorem Tk.alloc5 (w:World)(o1 o2 o3 o4 o5:Obj):(((((w.alloc o1).alloc o2).alloc o3).alloc o4).alloc o5).heap[w.heap.size]? =some o1/\(((((w.alloc o1).alloc o2).alloc o3).alloc o4).alloc o5).heap[w.heap.size+1]? =some o2/\
  (((((w.alloc o1).alloc o2).alloc o3).alloc o4).alloc o5).heap[w.heap.size+2]? =some o3/\(((((w.alloc o1).alloc o2).alloc o3).alloc o4).alloc o5).heap[w.heap.size+3]? =some o4/\(((((w.alloc o1).alloc o2).alloc o3).alloc o4).alloc o5).heap[w.heap.size+4]? =some o5:=by
 simp only[World.alloc];refine⟨?_, ?_, ?_, ?_, ?_⟩
 ·rw[Array.getElem?_push,if_neg (by simp only[Array.size_push];omega),Array.getElem?_push,if_neg (by simp only[Array.size_push];omega),Array.getElem?_push,if_neg (by simp only[Array.size_push];omega),Array.getElem?_push,if_neg (by simp only[Array.size_push];omega),Array.getElem?_push,if_pos rfl]
 ·rw[Array.getElem?_push,if_neg (by simp only[Array.size_push];omega),Array.getElem?_push,if_neg (by simp only[Array.size_push];omega),Array.getElem?_push,if_neg (by simp only[Array.size_push];omega),Array.getElem?_push,if_pos (by simp only[Array.size_push])]
 ·rw[Array.getElem?_push,if_neg (by simp only[Array.size_push];omega),Array.getElem?_push,if_neg (by simp only[Array.size_push];omega),Array.getElem?_push,if_pos (by simp only[Array.size_push])]
 ·rw[Array.getElem?_push,if_neg (by simp only[Array.size_push];omega),Array.getElem?_push,if_pos (by simp only[Array.size_push])]
 rw[Array.getElem?_push,if_pos (by simp only[Array.size_push])]
def Tk.SInv (S:Tm)(lv bw L k b1 b2 b3:Nat)(w:World)(j:Nat)(W:World):Prop:=
 Tk.But (λx=>x=bw) w W/\Tk.Sb bw (L+1) b1 b2 b3 W/\∃left,Tk.Wy bw lv left W/\k<=left+Tm.sizes (S.ks.take j)/\left<=k
theorem Tryz.same_any (lv bw B:Nat)(_hB:0<B)(hbw:B<=bw):∀(d d' L:Nat) (S T:Tm) (u v:Value) (left:Nat) (w:World),Tm.Lies w B d u S->Tm.Lies w B d' v T->B<=w.heap.size->Tk.Wy bw lv left w->S.size<=left->left<=2147483647->S.depth<=L->L<=1000->
  Calls Tryz.prog 115 #[.pointer (some ⟨bw,0,none⟩),.agg #[.int .i64 S.op,.int .i64 S.num,u],.agg #[.int .i64 T.op,.int .i64 T.num,v],.int .i64 L,.func (.func 92) #[] #[]] w (Tk.SameEnd S T lv left bw w):=by
 intro d
 induction d with
 |zero=>intro d' L S T u v left w h;exact h.elim
 |succ d ih=>
  intro d' L S T u v left w hS hT hBs hW hsz hleft hdp hL
  cases d' with
  |zero=>exact hT.elim
  |succ d'=>
  obtain⟨a,ca,rfl⟩:=hS.shape;obtain⟨b,cb,rfl⟩:=hT.shape;obtain⟨L,rfl⟩:∃l,L=l+1:=⟨L-1,by have:=S.depth_eq;omega⟩;obtain⟨k,rfl⟩:∃k,left=k+1:=⟨left-1,by have:=S.size_pos;omega⟩;obtain⟨x0,hx0⟩:=pE (S.op);obtain⟨x1,hx1⟩:=pE (S.num);obtain⟨y0,hy0⟩:=pE (T.op);obtain⟨y1,hy1⟩:=pE (T.num);obtain⟨n,hn⟩:=pE (S.ks.length);obtain⟨m,hm⟩:=pE (T.ks.length);rw[hx0,hx1,hy0,hy1,hn,hm];obtain⟨w5,hw5⟩:=pE (((((w.alloc (.cells #[.pointer (some ⟨bw,0,none⟩)] 176)).alloc (.cells #[.int .i64 x0,.int .i64 x1,.slice a n ca] 24)).alloc (.cells #[.int .i64 y0,.int .i64 y1,.slice b m cb] 24)).alloc (.cells #[.int .i64 ((L:Int)+1)] 3)).alloc (.cells #[.func (.func 92) #[] #[]] 75))
  have A5:Below w.heap.size w w5:=by
   rw[<-hw5];exact(((((Below.refl _ w).alloc (Nat.le_refl _) _).alloc (by simp) _).alloc (by simp;omega) _).alloc (by simp;omega) _).alloc (by simp;omega) _
  have hs5:w5.heap.size=w.heap.size+5:=by rw[<-hw5];simp
  have hwl:=hW.lt;have W5:Tk.Wy bw lv (k+1) w5:=hW.keep (A5.block bw hwl);obtain⟨r1,r2,r3,r4,r5⟩:=Tk.alloc5 w (.cells #[.pointer (some ⟨bw,0,none⟩)] 176) (.cells #[.int .i64 x0,.int .i64 x1,.slice a n ca] 24) (.cells #[.int .i64 y0,.int .i64 y1,.slice b m cb] 24) (.cells #[.int .i64 ((L:Int)+1)] 3) (.cells #[.func (.func 92) #[] #[]] 75);rw[hw5]at r1 r2 r3 r4 r5;have S5:Tk.Sb bw (L+1) w.heap.size (w.heap.size+3) (w.heap.size+4) w5:=⟨r1,by rw[r4];simp,r5⟩
  have CF:Hid (∀W,Tk.But (λx=>x=bw) w5 W->Tk.Sb bw (L+1) w.heap.size (w.heap.size+3) (w.heap.size+4) W/\W.cell? ⟨w.heap.size+1,0,none⟩=some (.int .i64 x0)/\W.cell? ⟨w.heap.size+1,1,none⟩=some (.int .i64 x1)/\W.cell? ⟨w.heap.size+1,2,none⟩=some (.slice a n ca)/\
    W.cell? ⟨w.heap.size+2,0,none⟩=some (.int .i64 y0)/\W.cell? ⟨w.heap.size+2,1,none⟩=some (.int .i64 y1)/\W.cell? ⟨w.heap.size+2,2,none⟩=some (.slice b m cb)):=by
   intro W hb;have e1:=(hb.block (w.heap.size+1) (by omega) (by omega)).trans r2;have e2:=(hb.block (w.heap.size+2) (by omega) (by omega)).trans r3;exact⟨S5.keep (hb.block _ (by omega) (by omega)) (hb.block _ (by omega) (by omega)) (hb.block _ (by omega) (by omega)),by simp[World.cell?,e1],by simp[World.cell?,e1],by simp[World.cell?,e1],by simp[World.cell?,e2],by simp[World.cell?,e2],by simp[World.cell?,e2]⟩
  have HW5:Hid (((((w.alloc (.cells #[.pointer (some ⟨bw,0,none⟩)] 176)).alloc (.cells #[.int .i64 x0,.int .i64 x1,.slice a n ca] 24)).alloc (.cells #[.int .i64 y0,.int .i64 y1,.slice b m cb] 24)).alloc (.cells #[.int .i64 ((L:Int)+1)] 3)).alloc (.cells #[.func (.func 92) #[] #[]] 75)=w5):=hw5;have HX:Hid (Tm.Lies w B (d+1) (.slice a n ca) S/\Tm.Lies w B (d'+1) (.slice b m cb) T/\S.ks.length=n/\T.ks.length=m/\S.op=x0/\S.num=x1/\T.op=y0/\T.num=y1/\Below w.heap.size w w5):=⟨by rw[<-hn];exact hS,by rw[<-hm];exact hT,hn,hm,hx0,hx1,hy0,hy1,A5⟩;have HN:Hid (B<=w.heap.size/\S.size<=k+1/\k+1<=2147483647/\S.depth<=L+1/\L+1<=1000/\bw<w.heap.size/\w5.heap.size=w.heap.size+5):=⟨hBs,hsz,hleft,hdp,hL,hwl,hs5⟩;have HI:Hid _:=ih;have hk2:k<=2147483647:=by omega
  have hLb:L<=1000:=by omega
  clear ih hS hT hBs hW hsz hleft hdp hL hx0 hx1 hy0 hy1 hn hm hw5 A5 r1 r2 r3 r4 r5 S5 hs5 hwl
  go_enter Tryz.func115,Tryz.ntmps115
  go_wp2_with fail
  rw[HW5.out];refine(Tryz.wenter_yes bw lv k L _ W5 hk2).mono ?_;rintro e W1 ⟨rfl,hw1⟩;have X1:Tk.But (λx=>x=bw) w5 W1:=by rw[hw1];exact(Tk.But.refl _ _).setCell (E:=λx=>x=bw) (p:=⟨bw,2,none⟩) rfl _
  have W1k:Hid (Tk.Wy bw lv k W1):=by show Tk.Wy _ _ _ _;rw[hw1];exact W5.put k
  obtain⟨sb,a0,a1,a2,b0,b1,b2⟩:=CF.out W1 X1;have k3:=sb.c3;have HX1:Hid _:=X1;clear hw1 W5 X1 sb
  go_wp2_with fail
  refine(Tryz.alike_any x0 x1 y0 y1 a b n ca m cb W1).mono ?_;rintro e W2 ⟨rfl,hb2⟩;have X2:Hid (Tk.But (λx=>x=bw) w5 W2):=HX1.out.trans (Tk.But.of_below hb2);have W2k:Hid (Tk.Wy bw lv k W2):=W1k.out.keep (hb2.block bw W1k.out.lt);have XW:Hid (Tk.But (λx=>x=bw) w W2):=(Tk.But.of_below HX.out.2.2.2.2.2.2.2.2).trans X2.out;clear hb2 a0 a1 a2 b0 b1 b2 k3 HX1 W1k
  cases hq:(x0==y0&&x1==y1)
  ·have HQ:Hid ((x0==y0&&x1==y1)=false):=hq
   clear hq;go_wp2;go_ret;refine⟨false,rfl,⟨λh=>by simp at h,λh=> ?_⟩,XW.out,k,W2k.out, ?_,by omega⟩
   ·subst h
    have:=HQ.out;have e:=HX.out.2.2.2.2;rw[<-e.1,<-e.2.1,e.2.2.1,e.2.2.2.1]at this;simp at this
   have:=S.size_pos;omega
  have HQ:Hid ((x0==y0&&x1==y1)=true):=hq;clear hq
  have CK:Hid (∀W o n a l c,Below W2.heap.size W2 W->Calls Tryz.prog 116 #[.agg #[.int .i64 o,.int .i64 n,.slice a l c]] W λe w'=>e=.returned (.slice a l c)/\Hid (Below W2.heap.size W2 w')):=λW o n a l c hb=>
   (Tryz.kidsOf_any o n a l c W).mono λ_ _ h=>⟨h.1,hb.trans (h.2.mono hb.size)⟩
  obtain⟨CS,hCS⟩:∃CS:World->Prop,CS=λV=>(V.cell? ⟨w.heap.size,0,none⟩=some (.pointer (some ⟨bw,0,none⟩))/\V.cell? ⟨bw,0,none⟩=some (.func (.func 116) #[] #[]))/\V.cell? ⟨w.heap.size+1,0,none⟩=some (.int .i64 x0)/\V.cell? ⟨w.heap.size+1,1,none⟩=some (.int .i64 x1)/\V.cell? ⟨w.heap.size+1,2,none⟩=some (.slice a n ca)/\V.cell? ⟨w.heap.size+2,0,none⟩=some (.int .i64 y0)/\V.cell? ⟨w.heap.size+2,1,none⟩=some (.int .i64 y1)/\V.cell? ⟨w.heap.size+2,2,none⟩=some (.slice b m cb):=⟨_,rfl⟩
  have CE:Hid (∀W,Below W2.heap.size W2 W->Calls Tryz.prog 62 #[.slice a n ca,.slice b m cb,.func (.func 147) #[] #[.pointer (some ⟨w.heap.size,0,none⟩),.pointer (some ⟨w.heap.size+3,0,none⟩),.pointer (some ⟨w.heap.size+4,0,none⟩)]] W λe w'=>∃r,e=.returned (.bool r)/\Hid ((r=true↔S.ks=T.ks)/\Tk.But (λx=>x=bw) w w'/\(∃left',Tk.Wy bw lv left' w'/\k+1<=left'+S.size/\left'<=k+1)/\CS w')):=by
   intro W hb;have XWW:Tk.But (λx=>x=bw) W2 W:=Tk.But.of_below hb;have hz2:=X2.out.size;have XW0:=XW.out.trans XWW;have hlb:∀i,i<B->¬i=bw:=λi hi=>by omega
   have LS:Tm.Lies W B (d+1) (.slice a S.ks.length ca) S:=by rw[HX.out.2.2.1];exact HX.out.1.keep λi hi=>XW0.block i (by have:=HN.out;omega) (hlb i hi)
   have LT:Tm.Lies W B (d'+1) (.slice b T.ks.length cb) T:=by rw[HX.out.2.2.2.1];exact HX.out.2.1.keep λi hi=>XW0.block i (by have:=HN.out;omega) (hlb i hi)
   have hSb:=(CF.out W (X2.out.trans (Tk.But.of_below hb))).1
   have h:=Tryz.equalFunc_any (g:=147) (lb:=#[.pointer (some ⟨w.heap.size,0,none⟩),.pointer (some ⟨w.heap.size+3,0,none⟩),.pointer (some ⟨w.heap.size+4,0,none⟩)]) (enters_of Tryz.func147 (by kernel_rfl) rfl) S T a b ca cb B d d' W (Tk.SInv S lv bw L k w.heap.size (w.heap.size+3) (w.heap.size+4) W2) LS LT
    ⟨XWW,hSb,k,W2k.out.keep (hb.block bw W2k.out.lt),by omega,Nat.le_refl _⟩
    (λj V hV i hi=>by
     rw[hV.1.block i (by have:=HN.out;omega) (hlb i hi)]
     exact(XWW.block i (by have:=HN.out;omega) (hlb i hi)).symm)
    (λj V o hV=>by
     obtain⟨h1,h2,l,h3,h4⟩:=hV;have hz:=h2.lt
     exact⟨h1.alloc o,h2.keep (Below.heap_alloc _ _ _ hz.1) (Below.heap_alloc _ _ _ hz.2.1) (Below.heap_alloc _ _ _ hz.2.2),l,h3.keep (Below.heap_alloc _ _ _ h3.lt),h4⟩)
    (λj V hV=>by
     obtain⟨h1,h2,l,h3,h4⟩:=hV
     exact⟨h1.drewN 1,h2.keep rfl rfl rfl,l,h3.keep rfl,h4⟩)
    (by have h1:=Tm.length_le_sizes S.ks;have h2:=S.size_eq;have:=HN.out;omega)
    (λj hx hy V u v hV hu hv=>by
     obtain⟨h1,h2,l,h3,h4,h5⟩:=hV;have hsx:=Tm.sizes_get S.ks j hx;have hse:=S.size_eq;have hdx:=Tm.depths_get S.ks j hx;have hde:=S.depth_eq
     have hbase:∀i,i<B->V.heap[i]? =W.heap[i]? :=λi hi=>by
      rw[h1.block i (by have:=HN.out;omega) (hlb i hi)];exact(XWW.block i (by have:=HN.out;omega) (hlb i hi)).symm
     have hq:=Tryz.same1_any bw lv L w.heap.size (w.heap.size+3) (w.heap.size+4) S.ks[j] T.ks[j] u v l V h2 (by omega)
      (λV' hb'=>HI.out d' L S.ks[j] T.ks[j] u v l V' ((hu.keep hbase).keep λi hi=>hb'.block i (by have:=h1.size;have:=HN.out;omega)) ((hv.keep hbase).keep λi hi=>hb'.block i (by have:=h1.size;have:=HN.out;omega)) (by have:=h1.size;have:=hb'.size;have:=HN.out;omega)
       (h3.keep (hb'.block bw h3.lt)) (by have:=HN.out;omega) (by have:=HN.out;omega) (by have:=HN.out;omega) hLb) h3.lt
      (by obtain⟨p,q,e⟩:=hu.shape;exact⟨p,_,q,e⟩) (by obtain⟨p,q,e⟩:=hv.shape;exact⟨p,_,q,e⟩)
     refine hq.mono ?_;rintro e V' ⟨r,rfl,hr,hbt,l',h6,h7,h8⟩;have hz:=h2.lt;have hne:bw<w.heap.size:=HN.out.2.2.2.2.2.1;refine⟨r,rfl,hr,h1.trans hbt,h2.keep (hbt.block _ hz.1 (by omega)) (hbt.block _ hz.2.1 (by omega)) (hbt.block _ hz.2.2 (by omega)),l',h6, ?_,by omega⟩;rw[Tm.sizes_take _ _ hx]
     omega)
   rw[HX.out.2.2.1,HX.out.2.2.2.1]at h;refine h.mono ?_;rintro e V ⟨r,rfl,hr,j,h1,h2,l,h3,h4,h5⟩;have hcf:=CF.out V (X2.out.trans h1);refine⟨r,rfl,hr,XW.out.trans h1,⟨l,h3, ?_,by omega⟩,by rw[hCS];exact⟨⟨hcf.1.c1,h3.c0⟩,hcf.2⟩⟩;have:=Tm.sizes_le S.ks j;have:=S.size_eq;omega
  have BR:Hid (Below W2.heap.size W2 W2):=Below.refl _ _;obtain⟨sb,a0,a1,a2,b0,b1,b2⟩:=CF.out W2 X2.out;have k1:=sb.c1;have kw:=W2k.out.c0
  have CFB:Hid (∀W,Below W2.heap.size W2 W->CS W):=λW hb=>by
   rw[hCS];have h:=CF.out W (X2.out.trans (Tk.But.of_below hb));exact⟨⟨h.1.c1,(W2k.out.keep (hb.block bw W2k.out.lt)).c0⟩,h.2⟩
  have HEQ:Hid (S.ks=T.ks↔S=T):=by
   have e:=HX.out.2.2.2.2;have hq:=HQ.out;simp only[Bool.and_eq_true,beq_iff_eq]at hq;show _↔_;rw[Tm.eq_iff S T,e.1,e.2.1,e.2.2.1,e.2.2.2.1];exact⟨λh=>⟨hq.1,hq.2,h⟩,λh=>h.2.2⟩
  clear sb HI CF HX HQ HN HW5 XW X2 W2k;subst hCS
  go_wp2_with fail
  go_region_held3 (λV=>(V.cell? ⟨w.heap.size,0,none⟩=some (.pointer (some ⟨bw,0,none⟩))/\V.cell? ⟨bw,0,none⟩=some (.func (.func 116) #[] #[]))/\V.cell? ⟨w.heap.size+1,0,none⟩=some (.int .i64 x0)/\V.cell? ⟨w.heap.size+1,1,none⟩=some (.int .i64 x1)/\V.cell? ⟨w.heap.size+1,2,none⟩=some (.slice a n ca)/\V.cell? ⟨w.heap.size+2,0,none⟩=some (.int .i64 y0)/\V.cell? ⟨w.heap.size+2,1,none⟩=some (.int .i64 y1)/\V.cell? ⟨w.heap.size+2,2,none⟩=some (.slice b m cb))
   (first|exact H4.out.2.2.2|exact CFB.out _ B3.out|exact CFB.out _ BR.out.drew|exact CFB.out _ BR.out)
   (first
   |(go_simp;go_at_call 116;refine Calls.mono (CK.out _ _ _ _ _ _ ?_) ?_;(first|exact B3.out|exact B3.out.drew|exact Tk.below_drewN B3.out _|exact BR.out|exact BR.out.drew|exact Tk.below_drewN BR.out _);rintro e W3 ⟨rfl,B3⟩)
   |(go_simp;go_at_call 62;refine Calls.mono (CE.out _ ?_) ?_;(first|exact B3.out|exact B3.out.drew|exact Tk.below_drewN B3.out _);rintro e W4 ⟨r,rfl,H4⟩))
  all_goals
   clear CK CE CFB BR;go_simp;go_wp2;go_ret;refine⟨r,rfl,H4.out.1.trans HEQ.out, ?_,H4.out.2.2.1⟩
   first|exact H4.out.2.1|exact H4.out.2.1.drewN 1
end Go.Proofs
