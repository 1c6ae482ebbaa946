import Derived.Test.YtenaelpdnccgnaaGreatDoorRAcSame
set_option maxRecDepth 100000
set_option maxHeartbeats 32000000
namespace Go.Proofs
open Go.RowKit Go.Shelf
theorem Ak.alloc5 (w:World)(o1 o2 o3 o4 o5:Obj):(((((w.alloc o1).alloc o2).alloc o3).alloc o4).alloc o5).heap[w.heap.size]? =some o1/\(((((w.alloc o1).alloc o2).alloc o3).alloc o4).alloc o5).heap[w.heap.size+1]? =some o2/\
  (((((w.alloc o1).alloc o2).alloc o3).alloc o4).alloc o5).heap[w.heap.size+2]? =some o3/\(((((w.alloc o1).alloc o2).alloc o3).alloc o4).alloc o5).heap[w.heap.size+3]? =some o4/\(((((w.alloc o1).alloc o2).alloc o3).alloc o4).alloc o5).heap[w.heap.size+4]? =some o5:=by
 simp only[World.alloc];refine⟨?_, ?_, ?_, ?_, ?_⟩
 ·rw[Array.getElem?_push,if_neg (by simp only[Array.size_push];omega),Array.getElem?_push,if_neg (by simp only[Array.size_push];omega),Array.getElem?_push,if_neg (by simp only[Array.size_push];omega),Array.getElem?_push,if_neg (by simp only[Array.size_push];omega),Array.getElem?_push,if_pos rfl]
 ·rw[Array.getElem?_push,if_neg (by simp only[Array.size_push];omega),Array.getElem?_push,if_neg (by simp only[Array.size_push];omega),Array.getElem?_push,if_neg (by simp only[Array.size_push];omega),Array.getElem?_push,if_pos (by simp only[Array.size_push])]
 ·rw[Array.getElem?_push,if_neg (by simp only[Array.size_push];omega),Array.getElem?_push,if_neg (by simp only[Array.size_push];omega),Array.getElem?_push,if_pos (by simp only[Array.size_push])]
 ·rw[Array.getElem?_push,if_neg (by simp only[Array.size_push];omega),Array.getElem?_push,if_pos (by simp only[Array.size_push])]
 rw[Array.getElem?_push,if_pos (by simp only[Array.size_push])]
def Ak.SInv (S:Ac)(lv bw L k b1 b2 b3:Nat)(w:World)(j:Nat)(W:World):Prop:=
 Tk.But (λx=>x=bw) w W/\Ak.Sb bw (L+1) b1 b2 b3 W/\∃left,Ak.Wy bw lv left W/\k<=left+Ac.sizes (S.ks.take j)/\left<=k
theorem Ac.eq_iff (S T:Ac):S=T↔Ac.Same1 S T/\S.ks=T.ks:=by
 cases S;cases T
 simp only[Ac.mk.injEq,Ac.Same1,Ac.kind,Ac.node,Ac.a,Ac.b,Ac.t,Ac.cs,Ac.ks,Ac.ls,Ac.ns,Ac.fs]
 constructor
 ·rintro⟨h1,h2,h3,h4,h5,h6,h7,h8,h9,h10⟩;exact⟨⟨h1,h2,h3,h4,h5,h6,h8,h9,h10⟩,h7⟩
 rintro⟨⟨h1,h2,h3,h4,h5,h6,h8,h9,h10⟩,h7⟩;exact⟨h1,h2,h3,h4,h5,h6,h7,h8,h9,h10⟩
theorem Tryz.asame_any (lv bw B e e':Nat)(hB0:0<B)(hbw:B<=bw):∀(d d' L:Nat) (S T:Ac) (U V:Ac.Vs) (left:Nat) (w:World),Ac.Lies w B e d U S->Ac.Lies w B e' d' V T->B<=w.heap.size->Ak.Wy bw lv left w->S.size<=left->left<=2147483647->S.depth<=L->L<=1000->S.All Ac.Fit->
  Calls Tryz.prog 59 #[.pointer (some ⟨bw,0,none⟩),.agg (Ac.row S U),.agg (Ac.row T V),.int .i64 L,.func (.func 40) #[] #[]] w (Ak.SameEnd S T lv left bw w):=by
 intro d
 induction d with
 |zero=>intro d' L S T U V left w h;exact h.elim
 |succ d ih=>
  intro d' L S T U V left w hS hT hBs hW hsz hleft hdp hL hfit
  cases d' with
  |zero=>exact hT.elim
  |succ d'=>
  rw[S.all_eq]at hfit;obtain⟨a,ca,hUk⟩:=hS.kids;obtain⟨b,cb,hVk⟩:=hT.kids;obtain⟨L,rfl⟩:∃l,L=l+1:=⟨L-1,by have:=S.depth_eq;omega⟩;obtain⟨k,rfl⟩:∃k,left=k+1:=⟨left-1,by have:=S.size_pos;omega⟩;obtain⟨n,hn⟩:=pE (S.ks.length);obtain⟨m,hm⟩:=pE (T.ks.length);rw[hn]at hUk;rw[hm]at hVk;obtain⟨y0,y1,y2,y3,y4,y5,y6,y7,y9,y10,y11,hyr⟩:∃y0 y1 y2 y3 y4 y5 y6 y7 y9 y10 y11,Ac.row S U=#[y0,y1,y2,y3,y4,y5,y6,y7,.slice a n ca,y9,y10,y11]:=⟨_,_,_,_,_,_,_,_,_,_,_,by unfold Ac.row;rw[hUk]⟩;obtain⟨z0,z1,z2,z3,z4,z5,z6,z7,z9,z10,z11,hzr⟩:∃z0 z1 z2 z3 z4 z5 z6 z7 z9 z10 z11,Ac.row T V=#[z0,z1,z2,z3,z4,z5,z6,z7,.slice b m cb,z9,z10,z11]:=⟨_,_,_,_,_,_,_,_,_,_,_,by unfold Ac.row;rw[hVk]⟩;rw[hyr,hzr];obtain⟨w5,hw5⟩:=pE ((((((w.alloc (.cells #[.pointer (some ⟨bw,0,none⟩)] 132)).alloc (.cells #[y0,y1,y2,y3,y4,y5,y6,y7,.slice a n ca,y9,y10,y11] 32)).alloc (.cells #[z0,z1,z2,z3,z4,z5,z6,z7,.slice b m cb,z9,z10,z11] 32)).alloc (.cells #[.int .i64 ((L:Int)+1)] 3)).alloc (.cells #[.func (.func 40) #[] #[]] 59)))
  have A5:Below w.heap.size w w5:=by
   rw[<-hw5];exact(((((Below.refl _ w).alloc (Nat.le_refl _) _).alloc (by simp) _).alloc (by simp;omega) _).alloc (by simp;omega) _).alloc (by simp;omega) _
  have hs5:w5.heap.size=w.heap.size+5:=by rw[<-hw5];simp
  have hwl:=hW.lt;have W5:Ak.Wy bw lv (k+1) w5:=hW.keep (A5.block bw hwl);obtain⟨r1,r2,r3,r4,r5⟩:=Ak.alloc5 w (.cells #[.pointer (some ⟨bw,0,none⟩)] 132) (.cells #[y0,y1,y2,y3,y4,y5,y6,y7,.slice a n ca,y9,y10,y11] 32) (.cells #[z0,z1,z2,z3,z4,z5,z6,z7,.slice b m cb,z9,z10,z11] 32) (.cells #[.int .i64 ((L:Int)+1)] 3) (.cells #[.func (.func 40) #[] #[]] 59);rw[hw5]at r1 r2 r3 r4 r5;have S5:Ak.Sb bw (L+1) w.heap.size (w.heap.size+3) (w.heap.size+4) w5:=⟨r1,by rw[r4];simp,r5⟩
  have CF:Hid (∀W,Tk.But (λx=>x=bw) w5 W->Ak.Sb bw (L+1) w.heap.size (w.heap.size+3) (w.heap.size+4) W/\W.cell? ⟨w.heap.size+1,0,none⟩=some (y0)/\W.cell? ⟨w.heap.size+1,1,none⟩=some (y1)/\W.cell? ⟨w.heap.size+1,2,none⟩=some (y2)/\W.cell? ⟨w.heap.size+1,3,none⟩=some (y3)/\W.cell? ⟨w.heap.size+1,4,none⟩=some (y4)/\W.cell? ⟨w.heap.size+1,5,none⟩=some (y5)/\W.cell? ⟨w.heap.size+1,6,none⟩=some (y6)/\W.cell? ⟨w.heap.size+1,7,none⟩=some (y7)/\W.cell? ⟨w.heap.size+1,8,none⟩=some (.slice a n ca)/\W.cell? ⟨w.heap.size+1,9,none⟩=some (y9)/\W.cell? ⟨w.heap.size+1,10,none⟩=some (y10)/\W.cell? ⟨w.heap.size+1,11,none⟩=some (y11)/\W.cell? ⟨w.heap.size+2,0,none⟩=some (z0)/\W.cell? ⟨w.heap.size+2,1,none⟩=some (z1)/\W.cell? ⟨w.heap.size+2,2,none⟩=some (z2)/\W.cell? ⟨w.heap.size+2,3,none⟩=some (z3)/\W.cell? ⟨w.heap.size+2,4,none⟩=some (z4)/\W.cell? ⟨w.heap.size+2,5,none⟩=some (z5)/\W.cell? ⟨w.heap.size+2,6,none⟩=some (z6)/\W.cell? ⟨w.heap.size+2,7,none⟩=some (z7)/\W.cell? ⟨w.heap.size+2,8,none⟩=some (.slice b m cb)/\W.cell? ⟨w.heap.size+2,9,none⟩=some (z9)/\W.cell? ⟨w.heap.size+2,10,none⟩=some (z10)/\W.cell? ⟨w.heap.size+2,11,none⟩=some (z11)):=by
   intro W hb;have e1:=(hb.block (w.heap.size+1) (by omega) (by omega)).trans r2;have e2:=(hb.block (w.heap.size+2) (by omega) (by omega)).trans r3;refine⟨S5.keep (hb.block _ (by omega) (by omega)) (hb.block _ (by omega) (by omega)) (hb.block _ (by omega) (by omega)), ?_⟩;simp[World.cell?,e1,e2]
  have HW5:Hid ((((((w.alloc (.cells #[.pointer (some ⟨bw,0,none⟩)] 132)).alloc (.cells #[y0,y1,y2,y3,y4,y5,y6,y7,.slice a n ca,y9,y10,y11] 32)).alloc (.cells #[z0,z1,z2,z3,z4,z5,z6,z7,.slice b m cb,z9,z10,z11] 32)).alloc (.cells #[.int .i64 ((L:Int)+1)] 3)).alloc (.cells #[.func (.func 40) #[] #[]] 59))=w5):=hw5;have HX:Hid (Ac.Lies w B e (d+1) U S/\Ac.Lies w B e' (d'+1) V T/\S.ks.length=n/\T.ks.length=m/\Below w.heap.size w w5/\U.k=.slice a n ca/\V.k=.slice b m cb):=⟨hS,hT,hn,hm,A5,hUk,hVk⟩;have HE0:Hid (Ac.row S U=#[y0,y1,y2,y3,y4,y5,y6,y7,.slice a n ca,y9,y10,y11]/\Ac.row T V=#[z0,z1,z2,z3,z4,z5,z6,z7,.slice b m cb,z9,z10,z11]/\S.Fit/\Ac.Alls Ac.Fit S.ks):=⟨hyr,hzr,hfit.1,hfit.2⟩;have HN:Hid (B<=w.heap.size/\S.size<=k+1/\k+1<=2147483647/\S.depth<=L+1/\L+1<=1000/\bw<w.heap.size/\w5.heap.size=w.heap.size+5):=⟨hBs,hsz,hleft,hdp,hL,hwl,hs5⟩;have HI:Hid _:=ih;have hk2:k<=2147483647:=by omega
  have hLb:L<=1000:=by omega
  clear ih hS hT hBs hW hsz hleft hdp hL hn hm hUk hVk hyr hzr hfit hw5 A5 r1 r2 r3 r4 r5 S5 hs5 hwl
  go_enter Tryz.func59,Tryz.ntmps59
  go_wp2_with fail
  rw[HW5.out];refine(Tryz.aenter_yes bw lv k L _ W5 hk2).mono ?_;rintro e0 W1 ⟨rfl,hw1⟩;have X1:Tk.But (λx=>x=bw) w5 W1:=by rw[hw1];exact(Tk.But.refl _ _).setCell (E:=λx=>x=bw) (p:=⟨bw,2,none⟩) rfl _
  have W1k:Hid (Ak.Wy bw lv k W1):=by show Ak.Wy _ _ _ _;rw[hw1];exact W5.put k
  obtain⟨sb,a0,a1,a2,a3,a4,a5,a6,a7,a8,a9,a10,a11,b0,b1,b2,b3,b4,b5,b6,b7,b8,b9,b10,b11⟩:=CF.out W1 X1;have k3:=sb.c3;have HX1:Hid _:=X1;have XW1:Tk.But (λx=>x=bw) w W1:=(Tk.But.of_below HX.out.2.2.2.2.1).trans X1;have hlb:∀i,i<B->¬i=bw:=λi hi=>by omega
  have h:=Tryz.aalike_any e e' B S T U V W1 (HX.out.1.own.keep λi hi=>XW1.block i (by have:=HN.out;omega) (hlb i hi)) (HX.out.2.1.own.keep λi hi=>XW1.block i (by have:=HN.out;omega) (hlb i hi)) (by have:=XW1.size;have:=HN.out;omega) (by have:=XW1.size;have:=HN.out;omega) HE0.out.2.2.1;rw[HE0.out.1,HE0.out.2.1]at h;have CA:Hid _:=h;clear h XW1 hlb;clear hw1 W5 X1 sb
  go_wp2_with fail
  refine Calls.mono CA.out ?_;rintro e0 W2 ⟨⟨r,rfl,hr⟩,hb2⟩;have HR:Hid (r=true↔Ac.Same1 S T):=hr;have X2:Hid (Tk.But (λx=>x=bw) w5 W2):=HX1.out.trans (Tk.But.of_below hb2);have W2k:Hid (Ak.Wy bw lv k W2):=W1k.out.keep (hb2.block bw W1k.out.lt);have XW:Hid (Tk.But (λx=>x=bw) w W2):=(Tk.But.of_below HX.out.2.2.2.2.1).trans X2.out;clear hb2 hr a0 b0 a1 b1 a2 b2 a3 b3 a4 b4 a5 b5 a6 b6 a7 b7 a8 b8 a9 b9 a10 b10 a11 b11 k3 HX1 W1k CA
  cases r
  ·go_wp2
   go_ret;refine⟨false,rfl,⟨λh=>by simp at h,λh=> ?_⟩,XW.out,k,W2k.out, ?_,by omega⟩
   ·have h2:=HR.out.2 ((Ac.eq_iff S T).1 h).1
    simp at h2
   have:=S.size_pos;omega
  have HQ:Hid (Ac.Same1 S T):=HR.out.1 (by first|rfl|trivial);clear HR
  have CKa:Hid (∀W,Below W2.heap.size W2 W->Calls Tryz.prog 60 #[.agg #[y0,y1,y2,y3,y4,y5,y6,y7,.slice a n ca,y9,y10,y11]] W λe w'=>e=.returned (.slice a n ca)/\Hid (Below W2.heap.size W2 w')):=λW hb=>
   (Tryz.akids_any y0 y1 y2 y3 y4 y5 y6 y7 y9 y10 y11 a n ca W).mono λ_ _ h=>⟨h.1,hb.trans (h.2.mono hb.size)⟩
  have CKb:Hid (∀W,Below W2.heap.size W2 W->Calls Tryz.prog 60 #[.agg #[z0,z1,z2,z3,z4,z5,z6,z7,.slice b m cb,z9,z10,z11]] W λe w'=>e=.returned (.slice b m cb)/\Hid (Below W2.heap.size W2 w')):=λW hb=>
   (Tryz.akids_any z0 z1 z2 z3 z4 z5 z6 z7 z9 z10 z11 b m cb W).mono λ_ _ h=>⟨h.1,hb.trans (h.2.mono hb.size)⟩
  obtain⟨CS,hCS⟩:∃CS:World->Prop,CS=λV=>(V.cell? ⟨w.heap.size,0,none⟩=some (.pointer (some ⟨bw,0,none⟩))/\V.cell? ⟨bw,0,none⟩=some (.func (.func 60) #[] #[]))/\V.cell? ⟨w.heap.size+1,0,none⟩=some (y0)/\V.cell? ⟨w.heap.size+1,1,none⟩=some (y1)/\V.cell? ⟨w.heap.size+1,2,none⟩=some (y2)/\V.cell? ⟨w.heap.size+1,3,none⟩=some (y3)/\V.cell? ⟨w.heap.size+1,4,none⟩=some (y4)/\V.cell? ⟨w.heap.size+1,5,none⟩=some (y5)/\V.cell? ⟨w.heap.size+1,6,none⟩=some (y6)/\V.cell? ⟨w.heap.size+1,7,none⟩=some (y7)/\V.cell? ⟨w.heap.size+1,8,none⟩=some (.slice a n ca)/\V.cell? ⟨w.heap.size+1,9,none⟩=some (y9)/\V.cell? ⟨w.heap.size+1,10,none⟩=some (y10)/\V.cell? ⟨w.heap.size+1,11,none⟩=some (y11)/\V.cell? ⟨w.heap.size+2,0,none⟩=some (z0)/\V.cell? ⟨w.heap.size+2,1,none⟩=some (z1)/\V.cell? ⟨w.heap.size+2,2,none⟩=some (z2)/\V.cell? ⟨w.heap.size+2,3,none⟩=some (z3)/\V.cell? ⟨w.heap.size+2,4,none⟩=some (z4)/\V.cell? ⟨w.heap.size+2,5,none⟩=some (z5)/\V.cell? ⟨w.heap.size+2,6,none⟩=some (z6)/\V.cell? ⟨w.heap.size+2,7,none⟩=some (z7)/\V.cell? ⟨w.heap.size+2,8,none⟩=some (.slice b m cb)/\V.cell? ⟨w.heap.size+2,9,none⟩=some (z9)/\V.cell? ⟨w.heap.size+2,10,none⟩=some (z10)/\V.cell? ⟨w.heap.size+2,11,none⟩=some (z11):=⟨_,rfl⟩
  have CE:Hid (∀W,Below W2.heap.size W2 W->Calls Tryz.prog 88 #[.slice a n ca,.slice b m cb,.func (.func 89) #[] #[.pointer (some ⟨w.heap.size,0,none⟩),.pointer (some ⟨w.heap.size+3,0,none⟩),.pointer (some ⟨w.heap.size+4,0,none⟩)]] W λe w'=>∃r,e=.returned (.bool r)/\Hid ((r=true↔S.ks=T.ks)/\Tk.But (λx=>x=bw) w w'/\(∃left',Ak.Wy bw lv left' w'/\k+1<=left'+S.size/\left'<=k+1)/\CS w')):=by
   intro W hb;have XWW:Tk.But (λx=>x=bw) W2 W:=Tk.But.of_below hb;have hz2:=X2.out.size;have XW0:=XW.out.trans XWW;have hlb:∀i,i<B->¬i=bw:=λi hi=>by omega
   have LS:Ac.Lies W B e (d+1) U S:=HX.out.1.keep λi hi=>XW0.block i (by have:=HN.out;omega) (hlb i hi);have LT:Ac.Lies W B e' (d'+1) V T:=HX.out.2.1.keep λi hi=>XW0.block i (by have:=HN.out;omega) (hlb i hi);have hSb:=(CF.out W (X2.out.trans (Tk.But.of_below hb))).1
   have h:=Tryz.aequalFunc_any (g:=89) (lb:=#[.pointer (some ⟨w.heap.size,0,none⟩),.pointer (some ⟨w.heap.size+3,0,none⟩),.pointer (some ⟨w.heap.size+4,0,none⟩)]) (enters_of Tryz.func89 (by kernel_rfl) rfl) S T U V a b ca cb B e e' d d' W (Ak.SInv S lv bw L k w.heap.size (w.heap.size+3) (w.heap.size+4) W2) LS (by rw[HX.out.2.2.1];exact HX.out.2.2.2.2.2.1) LT (by rw[HX.out.2.2.2.1];exact HX.out.2.2.2.2.2.2)
    ⟨XWW,hSb,k,W2k.out.keep (hb.block bw W2k.out.lt),by omega,Nat.le_refl _⟩
    (λj V' hV=>⟨λi hi=>by
     rw[hV.1.block i (by have:=HN.out;omega) (hlb i hi)]
     exact(XWW.block i (by have:=HN.out;omega) (hlb i hi)).symm,by have:=hV.1.size;have:=HN.out;omega⟩)
    (λj V' V'' hV hbb=>by
     obtain⟨h1,h2,l,h3,h4⟩:=hV;have hz:=h2.lt
     exact⟨h1.trans (Tk.But.of_below hbb),h2.keep (hbb.block _ hz.1) (hbb.block _ hz.2.1) (hbb.block _ hz.2.2),l,h3.keep (hbb.block _ h3.lt),h4⟩)
    (by have h1:=Ac.length_le_sizes S.ks;have h2:=S.size_eq;have:=HN.out;omega)
    (λj hx hy V' U1 V1 hV hu hv=>by
     obtain⟨h1,h2,l,h3,h4,h5⟩:=hV;have hsx:=Ac.sizes_get S.ks j hx;have hse:=S.size_eq;have hdx:=Ac.depths_get S.ks j hx;have hde:=S.depth_eq
     have hbase:∀i,i<B->V'.heap[i]? =W.heap[i]? :=λi hi=>by
      rw[h1.block i (by have:=HN.out;omega) (hlb i hi)];exact(XWW.block i (by have:=HN.out;omega) (hlb i hi)).symm
     have hq:=Tryz.asame1_any bw lv L w.heap.size (w.heap.size+3) (w.heap.size+4) S.ks[j] T.ks[j] U1 V1 l V' h2 (by omega)
      (λV'' hb'=>HI.out d' L S.ks[j] T.ks[j] U1 V1 l V'' ((hu.keep hbase).keep λi hi=>hb'.block i (by have:=h1.size;have:=HN.out;omega)) ((hv.keep hbase).keep λi hi=>hb'.block i (by have:=h1.size;have:=HN.out;omega)) (by have:=h1.size;have:=hb'.size;have:=HN.out;omega)
       (h3.keep (hb'.block bw h3.lt)) (by have:=HN.out;omega) (by have:=HN.out;omega) (by have:=HN.out;omega) hLb (Ac.alls_get HE0.out.2.2.2 j hx))
     refine hq.mono ?_;rintro e0 V'' ⟨r,rfl,hr,hbt,l',h6,h7,h8⟩;have hz:=h2.lt;have hne:bw<w.heap.size:=HN.out.2.2.2.2.2.1;refine⟨r,rfl,hr,h1.trans hbt,h2.keep (hbt.block _ hz.1 (by omega)) (hbt.block _ hz.2.1 (by omega)) (hbt.block _ hz.2.2 (by omega)),l',h6, ?_,by omega⟩;rw[Ac.sizes_take _ _ hx]
     omega)
   rw[HX.out.2.2.1,HX.out.2.2.2.1]at h;refine h.mono ?_;rintro e0 V' ⟨j,⟨r,rfl,hr⟩,h1,h2,l,h3,h4,h5⟩;have hcf:=CF.out V' (X2.out.trans h1);refine⟨r,rfl,hr,XW.out.trans h1,⟨l,h3, ?_,by omega⟩,by rw[hCS];exact⟨⟨hcf.1.c1,h3.c0⟩,hcf.2⟩⟩;have:=Ac.sizes_le S.ks j;have:=S.size_eq;omega
  have BR:Hid (Below W2.heap.size W2 W2):=Below.refl _ _;obtain⟨sb,a0,a1,a2,a3,a4,a5,a6,a7,a8,a9,a10,a11,b0,b1,b2,b3,b4,b5,b6,b7,b8,b9,b10,b11⟩:=CF.out W2 X2.out;have k1:=sb.c1;have kw:=W2k.out.c0
  have CFB:Hid (∀W,Below W2.heap.size W2 W->CS W):=λW hb=>by
   rw[hCS];have h:=CF.out W (X2.out.trans (Tk.But.of_below hb));exact⟨⟨h.1.c1,(W2k.out.keep (hb.block bw W2k.out.lt)).c0⟩,h.2⟩
  have HEQ:Hid (S.ks=T.ks↔S=T):=by
   have hq:=HQ.out;show _↔_;rw[Ac.eq_iff S T];exact⟨λh=>⟨hq,h⟩,λh=>h.2⟩
  clear sb HI CF HX HE0 HQ HN HW5 XW X2 W2k;subst hCS
  go_wp2_with fail
  go_region_held3 (λV=>(V.cell? ⟨w.heap.size,0,none⟩=some (.pointer (some ⟨bw,0,none⟩))/\V.cell? ⟨bw,0,none⟩=some (.func (.func 60) #[] #[]))/\V.cell? ⟨w.heap.size+1,0,none⟩=some (y0)/\V.cell? ⟨w.heap.size+1,1,none⟩=some (y1)/\V.cell? ⟨w.heap.size+1,2,none⟩=some (y2)/\V.cell? ⟨w.heap.size+1,3,none⟩=some (y3)/\V.cell? ⟨w.heap.size+1,4,none⟩=some (y4)/\V.cell? ⟨w.heap.size+1,5,none⟩=some (y5)/\V.cell? ⟨w.heap.size+1,6,none⟩=some (y6)/\V.cell? ⟨w.heap.size+1,7,none⟩=some (y7)/\V.cell? ⟨w.heap.size+1,8,none⟩=some (.slice a n ca)/\V.cell? ⟨w.heap.size+1,9,none⟩=some (y9)/\V.cell? ⟨w.heap.size+1,10,none⟩=some (y10)/\V.cell? ⟨w.heap.size+1,11,none⟩=some (y11)/\V.cell? ⟨w.heap.size+2,0,none⟩=some (z0)/\V.cell? ⟨w.heap.size+2,1,none⟩=some (z1)/\V.cell? ⟨w.heap.size+2,2,none⟩=some (z2)/\V.cell? ⟨w.heap.size+2,3,none⟩=some (z3)/\V.cell? ⟨w.heap.size+2,4,none⟩=some (z4)/\V.cell? ⟨w.heap.size+2,5,none⟩=some (z5)/\V.cell? ⟨w.heap.size+2,6,none⟩=some (z6)/\V.cell? ⟨w.heap.size+2,7,none⟩=some (z7)/\V.cell? ⟨w.heap.size+2,8,none⟩=some (.slice b m cb)/\V.cell? ⟨w.heap.size+2,9,none⟩=some (z9)/\V.cell? ⟨w.heap.size+2,10,none⟩=some (z10)/\V.cell? ⟨w.heap.size+2,11,none⟩=some (z11))
   (first|exact H4.out.2.2.2|exact CFB.out _ B4.out|exact CFB.out _ B3.out|exact CFB.out _ BR.out.drew|exact CFB.out _ BR.out)
   (first
   |(have hB3:=B3.out;go_simp;go_at_call 60;refine Calls.mono (CKb.out _ ?_) ?_;(first|exact B3.out|exact B3.out.drew|exact Tk.below_drewN B3.out _);rintro e0 W4 ⟨rfl,B4⟩)
   |(go_simp;go_at_call 60;refine Calls.mono (CKa.out _ ?_) ?_;(first|exact BR.out|exact BR.out.drew|exact Tk.below_drewN BR.out _);rintro e0 W3 ⟨rfl,B3⟩)
   |(go_simp;go_at_call 88;refine Calls.mono (CE.out _ ?_) ?_;(first|exact B4.out|exact B4.out.drew|exact Tk.below_drewN B4.out _);rintro e0 W6 ⟨r,rfl,H4⟩))
  all_goals
   clear CKa CKb CE CFB BR;go_simp;go_wp2;go_ret;refine⟨r,rfl,H4.out.1.trans HEQ.out, ?_,H4.out.2.2.1⟩
   first|exact H4.out.2.1|exact H4.out.2.1.drewN 1
end Go.Proofs
