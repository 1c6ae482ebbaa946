import Derived.Test.YtmomffminkflnaaGreatDoorRAllTRefChk
import Derived.Test.YtmomffminkflnaaGreatDoorRAcGo
set_option maxRecDepth 100000
set_option maxHeartbeats 32000000
namespace Go.Proofs
open Go.RowKit Go.Shelf
theorem Tk.alloc5(w:World)(o1 o2 o3 o4 o5:Obj):(((((w.alloc o1).alloc o2).alloc o3).alloc o4).alloc o5).heap[w.heap.size]? =some o1/\(((((w.alloc o1).alloc o2).alloc o3).alloc o4).alloc o5).heap[w.heap.size+1]? =some o2/\
  (((((w.alloc o1).alloc o2).alloc o3).alloc o4).alloc o5).heap[w.heap.size+2]? =some o3/\(((((w.alloc o1).alloc o2).alloc o3).alloc o4).alloc o5).heap[w.heap.size+3]? =some o4/\(((((w.alloc o1).alloc o2).alloc o3).alloc o4).alloc o5).heap[w.heap.size+4]? =some o5:=by
 simp only [World.alloc];refine⟨?_, ?_, ?_, ?_, ?_⟩
 ·rw [Array.getElem?_push,if_neg(by simp only [Array.size_push];omega),Array.getElem?_push,if_neg(by simp only [Array.size_push];omega),Array.getElem?_push,if_neg(by simp only [Array.size_push];omega),Array.getElem?_push,if_neg(by simp only [Array.size_push];omega),Array.getElem?_push,if_pos rfl]
 ·rw [Array.getElem?_push,if_neg(by simp only [Array.size_push];omega),Array.getElem?_push,if_neg(by simp only [Array.size_push];omega),Array.getElem?_push,if_neg(by simp only [Array.size_push];omega),Array.getElem?_push,if_pos(by simp only [Array.size_push])]
 ·rw [Array.getElem?_push,if_neg(by simp only [Array.size_push];omega),Array.getElem?_push,if_neg(by simp only [Array.size_push];omega),Array.getElem?_push,if_pos(by simp only [Array.size_push])]
 ·rw [Array.getElem?_push,if_neg(by simp only [Array.size_push];omega),Array.getElem?_push,if_pos(by simp only [Array.size_push])]
 rw [Array.getElem?_push,if_pos(by simp only [Array.size_push])]
def Tk.SInv(S:Tm)(lv bw L k b1 b2 b3:Nat)(w:World)(j:Nat)(W:World):Prop:=
 Tk.But(λx=>x=bw)w W/\Tk.Sb bw(L+1)b1 b2 b3 W/\ ∃left,Tk.Wy bw lv left W/\k<=left+Tm.sizes(S.ks.take j)/\left<=k
theorem Tryz.same_any(lv bw B:Nat)(_hB:0<B)(hbw:B<=bw): ∀(d d' L:Nat)(S T:Tm)(u v:Value)(left:Nat)(w:World),Tm.Lies w B d u S->Tm.Lies w B d' v T->B<=w.heap.size->Tk.Wy bw lv left w->S.size<=left->left<=2147483647->S.depth<=L->L<=1000->
  Calls Tryz.prog 125 #[.pointer(some⟨bw,0,none⟩), .agg #[.int .i64 S.op, .int .i64 S.num,u], .agg #[.int .i64 T.op, .int .i64 T.num,v], .int .i64 L, .func(.func 104) #[] #[]]w(Tk.SameEnd S T lv left bw w):=by
 intro d
 induction d with
 |zero=>intro d' L S T u v left w h;exact h.elim
 |succ d ih=>
  intro d' L S T u v left w hS hT hBs hW hsz hleft hdp hL
  cases d' with
  |zero=>exact hT.elim
  |succ d'=>
  obtain⟨a,ca,rfl⟩:=hS.shape;obtain⟨b,cb,rfl⟩:=hT.shape;obtain⟨L,rfl⟩: ∃l,L=l+1:=⟨L-1,by have:=S.depth_eq;omega⟩;obtain⟨k,rfl⟩: ∃k,left=k+1:=⟨left-1,by have:=S.size_pos;omega⟩;obtain⟨x0,hx0⟩: ∃z,S.op=z:=⟨_,rfl⟩;obtain⟨x1,hx1⟩: ∃z,S.num=z:=⟨_,rfl⟩;obtain⟨y0,hy0⟩: ∃z,T.op=z:=⟨_,rfl⟩;obtain⟨y1,hy1⟩: ∃z,T.num=z:=⟨_,rfl⟩;obtain⟨n,hn⟩: ∃n,S.ks.length=n:=⟨_,rfl⟩;obtain⟨m,hm⟩: ∃n,T.ks.length=n:=⟨_,rfl⟩;rw [hx0,hx1,hy0,hy1,hn,hm];obtain⟨w5,hw5⟩: ∃x,((((w.alloc(.cells #[.pointer(some⟨bw,0,none⟩)]187)).alloc(.cells #[.int .i64 x0, .int .i64 x1, .slice a n ca]24)).alloc(.cells #[.int .i64 y0, .int .i64 y1, .slice b m cb]24)).alloc(.cells #[.int .i64((L:Int)+1)]3)).alloc(.cells #[.func(.func 104) #[] #[]]126)=x:=⟨_,rfl⟩
  have A5:Below w.heap.size w w5:=by
   rw [<-hw5];exact(((((Below.refl _ w).alloc(Nat.le_refl _)_).alloc(by simp)_).alloc(by simp;omega)_).alloc(by simp;omega)_).alloc(by simp;omega)_
  have hs5:w5.heap.size=w.heap.size+5:=by rw [<-hw5];simp
  have hwl:=hW.lt;have W5:Tk.Wy bw lv(k+1)w5:=hW.keep(A5.block bw hwl);obtain⟨r1,r2,r3,r4,r5⟩:=Tk.alloc5 w(.cells #[.pointer(some⟨bw,0,none⟩)]187)(.cells #[.int .i64 x0, .int .i64 x1, .slice a n ca]24)(.cells #[.int .i64 y0, .int .i64 y1, .slice b m cb]24)(.cells #[.int .i64((L:Int)+1)]3)(.cells #[.func(.func 104) #[] #[]]126);rw [hw5]at r1 r2 r3 r4 r5;have S5:Tk.Sb bw(L+1)w.heap.size(w.heap.size+3)(w.heap.size+4)w5:=⟨r1,by rw [r4];simp,r5⟩
  have CF:Hid(∀W,Tk.But(λx=>x=bw)w5 W->Tk.Sb bw(L+1)w.heap.size(w.heap.size+3)(w.heap.size+4)W/\W.cell? ⟨w.heap.size+1,0,none⟩=some(.int .i64 x0)/\W.cell? ⟨w.heap.size+1,1,none⟩=some(.int .i64 x1)/\W.cell? ⟨w.heap.size+1,2,none⟩=some(.slice a n ca)/\
    W.cell? ⟨w.heap.size+2,0,none⟩=some(.int .i64 y0)/\W.cell? ⟨w.heap.size+2,1,none⟩=some(.int .i64 y1)/\W.cell? ⟨w.heap.size+2,2,none⟩=some(.slice b m cb)):=by
   intro W hb;have e1:=(hb.block(w.heap.size+1)(by omega)(by omega)).trans r2;have e2:=(hb.block(w.heap.size+2)(by omega)(by omega)).trans r3;exact⟨S5.keep(hb.block _(by omega)(by omega))(hb.block _(by omega)(by omega))(hb.block _(by omega)(by omega)),by simp [World.cell?,e1],by simp [World.cell?,e1],by simp [World.cell?,e1],by simp [World.cell?,e2],by simp [World.cell?,e2],by simp [World.cell?,e2]⟩
  have HW5:Hid(((((w.alloc(.cells #[.pointer(some⟨bw,0,none⟩)]187)).alloc(.cells #[.int .i64 x0, .int .i64 x1, .slice a n ca]24)).alloc(.cells #[.int .i64 y0, .int .i64 y1, .slice b m cb]24)).alloc(.cells #[.int .i64((L:Int)+1)]3)).alloc(.cells #[.func(.func 104) #[] #[]]126)=w5):=hw5;have HX:Hid(Tm.Lies w B(d+1)(.slice a n ca)S/\Tm.Lies w B(d'+1)(.slice b m cb)T/\S.ks.length=n/\T.ks.length=m/\S.op=x0/\S.num=x1/\T.op=y0/\T.num=y1/\Below w.heap.size w w5):=⟨by rw [<-hn];exact hS,by rw [<-hm];exact hT,hn,hm,hx0,hx1,hy0,hy1,A5⟩;have HN:Hid(B<=w.heap.size/\S.size<=k+1/\k+1<=2147483647/\S.depth<=L+1/\L+1<=1000/\bw<w.heap.size/\w5.heap.size=w.heap.size+5):=⟨hBs,hsz,hleft,hdp,hL,hwl,hs5⟩;have HI:Hid _:=ih;have hk2:k<=2147483647:=by omega
  have hLb:L<=1000:=by omega
  clear ih hS hT hBs hW hsz hleft hdp hL hx0 hx1 hy0 hy1 hn hm hw5 A5 r1 r2 r3 r4 r5 S5 hs5 hwl
  go_enter Tryz.func125,Tryz.ntmps125
  go_wp2_with fail
  rw [HW5.out];refine(Tryz.wenter_yes bw lv k L _ W5 hk2).mono ?_;rintro e W1⟨rfl,hw1⟩;have X1:Tk.But(λx=>x=bw)w5 W1:=by rw [hw1];exact(Tk.But.refl _ _).setCell(E:=λx=>x=bw)(p:=⟨bw,2,none⟩)rfl _
  have W1k:Hid(Tk.Wy bw lv k W1):=by show Tk.Wy _ _ _ _;rw [hw1];exact W5.put k
  obtain⟨sb,a0,a1,a2,b0,b1,b2⟩:=CF.out W1 X1;have k3:=sb.c3;have HX1:Hid _:=X1;clear hw1 W5 X1 sb
  go_wp2_with fail
  refine(Tryz.alike_any x0 x1 y0 y1 a b n ca m cb W1).mono ?_;rintro e W2⟨rfl,hb2⟩;have X2:Hid(Tk.But(λx=>x=bw)w5 W2):=HX1.out.trans(Tk.But.of_below hb2);have W2k:Hid(Tk.Wy bw lv k W2):=W1k.out.keep(hb2.block bw W1k.out.lt);have XW:Hid(Tk.But(λx=>x=bw)w W2):=(Tk.But.of_below HX.out.2.2.2.2.2.2.2.2).trans X2.out;clear hb2 a0 a1 a2 b0 b1 b2 k3 HX1 W1k
  cases hq:(x0==y0&&x1==y1)
  ·have HQ:Hid((x0==y0&&x1==y1)=false):=hq
   clear hq;go_wp2;go_ret;refine⟨false,rfl,⟨λh=>by simp at h,λh=> ?_⟩,XW.out,k,W2k.out, ?_,by omega⟩
   ·subst h
    have:=HQ.out;have e:=HX.out.2.2.2.2;rw [<-e.1,<-e.2.1,e.2.2.1,e.2.2.2.1]at this;simp at this
   have:=S.size_pos;omega
  have HQ:Hid((x0==y0&&x1==y1)=true):=hq;clear hq
  have CK:Hid(∀W o n a l c,Below W2.heap.size W2 W->Calls Tryz.prog 126 #[.agg #[.int .i64 o, .int .i64 n, .slice a l c]]W λe w'=>e= .returned(.slice a l c)/\Hid(Below W2.heap.size W2 w')):=λW o n a l c hb=>
   (Tryz.kidsOf_any o n a l c W).mono λ_ _ h=>⟨h.1,hb.trans(h.2.mono hb.size)⟩
  obtain⟨CS,hCS⟩: ∃CS:World->Prop,CS=λV=>(V.cell? ⟨w.heap.size,0,none⟩=some(.pointer(some⟨bw,0,none⟩))/\V.cell? ⟨bw,0,none⟩=some(.func(.func 126) #[] #[]))/\V.cell? ⟨w.heap.size+1,0,none⟩=some(.int .i64 x0)/\V.cell? ⟨w.heap.size+1,1,none⟩=some(.int .i64 x1)/\V.cell? ⟨w.heap.size+1,2,none⟩=some(.slice a n ca)/\V.cell? ⟨w.heap.size+2,0,none⟩=some(.int .i64 y0)/\V.cell? ⟨w.heap.size+2,1,none⟩=some(.int .i64 y1)/\V.cell? ⟨w.heap.size+2,2,none⟩=some(.slice b m cb):=⟨_,rfl⟩
  have CE:Hid(∀W,Below W2.heap.size W2 W->Calls Tryz.prog 81 #[.slice a n ca, .slice b m cb, .func(.func 148) #[] #[.pointer(some⟨w.heap.size,0,none⟩), .pointer(some⟨w.heap.size+3,0,none⟩), .pointer(some⟨w.heap.size+4,0,none⟩)]]W λe w'=> ∃r,e= .returned(.bool r)/\Hid((r=true↔S.ks=T.ks)/\Tk.But(λx=>x=bw)w w'/\(∃left',Tk.Wy bw lv left' w'/\k+1<=left'+S.size/\left'<=k+1)/\CS w')):=by
   intro W hb;have XWW:Tk.But(λx=>x=bw)W2 W:=Tk.But.of_below hb;have hz2:=X2.out.size;have XW0:=XW.out.trans XWW;have hlb: ∀i,i<B-> ¬i=bw:=λi hi=>by omega
   have LS:Tm.Lies W B(d+1)(.slice a S.ks.length ca)S:=by rw [HX.out.2.2.1];exact HX.out.1.keep λi hi=>XW0.block i(by have:=HN.out;omega)(hlb i hi)
   have LT:Tm.Lies W B(d'+1)(.slice b T.ks.length cb)T:=by rw [HX.out.2.2.2.1];exact HX.out.2.1.keep λi hi=>XW0.block i(by have:=HN.out;omega)(hlb i hi)
   have hSb:=(CF.out W(X2.out.trans(Tk.But.of_below hb))).1
   have h:=Tryz.equalFunc_any(g:=148)(lb:= #[.pointer(some⟨w.heap.size,0,none⟩), .pointer(some⟨w.heap.size+3,0,none⟩), .pointer(some⟨w.heap.size+4,0,none⟩)])(enters_of Tryz.func148(by kernel_rfl)rfl)S T a b ca cb B d d' W(Tk.SInv S lv bw L k w.heap.size(w.heap.size+3)(w.heap.size+4)W2)LS LT
    ⟨XWW,hSb,k,W2k.out.keep(hb.block bw W2k.out.lt),by omega,Nat.le_refl _⟩
    (λj V hV i hi=>by
     rw [hV.1.block i(by have:=HN.out;omega)(hlb i hi)]
     exact(XWW.block i(by have:=HN.out;omega)(hlb i hi)).symm)
    (λj V o hV=>by
     obtain⟨h1,h2,l,h3,h4⟩:=hV;have hz:=h2.lt
     exact⟨h1.alloc o,h2.keep(Below.heap_alloc _ _ _ hz.1)(Below.heap_alloc _ _ _ hz.2.1)(Below.heap_alloc _ _ _ hz.2.2),l,h3.keep(Below.heap_alloc _ _ _ h3.lt),h4⟩)
    (λj V hV=>by
     obtain⟨h1,h2,l,h3,h4⟩:=hV
     exact⟨h1.drewN 1,h2.keep rfl rfl rfl,l,h3.keep rfl,h4⟩)
    (by have h1:=Tm.length_le_sizes S.ks;have h2:=S.size_eq;have:=HN.out;omega)
    (λj hx hy V u v hV hu hv=>by
     obtain⟨h1,h2,l,h3,h4,h5⟩:=hV;have hsx:=Tm.sizes_get S.ks j hx;have hse:=S.size_eq;have hdx:=Tm.depths_get S.ks j hx;have hde:=S.depth_eq
     have hbase: ∀i,i<B->V.heap[i]? =W.heap[i]? :=λi hi=>by
      rw [h1.block i(by have:=HN.out;omega)(hlb i hi)];exact(XWW.block i(by have:=HN.out;omega)(hlb i hi)).symm
     have hq:=Tryz.same1_any bw lv L w.heap.size(w.heap.size+3)(w.heap.size+4)S.ks[j]T.ks[j]u v l V h2(by omega)
      (λV' hb'=>HI.out d' L S.ks[j]T.ks[j]u v l V'((hu.keep hbase).keep λi hi=>hb'.block i(by have:=h1.size;have:=HN.out;omega))((hv.keep hbase).keep λi hi=>hb'.block i(by have:=h1.size;have:=HN.out;omega))(by have:=h1.size;have:=hb'.size;have:=HN.out;omega)
       (h3.keep(hb'.block bw h3.lt))(by have:=HN.out;omega)(by have:=HN.out;omega)(by have:=HN.out;omega)hLb)h3.lt
      (by obtain⟨p,q,e⟩:=hu.shape;exact⟨p,_,q,e⟩)(by obtain⟨p,q,e⟩:=hv.shape;exact⟨p,_,q,e⟩)
     refine hq.mono ?_;rintro e V'⟨r,rfl,hr,hbt,l',h6,h7,h8⟩;have hz:=h2.lt;have hne:bw<w.heap.size:=HN.out.2.2.2.2.2.1;refine⟨r,rfl,hr,h1.trans hbt,h2.keep(hbt.block _ hz.1(by omega))(hbt.block _ hz.2.1(by omega))(hbt.block _ hz.2.2(by omega)),l',h6, ?_,by omega⟩;rw [Tm.sizes_take _ _ hx]
     omega)
   rw [HX.out.2.2.1,HX.out.2.2.2.1]at h;refine h.mono ?_;rintro e V⟨r,rfl,hr,j,h1,h2,l,h3,h4,h5⟩;have hcf:=CF.out V(X2.out.trans h1);refine⟨r,rfl,hr,XW.out.trans h1,⟨l,h3, ?_,by omega⟩,by rw [hCS];exact⟨⟨hcf.1.c1,h3.c0⟩,hcf.2⟩⟩;have:=Tm.sizes_le S.ks j;have:=S.size_eq;omega
  have BR:Hid(Below W2.heap.size W2 W2):=Below.refl _ _;obtain⟨sb,a0,a1,a2,b0,b1,b2⟩:=CF.out W2 X2.out;have k1:=sb.c1;have kw:=W2k.out.c0
  have CFB:Hid(∀W,Below W2.heap.size W2 W->CS W):=λW hb=>by
   rw [hCS];have h:=CF.out W(X2.out.trans(Tk.But.of_below hb));exact⟨⟨h.1.c1,(W2k.out.keep(hb.block bw W2k.out.lt)).c0⟩,h.2⟩
  have HEQ:Hid(S.ks=T.ks↔S=T):=by
   have e:=HX.out.2.2.2.2;have hq:=HQ.out;simp only [Bool.and_eq_true,beq_iff_eq]at hq;show _↔_;rw [Tm.eq_iff S T,e.1,e.2.1,e.2.2.1,e.2.2.2.1];exact⟨λh=>⟨hq.1,hq.2,h⟩,λh=>h.2.2⟩
  clear sb HI CF HX HQ HN HW5 XW X2 W2k;subst hCS
  go_wp2_with fail
  go_region_held3(λV=>(V.cell? ⟨w.heap.size,0,none⟩=some(.pointer(some⟨bw,0,none⟩))/\V.cell? ⟨bw,0,none⟩=some(.func(.func 126) #[] #[]))/\V.cell? ⟨w.heap.size+1,0,none⟩=some(.int .i64 x0)/\V.cell? ⟨w.heap.size+1,1,none⟩=some(.int .i64 x1)/\V.cell? ⟨w.heap.size+1,2,none⟩=some(.slice a n ca)/\V.cell? ⟨w.heap.size+2,0,none⟩=some(.int .i64 y0)/\V.cell? ⟨w.heap.size+2,1,none⟩=some(.int .i64 y1)/\V.cell? ⟨w.heap.size+2,2,none⟩=some(.slice b m cb))
   (first|exact H4.out.2.2.2|exact CFB.out _ B3.out|exact CFB.out _ BR.out.drew|exact CFB.out _ BR.out)
   (first
   |(go_simp;go_at_call 126;refine Calls.mono(CK.out _ _ _ _ _ _ ?_) ?_;(first|exact B3.out|exact B3.out.drew|exact Tk.below_drewN B3.out _|exact BR.out|exact BR.out.drew|exact Tk.below_drewN BR.out _);rintro e W3⟨rfl,B3⟩)
   |(go_simp;go_at_call 81;refine Calls.mono(CE.out _ ?_) ?_;(first|exact B3.out|exact B3.out.drew|exact Tk.below_drewN B3.out _);rintro e W4⟨r,rfl,H4⟩))
  all_goals
   clear CK CE CFB BR;go_simp;go_wp2;go_ret;refine⟨r,rfl,H4.out.1.trans HEQ.out, ?_,H4.out.2.2.1⟩
   first|exact H4.out.2.1|exact H4.out.2.1.drewN 1
theorem Tryz.nestSame_any(d d' B:Nat)(S T:Tm)(u v:Value)(w:World)(hS:Tm.Lies w B d u S)(hT:Tm.Lies w B d' v T)(hB:0<B)(hBs:B<=w.heap.size)(hsz:S.size<=2147483647)(hdp:S.depth<=1000):
  Calls Tryz.prog 102 #[.agg #[.func(.func 126) #[] #[], .int .i64 1000, .int .i64 2147483647], .agg #[.int .i64 S.op, .int .i64 S.num,u], .agg #[.int .i64 T.op, .int .i64 T.num,v], .func(.func 104) #[] #[]]w λe w'=>
   (∃r,e= .returned(.bool r)/\(r=true↔S=T))/\Below w.heap.size w w':=by
 obtain⟨a,ca,rfl⟩:=hS.shape;obtain⟨b,cb,rfl⟩:=hT.shape;obtain⟨x0,hx0⟩: ∃z,S.op=z:=⟨_,rfl⟩;obtain⟨x1,hx1⟩: ∃z,S.num=z:=⟨_,rfl⟩;obtain⟨y0,hy0⟩: ∃z,T.op=z:=⟨_,rfl⟩;obtain⟨y1,hy1⟩: ∃z,T.num=z:=⟨_,rfl⟩;obtain⟨n,hn⟩: ∃n,S.ks.length=n:=⟨_,rfl⟩;obtain⟨m,hm⟩: ∃n,T.ks.length=n:=⟨_,rfl⟩;rw [hx0,hx1,hy0,hy1,hn,hm];rw [hn]at hS;rw [hm]at hT;obtain⟨w1,hw1⟩: ∃x,((w.alloc(.cells #[.func(.func 126) #[] #[], .int .i64 1000, .int .i64 2147483647]162)).alloc(.cells #[.int .i64 x0, .int .i64 x1, .slice a n ca]24)).alloc(.cells #[.int .i64 y0, .int .i64 y1, .slice b m cb]24)=x:=⟨_,rfl⟩;have A1:Below w.heap.size w w1:=by rw [<-hw1];exact(((Below.refl _ w).alloc(Nat.le_refl _)_).alloc(by simp)_).alloc(by simp;omega)_
 have hWy:Tk.Wy w.heap.size 1000 2147483647 w1:=by
  rw [<-hw1];exact Tk.Wy.keep(Tk.Wy.keep(heap_alloc_new w _)(Below.heap_alloc _ _ _(by simp)))(Below.heap_alloc _ _ _(by simp;omega))
 have hcall:=Tryz.same_any 1000 w.heap.size B hB hBs d d' 1000 S T(.slice a n ca)(.slice b m cb)2147483647 w1(hS.below(A1.mono hBs))(hT.below(A1.mono hBs))(Nat.le_trans hBs A1.size)hWy hsz(Nat.le_refl _)hdp(Nat.le_refl _);rw [hx0,hx1,hy0,hy1]at hcall;have HC:Hid _:=hcall;have HA:Hid(Below w.heap.size w w1):=A1;have H1:Hid(((w.alloc(.cells #[.func(.func 126) #[] #[], .int .i64 1000, .int .i64 2147483647]162)).alloc(.cells #[.int .i64 x0, .int .i64 x1, .slice a n ca]24)).alloc(.cells #[.int .i64 y0, .int .i64 y1, .slice b m cb]24)=w1):=hw1;clear hcall A1 hS hT hx0 hx1 hy0 hy1 hn hm hw1 hWy
 go_enter Tryz.func102,Tryz.ntmps102
 go_wp2_with fail
 rw [H1.out];refine Calls.mono HC.out ?_;rintro e W1⟨r,rfl,hr,hb,-⟩;have X:Hid((r=true↔S=T)/\Below w.heap.size w W1):=⟨hr,HA.out.trans(hb.below HA.out.size(λk hk=>by omega))⟩;clear hb hr;go_wp2;go_ret;exact⟨⟨r,rfl,X.out.1⟩,X.out.2⟩
theorem Tryz.termSame_any(d d':Nat)(S T:Tm)(u v:Value)(w:World)(hS:Tm.Lies w w.heap.size d u S)(hT:Tm.Lies w w.heap.size d' v T)(h0:0<w.heap.size)(hsz:S.size<=2147483647)(hdp:S.depth<=1000):
  Calls Tryz.prog 77 #[.agg #[.int .i64 S.op, .int .i64 S.num,u], .agg #[.int .i64 T.op, .int .i64 T.num,v]]w λe w'=>
   (∃r,e= .returned(.bool r)/\(r=true↔S=T))/\Below w.heap.size w w':=by
 obtain⟨a,ca,rfl⟩:=hS.shape;obtain⟨b,cb,rfl⟩:=hT.shape;obtain⟨x0,hx0⟩: ∃z,S.op=z:=⟨_,rfl⟩;obtain⟨x1,hx1⟩: ∃z,S.num=z:=⟨_,rfl⟩;obtain⟨y0,hy0⟩: ∃z,T.op=z:=⟨_,rfl⟩;obtain⟨y1,hy1⟩: ∃z,T.num=z:=⟨_,rfl⟩;obtain⟨n,hn⟩: ∃n,S.ks.length=n:=⟨_,rfl⟩;obtain⟨m,hm⟩: ∃n,T.ks.length=n:=⟨_,rfl⟩;rw [hx0,hx1,hy0,hy1,hn,hm];rw [hn]at hS;rw [hm]at hT;obtain⟨w1,hw1⟩: ∃x,(w.alloc(.cells #[.int .i64 x0, .int .i64 x1, .slice a n ca]24)).alloc(.cells #[.int .i64 y0, .int .i64 y1, .slice b m cb]24)=x:=⟨_,rfl⟩;have hs1:w1.heap.size=w.heap.size+2:=by rw [<-hw1];simp
 have A1:Below w.heap.size w w1:=by rw [<-hw1];exact((Below.refl _ w).alloc(Nat.le_refl _)_).alloc(by simp)_
 have C0:w1.heap[w.heap.size]? =some(.cells #[.int .i64 x0, .int .i64 x1, .slice a n ca]24(0,0)):=by rw [<-hw1,Below.heap_alloc _ _ _(by simp)];exact heap_alloc_new w _
 have C1:w1.heap[w.heap.size+1]? =some(.cells #[.int .i64 y0, .int .i64 y1, .slice b m cb]24(0,0)):=by
  rw [<-hw1];have:=heap_alloc_new(w.alloc(.cells #[.int .i64 x0, .int .i64 x1, .slice a n ca]24))(.cells #[.int .i64 y0, .int .i64 y1, .slice b m cb]24);simpa using this
 have CF:Hid(∀W,Below w1.heap.size w1 W->W.cell? ⟨w.heap.size,0,none⟩=some(.int .i64 x0)/\W.cell? ⟨w.heap.size,1,none⟩=some(.int .i64 x1)/\W.cell? ⟨w.heap.size,2,none⟩=some(.slice a n ca)/\W.cell? ⟨w.heap.size+1,0,none⟩=some(.int .i64 y0)/\W.cell? ⟨w.heap.size+1,1,none⟩=some(.int .i64 y1)/\W.cell? ⟨w.heap.size+1,2,none⟩=some(.slice b m cb)):=λW hb=>by
  have e1:=(hb.block w.heap.size(by omega)).trans C0;have e2:=(hb.block(w.heap.size+1)(by omega)).trans C1;exact⟨by simp [World.cell?,e1],by simp [World.cell?,e1],by simp [World.cell?,e1],by simp [World.cell?,e2],by simp [World.cell?,e2],by simp [World.cell?,e2]⟩
 have CW:Hid(∀W,Below w1.heap.size w1 W->Calls Tryz.prog 103 #[.int .i64 1000]W λe w'=>e= .returned(.agg #[.func(.func 126) #[] #[], .int .i64 1000, .int .i64 2147483647])/\Hid(Below w1.heap.size w1 w')):=λW hb=>
  (Tryz.way_any 1000 W).mono λ_ w' h=>⟨h.1,hb.trans(h.2.mono hb.size)⟩
 have CT:Hid(∀W,Below w1.heap.size w1 W->Calls Tryz.prog 102 #[.agg #[.func(.func 126) #[] #[], .int .i64 1000, .int .i64 2147483647], .agg #[.int .i64 x0, .int .i64 x1, .slice a n ca], .agg #[.int .i64 y0, .int .i64 y1, .slice b m cb], .func(.func 104) #[] #[]]W λe w'=>
   ∃r,e= .returned(.bool r)/\Hid((r=true↔S=T)/\Below w1.heap.size w1 w')):=λW hb=>by
  have h:=Tryz.nestSame_any d d' w.heap.size S T(.slice a n ca)(.slice b m cb)W((hS.below A1).below(hb.mono(by omega)))((hT.below A1).below(hb.mono(by omega)))h0(by have:=hb.size;omega)hsz hdp;rw [hx0,hx1,hy0,hy1]at h
  exact h.mono λ_ w' h=>by
   obtain⟨⟨r,he,hr⟩,hb'⟩:=h;exact⟨r,he,hr,hb.trans(hb'.mono hb.size)⟩
 have H1:Hid((w.alloc(.cells #[.int .i64 x0, .int .i64 x1, .slice a n ca]24)).alloc(.cells #[.int .i64 y0, .int .i64 y1, .slice b m cb]24)=w1):=hw1;have HA:Hid(Below w.heap.size w w1/\w.heap.size<=w1.heap.size):=⟨A1,by omega⟩;have BR:Hid(Below w1.heap.size w1 w1):=Below.refl _ _;clear A1 hS hT hx0 hx1 hy0 hy1 hn hm hw1 C0 C1 hs1
 go_enter Tryz.func77,Tryz.ntmps77
 go_upto_region 1 with fail
 rw [H1.out]
 go_region_held3(λW=>W.cell? ⟨w.heap.size,0,none⟩=some(.int .i64 x0)/\W.cell? ⟨w.heap.size,1,none⟩=some(.int .i64 x1)/\W.cell? ⟨w.heap.size,2,none⟩=some(.slice a n ca)/\W.cell? ⟨w.heap.size+1,0,none⟩=some(.int .i64 y0)/\W.cell? ⟨w.heap.size+1,1,none⟩=some(.int .i64 y1)/\W.cell? ⟨w.heap.size+1,2,none⟩=some(.slice b m cb))
  (first|exact CF.out _ H4.out.2|exact CF.out _ B3.out|exact CF.out _ BR.out.drew|exact CF.out _ BR.out)
  (first
  |(go_simp;go_at_call 103;refine Calls.mono(CW.out _ ?_) ?_;(first|exact BR.out|exact BR.out.drew|exact Tk.below_drewN BR.out _);rintro e W3⟨rfl,B3⟩)
  |(go_simp;go_at_call 102;refine Calls.mono(CT.out _ ?_) ?_;(first|exact B3.out|exact B3.out.drew|exact Tk.below_drewN B3.out _);rintro e W4⟨r,rfl,H4⟩))
 all_goals
  clear CW CT BR;go_simp;go_wp2;go_ret;exact⟨⟨r,rfl,H4.out.1⟩,HA.out.1.trans(H4.out.2.mono HA.out.2)⟩
theorem Tryz.aisOf_any(k:Int)(d:Nat)(T:Tm)(v:Value)(w:World)(hT:Tm.Lies w w.heap.size d v T)(hO:Tk.Ops w)(hsz:T.size<=2147483647):
  Calls Tryz.prog 61 #[.int .i64 k, .agg #[.int .i64 T.op, .int .i64 T.num,v]]w λe w'=>e= .returned(.bool(Nt.ofB T k))/\Below w.heap.size w w':=by
 obtain⟨a,cap,rfl⟩:=hT.shape;have A0:Below w.heap.size w(w.alloc(.cells #[.int .i64 T.op, .int .i64 T.num, .slice a T.ks.length cap]24)):=(Below.refl _ w).alloc(Nat.le_refl _)_;have hc:=Tryz.check_any d T(.slice a T.ks.length cap)_((hT.below A0).wider A0.size)(hO.below A0 hO.lt)hsz;obtain⟨o,ho⟩: ∃o,T.op=o:=⟨_,rfl⟩;obtain⟨m,hm⟩: ∃m,T.num=m:=⟨_,rfl⟩;obtain⟨n,hn⟩: ∃n,T.ks.length=n:=⟨_,rfl⟩;obtain⟨b,hb⟩: ∃b,Nt.ofB T k=b:=⟨_,rfl⟩;obtain⟨q,hq⟩: ∃q,T.checkR=q:=⟨_,rfl⟩;rw [ho,hm,hn,hq]at hc;rw [ho,hm,hn]at A0;rw [hb,ho,hm,hn];obtain⟨q0,q1⟩:=q;have HC:Hid _:=hc;have HA:Hid _:=A0;have HB:Hid((decide(q1=0)&&decide(q0=k))=b):=by show _=_;rw [<-hb,Nt.ofB,hq]
 clear hc A0 hT hO hsz ho hm hn hb hq
 by_cases h0:q1=0<;>by_cases h1:q0=k
 all_goals
  have e0:(q1==0)=decide(q1=0):=rfl;have e1:(q0==k)=decide(q0=k):=rfl;simp only [h0,h1,decide_true,decide_false]at e0 e1 HB
  try subst h0
  try subst h1
  go_enter Tryz.func61,Tryz.ntmps61
  go_wp2_with fail
  refine Calls.mono HC.out ?_;rintro e W1⟨rfl,hb1⟩;have B1:Hid(Below w.heap.size w W1):=HA.out.trans(hb1.mono HA.out.size);clear hb1 HC;go_wp2;go_ret;exact⟨Tk.ret_bool(by rw [<-HB.out];first|rfl|simp),B1.out⟩
theorem Tryz.r16of_any(k:Int)(d:Nat)(T:Tm)(v:Value)(w:World)(hT:Tm.Lies w w.heap.size d v T)(hsz:T.size<=2147483647):
  Calls Tryz.prog 68 #[.agg #[.int .i64 T.op, .int .i64 T.num,v], .int .i64 k]w λe w'=>e= .returned(.bool(Nt.ofB T k))/\Below w.heap.size w w':=by
 obtain⟨a,cap,rfl⟩:=hT.shape;have A0:Below w.heap.size w(w.alloc(.cells #[.int .i64 T.op, .int .i64 T.num, .slice a T.ks.length cap]24)):=(Below.refl _ w).alloc(Nat.le_refl _)_;have hc:=Tryz.refCheck_any d T(.slice a T.ks.length cap)_((hT.below A0).wider A0.size)hsz;obtain⟨o,ho⟩: ∃o,T.op=o:=⟨_,rfl⟩;obtain⟨m,hm⟩: ∃m,T.num=m:=⟨_,rfl⟩;obtain⟨n,hn⟩: ∃n,T.ks.length=n:=⟨_,rfl⟩;obtain⟨b,hb⟩: ∃b,Nt.ofB T k=b:=⟨_,rfl⟩;obtain⟨q,hq⟩: ∃q,T.checkR=q:=⟨_,rfl⟩;rw [ho,hm,hn,hq]at hc;rw [ho,hm,hn]at A0;rw [hb,ho,hm,hn];obtain⟨q0,q1⟩:=q;have HC:Hid _:=hc;have HA:Hid _:=A0;have HB:Hid((decide(q1=0)&&decide(q0=k))=b):=by show _=_;rw [<-hb,Nt.ofB,hq]
 clear hc A0 hT hsz ho hm hn hb hq
 by_cases h0:q1=0<;>by_cases h1:q0=k
 all_goals
  have e0:(q1==0)=decide(q1=0):=rfl;have e1:(q0==k)=decide(q0=k):=rfl;simp only [h0,h1,decide_true,decide_false]at e0 e1 HB
  try subst h0
  try subst h1
  go_enter Tryz.func68,Tryz.ntmps68
  go_wp2_with fail
  refine Calls.mono HC.out ?_;rintro e W1⟨rfl,hb1⟩;have B1:Hid(Below w.heap.size w W1):=HA.out.trans(hb1.mono HA.out.size);clear hb1 HC;go_wp2;go_ret;exact⟨Tk.ret_bool(by rw [<-HB.out];first|rfl|simp),B1.out⟩
theorem Nt.zero_iff(T:Tm):T= .mk 0 0 []↔Nt.zeroB T=true:=by
 cases T
 simp only [Nt.zeroB,Tm.op,Tm.num,Tm.ks,Tm.mk.injEq,Bool.and_eq_true,decide_eq_true_eq,List.length_eq_zero_iff,and_assoc];exact⟨fun⟨h1,h2,h3⟩=>⟨decide_eq_true h1,decide_eq_true h2,h3⟩,fun⟨h1,h2,h3⟩=>⟨of_decide_eq_true h1,of_decide_eq_true h2,h3⟩⟩
theorem Tm.lies_zero(w:World)(B:Nat):Tm.Lies w B 1(.slice none 0 0)(.mk 0 0 []):=⟨none,0,rfl, .inl rfl⟩
def Ac.choiceAt(other:Int)(i:Nat)(c:Tm):Bool:=if(i:Int)=other then Nt.zeroB c else Nt.ofB c 2
def Ac.choiceB(cs:List Tm)(other:Int):Bool:=(List.range cs.length).all λi=>((cs[i]?.map(Ac.choiceAt other i)).getD true)
theorem Ac.choice_no {cs:List Tm} {other:Int} {j:Nat} (h:j<cs.length)(e:Ac.choiceAt other j cs[j]=false):Ac.choiceB cs other=false:=by
 unfold Ac.choiceB;rw [List.all_eq_false];exact⟨j,List.mem_range.2 h,by rw [List.getElem?_eq_getElem h];simp [e]⟩
theorem Ac.choice_yes {cs:List Tm} {other:Int} (h: ∀j(h:j<cs.length),Ac.choiceAt other j cs[j]=true):Ac.choiceB cs other=true:=by
 unfold Ac.choiceB;rw [List.all_eq_true];intro j hj;have hj':=List.mem_range.1 hj;rw [List.getElem?_eq_getElem hj'];simpa using h j hj'
theorem Tryz.isChoice_any(cs:List Tm)(a:Option Addr)(cap:Nat)(other:Int)(e:Nat)(w:World)(hT:Ac.Tms w w.heap.size e a cs)(hO:Tk.Ops w)(hsz: ∀x∈cs,x.size<=2147483647/\x.depth<=1000)(hn:cs.length<=2147483647):
  Calls Tryz.prog 62 #[.slice a cs.length cap, .int .i64 other]w λe w'=>e= .returned(.bool(Ac.choiceB cs other))/\Below w.heap.size w w':=by
 obtain⟨n,hln⟩: ∃n,cs.length=n:=⟨_,rfl⟩;obtain⟨R,hR⟩: ∃b,Ac.choiceB cs other=b:=⟨_,rfl⟩;have H:Hid(Ac.Tms w w.heap.size e a cs/\Tk.Ops w/\(∀x∈cs,x.size<=2147483647/\x.depth<=1000)/\cs.length=n/\Ac.choiceB cs other=R):=⟨hT,hO,hsz,hln,hR⟩;rw [hln]at hn;rw [hln,hR];clear hT hO hsz hln hR
 go_enter Tryz.func62,Tryz.ntmps62
 go_wp2
 go_loopg [9]n(λgk i wr=> ∃j:Nat,gk+j=n/\i= .int .i64 j/\Hid((∀i(h:i<cs.length),i<j->Ac.choiceAt other i cs[i]=true)/\Below w.heap.size w wr))
 case atStart=>exact⟨0,by omega,rfl,λi _ h=>absurd h(by omega),Below.refl _ w⟩
 case round=>
  obtain⟨j,hj,rfl,HJ⟩:=hrel
  by_cases hjn:j<n
  rotate_left
  ·have hd:decide((j:Int)<n)=false:=decide_eq_false(by omega)
   go_wp2;go_ret;refine⟨Tk.ret_bool ?_,HJ.out.2⟩;rw [<-H.out.2.2.2.2];exact(Ac.choice_yes λi h=>HJ.out.1 i h(by have:=H.out.2.2.2.1;omega)).symm
  have hd:decide((j:Int)<n)=true:=decide_eq_true(by omega);have hjk:j<cs.length:=by rw [H.out.2.2.2.1];exact hjn
  obtain⟨g,off,u,rfl,hg,q0,q1,q2,hlu⟩:=H.out.1 j hjk;obtain⟨x,hx⟩: ∃x,cs[j]=x:=⟨_,rfl⟩;have hxs:=H.out.2.2.1 _(List.getElem_mem hjk);rw [hx]at q0 q1 hlu hxs;rw [<-HJ.out.2.cell(p:=⟨g,off+j*3,none⟩)hg]at q0;rw [<-HJ.out.2.cell(p:=⟨g,off+j*3+1,none⟩)hg]at q1;rw [<-HJ.out.2.cell(p:=⟨g,off+j*3+2,none⟩)hg]at q2;obtain⟨ua,uc,rfl⟩:=hlu.shape;obtain⟨un,hun⟩: ∃n,x.ks.length=n:=⟨_,rfl⟩;obtain⟨y0,hy0⟩: ∃n,x.op=n:=⟨_,rfl⟩;obtain⟨y1,hy1⟩: ∃n,x.num=n:=⟨_,rfl⟩;rw [hun]at q2 hlu;rw [hy0]at q0;rw [hy1]at q1;have BA:Below wr.heap.size wr(wr.alloc(.cells #[.int .i64 y0, .int .i64 y1, .slice ua un uc]24)):=(Below.refl _ wr).alloc(Nat.le_refl _)_;obtain⟨W1,hW1⟩: ∃z,wr.alloc(.cells #[.int .i64 y0, .int .i64 y1, .slice ua un uc]24)=z:=⟨_,rfl⟩;rw [hW1]at BA;have bw:Below w.heap.size w W1:=HJ.out.2.trans(BA.mono HJ.out.2.size);have hlW:Tm.Lies W1 W1.heap.size e(.slice ua un uc)x:=(hlu.below bw).wider bw.size;have h0:0<W1.heap.size:=by have:=bw.size;omega
  have CS:=Tryz.termSame_any e 1 x(.mk 0 0 [])(.slice ua un uc)(.slice none 0 0)W1 hlW(Tm.lies_zero _ _)h0 hxs.1 hxs.2;have CO:=Tryz.aisOf_any 2 e x(.slice ua un uc)W1 hlW(H.out.2.1.below bw H.out.2.1.lt)hxs.1;rw [hy0,hy1]at CS CO;simp only [Tm.op,Tm.num]at CS;have HS:Hid _:=CS;have HO:Hid _:=CO;have HX:Hid(cs[j]=x/\Below w.heap.size w W1):=⟨hx,bw⟩;have HW:Hid(wr.alloc(.cells #[.int .i64 y0, .int .i64 y1, .slice ua un uc]24)=W1):=hW1;have GV:W1.heap[wr.heap.size]? =some(.cells #[.int .i64 y0, .int .i64 y1, .slice ua un uc]24(0,0)):=by rw [<-hW1];exact heap_alloc_new wr _
  have v0:W1.cell? ⟨wr.heap.size,0,none⟩=some(.int .i64 y0):=by simp [World.cell?,GV]
  have v1:W1.cell? ⟨wr.heap.size,1,none⟩=some(.int .i64 y1):=by simp [World.cell?,GV]
  have v2:W1.cell? ⟨wr.heap.size,2,none⟩=some(.slice ua un uc):=by simp [World.cell?,GV]
  have hj0:(0:Int)<=j:=by omega
  have hjn':(j:Int)<n:=by omega
  clear BA hW1 bw hlW h0 CS CO hlu hxs hx hun hy0 hy1 GV
  by_cases hjo:(j:Int)=other
  ·have e1:((j:Int)==other)=true:=by simpa using hjo
   have e2:((j:Int) !=other)=false:=by simpa using hjo
   have HE:Hid(Ac.choiceAt other j x=Nt.zeroB x):=by show _=_;unfold Ac.choiceAt;rw [if_pos hjo]
   clear hjo HO
   go_upto_region 4 with fail
   rw [HW.out]
   go_wp2_with fail
   refine Calls.mono HS.out ?_;rintro e W2⟨⟨r,rfl,hr⟩,hb2⟩;have B2:Hid(Below w.heap.size w W2):=HX.out.2.trans(hb2.mono HX.out.2.size)
   have HZ:Hid(Nt.zeroB x=r):=by
    show _=_;rw [Nt.zero_iff]at hr
    cases r with
    |true=>exact hr.1 rfl
    |false=>exact Bool.eq_false_iff.2 λh=>by have:=hr.2 h;cases this
   clear hb2 hr HS
   cases r with
   |true=>
    go_wp2;go_roundg(gk-1)
    case measure=>omega
    case rel=>
     refine⟨j+1,by omega,by go_num,λi h hi=> ?_,B2.out⟩
     rcases Nat.lt_or_ge i j with h1|h1
     ·exact HJ.out.1 i h h1
     have:i=j:=by omega
     subst this;rw [HX.out.1,HE.out,HZ.out]
   |false=>
    go_wp2;go_ret;refine⟨Tk.ret_bool ?_,B2.out⟩;rw [<-H.out.2.2.2.2];exact(Ac.choice_no hjk(by rw [HX.out.1,HE.out,HZ.out])).symm
  have e1:((j:Int)==other)=false:=by simpa using hjo
  have e2:((j:Int) !=other)=true:=by simpa using hjo
  have HE:Hid(Ac.choiceAt other j x=Nt.ofB x 2):=by show _=_;unfold Ac.choiceAt;rw [if_neg hjo]
  obtain⟨r,hr⟩: ∃r,Nt.ofB x 2=r:=⟨_,rfl⟩;rw [hr]at HE HO;clear hjo HS hr
  go_upto_region 4 with fail
  rw [HW.out]
  go_wp2_with fail
  refine Calls.mono HO.out ?_;rintro e W2⟨rfl,hb2⟩;have B2:Hid(Below w.heap.size w W2):=HX.out.2.trans(hb2.mono HX.out.2.size);clear hb2 HO
  cases r with
  |true=>
   go_wp2;go_roundg(gk-1)
   case measure=>omega
   case rel=>
    refine⟨j+1,by omega,by go_num,λi h hi=> ?_,B2.out⟩
    rcases Nat.lt_or_ge i j with h1|h1
    ·exact HJ.out.1 i h h1
    have:i=j:=by omega
    subst this;rw [HX.out.1,HE.out]
  |false=>
   go_wp2;go_ret;refine⟨Tk.ret_bool ?_,B2.out⟩;rw [<-H.out.2.2.2.2];exact(Ac.choice_no hjk(by rw [HX.out.1,HE.out])).symm
def Ac.joinedB(k a:Int)(n:Nat)(i o:Int):Bool:=
 if k=12 then(if a=1 then decide(i=1)&&decide(2<=o)else if a=3 then decide(i=1)&&decide(o=n)else decide(2<=i)&&decide(o=1))else decide(i=1)&&decide(o=1)
theorem Tryz.isJoined_any(k a:Int)(x1 x3 x4 x5 x6 x8 x9 x10 x11:Value)(ca:Option Addr)(n cc:Nat)(i o:Int)(w:World):Calls Tryz.prog 78 #[.agg #[.int .i64 k,x1, .int .i64 a,x3,x4,x5,x6, .slice ca n cc,x8,x9,x10,x11], .int .i64 i, .int .i64 o]w λe w'=>e= .returned(.bool(Ac.joinedB k a n i o))/\Below w.heap.size w w':=by
 have B0:Hid(Below w.heap.size w(w.alloc(.cells #[.int .i64 k,x1, .int .i64 a,x3,x4,x5,x6, .slice ca n cc,x8,x9,x10,x11]32))):=(Below.refl _ w).alloc(Nat.le_refl _)_
 by_cases hk:k=12
 rotate_left
 ·have dk:(k !=12)=true:=by simpa using hk
  have e:Ac.joinedB k a n i o=(decide(i=1)&&decide(o=1)):=by unfold Ac.joinedB;rw [if_neg hk]
  obtain⟨p,hp⟩: ∃p,(i==1)=p:=⟨_,rfl⟩;obtain⟨q,hq⟩: ∃p,(o==1)=p:=⟨_,rfl⟩;have HE:Hid(Ac.joinedB k a n i o=(p&&q)):=by show _=_;rw [e,<-hp,<-hq];rfl
  obtain⟨r,hr⟩: ∃r,Ac.joinedB k a n i o=r:=⟨_,rfl⟩;rw [hr]at HE⊢;clear e hr hk
  cases p<;>cases q
  all_goals
   go_enter Tryz.func78,Tryz.ntmps78
   go_wp2;go_ret;exact⟨Tk.ret_bool(by rw [HE.out];rfl),B0.out⟩
 subst hk
 by_cases ha:a=1
 ·subst ha
  have e:Ac.joinedB 12 1 n i o=(decide(i=1)&&decide(2<=o)):=rfl;obtain⟨p,hp⟩: ∃p,(i==1)=p:=⟨_,rfl⟩;obtain⟨q,hq⟩: ∃p,decide(2<=o)=p:=⟨_,rfl⟩;have HE:Hid(Ac.joinedB 12 1 n i o=(p&&q)):=by show _=_;rw [e,<-hp,hq];rfl
  obtain⟨r,hr⟩: ∃r,Ac.joinedB 12 1 n i o=r:=⟨_,rfl⟩;rw [hr]at HE⊢;clear e hr
  cases p<;>cases q
  all_goals
   go_enter Tryz.func78,Tryz.ntmps78
   go_wp2;go_ret;exact⟨Tk.ret_bool(by rw [HE.out];rfl),B0.out⟩
 have da:(a==1)=false:=by simpa using ha
 by_cases ha3:a=3
 ·subst ha3
  have e:Ac.joinedB 12 3 n i o=(decide(i=1)&&decide(o=n)):=rfl;obtain⟨p,hp⟩: ∃p,(i==1)=p:=⟨_,rfl⟩;obtain⟨q,hq⟩: ∃p,(o==(n:Int))=p:=⟨_,rfl⟩;have HE:Hid(Ac.joinedB 12 3 n i o=(p&&q)):=by show _=_;rw [e,<-hp,<-hq];rfl
  obtain⟨r,hr⟩: ∃r,Ac.joinedB 12 3 n i o=r:=⟨_,rfl⟩;rw [hr]at HE⊢;clear e hr ha da
  cases p<;>cases q
  all_goals
   go_enter Tryz.func78,Tryz.ntmps78
   go_wp2;go_ret;exact⟨Tk.ret_bool(by rw [HE.out];rfl),B0.out⟩
 have da3:(a==3)=false:=by simpa using ha3
 have e:Ac.joinedB 12 a n i o=(decide(2<=i)&&decide(o=1)):=by unfold Ac.joinedB;rw [if_pos rfl,if_neg ha,if_neg ha3]
 obtain⟨p,hp⟩: ∃p,decide(2<=i)=p:=⟨_,rfl⟩;obtain⟨q,hq⟩: ∃p,(o==1)=p:=⟨_,rfl⟩;have HE:Hid(Ac.joinedB 12 a n i o=(p&&q)):=by show _=_;rw [e,hp,<-hq];rfl
 obtain⟨r,hr⟩: ∃r,Ac.joinedB 12 a n i o=r:=⟨_,rfl⟩;rw [hr]at HE⊢;clear e hr ha ha3
 cases p<;>cases q
 all_goals
  go_enter Tryz.func78,Tryz.ntmps78
  go_wp2;go_ret;exact⟨Tk.ret_bool(by rw [HE.out];rfl),B0.out⟩
theorem Tryz.atake_any(q o r:Nat)(x c:Int)(b:Bool)(w:World)(hx:w.cell? ⟨q,o,none⟩=some(.int .i64 x))(hxf:w.frozen? ⟨q,o,none⟩=false)(hb:w.cell? ⟨r,0,none⟩=some(.bool b))(hbf:w.frozen? ⟨r,0,none⟩=false)(hqr:q≠r):
  Calls Tryz.prog 59 #[.pointer(some⟨q,o,none⟩), .int .i64 c, .pointer(some⟨r,0,none⟩)]w λe w'=>e= .returned(.tuple #[])/\w'=(w.setCell⟨r,0,none⟩(.bool(b&&(decide(0<=x)&&decide(x<c))))).setCell⟨q,o,none⟩(.int .i64 0):=by
 obtain⟨p0,hp0⟩: ∃p,decide(0<=x)=p:=⟨_,rfl⟩;obtain⟨p1,hp1⟩: ∃p,decide(x<c)=p:=⟨_,rfl⟩;rw [hp0,hp1];have hn: ¬r=q:=λe=>hqr e.symm
 have hx': ∀v,(w.setCell⟨r,0,none⟩v).cell? ⟨q,o,none⟩=some(.int .i64 x):=λv=>by
  rw [World.cell?_of_block(w:=w)(Below.heap_setCell _ _ _ _ hqr)];exact hx
 have hf': ∀v,(w.setCell⟨r,0,none⟩v).frozen? ⟨q,o,none⟩=false:=λv=>by
  have:=Below.heap_setCell w⟨r,0,none⟩v q hqr;unfold World.frozen? at hxf⊢;rw [this];exact hxf
 cases b<;>cases p0<;>cases p1
 all_goals
  go_enter Tryz.func59,Tryz.ntmps59
  go_wp2
  go_end0
  exact⟨rfl,rfl⟩
end Go.Proofs
