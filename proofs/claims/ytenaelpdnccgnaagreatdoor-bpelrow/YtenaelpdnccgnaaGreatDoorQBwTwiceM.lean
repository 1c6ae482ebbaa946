import Derived.Test.YtenaelpdnccgnaaGreatDoorQBwPt
set_option maxRecDepth 100000
set_option maxHeartbeats 32000000
namespace Go.Proofs
open Go.RowKit
namespace Bw
def eZ:Tm:=.mk 0 0 []
def e1:Ac:=.mk 2 1 0 0 eZ [] [] [] [] []
def e2:Ac:=.mk 5 2 0 0 eZ [] [] [] [] []
def eA:Ac:=.mk 6 0 0 0 eZ [] [e1,e2] [] [] []
def eB:Ac:=.mk 6 0 0 0 eZ [] [e1,e1] [] [] []
theorem e_same (T:Ac)(h:T.rest=Ac.zeroOf T.kind):Ac.Same1 T.rest (Ac.zeroOf T.kind):=by rw[h];exact⟨rfl,rfl,rfl,rfl,rfl,rfl,rfl,rfl,rfl⟩
theorem e1_form:e1.Formed:=(Ac.formed_2 rfl).2 ⟨by kernel_rfl,⟨by decide,by decide⟩,⟨by decide,by decide⟩,e_same e1 (by kernel_rfl),rfl⟩
theorem e2_form:e2.Formed:=(Ac.formed_5 rfl).2 ⟨by kernel_rfl,⟨by decide,by decide⟩,e_same e2 (by kernel_rfl),rfl⟩
theorem eA_form:eA.Formed:=(Ac.formed_6 rfl).2 ⟨by kernel_rfl,by decide,e_same eA (by kernel_rfl),trivial⟩
theorem eB_form:eB.Formed:=(Ac.formed_6 rfl).2 ⟨by kernel_rfl,by decide,e_same eB (by kernel_rfl),trivial⟩
theorem leaf_go (x:Ac)(hx:x.Formed)(hk:x.ks= []):(x.go Ac.stepF ()).1=true:=by
 rw[Ac.go_eq,if_pos (show(Ac.stepF x ()).1=true from(Ac.formB_iff x).2 hx),hk];rfl
theorem eA_go:(eA.go Ac.stepF ()).1=true:=by
 rw[Ac.go_eq,if_pos (show(Ac.stepF eA ()).1=true from(Ac.formB_iff eA).2 eA_form)];show(Ac.goes Ac.stepF [e1,e2] _).1=true;rw[Ac.goes,if_pos (leaf_go e1 e1_form rfl),Ac.goes,if_pos (leaf_go e2 e2_form rfl)];rfl
theorem eB_go:(eB.go Ac.stepF ()).1=true:=by
 rw[Ac.go_eq,if_pos (show(Ac.stepF eB ()).1=true from(Ac.formB_iff eB).2 eB_form)];show(Ac.goes Ac.stepF [e1,e1] _).1=true;rw[Ac.goes,if_pos (leaf_go e1 e1_form rfl),Ac.goes,if_pos (leaf_go e1 e1_form rfl)];rfl
theorem eA_check:eA.checkC=0:=by
 have h1:eA.tooB=false:=by kernel_rfl
 have h2:eA.twiceB=false:=by kernel_rfl
 unfold Ac.checkC;rw[h1,h2,if_neg (by decide),if_neg (λh=> ?_),if_neg (by decide)]
 rcases h with h|h|h
 ·exact absurd h (by decide)
 ·exact absurd h (by decide)
 rw[eA_go]at h;cases h
theorem eB_check:eB.checkC=8:=by
 have h1:eB.tooB=false:=by kernel_rfl
 have h2:eB.twiceB=true:=by kernel_rfl
 unfold Ac.checkC;rw[h1,h2,if_neg (by decide),if_neg (λh=> ?_),if_pos rfl]
 rcases h with h|h|h
 ·exact absurd h (by decide)
 ·exact absurd h (by decide)
 rw[eB_go]at h;cases h
theorem e_fit (k nd a b:Int)(ks:List Ac)(h:ks.length<=1000):(Ac.mk k nd a b eZ [] ks [] [] []).Fit:=by
 have nil:∀{α:Type} {P:α->Prop},∀x∈([]:List α),P x:=λx hx=>by cases hx
 exact⟨⟨(by decide:eZ.size<=2147483647),(by decide:eZ.depth<=1000)⟩,nil,nil,nil,Nat.zero_le _,h,Nat.zero_le _,Nat.zero_le _,Nat.zero_le _⟩
theorem leaf_fit (k nd a b:Int):(Ac.mk k nd a b eZ [] [] [] [] []).All Ac.Fit:=by
 rw[Ac.all_eq];exact⟨e_fit k nd a b [] (Nat.zero_le _),trivial⟩
theorem seq_fit (x y:Ac)(hx:x.All Ac.Fit)(hy:y.All Ac.Fit):(Ac.mk 6 0 0 0 eZ [] [x,y] [] [] []).All Ac.Fit:=by
 rw[Ac.all_eq];exact⟨e_fit 6 0 0 0 [x,y] (by show 2<=1000;decide),hx,hy,trivial⟩
theorem e1_fit:e1.All Ac.Fit:=leaf_fit 2 1 0 0
theorem e2_fit:e2.All Ac.Fit:=leaf_fit 5 2 0 0
theorem eA_fit:eA.All Ac.Fit:=seq_fit e1 e2 e1_fit e2_fit
theorem eB_fit:eB.All Ac.Fit:=seq_fit e1 e1 e1_fit e1_fit
def vN:Ac.Vs:=⟨.slice none 0 0,.slice none 0 0,.slice none 0 0,.slice none 0 0,.slice none 0 0,.slice none 0 0⟩
def vS (K:Nat):Ac.Vs:=⟨.slice none 0 0,.slice none 0 0,.slice (some ⟨K,0,none⟩) 2 2,.slice none 0 0,.slice none 0 0,.slice none 0 0⟩
theorem leaf_lies (W:World)(x:Ac)(hk:x.ks= [])(h:x.t=eZ/\x.cs= []/\x.ls= []/\x.ns= []/\x.fs= []):Ac.Lies W W.heap.size 1 1 vN x:=by
 obtain⟨k,nd,a,b,t,cs,ks,ls,ns,fs⟩:=x;obtain⟨rfl,rfl,rfl,rfl,rfl⟩:t=eZ/\cs= []/\ls= []/\ns= []/\fs= []:=h;obtain rfl:ks= []:=hk;exact⟨⟨⟨none,0,rfl,.inl rfl⟩,⟨none,0,rfl,λj h=>absurd h (Nat.not_lt_zero j)⟩,⟨none,0,rfl,λj h=>absurd h (Nat.not_lt_zero j)⟩,⟨none,0,rfl,λj h=>absurd h (Nat.not_lt_zero j)⟩,⟨none,0,rfl,λj h=>absurd h (Nat.not_lt_zero j)⟩⟩,none,0,rfl,λj hj=>absurd hj (Nat.not_lt_zero j)⟩
theorem row_of (W:World)(K o:Nat)(r:Array Value)(h:W.rangeAt K o r.toList):Ac.Row W K o r:=λi hi=>h i _ (by simp[hi])
theorem seq_lies (W:World)(K:Nat)(x y:Ac)(hK:K<W.heap.size)(hx:Ac.Lies W W.heap.size 1 1 vN x)(hy:Ac.Lies W W.heap.size 1 1 vN y)(rx:W.rangeAt K 0 (Ac.row x vN).toList)(ry:W.rangeAt K 12 (Ac.row y vN).toList):Ac.Lies W W.heap.size 1 2 (vS K) (.mk 6 0 0 0 eZ [] [x,y] [] [] []):=by
 refine⟨⟨⟨none,0,rfl,.inl rfl⟩,⟨none,0,rfl,λj h=>absurd h (Nat.not_lt_zero j)⟩,⟨none,0,rfl,λj h=>absurd h (Nat.not_lt_zero j)⟩,⟨none,0,rfl,λj h=>absurd h (Nat.not_lt_zero j)⟩,⟨none,0,rfl,λj h=>absurd h (Nat.not_lt_zero j)⟩⟩,some ⟨K,0,none⟩,2,rfl,λj hj=> ?_⟩
 match j,hj with
 |0,_=>exact⟨K,0,vN,rfl,hK,row_of W K 0 _ rx,hx⟩
 |1,_=>exact⟨K,0,vN,rfl,hK,row_of W K 12 _ ry,hy⟩
end Bw
def Tk.Rm (b:Nat)(k:Int)(w:World):Prop:=w.heap[b]? =some (.cells #[.int .i64 k] 36 (0,0))
theorem Tk.Rm.c0 {b:Nat}{k:Int}{w:World}(h:Tk.Rm b k w):w.cell? ⟨b,0,none⟩=some (.int .i64 k):=by simp only[Tk.Rm]at h;simp[World.cell?,h]
theorem Tk.Rm.f0 {b:Nat}{k:Int}{w:World}(h:Tk.Rm b k w):w.frozen? ⟨b,0,none⟩=false:=by simp only[Tk.Rm]at h;simp[World.frozen?,h]
theorem Tk.Rm.lt {b:Nat}{k:Int}{w:World}(h:Tk.Rm b k w):b<w.heap.size:=(Array.getElem?_eq_some_iff.1 h).1
theorem Tk.Rm.put {b:Nat}{k:Int}{w:World}(h:Tk.Rm b k w)(k':Int):Tk.Rm b k' (w.setCell ⟨b,0,none⟩ (.int .i64 k')):=by
 unfold Tk.Rm at*;simp[World.setCell,Array.getElem?_modify,h]
theorem Tk.Rm.keep {b:Nat}{k:Int}{w w':World}(h:Tk.Rm b k w)(hk:w'.heap[b]? =w.heap[b]?):Tk.Rm b k w':=by unfold Tk.Rm;rw[hk];exact h
def Tk.LargeEnd (T:Tm)(k:Nat)(b dp:Nat)(w:World)(e:Ending)(w':World):Prop:=
 Tk.But (λi=>i=b) w w'/\((e=.returned (.bool false)/\(T.size<=k/\T.depth+dp<=41)/\Tk.Rm b ((k-T.size:Nat):Int) w')∨e=.returned (.bool true))
theorem Tryz.deep_any:∀(d:Nat) (T:Tm) (v:Value) (k b:Nat) (dp:Nat) (B:Nat) (w:World),Tm.Lies w B d v T->B<=b->B<=w.heap.size->Tk.Rm b k w->k<=1000000->dp<=1000->
  Calls Tryz.prog 23 #[.agg #[.int .i64 T.op,.int .i64 T.num,v],.pointer (some ⟨b,0,none⟩),.int .i64 dp] w λe w'=>Tk.LargeEnd T k b dp w e w':=by
 intro d
 induction d with
 |zero=>intro T v k b dp B w h;exact h.elim
 |succ d ih=>
  intro T v k b dp B w hT hBb hBs hR hk hdp;obtain⟨a,cap,rfl⟩:=hT.shape;obtain⟨o,ho⟩:=pE (T.op);obtain⟨m,hm⟩:=pE (T.num);obtain⟨n,hn⟩:=pE (T.ks.length);rw[ho,hm,hn];rw[hn]at hT;have A0:Below w.heap.size w (w.alloc (.cells #[.int .i64 o,.int .i64 m,.slice a n cap] 24)):=(Below.refl _ w).alloc (Nat.le_refl _) _;have R0:Tk.Rm b k (w.alloc (.cells #[.int .i64 o,.int .i64 m,.slice a n cap] 24)):=hR.keep (A0.block b hR.lt);have c0:=R0.c0;have f0:=R0.f0;have R1:=R0.put ((k:Int)-1);obtain⟨w1,hw1⟩:=pE ((w.alloc (.cells #[.int .i64 o,.int .i64 m,.slice a n cap] 24)).setCell ⟨b,0,none⟩ (.int .i64 ((k:Int)-1)));have X1:Hid (Tk.But (λi=>i=b) w w1):=by show Tk.But _ _ _;rw[<-hw1];exact(Tk.But.of_below A0).setCell (E:=λi=>i=b) (p:=⟨b,0,none⟩) rfl _
  rw[hw1]at R1;have g0:=R1.c0
  have hbx:w1.heap[w.heap.size]? =some (.cells #[.int .i64 o,.int .i64 m,.slice a n cap] 24 (0,0)):=by
   rw[<-hw1,Below.heap_setCell _ _ _ _ (by have:=hR.lt;show w.heap.size≠b;omega)];exact heap_alloc_new w _
  have g2:w1.cell? ⟨w.heap.size,2,none⟩=some (.slice a n cap):=by simp[World.cell?,hbx]
  have HW1:Hid ((w.alloc (.cells #[.int .i64 o,.int .i64 m,.slice a n cap] 24)).setCell ⟨b,0,none⟩ (.int .i64 ((k:Int)-1))=w1):=hw1;have HT:Hid (Tm.Lies w B (d+1) (.slice a n cap) T):=hT;have HI:Hid _:=ih;have HM:Hid (T.op=o/\T.num=m/\T.ks.length=n/\B<=b/\B<=w.heap.size):=⟨ho,hm,hn,hBb,hBs⟩;have HR1:Hid (Tk.Rm b ((k:Int)-1) w1):=R1;have HRl:Hid (b<w.heap.size):=hR.lt;clear ih hT hR A0 R0 ho hm hn hw1 R1 hbx hBb hBs
  by_cases hbad:(k:Int)-1<0∨40<dp∨50<n
  ·obtain h1|⟨h1,h2⟩|⟨h1,h2,h3⟩:decide ((k:Int)-1<0)=true∨(decide ((k:Int)-1<0)=false/\decide ((40:Int)<dp)=true)∨(decide ((k:Int)-1<0)=false/\decide ((40:Int)<dp)=false/\decide ((50:Int)<n)=true):=by
    simp;omega
   all_goals
    clear hbad
    go_enter Tryz.func23,Tryz.ntmps23
    go_wp2;go_ret;exact⟨by rw[HW1.out];exact X1.out,.inr rfl⟩
  have h1:decide ((k:Int)-1<0)=false:=decide_eq_false (by omega);have h2:decide ((40:Int)<dp)=false:=decide_eq_false (by omega);have h3:decide ((50:Int)<n)=false:=decide_eq_false (by omega);have hn100:n<=100:=by omega
  have hdp':dp<=100:=by omega
  have HK:Hid (1<=k):=by show 1<=k;omega
  have HDP:Hid (dp<=40):=by show dp<=40;omega
  clear hbad
  go_enter Tryz.func23,Tryz.ntmps23
  go_wp2;rw[HW1.out]
  go_loopg [35] n (λg i wr=>∃j:Nat,g+j=n/\i=.int .i64 j/\Hid (Tk.But (λi=>i=b) w wr/\(Tm.sizes (T.ks.take j)<=k-1/\Tm.depths (T.ks.take j)+(dp+1)<=41)/\Tk.Rm b ((k-1-Tm.sizes (T.ks.take j):Nat):Int) wr))
  case atStart=>
   refine⟨0,by omega,rfl,X1.out,⟨by simp[Tm.sizes],by have:=HDP.out;simp[Tm.depths];omega⟩, ?_⟩;have:=HR1.out;rw[show(k:Int)-1=((k-1:Nat):Int)by have:=HK.out;omega]at this;simpa [Tm.sizes]using this
  case round=>
   obtain⟨j,hj,rfl,HJ⟩:=hrel
   by_cases hjn:j<n
   rotate_left
   ·have hd:decide ((j:Int)<n)=false:=decide_eq_false (by omega)
    have hall:T.ks.take j=T.ks:=List.take_of_length_le (by rw[HM.out.2.2.1];omega);have HZ:=HJ.out;rw[hall]at HZ;have HZ':Hid _:=HZ;clear HZ;go_wp2;go_ret;refine⟨HZ'.out.1,.inl ⟨rfl, ?_, ?_⟩⟩
    ·rw[T.size_eq,T.depth_eq];have h4:=HZ'.out.2.1;have:=HK.out;exact⟨by omega,by omega⟩
    rw[T.size_eq,show k-(Tm.sizes T.ks+1)=k-1-Tm.sizes T.ks by omega];exact HZ'.out.2.2
   have hd:decide ((j:Int)<n)=true:=decide_eq_true (by omega);have hjk:j<T.ks.length:=by rw[HM.out.2.2.1];exact hjn
   obtain⟨g,off,u,rfl,hg,q0,q1,q2,q3⟩:=HT.out.kid j hjk;obtain⟨x,hx⟩:=pE (T.ks[j]);rw[hx]at q0 q1 q3;obtain⟨au,cu,rfl⟩:=q3.shape;obtain⟨nx,hnx⟩:=pE (x.ks.length);rw[hnx]at q2 q3;obtain⟨y0,hy0⟩:=pE (x.op);obtain⟨y1,hz1⟩:=pE (x.num);rw[hy0]at q0;rw[hz1]at q1;have hE:∀i,i<B->¬(i=b):=λi hi=>by have:=HM.out;omega
   have hc:∀p,wr.cell? ⟨g,p,none⟩=w.cell? ⟨g,p,none⟩:=λp=>World.cell?_of_block (w:=w) (HJ.out.1.block g (by have:=HM.out;omega) (hE g hg));have hc0:wr.cell? ⟨g,off+j*3,none⟩=some (.int .i64 y0):=by rw[hc];exact q0
   have hc1:wr.cell? ⟨g,off+j*3+1,none⟩=some (.int .i64 y1):=by rw[hc];exact q1
   have hc2:wr.cell? ⟨g,off+j*3+2,none⟩=some (.slice au nx cu):=by rw[hc];exact q2
   have BA:Hid (Tk.But (λi=>i=b) w (wr.alloc (.cells #[.int .i64 y0,.int .i64 y1,.slice au nx cu] 24))):=HJ.out.1.alloc _
   have hcall:=HI.out x (.slice au nx cu) (k-1-Tm.sizes (T.ks.take j)) b (dp+1) B (wr.alloc (.cells #[.int .i64 y0,.int .i64 y1,.slice au nx cu] 24))
    (q3.keep λi hi=>BA.out.block i (by have:=HM.out;omega) (hE i hi)) HM.out.2.2.2.1 (by have:=HM.out;have:=BA.out.size;omega) (HJ.out.2.2.keep (Below.heap_alloc _ _ _ HJ.out.2.2.lt)) (by omega) (by omega)
   rw[hy0,hz1,show((dp+1:Nat):Int)=(dp:Int)+1 by omega]at hcall;have HC:Hid _:=hcall;have HY:Hid (T.ks[j]=x):=hx;clear hc q0 q1 q2 q3 hx hy0 hz1 hnx hcall hE g0 g2 c0 f0
   go_wp2_with fail
   refine Calls.mono HC.out ?_;rintro e W3 ⟨hb3,⟨rfl,hs3,hr3⟩|rfl⟩
   ·have B3:Hid (Tk.But (λi=>i=b) w W3):=BA.out.trans hb3
    have H3:Hid ((x.size<=k-1-Tm.sizes (T.ks.take j)/\x.depth+(dp+1)<=41)/\Tk.Rm b ((k-1-Tm.sizes (T.ks.take j)-x.size:Nat):Int) W3):=⟨hs3,hr3⟩;clear hb3 hs3 hr3 HC;go_wp2;go_roundg (gk-1)
    case measure=>omega
    case rel=>
     refine⟨j+1,by omega,by go_num,B3.out, ?_, ?_⟩
     ·rw[Tm.sizes_take _ _ hjk,Tm.depths_take _ _ hjk,HY.out];have h3:=H3.out.1;have h4:=HJ.out.2.1;exact⟨by omega,by omega⟩
     rw[Tm.sizes_take _ _ hjk,HY.out,<-Nat.sub_sub];exact H3.out.2
   have B3:Hid (Tk.But (λi=>i=b) w W3):=BA.out.trans hb3;clear hb3 HC;go_wp2;go_ret;exact⟨B3.out,.inr rfl⟩
end Go.Proofs
namespace Go.Proofs
namespace Ac
theorem numbered_kind {T:Ac}(h:T.Numbered):1<=T.kind/\T.kind<=14:=by unfold Numbered at h;omega
theorem formed_kind {T:Ac}(h:T.Formed):1<=T.kind/\T.kind<=14:=by
 unfold Formed at h
 rcases h with h|h|h|h|h|h|h|h|h|h|h|h|h|h|h<;>(have:=h.1;omega)
theorem formed_gate {T:Ac}(h:T.Formed)(hk:T.kind=12):1<=T.a/\T.a<=4:=by
 by_cases ha:T.a=3
 ·omega
 have:=(formed_12b hk ha).1 h;omega
theorem formD_gate {T:Ac}(h:T.FormD)(hk:T.kind=12):1<=T.a/\T.a<=4:=by
 have:=h.2.2.1;unfold Numbered at this;omega
theorem holds_iff {T:Ac}(hk:∀k∈T.ks,1<=k.kind/\k.kind<=14):T.holdsB=true↔∀k∈T.ks,kidBadD T.kind k.kind=false:=by
 unfold holdsB;rw[Bool.not_eq_true',List.any_eq_false]
 have e:∀k∈T.ks,(¬kidBad T.kind k.kind=true↔kidBadD T.kind k.kind=false):=λk hkm=>by
  have:=hk k hkm;rw[Bool.not_eq_true];unfold kidBad kidBadD;rw[decide_eq_false_iff_not]
  by_cases h1:k.kind=13∨k.kind=14
  ·rw[if_pos h1];simp;omega
  rw[if_neg h1]
  by_cases h2:k.kind=12
  ·rw[if_pos h2]
   by_cases h3:T.kind=13
   ·simp[h3];omega
   simp[h3];omega
  rw[if_neg h2];rw[show(k.kind==10)=decide (k.kind=10)from rfl,show(T.kind==9)=decide (T.kind=9)from rfl]
  by_cases h3:k.kind=10
  ·by_cases h4:T.kind=9
   ·rw[decide_eq_true h3,decide_eq_true h4];exact⟨λ_=>by omega,λ_=>by decide⟩
   rw[decide_eq_true h3,decide_eq_false h4];exact⟨λh=>absurd h (by decide),λh=>absurd (by omega) h⟩
  by_cases h4:T.kind=9
  ·rw[decide_eq_false h3,decide_eq_true h4];exact⟨λh=>absurd h (by decide),λh=>absurd (by omega) h⟩
  rw[decide_eq_false h3,decide_eq_false h4];exact⟨λ_=>by omega,λ_=>by decide⟩
 exact⟨λh k hkm=>(e k hkm).1 (h k hkm),λh k hkm=>(e k hkm).2 (h k hkm)⟩
theorem linked_iff {T:Ac}(hk:∀k∈T.ks,k.kind=12->1<=k.a/\k.a<=4):T.linkedB=true↔1<=T.ks.length/\T.LinkD:=by
 have hcover:∀(h:∀i (h:i<T.ks.length),kidD T.ks[i].kind T.ks[i].a T.ks[i].cs.length (inN T.ls i) (outN T.ls i)=true),∀i,i<T.ks.length->1<=inN T.ls i:=λh i hi=>by
  have h1:=h i hi;have h2:=hk T.ks[i] (List.getElem_mem hi);unfold kidD at h1
  split at h1
  ·rename_i h12
   have h2:=h2 h12
   split at h1
   ·rw[Bool.and_eq_true,decide_eq_true_iff]at h1;omega
   split at h1
   ·rw[Bool.and_eq_true,decide_eq_true_iff]at h1;omega
   split at h1
   ·rw[Bool.and_eq_true,decide_eq_true_iff]at h1;omega
   omega
  rw[Bool.and_eq_true,decide_eq_true_iff]at h1;omega
 have cvt:∀(f:Int×Int->Int) (k:Nat),(T.ls.countP λl=>decide (f l+1=((k+1:Nat):Int)))=T.ls.countP λl=>decide (f l=(k:Int)):=λf k=>by
  congr 1
  funext l
  by_cases e:f l=(k:Int)
  ·rw[decide_eq_true e,decide_eq_true (by omega)]
  rw[decide_eq_false e,decide_eq_false (by omega)]
 have cvo:∀(f:Int×Int->Int),(T.ls.countP λl=>decide (f l+1=((0:Nat):Int)))=T.ls.countP λl=>decide (f l= -1):=λf=>by
  congr 1
  funext l
  by_cases e:f l= -1
  ·rw[decide_eq_true e,decide_eq_true (by omega)]
  rw[decide_eq_false e,decide_eq_false (by omega)]
 have j0:T.joinedAt 0=(decide (inN T.ls (-1)=1)&&decide (outN T.ls (-1)=1)):=by
  unfold joinedAt;rw[insL_at _ _ _ (by omega),outsL_at _ _ _ (by omega),cvo (λl=>l.2),cvo (λl=>l.1)];show joinedB 0 0 0 ((T.ls.countP λl=>decide (l.2= -1):Nat):Int) ((T.ls.countP λl=>decide (l.1= -1):Nat):Int)=_;unfold joinedB inN outN;rw[if_neg (by decide)]
  congr 1<;>(rw[decide_eq_decide];omega)
 have j1:∀i (h:i<T.ks.length),T.joinedAt (i+1)=kidD T.ks[i].kind T.ks[i].a T.ks[i].cs.length (inN T.ls i) (outN T.ls i):=λi hi=>by
  unfold joinedAt;rw[insL_at _ _ _ (by omega),outsL_at _ _ _ (by omega),cvt (λl=>l.2) i,cvt (λl=>l.1) i];have:T.around[i+1]? =some T.ks[i]:=by simp[around,hi]
  rw[this];show joinedB T.ks[i].kind T.ks[i].a T.ks[i].cs.length ((inN T.ls i:Nat):Int) ((outN T.ls i:Nat):Int)=_;unfold joinedB kidD
  by_cases h12:T.ks[i].kind=12
  ·have h2:=hk T.ks[i] (List.getElem_mem hi) h12
   rw[if_pos h12,if_pos h12]
   by_cases a1:T.ks[i].a=1
   ·rw[if_pos a1,if_pos a1]
   rw[if_neg a1,if_neg a1]
   by_cases a3:T.ks[i].a=3
   ·rw[if_pos a3,if_pos a3]
   rw[if_neg a3,if_neg a3,if_pos (by omega)]
  rw[if_neg h12,if_neg h12]
 unfold linkedB LinkD;simp only[Bool.and_eq_true,decide_eq_true_iff,Bool.not_eq_true',decide_eq_false_iff_not]
 constructor
 ·rintro⟨⟨⟨⟨h1,h2⟩,h3⟩,h4⟩,h5⟩
  have h4:=List.all_eq_true.1 h4;have k0:=h4 0 (List.mem_range.2 (by omega));rw[j0,Bool.and_eq_true,decide_eq_true_iff,decide_eq_true_iff]at k0
  have k1:∀i (h:i<T.ks.length),kidD T.ks[i].kind T.ks[i].a T.ks[i].cs.length (inN T.ls i) (outN T.ls i)=true:=λi hi=>by
   rw[<-j1 i hi];exact h4 (i+1) (List.mem_range.2 (by omega))
  have h6:=Dd.cover T.ks.length T.ls (hcover k1);have h7:=List.countP_le_length (p:=λl:Int×Int=>decide (0<=l.2/\l.2<(T.ks.length:Int))) (l:=T.ls);exact⟨by omega,h3,⟨k0.1,k0.2,h2,by omega⟩,k1,h5⟩
 rintro⟨h1,h3,⟨k0,k0',h2,h64⟩,k1,h5⟩;refine⟨⟨⟨⟨by omega,h2⟩,h3⟩,List.all_eq_true.2 λi hi=> ?_⟩,h5⟩;have hi:=List.mem_range.1 hi
 cases i with
 |zero=>rw[j0,k0,k0'];rfl
 |succ i=>rw[j1 i (by omega)];exact k1 i (by omega)
theorem same1_iff {S T:Ac} :Same1 S T↔S.kind=T.kind/\S.node=T.node/\S.a=T.a/\S.b=T.b/\S.t=T.t/\S.cs=T.cs/\S.ls=T.ls/\S.ns=T.ns/\S.fs=T.fs:=Iff.rfl
theorem form_iff {T:Ac}(hk:∀k∈T.ks,(1<=k.kind/\k.kind<=14)/\(k.kind=12->1<=k.a/\k.a<=4)):T.FormD↔T.Formed:=by
 have hh:=holds_iff (T:=T) λk hkm=>(hk k hkm).1;have hl:=linked_iff (T:=T) λk hkm=>(hk k hkm).2;have z:T.t=.mk 0 0 []↔Nt.zeroB T.t=true:=Nt.zero_iff T.t;unfold FormD;rw[<-hh]
 by_cases hr:T.kind<1∨14<T.kind
 ·constructor
  ·rintro⟨_,_,h,_⟩;have:=numbered_kind h;omega
  intro h;have:=formed_kind h;omega
 have hkk:T.kind=1∨T.kind=2∨T.kind=3∨T.kind=4∨T.kind=5∨T.kind=6∨T.kind=7∨T.kind=8∨T.kind=9∨T.kind=10∨T.kind=11∨T.kind=12∨T.kind=13∨T.kind=14:=by omega
 obtain⟨H,hH⟩:=pE (T.holdsB);obtain⟨L,hL⟩:=pE (T.linkedB);obtain⟨D,hD⟩:=pE (T.LinkD);rw[hL,hD]at hl;rw[hH];clear hh hk
 rcases hkk with hK|hK|hK|hK|hK|hK|hK|hK|hK|hK|hK|hK|hK|hK
 ·rw[formed_1 hK,hH]
  unfold Bare Numbered Conds;rw[hD];clear hH hL hD hr;obtain⟨K,N,A,B,t,cs,ks,ls,ns,fs⟩:=T;obtain rfl:K=1:=hK;simp[hasNodeB,hasA,hasB',hasC,hasK,rest,zeroOf,same1_iff,kind,node,a,b,Ac.t,Ac.cs,Ac.ks,Ac.ls,Ac.ns,Ac.fs]at z hl⊢
  grind
 ·rw[formed_2 hK,hH]
  unfold Bare Numbered Conds;rw[hD];clear hH hL hD hr;obtain⟨K,N,A,B,t,cs,ks,ls,ns,fs⟩:=T;obtain rfl:K=2:=hK;simp[hasNodeB,hasA,hasB',hasC,hasK,rest,zeroOf,same1_iff,kind,node,a,b,Ac.t,Ac.cs,Ac.ks,Ac.ls,Ac.ns,Ac.fs]at z hl⊢
  grind
 ·rw[formed_3 hK,hH]
  unfold Bare Numbered Conds;rw[hD];clear hH hL hD hr;obtain⟨K,N,A,B,t,cs,ks,ls,ns,fs⟩:=T;obtain rfl:K=3:=hK;simp[hasNodeB,hasA,hasB',hasC,hasK,rest,zeroOf,same1_iff,kind,node,a,b,Ac.t,Ac.cs,Ac.ks,Ac.ls,Ac.ns,Ac.fs]at z hl⊢
  grind
 ·rw[formed_4 hK,hH]
  unfold Bare Numbered Conds;rw[hD];clear hH hL hD hr;obtain⟨K,N,A,B,t,cs,ks,ls,ns,fs⟩:=T;obtain rfl:K=4:=hK;simp[hasNodeB,hasA,hasB',hasC,hasK,rest,zeroOf,same1_iff,kind,node,a,b,Ac.t,Ac.cs,Ac.ks,Ac.ls,Ac.ns,Ac.fs]at z hl⊢
  grind
 ·rw[formed_5 hK,hH]
  unfold Bare Numbered Conds;rw[hD];clear hH hL hD hr;obtain⟨K,N,A,B,t,cs,ks,ls,ns,fs⟩:=T;obtain rfl:K=5:=hK;simp[hasNodeB,hasA,hasB',hasC,hasK,rest,zeroOf,same1_iff,kind,node,a,b,Ac.t,Ac.cs,Ac.ks,Ac.ls,Ac.ns,Ac.fs]at z hl⊢
  grind
 ·rw[formed_6 hK,hH]
  unfold Bare Numbered Conds;rw[hD];clear hH hL hD hr;obtain⟨K,N,A,B,t,cs,ks,ls,ns,fs⟩:=T;obtain rfl:K=6:=hK;simp[hasNodeB,hasA,hasB',hasC,hasK,rest,zeroOf,same1_iff,kind,node,a,b,Ac.t,Ac.cs,Ac.ks,Ac.ls,Ac.ns,Ac.fs]at z hl⊢
  grind
 ·rw[formed_7 hK,hH]
  unfold Bare Numbered Conds;rw[hD];clear hH hL hD hr;obtain⟨K,N,A,B,t,cs,ks,ls,ns,fs⟩:=T;obtain rfl:K=7:=hK;simp[hasNodeB,hasA,hasB',hasC,hasK,rest,zeroOf,same1_iff,kind,node,a,b,Ac.t,Ac.cs,Ac.ks,Ac.ls,Ac.ns,Ac.fs]at z hl⊢
  grind
 ·rw[formed_8 hK,hH]
  unfold Bare Numbered Conds;rw[hD];clear hH hL hD hr;obtain⟨K,N,A,B,t,cs,ks,ls,ns,fs⟩:=T;obtain rfl:K=8:=hK;simp[hasNodeB,hasA,hasB',hasC,hasK,rest,zeroOf,same1_iff,kind,node,a,b,Ac.t,Ac.cs,Ac.ks,Ac.ls,Ac.ns,Ac.fs]at z hl⊢
  grind
 ·rw[formed_9 hK,hH]
  unfold Bare Numbered Conds;rw[hD];clear hH hL hD hr;obtain⟨K,N,A,B,t,cs,ks,ls,ns,fs⟩:=T;obtain rfl:K=9:=hK;simp[hasNodeB,hasA,hasB',hasC,hasK,rest,zeroOf,same1_iff,kind,node,a,b,Ac.t,Ac.cs,Ac.ks,Ac.ls,Ac.ns,Ac.fs]at z hl⊢
  grind
 ·rw[formed_10 hK,hH]
  unfold Bare Numbered Conds;rw[hD];clear hH hL hD hr;obtain⟨K,N,A,B,t,cs,ks,ls,ns,fs⟩:=T;obtain rfl:K=10:=hK;simp[hasNodeB,hasA,hasB',hasC,hasK,rest,zeroOf,same1_iff,kind,node,a,b,Ac.t,Ac.cs,Ac.ks,Ac.ls,Ac.ns,Ac.fs]at z hl⊢
  grind
 ·rw[formed_11 hK,hH]
  unfold Bare Numbered Conds;rw[hD];clear hH hL hD hr;obtain⟨K,N,A,B,t,cs,ks,ls,ns,fs⟩:=T;obtain rfl:K=11:=hK;simp[hasNodeB,hasA,hasB',hasC,hasK,rest,zeroOf,same1_iff,kind,node,a,b,Ac.t,Ac.cs,Ac.ks,Ac.ls,Ac.ns,Ac.fs]at z hl⊢
  grind
 ·by_cases ha:T.a=3
  ·rw[formed_12a hK ha,hH]
   unfold Bare Numbered Conds;rw[hD];clear hH hL hD hr;obtain⟨K,N,A,B,t,cs,ks,ls,ns,fs⟩:=T;obtain rfl:K=12:=hK;obtain rfl:A=3:=ha;simp[hasNodeB,hasA,hasB',hasC,hasK,rest,zeroOf,same1_iff,kind,node,a,b,Ac.t,Ac.cs,Ac.ks,Ac.ls,Ac.ns,Ac.fs]at z hl⊢
   grind
  rw[formed_12b hK ha,hH];unfold Bare Numbered Conds;rw[hD];clear hH hL hD hr;obtain⟨K,N,A,B,t,cs,ks,ls,ns,fs⟩:=T;obtain rfl:K=12:=hK;replace ha:¬A=3:=ha;simp[hasNodeB,hasA,hasB',hasC,hasK,rest,zeroOf,same1_iff,kind,node,a,b,Ac.t,Ac.cs,Ac.ks,Ac.ls,Ac.ns,Ac.fs,ha]at z hl⊢
  grind
 ·rw[formed_13 hK,hH,hL]
  unfold Bare Numbered Conds;rw[hD];clear hH hL hD hr;obtain⟨K,N,A,B,t,cs,ks,ls,ns,fs⟩:=T;obtain rfl:K=13:=hK;simp[hasNodeB,hasA,hasB',hasC,hasK,rest,zeroOf,same1_iff,kind,node,a,b,Ac.t,Ac.cs,Ac.ks,Ac.ls,Ac.ns,Ac.fs]at z hl⊢
  grind
 rw[formed_14 hK,hH];unfold Bare Numbered Conds;rw[hD];clear hH hL hD hr;obtain⟨K,N,A,B,t,cs,ks,ls,ns,fs⟩:=T;obtain rfl:K=14:=hK;simp[hasNodeB,hasA,hasB',hasC,hasK,rest,zeroOf,same1_iff,kind,node,a,b,Ac.t,Ac.cs,Ac.ks,Ac.ls,Ac.ns,Ac.fs]at z hl⊢
 grind
end Ac
end Go.Proofs
namespace Go.Proofs
open Go.RowKit
namespace Ac
mutual
def times (i:Int):Ac->Nat|mk k n _ _ _ _ ks _ _ _=>(if hasNodeB k=true/\n=i then 1 else 0)+timess i ks
def timess (i:Int):List Ac->Nat| []=>0|k::r=>times i k+timess i r
end
theorem times_eq (i:Int)(T:Ac):T.times i=(if hasNodeB T.kind=true/\T.node=i then 1 else 0)+timess i T.ks:=by cases T;rfl
theorem timess_snoc (i:Int)(l:List Ac)(a:Ac):timess i (l++ [a])=timess i l+a.times i:=by
 induction l with
 |nil=>simp[timess]
 |cons k r ih=>simp only[List.cons_append,timess,ih];omega
theorem timess_take (i:Int)(l:List Ac)(k:Nat)(h:k<l.length):timess i (l.take (k+1))=timess i (l.take k)+l[k].times i:=by rw[take_snoc l k h,timess_snoc]
mutual
theorem times_le (i:Int):∀T:Ac,T.times i<=T.size
 |mk k n _ _ _ _ ks _ _ _=>by
  rw[times,size];have:=timess_le i ks
  split<;>omega
theorem timess_le (i:Int):∀l:List Ac,timess i l<=sizes l
 | []=>by simp[timess,sizes]
 |k::r=>by rw[timess,sizes];have:=times_le i k;have:=timess_le i r;omega
end
def mark (bs:List Bool)(i:Nat):Nat:=if bs[i]? =some true then 1 else 0
theorem mark_le (bs:List Bool)(i:Nat):mark bs i<=1:=by unfold mark;split<;>omega
mutual
theorem go_times:∀(T:Ac) (bs:List Bool),bs.length=24->T.All NodeOk->
  (((T.go enterS bs).1=true↔∀i,i<24->mark bs i+T.times (i:Int)<=1)/\((T.go enterS bs).1=true->(T.go enterS bs).2.length=24/\∀i,i<24->mark (T.go enterS bs).2 i=mark bs i+T.times (i:Int)))
 |mk k n a b t c ks l x y,bs,hb,hN=>by
  obtain⟨hN1,hN2⟩:=hN;obtain⟨q,s1,hq⟩:∃q s1,enterS (mk k n a b t c ks l x y) bs=(q,s1):=⟨_,_,rfl⟩
  have hs:q=true->s1.length=24/\∀i,i<24->mark s1 i=mark bs i+(if hasNodeB k=true/\n=(i:Int)then 1 else 0):=λhqt=>by
   unfold enterS at hq;change (if hasNodeB k=true then(!((bs[n.toNat]?).getD true),bs.set n.toNat true)else(true,bs))=(q,s1)at hq
   by_cases hk:hasNodeB k=true
   rotate_left
   ·rw[if_neg hk]at hq
    obtain⟨h1,h2⟩:=Prod.mk.inj hq;refine⟨by rw[<-h2];exact hb,λi hi=> ?_⟩;rw[if_neg (λh=>hk h.1),Nat.add_zero,h2]
   rw[if_pos hk]at hq;obtain⟨h1,h2⟩:=Prod.mk.inj hq;have hn:=hN1 hk;have hnn:n=(n.toNat:Int):=by have:0<=n:=hn.1;omega
   have hlt:n.toNat<24:=by have:n<24:=hn.2;omega
   refine⟨by rw[<-h2,List.length_set];exact hb,λi hi=> ?_⟩
   have h1':(bs[n.toNat]?).getD true=false:=by
    rw[hqt]at h1;have h1:(!((bs[n.toNat]?).getD true))=true:=h1;simpa using h1
   have hget:bs[n.toNat]? =some false:=by
    rw[List.getElem?_eq_getElem (by omega)]at h1'⊢;simpa using h1'
   rw[<-h2];unfold mark;show(if(bs.set n.toNat true)[i]? =some true then 1 else 0)=_
   by_cases e:n.toNat=i
   ·subst e
    rw[List.getElem?_set_self (by omega),if_pos rfl,hget,if_neg (by simp),if_pos ⟨hk,hnn⟩]
   rw[List.getElem?_set_ne e];have:¬(hasNodeB k=true/\n=(i:Int)):=λh=>e (by have:=h.2;omega);rw[if_neg this,Nat.add_zero]
  have hf:q=false->∃i,i<24/\mark bs i=1/\hasNodeB k=true/\n=(i:Int):=λhqf=>by
   unfold enterS at hq;change (if hasNodeB k=true then(!((bs[n.toNat]?).getD true),bs.set n.toNat true)else(true,bs))=(q,s1)at hq
   by_cases hk:hasNodeB k=true
   ·rw[if_pos hk]at hq
    obtain⟨h1,h2⟩:=Prod.mk.inj hq;have hn:=hN1 hk;have hnn:n=(n.toNat:Int):=by have:0<=n:=hn.1;omega
    have hlt:n.toNat<24:=by have:n<24:=hn.2;omega
    refine⟨n.toNat,hlt, ?_,hk,hnn⟩;rw[hqf]at h1;have h1:(!((bs[n.toNat]?).getD true))=false:=h1;unfold mark;rw[List.getElem?_eq_getElem (by omega)]at h1⊢;rw[if_pos];simpa using h1
   rw[if_neg hk]at hq;obtain⟨h1,h2⟩:=Prod.mk.inj hq;rw[hqf]at h1
   cases h1
  rw[go,hq];dsimp only
  cases q with
  |false=>
   rw[if_neg (by simp)];obtain⟨i,hi,hm,hk,hn⟩:=hf rfl;refine⟨⟨λh=>by simp at h,λh=> ?_⟩,λh=>by simp at h⟩;have:=h i hi;rw[times,if_pos ⟨hk,hn⟩]at this;omega
  |true=>
   obtain⟨h1,h2⟩:=hs rfl;obtain⟨i1,i2⟩:=goes_times ks s1 h1 hN2;rw[if_pos rfl];refine⟨i1.trans ?_,λh=>⟨(i2 h).1,λi hi=> ?_⟩⟩
   ·constructor
    ·intro h i hi
     have:=h i hi;rw[h2 i hi]at this;rw[times];omega
    intro h i hi;have:=h i hi;rw[times]at this;rw[h2 i hi];omega
   rw[(i2 h).2 i hi,h2 i hi,times];omega
theorem goes_times : ∀ (ks : List Ac) (bs : List Bool), bs.length = 24 -> Alls NodeOk ks ->
    (((goes enterS ks bs).1 = true ↔ ∀ i, i < 24 -> mark bs i + timess (i : Int) ks <= 1) /\ ((goes enterS ks bs).1 = true -> (goes enterS ks bs).2.length = 24 /\ ∀ i, i < 24 -> mark (goes enterS ks bs).2 i = mark bs i + timess (i : Int) ks))
  | [], bs, hb, _ => by
    rw [goes];refine ⟨⟨λ_ i _ => by rw [timess]; have := mark_le bs i; omega, λ_ => rfl⟩, λ_ => ⟨hb, λi _ => by rw [timess]; rfl⟩⟩
  | k :: r, bs, hb, hN => by
    obtain ⟨i1, i2⟩ := go_times k bs hb hN.1;rw [goes]
    by_cases h : (go enterS k bs).1 = true
    · rw [if_pos h]
      obtain ⟨h1, h2⟩ := i2 h;obtain ⟨j1, j2⟩ := goes_times r _ h1 hN.2;refine ⟨j1.trans ?_, λhh => ⟨(j2 hh).1, λi hi => ?_⟩⟩
      · constructor
        · intro hh i hi
          have := hh i hi;rw [h2 i hi] at this;rw [timess];omega
        intro hh i hi;have := hh i hi;rw [timess] at this;rw [h2 i hi];omega
      rw [(j2 hh).2 i hi, h2 i hi, timess];omega
    rw [if_neg h];refine ⟨⟨λhh => by simp at hh, λhh => ?_⟩, λhh => by simp at hh⟩
    exfalso
    refine h (i1.2 λi hi => ?_);have := hh i hi;rw [timess] at this;omega
end
theorem twice_iff {T:Ac}(h:T.All NodeOk):T.twiceB=true↔∃i:Nat,i<24/\1<T.times (i:Int):=by
 have h1:=(go_times T (List.replicate 24 false) (by simp) h).1
 have hm:∀i,mark (List.replicate 24 false) i=0:=λi=>by
  unfold mark;rw[if_neg];intro h2;have:=List.mem_of_getElem? h2;simp at this
 unfold twiceB;rw[Bool.not_eq_true',<-Bool.not_eq_true,h1]
 constructor
 ·intro hh
  by_cases q:∃i:Nat,i<24/\1<T.times (i:Int)
  ·exact q
  exfalso
  refine hh λi hi=> ?_;rw[hm];have:¬1<T.times (i:Int):=λh2=>q ⟨i,hi,h2⟩;omega
 rintro⟨i,hi,h2⟩ hh;have:=hh i hi;rw[hm]at this;omega
theorem mem_alls {P:Ac->Prop} :∀{l:List Ac},Alls P l->∀k∈l,P k
 |k::r,h,x,hx=>by
  rcases List.mem_cons.1 hx with rfl|hx
  ·have:=h.1;rw[all_eq]at this;exact this.1
  exact mem_alls h.2 x hx
theorem kid_ok {T:Ac}(h:T.FormD∨T.Formed):(1<=T.kind/\T.kind<=14)/\(T.kind=12->1<=T.a/\T.a<=4):=by
 rcases h with h|h
 ·exact⟨numbered_kind h.2.2.1,formD_gate h⟩
 exact⟨formed_kind h,formed_gate h⟩
mutual
theorem form_all:∀T:Ac,T.All FormD↔T.All Formed
 |mk k n a b t c ks l x y=>by
  have hk:=forms_all ks;rw[All,All,hk]
  constructor
  ·rintro⟨h1,h2⟩
   exact⟨(form_iff (T:=mk k n a b t c ks l x y) λz hz=>kid_ok (.inl (mem_alls (hk.2 h2) z hz))).1 h1,h2⟩
  rintro⟨h1,h2⟩;exact⟨(form_iff (T:=mk k n a b t c ks l x y) λz hz=>kid_ok (.inr (mem_alls h2 z hz))).2 h1,h2⟩
theorem forms_all:∀l:List Ac,Alls FormD l↔Alls Formed l
 | []=>Iff.rfl
 |k::r=>by rw[Alls,Alls,form_all k,forms_all r]
end
mutual
theorem form_go2:∀(T:Ac) (s:Unit),T.All Formed->(T.go stepF s).1=true
 |mk k n a b t c ks l x y,s,h=>by
  rw[go,if_pos (show((mk k n a b t c ks l x y).stepF s).1=true from(formB_iff _).2 h.1)];exact forms_go2 ks _ h.2
theorem forms_go2:∀(l:List Ac) (s:Unit),Alls Formed l->(goes stepF l s).1=true
 | [],_,_=>rfl
 |k::r,s,h=>by
  rw[goes,if_pos (show(go stepF k s).1=true from form_go2 k s h.1)];exact forms_go2 r _ h.2
end
theorem form_go {T:Ac}(s:Unit)(h:T.All Formed):(T.go stepF s).1=true:=form_go2 T s h
noncomputable def docC (T:Ac):Int:=by classical exact if 96<T.size∨24<T.depth then 2 else if T.kind=10∨T.kind=12∨¬T.All FormD then 4 else if∃i:Nat,i<24/\1<T.times (i:Int)then 8 else 0
theorem doc_check (T:Ac):T.docC=T.checkC:=by
 unfold docC checkC tooB;have ht:(!decide (T.depth<=24/\T.size<=96))=true↔(96<T.size∨24<T.depth):=by simp;omega
 by_cases h1:96<T.size∨24<T.depth
 ·rw[if_pos h1,if_pos (ht.2 h1)]
 rw[if_neg h1,if_neg (λh=>h1 (ht.1 h))]
 have hg:(T.go stepF ()).1=false↔¬T.All FormD:=by
  rw[form_all]
  constructor
  ·intro h h2
   rw[form_go () h2]at h
   cases h
  intro h
  cases hq:(T.go stepF ()).1 with
  |false=>rfl
  |true=>exact absurd (go_form T () hq) h
 by_cases h2:T.kind=10∨T.kind=12∨¬T.All FormD
 ·have hc:T.kind=10∨T.kind=12∨(T.go stepF ()).1=false:=by rw[hg];exact h2
  rw[if_pos h2,if_pos hc]
 have hc:¬(T.kind=10∨T.kind=12∨(T.go stepF ()).1=false):=by rw[hg];exact h2
 rw[if_neg h2,if_neg hc];have hall:T.All FormD:=Classical.not_not.1 λh=>h2 (.inr (.inr h));have hn:T.All NodeOk:=all_mono formed_node T ((form_all T).1 hall);have:=twice_iff hn
 by_cases h3:∃i:Nat,i<24/\1<T.times (i:Int)
 ·rw[if_pos h3,if_pos (this.2 h3)]
 rw[if_neg h3,if_neg (λh=>h3 (this.1 h))]
end Ac
end Go.Proofs
namespace Go.Proofs
namespace Br
def seq (A B:Ac):Ac:=.mk 6 0 0 0 Bw.eZ [] [A,B] [] [] []
theorem size_seq (A B:Ac):(seq A B).size=A.size+B.size+1:=by
 show Ac.size (.mk _ _ _ _ _ _ _ _ _ _)=_;rw[Ac.size,Ac.sizes,Ac.sizes,Ac.sizes];omega
theorem too_iff (T:Ac):T.tooB=true↔(96<T.size∨24<T.depth):=by
 unfold Ac.tooB;rw[Bool.not_eq_true',decide_eq_false_iff_not];omega
theorem right_of {T:Ac}(h:T.checkC=0):T.size<=96/\T.depth<=24/\¬T.kind=10/\¬T.kind=12/\(T.go Ac.stepF ()).1=true/\1<=T.kind/\T.kind<=14:=by
 unfold Ac.checkC at h
 by_cases h1:T.tooB=true
 ·rw[if_pos h1]at h;exact absurd h (by decide)
 rw[if_neg h1]at h
 by_cases h2:T.kind=10∨T.kind=12∨(T.go Ac.stepF ()).1=false
 ·rw[if_pos h2]at h;exact absurd h (by decide)
 have h3:¬(96<T.size∨24<T.depth):=λe=>h1 ((too_iff T).2 e)
 have hg:(T.go Ac.stepF ()).1=true:=by
  cases e:(T.go Ac.stepF ()).1
  ·exact absurd (.inr (.inr e)) h2
  rfl
 have hf:=Ac.go_form T () hg;rw[T.all_eq]at hf;have hk:=Ac.formed_kind hf.1;exact⟨by omega,by omega,λe=>h2 (.inl e),λe=>h2 (.inr (.inl e)),hg,hk.1,hk.2⟩
theorem go_of {T:Ac}{s:Unit}(h:(T.go Ac.stepF ()).1=true):(T.go Ac.stepF s).1=true:=h
theorem seq_form (A B:Ac)(hA:A.checkC=0)(hB:B.checkC=0):(seq A B).Formed↔A.kind<13/\B.kind<13:=by
 rw[Ac.formed_6 rfl];have a:=right_of hA;have b:=right_of hB
 have hh:(seq A B).holdsB=true↔A.kind<13/\B.kind<13:=by
  show(!([A,B].any λk=>Ac.kidBad 6 k.kind))=true↔_;rw[Bool.not_eq_true',List.any_cons,List.any_cons,List.any_nil,Bool.or_false,Bool.or_eq_false_iff]
  have key:∀k:Int,1<=k->k<=14->¬k=10->¬k=12->(Ac.kidBad 6 k=false↔k<13):=λk h1 h2 h3 h4=>by
   unfold Ac.kidBad
   by_cases h5:k=13∨k=14
   ·rw[if_pos h5]
    exact⟨λh=>(by cases h),λh=>(by omega)⟩
   rw[if_neg h5,if_neg h4];have:(k==10)=false:=by simpa using h3
   rw[this];exact⟨λ_=>(by omega),λ_=>rfl⟩
  rw[key _ a.2.2.2.2.2.1 a.2.2.2.2.2.2 a.2.2.1 a.2.2.2.1,key _ b.2.2.2.2.2.1 b.2.2.2.2.2.2 b.2.2.1 b.2.2.2.1]
 rw[hh];exact⟨λh=>h.1,λh=>⟨h,Nat.le_refl 2,Bw.e_same (seq A B) rfl,trivial⟩⟩
theorem seq_go (A B:Ac)(hA:A.checkC=0)(hB:B.checkC=0)(hk:A.kind<13/\B.kind<13):((seq A B).go Ac.stepF ()).1=true:=by
 rw[Ac.go_eq,if_pos (show(Ac.stepF (seq A B) ()).1=true from(Ac.formB_iff _).2 ((seq_form A B hA hB).2 hk))];show(Ac.goes Ac.stepF [A,B] _).1=true;rw[Ac.goes,if_pos (go_of (right_of hA).2.2.2.2.1),Ac.goes,if_pos (go_of (right_of hB).2.2.2.2.1)];rfl
theorem seq_nogo (A B:Ac)(hA:A.checkC=0)(hB:B.checkC=0)(hk:¬(A.kind<13/\B.kind<13)):((seq A B).go Ac.stepF ()).1=false:=by
 cases e:((seq A B).go Ac.stepF ()).1
 ·rfl
 have h:=Ac.go_form _ () e;rw[Ac.all_eq]at h;exact absurd ((seq_form A B hA hB).1 h.1) hk
theorem check_long (A B:Ac)(h:96<(seq A B).size∨24<(seq A B).depth):(seq A B).checkC=2:=by
 unfold Ac.checkC;rw[if_pos ((too_iff _).2 h)]
theorem check_form (A B:Ac)(hA:A.checkC=0)(hB:B.checkC=0)(h:¬(96<(seq A B).size∨24<(seq A B).depth))(hk:¬(A.kind<13/\B.kind<13)):(seq A B).checkC=4:=by
 unfold Ac.checkC;rw[if_neg (λe=>h ((too_iff _).1 e)),if_pos (.inr (.inr (seq_nogo A B hA hB hk)))]
theorem check_same (A B:Ac)(hA:A.checkC=0)(hB:B.checkC=0)(h:¬(96<(seq A B).size∨24<(seq A B).depth))(hk:A.kind<13/\B.kind<13):(seq A B).checkC=0∨(seq A B).checkC=8:=by
 unfold Ac.checkC;rw[if_neg (λe=>h ((too_iff _).1 e)),if_neg ?_]
 ·by_cases ht:(seq A B).twiceB=true
  ·rw[if_pos ht];exact .inr rfl
  rw[if_neg ht];exact .inl rfl
 rintro(e|e|e)
 ·exact absurd (show(6:Int)=10 from e) (by decide)
 ·exact absurd (show(6:Int)=12 from e) (by decide)
 rw[seq_go A B hA hB hk]at e;cases e
end Br
end Go.Proofs
namespace Go.Proofs
open Go.RowKit
theorem Br.lies_e {w:World}{B e:Nat} :∀{d:Nat} {V:Ac.Vs} {T:Ac},Ac.Lies w B e d V T->Ac.Lies w B (e+1) d V T
 |0,_,_,h=>h.elim
 |d+1,V,T,h=>by
  obtain⟨ho,a,cap,hv,h⟩:=h;refine⟨Ak.own_up ho,a,cap,hv,λj hj=> ?_⟩;obtain⟨g,off,U,ha,hg,hr,h1⟩:=h j hj;exact⟨g,off,U,ha,hg,hr,Br.lies_e h1⟩
theorem Br.lies_d {w:World}{B e:Nat} :∀{d:Nat} {V:Ac.Vs} {T:Ac},Ac.Lies w B e d V T->Ac.Lies w B e (d+1) V T
 |0,_,_,h=>h.elim
 |d+1,V,T,h=>by
  obtain⟨ho,a,cap,hv,h⟩:=h;refine⟨ho,a,cap,hv,λj hj=> ?_⟩;obtain⟨g,off,U,ha,hg,hr,h1⟩:=h j hj;exact⟨g,off,U,ha,hg,hr,Br.lies_d h1⟩
theorem Br.lies_le {w:World}{B e d e' d':Nat}{V:Ac.Vs}{T:Ac}(h:Ac.Lies w B e d V T)(he:e<=e')(hd:d<=d'):Ac.Lies w B e' d' V T:=by
 obtain⟨k,rfl⟩:=Nat.le.dest he;obtain⟨m,rfl⟩:=Nat.le.dest hd
 have h1:Ac.Lies w B (e+k) d V T:=by
  clear he hd
  induction k with
  |zero=>exact h
  |succ k ih=>exact Br.lies_e ih
 clear he hd h
 induction m with
 |zero=>exact h1
 |succ m ih=>exact Br.lies_d ih
theorem Br.seq_lies (W:World)(B K e d e' d':Nat)(U V:Ac.Vs)(S T:Ac)(hK:K<B)(hS:Ac.Lies W B e d U S)(hT:Ac.Lies W B e' d' V T)(rS:Ac.Row W K 0 (Ac.row S U))(rT:Ac.Row W K 12 (Ac.row T V)):Ac.Lies W B (e+e'+1) (d+d'+1) (Bw.vS K) (Br.seq S T):=by
 refine⟨⟨⟨none,0,rfl,.inl rfl⟩,⟨none,0,rfl,λj h=>absurd h (Nat.not_lt_zero j)⟩,⟨none,0,rfl,λj h=>absurd h (Nat.not_lt_zero j)⟩,⟨none,0,rfl,λj h=>absurd h (Nat.not_lt_zero j)⟩,⟨none,0,rfl,λj h=>absurd h (Nat.not_lt_zero j)⟩⟩,some ⟨K,0,none⟩,2,rfl,λj hj=> ?_⟩
 match j,hj with
 |0,_=>exact⟨K,0,U,rfl,hK,rS,Br.lies_le hS (by omega) (by omega)⟩
 |1,_=>exact⟨K,0,V,rfl,hK,rT,Br.lies_le hT (by omega) (by omega)⟩
theorem Br.row_at {W:World}{K:Nat}{cs:Array Value}{T:TypeId}(h:W.heap[K]? =some (.cells cs T (0,0)))(o:Nat)(r:Array Value)(hr:∀i,i<r.size->cs[o+i]? =r[i]?):Ac.Row W K o r:=λi hi=>by
 simp only[World.cell?,h];rw[hr i hi,Array.getElem?_eq_getElem hi];rfl
end Go.Proofs
