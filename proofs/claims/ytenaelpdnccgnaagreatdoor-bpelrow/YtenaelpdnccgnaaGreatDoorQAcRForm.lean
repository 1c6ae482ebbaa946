import Derived.Test.YtenaelpdnccgnaaGreatDoorQAcRBare
import Derived.Test.YtenaelpdnccgnaaGreatDoorQAcRNum
set_option maxRecDepth 100000
set_option maxHeartbeats 32000000
namespace Go.Proofs
open Go.RowKit Go.Shelf
namespace Ac
theorem has_other {k a:Int}(h:k≠2/\k≠3/\k≠4/\k≠5/\k≠6/\k≠7/\k≠8/\k≠9/\k≠10/\k≠11/\k≠12/\k≠13/\k≠14):hasL k a= []:=by
 unfold hasL;rw[if_neg (by omega),if_neg (by omega),if_neg (by omega),if_neg (by omega),if_neg (by omega),if_neg (by omega),if_neg (by omega),if_neg (by omega),if_neg (by omega),if_neg (by omega),if_neg (by omega)]
theorem has_let (k a:Int):inB (hasL k a) 110=hasNodeB k/\inB (hasL k a) 97=hasA k/\inB (hasL k a) 98=hasB' k a/\inB (hasL k a) 116=decide (k=3)/\inB (hasL k a) 99=hasC k a/\inB (hasL k a) 107=hasK k/\inB (hasL k a) 108=decide (k=13)/\inB (hasL k a) 112=decide (k=14):=by
 by_cases h:k≠2/\k≠3/\k≠4/\k≠5/\k≠6/\k≠7/\k≠8/\k≠9/\k≠10/\k≠11/\k≠12/\k≠13/\k≠14
 ·rw[has_other h]
  unfold inB hasNodeB hasA hasB' hasC hasK
  simp
  omega
 have:k=2∨k=3∨k=4∨k=5∨k=6∨k=7∨k=8∨k=9∨k=10∨k=11∨k=12∨k=13∨k=14:=by omega
 rcases this with rfl|rfl|rfl|rfl|rfl|rfl|rfl|rfl|rfl|rfl|rfl|rfl|rfl
 all_goals first
  |decide
  |(by_cases h3:a=3
    ·subst h3;decide
    simp[hasL,inB,hasNodeB,hasA,hasB',hasC,hasK,h3])
  |(simp[hasL,inB,hasNodeB,hasA,hasB',hasC,hasK])
end Ac
theorem Ac.hasL_size (k a:Int):(⟨(Ac.hasL k a).toArray⟩:ByteArray).size<=2147483647:=by
 show(Ac.hasL k a).toArray.size<=_;rw[List.size_toArray];unfold Ac.hasL
 repeat' split
 all_goals simp
theorem Ac.combos (k a:Int):(Ac.inB (Ac.hasL k a) 110=true/\Ac.inB (Ac.hasL k a) 97=true/\Ac.inB (Ac.hasL k a) 98=false/\Ac.inB (Ac.hasL k a) 116=false/\Ac.inB (Ac.hasL k a) 99=false/\Ac.inB (Ac.hasL k a) 107=false/\Ac.inB (Ac.hasL k a) 108=false/\Ac.inB (Ac.hasL k a) 112=false)∨(Ac.inB (Ac.hasL k a) 110=true/\Ac.inB (Ac.hasL k a) 97=true/\Ac.inB (Ac.hasL k a) 98=false/\Ac.inB (Ac.hasL k a) 116=true/\Ac.inB (Ac.hasL k a) 99=false/\Ac.inB (Ac.hasL k a) 107=false/\Ac.inB (Ac.hasL k a) 108=false/\Ac.inB (Ac.hasL k a) 112=false)∨(Ac.inB (Ac.hasL k a) 110=true/\Ac.inB (Ac.hasL k a) 97=false/\Ac.inB (Ac.hasL k a) 98=false/\Ac.inB (Ac.hasL k a) 116=false/\Ac.inB (Ac.hasL k a) 99=false/\Ac.inB (Ac.hasL k a) 107=false/\Ac.inB (Ac.hasL k a) 108=false/\Ac.inB (Ac.hasL k a) 112=false)∨(Ac.inB (Ac.hasL k a) 110=false/\Ac.inB (Ac.hasL k a) 97=false/\Ac.inB (Ac.hasL k a) 98=false/\Ac.inB (Ac.hasL k a) 116=false/\Ac.inB (Ac.hasL k a) 99=false/\Ac.inB (Ac.hasL k a) 107=true/\Ac.inB (Ac.hasL k a) 108=false/\Ac.inB (Ac.hasL k a) 112=false)∨(Ac.inB (Ac.hasL k a) 110=true/\Ac.inB (Ac.hasL k a) 97=true/\Ac.inB (Ac.hasL k a) 98=false/\Ac.inB (Ac.hasL k a) 116=false/\Ac.inB (Ac.hasL k a) 99=true/\Ac.inB (Ac.hasL k a) 107=true/\Ac.inB (Ac.hasL k a) 108=false/\Ac.inB (Ac.hasL k a) 112=false)∨(Ac.inB (Ac.hasL k a) 110=true/\Ac.inB (Ac.hasL k a) 97=false/\Ac.inB (Ac.hasL k a) 98=false/\Ac.inB (Ac.hasL k a) 116=false/\Ac.inB (Ac.hasL k a) 99=false/\Ac.inB (Ac.hasL k a) 107=true/\Ac.inB (Ac.hasL k a) 108=false/\Ac.inB (Ac.hasL k a) 112=false)∨(Ac.inB (Ac.hasL k a) 110=true/\Ac.inB (Ac.hasL k a) 97=true/\Ac.inB (Ac.hasL k a) 98=false/\Ac.inB (Ac.hasL k a) 116=false/\Ac.inB (Ac.hasL k a) 99=false/\Ac.inB (Ac.hasL k a) 107=true/\Ac.inB (Ac.hasL k a) 108=false/\Ac.inB (Ac.hasL k a) 112=false)∨(Ac.inB (Ac.hasL k a) 110=true/\Ac.inB (Ac.hasL k a) 97=true/\Ac.inB (Ac.hasL k a) 98=true/\Ac.inB (Ac.hasL k a) 116=false/\Ac.inB (Ac.hasL k a) 99=true/\Ac.inB (Ac.hasL k a) 107=true/\Ac.inB (Ac.hasL k a) 108=false/\Ac.inB (Ac.hasL k a) 112=false)∨(Ac.inB (Ac.hasL k a) 110=true/\Ac.inB (Ac.hasL k a) 97=true/\Ac.inB (Ac.hasL k a) 98=true/\Ac.inB (Ac.hasL k a) 116=false/\Ac.inB (Ac.hasL k a) 99=true/\Ac.inB (Ac.hasL k a) 107=false/\Ac.inB (Ac.hasL k a) 108=false/\Ac.inB (Ac.hasL k a) 112=false)∨(Ac.inB (Ac.hasL k a) 110=false/\Ac.inB (Ac.hasL k a) 97=false/\Ac.inB (Ac.hasL k a) 98=false/\Ac.inB (Ac.hasL k a) 116=false/\Ac.inB (Ac.hasL k a) 99=false/\Ac.inB (Ac.hasL k a) 107=true/\Ac.inB (Ac.hasL k a) 108=true/\Ac.inB (Ac.hasL k a) 112=false)∨(Ac.inB (Ac.hasL k a) 110=false/\Ac.inB (Ac.hasL k a) 97=false/\Ac.inB (Ac.hasL k a) 98=false/\Ac.inB (Ac.hasL k a) 116=false/\Ac.inB (Ac.hasL k a) 99=false/\Ac.inB (Ac.hasL k a) 107=false/\Ac.inB (Ac.hasL k a) 108=false/\Ac.inB (Ac.hasL k a) 112=true)∨(Ac.inB (Ac.hasL k a) 110=false/\Ac.inB (Ac.hasL k a) 97=false/\Ac.inB (Ac.hasL k a) 98=false/\Ac.inB (Ac.hasL k a) 116=false/\Ac.inB (Ac.hasL k a) 99=false/\Ac.inB (Ac.hasL k a) 107=false/\Ac.inB (Ac.hasL k a) 108=false/\Ac.inB (Ac.hasL k a) 112=false):=by
 obtain⟨e1,e2,e3,e4,e5,e6,e7,e8⟩:=Ac.has_let k a;rw[e1,e2,e3,e4,e5,e6,e7,e8]
 by_cases h:k≠2/\k≠3/\k≠4/\k≠5/\k≠6/\k≠7/\k≠8/\k≠9/\k≠10/\k≠11/\k≠12/\k≠13/\k≠14
 ·refine .inr (.inr (.inr (.inr (.inr (.inr (.inr (.inr (.inr (.inr (.inr ?_))))))))))
  unfold Ac.hasNodeB Ac.hasA Ac.hasB' Ac.hasC Ac.hasK
  simp
  omega
 have:k=2∨k=3∨k=4∨k=5∨k=6∨k=7∨k=8∨k=9∨k=10∨k=11∨k=12∨k=13∨k=14:=by omega
 rcases this with rfl|rfl|rfl|rfl|rfl|rfl|rfl|rfl|rfl|rfl|rfl|rfl|rfl
 all_goals first
  |decide
  |(by_cases h3:a=3
    ·subst h3;decide
    simp[Ac.hasNodeB,Ac.hasA,Ac.hasB',Ac.hasC,Ac.hasK,h3])
  |(simp[Ac.hasNodeB,Ac.hasA,Ac.hasB',Ac.hasC,Ac.hasK];omega)
  |(simp[Ac.hasNodeB,Ac.hasA,Ac.hasB',Ac.hasC,Ac.hasK])
theorem Tryz.r16bare_any (d e:Nat)(T:Ac)(V:Ac.Vs)(w:World)(hT:Ac.Lies w w.heap.size e d V T)(hF:T.Fit):
  Calls Tryz.prog 51 #[.agg (Ac.row T V)] w λe w'=>Ak.Told T.Bare e/\Below w.heap.size w w':=by
 obtain⟨a6,c6,a7,c7,a8,c8,a9,c9,a10,c10,a11,c11,rfl⟩:=hT.shape
 have key:=Tryz.r16bare_lit T.kind T.node T.a T.b T.t.op T.t.num a6 a7 a8 a9 a10 a11 T.t.ks.length c6 T.cs.length c7 T.ks.length c8 T.ls.length c9 T.ns.length c10 T.fs.length c11 ⟨(Ac.hasL T.kind T.a).toArray⟩ (Nt.zeroB T.t) _ _ _ _ _ _ _ _ w (Ac.combos T.kind T.a)
  (λW _=>Tryz.r16Has_any T.kind T.a _ _ _ _ _ _ _ _ _ _ W)
  (λW=>Tryz.r16in_any _ 110 W (Ac.hasL_size _ _)) (λW=>Tryz.r16in_any _ 97 W (Ac.hasL_size _ _)) (λW=>Tryz.r16in_any _ 98 W (Ac.hasL_size _ _)) (λW=>Tryz.r16in_any _ 116 W (Ac.hasL_size _ _)) (λW=>Tryz.r16in_any _ 99 W (Ac.hasL_size _ _)) (λW=>Tryz.r16in_any _ 107 W (Ac.hasL_size _ _)) (λW=>Tryz.r16in_any _ 108 W (Ac.hasL_size _ _)) (λW=>Tryz.r16in_any _ 112 W (Ac.hasL_size _ _))
  (λW hb=>Tryz.r16none_any e T.t _ W ((hT.own.t.below hb).wider hb.size) hF.t.1)
 refine key.mono λe' w' h=>⟨?_,h.2⟩;obtain⟨r,h1,h2⟩:=h.1;refine⟨r,h1,h2.trans ?_⟩;obtain⟨e1,e2,e3,e4,e5,e6,e7,e8⟩:=Ac.has_let T.kind T.a;rw[e1,e2,e3,e4,e5,e6,e7,e8];unfold Ac.Bare;simp only[decide_eq_false_iff_not]
theorem Tryz.r16numbered_any (d e:Nat)(T:Ac)(V:Ac.Vs)(w:World)(hT:Ac.Lies w w.heap.size e d V T)(hF:T.Fit):
  Calls Tryz.prog 52 #[.agg (Ac.row T V)] w λe w'=>Ak.Told T.Numbered e/\Below w.heap.size w w':=by
 obtain⟨a6,c6,a7,c7,a8,c8,a9,c9,a10,c10,a11,c11,rfl⟩:=hT.shape;obtain⟨q7,p7,h7,hC⟩:=hT.own.c;obtain⟨q10,p10,h10,hN⟩:=hT.own.n;obtain⟨q11,p11,h11,hL⟩:=hT.own.f;simp only[Value.slice.injEq]at h7 h10 h11;obtain⟨rfl,-,rfl⟩:=h7;obtain⟨rfl,-,rfl⟩:=h10;obtain⟨rfl,-,rfl⟩:=h11
 have key:=Tryz.r16num_any T.kind T.node T.a T.b T.t.op T.t.num a6 a7 a8 a9 a10 a11 T.t.ks.length c6 T.cs.length c7 T.ks.length c8 T.ls.length c9 T.ns.length c10 T.fs.length c11 (Nt.ofB T.t 1) (λo=>(decide (0<=o)&&decide (o<(T.cs.length:Int)))&&Ac.choiceB T.cs o) T.LinkD (Nt.checkN T.ns T.fs).1 (Nt.checkN T.ns T.fs).2 w (by have:=hF.kl;omega) (by have:=hF.cl;omega)
  (λW hb=>Tryz.r16of_any 1 e T.t _ W ((hT.own.t.below hb).wider hb.size) hF.t.1)
  (λW o hb=>Tryz.r16conds_any T.cs a7 c7 o e W ((hC.keep hb.block).wider hb.size) (λx hx=>(hF.c x hx).1) (by have:=hF.cl;omega))
  (λW hb=>Tryz.r16linked_any d e T ⟨.slice a6 T.t.ks.length c6,.slice a7 T.cs.length c7,.slice a8 T.ks.length c8,.slice a9 T.ls.length c9,.slice a10 T.ns.length c10,.slice a11 T.fs.length c11⟩ W ((hT.below hb).wider hb.size) hF.ll hF.kl)
  (λW hb=>Tryz.rCheck_any a10 c10 a11 c11 e T.ns T.fs W ⟨(hN.below hb).wider hb.size,(hL.below hb).wider hb.size,hF.nl,hF.fl,λx hx=>(hF.n x hx).1,λx hx=>(hF.f x hx).1⟩)
 refine key.mono λe' w' h=>⟨?_,h.2⟩;obtain⟨r,h1,h2⟩:=h.1;refine⟨r,h1,h2.trans ?_⟩;unfold Ac.NumP Ac.Numbered Ac.Conds;simp only[Bool.and_eq_true,decide_eq_true_eq]
theorem Ak.load_want {ops:Array Oper}{rest:List Oper}{o:Oper}{a:Act}{w:World}{Q:Exit->Act->World->Prop}(hw:Region.wanted o (yielded ops a.tmps)=true)(ty:TypeId)(x:Operand)(ho:o.op=.load ty x)
  (b p:Nat) (hx:a.eval x=.pointer (some ⟨b,p,none⟩)) (cs:List Value) (d:TypeDesc) (hr:w.rangeAt b p cs) (hu:Tryz.prog.underlying ty=some d) (hd:d.isRow=true) (hi:(Tryz.prog.info? ty).map (·.size)=some cs.length)
  (h:wpList Tryz.prog ops Q rest (a.put o.dst (.agg cs.toArray)) w):wpList Tryz.prog ops Q (o::rest) a w:=
 wpList_step λK hK=>by
  simp only[hw,if_true];unfold Oper.wp execOp;simp only[ho,hx,Instr.loadAt,Instr.sureAddr,Sem.run_bind,Sem.run_pure,Result.andThen_ok,run_loadVar_mid w b p ty cs d hr hu hd hi];exact hK _ _ h
theorem Ak.range_box {W:World}{g:Nat}{xs:Array Value}{ty:TypeId}{z:Nat×Nat}(h:W.heap[g]? =some (.cells xs ty z)):W.rangeAt g 0 xs.toList:=λi v hv=>by
 rw[Array.getElem?_toList]at hv;rw[Nat.zero_add];simp[World.cell?,h,hv]
def Ac.FormAll (T:Ac):Prop:=T.All Ac.FormD
theorem Ac.formAll_iff (T:Ac):T.FormAll↔(T.Bare/\0<=T.node/\T.node<=23/\T.Numbered/\∀j (h:j<T.ks.length),Ac.kidBadD T.kind T.ks[j].kind=false/\T.ks[j].FormAll):=by
 unfold Ac.FormAll
 have key:∀l:List Ac,Ac.Alls Ac.FormD l↔∀j (h:j<l.length),l[j].All Ac.FormD:=by
  intro l
  induction l with
  |nil=>simp[Ac.Alls]
  |cons x r ih=>
   rw[Ac.Alls,ih]
   constructor
   ·rintro⟨h1,h2⟩ j hj
    cases j with
    |zero=>exact h1
    |succ j=>exact h2 j (by simpa using hj)
   intro h;exact⟨h 0 (by simp),λj hj=>h (j+1) (by simpa using hj)⟩
 rw[Ac.all_eq,key]
 constructor
 ·rintro⟨hf,h6⟩
  obtain⟨h1,⟨h2,h3⟩,h4,h5⟩:=hf;exact⟨h1,h2,h3,h4,λj hj=>⟨h5 _ (List.getElem_mem hj),h6 j hj⟩⟩
 rintro⟨h1,h2,h3,h4,h5⟩;refine⟨⟨h1,⟨h2,h3⟩,h4,λk hk=> ?_⟩,λj hj=>(h5 j hj).2⟩;obtain⟨j,hj,rfl⟩:=List.getElem_of_mem hk;exact(h5 j hj).1
theorem Tryz.r16Form_any:∀(d e:Nat) (T:Ac) (V:Ac.Vs) (w:World),Ac.Lies w w.heap.size e d V T->T.All Ac.Fit->T.size<=2147483647->
  Calls Tryz.prog 28 #[.agg (Ac.row T V)] w λe w'=>Ak.Told T.FormAll e/\Below w.heap.size w w':=by
 intro d
 induction d with
 |zero=>intro e T V w h;exact h.elim
 |succ d ih=>
  intro e T V w hT hFA hsz;rw[T.all_eq]at hFA;obtain⟨a,cap,hvk⟩:=hT.kids;obtain⟨n,hn⟩:=pE (T.ks.length);rw[hn]at hvk;have hnb:n<=2147483647:=by have h1:=Ac.length_le_sizes T.ks;have h2:=T.size_eq;omega
  obtain⟨k,hk⟩:=pE (T.kind);obtain⟨m,hm⟩:=pE (T.node);obtain⟨x2,x3,x4,x5,x6,x7,x9,x10,x11,hrow⟩:∃x2 x3 x4 x5 x6 x7 x9 x10 x11,Ac.row T V=#[.int .i64 k,.int .i64 m,x2,x3,x4,x5,x6,x7,.slice a n cap,x9,x10,x11]:=⟨_,_,_,_,_,_,_,_,_,by unfold Ac.row;rw[hvk,hk,hm]⟩;obtain⟨P,hP⟩:=pE (T.FormAll);obtain⟨PB,hPB⟩:=pE (T.Bare);obtain⟨PN,hPN⟩:=pE (T.Numbered)
  have HP:Hid (P↔(PB/\0<=m/\m<=23/\PN/\∀j (h:j<T.ks.length),Ac.kidBadD k T.ks[j].kind=false/\T.ks[j].FormAll)):=by
   show _↔_;rw[<-hP,T.formAll_iff,hPB,hPN,hk,hm]
  rw[hP];have CB0:∀W,Below w.heap.size w W->Calls Tryz.prog 51 #[.agg (Ac.row T V)] W λe w'=>Ak.Told PB e/\Below W.heap.size W w':=λW hb=>by rw[<-hPB];exact Tryz.r16bare_any _ e T V W ((hT.below hb).wider hb.size) hFA.1
  have CN0:∀W,Below w.heap.size w W->Calls Tryz.prog 52 #[.agg (Ac.row T V)] W λe w'=>Ak.Told PN e/\Below W.heap.size W w':=λW hb=>by rw[<-hPN];exact Tryz.r16numbered_any _ e T V W ((hT.below hb).wider hb.size) hFA.1
  rw[hrow]at CB0 CN0⊢;obtain⟨w1,hw1⟩:=pE (w.alloc (.cells #[.int .i64 k,.int .i64 m,x2,x3,x4,x5,x6,x7,.slice a n cap,x9,x10,x11] 44));have B1:=pB hw1
  have N1:w1.heap[w.heap.size]? =some (.cells #[.int .i64 k,.int .i64 m,x2,x3,x4,x5,x6,x7,.slice a n cap,x9,x10,x11] 44 (0,0)):=by rw[<-hw1];exact heap_alloc_new w _
  have H1:Hid _:=hw1;have CB:Hid _:=CB0;have CN:Hid _:=CN0;have HF:Hid (∀W,Below w1.heap.size w1 W->W.heap[w.heap.size]? =some (.cells #[.int .i64 k,.int .i64 m,x2,x3,x4,x5,x6,x7,.slice a n cap,x9,x10,x11] 44 (0,0))/\Below w.heap.size w W):=λW hb=>⟨(hb.block _ (Array.getElem?_eq_some_iff.1 N1).1).trans N1,B1.trans (hb.mono B1.size)⟩;have HT:Hid (Ac.Lies w w.heap.size e (d+1) V T/\V.k=.slice a n cap):=⟨hT,hvk⟩;have HI:Hid _:=ih;have HM:Hid (T.ks.length=n/\T.size<=2147483647/\Ac.Alls Ac.Fit T.ks):=⟨hn,hsz,hFA.2⟩;have ha:=Tryz.underlying44;have ia:(Tryz.prog.info? 44).map (·.size)=some (#[.int .i64 k,.int .i64 m,x2,x3,x4,x5,x6,x7,.slice a n cap,x9,x10,x11]:Array Value).size:=Ak.rinfo;clear ih hT hFA hsz hvk hn hrow hw1 B1 hP hPB hPN CB0 CN0 hk hm
  go_enter Tryz.func28,Tryz.ntmps28
  go_upto_region 1 with fail
  rw[H1.out];clear H1
  go_wp2_with (refine wpList_load_row rfl 44 _ rfl _ rfl 44 _ (0,0) _ N1 ha rfl ia ?_)
  refine Calls.mono (CB.out _ (HF.out _ (Below.refl _ _)).2) ?_;rintro e2 W2 ⟨⟨r,rfl,hr⟩,b2⟩;have HB2:Hid (Below w1.heap.size w1 W2):=b2;have HR:Hid (r=true↔PB):=hr;have N2:=(HF.out _ b2).1;have HX2:Hid (Below w.heap.size w W2):=(HF.out _ b2).2;clear b2 hr N1 CB;have p0:W2.cell? ⟨w.heap.size,0,none⟩=some (.int .i64 k):=by simp[World.cell?,N2]
  have p1:W2.cell? ⟨w.heap.size,1,none⟩=some (.int .i64 m):=by simp[World.cell?,N2]
  cases r with
  |false=>
   have HN:Hid (¬P):=λh=>by have:=HR.out.2 (HP.out.1 h).1;cases this
   go_wp2;go_ret;exact⟨Ak.Told.no HN.out,HX2.out⟩
  |true=>
  have HPB:Hid PB:=HR.out.1 rfl;clear HR
  by_cases g1:m<0
  ·have f1:decide (m<0)=true:=decide_eq_true g1
   have HN:Hid (¬P):=λh=>by have:=(HP.out.1 h).2.1;omega
   clear g1;go_wp2;go_ret;exact⟨Ak.Told.no HN.out,HX2.out⟩
  have f1:decide (m<0)=false:=decide_eq_false g1
  by_cases g2:23<m
  ·have f2:decide (23<m)=true:=decide_eq_true g2
   have HN:Hid (¬P):=λh=>by have:=(HP.out.1 h).2.2.1;omega
   clear g1 g2;go_wp2;go_ret;exact⟨Ak.Told.no HN.out,HX2.out⟩
  have f2:decide (23<m)=false:=decide_eq_false g2;have HMM:Hid (0<=m/\m<=23):=⟨by omega,by omega⟩;have RG:=Ak.range_box N2;clear g1 g2
  go_wp2_with (refine Ak.load_want (by rfl) 44 _ rfl w.heap.size 0 rfl _ _ RG ha rfl ia ?_)
  refine Calls.mono (CN.out _ HX2.out) ?_;rintro e3 W3 ⟨⟨r,rfl,hr⟩,b3⟩;have HB3:Hid (Below w1.heap.size w1 W3):=HB2.out.trans (b3.mono HB2.out.size);have HR:Hid (r=true↔PN):=hr;have HX3:Hid (Below w.heap.size w W3):=(HF.out _ HB3.out).2;have N3:=(HF.out _ HB3.out).1;clear b3 hr N2 CN RG p0 p1 f1 f2 HB2 HX2;have p0:W3.cell? ⟨w.heap.size,0,none⟩=some (.int .i64 k):=by simp[World.cell?,N3]
  have p8:W3.cell? ⟨w.heap.size,8,none⟩=some (.slice a n cap):=by simp[World.cell?,N3]
  cases r with
  |false=>
   have HN:Hid (¬P):=λh=>by have:=HR.out.2 (HP.out.1 h).2.2.2.1;cases this
   go_wp2;go_ret;exact⟨Ak.Told.no HN.out,HX3.out⟩
  |true=>
  have HPN:Hid PN:=HR.out.1 rfl;clear HR N3;go_wp2
  go_loopg [4,26] n (λgk _ s26 wr=>∃j:Nat,gk+j=n/\s26=.int .i64 j/\Hid ((∀i (h:i<T.ks.length),i<j->Ac.kidBadD k T.ks[i].kind=false/\T.ks[i].FormAll)/\Below w1.heap.size w1 wr))
  case atStart=>exact⟨0,by omega,rfl,λi _ h=>absurd h (by omega),HB3.out⟩
  case round=>
   obtain⟨j,hj,rfl,HJ⟩:=hrel;clear p0 p8
   by_cases hjn:j<n
   rotate_left
   ·have hd:decide ((j:Int)<n)=false:=decide_eq_false (by omega)
    have HPP:Hid P:=HP.out.2 ⟨HPB.out,HMM.out.1,HMM.out.2,HPN.out,λi h=>HJ.out.1 i h (by have:=HM.out.1;omega)⟩;have HX:Hid (Below w.heap.size w wr):=(HF.out _ HJ.out.2).2;go_wp2;go_ret;exact⟨Ak.Told.yes HPP.out,HX.out⟩
   have hd:decide ((j:Int)<n)=true:=decide_eq_true (by omega);have hjk:j<T.ks.length:=by rw[HM.out.1];exact hjn
   have hxs:=Ac.sizes_get T.ks j hjk;have j0:(0:Int)<=j:=by omega
   have j1:(j:Int)<n:=by omega
   obtain⟨g,off,U,xs,w2,K⟩:=Ak.kid_at HT.out.1 HT.out.2 (HF.out _ HJ.out.2).2 j hjk;have hfk:=Ac.alls_get HM.out.2.2 j hjk;have HNO:Hid (¬(Ac.kidBadD k T.ks[j].kind=false/\T.ks[j].FormAll)->¬P):=λh h2=>h ((HP.out.1 h2).2.2.2.2 j hjk);obtain⟨x,hx⟩:=pE (T.ks[j]);rw[hx]at hxs K hfk HNO;have hcall:=HI.out e x U w2 K.lies hfk (by have:=HM.out.2.1;have:=T.size_eq;omega);obtain⟨y,hy⟩:=pE (x.kind);obtain⟨Q,hQ⟩:=pE (x.FormAll);have hr0:xs[0]? =some (.int .i64 y):=by rw[<-K.row,<-hy];rfl
   rw[K.row,hQ]at hcall;rw[hy,hQ]at HNO;have HC:Hid _:=hcall;have HY:Hid (T.ks[j]=x/\x.kind=y/\x.FormAll=Q):=⟨hx,hy,hQ⟩;obtain⟨rfl,-,ryr,xone,ix,ixl,NZ,ez,hw2,NK,B2,-,-⟩:=K;have HB2:Hid (Below w1.heap.size w1 w2):=HJ.out.2.trans (B2.mono HJ.out.2.size);obtain⟨kb,hkb⟩:=pE (wr.heap.size);have HKB:Hid (wr.heap.size=kb):=hkb;have HW2:Hid _:=hw2;rw[hkb]at NK;have NB:=(HF.out _ HB2.out).1;have p0:w2.cell? ⟨w.heap.size,0,none⟩=some (.int .i64 k):=by simp[World.cell?,NB]
   have k0:w2.cell? ⟨kb,0,none⟩=some (.int .i64 y):=by simp[World.cell?,NK,hr0]
   have RK:=Ak.range_box NK;have HX2:Hid (Below w.heap.size w w2):=(HF.out _ HB2.out).2;clear hx hxs hcall hy hQ B2 hw2 hkb hfk NB NK hr0
   by_cases g0:Ac.kidBadD k y=true
   ·have HN:Hid (¬P):=HNO.out λh=>by rw[g0]at h;cases h.1
    unfold Ac.kidBadD at g0;have g0:=of_decide_eq_true g0;clear HNO HC
    go_upto_region 6 with(first
     |refine wpList_load_mid rfl 44 _ rfl g (off+j*12) rfl xs.toList _ ryr ha rfl ixl ?_
     |refine wpList_store_row rfl 44 _ _ rfl wr.heap.size xs rfl rfl 44 _ NZ ix ez xone ?_)
    rw[HW2.out,HKB.out];clear ryr NZ HW2 HKB RK;have gg:13<=y∨(y=12/\k≠13)∨(¬13<=y/\y≠12/\y=10/\k≠9)∨(¬13<=y/\y≠12/\y≠10/\k=9):=by omega
    rcases gg with g|g|g|g
    ·have q0:decide (13<=y)=true:=decide_eq_true g
     clear g g0;go_wp2;go_ret;exact⟨Ak.Told.no HN.out,HX2.out⟩
    ·have q0:decide (13<=y)=false:=decide_eq_false (by omega)
     have q1:(y==12)=true:=by simp;omega
     have q2:(k !=13)=true:=by simp;omega
     clear g g0;go_wp2;go_ret;exact⟨Ak.Told.no HN.out,HX2.out⟩
    ·have q0:decide (13<=y)=false:=decide_eq_false (by omega)
     have q1:(y==12)=false:=by simp;omega
     have q2:(y==10)=true:=by simp;omega
     have q3:(k !=9)=true:=by simp;omega
     clear g g0;go_wp2;go_ret;exact⟨Ak.Told.no HN.out,HX2.out⟩
    have q0:decide (13<=y)=false:=decide_eq_false (by omega);have q1:(y==12)=false:=by simp;omega
    have q2:(y==10)=false:=by simp;omega
    have q3:(y !=10)=true:=by simp;omega
    have q4:(k==9)=true:=by simp;omega
    clear g g0;go_wp2;go_ret;exact⟨Ak.Told.no HN.out,HX2.out⟩
   have g0':Ac.kidBadD k y=false:=by simpa using g0
   have HG:Hid (Ac.kidBadD k y=false):=g0';unfold Ac.kidBadD at g0';have g0':=of_decide_eq_false g0'
   go_upto_region 6 with(first
    |refine wpList_load_mid rfl 44 _ rfl g (off+j*12) rfl xs.toList _ ryr ha rfl ixl ?_
    |refine wpList_store_row rfl 44 _ _ rfl wr.heap.size xs rfl rfl 44 _ NZ ix ez xone ?_)
   rw[HW2.out,HKB.out];clear ryr NZ HW2 HKB g0;have q0:decide (13<=y)=false:=decide_eq_false (by omega);have gg:(y=12/\k=13)∨(y=10/\k=9)∨(y≠12/\y≠10/\k≠9):=by omega
   have key:Calls Tryz.prog 28 #[.agg xs] w2 λe w'=>Ak.Told Q e/\Below w2.heap.size w2 w':=HC.out;have HC:Hid _:=key;clear key
   rcases gg with g|g|g
   ·have q1:(y==12)=true:=by simp;omega
    have q2:(k !=13)=false:=by simp;omega
    have q3:(y==10)=false:=by simp;omega
    have q4:(y !=10)=true:=by simp;omega
    have q5:(k==9)=false:=by simp;omega
    clear g g0'
    go_wp2_with (refine Ak.load_want (by rfl) 44 _ rfl kb 0 rfl xs.toList _ RK ha rfl ixl ?_)
    refine Calls.mono HC.out ?_;rintro e4 W4 ⟨⟨r,rfl,hr⟩,b4⟩;have HB4:Hid (Below w1.heap.size w1 W4):=HB2.out.trans (b4.mono HB2.out.size);have HX4:Hid (Below w.heap.size w W4):=(HF.out _ HB4.out).2;have HR:Hid (r=true↔Q):=hr;clear b4 hr HC RK p0 k0
    cases r with
    |false=>
     have HN:Hid (¬P):=HNO.out λh=>by have:=HR.out.2 h.2;cases this
     go_wp2;go_ret;exact⟨Ak.Told.no HN.out,HX4.out⟩
    |true=>
     go_wp2;go_roundg (gk-1)
     case measure=>omega
     case rel=>
      refine⟨j+1,by omega,by go_num,λi h hi=> ?_,HB4.out⟩
      by_cases e:i=j
      ·subst e;rw[HY.out.1,HY.out.2.1,HY.out.2.2];exact⟨HG.out,HR.out.1 (by first|rfl|trivial)⟩
      exact HJ.out.1 i h (by omega)
   ·have q1:(y==12)=false:=by simp;omega
    have q3:(y==10)=true:=by simp;omega
    have q2:(k !=9)=false:=by simp;omega
    have q4:(y !=10)=false:=by simp;omega
    clear g g0'
    go_wp2_with (refine Ak.load_want (by rfl) 44 _ rfl kb 0 rfl xs.toList _ RK ha rfl ixl ?_)
    refine Calls.mono HC.out ?_;rintro e4 W4 ⟨⟨r,rfl,hr⟩,b4⟩;have HB4:Hid (Below w1.heap.size w1 W4):=HB2.out.trans (b4.mono HB2.out.size);have HX4:Hid (Below w.heap.size w W4):=(HF.out _ HB4.out).2;have HR:Hid (r=true↔Q):=hr;clear b4 hr HC RK p0 k0
    cases r with
    |false=>
     have HN:Hid (¬P):=HNO.out λh=>by have:=HR.out.2 h.2;cases this
     go_wp2;go_ret;exact⟨Ak.Told.no HN.out,HX4.out⟩
    |true=>
     go_wp2;go_roundg (gk-1)
     case measure=>omega
     case rel=>
      refine⟨j+1,by omega,by go_num,λi h hi=> ?_,HB4.out⟩
      by_cases e:i=j
      ·subst e;rw[HY.out.1,HY.out.2.1,HY.out.2.2];exact⟨HG.out,HR.out.1 (by first|rfl|trivial)⟩
      exact HJ.out.1 i h (by omega)
   have q1:(y==12)=false:=by simp;omega
   have q3:(y==10)=false:=by simp;omega
   have q4:(y !=10)=true:=by simp;omega
   have q5:(k==9)=false:=by simp;omega
   clear g g0'
   go_wp2_with (refine Ak.load_want (by rfl) 44 _ rfl kb 0 rfl xs.toList _ RK ha rfl ixl ?_)
   refine Calls.mono HC.out ?_;rintro e4 W4 ⟨⟨r,rfl,hr⟩,b4⟩;have HB4:Hid (Below w1.heap.size w1 W4):=HB2.out.trans (b4.mono HB2.out.size);have HX4:Hid (Below w.heap.size w W4):=(HF.out _ HB4.out).2;have HR:Hid (r=true↔Q):=hr;clear b4 hr HC RK p0 k0
   cases r with
   |false=>
    have HN:Hid (¬P):=HNO.out λh=>by have:=HR.out.2 h.2;cases this
    go_wp2;go_ret;exact⟨Ak.Told.no HN.out,HX4.out⟩
   |true=>
    go_wp2;go_roundg (gk-1)
    case measure=>omega
    case rel=>
     refine⟨j+1,by omega,by go_num,λi h hi=> ?_,HB4.out⟩
     by_cases e:i=j
     ·subst e;rw[HY.out.1,HY.out.2.1,HY.out.2.2];exact⟨HG.out,HR.out.1 (by first|rfl|trivial)⟩
     exact HJ.out.1 i h (by omega)
end Go.Proofs
