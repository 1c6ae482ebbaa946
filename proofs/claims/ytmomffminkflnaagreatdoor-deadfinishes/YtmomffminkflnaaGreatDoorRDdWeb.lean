import Derived.Test.YtmomffminkflnaaGreatDoorRAcFormAny
set_option maxRecDepth 100000
set_option maxHeartbeats 32000000
namespace Go.Proofs
namespace Dd
def kkOf (T:Ac):List (Int×Int):=T.ks.map λx=>(x.kind,x.a)
theorem kkOf_length (T:Ac):(kkOf T).length=T.ks.length:=by simp[kkOf]
theorem kkOf_get (T:Ac)(k:Nat)(h:k<T.ks.length):((kkOf T)[k]?).getD (0,0)=(T.ks[k].kind,T.ks[k].a):=by simp[kkOf,h]
theorem gateB_kk (T:Ac)(k:Nat)(h:k<T.ks.length):gateB (kkOf T) k=decide (T.ks[k].kind=12):=by unfold gateB;rw[kkOf_get T k h]
theorem doesI_kk (T:Ac)(k:Nat)(h:k<T.ks.length):doesI (kkOf T) k=T.ks[k].a:=by unfold doesI;rw[kkOf_get T k h]
theorem cover:∀(n:Nat) (ls:List (Int×Int)),(∀i:Nat,i<n->1<=ls.countP λl=>decide (l.2=(i:Int)))->n<=ls.countP λl=>decide (0<=l.2/\l.2<(n:Int))
 |0,_,_=>Nat.zero_le _
 |n+1,ls,h=>by
  have ih:=cover n ls λi hi=>h i (by omega);have h1:=h n (by omega)
  have h2:∀l:List (Int×Int),(l.countP λl=>decide (0<=l.2/\l.2<(n:Int)))+(l.countP λl=>decide (l.2=(n:Int)))<=l.countP λl=>decide (0<=l.2/\l.2<((n+1:Nat):Int)):=by
   intro l
   induction l with
   |nil=>simp
   |cons x r ihr=>
    rw[List.countP_cons,List.countP_cons,List.countP_cons]
    by_cases a:x.2=(n:Int)
    ·rw[decide_eq_false (show¬(0<=x.2/\x.2<(n:Int))by omega),decide_eq_true a,decide_eq_true (show 0<=x.2/\x.2<((n+1:Nat):Int)by omega),if_pos rfl,if_neg (by decide)]
     omega
    by_cases b:0<=x.2/\x.2<(n:Int)
    ·rw[decide_eq_true b,decide_eq_false a,decide_eq_true (show 0<=x.2/\x.2<((n+1:Nat):Int)by omega),if_pos rfl,if_neg (by decide)]
     omega
    rw[decide_eq_false b,decide_eq_false a,decide_eq_false (show¬(0<=x.2/\x.2<((n+1:Nat):Int))by omega),if_neg (by decide)];omega
  have:=h2 ls;omega
structure Right (T:Ac):Prop where
 web:Web T.ls (kkOf T)
 free:∃rk,Free T.ls rk
 tos:∀i (h:i<T.ls.length),-1<=T.ls[i].2/\T.ls[i].2<T.ks.length
 ins:∀k,k<T.ks.length->1<=T.ls.countP λl=>decide (l.2=(k:Int))
 outs:∀k (h:k<T.ks.length),T.ks[k].kind=12->T.ks[k].a=3->(T.ls.countP λl=>decide (l.1=(k:Int)))=T.ks[k].cs.length
 last:(T.ls.countP λl=>decide (l.2= -1))=1
 first:(T.ls.countP λl=>decide (l.1= -1))=1
 kids:0<T.ks.length
theorem right_of {T:Ac}(h:T.linkedB=true):Right T:=by
 unfold Ac.linkedB at h;rw[Bool.and_eq_true,Bool.and_eq_true,Bool.and_eq_true,Bool.and_eq_true]at h;obtain⟨⟨⟨⟨h1,h2⟩,h3⟩,h4⟩,h5⟩:=h;have h2:=of_decide_eq_true h2;have hin:∀l∈T.ls,-1<=l.1/\ -1<=l.2/\l.1<T.ks.length/\l.2<T.ks.length:=λl hl=>of_decide_eq_true (List.all_eq_true.1 h3 l hl)
 have hj:∀i,i<T.ks.length+1->∀k,T.around[i]? =some k->Ac.joinedB k.kind k.a k.cs.length ((T.ls.countP λl=>decide (l.2+1=(i:Int)):Nat):Int) ((T.ls.countP λl=>decide (l.1+1=(i:Int)):Nat):Int)=true:=λi hi k hk=>by
  have:=List.all_eq_true.1 h4 i (List.mem_range.2 hi);unfold Ac.joinedAt at this;rw[hk,Ac.insL_at _ _ _ hi,Ac.outsL_at _ _ _ hi]at this;exact this
 have cvt:∀(f:Int×Int->Int) (k:Nat),(T.ls.countP λl=>decide (f l+1=((k+1:Nat):Int)))=T.ls.countP λl=>decide (f l=(k:Int)):=λf k=>by
  congr 1
  funext l
  by_cases e:f l=(k:Int)
  ·rw[decide_eq_true e,decide_eq_true (by omega)]
  rw[decide_eq_false e,decide_eq_false (by omega)]
 have cvo:∀(f:Int×Int->Int),(T.ls.countP λl=>decide (f l+1=((0:Nat):Int)))=T.ls.countP λl=>decide (f l= -1):=λf=>by
  congr 1
  funext l
  by_cases e:f l= -1
  ·rw[decide_eq_true e,decide_eq_true (by omega)]
  rw[decide_eq_false e,decide_eq_false (by omega)]
 have hkid:∀k (h:k<T.ks.length),Ac.joinedB T.ks[k].kind T.ks[k].a T.ks[k].cs.length ((T.ls.countP λl=>decide (l.2=(k:Int)):Nat):Int) ((T.ls.countP λl=>decide (l.1=(k:Int)):Nat):Int)=true:=λk hk=>by
  have:=hj (k+1) (by omega) T.ks[k] (by simp[Ac.around,hk]);rw[cvt (λl=>l.2) k,cvt (λl=>l.1) k]at this;exact this
 have hout:=hj 0 (by omega) _ (by simp[Ac.around];rfl);rw[cvo (λl=>l.2),cvo (λl=>l.1)]at hout
 have hout:((T.ls.countP λl=>decide (l.2= -1):Nat):Int)=1/\((T.ls.countP λl=>decide (l.1= -1):Nat):Int)=1:=by
  unfold Ac.joinedB at hout;rw[if_neg (by decide),Bool.and_eq_true,decide_eq_true_iff,decide_eq_true_iff]at hout;exact hout
 have hins:∀k,k<T.ks.length->1<=T.ls.countP λl=>decide (l.2=(k:Int)):=λk hk=>by
  have:=hkid k hk;unfold Ac.joinedB at this
  split at this
  ·split at this
   ·rw[Bool.and_eq_true,decide_eq_true_iff]at this;omega
   split at this
   ·rw[Bool.and_eq_true,decide_eq_true_iff]at this;omega
   rw[Bool.and_eq_true,decide_eq_true_iff]at this;omega
  rw[Bool.and_eq_true,decide_eq_true_iff]at this;omega
 have h64:T.ks.length<=40:=by
  have h6:=cover T.ks.length T.ls hins;have h7:=List.countP_le_length (p:=λl:Int×Int=>decide (0<=l.2/\l.2<(T.ks.length:Int))) (l:=T.ls);omega
 have hweb:Web T.ls (kkOf T):=by
  refine⟨h2,by rw[kkOf_length];omega,λi x e=> ?_⟩
  cases hq:T.ls[i]? with
  |none=>rw[hq]at e;simp at e
  |some l=>
   rw[hq]at e;obtain rfl:l.1=x:=by simpa using e
   have:=hin l (List.mem_of_getElem? hq)
   by_cases z:l.1= -1
   ·exact .inl z
   exact .inr ⟨l.1.toNat,by omega,by rw[kkOf_length];omega⟩
 have hfree:∃rk,Free T.ls rk:=by
  unfold Ac.freeB at h5
  split at h5
  ·simp at h5
  obtain⟨es,hes⟩:=pE (((Ac.bet T.ls).map λe=>(e.1.toNat,e.2.toNat)));rw[hes,List.isEmpty_iff]at h5
  have hno:∀i,i<T.ks.length->Rk.lead es i i=false:=λi hi=>by
   cases hq:Rk.lead es i i with
   |false=>rfl
   |true=>
    have:i∈(List.range T.ks.length).filter λi=>Rk.lead es i i:=List.mem_filter.2 ⟨List.mem_range.2 hi,hq⟩;rw[h5]at this;simp at this
  refine⟨λk=>(List.range T.ks.length).countP λi=>Rk.lead es i k,λi f t e=> ?_⟩;have hl:=hin _ (List.mem_of_getElem? e)
  have hm:(f,t)∈es:=by
   rw[<-hes];refine List.mem_map.2 ⟨((f:Int),(t:Int)), ?_,by simp⟩;unfold Ac.bet;refine List.mem_filter.2 ⟨List.mem_of_getElem? e,by simp⟩
  refine countP_lt (k:=f) (by omega) (hno f (by omega)) ?_ λj _ hjl=> ?_
  ·exact(Rk.lead_iff es f t).2 ⟨f,.refl f,hm⟩
  exact(Rk.lead_iff es j t).2 ⟨f,((Rk.lead_iff es j f).1 hjl).reach,hm⟩
 refine⟨hweb,hfree,λi hi=> ?_,hins,λk hk h12 h3=> ?_,by omega,by omega, ?_⟩
 ·have:=hin _ (List.getElem_mem hi)
  omega
 ·have:=hkid k hk
  unfold Ac.joinedB at this;rw[if_pos h12,if_neg (by omega),if_pos h3,Bool.and_eq_true,decide_eq_true_iff,decide_eq_true_iff]at this;omega
 have:¬T.ks.length=0:=by
  intro e;rw[decide_eq_true e]at h1
  cases h1
 omega
end Dd
end Go.Proofs
namespace Go.Proofs
open Go.RowKit Go.Shelf
def Dd.outsU (ls:List (Int×Int))(kid:Int)(k:Nat):List Nat:=(List.range k).filter λi=>decide (((ls[i]?).map Prod.fst)=some kid)
theorem Dd.outsU_step (ls:List (Int×Int))(kid:Int)(k:Nat)(a b:Int)(h:ls[k]? =some (a,b)):Dd.outsU ls kid (k+1)=Dd.outsU ls kid k++if a=kid then [k]else []:=by
 unfold Dd.outsU;rw[List.range_succ,List.filter_append]
 congr 1
 rw[List.filter_cons,List.filter_nil,h]
 by_cases e:a=kid
 ·rw[if_pos (decide_eq_true (by rw[e];rfl)),if_pos e]
 rw[if_neg (by simpa using e),if_neg e]
theorem Tryz.r19Outs_any (x0 x1 x2 x3 x4 x5 x6 x7 x8 x10 x11:Value)(la:Option Addr)(m lc:Nat)(ls:List (Int×Int))(kid:Int)(w:World)(hL:Ac.Lks w w.heap.size la ls)(hm:ls.length=m)(h60:m<=60):
  Calls Tryz.prog 30 #[.agg #[x0,x1,x2,x3,x4,x5,x6,x7,x8,.slice la m lc,x10,x11],.int .i64 kid] w λe w'=>Nt.Gives (Dd.outsD ls kid) w e w':=by
 obtain⟨i0,hi,hz0,hz1,hz2⟩:=info_parts Tryz.infoIntR;obtain⟨R,hR⟩:=pE (Dd.outsD ls kid);rw[hR];obtain⟨w1,hw1⟩:=pE (w.alloc (.cells #[x0,x1,x2,x3,x4,x5,x6,x7,x8,.slice la m lc,x10,x11] 48));have B1:=pB hw1
 have N1:w1.heap[w.heap.size]? =some (.cells #[x0,x1,x2,x3,x4,x5,x6,x7,x8,.slice la m lc,x10,x11] 48 (0,0)):=by rw[<-hw1];exact heap_alloc_new w _
 have c9:w1.cell? ⟨w.heap.size,9,none⟩=some (.slice la m lc):=by simp[World.cell?,N1]
 have H1:Hid _:=hw1;have HB:Hid (Below w.heap.size w w1):=B1;have HL:Hid (Ac.Lks w w.heap.size la ls/\ls.length=m):=⟨hL,hm⟩;have HR:Hid (Dd.outsU ls kid m=R):=by show Dd.outsU _ _ _=_;rw[<-hm];exact hR
 clear hL hm hR hw1 B1 N1
 go_enter Tryz.func30,Tryz.ntmps30
 go_upto_region 1 with fail
 rw[H1.out];go_wp2
 go_loopg [5,6,11] m (λgk s5 _ s11 wr=>∃(j r:Nat) (L:List Nat),gk+j=m/\s11=.int .i64 j/\r<=j/\Hid (L=Dd.outsU ls kid j/\L.length=r/\Below w1.heap.size w1 wr)/\wr.ownsRow w1.heap.size 3 1 s5 r (Rk.nums L))
 case atStart=>exact⟨0,0, [],by omega,rfl,Nat.le_refl _,⟨rfl,rfl,Below.refl _ w1⟩,World.ownsRow_nil _ _ _ _⟩
 case round=>
  obtain⟨j,r,L,hj,rfl,hr,HJ,hown⟩:=hrel;obtain⟨av,cv,rfl⟩:=Rk.own_shape hown;clear c9
  by_cases hlt:j<m
  rotate_left
  ·have hd:decide ((j:Int)<m)=false:=decide_eq_false (by omega)
   have HE:Hid (L=R/\L.length=r):=by
    obtain rfl:j=m:=by omega
    exact⟨HJ.out.1.trans HR.out,HJ.out.2.1⟩
   go_wp2;go_ret;rw[<-HE.out.1];refine⟨_,rfl, ?_,HB.out.trans (HJ.out.2.2.mono HB.out.size)⟩;have h:=Nt.own_lower hown HB.out.size;rw[<-HE.out.2]at h;rw[<-HE.out.2];exact h
  have hd:decide ((j:Int)<m)=true:=decide_eq_true (by omega);have hjl:j<ls.length:=by rw[HL.out.2];exact hlt
  obtain⟨q,off,rfl,hq,d0,d1⟩:=HL.out.1 j hjl;obtain⟨x,hx⟩:=pE (ls[j]);obtain⟨a,b⟩:=x;rw[hx]at d0 d1;have j0:(0:Int)<=j:=by omega
  have j1:(j:Int)<m:=by omega
  have BW:Below w.heap.size w wr:=HB.out.trans (HJ.out.2.2.mono HB.out.size);have e0:wr.cell? ⟨q,off+j*2,none⟩=some (.int .i64 a):=by rw[BW.cell (p:=⟨q,off+j*2,none⟩) hq];exact d0
  have e1:wr.cell? ⟨q,off+j*2+1,none⟩=some (.int .i64 b):=by rw[BW.cell (p:=⟨q,off+j*2+1,none⟩) hq];exact d1
  obtain⟨w2,hw2⟩:=pE (wr.alloc (.cells #[.int .i64 a,.int .i64 b] 83));have B2:=pB hw2
  have HB2:Hid (Below w1.heap.size w1 w2):=HJ.out.2.2.trans (B2.mono HJ.out.2.2.size);have N2:w2.heap[wr.heap.size]? =some (.cells #[.int .i64 a,.int .i64 b] 83 (0,0)):=by rw[<-hw2];exact heap_alloc_new wr _
  have k0:w2.cell? ⟨wr.heap.size,0,none⟩=some (.int .i64 a):=by simp[World.cell?,N2]
  have own1:w2.ownsRow w1.heap.size 3 1 (.slice av r cv) r (Rk.nums L):=by rw[<-hw2];exact hown.alloc _
  have HS:Hid (Dd.outsU ls kid (j+1)=L++if a=kid then [j]else []):=by
   show _=_;rw[Dd.outsU_step ls kid j a b (by rw[List.getElem?_eq_getElem hjl,hx]),<-HJ.out.1]
  have HLL:Hid (L.length=r):=HJ.out.2.1;have HW2:Hid _:=hw2;clear d0 d1 hx hjl hq hw2 B2 N2 HJ BW hown
  by_cases ha:a=kid
  ·have he:(a==kid)=true:=by simpa using ha
   have HN:Hid (Dd.outsU ls kid (j+1)=L++ [j]):=by
    have h:=HS.out;rw[if_pos ha]at h;exact h
   clear ha HS;have hs1:=HB2.out.size
   go_upto_region 5 with fail
   rw[HW2.out]
   go_wp2_with (at_builtin;refine wpList_append_own _ rfl _ _ 51 rfl w1.heap.size 3 i0 (.int .i64 0) 1 8 Tryz.underlying51 hi hz0 hz1 hz2 rfl (by decide) _ _ _ rfl (own1.alloc _) ⟨w2.heap.size,0,none⟩ 1 1 [.int .i64 j] rfl rfl (Rk.one_cell w2 j 3) (Rk.one_one j) ?c3 ?c4 ?c5 ?_)
   case c3=>unfold maxLen;omega
   case c4=>omega
   case c5=>simp;omega
   intro v' W3 own2 g2 _;obtain⟨a2,c2,rfl⟩:=Rk.own_shape own2;go_wp2;go_roundg (gk-1)
   case measure=>omega
   case rel=>
    refine⟨j+1,r+1,L++ [j],by omega,by go_num,by omega,⟨HN.out.symm,by simp[HLL.out],Rk.below_grown (HB2.out.alloc hs1 _) (by simp;omega) (own1.alloc _) g2⟩, ?_⟩;rw[Rk.nums_snoc];exact own2
  have he:(a==kid)=false:=by simpa using ha
  have HN:Hid (Dd.outsU ls kid (j+1)=L):=by
   have h:=HS.out;rw[if_neg ha,List.append_nil]at h;exact h
  clear ha HS
  go_upto_region 5 with fail
  rw[HW2.out];go_wp2;go_roundg (gk-1)
  case measure=>omega
  case rel=>exact⟨j+1,r,L,by omega,by go_num,by omega,⟨HN.out.symm,HLL.out,HB2.out⟩,own1⟩
end Go.Proofs
namespace Go.Proofs
open Go.RowKit Go.ChangeShapes Go.WideShapes Go.Deep
theorem Tm.Lies.up {w:World}{B:Nat}{d e:Nat}{v:Value}{T:Tm}(h:Tm.Lies w B d v T)(he:d<=e):Tm.Lies w B e v T:=by
 induction he with
 |refl=>exact h
 |step _ ih=>exact ih.more
theorem Nt.cellsNode:Tryz.prog.cellsOf 76=5:=by kernel_rfl
theorem Nt.cellsFlow:Tryz.prog.cellsOf 78=6:=by kernel_rfl
theorem Nt.cellsNet:Tryz.prog.cellsOf 30=2:=by kernel_rfl
theorem Nt.cellsBool:Tryz.prog.cellsOf 4=1:=by kernel_rfl
theorem Nt.cellsNodes:Tryz.prog.cellsOf 27=1:=by kernel_rfl
theorem Nt.cellsFlows:Tryz.prog.cellsOf 28=1:=by kernel_rfl
theorem Nt.list2 {α:Type}{l:List α}(h:l.length=2):∃a b,l= [a,b]:=by
 match l,h with
 | [a,b],_=>exact⟨a,b,rfl⟩
theorem Nt.list4 {α:Type}{l:List α}(h:l.length=4):∃a b c d,l= [a,b,c,d]:=by
 match l,h with
 | [a,b,c,d],_=>exact⟨a,b,c,d,rfl⟩
theorem Nt.list5 {α:Type}{l:List α}(h:l.length=5):∃a b c d e,l= [a,b,c,d,e]:=by
 match l,h with
 | [a,b,c,d,e],_=>exact⟨a,b,c,d,e,rfl⟩
theorem Nt.list6 {α:Type}{l:List α}(h:l.length=6):∃a b c d e f,l= [a,b,c,d,e,f]:=by
 match l,h with
 | [a,b,c,d,e,f],_=>exact⟨a,b,c,d,e,f,rfl⟩
section
variable {H:Type} {enc:TypeId×Value->H} {w:World} {spare:Nat->Bool} {held:Bool}
theorem Nt.open_node (fuel:Nat)(cs:List Value)(x:DataW H×List MemPlace)(h:DataW.trod enc Tryz.prog w 0 spare held fuel 76 cs=some x):
  ∃(X:Nd) (v:Value),cs= [.int .i64 X.kind,.int .i64 X.a,.int .i64 X.t.op,.int .i64 X.t.num,v]/\Tm.Lies w w.heap.size fuel v X.t:=by
 obtain⟨ys,n,rfl,hx,hl,hy,hf⟩:=DataW.trod_struct Tryz.underlying76 h;rw[Nt.cellsNode]at hl;have hy:ys.length=3:=hy;obtain⟨c0,c1,c2,c3,c4,rfl⟩:=Nt.list5 hl;obtain⟨y0,y1,y2,rfl⟩:=Tk.list3 hy;have g0:DataW.trod enc Tryz.prog w 0 spare held n 3 (([c0,c1,c2,c3,c4].drop 0).take (Tryz.prog.cellsOf 3))= [y0,y1,y2][0]? :=hf 0 _ rfl;have g1:DataW.trod enc Tryz.prog w 0 spare held n 3 (([c0,c1,c2,c3,c4].drop 1).take (Tryz.prog.cellsOf 3))= [y0,y1,y2][1]? :=hf 1 _ rfl;have g2:DataW.trod enc Tryz.prog w 0 spare held n 24 (([c0,c1,c2,c3,c4].drop 2).take (Tryz.prog.cellsOf 24))= [y0,y1,y2][2]? :=hf 2 _ rfl;rw[Tk.cellsInt1]at g0 g1;rw[Tk.cellsTerm]at g2;obtain⟨o,e0,_⟩:=DataW.trod_int Tryz.underlying3 g0;obtain⟨m,e1,_⟩:=DataW.trod_int Tryz.underlying3 g1;obtain rfl:c0=.int .i64 o:=(List.cons.inj e0).1;obtain rfl:c1=.int .i64 m:=(List.cons.inj e1).1;obtain⟨T,v,hcs,hT⟩:=Tm.open_term n _ _ g2;have h3: [c2,c3,c4]= [.int .i64 T.op,.int .i64 T.num,v]:=hcs;simp only[List.cons.injEq,and_true]at h3;obtain⟨rfl,rfl,rfl⟩:=h3;exact⟨⟨o,m,T⟩,c4,rfl,hT.up (by omega)⟩
theorem Nt.open_flow (fuel:Nat)(cs:List Value)(x:DataW H×List MemPlace)(h:DataW.trod enc Tryz.prog w 0 spare held fuel 78 cs=some x):
  ∃(X:Fl) (v:Value),cs= [.int .i64 X.fr,.int .i64 X.to,.bool X.els,.int .i64 X.c.op,.int .i64 X.c.num,v]/\Tm.Lies w w.heap.size fuel v X.c:=by
 obtain⟨ys,n,rfl,hx,hl,hy,hf⟩:=DataW.trod_struct Tryz.underlying78 h;rw[Nt.cellsFlow]at hl;have hy:ys.length=4:=hy;obtain⟨c0,c1,c2,c3,c4,c5,rfl⟩:=Nt.list6 hl;obtain⟨y0,y1,y2,y3,rfl⟩:=Nt.list4 hy;have g0:DataW.trod enc Tryz.prog w 0 spare held n 3 (([c0,c1,c2,c3,c4,c5].drop 0).take (Tryz.prog.cellsOf 3))= [y0,y1,y2,y3][0]? :=hf 0 _ rfl;have g1:DataW.trod enc Tryz.prog w 0 spare held n 3 (([c0,c1,c2,c3,c4,c5].drop 1).take (Tryz.prog.cellsOf 3))= [y0,y1,y2,y3][1]? :=hf 1 _ rfl;have g2:DataW.trod enc Tryz.prog w 0 spare held n 4 (([c0,c1,c2,c3,c4,c5].drop 2).take (Tryz.prog.cellsOf 4))= [y0,y1,y2,y3][2]? :=hf 2 _ rfl;have g3:DataW.trod enc Tryz.prog w 0 spare held n 24 (([c0,c1,c2,c3,c4,c5].drop 3).take (Tryz.prog.cellsOf 24))= [y0,y1,y2,y3][3]? :=hf 3 _ rfl;rw[Tk.cellsInt1]at g0 g1;rw[Nt.cellsBool]at g2;rw[Tk.cellsTerm]at g3;obtain⟨o,e0,_⟩:=DataW.trod_int Tryz.underlying3 g0;obtain⟨m,e1,_⟩:=DataW.trod_int Tryz.underlying3 g1;obtain⟨b,e2,_⟩:=DataW.trod_bool Tryz.underlying4 g2;obtain rfl:c0=.int .i64 o:=(List.cons.inj e0).1;obtain rfl:c1=.int .i64 m:=(List.cons.inj e1).1;obtain rfl:c2=.bool b:=(List.cons.inj e2).1;obtain⟨T,v,hcs,hT⟩:=Tm.open_term n _ _ g3;have h3: [c3,c4,c5]= [.int .i64 T.op,.int .i64 T.num,v]:=hcs;simp only[List.cons.injEq,and_true]at h3;obtain⟨rfl,rfl,rfl⟩:=h3
 exact⟨⟨o,m,b,T⟩,c5,rfl,hT.up (by omega)⟩
theorem Nt.open_nodes (fuel:Nat)(c:Value)(x:DataW H×List MemPlace)(h:DataW.trod enc Tryz.prog w 0 spare held fuel 27 [c]=some x):∃a cap ns,c=.slice a (ns:List Nd).length cap/\Nt.Nds w w.heap.size fuel a ns:=by
 rcases DataW.trod_slice Tryz.underlying27 h with⟨e2,_⟩|⟨a,len,cap,elems,rest,n',hn',e2,_,_,hlc,_,hlen,hel,_,_⟩
 ·obtain rfl:c=.slice none 0 0:=(List.cons.inj e2).1
  exact⟨none,0, [],rfl,λj hj=>by simp at hj⟩
 obtain rfl:c=.slice (some a) len cap:=(List.cons.inj e2).1;subst hn'
 have each:∀i,i<len->∃q:Nd,∃u,w.cell? (a.add (i*5))=some (.int .i64 q.kind)/\w.cell? ((a.add (i*5)).add 1)=some (.int .i64 q.a)/\w.cell? ((a.add (i*5)).add 2)=some (.int .i64 q.t.op)/\w.cell? ((a.add (i*5)).add 3)=some (.int .i64 q.t.num)/\w.cell? ((a.add (i*5)).add 4)=some u/\Tm.Lies w w.heap.size n' u q.t:=by
  intro i hi;have h1:=hel i hi;rw[Nt.cellsNode,List.getElem?_eq_getElem (by omega)]at h1;obtain⟨cs',h2,h3⟩:=Option.bind_eq_some_iff.1 h1;obtain⟨q,u,rfl,hq⟩:=Nt.open_node n' cs' _ h3;obtain⟨_,hl3,hc⟩:=World.cells?_some h2;exact⟨q,u,by simpa [Addr.add]using hc 0 (by simp),by simpa using hc 1 (by simp),by simpa using hc 2 (by simp),by simpa using hc 3 (by simp),by simpa using hc 4 (by simp),hq⟩
 by_cases hz:len=0
 ·subst hz
  exact⟨some a,cap, [],rfl,λj hj=>by simp at hj⟩
 haveI:Inhabited Nd:=⟨⟨0,0,.mk 0 0 []⟩⟩
 obtain⟨q,hq⟩:=choose_lt each;have hlen':((List.range len).map q).length=len:=by simp
 refine⟨some a,cap,(List.range len).map q,by rw[hlen'],λj hj=> ?_⟩;obtain⟨g,off,spot⟩:=a;obtain⟨_,h0,_⟩:=hq 0 (by omega);have hspot:spot=none:=by simpa [Addr.add]using World.cell?_spot h0
 subst hspot
 have hg:g<w.heap.size:=by
  have:=Tk.cell_lt h0;simpa [Addr.add]using this
 have hget:((List.range len).map q)[j]=q j:=by simp
 rw[hget];rw[hlen']at hj;obtain⟨u,p0,p1,p2,p3,p4,p5⟩:=hq j hj;have ea:∀(c k:Nat),((⟨g,off,none⟩:Addr).add c).add k=⟨g,off+c+k,none⟩:=λc k=>by rw[Go.WideShapes.add_plain,Go.WideShapes.add_plain]
 rw[Go.WideShapes.add_plain]at p0;rw[ea]at p1 p2 p3 p4;exact⟨g,off,u,rfl,hg,p0,p1,p2,p3,p4,p5.up (by omega)⟩
theorem Nt.open_flows (fuel:Nat)(c:Value)(x:DataW H×List MemPlace)(h:DataW.trod enc Tryz.prog w 0 spare held fuel 28 [c]=some x):∃a cap fs,c=.slice a (fs:List Fl).length cap/\Nt.Fls w w.heap.size fuel a fs:=by
 rcases DataW.trod_slice Tryz.underlying28 h with⟨e2,_⟩|⟨a,len,cap,elems,rest,n',hn',e2,_,_,hlc,_,hlen,hel,_,_⟩
 ·obtain rfl:c=.slice none 0 0:=(List.cons.inj e2).1
  exact⟨none,0, [],rfl,λj hj=>by simp at hj⟩
 obtain rfl:c=.slice (some a) len cap:=(List.cons.inj e2).1;subst hn'
 have each:∀i,i<len->∃q:Fl,∃u,w.cell? (a.add (i*6))=some (.int .i64 q.fr)/\w.cell? ((a.add (i*6)).add 1)=some (.int .i64 q.to)/\w.cell? ((a.add (i*6)).add 2)=some (.bool q.els)/\w.cell? ((a.add (i*6)).add 3)=some (.int .i64 q.c.op)/\w.cell? ((a.add (i*6)).add 4)=some (.int .i64 q.c.num)/\w.cell? ((a.add (i*6)).add 5)=some u/\Tm.Lies w w.heap.size n' u q.c:=by
  intro i hi;have h1:=hel i hi;rw[Nt.cellsFlow,List.getElem?_eq_getElem (by omega)]at h1;obtain⟨cs',h2,h3⟩:=Option.bind_eq_some_iff.1 h1;obtain⟨q,u,rfl,hq⟩:=Nt.open_flow n' cs' _ h3;obtain⟨_,hl3,hc⟩:=World.cells?_some h2;exact⟨q,u,by simpa [Addr.add]using hc 0 (by simp),by simpa using hc 1 (by simp),by simpa using hc 2 (by simp),by simpa using hc 3 (by simp),by simpa using hc 4 (by simp),by simpa using hc 5 (by simp),hq⟩
 by_cases hz:len=0
 ·subst hz
  exact⟨some a,cap, [],rfl,λj hj=>by simp at hj⟩
 haveI:Inhabited Fl:=⟨⟨0,0,false,.mk 0 0 []⟩⟩
 obtain⟨q,hq⟩:=choose_lt each;have hlen':((List.range len).map q).length=len:=by simp
 refine⟨some a,cap,(List.range len).map q,by rw[hlen'],λj hj=> ?_⟩;obtain⟨g,off,spot⟩:=a;obtain⟨_,h0,_⟩:=hq 0 (by omega);have hspot:spot=none:=by simpa [Addr.add]using World.cell?_spot h0
 subst hspot
 have hg:g<w.heap.size:=by
  have:=Tk.cell_lt h0;simpa [Addr.add]using this
 have hget:((List.range len).map q)[j]=q j:=by simp
 rw[hget];rw[hlen']at hj;obtain⟨u,p0,p1,p2,p3,p4,p5,p6⟩:=hq j hj;have ea:∀(c k:Nat),((⟨g,off,none⟩:Addr).add c).add k=⟨g,off+c+k,none⟩:=λc k=>by rw[Go.WideShapes.add_plain,Go.WideShapes.add_plain]
 rw[Go.WideShapes.add_plain]at p0;rw[ea]at p1 p2 p3 p4 p5;exact⟨g,off,u,rfl,hg,p0,p1,p2,p3,p4,p5,p6.up (by omega)⟩
end
instance:Inhabited Ac:=⟨.mk 0 0 0 0 (.mk 0 0 []) [] [] [] [] []⟩
instance:Inhabited Ac.Vs:=⟨⟨.bool false,.bool false,.bool false,.bool false,.bool false,.bool false⟩⟩
theorem Ak.cellsAct:Tryz.prog.cellsOf 32=12:=by kernel_rfl
theorem Ak.cellsActs:Tryz.prog.cellsOf 25=1:=by kernel_rfl
theorem Ak.cellsLink:Tryz.prog.cellsOf 80=2:=by kernel_rfl
theorem Ak.cellsLinks:Tryz.prog.cellsOf 26=1:=by kernel_rfl
theorem Ak.list9 {α:Type}{l:List α}(h:l.length=9):∃a b c d e f g h i,l= [a,b,c,d,e,f,g,h,i]:=by
 match l,h with
 | [a,b,c,d,e,f,g,h,i],_=>exact⟨a,b,c,d,e,f,g,h,i,rfl⟩
theorem Ak.list12 {α:Type}{l:List α}(h:l.length=12):∃a b c d e f g h i j k m,l= [a,b,c,d,e,f,g,h,i,j,k,m]:=by
 match l,h with
 | [a,b,c,d,e,f,g,h,i,j,k,m],_=>exact⟨a,b,c,d,e,f,g,h,i,j,k,m,rfl⟩
theorem Ac.Lies.more {w:World}{B e:Nat} :∀{d:Nat} {V:Ac.Vs} {T:Ac},Ac.Lies w B e d V T->Ac.Lies w B e (d+1) V T
 |0,_,_,h=>h.elim
 |d+1,V,T,h=>by
  obtain⟨ho,a,cap,hv,h⟩:=h;refine⟨ho,a,cap,hv,λj hj=> ?_⟩;obtain⟨g,off,U,ha,hg,hr,h1⟩:=h j hj;exact⟨g,off,U,ha,hg,hr,h1.more⟩
theorem Ac.Lies.up {w:World}{B e d d':Nat}{V:Ac.Vs}{T:Ac}(h:Ac.Lies w B e d V T)(hd:d<=d'):Ac.Lies w B e d' V T:=by
 induction hd with
 |refl=>exact h
 |step _ ih=>exact ih.more
section
variable {H:Type} {enc:TypeId×Value->H} {w:World} {spare:Nat->Bool} {held:Bool}
theorem Ak.ea (g off c k:Nat):((⟨g,off,none⟩:Addr).add c).add k=⟨g,off+c+k,none⟩:=by rw[Go.WideShapes.add_plain,Go.WideShapes.add_plain]
theorem Ak.open_conds (fuel:Nat)(c:Value)(x:DataW H×List MemPlace)(h:DataW.trod enc Tryz.prog w 0 spare held fuel 22 [c]=some x):∃a cap cs,c=.slice a (cs:List Tm).length cap/\Ac.Tms w w.heap.size fuel a cs:=by
 rcases DataW.trod_slice Tryz.underlying22 h with⟨e2,_⟩|⟨a,len,cap,elems,rest,n',hn',e2,_,_,hlc,_,hlen,hel,_,_⟩
 ·obtain rfl:c=.slice none 0 0:=(List.cons.inj e2).1
  exact⟨none,0, [],rfl,λj hj=>by simp at hj⟩
 obtain rfl:c=.slice (some a) len cap:=(List.cons.inj e2).1;subst hn'
 have each:∀i,i<len->∃q:Tm,∃u,w.cell? (a.add (i*3))=some (.int .i64 q.op)/\w.cell? ((a.add (i*3)).add 1)=some (.int .i64 q.num)/\w.cell? ((a.add (i*3)).add 2)=some u/\Tm.Lies w w.heap.size n' u q:=by
  intro i hi;have h1:=hel i hi;rw[Tk.cellsTerm,List.getElem?_eq_getElem (by omega)]at h1;obtain⟨cs',h2,h3⟩:=Option.bind_eq_some_iff.1 h1;obtain⟨q,u,rfl,hq⟩:=Tm.open_term n' cs' _ h3;obtain⟨_,hl3,hc⟩:=World.cells?_some h2;exact⟨q,u,by simpa [Addr.add]using hc 0 (by simp),by simpa using hc 1 (by simp),by simpa using hc 2 (by simp),hq⟩
 by_cases hz:len=0
 ·subst hz
  exact⟨some a,cap, [],rfl,λj hj=>by simp at hj⟩
 obtain⟨q,hq⟩:=choose_lt each;have hlen':((List.range len).map q).length=len:=by simp
 refine⟨some a,cap,(List.range len).map q,by rw[hlen'],λj hj=> ?_⟩;obtain⟨g,off,spot⟩:=a;obtain⟨_,h0,_⟩:=hq 0 (by omega);have hspot:spot=none:=by simpa [Addr.add]using World.cell?_spot h0
 subst hspot
 have hg:g<w.heap.size:=by
  have:=Tk.cell_lt h0;simpa [Addr.add]using this
 have hget:((List.range len).map q)[j]=q j:=by simp
 rw[hget];rw[hlen']at hj;obtain⟨u,p0,p1,p2,p3⟩:=hq j hj;rw[Go.WideShapes.add_plain]at p0;rw[Ak.ea]at p1 p2;exact⟨g,off,u,rfl,hg,p0,p1,p2,p3.up (by omega)⟩
theorem Ak.open_links (fuel:Nat)(c:Value)(x:DataW H×List MemPlace)(h:DataW.trod enc Tryz.prog w 0 spare held fuel 26 [c]=some x):∃a cap ls,c=.slice a (ls:List (Int×Int)).length cap/\Ac.Lks w w.heap.size a ls:=by
 rcases DataW.trod_slice Tryz.underlying26 h with⟨e2,_⟩|⟨a,len,cap,elems,rest,n',hn',e2,_,_,hlc,_,hlen,hel,_,_⟩
 ·obtain rfl:c=.slice none 0 0:=(List.cons.inj e2).1
  exact⟨none,0, [],rfl,λj hj=>by simp at hj⟩
 obtain rfl:c=.slice (some a) len cap:=(List.cons.inj e2).1;subst hn'
 have each:∀i,i<len->∃q:Int×Int,w.cell? (a.add (i*2))=some (.int .i64 q.1)/\w.cell? ((a.add (i*2)).add 1)=some (.int .i64 q.2):=by
  intro i hi;have h1:=hel i hi;rw[Ak.cellsLink,List.getElem?_eq_getElem (by omega)]at h1;obtain⟨cs',h2,h3⟩:=Option.bind_eq_some_iff.1 h1;obtain⟨ys,n,rfl,hx,hl,hy,hf⟩:=DataW.trod_struct Tryz.underlying80 h3;rw[Ak.cellsLink]at hl;have hy:ys.length=2:=hy;obtain⟨c0,c1,rfl⟩:=Nt.list2 hl;obtain⟨y0,y1,rfl⟩:=Nt.list2 hy;have g0:DataW.trod enc Tryz.prog w 0 spare held n 3 (([c0,c1].drop 0).take (Tryz.prog.cellsOf 3))= [y0,y1][0]? :=hf 0 _ rfl;have g1:DataW.trod enc Tryz.prog w 0 spare held n 3 (([c0,c1].drop 1).take (Tryz.prog.cellsOf 3))= [y0,y1][1]? :=hf 1 _ rfl;rw[Tk.cellsInt1]at g0 g1;obtain⟨o,e0,_⟩:=DataW.trod_int Tryz.underlying3 g0;obtain⟨m,e1,_⟩:=DataW.trod_int Tryz.underlying3 g1;obtain rfl:c0=.int .i64 o:=(List.cons.inj e0).1;obtain rfl:c1=.int .i64 m:=(List.cons.inj e1).1;obtain⟨_,hl3,hc⟩:=World.cells?_some h2;exact⟨(o,m),by simpa [Addr.add]using hc 0 (by simp),by simpa using hc 1 (by simp)⟩
 by_cases hz:len=0
 ·subst hz
  exact⟨some a,cap, [],rfl,λj hj=>by simp at hj⟩
 obtain⟨q,hq⟩:=choose_lt each;have hlen':((List.range len).map q).length=len:=by simp
 refine⟨some a,cap,(List.range len).map q,by rw[hlen'],λj hj=> ?_⟩;obtain⟨g,off,spot⟩:=a;obtain⟨h0,_⟩:=hq 0 (by omega);have hspot:spot=none:=by simpa [Addr.add]using World.cell?_spot h0
 subst hspot
 have hg:g<w.heap.size:=by
  have:=Tk.cell_lt h0;simpa [Addr.add]using this
 have hget:((List.range len).map q)[j]=q j:=by simp
 rw[hget];rw[hlen']at hj;obtain⟨p0,p1⟩:=hq j hj;rw[Go.WideShapes.add_plain]at p0;rw[Ak.ea]at p1;exact⟨g,off,rfl,hg,p0,p1⟩
theorem Ac.open_cells:∀(fuel:Nat) (cs:List Value) (x:DataW H×List MemPlace),DataW.trod enc Tryz.prog w 0 spare held fuel 32 cs=some x->
  ∃(T:Ac) (V:Ac.Vs),cs=(Ac.row T V).toList/\∀e,fuel<=e->Ac.Lies w w.heap.size e fuel V T:=by
 intro fuel
 induction fuel using Nat.strongRecOn with
 |_ fuel ih=>
  intro cs x h;obtain⟨ys,n,rfl,hx,hl,hy,hf⟩:=DataW.trod_struct Tryz.underlying32 h;rw[Ak.cellsAct]at hl;have hy:ys.length=9:=hy;obtain⟨c0,c1,c2,c3,c4,c5,c6,c7,c8,c9,c10,c11,hcs⟩:=Ak.list12 hl;obtain⟨y0,y1,y2,y3,y4,y5,y6,y7,y8,hys⟩:=Ak.list9 hy;subst hcs;subst hys;have g0:DataW.trod enc Tryz.prog w 0 spare held n 3 (([c0,c1,c2,c3,c4,c5,c6,c7,c8,c9,c10,c11].drop 0).take (Tryz.prog.cellsOf 3))=some y0:=hf 0 _ rfl;have g1:DataW.trod enc Tryz.prog w 0 spare held n 3 (([c0,c1,c2,c3,c4,c5,c6,c7,c8,c9,c10,c11].drop 1).take (Tryz.prog.cellsOf 3))=some y1:=hf 1 _ rfl;have g2:DataW.trod enc Tryz.prog w 0 spare held n 3 (([c0,c1,c2,c3,c4,c5,c6,c7,c8,c9,c10,c11].drop 2).take (Tryz.prog.cellsOf 3))=some y2:=hf 2 _ rfl;have g3:DataW.trod enc Tryz.prog w 0 spare held n 3 (([c0,c1,c2,c3,c4,c5,c6,c7,c8,c9,c10,c11].drop 3).take (Tryz.prog.cellsOf 3))=some y3:=hf 3 _ rfl;have g4:DataW.trod enc Tryz.prog w 0 spare held n 24 (([c0,c1,c2,c3,c4,c5,c6,c7,c8,c9,c10,c11].drop 4).take (Tryz.prog.cellsOf 24))=some y4:=hf 4 _ rfl;have g5:DataW.trod enc Tryz.prog w 0 spare held n 22 (([c0,c1,c2,c3,c4,c5,c6,c7,c8,c9,c10,c11].drop 7).take (Tryz.prog.cellsOf 22))=some y5:=hf 5 _ rfl;have g6:DataW.trod enc Tryz.prog w 0 spare held n 25 (([c0,c1,c2,c3,c4,c5,c6,c7,c8,c9,c10,c11].drop 8).take (Tryz.prog.cellsOf 25))=some y6:=hf 6 _ rfl
  have g7:DataW.trod enc Tryz.prog w 0 spare held n 26 (([c0,c1,c2,c3,c4,c5,c6,c7,c8,c9,c10,c11].drop 9).take (Tryz.prog.cellsOf 26))=some y7:=hf 7 _ rfl;have g8:DataW.trod enc Tryz.prog w 0 spare held n 30 (([c0,c1,c2,c3,c4,c5,c6,c7,c8,c9,c10,c11].drop 10).take (Tryz.prog.cellsOf 30))=some y8:=hf 8 _ rfl;rw[Tk.cellsInt1]at g0 g1 g2 g3;rw[Tk.cellsTerm]at g4;rw[Tk.cellsTerms]at g5;rw[Ak.cellsActs]at g6;rw[Ak.cellsLinks]at g7;rw[Nt.cellsNet]at g8;obtain⟨k0,e0,_⟩:=DataW.trod_int Tryz.underlying3 g0;obtain⟨k1,e1,_⟩:=DataW.trod_int Tryz.underlying3 g1;obtain⟨k2,e2,_⟩:=DataW.trod_int Tryz.underlying3 g2;obtain⟨k3,e3,_⟩:=DataW.trod_int Tryz.underlying3 g3;obtain rfl:c0=.int .i64 k0:=(List.cons.inj e0).1;obtain rfl:c1=.int .i64 k1:=(List.cons.inj e1).1;obtain rfl:c2=.int .i64 k2:=(List.cons.inj e2).1;obtain rfl:c3=.int .i64 k3:=(List.cons.inj e3).1;obtain⟨S,v,hS,hSl⟩:=Tm.open_term n _ _ g4;have h4: [c4,c5,c6]= [.int .i64 S.op,.int .i64 S.num,v]:=hS;simp only[List.cons.injEq,and_true]at h4;obtain⟨rfl,rfl,rfl⟩:=h4;obtain⟨ca,cc,cs,rfl,hcs⟩:=Ak.open_conds n c7 _ g5;obtain⟨la,lc,ls,rfl,hls⟩:=Ak.open_links n c9 _ g7;obtain⟨zs,n2,rfl,hx2,hl2,hy2,hf2⟩:=DataW.trod_struct Tryz.underlying30 g8;have hy2:zs.length=2:=hy2;obtain⟨z0,z1,rfl⟩:=Nt.list2 hy2
  have m0:DataW.trod enc Tryz.prog w 0 spare held n2 27 (([c10,c11].drop 0).take (Tryz.prog.cellsOf 27))=some z0:=hf2 0 _ rfl;have m1:DataW.trod enc Tryz.prog w 0 spare held n2 28 (([c10,c11].drop 1).take (Tryz.prog.cellsOf 28))=some z1:=hf2 1 _ rfl;rw[Nt.cellsNodes]at m0;rw[Nt.cellsFlows]at m1;obtain⟨an,cn,ns,rfl,hN⟩:=Nt.open_nodes n2 c10 _ m0;obtain⟨af,cf,fs,rfl,hF⟩:=Nt.open_flows n2 c11 _ m1
  have hN':∀e,n2<=e->Nt.Nds w w.heap.size e an ns:=λe he j hj=>by
   obtain⟨g,off,u,p1,p2,p3,p4,p5,p6,p7,p8⟩:=hN j hj;exact⟨g,off,u,p1,p2,p3,p4,p5,p6,p7,p8.up he⟩
  have hF':∀e,n2<=e->Nt.Fls w w.heap.size e af fs:=λe he j hj=>by
   obtain⟨g,off,u,p1,p2,p3,p4,p5,p6,p7,p8,p9⟩:=hF j hj;exact⟨g,off,u,p1,p2,p3,p4,p5,p6,p7,p8,p9.up he⟩
  have hcs':∀e,n2+1<=e->Ac.Tms w w.heap.size e ca cs:=λe he j hj=>by
   obtain⟨g,off,u,p1,p2,p3,p4,p5,p6⟩:=hcs j hj;exact⟨g,off,u,p1,p2,p3,p4,p5,p6.up he⟩
  have own:∀(ks:List Ac) (vk:Value) e,n2+1+1<=e->Ac.Own w w.heap.size e ⟨c6,.slice ca cs.length cc,vk,.slice la ls.length lc,.slice an ns.length cn,.slice af fs.length cf⟩ (.mk k0 k1 k2 k3 S cs ks ls ns fs):=λks vk e he=>
   ⟨hSl.up (by omega),⟨_,_,rfl,hcs' e (by omega)⟩,⟨_,_,rfl,hls⟩,⟨_,_,rfl,hN' e (by omega)⟩,⟨_,_,rfl,hF' e (by omega)⟩⟩
  rcases DataW.trod_slice Tryz.underlying25 g6 with⟨e6,_⟩|⟨a,len,cap,elems,rest,n',hn',e6,_,_,hlc,_,hlen,hel,_,_⟩
  ·obtain rfl:c8=.slice none 0 0:=(List.cons.inj e6).1
   exact⟨.mk k0 k1 k2 k3 S cs [] ls ns fs,⟨c6,.slice ca cs.length cc,.slice none 0 0,.slice la ls.length lc,.slice an ns.length cn,.slice af fs.length cf⟩,rfl,λe he=>⟨own [] _ e he,none,0,rfl,λj hj=>absurd hj (Nat.not_lt_zero j)⟩⟩
  obtain rfl:c8=.slice (some a) len cap:=(List.cons.inj e6).1;obtain rfl:n2=n':=by omega
  have each:∀i,i<len->∃q:Ac,∃U:Ac.Vs,(∀k (hk:k<(Ac.row q U).size),w.cell? ((a.add (i*12)).add k)=some (Ac.row q U)[k])/\∀e,n2<=e->Ac.Lies w w.heap.size e n2 U q:=by
   intro i hi;have h1:=hel i hi;rw[Ak.cellsAct,List.getElem?_eq_getElem (by omega)]at h1;obtain⟨cs',h2,h3⟩:=Option.bind_eq_some_iff.1 h1;obtain⟨q,U,rfl,hq⟩:=ih n2 (by omega) cs' _ h3;obtain⟨_,hl3,hc⟩:=World.cells?_some h2;refine⟨q,U,λk hk=> ?_,hq⟩;have:=hc k (by simpa [Ac.row]using hk);rw[this]
   simp
  obtain⟨q,hq⟩:=choose_lt each;obtain⟨U,hU⟩:=choose_lt hq;have hlen':((List.range len).map q).length=len:=by simp
  refine⟨.mk k0 k1 k2 k3 S cs ((List.range len).map q) ls ns fs,⟨c6,.slice ca cs.length cc,.slice (some a) len cap,.slice la ls.length lc,.slice an ns.length cn,.slice af fs.length cf⟩,rfl,λe he=>⟨own _ _ e he,some a,cap,by rw[show(Ac.mk k0 k1 k2 k3 S cs ((List.range len).map q) ls ns fs).ks=(List.range len).map q from rfl,hlen'],λj hj=> ?_⟩⟩;have hj':j<((List.range len).map q).length:=hj;have hjl:j<len:=by rw[hlen']at hj';exact hj'
  obtain⟨g,off,spot⟩:=a;have h0:=(hU 0 (by omega)).1 0 (by simp[Ac.row]);have hspot:spot=none:=by simpa [Addr.add]using World.cell?_spot h0
  subst hspot
  have hg:g<w.heap.size:=by
   have:=Tk.cell_lt h0;simpa [Addr.add]using this
  have hget:(Ac.mk k0 k1 k2 k3 S cs ((List.range len).map q) ls ns fs).ks[j]'hj=q j:=by
   show((List.range len).map q)[j]=q j
   simp
  refine⟨g,off,U j,rfl,hg, ?_, ?_⟩
  ·rw[hget]
   intro k hk;have:=(hU j hjl).1 k hk;rw[Ak.ea]at this;exact this
  rw[hget];exact((hU j hjl).2 e (by omega)).up (by omega)
end
theorem Ac.open_act {H:Type}{enc:TypeId×Value->H}{w:World}{spare:Nat->Bool}{held:Bool}{r:Go.Reach}{b0:Nat}{v:Value}{d:DataW H}{ps:List MemPlace}(hval:Value.okWide Tryz.prog w r b0 32 v)(h:DataW.Trod enc Tryz.prog w 0 spare held 32 v d ps):
  ∃(T:Ac) (V:Ac.Vs) (e dd:Nat),v=.agg (Ac.row T V)/\Ac.Lies w w.heap.size e dd V T:=by
 obtain⟨cs,rfl,_⟩:=okWide_struct Tryz.underlying32 hval;obtain⟨fuel,hf0⟩:=h;obtain⟨T,V,hcs,hL⟩:=Ac.open_cells fuel _ _ hf0;refine⟨T,V,fuel,fuel, ?_,hL fuel (Nat.le_refl _)⟩;have:cs.toList=(Ac.row T V).toList:=hcs
 congr 1
 exact Array.ext' this
def Dd.Nums (w:World)(B:Nat)(a:Option Addr)(l:List Int):Prop:=∀j (h:j<l.length),∃g off,a=some ⟨g,off,none⟩/\g<B/\w.cell? ⟨g,off+j,none⟩=some (.int .i64 l[j])
section
variable {H:Type} {enc:TypeId×Value->H} {w:World} {spare:Nat->Bool} {held:Bool}
theorem Dd.open_nums {base b0:Nat}{r:Go.Reach}{v:Value}{d:DataW H}{ps:List MemPlace}(hval:Value.okWide Tryz.prog w r b0 51 v)(h:DataW.Trod enc Tryz.prog w base spare held 51 v d ps):
  ∃a c l,v=.slice a (l:List Int).length c/\Dd.Nums w w.heap.size a l:=by
 obtain⟨a0,l0,c0,rfl⟩:=okWide_slice Tryz.underlying51 hval;obtain⟨fuel,h⟩:=h
 rcases DataW.trod_slice Tryz.underlying51 h with⟨e2,_⟩|⟨a,len,cap,elems,rest,n',hn',e2,_,_,hlc,_,hlen,hel,_,_⟩
 ·have e3:Value.slice a0 l0 c0=.slice none 0 0:=by simpa [Value.cells]using e2
  exact⟨none,0, [],e3,λj hj=>by simp at hj⟩
 have e3:Value.slice a0 l0 c0=.slice (some a) len cap:=by simpa [Value.cells]using e2
 have each:∀i,i<len->∃q:Int,w.cell? (a.add (i*1))=some (.int .i64 q):=by
  intro i hi;have h1:=hel i hi;rw[Tk.cellsInt1,List.getElem?_eq_getElem (by omega)]at h1;obtain⟨cs',h2,h3⟩:=Option.bind_eq_some_iff.1 h1;obtain⟨q,e,_,_⟩:=DataW.trod_int Tryz.underlying3 h3;subst e;obtain⟨_,hl3,hc⟩:=World.cells?_some h2;exact⟨q,by simpa [Addr.add]using hc 0 (by simp)⟩
 obtain⟨q,hq⟩:=choose_lt each;have hlen':((List.range len).map q).length=len:=by simp
 refine⟨some a,cap,(List.range len).map q,by rw[hlen'];exact e3,λj hj=> ?_⟩;rw[hlen']at hj;have hget:((List.range len).map q)[j]'(by rw[hlen'];exact hj)=q j:=by simp
 rw[hget];have p0:=hq j hj;obtain⟨g,off,spot⟩:=a;have z0:=hq 0 (by omega);have hspot:spot=none:=by simpa [Addr.add]using World.cell?_spot z0
 subst hspot
 have hg:g<w.heap.size:=by
  have:=Tk.cell_lt z0;simpa [Addr.add]using this
 rw[Go.WideShapes.add_plain,Nat.mul_one]at p0;exact⟨g,off,rfl,hg,p0⟩
end
end Go.Proofs
