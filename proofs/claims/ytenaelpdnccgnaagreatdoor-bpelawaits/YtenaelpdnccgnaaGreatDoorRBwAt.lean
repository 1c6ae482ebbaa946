import Derived.Test.YtenaelpdnccgnaaGreatDoorRBwClone
import Derived.Test.YtenaelpdnccgnaaGreatDoorRows
import Derived.OpenShut
set_option maxRecDepth 100000
set_option maxHeartbeats 32000000
namespace Go.Proofs
open Go.RowKit Go.Shelf
def Bw.At (g o:Nat)(r:Array Value)(W:World):Prop:=∃cur T,W.heap[g]? =some (.cells cur T (0,0))/\∀i,i<12->cur[o+i]? =r[i]?
theorem Bw.At.lt {g o:Nat}{r:Array Value}{W:World}(h:Bw.At g o r W):g<W.heap.size:=by
 obtain⟨cur,T,h1,_⟩:=h;exact(Array.getElem?_eq_some_iff.1 h1).1
theorem Bw.At.cell {g o:Nat}{r:Array Value}{W:World}(h:Bw.At g o r W)(i:Nat)(hi:i<12):W.cell? ⟨g,o+i,none⟩=r[i]? :=by
 obtain⟨cur,T,h1,h2⟩:=h;simp only[World.cell?,h1];exact h2 i hi
theorem Bw.At.frozen {g o:Nat}{r:Array Value}{W:World}(h:Bw.At g o r W)(i:Nat):W.frozen? ⟨g,i,none⟩=false:=by
 obtain⟨cur,T,h1,h2⟩:=h;simp[World.frozen?,h1]
theorem Bw.At.keep {g o:Nat}{r:Array Value}{W W':World}(h:Bw.At g o r W)(hk:W'.heap[g]? =W.heap[g]?):Bw.At g o r W':=by
 obtain⟨cur,T,h1,h2⟩:=h;exact⟨cur,T,hk.trans h1,h2⟩
theorem Bw.same {W:World}{g i:Nat}{v:Value}{cur:Array Value}{T:TypeId}{fr:Nat×Nat}(h:W.heap[g]? =some (.cells cur T fr))(hv:cur[i]? =some v):W.setCell ⟨g,i,none⟩ v=W:=by
 have hc:cur.setIfInBounds i v=cur:=by
  refine Array.ext_getElem? λk=> ?_;rw[Array.getElem?_setIfInBounds]
  split
  ·rename_i e
   subst e
   split
   ·exact hv.symm
   rename_i hn
   rw[Array.getElem?_eq_none (by omega)]
  rfl
 have hh:(W.setCell ⟨g,i,none⟩ v).heap=W.heap:=by
  refine Array.ext_getElem? λk=> ?_;unfold World.setCell;rw[Array.getElem?_modify]
  split
  ·rename_i e
   subst e;simp[h,hc]
  rfl
 calc W.setCell ⟨g,i,none⟩ v= {W with heap:=(W.setCell ⟨g,i,none⟩ v).heap} :=rfl
  _=W:=by rw[hh]
theorem Bw.At.same {g o:Nat}{r:Array Value}{W:World}(h:Bw.At g o r W){i:Nat}(hi:i<12){v:Value}(hv:r[i]? =some v):W.setCell ⟨g,o+i,none⟩ v=W:=by
 obtain⟨cur,T,h1,h2⟩:=h;exact Bw.same h1 ((h2 i hi).trans hv)
theorem Bw.At.put {g o:Nat}{r:Array Value}{W:World}(h:Bw.At g o r W)(i:Nat)(hi:i<12)(hr:r.size=12)(v:Value):Bw.At g o (r.setIfInBounds i v) (W.setCell ⟨g,o+i,none⟩ v):=by
 obtain⟨cur,T,h1,h2⟩:=h;refine⟨cur.setIfInBounds (o+i) v,T,by simp[World.setCell,Array.getElem?_modify,h1],λj hj=> ?_⟩;have h3:=h2 j hj;have h4:=h2 i hi
 have hl:o+i<cur.size:=by
  rw[Array.getElem?_eq_getElem (by omega:i<r.size)]at h4;exact(Array.getElem?_eq_some_iff.1 h4).1
 rw[Array.getElem?_setIfInBounds,Array.getElem?_setIfInBounds]
 by_cases q:i=j
 ·subst q
  simp[hl,hr,hi]
 rw[if_neg (by omega),if_neg q];exact h3
theorem Bw.At.put_other {g o:Nat}{r:Array Value}{W:World}(h:Bw.At g o r W)(p:Nat)(hp:p<o∨o+12<=p)(v:Value):Bw.At g o r (W.setCell ⟨g,p,none⟩ v):=by
 obtain⟨cur,T,h1,h2⟩:=h;refine⟨cur.setIfInBounds p v,T,by simp[World.setCell,Array.getElem?_modify,h1],λj hj=> ?_⟩;rw[Array.getElem?_setIfInBounds,if_neg (by omega)];exact h2 j hj
theorem Bw.At.of_take {g n:Nat}{cur:Array Value}{T:TypeId}{W:World}{xs:List Value}(h:W.heap[g]? =some (.cells cur T (0,0)))(hx:cur.toList.take n=xs)(o:Nat)(r:Array Value)(hr:∀i,i<12->xs[o+i]? =r[i]?)(ho:o+12<=n):Bw.At g o r W:=by
 refine⟨cur,T,h,λi hi=> ?_⟩;rw[<-hr i hi,<-hx,List.getElem?_take,if_pos (by omega)]
 simp
end Go.Proofs
namespace Go.Proofs
open Go.RowKit
end Go.Proofs
namespace Go.Proofs
open Go.RowKit Go.Shelf
def Rk.Bits (w:World)(g:Nat)(bs:List Bool):Prop:=w.heap[g]? =some (.cells (bs.map Value.bool).toArray 4 (0,0))
def Rk.row (n:Nat):Array Value:=((List.replicate n false).map Value.bool).toArray
end Go.Proofs
namespace Go.Proofs.YtenaelpdnccgnaaGreatDoor
open Go.ChangeShapes Go.WideShapes Go.ChangeAt Go.RowKit
theorem gOps:Tryz.prog.globalNamed "treenail/term.operators" =some 0:=by kernel_rfl
theorem gOpsType:(Tryz.prog.globals[0]?).map (·.type)=some 143:=by kernel_rfl
theorem cellsOps:Tryz.prog.cellsOf 143=75:=by kernel_rfl
theorem cellsOp:Tryz.prog.cellsOf 142=5:=by kernel_rfl
theorem cellsInt':Tryz.prog.cellsOf 3=1:=by kernel_rfl
theorem cellsString':Tryz.prog.cellsOf 9=1:=by kernel_rfl
theorem list5' {α:Type}{l:List α}(h:l.length=5):∃a b c d e,l= [a,b,c,d,e]:=by
 match l,h with
 | [a,b,c,d,e],_=>exact⟨a,b,c,d,e,rfl⟩
theorem op_one {H:Type}{enc:TypeId×Value->H}{W:World}{base:Nat}{sp:Nat->Bool}{held:Bool}{fuel:Nat}{cs:List Value}{x:DataW H×List MemPlace}{t:List UInt8}{n1 n2 n3 n4:Int}
  (h:DataW.trod enc Tryz.prog W base sp held fuel 142 cs=some x) (hx:x.1=.agg [.lit (.string t),.lit (.int .i64 n1),.lit (.int .i64 n2),.lit (.int .i64 n3),.lit (.int .i64 n4)]):
  cs= [.string ⟨t.toArray⟩,.int .i64 n1,.int .i64 n2,.int .i64 n3,.int .i64 n4]:=by
 obtain⟨ys,n,_,hx',hl,hy,hf⟩:=DataW.trod_struct Tryz.underlying142 h;rw[cellsOp]at hl;have hy:ys.length=5:=hy;obtain⟨c0,c1,c2,c3,c4,rfl⟩:=list5' hl;obtain⟨y0,y1,y2,y3,y4,rfl⟩:=list5' hy;have g0:DataW.trod enc Tryz.prog W base sp held n 9 (([c0,c1,c2,c3,c4].drop 0).take (Tryz.prog.cellsOf 9))= [y0,y1,y2,y3,y4][0]? :=hf 0 _ rfl;have g1:DataW.trod enc Tryz.prog W base sp held n 3 (([c0,c1,c2,c3,c4].drop 1).take (Tryz.prog.cellsOf 3))= [y0,y1,y2,y3,y4][1]? :=hf 1 _ rfl;have g2:DataW.trod enc Tryz.prog W base sp held n 3 (([c0,c1,c2,c3,c4].drop 2).take (Tryz.prog.cellsOf 3))= [y0,y1,y2,y3,y4][2]? :=hf 2 _ rfl;have g3:DataW.trod enc Tryz.prog W base sp held n 3 (([c0,c1,c2,c3,c4].drop 3).take (Tryz.prog.cellsOf 3))= [y0,y1,y2,y3,y4][3]? :=hf 3 _ rfl;have g4:DataW.trod enc Tryz.prog W base sp held n 3 (([c0,c1,c2,c3,c4].drop 4).take (Tryz.prog.cellsOf 3))= [y0,y1,y2,y3,y4][4]? :=hf 4 _ rfl;rw[cellsString']at g0;rw[cellsInt']at g1 g2 g3 g4;obtain⟨s,e0,d0,_⟩:=DataW.trod_string Tryz.underlying9 g0;obtain⟨m1,e1,d1,_⟩:=DataW.trod_int Tryz.underlying3 g1;obtain⟨m2,e2,d2,_⟩:=DataW.trod_int Tryz.underlying3 g2;obtain⟨m3,e3,d3,_⟩:=DataW.trod_int Tryz.underlying3 g3;obtain⟨m4,e4,d4,_⟩:=DataW.trod_int Tryz.underlying3 g4;obtain rfl:c0=.string s:=(List.cons.inj e0).1;obtain rfl:c1=.int .i64 m1:=(List.cons.inj e1).1
 obtain rfl:c2=.int .i64 m2:=(List.cons.inj e2).1;obtain rfl:c3=.int .i64 m3:=(List.cons.inj e3).1;obtain rfl:c4=.int .i64 m4:=(List.cons.inj e4).1;rw[hx']at hx;rw[d0,d1,d2,d3,d4]at hx;simp only[List.map_cons,List.map_nil,DataW.agg.injEq,List.cons.injEq,DataW.lit.injEq,Lit.int.injEq,Lit.string.injEq,and_true,true_and]at hx;obtain⟨rfl,rfl,rfl,rfl,rfl⟩:=hx;rfl
theorem ops_of_laid {W:World}(h:laidMet Tryz.prog [("treenail/term.operators",Rows.laid_treenail_term_operators)] W):Tk.Ops W:=by
 obtain⟨ps,⟨g',t',cs,fuel,p,q,hg',ht',hvar,hd,_,_⟩,_⟩:=h;obtain rfl:=Option.some.inj (gOps.symm.trans hg');obtain rfl:=Option.some.inj (gOpsType.symm.trans ht');obtain⟨xs,m,rfl,hx,hl,hxl,hf⟩:=DataW.trod_array Tryz.underlying143 hd;rw[cellsOps]at hl;simp only[cellsOp]at hf;have hx1:=congrArg Prod.fst hx;have hlen:xs.length=15:=hxl;simp only[Rows.laid_treenail_term_operators,DataW.agg.injEq]at hx1
 have row:∀(i:Nat) (t:List UInt8) (n1 n2 n3 n4:Int),i<15->(xs.map (·.1))[i]? =some (.agg [.lit (.string t),.lit (.int .i64 n1),.lit (.int .i64 n2),.lit (.int .i64 n3),.lit (.int .i64 n4)])->
   (cs.toList.drop (i*5)).take 5= [.string ⟨t.toArray⟩,.int .i64 n1,.int .i64 n2,.int .i64 n3,.int .i64 n4]:=by
  intro i t n1 n2 n3 n4 hi hL;obtain⟨x,hxi⟩:∃x,xs[i]? =some x:=⟨xs[i]'(by omega),List.getElem?_eq_getElem (by omega)⟩;rw[List.getElem?_map,hxi]at hL;exact op_one (x:=x) ((hf i hi).trans hxi) (by simpa using hL)
 have step:∀n,cs.toList.drop n=(cs.toList.drop n).take 5++cs.toList.drop (n+5):=λn=>by
  have:=(List.take_append_drop 5 (cs.toList.drop n)).symm;rw[List.drop_drop]at this;exact this
 have r0:=row 0 [] 0 0 0 0 (by decide) (by rw[<-hx1];rfl);have r1:=row 1 [] 0 0 1099511627776 1 (by decide) (by rw[<-hx1];rfl);have r2:=row 2 [36] 0 0 3 1 (by decide) (by rw[<-hx1];rfl);have r3:=row 3 [110,101,103] 1 1 0 1 (by decide) (by rw[<-hx1];rfl);have r4:=row 4 [110,111,116] 1 2 0 2 (by decide) (by rw[<-hx1];rfl);have r5:=row 5 [97,100,100] 2 1 0 1 (by decide) (by rw[<-hx1];rfl);have r6:=row 6 [115,117,98] 2 1 0 1 (by decide) (by rw[<-hx1];rfl);have r7:=row 7 [109,117,108] 2 1 0 1 (by decide) (by rw[<-hx1];rfl);have r8:=row 8 [100,105,118] 2 1 0 1 (by decide) (by rw[<-hx1];rfl);have r9:=row 9 [109,111,100] 2 1 0 1 (by decide) (by rw[<-hx1];rfl);have r10:=row 10 [101,113] 2 1 0 2 (by decide) (by rw[<-hx1];rfl);have r11:=row 11 [108,116] 2 1 0 2 (by decide) (by rw[<-hx1];rfl);have r12:=row 12 [108,101] 2 1 0 2 (by decide) (by rw[<-hx1];rfl);have r13:=row 13 [97,110,100] 2 2 0 2 (by decide) (by rw[<-hx1];rfl);have r14:=row 14 [111,114] 2 2 0 2 (by decide) (by rw[<-hx1];rfl)
 have hca:cs=Tk.opVals:=by
  apply Array.toList_inj.1;have h0:cs.toList=cs.toList.drop 0:=rfl;have h75:cs.toList.drop 75= []:=List.drop_eq_nil_iff.2 (by omega);rw[h0,step 0,step 5,step 10,step 15,step 20,step 25,step 30,step 35,step 40,step 45,step 50,step 55,step 60,step 65,step 70,h75];have q0:(cs.toList.drop 0).take 5=_:=r0;have q1:(cs.toList.drop 5).take 5=_:=r1;have q2:(cs.toList.drop 10).take 5=_:=r2;have q3:(cs.toList.drop 15).take 5=_:=r3;have q4:(cs.toList.drop 20).take 5=_:=r4;have q5:(cs.toList.drop 25).take 5=_:=r5;have q6:(cs.toList.drop 30).take 5=_:=r6;have q7:(cs.toList.drop 35).take 5=_:=r7;have q8:(cs.toList.drop 40).take 5=_:=r8;have q9:(cs.toList.drop 45).take 5=_:=r9;have q10:(cs.toList.drop 50).take 5=_:=r10;have q11:(cs.toList.drop 55).take 5=_:=r11;have q12:(cs.toList.drop 60).take 5=_:=r12;have q13:(cs.toList.drop 65).take 5=_:=r13;have q14:(cs.toList.drop 70).take 5=_:=r14;rw[q0,q1,q2,q3,q4,q5,q6,q7,q8,q9,q10,q11,q12,q13,q14];rfl
 subst hca;simp only[World.var?,gOps,Option.bind_some]at hvar
 split at hvar
 ·rename_i cs' t fz hh
  obtain rfl:=Option.some.inj hvar;exact⟨t,fz,hh⟩
 cases hvar
end Go.Proofs.YtenaelpdnccgnaaGreatDoor
