import Derived.Test.YtenaelpdnccgnaaGreatDoorQAcFormM
set_option maxRecDepth 100000
set_option maxHeartbeats 32000000
namespace Go.Proofs
open Go.RowKit Go.Shelf
theorem Tryz.r16kid_any (d e:Nat)(T:Ac)(V:Ac.Vs)(w:World)(hT:Ac.Lies w w.heap.size e d V T)(hm:T.ls.length<=2147483647)(_hks:T.ks.length<=2147483647)(i:Nat)(hi:i<T.ks.length):
  Calls Tryz.prog 107 #[.agg (Ac.row T V),.int .i64 i] w λe w'=>e=.returned (.bool (Ac.kidD T.ks[i].kind T.ks[i].a T.ks[i].cs.length (Ac.inN T.ls i) (Ac.outN T.ls i)))/\Below w.heap.size w w':=by
 cases d with
 |zero=>exact hT.elim
 |succ d=>
 obtain⟨ka,kc,hvk⟩:=hT.kids;obtain⟨la,lc,hvl,hL⟩:=hT.own.l;obtain⟨n,hn⟩:=pE (T.ks.length);obtain⟨m,hml⟩:=pE (T.ls.length);rw[hn]at hvk;rw[hml]at hvl;obtain⟨x0,x1,x2,x3,x4,x5,x6,x7,x10,x11,hrow⟩:∃x0 x1 x2 x3 x4 x5 x6 x7 x10 x11,Ac.row T V=#[x0,x1,x2,x3,x4,x5,x6,x7,.slice ka n kc,.slice la m lc,x10,x11]:=⟨_,_,_,_,_,_,_,_,_,_,by unfold Ac.row;rw[hvk,hvl]⟩;obtain⟨x,hx⟩:=pE (Ac.inN T.ls i);obtain⟨y,hy⟩:=pE (Ac.outN T.ls i);obtain⟨K,hK⟩:=pE (T.ks[i].kind);obtain⟨A,hA⟩:=pE (T.ks[i].a);obtain⟨q,hq⟩:=pE (T.ks[i].cs.length);obtain⟨R,hR⟩:=pE (Ac.kidD K A q x y);rw[hrow,hx,hy,hK,hA,hq,hR];have HR:Hid (Ac.kidD K A q x y=R):=hR;obtain⟨w1,hw1⟩:=pE (w.alloc (.cells #[x0,x1,x2,x3,x4,x5,x6,x7,.slice ka n kc,.slice la m lc,x10,x11] 44));have B1:=pB hw1
 have N1:w1.heap[w.heap.size]? =some (.cells #[x0,x1,x2,x3,x4,x5,x6,x7,.slice ka n kc,.slice la m lc,x10,x11] 44 (0,0)):=by rw[<-hw1];exact heap_alloc_new w _
 have H1:Hid _:=hw1;have HB:Hid (Below w.heap.size w w1):=B1;have HT:Hid (Ac.Lies w w.heap.size e (d+1) V T/\V.k=.slice ka n kc):=⟨hT,hvk⟩
 have HI:Hid (∀W,Below w.heap.size w W->Calls Tryz.prog 105 #[.agg #[x0,x1,x2,x3,x4,x5,x6,x7,.slice ka n kc,.slice la m lc,x10,x11],.int .i64 i] W λe w'=>e=.returned (.int .i64 x)/\Below W.heap.size W w'):=λW hb=>by
  have h:=Tryz.r16Ins_any x0 x1 x2 x3 x4 x5 x6 x7 (.slice ka n kc) x10 x11 la m lc T.ls i W ((hL.keep hb.block).wider hb.size) hml (by omega);rw[hx]at h;exact h
 have HO:Hid (∀W,Below w.heap.size w W->Calls Tryz.prog 106 #[.agg #[x0,x1,x2,x3,x4,x5,x6,x7,.slice ka n kc,.slice la m lc,x10,x11],.int .i64 i] W λe w'=>e=.returned (.int .i64 y)/\Below W.heap.size W w'):=λW hb=>by
  have h:=Tryz.r16Outs_any x0 x1 x2 x3 x4 x5 x6 x7 (.slice ka n kc) x10 x11 la m lc T.ls i W ((hL.keep hb.block).wider hb.size) hml (by omega);rw[hy]at h;exact h
 have HX:Hid (∃h:i<T.ks.length,(T.ks[i]'h).kind=K/\(T.ks[i]'h).a=A/\(T.ks[i]'h).cs.length=q):=⟨hi,hK,hA,hq⟩;have i0:(0:Int)<=i:=by omega
 have i1:(i:Int)<n:=by omega
 have HN:Hid (i<T.ks.length):=hi;have ha:=Tryz.underlying44;have ia:(Tryz.prog.info? 44).map (·.size)=some (#[x0,x1,x2,x3,x4,x5,x6,x7,.slice ka n kc,.slice la m lc,x10,x11]:Array Value).size:=Ak.rinfo;obtain⟨W3,hW3⟩:∃W3:World->Prop,W3=λW=>Below w1.heap.size w1 W:=⟨_,rfl⟩;clear hW3 W3;clear hT hvk hvl hL hm hml hrow hx hy hK hA hq hR hw1 B1 hi _hks hn
 go_enter Tryz.func107,Tryz.ntmps107
 go_upto_region 1 with fail
 rw[H1.out]
 go_wp2_with (refine wpList_load_row rfl 44 _ rfl _ rfl 44 _ (0,0) _ N1 ha rfl ia ?_)
 refine Calls.mono (HI.out _ HB.out) ?_;rintro e W2 ⟨rfl,b2⟩;have B2:Hid (Below w1.heap.size w1 W2):=b2;have HB2:Hid (Below w.heap.size w W2):=HB.out.trans (b2.mono HB.out.size);have N2:=(b2.block _ (Array.getElem?_eq_some_iff.1 N1).1).trans N1;clear b2 N1 HI H1
 go_wp2_with (refine wpList_load_row rfl 44 _ rfl _ rfl 44 _ (0,0) _ N2 ha rfl ia ?_)
 refine Calls.mono (HO.out _ HB2.out) ?_;rintro e W3 ⟨rfl,b3⟩;have HB3:Hid (Below w.heap.size w W3):=HB2.out.trans (b3.mono HB2.out.size);have N3:=(b3.block _ (Array.getElem?_eq_some_iff.1 N2).1).trans N2;have c8:W3.cell? ⟨w.heap.size,8,none⟩=some (.slice ka n kc):=by simp[World.cell?,N3]
 obtain⟨g,off,U,xs,w4,D⟩:=Ak.kid_at HT.out.1 HT.out.2 HB3.out i HN.out;obtain⟨_,z0,z2,z7⟩:=HX.out;have hr0:xs[0]? =some (.int .i64 K):=by rw[<-D.row,<-z0];rfl
 have hr2:xs[2]? =some (.int .i64 A):=by rw[<-D.row,<-z2];rfl
 obtain⟨ca,cc,hvc,_⟩:=D.lies.own.c;have hr7:xs[7]? =some (.slice ca q cc):=by rw[<-D.row,<-z7,<-hvc];rfl
 obtain⟨rfl,-,ryr,xone,ix,ixl,NZ,ez,hw4,NK,-,HD,-⟩:=D;obtain⟨kb,hkb⟩:=pE (W3.heap.size);have HKB:Hid (W3.heap.size=kb):=hkb;have HW4:Hid _:=hw4;have HX4:Hid (Below w.heap.size w w4):=HD;rw[hkb]at NK;have k0:w4.cell? ⟨kb,0,none⟩=some (.int .i64 K):=by simp[World.cell?,NK,hr0]
 have k2:w4.cell? ⟨kb,2,none⟩=some (.int .i64 A):=by simp[World.cell?,NK,hr2]
 have k7:w4.cell? ⟨kb,5+2,none⟩=some (.slice ca q cc):=by simp[World.cell?,NK,hr7]
 have k7':w4.cell? ⟨kb,7,none⟩=some (.slice ca q cc):=k7;clear z0 z2 z7 b3 N2 N3 HO hr0 hr2 hr7 hvc hw4 hkb HD NK
 go_upto_region 4 with(first
  |refine wpList_load_mid rfl 44 _ rfl g (off+i*12) rfl xs.toList _ ryr ha rfl ixl ?_
  |refine wpList_store_row rfl 44 _ _ rfl W3.heap.size xs rfl rfl 44 _ NZ ix ez xone ?_)
 rw[HW4.out,HKB.out];clear ryr NZ HW4 HKB c8 ix ixl ez xone HB HB2 HB3 B2 i0 i1 ia;have ex1:((x:Int)==1)=decide ((x:Int)=1):=rfl;have ey1:((y:Int)==1)=decide ((y:Int)=1):=rfl;have eyq:((y:Int)==(q:Int))=decide ((y:Int)=q):=rfl
 by_cases hK:K=12
 rotate_left
 ·have eK:(K !=12)=true:=by simpa using hK
  have HQ:Hid (R=(decide ((x:Int)=1)&&decide ((y:Int)=1))):=by show _=_;rw[<-HR.out,Ac.kidD,if_neg hK]
  clear hK HR
  by_cases hx1:(x:Int)=1
  ·rw[decide_eq_true hx1]at ex1
   have HQ2:Hid (R=decide ((y:Int)=1)):=by show _=_;rw[HQ.out,decide_eq_true hx1,Bool.true_and]
   clear hx1 HQ;go_wp2;go_ret;exact⟨by rw[HQ2.out];rfl,HX4.out⟩
  rw[decide_eq_false hx1]at ex1;have HQ2:Hid (R=false):=by show _=_;rw[HQ.out,decide_eq_false hx1,Bool.false_and]
  clear hx1 HQ;go_wp2;go_ret;exact⟨by rw[HQ2.out];rfl,HX4.out⟩
 have eK:(K !=12)=false:=by simp[hK]
 by_cases a1:A=1
 ·have f1:(A==1)=true:=by simp[a1]
  have HQ:Hid (R=(decide ((x:Int)=1)&&decide (2<=(y:Int)))):=by show _=_;rw[<-HR.out,Ac.kidD,if_pos hK,if_pos a1]
  clear hK a1 HR
  by_cases hx1:(x:Int)=1
  ·rw[decide_eq_true hx1]at ex1
   have HQ2:Hid (R=decide (2<=(y:Int))):=by show _=_;rw[HQ.out,decide_eq_true hx1,Bool.true_and]
   clear hx1 HQ;go_wp2;go_ret;exact⟨by rw[HQ2.out];rfl,HX4.out⟩
  rw[decide_eq_false hx1]at ex1;have HQ2:Hid (R=false):=by show _=_;rw[HQ.out,decide_eq_false hx1,Bool.false_and]
  clear hx1 HQ;go_wp2;go_ret;exact⟨by rw[HQ2.out];rfl,HX4.out⟩
 have f1:(A==1)=false:=by simpa using a1
 by_cases a3:A=3
 ·have f3:(A==3)=true:=by simp[a3]
  have HQ:Hid (R=(decide ((x:Int)=1)&&decide ((y:Int)=q))):=by show _=_;rw[<-HR.out,Ac.kidD,if_pos hK,if_neg a1,if_pos a3]
  clear hK a1 a3 HR
  by_cases hx1:(x:Int)=1
  ·rw[decide_eq_true hx1]at ex1
   have HQ2:Hid (R=decide ((y:Int)=q)):=by show _=_;rw[HQ.out,decide_eq_true hx1,Bool.true_and]
   clear hx1 HQ;go_wp2;go_ret;exact⟨by rw[HQ2.out];rfl,HX4.out⟩
  rw[decide_eq_false hx1]at ex1;have HQ2:Hid (R=false):=by show _=_;rw[HQ.out,decide_eq_false hx1,Bool.false_and]
  clear hx1 HQ;go_wp2;go_ret;exact⟨by rw[HQ2.out];rfl,HX4.out⟩
 have f3:(A==3)=false:=by simpa using a3
 by_cases a24:A=2∨A=4
 rotate_left
 ·have f2:(A==2)=false:=by simpa using λh=>a24 (.inl h)
  have f4:(A==4)=false:=by simpa using λh=>a24 (.inr h)
  have HQ:Hid (R=true):=by show _=_;rw[<-HR.out,Ac.kidD,if_pos hK,if_neg a1,if_neg a3,if_neg a24]
  clear hK a1 a3 a24 HR ex1 ey1 eyq;go_wp2;go_ret;exact⟨by rw[HQ.out];rfl,HX4.out⟩
 have HQ:Hid (R=(decide (2<=(x:Int))&&decide ((y:Int)=1))):=by show _=_;rw[<-HR.out,Ac.kidD,if_pos hK,if_neg a1,if_neg a3,if_pos a24]
 clear hK a1 a3 HR
 rcases a24 with rfl|rfl
 ·by_cases hx1:2<=(x:Int)
  ·have ex2:decide (2<=(x:Int))=true:=decide_eq_true hx1
   have HQ2:Hid (R=decide ((y:Int)=1)):=by show _=_;rw[HQ.out,ex2,Bool.true_and]
   clear HQ ex1;go_wp2;go_ret;exact⟨by rw[HQ2.out];rfl,HX4.out⟩
  have ex2:decide (2<=(x:Int))=false:=decide_eq_false hx1;have HQ2:Hid (R=false):=by show _=_;rw[HQ.out,ex2,Bool.false_and]
  clear HQ ex1;go_wp2;go_ret;exact⟨by rw[HQ2.out];rfl,HX4.out⟩
 by_cases hx1:2<=(x:Int)
 ·have ex2:decide (2<=(x:Int))=true:=decide_eq_true hx1
  have HQ2:Hid (R=decide ((y:Int)=1)):=by show _=_;rw[HQ.out,ex2,Bool.true_and]
  clear HQ ex1;go_wp2;go_ret;exact⟨by rw[HQ2.out];rfl,HX4.out⟩
 have ex2:decide (2<=(x:Int))=false:=decide_eq_false hx1;have HQ2:Hid (R=false):=by show _=_;rw[HQ.out,ex2,Bool.false_and]
 clear HQ ex1;go_wp2;go_ret;exact⟨by rw[HQ2.out];rfl,HX4.out⟩
theorem Ak.own_below {w w':World}{B:Nat}{e:TypeId}{size:Nat}{v:Value}{n:Nat}{cs:List Value}(h:w.ownsRow B e size v n cs)(hb:Below w.heap.size w w'):w'.ownsRow B e size v n cs:=
 ⟨h.1,h.2.imp id fun⟨g,cap,cur,hv,h1,h2,h3⟩=>⟨g,cap,cur,hv,h1,(hb.block g (Array.getElem?_eq_some_iff.1 h2).1).trans h2,h3⟩⟩
theorem Ak.infoREdge:(Tryz.prog.info? 151).map (λi=>(i.zero,i.size,i.bytes))=some (some (.agg #[.int .i64 0,.int .i64 0]),2,16):=by kernel_rfl
theorem Ak.eds_of {ty:TypeId}{w:World}{B m c:Nat}{a:Option Addr}{es:List (Int×Int)}(h:w.ownsRow B ty 2 (.slice a m c) es.length (Ak.ecells es)):Rk.Eds w w.heap.size a es:=by
 intro j hj
 rcases h.2 with⟨e,hn⟩|⟨g,cap,cur,e,h3,h4,h5,h6,h7,h8⟩
 ·omega
 simp only[Value.slice.injEq]at e;obtain⟨rfl,-,rfl⟩:=e;have hk:=Ak.ecells_at es j hj;rw[<-h8,List.getElem?_take,List.getElem?_take,if_pos (by omega),if_pos (by omega),Array.getElem?_toList,Array.getElem?_toList]at hk;refine⟨g,0,rfl,(Array.getElem?_eq_some_iff.1 h4).1, ?_, ?_⟩
 ·simp only[World.cell?,h4,Nat.zero_add];exact hk.1
 simp only[World.cell?,h4,Nat.zero_add];exact hk.2
theorem Tryz.rround_free (n:Nat)(a:Option Addr)(c:Nat)(rs:List (Int×Int))(w:World)(hE:Rk.Eds w w.heap.size a rs)(hm:rs.length<=1000000)(hr:Rk.chk n rs=0):
  Calls Tryz.prog 108 #[.int .i64 (n:Int),.slice a rs.length c] w λe w'=>∃la ln lc,e=.returned (.tuple #[.slice la ln lc,.int .i64 0])/\decide (((ln:Nat):Int)=0)=Ac.freeB n rs/\Below w.heap.size w w':=by
 unfold Ac.freeB;rw[if_neg (λh=>h hr)];obtain⟨k,es,hk1,hk,rfl,hl,hes⟩:=Rk.chk_ok hr;obtain rfl:n=k:=by omega
 have key:=Tryz.rround_ok n a c es w hk hes hE (by rw[Rk.up_length]at hm;omega) hr
 have hd:((Rk.up es).map λe=>(e.1.toNat,e.2.toNat))=es:=by
  rw[Rk.up,List.map_map];exact(List.map_congr_left λe _=>by simp).trans (List.map_id es)
 rw[Rk.up_length,hd];refine key.mono λe w' ⟨v,he,hown,hb⟩=> ?_;obtain⟨la,lc,rfl⟩:=Ak.own_shape hown;refine⟨la,_,lc,he, ?_,hb⟩
 cases (List.range n).filter (λi=>Rk.lead es i i)<;>simp
 omega
theorem Ac.bet_chk {ls:List (Int×Int)}{n:Nat}(h:ls.all (Ac.inR n)=true)(hn:n<=64)(hl:ls.length<=256):Rk.chk n (Ac.bet ls)=0:=by
 unfold Rk.chk;rw[if_neg (by omega),if_neg (by have:=Ac.bet_length ls;omega),if_neg];rw[Bool.not_eq_true,List.any_eq_false];intro x hx;unfold Ac.bet at hx;obtain⟨hx1,hx2⟩:=List.mem_filter.1 hx;have h1:=List.all_eq_true.1 h x hx1;unfold Ac.inR at h1;simp only[Bool.and_eq_true,decide_eq_true_eq]at hx2 h1;unfold Rk.outB Rk.inB
 simp
 omega
theorem Ac.all_snoc (n:Nat)(ls:List (Int×Int))(j:Nat)(h:j<ls.length):(ls.take (j+1)).all (Ac.inR n)=((ls.take j).all (Ac.inR n)&&Ac.inR n ls[j]):=by
 rw[List.take_succ_eq_append_getElem h,List.all_append]
 simp
theorem Tryz.r16linked_any (d e:Nat)(T:Ac)(V:Ac.Vs)(w:World)(hT:Ac.Lies w w.heap.size e d V T)(hm:T.ls.length<=1000)(hks:T.ks.length<=1000):
  Calls Tryz.prog 78 #[.agg (Ac.row T V)] w λe w'=>Ak.Told T.LinkD e/\Below w.heap.size w w':=by
 obtain⟨ka,kc,hvk⟩:=hT.kids;obtain⟨la,lc,hvl,hL⟩:=hT.own.l;obtain⟨n,hn⟩:=pE (T.ks.length);obtain⟨m,hml⟩:=pE (T.ls.length);obtain⟨P,hP⟩:=pE (T.LinkD);rw[hn]at hvk;rw[hml]at hvl;obtain⟨x0,x1,x2,x3,x4,x5,x6,x7,x10,x11,hrow⟩:∃x0 x1 x2 x3 x4 x5 x6 x7 x10 x11,Ac.row T V=#[x0,x1,x2,x3,x4,x5,x6,x7,.slice ka n kc,.slice la m lc,x10,x11]:=⟨_,_,_,_,_,_,_,_,_,_,by unfold Ac.row;rw[hvk,hvl]⟩;obtain⟨yi,hyi⟩:=pE (Ac.inN T.ls (-1));obtain⟨yo,hyo⟩:=pE (Ac.outN T.ls (-1))
 have HP:Hid (P↔(T.ls.all (Ac.inR n)=true/\(yi=1/\yo=1/\m<=40/\n<=64)/\(∀i (h:i<T.ks.length),Ac.kidD T.ks[i].kind T.ks[i].a T.ks[i].cs.length (Ac.inN T.ls i) (Ac.outN T.ls i)=true)/\Ac.freeB n (Ac.bet T.ls)=true)):=by
  show _↔_;rw[<-hP,<-hn,<-hml,<-hyi,<-hyo];exact Iff.rfl
 rw[hP,hrow];obtain⟨w1,hw1⟩:=pE (w.alloc (.cells #[x0,x1,x2,x3,x4,x5,x6,x7,.slice ka n kc,.slice la m lc,x10,x11] 44));have B1:=pB hw1
 have N1:w1.heap[w.heap.size]? =some (.cells #[x0,x1,x2,x3,x4,x5,x6,x7,.slice ka n kc,.slice la m lc,x10,x11] 44 (0,0)):=by rw[<-hw1];exact heap_alloc_new w _
 have c9:w1.cell? ⟨w.heap.size,9,none⟩=some (.slice la m lc):=by simp[World.cell?,N1]
 have H1:Hid _:=hw1;have HF:Hid (∀W,Below w1.heap.size w1 W->W.heap[w.heap.size]? =some (.cells #[x0,x1,x2,x3,x4,x5,x6,x7,.slice ka n kc,.slice la m lc,x10,x11] 44 (0,0))/\Below w.heap.size w W):=λW hb=>⟨(hb.block _ (Array.getElem?_eq_some_iff.1 N1).1).trans N1,B1.trans (hb.mono B1.size)⟩;have HL:Hid (Ac.Lks w w.heap.size la T.ls/\T.ls.length=m/\T.ks.length=n):=⟨hL,hml,hn⟩
 have HI:Hid (∀W,Below w.heap.size w W->Calls Tryz.prog 105 #[.agg #[x0,x1,x2,x3,x4,x5,x6,x7,.slice ka n kc,.slice la m lc,x10,x11],.int .i64 (-1)] W λe w'=>e=.returned (.int .i64 yi)/\Below W.heap.size W w'):=λW hb=>by
  have h:=Tryz.r16Ins_any x0 x1 x2 x3 x4 x5 x6 x7 (.slice ka n kc) x10 x11 la m lc T.ls (-1) W ((hL.keep hb.block).wider hb.size) hml (by omega);rw[hyi]at h;exact h
 have HO:Hid (∀W,Below w.heap.size w W->Calls Tryz.prog 106 #[.agg #[x0,x1,x2,x3,x4,x5,x6,x7,.slice ka n kc,.slice la m lc,x10,x11],.int .i64 (-1)] W λe w'=>e=.returned (.int .i64 yo)/\Below W.heap.size W w'):=λW hb=>by
  have h:=Tryz.r16Outs_any x0 x1 x2 x3 x4 x5 x6 x7 (.slice ka n kc) x10 x11 la m lc T.ls (-1) W ((hL.keep hb.block).wider hb.size) hml (by omega);rw[hyo]at h;exact h
 have HKD:Hid (∀W (i:Nat) (hi:i<T.ks.length),Below w.heap.size w W->Calls Tryz.prog 107 #[.agg #[x0,x1,x2,x3,x4,x5,x6,x7,.slice ka n kc,.slice la m lc,x10,x11],.int .i64 i] W λe w'=>e=.returned (.bool (Ac.kidD T.ks[i].kind T.ks[i].a T.ks[i].cs.length (Ac.inN T.ls i) (Ac.outN T.ls i)))/\Below W.heap.size W w'):=λW i hi hb=>by
  have h:=Tryz.r16kid_any d e T V W ((hT.below hb).wider hb.size) (by omega) (by omega) i hi;rw[hrow]at h;exact h
 obtain⟨i1,hi1,hy0,hy1,hy2⟩:=info_parts Ak.infoREdge;have ha:=Tryz.underlying44;have ia:(Tryz.prog.info? 44).map (·.size)=some (#[x0,x1,x2,x3,x4,x5,x6,x7,.slice ka n kc,.slice la m lc,x10,x11]:Array Value).size:=Ak.rinfo;have hm':m<=1000:=by omega
 have hn':n<=1000:=by omega
 clear hT hvk hvl hL hm hml hrow hyi hyo hw1 B1 hks hn hP N1
 go_enter Tryz.func78,Tryz.ntmps78
 go_upto_region 1 with fail
 rw[H1.out];go_wp2
 go_loopg [3,12] m (λgk s3 s12 wr=>∃(j r:Nat) (va:Option Addr) (vc:Nat),gk+j=m/\s12=.int .i64 j/\s3=.slice va r vc/\r<=j/\Hid (r=(Ac.bet (T.ls.take j)).length/\Below w1.heap.size w1 wr/\wr.ownsRow w1.heap.size 151 2 (.slice va r vc) r (Ak.ecells (Ac.bet (T.ls.take j)))/\(T.ls.take j).all (Ac.inR n)=true))
 case atStart=>exact⟨0,0,none,0,by omega,rfl,rfl,Nat.le_refl _,rfl,Below.refl _ w1,World.ownsRow_nil _ _ _ _,by simp⟩
 case round=>
  obtain⟨j,r,va,vc,hj,rfl,rfl,hr,HJ⟩:=hrel;clear c9
  by_cases hlt:j<m
  ·have hd:decide ((j:Int)<m)=true:=decide_eq_true (by omega)
   have hjl:j<T.ls.length:=by rw[HL.out.2.1];exact hlt
   obtain⟨q,off,rfl,hq,d0,d1⟩:=HL.out.1 j hjl;obtain⟨x,hx⟩:=pE (T.ls[j]);obtain⟨f,t⟩:=x;rw[hx]at d0 d1;have j0:(0:Int)<=j:=by omega
   have j1:(j:Int)<m:=by omega
   have BW:Below w.heap.size w wr:=(HF.out wr HJ.out.2.1).2;have e0:wr.cell? ⟨q,off+j*2,none⟩=some (.int .i64 f):=by rw[BW.cell (p:=⟨q,off+j*2,none⟩) hq];exact d0
   have e1:wr.cell? ⟨q,off+j*2+1,none⟩=some (.int .i64 t):=by rw[BW.cell (p:=⟨q,off+j*2+1,none⟩) hq];exact d1
   obtain⟨w2,hw2⟩:=pE (wr.alloc (.cells #[.int .i64 f,.int .i64 t] 70));have B2:=pB hw2
   have HB2:Hid (Below w1.heap.size w1 w2):=HJ.out.2.1.trans (B2.mono HJ.out.2.1.size);have N2:w2.heap[wr.heap.size]? =some (.cells #[.int .i64 f,.int .i64 t] 70 (0,0)):=by rw[<-hw2];exact heap_alloc_new wr _
   have z0:w2.cell? ⟨wr.heap.size,0,none⟩=some (.int .i64 f):=by simp[World.cell?,N2]
   have z1:w2.cell? ⟨wr.heap.size,1,none⟩=some (.int .i64 t):=by simp[World.cell?,N2]
   have NB:=(HF.out w2 HB2.out).1;have c8:w2.cell? ⟨w.heap.size,8,none⟩=some (.slice ka n kc):=by simp[World.cell?,NB]
   have HAS:Hid ((T.ls.take (j+1)).all (Ac.inR n)=Ac.inR n (f,t)):=by
    show _=_;rw[Ac.all_snoc n T.ls j hjl,HJ.out.2.2.2,hx,Bool.true_and]
   have HTK:Hid (T.ls.take (j+1)=T.ls.take j++ [(f,t)]):=by show _=_;rw[List.take_succ_eq_append_getElem hjl,hx]
   have HOW:Hid (r=(Ac.bet (T.ls.take j)).length/\w2.ownsRow w1.heap.size 151 2 (.slice va r vc) r (Ak.ecells (Ac.bet (T.ls.take j)))):=⟨HJ.out.1,by rw[<-hw2];exact HJ.out.2.2.1.alloc _⟩
   have HNO:Hid (Ac.inR n (f,t)=false->¬P):=λh hp=>by
    have h1:=(HP.out.1 hp).1;have h2:=List.all_eq_true.1 h1 (f,t) (by rw[<-hx];exact List.getElem_mem hjl);rw[h]at h2
    cases h2
   have HX2:Hid (Below w.heap.size w w2):=(HF.out w2 HB2.out).2;have HW2:Hid _:=hw2;clear d0 d1 hx hjl hq hw2 B2 N2 BW HJ NB
   by_cases a1:f< -1
   ·have f1:decide (f< -1)=true:=decide_eq_true a1
    have HN:Hid (¬P):=HNO.out (by unfold Ac.inR;exact decide_eq_false (λh=>by have:=h.1;dsimp only at this;omega));clear a1 HNO
    go_upto_region 5 with fail
    rw[HW2.out];go_wp2;go_ret;exact⟨Ak.Told.no HN.out,HX2.out⟩
   have f1:decide (f< -1)=false:=decide_eq_false a1
   by_cases a2:t< -1
   ·have f2:decide (t< -1)=true:=decide_eq_true a2
    have HN:Hid (¬P):=HNO.out (by unfold Ac.inR;exact decide_eq_false (λh=>by have:=h.2.1;dsimp only at this;omega));clear a1 a2 HNO
    go_upto_region 5 with fail
    rw[HW2.out];go_wp2;go_ret;exact⟨Ak.Told.no HN.out,HX2.out⟩
   have f2:decide (t< -1)=false:=decide_eq_false a2
   by_cases a3:(n:Int)<=f
   ·have f3:decide ((n:Int)<=f)=true:=decide_eq_true a3
    have HN:Hid (¬P):=HNO.out (by unfold Ac.inR;exact decide_eq_false (λh=>by have:=h.2.2.1;dsimp only at this;omega));clear a1 a2 a3 HNO
    go_upto_region 5 with fail
    rw[HW2.out];go_wp2;go_ret;exact⟨Ak.Told.no HN.out,HX2.out⟩
   have f3:decide ((n:Int)<=f)=false:=decide_eq_false a3
   by_cases a4:(n:Int)<=t
   ·have f4:decide ((n:Int)<=t)=true:=decide_eq_true a4
    have HN:Hid (¬P):=HNO.out (by unfold Ac.inR;exact decide_eq_false (λh=>by have:=h.2.2.2;dsimp only at this;omega));clear a1 a2 a3 a4 HNO
    go_upto_region 5 with fail
    rw[HW2.out];go_wp2;go_ret;exact⟨Ak.Told.no HN.out,HX2.out⟩
   have f4:decide ((n:Int)<=t)=false:=decide_eq_false a4
   have HAL:Hid ((T.ls.take (j+1)).all (Ac.inR n)=true):=by
    show _=_;rw[HAS.out];unfold Ac.inR;exact decide_eq_true ⟨by dsimp only;omega,by dsimp only;omega,by dsimp only;omega,by dsimp only;omega⟩
   clear a1 a2 a3 a4 HNO HAS
   by_cases b3:0<=f/\0<=t
   ·have e3:decide (0<=f)=true:=decide_eq_true b3.1
    have e4:decide (0<=t)=true:=decide_eq_true b3.2;have b3a:=b3.1;have b3b:=b3.2;have HBT:Hid (Ac.bet (T.ls.take (j+1))=Ac.bet (T.ls.take j)++ [(f,t)]):=by show _=_;rw[HTK.out,Ac.bet_snoc,e3,e4];rfl
    have hs1:=HB2.out.size;have HO8:Hid ((w2.alloc (.cells #[.int .i64 f,.int .i64 t] 151)).ownsRow w1.heap.size 151 2 (.slice va r vc) r (Ak.ecells (Ac.bet (T.ls.take j)))/\w1.heap.size<=(w2.alloc (.cells #[.int .i64 f,.int .i64 t] 151)).heap.size):=⟨HOW.out.2.alloc _,by simp;omega⟩
    have HSR:Hid (∀k u, [Value.int .i64 f,.int .i64 t][k]? =some u->(w2.alloc (.cells #[.int .i64 f,.int .i64 t] 151)).cell? ((⟨w2.heap.size,0,none⟩:Addr).add k)=some u):=λk u hk=>by
     rw[Go.WideShapes.add_plain,Nat.zero_add]
     match k,hk with
     |0,hk=>simp at hk;subst hk;simp
     |1,hk=>simp at hk;subst hk;simp
    clear b3
    go_upto_region 5 with fail
    rw[HW2.out]
    go_wp2_with (at_builtin;refine wpList_append_own _ rfl _ _ 150 rfl w1.heap.size 151 i1 (.agg #[.int .i64 0,.int .i64 0]) 2 16 Tryz.underlying150 hi1 hy0 hy1 hy2 rfl (by decide) (.slice va r vc) r (Ak.ecells (Ac.bet (T.ls.take j))) rfl HO8.out.1 ⟨w2.heap.size,0,none⟩ 1 1 [.int .i64 f,.int .i64 t] rfl rfl HSR.out (by intro u hu;simp at hu;rcases hu with rfl|rfl<;>rfl) ?c3 ?c4 HO8.out.2 ?_)
    case c3=>unfold maxLen;omega
    case c4=>omega
    intro v9 W9 own9 g9 _;obtain⟨va9,vc9,rfl⟩:=Ak.own_shape own9
    have HC9:Hid (r+1=(Ac.bet (T.ls.take (j+1))).length/\Below w1.heap.size w1 W9/\W9.ownsRow w1.heap.size 151 2 (.slice va9 (r+1) vc9) (r+1) (Ak.ecells (Ac.bet (T.ls.take (j+1))))/\(T.ls.take (j+1)).all (Ac.inR n)=true):=by
     have hle:(Ac.bet (T.ls.take (j+1))).length=r+1:=by rw[HBT.out,List.length_append,<-HOW.out.1];rfl
     refine⟨hle.symm,Rk.below_grown (HB2.out.alloc hs1 _) HO8.out.2 HO8.out.1 g9, ?_,HAL.out⟩;rw[HBT.out];have:Ak.ecells (Ac.bet (T.ls.take j)++ [(f,t)])=Ak.ecells (Ac.bet (T.ls.take j))++ [.int .i64 f,.int .i64 t]:=by simp[Ak.ecells]
     rw[this];exact own9
    clear own9 g9 HO8 HSR;go_wp2;go_roundg (gk-1)
    case measure=>omega
    case rel=>exact⟨j+1,r+1,va9,vc9,by omega,by go_num,rfl,by omega,HC9.out⟩
   have HC9:Hid (r=(Ac.bet (T.ls.take (j+1))).length/\Below w1.heap.size w1 w2/\w2.ownsRow w1.heap.size 151 2 (.slice va r vc) r (Ak.ecells (Ac.bet (T.ls.take (j+1))))/\(T.ls.take (j+1)).all (Ac.inR n)=true):=by
    have hbe:Ac.bet (T.ls.take (j+1))=Ac.bet (T.ls.take j):=by
     rw[HTK.out,Ac.bet_snoc,if_neg (by simp only[Bool.and_eq_true,decide_eq_true_eq];exact b3),List.append_nil]
    rw[hbe];exact⟨HOW.out.1,HB2.out,HOW.out.2,HAL.out⟩
   by_cases b4:0<=f
   ·have e3:decide (0<=f)=true:=decide_eq_true b4
    have e4:decide (0<=t)=false:=decide_eq_false λh=>b3 ⟨b4,h⟩;clear b3 b4
    go_upto_region 5 with fail
    rw[HW2.out];go_wp2;go_roundg (gk-1)
    case measure=>omega
    case rel=>exact⟨j+1,r,va,vc,by omega,by go_num,rfl,by omega,HC9.out⟩
   have e3:decide (0<=f)=false:=decide_eq_false b4;clear b3 b4
   go_upto_region 5 with fail
   rw[HW2.out];go_wp2;go_roundg (gk-1)
   case measure=>omega
   case rel=>exact⟨j+1,r,va,vc,by omega,by go_num,rfl,by omega,HC9.out⟩
  have hd:decide ((j:Int)<m)=false:=decide_eq_false (by omega);obtain rfl:j=m:=by omega
  have HQ:Hid (r=(Ac.bet T.ls).length/\wr.ownsRow w1.heap.size 151 2 (.slice va r vc) r (Ak.ecells (Ac.bet T.ls))/\T.ls.all (Ac.inR n)=true):=by
   have h:=HJ.out;rw[show T.ls.take j=T.ls from List.take_of_length_le (by rw[HL.out.2.1];omega)]at h;exact⟨h.1,h.2.2.1,h.2.2.2⟩
  have HBR:Hid (Below w1.heap.size w1 wr):=HJ.out.2.1;have NB:=(HF.out wr HBR.out).1;clear HJ
  by_cases g1:yi=1
  rotate_left
  ·have h1:((yi:Int) !=1)=true:=by simp;omega
   have HN:Hid (¬P):=λh=>g1 (HP.out.1 h).2.1.1;clear g1
   go_wp2_with (refine wpList_load_row rfl 44 _ rfl _ rfl 44 _ (0,0) _ NB ha rfl ia ?_)
   refine Calls.mono (HI.out _ (HF.out _ HBR.out).2) ?_;rintro e W2 ⟨rfl,b2⟩;have HX2:Hid (Below w.heap.size w W2):=(HF.out _ (HBR.out.trans (b2.mono HBR.out.size))).2;clear b2 NB HI HO HKD;go_wp2;go_ret;exact⟨Ak.Told.no HN.out,HX2.out⟩
  have h1:((yi:Int) !=1)=false:=by simp[g1]
  by_cases g2:yo=1
  rotate_left
  ·have h2:((yo:Int) !=1)=true:=by simp;omega
   have HN:Hid (¬P):=λh=>g2 (HP.out.1 h).2.1.2.1;clear g1 g2
   go_wp2_with (refine wpList_load_row rfl 44 _ rfl _ rfl 44 _ (0,0) _ NB ha rfl ia ?_)
   refine Calls.mono (HI.out _ (HF.out _ HBR.out).2) ?_;rintro e W2 ⟨rfl,b2⟩;have HB2:Hid (Below w1.heap.size w1 W2):=HBR.out.trans (b2.mono HBR.out.size);have NB2:=(HF.out _ HB2.out).1;clear b2 NB HI;obtain⟨p0,p1,p2,p3,p4,p5,p6,p7,p8,p9,p10,p11⟩:W2.cell? ⟨w.heap.size,0,none⟩=some x0/\W2.cell? ⟨w.heap.size,1,none⟩=some x1/\W2.cell? ⟨w.heap.size,2,none⟩=some x2/\W2.cell? ⟨w.heap.size,3,none⟩=some x3/\W2.cell? ⟨w.heap.size,4,none⟩=some x4/\W2.cell? ⟨w.heap.size,5,none⟩=some x5/\W2.cell? ⟨w.heap.size,6,none⟩=some x6/\W2.cell? ⟨w.heap.size,7,none⟩=some x7/\W2.cell? ⟨w.heap.size,8,none⟩=some (.slice ka n kc)/\W2.cell? ⟨w.heap.size,9,none⟩=some (.slice la j lc)/\W2.cell? ⟨w.heap.size,10,none⟩=some x10/\W2.cell? ⟨w.heap.size,11,none⟩=some x11:=by simp[World.cell?,NB2]
   go_wp2_with fail
   refine Calls.mono (HO.out _ (HF.out _ HB2.out).2) ?_;rintro e W3 ⟨rfl,b3⟩;have HX2:Hid (Below w.heap.size w W3):=(HF.out _ (HB2.out.trans (b3.mono HB2.out.size))).2;clear b3 NB2 HO HKD p0 p1 p2 p3 p4 p5 p6 p7 p8 p9 p10 p11;go_wp2;go_ret;exact⟨Ak.Told.no HN.out,HX2.out⟩
  have h2:((yo:Int) !=1)=false:=by simp[g2]
  have HYY:Hid (yi=1/\yo=1):=⟨g1,g2⟩;clear g1 g2
  go_wp2_with (refine wpList_load_row rfl 44 _ rfl _ rfl 44 _ (0,0) _ NB ha rfl ia ?_)
  refine Calls.mono (HI.out _ (HF.out _ HBR.out).2) ?_;rintro e W2 ⟨rfl,b2⟩;have HB2:Hid (Below w1.heap.size w1 W2):=HBR.out.trans (b2.mono HBR.out.size);have NB2:=(HF.out _ HB2.out).1;have HOW2:Hid (r=(Ac.bet T.ls).length/\W2.ownsRow w1.heap.size 151 2 (.slice va r vc) r (Ak.ecells (Ac.bet T.ls))/\T.ls.all (Ac.inR n)=true):=⟨HQ.out.1,Ak.own_below HQ.out.2.1 b2,HQ.out.2.2⟩;clear b2 NB HI HQ;obtain⟨p0,p1,p2,p3,p4,p5,p6,p7,p8,p9,p10,p11⟩:W2.cell? ⟨w.heap.size,0,none⟩=some x0/\W2.cell? ⟨w.heap.size,1,none⟩=some x1/\W2.cell? ⟨w.heap.size,2,none⟩=some x2/\W2.cell? ⟨w.heap.size,3,none⟩=some x3/\W2.cell? ⟨w.heap.size,4,none⟩=some x4/\W2.cell? ⟨w.heap.size,5,none⟩=some x5/\W2.cell? ⟨w.heap.size,6,none⟩=some x6/\W2.cell? ⟨w.heap.size,7,none⟩=some x7/\W2.cell? ⟨w.heap.size,8,none⟩=some (.slice ka n kc)/\W2.cell? ⟨w.heap.size,9,none⟩=some (.slice la j lc)/\W2.cell? ⟨w.heap.size,10,none⟩=some x10/\W2.cell? ⟨w.heap.size,11,none⟩=some x11:=by simp[World.cell?,NB2]
  go_wp2_with fail
  refine Calls.mono (HO.out _ (HF.out _ HB2.out).2) ?_;rintro e W3 ⟨rfl,b3⟩;have HB3:Hid (Below w1.heap.size w1 W3):=HB2.out.trans (b3.mono HB2.out.size);have NB3:=(HF.out _ HB3.out).1;have HOW3:Hid (r=(Ac.bet T.ls).length/\W3.ownsRow w1.heap.size 151 2 (.slice va r vc) r (Ak.ecells (Ac.bet T.ls))/\T.ls.all (Ac.inR n)=true):=⟨HOW2.out.1,Ak.own_below HOW2.out.2.1 b3,HOW2.out.2.2⟩;have c8:W3.cell? ⟨w.heap.size,8,none⟩=some (.slice ka n kc):=by simp[World.cell?,NB3]
  have c9:W3.cell? ⟨w.heap.size,9,none⟩=some (.slice la j lc):=by simp[World.cell?,NB3]
  have HX3:Hid (Below w.heap.size w W3):=(HF.out _ HB3.out).2;clear b3 NB2 HO NB3 HOW2 HB2 HBR p0 p1 p2 p3 p4 p5 p6 p7 p8 p9 p10 p11
  by_cases g3:40<j
  ·have h3:decide (40<(j:Int))=true:=decide_eq_true (by omega)
   have HN:Hid (¬P):=λh=>by have:=(HP.out.1 h).2.1.2.2.1;omega
   clear g3 HKD;go_wp2;go_ret;exact⟨Ak.Told.no HN.out,HX3.out⟩
  have h3:decide (40<(j:Int))=false:=decide_eq_false (by omega)
  by_cases g4:64<n
  ·have h4:decide (64<(n:Int))=true:=decide_eq_true (by omega)
   have HN:Hid (¬P):=λh=>by have:=(HP.out.1 h).2.1.2.2.2;omega
   clear g4 HKD;go_wp2;go_ret;exact⟨Ak.Told.no HN.out,HX3.out⟩
  have h4:decide (64<(n:Int))=false:=decide_eq_false (by omega);have HLE:Hid (j<=40/\n<=64):=⟨by omega,by omega⟩;clear g3 g4;go_wp2
  go_loopg [6,80] n (λgk _ s80 wr=>∃i:Nat,gk+i=n/\s80=.int .i64 i/\Hid ((∀i' (h:i'<T.ks.length),i'<i->Ac.kidD T.ks[i'].kind T.ks[i'].a T.ks[i'].cs.length (Ac.inN T.ls i') (Ac.outN T.ls i')=true)/\Below W3.heap.size W3 wr))
  case atStart=>exact⟨0,by omega,rfl,λi' _ h=>absurd h (by omega),Below.refl _ _⟩
  case round=>
   obtain⟨i,hi,rfl,HJ⟩:=hrel;have HB4:Hid (Below w1.heap.size w1 wr):=HB3.out.trans (HJ.out.2.mono HB3.out.size);have NB4:=(HF.out _ HB4.out).1;clear c8 c9
   by_cases hin:i<n
   ·have hd:decide ((i:Int)<n)=true:=decide_eq_true (by omega)
    have hik:i<T.ks.length:=by rw[HL.out.2.2];exact hin
    have HK1:=HKD.out wr i hik (HF.out _ HB4.out).2;obtain⟨q,hq⟩:=pE (Ac.kidD T.ks[i].kind T.ks[i].a T.ks[i].cs.length (Ac.inN T.ls i) (Ac.outN T.ls i));rw[hq]at HK1;have HC:Hid _:=HK1;have HQI:Hid (Ac.kidD T.ks[i].kind T.ks[i].a T.ks[i].cs.length (Ac.inN T.ls i) (Ac.outN T.ls i)=q):=hq;clear HK1 hq
    go_wp2_with (refine wpList_load_row rfl 44 _ rfl _ rfl 44 _ (0,0) _ NB4 ha rfl ia ?_)
    refine Calls.mono HC.out ?_;rintro e W5 ⟨rfl,b5⟩;have HB5:Hid (Below W3.heap.size W3 W5):=HJ.out.2.trans (b5.mono HJ.out.2.size);have HX5:Hid (Below w.heap.size w W5):=(HF.out _ (HB4.out.trans (b5.mono HB4.out.size))).2;clear b5 NB4 HC
    cases q with
    |false=>
     have HN:Hid (¬P):=λh=>by
      have h2:=(HP.out.1 h).2.2.1 i hik;rw[HQI.out]at h2
      cases h2
     clear HQI;go_wp2;go_ret;exact⟨Ak.Told.no HN.out,HX5.out⟩
    |true=>
     go_wp2;go_roundg (gk-1)
     case measure=>omega
     case rel=>
      refine⟨i+1,by omega,by go_num,λi' h' hlt=> ?_,HB5.out⟩
      by_cases e:i'=i
      ·subst e;exact HQI.out
      exact HJ.out.1 i' h' (by omega)
   have hd:decide ((i:Int)<n)=false:=decide_eq_false (by omega);have HALL:Hid (∀i' (h:i'<T.ks.length),Ac.kidD T.ks[i'].kind T.ks[i'].a T.ks[i'].cs.length (Ac.inN T.ls i') (Ac.outN T.ls i')=true):=λi' h=>HJ.out.1 i' h (by have:=HL.out.2.2;omega);have hown:=Ak.own_below HOW3.out.2.1 HJ.out.2;have hR:=Tryz.rround_free n va vc (Ac.bet T.ls) wr (Ak.eds_of (by rw[<-HOW3.out.1];exact hown)) (by have:=Ac.bet_length T.ls;have:=HL.out.2.1;omega) (Ac.bet_chk HOW3.out.2.2 HLE.out.2 (by have:=HL.out.2.1;have:=HLE.out.1;omega));rw[<-HOW3.out.1]at hR;have HR:Hid _:=hR;have c8:wr.cell? ⟨w.heap.size,8,none⟩=some (.slice ka n kc):=by simp[World.cell?,NB4]
   clear HJ hown hR NB4 HKD
   go_wp2_with fail
   refine Calls.mono HR.out ?_;rintro e W6 ⟨l6,n6,k6,rfl,hfree,b6⟩;have HX6:Hid (Below w.heap.size w W6):=(HF.out _ (HB4.out.trans (b6.mono HB4.out.size))).2;have HFR:Hid (decide ((n6:Int)=0)=Ac.freeB n (Ac.bet T.ls)):=hfree;have he6:((n6:Int)==0)=decide ((n6:Int)=0):=rfl;clear b6 hfree HR c8;obtain⟨q,hq⟩:=pE (decide ((n6:Int)=0));rw[hq]at he6 HFR;clear hq;go_wp2;go_ret;refine⟨Ak.Told.iff ?_,HX6.out⟩;rw[HP.out,HFR.out];exact⟨λh=>⟨HOW3.out.2.2,⟨HYY.out.1,HYY.out.2,HLE.out.1,HLE.out.2⟩,HALL.out,h⟩,λh=>h.2.2.2⟩
end Go.Proofs
