import Derived.Test.YtmomffminkflnaaGreatDoorRDdR9
import Derived.Test.YtmomffminkflnaaGreatDoorRDdSkips
set_option maxRecDepth 100000
set_option maxHeartbeats 32000000
namespace Go.Proofs
open Go.RowKit Go.Shelf
def Dd.pickL (L:List Nat)(o q:Nat)(s:List Int):List Int:=if q<=o then Dd.setL 2 (L.take q) s else(Dd.setL 2 (L.take q) s).set (L.getD o 0) 1
theorem Dd.pick_step (L:List Nat)(o q:Nat)(s:List Int)(hq:q<L.length)(ho:o<L.length)(hn:L.Nodup):Dd.pickL L o (q+1) s=if q=o then((Dd.pickL L o q s).set L[q] 2).set L[q] 1 else(Dd.pickL L o q s).set L[q] 2:=by
 unfold Dd.pickL;have ht:Dd.setL 2 (L.take (q+1)) s=(Dd.setL 2 (L.take q) s).set L[q] 2:=by rw[List.take_succ_eq_append_getElem hq,Dd.setL_snoc]
 have hg:L.getD o 0=L[o]:=by rw[List.getD_eq_getElem?_getD,List.getElem?_eq_getElem ho];rfl
 by_cases e:q=o
 ·subst e
  rw[if_neg (by omega),if_pos (Nat.le_refl _),if_pos rfl,ht,hg]
 rw[if_neg e]
 by_cases h:q<o
 ·rw[if_pos (by omega),if_pos (by omega),ht]
 rw[if_neg (by omega),if_neg (by omega),ht,hg,List.set_comm];intro h2;have:=(List.getElem_inj hn).1 h2;omega
theorem Dd.outs_nodup (ls:List (Int×Int))(kid:Int):(Dd.outsD ls kid).Nodup:=List.nodup_range.filter _
def Dd.choD (c:Int)(ls kk:List (Int×Int))(l:List Int)(kid out:Int):List Int:=
 if c≠0 then Dd.zeros++ [c]else if Dd.runsB kk.length l kid=false∨Dd.gateB kk kid.toNat=false then Dd.zeros++ [6]
 else if out<0∨((Dd.outsD ls kid).length:Int)<=out then Dd.zeros++ [1]
 else Dd.settledF ls kk kk.length (Dd.pickL (Dd.outsD ls kid) out.toNat (Dd.outsD ls kid).length (l.set (40+kid.toNat) 2))++ [0]
structure Dd.CFr (w:World)(xs:Array Value)(l:List Int)(kid out:Int)(W:World):Prop where
 bx:Dd.RBx W w.heap.size xs
 st:Dd.RAt W (w.heap.size+1) l
 pl:W.heap[w.heap.size+1+1]? =some (.cells #[.int .i64 kid,.int .i64 out] 67 (0,0))
 rs:W.heap[w.heap.size+1+1+1]? =some (.cells Tryz.zeroCells59 59 (0,0))
 bel:Below w.heap.size w W
theorem Dd.CFr.new (w:World)(xs:Array Value){l:List Int}(h:l.length=104)(kid out:Int):Dd.CFr w xs l kid out ((((w.alloc (.cells xs 48)).alloc (.cells (Dd.row l) 53)).alloc (.cells #[.int .i64 kid,.int .i64 out] 67)).alloc (.cells Tryz.zeroCells59 59)):=by
 obtain⟨w1,hw1⟩:=pE (w.alloc (.cells xs 48));have s1:w1.heap.size=w.heap.size+1:=by rw[<-hw1];simp
 have h0:Dd.RBx w1 w.heap.size xs:=by rw[<-hw1];exact heap_alloc_new w _
 have b1:=pB hw1
 rw[hw1];obtain⟨w2,hw2⟩:=pE (w1.alloc (.cells (Dd.row l) 53));have s2:w2.heap.size=w.heap.size+1+1:=by rw[<-hw2];simp[s1]
 have b2:=pB hw2
 have h1:Dd.RAt w2 (w.heap.size+1) l:=by rw[<-hw2,<-s1];exact Dd.RAt.new w1 h
 rw[hw2];obtain⟨w3,hw3⟩:=pE (w2.alloc (.cells #[.int .i64 kid,.int .i64 out] 67));have s3:w3.heap.size=w.heap.size+1+1+1:=by rw[<-hw3];simp[s2]
 have b3:=pB hw3
 have h2:w3.heap[w.heap.size+1+1]? =some (.cells #[.int .i64 kid,.int .i64 out] 67 (0,0)):=by rw[<-hw3,<-s2];exact heap_alloc_new w2 _
 rw[hw3];have b4:Below w3.heap.size w3 (w3.alloc (.cells Tryz.zeroCells59 59)):=(Below.refl _ w3).alloc (Nat.le_refl _) _;refine⟨((h0.below b2 (by omega)).below b3 (by omega)).below b4 (by omega),(h1.below b3 (by omega)).below b4 (by omega),(b4.block _ (by omega)).trans h2,by rw[<-s3];exact heap_alloc_new w3 _, ?_⟩;exact((b1.trans (b2.mono (by omega))).trans (b3.mono (by omega))).trans (b4.mono (by omega))
theorem Dd.CFr.below {w W W':World}{xs:Array Value}{l:List Int}{kid out:Int}(h:Dd.CFr w xs l kid out W)(hb:Below W.heap.size W W'):Dd.CFr w xs l kid out W':=
 ⟨h.bx.below hb h.bx.lt,h.st.below hb h.st.lt,(hb.block _ (Array.getElem?_eq_some_iff.1 h.pl).1).trans h.pl,(hb.block _ (Array.getElem?_eq_some_iff.1 h.rs).1).trans h.rs,h.bel.trans (hb.mono h.bel.size)⟩
theorem Tryz.r19Choose_any (x0 x1 x2 x3 x4 x5 x6 x7 x10 x11:Value)(ka la:Option Addr)(n kc m lc:Nat)(ls kk:List (Int×Int))(l:List Int)(kid out c:Int)(w:World)(hL:Ac.Lks w w.heap.size la ls)(hm:ls.length=m)
  (hK:Dd.Kid12 w w.heap.size ka kk) (hn:kk.length=n) (hl:l.length=104) (h40:c=0->m<=40/\n<=64)
  (CK0:∀W,Below w.heap.size w W->Calls Tryz.prog 20 #[.agg #[x0,x1,x2,x3,x4,x5,x6,x7,.slice ka n kc,.slice la m lc,x10,x11],.agg (Dd.row l)] W λe w'=>e=.returned (.int .i64 c)/\Below W.heap.size W w'):
  Calls Tryz.prog 24 #[.agg #[x0,x1,x2,x3,x4,x5,x6,x7,.slice ka n kc,.slice la m lc,x10,x11],.agg (Dd.row l),.agg #[.int .i64 kid,.int .i64 out]] w λe w'=>e=.returned (.agg (Dd.row (Dd.choD c ls kk l kid out)))/\Below w.heap.size w w':=by
 obtain⟨R,hR⟩:=pE (Dd.choD c ls kk l kid out);rw[hR];have HR:Hid (Dd.choD c ls kk l kid out=R):=hR;obtain⟨w1,hw1⟩:=pE (((((w.alloc (.cells #[x0,x1,x2,x3,x4,x5,x6,x7,.slice ka n kc,.slice la m lc,x10,x11] 48)).alloc (.cells (Dd.row l) 53)).alloc (.cells #[.int .i64 kid,.int .i64 out] 67)).alloc (.cells Tryz.zeroCells59 59)));have F1:=Dd.CFr.new w #[x0,x1,x2,x3,x4,x5,x6,x7,.slice ka n kc,.slice la m lc,x10,x11] hl kid out;rw[hw1]at F1;have H1:Hid _:=hw1;have HF:Hid (∀W,Below w1.heap.size w1 W->Dd.CFr w #[x0,x1,x2,x3,x4,x5,x6,x7,.slice ka n kc,.slice la m lc,x10,x11] l kid out W):=λW hb=>F1.below hb;have CK:Hid _:=CK0 w1 F1.bel;have HK:Hid (Ac.Lks w w.heap.size la ls/\Dd.Kid12 w w.heap.size ka kk/\ls.length=m/\kk.length=n/\l.length=104):=⟨hL,hK,hm,hn,hl⟩;have NA:=F1.bx;have NS:=F1.st.h;unfold Dd.RBx at NA;have ha:=Tryz.underlying48;have hu:=Tryz.underlying53;have hg:=Tryz.underlying59;have ia:(Tryz.prog.info? 48).map (·.size)=some (#[x0,x1,x2,x3,x4,x5,x6,x7,.slice ka n kc,.slice la m lc,x10,x11]:Array Value).size:=Ak.rinfo;have il:=Dd.rinfo_row hl
 have HG:Hid (∀t:List Int,t.length=105->(Tryz.prog.info? 59).map (·.size)=some (Dd.row t).size/\(Tryz.zeroCells59).size=(Dd.row t).size/\(Dd.row t).all (·.oneCell')=true):=λt ht=>
  ⟨Dd.rginfo_row ht,by rw[Dd.rgz,Dd.row_size,Dd.row_size,ht];rfl,Dd.row_one t⟩
 clear hR hw1 F1 CK0 hL hK hm hn hl
 go_enter Tryz.func24,Tryz.ntmps24
 go_upto_region 1 with fail
 rw[H1.out];clear H1
 go_wp2_with (first
  |refine wpList_load_row rfl 48 _ rfl _ rfl 48 _ (0,0) _ NA ha rfl ia ?_
  |refine wpList_load_row rfl 53 _ rfl _ rfl 53 (Dd.row l) (0,0) _ NS hu rfl il ?_)
 refine Calls.mono CK.out ?_;rintro e W2 ⟨rfl,hb2⟩;have HB2:Hid (Below w1.heap.size w1 W2):=hb2;clear hb2 NA NS CK;have F2:=HF.out W2 HB2.out;have HX2:Hid (Below w.heap.size w W2):=F2.bel;have NR:=F2.rs
 by_cases hc:c=0
 rotate_left
 ·have fc:(c !=0)=true:=by simpa using hc
  have HQ:Hid (R=Dd.zeros++ [c]):=by show _=_;rw[<-HR.out];unfold Dd.choD;rw[if_pos hc]
  have hbt:=Dd.built_err c;obtain⟨ig,zg,og⟩:=HG.out (Dd.zeros++ [c]) (Dd.got_len Dd.zeros_length c);clear hc h40 F2
  go_wp2_with (first
   |refine wpList_buildTo rfl 59 _ rfl (some 18) rfl (Dd.row (Dd.zeros++ [c])) (Eq.trans (congrArg (Tryz.prog.built 59) (by kernel_rfl)) hbt) ?_
   |refine wpList_store_row rfl 59 _ _ rfl (w.heap.size+1+1+1) (Dd.row (Dd.zeros++ [c])) rfl rfl 59 _ NR ig zg og ?_)
  refine bodyPost_ret (v:=.agg (Dd.row (Dd.zeros++ [c]))) (results_cell_row Tryz.results24 _ _ (w.heap.size+1+1+1) 59 (Dd.row (Dd.zeros++ [c])) (0,0) _ rfl (setRow_heap _ _ _ _ _ _ NR) hg rfl ig) rfl ⟨?_,Tk.below_row HX2.out (by omega) _⟩;rw[HQ.out]
 have fc:(c !=0)=false:=by simp[hc]
 obtain⟨hm40,hn64⟩:=h40 hc;have HC0:Hid (c=0):=hc;have p0:W2.cell? ⟨w.heap.size+1+1,0,none⟩=some (.int .i64 kid):=by simp[World.cell?,F2.pl]
 have p1:W2.cell? ⟨w.heap.size+1+1,1,none⟩=some (.int .i64 out):=by simp[World.cell?,F2.pl]
 have c8:W2.cell? ⟨w.heap.size,8,none⟩=some (.slice ka n kc):=by have h:=F2.bx;unfold Dd.RBx at h;simp[World.cell?,h]
 have HST:Hid (Dd.RAt W2 (w.heap.size+1) l):=F2.st
 have HN6:Hid ((Dd.runsB n l kid=false∨Dd.gateB kk kid.toNat=false)->R=Dd.zeros++ [6]):=λh=>by
  rw[<-HR.out];unfold Dd.choD;rw[if_neg (λh2=>h2 HC0.out),HK.out.2.2.2.1,if_pos h]
 have hbt:=Dd.built_err 6;obtain⟨ig,zg,og⟩:=HG.out (Dd.zeros++ [6]) (Dd.got_len Dd.zeros_length 6);clear hc h40
 by_cases g1:kid<0
 ·have f1:decide (kid<0)=true:=decide_eq_true g1
  have HQ:Hid (R=Dd.zeros++ [6]):=HN6.out (.inl (by unfold Dd.runsB;rw[decide_eq_false (show¬0<=kid by omega)];rfl));clear g1 F2
  go_upto_region 5 with fail
  go_wp2_with (first
   |refine wpList_buildTo rfl 59 _ rfl (some 48) rfl (Dd.row (Dd.zeros++ [6])) (Eq.trans (congrArg (Tryz.prog.built 59) (by kernel_rfl)) hbt) ?_
   |refine wpList_store_row rfl 59 _ _ rfl (w.heap.size+1+1+1) (Dd.row (Dd.zeros++ [6])) rfl rfl 59 _ NR ig zg og ?_)
  refine bodyPost_ret (v:=.agg (Dd.row (Dd.zeros++ [6]))) (results_cell_row Tryz.results24 _ _ (w.heap.size+1+1+1) 59 (Dd.row (Dd.zeros++ [6])) (0,0) _ rfl (setRow_heap _ _ _ _ _ _ NR) hg rfl ig) rfl ⟨?_,Tk.below_row HX2.out (by omega) _⟩;rw[HQ.out]
 have f1:decide (kid<0)=false:=decide_eq_false g1
 by_cases g2:(n:Int)<=kid
 ·have f2:decide ((n:Int)<=kid)=true:=decide_eq_true g2
  have HQ:Hid (R=Dd.zeros++ [6]):=HN6.out (.inl (by unfold Dd.runsB;rw[decide_eq_false (show¬kid<n by omega),Bool.and_false];rfl));clear g1 g2 F2
  go_upto_region 5 with fail
  go_wp2_with (first
   |refine wpList_buildTo rfl 59 _ rfl (some 48) rfl (Dd.row (Dd.zeros++ [6])) (Eq.trans (congrArg (Tryz.prog.built 59) (by kernel_rfl)) hbt) ?_
   |refine wpList_store_row rfl 59 _ _ rfl (w.heap.size+1+1+1) (Dd.row (Dd.zeros++ [6])) rfl rfl 59 _ NR ig zg og ?_)
  refine bodyPost_ret (v:=.agg (Dd.row (Dd.zeros++ [6]))) (results_cell_row Tryz.results24 _ _ (w.heap.size+1+1+1) 59 (Dd.row (Dd.zeros++ [6])) (0,0) _ rfl (setRow_heap _ _ _ _ _ _ NR) hg rfl ig) rfl ⟨?_,Tk.below_row HX2.out (by omega) _⟩;rw[HQ.out]
 have f2:decide ((n:Int)<=kid)=false:=decide_eq_false g2;obtain⟨i,rfl⟩:∃i:Nat,kid=i:=⟨kid.toNat,by omega⟩;have hin:i<n:=by omega
 have j0:(0:Int)<=i:=by omega
 have j1:(i:Int)<n:=by omega
 have j2:(i:Int)<64:=by omega
 obtain⟨v,hv⟩:=pE (l.getD (40+i) 0);have sv:=HST.out.cell (40+i) (by omega);rw[hv]at sv;have HV:Hid (l.getD (40+i) 0=v):=hv;clear g1 hv
 by_cases g3:v=1
 rotate_left
 ·have f3:(v !=1)=true:=by simpa using g3
  have HQ:Hid (R=Dd.zeros++ [6]):=HN6.out (.inl (by unfold Dd.runsB;rw[Int.toNat_natCast,HV.out,decide_eq_false g3,Bool.and_false]));clear g3 F2
  go_upto_region 5 with fail
  go_wp2_with (first
   |refine wpList_buildTo rfl 59 _ rfl (some 48) rfl (Dd.row (Dd.zeros++ [6])) (Eq.trans (congrArg (Tryz.prog.built 59) (by kernel_rfl)) hbt) ?_
   |refine wpList_store_row rfl 59 _ _ rfl (w.heap.size+1+1+1) (Dd.row (Dd.zeros++ [6])) rfl rfl 59 _ NR ig zg og ?_)
  refine bodyPost_ret (v:=.agg (Dd.row (Dd.zeros++ [6]))) (results_cell_row Tryz.results24 _ _ (w.heap.size+1+1+1) 59 (Dd.row (Dd.zeros++ [6])) (0,0) _ rfl (setRow_heap _ _ _ _ _ _ NR) hg rfl ig) rfl ⟨?_,Tk.below_row HX2.out (by omega) _⟩;rw[HQ.out]
 have f3:(v !=1)=false:=by simp[g3]
 obtain⟨g,off,xs,rfl,hgl,x12,xone,y0,y2,ry⟩:=HK.out.2.1 i (by have:=HK.out.2.2.2.1;omega);obtain⟨K,hKK⟩:∃K,(kk[i]'(by have:=HK.out.2.2.2.1;omega)).1=K:=⟨_,rfl⟩
 have HKI:Hid (kk[i]? =some (K,(kk[i]'(by have:=HK.out.2.2.2.1;omega)).2)):=by
  show _=_;rw[List.getElem?_eq_getElem (by have:=HK.out.2.2.2.1;omega),<-hKK]
 rw[hKK]at y0
 have yk:W2.cell? ⟨g,off+i*12,none⟩=some (.int .i64 K):=by
  rw[HX2.out.cell (p:=⟨g,off+i*12,none⟩) hgl];have h:=ry 0 (.int .i64 K) (by rw[Array.getElem?_toList];exact y0);simpa using h
 have HRUN:Hid (Dd.runsB n l (i:Int)=true):=by
  show _=_;unfold Dd.runsB;rw[Int.toNat_natCast,HV.out,decide_eq_true j0,decide_eq_true j1,decide_eq_true g3];rfl
 clear g3 hKK y0 y2 ry xone x12 hgl
 by_cases g4:K=12
 rotate_left
 ·have f4:(K !=12)=true:=by simpa using g4
  have HQ:Hid (R=Dd.zeros++ [6]):=HN6.out (.inr (by rw[Int.toNat_natCast,Dd.gate_get HKI.out];exact decide_eq_false g4));clear g4 F2
  go_upto_region 5 with fail
  go_wp2_with (first
   |refine wpList_buildTo rfl 59 _ rfl (some 48) rfl (Dd.row (Dd.zeros++ [6])) (Eq.trans (congrArg (Tryz.prog.built 59) (by kernel_rfl)) hbt) ?_
   |refine wpList_store_row rfl 59 _ _ rfl (w.heap.size+1+1+1) (Dd.row (Dd.zeros++ [6])) rfl rfl 59 _ NR ig zg og ?_)
  refine bodyPost_ret (v:=.agg (Dd.row (Dd.zeros++ [6]))) (results_cell_row Tryz.results24 _ _ (w.heap.size+1+1+1) 59 (Dd.row (Dd.zeros++ [6])) (0,0) _ rfl (setRow_heap _ _ _ _ _ _ NR) hg rfl ig) rfl ⟨?_,Tk.below_row HX2.out (by omega) _⟩;rw[HQ.out]
 have f4:(K !=12)=false:=by simp[g4]
 obtain⟨Lo,hLo⟩:=pE (Dd.outsD ls (i:Int));obtain⟨r,hr⟩:=pE (Lo.length)
 have hr40:r<=40:=by
  have h:=List.length_filter_le (λz=>decide (((ls[z]?).map Prod.fst)=some (i:Int))) (List.range ls.length);have h2:=HK.out.2.2.1;rw[List.length_range]at h;have h3:(Dd.outsD ls i).length=r:=by rw[hLo];exact hr
  unfold Dd.outsD at h3;omega
 have HGO:Hid (R=if out<0∨(r:Int)<=out then Dd.zeros++ [1]else Dd.settledF ls kk n (Dd.pickL Lo out.toNat r (l.set (40+i) 2))++ [0]):=by
  show _=_;rw[<-HR.out];unfold Dd.choD;rw[if_neg (λh2=>h2 HC0.out),HK.out.2.2.2.1,if_neg,Int.toNat_natCast,hLo,hr];rintro(h|h)
  ·rw[HRUN.out]at h;cases h
  rw[Int.toNat_natCast,Dd.gate_get HKI.out]at h;exact of_decide_eq_false h g4
 have CU:Hid (∀W,Below w.heap.size w W->Calls Tryz.prog 30 #[.agg #[x0,x1,x2,x3,x4,x5,x6,x7,.slice (some ⟨g,off,none⟩) n kc,.slice la m lc,x10,x11],.int .i64 (i:Int)] W λe w'=>Nt.Gives Lo W e w'):=λW hb=>by
  have h:=Tryz.r19Outs_any x0 x1 x2 x3 x4 x5 x6 x7 (.slice (some ⟨g,off,none⟩) n kc) x10 x11 la m lc ls i W ((HK.out.1.keep hb.block).wider hb.size) HK.out.2.2.1 (by omega);rw[hLo]at h;exact h
 have HLT:Hid (∀i (h:i<Lo.length),Lo[i]<40):=λz h=>by
  have:=Dd.outs_lt (ls:=ls) (kid:=i) (i:=Lo[z]) (by rw[hLo];exact List.getElem_mem h);have h2:=HK.out.2.2.1;omega
 have HND:Hid (Lo.Nodup):=by show Lo.Nodup;rw[<-hLo];exact Dd.outs_nodup ls i
 have NA2:=F2.bx;unfold Dd.RBx at NA2;clear hLo g4 HRUN HN6 hbt ig zg og NR F2
 go_upto_region 6 with fail
 go_wp2_with (refine wpList_load_row rfl 48 _ rfl _ rfl 48 _ (0,0) _ NA2 ha rfl ia ?_)
 refine Calls.mono (CU.out _ HX2.out) ?_;rintro e W5 ⟨v5,rfl,how,hb5⟩;rw[hr]at how;obtain⟨ra,rc,rfl⟩:=Rk.own_shape how;have HOW:Hid (W5.ownsRow W2.heap.size 3 1 (.slice ra r rc) Lo.length (Rk.nums Lo)/\Lo.length=r):=⟨by rw[hr];exact how,hr⟩;have HB5:Hid (Below w1.heap.size w1 W5/\W2.heap.size<=W5.heap.size):=⟨HB2.out.trans (hb5.mono HB2.out.size),hb5.size⟩;have F5:=HF.out W5 HB5.out.1;have HX5:Hid (Below w.heap.size w W5):=F5.bel;have NR:=F5.rs;clear how hb5 NA2 CU p0 p1 c8 sv yk hr HX2 HST;have p0:W5.cell? ⟨w.heap.size+1+1,0,none⟩=some (.int .i64 (i:Int)):=by simp[World.cell?,F5.pl]
 have p1:W5.cell? ⟨w.heap.size+1+1,1,none⟩=some (.int .i64 out):=by simp[World.cell?,F5.pl]
 have HST:Hid (Dd.RAt W5 (w.heap.size+1) l):=F5.st;have hbt:=Dd.built_err 1;obtain⟨ig,zg,og⟩:=HG.out (Dd.zeros++ [1]) (Dd.got_len Dd.zeros_length 1);clear F5
 by_cases q1:out<0
 ·have k1:decide (out<0)=true:=decide_eq_true q1
  have HQ:Hid (R=Dd.zeros++ [1]):=by show _=_;rw[HGO.out,if_pos (.inl q1)]
  clear q1
  go_wp2_with (first
   |refine wpList_buildTo rfl 59 _ rfl (some 63) rfl (Dd.row (Dd.zeros++ [1])) (Eq.trans (congrArg (Tryz.prog.built 59) (by kernel_rfl)) hbt) ?_
   |refine wpList_store_row rfl 59 _ _ rfl (w.heap.size+1+1+1) (Dd.row (Dd.zeros++ [1])) rfl rfl 59 _ NR ig zg og ?_)
  refine bodyPost_ret (v:=.agg (Dd.row (Dd.zeros++ [1]))) (results_cell_row Tryz.results24 _ _ (w.heap.size+1+1+1) 59 (Dd.row (Dd.zeros++ [1])) (0,0) _ rfl (setRow_heap _ _ _ _ _ _ NR) hg rfl ig) rfl ⟨?_,Tk.below_row HX5.out (by omega) _⟩;rw[HQ.out]
 have k1:decide (out<0)=false:=decide_eq_false q1
 by_cases q2:(r:Int)<=out
 ·have k2:decide ((r:Int)<=out)=true:=decide_eq_true q2
  have HQ:Hid (R=Dd.zeros++ [1]):=by show _=_;rw[HGO.out,if_pos (.inr q2)]
  clear q1 q2
  go_wp2_with (first
   |refine wpList_buildTo rfl 59 _ rfl (some 63) rfl (Dd.row (Dd.zeros++ [1])) (Eq.trans (congrArg (Tryz.prog.built 59) (by kernel_rfl)) hbt) ?_
   |refine wpList_store_row rfl 59 _ _ rfl (w.heap.size+1+1+1) (Dd.row (Dd.zeros++ [1])) rfl rfl 59 _ NR ig zg og ?_)
  refine bodyPost_ret (v:=.agg (Dd.row (Dd.zeros++ [1]))) (results_cell_row Tryz.results24 _ _ (w.heap.size+1+1+1) 59 (Dd.row (Dd.zeros++ [1])) (0,0) _ rfl (setRow_heap _ _ _ _ _ _ NR) hg rfl ig) rfl ⟨?_,Tk.below_row HX5.out (by omega) _⟩;rw[HQ.out]
 have k2:decide ((r:Int)<=out)=false:=decide_eq_false q2;obtain⟨o,rfl⟩:∃o:Nat,out=o:=⟨out.toNat,by omega⟩;have HOR:Hid (o<r):=by show o<r;omega
 have k3:decide (r<=o)=false:=decide_eq_false (by omega);obtain⟨S,hS⟩:=pE (Dd.pickL Lo o r (l.set (40+i) 2))
 have hSl:S.length=104:=by
  rw[<-hS];unfold Dd.pickL
  split
  ·rw[Dd.setL_len,List.length_set];exact HK.out.2.2.2.2
  rw[List.length_set,Dd.setL_len,List.length_set];exact HK.out.2.2.2.2
 obtain⟨T,hT⟩:=pE (Dd.settledF ls kk n S);have hTl:T.length=104:=by rw[<-hT];exact Dd.settledF_len ls kk n S hSl
 have HLo:Hid (Dd.pickL Lo o r (l.set (40+i) 2)=S/\R=T++ [0]/\S.length=104/\T.length=104):=⟨hS,by
  rw[HGO.out,if_neg (by rintro(h|h)<;>omega),Int.toNat_natCast,hS,hT],hSl,hTl⟩
 have CS:Hid (∀W,Below w.heap.size w W->Calls Tryz.prog 31 #[.agg #[x0,x1,x2,x3,x4,x5,x6,x7,.slice (some ⟨g,off,none⟩) n kc,.slice la m lc,x10,x11],.agg (Dd.row S)] W λe w'=>e=.returned (.agg (Dd.row T))/\Below W.heap.size W w'):=λW hb=>by
  rw[<-hT];exact Tryz.r19Settled_any x0 x1 x2 x3 x4 x5 x6 x7 x10 x11 (some ⟨g,off,none⟩) la n kc m lc ls kk S W ((HK.out.1.keep hb.block).wider hb.size) HK.out.2.2.1 hm40 (HK.out.2.1.below hb) HK.out.2.2.2.1 hn64 hSl
 clear hS hT ig zg og hbt NR q1 HGO;have NZ:(W5.alloc (.cells Tryz.zeroCells53 53)).heap[W5.heap.size]? =some (.cells Tryz.zeroCells53 53 (0,0)):=heap_alloc_new W5 _;obtain⟨w3,hw3⟩:=pE ((W5.alloc (.cells Tryz.zeroCells53 53)).setRow W5.heap.size (Dd.row l));have A3:Dd.RAt w3 W5.heap.size l:=by rw[<-hw3];exact⟨setRow_heap _ _ _ _ _ _ NZ,HK.out.2.2.2.2⟩
 have B3:Below W5.heap.size W5 w3:=by rw[<-hw3];exact Tk.below_row ((Below.refl _ W5).alloc (Nat.le_refl _) _) (Nat.le_refl _) _
 obtain⟨xb,hxb⟩:=pE (W5.heap.size);have HXB:Hid (W5.heap.size=xb/\w1.heap.size<=xb):=⟨hxb,by rw[<-hxb];exact HB5.out.1.size⟩;have H3:Hid _:=hw3;have NS2:=HST.out.h
 have HB3:Hid (Below w1.heap.size w1 (w3.setCell ⟨xb,40+i,none⟩ (.int .i64 2))/\Dd.RAt (w3.setCell ⟨xb,40+i,none⟩ (.int .i64 2)) xb (l.set (40+i) 2)/\∀b,b<xb->(w3.setCell ⟨xb,40+i,none⟩ (.int .i64 2)).heap[b]? =W5.heap[b]?):=by
  refine⟨(HB5.out.1.trans (B3.mono HB5.out.1.size)).setCell (p:=⟨xb,40+i,none⟩) HXB.out.2 _, ?_,λb hb=> ?_⟩
  ·rw[hxb]at A3
   exact A3.put (40+i) 2
  rw[Below.heap_setCell _ _ _ _ (by show b≠xb;omega)];exact B3.block b (by rw[hxb];exact hb)
 have f5:=A3.frozen (40+i);have s5:=A3.cell (40+i) (by omega);have P3:=B3.block _ (Array.getElem?_eq_some_iff.1 (HF.out W5 HB5.out.1).pl).1;have p03:w3.cell? ⟨w.heap.size+1+1,0,none⟩=some (.int .i64 (i:Int)):=by rw[World.cell?_of_block (w:=W5) P3];exact p0
 rw[hxb]at f5 s5;have zs:(Tryz.zeroCells53).size=(Dd.row l).size:=by rw[Dd.rzero_row,Dd.row_size,Dd.row_size,HK.out.2.2.2.2,Dd.zeros_length]
 have ol:=Dd.row_one l;clear A3 B3 hw3 hxb P3
 go_upto_region 9 with fail
 go_upto_region 10 with(first
  |refine wpList_load_row rfl 53 _ rfl _ rfl 53 (Dd.row l) (0,0) _ NS2 hu rfl il ?_
  |refine wpList_store_row rfl 53 _ _ rfl W5.heap.size (Dd.row l) rfl rfl 53 _ NZ il zs ol ?_)
 rw[H3.out,HXB.out.1];clear NS2 NZ H3 zs ol p0 p1
 go_upto_region 11 with fail
 obtain⟨w4,hw4⟩:=pE (w3.setCell ⟨xb,40+i,none⟩ (.int .i64 2));rw[hw4]at HB3⊢;clear hw4 f5 s5 p03;go_wp2
 go_loopg [10,11,71] r (λgk _ _ s71 wr=>∃q:Nat,gk+q=r/\s71=.int .i64 q/\Hid (Below w1.heap.size w1 wr/\Dd.RAt wr xb (Dd.pickL Lo o q (l.set (40+i) 2))/\∀b,b<xb->wr.heap[b]? =W5.heap[b]?))
 case atStart=>exact⟨0,by omega,rfl,HB3.out.1,by rw[show Dd.pickL Lo o 0 (l.set (40+i) 2)=l.set (40+i) 2 from rfl];exact HB3.out.2.1,HB3.out.2.2⟩
 case round=>
  obtain⟨q,hq,rfl,HQ⟩:=hrel;have FR:=HF.out wr HQ.out.1
  by_cases hlt:q<r
  rotate_left
  ·have hd:decide ((q:Int)<r)=false:=decide_eq_false (by omega)
   have HSX:Hid (Dd.RAt wr xb S):=by
    have h:=HQ.out.2.1;rw[show q=r by omega,HLo.out.1]at h;exact h
   have NA:=FR.bx;unfold Dd.RBx at NA;have NSS:=HSX.out.h;have iS:=Dd.rinfo_row HLo.out.2.2.1;have HBW:Hid (Below w1.heap.size w1 wr):=HQ.out.1;have HCS:Hid _:=CS.out wr FR.bel;have hbt:=Dd.built_got HLo.out.2.2.2;obtain⟨ig,zg,og⟩:=HG.out (T++ [0]) (Dd.got_len HLo.out.2.2.2 0);clear FR HQ HOW
   go_wp2_with (first
    |refine wpList_load_row rfl 48 _ rfl _ rfl 48 _ (0,0) _ NA ha rfl ia ?_
    |refine wpList_load_row rfl 53 _ rfl _ rfl 53 (Dd.row S) (0,0) _ NSS hu rfl iS ?_)
   refine Calls.mono HCS.out ?_;rintro e W6 ⟨rfl,b6⟩;have FR:=HF.out _ (HBW.out.trans (b6.mono HBW.out.size));have NR:=FR.rs;have HX:Hid (Below w.heap.size w W6):=FR.bel;clear FR b6 NA NSS HCS
   go_wp2_with (first
    |refine wpList_buildTo rfl 59 _ rfl (some 90) rfl (Dd.row (T++ [0])) (Eq.trans (congrArg (Tryz.prog.built 59) (by kernel_rfl)) hbt) ?_
    |refine wpList_store_row rfl 59 _ _ rfl (w.heap.size+1+1+1) (Dd.row (T++ [0])) rfl rfl 59 _ NR ig zg og ?_)
   refine bodyPost_ret (v:=.agg (Dd.row (T++ [0]))) (results_cell_row Tryz.results24 _ _ (w.heap.size+1+1+1) 59 (Dd.row (T++ [0])) (0,0) _ rfl (setRow_heap _ _ _ _ _ _ NR) hg rfl ig) rfl ⟨?_,Tk.below_row HX.out (by omega) _⟩;rw[HLo.out.2.1]
  have hd:decide ((q:Int)<r)=true:=decide_eq_true (by omega);have hql:q<Lo.length:=by rw[HOW.out.2];exact hlt
  obtain⟨g',off',rfl,hg',cq⟩:=Dd.own_from HOW.out.1 q hql;obtain⟨z,hz⟩:=pE (Lo[q]);have hz40:=HLT.out q hql;rw[hz]at cq hz40
  have hgx:g'<xb:=by
   have h1:=HXB.out.1
   have h2:g'<W5.heap.size:=by
    unfold World.cell? at cq
    cases hgc:W5.heap[g']? with
    |none=>simp[hgc]at cq
    |some o=>exact(Array.getElem?_eq_some_iff.1 hgc).1
   omega
  have cq2:wr.cell? ⟨g',off'+q,none⟩=some (.int .i64 z):=by rw[World.cell?_of_block (w:=W5) (HQ.out.2.2 g' hgx)];exact cq
  have hf:=HQ.out.2.1.frozen z;have hcz:=HQ.out.2.1.cell z (by omega);have z0:(0:Int)<=z:=by omega
  have z1:(z:Int)<40:=by omega
  have q0:(0:Int)<=q:=by omega
  have q1:(q:Int)<r:=by omega
  obtain⟨w6,hw6⟩:=pE (wr.setCell ⟨xb,z,none⟩ (.int .i64 2));have B6:Below w1.heap.size w1 w6:=by rw[<-hw6];exact HQ.out.1.setCell (p:=⟨xb,z,none⟩) HXB.out.2 _
  have A6:Dd.RAt w6 xb ((Dd.pickL Lo o q (l.set (40+i) 2)).set z 2):=by rw[<-hw6];exact HQ.out.2.1.put z 2
  have O6:∀b,b<xb->w6.heap[b]? =W5.heap[b]? :=λb hb=>by rw[<-hw6];exact(Below.heap_setCell _ _ _ _ (by show b≠xb;omega)).trans (HQ.out.2.2 b hb)
  have p1:w6.cell? ⟨w.heap.size+1+1,1,none⟩=some (.int .i64 (o:Int)):=by simp[World.cell?,(HF.out w6 B6).pl]
  have hps:=Dd.pick_step Lo o q (l.set (40+i) 2) hql (by have:=HOW.out.2;have:=HOR.out;omega) HND.out;rw[hz]at hps;have HW6:Hid _:=hw6;have HS6:Hid (Below w1.heap.size w1 w6/\Dd.RAt w6 xb ((Dd.pickL Lo o q (l.set (40+i) 2)).set z 2)/\(∀b,b<xb->w6.heap[b]? =W5.heap[b]?)/\Dd.pickL Lo o (q+1) (l.set (40+i) 2)=if q=o then((Dd.pickL Lo o q (l.set (40+i) 2)).set z 2).set z 1 else(Dd.pickL Lo o q (l.set (40+i) 2)).set z 2):=⟨B6,A6,O6,hps⟩;have hf6:=A6.frozen z;have hc6:=A6.cell z (by omega);clear cq hz hgx HQ hg' hw6 B6 A6 O6 hps FR
  by_cases hqo:q=o
  ·have eqo:((q:Int)==(o:Int))=true:=by simp[hqo]
   have eqo':(q==o)=true:=by simp[hqo]
   have HNX:Hid (Below w1.heap.size w1 (w6.setCell ⟨xb,z,none⟩ (.int .i64 1))/\Dd.RAt (w6.setCell ⟨xb,z,none⟩ (.int .i64 1)) xb (Dd.pickL Lo o (q+1) (l.set (40+i) 2))/\∀b,b<xb->(w6.setCell ⟨xb,z,none⟩ (.int .i64 1)).heap[b]? =W5.heap[b]?):=by
    refine⟨HS6.out.1.setCell (p:=⟨xb,z,none⟩) HXB.out.2 _, ?_,λb hb=>(Below.heap_setCell _ _ _ _ (by show b≠xb;omega)).trans (HS6.out.2.2.1 b hb)⟩;rw[HS6.out.2.2.2,if_pos hqo];exact HS6.out.2.1.put z 1
   clear HS6 hqo
   go_upto_region 15 with fail
   rw[HW6.out];go_wp2;go_roundg (gk-1)
   case measure=>omega
   case rel=>exact⟨q+1,by omega,by go_num,HNX.out⟩
  have eqo:((q:Int)==(o:Int))=false:=by simp;omega
  have eqo':(q==o)=false:=by simpa using hqo
  have HNX:Hid (Below w1.heap.size w1 w6/\Dd.RAt w6 xb (Dd.pickL Lo o (q+1) (l.set (40+i) 2))/\∀b,b<xb->w6.heap[b]? =W5.heap[b]?):=by
   refine⟨HS6.out.1, ?_,HS6.out.2.2.1⟩;rw[HS6.out.2.2.2,if_neg hqo];exact HS6.out.2.1
  clear HS6 hqo
  go_upto_region 15 with fail
  rw[HW6.out];go_wp2;go_roundg (gk-1)
  case measure=>omega
  case rel=>exact⟨q+1,by omega,by go_num,HNX.out⟩
theorem Tryz.lawState_any (l:List Int)(w:World)(hl:l.length=104):
  Calls Tryz.prog 15 #[.agg (Dd.row l)] w λe w'=>e=.returned (.agg (Dd.row l))/\Below w.heap.size w w':=by
 obtain⟨w1,hw1⟩:=pE ((w.alloc (.cells (Dd.row l) 41)).alloc (.cells Tryz.zeroCells53 53));have h0:=Dd.At.new w hl;have h1:Dd.At w1 w.heap.size l:=by rw[<-hw1];exact h0.keep (Below.heap_alloc _ _ _ h0.lt)
 have h2:w1.heap[w.heap.size+1]? =some (.cells Tryz.zeroCells53 53 (0,0)):=by
  rw[<-hw1];have:=heap_alloc_new (w.alloc (.cells (Dd.row l) 41)) (.cells Tryz.zeroCells53 53);simpa using this
 have B1:Hid (Below w.heap.size w w1):=by show Below _ _ _;rw[<-hw1];exact((Below.refl _ w).alloc (Nat.le_refl _) _).alloc (by simp) _
 have H1:Hid _:=hw1
 have RA:w1.rangeAt w.heap.size 0 (Dd.ints (l.take 40)):=λi v hv=>by
  rw[Nat.zero_add];obtain⟨hi,hv⟩:=List.getElem?_eq_some_iff.1 hv;have hi':i<40:=by simp[Dd.ints,hl]at hi;omega
  rw[h1.cell i (by omega),<-hv];simp[Dd.ints,List.getD_eq_getElem?_getD,List.getElem?_eq_getElem (show i<l.length by omega)]
 have RB:w1.rangeAt w.heap.size 40 (Dd.ints (l.drop 40)):=λi v hv=>by
  obtain⟨hi,hv⟩:=List.getElem?_eq_some_iff.1 hv;have hi':i<64:=by simp[Dd.ints,hl]at hi;omega
  rw[h1.cell (40+i) (by omega),<-hv];simp[Dd.ints,List.getD_eq_getElem?_getD,List.getElem?_eq_getElem (show 40+i<l.length by omega)]
 have u40:=Tryz.underlying38;have u64:=Tryz.underlying39;have hu:=Tryz.underlying53
 have i40:(Tryz.prog.info? 38).map (·.size)=some (Dd.ints (l.take 40)).length:=by
  rw[show(Dd.ints (l.take 40)).length=40 by simp[Dd.ints,hl]];show _=_;kernel_rfl
 have i64_:(Tryz.prog.info? 39).map (·.size)=some (Dd.ints (l.drop 40)).length:=by
  rw[show(Dd.ints (l.drop 40)).length=64 by simp[Dd.ints,hl]];show _=_;kernel_rfl
 have hbt:=Dd.built_state hl;have il:=Dd.rinfo_row hl;have zl:(Tryz.zeroCells53).size=(Dd.row l).size:=by rw[Dd.rzero_row,Dd.row_size,Dd.row_size,hl,Dd.zeros_length]
 have ol:=Dd.row_one l;clear hw1 h0 h1 hl
 go_enter Tryz.func15,Tryz.ntmps15
 go_upto_region 1 with fail
 rw[H1.out];clear H1
 go_wp2_with (first
  |refine wpList_load_mid rfl 38 _ rfl w.heap.size 0 rfl (Dd.ints (l.take 40)) _ RA u40 rfl i40 ?_
  |refine wpList_load_mid rfl 39 _ rfl w.heap.size 40 rfl (Dd.ints (l.drop 40)) _ RB u64 rfl i64_ ?_
  |refine wpList_buildTo rfl 53 _ rfl (some 7) rfl (Dd.row l) (Eq.trans (congrArg (Tryz.prog.built 53) (by kernel_rfl)) hbt) ?_
  |refine wpList_store_row rfl 53 _ _ rfl (w.heap.size+1) (Dd.row l) rfl rfl 53 _ h2 il zl ol ?_)
 exact bodyPost_ret (v:=.agg (Dd.row l)) (results_cell_row Tryz.results15 _ _ (w.heap.size+1) 53 (Dd.row l) (0,0) _ rfl (setRow_heap _ _ _ _ _ _ h2) hu rfl il) rfl ⟨rfl,Tk.below_row B1.out (by omega) _⟩
namespace Dd
theorem hasIn_of {T:Ac}(h:Right T):HasIn T.ls (kkOf T):=λk hk=>by
 rw[kkOf_length]at hk;have h1:=h.ins k hk;obtain⟨x,hx,hx2⟩:=List.countP_pos_iff.1 (show 0<T.ls.countP λl=>decide (l.2=(k:Int))by omega);obtain⟨i,hi,rfl⟩:=List.getElem_of_mem hx;exact⟨i,hi,by rw[List.getElem?_eq_getElem hi];exact congrArg some (of_decide_eq_true hx2)⟩
theorem val_zero (ls:List (Int×Int)):Val ls zeros:=⟨zeros_length,λi _=> .inl (by unfold zeros;rw[List.getD_eq_getElem?_getD,List.getElem?_replicate];split<;>rfl)⟩
theorem val_left {ls:List (Int×Int)}{s:List Int}(h:Val ls s)(hl:ls.length<=104)(fr how:Int)(hh:how=0∨how=1∨how=2):Val ls (left ls s fr how):=by
 refine⟨by rw[left_length];exact h.1,λi hi=> ?_⟩;rw[left_get _ _ _ _ (by rw[h.1];exact hl)]
 split
 ·exact hh
 exact h.2 i hi
theorem val_set {ls:List (Int×Int)}{s:List Int}(h:Val ls s)(k:Nat)(v:Int)(hv:v=0∨v=1∨v=2):Val ls (s.set k v):=by
 refine⟨by rw[List.length_set];exact h.1,λi hi=> ?_⟩
 by_cases hk:k<s.length
 ·rw[getD_set _ _ _ _ hk]
  split
  ·exact hv
  exact h.2 i hi
 rw[List.set_eq_of_length_le (by omega)];exact h.2 i hi
theorem val_ok {ls:List (Int×Int)}{n:Nat}{s:List Int}(hs:s.length=104)(hm:ls.length<=40)(hn:n<=64)(h:okB n ls.length s=true):Val ls s:=by
 refine⟨hs,λi hi=> ?_⟩;have:=((ok_iff n ls.length s hs hm hn).1 h).1 i (by omega);have:=this.1;omega
theorem start_doc {T:Ac}(h:Right T):settledF T.ls (kkOf T) (kkOf T).length (left T.ls zeros (-1) 1)=start T.ls (kkOf T):=
 settled_eq h.web (hasIn_of h) (val_left (val_zero _) (by have:=h.web.l40;omega) _ _ (.inr (.inl rfl)))
def gotOf (p:List Int×Int):List Int:=p.1++ [p.2]
theorem fin_doc {T:Ac}(hR:webB T=true->Right T)(l:List Int)(hl:l.length=104)(kid:Int):
  finD (checkI (webB T) (kkOf T).length T.ls.length l) T.ls (kkOf T) l kid=gotOf (finR (webB T) T.ls (kkOf T) l kid):=by
 unfold finD finR gotOf
 by_cases hc:checkI (webB T) (kkOf T).length T.ls.length l=0
 rotate_left
 ·rw[if_pos hc,if_pos hc]
 have hcn:¬(checkI (webB T) (kkOf T).length T.ls.length l≠0):=λh=>h hc;rw[if_neg hcn,if_neg hcn]
 by_cases hr:runsB (kkOf T).length l kid=false∨gateB (kkOf T) kid.toNat=true
 ·rw[if_pos hr,if_pos hr]
 rw[if_neg hr,if_neg hr]
 have hw:webB T=true:=by
  unfold checkI at hc
  split at hc
  ·assumption
  cases hc
 have hok:okB (kkOf T).length T.ls.length l=true:=by
  unfold checkI at hc;rw[if_pos hw]at hc
  split at hc
  ·assumption
  cases hc
 have R:=hR hw
 have hrun:runsB (kkOf T).length l kid=true:=by
  cases h:runsB (kkOf T).length l kid with
  |true=>rfl
  |false=>exact absurd (.inl h) hr
 have hk:kid=(kid.toNat:Int):=by
  unfold runsB at hrun;simp only[Bool.and_eq_true,decide_eq_true_eq]at hrun;omega
 have hv:=val_ok hl R.web.l40 R.web.k64 hok;show settledF _ _ _ _++ [0]=finished _ _ _ _++ [0];unfold finished ended;rw[if_pos rfl,<-hk,settled_eq R.web (hasIn_of R) (val_left (val_set hv _ _ (.inr (.inr rfl))) (by have:=R.web.l40;omega) _ _ (.inr (.inl rfl)))]
theorem outs_cons (x:Int×Int)(r:List (Int×Int))(kid:Int):outsD (x::r) kid=(if x.1=kid then [0]else [])++(outsD r kid).map (· +1):=by
 unfold outsD;rw[List.length_cons,List.range_succ_eq_map,List.filter_cons,List.filter_map]
 have e:((λi=>decide (((x::r)[i]?).map Prod.fst=some kid))∘Nat.succ)=λi=>decide ((r[i]?).map Prod.fst=some kid):=by
  funext i
  simp
 rw[e]
 by_cases h:x.1=kid
 ·rw[if_pos (by simpa using h),if_pos h];rfl
 rw[if_neg (by simpa using h),if_neg h];rfl
theorem linkAt_outs (kid : Int) : ∀ (l : List (Int × Int)) (b : Nat) (o : Int), linkAt kid l b o = if 0 <= o /\ o < (outsD l kid).length then (((outsD l kid).getD o.toNat 0 + b : Nat) : Int) else -1
  | [], b, o => by
    rw [linkAt, if_neg];show ¬ (0 <= o /\ o < ((outsD [] kid).length : Int));have : (outsD [] kid).length = 0 := rfl;omega
  | x :: r, b, o => by
    rw [linkAt, outs_cons]
    by_cases h : x.1 = kid
    · rw [if_pos h, if_pos h]
      by_cases h0 : o = 0
      · subst h0
        rw [if_pos rfl, if_pos (by simp)]
        simp
      rw [if_neg h0, linkAt_outs kid r (b + 1) (o - 1)]
      by_cases hc : 0 <= o - 1 /\ o - 1 < ((outsD r kid).length : Int)
      · rw [if_pos hc, if_pos (by simp; omega)]
        obtain ⟨k, hk⟩ : ∃ k : Nat, o = (k : Int) + 1 := ⟨(o - 1).toNat, by omega⟩;subst hk;have hk2 : k < (outsD r kid).length := by omega
        rw [show ((k : Int) + 1 - 1).toNat = k by omega, show ((k : Int) + 1).toNat = k + 1 by omega];simp [List.getD_eq_getElem?_getD, hk2];omega
      rw [if_neg hc, if_neg (by simp; omega)]
    rw [if_neg h, if_neg h, linkAt_outs kid r (b + 1) o];rw [List.nil_append, List.length_map]
    by_cases hc : 0 <= o /\ o < ((outsD r kid).length : Int)
    · rw [if_pos hc, if_pos hc]
      have hk2 : o.toNat < (outsD r kid).length := by omega
      simp [List.getD_eq_getElem?_getD, hk2];omega
    rw [if_neg hc, if_neg hc]
theorem cho_doc {T:Ac}(hR:webB T=true->Right T)(l:List Int)(hl:l.length=104)(kid out:Int):
  choD (checkI (webB T) (kkOf T).length T.ls.length l) T.ls (kkOf T) l kid out=gotOf (choR (webB T) T.ls (kkOf T) l kid out):=by
 unfold choD choR gotOf
 by_cases hc:checkI (webB T) (kkOf T).length T.ls.length l=0
 rotate_left
 ·rw[if_pos hc,if_pos hc]
 have hcn:¬(checkI (webB T) (kkOf T).length T.ls.length l≠0):=λh=>h hc;rw[if_neg hcn,if_neg hcn]
 by_cases hr:runsB (kkOf T).length l kid=false∨gateB (kkOf T) kid.toNat=false
 ·rw[if_pos hr,if_pos hr]
 rw[if_neg hr,if_neg hr];have hla:=linkAt_outs kid T.ls 0 out
 by_cases ho:out<0∨((outsD T.ls kid).length:Int)<=out
 ·rw[if_pos ho,if_pos (by rw[hla,if_neg (by omega)];omega)]
 have hla2:linkAt kid T.ls 0 out=((outsD T.ls kid).getD out.toNat 0:Nat):=by rw[hla,if_pos (by omega)];simp
 rw[if_neg ho,if_neg (by rw[hla2];omega)]
 have hw:webB T=true:=by
  unfold checkI at hc
  split at hc
  ·assumption
  cases hc
 have hok:okB (kkOf T).length T.ls.length l=true:=by
  unfold checkI at hc;rw[if_pos hw]at hc
  split at hc
  ·assumption
  cases hc
 have R:=hR hw
 have hrun:runsB (kkOf T).length l kid=true:=by
  cases h:runsB (kkOf T).length l kid with
  |true=>rfl
  |false=>exact absurd (.inl h) hr
 have hk:kid=(kid.toNat:Int):=by
  unfold runsB at hrun;simp only[Bool.and_eq_true,decide_eq_true_eq]at hrun;omega
 have hv:=val_ok hl R.web.l40 R.web.k64 hok
 have hp:pickL (outsD T.ls kid) out.toNat (outsD T.ls kid).length (l.set (40+kid.toNat) 2)=(left T.ls (l.set (40+kid.toNat) 2) kid 2).set ((outsD T.ls kid).getD out.toNat 0) 1:=by
  unfold pickL;rw[if_neg (by omega),List.take_length,setL_left]
 show settledF _ _ _ _++ [0]=chose _ _ _ _ _++ [0];unfold chose;rw[hp,hla2,Int.toNat_natCast,<-hk,settled_eq R.web (hasIn_of R) (val_set (val_left (val_set hv _ _ (.inr (.inr rfl))) (by have:=R.web.l40;omega) _ _ (.inr (.inr rfl))) _ _ (.inr (.inl rfl)))]
theorem over_doc {T:Ac}(hR:webB T=true->Right T)(l:List Int):
  (if checkI (webB T) (kkOf T).length T.ls.length l≠0 then false else anyD T.ls l)=overB (webB T) (kkOf T).length T.ls l:=by
 unfold overB
 by_cases hc:checkI (webB T) (kkOf T).length T.ls.length l=0
 rotate_left
 ·rw[if_pos hc,if_pos hc]
 have hcn:¬(checkI (webB T) (kkOf T).length T.ls.length l≠0):=λh=>h hc;rw[if_neg hcn,if_neg hcn]
 have hw:webB T=true:=by
  unfold checkI at hc
  split at hc
  ·assumption
  cases hc
 have h1:=(hR hw).last;unfold lastI anyD
 cases hq:T.ls.findIdx? (λx=>decide (x.2= -1))with
 |none=>
  exfalso
  obtain⟨x,hx,hx2⟩:=List.countP_pos_iff.1 (show 0<T.ls.countP λl=>decide (l.2= -1)by omega);have:=List.findIdx?_eq_none_iff.1 hq x hx;rw[hx2]at this
  cases this
 |some i=>
  obtain⟨hi,hp,hmin⟩:=List.findIdx?_eq_some_iff_getElem.1 hq
  have huniq:∀j (hj:j<T.ls.length),T.ls[j].2= -1->j=i:=λj hj h2=>by
   rcases Nat.lt_trichotomy j i with h3|h3|h3
   ·exact absurd (decide_eq_true h2) (hmin j h3)
   ·exact h3
   exfalso
   have e:T.ls=T.ls.take (i+1)++T.ls.drop (i+1):=(List.take_append_drop _ _).symm;rw[e,List.countP_append]at h1;have a1:0<(T.ls.take (i+1)).countP λl=>decide (l.2= -1):=List.countP_pos_iff.2 ⟨T.ls[i],by rw[List.take_succ_eq_append_getElem hi];exact List.mem_append_right _ (List.mem_singleton.2 rfl),hp⟩
   have a2:0<(T.ls.drop (i+1)).countP λl=>decide (l.2= -1):=List.countP_pos_iff.2 ⟨T.ls[j],by
    rw[List.mem_drop_iff_getElem]
    exact⟨j-(i+1),by omega,by congr 1;omega⟩,decide_eq_true h2⟩
   omega
  show((List.range T.ls.length).any λk=>decide ((T.ls[k]?).map Prod.snd=some (-1)/\l.getD k 0=1))=decide (l.getD ((i:Int)).toNat 0=1);rw[Int.toNat_natCast,Bool.eq_iff_iff,List.any_eq_true,decide_eq_true_iff]
  constructor
  ·rintro⟨k,hk,h2⟩
   have hk:=List.mem_range.1 hk;obtain⟨h3,h4⟩:=of_decide_eq_true h2;rw[List.getElem?_eq_getElem hk]at h3;rw[<-huniq k hk (Option.some.inj h3)];exact h4
  intro h2;exact⟨i,List.mem_range.2 hi,decide_eq_true ⟨by rw[List.getElem?_eq_getElem hi];exact congrArg some (of_decide_eq_true hp),h2⟩⟩
end Dd
theorem Dd.kid12_of {w:World}{B e d n cap:Nat}{V:Ac.Vs}{a:Option Addr}{T:Ac}(h:Ac.Lies w B e d V T)(hv:V.k=.slice a n cap):Dd.Kid12 w B a (Dd.kkOf T):=by
 cases d with
 |zero=>exact h.elim
 |succ d=>
  intro i hi;rw[Dd.kkOf_length]at hi;obtain⟨g,off,U,ha,hg,hr,hl⟩:=h.kid12 hv i hi;refine⟨g,off,Ac.row T.ks[i] U,ha,hg,rfl,hl.ones, ?_, ?_,hr⟩<;>simp[Ac.row,Dd.kkOf]
structure Dd.RCtx (w:World)(xs:Array Value)(wb:Bool)(ls kk:List (Int×Int)):Prop where
 right:∀W,Below w.heap.size w W->Calls Tryz.prog 13 #[.agg xs] W λe w'=>e=.returned (.bool wb)/\Below W.heap.size W w'
 start:wb=true->∀W,Below w.heap.size w W->Calls Tryz.prog 16 #[.agg xs] W λe w'=>e=.returned (.agg (Dd.row (Dd.start ls kk)))/\Below W.heap.size W w'
 finish:∀W l (kid:Int),Below w.heap.size w W->l.length=104->Calls Tryz.prog 18 #[.agg xs,.agg (Dd.row l),.int .i64 kid] W λe w'=>e=.returned (.agg (Dd.row (Dd.gotOf (Dd.finR wb ls kk l kid))))/\Below W.heap.size W w'
 choose:∀W l (kid out:Int),Below w.heap.size w W->l.length=104->Calls Tryz.prog 24 #[.agg xs,.agg (Dd.row l),.agg #[.int .i64 kid,.int .i64 out]] W λe w'=>e=.returned (.agg (Dd.row (Dd.gotOf (Dd.choR wb ls kk l kid out))))/\Below W.heap.size W w'
 over:∀W l,Below w.heap.size w W->l.length=104->Calls Tryz.prog 22 #[.agg xs,.agg (Dd.row l)] W λe w'=>e=.returned (.bool (Dd.overB wb kk.length ls l))/\Below W.heap.size W w'
 check:∀W l,Below w.heap.size w W->l.length=104->Calls Tryz.prog 20 #[.agg xs,.agg (Dd.row l)] W λe w'=>e=.returned (.int .i64 (Dd.checkI wb kk.length ls.length l))/\Below W.heap.size W w'
theorem Dd.rctx (d e:Nat)(T:Ac)(V:Ac.Vs)(w:World)(hT:Ac.Lies w w.heap.size e d V T)(hsz:T.size<=2147483647)(hF:T.All Ac.Fit):Dd.RCtx w (Ac.row T V) (Dd.webB T) T.ls (Dd.kkOf T):=by
 obtain⟨ka,kc,hvk,-⟩:=Dd.kds_of hT;have hK:=Dd.kid12_of hT hvk;obtain⟨la,lc,hvl,hL⟩:=hT.own.l;obtain⟨x0,x1,x2,x3,x4,x5,x6,x7,x10,x11,hrow⟩:∃x0 x1 x2 x3 x4 x5 x6 x7 x10 x11,Ac.row T V=#[x0,x1,x2,x3,x4,x5,x6,x7,.slice ka T.ks.length kc,.slice la T.ls.length lc,x10,x11]:=⟨_,_,_,_,_,_,_,_,_,_,by unfold Ac.row;rw[hvk,hvl]⟩;have hn:(Dd.kkOf T).length=T.ks.length:=Dd.kkOf_length T
 have CW:∀W,Below w.heap.size w W->Calls Tryz.prog 13 #[.agg (Ac.row T V)] W λe w'=>e=.returned (.bool (Dd.webB T))/\Below W.heap.size W w':=λW hb=>
  Tryz.r19Right_any d e T V W ((hT.below hb).wider hb.size) hsz hF
 have hR:Dd.webB T=true->Dd.Right T:=λh=>(Dd.rw_of h).right;have h40:Dd.webB T=true->T.ls.length<=40/\T.ks.length<=64:=λh=>⟨(hR h).web.l40,by rw[<-hn];exact(hR h).web.k64⟩
 have hc40:∀l,Dd.checkI (Dd.webB T) (Dd.kkOf T).length T.ls.length l=0->T.ls.length<=40/\T.ks.length<=64:=λl h=>h40 (by
  unfold Dd.checkI at h
  split at h
  ·assumption
  cases h)
 rw[hrow]at CW⊢;have LK:∀W,Below w.heap.size w W->Ac.Lks W W.heap.size la T.ls/\Dd.Kid12 W W.heap.size ka (Dd.kkOf T):=λW hb=>⟨(hL.keep hb.block).wider hb.size,hK.below hb⟩;have up:∀{W W':World},Below w.heap.size w W->Below W.heap.size W W'->Below w.heap.size w W':=λh h'=>h.trans (h'.mono h.size)
 have CC:∀W l,Below w.heap.size w W->l.length=104->Calls Tryz.prog 20 #[.agg #[x0,x1,x2,x3,x4,x5,x6,x7,.slice ka T.ks.length kc,.slice la T.ls.length lc,x10,x11],.agg (Dd.row l)] W λe w'=>e=.returned (.int .i64 (Dd.checkI (Dd.webB T) (Dd.kkOf T).length T.ls.length l))/\Below W.heap.size W w':=λW l hb hl=>by
  rw[hn];exact Tryz.r19Check_any x0 x1 x2 x3 x4 x5 x6 x7 x10 x11 ka la T.ks.length kc T.ls.length lc l (Dd.webB T) W hl h40 (λW' hb'=>CW W' (up hb hb'))
 refine⟨CW,λhw W hb=> ?_,λW l kid hb hl=> ?_,λW l kid out hb hl=> ?_,λW l hb hl=> ?_,CC⟩
 ·have h:=Tryz.r19Start_any x0 x1 x2 x3 x4 x5 x6 x7 x10 x11 ka la T.ks.length kc T.ls.length lc T.ls (Dd.kkOf T) W (LK W hb).1 rfl (h40 hw).1 (LK W hb).2 hn (h40 hw).2
  rw[<-hn,Dd.start_doc (hR hw)]at h;rw[<-hn];exact h
 ·have h:=Tryz.r19Finish_any x0 x1 x2 x3 x4 x5 x6 x7 x10 x11 ka la T.ks.length kc T.ls.length lc T.ls (Dd.kkOf T) l kid _ W (LK W hb).1 rfl (LK W hb).2 hn hl (hc40 l) (λW' hb'=>CC W' l (up hb hb') hl)
  rw[Dd.fin_doc hR l hl]at h;exact h
 ·have h:=Tryz.r19Choose_any x0 x1 x2 x3 x4 x5 x6 x7 x10 x11 ka la T.ks.length kc T.ls.length lc T.ls (Dd.kkOf T) l kid out _ W (LK W hb).1 rfl (LK W hb).2 hn hl (hc40 l) (λW' hb'=>CC W' l (up hb hb') hl)
  rw[Dd.cho_doc hR l hl]at h;exact h
 have h:=Tryz.r19Over_any x0 x1 x2 x3 x4 x5 x6 x7 x10 x11 ka la T.ks.length kc T.ls.length lc T.ls l _ W (LK W hb).1 rfl hl (λhc=>(hc40 l hc).1) (λW' hb'=>CC W' l (up hb hb') hl);rw[Dd.over_doc hR l]at h;exact h
theorem Dd.ref_ctx {d e:Nat}{T:Ac}{V:Ac.Vs}{w:World}(hT:Ac.Lies w w.heap.size e d V T)(hsz:T.size<=600)(hS:T.All Dd.Small)(W:World)(hb:Below w.heap.size w W):
  Calls Tryz.prog 12 #[.agg (Ac.row T V)] W λe' w'=>∃ys,e'=.returned (.agg ys)/\(Tryz.prog.info? 48).map (·.size)=some ys.size/\ys.size=12/\ys.all (·.oneCell')=true/\Dd.RCtx w' ys (Dd.webB T) T.ls (Dd.kkOf T)/\Below W.heap.size W w':=by
 refine Calls.mono (Ak.refC d w.heap.size e T V W hb.size (hT.keep hb.block) (by omega) (Ac.all_mono (λ_ h=>by have:=h.ll;omega) T hS)) ?_;rintro e' w' ⟨hb',U,d',rfl,hl⟩;exact⟨Ac.row T U,rfl,Ak.rinfo,rfl,hl.ones,Dd.rctx d' e T U w' (hl.lies (by have:=hb.size;have:=hb'.size;omega) λk hk=>hk.2) (by omega) (Ac.all_mono (λ_ h=>Dd.fit_of h) T hS),hb'⟩
theorem Dd.wb_of {wb:Bool}{n m:Nat}{l:List Int}(h:¬Dd.checkI wb n m l≠0):wb=true:=by
 cases wb with
 |true=>rfl
 |false=>exact absurd (show Dd.checkI false n m l≠0 by simp[Dd.checkI]) h
theorem Dd.fin_len {wb:Bool}{ls kk:List (Int×Int)}{l:List Int}(hW:wb=true->Dd.Web ls kk)(hl:l.length=104)(kid:Int):(Dd.finR wb ls kk l kid).1.length=104:=by
 unfold Dd.finR
 split
 ·exact Dd.zeros_length
 rename_i h
 split
 ·exact Dd.zeros_length
 exact Dd.settle_length (hW (Dd.wb_of h)) (by rw[Dd.ended_len,hl])
theorem Dd.cho_len {wb:Bool}{ls kk:List (Int×Int)}{l:List Int}(hW:wb=true->Dd.Web ls kk)(hl:l.length=104)(kid out:Int):(Dd.choR wb ls kk l kid out).1.length=104:=by
 unfold Dd.choR
 split
 ·exact Dd.zeros_length
 rename_i h
 split
 ·exact Dd.zeros_length
 split
 ·exact Dd.zeros_length
 exact Dd.settle_length (hW (Dd.wb_of h)) (by rw[List.length_set,Dd.left_length,List.length_set,hl])
end Go.Proofs
